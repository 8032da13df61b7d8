/-
  A cache and the document's, plainly.
  A step of both.
-/
import Derived.Test.YtgndiblonhgihaaPpH
import Derived.Test.YtgndiblonhgihaaFold25
namespace Go.Proofs.Ytgndiblonhgihaa
open Go Go.RowKit Go.Lib
set_option linter.unusedVariables false
set_option linter.unusedSimpArgs false

theorem ltA_irr (x : PE) : ¬ ltA x x := fun h => by unfold ltA at h; rw [cmpI_self] at h; cases h
theorem ltA_trans {x y z : PE} (h : ltA x y) (g : ltA y z) : ltA x z := cmpI_trans h g
theorem ltA_asymm {x y : PE} (h : ltA x y) : ¬ ltA y x := fun g => ltA_irr x (ltA_trans h g)
theorem ltA_ne {x y : PE} (h : ltA x y) : x.k ≠ y.k := fun e => by unfold ltA at h; rw [e, cmpI_self] at h; cases h
/-- Rows in order that hold the same are one row. -/
theorem sort_uniq : ∀ {l l' : List PE}, l.Pairwise ltA → l'.Pairwise ltA → (∀ x, x ∈ l ↔ x ∈ l') → l = l'
  | [], [], _, _, _ => rfl
  | [], b :: t, _, _, h => by have := (h b).2 (by simp); cases this
  | a :: l, [], _, _, h => by have := (h a).1 (by simp); cases this
  | a :: l, b :: t, h1, h2, h => by
    rw [List.pairwise_cons] at h1 h2
    have e : a = b := by
      rcases List.mem_cons.1 ((h a).1 (by simp)) with e | m
      · exact e
      · rcases List.mem_cons.1 ((h b).2 (by simp)) with e' | m'
        · exact e'.symm
        · exact absurd (h1.1 b m') (ltA_asymm (h2.1 a m))
    subst e
    congr 1
    refine sort_uniq h1.2 h2.2 fun x => ⟨fun hx => ?_, fun hx => ?_⟩
    · rcases List.mem_cons.1 ((h x).1 (by simp [hx])) with e | m
      · subst e; exact absurd (h1.1 x hx) (ltA_irr x)
      · exact m
    · rcases List.mem_cons.1 ((h x).2 (by simp [hx])) with e | m
      · subst e; exact absurd (h2.1 x hx) (ltA_irr x)
      · exact m
/-- The same entries on both sides. -/
structure RLD (L : List (PE × Nat)) (D : List PE) : Prop where
  pm : D.Perm (L.map (·.1))
  st : D.Pairwise ltA
section
variable {L : List (PE × Nat)} {D : List PE}
theorem RLD.mem (h : RLD L D) (x : PE) : x ∈ D ↔ ∃ b, (x, b) ∈ L := by
  rw [h.pm.mem_iff, List.mem_map]
  constructor
  · rintro ⟨y, hy, rfl⟩
    exact ⟨y.2, hy⟩
  · rintro ⟨b, hb⟩
    exact ⟨_, hb, rfl⟩
theorem RLD.len (h : RLD L D) : D.length = L.length := by rw [h.pm.length_eq]; simp
theorem RLD.live (h : RLD L D) (t : Int) : RLD (live L t) (liveD D t) := by
  refine ⟨?_, h.st.filter _⟩
  have := h.pm.filter (fun x => decide (t < x.u))
  rw [List.filter_map] at this
  exact this
theorem RLD.kn (h : RLD L D) : KN L := by
  unfold KN
  have h1 : (D.map (·.k)).Nodup := by
    rw [List.nodup_iff_pairwise_ne, List.pairwise_map]
    exact h.st.imp fun hxy => ltA_ne hxy
  have h2 := (h.pm.map (·.k)).nodup_iff.1 h1
  rw [List.map_map] at h2
  exact h2
theorem RLD.mtu (h : RLD L D) {cf : Cf} {d : List Int} {m : Int} (hm : MtuP D d cf.link m) : mtuL cf L d = m := by
  rcases hm with ⟨x, hx, rfl, rfl⟩ | ⟨hno, rfl⟩
  · obtain ⟨b, hb⟩ := (h.mem x).1 hx
    exact mtuL_in (cf := cf) h.kn.kd hb
  · exact mtuL_out fun x hx => hno x.1 ((h.mem x.1).2 ⟨x.2, hx⟩)
/-- The entries but an address's. -/
def noD (D : List PE) (d : List Int) : List PE := D.filter fun z => !decide (z.k = d)
theorem noD_id {D : List PE} {d : List Int} (h : ∀ x ∈ D, x.k ≠ d) : noD D d = D := by
  unfold noD
  rw [List.filter_eq_self]
  intro x hx
  simp [h x hx]
theorem wo_at : ∀ {D : List PE} {m : Nat} {x : PE}, D.Pairwise ltA → D[m]? = some x → woD D m = noD D x.k
  | [], m, x, _, h => by simp at h
  | y :: D, 0, x, hn, h => by
    simp at h
    subst h
    rw [List.pairwise_cons] at hn
    have h1 : ∀ z ∈ D, z.k ≠ y.k := fun z hz e => ltA_ne (hn.1 z hz) e.symm
    have h2 := noD_id h1
    unfold noD at h2 ⊢
    unfold woD
    simp [h2]
  | y :: D, m + 1, x, hn, h => by
    have hx : D[m]? = some x := by simpa using h
    rw [List.pairwise_cons] at hn
    have ih := wo_at hn.2 hx
    have h1 : y.k ≠ x.k := ltA_ne (hn.1 x (List.mem_of_getElem? hx))
    unfold noD woD at ih ⊢
    simp [h1, ← ih]
theorem RLD.lack (h : RLD L D) (d : List Int) : RLD (lackL L d) (noD D d) := by
  refine ⟨?_, h.st.filter _⟩
  have := h.pm.filter (fun z => !decide (z.k = d))
  rw [List.filter_map] at this
  exact this
theorem RLD.has (h : RLD L D) {d : List Int} {x : PE} (hx : x ∈ D) (hk : x.k = d) : hasL L d = true := by
  obtain ⟨b, hb⟩ := (h.mem x).1 hx
  rw [← hk]
  exact has_at hb
theorem RLD.hasnt (h : RLD L D) {d : List Int} (hno : ∀ x ∈ D, x.k ≠ d) : lackL L d = L ∧ hasL L d = false := lack_none fun x hx => hno x.1 ((h.mem x.1).2 ⟨x.2, hx⟩)
theorem RLD.drop (h : RLD L D) {d : List Int} {b : Bool} {D' : List PE} (hd : DropP D d b D') : b = hasL L d ∧ RLD (lackL L d) D' := by
  rcases hd with ⟨i, x, hx, hk, rfl, rfl⟩ | ⟨hno, rfl, rfl⟩
  · refine ⟨(h.has (List.mem_of_getElem? hx) hk).symm, ?_⟩
    rw [wo_at h.st hx, hk]
    exact h.lack d
  · obtain ⟨h1, h2⟩ := h.hasnt hno
    rw [h1, h2]
    exact ⟨rfl, h⟩
theorem RLD.all (h : RLD L D) {S : List PE} (hp : S.Perm (L.map (·.1))) (hs : S.Pairwise ltA) : S = D := sort_uniq hs h.st fun x => by rw [hp.mem_iff, h.pm.mem_iff]
theorem RLD.next (h : RLD L D) (hs : SortE L) {t : Int} {b : Bool} (hn : NextP D t b) : nextL L = .tuple #[.int .i64 t, .bool b] := by
  cases L with
  | nil =>
    have : D = [] := by have := h.len; exact List.length_eq_zero_iff.1 (by simpa using this)
    subst this
    rcases hn with ⟨_, rfl, rfl⟩ | ⟨_, ⟨x, hx, _⟩, _⟩
    · rfl
    · cases hx
  | cons y L =>
    rcases hn with ⟨e, _, _⟩ | ⟨rfl, ⟨x, hx, rfl⟩, hmin⟩
    · have := h.len
      rw [e] at this
      simp at this
    · have h1 := hmin y.1 ((h.mem y.1).2 ⟨y.2, by simp⟩)
      obtain ⟨bx, hbx⟩ := (h.mem x).1 hx
      have h2 : y.1.u ≤ x.u := by
        obtain ⟨j, hj⟩ := List.getElem?_of_mem hbx
        by_cases c : j = 0
        · subst c
          simp at hj
          rw [hj]
          exact Int.le_refl _
        · exact cE_u (hs 0 j y (x, bx) (by omega) rfl hj)
      have e : x.u = y.1.u := by omega
      unfold nextL
      rw [e]
end
theorem cE_lt {x y : PE × Nat} (h : cE x y = -1) : x.1.u < y.1.u ∨ x.1.u = y.1.u ∧ ltA x.1 y.1 := by
  unfold cE cmpE cmpN at h
  by_cases c : x.1.u < y.1.u
  · exact .inl c
  · by_cases d : x.1.u > y.1.u
    · simp [c, d] at h
    · refine .inr ⟨by omega, ?_⟩
      simp [c, d] at h
      exact h
/-- The line and the document's entries with room for a new one. -/
theorem RLD.room {L : List (PE × Nat)} {D : List PE} (h : RLD L D) (hs : SortE L) {d : List Int} {lim : Int} (hl : (L.length : Int) ≤ lim) {D2 : List PE} (ht : TellP D d lim D2) :
    RLD (roomL L d lim) D2 ∧ ((roomL L d lim).length : Int) + 1 ≤ lim ∧ (∀ x ∈ D2, x ∈ D) := by
  have hwl : ∀ {k : Nat} {x : PE}, D[k]? = some x → (woD D k).length + 1 = D.length := fun {k x} hx => by
    have := (List.getElem?_eq_some_iff.1 hx).1
    unfold woD
    simp
    omega
  have hwm : ∀ (k : Nat), ∀ x ∈ woD D k, x ∈ D := fun k x hx => by
    unfold woD at hx
    rcases List.mem_append.1 hx with e | e
    · exact List.mem_of_mem_take e
    · exact List.mem_of_mem_drop e
  rcases ht with ⟨i, x, hx, hk, rfl⟩ | ⟨hno, hlim, k, x, hx, hmin, rfl⟩ | ⟨hno, hlim, rfl⟩
  · have h1 := h.has (List.mem_of_getElem? hx) hk
    have e : roomL L d lim = lackL L d := by unfold roomL; rw [if_neg (by rw [h1]; simp)]
    have h2 : RLD (lackL L d) (woD D i) := by rw [wo_at h.st hx, hk]; exact h.lack d
    have h3 := h2.len
    have h4 := hwl hx
    have h5 := h.len
    rw [e]
    exact ⟨h2, by omega, hwm i⟩
  · obtain ⟨h1, h2⟩ := h.hasnt hno
    have h5 := h.len
    have e : roomL L d lim = L.drop 1 := by unfold roomL; rw [if_pos ⟨h2, by omega⟩]
    have hkl := (List.getElem?_eq_some_iff.1 hx).1
    rw [e]
    cases L with
    | nil =>
      have h6 : D.length = 0 := h5
      omega
    | cons y L =>
      have hy : y.1 ∈ D := (h.mem y.1).2 ⟨y.2, by simp⟩
      obtain ⟨j, hj⟩ := List.getElem?_of_mem hy
      obtain ⟨bx, hbx⟩ := (h.mem x).1 (List.mem_of_getElem? hx)
      have hxy : x = y.1 := by
        obtain ⟨i, hi⟩ := List.getElem?_of_mem hbx
        by_cases c : i = 0
        · subst c
          simp at hi
          rw [hi]
        · exfalso
          have h6 := hmin j y.1 hj
          rcases cE_lt (hs 0 i y (x, bx) (by omega) rfl hi) with h7 | ⟨h7, h8⟩
          · simp at h7; omega
          · simp at h7 h8
            have h9 : ¬ j < k := fun e => by have := h6.2 e; omega
            by_cases c2 : j = k
            · subst c2
              rw [hx] at hj
              injection hj with hj
              rw [hj] at h8
              exact ltA_irr _ h8
            · have hjl := (List.getElem?_eq_some_iff.1 hj).1
              have h10 := (List.pairwise_iff_getElem.1 h.st) k j hkl hjl (by omega)
              have e1 : D[k] = x := (List.getElem?_eq_some_iff.1 hx).2
              have e2 : D[j] = y.1 := (List.getElem?_eq_some_iff.1 hj).2
              rw [e1, e2] at h10
              exact ltA_asymm h8 h10
      have hkn := h.kn
      have h11 : lackL (y :: L) y.1.k = L := by
        have := lack_at (L := y :: L) (m := 0) (x := y) hkn rfl
        simpa using this.symm
      have h12 : RLD L (woD D k) := by
        have := h.lack y.1.k
        rw [h11] at this
        rw [wo_at h.st hx, hxy]
        exact this
      refine ⟨h12, ?_, hwm k⟩
      simp at hl ⊢
      omega
  · obtain ⟨h1, h2⟩ := h.hasnt hno
    have h5 := h.len
    have e : roomL L d lim = L := by
      unfold roomL
      rw [if_neg (by intro hh; have := hh.2; omega), h1]
    rw [e]
    exact ⟨h, by omega, fun x hx => hx⟩
theorem RLD.put {R : List (PE × Nat)} {D2 : List PE} (h : RLD R D2) {d : List Int} {k p : Nat} {e : PE} {b : Nat} (he : e.k = d) (hno : ∀ x ∈ R, x.1.k ≠ d) (hp : PosP D2 d p) : RLD (putK R k (e, b)) (putD D2 p e) := by
  obtain ⟨hp1, hp2, hp3⟩ := hp
  have hnd : ∀ x ∈ D2, x.k ≠ d := fun x hx => by
    obtain ⟨c, hc⟩ := (h.mem x).1 hx
    exact hno _ hc
  refine ⟨?_, ?_⟩
  · have h1 : (putD D2 p e).Perm (e :: D2) := by
      unfold putD
      have := List.perm_middle (a := e) (l₁ := D2.take p) (l₂ := D2.drop p)
      rw [List.take_append_drop] at this
      simpa using this
    have h2 : ((putK R k (e, b)).map (·.1)).Perm (e :: R.map (·.1)) := by
      unfold putK
      have := (List.perm_middle (a := (e, b)) (l₁ := R.take k) (l₂ := R.drop k)).map (·.1)
      rw [List.take_append_drop] at this
      simpa using this
    exact (h1.trans (h.pm.cons e)).trans h2.symm
  · have hlo : ∀ x ∈ D2.take p, ltA x e := fun x hx => by
      obtain ⟨j, hj⟩ := List.getElem?_of_mem hx
      have hjp : j < p := by have := (List.getElem?_eq_some_iff.1 hj).1; simp at this; omega
      rw [List.getElem?_take_of_lt hjp] at hj
      have := hp2 j x hjp hj
      unfold ltA
      rw [he]
      exact this
    have hhi : ∀ x ∈ D2.drop p, ltA e x := fun x hx => by
      obtain ⟨j, hj⟩ := List.getElem?_of_mem hx
      rw [List.getElem?_drop] at hj
      have hjl := (List.getElem?_eq_some_iff.1 hj).1
      obtain ⟨y, hy⟩ : ∃ y, D2[p]? = some y := ⟨_, List.getElem?_eq_getElem (by omega)⟩
      have hy1 := hp3 y hy
      have hy2 := hnd y (List.mem_of_getElem? hy)
      have hey : ltA e y := by
        unfold ltA
        rw [he]
        have h1 := cmpI_anti y.k d
        rcases cmpI_vals y.k d with c | c | c
        · exact absurd c hy1
        · exact absurd (cmpI_eq c) hy2
        · omega
      by_cases c : j = 0
      · subst c
        rw [Nat.add_zero, hy] at hj
        injection hj with hj
        rw [← hj]
        exact hey
      · have hpl := (List.getElem?_eq_some_iff.1 hy).1
        have h10 := (List.pairwise_iff_getElem.1 h.st) p (p + j) hpl hjl (by omega)
        rw [(List.getElem?_eq_some_iff.1 hy).2, (List.getElem?_eq_some_iff.1 hj).2] at h10
        exact ltA_trans hey h10
    unfold putD
    have hst : (D2.take p ++ D2.drop p).Pairwise ltA := by rw [List.take_append_drop]; exact h.st
    rw [List.pairwise_append] at hst
    rw [List.append_assoc, List.pairwise_append]
    refine ⟨hst.1, ?_, fun x hx y hy => ?_⟩
    · rw [List.singleton_append, List.pairwise_cons]
      exact ⟨hhi, hst.2.1⟩
    · rcases List.mem_append.1 hy with e1 | e1
      · rw [List.mem_singleton] at e1
        rw [e1]
        exact hlo x hx
      · exact hst.2.2 x hx y e1
theorem putD_mem {D : List PE} {p : Nat} {e x : PE} (h : x ∈ putD D p e) : x ∈ D ∨ x = e := by
  unfold putD at h
  rcases List.mem_append.1 h with h | h
  · rcases List.mem_append.1 h with h | h
    · exact .inl (List.mem_of_mem_take h)
    · exact .inr (by simpa using h)
  · exact .inl (List.mem_of_mem_drop h)
end Go.Proofs.Ytgndiblonhgihaa

namespace Go.Proofs.Ytgndiblonhgihaa
open Go Go.RowKit Go.Lib
set_option linter.unusedVariables false
set_option linter.unusedSimpArgs false

theorem Doc.tf {rb : Nat} {cf : Cf} {now : Int} {D : List PE} {v : Value} {W W' : World} (h : Doc rb cf now D v W) (f : TF W W') : Doc rb cf now D v W' := by
  refine ⟨f.keep _ _ _ h.box (by decide) (by decide), own_same h.row (fun b hb => ?_), h.ok⟩
  rcases h.row.2 with ⟨rfl, _⟩ | ⟨g, cap, cur, rfl, _, g2, _⟩
  · simp [Value.ownBlock] at hb
  · simp [Value.ownBlock] at hb
    subst hb
    rw [g2]
    exact f.keep _ _ _ g2 (by decide) (by decide)
theorem Cch.frd {B : Nat} {W0 W W' : World} {p pb mb rb : Nat} {cf : Cf} {now : Int} {L : List (PE × Nat)} (h : Cch B W0 W p pb mb cf now L) {c : Array Value} (hc : W.heap[rb]? = some (.cells c 45)) (hr : B ≤ rb) (f : FrD rb W W') : Cch B W0 W' p pb mb cf now L := by
  obtain ⟨line, hk, hl⟩ := h.k
  have n0 : p ≠ rb := fun e => by
    have := h.bx
    unfold Box at this
    rw [e, hc] at this
    simp at this
  obtain ⟨n1, n2, n3⟩ := hk.ty hc (by decide) (by decide)
  have n4 : ∀ x ∈ L, x.2 ≠ rb := fun x hx e => by
    have := (hk.p.ents x hx).2
    unfold PE.At EntAt at this
    rw [e, hc] at this
    simp at this
  obtain ⟨M, hm, hML⟩ := hk.m
  have hz := h.bl.size
  have hy := h.le
  refine ⟨h.bx.on (f.other _ h.bx.lt n0), ⟨line, ⟨hk.p.same (f.other _ hk.p.lt (fun e => n1 e.symm)) (fun b hb => f.other b (own_lt hk.p.row hb) (fun e => n3 (by rw [← e]; exact hb))) (fun x hx => f.other _ (hk.p.ents x hx).2.lt (n4 x hx)), ⟨M, hm.on (f.other _ hm.lt (fun e => n2 e.symm)), hML⟩, hk.kn⟩, hl⟩, h.st, h.lo, ⟨f.os.trans h.bl.os, f.tape.trans h.bl.tape, f.output.trans h.bl.output, Nat.le_trans hz f.size, fun k hk' => (f.other k (by omega) (by omega)).trans (h.bl.block k hk')⟩, h.le⟩
theorem SrcE.frd {W W' : World} {rb : Nat} {cf : Cf} {now : Int} {D : List PE} {u : Value} (hd : Doc rb cf now D u W) (f : FrD rb W W') {v : Value} {S : List PE} (h : SrcE W v S) : SrcE W' v S := by
  cases S with
  | nil =>
    rcases h with ⟨rfl, _⟩ | ⟨a, c, rfl, _⟩
    · exact .inl ⟨rfl, rfl⟩
    · exact .inr ⟨a, c, rfl, fun j u hj => by simp at hj⟩
  | cons x S =>
    obtain ⟨g, off, c, rfl, hg, hcx⟩ := h.at (j := 0) (x := x) rfl
    have hn : g ≠ rb := fun e => by
      have h0 := hcx 0 _ (show (eE x)[0]? = some (.int .u8 (x.k.getD 0 0)) from rfl)
      subst e
      obtain ⟨ua, uc, rfl⟩ := own_slc hd.row
      have hb := hd.box
      simp only [World.cell?, hb] at h0
      rcases (by omega : off + 0 * 18 + 0 = 0 ∨ off + 0 * 18 + 0 = 1 ∨ off + 0 * 18 + 0 = 2 ∨ off + 0 * 18 + 0 = 3 ∨ off + 0 * 18 + 0 = 4 ∨ off + 0 * 18 + 0 = 5 ∨ 6 ≤ off + 0 * 18 + 0) with e | e | e | e | e | e | e
      all_goals first
        | (rw [e] at h0; simp at h0; done)
        | (rw [Array.getElem?_eq_none (by simp; omega)] at h0; simp at h0; done)
    rcases h with ⟨e, _⟩ | ⟨a, c', e, hc⟩
    · simp at e
    · injection e with e1 e2 e3
      injection e1 with e1
      subst e1
      exact .inr ⟨_, c, rfl, fun j u hj => by
        have h1 := hc j u hj
        rw [Go.WideShapes.add_plain] at h1 ⊢
        rw [World.cell?_of_block (w := W) (w' := W') (a := ⟨g, off + j, none⟩) (f.other g hg hn)]
        exact h1⟩
/-- Both caches, that tell the same. -/
structure Jn (B : Nat) (W0 W : World) (p pb mb rb : Nat) (cf : Cf) (now : Int) (L : List (PE × Nat)) (D : List PE) : Prop where
  c : Cch B W0 W p pb mb cf now L
  d : ∃ v, Doc rb cf now D v W
  r : RLD L D
  b : B ≤ rb
  t : 0 ≤ now ∧ now ≤ 1099511627776
  n : (L.length : Int) ≤ cf.lim
  k : cf.Ok
  m : ∀ x ∈ D, cf.least ≤ x.m ∧ x.m ≤ cf.link
theorem Jn.on {B : Nat} {W0 W W' : World} {p pb mb rb : Nat} {cf : Cf} {now : Int} {L : List (PE × Nat)} {D : List PE} (h : Jn B W0 W p pb mb rb cf now L D) (hb : Below W.heap.size W W') : Jn B W0 W' p pb mb rb cf now L D :=
  ⟨h.c.on hb, (by obtain ⟨v, hd⟩ := h.d; exact ⟨v, hd.on hb⟩), h.r, h.b, h.t, h.n, h.k, h.m⟩
section
variable {B : Nat} {W0 W W2 W3 : World} {p pb mb rb : Nat} {cf : Cf} {now t : Int} {L L' : List (PE × Nat)} {D D' : List PE}
theorem Jn.len (h : Jn B W0 W p pb mb rb cf now L D) : L.length ≤ 4096 ∧ D.length ≤ 4096 := by
  have h1 := h.k.lim
  have h2 := h.n
  have h3 := h.r.len
  omega
/-- A call of the program, then one of the document. -/
theorem Jn.both (h : Jn B W0 W p pb mb rb cf now L D) (hc : Cch B W0 W2 p pb mb cf t L') (tf : TF W W2) (hd : ∃ v, Doc rb cf t D' v W3) (f : FrD rb W2 W3) (ht : okT now t) (hr : RLD L' D') (hn : (L'.length : Int) ≤ cf.lim) (hm : ∀ x ∈ D', cf.least ≤ x.m ∧ x.m ≤ cf.link) : Jn B W0 W3 p pb mb rb cf t L' D' := by
  obtain ⟨v0, hd0⟩ := h.d
  exact ⟨hc.frd (hd0.tf tf).box h.b f, hd, hr, h.b, by have := ht.1; have := ht.2; have := h.t; omega, hn, h.k, hm⟩
theorem Jn.lives (h : Jn B W0 W p pb mb rb cf now L D) (t : Int) : RLD (live L t) (liveD D t) ∧ ((live L t).length : Int) ≤ cf.lim ∧ ∀ x ∈ liveD D t, cf.least ≤ x.m ∧ x.m ≤ cf.link :=
  ⟨h.r.live t, by have := live_len L t; have := h.n; omega, fun x hx => h.m x (List.mem_filter.1 hx).1⟩
theorem Jn.drops (h : Jn B W0 W p pb mb rb cf now L D) (t : Int) {d : List Int} {b : Bool} (hd : DropP (liveD D t) d b D') : b = hasL (live L t) d ∧ RLD (lackL (live L t) d) D' ∧ ((lackL (live L t) d).length : Int) ≤ cf.lim ∧ ∀ x ∈ D', cf.least ≤ x.m ∧ x.m ≤ cf.link := by
  obtain ⟨h1, h2, h3⟩ := h.lives t
  obtain ⟨e1, e2⟩ := h1.drop hd
  refine ⟨e1, e2, ?_, fun x hx => ?_⟩
  · have : (lackL (live L t) d).length ≤ (live L t).length := List.length_filter_le _ _
    omega
  · obtain ⟨b, hb⟩ := (e2.mem x).1 hx
    have hb2 := (List.mem_filter.1 hb).1
    exact h3 x ((h1.mem x).2 ⟨b, hb2⟩)
theorem Jn.tell (h : Jn B W0 W p pb mb rb cf now L D) (t : Int) {d : List Int} {z : Int} {more : Bool} (ht : TellR (liveD D t) d cf z t more D') {b k : Nat} :
    (mtuL cf (live L t) d ≤ max z cf.least → more = false ∧ D' = liveD D t) ∧
    (max z cf.least < mtuL cf (live L t) d → more = true ∧ RLD (putK (roomL (live L t) d cf.lim) k (⟨d, max z cf.least, min (t + cf.life) 1099511627776⟩, b)) D' ∧ (k ≤ (roomL (live L t) d cf.lim).length → ((putK (roomL (live L t) d cf.lim) k (⟨d, max z cf.least, min (t + cf.life) 1099511627776⟩, b)).length : Int) ≤ cf.lim) ∧ ∀ x ∈ D', cf.least ≤ x.m ∧ x.m ≤ cf.link) := by
  obtain ⟨h1, h2, h3⟩ := h.lives t
  obtain ⟨m0, hm0, hc⟩ := ht
  have e := h1.mtu hm0
  rw [e]
  have hlk : m0 ≤ cf.link := by
    rcases hm0 with ⟨x, hx, _, rfl⟩ | ⟨_, rfl⟩
    · exact (h3 x hx).2
    · exact Int.le_refl _
  rcases hc with ⟨c1, rfl, rfl⟩ | ⟨c1, rfl, D2, q, c2, c3, rfl⟩
  · exact ⟨fun _ => ⟨rfl, rfl⟩, fun hlt => by omega⟩
  · refine ⟨fun hle => by omega, fun _ => ?_⟩
    obtain ⟨r1, r2, r3⟩ := h1.room (h.c.st.live t) h2 c2
    refine ⟨rfl, r1.put rfl (room_no _ d cf.lim) c3, fun hk => ?_, fun x hx => ?_⟩
    · rw [putK_len _ hk]
      omega
    · rcases putD_mem hx with hx | rfl
      · exact h3 x (r3 x hx)
      · exact ⟨by simp only; omega, by simp only; omega⟩
end
def whenF (now a : Int) : Int := if 0 ≤ a ∧ a ≤ 1099511627776 - now then now + a else a
set_option maxHeartbeats 4000000 in
theorem when_any {now a : Int} (h : 0 ≤ now ∧ now ≤ 1099511627776) (X : World) : Calls Try.prog 20 #[.int .i64 now, .int .i64 a] X fun e w' => e = .returned (.int .i64 (whenF now a)) ∧ Below X.heap.size X w' := by
  have w1 : IntKind.i64.wrap (1099511627776 - now) = 1099511627776 - now := wrap_i64 _ ⟨by omega, by omega⟩
  by_cases c : 0 ≤ a
  · have q1 : decide (a ≥ 0) = true := decide_eq_true c
    have q2 : decide (0 ≤ a) = true := decide_eq_true c
    by_cases c2 : a ≤ 1099511627776 - now
    · have q3 : decide (a ≤ 1099511627776 - now) = true := decide_eq_true c2
      have w2 : IntKind.i64.wrap (now + a) = now + a := wrap_i64 _ ⟨by omega, by omega⟩
      have e : whenF now a = now + a := by unfold whenF; rw [if_pos ⟨c, c2⟩]
      rw [e]
      clear e
      go_enter Try.func20, Try.ntmps20
      go_wp2
      try go_returns
      exact ⟨rfl, Below.refl _ _⟩
    · have q3 : decide (a ≤ 1099511627776 - now) = false := decide_eq_false c2
      have e : whenF now a = a := by unfold whenF; rw [if_neg (fun hh => c2 hh.2)]
      rw [e]
      clear e
      go_enter Try.func20, Try.ntmps20
      go_wp2
      try go_returns
      exact ⟨rfl, Below.refl _ _⟩
  · have q1 : decide (a ≥ 0) = false := decide_eq_false c
    have q2 : decide (0 ≤ a) = false := decide_eq_false c
    have e : whenF now a = a := by unfold whenF; rw [if_neg (fun hh => c hh.1)]
    rw [e]
    clear e
    go_enter Try.func20, Try.ntmps20
    go_wp2
    try go_returns
    exact ⟨rfl, Below.refl _ _⟩
/-- A call. -/
structure OpP where
  kd : Int
  a : Int
  d : List Int
  z : Int
def OpP.c (o : OpP) : List Value := [.int .i64 o.kd, .int .i64 o.a] ++ (u8s o.d ++ [.int .i64 o.z])
theorem OpP.len {o : OpP} (h : K16 o.d) : o.c.length = 19 := by simp [OpP.c, u8s, h.len]
section
variable {W : World} {n : Nat} {o : OpP} (h : W.heap[n]? = some (.cells o.c.toArray 37)) (hk : K16 o.d)
include h
theorem op_k : W.cell? ⟨n, 0, none⟩ = some (.int .i64 o.kd) := blk_cell (j := 0) h rfl
theorem op_a : W.cell? ⟨n, 1, none⟩ = some (.int .i64 o.a) := blk_cell (j := 1) h rfl
include hk
theorem op_z : W.cell? ⟨n, 18, none⟩ = some (.int .i64 o.z) := blk_cell (j := 18) h (by simp [OpP.c, u8s, hk.len])
theorem op_D : (Instr.loadAt 35 (.pointer (some ⟨n, 2, none⟩))).run Try.prog W = .ok (.agg (u8s o.d).toArray) W := by
  have c := CellsAt.of_blk h
  rw [List.toList_toArray, OpP.c] at c
  have c2 := CellsAt.part c
  exact load6 hk.len c2
end
set_option maxHeartbeats 16000000 in
set_option maxRecDepth 100000 in
theorem step_1 {B : Nat} {W0 W : World} {p pb mb rb : Nat} {cf : Cf} {now : Int} {L : List (PE × Nat)} {D : List PE} (h : Jn B W0 W p pb mb rb cf now L D) (o : OpP) (hk : K16 o.d) (hkd : o.kd = 1) :
    Calls Try.prog 10 #[.pointer (some ⟨p, 0, none⟩), .pointer (some ⟨rb, 0, none⟩), .agg o.c.toArray] W fun e w' => e = .returned (.bool true) ∧ ∃ now' L' D', Jn B W0 w' p pb mb rb cf now' L' D' := by
  generalize hQ : (fun (e : Ending) (w' : World) => e = .returned (.bool true) ∧ ∃ now' L' D', Jn B W0 w' p pb mb rb cf now' L' D') = Q
  have HQ : Hid (∀ e w', (e = .returned (.bool true) ∧ ∃ now' L' D', Jn B W0 w' p pb mb rb cf now' L' D') → Q e w') := fun e w' hh => by rw [← hQ]; exact hh
  clear hQ
  obtain ⟨n, hn⟩ : ∃ n, n = W.heap.size := ⟨_, rfl⟩
  obtain ⟨W1, hW1⟩ : ∃ W1, W1 = W.alloc (.cells o.c.toArray 37) := ⟨_, rfl⟩
  have hB1 : Below W.heap.size W W1 := by rw [hW1]; exact (Below.refl W.heap.size W).alloc (Nat.le_refl _) _
  have hx1 : W1.heap[n]? = some (.cells o.c.toArray 37) := by rw [hW1, hn]; exact blk_new W _
  have hj1 := h.on hB1
  have HJ1 : Hid (Jn B W0 W1 p pb mb rb cf now L D) := hj1
  have HX1 : Hid (W1.heap[n]? = some (.cells o.c.toArray 37)) := hx1
  have HK : Hid (K16 o.d) := hk
  have HNR : Hid (n ≠ rb) := by
    obtain ⟨v, hd⟩ := h.d
    have h9 := hd.lt
    have h8 : n ≠ rb := by omega
    exact h8
  have HWN : Hid _ := fun X => when_any (a := o.a) h.t X
  have c4 : ∀ x : Hi W1, x.W.cell? ⟨rb, 4, none⟩ = some (.int .i64 now) := fun x => by
    obtain ⟨v, hd⟩ := hj1.d
    exact blk_cell (j := 4) (hd.on x.below).box rfl
  have ca : ∀ x : Hi W1, x.W.cell? ⟨n, 1, none⟩ = some (.int .i64 o.a) := fun x => op_a (blk_on hx1 x.below)
  have hW := hW1.symm
  have hn2 := hn.symm
  have HKD : Hid (o.kd = 1) := hkd
  clear hkd
  clear hB1 hx1 hj1 h hk hW1 hn
  generalize hoc : o.c = oc at *
  have HOC : Hid (o.c = oc) := hoc
  generalize o.a = oa at *
  clear hoc
  go_enter Try.func10, Try.ntmps10
  go_wp2_with fail
  refine wp_region_hi (by kernel_rfl) (by kernel_rfl) ?_
  repeat (first | go_big_quiet_skip | (go_big_quiet_want; go_big_quiet_op; first | go_big_quiet_on | go_big_quiet_call (first | (go_at_call 20; with_reducible exact Hi.calls (HWN.out _)))))
  refine wpQuiet_nil ?_
  intro _ hw
  obtain ⟨yy, rfl⟩ := hw
  have HJ : Hid (Jn B W0 yy.W p pb mb rb cf now L D) := HJ1.out.on yy.below
  have hxy := blk_on HX1.out yy.below
  rw [← HOC.out] at hxy
  have HX : Hid (yy.W.heap[n]? = some (.cells o.c.toArray 37)) := hxy
  have ck : yy.W.cell? ⟨n, 0, none⟩ = some (.int .i64 o.kd) := op_k hxy
  clear c4 ca HJ1 HX1 HWN hxy hW hn2
  generalize whenF now oa = t at *
  generalize yy.W = X at *
  rw [HKD.out] at ck
  by_cases ht : okT now t
  · skip
    have HLA : Hid _ := op_D HX.out HK.out
    have HC1 : Hid _ := HJ.out.c.get (Nat.le_trans HJ.out.len.1 (by decide)) ht HK.out
    go_wp2_with first
      | ((with_reducible show wpList _ _ _ ({ dst := _, op := Op.load 35 (Operand.tmp 38), type := _, pos := _, after := _, guard := _ } :: _) _ _); refine armL (.tmp 38) 35 rfl rfl rfl HLA.out ?_)
    refine Calls.mono HC1.out ?_
    rintro e w2 ⟨rfl, cc2, tf2⟩
    have HX2 : Hid (w2.heap[n]? = some (.cells o.c.toArray 37)) := tf2.keep _ _ _ HX.out (by decide) (by decide)
    have HC2P : Hid (Cch B W0 w2 p pb mb cf t (live L t) ∧ TF X w2) := ⟨cc2, tf2⟩
    obtain ⟨dv, hdv0⟩ := HJ.out.d
    have hdv := hdv0.tf tf2
    clear cc2 tf2 hdv0
    have HLB : Hid _ := op_D HX2.out HK.out
    have HC2 : Hid _ := RGet hdv (Nat.le_trans HJ.out.len.2 (by decide)) ht HK.out
    clear HC1 HLA
    go_wp2_with first
      | ((with_reducible show wpList _ _ _ ({ dst := _, op := Op.load 35 (Operand.tmp 46), type := _, pos := _, after := _, guard := _ } :: _) _ _); refine armL (.tmp 46) 35 rfl rfl rfl HLB.out ?_)
    refine Calls.mono HC2.out ?_
    rintro e w3 ⟨m, rfl, hm, hd3, f3⟩
    obtain ⟨r1, r2, r3⟩ := HJ.out.lives t
    have HFIN : Hid (∃ now' L' D', Jn B W0 w3 p pb mb rb cf now' L' D') := ⟨t, _, _, HJ.out.both HC2P.out.1 HC2P.out.2 hd3 f3 ht r1 r2 r3⟩
    rw [r1.mtu hm]
    clear hd3 f3 hm r1 r2 r3
    clear HC2 hdv HLB
    go_wp2
    try go_returns
    exact HQ.out _ _ ⟨rfl, HFIN.out⟩
  · skip
    have HLA : Hid _ := op_D HX.out HK.out
    have HC1 : Hid _ := HJ.out.c.get_late ht o.d
    go_wp2_with first
      | ((with_reducible show wpList _ _ _ ({ dst := _, op := Op.load 35 (Operand.tmp 38), type := _, pos := _, after := _, guard := _ } :: _) _ _); refine armL (.tmp 38) 35 rfl rfl rfl HLA.out ?_)
    refine Calls.mono HC1.out ?_
    rintro e w2 ⟨rfl, hbb2⟩
    have hb2 := hbb2
    have HX2 : Hid (w2.heap[n]? = some (.cells o.c.toArray 37)) := blk_on HX.out hbb2
    have HJ2 : Hid (Jn B W0 w2 p pb mb rb cf now L D) := HJ.out.on hbb2
    obtain ⟨dv, hdv⟩ := HJ2.out.d
    clear hbb2 hb2
    have HLB : Hid _ := op_D HX2.out HK.out
    have HC2 : Hid _ := RGet_late hdv ht o.d
    clear HC1 HLA
    go_wp2_with first
      | ((with_reducible show wpList _ _ _ ({ dst := _, op := Op.load 35 (Operand.tmp 46), type := _, pos := _, after := _, guard := _ } :: _) _ _); refine armL (.tmp 46) 35 rfl rfl rfl HLB.out ?_)
    refine Calls.mono HC2.out ?_
    rintro e w3 ⟨rfl, hbb3⟩
    have HFIN : Hid (∃ now' L' D', Jn B W0 w3 p pb mb rb cf now' L' D') := ⟨now, L, D, HJ2.out.on hbb3⟩
    clear hbb3
    clear HC2 hdv HLB
    go_wp2
    try go_returns
    exact HQ.out _ _ ⟨rfl, HFIN.out⟩
set_option maxHeartbeats 16000000 in
set_option maxRecDepth 100000 in
theorem step_2 {B : Nat} {W0 W : World} {p pb mb rb : Nat} {cf : Cf} {now : Int} {L : List (PE × Nat)} {D : List PE} (h : Jn B W0 W p pb mb rb cf now L D) (o : OpP) (hk : K16 o.d) (hkd : o.kd = 2) :
    Calls Try.prog 10 #[.pointer (some ⟨p, 0, none⟩), .pointer (some ⟨rb, 0, none⟩), .agg o.c.toArray] W fun e w' => e = .returned (.bool true) ∧ ∃ now' L' D', Jn B W0 w' p pb mb rb cf now' L' D' := by
  generalize hQ : (fun (e : Ending) (w' : World) => e = .returned (.bool true) ∧ ∃ now' L' D', Jn B W0 w' p pb mb rb cf now' L' D') = Q
  have HQ : Hid (∀ e w', (e = .returned (.bool true) ∧ ∃ now' L' D', Jn B W0 w' p pb mb rb cf now' L' D') → Q e w') := fun e w' hh => by rw [← hQ]; exact hh
  clear hQ
  obtain ⟨n, hn⟩ : ∃ n, n = W.heap.size := ⟨_, rfl⟩
  obtain ⟨W1, hW1⟩ : ∃ W1, W1 = W.alloc (.cells o.c.toArray 37) := ⟨_, rfl⟩
  have hB1 : Below W.heap.size W W1 := by rw [hW1]; exact (Below.refl W.heap.size W).alloc (Nat.le_refl _) _
  have hx1 : W1.heap[n]? = some (.cells o.c.toArray 37) := by rw [hW1, hn]; exact blk_new W _
  have hj1 := h.on hB1
  have HJ1 : Hid (Jn B W0 W1 p pb mb rb cf now L D) := hj1
  have HX1 : Hid (W1.heap[n]? = some (.cells o.c.toArray 37)) := hx1
  have HK : Hid (K16 o.d) := hk
  have HNR : Hid (n ≠ rb) := by
    obtain ⟨v, hd⟩ := h.d
    have h9 := hd.lt
    have h8 : n ≠ rb := by omega
    exact h8
  have HWN : Hid _ := fun X => when_any (a := o.a) h.t X
  have c4 : ∀ x : Hi W1, x.W.cell? ⟨rb, 4, none⟩ = some (.int .i64 now) := fun x => by
    obtain ⟨v, hd⟩ := hj1.d
    exact blk_cell (j := 4) (hd.on x.below).box rfl
  have ca : ∀ x : Hi W1, x.W.cell? ⟨n, 1, none⟩ = some (.int .i64 o.a) := fun x => op_a (blk_on hx1 x.below)
  have hW := hW1.symm
  have hn2 := hn.symm
  have HKD : Hid (o.kd = 2) := hkd
  clear hkd
  clear hB1 hx1 hj1 h hk hW1 hn
  generalize hoc : o.c = oc at *
  have HOC : Hid (o.c = oc) := hoc
  generalize o.a = oa at *
  clear hoc
  go_enter Try.func10, Try.ntmps10
  go_wp2_with fail
  refine wp_region_hi (by kernel_rfl) (by kernel_rfl) ?_
  repeat (first | go_big_quiet_skip | (go_big_quiet_want; go_big_quiet_op; first | go_big_quiet_on | go_big_quiet_call (first | (go_at_call 20; with_reducible exact Hi.calls (HWN.out _)))))
  refine wpQuiet_nil ?_
  intro _ hw
  obtain ⟨yy, rfl⟩ := hw
  have HJ : Hid (Jn B W0 yy.W p pb mb rb cf now L D) := HJ1.out.on yy.below
  have hxy := blk_on HX1.out yy.below
  rw [← HOC.out] at hxy
  have HX : Hid (yy.W.heap[n]? = some (.cells o.c.toArray 37)) := hxy
  have ck : yy.W.cell? ⟨n, 0, none⟩ = some (.int .i64 o.kd) := op_k hxy
  clear c4 ca HJ1 HX1 HWN hxy hW hn2
  generalize whenF now oa = t at *
  generalize yy.W = X at *
  rw [HKD.out] at ck
  by_cases ht : okT now t
  · skip
    by_cases hz : 0 ≤ o.z ∧ o.z ≤ 65535
    · by_cases hm : mtuL cf (live L t) o.d ≤ max o.z cf.least
      · skip
        have cz : X.cell? ⟨n, 18, none⟩ = some (.int .i64 o.z) := op_z HX.out HK.out
        have HLA : Hid _ := op_D HX.out HK.out
        have HC1 : Hid _ := HJ.out.c.keep (Nat.le_trans HJ.out.len.1 (by decide)) ht HK.out hz hm
        go_wp2_with first
          | ((with_reducible show wpList _ _ _ ({ dst := _, op := Op.load 35 (Operand.tmp 64), type := _, pos := _, after := _, guard := _ } :: _) _ _); refine armL (.tmp 64) 35 rfl rfl rfl HLA.out ?_)
        refine Calls.mono HC1.out ?_
        rintro e w2 ⟨rfl, cc2, tf2⟩
        have HX2 : Hid (w2.heap[n]? = some (.cells o.c.toArray 37)) := tf2.keep _ _ _ HX.out (by decide) (by decide)
        have HC2P : Hid (Cch B W0 w2 p pb mb cf t (live L t) ∧ TF X w2) := ⟨cc2, tf2⟩
        obtain ⟨dv, hdv0⟩ := HJ.out.d
        have hdv := hdv0.tf tf2
        clear cc2 tf2 hdv0
        have cz2 : w2.cell? ⟨n, 18, none⟩ = some (.int .i64 o.z) := op_z HX2.out HK.out
        have HLB : Hid _ := op_D HX2.out HK.out
        have HC2 : Hid _ := RTold hdv (Nat.le_trans HJ.out.len.2 (by decide)) ht HJ.out.t.1 HJ.out.k HK.out hz
        clear HC1 HLA cz
        go_wp2_with first
          | ((with_reducible show wpList _ _ _ ({ dst := _, op := Op.load 35 (Operand.tmp 74), type := _, pos := _, after := _, guard := _ } :: _) _ _); refine armL (.tmp 74) 35 rfl rfl rfl HLB.out ?_)
        refine Calls.mono HC2.out ?_
        rintro e w3 ⟨more, D', rfl, hr, hd3, f3⟩
        obtain ⟨r1, r2, r3⟩ := HJ.out.lives t
        obtain ⟨rfl, rfl⟩ := (HJ.out.tell t hr (b := 0) (k := 0)).1 hm
        have HFIN : Hid (∃ now' L' D', Jn B W0 w3 p pb mb rb cf now' L' D') := ⟨t, _, _, HJ.out.both HC2P.out.1 HC2P.out.2 hd3 f3 ht r1 r2 r3⟩
        clear hd3 f3 hr r1 r2 r3 hm
        clear HC2 hdv HLB cz2
        go_wp2
        try go_returns
        exact HQ.out _ _ ⟨rfl, HFIN.out⟩
      · replace hm : max o.z cf.least < mtuL cf (live L t) o.d := Int.not_le.1 hm
        have cz : X.cell? ⟨n, 18, none⟩ = some (.int .i64 o.z) := op_z HX.out HK.out
        have HLA : Hid _ := op_D HX.out HK.out
        have HC1 : Hid _ := HJ.out.c.told (Nat.le_trans HJ.out.len.1 (by decide)) ht HK.out hz HJ.out.k (fun b k hst => insK_any hst.1 (Nat.le_trans ((room_sub _ _ _).length_le) (Nat.le_trans (live_len L t) (Nat.le_trans HJ.out.len.1 (by decide))))) hm HJ.out.t.1
        go_wp2_with first
          | ((with_reducible show wpList _ _ _ ({ dst := _, op := Op.load 35 (Operand.tmp 64), type := _, pos := _, after := _, guard := _ } :: _) _ _); refine armL (.tmp 64) 35 rfl rfl rfl HLA.out ?_)
        refine Calls.mono HC1.out ?_
        rintro e w2 ⟨rfl, ⟨b, k, hst, cc2⟩, tf2⟩
        have HX2 : Hid (w2.heap[n]? = some (.cells o.c.toArray 37)) := tf2.keep _ _ _ HX.out (by decide) (by decide)
        have HC2P : Hid (Cch B W0 w2 p pb mb cf t (putK (roomL (live L t) o.d cf.lim) k (⟨o.d, max o.z cf.least, min (t + cf.life) 1099511627776⟩, b)) ∧ TF X w2) := ⟨cc2, tf2⟩
        obtain ⟨dv, hdv0⟩ := HJ.out.d
        have hdv := hdv0.tf tf2
        clear cc2 tf2 hdv0
        have cz2 : w2.cell? ⟨n, 18, none⟩ = some (.int .i64 o.z) := op_z HX2.out HK.out
        have HLB : Hid _ := op_D HX2.out HK.out
        have HC2 : Hid _ := RTold hdv (Nat.le_trans HJ.out.len.2 (by decide)) ht HJ.out.t.1 HJ.out.k HK.out hz
        clear HC1 HLA cz
        go_wp2_with first
          | ((with_reducible show wpList _ _ _ ({ dst := _, op := Op.load 35 (Operand.tmp 74), type := _, pos := _, after := _, guard := _ } :: _) _ _); refine armL (.tmp 74) 35 rfl rfl rfl HLB.out ?_)
        refine Calls.mono HC2.out ?_
        rintro e w3 ⟨more, D', rfl, hr, hd3, f3⟩
        obtain ⟨rfl, r1, r2, r3⟩ := (HJ.out.tell t hr (b := b) (k := k)).2 hm
        have HFIN : Hid (∃ now' L' D', Jn B W0 w3 p pb mb rb cf now' L' D') := ⟨t, _, _, HJ.out.both HC2P.out.1 HC2P.out.2 hd3 f3 ht r1 (r2 hst.1) r3⟩
        clear hd3 f3 hr r1 r2 r3 hm hst
        clear HC2 hdv HLB cz2
        go_wp2
        try go_returns
        exact HQ.out _ _ ⟨rfl, HFIN.out⟩
    · skip
      have cz : X.cell? ⟨n, 18, none⟩ = some (.int .i64 o.z) := op_z HX.out HK.out
      have HLA : Hid _ := op_D HX.out HK.out
      have HC1 : Hid _ := HJ.out.c.bad ht (d := o.d) hz
      go_wp2_with first
        | ((with_reducible show wpList _ _ _ ({ dst := _, op := Op.load 35 (Operand.tmp 64), type := _, pos := _, after := _, guard := _ } :: _) _ _); refine armL (.tmp 64) 35 rfl rfl rfl HLA.out ?_)
      refine Calls.mono HC1.out ?_
      rintro e w2 ⟨rfl, cc2, hbb2⟩
      have HX2 : Hid (w2.heap[n]? = some (.cells o.c.toArray 37)) := blk_on HX.out hbb2
      have HJ2 : Hid (Jn B W0 w2 p pb mb rb cf now L D) := HJ.out.on hbb2
      obtain ⟨dv, hdv⟩ := HJ2.out.d
      clear hbb2 cc2
      have cz2 : w2.cell? ⟨n, 18, none⟩ = some (.int .i64 o.z) := op_z HX2.out HK.out
      have HLB : Hid _ := op_D HX2.out HK.out
      have HC2 : Hid _ := RTold_bad hdv ht o.d hz
      clear HC1 HLA cz
      go_wp2_with first
        | ((with_reducible show wpList _ _ _ ({ dst := _, op := Op.load 35 (Operand.tmp 74), type := _, pos := _, after := _, guard := _ } :: _) _ _); refine armL (.tmp 74) 35 rfl rfl rfl HLB.out ?_)
      refine Calls.mono HC2.out ?_
      rintro e w3 ⟨rfl, hbb3⟩
      have HFIN : Hid (∃ now' L' D', Jn B W0 w3 p pb mb rb cf now' L' D') := ⟨now, L, D, HJ2.out.on hbb3⟩
      clear hbb3
      clear HC2 hdv HLB cz2
      go_wp2
      try go_returns
      exact HQ.out _ _ ⟨rfl, HFIN.out⟩
  · skip
    have cz : X.cell? ⟨n, 18, none⟩ = some (.int .i64 o.z) := op_z HX.out HK.out
    have HLA : Hid _ := op_D HX.out HK.out
    have HC1 : Hid _ := HJ.out.c.told_late ht o.d o.z
    go_wp2_with first
      | ((with_reducible show wpList _ _ _ ({ dst := _, op := Op.load 35 (Operand.tmp 64), type := _, pos := _, after := _, guard := _ } :: _) _ _); refine armL (.tmp 64) 35 rfl rfl rfl HLA.out ?_)
    refine Calls.mono HC1.out ?_
    rintro e w2 ⟨rfl, hbb2⟩
    have hb2 := hbb2
    have HX2 : Hid (w2.heap[n]? = some (.cells o.c.toArray 37)) := blk_on HX.out hbb2
    have HJ2 : Hid (Jn B W0 w2 p pb mb rb cf now L D) := HJ.out.on hbb2
    obtain ⟨dv, hdv⟩ := HJ2.out.d
    clear hbb2 hb2
    have cz2 : w2.cell? ⟨n, 18, none⟩ = some (.int .i64 o.z) := op_z HX2.out HK.out
    have HLB : Hid _ := op_D HX2.out HK.out
    have HC2 : Hid _ := RTold_late hdv ht o.d o.z
    clear HC1 HLA cz
    go_wp2_with first
      | ((with_reducible show wpList _ _ _ ({ dst := _, op := Op.load 35 (Operand.tmp 74), type := _, pos := _, after := _, guard := _ } :: _) _ _); refine armL (.tmp 74) 35 rfl rfl rfl HLB.out ?_)
    refine Calls.mono HC2.out ?_
    rintro e w3 ⟨rfl, hbb3⟩
    have HFIN : Hid (∃ now' L' D', Jn B W0 w3 p pb mb rb cf now' L' D') := ⟨now, L, D, HJ2.out.on hbb3⟩
    clear hbb3
    clear HC2 hdv HLB cz2
    go_wp2
    try go_returns
    exact HQ.out _ _ ⟨rfl, HFIN.out⟩
set_option maxHeartbeats 16000000 in
set_option maxRecDepth 100000 in
theorem step_3 {B : Nat} {W0 W : World} {p pb mb rb : Nat} {cf : Cf} {now : Int} {L : List (PE × Nat)} {D : List PE} (h : Jn B W0 W p pb mb rb cf now L D) (o : OpP) (hk : K16 o.d) (hkd : o.kd = 3) :
    Calls Try.prog 10 #[.pointer (some ⟨p, 0, none⟩), .pointer (some ⟨rb, 0, none⟩), .agg o.c.toArray] W fun e w' => e = .returned (.bool true) ∧ ∃ now' L' D', Jn B W0 w' p pb mb rb cf now' L' D' := by
  generalize hQ : (fun (e : Ending) (w' : World) => e = .returned (.bool true) ∧ ∃ now' L' D', Jn B W0 w' p pb mb rb cf now' L' D') = Q
  have HQ : Hid (∀ e w', (e = .returned (.bool true) ∧ ∃ now' L' D', Jn B W0 w' p pb mb rb cf now' L' D') → Q e w') := fun e w' hh => by rw [← hQ]; exact hh
  clear hQ
  obtain ⟨n, hn⟩ : ∃ n, n = W.heap.size := ⟨_, rfl⟩
  obtain ⟨W1, hW1⟩ : ∃ W1, W1 = W.alloc (.cells o.c.toArray 37) := ⟨_, rfl⟩
  have hB1 : Below W.heap.size W W1 := by rw [hW1]; exact (Below.refl W.heap.size W).alloc (Nat.le_refl _) _
  have hx1 : W1.heap[n]? = some (.cells o.c.toArray 37) := by rw [hW1, hn]; exact blk_new W _
  have hj1 := h.on hB1
  have HJ1 : Hid (Jn B W0 W1 p pb mb rb cf now L D) := hj1
  have HX1 : Hid (W1.heap[n]? = some (.cells o.c.toArray 37)) := hx1
  have HK : Hid (K16 o.d) := hk
  have HNR : Hid (n ≠ rb) := by
    obtain ⟨v, hd⟩ := h.d
    have h9 := hd.lt
    have h8 : n ≠ rb := by omega
    exact h8
  have HWN : Hid _ := fun X => when_any (a := o.a) h.t X
  have c4 : ∀ x : Hi W1, x.W.cell? ⟨rb, 4, none⟩ = some (.int .i64 now) := fun x => by
    obtain ⟨v, hd⟩ := hj1.d
    exact blk_cell (j := 4) (hd.on x.below).box rfl
  have ca : ∀ x : Hi W1, x.W.cell? ⟨n, 1, none⟩ = some (.int .i64 o.a) := fun x => op_a (blk_on hx1 x.below)
  have hW := hW1.symm
  have hn2 := hn.symm
  have HKD : Hid (o.kd = 3) := hkd
  clear hkd
  clear hB1 hx1 hj1 h hk hW1 hn
  generalize hoc : o.c = oc at *
  have HOC : Hid (o.c = oc) := hoc
  generalize o.a = oa at *
  clear hoc
  go_enter Try.func10, Try.ntmps10
  go_wp2_with fail
  refine wp_region_hi (by kernel_rfl) (by kernel_rfl) ?_
  repeat (first | go_big_quiet_skip | (go_big_quiet_want; go_big_quiet_op; first | go_big_quiet_on | go_big_quiet_call (first | (go_at_call 20; with_reducible exact Hi.calls (HWN.out _)))))
  refine wpQuiet_nil ?_
  intro _ hw
  obtain ⟨yy, rfl⟩ := hw
  have HJ : Hid (Jn B W0 yy.W p pb mb rb cf now L D) := HJ1.out.on yy.below
  have hxy := blk_on HX1.out yy.below
  rw [← HOC.out] at hxy
  have HX : Hid (yy.W.heap[n]? = some (.cells o.c.toArray 37)) := hxy
  have ck : yy.W.cell? ⟨n, 0, none⟩ = some (.int .i64 o.kd) := op_k hxy
  clear c4 ca HJ1 HX1 HWN hxy hW hn2
  generalize whenF now oa = t at *
  generalize yy.W = X at *
  rw [HKD.out] at ck
  by_cases ht : okT now t
  · skip
    have HLA : Hid _ := op_D HX.out HK.out
    have HC1 : Hid _ := HJ.out.c.drop (Nat.le_trans HJ.out.len.1 (by decide)) ht HK.out
    go_wp2_with first
      | ((with_reducible show wpList _ _ _ ({ dst := _, op := Op.load 35 (Operand.tmp 94), type := _, pos := _, after := _, guard := _ } :: _) _ _); refine armL (.tmp 94) 35 rfl rfl rfl HLA.out ?_)
    refine Calls.mono HC1.out ?_
    rintro e w2 ⟨rfl, cc2, tf2⟩
    have HX2 : Hid (w2.heap[n]? = some (.cells o.c.toArray 37)) := tf2.keep _ _ _ HX.out (by decide) (by decide)
    have HC2P : Hid (Cch B W0 w2 p pb mb cf t (lackL (live L t) o.d) ∧ TF X w2) := ⟨cc2, tf2⟩
    obtain ⟨dv, hdv0⟩ := HJ.out.d
    have hdv := hdv0.tf tf2
    clear cc2 tf2 hdv0
    have HLB : Hid _ := op_D HX2.out HK.out
    have HC2 : Hid _ := RDrop hdv (Nat.le_trans HJ.out.len.2 (by decide)) ht HK.out
    clear HC1 HLA
    go_wp2_with first
      | ((with_reducible show wpList _ _ _ ({ dst := _, op := Op.load 35 (Operand.tmp 102), type := _, pos := _, after := _, guard := _ } :: _) _ _); refine armL (.tmp 102) 35 rfl rfl rfl HLB.out ?_)
    refine Calls.mono HC2.out ?_
    rintro e w3 ⟨b, D', rfl, hm, hd3, f3⟩
    obtain ⟨r0, r1, r2, r3⟩ := HJ.out.drops t hm
    have HFIN : Hid (∃ now' L' D', Jn B W0 w3 p pb mb rb cf now' L' D') := ⟨t, _, _, HJ.out.both HC2P.out.1 HC2P.out.2 hd3 f3 ht r1 r2 r3⟩
    rw [r0]
    have qq : ∀ b : Bool, (b == b) = true := fun b => by simp
    clear hd3 f3 hm r0 r1 r2 r3
    generalize hasL (live L t) o.d = bb at *
    clear HC2 hdv HLB
    go_wp2
    try go_returns
    exact HQ.out _ _ ⟨rfl, HFIN.out⟩
  · skip
    have HLA : Hid _ := op_D HX.out HK.out
    have HC1 : Hid _ := HJ.out.c.drop_late ht o.d
    go_wp2_with first
      | ((with_reducible show wpList _ _ _ ({ dst := _, op := Op.load 35 (Operand.tmp 94), type := _, pos := _, after := _, guard := _ } :: _) _ _); refine armL (.tmp 94) 35 rfl rfl rfl HLA.out ?_)
    refine Calls.mono HC1.out ?_
    rintro e w2 ⟨rfl, hbb2⟩
    have hb2 := hbb2
    have HX2 : Hid (w2.heap[n]? = some (.cells o.c.toArray 37)) := blk_on HX.out hbb2
    have HJ2 : Hid (Jn B W0 w2 p pb mb rb cf now L D) := HJ.out.on hbb2
    obtain ⟨dv, hdv⟩ := HJ2.out.d
    clear hbb2 hb2
    have HLB : Hid _ := op_D HX2.out HK.out
    have HC2 : Hid _ := RDrop_late hdv ht o.d
    clear HC1 HLA
    go_wp2_with first
      | ((with_reducible show wpList _ _ _ ({ dst := _, op := Op.load 35 (Operand.tmp 102), type := _, pos := _, after := _, guard := _ } :: _) _ _); refine armL (.tmp 102) 35 rfl rfl rfl HLB.out ?_)
    refine Calls.mono HC2.out ?_
    rintro e w3 ⟨rfl, hbb3⟩
    have HFIN : Hid (∃ now' L' D', Jn B W0 w3 p pb mb rb cf now' L' D') := ⟨now, L, D, HJ2.out.on hbb3⟩
    clear hbb3
    clear HC2 hdv HLB
    go_wp2
    try go_returns
    exact HQ.out _ _ ⟨rfl, HFIN.out⟩
set_option maxHeartbeats 16000000 in
set_option maxRecDepth 100000 in
theorem step_4 {B : Nat} {W0 W : World} {p pb mb rb : Nat} {cf : Cf} {now : Int} {L : List (PE × Nat)} {D : List PE} (h : Jn B W0 W p pb mb rb cf now L D) (o : OpP) (hk : K16 o.d) (hkd : o.kd = 4) :
    Calls Try.prog 10 #[.pointer (some ⟨p, 0, none⟩), .pointer (some ⟨rb, 0, none⟩), .agg o.c.toArray] W fun e w' => e = .returned (.bool true) ∧ ∃ now' L' D', Jn B W0 w' p pb mb rb cf now' L' D' := by
  generalize hQ : (fun (e : Ending) (w' : World) => e = .returned (.bool true) ∧ ∃ now' L' D', Jn B W0 w' p pb mb rb cf now' L' D') = Q
  have HQ : Hid (∀ e w', (e = .returned (.bool true) ∧ ∃ now' L' D', Jn B W0 w' p pb mb rb cf now' L' D') → Q e w') := fun e w' hh => by rw [← hQ]; exact hh
  clear hQ
  obtain ⟨n, hn⟩ : ∃ n, n = W.heap.size := ⟨_, rfl⟩
  obtain ⟨W1, hW1⟩ : ∃ W1, W1 = W.alloc (.cells o.c.toArray 37) := ⟨_, rfl⟩
  have hB1 : Below W.heap.size W W1 := by rw [hW1]; exact (Below.refl W.heap.size W).alloc (Nat.le_refl _) _
  have hx1 : W1.heap[n]? = some (.cells o.c.toArray 37) := by rw [hW1, hn]; exact blk_new W _
  have hj1 := h.on hB1
  have HJ1 : Hid (Jn B W0 W1 p pb mb rb cf now L D) := hj1
  have HX1 : Hid (W1.heap[n]? = some (.cells o.c.toArray 37)) := hx1
  have HK : Hid (K16 o.d) := hk
  have HNR : Hid (n ≠ rb) := by
    obtain ⟨v, hd⟩ := h.d
    have h9 := hd.lt
    have h8 : n ≠ rb := by omega
    exact h8
  have HWN : Hid _ := fun X => when_any (a := o.a) h.t X
  have c4 : ∀ x : Hi W1, x.W.cell? ⟨rb, 4, none⟩ = some (.int .i64 now) := fun x => by
    obtain ⟨v, hd⟩ := hj1.d
    exact blk_cell (j := 4) (hd.on x.below).box rfl
  have ca : ∀ x : Hi W1, x.W.cell? ⟨n, 1, none⟩ = some (.int .i64 o.a) := fun x => op_a (blk_on hx1 x.below)
  have hW := hW1.symm
  have hn2 := hn.symm
  have HKD : Hid (o.kd = 4) := hkd
  clear hkd
  clear hB1 hx1 hj1 h hk hW1 hn
  generalize hoc : o.c = oc at *
  have HOC : Hid (o.c = oc) := hoc
  generalize o.a = oa at *
  clear hoc
  go_enter Try.func10, Try.ntmps10
  go_wp2_with fail
  refine wp_region_hi (by kernel_rfl) (by kernel_rfl) ?_
  repeat (first | go_big_quiet_skip | (go_big_quiet_want; go_big_quiet_op; first | go_big_quiet_on | go_big_quiet_call (first | (go_at_call 20; with_reducible exact Hi.calls (HWN.out _)))))
  refine wpQuiet_nil ?_
  intro _ hw
  obtain ⟨yy, rfl⟩ := hw
  have HJ : Hid (Jn B W0 yy.W p pb mb rb cf now L D) := HJ1.out.on yy.below
  have hxy := blk_on HX1.out yy.below
  rw [← HOC.out] at hxy
  have HX : Hid (yy.W.heap[n]? = some (.cells o.c.toArray 37)) := hxy
  have ck : yy.W.cell? ⟨n, 0, none⟩ = some (.int .i64 o.kd) := op_k hxy
  clear c4 ca HJ1 HX1 HWN hxy hW hn2
  generalize whenF now oa = t at *
  generalize yy.W = X at *
  rw [HKD.out] at ck
  by_cases ht : okT now t
  · skip
    have HC1 : Hid _ := HJ.out.c.all (Nat.le_trans HJ.out.len.1 (by decide)) ht
    go_wp2_with fail
    refine Calls.mono HC1.out ?_
    rintro e w2 ⟨va, S, rfl, ⟨sp, ss, sv⟩, cc2, tf2⟩
    have HX2 : Hid (w2.heap[n]? = some (.cells o.c.toArray 37)) := tf2.keep _ _ _ HX.out (by decide) (by decide)
    have HC2P : Hid (Cch B W0 w2 p pb mb cf t (live L t) ∧ TF X w2) := ⟨cc2, tf2⟩
    obtain ⟨dv, hdv0⟩ := HJ.out.d
    have hdv := hdv0.tf tf2
    clear cc2 tf2 hdv0
    have HC2 : Hid _ := RAll hdv (Nat.le_trans HJ.out.len.2 (by decide)) ht
    clear HC1
    go_wp2_with fail
    refine Calls.mono HC2.out ?_
    rintro e w3 ⟨vb, rfl, hv3, hd3, f3⟩
    obtain ⟨r1, r2, r3⟩ := HJ.out.lives t
    have HF3 : Hid (∃ now' L' D', Jn B W0 w3 p pb mb rb cf now' L' D') := ⟨t, _, _, HJ.out.both HC2P.out.1 HC2P.out.2 hd3 f3 ht r1 r2 r3⟩
    have hsd := r1.all sp ss
    have hva : SrcE w3 va (liveD D t) := by rw [← hsd]; exact sv.frd hdv f3
    obtain ⟨aa, ac, hav⟩ := hva.slc
    obtain ⟨ba, bc, hbv⟩ := hv3.slc
    have hok : ∀ x ∈ liveD D t, x.Ok := liveD_ok hdv.ok t
    have HC3 : Hid _ := RSame_eq hva hv3 hok (Nat.le_trans (liveD_len D t) (Nat.le_trans HJ.out.len.2 (by decide)))
    clear HC2 hdv hva hv3 hok hsd sp ss sv r1 r2 r3 hd3 f3
    subst hav
    subst hbv
    go_wp2_with fail
    refine Calls.mono HC3.out ?_
    rintro e w4 ⟨rfl, hbb4⟩
    have HFIN : Hid (∃ now' L' D', Jn B W0 w4 p pb mb rb cf now' L' D') := by
      obtain ⟨a1, a2, a3, a4⟩ := HF3.out
      exact ⟨a1, a2, a3, a4.on hbb4⟩
    clear hbb4 HC3 HF3
    go_wp2
    try go_returns
    exact HQ.out _ _ ⟨rfl, HFIN.out⟩
  · skip
    have HC1 : Hid _ := HJ.out.c.all_late ht
    go_wp2_with fail
    refine Calls.mono HC1.out ?_
    rintro e w2 ⟨rfl, hbb2⟩
    have hb2 := hbb2
    have HX2 : Hid (w2.heap[n]? = some (.cells o.c.toArray 37)) := blk_on HX.out hbb2
    have HJ2 : Hid (Jn B W0 w2 p pb mb rb cf now L D) := HJ.out.on hbb2
    obtain ⟨dv, hdv⟩ := HJ2.out.d
    clear hbb2 hb2
    have HC2 : Hid _ := RAll_late hdv ht
    clear HC1
    go_wp2_with fail
    refine Calls.mono HC2.out ?_
    rintro e w3 ⟨rfl, hbb3⟩
    have HF3 : Hid (∃ now' L' D', Jn B W0 w3 p pb mb rb cf now' L' D') := ⟨now, L, D, HJ2.out.on hbb3⟩
    clear hbb3
    have HC3 : Hid _ := RSame_eq (W := w3) (S := []) (.inl ⟨rfl, rfl⟩) (.inl ⟨rfl, rfl⟩) (fun x hx => by cases hx) (by decide)
    clear HC2 hdv
    go_wp2_with fail
    refine Calls.mono HC3.out ?_
    rintro e w4 ⟨rfl, hbb4⟩
    have HFIN : Hid (∃ now' L' D', Jn B W0 w4 p pb mb rb cf now' L' D') := by
      obtain ⟨a1, a2, a3, a4⟩ := HF3.out
      exact ⟨a1, a2, a3, a4.on hbb4⟩
    clear hbb4 HC3 HF3
    go_wp2
    try go_returns
    exact HQ.out _ _ ⟨rfl, HFIN.out⟩
set_option maxHeartbeats 16000000 in
set_option maxRecDepth 100000 in
theorem step_x {B : Nat} {W0 W : World} {p pb mb rb : Nat} {cf : Cf} {now : Int} {L : List (PE × Nat)} {D : List PE} (h : Jn B W0 W p pb mb rb cf now L D) (o : OpP) (hk : K16 o.d) (h1 : o.kd ≠ 1) (h2 : o.kd ≠ 2) (h3 : o.kd ≠ 3) (h4 : o.kd ≠ 4) :
    Calls Try.prog 10 #[.pointer (some ⟨p, 0, none⟩), .pointer (some ⟨rb, 0, none⟩), .agg o.c.toArray] W fun e w' => e = .returned (.bool true) ∧ ∃ now' L' D', Jn B W0 w' p pb mb rb cf now' L' D' := by
  generalize hQ : (fun (e : Ending) (w' : World) => e = .returned (.bool true) ∧ ∃ now' L' D', Jn B W0 w' p pb mb rb cf now' L' D') = Q
  have HQ : Hid (∀ e w', (e = .returned (.bool true) ∧ ∃ now' L' D', Jn B W0 w' p pb mb rb cf now' L' D') → Q e w') := fun e w' hh => by rw [← hQ]; exact hh
  clear hQ
  obtain ⟨n, hn⟩ : ∃ n, n = W.heap.size := ⟨_, rfl⟩
  obtain ⟨W1, hW1⟩ : ∃ W1, W1 = W.alloc (.cells o.c.toArray 37) := ⟨_, rfl⟩
  have hB1 : Below W.heap.size W W1 := by rw [hW1]; exact (Below.refl W.heap.size W).alloc (Nat.le_refl _) _
  have hx1 : W1.heap[n]? = some (.cells o.c.toArray 37) := by rw [hW1, hn]; exact blk_new W _
  have hj1 := h.on hB1
  have HJ1 : Hid (Jn B W0 W1 p pb mb rb cf now L D) := hj1
  have HX1 : Hid (W1.heap[n]? = some (.cells o.c.toArray 37)) := hx1
  have HK : Hid (K16 o.d) := hk
  have HNR : Hid (n ≠ rb) := by
    obtain ⟨v, hd⟩ := h.d
    have h9 := hd.lt
    have h8 : n ≠ rb := by omega
    exact h8
  have HWN : Hid _ := fun X => when_any (a := o.a) h.t X
  have c4 : ∀ x : Hi W1, x.W.cell? ⟨rb, 4, none⟩ = some (.int .i64 now) := fun x => by
    obtain ⟨v, hd⟩ := hj1.d
    exact blk_cell (j := 4) (hd.on x.below).box rfl
  have ca : ∀ x : Hi W1, x.W.cell? ⟨n, 1, none⟩ = some (.int .i64 o.a) := fun x => op_a (blk_on hx1 x.below)
  have hW := hW1.symm
  have hn2 := hn.symm
  clear hB1 hx1 hj1 h hk hW1 hn
  generalize hoc : o.c = oc at *
  have HOC : Hid (o.c = oc) := hoc
  generalize o.a = oa at *
  clear hoc
  go_enter Try.func10, Try.ntmps10
  go_wp2_with fail
  refine wp_region_hi (by kernel_rfl) (by kernel_rfl) ?_
  repeat (first | go_big_quiet_skip | (go_big_quiet_want; go_big_quiet_op; first | go_big_quiet_on | go_big_quiet_call (first | (go_at_call 20; with_reducible exact Hi.calls (HWN.out _)))))
  refine wpQuiet_nil ?_
  intro _ hw
  obtain ⟨yy, rfl⟩ := hw
  have HJ : Hid (Jn B W0 yy.W p pb mb rb cf now L D) := HJ1.out.on yy.below
  have hxy := blk_on HX1.out yy.below
  rw [← HOC.out] at hxy
  have HX : Hid (yy.W.heap[n]? = some (.cells o.c.toArray 37)) := hxy
  have ck : yy.W.cell? ⟨n, 0, none⟩ = some (.int .i64 o.kd) := op_k hxy
  clear c4 ca HJ1 HX1 HWN hxy hW hn2
  generalize whenF now oa = t at *
  generalize yy.W = X at *
  have HFIN : Hid (∃ now' L' D', Jn B W0 X p pb mb rb cf now' L' D') := ⟨now, L, D, HJ.out⟩
  generalize o.kd = kd at *
  go_wp2
  try go_returns
  exact HQ.out _ _ ⟨rfl, HFIN.out⟩
theorem step_any {B : Nat} {W0 W : World} {p pb mb rb : Nat} {cf : Cf} {now : Int} {L : List (PE × Nat)} {D : List PE} (h : Jn B W0 W p pb mb rb cf now L D) (o : OpP) (hk : K16 o.d) :
    Calls Try.prog 10 #[.pointer (some ⟨p, 0, none⟩), .pointer (some ⟨rb, 0, none⟩), .agg o.c.toArray] W fun e w' => e = .returned (.bool true) ∧ ∃ now' L' D', Jn B W0 w' p pb mb rb cf now' L' D' := by
  by_cases h1 : o.kd = 1
  · exact step_1 h o hk h1
  by_cases h2 : o.kd = 2
  · exact step_2 h o hk h2
  by_cases h3 : o.kd = 3
  · exact step_3 h o hk h3
  by_cases h4 : o.kd = 4
  · exact step_4 h o hk h4
  exact step_x h o hk h1 h2 h3 h4
end Go.Proofs.Ytgndiblonhgihaa
