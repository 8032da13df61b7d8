/-
  A cache and the document's, plainly.
-/
import Derived.Test.YtgndiblonhgihaaPpH
namespace Go.Proofs.Ytgndiblonhgihaa
open Go Go.RowKit Go.Lib
set_option linter.unusedVariables false
set_option linter.unusedSimpArgs false

theorem ltA_irr (x : PE) : ¬ ltA x x := fun h => by unfold ltA at h; rw [cmpI_self] at h; cases h
theorem ltA_trans {x y z : PE} (h : ltA x y) (g : ltA y z) : ltA x z := cmpI_trans h g
theorem ltA_asymm {x y : PE} (h : ltA x y) : ¬ ltA y x := fun g => ltA_irr x (ltA_trans h g)
theorem ltA_ne {x y : PE} (h : ltA x y) : x.k ≠ y.k := fun e => by unfold ltA at h; rw [e, cmpI_self] at h; cases h
/-- Rows in order that hold the same are one row. -/
theorem sort_uniq : ∀ {l l' : List PE}, l.Pairwise ltA → l'.Pairwise ltA → (∀ x, x ∈ l ↔ x ∈ l') → l = l'
  | [], [], _, _, _ => rfl
  | [], b :: t, _, _, h => by have := (h b).2 (by simp); cases this
  | a :: l, [], _, _, h => by have := (h a).1 (by simp); cases this
  | a :: l, b :: t, h1, h2, h => by
    rw [List.pairwise_cons] at h1 h2
    have e : a = b := by
      rcases List.mem_cons.1 ((h a).1 (by simp)) with e | m
      · exact e
      · rcases List.mem_cons.1 ((h b).2 (by simp)) with e' | m'
        · exact e'.symm
        · exact absurd (h1.1 b m') (ltA_asymm (h2.1 a m))
    subst e
    congr 1
    refine sort_uniq h1.2 h2.2 fun x => ⟨fun hx => ?_, fun hx => ?_⟩
    · rcases List.mem_cons.1 ((h x).1 (by simp [hx])) with e | m
      · subst e; exact absurd (h1.1 x hx) (ltA_irr x)
      · exact m
    · rcases List.mem_cons.1 ((h x).2 (by simp [hx])) with e | m
      · subst e; exact absurd (h2.1 x hx) (ltA_irr x)
      · exact m
/-- The same entries on both sides. -/
structure RLD (L : List (PE × Nat)) (D : List PE) : Prop where
  pm : D.Perm (L.map (·.1))
  st : D.Pairwise ltA
section
variable {L : List (PE × Nat)} {D : List PE}
theorem RLD.mem (h : RLD L D) (x : PE) : x ∈ D ↔ ∃ b, (x, b) ∈ L := by
  rw [h.pm.mem_iff, List.mem_map]
  constructor
  · rintro ⟨y, hy, rfl⟩
    exact ⟨y.2, hy⟩
  · rintro ⟨b, hb⟩
    exact ⟨_, hb, rfl⟩
theorem RLD.len (h : RLD L D) : D.length = L.length := by rw [h.pm.length_eq]; simp
theorem RLD.live (h : RLD L D) (t : Int) : RLD (live L t) (liveD D t) := by
  refine ⟨?_, h.st.filter _⟩
  have := h.pm.filter (fun x => decide (t < x.u))
  rw [List.filter_map] at this
  exact this
theorem RLD.kn (h : RLD L D) : KN L := by
  unfold KN
  have h1 : (D.map (·.k)).Nodup := by
    rw [List.nodup_iff_pairwise_ne, List.pairwise_map]
    exact h.st.imp fun hxy => ltA_ne hxy
  have h2 := (h.pm.map (·.k)).nodup_iff.1 h1
  rw [List.map_map] at h2
  exact h2
theorem RLD.mtu (h : RLD L D) {cf : Cf} {d : List Int} {m : Int} (hm : MtuP D d cf.link m) : mtuL cf L d = m := by
  rcases hm with ⟨x, hx, rfl, rfl⟩ | ⟨hno, rfl⟩
  · obtain ⟨b, hb⟩ := (h.mem x).1 hx
    exact mtuL_in (cf := cf) h.kn.kd hb
  · exact mtuL_out fun x hx => hno x.1 ((h.mem x.1).2 ⟨x.2, hx⟩)
/-- The entries but an address's. -/
def noD (D : List PE) (d : List Int) : List PE := D.filter fun z => !decide (z.k = d)
theorem noD_id {D : List PE} {d : List Int} (h : ∀ x ∈ D, x.k ≠ d) : noD D d = D := by
  unfold noD
  rw [List.filter_eq_self]
  intro x hx
  simp [h x hx]
theorem wo_at : ∀ {D : List PE} {m : Nat} {x : PE}, D.Pairwise ltA → D[m]? = some x → woD D m = noD D x.k
  | [], m, x, _, h => by simp at h
  | y :: D, 0, x, hn, h => by
    simp at h
    subst h
    rw [List.pairwise_cons] at hn
    have h1 : ∀ z ∈ D, z.k ≠ y.k := fun z hz e => ltA_ne (hn.1 z hz) e.symm
    have h2 := noD_id h1
    unfold noD at h2 ⊢
    unfold woD
    simp [h2]
  | y :: D, m + 1, x, hn, h => by
    have hx : D[m]? = some x := by simpa using h
    rw [List.pairwise_cons] at hn
    have ih := wo_at hn.2 hx
    have h1 : y.k ≠ x.k := ltA_ne (hn.1 x (List.mem_of_getElem? hx))
    unfold noD woD at ih ⊢
    simp [h1, ← ih]
theorem RLD.lack (h : RLD L D) (d : List Int) : RLD (lackL L d) (noD D d) := by
  refine ⟨?_, h.st.filter _⟩
  have := h.pm.filter (fun z => !decide (z.k = d))
  rw [List.filter_map] at this
  exact this
theorem RLD.has (h : RLD L D) {d : List Int} {x : PE} (hx : x ∈ D) (hk : x.k = d) : hasL L d = true := by
  obtain ⟨b, hb⟩ := (h.mem x).1 hx
  rw [← hk]
  exact has_at hb
theorem RLD.hasnt (h : RLD L D) {d : List Int} (hno : ∀ x ∈ D, x.k ≠ d) : lackL L d = L ∧ hasL L d = false := lack_none fun x hx => hno x.1 ((h.mem x.1).2 ⟨x.2, hx⟩)
theorem RLD.drop (h : RLD L D) {d : List Int} {b : Bool} {D' : List PE} (hd : DropP D d b D') : b = hasL L d ∧ RLD (lackL L d) D' := by
  rcases hd with ⟨i, x, hx, hk, rfl, rfl⟩ | ⟨hno, rfl, rfl⟩
  · refine ⟨(h.has (List.mem_of_getElem? hx) hk).symm, ?_⟩
    rw [wo_at h.st hx, hk]
    exact h.lack d
  · obtain ⟨h1, h2⟩ := h.hasnt hno
    rw [h1, h2]
    exact ⟨rfl, h⟩
theorem RLD.all (h : RLD L D) {S : List PE} (hp : S.Perm (L.map (·.1))) (hs : S.Pairwise ltA) : S = D := sort_uniq hs h.st fun x => by rw [hp.mem_iff, h.pm.mem_iff]
theorem RLD.next (h : RLD L D) (hs : SortE L) {t : Int} {b : Bool} (hn : NextP D t b) : nextL L = .tuple #[.int .i64 t, .bool b] := by
  cases L with
  | nil =>
    have : D = [] := by have := h.len; exact List.length_eq_zero_iff.1 (by simpa using this)
    subst this
    rcases hn with ⟨_, rfl, rfl⟩ | ⟨_, ⟨x, hx, _⟩, _⟩
    · rfl
    · cases hx
  | cons y L =>
    rcases hn with ⟨e, _, _⟩ | ⟨rfl, ⟨x, hx, rfl⟩, hmin⟩
    · have := h.len
      rw [e] at this
      simp at this
    · have h1 := hmin y.1 ((h.mem y.1).2 ⟨y.2, by simp⟩)
      obtain ⟨bx, hbx⟩ := (h.mem x).1 hx
      have h2 : y.1.u ≤ x.u := by
        obtain ⟨j, hj⟩ := List.getElem?_of_mem hbx
        by_cases c : j = 0
        · subst c
          simp at hj
          rw [hj]
          exact Int.le_refl _
        · exact cE_u (hs 0 j y (x, bx) (by omega) rfl hj)
      have e : x.u = y.1.u := by omega
      unfold nextL
      rw [e]
end
theorem cE_lt {x y : PE × Nat} (h : cE x y = -1) : x.1.u < y.1.u ∨ x.1.u = y.1.u ∧ ltA x.1 y.1 := by
  unfold cE cmpE cmpN at h
  by_cases c : x.1.u < y.1.u
  · exact .inl c
  · by_cases d : x.1.u > y.1.u
    · simp [c, d] at h
    · refine .inr ⟨by omega, ?_⟩
      simp [c, d] at h
      exact h
/-- The line and the document's entries with room for a new one. -/
theorem RLD.room {L : List (PE × Nat)} {D : List PE} (h : RLD L D) (hs : SortE L) {d : List Int} {lim : Int} (hl : (L.length : Int) ≤ lim) {D2 : List PE} (ht : TellP D d lim D2) :
    RLD (roomL L d lim) D2 ∧ ((roomL L d lim).length : Int) + 1 ≤ lim ∧ (∀ x ∈ D2, x ∈ D) := by
  have hwl : ∀ {k : Nat} {x : PE}, D[k]? = some x → (woD D k).length + 1 = D.length := fun {k x} hx => by
    have := (List.getElem?_eq_some_iff.1 hx).1
    unfold woD
    simp
    omega
  have hwm : ∀ (k : Nat), ∀ x ∈ woD D k, x ∈ D := fun k x hx => by
    unfold woD at hx
    rcases List.mem_append.1 hx with e | e
    · exact List.mem_of_mem_take e
    · exact List.mem_of_mem_drop e
  rcases ht with ⟨i, x, hx, hk, rfl⟩ | ⟨hno, hlim, k, x, hx, hmin, rfl⟩ | ⟨hno, hlim, rfl⟩
  · have h1 := h.has (List.mem_of_getElem? hx) hk
    have e : roomL L d lim = lackL L d := by unfold roomL; rw [if_neg (by rw [h1]; simp)]
    have h2 : RLD (lackL L d) (woD D i) := by rw [wo_at h.st hx, hk]; exact h.lack d
    have h3 := h2.len
    have h4 := hwl hx
    have h5 := h.len
    rw [e]
    exact ⟨h2, by omega, hwm i⟩
  · obtain ⟨h1, h2⟩ := h.hasnt hno
    have h5 := h.len
    have e : roomL L d lim = L.drop 1 := by unfold roomL; rw [if_pos ⟨h2, by omega⟩]
    have hkl := (List.getElem?_eq_some_iff.1 hx).1
    rw [e]
    cases L with
    | nil =>
      have h6 : D.length = 0 := h5
      omega
    | cons y L =>
      have hy : y.1 ∈ D := (h.mem y.1).2 ⟨y.2, by simp⟩
      obtain ⟨j, hj⟩ := List.getElem?_of_mem hy
      obtain ⟨bx, hbx⟩ := (h.mem x).1 (List.mem_of_getElem? hx)
      have hxy : x = y.1 := by
        obtain ⟨i, hi⟩ := List.getElem?_of_mem hbx
        by_cases c : i = 0
        · subst c
          simp at hi
          rw [hi]
        · exfalso
          have h6 := hmin j y.1 hj
          rcases cE_lt (hs 0 i y (x, bx) (by omega) rfl hi) with h7 | ⟨h7, h8⟩
          · simp at h7; omega
          · simp at h7 h8
            have h9 : ¬ j < k := fun e => by have := h6.2 e; omega
            by_cases c2 : j = k
            · subst c2
              rw [hx] at hj
              injection hj with hj
              rw [hj] at h8
              exact ltA_irr _ h8
            · have hjl := (List.getElem?_eq_some_iff.1 hj).1
              have h10 := (List.pairwise_iff_getElem.1 h.st) k j hkl hjl (by omega)
              have e1 : D[k] = x := (List.getElem?_eq_some_iff.1 hx).2
              have e2 : D[j] = y.1 := (List.getElem?_eq_some_iff.1 hj).2
              rw [e1, e2] at h10
              exact ltA_asymm h8 h10
      have hkn := h.kn
      have h11 : lackL (y :: L) y.1.k = L := by
        have := lack_at (L := y :: L) (m := 0) (x := y) hkn rfl
        simpa using this.symm
      have h12 : RLD L (woD D k) := by
        have := h.lack y.1.k
        rw [h11] at this
        rw [wo_at h.st hx, hxy]
        exact this
      refine ⟨h12, ?_, hwm k⟩
      simp at hl ⊢
      omega
  · obtain ⟨h1, h2⟩ := h.hasnt hno
    have h5 := h.len
    have e : roomL L d lim = L := by
      unfold roomL
      rw [if_neg (by intro hh; have := hh.2; omega), h1]
    rw [e]
    exact ⟨h, by omega, fun x hx => hx⟩
theorem RLD.put {R : List (PE × Nat)} {D2 : List PE} (h : RLD R D2) {d : List Int} {k p : Nat} {e : PE} {b : Nat} (he : e.k = d) (hno : ∀ x ∈ R, x.1.k ≠ d) (hp : PosP D2 d p) : RLD (putK R k (e, b)) (putD D2 p e) := by
  obtain ⟨hp1, hp2, hp3⟩ := hp
  have hnd : ∀ x ∈ D2, x.k ≠ d := fun x hx => by
    obtain ⟨c, hc⟩ := (h.mem x).1 hx
    exact hno _ hc
  refine ⟨?_, ?_⟩
  · have h1 : (putD D2 p e).Perm (e :: D2) := by
      unfold putD
      have := List.perm_middle (a := e) (l₁ := D2.take p) (l₂ := D2.drop p)
      rw [List.take_append_drop] at this
      simpa using this
    have h2 : ((putK R k (e, b)).map (·.1)).Perm (e :: R.map (·.1)) := by
      unfold putK
      have := (List.perm_middle (a := (e, b)) (l₁ := R.take k) (l₂ := R.drop k)).map (·.1)
      rw [List.take_append_drop] at this
      simpa using this
    exact (h1.trans (h.pm.cons e)).trans h2.symm
  · have hlo : ∀ x ∈ D2.take p, ltA x e := fun x hx => by
      obtain ⟨j, hj⟩ := List.getElem?_of_mem hx
      have hjp : j < p := by have := (List.getElem?_eq_some_iff.1 hj).1; simp at this; omega
      rw [List.getElem?_take_of_lt hjp] at hj
      have := hp2 j x hjp hj
      unfold ltA
      rw [he]
      exact this
    have hhi : ∀ x ∈ D2.drop p, ltA e x := fun x hx => by
      obtain ⟨j, hj⟩ := List.getElem?_of_mem hx
      rw [List.getElem?_drop] at hj
      have hjl := (List.getElem?_eq_some_iff.1 hj).1
      obtain ⟨y, hy⟩ : ∃ y, D2[p]? = some y := ⟨_, List.getElem?_eq_getElem (by omega)⟩
      have hy1 := hp3 y hy
      have hy2 := hnd y (List.mem_of_getElem? hy)
      have hey : ltA e y := by
        unfold ltA
        rw [he]
        have h1 := cmpI_anti y.k d
        rcases cmpI_vals y.k d with c | c | c
        · exact absurd c hy1
        · exact absurd (cmpI_eq c) hy2
        · omega
      by_cases c : j = 0
      · subst c
        rw [Nat.add_zero, hy] at hj
        injection hj with hj
        rw [← hj]
        exact hey
      · have hpl := (List.getElem?_eq_some_iff.1 hy).1
        have h10 := (List.pairwise_iff_getElem.1 h.st) p (p + j) hpl hjl (by omega)
        rw [(List.getElem?_eq_some_iff.1 hy).2, (List.getElem?_eq_some_iff.1 hj).2] at h10
        exact ltA_trans hey h10
    unfold putD
    have hst : (D2.take p ++ D2.drop p).Pairwise ltA := by rw [List.take_append_drop]; exact h.st
    rw [List.pairwise_append] at hst
    rw [List.append_assoc, List.pairwise_append]
    refine ⟨hst.1, ?_, fun x hx y hy => ?_⟩
    · rw [List.singleton_append, List.pairwise_cons]
      exact ⟨hhi, hst.2.1⟩
    · rcases List.mem_append.1 hy with e1 | e1
      · rw [List.mem_singleton] at e1
        rw [e1]
        exact hlo x hx
      · exact hst.2.2 x hx y e1
theorem putD_mem {D : List PE} {p : Nat} {e x : PE} (h : x ∈ putD D p e) : x ∈ D ∨ x = e := by
  unfold putD at h
  rcases List.mem_append.1 h with h | h
  · rcases List.mem_append.1 h with h | h
    · exact .inl (List.mem_of_mem_take h)
    · exact .inr (by simpa using h)
  · exact .inl (List.mem_of_mem_drop h)
end Go.Proofs.Ytgndiblonhgihaa
