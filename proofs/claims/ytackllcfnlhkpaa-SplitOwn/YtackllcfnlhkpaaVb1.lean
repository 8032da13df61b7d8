/-
  Rows of datagrams of one's own; copies of bytes, with room.
-/
import Derived.Test.YtackllcfnlhkpaaVb0
namespace Go.Proofs.Ytackllcfnlhkpaa
open Go Go.RowKit
set_option linter.unusedVariables false
set_option linter.unusedSimpArgs false

theorem CopyAt.bs {B b k : Nat} {W : World} {zs : List Int} (h : CopyAt B W b k zs) (hf : Fit zs) (hl : zs.length ≤ 140737488351232) : BS (fun c => B ≤ c) W (.slice (some ⟨b, 0, none⟩) zs.length k) zs := by
  refine ⟨⟨hf, hl, _, k, rfl, h.cap, ?_⟩, .inr ⟨b, 0, _, _, rfl, h.lo⟩⟩
  rcases h.own with rfl | ho
  · exact .inl rfl
  · exact .inr ⟨b, 0, rfl, h.lt, fun j hj => by rw [Nat.zero_add]; exact ho.cell j hj⟩

set_option maxHeartbeats 1000000 in
set_option maxRecDepth 100000 in
theorem Clone_bs (v : Value) (zs : List Int) (w : World) (h : RowC w v zs) :
    Calls Try.prog 23 #[v] w fun e w' => ∃ u, e = .returned u ∧ (BS (fun b => w.heap.size ≤ b) w' u zs ∧ Below w.heap.size w w') := by
  obtain ⟨hf, hl, a, cap, rfl, hc, hv⟩ := id h
  cases a with
  | none =>
    have h0 : zs = [] := by
      rcases hv with hv | ⟨b, off, e, _⟩
      · exact List.length_eq_zero_iff.1 hv
      · cases e
    subst h0
    have hB := Below.refl w.heap.size w
    have hN : BS (fun b => w.heap.size ≤ b) w (.slice none 0 0) [] := ⟨.empty w, .inl rfl⟩
    have hq := Go.Lib.run_eql_slice_nil (P := Try.prog) w 25 5 none 0 cap 0 0 Try.underlying25
    clear h hf hl hv hc
    go_enter Try.func23, Try.ntmps23
    go_wp2
    go_ret
    exact ⟨_, rfl, hN, hB⟩
  | some x =>
    have hB0 := (Below.refl w.heap.size w).alloc (Nat.le_refl _) (.cells #[] 5)
    obtain ⟨b2, k2, w2, hrun, hb2, hcp⟩ := copy_run h.bytes hB0 (Nat.le_refl w.heap.size) (by simp) 25
    have hbl := hB0.trans (hb2.mono hB0.size)
    have hbs := hcp.bs hf hl
    have H0 : Hid _ := hrun
    have HBS : Hid _ := hbs
    have hq := Go.Lib.run_eql_slice_nil (P := Try.prog) w 25 5 (some x) zs.length cap 0 0 Try.underlying25
    clear h hf hl hv hrun hb2 hB0 hc hcp hbs
    go_enter Try.func23, Try.ntmps23
    go_wp2_with (at_builtin; refine wpList_append_run rfl _ _ _ _ rfl rfl rfl H0.out ?_; clear H0)
    go_ret
    exact ⟨_, rfl, HBS.out, hbl⟩

def flatV (f : Fd) : List Fg → List (Value × Value) → List Value
  | g :: L, p :: ps => vC f g.mf g.off p.1 p.2 ++ flatV f L ps
  | _, _ => []
theorem flatV_push (f : Fd) (g : Fg) (p : Value × Value) : ∀ (L : List Fg) (ps : List (Value × Value)), ps.length = L.length → flatV f (L ++ [g]) (ps ++ [p]) = flatV f L ps ++ vC f g.mf g.off p.1 p.2
  | [], [], _ => by simp [flatV]
  | [], _ :: _, h => by simp at h
  | _ :: _, [], h => by simp at h
  | x :: L, q :: ps, h => by
    simp only [List.cons_append, flatV, flatV_push f g p L ps (by simpa using h), List.append_assoc]
theorem flatV_at (f : Fd) : ∀ (L : List Fg) (ps : List (Value × Value)) (j : Nat) (g : Fg) (p : Value × Value), L[j]? = some g → ps[j]? = some p → ∀ i u, (vC f g.mf g.off p.1 p.2)[i]? = some u → (flatV f L ps)[j * 17 + i]? = some u
  | [], _, j, g, p, h, _, i, u, _ => by simp at h
  | _ :: _, [], j, g, p, _, h, i, u, _ => by simp at h
  | x :: L, q :: ps, 0, g, p, hg, hp, i, u, hu => by
    simp at hg hp
    subst hg hp
    have hi := (List.getElem?_eq_some_iff.1 hu).1
    simp only [flatV, Nat.zero_mul, Nat.zero_add]
    rw [List.getElem?_append_left hi]
    exact hu
  | x :: L, q :: ps, j + 1, g, p, hg, hp, i, u, hu => by
    simp only [List.getElem?_cons_succ] at hg hp
    simp only [flatV]
    have hl : (vC f x.mf x.off q.1 q.2).length = 17 := rfl
    rw [List.getElem?_append_right (by omega), hl, show (j + 1) * 17 + i - 17 = j * 17 + i by omega]
    exact flatV_at f L ps j g p hg hp i u hu
/-- A row of datagrams of one's own, their bytes in blocks of S. -/
structure RowV (f : Fd) (base : Nat) (S : Nat → Prop) (w : World) (v : Value) (L : List Fg) : Prop where
  own : ∃ ps : List (Value × Value), ps.length = L.length ∧ w.ownsRow base 27 17 v L.length (flatV f L ps) ∧ ∀ (j : Nat) (g : Fg) (p : Value × Value), L[j]? = some g → ps[j]? = some p → BS S w p.1 g.opts ∧ BS S w p.2 g.body
theorem infoV : ∃ i, Try.prog.info? 27 = some i ∧ i.zero = some (.agg zeroV.toArray) ∧ i.size = 17 ∧ i.bytes = 80 := by
  have h : (Try.prog.info? 27).map (fun i => (i.zero, i.size, i.bytes)) = some (some (.agg zeroV.toArray), 17, 80) := by kernel_rfl
  obtain ⟨i, hi, e⟩ := Option.map_eq_some_iff.1 h
  simp only [Prod.mk.injEq] at e
  exact ⟨i, hi, e.1, e.2.1, e.2.2⟩
theorem own_same {w w' : World} {base size n : Nat} {e : TypeId} {v : Value} {xs : List Value} (h : w.ownsRow base e size v n xs) (hb : ∀ b, v.ownBlock = some b → w'.heap[b]? = w.heap[b]?) : w'.ownsRow base e size v n xs := by
  refine ⟨h.1, ?_⟩
  rcases h.2 with h2 | ⟨g, cap, cur, rfl, h1, h2, h3⟩
  · exact .inl h2
  · exact .inr ⟨g, cap, cur, rfl, h1, (hb g rfl).trans h2, h3⟩
theorem own_lt {w : World} {base size n : Nat} {e : TypeId} {v : Value} {xs : List Value} (h : w.ownsRow base e size v n xs) {b : Nat} (hb : v.ownBlock = some b) : base ≤ b ∧ b < w.heap.size := by
  rcases h.2 with ⟨rfl, _⟩ | ⟨g, cap, cur, rfl, h1, h2, h3⟩
  · simp [Value.ownBlock] at hb
  · simp [Value.ownBlock] at hb
    subst hb
    exact ⟨h1, (Array.getElem?_eq_some_iff.1 h2).1⟩
section
variable {f : Fd} {base : Nat} {S S' O : Nat → Prop} {w w' : World} {v : Value} {L : List Fg}
theorem RowV.lt (h : RowV f base S w v L) {b : Nat} (hb : v.ownBlock = some b) : base ≤ b ∧ b < w.heap.size := by
  obtain ⟨ps, _, ho, _⟩ := h
  exact own_lt ho hb
theorem RowV.slc (h : RowV f base S w v L) : ∃ a c, v = .slice a L.length c := by
  obtain ⟨ps, _, ho, _⟩ := h
  rcases ho.2 with ⟨rfl, h0⟩ | ⟨g, cap, cur, rfl, _⟩
  · rw [h0]; exact ⟨_, _, rfl⟩
  · exact ⟨_, _, rfl⟩
theorem RowV.sep (h : RowV f base S w v L) (hs : Sep O w w') (hS : ∀ b, S b → ¬ O b) (hv : ∀ b, v.ownBlock = some b → ¬ O b) : RowV f base S w' v L := by
  obtain ⟨ps, hl, ho, hb⟩ := h
  exact ⟨ps, hl, own_same ho (fun b hb => hs.same b (own_lt ho hb).2 (hv b hb)), fun j g p hg hp => ⟨(hb j g p hg hp).1.sep hs hS, (hb j g p hg hp).2.sep hs hS⟩⟩
theorem RowV.on (h : RowV f base S w v L) (hb : Below w.heap.size w w') : RowV f base S w' v L :=
  h.sep (O := fun _ => False) (Sep.of_below hb) (fun _ _ h => h) (fun _ _ h => h)
theorem RowV.mono (h : RowV f base S w v L) (hS : ∀ b, b < w.heap.size → S b → S' b) : RowV f base S' w v L := by
  obtain ⟨ps, hl, ho, hb⟩ := h
  exact ⟨ps, hl, ho, fun j g p hg hp => ⟨(hb j g p hg hp).1.mono hS, (hb j g p hg hp).2.mono hS⟩⟩
theorem RowV.nil (f : Fd) (base : Nat) (S : Nat → Prop) (w : World) : RowV f base S w (.slice none 0 0) [] := ⟨[], rfl, ⟨rfl, .inl ⟨rfl, rfl⟩⟩, fun j g p h => by simp at h⟩
theorem RowV.push (h : RowV f base S w v L) (hS : ∀ b, S b → v.ownBlock ≠ some b) (hb : base ≤ w.heap.size) (hl : L.length ≤ 100000) (g : Fg) {so sb : Value} (h1 : BS S w so g.opts) (h2 : BS S w sb g.body) (ty : TypeId) :
    ∃ v' w', (Builtin.append_ #[29, 29] ty #[v, .slice (some ⟨w.heap.size, 0, none⟩) 1 1]).run Try.prog (w.alloc (BV f g.mf g.off so sb)) = .ok v' w' ∧ RowV f base S w' v' (L ++ [g]) ∧ Sep (fun b => v.ownBlock = some b) w w' ∧ (v'.ownBlock = v.ownBlock ∨ v'.ownBlock = some (w.heap.size + 1)) := by
  obtain ⟨i, hi, hz, hsz, hby⟩ := infoV
  obtain ⟨ps, hpl, ho, hbs⟩ := h
  have hB1 := (Below.refl w.heap.size w).alloc (Nat.le_refl _) (BV f g.mf g.off so sb)
  have ho1 : (w.alloc (BV f g.mf g.off so sb)).ownsRow base 27 17 v L.length (flatV f L ps) := own_same ho (fun b hb' => hB1.block b (own_lt ho hb').2)
  obtain ⟨v', w', hrun, hown, hgr, _, hat⟩ := run_append_own_at (P := Try.prog) (w.alloc (BV f g.mf g.off so sb)) base 29 ty 27 i (.agg zeroV.toArray) 17 80 Try.underlying29 hi hz hsz hby rfl (by decide) v L.length (flatV f L ps) ho1 ⟨w.heap.size, 0, none⟩ 1 1 (vC f g.mf g.off so sb) rfl
    (fun j u hj => by
      rw [Go.WideShapes.add_plain]
      have := CellsAt.of_blk (blk_new w (BV f g.mf g.off so sb)) j u hj
      simpa using this) (vC_one f g.mf g.off h1.one h2.one) (by unfold maxLen; omega) (by omega) (by simp; omega)
  have hs1 : Sep (fun b => v.ownBlock = some b) (w.alloc (BV f g.mf g.off so sb)) w' := ⟨hgr.os, hgr.tape, hgr.output, hgr.size, fun b hb' hn => hgr.block b hb' (fun e => hn e.symm)⟩
  have hsep : Sep (fun b => v.ownBlock = some b) w w' := (Sep.of_below hB1).trans hs1
  refine ⟨v', w', hrun, ⟨ps ++ [(so, sb)], by simp [hpl], ?_, fun j g' p' hg hp => ?_⟩, hsep, by rw [World.size_alloc] at hat; exact hat⟩
  · rw [flatV_push f g (so, sb) L ps hpl, List.length_append]
    exact hown
  · by_cases hj : j < L.length
    · rw [List.getElem?_append_left hj] at hg
      rw [List.getElem?_append_left (by omega)] at hp
      exact ⟨(hbs j g' p' hg hp).1.sep hsep (fun b hb' e => hS b hb' e), (hbs j g' p' hg hp).2.sep hsep (fun b hb' e => hS b hb' e)⟩
    · have hjl := (List.getElem?_eq_some_iff.1 hg).1
      simp at hjl
      obtain rfl : j = L.length := by omega
      rw [List.getElem?_append_right (Nat.le_refl _), Nat.sub_self] at hg
      rw [List.getElem?_append_right (by omega), hpl, Nat.sub_self] at hp
      simp at hg hp
      subst hg hp
      exact ⟨h1.sep hsep (fun b hb' e => hS b hb' e), h2.sep hsep (fun b hb' e => hS b hb' e)⟩
end
/-- The datagrams of a row, cell by cell. -/
theorem RowV.at {f : Fd} {base : Nat} {S : Nat → Prop} {w : World} {v : Value} {L : List Fg} (h : RowV f base S w v L) {j : Nat} {g : Fg} (hg : L[j]? = some g) :
    ∃ b c so sb, v = .slice (some ⟨b, 0, none⟩) L.length c ∧ b < w.heap.size ∧ base ≤ b ∧ CellsAt w b (j * 17) (vC f g.mf g.off so sb) ∧ BS S w so g.opts ∧ BS S w sb g.body := by
  obtain ⟨ps, hl, ho, hb⟩ := h
  have hjl := (List.getElem?_eq_some_iff.1 hg).1
  obtain ⟨p, hp⟩ : ∃ p, ps[j]? = some p := ⟨ps[j]'(by omega), by simp⟩
  rcases ho.2 with ⟨_, h0⟩ | ⟨b, c, cur, rfl, h1, h2, h3⟩
  · omega
  · refine ⟨b, c, p.1, p.2, rfl, (Array.getElem?_eq_some_iff.1 h2).1, h1, fun i u hu => ?_, hb j g p hg hp⟩
    have := ho.cells (g := b) rfl (j * 17 + i) u (flatV_at f L ps j g p hg hp i u hu)
    rw [Go.WideShapes.add_plain] at this
    simpa using this

end Go.Proofs.Ytackllcfnlhkpaa
