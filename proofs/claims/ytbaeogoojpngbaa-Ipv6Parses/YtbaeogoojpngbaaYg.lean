/-
  head of package ipv6.
-/
import Derived.Test.YtbaeogoojpngbaaYf
namespace Go.Proofs.Ytbaeogoojpngbaa
open Go Go.RowKit
set_option linter.unusedVariables false
set_option linter.unusedSimpArgs false

section
variable {S O : Nat → Prop} {W W' : World} {R : Nat} {rest : List Int} {at' : Nat} {c : List Value} {nx : Int} {left : Value} {f : F6} {g : G6} {vh vb : Value} {hs : Opts} {ds : List Value} {bs : Nat}
theorem RB.sep (h : RB S W R rest at' c nx left) (hs : Sep O W W') (hR : ¬ O R) (hS : ∀ b, S b → ¬ O b) : RB S W' R rest at' c nx left :=
  ⟨hs.blk h.box hR, h.byt.sep hs hS, h.ne, h.hi⟩
theorem RB.k44 (h : RB S W R rest at' c nx left) (hc : c.length = 42) : W.cell? ⟨R, 44, none⟩ = some (.int .u8 nx) := by
  have e : (c ++ [Value.int .u8 nx])[42]? = some (.int .u8 nx) := by
    rw [List.getElem?_append_right (by rw [hc]; exact Nat.le_refl _), hc]
    rfl
  exact blk_cell h.box e
theorem box_k44 {l : Value} (h : W.heap[R]? = some (RBox l at' (vC f g vh vb) nx)) : W.cell? ⟨R, 44, none⟩ = some (.int .u8 nx) := by
  have e : (vC f g vh vb ++ [Value.int .u8 nx])[42]? = some (.int .u8 nx) := by
    rw [List.getElem?_append_right (by rw [vC_len]; exact Nat.le_refl _), vC_len]
    rfl
  exact blk_cell h e
theorem vC35 (x : Value) : (vC f g vh vb).set 35 x = vC f g x vb := vC_set 0 _
set_option maxHeartbeats 8000000 in
set_option maxRecDepth 100000 in
theorem head_calls (h : RB S W R rest at' (vC f g vh vb) nx left) (hS : ∀ b, S b → b < R) (hrow : HRow bs W vh hs ds) (hbs : R < bs ∧ bs ≤ W.heap.size) (hn8 : hs.length ≤ 8) (hlim : at' + 3000 ≤ 1000000000000000) (hnx : 0 ≤ nx ∧ nx < 256) (X : Ending → World → Prop)
    (x1 : rest.length < 8 → ∀ w', Below W.heap.size W w' → X (.panicked [fltP at' 50]) w')
    (x2 : 8 ≤ rest.length → rest.length < szH rest → ∀ w', Below W.heap.size W w' → X (.panicked [fltP at' 50]) w')
    (x3 : 8 ≤ rest.length → szH rest ≤ rest.length → ¬ (hs.length < 8 ∧ kindB nx hs.length = true) → ∀ w', Below W.heap.size W w' → X (.panicked [fltP at' 53]) w')
    (x4 : 8 ≤ rest.length → szH rest ≤ rest.length → hs.length < 8 ∧ kindB nx hs.length = true → ∀ w' left' vh' ds', RB S w' R (rest.drop (szH rest)) (at' + szH rest) (vC f g vh' vb) (gz rest 0) left' → HRow bs w' vh' (hs ++ [(nx, (rest.take (szH rest)).drop 2)]) ds' → Sep (fun b => b = R ∨ bs ≤ b) W w' → X (.returned (.tuple #[])) w') :
    Calls Try.prog 48 #[.pointer (some ⟨R, 0, none⟩)] W X := by
  obtain ⟨va, vc, ev⟩ := hrow.slc
  subst ev
  obtain ⟨vn, hvn⟩ : ∃ n, hs.length = n := ⟨_, rfl⟩
  have HVN : Hid (hs.length = vn ∧ vn ≤ 8) := ⟨hvn, hvn ▸ hn8⟩
  rw [hvn] at h hrow x3 x4
  have HNX : Hid (0 ≤ nx ∧ nx < 256) := hnx
  have HBS : Hid (R < bs ∧ bs ≤ W.heap.size) := hbs
  have HSR : Hid (∀ b, S b → b < R) := hS
  have HX2 : Hid _ := x2
  have HX3 : Hid _ := x3
  have HX4 : Hid _ := x4
  have HX1 : Hid _ := x1
  clear x1 x2 x3 x4 hvn hn8 hnx hS hbs
  by_cases h8 : rest.length < 8
  · obtain ⟨_, _, la, lc, e, _⟩ := h.byt.row
    subst e
    have HF : Hid (∀ w', Below W.heap.size W w' → X (.panicked [fltP at' 50]) w') := HX1.out h8
    obtain ⟨nl, hnl⟩ : ∃ nl, rest.length = nl := ⟨_, rfl⟩
    rw [hnl] at h h8
    have HBX : Hid (W.heap[R]? = some (RBox (.slice la nl lc) at' (vC f g (.slice va vn vc) vb) nx)) := h.box
    have hdec : decide ((8 : Int) ≤ (nl : Int)) = false := by simp; omega
    clear h h8 HX1 HX2 HX3 HX4 hrow hlim HVN HNX HSR
    go_enter Try.func48, Try.ntmps48
    go_wp2_with fail
    refine region_end (fun _ _ _ => False) (fun c b w' => c = [fltP at' 50] ∧ w' = W.drew ∧ b.defers = []) ?_ (fun _ _ h => h.elim) ?_
    · skip
      refine wp_region_held (S := fun X => X.heap[R]? = some (RBox (.slice la nl lc) at' (vC f g (.slice va vn vc) vb) nx)) (by kernel_rfl) ?_
      show wpAnyH _ _ _ _ _ 13 (Array.replicate 13 false) _ _
      have hs0 : W.drew.heap[R]? = some (RBox (.slice la nl lc) at' (vC f g (.slice va vn vc) vb) nx) := HBX.out
      refine take_one (i := 0) (d := some 5) (v := .pointer (some ⟨R, 0, none⟩)) rfl rfl rfl (by kernel_rfl) (by kernel_rfl) (by kernel_rfl) (fun _ _ d _ _ h => ⟨h.1, h.2.1, by cases d <;> exact h.2.2⟩) (fun W hS => by kernel_rfl) hs0 ?_
      simp only [Act.put, List.setIfInBounds_toArray, List.set_cons_zero, List.set_cons_succ]
      refine take_one (i := 1) (d := some 6) (v := .pointer (some ⟨R, 0, none⟩)) rfl rfl rfl (by kernel_rfl) (by kernel_rfl) (by kernel_rfl) (fun _ _ d _ _ h => ⟨h.1, h.2.1, by cases d <;> exact h.2.2⟩) (fun W hS => by kernel_rfl) hs0 ?_
      simp only [Act.put, List.setIfInBounds_toArray, List.set_cons_zero, List.set_cons_succ]
      refine take_one (i := 2) (d := some 7) (v := .pointer (some ⟨R, 0, none⟩)) rfl rfl rfl (by kernel_rfl) (by kernel_rfl) (by kernel_rfl) (fun _ _ d _ _ h => ⟨h.1, h.2.1, by cases d <;> exact h.2.2⟩) (fun W hS => by kernel_rfl) hs0 ?_
      simp only [Act.put, List.setIfInBounds_toArray, List.set_cons_zero, List.set_cons_succ]
      refine take_one (i := 3) (d := some 8) (v := .pointer (some ⟨R, 0, none⟩)) rfl rfl rfl (by kernel_rfl) (by kernel_rfl) (by kernel_rfl) (fun _ _ d _ _ h => ⟨h.1, h.2.1, by cases d <;> exact h.2.2⟩) (fun W hS => by kernel_rfl) hs0 ?_
      simp only [Act.put, List.setIfInBounds_toArray, List.set_cons_zero, List.set_cons_succ]
      refine take_one (i := 4) (d := some 9) (v := .slice la nl lc) rfl rfl rfl (by kernel_rfl) (by kernel_rfl) (by kernel_rfl) (fun _ _ d _ _ h => ⟨h.1, h.2.1, by cases d <;> exact h.2.2⟩) (fun W hS => ex_load 8 rfl rfl (blk_cell hS (j := 0) rfl) ⟨_, _, _, rfl⟩) hs0 ?_
      simp only [Act.put, List.setIfInBounds_toArray, List.set_cons_zero, List.set_cons_succ]
      refine take_one (i := 5) (d := some 10) (v := .int .i64 (nl : Int)) rfl rfl rfl (by kernel_rfl) (by kernel_rfl) (by kernel_rfl) (fun _ _ d _ _ h => ⟨h.1, h.2.1, by cases d <;> exact h.2.2⟩) (fun W hS => by kernel_rfl) hs0 ?_
      simp only [Act.put, List.setIfInBounds_toArray, List.set_cons_zero, List.set_cons_succ]
      refine take_one (i := 6) (d := some 11) (v := .bool false) rfl rfl rfl (by kernel_rfl) (by kernel_rfl) (by kernel_rfl) (fun _ _ d _ _ h => ⟨h.1, h.2.1, by cases d <;> exact h.2.2⟩) (fun W hS => ex_geqI (.tmp 10) (.const (.int .i64 8)) rfl rfl rfl hdec) hs0 ?_
      simp only [Act.put, List.setIfInBounds_toArray, List.set_cons_zero, List.set_cons_succ]
      refine take_one (i := 7) (d := some 12) (v := .pointer (some ⟨R, 0, none⟩)) rfl rfl rfl (by kernel_rfl) (by kernel_rfl) (by kernel_rfl) (fun _ _ d _ _ h => ⟨h.1, h.2.1, by cases d <;> exact h.2.2⟩) (fun W hS => by kernel_rfl) hs0 ?_
      simp only [Act.put, List.setIfInBounds_toArray, List.set_cons_zero, List.set_cons_succ]
      refine take_one (i := 8) (d := some 13) (v := .pointer (some ⟨R, 0, none⟩)) rfl rfl rfl (by kernel_rfl) (by kernel_rfl) (by kernel_rfl) (fun _ _ d _ _ h => ⟨h.1, h.2.1, by cases d <;> exact h.2.2⟩) (fun W hS => by kernel_rfl) hs0 ?_
      simp only [Act.put, List.setIfInBounds_toArray, List.set_cons_zero, List.set_cons_succ]
      refine take_one (i := 9) (d := some 14) (v := .pointer (some ⟨R, 0, none⟩)) rfl rfl rfl (by kernel_rfl) (by kernel_rfl) (by kernel_rfl) (fun _ _ d _ _ h => ⟨h.1, h.2.1, by cases d <;> exact h.2.2⟩) (fun W hS => by kernel_rfl) hs0 ?_
      simp only [Act.put, List.setIfInBounds_toArray, List.set_cons_zero, List.set_cons_succ]
      refine take_one (i := 10) (d := some 15) (v := .pointer (some ⟨R, 1, none⟩)) rfl rfl rfl (by kernel_rfl) (by kernel_rfl) (by kernel_rfl) (fun _ _ d _ _ h => ⟨h.1, h.2.1, by cases d <;> exact h.2.2⟩) (fun W hS => by kernel_rfl) hs0 ?_
      simp only [Act.put, List.setIfInBounds_toArray, List.set_cons_zero, List.set_cons_succ]
      refine take_one (i := 11) (d := some 16) (v := .int .i64 (at' : Int)) rfl rfl rfl (by kernel_rfl) (by kernel_rfl) (by kernel_rfl) (fun _ _ d _ _ h => ⟨h.1, h.2.1, by cases d <;> exact h.2.2⟩) (fun W hS => ex_loadA (.tmp 15) 3 rfl rfl (ld_int (blk_cell hS (j := 1) rfl))) hs0 ?_
      simp only [Act.put, List.setIfInBounds_toArray, List.set_cons_zero, List.set_cons_succ]
      refine all_one (i := 12) (by kernel_rfl) rfl rfl ?_
      refine wp_callP 32 _ (by kernel_rfl) (must_bad at' 50 _) ⟨rfl, rfl, rfl⟩
    · rintro c a' w' ⟨rfl, rfl, hd⟩
      exact ⟨hd, HF.out _ ((Below.refl _ W).drew)⟩
  · have h8' : 8 ≤ rest.length := by omega
    obtain ⟨lb, lo, n', lc, ev, _, hcell⟩ := h.byt.first (by omega)
    subst ev
    have f0 := gz_fit h.byt.row.fit 0
    have f1 := gz_fit h.byt.row.fit 1
    obtain ⟨G1, hG1⟩ : ∃ G, gz rest 1 = G := ⟨_, rfl⟩
    obtain ⟨G0, hG0⟩ : ∃ G, gz rest 0 = G := ⟨_, rfl⟩
    have hc1 := hcell 1 (by omega)
    rw [hG1] at hc1 f1
    rw [hG0] at f0
    obtain ⟨sz, hsz⟩ : ∃ s, szH rest = s := ⟨_, rfl⟩
    have hszG : (sz : Int) = (G1 + 1) * 8 := by
      rw [← hsz]
      unfold szH
      rw [hG1]
      omega
    have w26 : IntKind.i64.wrap (G1 + 1) = G1 + 1 := wrapi64 _ (by omega)
    have w27 : IntKind.i64.wrap ((G1 + 1) * 8) = (sz : Int) := by rw [← hszG]; exact wrapi64 _ (by omega)
    have HSZB : Hid (8 ≤ sz ∧ sz ≤ 2048) := ⟨by omega, by omega⟩
    obtain ⟨nl, hnl⟩ : ∃ nl, rest.length = nl := ⟨_, rfl⟩
    have HNL : Hid (rest.length = nl ∧ 8 ≤ nl) := ⟨hnl, by omega⟩
    rw [hsz] at HX2 HX3 HX4
    rw [hG0] at HX4
    have HG0 : Hid (gz rest 0 = G0) := hG0
    rw [hnl] at h h8'
    have HBX : Hid (W.heap[R]? = some (RBox (.slice (some ⟨lb, lo, none⟩) nl lc) at' (vC f g (.slice va vn vc) vb) nx)) := h.box
    have HR1 : Hid (RB S W.drew R rest at' (vC f g (.slice va vn vc) vb) nx (.slice (some ⟨lb, lo, none⟩) nl lc)) := h.on ((Below.refl _ W).drew)
    have HRW : Hid (HRow bs W.drew (.slice va vn vc) hs ds) := hrow.on ((Below.refl _ W).drew)
    have HB1 : Hid (Below W.heap.size W W.drew) := (Below.refl _ W).drew
    have hdec : decide ((8 : Int) ≤ (nl : Int)) = true := by simp; omega
    have hc1' : W.drew.cell? ⟨lb, lo + 1, none⟩ = some (.int .u8 G1) := hc1
    have HLIM : Hid _ := hlim
    have i1 : 1 < nl := by omega
    clear h h8 h8' HX1 hrow hlim hcell hc1 hG1 hG0 hsz hnl hszG
    go_enter Try.func48, Try.ntmps48
    go_wp2_with fail
    refine region_end (fun a0 a' w' => a' = (((((((((((((a0.put (some 5) (.pointer (some ⟨R, 0, none⟩))).put (some 6) (.pointer (some ⟨R, 0, none⟩))).put (some 7) (.pointer (some ⟨R, 0, none⟩))).put (some 8) (.pointer (some ⟨R, 0, none⟩))).put (some 9) (.slice (some ⟨lb, lo, none⟩) nl lc)).put (some 10) (.int .i64 (nl : Int))).put (some 11) (.bool true)).put (some 12) (.pointer (some ⟨R, 0, none⟩))).put (some 13) (.pointer (some ⟨R, 0, none⟩))).put (some 14) (.pointer (some ⟨R, 0, none⟩))).put (some 15) (.pointer (some ⟨R, 1, none⟩))).put (some 16) (.int .i64 (at' : Int))).put (some 17) (.tuple #[])) ∧ w' = W.drew) (fun _ _ _ => False) ?_ ?_ (fun _ _ _ h => h.elim)
    · skip
      refine wp_region_held (S := fun X => X.heap[R]? = some (RBox (.slice (some ⟨lb, lo, none⟩) nl lc) at' (vC f g (.slice va vn vc) vb) nx)) (by kernel_rfl) ?_
      show wpAnyH _ _ _ _ _ 13 (Array.replicate 13 false) _ _
      have hs0 : W.drew.heap[R]? = some (RBox (.slice (some ⟨lb, lo, none⟩) nl lc) at' (vC f g (.slice va vn vc) vb) nx) := HBX.out
      refine take_one (i := 0) (d := some 5) (v := .pointer (some ⟨R, 0, none⟩)) rfl rfl rfl (by kernel_rfl) (by kernel_rfl) (by kernel_rfl) (fun _ _ _ _ _ h => h.elim) (fun W hS => by kernel_rfl) hs0 ?_
      simp only [Act.put, List.setIfInBounds_toArray, List.set_cons_zero, List.set_cons_succ]
      refine take_one (i := 1) (d := some 6) (v := .pointer (some ⟨R, 0, none⟩)) rfl rfl rfl (by kernel_rfl) (by kernel_rfl) (by kernel_rfl) (fun _ _ _ _ _ h => h.elim) (fun W hS => by kernel_rfl) hs0 ?_
      simp only [Act.put, List.setIfInBounds_toArray, List.set_cons_zero, List.set_cons_succ]
      refine take_one (i := 2) (d := some 7) (v := .pointer (some ⟨R, 0, none⟩)) rfl rfl rfl (by kernel_rfl) (by kernel_rfl) (by kernel_rfl) (fun _ _ _ _ _ h => h.elim) (fun W hS => by kernel_rfl) hs0 ?_
      simp only [Act.put, List.setIfInBounds_toArray, List.set_cons_zero, List.set_cons_succ]
      refine take_one (i := 3) (d := some 8) (v := .pointer (some ⟨R, 0, none⟩)) rfl rfl rfl (by kernel_rfl) (by kernel_rfl) (by kernel_rfl) (fun _ _ _ _ _ h => h.elim) (fun W hS => by kernel_rfl) hs0 ?_
      simp only [Act.put, List.setIfInBounds_toArray, List.set_cons_zero, List.set_cons_succ]
      refine take_one (i := 4) (d := some 9) (v := .slice (some ⟨lb, lo, none⟩) nl lc) rfl rfl rfl (by kernel_rfl) (by kernel_rfl) (by kernel_rfl) (fun _ _ _ _ _ h => h.elim) (fun W hS => ex_load 8 rfl rfl (blk_cell hS (j := 0) rfl) ⟨_, _, _, rfl⟩) hs0 ?_
      simp only [Act.put, List.setIfInBounds_toArray, List.set_cons_zero, List.set_cons_succ]
      refine take_one (i := 5) (d := some 10) (v := .int .i64 (nl : Int)) rfl rfl rfl (by kernel_rfl) (by kernel_rfl) (by kernel_rfl) (fun _ _ _ _ _ h => h.elim) (fun W hS => by kernel_rfl) hs0 ?_
      simp only [Act.put, List.setIfInBounds_toArray, List.set_cons_zero, List.set_cons_succ]
      refine take_one (i := 6) (d := some 11) (v := .bool true) rfl rfl rfl (by kernel_rfl) (by kernel_rfl) (by kernel_rfl) (fun _ _ _ _ _ h => h.elim) (fun W hS => ex_geqI (.tmp 10) (.const (.int .i64 8)) rfl rfl rfl hdec) hs0 ?_
      simp only [Act.put, List.setIfInBounds_toArray, List.set_cons_zero, List.set_cons_succ]
      refine take_one (i := 7) (d := some 12) (v := .pointer (some ⟨R, 0, none⟩)) rfl rfl rfl (by kernel_rfl) (by kernel_rfl) (by kernel_rfl) (fun _ _ _ _ _ h => h.elim) (fun W hS => by kernel_rfl) hs0 ?_
      simp only [Act.put, List.setIfInBounds_toArray, List.set_cons_zero, List.set_cons_succ]
      refine take_one (i := 8) (d := some 13) (v := .pointer (some ⟨R, 0, none⟩)) rfl rfl rfl (by kernel_rfl) (by kernel_rfl) (by kernel_rfl) (fun _ _ _ _ _ h => h.elim) (fun W hS => by kernel_rfl) hs0 ?_
      simp only [Act.put, List.setIfInBounds_toArray, List.set_cons_zero, List.set_cons_succ]
      refine take_one (i := 9) (d := some 14) (v := .pointer (some ⟨R, 0, none⟩)) rfl rfl rfl (by kernel_rfl) (by kernel_rfl) (by kernel_rfl) (fun _ _ _ _ _ h => h.elim) (fun W hS => by kernel_rfl) hs0 ?_
      simp only [Act.put, List.setIfInBounds_toArray, List.set_cons_zero, List.set_cons_succ]
      refine take_one (i := 10) (d := some 15) (v := .pointer (some ⟨R, 1, none⟩)) rfl rfl rfl (by kernel_rfl) (by kernel_rfl) (by kernel_rfl) (fun _ _ _ _ _ h => h.elim) (fun W hS => by kernel_rfl) hs0 ?_
      simp only [Act.put, List.setIfInBounds_toArray, List.set_cons_zero, List.set_cons_succ]
      refine take_one (i := 11) (d := some 16) (v := .int .i64 (at' : Int)) rfl rfl rfl (by kernel_rfl) (by kernel_rfl) (by kernel_rfl) (fun _ _ _ _ _ h => h.elim) (fun W hS => ex_loadA (.tmp 15) 3 rfl rfl (ld_int (blk_cell hS (j := 1) rfl))) hs0 ?_
      simp only [Act.put, List.setIfInBounds_toArray, List.set_cons_zero, List.set_cons_succ]
      refine all_one (i := 12) (by kernel_rfl) rfl rfl ?_
      refine wp_call (d := some 17) (R := fun v X => v = .tuple #[] ∧ X = W.drew) 32 _ rfl (by kernel_rfl) ((must_good at' 50 _).mono (fun e X hx => ⟨_, hx.1, rfl, hx.2⟩)) ?_
      rintro v X ⟨rfl, rfl⟩
      refine ⟨hs0, ?_⟩
      simp only [Act.put, List.setIfInBounds_toArray, List.set_cons_zero, List.set_cons_succ]
      refine wpAnyH_done (by kernel_rfl) ?_ _
      exact ⟨rfl, rfl⟩
    rintro a' w' ⟨rfl, rfl⟩
    simp only [Act.put, List.setIfInBounds_toArray, List.set_cons_zero, List.set_cons_succ]
    clear hdec HBX
    obtain ⟨W1, hW1⟩ : ∃ W1, W.drew = W1 := ⟨_, rfl⟩
    rw [hW1] at HR1 HRW HB1 hc1' ⊢
    clear hW1
    have k0 := HR1.out.k0
    go_wp2_with fail
    clear k0 hc1' w26 w27 i1
    have HBX1 : Hid (W1.heap[R]? = some (RBox (.slice (some ⟨lb, lo, none⟩) nl lc) at' (vC f g (.slice va vn vc) vb) nx)) := HR1.out.box
    by_cases hz : nl < sz
    · have hdec : decide ((sz : Int) ≤ (nl : Int)) = false := by simp; omega
      refine region_end (fun _ _ _ => False) (fun c b w' => c = [fltP at' 50] ∧ w' = W1.drew ∧ b.defers = []) ?_ (fun _ _ h => h.elim) ?_
      · skip
        refine wp_region_held (S := fun X => X.heap[R]? = some (RBox (.slice (some ⟨lb, lo, none⟩) nl lc) at' (vC f g (.slice va vn vc) vb) nx)) (by kernel_rfl) ?_
        show wpAnyH _ _ _ _ _ 14 (Array.replicate 14 false) _ _
        have hs0 : W1.drew.heap[R]? = some (RBox (.slice (some ⟨lb, lo, none⟩) nl lc) at' (vC f g (.slice va vn vc) vb) nx) := HBX1.out
        refine take_one (i := 0) (d := some 28) (v := .pointer (some ⟨R, 0, none⟩)) rfl rfl rfl (by kernel_rfl) (by kernel_rfl) (by kernel_rfl) (fun _ _ d _ _ h => ⟨h.1, h.2.1, by cases d <;> exact h.2.2⟩) (fun W hS => by kernel_rfl) hs0 ?_
        simp only [Act.put, List.setIfInBounds_toArray, List.set_cons_zero, List.set_cons_succ]
        refine take_one (i := 1) (d := some 29) (v := .pointer (some ⟨R, 0, none⟩)) rfl rfl rfl (by kernel_rfl) (by kernel_rfl) (by kernel_rfl) (fun _ _ d _ _ h => ⟨h.1, h.2.1, by cases d <;> exact h.2.2⟩) (fun W hS => by kernel_rfl) hs0 ?_
        simp only [Act.put, List.setIfInBounds_toArray, List.set_cons_zero, List.set_cons_succ]
        refine take_one (i := 2) (d := some 30) (v := .pointer (some ⟨R, 0, none⟩)) rfl rfl rfl (by kernel_rfl) (by kernel_rfl) (by kernel_rfl) (fun _ _ d _ _ h => ⟨h.1, h.2.1, by cases d <;> exact h.2.2⟩) (fun W hS => by kernel_rfl) hs0 ?_
        simp only [Act.put, List.setIfInBounds_toArray, List.set_cons_zero, List.set_cons_succ]
        refine take_one (i := 3) (d := some 31) (v := .pointer (some ⟨R, 0, none⟩)) rfl rfl rfl (by kernel_rfl) (by kernel_rfl) (by kernel_rfl) (fun _ _ d _ _ h => ⟨h.1, h.2.1, by cases d <;> exact h.2.2⟩) (fun W hS => by kernel_rfl) hs0 ?_
        simp only [Act.put, List.setIfInBounds_toArray, List.set_cons_zero, List.set_cons_succ]
        refine take_one (i := 4) (d := some 32) (v := .slice (some ⟨lb, lo, none⟩) nl lc) rfl rfl rfl (by kernel_rfl) (by kernel_rfl) (by kernel_rfl) (fun _ _ d _ _ h => ⟨h.1, h.2.1, by cases d <;> exact h.2.2⟩) (fun W hS => ex_load 31 rfl rfl (blk_cell hS (j := 0) rfl) ⟨_, _, _, rfl⟩) hs0 ?_
        simp only [Act.put, List.setIfInBounds_toArray, List.set_cons_zero, List.set_cons_succ]
        refine take_one (i := 5) (d := some 33) (v := .int .i64 (nl : Int)) rfl rfl rfl (by kernel_rfl) (by kernel_rfl) (by kernel_rfl) (fun _ _ d _ _ h => ⟨h.1, h.2.1, by cases d <;> exact h.2.2⟩) (fun W hS => by kernel_rfl) hs0 ?_
        simp only [Act.put, List.setIfInBounds_toArray, List.set_cons_zero, List.set_cons_succ]
        refine take_one (i := 6) (d := some 34) (v := .int .i64 (sz : Int)) rfl rfl rfl (by kernel_rfl) (by kernel_rfl) (by kernel_rfl) (fun _ _ d _ _ h => ⟨h.1, h.2.1, by cases d <;> exact h.2.2⟩) (fun W hS => by kernel_rfl) hs0 ?_
        simp only [Act.put, List.setIfInBounds_toArray, List.set_cons_zero, List.set_cons_succ]
        refine take_one (i := 7) (d := some 35) (v := .bool false) rfl rfl rfl (by kernel_rfl) (by kernel_rfl) (by kernel_rfl) (fun _ _ d _ _ h => ⟨h.1, h.2.1, by cases d <;> exact h.2.2⟩) (fun W hS => ex_geqI (.tmp 33) (.tmp 34) rfl rfl rfl hdec) hs0 ?_
        simp only [Act.put, List.setIfInBounds_toArray, List.set_cons_zero, List.set_cons_succ]
        refine take_one (i := 8) (d := some 36) (v := .pointer (some ⟨R, 0, none⟩)) rfl rfl rfl (by kernel_rfl) (by kernel_rfl) (by kernel_rfl) (fun _ _ d _ _ h => ⟨h.1, h.2.1, by cases d <;> exact h.2.2⟩) (fun W hS => by kernel_rfl) hs0 ?_
        simp only [Act.put, List.setIfInBounds_toArray, List.set_cons_zero, List.set_cons_succ]
        refine take_one (i := 9) (d := some 37) (v := .pointer (some ⟨R, 0, none⟩)) rfl rfl rfl (by kernel_rfl) (by kernel_rfl) (by kernel_rfl) (fun _ _ d _ _ h => ⟨h.1, h.2.1, by cases d <;> exact h.2.2⟩) (fun W hS => by kernel_rfl) hs0 ?_
        simp only [Act.put, List.setIfInBounds_toArray, List.set_cons_zero, List.set_cons_succ]
        refine take_one (i := 10) (d := some 38) (v := .pointer (some ⟨R, 0, none⟩)) rfl rfl rfl (by kernel_rfl) (by kernel_rfl) (by kernel_rfl) (fun _ _ d _ _ h => ⟨h.1, h.2.1, by cases d <;> exact h.2.2⟩) (fun W hS => by kernel_rfl) hs0 ?_
        simp only [Act.put, List.setIfInBounds_toArray, List.set_cons_zero, List.set_cons_succ]
        refine take_one (i := 11) (d := some 39) (v := .pointer (some ⟨R, 1, none⟩)) rfl rfl rfl (by kernel_rfl) (by kernel_rfl) (by kernel_rfl) (fun _ _ d _ _ h => ⟨h.1, h.2.1, by cases d <;> exact h.2.2⟩) (fun W hS => by kernel_rfl) hs0 ?_
        simp only [Act.put, List.setIfInBounds_toArray, List.set_cons_zero, List.set_cons_succ]
        refine take_one (i := 12) (d := some 40) (v := .int .i64 (at' : Int)) rfl rfl rfl (by kernel_rfl) (by kernel_rfl) (by kernel_rfl) (fun _ _ d _ _ h => ⟨h.1, h.2.1, by cases d <;> exact h.2.2⟩) (fun W hS => ex_loadA (.tmp 39) 3 rfl rfl (ld_int (blk_cell hS (j := 1) rfl))) hs0 ?_
        simp only [Act.put, List.setIfInBounds_toArray, List.set_cons_zero, List.set_cons_succ]
        refine all_one (i := 13) (by kernel_rfl) rfl rfl ?_
        refine wp_callP 32 _ (by kernel_rfl) (must_bad at' 50 _) ⟨rfl, rfl, rfl⟩
      · rintro c a' w' ⟨rfl, rfl, hd⟩
        exact ⟨hd, HX2.out (by rw [HNL.out.1]; exact HNL.out.2) (by rw [HNL.out.1]; exact hz) _ HB1.out.drew⟩
    · have hdec : decide ((sz : Int) ≤ (nl : Int)) = true := by simp; omega
      refine region_end (fun a0 a' w' => a' = ((((((((((((((a0.put (some 28) (.pointer (some ⟨R, 0, none⟩))).put (some 29) (.pointer (some ⟨R, 0, none⟩))).put (some 30) (.pointer (some ⟨R, 0, none⟩))).put (some 31) (.pointer (some ⟨R, 0, none⟩))).put (some 32) (.slice (some ⟨lb, lo, none⟩) nl lc)).put (some 33) (.int .i64 (nl : Int))).put (some 34) (.int .i64 (sz : Int))).put (some 35) (.bool true)).put (some 36) (.pointer (some ⟨R, 0, none⟩))).put (some 37) (.pointer (some ⟨R, 0, none⟩))).put (some 38) (.pointer (some ⟨R, 0, none⟩))).put (some 39) (.pointer (some ⟨R, 1, none⟩))).put (some 40) (.int .i64 (at' : Int))).put (some 41) (.tuple #[])) ∧ w' = W1.drew) (fun _ _ _ => False) ?_ ?_ (fun _ _ _ h => h.elim)
      · skip
        refine wp_region_held (S := fun X => X.heap[R]? = some (RBox (.slice (some ⟨lb, lo, none⟩) nl lc) at' (vC f g (.slice va vn vc) vb) nx)) (by kernel_rfl) ?_
        show wpAnyH _ _ _ _ _ 14 (Array.replicate 14 false) _ _
        have hs0 : W1.drew.heap[R]? = some (RBox (.slice (some ⟨lb, lo, none⟩) nl lc) at' (vC f g (.slice va vn vc) vb) nx) := HBX1.out
        refine take_one (i := 0) (d := some 28) (v := .pointer (some ⟨R, 0, none⟩)) rfl rfl rfl (by kernel_rfl) (by kernel_rfl) (by kernel_rfl) (fun _ _ _ _ _ h => h.elim) (fun W hS => by kernel_rfl) hs0 ?_
        simp only [Act.put, List.setIfInBounds_toArray, List.set_cons_zero, List.set_cons_succ]
        refine take_one (i := 1) (d := some 29) (v := .pointer (some ⟨R, 0, none⟩)) rfl rfl rfl (by kernel_rfl) (by kernel_rfl) (by kernel_rfl) (fun _ _ _ _ _ h => h.elim) (fun W hS => by kernel_rfl) hs0 ?_
        simp only [Act.put, List.setIfInBounds_toArray, List.set_cons_zero, List.set_cons_succ]
        refine take_one (i := 2) (d := some 30) (v := .pointer (some ⟨R, 0, none⟩)) rfl rfl rfl (by kernel_rfl) (by kernel_rfl) (by kernel_rfl) (fun _ _ _ _ _ h => h.elim) (fun W hS => by kernel_rfl) hs0 ?_
        simp only [Act.put, List.setIfInBounds_toArray, List.set_cons_zero, List.set_cons_succ]
        refine take_one (i := 3) (d := some 31) (v := .pointer (some ⟨R, 0, none⟩)) rfl rfl rfl (by kernel_rfl) (by kernel_rfl) (by kernel_rfl) (fun _ _ _ _ _ h => h.elim) (fun W hS => by kernel_rfl) hs0 ?_
        simp only [Act.put, List.setIfInBounds_toArray, List.set_cons_zero, List.set_cons_succ]
        refine take_one (i := 4) (d := some 32) (v := .slice (some ⟨lb, lo, none⟩) nl lc) rfl rfl rfl (by kernel_rfl) (by kernel_rfl) (by kernel_rfl) (fun _ _ _ _ _ h => h.elim) (fun W hS => ex_load 31 rfl rfl (blk_cell hS (j := 0) rfl) ⟨_, _, _, rfl⟩) hs0 ?_
        simp only [Act.put, List.setIfInBounds_toArray, List.set_cons_zero, List.set_cons_succ]
        refine take_one (i := 5) (d := some 33) (v := .int .i64 (nl : Int)) rfl rfl rfl (by kernel_rfl) (by kernel_rfl) (by kernel_rfl) (fun _ _ _ _ _ h => h.elim) (fun W hS => by kernel_rfl) hs0 ?_
        simp only [Act.put, List.setIfInBounds_toArray, List.set_cons_zero, List.set_cons_succ]
        refine take_one (i := 6) (d := some 34) (v := .int .i64 (sz : Int)) rfl rfl rfl (by kernel_rfl) (by kernel_rfl) (by kernel_rfl) (fun _ _ _ _ _ h => h.elim) (fun W hS => by kernel_rfl) hs0 ?_
        simp only [Act.put, List.setIfInBounds_toArray, List.set_cons_zero, List.set_cons_succ]
        refine take_one (i := 7) (d := some 35) (v := .bool true) rfl rfl rfl (by kernel_rfl) (by kernel_rfl) (by kernel_rfl) (fun _ _ _ _ _ h => h.elim) (fun W hS => ex_geqI (.tmp 33) (.tmp 34) rfl rfl rfl hdec) hs0 ?_
        simp only [Act.put, List.setIfInBounds_toArray, List.set_cons_zero, List.set_cons_succ]
        refine take_one (i := 8) (d := some 36) (v := .pointer (some ⟨R, 0, none⟩)) rfl rfl rfl (by kernel_rfl) (by kernel_rfl) (by kernel_rfl) (fun _ _ _ _ _ h => h.elim) (fun W hS => by kernel_rfl) hs0 ?_
        simp only [Act.put, List.setIfInBounds_toArray, List.set_cons_zero, List.set_cons_succ]
        refine take_one (i := 9) (d := some 37) (v := .pointer (some ⟨R, 0, none⟩)) rfl rfl rfl (by kernel_rfl) (by kernel_rfl) (by kernel_rfl) (fun _ _ _ _ _ h => h.elim) (fun W hS => by kernel_rfl) hs0 ?_
        simp only [Act.put, List.setIfInBounds_toArray, List.set_cons_zero, List.set_cons_succ]
        refine take_one (i := 10) (d := some 38) (v := .pointer (some ⟨R, 0, none⟩)) rfl rfl rfl (by kernel_rfl) (by kernel_rfl) (by kernel_rfl) (fun _ _ _ _ _ h => h.elim) (fun W hS => by kernel_rfl) hs0 ?_
        simp only [Act.put, List.setIfInBounds_toArray, List.set_cons_zero, List.set_cons_succ]
        refine take_one (i := 11) (d := some 39) (v := .pointer (some ⟨R, 1, none⟩)) rfl rfl rfl (by kernel_rfl) (by kernel_rfl) (by kernel_rfl) (fun _ _ _ _ _ h => h.elim) (fun W hS => by kernel_rfl) hs0 ?_
        simp only [Act.put, List.setIfInBounds_toArray, List.set_cons_zero, List.set_cons_succ]
        refine take_one (i := 12) (d := some 40) (v := .int .i64 (at' : Int)) rfl rfl rfl (by kernel_rfl) (by kernel_rfl) (by kernel_rfl) (fun _ _ _ _ _ h => h.elim) (fun W hS => ex_loadA (.tmp 39) 3 rfl rfl (ld_int (blk_cell hS (j := 1) rfl))) hs0 ?_
        simp only [Act.put, List.setIfInBounds_toArray, List.set_cons_zero, List.set_cons_succ]
        refine all_one (i := 13) (by kernel_rfl) rfl rfl ?_
        refine wp_call (d := some 41) (R := fun v X => v = .tuple #[] ∧ X = W1.drew) 32 _ rfl (by kernel_rfl) ((must_good at' 50 _).mono (fun e X hx => ⟨_, hx.1, rfl, hx.2⟩)) ?_
        rintro v X ⟨rfl, rfl⟩
        refine ⟨hs0, ?_⟩
        simp only [Act.put, List.setIfInBounds_toArray, List.set_cons_zero, List.set_cons_succ]
        refine wpAnyH_done (by kernel_rfl) ?_ _
        exact ⟨rfl, rfl⟩
      rintro a' w' ⟨rfl, rfl⟩
      simp only [Act.put, List.setIfInBounds_toArray, List.set_cons_zero, List.set_cons_succ]
      have HR2 : Hid (RB S W1.drew R rest at' (vC f g (.slice va vn vc) vb) nx (.slice (some ⟨lb, lo, none⟩) nl lc)) := HR1.out.on ((Below.refl _ W1).drew)
      have HRW2 : Hid (HRow bs W1.drew (.slice va vn vc) hs ds) := HRW.out.on ((Below.refl _ W1).drew)
      have HB2w : Hid (Below W.heap.size W W1.drew) := HB1.out.drew
      clear hdec HBX1 HR1 HRW HB1 HX2
      obtain ⟨W2, hW2⟩ : ∃ W2, W1.drew = W2 := ⟨_, rfl⟩
      rw [hW2] at HR2 HRW2 HB2w ⊢
      clear hW2
      have k37 : W2.cell? ⟨R, 37, none⟩ = some (.slice va vn vc) := HR2.out.at (j := 35) (vC_at 0)
      go_wp2_with fail
      clear k37
      have HBX2 : Hid (W2.heap[R]? = some (RBox (.slice (some ⟨lb, lo, none⟩) nl lc) at' (vC f g (.slice va vn vc) vb) nx)) := HR2.out.box
      by_cases hv8 : vn < 8
      · have hlt8 : decide ((vn : Int) < (8 : Int)) = true := by simp; omega
        cases hkb : kindB nx vn with
        | false =>
          refine region_end (fun _ _ _ => False) (fun c b w' => c = [fltP at' 53] ∧ w' = W2.drew ∧ b.defers = []) ?_ (fun _ _ h => h.elim) ?_
          · skip
            refine wp_region_held (S := fun X => X.heap[R]? = some (RBox (.slice (some ⟨lb, lo, none⟩) nl lc) at' (vC f g (.slice va vn vc) vb) nx)) (by kernel_rfl) ?_
            show wpAnyH _ _ _ _ _ 16 (Array.replicate 16 false) _ _
            have hs0 : W2.drew.heap[R]? = some (RBox (.slice (some ⟨lb, lo, none⟩) nl lc) at' (vC f g (.slice va vn vc) vb) nx) := HBX2.out
            refine take_one (i := 0) (d := some 48) (v := .int .i64 (vn : Int)) rfl rfl rfl (by kernel_rfl) (by kernel_rfl) (by kernel_rfl) (fun _ _ d _ _ h => ⟨h.1, h.2.1, by cases d <;> exact h.2.2⟩) (fun W hS => by kernel_rfl) hs0 ?_
            simp only [Act.put, List.setIfInBounds_toArray, List.set_cons_zero, List.set_cons_succ]
            refine take_one (i := 1) (d := some 49) (v := .bool true) rfl rfl rfl (by kernel_rfl) (by kernel_rfl) (by kernel_rfl) (fun _ _ d _ _ h => ⟨h.1, h.2.1, by cases d <;> exact h.2.2⟩) (fun W hS => ex_lssI (.tmp 48) (.const (.int .i64 8)) rfl rfl rfl hlt8) hs0 ?_
            simp only [Act.put, List.setIfInBounds_toArray, List.set_cons_zero, List.set_cons_succ]
            refine take_one (i := 2) (d := some 50) (v := .bool true) rfl rfl rfl (by kernel_rfl) (by kernel_rfl) (by kernel_rfl) (fun _ _ d _ _ h => ⟨h.1, h.2.1, by cases d <;> exact h.2.2⟩) (fun W hS => by kernel_rfl) hs0 ?_
            simp only [Act.put, List.setIfInBounds_toArray, List.set_cons_zero, List.set_cons_succ]
            refine take_w (i := 3) (d := some 51) (v := .pointer (some ⟨R, 0, none⟩)) rfl (by kernel_rfl) rfl (by kernel_rfl) (by kernel_rfl) (by kernel_rfl) (fun _ _ d _ _ h => ⟨h.1, h.2.1, by cases d <;> exact h.2.2⟩) (fun W hS => by kernel_rfl) hs0 ?_
            simp only [Act.put, List.setIfInBounds_toArray, List.set_cons_zero, List.set_cons_succ]
            refine take_w (i := 4) (d := some 52) (v := .pointer (some ⟨R, 0, none⟩)) rfl (by kernel_rfl) rfl (by kernel_rfl) (by kernel_rfl) (by kernel_rfl) (fun _ _ d _ _ h => ⟨h.1, h.2.1, by cases d <;> exact h.2.2⟩) (fun W hS => by kernel_rfl) hs0 ?_
            simp only [Act.put, List.setIfInBounds_toArray, List.set_cons_zero, List.set_cons_succ]
            refine take_w (i := 5) (d := some 53) (v := .pointer (some ⟨R, 44, none⟩)) rfl (by kernel_rfl) rfl (by kernel_rfl) (by kernel_rfl) (by kernel_rfl) (fun _ _ d _ _ h => ⟨h.1, h.2.1, by cases d <;> exact h.2.2⟩) (fun W hS => by kernel_rfl) hs0 ?_
            simp only [Act.put, List.setIfInBounds_toArray, List.set_cons_zero, List.set_cons_succ]
            refine take_w (i := 6) (d := some 54) (v := .int .u8 nx) rfl (by kernel_rfl) rfl (by kernel_rfl) (by kernel_rfl) (by kernel_rfl) (fun _ _ d _ _ h => ⟨h.1, h.2.1, by cases d <;> exact h.2.2⟩) (fun W hS => ex_loadA (.tmp 53) 5 rfl rfl (ld_u8 (box_k44 hS))) hs0 ?_
            simp only [Act.put, List.setIfInBounds_toArray, List.set_cons_zero, List.set_cons_succ]
            refine take_w (i := 7) (d := some 55) (v := .int .i64 (vn : Int)) rfl (by kernel_rfl) rfl (by kernel_rfl) (by kernel_rfl) (by kernel_rfl) (fun _ _ d _ _ h => ⟨h.1, h.2.1, by cases d <;> exact h.2.2⟩) (fun W hS => by kernel_rfl) hs0 ?_
            simp only [Act.put, List.setIfInBounds_toArray, List.set_cons_zero, List.set_cons_succ]
            refine take_one (i := 10) (d := some 58) (v := .pointer (some ⟨R, 0, none⟩)) rfl rfl rfl (by kernel_rfl) (by kernel_rfl) (by kernel_rfl) (fun _ _ d _ _ h => ⟨h.1, h.2.1, by cases d <;> exact h.2.2⟩) (fun W hS => by kernel_rfl) hs0 ?_
            simp only [Act.put, List.setIfInBounds_toArray, List.set_cons_zero, List.set_cons_succ]
            refine take_one (i := 11) (d := some 59) (v := .pointer (some ⟨R, 0, none⟩)) rfl rfl rfl (by kernel_rfl) (by kernel_rfl) (by kernel_rfl) (fun _ _ d _ _ h => ⟨h.1, h.2.1, by cases d <;> exact h.2.2⟩) (fun W hS => by kernel_rfl) hs0 ?_
            simp only [Act.put, List.setIfInBounds_toArray, List.set_cons_zero, List.set_cons_succ]
            refine take_one (i := 12) (d := some 60) (v := .pointer (some ⟨R, 0, none⟩)) rfl rfl rfl (by kernel_rfl) (by kernel_rfl) (by kernel_rfl) (fun _ _ d _ _ h => ⟨h.1, h.2.1, by cases d <;> exact h.2.2⟩) (fun W hS => by kernel_rfl) hs0 ?_
            simp only [Act.put, List.setIfInBounds_toArray, List.set_cons_zero, List.set_cons_succ]
            refine take_one (i := 13) (d := some 61) (v := .pointer (some ⟨R, 1, none⟩)) rfl rfl rfl (by kernel_rfl) (by kernel_rfl) (by kernel_rfl) (fun _ _ d _ _ h => ⟨h.1, h.2.1, by cases d <;> exact h.2.2⟩) (fun W hS => by kernel_rfl) hs0 ?_
            simp only [Act.put, List.setIfInBounds_toArray, List.set_cons_zero, List.set_cons_succ]
            refine take_one (i := 14) (d := some 62) (v := .int .i64 (at' : Int)) rfl rfl rfl (by kernel_rfl) (by kernel_rfl) (by kernel_rfl) (fun _ _ d _ _ h => ⟨h.1, h.2.1, by cases d <;> exact h.2.2⟩) (fun W hS => ex_loadA (.tmp 61) 3 rfl rfl (ld_int (blk_cell hS (j := 1) rfl))) hs0 ?_
            simp only [Act.put, List.setIfInBounds_toArray, List.set_cons_zero, List.set_cons_succ]
            refine all_w (i := 8) (by kernel_rfl) rfl (by kernel_rfl) ?_
            refine wp_call (d := some 56) (R := fun v X => v = .bool false ∧ X = W2.drew) 41 _ rfl (by kernel_rfl) ((kindMayBe_calls nx vn _).mono (fun e X hx => ⟨_, by rw [hkb] at hx; exact hx.1, rfl, hx.2⟩)) ?_
            rintro v X ⟨rfl, rfl⟩
            refine ⟨hs0, ?_⟩
            simp only [Act.put, List.setIfInBounds_toArray, List.set_cons_zero, List.set_cons_succ]
            refine take_one (i := 9) (d := some 57) (v := .bool false) rfl rfl rfl (by kernel_rfl) (by kernel_rfl) (by kernel_rfl) (fun _ _ d _ _ h => ⟨h.1, h.2.1, by cases d <;> exact h.2.2⟩) (fun W hS => by kernel_rfl) hs0 ?_
            simp only [Act.put, List.setIfInBounds_toArray, List.set_cons_zero, List.set_cons_succ]
            refine all_one (i := 15) (by kernel_rfl) rfl rfl ?_
            refine wp_callP 32 _ (by kernel_rfl) (must_bad at' 53 _) ⟨rfl, rfl, rfl⟩
          · rintro c a' w' ⟨rfl, rfl, hd⟩
            exact ⟨hd, HX3.out (by rw [HNL.out.1]; exact HNL.out.2) (by rw [HNL.out.1]; omega) (fun q => by rw [hkb] at q; exact absurd q.2 (by simp)) _ HB2w.out.drew⟩
        | true =>
          refine region_end (fun a0 a' w' => a' = ((((((((((((((((a0.put (some 48) (.int .i64 (vn : Int))).put (some 49) (.bool true)).put (some 50) (.bool true)).put (some 51) (.pointer (some ⟨R, 0, none⟩))).put (some 52) (.pointer (some ⟨R, 0, none⟩))).put (some 53) (.pointer (some ⟨R, 44, none⟩))).put (some 54) (.int .u8 nx)).put (some 55) (.int .i64 (vn : Int))).put (some 58) (.pointer (some ⟨R, 0, none⟩))).put (some 59) (.pointer (some ⟨R, 0, none⟩))).put (some 60) (.pointer (some ⟨R, 0, none⟩))).put (some 61) (.pointer (some ⟨R, 1, none⟩))).put (some 62) (.int .i64 (at' : Int))).put (some 56) (.bool true)).put (some 57) (.bool true)).put (some 63) (.tuple #[])) ∧ w' = W2.drew) (fun _ _ _ => False) ?_ ?_ (fun _ _ _ h => h.elim)
          · skip
            refine wp_region_held (S := fun X => X.heap[R]? = some (RBox (.slice (some ⟨lb, lo, none⟩) nl lc) at' (vC f g (.slice va vn vc) vb) nx)) (by kernel_rfl) ?_
            show wpAnyH _ _ _ _ _ 16 (Array.replicate 16 false) _ _
            have hs0 : W2.drew.heap[R]? = some (RBox (.slice (some ⟨lb, lo, none⟩) nl lc) at' (vC f g (.slice va vn vc) vb) nx) := HBX2.out
            refine take_one (i := 0) (d := some 48) (v := .int .i64 (vn : Int)) rfl rfl rfl (by kernel_rfl) (by kernel_rfl) (by kernel_rfl) (fun _ _ _ _ _ h => h.elim) (fun W hS => by kernel_rfl) hs0 ?_
            simp only [Act.put, List.setIfInBounds_toArray, List.set_cons_zero, List.set_cons_succ]
            refine take_one (i := 1) (d := some 49) (v := .bool true) rfl rfl rfl (by kernel_rfl) (by kernel_rfl) (by kernel_rfl) (fun _ _ _ _ _ h => h.elim) (fun W hS => ex_lssI (.tmp 48) (.const (.int .i64 8)) rfl rfl rfl hlt8) hs0 ?_
            simp only [Act.put, List.setIfInBounds_toArray, List.set_cons_zero, List.set_cons_succ]
            refine take_one (i := 2) (d := some 50) (v := .bool true) rfl rfl rfl (by kernel_rfl) (by kernel_rfl) (by kernel_rfl) (fun _ _ _ _ _ h => h.elim) (fun W hS => by kernel_rfl) hs0 ?_
            simp only [Act.put, List.setIfInBounds_toArray, List.set_cons_zero, List.set_cons_succ]
            refine take_w (i := 3) (d := some 51) (v := .pointer (some ⟨R, 0, none⟩)) rfl (by kernel_rfl) rfl (by kernel_rfl) (by kernel_rfl) (by kernel_rfl) (fun _ _ _ _ _ h => h.elim) (fun W hS => by kernel_rfl) hs0 ?_
            simp only [Act.put, List.setIfInBounds_toArray, List.set_cons_zero, List.set_cons_succ]
            refine take_w (i := 4) (d := some 52) (v := .pointer (some ⟨R, 0, none⟩)) rfl (by kernel_rfl) rfl (by kernel_rfl) (by kernel_rfl) (by kernel_rfl) (fun _ _ _ _ _ h => h.elim) (fun W hS => by kernel_rfl) hs0 ?_
            simp only [Act.put, List.setIfInBounds_toArray, List.set_cons_zero, List.set_cons_succ]
            refine take_w (i := 5) (d := some 53) (v := .pointer (some ⟨R, 44, none⟩)) rfl (by kernel_rfl) rfl (by kernel_rfl) (by kernel_rfl) (by kernel_rfl) (fun _ _ _ _ _ h => h.elim) (fun W hS => by kernel_rfl) hs0 ?_
            simp only [Act.put, List.setIfInBounds_toArray, List.set_cons_zero, List.set_cons_succ]
            refine take_w (i := 6) (d := some 54) (v := .int .u8 nx) rfl (by kernel_rfl) rfl (by kernel_rfl) (by kernel_rfl) (by kernel_rfl) (fun _ _ _ _ _ h => h.elim) (fun W hS => ex_loadA (.tmp 53) 5 rfl rfl (ld_u8 (box_k44 hS))) hs0 ?_
            simp only [Act.put, List.setIfInBounds_toArray, List.set_cons_zero, List.set_cons_succ]
            refine take_w (i := 7) (d := some 55) (v := .int .i64 (vn : Int)) rfl (by kernel_rfl) rfl (by kernel_rfl) (by kernel_rfl) (by kernel_rfl) (fun _ _ _ _ _ h => h.elim) (fun W hS => by kernel_rfl) hs0 ?_
            simp only [Act.put, List.setIfInBounds_toArray, List.set_cons_zero, List.set_cons_succ]
            refine take_one (i := 10) (d := some 58) (v := .pointer (some ⟨R, 0, none⟩)) rfl rfl rfl (by kernel_rfl) (by kernel_rfl) (by kernel_rfl) (fun _ _ _ _ _ h => h.elim) (fun W hS => by kernel_rfl) hs0 ?_
            simp only [Act.put, List.setIfInBounds_toArray, List.set_cons_zero, List.set_cons_succ]
            refine take_one (i := 11) (d := some 59) (v := .pointer (some ⟨R, 0, none⟩)) rfl rfl rfl (by kernel_rfl) (by kernel_rfl) (by kernel_rfl) (fun _ _ _ _ _ h => h.elim) (fun W hS => by kernel_rfl) hs0 ?_
            simp only [Act.put, List.setIfInBounds_toArray, List.set_cons_zero, List.set_cons_succ]
            refine take_one (i := 12) (d := some 60) (v := .pointer (some ⟨R, 0, none⟩)) rfl rfl rfl (by kernel_rfl) (by kernel_rfl) (by kernel_rfl) (fun _ _ _ _ _ h => h.elim) (fun W hS => by kernel_rfl) hs0 ?_
            simp only [Act.put, List.setIfInBounds_toArray, List.set_cons_zero, List.set_cons_succ]
            refine take_one (i := 13) (d := some 61) (v := .pointer (some ⟨R, 1, none⟩)) rfl rfl rfl (by kernel_rfl) (by kernel_rfl) (by kernel_rfl) (fun _ _ _ _ _ h => h.elim) (fun W hS => by kernel_rfl) hs0 ?_
            simp only [Act.put, List.setIfInBounds_toArray, List.set_cons_zero, List.set_cons_succ]
            refine take_one (i := 14) (d := some 62) (v := .int .i64 (at' : Int)) rfl rfl rfl (by kernel_rfl) (by kernel_rfl) (by kernel_rfl) (fun _ _ _ _ _ h => h.elim) (fun W hS => ex_loadA (.tmp 61) 3 rfl rfl (ld_int (blk_cell hS (j := 1) rfl))) hs0 ?_
            simp only [Act.put, List.setIfInBounds_toArray, List.set_cons_zero, List.set_cons_succ]
            refine all_w (i := 8) (by kernel_rfl) rfl (by kernel_rfl) ?_
            refine wp_call (d := some 56) (R := fun v X => v = .bool true ∧ X = W2.drew) 41 _ rfl (by kernel_rfl) ((kindMayBe_calls nx vn _).mono (fun e X hx => ⟨_, by rw [hkb] at hx; exact hx.1, rfl, hx.2⟩)) ?_
            rintro v X ⟨rfl, rfl⟩
            refine ⟨hs0, ?_⟩
            simp only [Act.put, List.setIfInBounds_toArray, List.set_cons_zero, List.set_cons_succ]
            refine take_one (i := 9) (d := some 57) (v := .bool true) rfl rfl rfl (by kernel_rfl) (by kernel_rfl) (by kernel_rfl) (fun _ _ _ _ _ h => h.elim) (fun W hS => by kernel_rfl) hs0 ?_
            simp only [Act.put, List.setIfInBounds_toArray, List.set_cons_zero, List.set_cons_succ]
            refine all_one (i := 15) (by kernel_rfl) rfl rfl ?_
            refine wp_call (d := some 63) (R := fun v X => v = .tuple #[] ∧ X = W2.drew) 32 _ rfl (by kernel_rfl) ((must_good at' 53 _).mono (fun e X hx => ⟨_, hx.1, rfl, hx.2⟩)) ?_
            rintro v X ⟨rfl, rfl⟩
            refine ⟨hs0, ?_⟩
            simp only [Act.put, List.setIfInBounds_toArray, List.set_cons_zero, List.set_cons_succ]
            refine wpAnyH_done (by kernel_rfl) ?_ _
            exact ⟨rfl, rfl⟩
          rintro a' w' ⟨rfl, rfl⟩
          simp only [Act.put, List.setIfInBounds_toArray, List.set_cons_zero, List.set_cons_succ]
          have HR3 : Hid (RB S W2.drew R rest at' (vC f g (.slice va vn vc) vb) nx (.slice (some ⟨lb, lo, none⟩) nl lc)) := HR2.out.on ((Below.refl _ W2).drew)
          have HRW3 : Hid (HRow bs W2.drew (.slice va vn vc) hs ds) := HRW2.out.on ((Below.refl _ W2).drew)
          have HB3w : Hid (Below W.heap.size W W2.drew) := HB2w.out.drew
          have HF4 : Hid _ := HX4.out (by rw [HNL.out.1]; exact HNL.out.2) (by rw [HNL.out.1]; omega) ⟨hv8, hkb⟩
          clear hlt8 hkb HBX2 HR2 HRW2 HB2w HX3 HX4
          obtain ⟨W3, hW3⟩ : ∃ W3, W2.drew = W3 := ⟨_, rfl⟩
          rw [hW3] at HR3 HRW3 HB3w ⊢
          clear hW3
          have HRUN : Hid _ := run_calls HR3.out sz (by rw [HNL.out.1]; omega) (by rw [HNL.out.1]; have := HNL.out.2; omega) (by have := HLIM.out; have := HSZB.out; omega)
          go_wp2_with fail
          refine Calls.mono HRUN.out ?_
          rintro e w4 ⟨u, l4, rfl, hbu, hr4, ho4⟩
          have htl : (rest.take sz).length = sz := by rw [List.length_take, HNL.out.1]; omega
          obtain ⟨ub, uo, n', uc, ev, _, hucell⟩ := hbu.first (by rw [htl]; have := HSZB.out; omega)
          rw [htl] at ev
          subst ev
          obtain ⟨DD, hDD⟩ : ∃ D, (rest.take sz).drop 2 = D := ⟨_, rfl⟩
          obtain ⟨u2, hu2, hb2⟩ := cut_rest hbu (by rw [htl]; have := HSZB.out; omega) 2 (by rw [htl]; have := HSZB.out; omega)
          rw [hDD] at hb2 HF4
          have HU2 : Hid (∀ W, (Instr.sliceAt 26 (.slice (some ⟨ub, uo, none⟩) sz uc) (some (.int .i64 2)) none none).run Try.prog W = .ok u2 W) := hu2
          have HB2 : Hid (BS S w4.drew u2 DD) := hb2.on ((Below.refl _ w4).drew)
          have HBU : Hid (BS S w4 (.slice (some ⟨ub, uo, none⟩) sz uc) (rest.take sz)) := hbu
          have HR4 : Hid (RB S w4 R (rest.drop sz) (at' + sz) (vC f g (.slice va vn vc) vb) nx l4) := hr4
          have hs4 : Sep (fun b => b = R ∨ bs ≤ b) W w4 := (Sep.of_below HB3w.out).trans (Sep.of_only (O := fun b => b = R ∨ bs ≤ b) ho4 (.inl rfl))
          have HS4 : Hid (Sep (fun b => b = R ∨ bs ≤ b) W w4) := hs4
          have HRW4 : Hid (HRow bs w4 (.slice va vn vc) hs ds) := HRW3.out.sep (Sep.of_only (O := fun b => b = R) ho4 rfl) (fun b hb e => by have := HBS.out; omega)
          have HTL : Hid _ := htl
          clear htl hucell hDD hu2 hb2 hbu hr4 ho4 hs4 HRUN HR3 HRW3 HB3w
          go_wp2_with fail
          refine region_mid (fun a0 a' w' => ∃ u3 xb v5, a' = (((((((((((((((((((a0.put (some 69) (.pointer (some ⟨R, 0, none⟩))).put (some 70) (.pointer (some ⟨R, 0, none⟩))).put (some 71) (.pointer (some ⟨R, 0, none⟩))).put (some 72) (.pointer (some ⟨R, 2, none⟩))).put (some 73) (.pointer (some ⟨R, 37, none⟩))).put (some 74) ((.slice va vn vc))).put (some 75) (.pointer (some ⟨R, 0, none⟩))).put (some 76) (.pointer (some ⟨R, 0, none⟩))).put (some 77) (.pointer (some ⟨R, 44, none⟩))).put (some 78) (.int .u8 nx)).put (some 79) (.slice (some ⟨ub, uo, none⟩) sz uc)).put (some 80) (u2)).put (some 81) (u3)).put (some 82) (.agg #[.int .u8 nx, u3])).put (some 83) (.slice (some ⟨xb, 0, none⟩) 1 1)).put (some 84) (v5)).put (some 85) (.pointer (some ⟨R, 0, none⟩))).put (some 86) (.pointer (some ⟨R, 2, none⟩))).put (some 87) (.pointer (some ⟨R, 37, none⟩))) ∧ RB S w' R (rest.drop sz) (at' + sz) (vC f g v5 vb) nx l4 ∧ HRow bs w' v5 (hs ++ [(nx, DD)]) (ds ++ [u3]) ∧ Sep (fun b => b = R ∨ bs ≤ b) w4 w') ?_ ?_
          · skip
            refine wp_region_held (S := fun X => X.cell? ⟨R, 44, none⟩ = some (.int .u8 nx)) (by kernel_rfl) ?_
            show wpAnyH _ _ _ _ _ 20 (Array.replicate 20 false) _ _
            have hr0 := HR4.out.on ((Below.refl _ w4).drew)
            have hrow0 := HRW4.out.on ((Below.refl _ w4).drew)
            have hs0 : w4.drew.cell? ⟨R, 44, none⟩ = some (.int .u8 nx) := hr0.k44 vC_len
            have hk0 : w4.drew.cell? ⟨R, 37, none⟩ = some (.slice va vn vc) := hr0.at (j := 35) (vC_at 0)
            refine take_one (i := 0) (d := some 69) (v := .pointer (some ⟨R, 0, none⟩)) rfl rfl rfl (by kernel_rfl) (by kernel_rfl) (by kernel_rfl) (fun _ _ _ _ _ h => h.elim) (fun W hS => by kernel_rfl) hs0 ?_
            simp only [Act.put, List.setIfInBounds_toArray, List.set_cons_zero, List.set_cons_succ]
            refine take_one (i := 1) (d := some 70) (v := .pointer (some ⟨R, 0, none⟩)) rfl rfl rfl (by kernel_rfl) (by kernel_rfl) (by kernel_rfl) (fun _ _ _ _ _ h => h.elim) (fun W hS => by kernel_rfl) hs0 ?_
            simp only [Act.put, List.setIfInBounds_toArray, List.set_cons_zero, List.set_cons_succ]
            refine take_one (i := 2) (d := some 71) (v := .pointer (some ⟨R, 0, none⟩)) rfl rfl rfl (by kernel_rfl) (by kernel_rfl) (by kernel_rfl) (fun _ _ _ _ _ h => h.elim) (fun W hS => by kernel_rfl) hs0 ?_
            simp only [Act.put, List.setIfInBounds_toArray, List.set_cons_zero, List.set_cons_succ]
            refine take_one (i := 3) (d := some 72) (v := .pointer (some ⟨R, 2, none⟩)) rfl rfl rfl (by kernel_rfl) (by kernel_rfl) (by kernel_rfl) (fun _ _ _ _ _ h => h.elim) (fun W hS => by kernel_rfl) hs0 ?_
            simp only [Act.put, List.setIfInBounds_toArray, List.set_cons_zero, List.set_cons_succ]
            refine take_one (i := 4) (d := some 73) (v := .pointer (some ⟨R, 37, none⟩)) rfl rfl rfl (by kernel_rfl) (by kernel_rfl) (by kernel_rfl) (fun _ _ _ _ _ h => h.elim) (fun W hS => by kernel_rfl) hs0 ?_
            simp only [Act.put, List.setIfInBounds_toArray, List.set_cons_zero, List.set_cons_succ]
            refine take_one (i := 6) (d := some 75) (v := .pointer (some ⟨R, 0, none⟩)) rfl rfl rfl (by kernel_rfl) (by kernel_rfl) (by kernel_rfl) (fun _ _ _ _ _ h => h.elim) (fun W hS => by kernel_rfl) hs0 ?_
            simp only [Act.put, List.setIfInBounds_toArray, List.set_cons_zero, List.set_cons_succ]
            refine take_one (i := 7) (d := some 76) (v := .pointer (some ⟨R, 0, none⟩)) rfl rfl rfl (by kernel_rfl) (by kernel_rfl) (by kernel_rfl) (fun _ _ _ _ _ h => h.elim) (fun W hS => by kernel_rfl) hs0 ?_
            simp only [Act.put, List.setIfInBounds_toArray, List.set_cons_zero, List.set_cons_succ]
            refine take_one (i := 8) (d := some 77) (v := .pointer (some ⟨R, 44, none⟩)) rfl rfl rfl (by kernel_rfl) (by kernel_rfl) (by kernel_rfl) (fun _ _ _ _ _ h => h.elim) (fun W hS => by kernel_rfl) hs0 ?_
            simp only [Act.put, List.setIfInBounds_toArray, List.set_cons_zero, List.set_cons_succ]
            refine take_one (i := 9) (d := some 78) (v := .int .u8 nx) rfl rfl rfl (by kernel_rfl) (by kernel_rfl) (by kernel_rfl) (fun _ _ _ _ _ h => h.elim) (fun W hS => ex_loadA (.tmp 77) 5 rfl rfl (ld_u8 hS)) hs0 ?_
            simp only [Act.put, List.setIfInBounds_toArray, List.set_cons_zero, List.set_cons_succ]
            refine take_one (i := 10) (d := some 79) (v := .slice (some ⟨ub, uo, none⟩) sz uc) rfl rfl rfl (by kernel_rfl) (by kernel_rfl) (by kernel_rfl) (fun _ _ _ _ _ h => h.elim) (fun W hS => by kernel_rfl) hs0 ?_
            simp only [Act.put, List.setIfInBounds_toArray, List.set_cons_zero, List.set_cons_succ]
            refine take_one (i := 11) (d := some 80) (v := u2) rfl rfl rfl (by kernel_rfl) (by kernel_rfl) (by kernel_rfl) (fun _ _ _ _ _ h => h.elim) (fun W hS => ex_slice 26 (.tmp 79) (some (.const (.int .i64 2))) none rfl rfl rfl rfl (HU2.out W)) hs0 ?_
            simp only [Act.put, List.setIfInBounds_toArray, List.set_cons_zero, List.set_cons_succ]
            refine all_two (i1 := 5) (i2 := 12) (by kernel_rfl) rfl rfl rfl rfl ?_ ?_
            · refine wp_loadA (d := some 74) (.tmp 73) 25 rfl rfl rfl (ld_heads hk0 ⟨_, _, _, rfl⟩) ⟨hs0, ?_⟩
              simp only [Act.put, List.setIfInBounds_toArray, List.set_cons_zero, List.set_cons_succ]
              refine all_one (i := 12) (by kernel_rfl) rfl rfl ?_
              refine wp_call (d := some 81) (R := fun v X => BS (fun b => w4.drew.heap.size ≤ b) X v DD ∧ Below w4.drew.heap.size w4.drew X) 50 _ rfl (by kernel_rfl) ((Clone_bs u2 DD _ HB2.out.row).mono (fun e X hx => by obtain ⟨v, he, hb⟩ := hx; exact ⟨v, he, hb⟩)) ?_
              rintro u3 X1 ⟨hb3, hB1⟩
              obtain ⟨a3, n3, k3, rfl⟩ := hb3.slc
              have hr1 := hr0.on hB1
              have hw1 := hrow0.on hB1
              have hs1 : X1.cell? ⟨R, 44, none⟩ = some (.int .u8 nx) := hr1.k44 vC_len
              have hk1 : X1.cell? ⟨R, 37, none⟩ = some (.slice va vn vc) := hr1.at (j := 35) (vC_at 0)
              have hra := hr1.on ((Below.refl _ X1).alloc (Nat.le_refl _) (hBox nx (.slice a3 n3 k3)))
              have hsa := hra.k44 vC_len
              have hka : (X1.alloc (hBox nx (.slice a3 n3 k3))).cell? ⟨R, 37, none⟩ = some (.slice va vn vc) := hra.at (j := 35) (vC_at 0)
              obtain ⟨v5, X2, hap, hrow2, hsep2⟩ := hw1.push (by have h1 := hB1.size; have h2 := HS4.out.size; have h3 : w4.drew.heap.size = w4.heap.size := rfl; have := HBS.out; omega) (by have := HVN.out; omega) HNX.out (hb3.mono (S' := fun b => bs ≤ b ∧ Value.ownBlock (.slice va vn vc) ≠ some b) (fun b _ hh => ⟨by have h2 := HS4.out.size; have h3 : w4.drew.heap.size = w4.heap.size := rfl; have := HBS.out; omega, fun e => by have := (own_lt hrow0.own e).2; omega⟩)) 25
              have hr2 := hr1.sep hsep2 (by have := HBS.out; omega) (fun b hb e => by have := HSR.out b hb; have := HBS.out; omega)
              have hs2 := hr2.k44 vC_len
              obtain ⟨a5, k5, e5⟩ := hrow2.slc
              have hr3 := hr2.put (j := 35) (by rw [vC_len]; decide) v5
              rw [vC35] at hr3
              have hs3 := hr3.k44 vC_len
              refine ⟨hs1, ?_⟩
              simp only [Act.put, List.setIfInBounds_toArray, List.set_cons_zero, List.set_cons_succ]
              refine take_one (i := 13) (d := some 82) (v := .agg #[.int .u8 nx, .slice a3 n3 k3]) rfl rfl rfl (by kernel_rfl) (by kernel_rfl) (by kernel_rfl) (fun _ _ _ _ _ h => h.elim) (fun W hS => by kernel_rfl) hs1 ?_
              simp only [Act.put, List.setIfInBounds_toArray, List.set_cons_zero, List.set_cons_succ]
              refine all_one (i := 14) (by kernel_rfl) rfl rfl ?_
              refine wp_buildA (d := some 83) (.tmp 82) 25 rfl rfl rfl (bsH_run X1 nx (.slice a3 n3 k3) rfl) ⟨hsa, ?_⟩
              simp only [Act.put, List.setIfInBounds_toArray, List.set_cons_zero, List.set_cons_succ]
              refine all_one (i := 15) (by kernel_rfl) rfl rfl ?_
              refine wp_append (d := some 84) (.tmp 74) (.tmp 83) 25 rfl rfl rfl rfl hap ⟨hs2, ?_⟩
              simp only [Act.put, List.setIfInBounds_toArray, List.set_cons_zero, List.set_cons_succ]
              refine take_one (i := 16) (d := some 85) (v := .pointer (some ⟨R, 0, none⟩)) rfl rfl rfl (by kernel_rfl) (by kernel_rfl) (by kernel_rfl) (fun _ _ _ _ _ h => h.elim) (fun W hS => by kernel_rfl) hs2 ?_
              simp only [Act.put, List.setIfInBounds_toArray, List.set_cons_zero, List.set_cons_succ]
              refine take_one (i := 17) (d := some 86) (v := .pointer (some ⟨R, 2, none⟩)) rfl rfl rfl (by kernel_rfl) (by kernel_rfl) (by kernel_rfl) (fun _ _ _ _ _ h => h.elim) (fun W hS => by kernel_rfl) hs2 ?_
              simp only [Act.put, List.setIfInBounds_toArray, List.set_cons_zero, List.set_cons_succ]
              refine take_one (i := 18) (d := some 87) (v := .pointer (some ⟨R, 37, none⟩)) rfl rfl rfl (by kernel_rfl) (by kernel_rfl) (by kernel_rfl) (fun _ _ _ _ _ h => h.elim) (fun W hS => by kernel_rfl) hs2 ?_
              simp only [Act.put, List.setIfInBounds_toArray, List.set_cons_zero, List.set_cons_succ]
              refine all_one (i := 19) (by kernel_rfl) rfl rfl ?_
              refine wp_storeA (.tmp 87) (.tmp 84) 25 rfl rfl rfl rfl (st_heads hr2.box (j := 37) (by rw [rC_len, vC_len]; decide) ⟨_, _, _, e5⟩) ⟨hs3, ?_⟩
              refine wpAnyH_done (by kernel_rfl) ?_ _
              exact ⟨.slice a3 n3 k3, X1.heap.size, v5, rfl, hr3, hrow2.sep (Sep.of_only (O := fun b => b = R) ((Only.refl R X2).set 37 v5) rfl) (fun b hb e => by have := HBS.out; omega), ((Sep.of_below (((Below.refl _ w4).drew).trans hB1)).trans (hsep2.mono (fun b _ hb => .inr hb))).trans (Sep.of_only (O := fun b => b = R ∨ bs ≤ b) ((Only.refl R X2).set 37 v5) (.inl rfl))⟩
            · refine wp_call (d := some 81) (R := fun v X => BS (fun b => w4.drew.heap.size ≤ b) X v DD ∧ Below w4.drew.heap.size w4.drew X) 50 _ rfl (by kernel_rfl) ((Clone_bs u2 DD _ HB2.out.row).mono (fun e X hx => by obtain ⟨v, he, hb⟩ := hx; exact ⟨v, he, hb⟩)) ?_
              rintro u3 X1 ⟨hb3, hB1⟩
              obtain ⟨a3, n3, k3, rfl⟩ := hb3.slc
              have hr1 := hr0.on hB1
              have hw1 := hrow0.on hB1
              have hs1 : X1.cell? ⟨R, 44, none⟩ = some (.int .u8 nx) := hr1.k44 vC_len
              have hk1 : X1.cell? ⟨R, 37, none⟩ = some (.slice va vn vc) := hr1.at (j := 35) (vC_at 0)
              have hra := hr1.on ((Below.refl _ X1).alloc (Nat.le_refl _) (hBox nx (.slice a3 n3 k3)))
              have hsa := hra.k44 vC_len
              have hka : (X1.alloc (hBox nx (.slice a3 n3 k3))).cell? ⟨R, 37, none⟩ = some (.slice va vn vc) := hra.at (j := 35) (vC_at 0)
              obtain ⟨v5, X2, hap, hrow2, hsep2⟩ := hw1.push (by have h1 := hB1.size; have h2 := HS4.out.size; have h3 : w4.drew.heap.size = w4.heap.size := rfl; have := HBS.out; omega) (by have := HVN.out; omega) HNX.out (hb3.mono (S' := fun b => bs ≤ b ∧ Value.ownBlock (.slice va vn vc) ≠ some b) (fun b _ hh => ⟨by have h2 := HS4.out.size; have h3 : w4.drew.heap.size = w4.heap.size := rfl; have := HBS.out; omega, fun e => by have := (own_lt hrow0.own e).2; omega⟩)) 25
              have hr2 := hr1.sep hsep2 (by have := HBS.out; omega) (fun b hb e => by have := HSR.out b hb; have := HBS.out; omega)
              have hs2 := hr2.k44 vC_len
              obtain ⟨a5, k5, e5⟩ := hrow2.slc
              have hr3 := hr2.put (j := 35) (by rw [vC_len]; decide) v5
              rw [vC35] at hr3
              have hs3 := hr3.k44 vC_len
              refine ⟨hs1, ?_⟩
              simp only [Act.put, List.setIfInBounds_toArray, List.set_cons_zero, List.set_cons_succ]
              refine take_one (i := 13) (d := some 82) (v := .agg #[.int .u8 nx, .slice a3 n3 k3]) rfl rfl rfl (by kernel_rfl) (by kernel_rfl) (by kernel_rfl) (fun _ _ _ _ _ h => h.elim) (fun W hS => by kernel_rfl) hs1 ?_
              simp only [Act.put, List.setIfInBounds_toArray, List.set_cons_zero, List.set_cons_succ]
              refine all_two (i1 := 5) (i2 := 14) (by kernel_rfl) rfl rfl rfl rfl ?_ ?_
              · refine wp_loadA (d := some 74) (.tmp 73) 25 rfl rfl rfl (ld_heads hk1 ⟨_, _, _, rfl⟩) ⟨hs1, ?_⟩
                simp only [Act.put, List.setIfInBounds_toArray, List.set_cons_zero, List.set_cons_succ]
                refine all_one (i := 14) (by kernel_rfl) rfl rfl ?_
                refine wp_buildA (d := some 83) (.tmp 82) 25 rfl rfl rfl (bsH_run X1 nx (.slice a3 n3 k3) rfl) ⟨hsa, ?_⟩
                simp only [Act.put, List.setIfInBounds_toArray, List.set_cons_zero, List.set_cons_succ]
                refine all_one (i := 15) (by kernel_rfl) rfl rfl ?_
                refine wp_append (d := some 84) (.tmp 74) (.tmp 83) 25 rfl rfl rfl rfl hap ⟨hs2, ?_⟩
                simp only [Act.put, List.setIfInBounds_toArray, List.set_cons_zero, List.set_cons_succ]
                refine take_one (i := 16) (d := some 85) (v := .pointer (some ⟨R, 0, none⟩)) rfl rfl rfl (by kernel_rfl) (by kernel_rfl) (by kernel_rfl) (fun _ _ _ _ _ h => h.elim) (fun W hS => by kernel_rfl) hs2 ?_
                simp only [Act.put, List.setIfInBounds_toArray, List.set_cons_zero, List.set_cons_succ]
                refine take_one (i := 17) (d := some 86) (v := .pointer (some ⟨R, 2, none⟩)) rfl rfl rfl (by kernel_rfl) (by kernel_rfl) (by kernel_rfl) (fun _ _ _ _ _ h => h.elim) (fun W hS => by kernel_rfl) hs2 ?_
                simp only [Act.put, List.setIfInBounds_toArray, List.set_cons_zero, List.set_cons_succ]
                refine take_one (i := 18) (d := some 87) (v := .pointer (some ⟨R, 37, none⟩)) rfl rfl rfl (by kernel_rfl) (by kernel_rfl) (by kernel_rfl) (fun _ _ _ _ _ h => h.elim) (fun W hS => by kernel_rfl) hs2 ?_
                simp only [Act.put, List.setIfInBounds_toArray, List.set_cons_zero, List.set_cons_succ]
                refine all_one (i := 19) (by kernel_rfl) rfl rfl ?_
                refine wp_storeA (.tmp 87) (.tmp 84) 25 rfl rfl rfl rfl (st_heads hr2.box (j := 37) (by rw [rC_len, vC_len]; decide) ⟨_, _, _, e5⟩) ⟨hs3, ?_⟩
                refine wpAnyH_done (by kernel_rfl) ?_ _
                exact ⟨.slice a3 n3 k3, X1.heap.size, v5, rfl, hr3, hrow2.sep (Sep.of_only (O := fun b => b = R) ((Only.refl R X2).set 37 v5) rfl) (fun b hb e => by have := HBS.out; omega), ((Sep.of_below (((Below.refl _ w4).drew).trans hB1)).trans (hsep2.mono (fun b _ hb => .inr hb))).trans (Sep.of_only (O := fun b => b = R ∨ bs ≤ b) ((Only.refl R X2).set 37 v5) (.inl rfl))⟩
              · refine wp_buildA (d := some 83) (.tmp 82) 25 rfl rfl rfl (bsH_run X1 nx (.slice a3 n3 k3) rfl) ⟨hsa, ?_⟩
                simp only [Act.put, List.setIfInBounds_toArray, List.set_cons_zero, List.set_cons_succ]
                refine all_one (i := 5) (by kernel_rfl) rfl rfl ?_
                refine wp_loadA (d := some 74) (.tmp 73) 25 rfl rfl rfl (ld_heads hka ⟨_, _, _, rfl⟩) ⟨hsa, ?_⟩
                simp only [Act.put, List.setIfInBounds_toArray, List.set_cons_zero, List.set_cons_succ]
                refine all_one (i := 15) (by kernel_rfl) rfl rfl ?_
                refine wp_append (d := some 84) (.tmp 74) (.tmp 83) 25 rfl rfl rfl rfl hap ⟨hs2, ?_⟩
                simp only [Act.put, List.setIfInBounds_toArray, List.set_cons_zero, List.set_cons_succ]
                refine take_one (i := 16) (d := some 85) (v := .pointer (some ⟨R, 0, none⟩)) rfl rfl rfl (by kernel_rfl) (by kernel_rfl) (by kernel_rfl) (fun _ _ _ _ _ h => h.elim) (fun W hS => by kernel_rfl) hs2 ?_
                simp only [Act.put, List.setIfInBounds_toArray, List.set_cons_zero, List.set_cons_succ]
                refine take_one (i := 17) (d := some 86) (v := .pointer (some ⟨R, 2, none⟩)) rfl rfl rfl (by kernel_rfl) (by kernel_rfl) (by kernel_rfl) (fun _ _ _ _ _ h => h.elim) (fun W hS => by kernel_rfl) hs2 ?_
                simp only [Act.put, List.setIfInBounds_toArray, List.set_cons_zero, List.set_cons_succ]
                refine take_one (i := 18) (d := some 87) (v := .pointer (some ⟨R, 37, none⟩)) rfl rfl rfl (by kernel_rfl) (by kernel_rfl) (by kernel_rfl) (fun _ _ _ _ _ h => h.elim) (fun W hS => by kernel_rfl) hs2 ?_
                simp only [Act.put, List.setIfInBounds_toArray, List.set_cons_zero, List.set_cons_succ]
                refine all_one (i := 19) (by kernel_rfl) rfl rfl ?_
                refine wp_storeA (.tmp 87) (.tmp 84) 25 rfl rfl rfl rfl (st_heads hr2.box (j := 37) (by rw [rC_len, vC_len]; decide) ⟨_, _, _, e5⟩) ⟨hs3, ?_⟩
                refine wpAnyH_done (by kernel_rfl) ?_ _
                exact ⟨.slice a3 n3 k3, X1.heap.size, v5, rfl, hr3, hrow2.sep (Sep.of_only (O := fun b => b = R) ((Only.refl R X2).set 37 v5) rfl) (fun b hb e => by have := HBS.out; omega), ((Sep.of_below (((Below.refl _ w4).drew).trans hB1)).trans (hsep2.mono (fun b _ hb => .inr hb))).trans (Sep.of_only (O := fun b => b = R ∨ bs ≤ b) ((Only.refl R X2).set 37 v5) (.inl rfl))⟩
          · rintro a' w5 ⟨u3, xb, v5, rfl, hr5, hrow5, hs5⟩
            simp only [Act.put, List.setIfInBounds_toArray, List.set_cons_zero, List.set_cons_succ]
            have hbu5 := HBU.out.sep hs5 (fun b hb e => by have := HSR.out b hb; have := HBS.out; omega)
            obtain ⟨b', o', n', c', e', _, hc5⟩ := hbu5.first (by rw [HTL.out]; have := HSZB.out; omega)
            rw [HTL.out] at e'
            cases e'
            have c0 : w5.cell? ⟨ub, uo, none⟩ = some (.int .u8 G0) := by
              have := hc5 0 (by rw [HTL.out]; have := HSZB.out; omega)
              rw [show gz (rest.take sz) 0 = gz rest 0 by unfold gz; rw [List.getElem?_take, if_pos (by have := HSZB.out; omega)], HG0.out] at this
              exact this
            obtain ⟨w6, hst6, hr6, hon6⟩ : ∃ w6, (Instr.storeAt 5 (.pointer (some ⟨R, 44, none⟩)) (.int .u8 G0)).run Try.prog w5 = .ok () w6 ∧ RB S w6 R (rest.drop sz) (at' + sz) (vC f g v5 vb) G0 l4 ∧ Only R w5 w6 := ⟨_, st_u8 hr5.box (j := 44) (by rw [rC_len, vC_len]; decide) G0, hr5.next G0 (n := 42) vC_len, (Only.refl _ w5).set 44 _⟩
            have HS6 : Hid _ := hst6
            have HF : Hid (X (.returned (.tuple #[])) w6) := HF4.out w6 l4 v5 _ hr6 (hrow5.sep (Sep.of_only (O := fun b => b = R) hon6 rfl) (fun b hb e => by have := HBS.out; omega)) ((HS4.out.trans hs5).trans (Sep.of_only (O := fun b => b = R ∨ bs ≤ b) hon6 (.inl rfl)))
            have isz : 0 < sz := by have := HSZB.out; omega
            clear hr5 hrow5 hs5 hbu5 hc5 hst6 hr6 hon6 HF4 HBU HR4 HRW4 HS4 HU2 HB2
            go_wp2_with first
              | ((with_reducible show wpList _ _ _ ({ dst := _, op := Op.store 5 (Operand.tmp 93) _, type := _, pos := _, after := _, guard := _ } :: _) _ _); refine armS (.tmp 93) (.tmp 91) 5 rfl rfl rfl rfl HS6.out ?_; try simp only [Act.put])
            go_end0
            exact HF.out
      · have hlt8 : decide ((vn : Int) < (8 : Int)) = false := by simp; omega
        refine region_end (fun _ _ _ => False) (fun c b w' => c = [fltP at' 53] ∧ w' = W2.drew ∧ b.defers = []) ?_ (fun _ _ h => h.elim) ?_
        · skip
          refine wp_region_held (S := fun X => X.heap[R]? = some (RBox (.slice (some ⟨lb, lo, none⟩) nl lc) at' (vC f g (.slice va vn vc) vb) nx)) (by kernel_rfl) ?_
          show wpAnyH _ _ _ _ _ 16 (Array.replicate 16 false) _ _
          have hs0 : W2.drew.heap[R]? = some (RBox (.slice (some ⟨lb, lo, none⟩) nl lc) at' (vC f g (.slice va vn vc) vb) nx) := HBX2.out
          refine take_one (i := 0) (d := some 48) (v := .int .i64 (vn : Int)) rfl rfl rfl (by kernel_rfl) (by kernel_rfl) (by kernel_rfl) (fun _ _ d _ _ h => ⟨h.1, h.2.1, by cases d <;> exact h.2.2⟩) (fun W hS => by kernel_rfl) hs0 ?_
          simp only [Act.put, List.setIfInBounds_toArray, List.set_cons_zero, List.set_cons_succ]
          refine take_one (i := 1) (d := some 49) (v := .bool false) rfl rfl rfl (by kernel_rfl) (by kernel_rfl) (by kernel_rfl) (fun _ _ d _ _ h => ⟨h.1, h.2.1, by cases d <;> exact h.2.2⟩) (fun W hS => ex_lssI (.tmp 48) (.const (.int .i64 8)) rfl rfl rfl hlt8) hs0 ?_
          simp only [Act.put, List.setIfInBounds_toArray, List.set_cons_zero, List.set_cons_succ]
          refine take_one (i := 2) (d := some 50) (v := .bool false) rfl rfl rfl (by kernel_rfl) (by kernel_rfl) (by kernel_rfl) (fun _ _ d _ _ h => ⟨h.1, h.2.1, by cases d <;> exact h.2.2⟩) (fun W hS => by kernel_rfl) hs0 ?_
          simp only [Act.put, List.setIfInBounds_toArray, List.set_cons_zero, List.set_cons_succ]
          refine take_un (i := 3) (d := some 51) rfl (by kernel_rfl) rfl (by kernel_rfl) (by kernel_rfl) (by kernel_rfl) (fun _ _ d _ _ h => ⟨h.1, h.2.1, by cases d <;> exact h.2.2⟩) hs0 ?_
          simp only [Act.put, List.setIfInBounds_toArray, List.set_cons_zero, List.set_cons_succ]
          refine take_un (i := 4) (d := some 52) rfl (by kernel_rfl) rfl (by kernel_rfl) (by kernel_rfl) (by kernel_rfl) (fun _ _ d _ _ h => ⟨h.1, h.2.1, by cases d <;> exact h.2.2⟩) hs0 ?_
          simp only [Act.put, List.setIfInBounds_toArray, List.set_cons_zero, List.set_cons_succ]
          refine take_un (i := 5) (d := some 53) rfl (by kernel_rfl) rfl (by kernel_rfl) (by kernel_rfl) (by kernel_rfl) (fun _ _ d _ _ h => ⟨h.1, h.2.1, by cases d <;> exact h.2.2⟩) hs0 ?_
          simp only [Act.put, List.setIfInBounds_toArray, List.set_cons_zero, List.set_cons_succ]
          refine take_un (i := 6) (d := some 54) rfl (by kernel_rfl) rfl (by kernel_rfl) (by kernel_rfl) (by kernel_rfl) (fun _ _ d _ _ h => ⟨h.1, h.2.1, by cases d <;> exact h.2.2⟩) hs0 ?_
          simp only [Act.put, List.setIfInBounds_toArray, List.set_cons_zero, List.set_cons_succ]
          refine take_un (i := 7) (d := some 55) rfl (by kernel_rfl) rfl (by kernel_rfl) (by kernel_rfl) (by kernel_rfl) (fun _ _ d _ _ h => ⟨h.1, h.2.1, by cases d <;> exact h.2.2⟩) hs0 ?_
          simp only [Act.put, List.setIfInBounds_toArray, List.set_cons_zero, List.set_cons_succ]
          refine take_un (i := 8) (d := some 56) rfl (by kernel_rfl) rfl (by kernel_rfl) (by kernel_rfl) (by kernel_rfl) (fun _ _ d _ _ h => ⟨h.1, h.2.1, by cases d <;> exact h.2.2⟩) hs0 ?_
          simp only [Act.put, List.setIfInBounds_toArray, List.set_cons_zero, List.set_cons_succ]
          refine take_one (i := 9) (d := some 57) (v := .bool false) rfl rfl rfl (by kernel_rfl) (by kernel_rfl) (by kernel_rfl) (fun _ _ d _ _ h => ⟨h.1, h.2.1, by cases d <;> exact h.2.2⟩) (fun W hS => by kernel_rfl) hs0 ?_
          simp only [Act.put, List.setIfInBounds_toArray, List.set_cons_zero, List.set_cons_succ]
          refine take_one (i := 10) (d := some 58) (v := .pointer (some ⟨R, 0, none⟩)) rfl rfl rfl (by kernel_rfl) (by kernel_rfl) (by kernel_rfl) (fun _ _ d _ _ h => ⟨h.1, h.2.1, by cases d <;> exact h.2.2⟩) (fun W hS => by kernel_rfl) hs0 ?_
          simp only [Act.put, List.setIfInBounds_toArray, List.set_cons_zero, List.set_cons_succ]
          refine take_one (i := 11) (d := some 59) (v := .pointer (some ⟨R, 0, none⟩)) rfl rfl rfl (by kernel_rfl) (by kernel_rfl) (by kernel_rfl) (fun _ _ d _ _ h => ⟨h.1, h.2.1, by cases d <;> exact h.2.2⟩) (fun W hS => by kernel_rfl) hs0 ?_
          simp only [Act.put, List.setIfInBounds_toArray, List.set_cons_zero, List.set_cons_succ]
          refine take_one (i := 12) (d := some 60) (v := .pointer (some ⟨R, 0, none⟩)) rfl rfl rfl (by kernel_rfl) (by kernel_rfl) (by kernel_rfl) (fun _ _ d _ _ h => ⟨h.1, h.2.1, by cases d <;> exact h.2.2⟩) (fun W hS => by kernel_rfl) hs0 ?_
          simp only [Act.put, List.setIfInBounds_toArray, List.set_cons_zero, List.set_cons_succ]
          refine take_one (i := 13) (d := some 61) (v := .pointer (some ⟨R, 1, none⟩)) rfl rfl rfl (by kernel_rfl) (by kernel_rfl) (by kernel_rfl) (fun _ _ d _ _ h => ⟨h.1, h.2.1, by cases d <;> exact h.2.2⟩) (fun W hS => by kernel_rfl) hs0 ?_
          simp only [Act.put, List.setIfInBounds_toArray, List.set_cons_zero, List.set_cons_succ]
          refine take_one (i := 14) (d := some 62) (v := .int .i64 (at' : Int)) rfl rfl rfl (by kernel_rfl) (by kernel_rfl) (by kernel_rfl) (fun _ _ d _ _ h => ⟨h.1, h.2.1, by cases d <;> exact h.2.2⟩) (fun W hS => ex_loadA (.tmp 61) 3 rfl rfl (ld_int (blk_cell hS (j := 1) rfl))) hs0 ?_
          simp only [Act.put, List.setIfInBounds_toArray, List.set_cons_zero, List.set_cons_succ]
          refine all_one (i := 15) (by kernel_rfl) rfl rfl ?_
          refine wp_callP 32 _ (by kernel_rfl) (must_bad at' 53 _) ⟨rfl, rfl, rfl⟩
        · rintro c a' w' ⟨rfl, rfl, hd⟩
          exact ⟨hd, HX3.out (by rw [HNL.out.1]; exact HNL.out.2) (by rw [HNL.out.1]; omega) (fun q => hv8 q.1) _ HB2w.out.drew⟩
end

end Go.Proofs.Ytbaeogoojpngbaa
