/-
  own of package splitsix.
-/
import Derived.Test.YtcllcinekohklaaXb4
namespace Go.Proofs.Ytcllcinekohklaa
open Go Go.RowKit
set_option linter.unusedVariables false
set_option linter.unusedSimpArgs false

theorem ld_heads {W : World} {p : Addr} {v : Value} (h : W.cell? p = some v) (hv : ∃ x n m, v = .slice x n m) : (Instr.loadAt 25 (.pointer (some p))).run Try.prog W = .ok v W := by
  obtain ⟨x, n, m, rfl⟩ := hv
  simp [Instr.loadAt, go_sem, h]
theorem st_heads {W : World} {b j : Nat} {c : List Value} {t : TypeId} (h : W.heap[b]? = some (.cells c.toArray t)) (hj : j < c.length) {v : Value} (hv : ∃ x n m, v = .slice x n m) : (Instr.storeAt 25 (.pointer (some ⟨b, j, none⟩)) v).run Try.prog W = .ok () (W.setCell ⟨b, j, none⟩ v) := by
  obtain ⟨x, n, m, rfl⟩ := hv
  have h1 : W.cell? ⟨b, j, none⟩ = some (c[j]'hj) := blk_cell h (by simp)
  have h2 := blk_open h j
  simp [Instr.storeAt, go_sem, h1, h2]
theorem ex_idxH {o : Oper} {a : Act} {W : World} (j k : Nat) {g off n c i : Nat} (hop : o.op = Op.indexAddr 25 (.tmp j) (.tmp k)) (hj : a.eval (.tmp j) = .slice (some ⟨g, off, none⟩) n c) (hk : a.eval (.tmp k) = .int .i64 (i : Nat)) (hi : i < n) :
    (execOp a.eval o).run Try.prog W = .ok (.value (.pointer (some ⟨g, off + i * 2, none⟩))) W := by
  generalize a.eval = ev at *
  simp [execOp, hop, hj, hk, go_sem, hi]

/-- The memory of own ahead of and in its loop. -/
structure OwM (f : F6) (g : G6) (hs : Opts) (body : List Int) (w : World) (k bb : Nat) (u1 u2 : Value) (W : World) : Prop where
  box : W.heap[w.heap.size]? = some (BV f g u1 u2)
  res : W.heap[w.heap.size + 1]? = some (.cells zeroV.toArray 28)
  row : HM bb k (fun c => c < w.heap.size) (fun c => w.heap.size + 2 ≤ c ∧ c ≠ bb) W hs
  lo : w.heap.size + 2 ≤ bb
  up : 0 < hs.length → bb < W.heap.size
  bd : BS (fun c => w.heap.size + 2 ≤ c ∧ c ≠ bb) W u2 body
  bel : Below w.heap.size w W
  hi : w.heap.size + 2 ≤ W.heap.size
def OwL (f : F6) (g : G6) (hs : Opts) (body : List Int) (w : World) (u1 u2 : Value) (W : World) : Prop := ∃ a1 c1 bb, u1 = .slice a1 hs.length c1 ∧ (hs.length = 0 ∨ a1 = some ⟨bb, 0, none⟩) ∧ OwM f g hs body w 0 bb u1 u2 W
theorem HM.zero {b : Nat} {S T T' : Nat → Prop} {w : World} {hs : Opts} (h : HM b 0 S T w hs) : HM b 0 S T' w hs := by
  refine ⟨h.blk.imp id ?_⟩
  rintro ⟨cur, hc, hj⟩
  refine ⟨cur, hc, fun j hl => ?_⟩
  obtain ⟨h0, s, h1, h2, h3⟩ := hj j hl
  exact ⟨h0, s, h1, fun q => absurd q (by omega), h3⟩
theorem own_leaf {f : F6} {g : G6} {vh vb u1 u2 : Value} {hs : Opts} {body : List Int} {w W0 X0 X1 X2 : World} {a a' : Act} (ha : a = a')
    (h0 : W0.heap[w.heap.size]? = some (BV f g vh vb)) (hz : W0.heap[w.heap.size + 1]? = some (.cells zeroV.toArray 28)) (hsz : Below w.heap.size w W0 ∧ W0.heap.size = w.heap.size + 2)
    (hu1 : HCa X0.heap.size (fun c => c < w.heap.size) X1 u1 hs ∧ w.heap.size + 2 ≤ X0.heap.size) (hu2 : BS (fun c => X1.heap.size ≤ c) X2 u2 body) (hX1 : Below W0.heap.size W0 X1) (hB2 : Below X1.heap.size X1 X2)
    (hf4 : ((X2.setCell ⟨w.heap.size, 35, none⟩ u1).setCell ⟨w.heap.size, 41, none⟩ u2).heap[w.heap.size]? = some (BV f g u1 u2)) :
    a = a' ∧ OwL f g hs body w u1 u2 ((X2.setCell ⟨w.heap.size, 35, none⟩ u1).setCell ⟨w.heap.size, 41, none⟩ u2) := by
  obtain ⟨⟨a1, c1, bb, rfl, hab, hlo, hup, hm⟩, hx0⟩ := hu1
  have hs1 := hX1.size
  have hs2 := hB2.size
  have hX2 : Below W0.heap.size W0 X2 := hX1.trans (hB2.mono hX1.size)
  have hon : Only w.heap.size X2 ((X2.setCell ⟨w.heap.size, 35, none⟩ (.slice a1 hs.length c1)).setCell ⟨w.heap.size, 41, none⟩ u2) := ((Only.refl _ X2).set 35 _).set 41 _
  have hsep : Sep (fun b => b = w.heap.size) X2 ((X2.setCell ⟨w.heap.size, 35, none⟩ (.slice a1 hs.length c1)).setCell ⟨w.heap.size, 41, none⟩ u2) := Sep.of_only hon rfl
  by_cases hn : hs.length = 0
  · refine ⟨ha, a1, c1, w.heap.size + X1.heap.size + X2.heap.size + 2, rfl, .inl hn, hf4, (hon.other _ (by omega)).trans (blk_on hz hX2), ⟨.inl hn⟩, by omega, fun q => by omega, ?_, (hsz.1.trans (hX2.mono hsz.1.size)).trans (hon.below (Nat.le_refl _)), by rw [hon.size]; omega⟩
    exact (hu2.mono (S' := fun c => w.heap.size + 2 ≤ c ∧ c ≠ w.heap.size + X1.heap.size + X2.heap.size + 2) (fun c hc h => ⟨by omega, by omega⟩)).sep hsep (fun c hc e => by omega)
  · have hbl := hup (by omega)
    refine ⟨ha, a1, c1, bb, rfl, hab, hf4, (hon.other _ (by omega)).trans (blk_on hz hX2), ?_, by omega, fun _ => by rw [hon.size]; omega, ?_, (hsz.1.trans (hX2.mono hsz.1.size)).trans (hon.below (Nat.le_refl _)), by rw [hon.size]; omega⟩
    · exact ((hm.on hB2).zero).sep hsep (by omega) (fun c hc e => by omega) (fun c hc e => by omega)
    · exact (hu2.mono (S' := fun c => w.heap.size + 2 ≤ c ∧ c ≠ bb) (fun c hc h => ⟨by omega, by omega⟩)).sep hsep (fun c hc e => by omega)
theorem HM.at {b k : Nat} {S T : Nat → Prop} {w : World} {hs : Opts} (h : HM b k S T w hs) {j : Nat} (hj : j < hs.length) (hk : k ≤ j) : ∃ (cur : List Value) (s : Value), w.heap[b]? = some (.cells cur.toArray 67) ∧ cur[j * 2]? = some (.int .u8 (oK hs j)) ∧ cur[j * 2 + 1]? = some s ∧ BS S w s (oD hs j) := by
  rcases h.blk with h0 | ⟨cur, hc, hj'⟩
  · omega
  · obtain ⟨h0, s, h1, h2, h3⟩ := hj' j hj
    exact ⟨cur, s, hc, h0, h1, h3 hk⟩

set_option maxHeartbeats 4000000 in
set_option maxRecDepth 100000 in
theorem own_calls {S : Nat → Prop} {w : World} {f : F6} (g : G6) {vh vb : Value} {hs : Opts} {body : List Int} (h : D6 S w f vh vb hs body) (h8 : hs.length ≤ 8) :
    Calls Try.prog 25 #[VV f g vh vb] w fun e w' => ∃ vh' vb', e = .returned (VV f g vh' vb') ∧ D6 (fun b => w.heap.size ≤ b) w' f vh' vb' hs body ∧ Below w.heap.size w w' := by
  have hlab := h.lab
  have hfit := h.hd.fit
  have hlen := h.hd.len
  have hd0 : D6 (fun c => c < w.heap.size) w f vh vb hs body := h.mono (fun c hc _ => hc)
  have hb0 := blk_alloc (blk_new w (BV f g vh vb)) (.cells zeroV.toArray 28)
  have hn0 := blk_new (w.alloc (BV f g vh vb)) (.cells zeroV.toArray 28)
  rw [show (w.alloc (BV f g vh vb)).heap.size = w.heap.size + 1 by simp] at hn0
  have hB0 : Below w.heap.size w ((w.alloc (BV f g vh vb)).alloc (.cells zeroV.toArray 28)) := ((Below.refl w.heap.size w).alloc (Nat.le_refl _) _).alloc (by simp) _
  have hsz0 : ((w.alloc (BV f g vh vb)).alloc (.cells zeroV.toArray 28)).heap.size = w.heap.size + 2 := by simp
  generalize hW0 : (w.alloc (BV f g vh vb)).alloc (.cells zeroV.toArray 28) = W0 at *
  unfold zeroV at hW0
  have HB0 : Hid (W0.heap[w.heap.size]? = some (BV f g vh vb)) := hb0
  have HZ0 : Hid (W0.heap[w.heap.size + 1]? = some (.cells zeroV.toArray 28)) := hn0
  have HSZ0 : Hid (Below w.heap.size w W0 ∧ W0.heap.size = w.heap.size + 2) := ⟨hB0, hsz0⟩
  have hvhs := hd0.hd.slc
  have hvbs := hd0.bd.slc
  have HC1 : Hid (∀ X, Below W0.heap.size W0 X → Calls Try.prog 46 #[vh] X fun e w' => ∃ u, e = .returned u ∧ ((HCa X.heap.size (fun c => c < w.heap.size) w' u hs ∧ w.heap.size + 2 ≤ X.heap.size) ∧ Below X.heap.size X w')) := fun X hX => (CloneH_any ((hd0.hd.on hB0).on hX) (by omega)).mono (fun e w' ⟨u, h1, h2, h3⟩ => ⟨u, h1, ⟨h2, by have := hX.size; omega⟩, h3⟩)
  have HC2 : Hid (∀ X, Below W0.heap.size W0 X → Calls Try.prog 47 #[vb] X fun e w' => ∃ u, e = .returned u ∧ (BS (fun b => X.heap.size ≤ b) w' u body ∧ Below X.heap.size X w')) := fun X hX => Clone_bs vb body X ((hd0.bd.row.on hB0).on hX)
  clear hb0 hn0 hB0 hsz0 h hd0
  go_enter Try.func25, Try.ntmps25
  go_wp2_with fail
  refine region_mid (fun a0 a' w' => ∃ u1 u2, a' = ((((((((a0.put (some 5) (.pointer (some ⟨w.heap.size, 35, none⟩))).put (some 6) (vh)).put (some 7) (u1)).put (some 8) (.pointer (some ⟨w.heap.size, 41, none⟩))).put (some 9) (vb)).put (some 10) (u2)).put (some 11) (.pointer (some ⟨w.heap.size, 35, none⟩))).put (some 12) (.pointer (some ⟨w.heap.size, 41, none⟩))) ∧ OwL f g hs body w u1 u2 w') ?_ ?_
  · refine wp_region_held (S := fun _ => True) (by kernel_rfl) ?_
    show wpAnyH _ _ _ _ _ 10 (Array.replicate 10 false) _ _
    have hX0 : Below W0.heap.size W0 W0.drew := (Below.refl _ W0).drew
    refine take_one (i := 0) (d := some 5) (v := .pointer (some ⟨w.heap.size, 35, none⟩)) rfl rfl rfl (by kernel_rfl) (by kernel_rfl) (by kernel_rfl) (fun _ _ _ _ _ h => h.elim) (fun W hS => by kernel_rfl) trivial ?_
    simp only [Act.put, List.setIfInBounds_toArray, List.set_cons_zero, List.set_cons_succ]
    refine take_one (i := 3) (d := some 8) (v := .pointer (some ⟨w.heap.size, 41, none⟩)) rfl rfl rfl (by kernel_rfl) (by kernel_rfl) (by kernel_rfl) (fun _ _ _ _ _ h => h.elim) (fun W hS => by kernel_rfl) trivial ?_
    simp only [Act.put, List.setIfInBounds_toArray, List.set_cons_zero, List.set_cons_succ]
    refine all_two (i1 := 1) (i2 := 4) (by kernel_rfl) rfl rfl rfl rfl ?_ ?_
    · refine wp_loadA (d := some 6) (.tmp 5) 25 rfl rfl rfl (ld_heads (vb35 (blk_on HB0.out hX0)) hvhs) ⟨trivial, ?_⟩
      simp only [Act.put, List.setIfInBounds_toArray, List.set_cons_zero, List.set_cons_succ]
      refine all_two (i1 := 2) (i2 := 4) (by kernel_rfl) rfl rfl rfl rfl ?_ ?_
      · refine wp_call (d := some 7) 46 _ rfl (by kernel_rfl) (HC1.out _ hX0) ?_
        rintro u1 X1 ⟨hu1, hB1⟩
        have hX1 : Below W0.heap.size W0 X1 := hX0.trans (hB1.mono hX0.size)
        refine ⟨trivial, ?_⟩
        simp only [Act.put, List.setIfInBounds_toArray, List.set_cons_zero, List.set_cons_succ]
        refine all_one (i := 4) (by kernel_rfl) rfl rfl ?_
        refine wp_loadA (d := some 9) (.tmp 8) 26 rfl rfl rfl (ld_row (vb41 (blk_on HB0.out hX1)) hvbs) ⟨trivial, ?_⟩
        simp only [Act.put, List.setIfInBounds_toArray, List.set_cons_zero, List.set_cons_succ]
        refine take_one (i := 6) (d := some 11) (v := .pointer (some ⟨w.heap.size, 35, none⟩)) rfl rfl rfl (by kernel_rfl) (by kernel_rfl) (by kernel_rfl) (fun _ _ _ _ _ h => h.elim) (fun W hS => by kernel_rfl) trivial ?_
        simp only [Act.put, List.setIfInBounds_toArray, List.set_cons_zero, List.set_cons_succ]
        refine all_one (i := 5) (by kernel_rfl) rfl rfl ?_
        refine wp_call (d := some 10) 47 _ rfl (by kernel_rfl) (HC2.out _ hX1) ?_
        rintro u2 X2 ⟨hu2, hB2⟩
        have hX2 : Below W0.heap.size W0 X2 := hX1.trans (hB2.mono hX1.size)
        refine ⟨trivial, ?_⟩
        simp only [Act.put, List.setIfInBounds_toArray, List.set_cons_zero, List.set_cons_succ]
        have hf2 := blk_on HB0.out hX2
        have hu1s : ∃ x n m, u1 = .slice x n m := by obtain ⟨⟨a, c, _, e, _⟩, _⟩ := hu1; exact ⟨_, _, _, e⟩
        have hu2s := hu2.slc
        have hf3 := vs35 hf2 u1
        have hf4 := vs41 hf3 u2
        refine all_one (i := 7) (by kernel_rfl) rfl rfl ?_
        refine wp_storeA (.tmp 11) (.tmp 7) 25 rfl rfl rfl rfl (st_heads hf2 (show 35 < _ by rw [vC_len]; omega) hu1s) ⟨trivial, ?_⟩
        refine take_one (i := 8) (d := some 12) (v := .pointer (some ⟨w.heap.size, 41, none⟩)) rfl rfl rfl (by kernel_rfl) (by kernel_rfl) (by kernel_rfl) (fun _ _ _ _ _ h => h.elim) (fun W hS => by kernel_rfl) trivial ?_
        simp only [Act.put, List.setIfInBounds_toArray, List.set_cons_zero, List.set_cons_succ]
        refine all_one (i := 9) (by kernel_rfl) rfl rfl ?_
        refine wp_storeA (.tmp 12) (.tmp 10) 26 rfl rfl rfl rfl (st_row hf3 (show 41 < _ by rw [vC_len]; omega) hu2s) ⟨trivial, ?_⟩
        refine wpAnyH_done (by kernel_rfl) ?_ _
        exact ⟨u1, u2, own_leaf rfl HB0.out HZ0.out HSZ0.out hu1 hu2 hX1 hB2 hf4⟩
      · refine wp_loadA (d := some 9) (.tmp 8) 26 rfl rfl rfl (ld_row (vb41 (blk_on HB0.out hX0)) hvbs) ⟨trivial, ?_⟩
        simp only [Act.put, List.setIfInBounds_toArray, List.set_cons_zero, List.set_cons_succ]
        refine all_one (i := 2) (by kernel_rfl) rfl rfl ?_
        refine wp_call (d := some 7) 46 _ rfl (by kernel_rfl) (HC1.out _ hX0) ?_
        rintro u1 X1 ⟨hu1, hB1⟩
        have hX1 : Below W0.heap.size W0 X1 := hX0.trans (hB1.mono hX0.size)
        refine ⟨trivial, ?_⟩
        simp only [Act.put, List.setIfInBounds_toArray, List.set_cons_zero, List.set_cons_succ]
        refine take_one (i := 6) (d := some 11) (v := .pointer (some ⟨w.heap.size, 35, none⟩)) rfl rfl rfl (by kernel_rfl) (by kernel_rfl) (by kernel_rfl) (fun _ _ _ _ _ h => h.elim) (fun W hS => by kernel_rfl) trivial ?_
        simp only [Act.put, List.setIfInBounds_toArray, List.set_cons_zero, List.set_cons_succ]
        refine all_one (i := 5) (by kernel_rfl) rfl rfl ?_
        refine wp_call (d := some 10) 47 _ rfl (by kernel_rfl) (HC2.out _ hX1) ?_
        rintro u2 X2 ⟨hu2, hB2⟩
        have hX2 : Below W0.heap.size W0 X2 := hX1.trans (hB2.mono hX1.size)
        refine ⟨trivial, ?_⟩
        simp only [Act.put, List.setIfInBounds_toArray, List.set_cons_zero, List.set_cons_succ]
        have hf2 := blk_on HB0.out hX2
        have hu1s : ∃ x n m, u1 = .slice x n m := by obtain ⟨⟨a, c, _, e, _⟩, _⟩ := hu1; exact ⟨_, _, _, e⟩
        have hu2s := hu2.slc
        have hf3 := vs35 hf2 u1
        have hf4 := vs41 hf3 u2
        refine all_one (i := 7) (by kernel_rfl) rfl rfl ?_
        refine wp_storeA (.tmp 11) (.tmp 7) 25 rfl rfl rfl rfl (st_heads hf2 (show 35 < _ by rw [vC_len]; omega) hu1s) ⟨trivial, ?_⟩
        refine take_one (i := 8) (d := some 12) (v := .pointer (some ⟨w.heap.size, 41, none⟩)) rfl rfl rfl (by kernel_rfl) (by kernel_rfl) (by kernel_rfl) (fun _ _ _ _ _ h => h.elim) (fun W hS => by kernel_rfl) trivial ?_
        simp only [Act.put, List.setIfInBounds_toArray, List.set_cons_zero, List.set_cons_succ]
        refine all_one (i := 9) (by kernel_rfl) rfl rfl ?_
        refine wp_storeA (.tmp 12) (.tmp 10) 26 rfl rfl rfl rfl (st_row hf3 (show 41 < _ by rw [vC_len]; omega) hu2s) ⟨trivial, ?_⟩
        refine wpAnyH_done (by kernel_rfl) ?_ _
        exact ⟨u1, u2, own_leaf rfl HB0.out HZ0.out HSZ0.out hu1 hu2 hX1 hB2 hf4⟩
    · refine wp_loadA (d := some 9) (.tmp 8) 26 rfl rfl rfl (ld_row (vb41 (blk_on HB0.out hX0)) hvbs) ⟨trivial, ?_⟩
      simp only [Act.put, List.setIfInBounds_toArray, List.set_cons_zero, List.set_cons_succ]
      refine all_one (i := 1) (by kernel_rfl) rfl rfl ?_
      refine wp_loadA (d := some 6) (.tmp 5) 25 rfl rfl rfl (ld_heads (vb35 (blk_on HB0.out hX0)) hvhs) ⟨trivial, ?_⟩
      simp only [Act.put, List.setIfInBounds_toArray, List.set_cons_zero, List.set_cons_succ]
      refine all_one (i := 2) (by kernel_rfl) rfl rfl ?_
      refine wp_call (d := some 7) 46 _ rfl (by kernel_rfl) (HC1.out _ hX0) ?_
      rintro u1 X1 ⟨hu1, hB1⟩
      have hX1 : Below W0.heap.size W0 X1 := hX0.trans (hB1.mono hX0.size)
      refine ⟨trivial, ?_⟩
      simp only [Act.put, List.setIfInBounds_toArray, List.set_cons_zero, List.set_cons_succ]
      refine take_one (i := 6) (d := some 11) (v := .pointer (some ⟨w.heap.size, 35, none⟩)) rfl rfl rfl (by kernel_rfl) (by kernel_rfl) (by kernel_rfl) (fun _ _ _ _ _ h => h.elim) (fun W hS => by kernel_rfl) trivial ?_
      simp only [Act.put, List.setIfInBounds_toArray, List.set_cons_zero, List.set_cons_succ]
      refine all_one (i := 5) (by kernel_rfl) rfl rfl ?_
      refine wp_call (d := some 10) 47 _ rfl (by kernel_rfl) (HC2.out _ hX1) ?_
      rintro u2 X2 ⟨hu2, hB2⟩
      have hX2 : Below W0.heap.size W0 X2 := hX1.trans (hB2.mono hX1.size)
      refine ⟨trivial, ?_⟩
      simp only [Act.put, List.setIfInBounds_toArray, List.set_cons_zero, List.set_cons_succ]
      have hf2 := blk_on HB0.out hX2
      have hu1s : ∃ x n m, u1 = .slice x n m := by obtain ⟨⟨a, c, _, e, _⟩, _⟩ := hu1; exact ⟨_, _, _, e⟩
      have hu2s := hu2.slc
      have hf3 := vs35 hf2 u1
      have hf4 := vs41 hf3 u2
      refine all_one (i := 7) (by kernel_rfl) rfl rfl ?_
      refine wp_storeA (.tmp 11) (.tmp 7) 25 rfl rfl rfl rfl (st_heads hf2 (show 35 < _ by rw [vC_len]; omega) hu1s) ⟨trivial, ?_⟩
      refine take_one (i := 8) (d := some 12) (v := .pointer (some ⟨w.heap.size, 41, none⟩)) rfl rfl rfl (by kernel_rfl) (by kernel_rfl) (by kernel_rfl) (fun _ _ _ _ _ h => h.elim) (fun W hS => by kernel_rfl) trivial ?_
      simp only [Act.put, List.setIfInBounds_toArray, List.set_cons_zero, List.set_cons_succ]
      refine all_one (i := 9) (by kernel_rfl) rfl rfl ?_
      refine wp_storeA (.tmp 12) (.tmp 10) 26 rfl rfl rfl rfl (st_row hf3 (show 41 < _ by rw [vC_len]; omega) hu2s) ⟨trivial, ?_⟩
      refine wpAnyH_done (by kernel_rfl) ?_ _
      exact ⟨u1, u2, own_leaf rfl HB0.out HZ0.out HSZ0.out hu1 hu2 hX1 hB2 hf4⟩
  · rintro a' w1 ⟨u1, u2, rfl, a1, c1, bb, rfl, hab, hm⟩
    simp only [Act.put, List.setIfInBounds_toArray, List.set_cons_zero, List.set_cons_succ]
    have HAB : Hid (hs.length = 0 ∨ a1 = some ⟨bb, 0, none⟩) := hab
    have k35 := vb35 hm.box
    have HM0 : Hid (OwM f g hs body w 0 bb (.slice a1 hs.length c1) u2 w1) := hm
    have HFIT : Hid _ := hfit
    have HLEN : Hid _ := hlen
    clear hm HC1 HC2 HB0 HZ0 HSZ0 hab hfit hlen
    generalize hn : hs.length = n1 at *
    have HN : Hid (hs.length = n1) := hn
    clear hn
    go_wp2_with fail
    go_loopw [16] (fun i wr => ∃ k : Nat, k ≤ n1 ∧ i = .int .i64 k ∧ OwM f g hs body w k bb (.slice a1 n1 c1) u2 wr) (fun i _ => n1 - (intOf i).toNat)
    case atStart => exact ⟨0, Nat.zero_le _, rfl, HM0.out⟩
    case round =>
      obtain ⟨k, hk, rfl, hm⟩ := hrel
      by_cases hkn : k < n1
      · obtain ⟨cur, sk, hcur, hc0, hc1, hbs⟩ := hm.row.at (j := k) (by rw [HN.out]; exact hkn) (Nat.le_refl _)
        rcases HAB.out with h0 | rfl
        · omega
        have hsks := hbs.slc
        have hlb : wr.heap[bb]? = some (.cells cur.toArray 67) := hcur
        have hcl : k * 2 + 1 < cur.length := (List.getElem?_eq_some_iff.1 hc1).1
        have hle : CellsAt wr bb (k * 2) [.int .u8 (oK hs k), sk] := fun j v hj => by
          match j, hj with
          | 0, hj => injection hj with hj; rw [← hj]; exact blk_cell hcur hc0
          | 1, hj => injection hj with hj; rw [← hj]; exact blk_cell hcur hc1
          | j + 2, hj => simp at hj
        have hld := agg_load (t := 67) (n := 2) (fun w => by kernel_rfl) (fun w => by kernel_rfl) rfl hle
        obtain ⟨W4, hst, hhb, hB4⟩ := box_new (ty := 67) (n := 2) (fun w => by kernel_rfl) wr [.int .u8 0, .slice none 0 0] rfl [.int .u8 (oK hs k), sk] rfl (by intro v hv; simp at hv; rcases hv with rfl | rfl; rfl; exact hbs.one)
        have HLD : Hid _ := hld
        have HST : Hid _ := hst
        have hlo := hm.lo
        have hup := hm.up (by rw [HN.out]; omega)
        obtain ⟨hb, hhbe⟩ : ∃ hb, hb = wr.heap.size := ⟨_, rfl⟩
        have HBX4 : Hid (W4.heap[w.heap.size]? = some (BV f g (.slice (some ⟨bb, 0, none⟩) n1 c1) u2)) := blk_on hm.box hB4
        have HHB : Hid (W4.heap[hb]? = some (.cells [.int .u8 (oK hs k), sk].toArray 67)) := by rw [hhbe]; exact hhb
        have HCU : Hid (∀ X, Below W4.heap.size W4 X → ∃ cu : List Value, X.heap[bb]? = some (.cells cu.toArray 67) ∧ k * 2 + 1 < cu.length) := fun X hX => ⟨cur, blk_on (blk_on hcur hB4) hX, hcl⟩
        have HCK : Hid (∀ X, Below W4.heap.size W4 X → Calls Try.prog 47 #[sk] X fun e w' => ∃ u, e = .returned u ∧ (BS (fun b => X.heap.size ≤ b) w' u (oD hs k) ∧ Below X.heap.size X w')) := fun X hX => Clone_bs sk (oD hs k) X ((hbs.row.on hB4).on hX)
        have HMM : Hid (OwM f g hs body w k bb (.slice (some ⟨bb, 0, none⟩) n1 c1) u2 wr) := hm
        have HB4 : Hid (Below wr.heap.size wr W4) := hB4
        have hhbn : w.heap.size ≠ hb ∧ hb ≠ bb ∧ w.heap.size ≠ bb := by omega
        have HE : Hid (hb = wr.heap.size) := hhbe
        have HDS : Hid (∀ u3 X3, BS (fun b => W4.heap.size ≤ b) X3 u3 (oD hs k) → Below W4.heap.size W4 X3 → OwM f g hs body w (k + 1) bb (.slice (some ⟨bb, 0, none⟩) n1 c1) u2 (X3.setCell ⟨bb, k * 2 + 1, none⟩ u3)) := fun u3 X3 hu3 hX3 => by
          have hs4 := hB4.size
          have hX := hB4.trans (hX3.mono hB4.size)
          have hon : Only bb X3 (X3.setCell ⟨bb, k * 2 + 1, none⟩ u3) := (Only.refl bb X3).set _ _
          have hsp : Sep (fun c => c = bb) X3 (X3.setCell ⟨bb, k * 2 + 1, none⟩ u3) := Sep.of_only hon rfl
          have hxs := hX.size
          exact ⟨(hon.other _ (by omega)).trans (blk_on hm.box hX), (hon.other _ (by omega)).trans (blk_on hm.res hX), (hm.row.on hX).step (hu3.mono (fun c hc q => ⟨by omega, by omega⟩)) (fun c hc e => by omega) (fun c hc => hc.2), hlo, fun _ => by rw [hon.size]; omega, (hm.bd.on hX).sep hsp (fun c hc e => hc.2 e), (hm.bel.trans (hX.mono hm.bel.size)).trans (hon.below (by omega)), by rw [hon.size]; omega⟩
        have k35' := vb35 hm.box
        clear hm hcur hc0 hc1 hbs hlb hle hld hst hhb hB4 hcl hhbe hup HM0
        generalize oK hs k = K at *
        go_wp2_with first
          | ((with_reducible show wpList _ _ _ _ _ _); refine armL (.tmp 19) 67 rfl rfl rfl HLD.out ?_)
          | ((with_reducible show wpList _ _ _ _ _ _); refine armS (.tmp 4) (.tmp 20) 67 rfl rfl rfl rfl HST.out ?_)
        rw [← HE.out]
        refine region_mid (fun a0 a' w' => ∃ u3 X3, a' = ((((((((a0.put (some 21) (.pointer (some ⟨w.heap.size, 35, none⟩))).put (some 22) (.slice (some ⟨bb, 0, none⟩) n1 c1)).put (some 23) (.int .i64 (k : Nat))).put (some 24) (.pointer (some ⟨hb, 1, none⟩))).put (some 25) sk).put (some 26) u3).put (some 27) (.pointer (some ⟨bb, 0 + k * 2, none⟩))).put (some 28) (.pointer (some ⟨bb, 0 + k * 2 + 1, none⟩))) ∧ w' = X3.setCell ⟨bb, 0 + k * 2 + 1, none⟩ u3 ∧ BS (fun b => W4.heap.size ≤ b) X3 u3 (oD hs k) ∧ Below W4.heap.size W4 X3) ?_ ?_
        · skip
          refine wp_region_held (S := (fun X => X.heap[w.heap.size]? = some (BV f g (.slice (some ⟨bb, 0, none⟩) n1 c1) u2) ∧ X.heap[hb]? = some (.cells [.int .u8 K, sk].toArray 67))) (by kernel_rfl) ?_
          show wpAnyH _ _ _ _ _ 9 (Array.replicate 9 false) _ _
          have hs0 : W4.drew.heap[w.heap.size]? = some (BV f g (.slice (some ⟨bb, 0, none⟩) n1 c1) u2) ∧ W4.drew.heap[hb]? = some (.cells [.int .u8 K, sk].toArray 67) := ⟨HBX4.out, HHB.out⟩
          refine take_one (i := 0) (d := some 21) (v := .pointer (some ⟨w.heap.size, 35, none⟩)) rfl rfl rfl (by kernel_rfl) (by kernel_rfl) (by kernel_rfl) (fun _ _ _ _ _ h => h.elim) (fun W hS => by kernel_rfl) hs0 ?_
          simp only [Act.put, List.setIfInBounds_toArray, List.set_cons_zero, List.set_cons_succ]
          refine take_one (i := 1) (d := some 22) (v := .slice (some ⟨bb, 0, none⟩) n1 c1) rfl rfl rfl (by kernel_rfl) (by kernel_rfl) (by kernel_rfl) (fun _ _ _ _ _ h => h.elim) (fun W hS => ex_loadA (.tmp 21) 25 rfl rfl (ld_heads (vb35 hS.1) ⟨_, _, _, rfl⟩)) hs0 ?_
          simp only [Act.put, List.setIfInBounds_toArray, List.set_cons_zero, List.set_cons_succ]
          refine take_one (i := 2) (d := some 23) (v := .int .i64 (k : Nat)) rfl rfl rfl (by kernel_rfl) (by kernel_rfl) (by kernel_rfl) (fun _ _ _ _ _ h => h.elim) (fun W hS => by kernel_rfl) hs0 ?_
          simp only [Act.put, List.setIfInBounds_toArray, List.set_cons_zero, List.set_cons_succ]
          refine take_one (i := 3) (d := some 24) (v := .pointer (some ⟨hb, 1, none⟩)) rfl rfl rfl (by kernel_rfl) (by kernel_rfl) (by kernel_rfl) (fun _ _ _ _ _ h => h.elim) (fun W hS => by kernel_rfl) hs0 ?_
          simp only [Act.put, List.setIfInBounds_toArray, List.set_cons_zero, List.set_cons_succ]
          refine take_one (i := 4) (d := some 25) (v := sk) rfl rfl rfl (by kernel_rfl) (by kernel_rfl) (by kernel_rfl) (fun _ _ _ _ _ h => h.elim) (fun W hS => ex_loadA (.tmp 24) 26 rfl rfl (ld_row (blk_cell hS.2 (j := 1) rfl) hsks)) hs0 ?_
          simp only [Act.put, List.setIfInBounds_toArray, List.set_cons_zero, List.set_cons_succ]
          refine all_one (i := 5) (by kernel_rfl) rfl rfl ?_
          refine wp_call (d := some 26) 47 _ rfl (by kernel_rfl) (HCK.out _ (Below.refl _ W4).drew) ?_
          rintro u3 X3 ⟨hu3, hB3⟩
          have hX3 : Below W4.heap.size W4 X3 := ((Below.refl _ W4).drew).trans (Below.mono hB3 (Nat.le_refl _))
          have hs3 : X3.heap[w.heap.size]? = some (BV f g (.slice (some ⟨bb, 0, none⟩) n1 c1) u2) ∧ X3.heap[hb]? = some (.cells [.int .u8 K, sk].toArray 67) := ⟨blk_on HBX4.out hX3, blk_on HHB.out hX3⟩
          refine ⟨hs3, ?_⟩
          simp only [Act.put, List.setIfInBounds_toArray, List.set_cons_zero, List.set_cons_succ]
          refine take_one (i := 6) (d := some 27) (v := .pointer (some ⟨bb, 0 + k * 2, none⟩)) rfl rfl rfl (by kernel_rfl) (by kernel_rfl) (by kernel_rfl) (fun _ _ _ _ _ h => h.elim) (fun W hS => ex_idxH 22 23 rfl rfl rfl hkn) hs3 ?_
          simp only [Act.put, List.setIfInBounds_toArray, List.set_cons_zero, List.set_cons_succ]
          refine take_one (i := 7) (d := some 28) (v := .pointer (some ⟨bb, 0 + k * 2 + 1, none⟩)) rfl rfl rfl (by kernel_rfl) (by kernel_rfl) (by kernel_rfl) (fun _ _ _ _ _ h => h.elim) (fun W hS => by kernel_rfl) hs3 ?_
          simp only [Act.put, List.setIfInBounds_toArray, List.set_cons_zero, List.set_cons_succ]
          obtain ⟨cu3, hc3, hl3⟩ := HCU.out _ hX3
          have hs4 : (X3.setCell ⟨bb, 0 + k * 2 + 1, none⟩ u3).heap[w.heap.size]? = some (BV f g (.slice (some ⟨bb, 0, none⟩) n1 c1) u2) ∧ (X3.setCell ⟨bb, 0 + k * 2 + 1, none⟩ u3).heap[hb]? = some (.cells [.int .u8 K, sk].toArray 67) := ⟨blk_set_other hs3.1 (by omega) _ _, blk_set_other hs3.2 (by omega) _ _⟩
          refine all_one (i := 8) (by kernel_rfl) rfl rfl ?_
          refine wp_storeA (.tmp 28) (.tmp 26) 26 rfl rfl rfl rfl (st_row hc3 (show 0 + k * 2 + 1 < _ by omega) hu3.slc) ⟨hs4, ?_⟩
          refine wpAnyH_done (by kernel_rfl) ?_ _
          exact ⟨u3, X3, rfl, rfl, hu3, hX3⟩
        · rintro a' w5 ⟨u3, X3, rfl, rfl, hu3, hX3⟩
          simp only [Act.put, List.setIfInBounds_toArray, List.set_cons_zero, List.set_cons_succ]
          rw [Nat.zero_add]
          have hm5 := HDS.out u3 X3 hu3 hX3
          have HM5 : Hid _ := hm5
          clear hm5 hu3 hX3 HDS HCK HCU HBX4 HHB HLD HST
          generalize X3.setCell ⟨bb, k * 2 + 1, none⟩ u3 = w5 at *
          go_wp2
          exact ⟨⟨k + 1, by omega, by simp, HM5.out⟩, by simp [intOf]; omega⟩
      · obtain rfl : k = n1 := by omega
        obtain ⟨W6, hst, hb6, hon⟩ := box_store Try.sizeOf28 hm.res (by rfl) (vC f g (.slice a1 k c1) u2) vC_len (vC_one rfl hm.bd.one)
        have hsp : Sep (fun c => c = w.heap.size + 1) wr W6 := Sep.of_only hon rfl
        have hlo := hm.lo
        have hd6 : D6 (fun b => w.heap.size ≤ b) W6 f (.slice a1 k c1) u2 hs body := by
          refine D6.sep (S := fun c => w.heap.size + 2 ≤ c) ⟨?_, hm.bd.mono (fun c _ hc => hc.1), hlab⟩ hsp (fun c hc e => by omega) |>.mono (fun c _ hc => by omega)
          have := hm.row.hs (a := a1) (cap := c1) (T' := fun c => w.heap.size + 2 ≤ c) (by rw [HN.out]; exact Nat.le_refl _) HFIT.out (by rw [HN.out]; exact HLEN.out) (by rw [HN.out]; exact HAB.out) hlo (fun c _ hc => hc.1)
          rw [HN.out] at this
          exact this
        have HD6 : Hid _ := hd6
        have HV : Hid _ := vb_var hb6
        have HL : Hid _ := vb_load hm.box
        have HST : Hid _ := hst
        have HBB : Hid (Below w.heap.size w W6) := hm.bel.trans (hon.below (by omega))
        clear hst hb6 hon hsp hd6 hm k35 HM0 HAB
        go_wp2_with first
          | ((with_reducible show wpList _ _ _ _ _ _); refine armL (.tmp 1) 28 rfl rfl rfl HL.out ?_)
          | ((with_reducible show wpList _ _ _ _ _ _); refine armS (.tmp 2) (.tmp 30) 28 rfl rfl rfl rfl HST.out ?_)
        exact bodyPost_ret (res1t rfl rfl HV.out) rfl ⟨_, _, rfl, HD6.out, HBB.out⟩

end Go.Proofs.Ytcllcinekohklaa
