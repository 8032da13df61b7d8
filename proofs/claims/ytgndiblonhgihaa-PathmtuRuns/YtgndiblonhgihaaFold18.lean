/-
  A cache: made, check, Get.
  Get of a made cache.
-/
import Derived.Test.YtgndiblonhgihaaFold17
namespace Go.Proofs.Ytgndiblonhgihaa
open Go Go.RowKit Go.Lib
set_option linter.unusedVariables false
set_option linter.unusedSimpArgs false

/-- A cache's box. -/
def Box (W : World) (p pb : Nat) : Prop := W.heap[p]? = some (.cells [Value.pointer (some ⟨pb, 0, none⟩)].toArray 52)
theorem made_nil (W : World) : Calls Try.prog 26 #[.pointer none] W fun e w' => e = .returned (.bool false) ∧ w' = W := by
  go_enter Try.func26, Try.ntmps26
  go_wp2
  try go_returns
  exact ⟨rfl, rfl⟩
theorem made_zero {W : World} {p : Nat} (h : W.heap[p]? = some (.cells [Value.pointer none].toArray 52)) : Calls Try.prog 26 #[.pointer (some ⟨p, 0, none⟩)] W fun e w' => e = .returned (.bool false) ∧ w' = W := by
  have c0 : W.cell? ⟨p, 0, none⟩ = some (.pointer none) := blk_cell (j := 0) h rfl
  clear h
  go_enter Try.func26, Try.ntmps26
  go_wp2
  try go_returns
  exact ⟨rfl, rfl⟩
theorem made_yes {W : World} {p pb : Nat} (h : Box W p pb) : Calls Try.prog 26 #[.pointer (some ⟨p, 0, none⟩)] W fun e w' => e = .returned (.bool true) ∧ w' = W := by
  have c0 : W.cell? ⟨p, 0, none⟩ = some (.pointer (some ⟨pb, 0, none⟩)) := blk_cell (j := 0) h rfl
  clear h
  go_enter Try.func26, Try.ntmps26
  go_wp2
  try go_returns
  exact ⟨rfl, rfl⟩
/-- What nobody made refuses. -/
theorem check_no {W : World} {v : Value} (t : Int) (h : Calls Try.prog 26 #[v] W fun e w' => e = .returned (.bool false) ∧ w' = W) : Calls Try.prog 27 #[v, .int .i64 t] W fun e w' => e = .returned (.int .i64 4) ∧ w' = W := by
  have H : Hid (Calls Try.prog 26 #[v] W fun e w' => e = .returned (.bool false) ∧ w' = W) := h
  clear h
  go_enter Try.func27, Try.ntmps27
  go_wp2_with fail
  refine Calls.mono H.out ?_
  rintro e w1 ⟨rfl, rfl⟩
  go_wp2_with fail
  try go_returns
  exact ⟨rfl, rfl⟩
/-- A time at which a cache may be called. -/
def okT (now t : Int) : Prop := now ≤ t ∧ t ≤ 1099511627776
set_option maxHeartbeats 4000000 in
theorem check_yes {W : World} {p pb mb : Nat} {cf : Cf} {now : Int} {line : Value} {L : List (PE × Nat)} (hb : Box W p pb) (h : Paths pb cf now mb line L W) {t : Int} (ht : okT now t) : Calls Try.prog 27 #[.pointer (some ⟨p, 0, none⟩), .int .i64 t] W fun e w' => e = .returned (.int .i64 0) ∧ w' = W := by
  have H := made_yes hb
  have H : Hid _ := H
  have c0 : W.cell? ⟨p, 0, none⟩ = some (.pointer (some ⟨pb, 0, none⟩)) := blk_cell (j := 0) hb rfl
  have c4 := h.cell 4 _ rfl
  have q1 : decide (t < now) = false := decide_eq_false (by have := ht.1; omega)
  have q2 : decide (t > 1099511627776) = false := decide_eq_false (by have := ht.2; omega)
  have q3 : decide (1099511627776 < t) = false := decide_eq_false (by have := ht.2; omega)
  clear hb h ht
  go_enter Try.func27, Try.ntmps27
  go_wp2_with fail
  refine Calls.mono H.out ?_
  rintro e w1 ⟨rfl, rfl⟩
  go_wp2_with fail
  try go_returns
  exact ⟨rfl, rfl⟩
set_option maxHeartbeats 4000000 in
theorem check_bad {W : World} {p pb mb : Nat} {cf : Cf} {now : Int} {line : Value} {L : List (PE × Nat)} (hb : Box W p pb) (h : Paths pb cf now mb line L W) {t : Int} (ht : ¬ okT now t) : Calls Try.prog 27 #[.pointer (some ⟨p, 0, none⟩), .int .i64 t] W fun e w' => e = .returned (.int .i64 153) ∧ w' = W := by
  have H := made_yes hb
  have H : Hid _ := H
  have c0 : W.cell? ⟨p, 0, none⟩ = some (.pointer (some ⟨pb, 0, none⟩)) := blk_cell (j := 0) hb rfl
  have c4 := h.cell 4 _ rfl
  clear hb h
  by_cases c : t < now
  · have q1 : decide (t < now) = true := decide_eq_true c
    clear ht
    go_enter Try.func27, Try.ntmps27
    go_wp2_with fail
    refine Calls.mono H.out ?_
    rintro e w1 ⟨rfl, rfl⟩
    go_wp2_with fail
    try go_returns
    exact ⟨rfl, rfl⟩
  · have q1 : decide (t < now) = false := decide_eq_false c
    have d : t > 1099511627776 := by unfold okT at ht; omega
    have q2 : decide (t > 1099511627776) = true := decide_eq_true d
    have q3 : decide (1099511627776 < t) = true := decide_eq_true d
    clear ht
    go_enter Try.func27, Try.ntmps27
    go_wp2_with fail
    refine Calls.mono H.out ?_
    rintro e w1 ⟨rfl, rfl⟩
    go_wp2_with fail
    try go_returns
    exact ⟨rfl, rfl⟩
theorem Box.on {W W' : World} {p pb : Nat} (h : Box W p pb) (hb : W'.heap[p]? = W.heap[p]?) : Box W' p pb := hb.trans h
theorem Box.lt {W : World} {p pb : Nat} (h : Box W p pb) : p < W.heap.size := (Array.getElem?_eq_some_iff.1 h).1
theorem Keeps.bx {pb mb : Nat} {cf : Cf} {now : Int} {line : Value} {L : List (PE × Nat)} {W : World} (h : Keeps pb cf now mb line L W) {p qb : Nat} (hb : Box W p qb) : p ≠ pb ∧ p ≠ mb ∧ line.ownBlock ≠ some p := by
  refine ⟨fun e => ?_, fun e => ?_, fun e => ?_⟩
  · have h1 := h.p.box
    unfold Box at hb
    rw [← e, hb] at h1
    simp at h1
  · obtain ⟨M, ⟨es, c, h1, _⟩, _⟩ := h.m
    unfold Box at hb
    rw [← e, hb] at h1
    simp at h1
  · unfold Box at hb
    rcases h.p.row.2 with ⟨rfl, _⟩ | ⟨g, cap, cur, rfl, _, h2, _⟩
    · simp [Value.ownBlock] at e
    · simp [Value.ownBlock] at e
      rw [e, hb] at h2
      simp at h2
/-- Get of what nobody made. -/
theorem get_no {W : World} {v : Value} (t : Int) {d : List Int} (h : ∀ X, Below W.heap.size W X → Calls Try.prog 27 #[v, .int .i64 t] X fun e w' => e = .returned (.int .i64 4) ∧ w' = X) : Calls Try.prog 13 #[v, .int .i64 t, .agg (u8s d).toArray] W fun e w' => e = .returned (.tuple #[.int .i64 0, .int .i64 4]) ∧ Below W.heap.size W w' := by
  obtain ⟨W1, hW1⟩ : ∃ W1, W1 = W.alloc (.cells (u8s d).toArray 35) := ⟨_, rfl⟩
  have hB1 : Below W.heap.size W W1 := by rw [hW1]; exact (Below.refl W.heap.size W).alloc (Nat.le_refl _) _
  have H : Hid _ := h W1 hB1
  have HB : Hid (Below W.heap.size W W1) := hB1
  have hW := hW1.symm
  clear h hW1 hB1
  go_enter Try.func13, Try.ntmps13
  go_wp2_with fail
  refine Calls.mono H.out ?_
  rintro e w1 ⟨rfl, rfl⟩
  go_wp2_with fail
  try go_returns
  exact ⟨rfl, HB.out⟩
end Go.Proofs.Ytgndiblonhgihaa

namespace Go.Proofs.Ytgndiblonhgihaa
open Go Go.RowKit Go.Lib
set_option linter.unusedVariables false
set_option linter.unusedSimpArgs false

theorem live_len (L : List (PE × Nat)) (t : Int) : (live L t).length ≤ L.length := List.length_filter_le _ _
set_option maxHeartbeats 8000000 in
set_option maxRecDepth 100000 in
theorem get_yes {V : World} {p pb mb : Nat} {cf : Cf} {now : Int} {line : Value} {L : List (PE × Nat)} (hb : Box V p pb) (h : Keeps pb cf now mb line L V) (hs : SortE L) (hl : L.length ≤ 1000000) {t : Int} (ht : okT now t) {d : List Int} (hd : K16 d) :
    Calls Try.prog 13 #[.pointer (some ⟨p, 0, none⟩), .int .i64 t, .agg (u8s d).toArray] V fun e w' => e = .returned (.tuple #[.int .i64 (mtuL cf (live L t) d), .int .i64 0]) ∧ Box w' p pb ∧ ∃ line', Keeps pb cf t mb line' (live L t) w' ∧ line'.ownBlock = line.ownBlock ∧ Fr pb mb line V w' := by
  generalize hQ : (fun (e : Ending) (w' : World) => e = .returned (.tuple #[.int .i64 (mtuL cf (live L t) d), .int .i64 0]) ∧ Box w' p pb ∧ ∃ line', Keeps pb cf t mb line' (live L t) w' ∧ line'.ownBlock = line.ownBlock ∧ Fr pb mb line V w') = Q
  have HQ : Hid (∀ e w', (e = .returned (.tuple #[.int .i64 (mtuL cf (live L t) d), .int .i64 0]) ∧ Box w' p pb ∧ ∃ line', Keeps pb cf t mb line' (live L t) w' ∧ line'.ownBlock = line.ownBlock ∧ Fr pb mb line V w') → Q e w') := fun e w' hh => by rw [← hQ]; exact hh
  clear hQ
  obtain ⟨b, hbb⟩ : ∃ b, b = V.heap.size := ⟨_, rfl⟩
  obtain ⟨W1, hW1⟩ : ∃ W1, W1 = V.alloc (.cells (u8s d).toArray 35) := ⟨_, rfl⟩
  have hs1 : W1.heap.size = V.heap.size + 1 := by rw [hW1]; simp
  have hB1 : Below V.heap.size V W1 := by rw [hW1]; exact (Below.refl V.heap.size V).alloc (Nat.le_refl _) _
  have hx1 : W1.heap[b]? = some (.cells (u8s d).toArray 35) := by rw [hW1, hbb]; exact blk_new V _
  have k1 := h.on hB1
  have x1 := hb.on (hB1.block _ hb.lt)
  have HC := check_yes x1 k1.p ht
  have HC : Hid _ := HC
  have HG := goOn_any k1 hs hl t
  have HG : Hid _ := HG
  have HBX := h.bx hb
  have hpV := h.p.lt
  have hmV : mb < V.heap.size := by obtain ⟨M, h1, _⟩ := h.m; exact h1.lt
  have hlV : ∀ g, line.ownBlock = some g → g < V.heap.size := fun g hg => own_lt h.p.row hg
  have HN : Hid (p < V.heap.size ∧ pb < b ∧ mb < b ∧ line.ownBlock ≠ some b ∧ b < W1.heap.size ∧ V.heap.size ≤ W1.heap.size) := ⟨hb.lt, by omega, by omega, fun e => by have := hlV b e; omega, by omega, by omega⟩
  have HBX : Hid (p ≠ pb ∧ p ≠ mb ∧ line.ownBlock ≠ some p) := HBX
  have HX1 : Hid (Box W1 p pb ∧ W1.heap[b]? = some (.cells (u8s d).toArray 35) ∧ Below V.heap.size V W1) := ⟨x1, hx1, hB1⟩
  have HD : Hid (K16 d) := hd
  have c0 : W1.cell? ⟨p, 0, none⟩ = some (.pointer (some ⟨pb, 0, none⟩)) := blk_cell (j := 0) x1 rfl
  have hW := hW1.symm
  have hb2 := hbb.symm
  clear hW1 hs1 hB1 hx1 k1 x1 h hb hs hl ht hd hpV hmV hlV hbb
  go_enter Try.func13, Try.ntmps13
  go_wp2_with fail
  refine Calls.mono HC.out ?_
  rintro e w1 ⟨rfl, rfl⟩
  go_wp2_with fail
  refine Calls.mono HG.out ?_
  rintro e w2 ⟨rfl, line2, k2, l2, f2⟩
  have hbx2 : Box w2 p pb := HX1.out.1.on (f2.other p (Nat.lt_of_lt_of_le HN.out.1 HN.out.2.2.2.2.2) HBX.out.1 HBX.out.2.1 HBX.out.2.2)
  have hx2 : w2.heap[b]? = some (.cells (u8s d).toArray 35) := (f2.other b HN.out.2.2.2.2.1 (by have := HN.out; omega) (by have := HN.out; omega) HN.out.2.2.2.1).trans HX1.out.2.1
  have HK2 : Hid (Keeps pb cf t mb line2 (live L t) w2 ∧ line2.ownBlock = line.ownBlock ∧ Fr pb mb line V w2) := ⟨k2, l2, (Fr.below HX1.out.2.2).trans f2 rfl⟩
  have HX2 : Hid (Box w2 p pb ∧ w2.heap[b]? = some (.cells (u8s d).toArray 35)) := ⟨hbx2, hx2⟩
  obtain ⟨M, hm, hML⟩ := k2.m
  have HM : Hid (MapAt w2 mb M ∧ MapL M (live L t)) := ⟨hm, hML⟩
  clear k2 l2 f2 hbx2 hx2 hm hML HC HG c0 hW
  go_wp2_with fail
  refine wp_region_held (S := fun X => Box X p pb ∧ X.heap[b]? = some (.cells (u8s d).toArray 35)) (by kernel_rfl) ?_
  show wpAnyH _ _ _ _ _ 8 (Array.replicate 8 false) _ w2.drew
  have s0 : Box w2.drew p pb ∧ w2.drew.heap[b]? = some (.cells (u8s d).toArray 35) := HX2.out
  have b0 : Below w2.heap.size w2 w2.drew := (Below.refl _ w2).drew
  have HMT := mtu_any (V := w2.drew) (HK2.out.1.p.on b0) (HM.out.1.on rfl) HM.out.2 HK2.out.1.kn.kd HD.out
  generalize w2.drew = V0 at *
  refine take_wT (i := 0) (d := some 21) (v := .pointer (some ⟨p, 0, none⟩)) rfl rfl rfl (by kernel_rfl) (by kernel_rfl) (by kernel_rfl) (fun _ _ d _ _ h => by cases d <;> exact h) (fun X hS => by kernel_rfl) s0 ?_
  simp only [Act.put, List.setIfInBounds_toArray, List.set_cons_zero, List.set_cons_succ]
  refine take_wT (i := 1) (d := some 22) (v := .pointer (some ⟨p, 0, none⟩)) rfl rfl rfl (by kernel_rfl) (by kernel_rfl) (by kernel_rfl) (fun _ _ d _ _ h => by cases d <;> exact h) (fun X hS => by kernel_rfl) s0 ?_
  simp only [Act.put, List.setIfInBounds_toArray, List.set_cons_zero, List.set_cons_succ]
  refine take_wT (i := 2) (d := some 23) (v := .pointer (some ⟨p, 0, none⟩)) rfl rfl rfl (by kernel_rfl) (by kernel_rfl) (by kernel_rfl) (fun _ _ d _ _ h => by cases d <;> exact h) (fun X hS => by kernel_rfl) s0 ?_
  simp only [Act.put, List.setIfInBounds_toArray, List.set_cons_zero, List.set_cons_succ]
  refine take_wT (i := 3) (d := some 24) (v := .pointer (some ⟨pb, 0, none⟩)) rfl rfl rfl (by kernel_rfl) (by kernel_rfl) (by kernel_rfl) (fun _ _ d _ _ h => by cases d <;> exact h) (fun X hS => ex_loadA (.tmp 23) 50 rfl rfl (ld_pp (blk_cell (j := 0) hS.1 rfl))) s0 ?_
  simp only [Act.put, List.setIfInBounds_toArray, List.set_cons_zero, List.set_cons_succ]
  refine take_wT (i := 4) (d := some 25) (v := .agg (u8s d).toArray) rfl rfl rfl (by kernel_rfl) (by kernel_rfl) (by kernel_rfl) (fun _ _ d _ _ h => by cases d <;> exact h) (fun X hS => ex_loadA (.tmp 5) 35 rfl rfl (load6 HD.out.len (CellsAt.blkP (c := u8s d) (t := 35) hS.2))) s0 ?_
  simp only [Act.put, List.setIfInBounds_toArray, List.set_cons_zero, List.set_cons_succ]
  refine all_wT (i := 5) (by kernel_rfl) rfl rfl ?_
  refine wp_call (d := some 26) 29 _ rfl (by kernel_rfl) (callR HMT) ?_
  rintro _ X1 ⟨rfl, hb1⟩
  have s1 : Box X1 p pb ∧ X1.heap[b]? = some (.cells (u8s d).toArray 35) := ⟨s0.1.on (hb1.block _ s0.1.lt), (hb1.block _ (Array.getElem?_eq_some_iff.1 s0.2).1).trans s0.2⟩
  refine ⟨s1, ?_⟩
  simp only [Act.put, List.setIfInBounds_toArray, List.set_cons_zero, List.set_cons_succ]
  refine take_wT (i := 6) (d := some 6) (v := .int .i64 (mtuL cf (live L t) d)) rfl rfl rfl (by kernel_rfl) (by kernel_rfl) (by kernel_rfl) (fun _ _ d _ _ h => by cases d <;> exact h) (fun X hS => by kernel_rfl) s1 ?_
  simp only [Act.put, List.setIfInBounds_toArray, List.set_cons_zero, List.set_cons_succ]
  refine take_wT (i := 7) (d := some 7) (v := .int .i64 0) rfl rfl rfl (by kernel_rfl) (by kernel_rfl) (by kernel_rfl) (fun _ _ d _ _ h => by cases d <;> exact h) (fun X hS => by kernel_rfl) s1 ?_
  simp only [Act.put, List.setIfInBounds_toArray, List.set_cons_zero, List.set_cons_succ]
  refine wpAnyH_done (by kernel_rfl) ?_ _

  have b1 : Below w2.heap.size w2 X1 := b0.trans (hb1.mono b0.size)
  have HF : Hid (Box X1 p pb ∧ ∃ line', Keeps pb cf t mb line' (live L t) X1 ∧ line'.ownBlock = line.ownBlock ∧ Fr pb mb line V X1) := ⟨s1.1, line2, HK2.out.1.on b1, HK2.out.2.1, HK2.out.2.2.trans (Fr.below b1) rfl⟩
  clear s0 b0 HMT hb1 s1 b1 HK2 HX2 HM HX1
  first
  | (try go_returns
     exact HQ.out _ _ ⟨rfl, HF.out⟩)
  | (go_wp2_with fail
     try go_returns
     exact HQ.out _ _ ⟨rfl, HF.out⟩)
end Go.Proofs.Ytgndiblonhgihaa
