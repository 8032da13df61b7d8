/-
  A cache: calls at times that may not be; Drop; Next.
  All: the entries by their addresses.
-/
import Derived.Test.YtgndiblonhgihaaFold26
namespace Go.Proofs.Ytgndiblonhgihaa
open Go Go.RowKit Go.Lib
set_option linter.unusedVariables false
set_option linter.unusedSimpArgs false

set_option maxHeartbeats 4000000 in
theorem Cch.get_late {B : Nat} {W0 V : World} {p pb mb : Nat} {cf : Cf} {now : Int} {L : List (PE × Nat)} (h : Cch B W0 V p pb mb cf now L) {t : Int} (ht : ¬ okT now t) (d : List Int) :
    Calls Try.prog 13 #[.pointer (some ⟨p, 0, none⟩), .int .i64 t, .agg (u8s d).toArray] V fun e w' => e = .returned (.tuple #[.int .i64 0, .int .i64 153]) ∧ Below V.heap.size V w' := by
  obtain ⟨line, hk, -⟩ := h.k
  have hbx := h.bx
  obtain ⟨W1, hW1⟩ : ∃ W1, W1 = V.alloc (.cells (u8s d).toArray 35) := ⟨_, rfl⟩
  have hB1 : Below V.heap.size V W1 := by rw [hW1]; exact (Below.refl V.heap.size V).alloc (Nat.le_refl _) _
  have HC : Hid _ := check_bad (hbx.on (hB1.block _ hbx.lt)) (hk.on hB1).p ht
  have HB : Hid (Below V.heap.size V W1) := hB1
  have hW := hW1.symm
  clear hW1 hB1 hk hbx ht h
  go_enter Try.func13, Try.ntmps13
  go_wp2_with fail
  refine Calls.mono HC.out ?_
  rintro e w1 ⟨rfl, rfl⟩
  go_wp2_with fail
  try go_returns
  exact ⟨rfl, HB.out⟩
set_option maxHeartbeats 4000000 in
theorem Cch.told_late {B : Nat} {W0 V : World} {p pb mb : Nat} {cf : Cf} {now : Int} {L : List (PE × Nat)} (h : Cch B W0 V p pb mb cf now L) {t : Int} (ht : ¬ okT now t) (d : List Int) (z : Int) :
    Calls Try.prog 15 #[.pointer (some ⟨p, 0, none⟩), .int .i64 t, .agg (u8s d).toArray, .int .i64 z] V fun e w' => e = .returned (.tuple #[.bool false, .int .i64 153]) ∧ Below V.heap.size V w' := by
  obtain ⟨line, hk, -⟩ := h.k
  have hbx := h.bx
  obtain ⟨W1, hW1⟩ : ∃ W1, W1 = V.alloc (.cells (u8s d).toArray 35) := ⟨_, rfl⟩
  have hB1 : Below V.heap.size V W1 := by rw [hW1]; exact (Below.refl V.heap.size V).alloc (Nat.le_refl _) _
  have HC : Hid _ := check_bad (hbx.on (hB1.block _ hbx.lt)) (hk.on hB1).p ht
  have HB : Hid (Below V.heap.size V W1) := hB1
  have hW := hW1.symm
  clear hW1 hB1 hk hbx ht h
  go_enter Try.func15, Try.ntmps15
  go_wp2_with fail
  refine Calls.mono HC.out ?_
  rintro e w1 ⟨rfl, rfl⟩
  go_wp2_with fail
  try go_returns
  exact ⟨rfl, HB.out⟩
set_option maxHeartbeats 4000000 in
theorem Cch.drop_late {B : Nat} {W0 V : World} {p pb mb : Nat} {cf : Cf} {now : Int} {L : List (PE × Nat)} (h : Cch B W0 V p pb mb cf now L) {t : Int} (ht : ¬ okT now t) (d : List Int) :
    Calls Try.prog 16 #[.pointer (some ⟨p, 0, none⟩), .int .i64 t, .agg (u8s d).toArray] V fun e w' => e = .returned (.tuple #[.bool false, .int .i64 153]) ∧ Below V.heap.size V w' := by
  obtain ⟨line, hk, -⟩ := h.k
  have hbx := h.bx
  obtain ⟨W1, hW1⟩ : ∃ W1, W1 = V.alloc (.cells (u8s d).toArray 35) := ⟨_, rfl⟩
  have hB1 : Below V.heap.size V W1 := by rw [hW1]; exact (Below.refl V.heap.size V).alloc (Nat.le_refl _) _
  have HC : Hid _ := check_bad (hbx.on (hB1.block _ hbx.lt)) (hk.on hB1).p ht
  have HB : Hid (Below V.heap.size V W1) := hB1
  have hW := hW1.symm
  clear hW1 hB1 hk hbx ht h
  go_enter Try.func16, Try.ntmps16
  go_wp2_with fail
  refine Calls.mono HC.out ?_
  rintro e w1 ⟨rfl, rfl⟩
  go_wp2_with fail
  try go_returns
  exact ⟨rfl, HB.out⟩
set_option maxHeartbeats 4000000 in
theorem Cch.all_late {B : Nat} {W0 V : World} {p pb mb : Nat} {cf : Cf} {now : Int} {L : List (PE × Nat)} (h : Cch B W0 V p pb mb cf now L) {t : Int} (ht : ¬ okT now t) :
    Calls Try.prog 17 #[.pointer (some ⟨p, 0, none⟩), .int .i64 t] V fun e w' => e = .returned (.tuple #[.slice none 0 0, .int .i64 153]) ∧ Below V.heap.size V w' := by
  obtain ⟨line, hk, -⟩ := h.k
  have hbx := h.bx
  have HC : Hid _ := check_bad hbx hk.p ht
  have HB : Hid (Below V.heap.size V V) := Below.refl _ _
  clear hk hbx ht h
  go_enter Try.func17, Try.ntmps17
  go_wp2_with fail
  refine Calls.mono HC.out ?_
  rintro e w1 ⟨rfl, rfl⟩
  go_wp2_with fail
  try go_returns
  exact ⟨rfl, HB.out⟩
set_option maxHeartbeats 8000000 in
set_option maxRecDepth 100000 in
theorem drop_yes {V : World} {p pb mb : Nat} {cf : Cf} {now : Int} {line : Value} {L : List (PE × Nat)} (hb : Box V p pb) (h : Keeps pb cf now mb line L V) (hs : SortE L) (hl : L.length ≤ 1000000) {t : Int} (ht : okT now t) {d : List Int} (hd : K16 d) :
    Calls Try.prog 16 #[.pointer (some ⟨p, 0, none⟩), .int .i64 t, .agg (u8s d).toArray] V fun e w' => e = .returned (.tuple #[.bool (hasL (live L t) d), .int .i64 0]) ∧ Box w' p pb ∧ ∃ line', Keeps pb cf t mb line' (lackL (live L t) d) w' ∧ line'.ownBlock = line.ownBlock ∧ Fr pb mb line V w' := by
  generalize hQ : (fun (e : Ending) (w' : World) => e = .returned (.tuple #[.bool (hasL (live L t) d), .int .i64 0]) ∧ Box w' p pb ∧ ∃ line', Keeps pb cf t mb line' (lackL (live L t) d) w' ∧ line'.ownBlock = line.ownBlock ∧ Fr pb mb line V w') = Q
  have HQ : Hid (∀ e w', (e = .returned (.tuple #[.bool (hasL (live L t) d), .int .i64 0]) ∧ Box w' p pb ∧ ∃ line', Keeps pb cf t mb line' (lackL (live L t) d) w' ∧ line'.ownBlock = line.ownBlock ∧ Fr pb mb line V w') → Q e w') := fun e w' hh => by rw [← hQ]; exact hh
  clear hQ
  obtain ⟨b, hbb⟩ : ∃ b, b = V.heap.size := ⟨_, rfl⟩
  obtain ⟨W1, hW1⟩ : ∃ W1, W1 = V.alloc (.cells (u8s d).toArray 35) := ⟨_, rfl⟩
  have hs1 : W1.heap.size = V.heap.size + 1 := by rw [hW1]; simp
  have hB1 : Below V.heap.size V W1 := by rw [hW1]; exact (Below.refl V.heap.size V).alloc (Nat.le_refl _) _
  have hx1 : W1.heap[b]? = some (.cells (u8s d).toArray 35) := by rw [hW1, hbb]; exact blk_new V _
  have k1 := h.on hB1
  have x1 := hb.on (hB1.block _ hb.lt)
  have HC := check_yes x1 k1.p ht
  have HC : Hid _ := HC
  have HG := goOn_any k1 hs hl t
  have HG : Hid _ := HG
  have HBX := h.bx hb
  have hpV := h.p.lt
  have hmV : mb < V.heap.size := by obtain ⟨M, h1, _⟩ := h.m; exact h1.lt
  have hlV : ∀ g, line.ownBlock = some g → g < V.heap.size := fun g hg => own_lt h.p.row hg
  have HN : Hid (p < V.heap.size ∧ pb < b ∧ mb < b ∧ line.ownBlock ≠ some b ∧ b < W1.heap.size ∧ V.heap.size ≤ W1.heap.size) := ⟨hb.lt, by omega, by omega, fun e => by have := hlV b e; omega, by omega, by omega⟩
  have HBX : Hid (p ≠ pb ∧ p ≠ mb ∧ line.ownBlock ≠ some p) := HBX
  have HX1 : Hid (Box W1 p pb ∧ W1.heap[b]? = some (.cells (u8s d).toArray 35) ∧ Below V.heap.size V W1) := ⟨x1, hx1, hB1⟩
  have HD : Hid (K16 d) := hd
  have HSL : Hid (SortE L ∧ L.length ≤ 1000000) := ⟨hs, hl⟩
  have c0 : W1.cell? ⟨p, 0, none⟩ = some (.pointer (some ⟨pb, 0, none⟩)) := blk_cell (j := 0) x1 rfl
  have hW := hW1.symm
  have hb2 := hbb.symm
  clear hW1 hs1 hB1 hx1 k1 x1 h hb hs hl ht hd hpV hmV hlV hbb
  go_enter Try.func16, Try.ntmps16
  go_wp2_with fail
  refine Calls.mono HC.out ?_
  rintro e w1 ⟨rfl, rfl⟩
  go_wp2_with fail
  refine Calls.mono HG.out ?_
  rintro e w2 ⟨rfl, line2, k2, l2, f2⟩
  have hbx2 : Box w2 p pb := HX1.out.1.on (f2.other p (Nat.lt_of_lt_of_le HN.out.1 HN.out.2.2.2.2.2) HBX.out.1 HBX.out.2.1 HBX.out.2.2)
  have hx2 : w2.heap[b]? = some (.cells (u8s d).toArray 35) := (f2.other b HN.out.2.2.2.2.1 (by have := HN.out; omega) (by have := HN.out; omega) HN.out.2.2.2.1).trans HX1.out.2.1
  have HK2 : Hid (Keeps pb cf t mb line2 (live L t) w2 ∧ line2.ownBlock = line.ownBlock ∧ Fr pb mb line V w2) := ⟨k2, l2, (Fr.below HX1.out.2.2).trans f2 rfl⟩
  have HX2 : Hid (Box w2 p pb ∧ w2.heap[b]? = some (.cells (u8s d).toArray 35)) := ⟨hbx2, hx2⟩
  obtain ⟨M, hm, hML⟩ := k2.m
  have HM : Hid (MapAt w2 mb M ∧ MapL M (live L t)) := ⟨hm, hML⟩
  clear k2 l2 f2 hbx2 hx2 hm hML HC HG c0 hW
  go_wp2_with fail
  refine wp_region_held (S := fun X => Box X p pb ∧ X.heap[b]? = some (.cells (u8s d).toArray 35)) (by kernel_rfl) ?_
  show wpAnyH _ _ _ _ _ 8 (Array.replicate 8 false) _ w2.drew
  have s0 : Box w2.drew p pb ∧ w2.drew.heap[b]? = some (.cells (u8s d).toArray 35) := HX2.out
  have b0 : Below w2.heap.size w2 w2.drew := (Below.refl _ w2).drew
  have HMT := drop_any (V := w2.drew) (HK2.out.1.on b0) (HSL.out.1.live t) (Nat.le_trans (live_len L t) HSL.out.2) HD.out
  generalize w2.drew = V0 at *
  refine take_wT (i := 0) (d := some 21) (v := .pointer (some ⟨p, 0, none⟩)) rfl rfl rfl (by kernel_rfl) (by kernel_rfl) (by kernel_rfl) (fun _ _ d _ _ h => by cases d <;> exact h) (fun X hS => by kernel_rfl) s0 ?_
  simp only [Act.put, List.setIfInBounds_toArray, List.set_cons_zero, List.set_cons_succ]
  refine take_wT (i := 1) (d := some 22) (v := .pointer (some ⟨p, 0, none⟩)) rfl rfl rfl (by kernel_rfl) (by kernel_rfl) (by kernel_rfl) (fun _ _ d _ _ h => by cases d <;> exact h) (fun X hS => by kernel_rfl) s0 ?_
  simp only [Act.put, List.setIfInBounds_toArray, List.set_cons_zero, List.set_cons_succ]
  refine take_wT (i := 2) (d := some 23) (v := .pointer (some ⟨p, 0, none⟩)) rfl rfl rfl (by kernel_rfl) (by kernel_rfl) (by kernel_rfl) (fun _ _ d _ _ h => by cases d <;> exact h) (fun X hS => by kernel_rfl) s0 ?_
  simp only [Act.put, List.setIfInBounds_toArray, List.set_cons_zero, List.set_cons_succ]
  refine take_wT (i := 3) (d := some 24) (v := .pointer (some ⟨pb, 0, none⟩)) rfl rfl rfl (by kernel_rfl) (by kernel_rfl) (by kernel_rfl) (fun _ _ d _ _ h => by cases d <;> exact h) (fun X hS => ex_loadA (.tmp 23) 50 rfl rfl (ld_pp (blk_cell (j := 0) hS.1 rfl))) s0 ?_
  simp only [Act.put, List.setIfInBounds_toArray, List.set_cons_zero, List.set_cons_succ]
  refine take_wT (i := 4) (d := some 25) (v := .agg (u8s d).toArray) rfl rfl rfl (by kernel_rfl) (by kernel_rfl) (by kernel_rfl) (fun _ _ d _ _ h => by cases d <;> exact h) (fun X hS => ex_loadA (.tmp 5) 35 rfl rfl (load6 HD.out.len (CellsAt.blkP (c := u8s d) (t := 35) hS.2))) s0 ?_
  simp only [Act.put, List.setIfInBounds_toArray, List.set_cons_zero, List.set_cons_succ]
  refine all_wT (i := 5) (by kernel_rfl) rfl rfl ?_
  refine wp_call (d := some 26) 33 _ rfl (by kernel_rfl) (callR HMT) ?_
  rintro _ X1 ⟨rfl, line3, k3, l3, f3⟩
  have s1 : Box X1 p pb ∧ X1.heap[b]? = some (.cells (u8s d).toArray 35) := ⟨s0.1.on (f3.other p s0.1.lt HBX.out.1 HBX.out.2.1 (by rw [HK2.out.2.1]; exact HBX.out.2.2)), (f3.other b (Array.getElem?_eq_some_iff.1 s0.2).1 (by have := HN.out; omega) (by have := HN.out; omega) (by rw [HK2.out.2.1]; exact HN.out.2.2.2.1)).trans s0.2⟩
  refine ⟨s1, ?_⟩
  simp only [Act.put, List.setIfInBounds_toArray, List.set_cons_zero, List.set_cons_succ]
  refine take_wT (i := 6) (d := some 6) (v := .bool (hasL (live L t) d)) rfl rfl rfl (by kernel_rfl) (by kernel_rfl) (by kernel_rfl) (fun _ _ d _ _ h => by cases d <;> exact h) (fun X hS => by kernel_rfl) s1 ?_
  simp only [Act.put, List.setIfInBounds_toArray, List.set_cons_zero, List.set_cons_succ]
  refine take_wT (i := 7) (d := some 7) (v := .int .i64 0) rfl rfl rfl (by kernel_rfl) (by kernel_rfl) (by kernel_rfl) (fun _ _ d _ _ h => by cases d <;> exact h) (fun X hS => by kernel_rfl) s1 ?_
  simp only [Act.put, List.setIfInBounds_toArray, List.set_cons_zero, List.set_cons_succ]
  refine wpAnyH_done (by kernel_rfl) ?_ _

  have HF : Hid (Box X1 p pb ∧ ∃ line', Keeps pb cf t mb line' (lackL (live L t) d) X1 ∧ line'.ownBlock = line.ownBlock ∧ Fr pb mb line V X1) := ⟨s1.1, line3, k3, l3.trans HK2.out.2.1, (HK2.out.2.2.trans (Fr.below b0) rfl).trans f3 HK2.out.2.1⟩
  clear s0 b0 HMT k3 l3 f3 s1 HK2 HX2 HM HX1
  first
  | (try go_returns
     exact HQ.out _ _ ⟨rfl, HF.out⟩)
  | (go_wp2_with fail
     try go_returns
     exact HQ.out _ _ ⟨rfl, HF.out⟩)
theorem Cch.drop {B : Nat} {W0 V : World} {p pb mb : Nat} {cf : Cf} {now : Int} {L : List (PE × Nat)} (h : Cch B W0 V p pb mb cf now L) (hl : L.length ≤ 1000000) {t : Int} (ht : okT now t) {d : List Int} (hd : K16 d) :
    Calls Try.prog 16 #[.pointer (some ⟨p, 0, none⟩), .int .i64 t, .agg (u8s d).toArray] V fun e w' => e = .returned (.tuple #[.bool (hasL (live L t) d), .int .i64 0]) ∧ Cch B W0 w' p pb mb cf t (lackL (live L t) d) ∧ TF V w' := by
  obtain ⟨line, hk, hlb⟩ := h.k
  refine (drop_yes h.bx hk h.st hl ht hd).mono ?_
  rintro e w' ⟨rfl, hx, line', k', lb', f⟩
  exact ⟨rfl, ⟨hx, ⟨line', k', by rw [lb']; exact hlb⟩, (h.st.live t).sub d (hk.kn.live t), h.lo, f.low h.lo.2.1 h.lo.2.2 hlb h.bl h.le, h.le⟩, f.tf hk⟩
/-- When the first entry is over. -/
def nextL : List (PE × Nat) → Value
  | [] => .tuple #[.int .i64 0, .bool false]
  | x :: _ => .tuple #[.int .i64 x.1.u, .bool true]
set_option maxHeartbeats 4000000 in
theorem Cch.next {B : Nat} {W0 V : World} {p pb mb : Nat} {cf : Cf} {now : Int} {L : List (PE × Nat)} (h : Cch B W0 V p pb mb cf now L) : Calls Try.prog 18 #[.pointer (some ⟨p, 0, none⟩)] V fun e w' => e = .returned (nextL L) ∧ w' = V := by
  obtain ⟨line, hk, -⟩ := h.k
  have HM : Hid _ := made_yes h.bx
  have c0 : V.cell? ⟨p, 0, none⟩ = some (.pointer (some ⟨pb, 0, none⟩)) := blk_cell (j := 0) h.bx rfl
  have c6 : V.cell? ⟨pb, 6, none⟩ = some line := hk.p.cell 6 _ rfl
  cases L with
  | nil =>
    obtain ⟨a, c, hl⟩ := hk.p.slc
    subst hl
    clear hk h
    go_enter Try.func18, Try.ntmps18
    go_wp2_with fail
    refine Calls.mono HM.out ?_
    rintro e w1 ⟨rfl, rfl⟩
    go_wp2_with fail
    try go_returns
    exact ⟨rfl, rfl⟩
  | cons x L =>
    obtain ⟨g, c, hl, ce⟩ := hk.p.at (i := 0) (x := x) rfl
    have cu : V.cell? ⟨x.2, 17, none⟩ = some (.int .i64 x.1.u) := by
      have he := (hk.p.ents x (by simp)).2
      have hok := (hk.p.ents x (by simp)).1
      refine blk_cell (c := eC x.1.k x.1.m x.1.u) he ?_
      unfold eC
      rw [List.getElem?_append_right (by simp [u8s, hok.2])]
      simp [u8s, hok.2]
    have q1 : ((x :: L).length : Int) = L.length + 1 := by simp
    have q2 : ((L.length : Int) + 1 == 0) = false := by simp; omega
    have q3 : (0 : Int) < (x :: L).length := by rw [q1]; omega
    subst hl
    clear hk h
    go_enter Try.func18, Try.ntmps18
    go_wp2_with fail
    refine Calls.mono HM.out ?_
    rintro e w1 ⟨rfl, rfl⟩
    go_wp2_with fail
    try go_returns
    exact ⟨rfl, rfl⟩
end Go.Proofs.Ytgndiblonhgihaa

namespace Go.Proofs.Ytgndiblonhgihaa
open Go Go.RowKit Go.Lib Go.Shelf Go.Sort
set_option linter.unusedVariables false
set_option linter.unusedSimpArgs false

/-- Entries whose addresses are bytes. -/
abbrev OkE := {x : PE // x.Ok}
instance : Inhabited OkE := ⟨⟨⟨List.replicate 16 0, 0, 0⟩, ⟨fun z hz => by have := List.eq_of_mem_replicate hz; omega, by simp⟩⟩⟩
def encE (x : OkE) : List Value := eE x.1
def cfE (x y : OkE) : Int := cmpI x.1.k y.1.k
def ltA (x y : PE) : Prop := cmpI x.k y.k = -1
theorem ltE_iff (x y : OkE) : ltOf cfE x y = true ↔ ltA x.1 y.1 := by
  unfold ltOf cfE ltA
  rw [decide_eq_true_eq]
  rcases cmpI_vals x.1.k y.1.k with h | h | h <;> rw [h] <;> simp
theorem swoE : SWO (ltOf cfE) where
  irrefl x := by
    cases h : ltOf cfE x x
    · rfl
    · have := (ltE_iff x x).1 h
      unfold ltA at this
      rw [cmpI_self] at this
      cases this
  trans x y z h1 h2 := (ltE_iff x z).2 (cmpI_trans ((ltE_iff x y).1 h1) ((ltE_iff y z).1 h2))
  ntrans x y z h1 h2 := by
    cases h : ltOf cfE x z
    · rfl
    · have a := (ltE_iff x z).1 h
      have b : ¬ ltA x.1 y.1 := fun e => by rw [(ltE_iff x y).2 e] at h1; cases h1
      have c : ¬ ltA y.1 z.1 := fun e => by rw [(ltE_iff y z).2 e] at h2; cases h2
      exfalso
      unfold ltA at a b c
      have a2 := cmpI_anti x.1.k y.1.k
      have a3 := cmpI_anti y.1.k z.1.k
      rcases cmpI_vals x.1.k y.1.k with h4 | h4 | h4
      · exact b h4
      · rw [cmpI_eq h4] at a
        exact c a
      · rcases cmpI_vals y.1.k z.1.k with h5 | h5 | h5
        · exact c h5
        · rw [← cmpI_eq h5] at a
          exact b a
        · have := cmpI_trans (a := z.1.k) (b := y.1.k) (c := x.1.k) (by omega) (by omega)
          have a4 := cmpI_anti x.1.k z.1.k
          omega
set_option maxHeartbeats 4000000 in
set_option maxRecDepth 100000 in
theorem clos_any {x y : PE} (hx : x.Ok) (hy : y.Ok) (W : World) : Calls Try.prog 44 #[.agg (eE x).toArray, .agg (eE y).toArray] W fun e w' => e = .returned (.int .i64 (cmpI x.k y.k)) ∧ w' = ((W.alloc (.cells (eE x).toArray 72)).alloc (.cells (eE y).toArray 72)).drew := by
  generalize hQ : (fun (e : Ending) (w' : World) => e = .returned (.int .i64 (cmpI x.k y.k)) ∧ w' = ((W.alloc (.cells (eE x).toArray 72)).alloc (.cells (eE y).toArray 72)).drew) = Q
  have HQ : Hid (∀ e w', (e = .returned (.int .i64 (cmpI x.k y.k)) ∧ w' = ((W.alloc (.cells (eE x).toArray 72)).alloc (.cells (eE y).toArray 72)).drew) → Q e w') := fun e w' hh => by rw [← hQ]; exact hh
  clear hQ
  have h1 : (((W.alloc (.cells (eE x).toArray 72)).alloc (.cells (eE y).toArray 72)).drew).heap[W.heap.size]? = some (.cells (eE x).toArray 72) := blk_alloc (blk_new W _) _
  have h2 : (((W.alloc (.cells (eE x).toArray 72)).alloc (.cells (eE y).toArray 72)).drew).heap[W.heap.size + 1]? = some (.cells (eE y).toArray 72) := by
    have := blk_new (W.alloc (.cells (eE x).toArray 72)) (.cells (eE y).toArray 72)
    rwa [show (W.alloc (.cells (eE x).toArray 72)).heap.size = W.heap.size + 1 by simp] at this
  have by1 : ∀ {z : PE} {V : World} {b : Nat}, z.Ok → V.heap[b]? = some (.cells (eE z).toArray 72) → ∀ j u, z.k[j]? = some u → V.cell? ⟨b, 0 + j, none⟩ = some (.int .u8 u) := fun {z V b} hz hb j u hj => by
    rw [eE_ok hz] at hb
    exact EntAt.byte hb j u hj
  have HBC : Hid _ := (by
    have := bcmp_calls (W := ((W.alloc (.cells (eE x).toArray 72)).alloc (.cells (eE y).toArray 72)).drew) (p := W.heap.size) (q := W.heap.size + 1) (o := 0) (r := 0) (c := 16) (d := 16) hx.1 hy.1 (by1 hx h1) (by1 hy h2)
    rw [hx.2, hy.2] at this
    exact this : Calls Try.prog 45 #[.slice (some ⟨W.heap.size, 0, none⟩) 16 16, .slice (some ⟨W.heap.size + 1, 0, none⟩) 16 16] ((W.alloc (.cells (eE x).toArray 72)).alloc (.cells (eE y).toArray 72)).drew fun e w' => e = .returned (.int .i64 (cmpI x.k y.k)) ∧ w' = ((W.alloc (.cells (eE x).toArray 72)).alloc (.cells (eE y).toArray 72)).drew)
  obtain ⟨V1, hV1⟩ : ∃ V1, V1 = (W.alloc (.cells (eE x).toArray 72)).alloc (.cells (eE y).toArray 72) := ⟨_, rfl⟩
  rw [← hV1] at HBC HQ
  have hW := hV1.symm
  clear h1 h2 hV1
  generalize (eE x).toArray = cx at *
  generalize (eE y).toArray = cy at *
  go_enter Try.func44, Try.ntmps44
  go_wp2_with fail
  refine wp_region_held (S := fun X => X = V1.drew) (by kernel_rfl) ?_
  show wpAnyH _ _ _ _ _ 6 (Array.replicate 6 false) _ V1.drew
  generalize V1.drew = V0 at *
  refine take_wT (i := 0) (d := some 5) (v := .pointer (some ⟨W.heap.size, 0, none⟩)) rfl rfl rfl (by kernel_rfl) (by kernel_rfl) (by kernel_rfl) (fun _ _ d _ _ h => by cases d <;> exact h) (fun X hS => by kernel_rfl) rfl ?_
  simp only [Act.put, List.setIfInBounds_toArray, List.set_cons_zero, List.set_cons_succ]
  refine take_wT (i := 1) (d := some 6) (v := .slice (some ⟨W.heap.size, 0, none⟩) 16 16) rfl rfl rfl (by kernel_rfl) (by kernel_rfl) (by kernel_rfl) (fun _ _ d _ _ h => by cases d <;> exact h) (fun X hS => ex_slc16 5 rfl rfl) rfl ?_
  simp only [Act.put, List.setIfInBounds_toArray, List.set_cons_zero, List.set_cons_succ]
  refine take_wT (i := 2) (d := some 7) (v := .pointer (some ⟨W.heap.size + 1, 0, none⟩)) rfl rfl rfl (by kernel_rfl) (by kernel_rfl) (by kernel_rfl) (fun _ _ d _ _ h => by cases d <;> exact h) (fun X hS => by kernel_rfl) rfl ?_
  simp only [Act.put, List.setIfInBounds_toArray, List.set_cons_zero, List.set_cons_succ]
  refine take_wT (i := 3) (d := some 8) (v := .slice (some ⟨W.heap.size + 1, 0, none⟩) 16 16) rfl rfl rfl (by kernel_rfl) (by kernel_rfl) (by kernel_rfl) (fun _ _ d _ _ h => by cases d <;> exact h) (fun X hS => ex_slc16 7 rfl rfl) rfl ?_
  simp only [Act.put, List.setIfInBounds_toArray, List.set_cons_zero, List.set_cons_succ]
  refine all_wT (i := 4) (by kernel_rfl) rfl rfl ?_
  refine wp_call (d := some 9) 45 _ rfl (by kernel_rfl) (callR (HBC.out)) ?_
  rintro _ X1 ⟨rfl, rfl⟩
  refine ⟨rfl, ?_⟩
  simp only [Act.put, List.setIfInBounds_toArray, List.set_cons_zero, List.set_cons_succ]
  refine take_wT (i := 5) (d := some 4) (v := .int .i64 (cmpI x.k y.k)) rfl rfl rfl (by kernel_rfl) (by kernel_rfl) (by kernel_rfl) (fun _ _ d _ _ h => by cases d <;> exact h) (fun X hS => by kernel_rfl) rfl ?_
  simp only [Act.put, List.setIfInBounds_toArray, List.set_cons_zero, List.set_cons_succ]
  refine wpAnyH_done (by kernel_rfl) ?_ _

  try go_returns
  first
  | exact HQ.out _ _ ⟨rfl, rfl⟩
  | (go_wp2_with fail
     try go_returns
     exact HQ.out _ _ ⟨rfl, rfl⟩)
theorem cmpL (blk size : Nat) (w : World) : CmpLays Try.prog 44 #[] encE 18 cfE blk 0 size w := fun m os dk _ x y => by
  refine (clos_any x.2 y.2 _).mono ?_
  rintro e w' ⟨rfl, rfl⟩
  exact ⟨rfl, 1, #[.cells (eE x.1).toArray 72, .cells (eE y.1).toArray 72], by rw [alloc_eq_grow, alloc_eq_grow, grow_grow]; rfl⟩
end Go.Proofs.Ytgndiblonhgihaa
