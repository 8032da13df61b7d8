/-
  What must hold, what catches, answer of package tosix; next, leastBody.
  The known datagram of UDP: what reckoned gives.
  The known datagram of UDP: its body.
-/
import Derived.Test.YtnjkagopmfenkaaGreatXt4
import Derived.Test.YtnjkagopmfenkaaGreatFold18
import Derived.Test.YtnjkagopmfenkaaGreatFold15
import Derived.Defers
import Derived.Recover
import Derived.Deep.QuietTactic
import Derived.BigQuiet
namespace Go.Proofs.YtnjkagopmfenkaaGreat
open Go Go.RowKit Go.Shelf
set_option linter.unusedVariables false
set_option linter.unusedSimpArgs false

theorem ta_no (w : World) : (Instr.typeAssert .nilIface 20 113 true).run Tryz.prog w = .ok (.tuple #[.int .i64 0, .bool false]) w := by
  simp [Instr.typeAssert, Tryz.underlying113, go_sem]
def eBox (x : Int) : Obj := .cells [.int .i64 x].toArray 37
theorem loadErr {W : World} {b : Nat} {x : Int} (h : W.heap[b]? = some (eBox x)) : (loadVar 37 ⟨b, 0, none⟩).run Tryz.prog W = .ok (.int .i64 x) W := by
  have c := blk_cell h (j := 0) rfl
  simp [go_sem, c]
theorem resCC {P : Program} {fn : Func} {a b : Tmp} {t u : TypeId} (h : fn.results = #[.cell a t, .cell b u]) {tmps : Array Value} {A B : Addr} (ha : tmps.getD a undef = .pointer (some A)) (hb : tmps.getD b undef = .pointer (some B)) {x y : Value} {w : World} (hx : (loadVar t A).run P w = .ok x w) (hl : (loadVar u B).run P w = .ok y w) :
    (results fn tmps).run P w = .ok (.tuple #[x, y]) w := by
  rw [Array.getD_eq_getD_getElem?] at ha hb
  simp [results, h, ha, hb, asAddr, hx, hl]
theorem st_err {W : World} {b : Nat} {x y : Int} (h : W.heap[b]? = some (eBox x)) : (Instr.storeAt 37 (.pointer (some ⟨b, 0, none⟩)) (.int .i64 y)).run Tryz.prog W = .ok () (W.setCell ⟨b, 0, none⟩ (.int .i64 y)) := by
  have h1 : W.cell? ⟨b, 0, none⟩ = some (.int .i64 x) := blk_cell h rfl
  have h2 := blk_open h 0
  simp [Instr.storeAt, go_sem, h1, h2]

set_option maxHeartbeats 2000000 in
set_option maxRecDepth 100000 in
theorem catch_idleV (p : Addr) (w : World) :
    CallsD Tryz.prog 68 #[.pointer (some p)] .returning w fun e u' w' => e = .returned (.tuple #[]) ∧ u' = .returning ∧ w' = w := by
  have ht := ta_no w
  refine callsD_of_wpS Tryz.func68 rfl fun c₀ cs hu => ?_
  apply wpS_seq
  refine V6.wpS_region_rec (v := .nilIface) (cs' := c₀ :: cs) rfl rfl (by simp [recoverD, hu]) ?_
  simp only [Tryz.ntmps68, List.size_toArray, List.length_cons, List.length_nil, Nat.reduceAdd, Nat.reduceSub, Array.replicate_succ, Array.replicate_zero, List.push_toArray, List.append_toArray, List.nil_append, List.cons_append, Act.put, List.setIfInBounds_toArray, List.set_cons_zero, List.set_cons_succ]
  go_wp2
  refine wpS_of_wp ?_
  go_wp2
  cases c₀
  simp_all [bodyPostS, results, Tryz.results68]

set_option maxHeartbeats 1000000 in
theorem must_good (e : Int) (w : World) : Calls Tryz.prog 36 #[.bool true, .int .i64 e] w fun e' w' => e' = .returned (.tuple #[]) ∧ w' = w := by
  go_enter Tryz.func36, Tryz.ntmps36
  go_wp2
  go_end0
  exact ⟨rfl, rfl⟩
set_option maxHeartbeats 1000000 in
theorem good_good (w : World) : Calls Tryz.prog 34 #[.int .i64 0] w fun e' w' => e' = .returned (.tuple #[]) ∧ w' = w := by
  go_enter Tryz.func34, Tryz.ntmps34
  go_wp2_with fail
  refine Calls.mono (must_good 0 w) ?_
  rintro _ _ ⟨rfl, rfl⟩
  go_wp2
  go_end0
  exact ⟨rfl, rfl⟩
set_option maxHeartbeats 1000000 in
theorem next17 (w : World) : Calls Tryz.prog 73 #[.int .u8 17] w fun e' w' => e' = .returned (.int .u8 17) ∧ w' = w := by
  go_enter Tryz.func73, Tryz.ntmps73
  go_wp2
  go_ret
  exact ⟨rfl, rfl⟩
set_option maxHeartbeats 1000000 in
theorem leastBody17 (w : World) : Calls Tryz.prog 76 #[.int .u8 17] w fun e' w' => e' = .returned (.int .i64 8) ∧ w' = w := by
  go_enter Tryz.func76, Tryz.ntmps76
  go_wp2
  go_ret
  exact ⟨rfl, rfl⟩
end Go.Proofs.YtnjkagopmfenkaaGreat

namespace Go.Proofs.YtnjkagopmfenkaaGreat
open Go Go.RowKit Go.Shelf
set_option linter.unusedVariables false
set_option linter.unusedSimpArgs false

def kS4 : List Int := [10, 0, 0, 1]
def kD4 : List Int := [10, 0, 0, 2]
def kA6 : List Int := [1, 0, 0, 0, 0, 0, 0, 0, 0, 0, 0, 0, 0, 0, 0, 0]
def kB6 : List Int := [2, 0, 0, 0, 0, 0, 0, 0, 0, 0, 0, 0, 0, 0, 0, 0]
def kB : List Int := [0, 1, 0, 2, 0, 8, 0, 0]
def kZ : List Int := udpB (ph6 kA6 kB6) 1 2 []
theorem kE : uE 4 (ph4 kS4 kD4) kB = 0 := by decide +kernel
theorem kU : uB 4 (ph4 kS4 kD4) kB = true := by decide +kernel
theorem kS : uS 4 (ph4 kS4 kD4) kB = 1 := by decide +kernel
theorem kD : uD 4 (ph4 kS4 kD4) kB = 2 := by decide +kernel
theorem kX : uX 4 (ph4 kS4 kD4) kB = [] := by decide +kernel
theorem kZ_len : kZ.length = 8 := by decide +kernel
theorem kZ_some : ∃ a b c d e f g h : Int, kZ = [a, b, c, d, e, f, g, h] ∧ (0 ≤ g ∧ g < 256) ∧ (0 ≤ h ∧ h < 256) ∧ bits .or .u8 g h ≠ 0 := by
  exact ⟨gz kZ 0, gz kZ 1, gz kZ 2, gz kZ 3, gz kZ 4, gz kZ 5, gz kZ 6, gz kZ 7, by decide +kernel, by decide +kernel, by decide +kernel, by decide +kernel⟩
def kE6 : List Value := [.int .u8 1, .int .u8 0, .int .u8 0, .int .u8 0, .int .u8 0, .int .u8 0, .int .u8 0, .int .u8 0, .int .u8 0, .int .u8 0, .int .u8 0, .int .u8 0, .int .u8 0, .int .u8 0, .int .u8 0, .int .u8 0, .int .u8 2, .int .u8 0, .int .u8 0, .int .u8 0, .int .u8 0, .int .u8 0, .int .u8 0, .int .u8 0, .int .u8 0, .int .u8 0, .int .u8 0, .int .u8 0, .int .u8 0, .int .u8 0, .int .u8 0, .int .u8 0]
theorem kE6_len : kE6.length = 32 := rfl
def kC (ab : Option Addr) (cb : Nat) : List Value := [.int .u8 0, .int .u16 0, .bool false, .bool false, .int .i64 0, .int .u8 7, .int .u8 17, .int .u8 10, .int .u8 0, .int .u8 0, .int .u8 1, .int .u8 10, .int .u8 0, .int .u8 0, .int .u8 2, .slice none 0 0, .slice ab 8 cb]

set_option maxHeartbeats 4000000 in
set_option maxRecDepth 100000 in
theorem reckoned_known (w : World) (ab : Option Addr) (cb : Nat) (hr : RowC w (.slice ab 8 cb) kB) :
    Calls Tryz.prog 78 #[.agg [.int .u8 0, .int .u16 0, .bool false, .bool false, .int .i64 0, .int .u8 7, .int .u8 17, .int .u8 10, .int .u8 0, .int .u8 0, .int .u8 1, .int .u8 10, .int .u8 0, .int .u8 0, .int .u8 2, .slice none 0 0, .slice ab 8 cb].toArray, .agg [.int .u8 1, .int .u8 0, .int .u8 0, .int .u8 0, .int .u8 0, .int .u8 0, .int .u8 0, .int .u8 0, .int .u8 0, .int .u8 0, .int .u8 0, .int .u8 0, .int .u8 0, .int .u8 0, .int .u8 0, .int .u8 0, .int .u8 2, .int .u8 0, .int .u8 0, .int .u8 0, .int .u8 0, .int .u8 0, .int .u8 0, .int .u8 0, .int .u8 0, .int .u8 0, .int .u8 0, .int .u8 0, .int .u8 0, .int .u8 0, .int .u8 0, .int .u8 0].toArray] w fun e w' => ∃ v, e = .returned v ∧ OB w.heap.size w w' v kZ := by
  obtain ⟨W0, hW0⟩ : ∃ W0, w.alloc (.cells [.int .u8 0, .int .u16 0, .bool false, .bool false, .int .i64 0, .int .u8 7, .int .u8 17, .int .u8 10, .int .u8 0, .int .u8 0, .int .u8 1, .int .u8 10, .int .u8 0, .int .u8 0, .int .u8 2, .slice none 0 0, .slice ab 8 cb].toArray 27) = W0 := ⟨_, rfl⟩
  obtain ⟨W1, hW1⟩ : ∃ W1, W0.alloc (.cells [.int .u8 1, .int .u8 0, .int .u8 0, .int .u8 0, .int .u8 0, .int .u8 0, .int .u8 0, .int .u8 0, .int .u8 0, .int .u8 0, .int .u8 0, .int .u8 0, .int .u8 0, .int .u8 0, .int .u8 0, .int .u8 0, .int .u8 2, .int .u8 0, .int .u8 0, .int .u8 0, .int .u8 0, .int .u8 0, .int .u8 0, .int .u8 0, .int .u8 0, .int .u8 0, .int .u8 0, .int .u8 0, .int .u8 0, .int .u8 0, .int .u8 0, .int .u8 0].toArray 31) = W1 := ⟨_, rfl⟩
  have b0 := blk_new w (.cells [.int .u8 0, .int .u16 0, .bool false, .bool false, .int .i64 0, .int .u8 7, .int .u8 17, .int .u8 10, .int .u8 0, .int .u8 0, .int .u8 1, .int .u8 10, .int .u8 0, .int .u8 0, .int .u8 2, .slice none 0 0, .slice ab 8 cb].toArray 27)
  have hB0 := (Below.refl w.heap.size w).alloc (Nat.le_refl _) (.cells [.int .u8 0, .int .u16 0, .bool false, .bool false, .int .i64 0, .int .u8 7, .int .u8 17, .int .u8 10, .int .u8 0, .int .u8 0, .int .u8 1, .int .u8 10, .int .u8 0, .int .u8 0, .int .u8 2, .slice none 0 0, .slice ab 8 cb].toArray 27)
  rw [hW0] at b0 hB0
  have b1 := blk_new W0 (.cells [.int .u8 1, .int .u8 0, .int .u8 0, .int .u8 0, .int .u8 0, .int .u8 0, .int .u8 0, .int .u8 0, .int .u8 0, .int .u8 0, .int .u8 0, .int .u8 0, .int .u8 0, .int .u8 0, .int .u8 0, .int .u8 0, .int .u8 2, .int .u8 0, .int .u8 0, .int .u8 0, .int .u8 0, .int .u8 0, .int .u8 0, .int .u8 0, .int .u8 0, .int .u8 0, .int .u8 0, .int .u8 0, .int .u8 0, .int .u8 0, .int .u8 0, .int .u8 0].toArray 31)
  have hB1 := (Below.refl W0.heap.size W0).alloc (Nat.le_refl _) (.cells [.int .u8 1, .int .u8 0, .int .u8 0, .int .u8 0, .int .u8 0, .int .u8 0, .int .u8 0, .int .u8 0, .int .u8 0, .int .u8 0, .int .u8 0, .int .u8 0, .int .u8 0, .int .u8 0, .int .u8 0, .int .u8 0, .int .u8 2, .int .u8 0, .int .u8 0, .int .u8 0, .int .u8 0, .int .u8 0, .int .u8 0, .int .u8 0, .int .u8 0, .int .u8 0, .int .u8 0, .int .u8 0, .int .u8 0, .int .u8 0, .int .u8 0, .int .u8 0].toArray 31)
  have b01 := blk_alloc b0 (.cells [.int .u8 1, .int .u8 0, .int .u8 0, .int .u8 0, .int .u8 0, .int .u8 0, .int .u8 0, .int .u8 0, .int .u8 0, .int .u8 0, .int .u8 0, .int .u8 0, .int .u8 0, .int .u8 0, .int .u8 0, .int .u8 0, .int .u8 2, .int .u8 0, .int .u8 0, .int .u8 0, .int .u8 0, .int .u8 0, .int .u8 0, .int .u8 0, .int .u8 0, .int .u8 0, .int .u8 0, .int .u8 0, .int .u8 0, .int .u8 0, .int .u8 0, .int .u8 0].toArray 31)
  rw [hW1] at b1 hB1 b01
  have hX1 := hB0.trans (hB1.mono hB0.size)
  have k3 : W1.cell? ⟨w.heap.size, 3, none⟩ = some (.bool false) := blk_cell b01 rfl
  have k7 : W1.cell? ⟨w.heap.size, 7, none⟩ = some (.int .u8 10) := blk_cell b01 rfl
  have k8 : W1.cell? ⟨w.heap.size, 8, none⟩ = some (.int .u8 0) := blk_cell b01 rfl
  have k9 : W1.cell? ⟨w.heap.size, 9, none⟩ = some (.int .u8 0) := blk_cell b01 rfl
  have k10 : W1.cell? ⟨w.heap.size, 10, none⟩ = some (.int .u8 1) := blk_cell b01 rfl
  have k11 : W1.cell? ⟨w.heap.size, 11, none⟩ = some (.int .u8 10) := blk_cell b01 rfl
  have k12 : W1.cell? ⟨w.heap.size, 12, none⟩ = some (.int .u8 0) := blk_cell b01 rfl
  have k13 : W1.cell? ⟨w.heap.size, 13, none⟩ = some (.int .u8 0) := blk_cell b01 rfl
  have k14 : W1.cell? ⟨w.heap.size, 14, none⟩ = some (.int .u8 2) := blk_cell b01 rfl
  have k16 : W1.cell? ⟨w.heap.size, 16, none⟩ = some (.slice ab 8 cb) := blk_cell b01 rfl
  have hP : Hid (Calls Tryz.prog 116 #[.agg #[.int .u8 10, .int .u8 0, .int .u8 0, .int .u8 1], .agg #[.int .u8 10, .int .u8 0, .int .u8 0, .int .u8 2], .slice ab 8 cb] W1 fun e w' => ∃ c : List Value, e = .returned (.tuple #[.agg c.toArray, .bool true, .int .i64 0]) ∧ UdpC w' c 1 2 [] ∧ Below W1.heap.size W1 w') := (ParseUDP4_any kS4 kD4 rfl rfl (by intro z hz; simp [kS4] at hz; omega) (by intro z hz; simp [kD4] at hz; omega) (.slice ab 8 cb) kB W1 (hr.on hX1)).mono (fun e w' k => by
    unfold ParU at k
    rw [kE, kU, kS, kD, kX] at k
    exact k)
  have HLA : Hid (∀ W, Below W1.heap.size W1 W → (Instr.loadAt 29 (.pointer (some ⟨W0.heap.size, 0, none⟩))).run Tryz.prog W = .ok (.agg [.int .u8 1, .int .u8 0, .int .u8 0, .int .u8 0, .int .u8 0, .int .u8 0, .int .u8 0, .int .u8 0, .int .u8 0, .int .u8 0, .int .u8 0, .int .u8 0, .int .u8 0, .int .u8 0, .int .u8 0, .int .u8 0].toArray) W) := fun W hW => agg_load Tryz.isAgg29 Tryz.sizeOf29 rfl (CellsAt.fst (ys := [.int .u8 2, .int .u8 0, .int .u8 0, .int .u8 0, .int .u8 0, .int .u8 0, .int .u8 0, .int .u8 0, .int .u8 0, .int .u8 0, .int .u8 0, .int .u8 0, .int .u8 0, .int .u8 0, .int .u8 0, .int .u8 0]) (CellsAt.of_blk (blk_on b1 hW)))
  have HLB : Hid (∀ W, Below W1.heap.size W1 W → (Instr.loadAt 29 (.pointer (some ⟨W0.heap.size, 16, none⟩))).run Tryz.prog W = .ok (.agg [.int .u8 2, .int .u8 0, .int .u8 0, .int .u8 0, .int .u8 0, .int .u8 0, .int .u8 0, .int .u8 0, .int .u8 0, .int .u8 0, .int .u8 0, .int .u8 0, .int .u8 0, .int .u8 0, .int .u8 0, .int .u8 0].toArray) W) := fun W hW => agg_load Tryz.isAgg29 Tryz.sizeOf29 rfl (CellsAt.part (o := 0) (xs := [.int .u8 1, .int .u8 0, .int .u8 0, .int .u8 0, .int .u8 0, .int .u8 0, .int .u8 0, .int .u8 0, .int .u8 0, .int .u8 0, .int .u8 0, .int .u8 0, .int .u8 0, .int .u8 0, .int .u8 0, .int .u8 0]) (ys := [.int .u8 2, .int .u8 0, .int .u8 0, .int .u8 0, .int .u8 0, .int .u8 0, .int .u8 0, .int .u8 0, .int .u8 0, .int .u8 0, .int .u8 0, .int .u8 0, .int .u8 0, .int .u8 0, .int .u8 0, .int .u8 0]) (zs := []) (CellsAt.of_blk (blk_on b1 hW)))
  have HX1 : Hid _ := hX1
  clear b0 hB0 b1 hB1 b01 hX1 hr
  go_enter Tryz.func78, Tryz.ntmps78
  go_wp2_with fail
  refine Calls.mono (must_good 172 _) ?_
  rintro _ _ ⟨rfl, rfl⟩
  go_wp2_with fail
  refine Calls.mono hP.out ?_
  rintro _ w2 ⟨cu, rfl, hu, hb2⟩
  obtain ⟨w3, st3, b3, hb3⟩ := box_new Tryz.sizeOf174 w2 [.int .u16 0, .int .u16 0, .slice none 0 0] rfl cu hu.len (by obtain ⟨⟨vd, rfl, _, _, a, k, rfl, _⟩, _⟩ := hu; intro v hv; simp at hv; rcases hv with rfl | rfl | rfl <;> rfl)
  have hu3 := hu.on hb3
  have hx3 := hb2.trans (hb3.mono hb2.size)
  have HS3 : Hid _ := st3
  have HU : Hid _ := hu3
  have HLU : Hid ((Instr.loadAt 174 (.pointer (some ⟨w2.heap.size, 0, none⟩))).run Tryz.prog w3 = .ok (.agg cu.toArray) w3) := agg_load Tryz.isAgg174 Tryz.sizeOf174 hu3.len (CellsAt.of_blk b3)
  have HW : Hid (Calls Tryz.prog 117 #[.agg [.int .u8 1, .int .u8 0, .int .u8 0, .int .u8 0, .int .u8 0, .int .u8 0, .int .u8 0, .int .u8 0, .int .u8 0, .int .u8 0, .int .u8 0, .int .u8 0, .int .u8 0, .int .u8 0, .int .u8 0, .int .u8 0].toArray, .agg [.int .u8 2, .int .u8 0, .int .u8 0, .int .u8 0, .int .u8 0, .int .u8 0, .int .u8 0, .int .u8 0, .int .u8 0, .int .u8 0, .int .u8 0, .int .u8 0, .int .u8 0, .int .u8 0, .int .u8 0, .int .u8 0].toArray, .agg cu.toArray] w3 fun e w' => ∃ v, e = .returned (.tuple #[v, .int .i64 0]) ∧ OB w3.heap.size w3 w' v kZ) := WriteUDP6_any kA6 kB6 rfl rfl (by intro z hz; simp [kA6] at hz; omega) (by intro z hz; simp [kB6] at hz; omega) cu 1 2 [] w3 hu3
  have HX3 : Hid _ := hx3
  clear st3 b3 hb3 hb2 hu hu3 k3 k7 k8 k9 k10 k11 k12 k13 k14 k16 hP
  go_wp2_with first
    | ((with_reducible show wpList _ _ _ _ _ _); refine arm_store rfl (.tmp 5) (.tmp 21) 174 rfl rfl rfl HS3.out ?_)
  refine Calls.mono (must_good 173 _) ?_
  rintro _ _ ⟨rfl, rfl⟩
  go_wp2_with first
    | ((with_reducible show wpList _ _ _ _ _ _); refine arm_load rfl (.tmp 28) 29 rfl rfl (HLA.out _ HX3.out) ?_)
    | ((with_reducible show wpList _ _ _ _ _ _); refine arm_load rfl (.tmp 30) 29 rfl rfl (HLB.out _ HX3.out) ?_)
    | ((with_reducible show wpList _ _ _ _ _ _); refine arm_load rfl (.tmp 5) 174 rfl rfl HLU.out ?_)
  refine Calls.mono HW.out ?_
  rintro _ w4 ⟨v, rfl, ho⟩
  have HO : Hid _ := ho
  clear ho HW
  go_wp2_with fail
  refine Calls.mono (good_good _) ?_
  rintro _ _ ⟨rfl, rfl⟩
  go_wp2
  go_ret
  exact ⟨_, rfl, HO.out.lower (HX1.out.trans (HX3.out.mono HX1.out.size)) (HX1.out.trans (HX3.out.mono HX1.out.size)).size⟩
end Go.Proofs.YtnjkagopmfenkaaGreat

namespace Go.Proofs.YtnjkagopmfenkaaGreat
open Go Go.RowKit Go.Shelf
set_option linter.unusedVariables false
set_option linter.unusedSimpArgs false

theorem bDr {B : Nat} {u w : World} (h : Below B u w) (n : Nat) : Below B u (w.drewN n) := ⟨h.os, h.tape, h.output, h.size, h.block⟩
set_option maxHeartbeats 1000000 in
set_option maxRecDepth 100000 in
theorem wordOf_zero (w : World) (R off n cap : Nat) (hn : 2 ≤ n) (h0 : w.cell? ⟨R, off, none⟩ = some (.int .u8 0)) (h1 : w.cell? ⟨R, off + 1, none⟩ = some (.int .u8 0)) :
    Calls Tryz.prog 77 #[.slice (some ⟨R, off, none⟩) n cap] w fun e w' => e = .returned (.int .u16 0) ∧ Below w.heap.size w w' := by
  have i0 : (0 : Nat) < n := by omega
  have i1 : (1 : Nat) < n := by omega
  go_enter Tryz.func77, Tryz.ntmps77
  go_wp2
  go_quiet (fail)
  go_wp2
  go_ret
  exact ⟨rfl, bDr (Below.refl w.heap.size w) _⟩

set_option maxHeartbeats 4000000 in
set_option maxRecDepth 100000 in
theorem body_known (w : World) (R : Nat) (hr : RowC w (.slice (some ⟨R, 0, none⟩) 8 8) kB) :
    Calls Tryz.prog 40 #[.agg [.int .u8 0, .int .u16 0, .bool false, .bool false, .int .i64 0, .int .u8 7, .int .u8 17, .int .u8 10, .int .u8 0, .int .u8 0, .int .u8 1, .int .u8 10, .int .u8 0, .int .u8 0, .int .u8 2, .slice none 0 0, .slice (some ⟨R, 0, none⟩) 8 8].toArray, .agg [.int .u8 1, .int .u8 0, .int .u8 0, .int .u8 0, .int .u8 0, .int .u8 0, .int .u8 0, .int .u8 0, .int .u8 0, .int .u8 0, .int .u8 0, .int .u8 0, .int .u8 0, .int .u8 0, .int .u8 0, .int .u8 0, .int .u8 2, .int .u8 0, .int .u8 0, .int .u8 0, .int .u8 0, .int .u8 0, .int .u8 0, .int .u8 0, .int .u8 0, .int .u8 0, .int .u8 0, .int .u8 0, .int .u8 0, .int .u8 0, .int .u8 0, .int .u8 0].toArray] w fun e w' => ∃ v, e = .returned v ∧ OB w.heap.size w w' v kZ := by
  obtain ⟨W0, hW0⟩ : ∃ W0, w.alloc (.cells [.int .u8 0, .int .u16 0, .bool false, .bool false, .int .i64 0, .int .u8 7, .int .u8 17, .int .u8 10, .int .u8 0, .int .u8 0, .int .u8 1, .int .u8 10, .int .u8 0, .int .u8 0, .int .u8 2, .slice none 0 0, .slice (some ⟨R, 0, none⟩) 8 8].toArray 27) = W0 := ⟨_, rfl⟩
  obtain ⟨W1, hW1⟩ : ∃ W1, W0.alloc (.cells [.int .u8 1, .int .u8 0, .int .u8 0, .int .u8 0, .int .u8 0, .int .u8 0, .int .u8 0, .int .u8 0, .int .u8 0, .int .u8 0, .int .u8 0, .int .u8 0, .int .u8 0, .int .u8 0, .int .u8 0, .int .u8 0, .int .u8 2, .int .u8 0, .int .u8 0, .int .u8 0, .int .u8 0, .int .u8 0, .int .u8 0, .int .u8 0, .int .u8 0, .int .u8 0, .int .u8 0, .int .u8 0, .int .u8 0, .int .u8 0, .int .u8 0, .int .u8 0].toArray 31) = W1 := ⟨_, rfl⟩
  have b0 := blk_new w (.cells [.int .u8 0, .int .u16 0, .bool false, .bool false, .int .i64 0, .int .u8 7, .int .u8 17, .int .u8 10, .int .u8 0, .int .u8 0, .int .u8 1, .int .u8 10, .int .u8 0, .int .u8 0, .int .u8 2, .slice none 0 0, .slice (some ⟨R, 0, none⟩) 8 8].toArray 27)
  have hB0 := (Below.refl w.heap.size w).alloc (Nat.le_refl _) (.cells [.int .u8 0, .int .u16 0, .bool false, .bool false, .int .i64 0, .int .u8 7, .int .u8 17, .int .u8 10, .int .u8 0, .int .u8 0, .int .u8 1, .int .u8 10, .int .u8 0, .int .u8 0, .int .u8 2, .slice none 0 0, .slice (some ⟨R, 0, none⟩) 8 8].toArray 27)
  rw [hW0] at b0 hB0
  have b1 := blk_new W0 (.cells [.int .u8 1, .int .u8 0, .int .u8 0, .int .u8 0, .int .u8 0, .int .u8 0, .int .u8 0, .int .u8 0, .int .u8 0, .int .u8 0, .int .u8 0, .int .u8 0, .int .u8 0, .int .u8 0, .int .u8 0, .int .u8 0, .int .u8 2, .int .u8 0, .int .u8 0, .int .u8 0, .int .u8 0, .int .u8 0, .int .u8 0, .int .u8 0, .int .u8 0, .int .u8 0, .int .u8 0, .int .u8 0, .int .u8 0, .int .u8 0, .int .u8 0, .int .u8 0].toArray 31)
  have hB1 := (Below.refl W0.heap.size W0).alloc (Nat.le_refl _) (.cells [.int .u8 1, .int .u8 0, .int .u8 0, .int .u8 0, .int .u8 0, .int .u8 0, .int .u8 0, .int .u8 0, .int .u8 0, .int .u8 0, .int .u8 0, .int .u8 0, .int .u8 0, .int .u8 0, .int .u8 0, .int .u8 0, .int .u8 2, .int .u8 0, .int .u8 0, .int .u8 0, .int .u8 0, .int .u8 0, .int .u8 0, .int .u8 0, .int .u8 0, .int .u8 0, .int .u8 0, .int .u8 0, .int .u8 0, .int .u8 0, .int .u8 0, .int .u8 0].toArray 31)
  have b01 := blk_alloc b0 (.cells [.int .u8 1, .int .u8 0, .int .u8 0, .int .u8 0, .int .u8 0, .int .u8 0, .int .u8 0, .int .u8 0, .int .u8 0, .int .u8 0, .int .u8 0, .int .u8 0, .int .u8 0, .int .u8 0, .int .u8 0, .int .u8 0, .int .u8 2, .int .u8 0, .int .u8 0, .int .u8 0, .int .u8 0, .int .u8 0, .int .u8 0, .int .u8 0, .int .u8 0, .int .u8 0, .int .u8 0, .int .u8 0, .int .u8 0, .int .u8 0, .int .u8 0, .int .u8 0].toArray 31)
  rw [hW1] at b1 hB1 b01
  have hX1 := hB0.trans (hB1.mono hB0.size)
  have HC : Hid (∀ W, Below W1.heap.size W1 W → W.cell? ⟨w.heap.size, 4, none⟩ = some (.int .i64 0) ∧ W.cell? ⟨w.heap.size, 6, none⟩ = some (.int .u8 17) ∧ W.cell? ⟨w.heap.size, 16, none⟩ = some (.slice (some ⟨R, 0, none⟩) 8 8)) := fun W hW => ⟨blk_cell (blk_on b01 hW) rfl, blk_cell (blk_on b01 hW) rfl, blk_cell (blk_on b01 hW) rfl⟩
  have HLV : Hid (∀ W, Below W1.heap.size W1 W → (Instr.loadAt 27 (.pointer (some ⟨w.heap.size, 0, none⟩))).run Tryz.prog W = .ok (.agg [.int .u8 0, .int .u16 0, .bool false, .bool false, .int .i64 0, .int .u8 7, .int .u8 17, .int .u8 10, .int .u8 0, .int .u8 0, .int .u8 1, .int .u8 10, .int .u8 0, .int .u8 0, .int .u8 2, .slice none 0 0, .slice (some ⟨R, 0, none⟩) 8 8].toArray) W) := fun W hW => agg_load Tryz.isAgg27 Tryz.sizeOf27 rfl (CellsAt.of_blk (blk_on b01 hW))
  have HLE : Hid (∀ W, Below W1.heap.size W1 W → (Instr.loadAt 31 (.pointer (some ⟨W0.heap.size, 0, none⟩))).run Tryz.prog W = .ok (.agg [.int .u8 1, .int .u8 0, .int .u8 0, .int .u8 0, .int .u8 0, .int .u8 0, .int .u8 0, .int .u8 0, .int .u8 0, .int .u8 0, .int .u8 0, .int .u8 0, .int .u8 0, .int .u8 0, .int .u8 0, .int .u8 0, .int .u8 2, .int .u8 0, .int .u8 0, .int .u8 0, .int .u8 0, .int .u8 0, .int .u8 0, .int .u8 0, .int .u8 0, .int .u8 0, .int .u8 0, .int .u8 0, .int .u8 0, .int .u8 0, .int .u8 0, .int .u8 0].toArray) W) := fun W hW => agg_load Tryz.isAgg31 Tryz.sizeOf31 rfl (CellsAt.of_blk (blk_on b1 hW))
  have hrc : ∀ W, Below W1.heap.size W1 W → W.cell? ⟨R, 6, none⟩ = some (.int .u8 0) ∧ W.cell? ⟨R, 7, none⟩ = some (.int .u8 0) := fun W hW => by
    obtain ⟨_, _, a, cap, e, _, hz⟩ := hr.on (hX1.trans (hW.mono hX1.size))
    rcases hz with hz | ⟨b, off, ea, _, hc⟩
    · exact absurd hz (by decide)
    · simp at e
      obtain ⟨e1, e2⟩ := e
      rw [← e1] at ea
      simp at ea
      obtain ⟨rfl, rfl⟩ := ea
      exact ⟨by simpa [kB] using hc 6 (by decide), by simpa [kB] using hc 7 (by decide)⟩
  have HWD : Hid (∀ W, Below W1.heap.size W1 W → Calls Tryz.prog 77 #[.slice (some ⟨R, 6, none⟩) 2 2] W fun e w' => e = .returned (.int .u16 0) ∧ Below W.heap.size W w') := fun W hW => wordOf_zero W R 6 2 2 (by decide) (hrc W hW).1 (hrc W hW).2
  have HRK : Hid (∀ W, Below W1.heap.size W1 W → Calls Tryz.prog 78 #[.agg [.int .u8 0, .int .u16 0, .bool false, .bool false, .int .i64 0, .int .u8 7, .int .u8 17, .int .u8 10, .int .u8 0, .int .u8 0, .int .u8 1, .int .u8 10, .int .u8 0, .int .u8 0, .int .u8 2, .slice none 0 0, .slice (some ⟨R, 0, none⟩) 8 8].toArray, .agg [.int .u8 1, .int .u8 0, .int .u8 0, .int .u8 0, .int .u8 0, .int .u8 0, .int .u8 0, .int .u8 0, .int .u8 0, .int .u8 0, .int .u8 0, .int .u8 0, .int .u8 0, .int .u8 0, .int .u8 0, .int .u8 0, .int .u8 2, .int .u8 0, .int .u8 0, .int .u8 0, .int .u8 0, .int .u8 0, .int .u8 0, .int .u8 0, .int .u8 0, .int .u8 0, .int .u8 0, .int .u8 0, .int .u8 0, .int .u8 0, .int .u8 0, .int .u8 0].toArray] W fun e w' => ∃ v, e = .returned v ∧ OB W.heap.size W w' v kZ) := fun W hW => reckoned_known W (some ⟨R, 0, none⟩) 8 (hr.on (hX1.trans (hW.mono hX1.size)))
  have HX1 : Hid _ := hX1
  have hy1 : Below W1.heap.size W1 W1 := Below.refl _ _
  obtain ⟨k4, k6, k16⟩ := HC.out W1 hy1
  clear b0 hB0 b1 hB1 b01 hX1 hr hrc
  go_enter Tryz.func40, Tryz.ntmps40
  go_wp2
  go_quiet (first | (go_at_call 76; exact Calls.quiet_of_same (leastBody17 _)) | (go_at_call 36; exact Calls.quiet_of_same (must_good _ _)))
  rename_i nq
  have hyd : Below W1.heap.size W1 (W1.drewN nq) := bDr hy1 nq
  obtain ⟨d4, d6, d16⟩ := HC.out _ hyd
  go_wp2_with fail
  refine Calls.mono (HWD.out _ hyd) ?_
  rintro _ w2 ⟨rfl, hb2⟩
  have hy2 := hyd.trans (hb2.mono hyd.size)
  clear hb2 HWD d4 d6 d16 k4 k6 k16
  go_wp2_with first
    | ((with_reducible show wpList _ _ _ _ _ _); refine arm_load rfl (.tmp 2) 27 rfl rfl (HLV.out _ hy2) ?_)
    | ((with_reducible show wpList _ _ _ _ _ _); refine arm_load rfl (.tmp 3) 31 rfl rfl (HLE.out _ hy2) ?_)
  refine Calls.mono (HRK.out _ hy2) ?_
  rintro _ w3 ⟨v, rfl, ho⟩
  have HO : Hid _ := ho
  clear ho HRK
  have HY : Hid _ := HX1.out.trans (hy2.mono HX1.out.size)
  go_wp2
  go_ret
  exact ⟨_, rfl, HO.out.lower HY.out HY.out.size⟩
end Go.Proofs.YtnjkagopmfenkaaGreat
