/-
  Rules in memory; hostBits, psidBits, shared and anySet of the program.
-/
import Derived.Test.YtaebknkjhhcneaaGreatDoorMa0
import Derived.Test.YtaebknkjhhcneaaGreatDoorFold07
namespace Go.Proofs.YtaebknkjhhcneaaGreatDoor
open Go Go.RowKit
set_option linter.unusedVariables false
set_option linter.unusedSimpArgs false

/-- A rule. -/
structure Ru where
  l6 : List Int
  n6 : Int
  l4 : List Int
  n4 : Int
  ea : Int
  off : Int
  fmr : Bool
structure Ru.In (r : Ru) : Prop where
  f6 : FitB r.l6
  k6 : r.l6.length = 16
  b6 : In64 r.n6
  f4 : FitB r.l4
  k4 : r.l4.length = 4
  b4 : In64 r.n4
  be : In64 r.ea
  bo : In64 r.off
def rt (r : Ru) : List Value := [.int .i64 r.ea, .int .i64 r.off, .bool r.fmr]
def rc (r : Ru) : List Value := cp6 r.l6 r.n6 ++ (cp4 r.l4 r.n4 ++ rt r)
abbrev RV (r : Ru) : Value := .agg (rc r).toArray
abbrev RO (r : Ru) : Obj := .cells (rc r).toArray 65
theorem rc_length {r : Ru} (h : r.In) : (rc r).length = 25 := by simp [rc, rt, cp6_length _ _ h.k6, cp4_length _ _ h.k4]
theorem rc_one (r : Ru) : ∀ v ∈ rc r, v.oneCell' = true := by
  intro v hv
  rcases List.mem_append.1 hv with hv | hv
  · exact cp6_one _ _ v hv
  · rcases List.mem_append.1 hv with hv | hv
    · exact cp4_one _ _ v hv
    · simp [rt] at hv; rcases hv with rfl | rfl | rfl <;> rfl

/-- What lies in a rule's box. -/
structure RuAt (W : World) (b : Nat) (r : Ru) : Prop where
  ldR : (Instr.loadAt 65 (.pointer (some ⟨b, 0, none⟩))).run Tryz.prog W = .ok (RV r) W
  ld6 : (Instr.loadAt 26 (.pointer (some ⟨b, 0, none⟩))).run Tryz.prog W = .ok (P6 r.l6 r.n6) W
  ld4 : (Instr.loadAt 63 (.pointer (some ⟨b, 17, none⟩))).run Tryz.prog W = .ok (P4L r.l4 r.n4) W
  la6 : (Instr.loadAt 24 (.pointer (some ⟨b, 0, none⟩))).run Tryz.prog W = .ok (A6 r.l6) W
  la4 : (Instr.loadAt 61 (.pointer (some ⟨b, 17, none⟩))).run Tryz.prog W = .ok (A4L r.l4) W
  c16 : W.cell? ⟨b, 16, none⟩ = some (.int .i64 r.n6)
  c21 : W.cell? ⟨b, 21, none⟩ = some (.int .i64 r.n4)
  c22 : W.cell? ⟨b, 22, none⟩ = some (.int .i64 r.ea)
  c23 : W.cell? ⟨b, 23, none⟩ = some (.int .i64 r.off)
  s6 : CellsAt W b 0 (u8s r.l6)
  s4 : CellsAt W b 17 (b8 r.l4)

theorem RuAt.of {W : World} {b : Nat} {r : Ru} (hr : r.In) (h : W.heap[b]? = some (RO r)) : RuAt W b r := by
  have h0 : CellsAt W b 0 (rc r) := CellsAt.of_blk h
  have l6 := cp6_length r.l6 r.n6 hr.k6
  have l4 := cp4_length r.l4 r.n4 hr.k4
  have u6 : (u8s r.l6).length = 16 := by rw [u8s_length, hr.k6]
  have u4 : (b8 r.l4).length = 4 := by rw [b8_length, hr.k4]
  have h6 : CellsAt W b 0 (cp6 r.l6 r.n6) := CellsAt.fst h0
  have h4 : CellsAt W b 17 (cp4 r.l4 r.n4) := by
    have := CellsAt.part (xs := cp6 r.l6 r.n6) (ys := cp4 r.l4 r.n4) (zs := rt r) h0
    rwa [l6] at this
  have h3 : CellsAt W b 22 (rt r) := by
    have e : rc r = (cp6 r.l6 r.n6 ++ cp4 r.l4 r.n4) ++ (rt r ++ []) := by simp [rc]
    rw [e] at h0
    have := CellsAt.part h0
    simpa [l6, l4] using this
  refine ⟨agg_load Tryz.isAgg65 Tryz.sizeOf65 (rc_length hr) h0, loadP6 hr.k6 h6, agg_load Tryz.isAgg63 Tryz.sizeOf63 l4 h4, load6 hr.k6 (CellsAt.fst h6), agg_load Tryz.isAgg61 Tryz.sizeOf61 u4 (CellsAt.fst h4), ?_, ?_, ?_, ?_, CellsAt.fst h6, CellsAt.fst h4⟩
  · have := h6 16 _ (cp6_get _ _ hr.k6)
    simpa using this
  · have := h4 4 (.int .i64 r.n4) (by simp [cp4, u4])
    simpa using this
  · exact h3 0 _ rfl
  · exact h3 1 _ rfl
theorem Ru.up {W W' : World} {b : Nat} {r : Ru} (h : W.heap[b]? = some (RO r)) (hb : Below W.heap.size W W') : W'.heap[b]? = some (RO r) := blk_on h hb

/-- How many EA bits stand behind V4's, and how many are a PSID. -/
def hB (r : Ru) : Int := min r.ea (32 - r.n4)
def qB (r : Ru) : Int := r.ea - hB r
structure Ru.Mid (r : Ru) : Prop where
  n4 : 0 ≤ r.n4 ∧ r.n4 ≤ 32
  ea : 0 ≤ r.ea ∧ r.ea ≤ 48
theorem hB_le {r : Ru} (h : r.Mid) : 0 ≤ hB r ∧ hB r ≤ 32 ∧ hB r ≤ r.ea ∧ hB r ≤ 32 - r.n4 := by
  have := h.n4; have := h.ea
  unfold hB
  omega
theorem qB_le {r : Ru} (h : r.Mid) : 0 ≤ qB r ∧ qB r ≤ 48 := by
  have := hB_le h; have := h.ea
  unfold qB
  omega

set_option maxHeartbeats 1000000 in
set_option maxRecDepth 100000 in
theorem hostBits_any (r : Ru) (hr : r.In) (hm : r.Mid) (w : World) :
    Calls Tryz.prog 137 #[RV r] w fun e w' => e = .returned (.int .i64 (hB r)) ∧ Below w.heap.size w w' := by
  have hB0 := bA w (RO r)
  obtain ⟨_, _, _, _, _, c16, c21, c22, c23, _, _⟩ := RuAt.of hr (blk_new w (RO r))
  generalize hW : w.alloc (RO r) = W at *
  have h1 := hm.n4
  have h2 := hm.ea
  by_cases h : r.ea ≤ 32 - r.n4
  · have e : hB r = r.ea := by unfold hB; omega
    rw [e]
    generalize r.ea = ea at *
    generalize r.n4 = n4 at *
    generalize rc r = cs at *
    go_enter Tryz.func137, Tryz.ntmps137
    go_wp2
    all_goals first
      | (exfalso; omega)
      | (go_ret; exact ⟨rfl, hB0⟩)
      | (go_ret; refine ⟨?_, hB0⟩; show Ending.returned (.int .i64 (min ea (32 - n4))) = _; rw [Int.min_eq_left (by omega)])
  · have e : hB r = 32 - r.n4 := by unfold hB; omega
    rw [e]
    generalize r.ea = ea at *
    generalize r.n4 = n4 at *
    generalize rc r = cs at *
    go_enter Tryz.func137, Tryz.ntmps137
    go_wp2
    all_goals first
      | (exfalso; omega)
      | (go_ret; exact ⟨rfl, hB0⟩)
      | (go_ret; refine ⟨?_, hB0⟩; show Ending.returned (.int .i64 (min ea (32 - n4))) = _; rw [Int.min_eq_right (by omega)])

end Go.Proofs.YtaebknkjhhcneaaGreatDoor
