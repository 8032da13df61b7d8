/-
  awake.
-/
import Derived.Test.YtgndiblonhgihaaPnO
namespace Go.Proofs.Ytgndiblonhgihaa
open Go Go.RowKit Go.Lib
set_option linter.unusedVariables false
set_option linter.unusedSimpArgs false

theorem at_A {W : World} {b : Nat} {d : List Int} (hl : d.length = 16) (h : W.heap[b]? = some (.cells (u8s d).toArray 35)) : (Instr.loadAt 35 (.pointer (some ⟨b, 0, none⟩))).run Try.prog W = .ok (.agg (u8s d).toArray) W :=
  load6 hl (CellsAt.blkP (c := u8s d) (t := 35) h)
theorem TF.box {W W' : World} (f : TF W W') {b : Nat} {d : List Int} (h : W.heap[b]? = some (.cells (u8s d).toArray 35)) : W'.heap[b]? = some (.cells (u8s d).toArray 35) :=
  f.keep b _ _ h (by decide) (by decide)
theorem putK_nil (k : Nat) (y : PE × Nat) : putK [] k y = [y] := by
  unfold putK
  simp
theorem mtu_one (cf : Cf) (e : PE) (b : Nat) : mtuL cf [(e, b)] e.k = e.m := by
  unfold mtuL
  simp
set_option maxHeartbeats 4000000 in
set_option maxRecDepth 100000 in
theorem awake_any (W : World) : Calls Try.prog 9 #[] W fun e w' => e = .returned (.bool true) ∧ Below W.heap.size W w' := by
  generalize hQ : (fun (e : Ending) (w' : World) => e = .returned (.bool true) ∧ Below W.heap.size W w') = Q
  have HQ : Hid (∀ e w', (e = .returned (.bool true) ∧ Below W.heap.size W w') → Q e w') := fun e w' hh => by rw [← hQ]; exact hh
  clear hQ
  have HNEW : Hid _ := New_cch cfA_ok W
  go_enter Try.func9, Try.ntmps9
  go_wp2_with fail
  refine Calls.mono HNEW.out ?_
  rintro e w1 ⟨p, pb, mb, rfl, hc⟩
  obtain ⟨W3, hst, hx3, hb3⟩ := box_new (ty := 35) (n := 16) (fun w => by kernel_rfl) w1 (List.replicate 16 (.int .u8 0)) rfl (u8s dA) rfl (u8s_one dA)
  obtain ⟨W2, hW2⟩ : ∃ W2, W2 = w1.alloc (.cells #[.int .u8 0, .int .u8 0, .int .u8 0, .int .u8 0, .int .u8 0, .int .u8 0, .int .u8 0, .int .u8 0, .int .u8 0, .int .u8 0, .int .u8 0, .int .u8 0, .int .u8 0, .int .u8 0, .int .u8 0, .int .u8 0] 35) := ⟨_, rfl⟩
  have hst2 : (Instr.storeAt 35 (.pointer (some ⟨w1.heap.size, 0, none⟩)) (.agg (u8s dA).toArray)).run Try.prog W2 = .ok () W3 := by rw [hW2]; exact hst
  have HST : Hid _ := hst2
  have e3 := hW2.symm
  have HB : Hid (W3.heap[w1.heap.size]? = some (.cells (u8s dA).toArray 35)) := hx3
  have HX : Hid _ := at_A rfl hx3
  have HC : Hid (Cch W.heap.size W W3 p pb mb cfA 0 []) := hc.on hb3
  clear hst hst2 hx3 hb3 hc HNEW hW2
  go_wp2_with first
    | ((with_reducible show wpList _ _ _ ({ dst := _, op := Op.store 35 (Operand.tmp 3) _, type := _, pos := _, after := _, guard := _ } :: _) _ _); refine armS (.tmp 3) (.tmp 23) 35 rfl rfl rfl rfl HST.out ?_; try simp only [Act.put])
    | ((with_reducible show wpList _ _ _ ({ dst := _, op := Op.load 35 (Operand.tmp 3), type := _, pos := _, after := _, guard := _ } :: _) _ _); refine armL (.tmp 3) 35 rfl rfl rfl (HX.out) ?_)
  clear HST e3
  refine Calls.mono (HC.out.told (by decide) (t := 0) ⟨by decide, by decide⟩ dA_ok (z := 1400) ⟨by decide, by decide⟩ cfA_ok (ins_nil dA (by decide) _) (by decide) (by decide)) ?_
  rintro e w4 ⟨rfl, ⟨b, k, -, hc4⟩, tf⟩
  have HC4 : Hid (Cch W.heap.size W w4 p pb mb cfA 0 [(⟨dA, 1400, 100⟩, b)]) := by
    have := hc4
    rw [show live [] 0 = [] from rfl, room_nil dA (by decide), putK_nil] at this
    exact this
  have HB4 : Hid (w4.heap[w1.heap.size]? = some (.cells (u8s dA).toArray 35)) := tf.box HB.out
  clear HX HC HB hc4 tf
  have HX : Hid _ := at_A rfl HB4.out
  go_wp2_with first
    | ((with_reducible show wpList _ _ _ ({ dst := _, op := Op.load 35 (Operand.tmp 3), type := _, pos := _, after := _, guard := _ } :: _) _ _); refine armL (.tmp 3) 35 rfl rfl rfl (HX.out) ?_)
  refine Calls.mono (HC4.out.keep (by simp) (t := 1) ⟨by decide, by decide⟩ dA_ok (z := 1450) ⟨by decide, by decide⟩ (by rw [show live [(⟨dA, 1400, 100⟩, b)] 1 = [(⟨dA, 1400, 100⟩, b)] from rfl, show mtuL cfA [(⟨dA, 1400, 100⟩, b)] dA = 1400 from mtu_one cfA ⟨dA, 1400, 100⟩ b]; decide)) ?_
  rintro e w5 ⟨rfl, hc5, tf⟩
  have HC5 : Hid (Cch W.heap.size W w5 p pb mb cfA 1 [(⟨dA, 1400, 100⟩, b)]) := hc5
  have HB5 : Hid (w5.heap[w1.heap.size]? = some (.cells (u8s dA).toArray 35)) := tf.box HB4.out
  clear HX HC4 HB4 hc5 tf
  have HX : Hid _ := at_A rfl HB5.out
  go_wp2_with first
    | ((with_reducible show wpList _ _ _ ({ dst := _, op := Op.load 35 (Operand.tmp 3), type := _, pos := _, after := _, guard := _ } :: _) _ _); refine armL (.tmp 3) 35 rfl rfl rfl (HX.out) ?_)
  refine Calls.mono (HC5.out.get (by simp) (t := 50) ⟨by decide, by decide⟩ dA_ok) ?_
  rintro e w6 ⟨rfl, hc6, tf⟩
  have HC6 : Hid (Cch W.heap.size W w6 p pb mb cfA 50 [(⟨dA, 1400, 100⟩, b)]) := hc6
  have HB6 : Hid (w6.heap[w1.heap.size]? = some (.cells (u8s dA).toArray 35)) := tf.box HB5.out
  clear HX HC5 HB5 hc6 tf
  have HX : Hid _ := at_A rfl HB6.out
  rw [show live [(⟨dA, 1400, 100⟩, b)] 50 = [(⟨dA, 1400, 100⟩, b)] from rfl, show mtuL cfA [(⟨dA, 1400, 100⟩, b)] dA = 1400 from mtu_one cfA ⟨dA, 1400, 100⟩ b]
  go_wp2_with first
    | ((with_reducible show wpList _ _ _ ({ dst := _, op := Op.load 35 (Operand.tmp 3), type := _, pos := _, after := _, guard := _ } :: _) _ _); refine armL (.tmp 3) 35 rfl rfl rfl (HX.out) ?_)
  refine Calls.mono (HC6.out.get (by simp) (t := 100) ⟨by decide, by decide⟩ dA_ok) ?_
  rintro e w7 ⟨rfl, hc7, tf⟩
  have HC7 : Hid (Below W.heap.size W w7) := hc7.bl
  clear HX HC6 HB6 hc7 tf
  rw [show live [(⟨dA, 1400, 100⟩, b)] 100 = [] from rfl, show mtuL cfA [] dA = 1500 from rfl]
  go_wp2
  all_goals (try go_returns)
  all_goals exact HQ.out _ _ ⟨rfl, HC7.out⟩
end Go.Proofs.Ytgndiblonhgihaa
