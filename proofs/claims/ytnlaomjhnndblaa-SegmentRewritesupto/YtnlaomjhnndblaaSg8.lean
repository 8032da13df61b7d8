/-
  awake.
-/
import Derived.Test.YtnlaomjhnndblaaSg7
namespace Go.Proofs.Ytnlaomjhnndblaa
open Go Go.RowKit Go.Shelf
set_option linter.unusedVariables false
set_option linter.unusedSimpArgs false

theorem known_udp : udpB (ph4 [10, 0, 0, 1] [10, 0, 0, 2]) 53 1024 [] = [0, 53, 4, 0, 0, 8, 231, 166] := by decide +kernel
theorem OB.bytes {base : Nat} {w wx : World} {v : Value} {zs : List Int} (h : OB base w wx v zs) (hf : Fit zs) (hl : zs.length ≤ 140737488351232) : BytesAt wx.heap.size wx v zs := own_bytes h.own hf hl
set_option maxHeartbeats 1000000 in
set_option maxRecDepth 100000 in
theorem awake_calls6 (w : World) : Calls Try.prog 19 #[] w fun e w' => e = .returned (.bool true) ∧ Below w.heap.size w w' := by
  have hu : UdpC w [.int .u16 53, .int .u16 1024, .slice none 0 0] 53 1024 [] := ⟨⟨_, rfl, BytesAt.none w⟩, by decide, by decide⟩
  have hw := WriteUDP4_any [10, 0, 0, 1] [10, 0, 0, 2] rfl rfl (fit_of _ rfl) (fit_of _ rfl) _ 53 1024 [] w hu
  rw [known_udp] at hw
  have HW : Hid _ := hw
  clear hw hu
  go_enter Try.func19, Try.ntmps19
  go_wp2_with fail
  refine Calls.mono HW.out ?_
  rintro _ w1 ⟨v, rfl, hO⟩
  have hb := hO.bytes (fit_of _ rfl) (by simp)
  have t1 := hb.text
  have hnew := bytes_new w1 5 [0, 53, 4, 0, 0, 8, 231, 166] #[.int .u8 0, .int .u8 53, .int .u8 4, .int .u8 0, .int .u8 0, .int .u8 8, .int .u8 231, .int .u8 166] 8 8 (bytes_lit _ _ rfl) rfl (by simp) (fit_of _ rfl)
  have t2 := hnew.text
  have HB : Hid _ := hO.bel
  have hB2 : Below w1.heap.size w1 (w1.alloc (.cells #[.int .u8 0, .int .u8 53, .int .u8 4, .int .u8 0, .int .u8 0, .int .u8 8, .int .u8 231, .int .u8 166] 5)) := (Below.refl _ w1).alloc (Nat.le_refl _) _
  have HB2 : Hid (Below w.heap.size w (w1.alloc (.cells #[.int .u8 0, .int .u8 53, .int .u8 4, .int .u8 0, .int .u8 0, .int .u8 8, .int .u8 231, .int .u8 166] 5))) := hO.bel.trans (hB2.mono hO.bel.size)
  obtain ⟨av, kv, rfl, _⟩ := hb.val
  generalize strOfNums [0, 53, 4, 0, 0, 8, 231, 166] = X at *
  have hxx : (X.toList == X.toList) = true := by simp
  have hudp : udpE [] = 0 := rfl
  clear hb hnew hO hB2
  simp only [List.length_cons, List.length_nil, Nat.reduceAdd] at t1 t2
  go_wp2
  go_ret
  exact ⟨rfl, HB2.out⟩

end Go.Proofs.Ytnlaomjhnndblaa
