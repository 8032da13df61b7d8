/-
  awake of layer 4's statements: a header that is known.
-/
import Derived.Test.YtmoogfdmlbalbaaIp7
import Derived.Test.YtmoogfdmlbalbaaBytes
namespace Go.Proofs.Ytmoogfdmlbalbaa
open Go Go.RowKit
set_option linter.unusedVariables false
set_option linter.unusedSimpArgs false

def knownC : List Value := [.int .u8 0, .int .u16 0, .bool false, .bool false, .int .i64 0, .int .u8 64, .int .u8 17, .int .u8 10, .int .u8 0, .int .u8 0, .int .u8 1, .int .u8 10, .int .u8 0, .int .u8 0, .int .u8 2, .slice none 0 0, .slice none 0 0]
def knownB : List Int := [69, 0, 0, 20, 0, 0, 0, 0, 64, 17, 102, 215, 10, 0, 0, 1, 10, 0, 0, 2]
set_option maxRecDepth 100000 in
theorem known_wr : wrL 0 0 false false 0 64 17 10 0 0 1 10 0 0 2 [] [] = knownB := by decide +kernel

theorem known_dg (w : World) : Dgram w knownC 0 0 false false 0 64 17 10 0 0 1 10 0 0 2 [] [] := by
  have hb : BytesAt w.heap.size w (.slice none 0 0) [] := ⟨fun z hz => by simp at hz, by simp, none, 0, rfl, .inl rfl⟩
  exact ⟨⟨_, _, ⟨rfl, rfl, rfl⟩, hb, hb⟩, by decide, by decide, by decide, by decide, fun z hz => by simp at hz; omega, fun z hz => by simp at hz; omega, by decide⟩

set_option maxHeartbeats 2000000 in
set_option maxRecDepth 100000 in
theorem awake_calls (w : World) : Calls Try.prog 17 #[] w fun e w' => e = .returned (.bool true) ∧ Below w.heap.size w w' := by
  have hwr := fun w => Write_ok knownC 0 0 false false 0 64 17 10 0 0 1 10 0 0 2 [] [] w (known_dg w) rfl
  rw [known_wr] at hwr
  unfold knownC at hwr
  have HW : Hid _ := hwr
  clear hwr
  go_enter Try.func17, Try.ntmps17
  go_wp2_with fail
  refine Calls.mono (HW.out _) ?_
  rintro e w1 ⟨g, rfl, hg, own, hb⟩
  have hby := own.bytes (fun z hz => by simp [knownB] at hz; omega) (by simp [knownB]) 0 20 20 (by simp [knownB])
  rw [show List.take 20 (List.drop 0 knownB) = knownB from rfl] at hby
  have ht := fun (W : World) (hB : Below w1.heap.size w1 W) => (hby.below hB).text
  have t1 := ht w1 (Below.refl _ _)
  have t2 := fun o => ht (w1.alloc o) ((Below.refl _ w1).alloc (Nat.le_refl _) o)
  have t3 := (bytes_new w1 5 knownB #[.int .u8 69, .int .u8 0, .int .u8 0, .int .u8 20, .int .u8 0, .int .u8 0, .int .u8 0, .int .u8 0, .int .u8 64, .int .u8 17, .int .u8 102, .int .u8 215, .int .u8 10, .int .u8 0, .int .u8 0, .int .u8 1, .int .u8 10, .int .u8 0, .int .u8 0, .int .u8 2] 20 20 (bytes_lit knownB _ rfl) rfl (by simp [knownB]) (fun z hz => by simp [knownB] at hz; omega)).text
  clear ht hby own
  generalize strOfNums knownB = S at *
  go_wp2
  go_ret
  exact ⟨rfl, hb.alloc hb.size _⟩

end Go.Proofs.Ytmoogfdmlbalbaa
