/-
  sort.Search over a closure that leaves a world above.
-/
import Derived.Test.YtgndiblonhgihaaPn1
namespace Go.Proofs.Ytgndiblonhgihaa
open Go Go.RowKit
set_option linter.unusedVariables false
set_option linter.unusedSimpArgs false

set_option maxHeartbeats 4000000 in
set_option maxRecDepth 100000 in
theorem search_any (n : Nat) (hn : n ≤ 1000000) (g : Nat) (cb : Array Value) (p : Nat → Bool) (W : World) (eg : ∀ args w, (callFunc g args).run Try.prog w = .ok (.enter g args) w) (hf : ∀ X, Below W.heap.size W X → ∀ i, i < n → Calls Try.prog g (#[.int .i64 (i : Int)] ++ cb) X fun e w' => e = .returned (.bool (p i)) ∧ Below X.heap.size X w')
    (hm : ∀ a b, a ≤ b → b < n → p a = true → p b = true) :
    Calls Try.prog 38 #[.int .i64 (n : Int), .func (.func g) #[] cb] W fun e w' => ∃ k : Nat, e = .returned (.int .i64 (k : Int)) ∧ k ≤ n ∧ (∀ i, i < k → p i = false) ∧ (∀ i, k ≤ i → i < n → p i = true) ∧ Below W.heap.size W w' := by
  generalize hQ : (fun (e : Ending) (w' : World) => ∃ k : Nat, e = .returned (.int .i64 (k : Int)) ∧ k ≤ n ∧ (∀ i, i < k → p i = false) ∧ (∀ i, k ≤ i → i < n → p i = true) ∧ Below W.heap.size W w') = Q
  have HQ : Hid (∀ e w', (∃ k : Nat, e = .returned (.int .i64 (k : Int)) ∧ k ≤ n ∧ (∀ i, i < k → p i = false) ∧ (∀ i, k ≤ i → i < n → p i = true) ∧ Below W.heap.size W w') → Q e w') := fun e w' hh => by rw [← hQ]; exact hh
  have HF : Hid (∀ X, Below W.heap.size W X → ∀ i, i < n → Calls Try.prog g (#[.int .i64 (i : Int)] ++ cb) X fun e w' => e = .returned (.bool (p i)) ∧ Below X.heap.size X w') := hf
  have HM : Hid (∀ a b, a ≤ b → b < n → p a = true → p b = true) := hm
  clear hQ hf hm
  go_enter Try.func38, Try.ntmps38
  go_wp2
  go_loopw [5, 6] (fun lo hi wr => ∃ a b : Nat, lo = .int .i64 a ∧ hi = .int .i64 b ∧ a ≤ b ∧ b ≤ n ∧ Hid ((∀ i, i < a → p i = false) ∧ (∀ i, b ≤ i → i < n → p i = true) ∧ Below W.heap.size W wr)) (fun lo hi _ => (intOf hi - intOf lo).toNat)
  case atStart => exact ⟨0, n, rfl, rfl, Nat.zero_le _, Nat.le_refl _, ⟨fun i h => absurd h (Nat.not_lt_zero _), fun i h1 h2 => absurd h2 (by omega), Below.refl _ _⟩⟩
  case round =>
    obtain ⟨a, b, rfl, rfl, hab, hbn, hin⟩ := hrel
    by_cases hlt : a < b
    · have q1 : decide ((a : Int) < b) = true := decide_eq_true (by omega)
      have q1n : decide (a < b) = true := decide_eq_true hlt
      obtain ⟨m, hm⟩ : ∃ m, m = (a + b) / 2 := ⟨_, rfl⟩
      have w1 : IntKind.i64.wrap ((a : Int) + b) = ((a + b : Nat) : Int) := by rw [wrap_i64 _ ⟨by omega, by omega⟩]; simp
      have w2 : IntKind.u64.wrap ((a : Int) + b) = (a : Int) + b := by rw [IntKind.wrap_u64]; omega
      have e1 : RowKit.wrap64 (IntKind.u64.wrap ((a : Int) + b) / 2) = (m : Int) := by
        rw [w2, show ((a : Int) + b) / 2 = (m : Int) by omega]
        exact IntWalk.wrap64_in _ ⟨by omega, by omega⟩
      have E1 : Hid (RowKit.wrap64 (IntKind.u64.wrap ((a : Int) + b) / 2) = (m : Int)) := e1
      have w5 : IntKind.i64.wrap ((m : Int) + 1) = ((m + 1 : Nat) : Int) := by rw [wrap_i64 _ ⟨by omega, by omega⟩]; simp
      have HMM : Hid (a ≤ m ∧ m < b) := by
        have : a ≤ m ∧ m < b := by omega
        exact this
      have HAB : Hid (a ≤ b ∧ b ≤ n) := ⟨hab, hbn⟩
      clear hm hlt hab hbn w2 e1
      go_wp2_with fail
      rw [E1.out]
      refine Calls.mono (HF.out wr hin.out.2.2 m (by have := HMM.out; have := HAB.out; omega)) ?_
      rintro e w1 ⟨rfl, hb⟩
      have HB : Hid (Below W.heap.size W w1) := hin.out.2.2.trans (hb.mono hin.out.2.2.size)
      clear hb
      cases hp : p m with
      | true =>
        have HI : Hid ((∀ i, i < a → p i = false) ∧ (∀ i, m ≤ i → i < n → p i = true) ∧ Below W.heap.size W w1) := ⟨hin.out.1, fun i h1 h2 => HM.out m i h1 h2 hp, HB.out⟩
        clear hp w5
        go_wp2
        go_roundw
        case rel => exact ⟨a, m, rfl, rfl, HMM.out.1, by have := HMM.out; have := HAB.out; omega, HI.out⟩
        case measure => show ((m : Int) - a).toNat < ((b : Int) - a).toNat; have := HMM.out; omega
      | false =>
        have hlow : ∀ i, i < m + 1 → p i = false := fun i h1 => by
          cases hq : p i with
          | false => rfl
          | true =>
            have := HM.out i m (by omega) (by have := HMM.out; have := HAB.out; omega) hq
            rw [hp] at this
            cases this
        have HI : Hid ((∀ i, i < m + 1 → p i = false) ∧ (∀ i, b ≤ i → i < n → p i = true) ∧ Below W.heap.size W w1) := ⟨hlow, hin.out.2.1, HB.out⟩
        clear hlow
        clear hp
        go_wp2
        go_roundw
        case rel => exact ⟨m + 1, b, by first | rfl | simp, rfl, by have := HMM.out; omega, HAB.out.2, HI.out⟩
        case measure => have := HMM.out; show ((b : Int) - ((m : Int) + 1)).toNat < ((b : Int) - a).toNat; omega
    · have q1 : decide ((a : Int) < b) = false := decide_eq_false (by omega)
      have q1n : decide (a < b) = false := decide_eq_false hlt
      obtain rfl : a = b := by omega
      have q2n : decide (a < a) = false := decide_eq_false (by omega)
      have HAB : Hid (a ≤ n) := hbn
      clear hlt hab hbn
      go_wp2
      try go_ret2
      exact HQ.out _ _ ⟨a, (by rfl), HAB.out, hin.out.1, hin.out.2.1, hin.out.2.2⟩
end Go.Proofs.Ytgndiblonhgihaa
