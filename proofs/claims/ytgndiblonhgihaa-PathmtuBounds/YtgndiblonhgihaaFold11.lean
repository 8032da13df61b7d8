/-
  sort.Search over a closure that leaves a world above.
  Comparing times and addresses: cmp.Compare, cmp.Or, bytes.Compare.
-/
import Derived.Test.YtgndiblonhgihaaFold10
import Derived.Lib.BytesEntry
import Derived.Laws.Externs
namespace Go.Proofs.Ytgndiblonhgihaa
open Go Go.RowKit
set_option linter.unusedVariables false
set_option linter.unusedSimpArgs false

set_option maxHeartbeats 4000000 in
set_option maxRecDepth 100000 in
theorem search_any (n : Nat) (hn : n ≤ 1000000) (g : Nat) (cb : Array Value) (p : Nat → Bool) (W : World) (eg : ∀ args w, (callFunc g args).run Try.prog w = .ok (.enter g args) w) (hf : ∀ X, Below W.heap.size W X → ∀ i, i < n → Calls Try.prog g (#[.int .i64 (i : Int)] ++ cb) X fun e w' => e = .returned (.bool (p i)) ∧ Below X.heap.size X w')
    (hm : ∀ a b, a ≤ b → b < n → p a = true → p b = true) :
    Calls Try.prog 38 #[.int .i64 (n : Int), .func (.func g) #[] cb] W fun e w' => ∃ k : Nat, e = .returned (.int .i64 (k : Int)) ∧ k ≤ n ∧ (∀ i, i < k → p i = false) ∧ (∀ i, k ≤ i → i < n → p i = true) ∧ Below W.heap.size W w' := by
  generalize hQ : (fun (e : Ending) (w' : World) => ∃ k : Nat, e = .returned (.int .i64 (k : Int)) ∧ k ≤ n ∧ (∀ i, i < k → p i = false) ∧ (∀ i, k ≤ i → i < n → p i = true) ∧ Below W.heap.size W w') = Q
  have HQ : Hid (∀ e w', (∃ k : Nat, e = .returned (.int .i64 (k : Int)) ∧ k ≤ n ∧ (∀ i, i < k → p i = false) ∧ (∀ i, k ≤ i → i < n → p i = true) ∧ Below W.heap.size W w') → Q e w') := fun e w' hh => by rw [← hQ]; exact hh
  have HF : Hid (∀ X, Below W.heap.size W X → ∀ i, i < n → Calls Try.prog g (#[.int .i64 (i : Int)] ++ cb) X fun e w' => e = .returned (.bool (p i)) ∧ Below X.heap.size X w') := hf
  have HM : Hid (∀ a b, a ≤ b → b < n → p a = true → p b = true) := hm
  clear hQ hf hm
  go_enter Try.func38, Try.ntmps38
  go_wp2
  go_loopw [5, 6] (fun lo hi wr => ∃ a b : Nat, lo = .int .i64 a ∧ hi = .int .i64 b ∧ a ≤ b ∧ b ≤ n ∧ Hid ((∀ i, i < a → p i = false) ∧ (∀ i, b ≤ i → i < n → p i = true) ∧ Below W.heap.size W wr)) (fun lo hi _ => (intOf hi - intOf lo).toNat)
  case atStart => exact ⟨0, n, rfl, rfl, Nat.zero_le _, Nat.le_refl _, ⟨fun i h => absurd h (Nat.not_lt_zero _), fun i h1 h2 => absurd h2 (by omega), Below.refl _ _⟩⟩
  case round =>
    obtain ⟨a, b, rfl, rfl, hab, hbn, hin⟩ := hrel
    by_cases hlt : a < b
    · have q1 : decide ((a : Int) < b) = true := decide_eq_true (by omega)
      have q1n : decide (a < b) = true := decide_eq_true hlt
      obtain ⟨m, hm⟩ : ∃ m, m = (a + b) / 2 := ⟨_, rfl⟩
      have w1 : IntKind.i64.wrap ((a : Int) + b) = ((a + b : Nat) : Int) := by rw [wrap_i64 _ ⟨by omega, by omega⟩]; simp
      have w2 : IntKind.u64.wrap ((a : Int) + b) = (a : Int) + b := by rw [IntKind.wrap_u64]; omega
      have e1 : RowKit.wrap64 (IntKind.u64.wrap ((a : Int) + b) / 2) = (m : Int) := by
        rw [w2, show ((a : Int) + b) / 2 = (m : Int) by omega]
        exact IntWalk.wrap64_in _ ⟨by omega, by omega⟩
      have E1 : Hid (RowKit.wrap64 (IntKind.u64.wrap ((a : Int) + b) / 2) = (m : Int)) := e1
      have w5 : IntKind.i64.wrap ((m : Int) + 1) = ((m + 1 : Nat) : Int) := by rw [wrap_i64 _ ⟨by omega, by omega⟩]; simp
      have HMM : Hid (a ≤ m ∧ m < b) := by
        have : a ≤ m ∧ m < b := by omega
        exact this
      have HAB : Hid (a ≤ b ∧ b ≤ n) := ⟨hab, hbn⟩
      clear hm hlt hab hbn w2 e1
      go_wp2_with fail
      rw [E1.out]
      refine Calls.mono (HF.out wr hin.out.2.2 m (by have := HMM.out; have := HAB.out; omega)) ?_
      rintro e w1 ⟨rfl, hb⟩
      have HB : Hid (Below W.heap.size W w1) := hin.out.2.2.trans (hb.mono hin.out.2.2.size)
      clear hb
      cases hp : p m with
      | true =>
        have HI : Hid ((∀ i, i < a → p i = false) ∧ (∀ i, m ≤ i → i < n → p i = true) ∧ Below W.heap.size W w1) := ⟨hin.out.1, fun i h1 h2 => HM.out m i h1 h2 hp, HB.out⟩
        clear hp w5
        go_wp2
        go_roundw
        case rel => exact ⟨a, m, rfl, rfl, HMM.out.1, by have := HMM.out; have := HAB.out; omega, HI.out⟩
        case measure => show ((m : Int) - a).toNat < ((b : Int) - a).toNat; have := HMM.out; omega
      | false =>
        have hlow : ∀ i, i < m + 1 → p i = false := fun i h1 => by
          cases hq : p i with
          | false => rfl
          | true =>
            have := HM.out i m (by omega) (by have := HMM.out; have := HAB.out; omega) hq
            rw [hp] at this
            cases this
        have HI : Hid ((∀ i, i < m + 1 → p i = false) ∧ (∀ i, b ≤ i → i < n → p i = true) ∧ Below W.heap.size W w1) := ⟨hlow, hin.out.2.1, HB.out⟩
        clear hlow
        clear hp
        go_wp2
        go_roundw
        case rel => exact ⟨m + 1, b, by first | rfl | simp, rfl, by have := HMM.out; omega, HAB.out.2, HI.out⟩
        case measure => have := HMM.out; show ((b : Int) - ((m : Int) + 1)).toNat < ((b : Int) - a).toNat; omega
    · have q1 : decide ((a : Int) < b) = false := decide_eq_false (by omega)
      have q1n : decide (a < b) = false := decide_eq_false hlt
      obtain rfl : a = b := by omega
      have q2n : decide (a < a) = false := decide_eq_false (by omega)
      have HAB : Hid (a ≤ n) := hbn
      clear hlt hab hbn
      go_wp2
      try go_ret2
      exact HQ.out _ _ ⟨a, (by rfl), HAB.out, hin.out.1, hin.out.2.1, hin.out.2.2⟩
end Go.Proofs.Ytgndiblonhgihaa

namespace Go.Proofs.Ytgndiblonhgihaa
open Go Go.RowKit
set_option linter.unusedVariables false
set_option linter.unusedSimpArgs false

/-- Bytes in order: below 0, 0, above 0. -/
def cmpI : List Int → List Int → Int
  | [], [] => 0
  | [], _ :: _ => -1
  | _ :: _, [] => 1
  | x :: xs, y :: ys => if x < y then -1 else if y < x then 1 else cmpI xs ys
theorem cmp_bytes : ∀ (a b : List Int), FitB a → FitB b → Lib.compareBytes (Lib.bytesOf a) (Lib.bytesOf b) = cmpI a b
  | [], [], _, _ => rfl
  | [], _ :: _, _, _ => rfl
  | _ :: _, [], _, _ => rfl
  | x :: xs, y :: ys, ha, hb => by
    have ih := cmp_bytes xs ys (fun z hz => ha z (by simp [hz])) (fun z hz => hb z (by simp [hz]))
    have hx := ha x (by simp)
    have hy := hb y (by simp)
    have h1 : (UInt8.ofNat x.toNat < UInt8.ofNat y.toNat) ↔ x < y := by
      rw [UInt8.lt_iff_toNat_lt, UInt8.toNat_ofNat', UInt8.toNat_ofNat', Nat.mod_eq_of_lt (by omega), Nat.mod_eq_of_lt (by omega)]
      omega
    have h2 : (UInt8.ofNat y.toNat < UInt8.ofNat x.toNat) ↔ y < x := by
      rw [UInt8.lt_iff_toNat_lt, UInt8.toNat_ofNat', UInt8.toNat_ofNat', Nat.mod_eq_of_lt (by omega), Nat.mod_eq_of_lt (by omega)]
      omega
    show (if UInt8.ofNat x.toNat < UInt8.ofNat y.toNat then (-1 : Int) else if UInt8.ofNat y.toNat < UInt8.ofNat x.toNat then 1 else Lib.compareBytes (Lib.bytesOf xs) (Lib.bytesOf ys)) = if x < y then (-1 : Int) else if y < x then 1 else cmpI xs ys
    rw [ih]
    simp only [h1, h2]
theorem cmpI_vals : ∀ a b : List Int, cmpI a b = -1 ∨ cmpI a b = 0 ∨ cmpI a b = 1
  | [], [] => .inr (.inl rfl)
  | [], _ :: _ => .inl rfl
  | _ :: _, [] => .inr (.inr rfl)
  | x :: xs, y :: ys => by
    have ih := cmpI_vals xs ys
    unfold cmpI
    split
    · exact .inl rfl
    · split
      · exact .inr (.inr rfl)
      · exact ih
theorem cmpI_self : ∀ a : List Int, cmpI a a = 0
  | [] => rfl
  | x :: xs => by simp [cmpI, cmpI_self xs]
theorem cmpI_anti : ∀ a b : List Int, cmpI b a = - cmpI a b
  | [], [] => rfl
  | [], _ :: _ => rfl
  | _ :: _, [] => rfl
  | x :: xs, y :: ys => by
    have ih := cmpI_anti xs ys
    unfold cmpI
    split <;> split <;> first | omega | rfl | (split <;> first | omega | rfl)
theorem cmpI_eq : ∀ {a b : List Int}, cmpI a b = 0 → a = b
  | [], [], _ => rfl
  | [], _ :: _, h => by simp [cmpI] at h
  | _ :: _, [], h => by simp [cmpI] at h
  | x :: xs, y :: ys, h => by
    unfold cmpI at h
    split at h
    · simp at h
    · split at h
      · simp at h
      · rw [cmpI_eq h, show x = y by omega]
theorem cmpI_trans : ∀ {a b c : List Int}, cmpI a b = -1 → cmpI b c = -1 → cmpI a c = -1
  | [], [], _, h, _ => by simp [cmpI] at h
  | [], _ :: _, [], _, g => by simp [cmpI] at g
  | [], _ :: _, _ :: _, _, _ => rfl
  | _ :: _, [], _, h, _ => by simp [cmpI] at h
  | _ :: _, _ :: _, [], _, g => by simp [cmpI] at g
  | x :: xs, y :: ys, z :: zs, h, g => by
    unfold cmpI at h g ⊢
    by_cases h1 : x < y
    · by_cases g1 : y < z
      · rw [if_pos (by omega)]
      · rw [if_neg g1] at g
        by_cases g2 : z < y
        · rw [if_pos g2] at g; simp at g
        · rw [if_pos (by omega)]
    · rw [if_neg h1] at h
      by_cases h2 : y < x
      · rw [if_pos h2] at h; simp at h
      · rw [if_neg h2] at h
        by_cases g1 : y < z
        · rw [if_pos (by omega)]
        · rw [if_neg g1] at g
          by_cases g2 : z < y
          · rw [if_pos g2] at g; simp at g
          · rw [if_neg g2] at g
            rw [if_neg (by omega), if_neg (by omega)]
            exact cmpI_trans h g
/-- Numbers in order. -/
def cmpN (x y : Int) : Int := if x < y then -1 else if x > y then 1 else 0
/-- Entries in the order in which they go: by until, then by address. -/
def cmpE (u : Int) (a : List Int) (v : Int) (b : List Int) : Int := if cmpN u v = 0 then cmpI a b else cmpN u v
theorem cmpN_vals (x y : Int) : cmpN x y = -1 ∨ cmpN x y = 0 ∨ cmpN x y = 1 := by
  unfold cmpN
  split
  · exact .inl rfl
  · split
    · exact .inr (.inr rfl)
    · exact .inr (.inl rfl)
theorem cmpE_vals (u : Int) (a : List Int) (v : Int) (b : List Int) : cmpE u a v b = -1 ∨ cmpE u a v b = 0 ∨ cmpE u a v b = 1 := by
  unfold cmpE
  split
  · exact cmpI_vals a b
  · exact cmpN_vals u v
theorem cmpE_self (u : Int) (a : List Int) : cmpE u a u a = 0 := by simp [cmpE, cmpN, cmpI_self]
theorem cmpE_anti (u : Int) (a : List Int) (v : Int) (b : List Int) : cmpE v b u a = - cmpE u a v b := by
  have h := cmpI_anti a b
  unfold cmpE cmpN
  by_cases c : u < v
  · have d : ¬ v < u := by omega
    simp [c, d]
  · by_cases d : v < u
    · simp [c, d]
    · simp [c, d, h]
theorem cmpE_eq {u : Int} {a : List Int} {v : Int} {b : List Int} (h : cmpE u a v b = 0) : u = v ∧ a = b := by
  unfold cmpE at h
  by_cases c : cmpN u v = 0
  · rw [if_pos c] at h
    refine ⟨?_, cmpI_eq h⟩
    unfold cmpN at c
    split at c
    · simp at c
    · split at c
      · simp at c
      · omega
  · rw [if_neg c] at h; exact absurd h c
theorem cmpE_trans {u v w : Int} {a b c : List Int} (h : cmpE u a v b = -1) (g : cmpE v b w c = -1) : cmpE u a w c = -1 := by
  unfold cmpE cmpN at h g ⊢
  by_cases h1 : u < v
  · by_cases g1 : v < w
    · have : u < w := by omega
      simp [this]
    · by_cases g2 : w < v
      · simp [g1, g2] at g
      · have : u < w := by omega
        simp [this]
  · by_cases h2 : v < u
    · simp [h1, h2] at h
    · by_cases g1 : v < w
      · have : u < w := by omega
        simp [this]
      · by_cases g2 : w < v
        · simp [g1, g2] at g
        · have e1 : ¬ u < w := by omega
          have e2 : ¬ w < u := by omega
          simp [h1, h2] at h
          simp [g1, g2] at g
          simp [e1, e2]
          exact cmpI_trans h g

/-- The stand-in of bytealg.Compare at two slices whose cells are known. -/
theorem run_cmpRows {P : Program} {W : World} {p q o r c d : Nat} {xs ys : List Int} (hx : ∀ j x, xs[j]? = some x → W.cell? ⟨p, o + j, none⟩ = some (.int .u8 x)) (hy : ∀ j x, ys[j]? = some x → W.cell? ⟨q, r + j, none⟩ = some (.int .u8 x)) :
    (Extern.BytealgCompare.compare #[.slice (some ⟨p, o, none⟩) xs.length c, .slice (some ⟨q, r, none⟩) ys.length d]).run P W = .ok (.int .i64 (Lib.compareBytes (Lib.bytesOf xs) (Lib.bytesOf ys))) W := by
  have h1 := Lib.run_loadBytesX (P := P) W xs ⟨p, o, none⟩ .empty (fun j x hj => by
    have e : (⟨p, o, none⟩ : Addr).add j = ⟨p, o + j, none⟩ := by unfold Addr.add; split <;> simp_all
    rw [e]; exact hx j x hj)
  have h2 := Lib.run_loadBytesX (P := P) W ys ⟨q, r, none⟩ .empty (fun j x hj => by
    have e : (⟨q, r, none⟩ : Addr).add j = ⟨q, r + j, none⟩ := by unfold Addr.add; split <;> simp_all
    rw [e]; exact hy j x hj)
  change Sem.run P (do pure (goInt (Extern.BytealgCompare.cmp (← Extern.Bytes.bytesOf (.slice (some ⟨p, o, none⟩) xs.length c)) (← Extern.Bytes.bytesOf (.slice (some ⟨q, r, none⟩) ys.length d))))) W = _
  simp only [Extern.Bytes.bytesOf, Sem.run_bind, Sem.run_pure, h1, h2, Result.andThen]
  rw [Lib.cmp_eq]
  have e : ∀ l : List UInt8, (ByteArray.empty.data ++ l.toArray).toList = l := fun l => by
    show ((#[] : Array UInt8) ++ l.toArray).toList = l
    simp
  rw [e, e]
  rfl
set_option maxHeartbeats 1000000 in
set_option maxRecDepth 100000 in
theorem bcmp_calls {W : World} {p q o r c d : Nat} {xs ys : List Int} (fx : FitB xs) (fy : FitB ys) (hx : ∀ j x, xs[j]? = some x → W.cell? ⟨p, o + j, none⟩ = some (.int .u8 x)) (hy : ∀ j x, ys[j]? = some x → W.cell? ⟨q, r + j, none⟩ = some (.int .u8 x)) :
    Calls Try.prog 45 #[.slice (some ⟨p, o, none⟩) xs.length c, .slice (some ⟨q, r, none⟩) ys.length d] W fun e w' => e = .returned (.int .i64 (cmpI xs ys)) ∧ w' = W := by
  have hr := run_cmpRows (P := Try.prog) (c := c) (d := d) hx hy
  rw [cmp_bytes xs ys fx fy] at hr
  go_enter Try.func45, Try.ntmps45
  go_wp2
  rw [run_callFunc_extern Try.func53 (by kernel_rfl) (by kernel_rfl) (by kernel_rfl) (e := Extern.BytealgCompare.compare) (by kernel_rfl), hr]
  simp only [Result.andThen]
  rw [Oper.upon_value]
  go_wp2
  go_ret
  exact ⟨rfl, rfl⟩
set_option maxHeartbeats 1000000 in
set_option maxRecDepth 100000 in
theorem nan_calls (x : Int) (W : World) : Calls Try.prog 68 #[.int .i64 x] W fun e w' => e = .returned (.bool false) ∧ w' = W := by
  go_enter Try.func68, Try.ntmps68
  go_wp2
  try go_ret
  all_goals first | exact ⟨by simp, rfl⟩ | exact ⟨rfl, rfl⟩
set_option maxHeartbeats 1000000 in
set_option maxRecDepth 100000 in
theorem cmp_calls (x y : Int) (W : World) : Calls Try.prog 56 #[.int .i64 x, .int .i64 y] W fun e w' => e = .returned (.int .i64 (cmpN x y)) ∧ w' = W := by
  unfold cmpN
  go_enter Try.func56, Try.ntmps56
  go_wp2
  all_goals (try go_ret)
  all_goals first | exact ⟨rfl, rfl⟩ | (refine ⟨?_, rfl⟩; simp_all) | (refine ⟨?_, rfl⟩; split <;> first | rfl | omega | (split <;> first | rfl | omega))
end Go.Proofs.Ytgndiblonhgihaa
