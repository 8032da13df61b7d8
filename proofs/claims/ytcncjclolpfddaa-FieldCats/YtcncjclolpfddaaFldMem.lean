/-
  Rows of bytes in memory: what a slice of bytes holds, its text, and cells that a call turns.
-/
import Derived.Test.YtcncjclolpfddaaFldPure
import Derived.Test.YtcncjclolpfddaaProg
import Derived.WalkKit
import Derived.Lib.OthersKept
import Derived.Below
import Derived.Deep.Draws
import Derived.Deep.AppendSrc
import Derived.Laws.BytesArg
import Derived.Laws.AppendOwn
import Derived.Laws.BitsAllLaws
import Derived.OpenShut
namespace Go.Proofs.Ytcncjclolpfddaa
set_option linter.unusedVariables false
set_option linter.unusedSimpArgs false
open Go Go.RowKit
attribute [local go_sem] Oper.semAt_some

/-- The slice value v holds the bytes zs, in a block below n₀. -/
structure BytesAt (n₀ : Nat) (W : World) (v : Value) (zs : List Int) : Prop where
  fit : FitB zs
  len : zs.length ≤ 140737488351232
  val : ∃ a cap, v = .slice a zs.length cap ∧ (zs.length = 0 ∨ ∃ b off, a = some ⟨b, off, none⟩ ∧ b < n₀ ∧ ∀ j, j < zs.length → W.cell? ⟨b, off + j, none⟩ = some (.int .u8 (zs[j]?.getD 0)))

theorem BytesAt.below {n₀ : Nat} {A B : World} {v : Value} {zs : List Int} (h : BytesAt n₀ A v zs) (hb : Below n₀ A B) : BytesAt n₀ B v zs := by
  obtain ⟨h1, h2, a, cap, hv, hz⟩ := h
  refine ⟨h1, h2, a, cap, hv, hz.imp id ?_⟩
  rintro ⟨b, off, rfl, hlt, hc⟩
  exact ⟨b, off, rfl, hlt, fun j hj => (hb.cell (p := ⟨b, off + j, none⟩) hlt).trans (hc j hj)⟩
theorem BytesAt.later {A B : World} {v : Value} {zs : List Int} (h : BytesAt A.heap.size A v zs) (hb : Below A.heap.size A B) : BytesAt B.heap.size B v zs := by
  obtain ⟨h1, h2, a, cap, hv, hz⟩ := h.below hb
  refine ⟨h1, h2, a, cap, hv, hz.imp id ?_⟩
  rintro ⟨b, off, rfl, hlt, hc⟩
  exact ⟨b, off, rfl, by have := hb.size; omega, hc⟩

/-- A row of bytes of one's own: it begins its block, which lies from base on and is open. -/
structure OwnB (base : Nat) (w : World) (v : Value) (zs : List Int) : Prop where
  fit : FitB zs
  len : zs.length ≤ 140737488351232
  val : ∃ a cap, v = .slice a zs.length cap ∧ (zs.length = 0 ∨ ∃ g, a = some ⟨g, 0, none⟩ ∧ base ≤ g ∧ (∃ cs, w.heap[g]? = some (.cells cs 5 (0, 0))) ∧ ∀ j, j < zs.length → w.cell? ⟨g, j, none⟩ = some (.int .u8 (zs[j]?.getD 0)))

theorem OwnB.bytes {base : Nat} {w : World} {v : Value} {zs : List Int} (h : OwnB base w v zs) : BytesAt w.heap.size w v zs := by
  obtain ⟨h1, h2, a, cap, hv, hz⟩ := h
  refine ⟨h1, h2, a, cap, hv, hz.imp id ?_⟩
  rintro ⟨g, rfl, hb, ⟨cs, hg⟩, hc⟩
  exact ⟨g, 0, rfl, (Array.getElem?_eq_some_iff.1 hg).1, fun j hj => by rw [Nat.zero_add]; exact hc j hj⟩

/-- The text of a slice of bytes. -/
theorem BytesAt.text {n₀ : Nat} {w : World} {v : Value} {zs : List Int} (h : BytesAt n₀ w v zs) : (convert 22 9 v).run Try.prog w = .ok (.string (strOfNums zs)) w := by
  obtain ⟨_, _, a, cap, rfl, hz⟩ := h
  rcases hz with hz | ⟨b, off, rfl, _, hc⟩
  · obtain rfl : zs = [] := List.length_eq_zero_iff.1 hz
    cases a with
    | none => exact run_convert_bytes_nil w _ _ Try.underlying22 Try.underlying5 _ _ _ Try.underlying9
    | some x =>
      rw [run_convert_bytes_string w _ _ _ _ _ _ Try.underlying22 Try.underlying5 Try.underlying9]
      have := run_loadCells_list (P := Try.prog) w x [] (fun j v hj => by simp at hj)
      exact run_bytesToString w x 0 cap [] (by simpa using this)
  · exact run_convert_bytes_arg w _ _ Try.underlying22 Try.underlying5 b off _ cap zs rfl (fun i hi => by simpa [List.getD] using hc i hi) _ Try.underlying9

/-- What an argument's reading says of a slice of bytes. -/
def IsRowB (w : World) (a : Option Addr) (len cap : Nat) (zs : List Int) : Prop :=
  (a = none ∧ len = 0 ∧ cap = 0 ∧ zs = []) ∨
  ∃ x, a = some x ∧ len ≤ cap ∧ cap ≤ maxLen ∧ zs.length = cap ∧ (∀ i, i < zs.length → w.cell? (x.add i) = some (.int .u8 (zs.getD i 0))) ∧ ∀ n ∈ zs, (Lit.int .u8 n).wf = true

theorem IsRowB.bounds {w : World} {a : Option Addr} {len cap : Nat} {zs : List Int} (h : IsRowB w a len cap zs) : (a = none → len = 0) ∧ len ≤ cap ∧ cap ≤ maxLen := by
  rcases h with ⟨rfl, rfl, rfl, _⟩ | ⟨x, rfl, h1, h2, _⟩
  · exact ⟨fun _ => rfl, Nat.le_refl _, Nat.zero_le _⟩
  · exact ⟨fun h => (by cases h), h1, h2⟩

/-- Its first n bytes. -/
theorem IsRowB.bytes {w : World} {a : Option Addr} {len cap : Nat} {zs : List Int} (h : IsRowB w a len cap zs) (n : Nat) (hn : n ≤ len) (hs : n ≤ 140737488351232) : BytesAt w.heap.size w (.slice a n cap) (zs.take n) := by
  rcases h with ⟨rfl, rfl, rfl, rfl⟩ | ⟨x, rfl, h1, h2, h3, hc, hwf⟩
  · obtain rfl : n = 0 := by omega
    exact ⟨fun z hz => (by simp at hz), by simp, none, 0, rfl, .inl rfl⟩
  · have hl : (zs.take n).length = n := by simp; omega
    refine ⟨fun z hz => ?_, by omega, some x, cap, by rw [hl], ?_⟩
    · have := bounds_u8 (hwf z (List.mem_of_mem_take hz))
      omega
    · by_cases h0 : n = 0
      · exact .inl (by omega)
      · obtain ⟨b, off, rfl, hc'⟩ := ints_at hc (by omega)
        refine .inr ⟨b, off, rfl, ?_, fun j hj => ?_⟩
        · have hc0 := hc' 0 (by omega)
          simp only [World.cell?] at hc0
          cases hb : w.heap[b]? with
          | none => rw [hb] at hc0; simp at hc0
          | some o => exact (Array.getElem?_eq_some_iff.1 hb).1
        · rw [hc' j (by omega), List.getElem?_take_of_lt (by omega)]
          simp [List.getD]

theorem ret_bool {a b : Bool} (h : a = b) : Ending.returned (.bool a) = .returned (.bool b) := by rw [h]
theorem ret_int {k : IntKind} {a b : Int} (h : a = b) : Ending.returned (.int k a) = .returned (.int k b) := by rw [h]

theorem info_u8 : (Try.prog.info? 5).map (fun i => (i.zero, i.size, i.bytes)) = some (some (.int .u8 0), 1, 1) := by kernel_rfl

/-- One byte shifted and masked is its bit. -/
theorem bit_u8 (z : Int) (k : Nat) (h0 : 0 ≤ z) (h1 : z < 256) : bits .and .u8 (z / 2 ^ k) 1 = ((bk z.toNat k : Nat) : Int) := by
  have e : z / 2 ^ k = ((z.toNat / 2 ^ k : Nat) : Int) := by
    obtain ⟨n, rfl⟩ := Int.eq_ofNat_of_zero_le h0
    simp
  have hlt : z.toNat / 2 ^ k < 256 := Nat.lt_of_le_of_lt (Nat.div_le_self _ _) (by omega)
  have h := u8_and_nat (z.toNat / 2 ^ k) 1 hlt (by decide)
  rw [e]
  rw [show ((1 : Nat) : Int) = 1 from rfl] at h
  rw [h, Nat.and_one_is_mod]
  rfl
theorem bit_u64 (z : Int) (k : Nat) (h0 : 0 ≤ z) (h1 : z < 18446744073709551616) : bits .and .u64 (z / 2 ^ k) 1 = ((bk z.toNat k : Nat) : Int) := by
  have e : z / 2 ^ k = ((z.toNat / 2 ^ k : Nat) : Int) := by
    obtain ⟨n, rfl⟩ := Int.eq_ofNat_of_zero_le h0
    simp
  have hlt : z.toNat / 2 ^ k < 18446744073709551616 := Nat.lt_of_le_of_lt (Nat.div_le_self _ _) (by omega)
  have h := u64_and_nat (z.toNat / 2 ^ k) 1 hlt (by decide)
  rw [e]
  rw [show ((1 : Nat) : Int) = 1 from rfl] at h
  rw [h, Nat.and_one_is_mod]
  rfl

set_option maxHeartbeats 400000 in
theorem cut_calls (a : Option Addr) (len cap : Nat) (w : World) (ha : a = none → len = 0) (h1 : len ≤ cap) (h2 : cap ≤ maxLen) :
    Calls Try.prog 9 #[.slice a len cap] w fun e w' => e = .returned (.slice a (min len 200) cap) ∧ w' = w := by
  unfold maxLen at h2
  by_cases h : len ≤ 200
  · have hmin : min len 200 = len := by omega
    rw [hmin]
    go_enter Try.func9, Try.ntmps9
    go_wp2
    go_ret
    exact ⟨rfl, rfl⟩
  · have hmin : min len 200 = 200 := by omega
    rw [hmin]
    cases a with
    | none => have := ha rfl; omega
    | some x =>
      go_enter Try.func9, Try.ntmps9
      go_wp2
      go_ret
      exact ⟨rfl, rfl⟩

def thereB (len : Nat) (at' n : Int) : Bool := decide (0 ≤ at') && (decide (0 ≤ n) && decide (at' + n ≤ 8 * len))

set_option maxHeartbeats 400000 in
theorem there_calls (a : Option Addr) (len cap : Nat) (at' n : Int) (w : World) (hl : len ≤ 140737488351232) (h0 : -9223372036854775808 ≤ at' ∧ at' ≤ 9223372036854775807) (h1 : -9223372036854775808 ≤ n ∧ n ≤ 9223372036854775807) :
    Calls Try.prog 28 #[.slice a len cap, .int .i64 at', .int .i64 n] w fun e w' => e = .returned (.bool (thereB len at' n)) ∧ w' = w := by
  cases c1 : decide (0 ≤ at') <;> cases c2 : decide (0 ≤ n) <;> cases c3 : decide (at' ≤ 8 * (len : Int) - n)
  all_goals
    simp only [decide_eq_true_eq, decide_eq_false_iff_not] at c1 c2 c3
    go_enter Try.func28, Try.ntmps28
    go_wp2
    go_ret
    refine ⟨ret_bool ?_, rfl⟩
    unfold thereB
    first
      | (refine Eq.trans ?_ (Eq.refl true); symm; simp; omega)
      | (symm; simp; omega)
      | (rw [Bool.eq_iff_iff]; simp; omega)

end Go.Proofs.Ytcncjclolpfddaa
