/-
  Pseudo headers as lists; what segments go over: over4, over6 of package segment.
-/
import Derived.Test.YtljmamogefgiaaaSg1
namespace Go.Proofs.Ytljmamogefgiaaa
open Go Go.RowKit Go.Shelf
set_option linter.unusedVariables false
set_option linter.unusedSimpArgs false

def ph4 (A B : List Int) (p n : Int) : List Int := A ++ (B ++ [0, p, n / 256, n % 256])
def ph6 (A B : List Int) (p n : Int) : List Int := A ++ (B ++ [0, 0, n / 256, n % 256, 0, 0, 0, p])

theorem len4 {α : Type} {l : List α} (h : l.length = 4) : ∃ a0 a1 a2 a3, l = [a0, a1, a2, a3] := by
  match l, h with
  | [a0, a1, a2, a3], _ => exact ⟨a0, a1, a2, a3, rfl⟩
theorem len16 {α : Type} {l : List α} (h : l.length = 16) : ∃ a0 a1 a2 a3 a4 a5 a6 a7 a8 a9 a10 a11 a12 a13 a14 a15, l = [a0, a1, a2, a3, a4, a5, a6, a7, a8, a9, a10, a11, a12, a13, a14, a15] := by
  match l, h with
  | [a0, a1, a2, a3, a4, a5, a6, a7, a8, a9, a10, a11, a12, a13, a14, a15], _ => exact ⟨a0, a1, a2, a3, a4, a5, a6, a7, a8, a9, a10, a11, a12, a13, a14, a15, rfl⟩
theorem pseudo6_list (A B : List Int) (hA : A.length = 16) (hB : B.length = 16) (fa : Fit A) (fb : Fit B) (p n : Int) (hp : 0 ≤ p ∧ p < 256) (hn : 0 ≤ n ∧ n ≤ 65535) (w : World) :
    Calls Try.prog 52 #[.agg (u8L A).toArray, .agg (u8L B).toArray, .int .u8 p, .int .i64 n] w fun e w' => ∃ v, e = .returned (.tuple #[v, .int .i64 0]) ∧ BytesAt w'.heap.size w' v (ph6 A B p n) ∧ Below w.heap.size w w' := by
  obtain ⟨a0, a1, a2, a3, a4, a5, a6, a7, a8, a9, a10, a11, a12, a13, a14, a15, rfl⟩ := len16 hA
  obtain ⟨b0, b1, b2, b3, b4, b5, b6, b7, b8, b9, b10, b11, b12, b13, b14, b15, rfl⟩ := len16 hB
  exact pseudo6_calls a0 a1 a2 a3 a4 a5 a6 a7 a8 a9 a10 a11 a12 a13 a14 a15 b0 b1 b2 b3 b4 b5 b6 b7 b8 b9 b10 b11 b12 b13 b14 b15 p n fa fb hp hn w
theorem pseudo6_list_ref (A B : List Int) (hA : A.length = 16) (hB : B.length = 16) (fa : Fit A) (fb : Fit B) (p n : Int) (hp : 0 ≤ p ∧ p < 256) (hn : 0 ≤ n ∧ n ≤ 65535) (w : World) :
    Calls Try.prog 38 #[.agg (u8L A).toArray, .agg (u8L B).toArray, .int .u8 p, .int .i64 n] w fun e w' => ∃ v, e = .returned (.tuple #[v, .int .i64 0]) ∧ BytesAt w'.heap.size w' v (ph6 A B p n) ∧ Below w.heap.size w w' := by
  obtain ⟨a0, a1, a2, a3, a4, a5, a6, a7, a8, a9, a10, a11, a12, a13, a14, a15, rfl⟩ := len16 hA
  obtain ⟨b0, b1, b2, b3, b4, b5, b6, b7, b8, b9, b10, b11, b12, b13, b14, b15, rfl⟩ := len16 hB
  exact pseudo6_ref a0 a1 a2 a3 a4 a5 a6 a7 a8 a9 a10 a11 a12 a13 a14 a15 b0 b1 b2 b3 b4 b5 b6 b7 b8 b9 b10 b11 b12 b13 b14 b15 p n fa fb hp hn w
set_option maxHeartbeats 1000000 in
set_option maxRecDepth 100000 in
theorem pseudo6_long (A B : List Int) (hA : A.length = 16) (hB : B.length = 16) (p n : Int) (hn : 65535 < n) (w : World) :
    Calls Try.prog 52 #[.agg (u8L A).toArray, .agg (u8L B).toArray, .int .u8 p, .int .i64 n] w fun e w' => e = .returned (.tuple #[.slice none 0 0, .int .i64 2]) ∧ Below w.heap.size w w' := by
  have hb : Below w.heap.size w ((w.alloc (.cells (u8L A).toArray 59)).alloc (.cells (u8L B).toArray 59)) := ((Below.refl _ w).alloc (Nat.le_refl _) _).alloc (by simp) _
  have HB : Hid _ := hb
  clear hb
  have h1 : (u8L A).length = 16 := by simp [u8L, hA]
  have h2 : (u8L B).length = 16 := by simp [u8L, hB]
  generalize u8L A = xA at *
  generalize u8L B = xB at *
  have HF : Hid _ := fun w => fits_no n (by omega) w
  clear hA hB
  go_enter Try.func52, Try.ntmps52
  go_wp2_with fail
  refine Calls.mono (HF.out _) ?_
  rintro _ w' ⟨rfl, rfl⟩
  go_wp2
  go_ret2
  exact ⟨rfl, HB.out⟩

theorem ph4_fit {A B : List Int} (fa : Fit A) (fb : Fit B) {p n : Int} (hp : 0 ≤ p ∧ p < 256) (hn : 0 ≤ n ∧ n ≤ 65535) : Fit (ph4 A B p n) :=
  fa.append (fb.append (fun z hz => by simp at hz; omega))
theorem ph6_fit {A B : List Int} (fa : Fit A) (fb : Fit B) {p n : Int} (hp : 0 ≤ p ∧ p < 256) (hn : 0 ≤ n ∧ n ≤ 65535) : Fit (ph6 A B p n) :=
  fa.append (fb.append (fun z hz => by simp at hz; omega))

/-- What segments go over: a function that tells the pseudo header. -/
structure OverV (w : World) (v : Value) (ph : Int → Int → List Int) : Prop where
  even : ∀ p n, (ph p n).length ≤ 40 ∧ (ph p n).length % 2 = 0
  fun' : ∃ g lb, v = .func (.func g) #[] lb ∧ (∀ args w, (callFunc g args).run Try.prog w = .ok (.enter g args) w) ∧
    (∀ W, Below w.heap.size w W → ∀ p n : Int, 0 ≤ p ∧ p < 256 → 0 ≤ n ∧ n ≤ 65535 → Calls Try.prog g (#[.int .u8 p, .int .i64 n] ++ lb) W fun e w' => ∃ u, e = .returned (.tuple #[u, .int .i64 0]) ∧ BytesAt w'.heap.size w' u (ph p n) ∧ Below W.heap.size W w') ∧
    (∀ W, Below w.heap.size w W → ∀ p n : Int, 0 ≤ p ∧ p < 256 → 65535 < n → Calls Try.prog g (#[.int .u8 p, .int .i64 n] ++ lb) W fun e w' => e = .returned (.tuple #[.slice none 0 0, .int .i64 2]) ∧ Below W.heap.size W w')
theorem OverV.later {w W : World} {v : Value} {ph : Int → Int → List Int} (h : OverV w v ph) (hb : Below w.heap.size w W) : OverV W v ph := by
  obtain ⟨he, g, lb, hv, hc, h1, h2⟩ := h
  exact ⟨he, g, lb, hv, hc, fun X hX => h1 X (hb.trans (hX.mono hb.size)), fun X hX => h2 X (hb.trans (hX.mono hb.size))⟩


end Go.Proofs.Ytljmamogefgiaaa
