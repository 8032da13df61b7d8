/-
  Pseudo headers as lists; what segments go over: over4, over6 of package segment.
-/
import Derived.Test.YtnlaomjhnndblaaSg1
namespace Go.Proofs.Ytnlaomjhnndblaa
open Go Go.RowKit Go.Shelf
set_option linter.unusedVariables false
set_option linter.unusedSimpArgs false

def ph4 (A B : List Int) (p n : Int) : List Int := A ++ (B ++ [0, p, n / 256, n % 256])
def ph6 (A B : List Int) (p n : Int) : List Int := A ++ (B ++ [0, 0, n / 256, n % 256, 0, 0, 0, p])

theorem len4 {α : Type} {l : List α} (h : l.length = 4) : ∃ a0 a1 a2 a3, l = [a0, a1, a2, a3] := by
  match l, h with
  | [a0, a1, a2, a3], _ => exact ⟨a0, a1, a2, a3, rfl⟩
theorem pseudo4_list (A B : List Int) (hA : A.length = 4) (hB : B.length = 4) (fa : Fit A) (fb : Fit B) (p n : Int) (hp : 0 ≤ p ∧ p < 256) (hn : 0 ≤ n ∧ n ≤ 65535) (w : World) :
    Calls Try.prog 74 #[.agg (u8L A).toArray, .agg (u8L B).toArray, .int .u8 p, .int .i64 n] w fun e w' => ∃ v, e = .returned (.tuple #[v, .int .i64 0]) ∧ BytesAt w'.heap.size w' v (ph4 A B p n) ∧ Below w.heap.size w w' := by
  obtain ⟨a0, a1, a2, a3, rfl⟩ := len4 hA
  obtain ⟨b0, b1, b2, b3, rfl⟩ := len4 hB
  exact pseudo4_calls a0 a1 a2 a3 b0 b1 b2 b3 p n fa fb hp hn w
theorem pseudo4_list_ref (A B : List Int) (hA : A.length = 4) (hB : B.length = 4) (fa : Fit A) (fb : Fit B) (p n : Int) (hp : 0 ≤ p ∧ p < 256) (hn : 0 ≤ n ∧ n ≤ 65535) (w : World) :
    Calls Try.prog 68 #[.agg (u8L A).toArray, .agg (u8L B).toArray, .int .u8 p, .int .i64 n] w fun e w' => ∃ v, e = .returned (.tuple #[v, .int .i64 0]) ∧ BytesAt w'.heap.size w' v (ph4 A B p n) ∧ Below w.heap.size w w' := by
  obtain ⟨a0, a1, a2, a3, rfl⟩ := len4 hA
  obtain ⟨b0, b1, b2, b3, rfl⟩ := len4 hB
  exact pseudo4_ref a0 a1 a2 a3 b0 b1 b2 b3 p n fa fb hp hn w
set_option maxHeartbeats 1000000 in
set_option maxRecDepth 100000 in
theorem pseudo4_long (A B : List Int) (hA : A.length = 4) (hB : B.length = 4) (p n : Int) (hn : 65535 < n) (w : World) :
    Calls Try.prog 74 #[.agg (u8L A).toArray, .agg (u8L B).toArray, .int .u8 p, .int .i64 n] w fun e w' => e = .returned (.tuple #[.slice none 0 0, .int .i64 2]) ∧ Below w.heap.size w w' := by
  have hb : Below w.heap.size w ((w.alloc (.cells (u8L A).toArray 23)).alloc (.cells (u8L B).toArray 23)) := ((Below.refl _ w).alloc (Nat.le_refl _) _).alloc (by simp) _
  have HB : Hid _ := hb
  clear hb
  have h1 : (u8L A).length = 4 := by simp [u8L, hA]
  have h2 : (u8L B).length = 4 := by simp [u8L, hB]
  generalize u8L A = xA at *
  generalize u8L B = xB at *
  have HF : Hid _ := fun w => fits_no n (by omega) w
  clear hA hB
  go_enter Try.func74, Try.ntmps74
  go_wp2_with fail
  refine Calls.mono (HF.out _) ?_
  rintro _ w' ⟨rfl, rfl⟩
  go_wp2
  go_ret2
  exact ⟨rfl, HB.out⟩
theorem len16 {α : Type} {l : List α} (h : l.length = 16) : ∃ a0 a1 a2 a3 a4 a5 a6 a7 a8 a9 a10 a11 a12 a13 a14 a15, l = [a0, a1, a2, a3, a4, a5, a6, a7, a8, a9, a10, a11, a12, a13, a14, a15] := by
  match l, h with
  | [a0, a1, a2, a3, a4, a5, a6, a7, a8, a9, a10, a11, a12, a13, a14, a15], _ => exact ⟨a0, a1, a2, a3, a4, a5, a6, a7, a8, a9, a10, a11, a12, a13, a14, a15, rfl⟩
theorem pseudo6_list (A B : List Int) (hA : A.length = 16) (hB : B.length = 16) (fa : Fit A) (fb : Fit B) (p n : Int) (hp : 0 ≤ p ∧ p < 256) (hn : 0 ≤ n ∧ n ≤ 65535) (w : World) :
    Calls Try.prog 76 #[.agg (u8L A).toArray, .agg (u8L B).toArray, .int .u8 p, .int .i64 n] w fun e w' => ∃ v, e = .returned (.tuple #[v, .int .i64 0]) ∧ BytesAt w'.heap.size w' v (ph6 A B p n) ∧ Below w.heap.size w w' := by
  obtain ⟨a0, a1, a2, a3, a4, a5, a6, a7, a8, a9, a10, a11, a12, a13, a14, a15, rfl⟩ := len16 hA
  obtain ⟨b0, b1, b2, b3, b4, b5, b6, b7, b8, b9, b10, b11, b12, b13, b14, b15, rfl⟩ := len16 hB
  exact pseudo6_calls a0 a1 a2 a3 a4 a5 a6 a7 a8 a9 a10 a11 a12 a13 a14 a15 b0 b1 b2 b3 b4 b5 b6 b7 b8 b9 b10 b11 b12 b13 b14 b15 p n fa fb hp hn w
theorem pseudo6_list_ref (A B : List Int) (hA : A.length = 16) (hB : B.length = 16) (fa : Fit A) (fb : Fit B) (p n : Int) (hp : 0 ≤ p ∧ p < 256) (hn : 0 ≤ n ∧ n ≤ 65535) (w : World) :
    Calls Try.prog 69 #[.agg (u8L A).toArray, .agg (u8L B).toArray, .int .u8 p, .int .i64 n] w fun e w' => ∃ v, e = .returned (.tuple #[v, .int .i64 0]) ∧ BytesAt w'.heap.size w' v (ph6 A B p n) ∧ Below w.heap.size w w' := by
  obtain ⟨a0, a1, a2, a3, a4, a5, a6, a7, a8, a9, a10, a11, a12, a13, a14, a15, rfl⟩ := len16 hA
  obtain ⟨b0, b1, b2, b3, b4, b5, b6, b7, b8, b9, b10, b11, b12, b13, b14, b15, rfl⟩ := len16 hB
  exact pseudo6_ref a0 a1 a2 a3 a4 a5 a6 a7 a8 a9 a10 a11 a12 a13 a14 a15 b0 b1 b2 b3 b4 b5 b6 b7 b8 b9 b10 b11 b12 b13 b14 b15 p n fa fb hp hn w
set_option maxHeartbeats 1000000 in
set_option maxRecDepth 100000 in
theorem pseudo6_long (A B : List Int) (hA : A.length = 16) (hB : B.length = 16) (p n : Int) (hn : 65535 < n) (w : World) :
    Calls Try.prog 76 #[.agg (u8L A).toArray, .agg (u8L B).toArray, .int .u8 p, .int .i64 n] w fun e w' => e = .returned (.tuple #[.slice none 0 0, .int .i64 2]) ∧ Below w.heap.size w w' := by
  have hb : Below w.heap.size w ((w.alloc (.cells (u8L A).toArray 25)).alloc (.cells (u8L B).toArray 25)) := ((Below.refl _ w).alloc (Nat.le_refl _) _).alloc (by simp) _
  have HB : Hid _ := hb
  clear hb
  have h1 : (u8L A).length = 16 := by simp [u8L, hA]
  have h2 : (u8L B).length = 16 := by simp [u8L, hB]
  generalize u8L A = xA at *
  generalize u8L B = xB at *
  have HF : Hid _ := fun w => fits_no n (by omega) w
  clear hA hB
  go_enter Try.func76, Try.ntmps76
  go_wp2_with fail
  refine Calls.mono (HF.out _) ?_
  rintro _ w' ⟨rfl, rfl⟩
  go_wp2
  go_ret2
  exact ⟨rfl, HB.out⟩

theorem ph4_fit {A B : List Int} (fa : Fit A) (fb : Fit B) {p n : Int} (hp : 0 ≤ p ∧ p < 256) (hn : 0 ≤ n ∧ n ≤ 65535) : Fit (ph4 A B p n) :=
  fa.append (fb.append (fun z hz => by simp at hz; omega))
theorem ph6_fit {A B : List Int} (fa : Fit A) (fb : Fit B) {p n : Int} (hp : 0 ≤ p ∧ p < 256) (hn : 0 ≤ n ∧ n ≤ 65535) : Fit (ph6 A B p n) :=
  fa.append (fb.append (fun z hz => by simp at hz; omega))

/-- What segments go over: a function that tells the pseudo header. -/
structure OverV (w : World) (v : Value) (ph : Int → Int → List Int) : Prop where
  even : ∀ p n, (ph p n).length ≤ 40 ∧ (ph p n).length % 2 = 0
  fun' : ∃ g lb, v = .func (.func g) #[] lb ∧ (∀ args w, (callFunc g args).run Try.prog w = .ok (.enter g args) w) ∧
    (∀ W, Below w.heap.size w W → ∀ p n : Int, 0 ≤ p ∧ p < 256 → 0 ≤ n ∧ n ≤ 65535 → Calls Try.prog g (#[.int .u8 p, .int .i64 n] ++ lb) W fun e w' => ∃ u, e = .returned (.tuple #[u, .int .i64 0]) ∧ BytesAt w'.heap.size w' u (ph p n) ∧ Below W.heap.size W w') ∧
    (∀ W, Below w.heap.size w W → ∀ p n : Int, 0 ≤ p ∧ p < 256 → 65535 < n → Calls Try.prog g (#[.int .u8 p, .int .i64 n] ++ lb) W fun e w' => e = .returned (.tuple #[.slice none 0 0, .int .i64 2]) ∧ Below W.heap.size W w')
theorem OverV.later {w W : World} {v : Value} {ph : Int → Int → List Int} (h : OverV w v ph) (hb : Below w.heap.size w W) : OverV W v ph := by
  obtain ⟨he, g, lb, hv, hc, h1, h2⟩ := h
  exact ⟨he, g, lb, hv, hc, fun X hX => h1 X (hb.trans (hX.mono hb.size)), fun X hX => h2 X (hb.trans (hX.mono hb.size))⟩


set_option maxHeartbeats 1000000 in
set_option maxRecDepth 100000 in
theorem over4_one (A B : List Int) (hA : A.length = 4) (hB : B.length = 4) (p n : Int) (w : World) (x y : Nat) (cA : CellsAt w x 0 (u8L A)) (cB : CellsAt w y 0 (u8L B)) {R : Ending → World → Prop}
    (HC : Calls Try.prog 74 #[.agg (u8L A).toArray, .agg (u8L B).toArray, .int .u8 p, .int .i64 n] w R) (hR : ∀ e w', R e w' → ∃ a b, e = .returned (.tuple #[a, b])) :
    Calls Try.prog 73 #[.int .u8 p, .int .i64 n, .pointer (some ⟨x, 0, none⟩), .pointer (some ⟨y, 0, none⟩)] w R := by
  have HA : Hid _ := agg_load (t := 23) Try.isAgg23 Try.sizeOf23 (by simp [u8L, hA]) cA
  have HB : Hid _ := agg_load (t := 23) Try.isAgg23 Try.sizeOf23 (by simp [u8L, hB]) cB
  have HCC : Hid _ := HC
  have HR : Hid _ := hR
  clear HC cA cB hR
  generalize u8L A = xA at *
  generalize u8L B = xB at *
  clear hA hB
  go_enter Try.func73, Try.ntmps73
  go_wp2_with first
    | ((with_reducible show wpList _ _ _ _ _ _); refine arm_load rfl (.tmp 2) 23 rfl rfl HA.out ?_)
    | ((with_reducible show wpList _ _ _ _ _ _); refine arm_load rfl (.tmp 3) 23 rfl rfl HB.out ?_)
  refine Calls.mono HCC.out ?_
  intro e w' hr
  obtain ⟨a, b, rfl⟩ := HR.out e w' hr
  have H : Hid _ := hr
  clear hr
  go_wp2
  exact H.out


theorem eg_over4 : ∀ args w, (callFunc 73 args).run Try.prog w = .ok (.enter 73 args) w := enters_of Try.func73 (by kernel_rfl) rfl
set_option maxHeartbeats 1000000 in
set_option maxRecDepth 100000 in
theorem over4_calls (A B : List Int) (hA : A.length = 4) (hB : B.length = 4) (fa : Fit A) (fb : Fit B) (w : World) :
    Calls Try.prog 42 #[.agg (u8L A).toArray, .agg (u8L B).toArray] w fun e w' => ∃ v, e = .returned v ∧ OverV w' v (ph4 A B) ∧ Below w.heap.size w w' := by
  have hb : Below w.heap.size w ((w.alloc (.cells (u8L A).toArray 23)).alloc (.cells (u8L B).toArray 23)) := ((Below.refl _ w).alloc (Nat.le_refl _) _).alloc (by simp) _
  have b1 := blk_alloc (blk_new w (.cells (u8L A).toArray 23)) (.cells (u8L B).toArray 23)
  have b2 := blk_new (w.alloc (.cells (u8L A).toArray 23)) (.cells (u8L B).toArray 23)
  have e2 : (w.alloc (.cells (u8L A).toArray 23)).heap.size = w.heap.size + 1 := by simp
  rw [e2] at b2
  have hv : OverV ((w.alloc (.cells (u8L A).toArray 23)).alloc (.cells (u8L B).toArray 23)) (.func (.func 73) #[] #[.pointer (some ⟨w.heap.size, 0, none⟩), .pointer (some ⟨w.heap.size + 1, 0, none⟩)]) (ph4 A B) := by
    refine ⟨fun p n => by simp [ph4, hA, hB], _, _, rfl, eg_over4, fun W hW p n hp hn => ?_, fun W hW p n hp hn => ?_⟩
    · refine over4_one A B hA hB p n W w.heap.size (w.heap.size + 1) (CellsAt.of_blk (blk_on b1 hW)) (CellsAt.of_blk (blk_on b2 hW)) (pseudo4_list A B hA hB fa fb p n hp hn W) ?_
      rintro e w' ⟨u, rfl, _⟩
      exact ⟨_, _, rfl⟩
    · refine over4_one A B hA hB p n W w.heap.size (w.heap.size + 1) (CellsAt.of_blk (blk_on b1 hW)) (CellsAt.of_blk (blk_on b2 hW)) (pseudo4_long A B hA hB p n hn W) ?_
      rintro e w' ⟨rfl, _⟩
      exact ⟨_, _, rfl⟩
  have HV : Hid _ := hv
  have HB : Hid _ := hb
  clear hv hb b1 b2 e2 fa fb
  have h1 : (u8L A).length = 4 := by simp [u8L, hA]
  have h2 : (u8L B).length = 4 := by simp [u8L, hB]
  clear hA hB
  generalize u8L A = xA at *
  generalize u8L B = xB at *
  go_enter Try.func42, Try.ntmps42
  go_wp2
  go_ret
  exact ⟨_, rfl, HV.out, HB.out⟩


set_option maxHeartbeats 1000000 in
set_option maxRecDepth 100000 in
theorem over6_one (A B : List Int) (hA : A.length = 16) (hB : B.length = 16) (p n : Int) (w : World) (x y : Nat) (cA : CellsAt w x 0 (u8L A)) (cB : CellsAt w y 0 (u8L B)) {R : Ending → World → Prop}
    (HC : Calls Try.prog 76 #[.agg (u8L A).toArray, .agg (u8L B).toArray, .int .u8 p, .int .i64 n] w R) (hR : ∀ e w', R e w' → ∃ a b, e = .returned (.tuple #[a, b])) :
    Calls Try.prog 75 #[.int .u8 p, .int .i64 n, .pointer (some ⟨x, 0, none⟩), .pointer (some ⟨y, 0, none⟩)] w R := by
  have HA : Hid _ := agg_load (t := 25) Try.isAgg25 Try.sizeOf25 (by simp [u8L, hA]) cA
  have HB : Hid _ := agg_load (t := 25) Try.isAgg25 Try.sizeOf25 (by simp [u8L, hB]) cB
  have HCC : Hid _ := HC
  have HR : Hid _ := hR
  clear HC cA cB hR
  generalize u8L A = xA at *
  generalize u8L B = xB at *
  clear hA hB
  go_enter Try.func75, Try.ntmps75
  go_wp2_with first
    | ((with_reducible show wpList _ _ _ _ _ _); refine arm_load rfl (.tmp 2) 25 rfl rfl HA.out ?_)
    | ((with_reducible show wpList _ _ _ _ _ _); refine arm_load rfl (.tmp 3) 25 rfl rfl HB.out ?_)
  refine Calls.mono HCC.out ?_
  intro e w' hr
  obtain ⟨a, b, rfl⟩ := HR.out e w' hr
  have H : Hid _ := hr
  clear hr
  go_wp2
  exact H.out


theorem eg_over6 : ∀ args w, (callFunc 75 args).run Try.prog w = .ok (.enter 75 args) w := enters_of Try.func75 (by kernel_rfl) rfl
set_option maxHeartbeats 1000000 in
set_option maxRecDepth 100000 in
theorem over6_calls (A B : List Int) (hA : A.length = 16) (hB : B.length = 16) (fa : Fit A) (fb : Fit B) (w : World) :
    Calls Try.prog 45 #[.agg (u8L A).toArray, .agg (u8L B).toArray] w fun e w' => ∃ v, e = .returned v ∧ OverV w' v (ph6 A B) ∧ Below w.heap.size w w' := by
  have hb : Below w.heap.size w ((w.alloc (.cells (u8L A).toArray 25)).alloc (.cells (u8L B).toArray 25)) := ((Below.refl _ w).alloc (Nat.le_refl _) _).alloc (by simp) _
  have b1 := blk_alloc (blk_new w (.cells (u8L A).toArray 25)) (.cells (u8L B).toArray 25)
  have b2 := blk_new (w.alloc (.cells (u8L A).toArray 25)) (.cells (u8L B).toArray 25)
  have e2 : (w.alloc (.cells (u8L A).toArray 25)).heap.size = w.heap.size + 1 := by simp
  rw [e2] at b2
  have hv : OverV ((w.alloc (.cells (u8L A).toArray 25)).alloc (.cells (u8L B).toArray 25)) (.func (.func 75) #[] #[.pointer (some ⟨w.heap.size, 0, none⟩), .pointer (some ⟨w.heap.size + 1, 0, none⟩)]) (ph6 A B) := by
    refine ⟨fun p n => by simp [ph6, hA, hB], _, _, rfl, eg_over6, fun W hW p n hp hn => ?_, fun W hW p n hp hn => ?_⟩
    · refine over6_one A B hA hB p n W w.heap.size (w.heap.size + 1) (CellsAt.of_blk (blk_on b1 hW)) (CellsAt.of_blk (blk_on b2 hW)) (pseudo6_list A B hA hB fa fb p n hp hn W) ?_
      rintro e w' ⟨u, rfl, _⟩
      exact ⟨_, _, rfl⟩
    · refine over6_one A B hA hB p n W w.heap.size (w.heap.size + 1) (CellsAt.of_blk (blk_on b1 hW)) (CellsAt.of_blk (blk_on b2 hW)) (pseudo6_long A B hA hB p n hn W) ?_
      rintro e w' ⟨rfl, _⟩
      exact ⟨_, _, rfl⟩
  have HV : Hid _ := hv
  have HB : Hid _ := hb
  clear hv hb b1 b2 e2 fa fb
  have h1 : (u8L A).length = 16 := by simp [u8L, hA]
  have h2 : (u8L B).length = 16 := by simp [u8L, hB]
  clear hA hB
  generalize u8L A = xA at *
  generalize u8L B = xB at *
  go_enter Try.func45, Try.ntmps45
  go_wp2
  go_ret
  exact ⟨_, rfl, HV.out, HB.out⟩

end Go.Proofs.Ytnlaomjhnndblaa
