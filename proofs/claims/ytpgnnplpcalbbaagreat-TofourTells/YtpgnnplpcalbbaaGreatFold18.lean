/-
  Pseudo headers as lists; what segments go over: over4, over6 of package segment.
  One part more ahead of parts; check and right of package segment.
  slices.Grow and slices.Concat of bytes.
-/
import Derived.Test.YtpgnnplpcalbbaaGreatFold17
set_option linter.unusedVariables false
set_option linter.unusedSimpArgs false
namespace Go.Proofs.YtpgnnplpcalbbaaGreat
open Go Go.RowKit Go.Shelf
def ph4 (A B : List Int) (p n : Int) : List Int := A ++ (B ++ [0, p, n / 256, n % 256])
def ph6 (A B : List Int) (p n : Int) : List Int := A ++ (B ++ [0, 0, n / 256, n % 256, 0, 0, 0, p])
theorem len4 {α : Type} {l : List α} (h : l.length = 4) : ∃ a0 a1 a2 a3, l = [a0, a1, a2, a3] := by
  match l, h with
  | [a0, a1, a2, a3], _ => exact ⟨a0, a1, a2, a3, rfl⟩
theorem pseudo4_list (A B : List Int) (hA : A.length = 4) (hB : B.length = 4) (fa : Fit A) (fb : Fit B) (p n : Int) (hp : 0 ≤ p ∧ p < 256) (hn : 0 ≤ n ∧ n ≤ 65535) (w : World) :
    Calls Tryz.prog 266 #[.agg (u8L A).toArray, .agg (u8L B).toArray, .int .u8 p, .int .i64 n] w fun e w' => ∃ v, e = .returned (.tuple #[v, .int .i64 0]) ∧ BytesAt w'.heap.size w' v (ph4 A B p n) ∧ Below w.heap.size w w' := by
  obtain ⟨a0, a1, a2, a3, rfl⟩ := len4 hA
  obtain ⟨b0, b1, b2, b3, rfl⟩ := len4 hB
  exact pseudo4_calls a0 a1 a2 a3 b0 b1 b2 b3 p n fa fb hp hn w
theorem pseudo4_list_ref (A B : List Int) (hA : A.length = 4) (hB : B.length = 4) (fa : Fit A) (fb : Fit B) (p n : Int) (hp : 0 ≤ p ∧ p < 256) (hn : 0 ≤ n ∧ n ≤ 65535) (w : World) :
    Calls Tryz.prog 86 #[.agg (u8L A).toArray, .agg (u8L B).toArray, .int .u8 p, .int .i64 n] w fun e w' => ∃ v, e = .returned (.tuple #[v, .int .i64 0]) ∧ BytesAt w'.heap.size w' v (ph4 A B p n) ∧ Below w.heap.size w w' := by
  obtain ⟨a0, a1, a2, a3, rfl⟩ := len4 hA
  obtain ⟨b0, b1, b2, b3, rfl⟩ := len4 hB
  exact pseudo4_ref a0 a1 a2 a3 b0 b1 b2 b3 p n fa fb hp hn w
set_option maxHeartbeats 1000000 in
set_option maxRecDepth 100000 in
theorem pseudo4_long (A B : List Int) (hA : A.length = 4) (hB : B.length = 4) (p n : Int) (hn : 65535 < n) (w : World) :
    Calls Tryz.prog 266 #[.agg (u8L A).toArray, .agg (u8L B).toArray, .int .u8 p, .int .i64 n] w fun e w' => e = .returned (.tuple #[.slice none 0 0, .int .i64 2]) ∧ Below w.heap.size w w' := by
  have hb : Below w.heap.size w ((w.alloc (.cells (u8L A).toArray 24)).alloc (.cells (u8L B).toArray 24)) := ((Below.refl _ w).alloc (Nat.le_refl _) _).alloc (by simp) _
  have HB : Hid _ := hb
  clear hb
  have h1 : (u8L A).length = 4 := by simp [u8L, hA]
  have h2 : (u8L B).length = 4 := by simp [u8L, hB]
  generalize u8L A = xA at *
  generalize u8L B = xB at *
  have HF : Hid _ := fun w => fits_no n (by omega) w
  clear hA hB
  go_enter Tryz.func266, Tryz.ntmps266
  go_wp2_with fail
  refine Calls.mono (HF.out _) ?_
  rintro _ w' ⟨rfl, rfl⟩
  go_wp2
  go_ret2
  exact ⟨rfl, HB.out⟩
theorem len16 {α : Type} {l : List α} (h : l.length = 16) : ∃ a0 a1 a2 a3 a4 a5 a6 a7 a8 a9 a10 a11 a12 a13 a14 a15, l = [a0, a1, a2, a3, a4, a5, a6, a7, a8, a9, a10, a11, a12, a13, a14, a15] := by
  match l, h with
  | [a0, a1, a2, a3, a4, a5, a6, a7, a8, a9, a10, a11, a12, a13, a14, a15], _ => exact ⟨a0, a1, a2, a3, a4, a5, a6, a7, a8, a9, a10, a11, a12, a13, a14, a15, rfl⟩
theorem pseudo6_list (A B : List Int) (hA : A.length = 16) (hB : B.length = 16) (fa : Fit A) (fb : Fit B) (p n : Int) (hp : 0 ≤ p ∧ p < 256) (hn : 0 ≤ n ∧ n ≤ 65535) (w : World) :
    Calls Tryz.prog 232 #[.agg (u8L A).toArray, .agg (u8L B).toArray, .int .u8 p, .int .i64 n] w fun e w' => ∃ v, e = .returned (.tuple #[v, .int .i64 0]) ∧ BytesAt w'.heap.size w' v (ph6 A B p n) ∧ Below w.heap.size w w' := by
  obtain ⟨a0, a1, a2, a3, a4, a5, a6, a7, a8, a9, a10, a11, a12, a13, a14, a15, rfl⟩ := len16 hA
  obtain ⟨b0, b1, b2, b3, b4, b5, b6, b7, b8, b9, b10, b11, b12, b13, b14, b15, rfl⟩ := len16 hB
  exact pseudo6_calls a0 a1 a2 a3 a4 a5 a6 a7 a8 a9 a10 a11 a12 a13 a14 a15 b0 b1 b2 b3 b4 b5 b6 b7 b8 b9 b10 b11 b12 b13 b14 b15 p n fa fb hp hn w
theorem pseudo6_list_ref (A B : List Int) (hA : A.length = 16) (hB : B.length = 16) (fa : Fit A) (fb : Fit B) (p n : Int) (hp : 0 ≤ p ∧ p < 256) (hn : 0 ≤ n ∧ n ≤ 65535) (w : World) :
    Calls Tryz.prog 84 #[.agg (u8L A).toArray, .agg (u8L B).toArray, .int .u8 p, .int .i64 n] w fun e w' => ∃ v, e = .returned (.tuple #[v, .int .i64 0]) ∧ BytesAt w'.heap.size w' v (ph6 A B p n) ∧ Below w.heap.size w w' := by
  obtain ⟨a0, a1, a2, a3, a4, a5, a6, a7, a8, a9, a10, a11, a12, a13, a14, a15, rfl⟩ := len16 hA
  obtain ⟨b0, b1, b2, b3, b4, b5, b6, b7, b8, b9, b10, b11, b12, b13, b14, b15, rfl⟩ := len16 hB
  exact pseudo6_ref a0 a1 a2 a3 a4 a5 a6 a7 a8 a9 a10 a11 a12 a13 a14 a15 b0 b1 b2 b3 b4 b5 b6 b7 b8 b9 b10 b11 b12 b13 b14 b15 p n fa fb hp hn w
set_option maxHeartbeats 1000000 in
set_option maxRecDepth 100000 in
theorem pseudo6_long (A B : List Int) (hA : A.length = 16) (hB : B.length = 16) (p n : Int) (hn : 65535 < n) (w : World) :
    Calls Tryz.prog 232 #[.agg (u8L A).toArray, .agg (u8L B).toArray, .int .u8 p, .int .i64 n] w fun e w' => e = .returned (.tuple #[.slice none 0 0, .int .i64 2]) ∧ Below w.heap.size w w' := by
  have hb : Below w.heap.size w ((w.alloc (.cells (u8L A).toArray 29)).alloc (.cells (u8L B).toArray 29)) := ((Below.refl _ w).alloc (Nat.le_refl _) _).alloc (by simp) _
  have HB : Hid _ := hb
  clear hb
  have h1 : (u8L A).length = 16 := by simp [u8L, hA]
  have h2 : (u8L B).length = 16 := by simp [u8L, hB]
  generalize u8L A = xA at *
  generalize u8L B = xB at *
  have HF : Hid _ := fun w => fits_no n (by omega) w
  clear hA hB
  go_enter Tryz.func232, Tryz.ntmps232
  go_wp2_with fail
  refine Calls.mono (HF.out _) ?_
  rintro _ w' ⟨rfl, rfl⟩
  go_wp2
  go_ret2
  exact ⟨rfl, HB.out⟩
theorem ph4_fit {A B : List Int} (fa : Fit A) (fb : Fit B) {p n : Int} (hp : 0 ≤ p ∧ p < 256) (hn : 0 ≤ n ∧ n ≤ 65535) : Fit (ph4 A B p n) :=
  fa.append (fb.append (fun z hz => by simp at hz; omega))
theorem ph6_fit {A B : List Int} (fa : Fit A) (fb : Fit B) {p n : Int} (hp : 0 ≤ p ∧ p < 256) (hn : 0 ≤ n ∧ n ≤ 65535) : Fit (ph6 A B p n) :=
  fa.append (fb.append (fun z hz => by simp at hz; omega))
/-- What segments go over: a function that tells the pseudo header. -/
structure OverV (w : World) (v : Value) (ph : Int → Int → List Int) : Prop where
  even : ∀ p n, (ph p n).length ≤ 40 ∧ (ph p n).length % 2 = 0
  fun' : ∃ g lb, v = .func (.func g) #[] lb ∧ (∀ args w, (callFunc g args).run Tryz.prog w = .ok (.enter g args) w) ∧
    (∀ W, Below w.heap.size w W → ∀ p n : Int, 0 ≤ p ∧ p < 256 → 0 ≤ n ∧ n ≤ 65535 → Calls Tryz.prog g (#[.int .u8 p, .int .i64 n] ++ lb) W fun e w' => ∃ u, e = .returned (.tuple #[u, .int .i64 0]) ∧ BytesAt w'.heap.size w' u (ph p n) ∧ Below W.heap.size W w') ∧
    (∀ W, Below w.heap.size w W → ∀ p n : Int, 0 ≤ p ∧ p < 256 → 65535 < n → Calls Tryz.prog g (#[.int .u8 p, .int .i64 n] ++ lb) W fun e w' => e = .returned (.tuple #[.slice none 0 0, .int .i64 2]) ∧ Below W.heap.size W w')
theorem OverV.later {w W : World} {v : Value} {ph : Int → Int → List Int} (h : OverV w v ph) (hb : Below w.heap.size w W) : OverV W v ph := by
  obtain ⟨he, g, lb, hv, hc, h1, h2⟩ := h
  exact ⟨he, g, lb, hv, hc, fun X hX => h1 X (hb.trans (hX.mono hb.size)), fun X hX => h2 X (hb.trans (hX.mono hb.size))⟩
set_option maxHeartbeats 1000000 in
set_option maxRecDepth 100000 in
theorem over4_one (A B : List Int) (hA : A.length = 4) (hB : B.length = 4) (p n : Int) (w : World) (x y : Nat) (cA : CellsAt w x 0 (u8L A)) (cB : CellsAt w y 0 (u8L B)) {R : Ending → World → Prop}
    (HC : Calls Tryz.prog 266 #[.agg (u8L A).toArray, .agg (u8L B).toArray, .int .u8 p, .int .i64 n] w R) (hR : ∀ e w', R e w' → ∃ a b, e = .returned (.tuple #[a, b])) :
    Calls Tryz.prog 265 #[.int .u8 p, .int .i64 n, .pointer (some ⟨x, 0, none⟩), .pointer (some ⟨y, 0, none⟩)] w R := by
  have HA : Hid _ := agg_load (t := 24) Tryz.isAgg24 Tryz.sizeOf24 (by simp [u8L, hA]) cA
  have HB : Hid _ := agg_load (t := 24) Tryz.isAgg24 Tryz.sizeOf24 (by simp [u8L, hB]) cB
  have HCC : Hid _ := HC
  have HR : Hid _ := hR
  clear HC cA cB hR
  generalize u8L A = xA at *
  generalize u8L B = xB at *
  clear hA hB
  go_enter Tryz.func265, Tryz.ntmps265
  go_wp2_with first
    | ((with_reducible show wpList _ _ _ _ _ _); refine arm_load rfl (.tmp 2) 24 rfl rfl HA.out ?_)
    | ((with_reducible show wpList _ _ _ _ _ _); refine arm_load rfl (.tmp 3) 24 rfl rfl HB.out ?_)
  refine Calls.mono HCC.out ?_
  intro e w' hr
  obtain ⟨a, b, rfl⟩ := HR.out e w' hr
  have H : Hid _ := hr
  clear hr
  go_wp2
  exact H.out
theorem eg_over4 : ∀ args w, (callFunc 265 args).run Tryz.prog w = .ok (.enter 265 args) w := enters_of Tryz.func265 (by kernel_rfl) rfl
set_option maxHeartbeats 1000000 in
set_option maxRecDepth 100000 in
theorem over4_calls (A B : List Int) (hA : A.length = 4) (hB : B.length = 4) (fa : Fit A) (fb : Fit B) (w : World) :
    Calls Tryz.prog 240 #[.agg (u8L A).toArray, .agg (u8L B).toArray] w fun e w' => ∃ v, e = .returned v ∧ OverV w' v (ph4 A B) ∧ Below w.heap.size w w' := by
  have hb : Below w.heap.size w ((w.alloc (.cells (u8L A).toArray 24)).alloc (.cells (u8L B).toArray 24)) := ((Below.refl _ w).alloc (Nat.le_refl _) _).alloc (by simp) _
  have b1 := blk_alloc (blk_new w (.cells (u8L A).toArray 24)) (.cells (u8L B).toArray 24)
  have b2 := blk_new (w.alloc (.cells (u8L A).toArray 24)) (.cells (u8L B).toArray 24)
  have e2 : (w.alloc (.cells (u8L A).toArray 24)).heap.size = w.heap.size + 1 := by simp
  rw [e2] at b2
  have hv : OverV ((w.alloc (.cells (u8L A).toArray 24)).alloc (.cells (u8L B).toArray 24)) (.func (.func 265) #[] #[.pointer (some ⟨w.heap.size, 0, none⟩), .pointer (some ⟨w.heap.size + 1, 0, none⟩)]) (ph4 A B) := by
    refine ⟨fun p n => by simp [ph4, hA, hB], _, _, rfl, eg_over4, fun W hW p n hp hn => ?_, fun W hW p n hp hn => ?_⟩
    · refine over4_one A B hA hB p n W w.heap.size (w.heap.size + 1) (CellsAt.of_blk (blk_on b1 hW)) (CellsAt.of_blk (blk_on b2 hW)) (pseudo4_list A B hA hB fa fb p n hp hn W) ?_
      rintro e w' ⟨u, rfl, _⟩
      exact ⟨_, _, rfl⟩
    · refine over4_one A B hA hB p n W w.heap.size (w.heap.size + 1) (CellsAt.of_blk (blk_on b1 hW)) (CellsAt.of_blk (blk_on b2 hW)) (pseudo4_long A B hA hB p n hn W) ?_
      rintro e w' ⟨rfl, _⟩
      exact ⟨_, _, rfl⟩
  have HV : Hid _ := hv
  have HB : Hid _ := hb
  clear hv hb b1 b2 e2 fa fb
  have h1 : (u8L A).length = 4 := by simp [u8L, hA]
  have h2 : (u8L B).length = 4 := by simp [u8L, hB]
  clear hA hB
  generalize u8L A = xA at *
  generalize u8L B = xB at *
  go_enter Tryz.func240, Tryz.ntmps240
  go_wp2
  go_ret
  exact ⟨_, rfl, HV.out, HB.out⟩
set_option maxHeartbeats 1000000 in
set_option maxRecDepth 100000 in
theorem over6_one (A B : List Int) (hA : A.length = 16) (hB : B.length = 16) (p n : Int) (w : World) (x y : Nat) (cA : CellsAt w x 0 (u8L A)) (cB : CellsAt w y 0 (u8L B)) {R : Ending → World → Prop}
    (HC : Calls Tryz.prog 232 #[.agg (u8L A).toArray, .agg (u8L B).toArray, .int .u8 p, .int .i64 n] w R) (hR : ∀ e w', R e w' → ∃ a b, e = .returned (.tuple #[a, b])) :
    Calls Tryz.prog 270 #[.int .u8 p, .int .i64 n, .pointer (some ⟨x, 0, none⟩), .pointer (some ⟨y, 0, none⟩)] w R := by
  have HA : Hid _ := agg_load (t := 29) Tryz.isAgg29 Tryz.sizeOf29 (by simp [u8L, hA]) cA
  have HB : Hid _ := agg_load (t := 29) Tryz.isAgg29 Tryz.sizeOf29 (by simp [u8L, hB]) cB
  have HCC : Hid _ := HC
  have HR : Hid _ := hR
  clear HC cA cB hR
  generalize u8L A = xA at *
  generalize u8L B = xB at *
  clear hA hB
  go_enter Tryz.func270, Tryz.ntmps270
  go_wp2_with first
    | ((with_reducible show wpList _ _ _ _ _ _); refine arm_load rfl (.tmp 2) 29 rfl rfl HA.out ?_)
    | ((with_reducible show wpList _ _ _ _ _ _); refine arm_load rfl (.tmp 3) 29 rfl rfl HB.out ?_)
  refine Calls.mono HCC.out ?_
  intro e w' hr
  obtain ⟨a, b, rfl⟩ := HR.out e w' hr
  have H : Hid _ := hr
  clear hr
  go_wp2
  exact H.out
theorem eg_over6 : ∀ args w, (callFunc 270 args).run Tryz.prog w = .ok (.enter 270 args) w := enters_of Tryz.func270 (by kernel_rfl) rfl
set_option maxHeartbeats 1000000 in
set_option maxRecDepth 100000 in
theorem over6_calls (A B : List Int) (hA : A.length = 16) (hB : B.length = 16) (fa : Fit A) (fb : Fit B) (w : World) :
    Calls Tryz.prog 244 #[.agg (u8L A).toArray, .agg (u8L B).toArray] w fun e w' => ∃ v, e = .returned v ∧ OverV w' v (ph6 A B) ∧ Below w.heap.size w w' := by
  have hb : Below w.heap.size w ((w.alloc (.cells (u8L A).toArray 29)).alloc (.cells (u8L B).toArray 29)) := ((Below.refl _ w).alloc (Nat.le_refl _) _).alloc (by simp) _
  have b1 := blk_alloc (blk_new w (.cells (u8L A).toArray 29)) (.cells (u8L B).toArray 29)
  have b2 := blk_new (w.alloc (.cells (u8L A).toArray 29)) (.cells (u8L B).toArray 29)
  have e2 : (w.alloc (.cells (u8L A).toArray 29)).heap.size = w.heap.size + 1 := by simp
  rw [e2] at b2
  have hv : OverV ((w.alloc (.cells (u8L A).toArray 29)).alloc (.cells (u8L B).toArray 29)) (.func (.func 270) #[] #[.pointer (some ⟨w.heap.size, 0, none⟩), .pointer (some ⟨w.heap.size + 1, 0, none⟩)]) (ph6 A B) := by
    refine ⟨fun p n => by simp [ph6, hA, hB], _, _, rfl, eg_over6, fun W hW p n hp hn => ?_, fun W hW p n hp hn => ?_⟩
    · refine over6_one A B hA hB p n W w.heap.size (w.heap.size + 1) (CellsAt.of_blk (blk_on b1 hW)) (CellsAt.of_blk (blk_on b2 hW)) (pseudo6_list A B hA hB fa fb p n hp hn W) ?_
      rintro e w' ⟨u, rfl, _⟩
      exact ⟨_, _, rfl⟩
    · refine over6_one A B hA hB p n W w.heap.size (w.heap.size + 1) (CellsAt.of_blk (blk_on b1 hW)) (CellsAt.of_blk (blk_on b2 hW)) (pseudo6_long A B hA hB p n hn W) ?_
      rintro e w' ⟨rfl, _⟩
      exact ⟨_, _, rfl⟩
  have HV : Hid _ := hv
  have HB : Hid _ := hb
  clear hv hb b1 b2 e2 fa fb
  have h1 : (u8L A).length = 16 := by simp [u8L, hA]
  have h2 : (u8L B).length = 16 := by simp [u8L, hB]
  clear hA hB
  generalize u8L A = xA at *
  generalize u8L B = xB at *
  go_enter Tryz.func244, Tryz.ntmps244
  go_wp2
  go_ret
  exact ⟨_, rfl, HV.out, HB.out⟩
end Go.Proofs.YtpgnnplpcalbbaaGreat
namespace Go.Proofs.YtpgnnplpcalbbaaGreat
open Go Go.RowKit Go.Shelf
theorem own_one_sl (w : World) (u : Value) : (w.alloc (.cells #[u] 25)).ownsRow w.heap.size 25 1 (.slice (some ⟨w.heap.size, 0, none⟩) 1 1) 1 [u] :=
  ⟨rfl, .inr ⟨w.heap.size, 1, _, rfl, Nat.le_refl _, World.alloc_heap_new w _, Nat.le_refl _, by decide, rfl, rfl⟩⟩
theorem parts_cons {w : World} {u : Value} {zs : List Int} {a : Option Addr} {n c : Nat} {ps : List (List Int)} (hu : BytesAt w.heap.size w u zs) (hp : PartsAt w.heap.size w (.slice a n c) ps) (hn : n ≤ 1000) (ty : TypeId) :
    ∃ v' w', (Builtin.append_ #[127, 127] ty #[.slice (some ⟨w.heap.size, 0, none⟩) 1 1, .slice a n c]).run Tryz.prog (w.alloc (.cells #[u] 25)) = .ok v' w' ∧ PartsAt w'.heap.size w' v' (zs :: ps) ∧ Below w.heap.size w w' := by
  have hb0 := (Below.refl w.heap.size w).alloc (Nat.le_refl _) (.cells #[u] 25)
  obtain ⟨hl, a', c', e, hz⟩ := hp
  cases e
  obtain ⟨us, hul, hus⟩ : ∃ us : List Value, us.length = ps.length ∧ ∀ j, j < ps.length → ∃ b off, a = some ⟨b, off, none⟩ ∧ b < w.heap.size ∧ w.cell? ⟨b, off + j, none⟩ = some (us[j]?.getD undef) ∧ BytesAt w.heap.size w (us[j]?.getD undef) (ps[j]?.getD []) := by
    rcases hz with h0 | ⟨b, off, rfl, hlt, hc⟩
    · exact ⟨[], by simp [h0], fun j hj => by omega⟩
    · refine ⟨(List.range ps.length).map (fun j => (w.cell? ⟨b, off + j, none⟩).getD undef), by simp, fun j hj => ⟨b, off, rfl, hlt, ?_⟩⟩
      obtain ⟨x, hx, hb⟩ := hc j hj
      simp [hj, hx]
      simpa [hj] using hb
  have hone : ∀ x ∈ us, x.oneCell' = true := by
    intro x hx
    obtain ⟨j, hj, rfl⟩ := List.getElem_of_mem hx
    obtain ⟨b, off, _, _, _, hb⟩ := hus j (by omega)
    obtain ⟨a2, c2, e2, _⟩ := hb.val
    simp [hj] at e2
    rw [e2]
    rfl
  obtain ⟨v', w', h1, h2, h3, h4⟩ := own_append elem_sl (c := c) (own_one_sl w u) a us hul (fun ha => by
      by_cases h0 : ps.length = 0
      · exact h0
      · obtain ⟨b, off, e, _⟩ := hus 0 (by omega)
        rw [ha] at e; cases e) (fun x hx j v hj => by
      have hjl := (List.getElem?_eq_some_iff.1 hj).1
      obtain ⟨b, off, e, hlt, hc, _⟩ := hus j (by omega)
      rw [hx] at e
      cases e
      rw [Go.WideShapes.add_plain]
      rw [hj] at hc
      exact (hb0.cell (p := ⟨b, off + j, none⟩) hlt).trans hc) hone (by unfold maxLen; omega) (by omega) (by simp) ty
  have hB : Below w.heap.size w w' := hb0.trans ((Below.refl _ _).grown h3 (by simp) (fun k hk => by simp [Value.ownBlock] at hk; omega))
  refine ⟨v', w', h1, ?_, hB⟩
  obtain ⟨a1, cap1, rfl, hn1, hz1⟩ := own_form h2
  refine ⟨by simp; omega, a1, cap1, by rw [List.length_cons, Nat.add_comm], ?_⟩
  rcases hz1 with h0 | ⟨g, rfl, hg1, hg2, hc⟩
  · omega
  · refine .inr ⟨g, 0, rfl, hg2, fun j hj => ?_⟩
    rw [Nat.zero_add]
    cases j with
    | zero => exact ⟨u, hc 0 u rfl, hu.later hB⟩
    | succ j =>
      simp only [List.length_cons] at hj
      obtain ⟨b, off, _, _, _, hb⟩ := hus j (by omega)
      refine ⟨us[j]?.getD undef, hc (j + 1) _ ?_, ?_⟩
      · simp [show j < us.length by omega]
      · simpa using hb.later hB
def tot (ps : List (List Int)) : Nat := ps.flatten.length
set_option maxHeartbeats 1000000 in
set_option maxRecDepth 100000 in
theorem check_ok (o : Value) (ph : Int → Int → List Int) (p : Int) (hp : 0 ≤ p ∧ p < 256) (v : Value) (ps : List (List Int)) (w : World) (ho : OverV w o ph) (hv : PartsAt w.heap.size w v ps) (hn : ps.length ≤ 100) (ht : ps.flatten.length ≤ 65535) :
    Calls Tryz.prog 267 #[o, .int .u8 p, v] w fun e w' => e = .returned (.tuple #[.int .u16 (65535 - sumW 0 (wordsL (ph p ps.flatten.length ++ ps.flatten))), .int .i64 0]) ∧ Below w.heap.size w w' := by
  have hv0 := hv
  obtain ⟨hev, g, lb, rfl, eg, hyes, _⟩ := ho
  obtain ⟨hlen, a, cap, rfl, hz⟩ := hv
  have HY : Hid _ := hyes
  have HV0 : Hid _ := hv0
  have hpa := pre_all ps
  have hps := pre_succ ps
  have hpl := pre_le ps
  clear hyes hv0 hlen
  generalize hf : ps.flatten = f at *
  have HPA : Hid _ := hpa
  have HPS : Hid _ := hps
  have HPL : Hid _ := hpl
  have HF : Hid _ := hf
  generalize hN : ps.length = N at *
  have HN : Hid _ := hN
  clear hpa hps hpl hf hN
  go_enter Tryz.func267, Tryz.ntmps267
  go_wp2
  go_loopw [8, 15] (fun n i wr => ∃ k : Nat, k ≤ N ∧ i = .int .i64 k ∧ n = .int .i64 (pre ps k : Nat) ∧ wr = w) (fun _ i _ => N - (intOf i).toNat)
  case atStart => exact ⟨0, Nat.zero_le _, rfl, by simp [pre_zero], rfl⟩
  case round =>
    obtain ⟨k, hk, rfl, rfl, rfl⟩ := hrel
    have hplk := HPL.out k
    by_cases hlt : k < N
    · rcases hz with hz | ⟨b, off, rfl, hbn, hc⟩
      · omega
      obtain ⟨u, hu, hb⟩ := hc k hlt
      obtain ⟨a2, c2, rfl, _⟩ := hb.val
      have hsn := HPS.out k hlt
      have hpl2 := HPL.out (k + 1)
      generalize (ps[k]?.getD []).length = m at *
      have hb2 : pre ps k + m ≤ 65535 := by omega
      have HSN : Hid (pre ps (k + 1) = pre ps k + m) := hsn
      clear hsn hc hb hpl2
      generalize pre ps k = P0 at *
      go_wp2
      exact ⟨⟨k + 1, by omega, by simp, by have := HSN.out; simp; omega, trivial⟩, by simp [intOf]; omega⟩
    · obtain rfl : k = N := by omega
      have e1 := HPA.out
      rw [e1]
      clear hplk e1
      go_wp2_with fail
      refine Calls.mono (HY.out _ (Below.refl _ _) p f.length hp (by omega)) ?_
      rintro _ w1 ⟨u, rfl, hu, hb1⟩
      obtain ⟨a4, c4, rfl, _⟩ := hu.val
      obtain ⟨v2, w2, hr, hP2, hb2⟩ := parts_cons hu (HV0.out.later hb1) (by omega) 127
      obtain ⟨a3, c3, rfl, _⟩ := hP2.val
      have HO : Hid _ := of_calls a3 _ c3 _ w2 hP2
      have HR : Hid _ := hr
      have HFE : Hid ((ph p f.length :: ps).flatten = ph p f.length ++ f) := by
        have := HF.out
        show (ph p f.length :: ps).flatten = ph p f.length ++ f
        rw [List.flatten_cons, this]
      have HB : Hid (Below wr.heap.size wr w2) := hb1.trans (hb2.mono hb1.size)
      rw [HFE.out] at HO
      have HBS := HB.out.size
      clear hr hP2 hu hb1 hb2
      generalize hFF : (ph p f.length ++ f) = F at *
      have HFF : Hid _ := hFF
      clear hFF HFE HV0 HY HPA HPS HPL hz
      go_wp2_with (at_builtin; refine wpList_append_run rfl _ _ _ _ rfl rfl rfl HR.out ?_)
      refine Calls.mono HO.out ?_
      rintro _ w3 ⟨rfl, hb3⟩
      have HB3 : Hid _ := HB.out.trans (hb3.mono HBS)
      generalize hS : (65535 - sumW 0 (wordsL F)) = S at *
      have HS : Hid _ := hS
      clear HO hb3 HB hS
      go_wp2
      go_ret2
      exact ⟨by rw [HFF.out, HS.out]; rfl, HB3.out⟩
set_option maxHeartbeats 1000000 in
set_option maxRecDepth 100000 in
theorem check_long (o : Value) (ph : Int → Int → List Int) (p : Int) (hp : 0 ≤ p ∧ p < 256) (v : Value) (ps : List (List Int)) (w : World) (ho : OverV w o ph) (hv : PartsAt w.heap.size w v ps) (hn : ps.length ≤ 100) (ht : 65535 < ps.flatten.length) (ht2 : ps.flatten.length ≤ 1000000000000000000) :
    Calls Tryz.prog 267 #[o, .int .u8 p, v] w fun e w' => e = .returned (.tuple #[.int .u16 0, .int .i64 2]) ∧ Below w.heap.size w w' := by
  obtain ⟨hev, g, lb, rfl, eg, _, hno⟩ := ho
  obtain ⟨hlen, a, cap, rfl, hz⟩ := hv
  have HY : Hid _ := hno
  have hpa := pre_all ps
  have hps := pre_succ ps
  have hpl := pre_le ps
  clear hno hlen
  generalize hf : ps.flatten = f at *
  have HPA : Hid _ := hpa
  have HPS : Hid _ := hps
  have HPL : Hid _ := hpl
  have HF : Hid _ := hf
  generalize hN : ps.length = N at *
  have HN : Hid _ := hN
  clear hpa hps hpl hf hN
  go_enter Tryz.func267, Tryz.ntmps267
  go_wp2
  go_loopw [8, 15] (fun n i wr => ∃ k : Nat, k ≤ N ∧ i = .int .i64 k ∧ n = .int .i64 (pre ps k : Nat) ∧ wr = w) (fun _ i _ => N - (intOf i).toNat)
  case atStart => exact ⟨0, Nat.zero_le _, rfl, by simp [pre_zero], rfl⟩
  case round =>
    obtain ⟨k, hk, rfl, rfl, rfl⟩ := hrel
    have hplk := HPL.out k
    by_cases hlt : k < N
    · rcases hz with hz | ⟨b, off, rfl, hbn, hc⟩
      · omega
      obtain ⟨u, hu, hb⟩ := hc k hlt
      obtain ⟨a2, c2, rfl, _⟩ := hb.val
      have hsn := HPS.out k hlt
      have hpl2 := HPL.out (k + 1)
      generalize (ps[k]?.getD []).length = m at *
      have hb2 : pre ps k + m ≤ 1000000000000000000 := by omega
      have HSN : Hid (pre ps (k + 1) = pre ps k + m) := hsn
      clear hsn hc hb hpl2
      generalize pre ps k = P0 at *
      go_wp2
      exact ⟨⟨k + 1, by omega, by simp, by have := HSN.out; simp; omega, trivial⟩, by simp [intOf]; omega⟩
    · obtain rfl : k = N := by omega
      have e1 := HPA.out
      rw [e1]
      clear hplk e1
      go_wp2_with fail
      refine Calls.mono (HY.out _ (Below.refl _ _) p f.length hp (by omega)) ?_
      rintro _ w1 ⟨rfl, hb1⟩
      go_wp2
      go_ret2
      exact ⟨rfl, hb1⟩
theorem OverV.own {w : World} {v : Value} {ph : Int → Int → List Int} (h : OverV w v ph) : ∃ g lb, v = .func (.func g) #[] lb := by
  obtain ⟨_, g, lb, hv, _⟩ := h
  exact ⟨g, lb, hv⟩
set_option maxHeartbeats 1000000 in
set_option maxRecDepth 100000 in
theorem right_ok (o : Value) (ph : Int → Int → List Int) (p : Int) (hp : 0 ≤ p ∧ p < 256) (v : Value) (zs : List Int) (w : World) (ho : OverV w o ph) (hv : BytesAt w.heap.size w v zs) (ht : zs.length ≤ 65535) :
    Calls Tryz.prog 241 #[o, .int .u8 p, v] w fun e w' => e = .returned (.int .i64 (if sumW 0 (wordsL (ph p zs.length ++ zs)) = 65535 then 0 else 62)) ∧ Below w.heap.size w w' := by
  have hP := parts_one w v 25 zs hv
  have hb0 := (Below.refl w.heap.size w).alloc (Nat.le_refl _) (.cells #[v] 25)
  have hc := check_ok o ph p hp _ _ _ (ho.later hb0) hP (by simp) (by simpa using ht)
  have e : [zs].flatten = zs := by simp
  rw [e] at hc
  obtain ⟨g, lb, rfl⟩ := ho.own
  obtain ⟨a, c, rfl, _⟩ := hv.val
  have HC : Hid _ := hc
  have HB0 : Hid _ := hb0
  generalize sumW 0 (wordsL (ph p zs.length ++ zs)) = s at *
  clear hc hb0 hP ho hv e ht
  by_cases h : s = 65535
  · subst h
    simp only [if_true]
    go_enter Tryz.func241, Tryz.ntmps241
    go_wp2_with fail
    refine Calls.mono HC.out ?_
    rintro _ w1 ⟨rfl, hb1⟩
    have HB1 : Hid _ := HB0.out.trans (hb1.mono HB0.out.size)
    clear hb1
    go_wp2
    go_ret
    exact ⟨rfl, HB1.out⟩
  · rw [if_neg h]
    have q : ((65535 - s) != 0) = true := by simp; omega
    clear h
    go_enter Tryz.func241, Tryz.ntmps241
    go_wp2_with fail
    refine Calls.mono HC.out ?_
    rintro _ w1 ⟨rfl, hb1⟩
    have HB1 : Hid _ := HB0.out.trans (hb1.mono HB0.out.size)
    clear hb1
    go_wp2
    go_ret
    exact ⟨rfl, HB1.out⟩
set_option maxHeartbeats 1000000 in
set_option maxRecDepth 100000 in
theorem right_long (o : Value) (ph : Int → Int → List Int) (p : Int) (hp : 0 ≤ p ∧ p < 256) (v : Value) (zs : List Int) (w : World) (ho : OverV w o ph) (hv : BytesAt w.heap.size w v zs) (ht : 65535 < zs.length) :
    Calls Tryz.prog 241 #[o, .int .u8 p, v] w fun e w' => e = .returned (.int .i64 2) ∧ Below w.heap.size w w' := by
  have hP := parts_one w v 25 zs hv
  have hb0 := (Below.refl w.heap.size w).alloc (Nat.le_refl _) (.cells #[v] 25)
  have hc := check_long o ph p hp _ _ _ (ho.later hb0) hP (by simp) (by simpa using ht) (by have := hv.len; simp; omega)
  obtain ⟨g, lb, rfl⟩ := ho.own
  obtain ⟨a, c, rfl, _⟩ := hv.val
  have HC : Hid _ := hc
  have HB0 : Hid _ := hb0
  clear hc hb0 hP ho hv ht
  go_enter Tryz.func241, Tryz.ntmps241
  go_wp2_with fail
  refine Calls.mono HC.out ?_
  rintro _ w1 ⟨rfl, hb1⟩
  have HB1 : Hid _ := HB0.out.trans (hb1.mono HB0.out.size)
  clear hb1
  go_wp2
  go_ret
  exact ⟨rfl, HB1.out⟩
end Go.Proofs.YtpgnnplpcalbbaaGreat
namespace Go.Proofs.YtpgnnplpcalbbaaGreat
open Go Go.RowKit Go.Shelf
set_option maxHeartbeats 1000000 in
set_option maxRecDepth 100000 in
theorem Grow_calls (n : Nat) (hn : n ≤ 1000000) (w : World) :
    Calls Tryz.prog 247 #[.slice none 0 0, .int .i64 n] w fun e w' => ∃ v, e = .returned v ∧ OB w.heap.size w w' v [] := by
  obtain ⟨i, hi, hz, hs, hby⟩ := info_parts info_u8
  by_cases h0 : n = 0
  · subst h0
    go_enter Tryz.func247, Tryz.ntmps247
    go_wp2
    go_ret
    exact ⟨_, rfl, World.ownsRow_nil _ _ _ _, Below.refl _ _⟩
  · have hrz := fun ty => Lib.run_append_grow_zeros (P := Tryz.prog) w 25 3 ty 5 i (.int .u8 0) .i64 .i64 Tryz.underlying25 Tryz.underlying3 hi hz none 0 0 [] (run_firstCells_none w.drew i.size 0 0 0) n (by omega) (by rw [hs]; decide) (by omega) (by omega) (by rw [hby]; omega) (growslice_fits (by omega) (by rw [hby]; omega))
    simp only [Nat.zero_add] at hrz
    have hG : n ≤ grownCap w n 0 5 := grownCap_ge w _ _ _
    have hGm : grownCap w n 0 5 ≤ maxLen := grownCap_le_maxLen w n 0 5 (by unfold maxLen; omega)
    generalize grownCap w n 0 5 = G at *
    have hown : (w.drew.alloc (.cells (([] : List Value).toArray ++ Builtin.zeroCells (Value.int .u8 0).cells n ++ Builtin.zeroCells (Value.int .u8 0).cells (G - n)) 5)).ownsRow w.heap.size 5 1 (.slice (some ⟨w.heap.size, 0, none⟩) 0 G) 0 [] :=
      ⟨rfl, .inr ⟨w.heap.size, G, _, rfl, Nat.le_refl _, World.alloc_heap_new w.drew _, Nat.zero_le _, hGm, by simp [size_zeroCells, Value.cells]; omega, by simp⟩⟩
    have hbel : Below w.heap.size w (w.drew.alloc (.cells (([] : List Value).toArray ++ Builtin.zeroCells (Value.int .u8 0).cells n ++ Builtin.zeroCells (Value.int .u8 0).cells (G - n)) 5)) := ((Below.refl _ w).drew).alloc (Nat.le_refl _) _
    generalize w.drew.alloc (.cells (([] : List Value).toArray ++ Builtin.zeroCells (Value.int .u8 0).cells n ++ Builtin.zeroCells (Value.int .u8 0).cells (G - n)) 5) = W1 at *
    have HR : Hid _ := hrz
    have HO : Hid (OB w.heap.size w W1 (.slice (some ⟨w.heap.size, 0, none⟩) 0 G) []) := ⟨hown, hbel⟩
    have hGm' : G ≤ 9223372036854775807 := by unfold maxLen at hGm; omega
    clear hrz hown hbel hGm
    go_enter Tryz.func247, Tryz.ntmps247
    go_wp2_with (at_builtin; refine wpList_append_run rfl _ _ _ _ rfl rfl rfl (HR.out _) ?_)
    go_ret
    exact ⟨_, rfl, HO.out⟩
theorem flat_take (ps : List (List Int)) (k : Nat) (h : k < ps.length) : (ps.take (k + 1)).flatten = (ps.take k).flatten ++ (ps[k]?.getD []) := by
  rw [List.take_succ_eq_append_getElem h, List.flatten_append]
  simp [h]
set_option maxHeartbeats 1000000 in
set_option maxRecDepth 100000 in
theorem Concat_calls (v : Value) (ps : List (List Int)) (w : World) (hv : PartsAt w.heap.size w v ps) (hn : ps.length ≤ 100) (ht : ps.flatten.length ≤ 1000000) :
    Calls Tryz.prog 201 #[v] w fun e w' => ∃ v', e = .returned v' ∧ OB w.heap.size w w' v' ps.flatten := by
  obtain ⟨hlen, a, cap, rfl, hz⟩ := hv
  have HG : Hid _ := Grow_calls ps.flatten.length ht
  have hpa := pre_all ps
  have hps := pre_succ ps
  have hpl := pre_le ps
  have HFT : Hid _ := flat_take ps
  have HALL : Hid (ps.take ps.length = ps) := List.take_length
  have HPRE : Hid (∀ k, (ps.take k).flatten.length = pre ps k) := fun k => rfl
  clear hlen
  generalize hf : ps.flatten = f at *
  have HPA : Hid _ := hpa
  have HPS : Hid _ := hps
  have HPL : Hid _ := hpl
  have HF : Hid _ := hf
  generalize hN : ps.length = N at *
  have HN : Hid _ := hN
  clear hpa hps hpl hf hN
  go_enter Tryz.func201, Tryz.ntmps201
  go_wp2
  go_loopw [3, 11] (fun n i wr => ∃ k : Nat, k ≤ N ∧ i = .int .i64 k ∧ n = .int .i64 (pre ps k : Nat) ∧ w = wr) (fun _ i _ => N - (intOf i).toNat)
  case atStart => exact ⟨0, Nat.zero_le _, rfl, by simp [pre_zero], rfl⟩
  case round =>
    obtain ⟨k, hk, rfl, rfl, rfl⟩ := hrel
    have hplk := HPL.out k
    by_cases hlt : k < N
    · rcases hz with hz | ⟨b, off, rfl, hbn, hc⟩
      · omega
      obtain ⟨u, hu, hb⟩ := hc k hlt
      obtain ⟨a2, c2, rfl, _⟩ := hb.val
      have hsn := HPS.out k hlt
      have hpl2 := HPL.out (k + 1)
      generalize (ps[k]?.getD []).length = m at *
      have hb2 : pre ps k + m ≤ 1000000 := by omega
      have HSN : Hid (pre ps (k + 1) = pre ps k + m) := hsn
      clear hsn hc hb hpl2
      generalize pre ps k = P0 at *
      go_wp2
      exact ⟨⟨k + 1, by omega, by simp, by have := HSN.out; simp; omega, trivial⟩, by simp [intOf]; omega⟩
    · obtain rfl : k = N := by omega
      have e1 := HPA.out
      rw [e1]
      clear hplk e1
      go_wp2_with fail
      refine Calls.mono (HG.out w) ?_
      rintro _ w1 ⟨v1, rfl, h1⟩
      go_wp2
      go_loopw [6, 27] (fun v i wx => ∃ j : Nat, j ≤ k ∧ i = .int .i64 j ∧ OB w.heap.size w wx v (ps.take j).flatten) (fun _ i _ => k - (intOf i).toNat)
      case atStart => exact ⟨0, Nat.zero_le _, rfl, by simpa using h1⟩
      case round =>
        clear h1
        obtain ⟨j, hj, rfl, hO⟩ := hrel
        have hsz := hO.bel.size
        by_cases hlt2 : j < k
        · rcases hz with hz | ⟨b, off, rfl, hbn, hc⟩
          · omega
          obtain ⟨u, hu, hb⟩ := hc j hlt2
          have hu' := (hO.bel.cell (p := ⟨b, off + j, none⟩) hbn).trans hu
          have hft := HFT.out j hlt2
          have hpr := HPRE.out j
          have hsn := HPS.out j hlt2
          have hpl2 := HPL.out (j + 1)
          have hbb := hb.below hO.bel
          obtain ⟨a2, c2, rfl, hbz⟩ := hb.val
          have hbb' : BytesAt wr.heap.size wr (.slice a2 (ps[j]?.getD []).length c2) (ps[j]?.getD []) := by
            obtain ⟨q1, q2, q3, q4, q5, q6⟩ := hbb
            refine ⟨q1, q2, q3, q4, q5, q6.imp id ?_⟩
            rintro ⟨bb, oo, e, hl, hc⟩
            exact ⟨bb, oo, e, by omega, hc⟩
          obtain ⟨v2, w2, hr, h2, hs2, _⟩ := hO.app hsz hbb' (by rw [hpr]; omega) 25
          rw [← hft] at h2
          have HR : Hid _ := hr
          have H2 : Hid _ := h2
          generalize (ps[j]?.getD []).length = m at *
          clear hr h2 hO hc hbb hbb' hft hpr hsn hpl2 hb hbz hu
          go_wp2_with (at_builtin; refine wpList_append_run rfl _ _ _ _ rfl rfl rfl HR.out ?_)
          exact ⟨⟨j + 1, by omega, by simp, H2.out⟩, by simp [intOf]; omega⟩
        · obtain rfl : j = k := by omega
          rw [HALL.out, HF.out] at hO
          have H : Hid _ := hO
          clear hO
          go_wp2
          go_ret
          exact ⟨_, rfl, H.out⟩
end Go.Proofs.YtpgnnplpcalbbaaGreat
