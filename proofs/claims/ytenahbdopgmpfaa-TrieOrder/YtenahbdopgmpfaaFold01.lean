/-
  Prefixes: a byte's first bits, all bits behind the first ones set to 0.
  IPv4 prefixes: cut, which may be, which covers which.
-/
import Derived.Test.YtenahbdopgmpfaaFold00
import Derived.Laws.BitsAllLaws
import Derived.Deep.RegionWith
import Derived.Handy
namespace Go.Proofs.Ytenahbdopgmpfaa
open Go Go.RowKit
set_option linter.unusedVariables false
set_option linter.unusedSimpArgs false

/-- A byte whose first n bits are 1. -/
def msk (n : Int) : Nat := 255 - 255 / 2 ^ (min (max n 0) 8).toNat
theorem msk_lt (n : Int) : msk n < 256 := by
  unfold msk
  exact Nat.lt_of_le_of_lt (Nat.sub_le _ _) (by decide)
theorem not_u8 : ∀ k, k < 9 → bits .xor .u8 IntKind.u8.max ((255 : Int) / 2 ^ k) = ((255 - 255 / 2 ^ k : Nat) : Int) := by decide

set_option maxHeartbeats 400000 in
theorem first_calls (n : Int) (w : World) (hn : -1000 ≤ n ∧ n ≤ 1000) : Calls Try.prog 86 #[.int .i64 n] w fun e w' => e = .returned (.int .u8 (msk n : Nat)) ∧ w' = w := by
  by_cases h0 : n < 0
  · have hm : msk n = 0 := by unfold msk; rw [show (min (max n 0) 8).toNat = 0 by omega]
    have hx : bits .xor .u8 IntKind.u8.max 255 = 0 := by decide
    rw [hm]
    clear hm
    go_enter Try.func86, Try.ntmps86
    go_wp2
    all_goals first
      | (exfalso; omega)
      | (go_ret; exact ⟨rfl, rfl⟩)
  · obtain ⟨k, rfl⟩ := Int.eq_ofNat_of_zero_le (by omega : 0 ≤ n)
    by_cases h8 : k ≤ 8
    · have hm : msk k = 255 - 255 / 2 ^ k := by unfold msk; rw [show (min (max (k : Int) 0) 8).toNat = k by omega]
      have hx := not_u8 k (by omega)
      rw [hm]
      clear hm
      generalize (255 - 255 / 2 ^ k) = r at *
      go_enter Try.func86, Try.ntmps86
      go_wp2
      all_goals first
        | (exfalso; omega)
        | (go_ret; exact ⟨rfl, rfl⟩)
    · have hm : msk k = 255 := by unfold msk; rw [show (min (max (k : Int) 0) 8).toNat = 8 by omega]
      have hx : bits .xor .u8 IntKind.u8.max 0 = 255 := by decide
      rw [hm]
      clear hm
      go_enter Try.func86, Try.ntmps86
      go_wp2
      all_goals first
        | (exfalso; omega)
        | (go_ret; exact ⟨rfl, rfl⟩)

theorem wrap_i64 (x : Int) (h : -9223372036854775808 ≤ x ∧ x ≤ 9223372036854775807) : IntKind.i64.wrap x = x := by
  have e : IntKind.i64.wrap x = (x + 9223372036854775808) % 18446744073709551616 - 9223372036854775808 := by
    simp [IntKind.wrap, IntKind.bits, IntKind.signed]
    split <;> omega
  rw [e]
  omega

/-- Bytes, all bits behind the first n set to 0, k of them done. -/
def blankL (zs : List Int) (n : Int) : Nat → List Int
  | 0 => zs
  | k + 1 => (blankL zs n k).set k (((((blankL zs n k)[k]?.getD 0).toNat &&& msk (n - 8 * k) : Nat) : Int))
@[simp] theorem blankL_length (zs : List Int) (n : Int) (k : Nat) : (blankL zs n k).length = zs.length := by
  induction k with
  | zero => rfl
  | succ k ih => simp [blankL, ih]
theorem blankL_fit {zs : List Int} (h : FitB zs) (n : Int) (k : Nat) : FitB (blankL zs n k) := by
  induction k with
  | zero => exact h
  | succ k ih =>
    intro z hz
    rcases List.mem_or_eq_of_mem_set hz with hz | rfl
    · exact ih z hz
    · have := fit_at ih k
      have h2 : ((blankL zs n k)[k]?.getD 0).toNat &&& msk (n - 8 * k) ≤ ((blankL zs n k)[k]?.getD 0).toNat := Nat.and_le_left
      omega

/-- Bytes that begin block b, which is open. -/
structure OwnG (w : World) (b : Nat) (zs : List Int) : Prop where
  typed : ∃ cs t, w.heap[b]? = some (.cells cs t (0, 0))
  cell : ∀ j, j < zs.length → w.cell? ⟨b, j, none⟩ = some (.int .u8 (zs[j]?.getD 0))
theorem OwnG.open {b : Nat} {w : World} {zs : List Int} (h : OwnG w b zs) (i : Nat) : w.frozen? ⟨b, i, none⟩ = false := by
  obtain ⟨cs, t, hc⟩ := h.typed
  simp [World.frozen?, hc]
theorem OwnG.set {b : Nat} {w : World} {zs : List Int} (h : OwnG w b zs) (j : Nat) (hj : j < zs.length) (z : Int) : OwnG (w.setCell ⟨b, j, none⟩ (.int .u8 z)) b (zs.set j z) := by
  refine ⟨?_, fun i hi => ?_⟩
  · obtain ⟨cs, t, hc⟩ := h.typed
    exact ⟨cs.setIfInBounds j (.int .u8 z), t, by simp [World.setCell, Array.getElem?_modify, hc]⟩
  · by_cases e : i = j
    · subst e
      rw [List.getElem?_set_self hj]
      have := h.cell i hj
      obtain ⟨cs, t, hc⟩ := h.typed
      simp only [World.cell?, hc] at this
      simp only [World.cell?, World.setCell, Array.getElem?_modify, hc]
      have hlt := (Array.getElem?_eq_some_iff.1 this).1
      simp [hlt]
    · rw [List.getElem?_set_ne (by omega), World.cell?_setCell_other _ _ _ _ (by intro c; injection c; omega)]
      exact h.cell i (by simpa using hi)

/-- Nothing but block b is turned. -/
structure Only (b : Nat) (w w' : World) : Prop where
  os : w'.os = w.os
  tape : w'.tape = w.tape
  output : w'.output = w.output
  size : w'.heap.size = w.heap.size
  other : ∀ j, j ≠ b → w'.heap[j]? = w.heap[j]?
theorem Only.refl (b : Nat) (w : World) : Only b w w := ⟨rfl, rfl, rfl, rfl, fun _ _ => rfl⟩
theorem Only.set {b : Nat} {u w : World} (h : Only b u w) (i : Nat) (v : Value) : Only b u (w.setCell ⟨b, i, none⟩ v) :=
  ⟨h.os, h.tape, h.output, by rw [← h.size]; simp [World.setCell], fun j hj => (Below.heap_setCell _ _ _ _ hj).trans (h.other j hj)⟩
theorem Only.drew {b : Nat} {u w : World} (h : Only b u w) : Only b u w.drew := ⟨h.os, h.tape, h.output, h.size, h.other⟩
theorem Only.below {b B : Nat} {u w : World} (h : Only b u w) (hB : B ≤ b) : Below B u w := ⟨h.os, h.tape, h.output, by rw [h.size]; exact Nat.le_refl _, fun j hj => h.other j (by omega)⟩

set_option maxHeartbeats 2000000 in
set_option maxRecDepth 100000 in
theorem blank_calls (b cap : Nat) (zs : List Int) (n : Int) (w : World) (hf : FitB zs) (hl : zs.length ≤ 16) (hn : 0 ≤ n ∧ n ≤ 128) (h : OwnG w b zs) :
    Calls Try.prog 84 #[.slice (some ⟨b, 0, none⟩) zs.length cap, .int .i64 n] w fun e w' => e = .returned (.tuple #[]) ∧ OwnG w' b (blankL zs n zs.length) ∧ Only b w w' := by
  go_enter Try.func84, Try.ntmps84
  go_wp2
  go_loopw [7] (fun i wr => ∃ k : Nat, k ≤ zs.length ∧ i = .int .i64 k ∧ OwnG wr b (blankL zs n k) ∧ Only b w wr) (fun i _ => zs.length - (intOf i).toNat)
  case atStart => exact ⟨0, Nat.zero_le _, rfl, h, Only.refl _ _⟩
  case round =>
    obtain ⟨k, hk, rfl, ho, hB⟩ := hrel
    by_cases hlt : k < zs.length
    · have hset : blankL zs n (k + 1) = (blankL zs n k).set k (((((blankL zs n k)[k]?.getD 0).toNat &&& msk (n - 8 * k) : Nat) : Int)) := rfl
      have hfit := fit_at (blankL_fit hf n k) k
      have hlen : (blankL zs n k).length = zs.length := blankL_length ..
      have hcc := ho.cell k (by omega)
      have hop := ho.open k
      have hos := ho.set k (by omega)
      have hfc := fun w => first_calls (n - 8 * k) w (by omega)
      have hml := msk_lt (n - 8 * k)
      generalize hy : blankL zs n (k + 1) = y at *
      have HY : Hid _ := hy
      clear hy
      generalize blankL zs n k = x at *
      generalize x[k]?.getD 0 = z at *
      generalize msk (n - 8 * k) = mk at *
      have hand := u8_and z (mk : Int) hfit.1 hfit.2 (by omega) (by omega)
      rw [Int.toNat_natCast] at hand
      generalize z.toNat &&& mk = s at *
      have HS : Hid _ := hset
      have HO : Hid _ := hos
      have HF : Hid _ := hfc
      clear hset hos hfc
      have hw1 := wrap_i64 (8 * (k : Int)) (by omega)
      have hw2 := wrap_i64 (n - 8 * (k : Int)) (by omega)
      go_wp2_with fail
      go_region_with (go_at_call 86; refine Calls.mono (HF.out _) ?_; rintro e w1 ⟨rfl, rfl⟩)
      all_goals
        go_wp2
        refine ⟨⟨k + 1, by omega, by simp, ?_, (hB.set _ _).drew⟩, by simp [intOf]; omega⟩
        rw [HY.out, HS.out]
        have ho2 := HO.out (s : Int)
        exact ⟨ho2.typed, ho2.cell⟩
    · obtain rfl : k = zs.length := by omega
      go_wp2
      exact bodyPost_end (results_none rfl _ _ _) rfl ⟨rfl, ho, hB⟩

end Go.Proofs.Ytenahbdopgmpfaa

namespace Go.Proofs.Ytenahbdopgmpfaa
open Go Go.RowKit
set_option linter.unusedVariables false
set_option linter.unusedSimpArgs false

/-- One byte whose bits behind the first n are 0. -/
def bl (z : Int) (n : Int) : Int := ((z.toNat &&& msk n : Nat) : Int)
theorem bl_fit (z n : Int) (h : 0 ≤ z ∧ z < 256) : 0 ≤ bl z n ∧ bl z n < 256 := by
  unfold bl
  have : z.toNat &&& msk n ≤ z.toNat := Nat.and_le_left
  omega

theorem blank4 (a0 a1 a2 a3 n : Int) : blankL [a0, a1, a2, a3] n 4 = [bl a0 n, bl a1 (n - 8), bl a2 (n - 16), bl a3 (n - 24)] := by
  simp [blankL, bl]

abbrev A4 (a0 a1 a2 a3 : Int) : Value := .agg #[.int .u8 a0, .int .u8 a1, .int .u8 a2, .int .u8 a3]
abbrev P4 (a0 a1 a2 a3 n : Int) : Value := .agg #[.int .u8 a0, .int .u8 a1, .int .u8 a2, .int .u8 a3, .int .i64 n]

theorem alloc_new (w : World) (o : Obj) : (w.alloc o).heap[w.heap.size]? = some o := by
  rw [← World.alloc_eq]
  simp
theorem alloc_new2 (w : World) (o o' : Obj) : ((w.alloc o).alloc o').heap[w.heap.size + 1]? = some o' := by
  have := alloc_new (w.alloc o) o'
  rwa [World.size_alloc] at this

theorem set_same {w : World} {a : Addr} {v : Value} (h : (w.cell? a).isSome = true) : (w.setCell a v).cell? a = some v := by
  cases hc : w.cell? a with
  | none => rw [hc] at h; cases h
  | some u => exact World.cell?_setCell_same _ _ _ hc
theorem set_some {w : World} {a p : Addr} {v : Value} (h : (w.cell? a).isSome = true) : ((w.setCell p v).cell? a).isSome = true := by
  cases hc : w.cell? a with
  | none => rw [hc] at h; cases h
  | some u => obtain ⟨v', hv⟩ := cell?_setCell_some (p := p) (x := v) hc; rw [hv]; rfl
theorem set_other {w : World} {b i j : Nat} {v u : Value} (h : i ≠ j) (hu : w.cell? ⟨b, i, none⟩ = some u) : (w.setCell ⟨b, j, none⟩ v).cell? ⟨b, i, none⟩ = some u := by
  rw [World.cell?_setCell_other _ _ _ _ (by intro e; injection e; omega)]
  exact hu
theorem set5 (w : World) (b : Nat) (v0 v1 v2 v3 v4 : Value) (h0 : (w.cell? ⟨b, 0, none⟩).isSome = true) (h1 : (w.cell? ⟨b, 1, none⟩).isSome = true) (h2 : (w.cell? ⟨b, 2, none⟩).isSome = true) (h3 : (w.cell? ⟨b, 3, none⟩).isSome = true) (h4 : (w.cell? ⟨b, 4, none⟩).isSome = true) :
    (((((w.setCell ⟨b, 0, none⟩ v0).setCell ⟨b, 1, none⟩ v1).setCell ⟨b, 2, none⟩ v2).setCell ⟨b, 3, none⟩ v3).setCell ⟨b, 4, none⟩ v4).cell? ⟨b, 0, none⟩ = some v0 ∧
    (((((w.setCell ⟨b, 0, none⟩ v0).setCell ⟨b, 1, none⟩ v1).setCell ⟨b, 2, none⟩ v2).setCell ⟨b, 3, none⟩ v3).setCell ⟨b, 4, none⟩ v4).cell? ⟨b, 1, none⟩ = some v1 ∧
    (((((w.setCell ⟨b, 0, none⟩ v0).setCell ⟨b, 1, none⟩ v1).setCell ⟨b, 2, none⟩ v2).setCell ⟨b, 3, none⟩ v3).setCell ⟨b, 4, none⟩ v4).cell? ⟨b, 2, none⟩ = some v2 ∧
    (((((w.setCell ⟨b, 0, none⟩ v0).setCell ⟨b, 1, none⟩ v1).setCell ⟨b, 2, none⟩ v2).setCell ⟨b, 3, none⟩ v3).setCell ⟨b, 4, none⟩ v4).cell? ⟨b, 3, none⟩ = some v3 ∧
    (((((w.setCell ⟨b, 0, none⟩ v0).setCell ⟨b, 1, none⟩ v1).setCell ⟨b, 2, none⟩ v2).setCell ⟨b, 3, none⟩ v3).setCell ⟨b, 4, none⟩ v4).cell? ⟨b, 4, none⟩ = some v4 := by
  refine ⟨?_, ?_, ?_, ?_, ?_⟩
  · exact set_other (by decide) (set_other (by decide) (set_other (by decide) (set_other (by decide) (set_same h0))))
  · exact set_other (by decide) (set_other (by decide) (set_other (by decide) (set_same (set_some h1))))
  · exact set_other (by decide) (set_other (by decide) (set_same (set_some (set_some h2))))
  · exact set_other (by decide) (set_same (set_some (set_some (set_some h3))))
  · exact set_same (set_some (set_some (set_some (set_some h4))))

theorem loadP4 {w : World} {R : Nat} {v0 v1 v2 v3 v4 : Value} (d0 : w.cell? ⟨R, 0, none⟩ = some v0) (d1 : w.cell? ⟨R, 1, none⟩ = some v1) (d2 : w.cell? ⟨R, 2, none⟩ = some v2) (d3 : w.cell? ⟨R, 3, none⟩ = some v3) (d4 : w.cell? ⟨R, 4, none⟩ = some v4) :
    (loadVar 35 ⟨R, 0, none⟩).run Try.prog w = .ok (.agg #[v0, v1, v2, v3, v4]) w := by
  simp [loadVar, go_sem, d0, d1, d2, d3, d4]
theorem res_cell1 {P : Program} {fn : Func} {a : Tmp} {t : TypeId} (h : fn.results = #[.cell a t]) {tmps : Array Value} {R : Addr} (hp : tmps.getD a undef = .pointer (some R)) {v : Value} {w : World} (hl : (loadVar t R).run P w = .ok v w) :
    (results fn tmps).run P w = .ok v w := by
  rw [Array.getD_eq_getD_getElem?] at hp
  simp [results, h, hp, asAddr, hl]
theorem res_cell2 {P : Program} {fn : Func} {a b : Tmp} {t : TypeId} (h : fn.results = #[.cell a t, .tmp b]) {tmps : Array Value} {R : Addr} (hp : tmps.getD a undef = .pointer (some R)) {v : Value} {w : World} (hl : (loadVar t R).run P w = .ok v w) :
    (results fn tmps).run P w = .ok (.tuple #[v, tmps.getD b undef]) w := by
  rw [Array.getD_eq_getD_getElem?] at hp
  simp [results, h, hp, asAddr, hl]

theorem fit4 {a0 a1 a2 a3 : Int} (h0 : 0 ≤ a0 ∧ a0 < 256) (h1 : 0 ≤ a1 ∧ a1 < 256) (h2 : 0 ≤ a2 ∧ a2 < 256) (h3 : 0 ≤ a3 ∧ a3 < 256) : FitB [a0, a1, a2, a3] := by
  intro z hz
  simp at hz
  rcases hz with rfl | rfl | rfl | rfl <;> assumption

set_option maxHeartbeats 2000000 in
set_option maxRecDepth 100000 in
theorem cut4_calls (a0 a1 a2 a3 n : Int) (w : World) (h0 : 0 ≤ a0 ∧ a0 < 256) (h1 : 0 ≤ a1 ∧ a1 < 256) (h2 : 0 ≤ a2 ∧ a2 < 256) (h3 : 0 ≤ a3 ∧ a3 < 256) (hn : 0 ≤ n ∧ n ≤ 128) :
    Calls Try.prog 82 #[A4 a0 a1 a2 a3, .int .i64 n] w fun e w' => e = .returned (P4 (bl a0 n) (bl a1 (n - 8)) (bl a2 (n - 16)) (bl a3 (n - 24)) n) ∧ Below w.heap.size w w' := by
  go_enter Try.func82, Try.ntmps82
  go_wp2_with fail
  have hG : OwnG ((w.alloc (.cells #[.int .u8 a0, .int .u8 a1, .int .u8 a2, .int .u8 a3] 33)).alloc (.cells #[.int .u8 0, .int .u8 0, .int .u8 0, .int .u8 0, .int .i64 0] 35)) w.heap.size [a0, a1, a2, a3] := by
    have e1 : ((w.alloc (.cells #[.int .u8 a0, .int .u8 a1, .int .u8 a2, .int .u8 a3] 33)).alloc (.cells #[.int .u8 0, .int .u8 0, .int .u8 0, .int .u8 0, .int .i64 0] 35)).heap[w.heap.size]? = some (.cells #[.int .u8 a0, .int .u8 a1, .int .u8 a2, .int .u8 a3] 33) := by
      rw [Below.heap_alloc _ _ _ (by simp)]
      exact alloc_new _ _
    refine ⟨⟨_, _, e1⟩, fun j hj => ?_⟩
    simp only [World.cell?, e1]
    match j, hj with
    | 0, _ => rfl
    | 1, _ => rfl
    | 2, _ => rfl
    | 3, _ => rfl
    | n + 4, hj => simp at hj; omega
  have hR : ((w.alloc (.cells #[.int .u8 a0, .int .u8 a1, .int .u8 a2, .int .u8 a3] 33)).alloc (.cells #[.int .u8 0, .int .u8 0, .int .u8 0, .int .u8 0, .int .i64 0] 35)).heap[w.heap.size + 1]? = some (.cells #[.int .u8 0, .int .u8 0, .int .u8 0, .int .u8 0, .int .i64 0] 35) := alloc_new2 _ _ _
  have hB : Below w.heap.size w ((w.alloc (.cells #[.int .u8 a0, .int .u8 a1, .int .u8 a2, .int .u8 a3] 33)).alloc (.cells #[.int .u8 0, .int .u8 0, .int .u8 0, .int .u8 0, .int .i64 0] 35)) := ((Below.refl _ w).alloc (Nat.le_refl _) _).alloc (by simp) _
  generalize (w.alloc (.cells #[.int .u8 a0, .int .u8 a1, .int .u8 a2, .int .u8 a3] 33)).alloc (.cells #[.int .u8 0, .int .u8 0, .int .u8 0, .int .u8 0, .int .i64 0] 35) = w1 at *
  refine (blank_calls w.heap.size 4 [a0, a1, a2, a3] n w1 (fit4 h0 h1 h2 h3) (by simp) hn hG).mono ?_
  rintro e w2 ⟨rfl, hG2, hO⟩
  have hR2 := (hO.other (w.heap.size + 1) (by omega)).trans hR
  have hB2 := hB.trans (hO.below (Nat.le_refl _))
  rw [show [a0, a1, a2, a3].length = 4 from rfl, blank4] at hG2
  have c0 := hG2.cell 0 (by simp)
  have c1 := hG2.cell 1 (by simp)
  have c2 := hG2.cell 2 (by simp)
  have c3 := hG2.cell 3 (by simp)
  simp only [List.getElem?_cons_zero, List.getElem?_cons_succ, Option.getD_some] at c0 c1 c2 c3
  have hfz : ∀ i, w2.frozen? ⟨w.heap.size + 1, i, none⟩ = false := fun i => by simp [World.frozen?, hR2]
  have r0 : w2.cell? ⟨w.heap.size + 1, 0, none⟩ = some (.int .u8 0) := by simp [World.cell?, hR2]
  have r1 : w2.cell? ⟨w.heap.size + 1, 1, none⟩ = some (.int .u8 0) := by simp [World.cell?, hR2]
  have r2 : w2.cell? ⟨w.heap.size + 1, 2, none⟩ = some (.int .u8 0) := by simp [World.cell?, hR2]
  have r3 : w2.cell? ⟨w.heap.size + 1, 3, none⟩ = some (.int .u8 0) := by simp [World.cell?, hR2]
  have r4 : w2.cell? ⟨w.heap.size + 1, 4, none⟩ = some (.int .i64 0) := by simp [World.cell?, hR2]
  generalize hx0 : bl a0 n = x0 at *
  have HX0 : Hid _ := hx0
  clear hx0
  generalize hx1 : bl a1 (n - 8) = x1 at *
  have HX1 : Hid _ := hx1
  clear hx1
  generalize hx2 : bl a2 (n - 16) = x2 at *
  have HX2 : Hid _ := hx2
  clear hx2
  generalize hx3 : bl a3 (n - 24) = x3 at *
  have HX3 : Hid _ := hx3
  clear hx3
  clear hR hR2 hG hG2 hB hO
  go_wp2
  obtain ⟨d0, d1, d2, d3, d4⟩ := set5 w2 (w.heap.size + 1) (.int .u8 x0) (.int .u8 x1) (.int .u8 x2) (.int .u8 x3) (.int .i64 n) (by rw [r0]; rfl) (by rw [r1]; rfl) (by rw [r2]; rfl) (by rw [r3]; rfl) (by rw [r4]; rfl)
  have hB3 := hB2.trans (((((((Only.refl (w.heap.size + 1) w2).set 0 (.int .u8 x0)).set 1 (.int .u8 x1)).set 2 (.int .u8 x2)).set 3 (.int .u8 x3)).set 4 (.int .i64 n)).below (show w.heap.size ≤ w.heap.size + 1 by omega))
  generalize ((((w2.setCell ⟨w.heap.size + 1, 0, none⟩ (.int .u8 x0)).setCell ⟨w.heap.size + 1, 1, none⟩ (.int .u8 x1)).setCell ⟨w.heap.size + 1, 2, none⟩ (.int .u8 x2)).setCell ⟨w.heap.size + 1, 3, none⟩ (.int .u8 x3)).setCell ⟨w.heap.size + 1, 4, none⟩ (.int .i64 n) = w5 at *
  clear r0 r1 r2 r3 r4 c0 c1 c2 c3 hfz hB2
  refine bodyPost_ret (res_cell1 rfl rfl (loadP4 d0 d1 d2 d3 d4)) rfl ?_
  refine ⟨?_, hB3⟩
  rw [HX0.out, HX1.out, HX2.out, HX3.out]

end Go.Proofs.Ytenahbdopgmpfaa
