/-
  IPv4 prefixes: the walk of the program's Last4.
-/
import Derived.Test.YthejkiocndoflaaDoorAddrLast2
import Derived.Deep.RegionWith
namespace Go.Proofs.YthejkiocndoflaaDoor
open Go Go.RowKit
set_option linter.unusedVariables false
set_option linter.unusedSimpArgs false

theorem xor_tab : ∀ r, r < 9 → bits .xor .u8 IntKind.u8.max (((255 - 255 / 2 ^ r : Nat)) : Int) = ((255 - (255 - 255 / 2 ^ r) : Nat) : Int) := by decide
theorem xor_msk (n : Int) : bits .xor .u8 IntKind.u8.max (msk n : Int) = ((255 - msk n : Nat) : Int) := by
  unfold msk
  exact xor_tab _ (by omega)
def orL (zs : List Int) (n : Int) : Nat → List Int
  | 0 => zs
  | k + 1 => (orL zs n k).set k (fl ((orL zs n k)[k]?.getD 0) (n - 8 * k))
@[simp] theorem orL_length (zs : List Int) (n : Int) (k : Nat) : (orL zs n k).length = zs.length := by
  induction k with
  | zero => rfl
  | succ k ih => simp [orL, ih]
theorem orL_fit {zs : List Int} (h : FitB zs) (n : Int) (k : Nat) : FitB (orL zs n k) := by
  induction k with
  | zero => exact h
  | succ k ih =>
    intro z hz
    rcases List.mem_or_eq_of_mem_set hz with hz | rfl
    · exact ih z hz
    · exact fl_fit _ _ (fit_at ih k)
theorem or4 (a0 a1 a2 a3 n : Int) : orL [a0, a1, a2, a3] n 4 = [fl a0 n, fl a1 (n - 8), fl a2 (n - 16), fl a3 (n - 24)] := by
  simp [orL]

set_option maxHeartbeats 4000000 in
set_option maxRecDepth 100000 in
theorem Last4_calls (a0 a1 a2 a3 n : Int) (w : World) (h0 : 0 ≤ a0 ∧ a0 < 256) (h1 : 0 ≤ a1 ∧ a1 < 256) (h2 : 0 ≤ a2 ∧ a2 < 256) (h3 : 0 ≤ a3 ∧ a3 < 256) (hb : -9223372036854775808 ≤ n ∧ n ≤ 9223372036854775807) :
    Calls Tryd.prog 36 #[P4 a0 a1 a2 a3 n] w fun e w' => e = .returned (.tuple #[if okP4 a0 a1 a2 a3 n then A4 (fl a0 n) (fl a1 (n - 8)) (fl a2 (n - 16)) (fl a3 (n - 24)) else A4 0 0 0 0, .int .i64 (if okP4 a0 a1 a2 a3 n then 0 else 22)]) ∧ Below w.heap.size w w' := by
  have hB : Below w.heap.size w ((w.alloc (.cells #[.int .u8 a0, .int .u8 a1, .int .u8 a2, .int .u8 a3, .int .i64 n] 38)).alloc (.cells #[.int .u8 0, .int .u8 0, .int .u8 0, .int .u8 0] 23)) := ((Below.refl _ w).alloc (Nat.le_refl _) _).alloc (by simp) _
  have hchk := fun w => Check4_calls a0 a1 a2 a3 n w h0 h1 h2 h3 hb
  have htwo := fun (w' : World) => @two_blocks w (.cells #[.int .u8 a0, .int .u8 a1, .int .u8 a2, .int .u8 a3, .int .i64 n] 38) (.cells #[.int .u8 0, .int .u8 0, .int .u8 0, .int .u8 0] 23) w'
  have HB : Hid _ := hB
  have HT : Hid _ := htwo
  cases hok : okP4 a0 a1 a2 a3 n
  · simp only [hok] at hchk
    have HC : Hid _ := hchk
    clear hchk hok hB htwo
    go_enter Tryd.func36, Tryd.ntmps36
    go_wp2_with fail
    refine Calls.mono (HC.out _) ?_
    rintro e w2 ⟨rfl, hB2⟩
    obtain ⟨t1, t2⟩ := HT.out w2 hB2
    have hBB := HB.out.trans (hB2.mono HB.out.size)
    have hfz : ∀ i, w2.frozen? ⟨w.heap.size + 1, i, none⟩ = false := fun i => by simp [World.frozen?, t2]
    have r0 : w2.cell? ⟨w.heap.size + 1, 0, none⟩ = some (.int .u8 0) := by simp [World.cell?, t2]
    have r1 : w2.cell? ⟨w.heap.size + 1, 1, none⟩ = some (.int .u8 0) := by simp [World.cell?, t2]
    have r2 : w2.cell? ⟨w.heap.size + 1, 2, none⟩ = some (.int .u8 0) := by simp [World.cell?, t2]
    have r3 : w2.cell? ⟨w.heap.size + 1, 3, none⟩ = some (.int .u8 0) := by simp [World.cell?, t2]
    clear t1 t2 HC HT HB hB2
    go_wp2
    obtain ⟨d0, d1, d2, d3⟩ := set4 w2 (w.heap.size + 1) (.int .u8 0) (.int .u8 0) (.int .u8 0) (.int .u8 0) (by rw [r0]; rfl) (by rw [r1]; rfl) (by rw [r2]; rfl) (by rw [r3]; rfl)
    refine bodyPost_ret (res_cell2 rfl rfl (loadA4 d0 d1 d2 d3)) rfl ⟨rfl, hBB.trans ((((((Only.refl (w.heap.size + 1) w2).set 0 _).set 1 _).set 2 _).set 3 _).below (show w.heap.size ≤ w.heap.size + 1 by omega))⟩
  · simp only [hok] at hchk
    have hn : 0 ≤ n ∧ n ≤ 32 := by simp [okP4] at hok; exact hok.1
    obtain ⟨m, rfl⟩ := Int.eq_ofNat_of_zero_le hn.1
    have hm : m ≤ 32 := by omega
    have hf := fit4 h0 h1 h2 h3
    have HC : Hid _ := hchk
    clear hchk hok hB htwo
    simp only [if_true]
    go_enter Tryd.func36, Tryd.ntmps36
    go_wp2_with fail
    refine Calls.mono (HC.out _) ?_
    rintro e w2 ⟨rfl, hB2⟩
    obtain ⟨t1, t2⟩ := HT.out w2 hB2
    have hBB := HB.out.trans (hB2.mono HB.out.size)
    have k0 : w2.cell? ⟨w.heap.size, 0, none⟩ = some (.int .u8 a0) := by simp [World.cell?, t1]
    have k1 : w2.cell? ⟨w.heap.size, 1, none⟩ = some (.int .u8 a1) := by simp [World.cell?, t1]
    have k2 : w2.cell? ⟨w.heap.size, 2, none⟩ = some (.int .u8 a2) := by simp [World.cell?, t1]
    have k3 : w2.cell? ⟨w.heap.size, 3, none⟩ = some (.int .u8 a3) := by simp [World.cell?, t1]
    have k4 : ∀ o, (w2.alloc o).cell? ⟨w.heap.size, 4, none⟩ = some (.int .i64 m) := fun o => by
      have := (((Below.refl _ w2).alloc (Nat.le_refl _) o).block w.heap.size (Array.getElem?_eq_some_iff.1 t1).1).trans t1
      simp [World.cell?, this]
    have T2 : Hid _ := t2
    have hlt2 := (Array.getElem?_eq_some_iff.1 t2).1
    clear t1 t2 HC HT HB hB2
    go_wp2
    have hG : OwnG (w2.alloc (.cells #[.int .u8 a0, .int .u8 a1, .int .u8 a2, .int .u8 a3] 23)) w2.heap.size [a0, a1, a2, a3] := by
      have e1 := alloc_new w2 (.cells #[.int .u8 a0, .int .u8 a1, .int .u8 a2, .int .u8 a3] 23)
      refine ⟨⟨_, _, e1⟩, fun j hj => ?_⟩
      simp only [World.cell?, e1]
      match j, hj with
      | 0, _ => rfl
      | 1, _ => rfl
      | 2, _ => rfl
      | 3, _ => rfl
      | n + 4, hj => simp at hj; omega
    have hR2 : (w2.alloc (.cells #[.int .u8 a0, .int .u8 a1, .int .u8 a2, .int .u8 a3] 23)).heap[w.heap.size + 1]? = some (.cells #[.int .u8 0, .int .u8 0, .int .u8 0, .int .u8 0] 23) := (Below.heap_alloc w2 _ _ hlt2).trans T2.out
    have hBw := hBB.alloc hBB.size (.cells #[.int .u8 a0, .int .u8 a1, .int .u8 a2, .int .u8 a3] 23)
    have hge := hBB.size
    have hk4 := k4 (.cells #[.int .u8 a0, .int .u8 a1, .int .u8 a2, .int .u8 a3] 23)
    clear k0 k1 k2 k3 k4 T2 hBB
    generalize w2.alloc (.cells #[.int .u8 a0, .int .u8 a1, .int .u8 a2, .int .u8 a3] 23) = w3 at *
    generalize w2.heap.size = g at *
    have K4 : Hid (∀ wr : World, Only g w3 wr → wr.cell? ⟨w.heap.size, 4, none⟩ = some (.int .i64 m)) := fun wr hO => (World.cell?_of_block (a := ⟨w.heap.size, 4, none⟩) (hO.other w.heap.size (by omega))).trans hk4
    have HR2 : Hid _ := hR2
    have HG : Hid _ := hG
    clear hR2 hG hk4
    go_loopw [12] (fun i wr => ∃ k : Nat, k ≤ 4 ∧ i = .int .i64 k ∧ OwnG wr g (orL [a0, a1, a2, a3] m k) ∧ Only g w3 wr) (fun i _ => 4 - (intOf i).toNat)
    case atStart => exact ⟨0, by omega, rfl, HG.out, Only.refl _ _⟩
    case round =>
      obtain ⟨k, hk, rfl, ho, hO⟩ := hrel
      by_cases hlt : k < 4
      · have hset : orL [a0, a1, a2, a3] m (k + 1) = (orL [a0, a1, a2, a3] m k).set k (fl ((orL [a0, a1, a2, a3] m k)[k]?.getD 0) (m - 8 * k)) := rfl
        have hfit := fit_at (orL_fit hf m k) k
        have hlen : (orL [a0, a1, a2, a3] m k).length = 4 := by simp
        have hcc := ho.cell k (by omega)
        have hop := ho.open k
        have hos := ho.set k (by omega)
        have hlen4 := (K4.out wr hO)
        have hfc := fun w => first_calls ((m : Int) - 8 * k) w (by omega)
        have hml := msk_lt ((m : Int) - 8 * k)
        have hxm := xor_msk ((m : Int) - 8 * k)
        have hor := u8_or ((orL [a0, a1, a2, a3] m k)[k]?.getD 0) ((255 - msk ((m : Int) - 8 * k) : Nat) : Int) hfit.1 hfit.2 (by omega) (by omega)
        rw [Int.toNat_natCast] at hor
        have hfl : fl ((orL [a0, a1, a2, a3] m k)[k]?.getD 0) (m - 8 * k) = ((((orL [a0, a1, a2, a3] m k)[k]?.getD 0).toNat ||| (255 - msk ((m : Int) - 8 * k)) : Nat) : Int) := rfl
        rw [hfl] at hset
        generalize hy : orL [a0, a1, a2, a3] m (k + 1) = y at *
        generalize orL [a0, a1, a2, a3] m k = x at *
        generalize x[k]?.getD 0 = z at *
        generalize msk ((m : Int) - 8 * k) = mk at *
        generalize z.toNat ||| (255 - mk) = s at *
        generalize (255 - mk) = nmk at *
        have hw1 := wrap_i64 (8 * (k : Int)) (by omega)
        have hw2 := wrap_i64 ((m : Int) - 8 * (k : Int)) (by omega)
        have HY : Hid _ := hy
        have HS : Hid _ := hset
        have HO : Hid _ := hos
        have HF : Hid _ := hfc
        clear hy hset hos hfc hfl
        go_wp2_with fail
        go_region_with (go_at_call 68; refine Calls.mono (HF.out _) ?_; rintro e w1 ⟨rfl, rfl⟩)
        all_goals
          go_wp2
          refine ⟨⟨k + 1, by omega, by simp, ?_, (hO.set _ _).drew⟩, by simp [intOf]; omega⟩
          rw [HY.out, HS.out]
          rw [show (if IntKind.u8.signed = true then (-1 : Int) else IntKind.u8.max) = IntKind.u8.max from rfl, hxm, hor]
          have ho2 := HO.out (s : Int)
          exact ⟨ho2.typed, ho2.cell⟩
      · obtain rfl : k = 4 := by omega
        rw [or4] at ho
        have hne : w.heap.size + 1 ≠ g := by omega
        have hR3 := (hO.other (w.heap.size + 1) hne).trans HR2.out
        have hB2 := hBw.trans (hO.below (show w.heap.size ≤ g by omega))
        have c0 := ho.cell 0 (by simp)
        have c1 := ho.cell 1 (by simp)
        have c2 := ho.cell 2 (by simp)
        have c3 := ho.cell 3 (by simp)
        simp only [List.getElem?_cons_zero, List.getElem?_cons_succ, Option.getD_some] at c0 c1 c2 c3
        have hfz : ∀ i, wr.frozen? ⟨w.heap.size + 1, i, none⟩ = false := fun i => by simp [World.frozen?, hR3]
        have r0 : wr.cell? ⟨w.heap.size + 1, 0, none⟩ = some (.int .u8 0) := by simp [World.cell?, hR3]
        have r1 : wr.cell? ⟨w.heap.size + 1, 1, none⟩ = some (.int .u8 0) := by simp [World.cell?, hR3]
        have r2 : wr.cell? ⟨w.heap.size + 1, 2, none⟩ = some (.int .u8 0) := by simp [World.cell?, hR3]
        have r3 : wr.cell? ⟨w.heap.size + 1, 3, none⟩ = some (.int .u8 0) := by simp [World.cell?, hR3]
        generalize hx0 : fl a0 m = x0 at *
        generalize hx1 : fl a1 (m - 8) = x1 at *
        generalize hx2 : fl a2 (m - 16) = x2 at *
        generalize hx3 : fl a3 (m - 24) = x3 at *
        have HX0 : Hid _ := hx0
        have HX1 : Hid _ := hx1
        have HX2 : Hid _ := hx2
        have HX3 : Hid _ := hx3
        clear hx0 hx1 hx2 hx3 ho hR3 hO HR2 HG K4
        go_wp2
        obtain ⟨d0, d1, d2, d3⟩ := set4 wr (w.heap.size + 1) (.int .u8 x0) (.int .u8 x1) (.int .u8 x2) (.int .u8 x3) (by rw [r0]; rfl) (by rw [r1]; rfl) (by rw [r2]; rfl) (by rw [r3]; rfl)
        refine bodyPost_ret (res_cell2 rfl rfl (loadA4 d0 d1 d2 d3)) rfl ⟨?_, hB2.trans ((((((Only.refl (w.heap.size + 1) wr).set 0 _).set 1 _).set 2 _).set 3 _).below (show w.heap.size ≤ w.heap.size + 1 by omega))⟩
        rw [HX0.out, HX1.out, HX2.out, HX3.out]
        rfl

end Go.Proofs.YthejkiocndoflaaDoor
