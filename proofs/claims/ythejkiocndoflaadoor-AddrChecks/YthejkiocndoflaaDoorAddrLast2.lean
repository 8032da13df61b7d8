/-
  IPv4 prefixes: the walk of the document's Last4.
-/
import Derived.Test.YthejkiocndoflaaDoorAddrLast
namespace Go.Proofs.YthejkiocndoflaaDoor
open Go Go.RowKit
set_option linter.unusedVariables false
set_option linter.unusedSimpArgs false

theorem set4 (w : World) (b : Nat) (v0 v1 v2 v3 : Value) (h0 : (w.cell? ⟨b, 0, none⟩).isSome = true) (h1 : (w.cell? ⟨b, 1, none⟩).isSome = true) (h2 : (w.cell? ⟨b, 2, none⟩).isSome = true) (h3 : (w.cell? ⟨b, 3, none⟩).isSome = true) :
    ((((w.setCell ⟨b, 0, none⟩ v0).setCell ⟨b, 1, none⟩ v1).setCell ⟨b, 2, none⟩ v2).setCell ⟨b, 3, none⟩ v3).cell? ⟨b, 0, none⟩ = some v0 ∧
    ((((w.setCell ⟨b, 0, none⟩ v0).setCell ⟨b, 1, none⟩ v1).setCell ⟨b, 2, none⟩ v2).setCell ⟨b, 3, none⟩ v3).cell? ⟨b, 1, none⟩ = some v1 ∧
    ((((w.setCell ⟨b, 0, none⟩ v0).setCell ⟨b, 1, none⟩ v1).setCell ⟨b, 2, none⟩ v2).setCell ⟨b, 3, none⟩ v3).cell? ⟨b, 2, none⟩ = some v2 ∧
    ((((w.setCell ⟨b, 0, none⟩ v0).setCell ⟨b, 1, none⟩ v1).setCell ⟨b, 2, none⟩ v2).setCell ⟨b, 3, none⟩ v3).cell? ⟨b, 3, none⟩ = some v3 := by
  refine ⟨?_, ?_, ?_, ?_⟩
  · exact set_other (by decide) (set_other (by decide) (set_other (by decide) (set_same h0)))
  · exact set_other (by decide) (set_other (by decide) (set_same (set_some h1)))
  · exact set_other (by decide) (set_same (set_some (set_some h2)))
  · exact set_same (set_some (set_some (set_some h3)))
theorem loadA4 {w : World} {R : Nat} {v0 v1 v2 v3 : Value} (d0 : w.cell? ⟨R, 0, none⟩ = some v0) (d1 : w.cell? ⟨R, 1, none⟩ = some v1) (d2 : w.cell? ⟨R, 2, none⟩ = some v2) (d3 : w.cell? ⟨R, 3, none⟩ = some v3) :
    (loadVar 23 ⟨R, 0, none⟩).run Tryd.prog w = .ok (.agg #[v0, v1, v2, v3]) w := by
  simp [loadVar, go_sem, d0, d1, d2, d3]
theorem or_one (z : Int) (k : Nat) (hk : k < 8) (h : 0 ≤ z ∧ z < 256) : bits .or .u8 z (2 ^ k) = ((setN z.toNat k 1 : Nat) : Int) := by
  have hp : ∀ j, j < 8 → 2 ^ j < 256 := by decide
  have h1 := u8_or_nat z.toNat (2 ^ k) (by omega) (hp k hk)
  rw [← tab_or k hk _ (by omega), ← h1, Int.toNat_of_nonneg h.1]
  simp

set_option maxHeartbeats 4000000 in
set_option maxRecDepth 100000 in
theorem RLast4_calls (a0 a1 a2 a3 n : Int) (w : World) (h0 : 0 ≤ a0 ∧ a0 < 256) (h1 : 0 ≤ a1 ∧ a1 < 256) (h2 : 0 ≤ a2 ∧ a2 < 256) (h3 : 0 ≤ a3 ∧ a3 < 256) (hb : -9223372036854775808 ≤ n ∧ n ≤ 9223372036854775807) :
    Calls Tryd.prog 37 #[P4 a0 a1 a2 a3 n] w fun e w' => e = .returned (.tuple #[if okP4 a0 a1 a2 a3 n then A4 (fl a0 n) (fl a1 (n - 8)) (fl a2 (n - 16)) (fl a3 (n - 24)) else A4 0 0 0 0, .int .i64 (if okP4 a0 a1 a2 a3 n then 0 else 22)]) ∧ Below w.heap.size w w' := by
  have hB : Below w.heap.size w ((w.alloc (.cells #[.int .u8 a0, .int .u8 a1, .int .u8 a2, .int .u8 a3, .int .i64 n] 38)).alloc (.cells #[.int .u8 0, .int .u8 0, .int .u8 0, .int .u8 0] 23)) := ((Below.refl _ w).alloc (Nat.le_refl _) _).alloc (by simp) _
  have hchk := fun w => RCheck4_calls a0 a1 a2 a3 n w h0 h1 h2 h3 hb
  have htwo := fun (w' : World) => @two_blocks w (.cells #[.int .u8 a0, .int .u8 a1, .int .u8 a2, .int .u8 a3, .int .i64 n] 38) (.cells #[.int .u8 0, .int .u8 0, .int .u8 0, .int .u8 0] 23) w'
  have HB : Hid _ := hB
  have HT : Hid _ := htwo
  cases hok : okP4 a0 a1 a2 a3 n
  · simp only [hok] at hchk
    have HC : Hid _ := hchk
    clear hchk hok hB htwo
    go_enter Tryd.func37, Tryd.ntmps37
    go_wp2_with fail
    refine Calls.mono (HC.out _) ?_
    rintro e w2 ⟨rfl, hB2⟩
    obtain ⟨t1, t2⟩ := HT.out w2 hB2
    have hBB := HB.out.trans (hB2.mono HB.out.size)
    have hfz : ∀ i, w2.frozen? ⟨w.heap.size + 1, i, none⟩ = false := fun i => by simp [World.frozen?, t2]
    have r0 : w2.cell? ⟨w.heap.size + 1, 0, none⟩ = some (.int .u8 0) := by simp [World.cell?, t2]
    have r1 : w2.cell? ⟨w.heap.size + 1, 1, none⟩ = some (.int .u8 0) := by simp [World.cell?, t2]
    have r2 : w2.cell? ⟨w.heap.size + 1, 2, none⟩ = some (.int .u8 0) := by simp [World.cell?, t2]
    have r3 : w2.cell? ⟨w.heap.size + 1, 3, none⟩ = some (.int .u8 0) := by simp [World.cell?, t2]
    clear t1 t2 HC HT HB hB2
    go_wp2
    obtain ⟨d0, d1, d2, d3⟩ := set4 w2 (w.heap.size + 1) (.int .u8 0) (.int .u8 0) (.int .u8 0) (.int .u8 0) (by rw [r0]; rfl) (by rw [r1]; rfl) (by rw [r2]; rfl) (by rw [r3]; rfl)
    refine bodyPost_ret (res_cell2 rfl rfl (loadA4 d0 d1 d2 d3)) rfl ⟨rfl, hBB.trans ((((((Only.refl (w.heap.size + 1) w2).set 0 _).set 1 _).set 2 _).set 3 _).below (show w.heap.size ≤ w.heap.size + 1 by omega))⟩
  · simp only [hok] at hchk
    have hn : 0 ≤ n ∧ n ≤ 32 := by simp [okP4] at hok; exact hok.1
    obtain ⟨m, rfl⟩ := Int.eq_ofNat_of_zero_le hn.1
    have hm : m ≤ 32 := by omega
    have hend := lst_fL m hm h0 h1 h2 h3
    have hf := fit4 h0 h1 h2 h3
    have HE : Hid _ := hend
    have HC : Hid _ := hchk
    clear hchk hok hB htwo hend
    simp only [if_true]
    go_enter Tryd.func37, Tryd.ntmps37
    go_wp2_with fail
    refine Calls.mono (HC.out _) ?_
    rintro e w2 ⟨rfl, hB2⟩
    obtain ⟨t1, t2⟩ := HT.out w2 hB2
    have hBB := HB.out.trans (hB2.mono HB.out.size)
    have k0 : w2.cell? ⟨w.heap.size, 0, none⟩ = some (.int .u8 a0) := by simp [World.cell?, t1]
    have k1 : w2.cell? ⟨w.heap.size, 1, none⟩ = some (.int .u8 a1) := by simp [World.cell?, t1]
    have k2 : w2.cell? ⟨w.heap.size, 2, none⟩ = some (.int .u8 a2) := by simp [World.cell?, t1]
    have k3 : w2.cell? ⟨w.heap.size, 3, none⟩ = some (.int .u8 a3) := by simp [World.cell?, t1]
    have k4 : ∀ o, (w2.alloc o).cell? ⟨w.heap.size, 4, none⟩ = some (.int .i64 m) := fun o => by
      have := (((Below.refl _ w2).alloc (Nat.le_refl _) o).block w.heap.size (Array.getElem?_eq_some_iff.1 t1).1).trans t1
      simp [World.cell?, this]
    have T2 : Hid _ := t2
    have hlt2 := (Array.getElem?_eq_some_iff.1 t2).1
    clear t1 t2 HC HT HB hB2
    go_wp2
    have hG : OwnG (w2.alloc (.cells #[.int .u8 a0, .int .u8 a1, .int .u8 a2, .int .u8 a3] 23)) w2.heap.size [a0, a1, a2, a3] := by
      have e1 := alloc_new w2 (.cells #[.int .u8 a0, .int .u8 a1, .int .u8 a2, .int .u8 a3] 23)
      refine ⟨⟨_, _, e1⟩, fun j hj => ?_⟩
      simp only [World.cell?, e1]
      match j, hj with
      | 0, _ => rfl
      | 1, _ => rfl
      | 2, _ => rfl
      | 3, _ => rfl
      | n + 4, hj => simp at hj; omega
    have hR2 : (w2.alloc (.cells #[.int .u8 a0, .int .u8 a1, .int .u8 a2, .int .u8 a3] 23)).heap[w.heap.size + 1]? = some (.cells #[.int .u8 0, .int .u8 0, .int .u8 0, .int .u8 0] 23) := (Below.heap_alloc w2 _ _ hlt2).trans T2.out
    have hBw := hBB.alloc hBB.size (.cells #[.int .u8 a0, .int .u8 a1, .int .u8 a2, .int .u8 a3] 23)
    have hge := hBB.size
    clear k0 k1 k2 k3 k4 T2 hBB
    generalize w2.alloc (.cells #[.int .u8 a0, .int .u8 a1, .int .u8 a2, .int .u8 a3] 23) = w3 at *
    generalize w2.heap.size = g at *
    have HR2 : Hid _ := hR2
    have HG : Hid _ := hG
    clear hR2 hG
    go_loopw [5] (fun i wr => ∃ k : Nat, m + k ≤ 32 ∧ i = .int .i64 (m + k : Nat) ∧ OwnG wr g (lstL [a0, a1, a2, a3] m k) ∧ Only g w3 wr) (fun i _ => 32 - (intOf i).toNat)
    case atStart => exact ⟨0, by omega, rfl, HG.out, Only.refl _ _⟩
    case round =>
      obtain ⟨k, hk, rfl, ho, hO⟩ := hrel
      by_cases hlt : m + k < 32
      · have hset : lstL [a0, a1, a2, a3] m (k + 1) = (lstL [a0, a1, a2, a3] m k).set ((m + k) / 8) ((setN ((lstL [a0, a1, a2, a3] m k)[(m + k) / 8]?.getD 0).toNat (7 - (m + k) % 8) 1 : Nat) : Int) := rfl
        have hfit := fit_at (lstL_fit hf m k) ((m + k) / 8)
        have hlen : (lstL [a0, a1, a2, a3] m k).length = 4 := by simp
        have hcc := ho.cell ((m + k) / 8) (by omega)
        have hop := ho.open ((m + k) / 8)
        have hos := ho.set ((m + k) / 8) (by omega)
        have han := or_one ((lstL [a0, a1, a2, a3] m k)[(m + k) / 8]?.getD 0) (7 - (m + k) % 8) (by omega) hfit
        have hwr := wrap_u8 (7 - (m + k) % 8) (by omega)
        have h256 := pow256 (7 - (m + k) % 8) (by omega)
        generalize hy : lstL [a0, a1, a2, a3] m (k + 1) = y at *
        generalize lstL [a0, a1, a2, a3] m k = x at *
        generalize x[(m + k) / 8]?.getD 0 = z at *
        generalize setN z.toNat (7 - (m + k) % 8) 1 = s at *
        generalize hK : m + k = K at *
        have HY : Hid _ := hy
        have HS : Hid _ := hset
        have HO : Hid _ := hos
        have HK : Hid _ := hK
        clear hy hset hos hK
        go_wp2
        go_region
        go_wp2
        refine ⟨⟨k + 1, by have := HK.out; omega, by have := HK.out; simp; omega, ?_, (hO.set _ _).drew⟩, by simp [intOf]; omega⟩
        rw [HY.out, HS.out]
        have ho2 := HO.out (s : Int)
        exact ⟨ho2.typed, ho2.cell⟩
      · obtain rfl : k = 32 - m := by omega
        have hke : m + (32 - m) = 32 := by omega
        rw [HE.out] at ho
        unfold fL at ho
        have hne : w.heap.size + 1 ≠ g := by omega
        have hR3 := (hO.other (w.heap.size + 1) hne).trans HR2.out
        have hB2 := hBw.trans (hO.below (show w.heap.size ≤ g by omega))
        have c0 := ho.cell 0 (by simp)
        have c1 := ho.cell 1 (by simp)
        have c2 := ho.cell 2 (by simp)
        have c3 := ho.cell 3 (by simp)
        simp only [List.getElem?_cons_zero, List.getElem?_cons_succ, Option.getD_some] at c0 c1 c2 c3
        have hfz : ∀ i, wr.frozen? ⟨w.heap.size + 1, i, none⟩ = false := fun i => by simp [World.frozen?, hR3]
        have r0 : wr.cell? ⟨w.heap.size + 1, 0, none⟩ = some (.int .u8 0) := by simp [World.cell?, hR3]
        have r1 : wr.cell? ⟨w.heap.size + 1, 1, none⟩ = some (.int .u8 0) := by simp [World.cell?, hR3]
        have r2 : wr.cell? ⟨w.heap.size + 1, 2, none⟩ = some (.int .u8 0) := by simp [World.cell?, hR3]
        have r3 : wr.cell? ⟨w.heap.size + 1, 3, none⟩ = some (.int .u8 0) := by simp [World.cell?, hR3]
        generalize hx0 : fl a0 m = x0 at *
        generalize hx1 : fl a1 (m - 8) = x1 at *
        generalize hx2 : fl a2 (m - 16) = x2 at *
        generalize hx3 : fl a3 (m - 24) = x3 at *
        have HX0 : Hid _ := hx0
        have HX1 : Hid _ := hx1
        have HX2 : Hid _ := hx2
        have HX3 : Hid _ := hx3
        clear hx0 hx1 hx2 hx3 ho hR3 hO HE HR2 HG
        rw [hke]
        clear hke
        go_wp2
        obtain ⟨d0, d1, d2, d3⟩ := set4 wr (w.heap.size + 1) (.int .u8 x0) (.int .u8 x1) (.int .u8 x2) (.int .u8 x3) (by rw [r0]; rfl) (by rw [r1]; rfl) (by rw [r2]; rfl) (by rw [r3]; rfl)
        refine bodyPost_ret (res_cell2 rfl rfl (loadA4 d0 d1 d2 d3)) rfl ⟨?_, hB2.trans ((((((Only.refl (w.heap.size + 1) wr).set 0 _).set 1 _).set 2 _).set 3 _).below (show w.heap.size ≤ w.heap.size + 1 by omega))⟩
        rw [HX0.out, HX1.out, HX2.out, HX3.out]
        rfl

end Go.Proofs.YthejkiocndoflaaDoor
