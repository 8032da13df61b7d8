/-
  readUDP of package segment.
-/
import Derived.Test.YtnlaomjhnndblaaSk1
namespace Go.Proofs.Ytnlaomjhnndblaa
open Go Go.RowKit Go.Shelf
set_option linter.unusedVariables false
set_option linter.unusedSimpArgs false

/-- A pair of a struct in cells of so many, and an error. -/
def Gave (n : Nat) (er : Int) (e : Ending) : Prop := ∃ D : List Value, D.length = n ∧ (∀ v ∈ D, v.oneCell' = true) ∧ e = .returned (.tuple #[.agg D.toArray, .int .i64 er])

theorem box_store {ty : TypeId} {n : Nat} {w : World} {R : Nat} {c : List Value} (hs : ∀ w, (Go.sizeOf ty).run Try.prog w = .ok n w) (h : w.heap[R]? = some (.cells c.toArray ty)) (hl : c.length = n) (V : List Value) (hV : V.length = n) (h1 : ∀ v ∈ V, v.oneCell' = true) :
    ∃ w', (Instr.storeAt ty (.pointer (some ⟨R, 0, none⟩)) (.agg V.toArray)).run Try.prog w = .ok () w' ∧ w'.heap[R]? = some (.cells V.toArray ty) ∧ Only R w w' := by
  refine ⟨_, agg_store hs hV h1 (fun j hj => ?_) (fun j => blk_open h j), ?_, Only.sets _ _ _ (Only.refl _ _)⟩
  · rw [Nat.zero_add, blk_cell h (j := j) (v := c[j]'(by omega)) (by simp)]
    rfl
  · rw [blk_sets V 0 c w h, setsL_all _ _ (by omega)]

set_option maxHeartbeats 1000000 in
set_option maxRecDepth 100000 in
theorem readUDP_short (v : Value) (zs : List Int) (w : World) (h : RowC w v zs) (hn : zs.length < 8) :
    Calls Try.prog 48 #[v] w fun e w' => Gave 5 60 e ∧ Below w.heap.size w w' := by
  obtain ⟨hf, hl, a, cap, rfl, hc, hz⟩ := h
  have q : decide ((zs.length : Int) < 8) = true := by simp; omega
  clear hz
  go_enter Try.func48, Try.ntmps48
  go_wp2
  refine bodyPost_ret (res2t rfl rfl (agg_loadVar (vs := [.slice a zs.length cap, .int .u16 0, .int .u16 0, .slice none 0 0, .int .u16 0]) Try.isAgg84 Try.sizeOf84 rfl (CellsAt.of_blk (blk_alloc (blk_new w _) _)))) rfl ⟨⟨_, ?_, ?_, rfl⟩, ((Below.refl _ w).alloc (Nat.le_refl _) _).alloc (by simp) _⟩
  · rfl
  · simp [Value.oneCell']

def wd2 (zs : List Int) (k : Nat) : Int := gz zs k * 256 + gz zs (k + 1)
theorem wd2_drop (zs : List Int) (n k : Nat) : wd2 (zs.drop n) k = wd2 zs (n + k) := by simp only [wd2, gz_drop, Nat.add_assoc]
theorem wd2_range {zs : List Int} (h : Fit zs) (k : Nat) : 0 ≤ wd2 zs k ∧ wd2 zs k ≤ 65535 := by
  have h1 := h.gz k
  have h2 := h.gz (k + 1)
  unfold wd2
  omega
theorem RdW.word' {w W : World} {R : Nat} {ty : TypeId} {ys : List Int} {b off cap : Nat} {cs : List Value} (h : RdW w W R ty ys b off cap cs) (hn : 2 ≤ ys.length) :
    Calls Try.prog 77 #[.pointer (some ⟨R, 0, none⟩)] W fun e w' => ∃ o k, e = .returned (.int .u16 (wd2 ys 0)) ∧ RdW w w' R ty (ys.drop 2) b o k cs :=
  (h.word hn).mono (fun e w' hr => ⟨_, _, hr.1, hr.2⟩)
theorem RdW.sets {w W : World} {R : Nat} {ty : TypeId} {ys : List Int} {b off cap : Nat} {cs : List Value} (h : RdW w W R ty ys b off cap cs) (j i : Nat) (v : Value) (hi : i = j + 1) : RdW w (W.setCell ⟨R, i, none⟩ v) R ty ys b off cap (cs.set j v) := by
  subst hi
  exact h.set j v

set_option maxHeartbeats 2000000 in
set_option maxRecDepth 100000 in
theorem readUDP_more (v : Value) (zs : List Int) (w : World) (h : RowC w v zs) (hn : 8 ≤ zs.length) :
    Calls Try.prog 48 #[v] w fun e w' => Below w.heap.size w w' ∧ ((wd2 zs 4 ≠ zs.length → Gave 5 61 e) ∧ (wd2 zs 4 = zs.length → ∃ b o k, e = .returned (.tuple #[.agg #[.slice (some ⟨b, o, none⟩) (zs.drop 8).length k, .int .u16 (wd2 zs 0), .int .u16 (wd2 zs 2), .slice none 0 0, .int .u16 (wd2 zs 6)], .int .i64 0]) ∧ RowS w (.slice (some ⟨b, o, none⟩) (zs.drop 8).length k) (zs.drop 8) b o k)) := by
  obtain ⟨b, off, cap, hS⟩ := h.rowS (by omega)
  have hv := hS.val
  subst hv
  clear h
  obtain ⟨Wz, hWz⟩ : ∃ Wz, (w.alloc (.cells [.slice none 0 0, .int .u16 0, .int .u16 0, .slice none 0 0, .int .u16 0].toArray 84)).alloc (.cells [.slice none 0 0, .int .u16 0, .int .u16 0, .slice none 0 0, .int .u16 0].toArray 84) = Wz := ⟨_, rfl⟩
  have hs1 : (w.alloc (.cells [.slice none 0 0, .int .u16 0, .int .u16 0, .slice none 0 0, .int .u16 0].toArray 84)).heap.size = w.heap.size + 1 := by simp
  have bz0 := blk_alloc (blk_new w (.cells [.slice none 0 0, .int .u16 0, .int .u16 0, .slice none 0 0, .int .u16 0].toArray 84)) (.cells [.slice none 0 0, .int .u16 0, .int .u16 0, .slice none 0 0, .int .u16 0].toArray 84)
  have bz1 := blk_new (w.alloc (.cells [.slice none 0 0, .int .u16 0, .int .u16 0, .slice none 0 0, .int .u16 0].toArray 84)) (.cells [.slice none 0 0, .int .u16 0, .int .u16 0, .slice none 0 0, .int .u16 0].toArray 84)
  have hBz : Below w.heap.size w Wz := by rw [← hWz]; exact ((Below.refl _ w).alloc (Nat.le_refl _) _).alloc (by simp) _
  rw [hWz] at bz0 bz1
  rw [hs1] at bz1
  obtain ⟨W1, hst, b1, hon⟩ := box_store Try.sizeOf84 bz1 rfl [.slice (some ⟨b, off, none⟩) zs.length cap, .int .u16 0, .int .u16 0, .slice none 0 0, .int .u16 0] rfl (by simp [Value.oneCell'])
  obtain ⟨Wa, hWa⟩ : ∃ Wa, w.alloc (.cells [.slice none 0 0, .int .u16 0, .int .u16 0, .slice none 0 0, .int .u16 0].toArray 84) = Wa := ⟨_, rfl⟩
  have ba := blk_new w (.cells [.slice none 0 0, .int .u16 0, .int .u16 0, .slice none 0 0, .int .u16 0].toArray 84)
  have hBa := (Below.refl w.heap.size w).alloc (Nat.le_refl _) (.cells [.slice none 0 0, .int .u16 0, .int .u16 0, .slice none 0 0, .int .u16 0].toArray 84)
  rw [hWa] at ba hBa hs1
  have hBl : Below Wa.heap.size Wa W1 := (by rw [← hWz, hWa]; exact (Below.refl _ _).alloc (Nat.le_refl _) _ : Below Wa.heap.size Wa Wz).trans (hon.below (by omega))
  have HST : Hid _ := hst
  have hSa : RowS Wa (.slice (some ⟨b, off, none⟩) zs.length cap) zs b off cap := ⟨rfl, hS.room, Nat.lt_of_lt_of_le hS.lt hBa.size, fun j hj => (hBa.cell (p := ⟨b, off + j, none⟩) hS.lt).trans (hS.cell j hj), hS.fit, hS.len⟩
  have h0 : RdW Wa W1 (w.heap.size + 1) 84 zs b off cap [.int .u16 0, .int .u16 0, .slice none 0 0, .int .u16 0] := ⟨b1, by omega, hBl, hSa⟩
  have q : decide ((zs.length : Int) < 8) = false := by simp; omega
  have HW0 : Hid _ := h0.word' (by omega)
  have HF : Hid (Fit zs) := hS.fit
  have BA : Hid _ := ba
  have HBA : Hid _ := hBa
  have hlt : w.heap.size < Wa.heap.size := by omega
  clear b1 hs1 hBl h0 bz0 bz1 hBz hst hon ba hBa hWa hSa
  go_enter Try.func48, Try.ntmps48
  go_wp2_with ((with_reducible show wpList _ _ _ _ _ _); refine arm_store rfl (.tmp 4) (.tmp 7) 84 rfl rfl rfl HST.out ?_)
  refine Calls.mono HW0.out ?_
  rintro _ w2 ⟨o2, k2, rfl, h2⟩
  have c2 := blk_cell h2.blk (j := 1) rfl
  have f2 := blk_open h2.blk 1
  have h3 := h2.sets 0 1 (.int .u16 (wd2 zs 0)) rfl
  have HW3 : Hid _ := h3.word' (by simp; omega)
  rw [wd2_drop, List.drop_drop] at HW3
  clear h2 h3 HW0 HST hWz
  go_wp2_with fail
  refine Calls.mono HW3.out ?_
  rintro _ w4 ⟨o4, k4, rfl, h4⟩
  have c4 := blk_cell h4.blk (j := 2) rfl
  have f4 := blk_open h4.blk 2
  have h5 := h4.sets 1 2 (.int .u16 (wd2 zs (2 + 0))) rfl
  have HW5 : Hid _ := h5.word' (by simp; omega)
  rw [wd2_drop, List.drop_drop] at HW5
  clear h4 h5 HW3 c2 f2
  go_wp2_with fail
  refine Calls.mono HW5.out ?_
  rintro _ w6 ⟨o6, k6, rfl, h6⟩
  replace h6 : RdW Wa w6 (w.heap.size + 1) 84 (zs.drop 6) b o6 k6 [.int .u16 (wd2 zs 0), .int .u16 (wd2 zs 2), .slice none 0 0, .int .u16 0] := h6
  have q6 := wd2_range HF.out 4
  clear HW5 c4 f4
  by_cases hL : wd2 zs 4 = zs.length
  · have HW7 : Hid _ := h6.word' (by simp; omega)
    rw [wd2_drop, List.drop_drop] at HW7
    have q7 : (wd2 zs 4 != (zs.length : Int)) = false := by simp [hL]
    have HLL : Hid _ := hL
    clear h6 hL
    go_wp2_with fail
    refine Calls.mono HW7.out ?_
    rintro _ w8 ⟨o8, k8, rfl, h8⟩
    replace h8 : RdW Wa w8 (w.heap.size + 1) 84 (zs.drop 8) b o8 k8 [.int .u16 (wd2 zs 0), .int .u16 (wd2 zs 2), .slice none 0 0, .int .u16 0] := h8
    have c8 := blk_cell h8.blk (j := 4) rfl
    have f8 := blk_open h8.blk 4
    have h9 := h8.sets 3 4 (.int .u16 (wd2 zs 6)) rfl
    have b9 := (h9.bel.block _ hlt).trans BA.out
    have HL : Hid _ := agg_load (t := 84) Try.isAgg84 Try.sizeOf84 rfl (CellsAt.of_blk h9.blk)
    obtain ⟨wE, hst, bE, hon⟩ := box_store Try.sizeOf84 b9 rfl [.slice (some ⟨b, o8, none⟩) (zs.drop 8).length k8, .int .u16 (wd2 zs 0), .int .u16 (wd2 zs 2), .slice none 0 0, .int .u16 (wd2 zs 6)] rfl (by simp [Value.oneCell'])
    have HST : Hid _ := hst
    have HBE : Hid (Below w.heap.size w wE) := (HBA.out.trans (h9.bel.mono HBA.out.size)).trans (hon.below (Nat.le_refl _))
    have HR : Hid (RowS w (.slice (some ⟨b, o8, none⟩) (zs.drop 8).length k8) (zs.drop 8) b o8 k8) := by
      have hr := h9.row
      refine ⟨rfl, hr.room, hS.lt, fun j hj => ?_, hr.fit, hr.len⟩
      exact (HBA.out.cell (p := ⟨b, o8 + j, none⟩) hS.lt).symm.trans (hr.cell j hj)
    have BE : Hid _ := bE
    clear hst bE hon h8 h9 b9 HW7
    go_wp2_with first
      | ((with_reducible show wpList _ _ _ _ _ _); refine arm_load rfl (.tmp 4) 84 rfl rfl HL.out ?_)
      | ((with_reducible show wpList _ _ _ _ _ _); refine arm_store rfl (.tmp 2) (.tmp 30) 84 rfl rfl rfl HST.out ?_)
    exact bodyPost_ret (res2t rfl rfl (agg_loadVar Try.isAgg84 Try.sizeOf84 rfl (CellsAt.of_blk BE.out))) rfl ⟨HBE.out, fun hne => absurd HLL.out hne, fun _ => ⟨b, o8, k8, rfl, HR.out⟩⟩
  · have q7 : (wd2 zs 4 != (zs.length : Int)) = true := by simp [hL]
    have b9 := (h6.bel.block _ hlt).trans BA.out
    have HL : Hid _ := agg_load (t := 84) Try.isAgg84 Try.sizeOf84 rfl (CellsAt.of_blk h6.blk)
    obtain ⟨wE, hst, bE, hon⟩ := box_store Try.sizeOf84 b9 rfl [.slice (some ⟨b, o6, none⟩) (zs.drop 6).length k6, .int .u16 (wd2 zs 0), .int .u16 (wd2 zs 2), .slice none 0 0, .int .u16 0] rfl (by simp [Value.oneCell'])
    have HST : Hid _ := hst
    have HBE : Hid (Below w.heap.size w wE) := (HBA.out.trans (h6.bel.mono HBA.out.size)).trans (hon.below (Nat.le_refl _))
    have BE : Hid _ := bE
    have HLL : Hid _ := hL
    clear hst bE hon h6 b9 hL
    go_wp2_with first
      | ((with_reducible show wpList _ _ _ _ _ _); refine arm_load rfl (.tmp 4) 84 rfl rfl HL.out ?_)
      | ((with_reducible show wpList _ _ _ _ _ _); refine arm_store rfl (.tmp 2) (.tmp 26) 84 rfl rfl rfl HST.out ?_)
    exact bodyPost_ret (res2t rfl rfl (agg_loadVar Try.isAgg84 Try.sizeOf84 rfl (CellsAt.of_blk BE.out))) rfl ⟨HBE.out, fun _ => ⟨_, rfl, by simp [Value.oneCell'], rfl⟩, fun he => absurd he HLL.out⟩

end Go.Proofs.Ytnlaomjhnndblaa
