/-
  Bytes that are read from the front: run, wordOf, word, long of package segment; readUDP.
  readUDP of package segment.
  The document's Pseudo.
  The document's WriteUDP.
-/
import Derived.Test.YtnjkagopmfenkaaGreatFold18
namespace Go.Proofs.YtnjkagopmfenkaaGreat
open Go Go.RowKit Go.Shelf
set_option linter.unusedVariables false
set_option linter.unusedSimpArgs false

set_option maxHeartbeats 1000000 in
set_option maxRecDepth 100000 in
theorem run_calls6 (R b off len cap n : Nat) (w : World) (hc : w.cell? ⟨R, 0, none⟩ = some (.slice (some ⟨b, off, none⟩) len cap)) (hf : w.frozen? ⟨R, 0, none⟩ = false) (hn : n ≤ len) (hl : len ≤ cap) :
    Calls Tryz.prog 172 #[.pointer (some ⟨R, 0, none⟩), .int .i64 n] w fun e w' => e = .returned (.slice (some ⟨b, off, none⟩) n cap) ∧ w' = w.setCell ⟨R, 0, none⟩ (restV b off len cap n) := by
  by_cases hcap : cap = n
  · subst hcap
    obtain rfl : len = cap := by omega
    simp only [restV, if_true, Nat.sub_self]
    go_enter Tryz.func172, Tryz.ntmps172
    go_wp2
    go_ret
    exact ⟨rfl, rfl⟩
  · simp only [restV, if_neg hcap]
    go_enter Tryz.func172, Tryz.ntmps172
    go_wp2
    go_ret
    exact ⟨rfl, rfl⟩
set_option maxHeartbeats 1000000 in
set_option maxRecDepth 100000 in
theorem wordOf_calls (b off n cap : Nat) (x y : Int) (w : World) (hn : 2 ≤ n) (h0 : w.cell? ⟨b, off, none⟩ = some (.int .u8 x)) (h1 : w.cell? ⟨b, off + 1, none⟩ = some (.int .u8 y)) (bx : 0 ≤ x ∧ x < 256) (by' : 0 ≤ y ∧ y < 256) :
    Calls Tryz.prog 148 #[.slice (some ⟨b, off, none⟩) n cap] w fun e w' => e = .returned (.int .u16 (x * 256 + y)) ∧ w' = w.drew := by
  have hor := or_word x y bx.1 bx.2 by'.1 by'.2
  have q0 : (0 : Int) < (n : Int) := by omega
  have q1 : (1 : Int) < (n : Int) := by omega
  go_enter Tryz.func148, Tryz.ntmps148
  go_wp2
  go_region
  all_goals
    go_wp2
    go_ret
    exact ⟨rfl, rfl⟩
set_option maxHeartbeats 1000000 in
set_option maxRecDepth 100000 in
theorem word_calls6 (R b off len cap : Nat) (x y : Int) (w : World) (hc : w.cell? ⟨R, 0, none⟩ = some (.slice (some ⟨b, off, none⟩) len cap)) (hf : w.frozen? ⟨R, 0, none⟩ = false) (hn : 2 ≤ len) (hl : len ≤ cap) (hR : b ≠ R) (h0 : w.cell? ⟨b, off, none⟩ = some (.int .u8 x)) (h1 : w.cell? ⟨b, off + 1, none⟩ = some (.int .u8 y)) (bx : 0 ≤ x ∧ x < 256) (by' : 0 ≤ y ∧ y < 256) :
    Calls Tryz.prog 160 #[.pointer (some ⟨R, 0, none⟩)] w fun e w' => e = .returned (.int .u16 (x * 256 + y)) ∧ w' = (w.setCell ⟨R, 0, none⟩ (restV b off len cap 2)).drew := by
  have HR : Hid _ := run_calls6 R b off len cap 2 w hc hf hn hl
  have k0 : (w.setCell ⟨R, 0, none⟩ (restV b off len cap 2)).cell? ⟨b, off, none⟩ = some (.int .u8 x) := (World.cell?_setCell_other _ _ _ _ (by intro c; injection c; omega)).trans h0
  have k1 : (w.setCell ⟨R, 0, none⟩ (restV b off len cap 2)).cell? ⟨b, off + 1, none⟩ = some (.int .u8 y) := (World.cell?_setCell_other _ _ _ _ (by intro c; injection c; omega)).trans h1
  generalize w.setCell ⟨R, 0, none⟩ (restV b off len cap 2) = w2 at *
  have HW : Hid _ := wordOf_calls b off 2 cap x y w2 (by decide) k0 k1 bx by'
  clear hc hf h0 h1 k0 k1
  go_enter Tryz.func160, Tryz.ntmps160
  go_wp2_with fail
  refine Calls.mono HR.out ?_
  rintro e w3 ⟨rfl, rfl⟩
  clear HR
  go_wp2_with fail
  refine Calls.mono HW.out ?_
  rintro e w4 ⟨rfl, rfl⟩
  clear HW
  go_wp2
  go_ret
  exact ⟨rfl, rfl⟩

/-- A reader's box: block R has these cells, the first is what is left: the bytes ys of an older world; nothing old is turned. -/
structure RdW (w W : World) (R : Nat) (ty : TypeId) (ys : List Int) (b off cap : Nat) (cs : List Value) : Prop where
  blk : W.heap[R]? = some (.cells (.slice (some ⟨b, off, none⟩) ys.length cap :: cs).toArray ty)
  up : w.heap.size ≤ R
  bel : Below w.heap.size w W
  row : RowS w (.slice (some ⟨b, off, none⟩) ys.length cap) ys b off cap
section
variable {w W : World} {R : Nat} {ty : TypeId} {ys : List Int} {b off cap : Nat} {cs : List Value}
theorem RdW.drew (h : RdW w W R ty ys b off cap cs) : RdW w W.drew R ty ys b off cap cs := ⟨h.blk, h.up, h.bel.drew, h.row⟩
theorem RdW.left (h : RdW w W R ty ys b off cap cs) (n : Nat) (hn : n ≤ ys.length) : RdW w (W.setCell ⟨R, 0, none⟩ (restV b off ys.length cap n)) R ty (ys.drop n) b (nxt off cap n) (cap - n) cs := by
  have hr := h.row.rest n hn
  refine ⟨?_, h.up, h.bel.setCell h.up _, ?_⟩
  · rw [blk_set h.blk, restV_eq]
    simp
  · have e := hr.val
    rw [restV_eq] at hr e
    simpa using hr
theorem RdW.set (h : RdW w W R ty ys b off cap cs) (j : Nat) (v : Value) : RdW w (W.setCell ⟨R, j + 1, none⟩ v) R ty ys b off cap (cs.set j v) := by
  refine ⟨?_, h.up, h.bel.setCell h.up _, h.row⟩
  rw [blk_set h.blk]
  simp
theorem RdW.on {W' : World} (h : RdW w W R ty ys b off cap cs) (hb : Below W.heap.size W W') : RdW w W' R ty ys b off cap cs := ⟨blk_on h.blk hb, h.up, h.bel.trans (hb.mono h.bel.size), h.row⟩
theorem RdW.cell (h : RdW w W R ty ys b off cap cs) (j : Nat) (hj : j < ys.length) : W.cell? ⟨b, off + j, none⟩ = some (.int .u8 (gz ys j)) := (h.bel.cell (p := ⟨b, off + j, none⟩) h.row.lt).trans (h.row.cell j hj)
theorem RdW.ne (h : RdW w W R ty ys b off cap cs) : b ≠ R := by have := h.row.lt; have := h.up; omega
theorem RdW.c0 (h : RdW w W R ty ys b off cap cs) : W.cell? ⟨R, 0, none⟩ = some (.slice (some ⟨b, off, none⟩) ys.length cap) := blk_cell h.blk rfl
theorem RdW.word (h : RdW w W R ty ys b off cap cs) (hn : 2 ≤ ys.length) :
    Calls Tryz.prog 160 #[.pointer (some ⟨R, 0, none⟩)] W fun e w' => e = .returned (.int .u16 (gz ys 0 * 256 + gz ys 1)) ∧ RdW w w' R ty (ys.drop 2) b (nxt off cap 2) (cap - 2) cs := by
  have h0 := h.cell 0 (by omega)
  rw [Nat.add_zero] at h0
  refine (word_calls6 R b off ys.length cap (gz ys 0) (gz ys 1) W h.c0 (blk_open h.blk 0) hn h.row.room h.ne h0 (h.cell 1 (by omega)) (h.row.fit.gz 0) (h.row.fit.gz 1)).mono ?_
  rintro e w' ⟨rfl, rfl⟩
  exact ⟨rfl, (h.left 2 hn).drew⟩
theorem RdW.run (h : RdW w W R ty ys b off cap cs) (n : Nat) (hn : n ≤ ys.length) :
    Calls Tryz.prog 172 #[.pointer (some ⟨R, 0, none⟩), .int .i64 n] W fun e w' => e = .returned (.slice (some ⟨b, off, none⟩) n cap) ∧ RdW w w' R ty (ys.drop n) b (nxt off cap n) (cap - n) cs := by
  refine (run_calls6 R b off ys.length cap n W h.c0 (blk_open h.blk 0) hn h.row.room).mono ?_
  rintro e w' ⟨rfl, rfl⟩
  exact ⟨rfl, h.left n hn⟩
end
theorem or_long (a c : Int) (ha : 0 ≤ a ∧ a ≤ 65535) (hc : 0 ≤ c ∧ c ≤ 65535) : bits .or .u32 (a * 65536) c = a * 65536 + c := by
  obtain ⟨x, rfl⟩ := Int.eq_ofNat_of_zero_le ha.1
  obtain ⟨y, rfl⟩ := Int.eq_ofNat_of_zero_le hc.1
  rw [show ((x : Int) * 65536) = ((x * 65536 : Nat) : Int) by omega, u32_or_nat (x * 65536) y (by omega) (by omega), Nat.or_comm, show x * 65536 = 2 ^ 16 * x by omega, or_hi y x 16 (by omega)]
  omega
end Go.Proofs.YtnjkagopmfenkaaGreat

namespace Go.Proofs.YtnjkagopmfenkaaGreat
open Go Go.RowKit Go.Shelf
set_option linter.unusedVariables false
set_option linter.unusedSimpArgs false

/-- A pair of a struct in cells of so many, and an error. -/
def Gave (n : Nat) (er : Int) (e : Ending) : Prop := ∃ D : List Value, D.length = n ∧ (∀ v ∈ D, v.oneCell' = true) ∧ e = .returned (.tuple #[.agg D.toArray, .int .i64 er])

theorem box_store {ty : TypeId} {n : Nat} {w : World} {R : Nat} {c : List Value} (hs : ∀ w, (Go.sizeOf ty).run Tryz.prog w = .ok n w) (h : w.heap[R]? = some (.cells c.toArray ty)) (hl : c.length = n) (V : List Value) (hV : V.length = n) (h1 : ∀ v ∈ V, v.oneCell' = true) :
    ∃ w', (Instr.storeAt ty (.pointer (some ⟨R, 0, none⟩)) (.agg V.toArray)).run Tryz.prog w = .ok () w' ∧ w'.heap[R]? = some (.cells V.toArray ty) ∧ Only R w w' := by
  refine ⟨_, agg_store hs hV h1 (fun j hj => ?_) (fun j => blk_open h j), ?_, Only.sets _ _ _ (Only.refl _ _)⟩
  · rw [Nat.zero_add, blk_cell h (j := j) (v := c[j]'(by omega)) (by simp)]
    rfl
  · rw [blk_sets V 0 c w h, setsL_all _ _ (by omega)]

set_option maxHeartbeats 1000000 in
set_option maxRecDepth 100000 in
theorem readUDP_short (v : Value) (zs : List Int) (w : World) (h : RowC w v zs) (hn : zs.length < 8) :
    Calls Tryz.prog 141 #[v] w fun e w' => Gave 5 60 e ∧ Below w.heap.size w w' := by
  obtain ⟨hf, hl, a, cap, rfl, hc, hz⟩ := h
  have q : decide ((zs.length : Int) < 8) = true := by simp; omega
  clear hz
  go_enter Tryz.func141, Tryz.ntmps141
  go_wp2
  refine bodyPost_ret (res2t rfl rfl (agg_loadVar (vs := [.slice a zs.length cap, .int .u16 0, .int .u16 0, .slice none 0 0, .int .u16 0]) Tryz.isAgg201 Tryz.sizeOf201 rfl (CellsAt.of_blk (blk_alloc (blk_new w _) _)))) rfl ⟨⟨_, ?_, ?_, rfl⟩, ((Below.refl _ w).alloc (Nat.le_refl _) _).alloc (by simp) _⟩
  · rfl
  · simp [Value.oneCell']

def wd2 (zs : List Int) (k : Nat) : Int := gz zs k * 256 + gz zs (k + 1)
theorem wd2_drop (zs : List Int) (n k : Nat) : wd2 (zs.drop n) k = wd2 zs (n + k) := by simp only [wd2, gz_drop, Nat.add_assoc]
theorem wd2_range {zs : List Int} (h : Fit zs) (k : Nat) : 0 ≤ wd2 zs k ∧ wd2 zs k ≤ 65535 := by
  have h1 := h.gz k
  have h2 := h.gz (k + 1)
  unfold wd2
  omega
theorem RdW.word' {w W : World} {R : Nat} {ty : TypeId} {ys : List Int} {b off cap : Nat} {cs : List Value} (h : RdW w W R ty ys b off cap cs) (hn : 2 ≤ ys.length) :
    Calls Tryz.prog 160 #[.pointer (some ⟨R, 0, none⟩)] W fun e w' => ∃ o k, e = .returned (.int .u16 (wd2 ys 0)) ∧ RdW w w' R ty (ys.drop 2) b o k cs :=
  (h.word hn).mono (fun e w' hr => ⟨_, _, hr.1, hr.2⟩)
theorem RdW.sets {w W : World} {R : Nat} {ty : TypeId} {ys : List Int} {b off cap : Nat} {cs : List Value} (h : RdW w W R ty ys b off cap cs) (j i : Nat) (v : Value) (hi : i = j + 1) : RdW w (W.setCell ⟨R, i, none⟩ v) R ty ys b off cap (cs.set j v) := by
  subst hi
  exact h.set j v

set_option maxHeartbeats 2000000 in
set_option maxRecDepth 100000 in
theorem readUDP_more (v : Value) (zs : List Int) (w : World) (h : RowC w v zs) (hn : 8 ≤ zs.length) :
    Calls Tryz.prog 141 #[v] w fun e w' => Below w.heap.size w w' ∧ ((wd2 zs 4 ≠ zs.length → Gave 5 61 e) ∧ (wd2 zs 4 = zs.length → ∃ b o k, e = .returned (.tuple #[.agg #[.slice (some ⟨b, o, none⟩) (zs.drop 8).length k, .int .u16 (wd2 zs 0), .int .u16 (wd2 zs 2), .slice none 0 0, .int .u16 (wd2 zs 6)], .int .i64 0]) ∧ RowS w (.slice (some ⟨b, o, none⟩) (zs.drop 8).length k) (zs.drop 8) b o k)) := by
  obtain ⟨b, off, cap, hS⟩ := h.rowS (by omega)
  have hv := hS.val
  subst hv
  clear h
  obtain ⟨Wz, hWz⟩ : ∃ Wz, (w.alloc (.cells [.slice none 0 0, .int .u16 0, .int .u16 0, .slice none 0 0, .int .u16 0].toArray 201)).alloc (.cells [.slice none 0 0, .int .u16 0, .int .u16 0, .slice none 0 0, .int .u16 0].toArray 201) = Wz := ⟨_, rfl⟩
  have hs1 : (w.alloc (.cells [.slice none 0 0, .int .u16 0, .int .u16 0, .slice none 0 0, .int .u16 0].toArray 201)).heap.size = w.heap.size + 1 := by simp
  have bz0 := blk_alloc (blk_new w (.cells [.slice none 0 0, .int .u16 0, .int .u16 0, .slice none 0 0, .int .u16 0].toArray 201)) (.cells [.slice none 0 0, .int .u16 0, .int .u16 0, .slice none 0 0, .int .u16 0].toArray 201)
  have bz1 := blk_new (w.alloc (.cells [.slice none 0 0, .int .u16 0, .int .u16 0, .slice none 0 0, .int .u16 0].toArray 201)) (.cells [.slice none 0 0, .int .u16 0, .int .u16 0, .slice none 0 0, .int .u16 0].toArray 201)
  have hBz : Below w.heap.size w Wz := by rw [← hWz]; exact ((Below.refl _ w).alloc (Nat.le_refl _) _).alloc (by simp) _
  rw [hWz] at bz0 bz1
  rw [hs1] at bz1
  obtain ⟨W1, hst, b1, hon⟩ := box_store Tryz.sizeOf201 bz1 rfl [.slice (some ⟨b, off, none⟩) zs.length cap, .int .u16 0, .int .u16 0, .slice none 0 0, .int .u16 0] rfl (by simp [Value.oneCell'])
  obtain ⟨Wa, hWa⟩ : ∃ Wa, w.alloc (.cells [.slice none 0 0, .int .u16 0, .int .u16 0, .slice none 0 0, .int .u16 0].toArray 201) = Wa := ⟨_, rfl⟩
  have ba := blk_new w (.cells [.slice none 0 0, .int .u16 0, .int .u16 0, .slice none 0 0, .int .u16 0].toArray 201)
  have hBa := (Below.refl w.heap.size w).alloc (Nat.le_refl _) (.cells [.slice none 0 0, .int .u16 0, .int .u16 0, .slice none 0 0, .int .u16 0].toArray 201)
  rw [hWa] at ba hBa hs1
  have hBl : Below Wa.heap.size Wa W1 := (by rw [← hWz, hWa]; exact (Below.refl _ _).alloc (Nat.le_refl _) _ : Below Wa.heap.size Wa Wz).trans (hon.below (by omega))
  have HST : Hid _ := hst
  have hSa : RowS Wa (.slice (some ⟨b, off, none⟩) zs.length cap) zs b off cap := ⟨rfl, hS.room, Nat.lt_of_lt_of_le hS.lt hBa.size, fun j hj => (hBa.cell (p := ⟨b, off + j, none⟩) hS.lt).trans (hS.cell j hj), hS.fit, hS.len⟩
  have h0 : RdW Wa W1 (w.heap.size + 1) 201 zs b off cap [.int .u16 0, .int .u16 0, .slice none 0 0, .int .u16 0] := ⟨b1, by omega, hBl, hSa⟩
  have q : decide ((zs.length : Int) < 8) = false := by simp; omega
  have HW0 : Hid _ := h0.word' (by omega)
  have HF : Hid (Fit zs) := hS.fit
  have BA : Hid _ := ba
  have HBA : Hid _ := hBa
  have hlt : w.heap.size < Wa.heap.size := by omega
  clear b1 hs1 hBl h0 bz0 bz1 hBz hst hon ba hBa hWa hSa
  go_enter Tryz.func141, Tryz.ntmps141
  go_wp2_with ((with_reducible show wpList _ _ _ _ _ _); refine arm_store rfl (.tmp 4) (.tmp 7) 201 rfl rfl rfl HST.out ?_)
  refine Calls.mono HW0.out ?_
  rintro _ w2 ⟨o2, k2, rfl, h2⟩
  have c2 := blk_cell h2.blk (j := 1) rfl
  have f2 := blk_open h2.blk 1
  have h3 := h2.sets 0 1 (.int .u16 (wd2 zs 0)) rfl
  have HW3 : Hid _ := h3.word' (by simp; omega)
  rw [wd2_drop, List.drop_drop] at HW3
  clear h2 h3 HW0 HST hWz
  go_wp2_with fail
  refine Calls.mono HW3.out ?_
  rintro _ w4 ⟨o4, k4, rfl, h4⟩
  have c4 := blk_cell h4.blk (j := 2) rfl
  have f4 := blk_open h4.blk 2
  have h5 := h4.sets 1 2 (.int .u16 (wd2 zs (2 + 0))) rfl
  have HW5 : Hid _ := h5.word' (by simp; omega)
  rw [wd2_drop, List.drop_drop] at HW5
  clear h4 h5 HW3 c2 f2
  go_wp2_with fail
  refine Calls.mono HW5.out ?_
  rintro _ w6 ⟨o6, k6, rfl, h6⟩
  replace h6 : RdW Wa w6 (w.heap.size + 1) 201 (zs.drop 6) b o6 k6 [.int .u16 (wd2 zs 0), .int .u16 (wd2 zs 2), .slice none 0 0, .int .u16 0] := h6
  have q6 := wd2_range HF.out 4
  clear HW5 c4 f4
  by_cases hL : wd2 zs 4 = zs.length
  · have HW7 : Hid _ := h6.word' (by simp; omega)
    rw [wd2_drop, List.drop_drop] at HW7
    have q7 : (wd2 zs 4 != (zs.length : Int)) = false := by simp [hL]
    have HLL : Hid _ := hL
    clear h6 hL
    go_wp2_with fail
    refine Calls.mono HW7.out ?_
    rintro _ w8 ⟨o8, k8, rfl, h8⟩
    replace h8 : RdW Wa w8 (w.heap.size + 1) 201 (zs.drop 8) b o8 k8 [.int .u16 (wd2 zs 0), .int .u16 (wd2 zs 2), .slice none 0 0, .int .u16 0] := h8
    have c8 := blk_cell h8.blk (j := 4) rfl
    have f8 := blk_open h8.blk 4
    have h9 := h8.sets 3 4 (.int .u16 (wd2 zs 6)) rfl
    have b9 := (h9.bel.block _ hlt).trans BA.out
    have HL : Hid _ := agg_load (t := 201) Tryz.isAgg201 Tryz.sizeOf201 rfl (CellsAt.of_blk h9.blk)
    obtain ⟨wE, hst, bE, hon⟩ := box_store Tryz.sizeOf201 b9 rfl [.slice (some ⟨b, o8, none⟩) (zs.drop 8).length k8, .int .u16 (wd2 zs 0), .int .u16 (wd2 zs 2), .slice none 0 0, .int .u16 (wd2 zs 6)] rfl (by simp [Value.oneCell'])
    have HST : Hid _ := hst
    have HBE : Hid (Below w.heap.size w wE) := (HBA.out.trans (h9.bel.mono HBA.out.size)).trans (hon.below (Nat.le_refl _))
    have HR : Hid (RowS w (.slice (some ⟨b, o8, none⟩) (zs.drop 8).length k8) (zs.drop 8) b o8 k8) := by
      have hr := h9.row
      refine ⟨rfl, hr.room, hS.lt, fun j hj => ?_, hr.fit, hr.len⟩
      exact (HBA.out.cell (p := ⟨b, o8 + j, none⟩) hS.lt).symm.trans (hr.cell j hj)
    have BE : Hid _ := bE
    clear hst bE hon h8 h9 b9 HW7
    go_wp2_with first
      | ((with_reducible show wpList _ _ _ _ _ _); refine arm_load rfl (.tmp 4) 201 rfl rfl HL.out ?_)
      | ((with_reducible show wpList _ _ _ _ _ _); refine arm_store rfl (.tmp 2) (.tmp 30) 201 rfl rfl rfl HST.out ?_)
    exact bodyPost_ret (res2t rfl rfl (agg_loadVar Tryz.isAgg201 Tryz.sizeOf201 rfl (CellsAt.of_blk BE.out))) rfl ⟨HBE.out, fun hne => absurd HLL.out hne, fun _ => ⟨b, o8, k8, rfl, HR.out⟩⟩
  · have q7 : (wd2 zs 4 != (zs.length : Int)) = true := by simp [hL]
    have b9 := (h6.bel.block _ hlt).trans BA.out
    have HL : Hid _ := agg_load (t := 201) Tryz.isAgg201 Tryz.sizeOf201 rfl (CellsAt.of_blk h6.blk)
    obtain ⟨wE, hst, bE, hon⟩ := box_store Tryz.sizeOf201 b9 rfl [.slice (some ⟨b, o6, none⟩) (zs.drop 6).length k6, .int .u16 (wd2 zs 0), .int .u16 (wd2 zs 2), .slice none 0 0, .int .u16 0] rfl (by simp [Value.oneCell'])
    have HST : Hid _ := hst
    have HBE : Hid (Below w.heap.size w wE) := (HBA.out.trans (h6.bel.mono HBA.out.size)).trans (hon.below (Nat.le_refl _))
    have BE : Hid _ := bE
    have HLL : Hid _ := hL
    clear hst bE hon h6 b9 hL
    go_wp2_with first
      | ((with_reducible show wpList _ _ _ _ _ _); refine arm_load rfl (.tmp 4) 201 rfl rfl HL.out ?_)
      | ((with_reducible show wpList _ _ _ _ _ _); refine arm_store rfl (.tmp 2) (.tmp 26) 201 rfl rfl rfl HST.out ?_)
    exact bodyPost_ret (res2t rfl rfl (agg_loadVar Tryz.isAgg201 Tryz.sizeOf201 rfl (CellsAt.of_blk BE.out))) rfl ⟨HBE.out, fun _ => ⟨_, rfl, by simp [Value.oneCell'], rfl⟩, fun he => absurd he HLL.out⟩

end Go.Proofs.YtnjkagopmfenkaaGreat

namespace Go.Proofs.YtnjkagopmfenkaaGreat
open Go Go.RowKit Go.Shelf
set_option linter.unusedVariables false
set_option linter.unusedSimpArgs false

def z4 : List Int := List.replicate 4 0
theorem z4_lit : (u8L z4).toArray = #[.int .u8 0, .int .u8 0, .int .u8 0, .int .u8 0] := rfl
def z16 : List Int := List.replicate 16 0
theorem z16_lit : (u8L z16).toArray = #[.int .u8 0, .int .u8 0, .int .u8 0, .int .u8 0, .int .u8 0, .int .u8 0, .int .u8 0, .int .u8 0, .int .u8 0, .int .u8 0, .int .u8 0, .int .u8 0, .int .u8 0, .int .u8 0, .int .u8 0, .int .u8 0] := rfl
end Go.Proofs.YtnjkagopmfenkaaGreat

namespace Go.Proofs.YtnjkagopmfenkaaGreat
open Go Go.RowKit Go.Shelf
set_option linter.unusedVariables false
set_option linter.unusedSimpArgs false

theorem ex_fieldU {o : Oper} {a : Act} {W : World} (k : Nat) (i : Nat) {b : Nat} (hop : o.op = Op.fieldAddr 174 (.tmp k) i) (hk : a.eval (.tmp k) = .pointer (some ⟨b, 0, none⟩)) (hi : i = 0 ∨ i = 1 ∨ i = 2) :
    (execOp a.eval o).run Tryz.prog W = .ok (.value (.pointer (some ⟨b, i, none⟩))) W := by
  generalize a.eval = ev at *
  rcases hi with rfl | rfl | rfl <;> simp [execOp, hop, hk, go_sem]
theorem ex_load16 {o : Oper} {a : Act} {W : World} (k : Nat) {p : Addr} {x : Int} (hop : o.op = Op.load 22 (.tmp k)) (hk : a.eval (.tmp k) = .pointer (some p)) (hc : W.cell? p = some (.int .u16 x)) :
    (execOp a.eval o).run Tryz.prog W = .ok (.value (.int .u16 x)) W := by
  generalize a.eval = ev at *
  simp [execOp, hop, hk, hc, go_sem]
theorem ex_move {P : Program} {o : Oper} {a : Act} {W : World} (p : Operand) (hop : o.op = Op.move p) {v : Value} (hp : a.eval p = v) : (execOp a.eval o).run P W = .ok (.value v) W := by
  generalize a.eval = ev at *
  simp [execOp, hop, hp, go_sem]

theorem wp_lit00 {o : Oper} {a : Act} {d : Option Nat} {w : World} {K : Act → World → Prop} {Q : Exit → Act → World → Prop} (hop : o.op = Op.buildSlice 25 2 #[(0, .const (.int .u8 0)), (1, .const (.int .u8 0))]) (hd : o.dst = d) (hK : K (a.put d (.slice (some ⟨w.heap.size, 0, none⟩) 2 2)) (w.alloc (.cells #[.int .u8 0, .int .u8 0] 5))) : o.wp Tryz.prog a w K Q := by
  subst hd
  unfold Oper.wp
  simp [execOp, hop, go_sem]
  exact hK
theorem wp_parts4 {o : Oper} {a : Act} {d : Option Nat} {w : World} {K : Act → World → Prop} {Q : Exit → Act → World → Prop} (p0 p1 p2 p3 : Operand) (hop : o.op = Op.buildSlice 109 4 #[(0, p0), (1, p1), (2, p2), (3, p3)]) (hd : o.dst = d) {v0 v1 v2 v3 : Value} (h0 : a.eval p0 = v0) (h1 : a.eval p1 = v1) (h2 : a.eval p2 = v2) (h3 : a.eval p3 = v3)
    (s0 : ∃ x n m, v0 = .slice x n m) (s1 : ∃ x n m, v1 = .slice x n m) (s2 : ∃ x n m, v2 = .slice x n m) (s3 : ∃ x n m, v3 = .slice x n m)
    (hK : K (a.put d (.slice (some ⟨w.heap.size, 0, none⟩) 4 4)) (w.alloc (.cells #[v0, v1, v2, v3] 25))) : o.wp Tryz.prog a w K Q := by
  obtain ⟨x0, n0, m0, rfl⟩ := s0
  obtain ⟨x1, n1, m1, rfl⟩ := s1
  obtain ⟨x2, n2, m2, rfl⟩ := s2
  obtain ⟨x3, n3, m3, rfl⟩ := s3
  subst hd
  unfold Oper.wp
  generalize hev : a.eval = ev at *
  simp [execOp, hop, h0, h1, h2, h3, go_sem]
  exact hK
theorem BytesAt.slc {n : Nat} {W : World} {v : Value} {zs : List Int} (h : BytesAt n W v zs) : ∃ x n m, v = .slice x n m := by
  obtain ⟨x, m, e, _⟩ := h.val
  exact ⟨x, _, m, e⟩

/-- A region that draws, by what it leaves. -/
theorem region_mid {P : Program} {id : Nat} {ops : Array Oper} {Q : Exit → Act → World → Prop} {a : Act} {w : World} (M : Act → Act → World → Prop) (h : (Code.region id ops true).wp P (fun e a' w' => e = .normal ∧ M a a' w') a w) (hM : ∀ a' w', M a a' w' → Q .normal a' w') : (Code.region id ops true).wp P Q a w :=
  wp_mono h (fun e a' w' ⟨he, hm⟩ => he ▸ hM a' w' hm)

def rudpL (ph : Int → Int → List Int) (src dst : Int) (data : List Int) : List Int :=
  w2 src ++ w2 dst ++ w2 (8 + (data.length : Int)) ++ w2 (nz (65535 - sumW 0 (wordsL (ph 17 (8 + (data.length : Int)) ++ (w2 src ++ w2 dst ++ w2 (8 + (data.length : Int)) ++ ([0, 0] ++ data)))))) ++ data
end Go.Proofs.YtnjkagopmfenkaaGreat
