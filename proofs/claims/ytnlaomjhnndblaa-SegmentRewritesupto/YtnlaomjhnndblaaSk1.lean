/-
  Bytes that are read from the front: run, wordOf, word, long of package segment; readUDP.
-/
import Derived.Test.YtnlaomjhnndblaaSi4
namespace Go.Proofs.Ytnlaomjhnndblaa
open Go Go.RowKit Go.Shelf
set_option linter.unusedVariables false
set_option linter.unusedSimpArgs false

set_option maxHeartbeats 1000000 in
set_option maxRecDepth 100000 in
theorem run_calls6 (R b off len cap n : Nat) (w : World) (hc : w.cell? ⟨R, 0, none⟩ = some (.slice (some ⟨b, off, none⟩) len cap)) (hf : w.frozen? ⟨R, 0, none⟩ = false) (hn : n ≤ len) (hl : len ≤ cap) :
    Calls Try.prog 80 #[.pointer (some ⟨R, 0, none⟩), .int .i64 n] w fun e w' => e = .returned (.slice (some ⟨b, off, none⟩) n cap) ∧ w' = w.setCell ⟨R, 0, none⟩ (restV b off len cap n) := by
  by_cases hcap : cap = n
  · subst hcap
    obtain rfl : len = cap := by omega
    simp only [restV, if_true, Nat.sub_self]
    go_enter Try.func80, Try.ntmps80
    go_wp2
    go_ret
    exact ⟨rfl, rfl⟩
  · simp only [restV, if_neg hcap]
    go_enter Try.func80, Try.ntmps80
    go_wp2
    go_ret
    exact ⟨rfl, rfl⟩
set_option maxHeartbeats 1000000 in
set_option maxRecDepth 100000 in
theorem wordOf_calls (b off n cap : Nat) (x y : Int) (w : World) (hn : 2 ≤ n) (h0 : w.cell? ⟨b, off, none⟩ = some (.int .u8 x)) (h1 : w.cell? ⟨b, off + 1, none⟩ = some (.int .u8 y)) (bx : 0 ≤ x ∧ x < 256) (by' : 0 ≤ y ∧ y < 256) :
    Calls Try.prog 54 #[.slice (some ⟨b, off, none⟩) n cap] w fun e w' => e = .returned (.int .u16 (x * 256 + y)) ∧ w' = w.drew := by
  have hor := or_word x y bx.1 bx.2 by'.1 by'.2
  have q0 : (0 : Int) < (n : Int) := by omega
  have q1 : (1 : Int) < (n : Int) := by omega
  go_enter Try.func54, Try.ntmps54
  go_wp2
  go_region
  all_goals
    go_wp2
    go_ret
    exact ⟨rfl, rfl⟩
set_option maxHeartbeats 1000000 in
set_option maxRecDepth 100000 in
theorem word_calls6 (R b off len cap : Nat) (x y : Int) (w : World) (hc : w.cell? ⟨R, 0, none⟩ = some (.slice (some ⟨b, off, none⟩) len cap)) (hf : w.frozen? ⟨R, 0, none⟩ = false) (hn : 2 ≤ len) (hl : len ≤ cap) (hR : b ≠ R) (h0 : w.cell? ⟨b, off, none⟩ = some (.int .u8 x)) (h1 : w.cell? ⟨b, off + 1, none⟩ = some (.int .u8 y)) (bx : 0 ≤ x ∧ x < 256) (by' : 0 ≤ y ∧ y < 256) :
    Calls Try.prog 77 #[.pointer (some ⟨R, 0, none⟩)] w fun e w' => e = .returned (.int .u16 (x * 256 + y)) ∧ w' = (w.setCell ⟨R, 0, none⟩ (restV b off len cap 2)).drew := by
  have HR : Hid _ := run_calls6 R b off len cap 2 w hc hf hn hl
  have k0 : (w.setCell ⟨R, 0, none⟩ (restV b off len cap 2)).cell? ⟨b, off, none⟩ = some (.int .u8 x) := (World.cell?_setCell_other _ _ _ _ (by intro c; injection c; omega)).trans h0
  have k1 : (w.setCell ⟨R, 0, none⟩ (restV b off len cap 2)).cell? ⟨b, off + 1, none⟩ = some (.int .u8 y) := (World.cell?_setCell_other _ _ _ _ (by intro c; injection c; omega)).trans h1
  generalize w.setCell ⟨R, 0, none⟩ (restV b off len cap 2) = w2 at *
  have HW : Hid _ := wordOf_calls b off 2 cap x y w2 (by decide) k0 k1 bx by'
  clear hc hf h0 h1 k0 k1
  go_enter Try.func77, Try.ntmps77
  go_wp2_with fail
  refine Calls.mono HR.out ?_
  rintro e w3 ⟨rfl, rfl⟩
  clear HR
  go_wp2_with fail
  refine Calls.mono HW.out ?_
  rintro e w4 ⟨rfl, rfl⟩
  clear HW
  go_wp2
  go_ret
  exact ⟨rfl, rfl⟩

/-- A reader's box: block R has these cells, the first is what is left: the bytes ys of an older world; nothing old is turned. -/
structure RdW (w W : World) (R : Nat) (ty : TypeId) (ys : List Int) (b off cap : Nat) (cs : List Value) : Prop where
  blk : W.heap[R]? = some (.cells (.slice (some ⟨b, off, none⟩) ys.length cap :: cs).toArray ty)
  up : w.heap.size ≤ R
  bel : Below w.heap.size w W
  row : RowS w (.slice (some ⟨b, off, none⟩) ys.length cap) ys b off cap
section
variable {w W : World} {R : Nat} {ty : TypeId} {ys : List Int} {b off cap : Nat} {cs : List Value}
theorem RdW.drew (h : RdW w W R ty ys b off cap cs) : RdW w W.drew R ty ys b off cap cs := ⟨h.blk, h.up, h.bel.drew, h.row⟩
theorem RdW.left (h : RdW w W R ty ys b off cap cs) (n : Nat) (hn : n ≤ ys.length) : RdW w (W.setCell ⟨R, 0, none⟩ (restV b off ys.length cap n)) R ty (ys.drop n) b (nxt off cap n) (cap - n) cs := by
  have hr := h.row.rest n hn
  refine ⟨?_, h.up, h.bel.setCell h.up _, ?_⟩
  · rw [blk_set h.blk, restV_eq]
    simp
  · have e := hr.val
    rw [restV_eq] at hr e
    simpa using hr
theorem RdW.set (h : RdW w W R ty ys b off cap cs) (j : Nat) (v : Value) : RdW w (W.setCell ⟨R, j + 1, none⟩ v) R ty ys b off cap (cs.set j v) := by
  refine ⟨?_, h.up, h.bel.setCell h.up _, h.row⟩
  rw [blk_set h.blk]
  simp
theorem RdW.on {W' : World} (h : RdW w W R ty ys b off cap cs) (hb : Below W.heap.size W W') : RdW w W' R ty ys b off cap cs := ⟨blk_on h.blk hb, h.up, h.bel.trans (hb.mono h.bel.size), h.row⟩
theorem RdW.cell (h : RdW w W R ty ys b off cap cs) (j : Nat) (hj : j < ys.length) : W.cell? ⟨b, off + j, none⟩ = some (.int .u8 (gz ys j)) := (h.bel.cell (p := ⟨b, off + j, none⟩) h.row.lt).trans (h.row.cell j hj)
theorem RdW.ne (h : RdW w W R ty ys b off cap cs) : b ≠ R := by have := h.row.lt; have := h.up; omega
theorem RdW.c0 (h : RdW w W R ty ys b off cap cs) : W.cell? ⟨R, 0, none⟩ = some (.slice (some ⟨b, off, none⟩) ys.length cap) := blk_cell h.blk rfl
theorem RdW.word (h : RdW w W R ty ys b off cap cs) (hn : 2 ≤ ys.length) :
    Calls Try.prog 77 #[.pointer (some ⟨R, 0, none⟩)] W fun e w' => e = .returned (.int .u16 (gz ys 0 * 256 + gz ys 1)) ∧ RdW w w' R ty (ys.drop 2) b (nxt off cap 2) (cap - 2) cs := by
  have h0 := h.cell 0 (by omega)
  rw [Nat.add_zero] at h0
  refine (word_calls6 R b off ys.length cap (gz ys 0) (gz ys 1) W h.c0 (blk_open h.blk 0) hn h.row.room h.ne h0 (h.cell 1 (by omega)) (h.row.fit.gz 0) (h.row.fit.gz 1)).mono ?_
  rintro e w' ⟨rfl, rfl⟩
  exact ⟨rfl, (h.left 2 hn).drew⟩
theorem RdW.run (h : RdW w W R ty ys b off cap cs) (n : Nat) (hn : n ≤ ys.length) :
    Calls Try.prog 80 #[.pointer (some ⟨R, 0, none⟩), .int .i64 n] W fun e w' => e = .returned (.slice (some ⟨b, off, none⟩) n cap) ∧ RdW w w' R ty (ys.drop n) b (nxt off cap n) (cap - n) cs := by
  refine (run_calls6 R b off ys.length cap n W h.c0 (blk_open h.blk 0) hn h.row.room).mono ?_
  rintro e w' ⟨rfl, rfl⟩
  exact ⟨rfl, h.left n hn⟩
end
theorem or_long (a c : Int) (ha : 0 ≤ a ∧ a ≤ 65535) (hc : 0 ≤ c ∧ c ≤ 65535) : bits .or .u32 (a * 65536) c = a * 65536 + c := by
  obtain ⟨x, rfl⟩ := Int.eq_ofNat_of_zero_le ha.1
  obtain ⟨y, rfl⟩ := Int.eq_ofNat_of_zero_le hc.1
  rw [show ((x : Int) * 65536) = ((x * 65536 : Nat) : Int) by omega, u32_or_nat (x * 65536) y (by omega) (by omega), Nat.or_comm, show x * 65536 = 2 ^ 16 * x by omega, or_hi y x 16 (by omega)]
  omega
set_option maxHeartbeats 1000000 in
set_option maxRecDepth 100000 in
theorem RdW.long {w W : World} {R : Nat} {ty : TypeId} {ys : List Int} {b off cap : Nat} {cs : List Value} (h : RdW w W R ty ys b off cap cs) (hn : 4 ≤ ys.length) :
    Calls Try.prog 87 #[.pointer (some ⟨R, 0, none⟩)] W fun e w' => ∃ o k, e = .returned (.int .u32 ((gz ys 0 * 256 + gz ys 1) * 65536 + (gz ys 2 * 256 + gz ys 3))) ∧ RdW w w' R ty (ys.drop 4) b o k cs := by
  have f0 := h.row.fit.gz 0
  have f1 := h.row.fit.gz 1
  have f2 := h.row.fit.gz 2
  have f3 := h.row.fit.gz 3
  have hor := or_long (gz ys 0 * 256 + gz ys 1) (gz ys 2 * 256 + gz ys 3) (by omega) (by omega)
  have HW : Hid _ := h.word (by omega)
  have e2 : gz (ys.drop 2) 0 = gz ys 2 := by rw [gz_drop]
  have e3 : gz (ys.drop 2) 1 = gz ys 3 := by rw [gz_drop]
  have ed : (ys.drop 2).drop 2 = ys.drop 4 := by rw [List.drop_drop]
  have HW2 : Hid (∀ W', RdW w W' R ty (ys.drop 2) b (nxt off cap 2) (cap - 2) cs → Calls Try.prog 77 #[.pointer (some ⟨R, 0, none⟩)] W' fun e w' => ∃ v, e = .returned v ∧ (v = .int .u16 (gz ys 2 * 256 + gz ys 3) ∧ RdW w w' R ty (ys.drop 4) b (nxt (nxt off cap 2) (cap - 2) 2) (cap - 2 - 2) cs)) := fun W' h' => (h'.word (by simp; omega)).mono (fun e w' hr => by rw [e2, e3, ed] at hr; exact ⟨_, hr.1, rfl, hr.2⟩)
  have hX : 0 ≤ gz ys 0 * 256 + gz ys 1 ∧ gz ys 0 * 256 + gz ys 1 ≤ 65535 := by omega
  have hY : 0 ≤ gz ys 2 * 256 + gz ys 3 ∧ gz ys 2 * 256 + gz ys 3 ≤ 65535 := by omega
  generalize gz ys 0 * 256 + gz ys 1 = X at *
  generalize gz ys 2 * 256 + gz ys 3 = Y at *
  have q1 : X % 4294967296 = X := by omega
  have q2 : Y % 4294967296 = Y := by omega
  have q3 : X * 65536 % 4294967296 = X * 65536 := by omega
  clear h e2 e3 ed
  go_enter Try.func87, Try.ntmps87
  go_wp2_with fail
  refine Calls.mono HW.out ?_
  rintro e w1 ⟨rfl, h1⟩
  have H1 : Hid _ := HW2.out w1 h1
  clear h1 HW HW2
  go_wp2_with fail
  refine Calls.mono H1.out ?_
  rintro e w2 ⟨_, rfl, rfl, h2⟩
  have H2 : Hid _ := h2
  clear h2 H1
  go_wp2
  go_ret
  exact ⟨_, _, rfl, H2.out⟩

end Go.Proofs.Ytnlaomjhnndblaa
