/-
  Port sets: the shape of a set.
-/
import Derived.Test.YtmcofmdogopfjaaPa2
import Derived.Test.YtmcofmdogopfjaaAgg
namespace Go.Proofs.Ytmcofmdogopfjaa
open Go Go.RowKit
set_option linter.unusedVariables false
set_option linter.unusedSimpArgs false

def sz (o l : Nat) : Nat := 2 ^ (16 - o - l)
def st (o : Nat) : Nat := 2 ^ (16 - o)
def one (o : Nat) : Nat := if 0 < o then 1 else 0
def fr (o l p : Nat) : Nat := p * sz o l + one o * st o
def bk (o : Nat) : Nat := 2 ^ o - one o
abbrev SH (f s t b : Int) : Value := .agg #[.int .i64 f, .int .i64 s, .int .i64 t, .int .i64 b]
theorem cast_pow (k : Nat) : (2 : Int) ^ k = ((2 ^ k : Nat) : Int) := by rw [Int.natCast_pow]; rfl
theorem sz_eq (o l : Nat) (ho : o ≤ 15) (hl : l ≤ 16 - o) : ((2 : Int) ^ (16 - o)) / 2 ^ l = (sz o l : Nat) := by
  rw [cast_pow, cast_pow, ← Int.natCast_ediv]
  unfold sz
  rw [Nat.pow_div (by omega) (by omega)]

theorem res_cell1 {P : Program} {fn : Func} {a : Tmp} {t : TypeId} (h : fn.results = #[.cell a t]) {tmps : Array Value} {R : Addr} (hp : tmps.getD a undef = .pointer (some R)) {v : Value} {w : World} (hl : (loadVar t R).run P w = .ok v w) :
    (results fn tmps).run P w = .ok v w := by
  rw [Array.getD_eq_getD_getElem?] at hp
  simp [results, h, hp, asAddr, hl]
theorem sz_le (o l : Nat) : 1 ≤ sz o l ∧ sz o l ≤ 65536 := ⟨Nat.one_le_two_pow, pow16 (by omega)⟩
theorem st_le (o : Nat) : 1 ≤ st o ∧ st o ≤ 65536 := ⟨Nat.one_le_two_pow, pow16 (by omega)⟩

theorem blk_mid (w : World) (A B C : Obj) : (((w.alloc A).alloc B).alloc C).drew.heap[w.heap.size + 1]? = some B := by
  have h := blk_alloc (blk_new (w.alloc A) B) C
  rw [show (w.alloc A).heap.size = w.heap.size + 1 by simp] at h
  exact h
theorem shapeCells (f s t b : Int) {w : World} {R : Nat} (h : w.heap[R]? = some (.cells #[.int .i64 f, .int .i64 s, .int .i64 t, .int .i64 b] 62)) : (loadVar 62 ⟨R, 0, none⟩).run Try.prog w = .ok (SH f s t b) w :=
  agg_loadVar Try.isAgg62 Try.sizeOf62 (vs := [.int .i64 f, .int .i64 s, .int .i64 t, .int .i64 b]) rfl (CellsAt.of_blk h)

set_option maxHeartbeats 1000000 in
theorem shapeOf_calls (o l p : Nat) (w : World) (ho : o ≤ 15) (hl : l ≤ 16 - o) (hp : p < 2 ^ l) :
    Calls Try.prog 29 #[PS o l p] w fun e w' => e = .returned (SH (fr o l p) (sz o l) (st o) (bk o)) ∧ Below w.heap.size w w' := by
  have HS : Hid _ := sz_eq o l ho hl
  have k1 := pow_le16 (l := o) (by omega)
  have k2 := pow_ge1 o
  have k3 := pow_le16 (l := 16 - o) (by omega)
  have k4 := pow_ge1 (16 - o)
  have k5 := pow16 (l := l) (by omega)
  obtain ⟨s1, s2⟩ := sz_le o l
  have hm : (p : Int) * (sz o l : Nat) = ((p * sz o l : Nat) : Int) := by rw [Int.natCast_mul]
  have hm2 : p * sz o l ≤ 65536 * 65536 := Nat.mul_le_mul (by omega) s2
  have HE : Hid (fr o l p = p * sz o l + one o * st o) := rfl
  have HB : Hid (bk o = 2 ^ o - one o) := rfl
  generalize fr o l p = R1 at *
  generalize bk o = R2 at *
  generalize sz o l = s at *
  generalize p * s = q at *
  go_enter Try.func29, Try.ntmps29
  go_wp2
  rw [HS.out]
  go_region
  go_wp2
  · refine bodyPost_ret (res_cell1 rfl rfl (shapeCells _ _ _ _ (blk_mid _ _ _ _))) rfl ⟨?_, ((((bA w _).alloc (by simp) _).alloc (by simp; omega) _).drew)⟩
    have e1 : (q : Int) + 2 ^ (16 - o) = (R1 : Int) := by
      rw [HE.out, cast_pow]; unfold one; rw [if_pos (by assumption)]; unfold st; omega
    have e2 : (2 : Int) ^ o - 1 = (R2 : Int) := by
      rw [HB.out, cast_pow]; unfold one; rw [if_pos (by assumption)]
      have := Nat.two_pow_pos o
      omega
    rw [e1, e2, cast_pow]
    rfl
  · refine bodyPost_ret (res_cell1 rfl rfl (shapeCells _ _ _ _ (blk_mid _ _ _ _))) rfl ⟨?_, ((((bA w _).alloc (by simp) _).alloc (by simp; omega) _).drew)⟩
    have e1 : q = R1 := by
      rw [HE.out]; unfold one; rw [if_neg (by assumption)]; omega
    have e2 : (2 : Int) ^ o = (R2 : Int) := by
      rw [HB.out, cast_pow]; unfold one; rw [if_neg (by assumption)]
      have := Nat.two_pow_pos o
      omega
    rw [e1, e2, cast_pow]
    rfl

def cnt (o l : Nat) : Nat := bk o * sz o l
def atN (o l p i : Nat) : Nat := fr o l p + i / sz o l * st o + i % sz o l
set_option maxHeartbeats 1000000 in
theorem count_calls (f s t b : Nat) (w : World) (hs : s ≤ 65536) (hb : b ≤ 65536) :
    Calls Try.prog 30 #[SH f s t b] w fun e w' => e = .returned (.int .i64 ((b * s : Nat) : Int)) ∧ Below w.heap.size w w' := by
  have hm : (b : Int) * (s : Int) = ((b * s : Nat) : Int) := by rw [Int.natCast_mul]
  have hm2 : b * s ≤ 65536 * 65536 := Nat.mul_le_mul hb hs
  generalize b * s = q at *
  go_enter Try.func30, Try.ntmps30
  go_wp2
  go_ret
  exact ⟨rfl, bA w _⟩

set_option maxHeartbeats 1000000 in
theorem at_calls (f s t b i : Nat) (w : World) (hs : 1 ≤ s ∧ s ≤ 65536) (ht : t ≤ 65536) (hi : i ≤ 65536) (hf : f ≤ 65536 * 65536 + 65536) :
    Calls Try.prog 32 #[SH f s t b, .int .i64 i] w fun e w' => e = .returned (.int .u16 (((f + i / s * t + i % s) % 65536 : Nat) : Int)) ∧ Below w.heap.size w w' := by
  have h1 : (i : Int).tdiv (s : Int) = ((i / s : Nat) : Int) := by rw [← Int.ofNat_tdiv]
  have h2 : (i : Int).tmod (s : Int) = ((i % s : Nat) : Int) := by rw [← Int.ofNat_tmod]
  have h3 : ((i / s : Nat) : Int) * (t : Int) = ((i / s * t : Nat) : Int) := by rw [Int.natCast_mul]
  have h4 : i / s * t ≤ 65536 * 65536 := Nat.mul_le_mul (Nat.le_trans (Nat.div_le_self _ _) hi) ht
  have h5 : i % s ≤ 65536 := Nat.le_trans (Nat.le_of_lt (Nat.mod_lt _ hs.1)) hs.2
  have HW : Hid _ := wrap_u16 (f + i / s * t + i % s)
  have h6 : i / s ≤ 65536 := Nat.le_trans (Nat.div_le_self _ _) hi
  have h7 : ((s : Int) == 0) = false := beq_eq_false_iff_ne.2 (by omega)
  generalize i / s * t = q at *
  generalize i / s = d at *
  generalize i % s = r at *
  generalize (f + q + r) % 65536 = R at *
  go_enter Try.func32, Try.ntmps32
  go_wp2
  go_quiet (fail)
  go_wp2
  go_ret
  exact ⟨by rw [← HW.out]; rfl, bD (bA w _) _⟩

end Go.Proofs.Ytmcofmdogopfjaa
