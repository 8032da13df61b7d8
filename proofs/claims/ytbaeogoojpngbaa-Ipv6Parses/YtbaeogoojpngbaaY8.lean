/-
  begin of package ipv6.
-/
import Derived.Test.YtbaeogoojpngbaaY7
namespace Go.Proofs.Ytbaeogoojpngbaa
open Go Go.RowKit
set_option linter.unusedVariables false
set_option linter.unusedSimpArgs false

theorem st_u8 {W : World} {b j : Nat} {c : List Value} {t : TypeId} (h : W.heap[b]? = some (.cells c.toArray t)) (hj : j < c.length) (x : Int) : (Instr.storeAt 5 (.pointer (some ⟨b, j, none⟩)) (.int .u8 x)).run Try.prog W = .ok () (W.setCell ⟨b, j, none⟩ (.int .u8 x)) := by
  have h1 : W.cell? ⟨b, j, none⟩ = some (c[j]'hj) := blk_cell h (by simp)
  have h2 := blk_open h j
  simp [Instr.storeAt, go_sem, h1, h2]

def fltP (at' e : Int) : PanicEntry := { v := .iface 58 (.agg #[.int .i64 at', .int .i64 e]), recovered := false }
set_option maxHeartbeats 1000000 in
theorem must_bad (at' e : Int) (w : World) : Calls Try.prog 32 #[.bool false, .int .i64 at', .int .i64 e] w fun e' w' => e' = .panicked [fltP at' e] ∧ w' = w := by
  unfold fltP
  go_enter Try.func32, Try.ntmps32
  go_wp2
  exact ⟨rfl, rfl, rfl⟩
set_option maxHeartbeats 1000000 in
theorem must_good (at' e : Int) (w : World) : Calls Try.prog 32 #[.bool true, .int .i64 at', .int .i64 e] w fun e' w' => e' = .returned (.tuple #[]) ∧ w' = w := by
  go_enter Try.func32, Try.ntmps32
  go_wp2
  go_end0
  exact ⟨rfl, rfl⟩
theorem and_label (N : Int) (h : 0 ≤ N ∧ N ≤ 4294967295) : bits .and .u32 N 1048575 = N % 1048576 := by
  obtain ⟨x, rfl⟩ := Int.eq_ofNat_of_zero_le h.1
  rw [show (1048575 : Int) = ((1048575 : Nat) : Int) from rfl, u32_and_nat x 1048575 (by omega) (by omega), show (1048575 : Nat) = 2 ^ 20 - 1 from rfl, Nat.and_two_pow_sub_one_eq_mod]
  omega
/-- What a reader begins with. -/
def fst4 (cls lab : Int) : F6 := ⟨cls, lab, 0, 0, List.replicate 32 (.int .u8 0), rfl, fun v hv => by rw [(List.mem_replicate.1 hv).2]; rfl⟩
def clsN (zs : List Int) : Int := gz zs 0 % 16 * 16 + gz zs 1 / 16
def labN (zs : List Int) : Int := gz zs 1 % 16 * 65536 + gz zs 2 * 256 + gz zs 3
abbrev c0 (cls lab : Int) : List Value := vC (fst4 cls lab) zG (.slice none 0 0) (.slice none 0 0)
section
variable {w : World} {v : Value} {zs : List Int}
set_option maxHeartbeats 4000000 in
set_option maxRecDepth 100000 in
theorem begin_short (h : BS (fun b => b < w.heap.size) w v zs) (hl : zs.length < 40) : Calls Try.prog 31 #[v] w fun e w' => e = .panicked [fltP 0 50] ∧ Below w.heap.size w w' := by
  obtain ⟨_, _, a, cap, rfl, _⟩ := h.row
  have q : decide ((40 : Int) ≤ (zs.length : Int)) = false := by simp; omega
  clear h
  generalize zs.length = n at *
  go_enter Try.func31, Try.ntmps31
  go_wp2_with fail
  refine Calls.mono (must_bad _ _ _) ?_
  rintro e w1 ⟨rfl, hw⟩
  obtain rfl := hw.symm
  exact ⟨rfl, rfl, Below.refl _ _⟩
set_option maxHeartbeats 4000000 in
set_option maxRecDepth 100000 in
theorem begin_long (h : BS (fun b => b < w.heap.size) w v zs) (hl : 40 ≤ zs.length) (X : Ending → World → Prop)
    (hno : gz zs 0 / 16 ≠ 6 → ∀ w', Below w.heap.size w w' → X (.panicked [fltP 0 51]) w')
    (hyes : gz zs 0 / 16 = 6 → ∀ w' left, RB (fun b => b < w.heap.size) w' w.heap.size (zs.drop 6) 6 (c0 (clsN zs) (labN zs)) 0 left → Below w.heap.size w w' → X (.returned (.tuple #[.pointer (some ⟨w.heap.size, 0, none⟩), .int .i64 (lenN zs)])) w') :
    Calls Try.prog 31 #[v] w X := by
  have hs1 := h.one
  obtain ⟨W0, hW0⟩ : ∃ W0, W0 = w.alloc (RBox v 0 zeroV 0) := ⟨_, rfl⟩
  have hB0 : Below w.heap.size w W0 := by rw [hW0]; exact (Below.refl w.heap.size w).alloc (Nat.le_refl _) _
  have hR0 : RB (fun b => b < w.heap.size) W0 w.heap.size zs 0 zeroV 0 v := ⟨by rw [hW0]; exact blk_new w _, h.on hB0, by omega, by omega⟩
  have HLG : Hid _ := long_calls hR0 (by omega) (by omega)
  have HB0 : Hid (Below w.heap.size w W0) := hB0
  have f0 := gz_fit h.row.fit 0
  have f1 := gz_fit h.row.fit 1
  have f2 := gz_fit h.row.fit 2
  have f3 := gz_fit h.row.fit 3
  obtain ⟨N, hN⟩ : ∃ N, gz zs 0 * 16777216 + gz zs 1 * 65536 + gz zs 2 * 256 + gz zs 3 = N := ⟨_, rfl⟩
  rw [hN] at HLG
  have hNr : 0 ≤ N ∧ N ≤ 4294967295 := by omega
  have hv28 : N / 268435456 = gz zs 0 / 16 := by omega
  have hcl : N / 1048576 % 256 = clsN zs := by unfold clsN; omega
  have hlb : N % 1048576 = labN zs := by unfold labN; omega
  have hand := and_label N hNr
  rw [hlb] at hand
  have HW2 : Hid (∀ Y c l, RB (fun b => b < w.heap.size) Y w.heap.size (zs.drop 4) 4 c 0 l → Calls Try.prog 45 #[.pointer (some ⟨w.heap.size, 0, none⟩)] Y fun e w' => ∃ left', e = .returned (.int .u16 (lenN zs)) ∧ RB (fun b => b < w.heap.size) w' w.heap.size (zs.drop 6) 6 c 0 left' ∧ Only w.heap.size Y w') := fun Y c l hY => by
    have := word_calls hY (by rw [List.length_drop]; omega) (by omega)
    rw [List.drop_drop] at this
    have g2 : gz (zs.drop 4) 0 = gz zs 4 := by unfold gz; rw [List.getElem?_drop]
    have g3 : gz (zs.drop 4) 1 = gz zs 5 := by unfold gz; rw [List.getElem?_drop]
    rw [g2, g3] at this
    exact this
  have hln : 0 ≤ lenN zs ∧ lenN zs < 65536 := by
    have f4 := gz_fit h.row.fit 4
    have f5 := gz_fit h.row.fit 5
    unfold lenN; omega
  obtain ⟨_, _, a, cap, e, _⟩ := h.row
  subst e
  have q : decide ((40 : Int) ≤ (zs.length : Int)) = true := by simp; omega
  have HNO : Hid _ := hno
  have HYES : Hid _ := hyes
  have HZ6 : Hid _ := hv28
  generalize hcE : clsN zs = CL at *
  generalize hlE : labN zs = LB at *
  generalize hnE : lenN zs = LN at *
  generalize hLe : zs.length = zl at *
  have hW : w.alloc (.cells (#[.slice a zl cap, .int .i64 0, .int .u8 0, .int .u32 0, .int .u8 0, .int .u8 0, .int .u8 0, .int .u8 0, .int .u8 0, .int .u8 0, .int .u8 0, .int .u8 0, .int .u8 0, .int .u8 0, .int .u8 0, .int .u8 0, .int .u8 0, .int .u8 0, .int .u8 0, .int .u8 0, .int .u8 0, .int .u8 0, .int .u8 0, .int .u8 0, .int .u8 0, .int .u8 0, .int .u8 0, .int .u8 0, .int .u8 0, .int .u8 0, .int .u8 0, .int .u8 0, .int .u8 0, .int .u8 0, .int .u8 0, .int .u8 0, .int .u8 0, .slice none 0 0, .bool false, .int .u32 0, .int .i64 0, .bool false, .int .u8 0, .slice none 0 0, .int .u8 0] : Array Value) 76) = W0 := hW0.symm
  clear h hR0 hB0 hN hW0 hno hyes hv28 hlb f0 f1 f2 f3 hcE hlE hnE hLe
  go_enter Try.func31, Try.ntmps31
  go_wp2_with fail
  refine Calls.mono (must_good _ _ _) ?_
  rintro e w1 ⟨rfl, hw⟩
  obtain rfl := hw.symm
  clear hw
  go_wp2_with fail
  refine Calls.mono HLG.out ?_
  rintro e w2 ⟨l2, rfl, hr2, ho2⟩
  have HR2 : Hid (RB (fun b => b < w.heap.size) w2 w.heap.size (zs.drop 4) 4 zeroV 0 l2) := by rw [Nat.zero_add] at hr2; exact hr2
  have HB2 : Hid (Below w.heap.size w w2) := HB0.out.trans (ho2.below (Nat.le_refl _))
  clear hr2 ho2 HLG HB0 hW
  by_cases h6 : gz zs 0 / 16 = 6
  · have q6 : (N / 268435456 == 6) = true := by have := HZ6.out; simp; omega
    obtain ⟨w3, hst3, hr3, hon3⟩ : ∃ w3, (Instr.storeAt 5 (.pointer (some ⟨w.heap.size, 2, none⟩)) (.int .u8 CL)).run Try.prog w2 = .ok () w3 ∧ RB (fun b => b < w.heap.size) w3 w.heap.size (zs.drop 4) 4 (zeroV.set 0 (.int .u8 CL)) 0 l2 ∧ Only w.heap.size w2 w3 := ⟨_, st_u8 HR2.out.box (j := 2) (by rw [rC_len]; decide) CL, HR2.out.put (j := 0) (by decide) (.int .u8 CL), (Only.refl _ w2).set 2 _⟩
    obtain ⟨w4, hst4, hr4, hon4⟩ : ∃ w4, (Instr.storeAt 22 (.pointer (some ⟨w.heap.size, 3, none⟩)) (.int .u32 LB)).run Try.prog w3 = .ok () w4 ∧ RB (fun b => b < w.heap.size) w4 w.heap.size (zs.drop 4) 4 ((zeroV.set 0 (.int .u8 CL)).set 1 (.int .u32 LB)) 0 l2 ∧ Only w.heap.size w3 w4 := ⟨_, st_u32 hr3.box (j := 3) (by rw [rC_len, List.length_set]; decide) LB, hr3.put (j := 1) (by rw [List.length_set]; decide) (.int .u32 LB), (Only.refl _ w3).set 3 _⟩
    rw [← hcl] at hst3
    have HS3 : Hid _ := hst3
    have HS4 : Hid _ := hst4
    have HC2 : Hid _ := HW2.out _ _ _ hr4
    have HB4 : Hid (Below w.heap.size w w4) := HB2.out.trans ((hon3.trans hon4).below (Nat.le_refl _))
    have HCC : Hid ((zeroV.set 0 (.int .u8 CL)).set 1 (.int .u32 LB) = c0 CL LB) := rfl
    clear hr3 hr4 hst3 hst4 hon3 hon4 hcl
    go_wp2_with fail
    refine Calls.mono (must_good _ _ _) ?_
    rintro e w3 ⟨rfl, hw⟩
    obtain rfl := hw.symm
    clear hw
    go_wp2_with first
      | ((with_reducible show wpList _ _ _ ({ dst := _, op := Op.store 5 (Operand.tmp 31) (Operand.tmp 26), type := _, pos := _, after := _, guard := _ } :: _) _ _); refine armS (.tmp 31) (Operand.tmp 26) 5 rfl rfl rfl rfl HS3.out ?_; try simp only [Act.put])
      | ((with_reducible show wpList _ _ _ ({ dst := _, op := Op.store 22 (Operand.tmp 34) (Operand.tmp 28), type := _, pos := _, after := _, guard := _ } :: _) _ _); refine armS (.tmp 34) (Operand.tmp 28) 22 rfl rfl rfl rfl HS4.out ?_; try simp only [Act.put])
    refine Calls.mono HC2.out ?_
    rintro e w5 ⟨l5, rfl, hr5, ho5⟩
    rw [HCC.out] at hr5
    have HF : Hid (X (.returned (.tuple #[.pointer (some ⟨w.heap.size, 0, none⟩), .int .i64 LN])) w5) := HYES.out h6 w5 l5 hr5 (HB4.out.trans (ho5.below (Nat.le_refl _)))
    clear hr5 ho5 HC2 HNO HYES
    go_wp2
    exact HF.out
  · have q6 : (N / 268435456 == 6) = false := by have := HZ6.out; simp; omega
    go_wp2_with fail
    refine Calls.mono (must_bad _ _ _) ?_
    rintro e w3 ⟨rfl, hw⟩
    obtain rfl := hw.symm
    exact ⟨rfl, HNO.out h6 _ HB2.out⟩
end

end Go.Proofs.Ytbaeogoojpngbaa
