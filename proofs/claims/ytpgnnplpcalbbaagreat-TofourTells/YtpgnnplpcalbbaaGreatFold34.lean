/-
  A row of bytes of one's own: what is stored and copied into it; what others hold stays.
  Which IPv4 datagrams may be, and their sizes: the program's Check and Size, the document's.
  putWord and cut of package ipv4.
-/
import Derived.Test.YtpgnnplpcalbbaaGreatFold05
import Derived.Test.YtpgnnplpcalbbaaGreatFold00
import Derived.Handy
import Derived.Laws.BitsAllLaws
set_option linter.unusedVariables false
set_option linter.unusedSimpArgs false
namespace Go.Proofs.YtpgnnplpcalbbaaGreat.V4
open Go Go.RowKit
end Go.Proofs.YtpgnnplpcalbbaaGreat.V4
namespace Go.Proofs.YtpgnnplpcalbbaaGreat.V4
open Go Go.RowKit
/-- A datagram's numbers that tell whether it may be: its Off and how many bytes Options and Body have. -/
structure Lens (c : List Value) (off : Int) (no nb : Nat) : Prop where
  len : c.length = 17
  h4 : c[4]? = some (.int .i64 off)
  h15 : ∃ a k, c[15]? = some (.slice a no k)
  h16 : ∃ a k, c[16]? = some (.slice a nb k)
  bo : -9223372036854775808 ≤ off ∧ off ≤ 9223372036854775807
  bn : no ≤ 140737488351232
  bb : nb ≤ 140737488351232
def badV (off : Int) (no : Nat) : Bool := decide (off < 0) || decide (8191 < off) || decide (40 < no) || decide (no % 4 ≠ 0)
def longV (no nb : Nat) : Bool := decide (65535 < 20 + no + nb)
def chk (off : Int) (no nb : Nat) : Int := if badV off no then 45 else if longV no nb then 2 else 0
theorem int40 (no : Nat) : decide ((40 : Int) < (no : Int)) = decide (40 < no) := by rw [decide_eq_decide]; omega
theorem int4 (no : Nat) : ((no : Int) % 4 != 0) = decide (no % 4 ≠ 0) := by
  by_cases h : no % 4 = 0
  · have : (no : Int) % 4 = 0 := by omega
    simp [h, this]
  · have : (no : Int) % 4 ≠ 0 := by omega
    simp [h, this]
theorem intL (no nb : Nat) : decide ((65535 : Int) < 20 + (no : Int) + (nb : Int)) = decide (65535 < 20 + no + nb) := by rw [decide_eq_decide]; omega
theorem intR (no nb : Nat) : decide ((65515 : Int) - (no : Int) < (nb : Int)) = decide (65535 < 20 + no + nb) := by rw [decide_eq_decide]; omega
set_option maxHeartbeats 1000000 in
set_option maxRecDepth 100000 in
theorem Check_calls (c : List Value) (off : Int) (no nb : Nat) (w : World) (h : Lens c off no nb) :
    Calls Tryz.prog 57 #[.agg c.toArray] w fun e w' => e = .returned (.int .i64 (chk off no nb)) ∧ Below w.heap.size w w' := by
  obtain ⟨hl, h4, ⟨ao, ko, h15⟩, ⟨ab, kb, h16⟩, bo, bn, bb⟩ := h
  have hB := (Below.refl w.heap.size w).alloc (Nat.le_refl _) (.cells c.toArray 27)
  clear hl
  have e1 := int40 no
  have e2 := int4 no
  have e3 := intL no nb
  have e4 := intR no nb
  unfold chk badV longV
  generalize hx1 : decide (off < 0) = x1
  generalize hx2 : decide (8191 < off) = x2
  generalize hx3 : decide (40 < no) = x3 at *
  generalize hx4 : decide (no % 4 ≠ 0) = x4 at *
  generalize hx5 : decide (65535 < 20 + no + nb) = x5 at *
  have HX3 : Hid _ := hx3
  have HX4 : Hid _ := hx4
  have HX5 : Hid _ := hx5
  clear hx3 hx4 hx5
  go_enter Tryz.func57, Tryz.ntmps57
  cases x1
  · cases x2
    · cases x3
      · cases x4
        · cases x5
          · go_wp2
            go_ret
            exact ⟨rfl, hB⟩
          · go_wp2
            go_ret
            exact ⟨rfl, hB⟩
        · go_wp2
          go_ret
          exact ⟨rfl, hB⟩
      · go_wp2
        go_ret
        exact ⟨rfl, hB⟩
    · go_wp2
      go_ret
      exact ⟨rfl, hB⟩
  · go_wp2
    go_ret
    exact ⟨rfl, hB⟩
set_option maxHeartbeats 1000000 in
set_option maxRecDepth 100000 in
theorem RCheck_calls (c : List Value) (off : Int) (no nb : Nat) (w : World) (h : Lens c off no nb) :
    Calls Tryz.prog 36 #[.agg c.toArray] w fun e w' => e = .returned (.int .i64 (chk off no nb)) ∧ Below w.heap.size w w' := by
  obtain ⟨hl, h4, ⟨ao, ko, h15⟩, ⟨ab, kb, h16⟩, bo, bn, bb⟩ := h
  have hB := (Below.refl w.heap.size w).alloc (Nat.le_refl _) (.cells c.toArray 27)
  clear hl
  have e1 := int40 no
  have e2 := int4 no
  have e3 := intL no nb
  have e4 := intR no nb
  unfold chk badV longV
  generalize hx1 : decide (off < 0) = x1
  generalize hx2 : decide (8191 < off) = x2
  generalize hx3 : decide (40 < no) = x3 at *
  generalize hx4 : decide (no % 4 ≠ 0) = x4 at *
  generalize hx5 : decide (65535 < 20 + no + nb) = x5 at *
  have HX3 : Hid _ := hx3
  have HX4 : Hid _ := hx4
  have HX5 : Hid _ := hx5
  clear hx3 hx4 hx5
  go_enter Tryz.func36, Tryz.ntmps36
  cases x1
  · cases x2
    · cases x3
      · cases x4
        · cases x5
          · go_wp2
            go_ret
            exact ⟨rfl, hB⟩
          · go_wp2
            go_ret
            exact ⟨rfl, hB⟩
        · go_wp2
          go_ret
          exact ⟨rfl, hB⟩
      · go_wp2
        go_ret
        exact ⟨rfl, hB⟩
    · go_wp2
      go_ret
      exact ⟨rfl, hB⟩
  · go_wp2
    go_ret
    exact ⟨rfl, hB⟩
set_option maxHeartbeats 1000000 in
set_option maxRecDepth 100000 in
theorem Size_calls (c : List Value) (off : Int) (no nb : Nat) (w : World) (h : Lens c off no nb) :
    Calls Tryz.prog 148 #[.agg c.toArray] w fun e w' => e = .returned (.tuple #[.int .i64 (if chk off no nb = 0 then 20 + (no : Int) + nb else 0), .int .i64 (if chk off no nb = 0 then 20 + (no : Int) else 0), .int .i64 (chk off no nb)]) ∧ Below w.heap.size w w' := by
  have hc := fun w => Check_calls c off no nb w h
  obtain ⟨hl, h4, ⟨ao, ko, h15⟩, ⟨ab, kb, h16⟩, bo, bn, bb⟩ := h
  have hb0 := blk_new w (.cells c.toArray 27)
  have hB := (Below.refl w.heap.size w).alloc (Nat.le_refl _) (.cells c.toArray 27)
  have HL : Hid _ := agg_load (t := 27) Tryz.isAgg27 Tryz.sizeOf27 hl (CellsAt.of_blk hb0)
  have HC : Hid _ := hc
  have HB0 : Hid _ := hb0
  have HB : Hid _ := hB
  clear hl hc hb0 hB
  generalize hk : chk off no nb = k at *
  have HK : Hid _ := hk
  clear hk
  by_cases h0 : k = 0
  · subst h0
    simp only [if_true]
    go_enter Tryz.func148, Tryz.ntmps148
    go_wp2_with ((with_reducible show wpList _ _ _ _ _ _); refine arm_load rfl (.tmp 1) 27 rfl rfl HL.out ?_)
    refine Calls.mono (HC.out _) ?_
    rintro e w2 ⟨rfl, hb2⟩
    have hbl := HB.out.trans (hb2.mono HB.out.size)
    have hb := blk_on HB0.out hb2
    have k15 : w2.cell? ⟨w.heap.size, 15, none⟩ = some (.slice ao no ko) := by simp [World.cell?, hb, h15]
    have k16 : w2.cell? ⟨w.heap.size, 16, none⟩ = some (.slice ab nb kb) := by simp [World.cell?, hb, h16]
    clear hb hb2 HL HC HB0 HB h4 h15 h16
    go_wp2
    go_ret3
    exact ⟨rfl, hbl⟩
  · have q : (k != 0) = true := by simp [h0]
    simp only [if_neg h0]
    go_enter Tryz.func148, Tryz.ntmps148
    go_wp2_with ((with_reducible show wpList _ _ _ _ _ _); refine arm_load rfl (.tmp 1) 27 rfl rfl HL.out ?_)
    refine Calls.mono (HC.out _) ?_
    rintro e w2 ⟨rfl, hb2⟩
    have hbl := HB.out.trans (hb2.mono HB.out.size)
    clear hb2 HL HC HB0 HB h4 h15 h16
    go_wp2
    go_ret3
    exact ⟨rfl, hbl⟩
end Go.Proofs.YtpgnnplpcalbbaaGreat.V4
namespace Go.Proofs.YtpgnnplpcalbbaaGreat.V4
open Go Go.RowKit
set_option maxHeartbeats 1000000 in
set_option maxRecDepth 100000 in
theorem putWord_calls (b o n cap : Nat) (zs : List Int) (x : Int) (w : World) (h : OwnG w b zs) (hn : 2 ≤ n) (ho : o + n ≤ zs.length) (hx : 0 ≤ x ∧ x ≤ 65535) (hs : zs.length ≤ 1000000) :
    Calls Tryz.prog 274 #[.slice (some ⟨b, o, none⟩) n cap, .int .u16 x] w fun e w' => e = .returned (.tuple #[]) ∧ OwnG w' b (putL zs o x) ∧ Only b w w' := by
  have c0 := h.cell o (by omega)
  have c1 := h.cell (o + 1) (by omega)
  have f0 := h.open o
  have f1 := h.open (o + 1)
  have hn0 : (0 : Int) < (n : Int) := by omega
  have hn1 : (1 : Int) < (n : Int) := by omega
  have H : Hid _ := h
  clear h
  go_enter Tryz.func274, Tryz.ntmps274
  go_wp2
  go_end0
  exact ⟨rfl, (H.out.set o (by omega) _).set (o + 1) (by simp; omega) _, ((Only.refl _ _).set _ _).set _ _⟩
theorem orA (off : Int) (h : 0 ≤ off ∧ off ≤ 8191) : bits .or .u16 off 8192 = off + 8192 := by
  obtain ⟨a, rfl⟩ := Int.eq_ofNat_of_zero_le h.1
  rw [show (8192 : Int) = ((8192 : Nat) : Int) from rfl, u16_or_nat a 8192 (by omega) (by omega), show (8192 : Nat) = 2 ^ 13 * 1 from rfl, or_hi a 1 13 (by omega)]
  omega
theorem orB (off : Int) (h : 0 ≤ off ∧ off ≤ 8191) : bits .or .u16 off 16384 = off + 16384 := by
  obtain ⟨a, rfl⟩ := Int.eq_ofNat_of_zero_le h.1
  rw [show (16384 : Int) = ((16384 : Nat) : Int) from rfl, u16_or_nat a 16384 (by omega) (by omega), show (16384 : Nat) = 2 ^ 13 * 2 from rfl, or_hi a 2 13 (by omega)]
  omega
theorem orC (off : Int) (h : 0 ≤ off ∧ off ≤ 8191) : bits .or .u16 (off + 16384) 8192 = off + 16384 + 8192 := by
  obtain ⟨a, rfl⟩ := Int.eq_ofNat_of_zero_le h.1
  rw [show ((a : Int) + 16384) = ((a + 16384 : Nat) : Int) by omega, show (8192 : Int) = ((8192 : Nat) : Int) from rfl, u16_or_nat (a + 16384) 8192 (by omega) (by omega)]
  have e1 : a + 16384 = a ||| (2 ^ 13 * 2) := by rw [or_hi a 2 13 (by omega)]
  have e2 : a ||| (2 ^ 13 * 2) ||| 8192 = a ||| (2 ^ 13 * 3) := by
    rw [Nat.or_assoc]
    rfl
  rw [e1, e2, or_hi a 3 13 (by omega)]
  omega
/-- The word that says how a datagram is split. -/
def cutW (off : Int) (df mf : Bool) : Int := off + (if df then 16384 else 0) + (if mf then 8192 else 0)
set_option maxHeartbeats 1000000 in
set_option maxRecDepth 100000 in
theorem cut_calls4 (c : List Value) (off : Int) (df mf : Bool) (w : World) (h2 : c[2]? = some (.bool df)) (h3 : c[3]? = some (.bool mf)) (h4 : c[4]? = some (.int .i64 off)) (ho : 0 ≤ off ∧ off ≤ 8191) :
    Calls Tryz.prog 275 #[.agg c.toArray] w fun e w' => e = .returned (.int .u16 (cutW off df mf)) ∧ Below w.heap.size w w' := by
  have hB := (Below.refl w.heap.size w).alloc (Nat.le_refl _) (.cells c.toArray 27)
  have hm : off % 65536 = off := by omega
  have oA := orA off ho
  have oB := orB off ho
  have oC := orC off ho
  unfold cutW
  cases df <;> cases mf
  all_goals
    go_enter Tryz.func275, Tryz.ntmps275
    go_wp2
    go_ret
    refine ⟨?_, hB⟩
    simp
end Go.Proofs.YtpgnnplpcalbbaaGreat.V4
