/-
  What Say6 says is read back by Prefix6, plainly.
  Say6.
-/
import Derived.Test.YtopbbljnhnhpaaaDoorFoldB
import Derived.Test.YtopbbljnhnhpaaaDoorFoldE
import Derived.Test.YtopbbljnhnhpaaaDoorFoldG
import Derived.Test.YtopbbljnhnhpaaaDoorFoldI
namespace Go.Proofs.YtopbbljnhnhpaaaDoor
open Go Go.RowKit
set_option linter.unusedVariables false
set_option linter.unusedSimpArgs false

theorem Grp.take_slash (g : Grp) : g.take 47 = none := by
  unfold Grp.take
  split
  · have : g.tail.take 47 = none := by
      unfold Dot.take
      simp [Num.take]
    rw [this]
    rfl
  · rw [if_neg (by decide), if_neg (by decide)]
    unfold Grp.digit
    have e : hexv 47 = none := by decide
    rw [e]

theorem Reader.takes_read {σ : Type} (R : Reader σ) : ∀ (l : List UInt8) (pos : Nat) (s s' : σ), R.read l pos s = .good s' → R.takes l s = some s' ∧ R.whole s' = true
  | [], pos, s, s', h => by
    unfold Reader.read at h
    split at h
    · rename_i hw
      injection h with h
      subst h
      exact ⟨rfl, hw⟩
    · cases h
  | c :: l, pos, s, s', h => by
    unfold Reader.read at h
    split at h
    · cases h
    · rename_i q hq
      obtain ⟨h1, h2⟩ := Reader.takes_read R l _ q s' h
      refine ⟨?_, h2⟩
      unfold Reader.takes
      have hq' : R.take s ((c.toNat : Nat) : Int) = some q := hq
      rw [hq']
      exact h1

theorem preR_take {σ : Type} (R : Reader σ) (m : Int) (p : Pre σ) (r : Int) : (preReader R m).take p r = preTake R m p r := rfl

theorem pre_addr_takes (N : Num) : ∀ (l : List UInt8) (s s' : Grp), grpReader.takes l s = some s' → (preReader grpReader 128).takes l ⟨s, false, N⟩ = some ⟨s', false, N⟩
  | [], s, s', h => by cases h; rfl
  | c :: l, s, s', h => by
    unfold Reader.takes at h ⊢
    cases ht : grpReader.take s ((c.toNat : Nat) : Int) with
    | none => rw [ht] at h; cases h
    | some q =>
      rw [ht] at h
      have hne : ((c.toNat : Nat) : Int) ≠ 47 := fun e => by
        rw [e] at ht
        have : grpReader.take s 47 = none := Grp.take_slash s
        rw [this] at ht
        cases ht
      have e : (preReader grpReader 128).take ⟨s, false, N⟩ ((c.toNat : Nat) : Int) = some ⟨q, false, N⟩ := by
        rw [preR_take]
        unfold preTake
        rw [if_neg (fun k => by cases k), if_neg (fun k => hne k.1), ht]
        rfl
      rw [e]
      exact pre_addr_takes N l q s' h

def numY : List UInt8 → Num → Option Num
  | [], n => some n
  | c :: l, n => (n.take ((c.toNat : Nat) : Int) 128).bind (numY l)
theorem pre_num_takes (s : Grp) : ∀ (l : List UInt8) (n n' : Num), numY l n = some n' → (preReader grpReader 128).takes l ⟨s, true, n⟩ = some ⟨s, true, n'⟩
  | [], n, n', h => by cases h; rfl
  | c :: l, n, n', h => by
    unfold numY at h
    unfold Reader.takes
    cases ht : n.take ((c.toNat : Nat) : Int) 128 with
    | none => rw [ht] at h; cases h
    | some q =>
      rw [ht] at h
      have e : (preReader grpReader 128).take ⟨s, true, n⟩ ((c.toNat : Nat) : Int) = some ⟨s, true, q⟩ := by
        rw [preR_take]
        unfold preTake
        rw [if_pos rfl, ht]
        rfl
      rw [e]
      exact pre_num_takes s l q n' h
theorem num_said : ∀ n : Fin 129, numY (Lib.itoa (n.val : Int)) ⟨0, false⟩ = some ⟨(n.val : Int), true⟩ := by decide +kernel

/-- The groups of an address's bytes. -/
def prs : List Int → List Int
  | a :: b :: r => (a * 256 + b) :: prs r
  | _ => []

theorem prs_byt (L : List Int) (hf : FitB L) (hl : L.length = 16) : byt (prs L) = L ∧ (prs L).length = 8 ∧ ∀ x ∈ prs L, 0 ≤ x ∧ x < 65536 := by
  obtain ⟨a0, a1, a2, a3, a4, a5, a6, a7, a8, a9, a10, a11, a12, a13, a14, a15, rfl⟩ := six16 hl
  have hd : ∀ a b : Int, (0 ≤ b ∧ b < 256) → (a * 256 + b) / 256 = a ∧ (a * 256 + b) % 256 = b := fun a b h => by omega
  have hz := fun z h => hf z h
  simp only [List.mem_cons, List.not_mem_nil, or_false, forall_eq_or_imp, forall_eq] at hz
  obtain ⟨z0, z1, z2, z3, z4, z5, z6, z7, z8, z9, z10, z11, z12, z13, z14, z15⟩ := hz
  refine ⟨?_, rfl, ?_⟩
  · simp only [prs, byt, List.flatMap_cons, List.flatMap_nil, List.append_nil, List.cons_append, List.nil_append, (hd a0 a1 z1).1, (hd a0 a1 z1).2, (hd a2 a3 z3).1, (hd a2 a3 z3).2, (hd a4 a5 z5).1, (hd a4 a5 z5).2, (hd a6 a7 z7).1, (hd a6 a7 z7).2, (hd a8 a9 z9).1, (hd a8 a9 z9).2, (hd a10 a11 z11).1, (hd a10 a11 z11).2, (hd a12 a13 z13).1, (hd a12 a13 z13).2, (hd a14 a15 z15).1, (hd a14 a15 z15).2]
  · intro x hx
    simp only [prs, List.mem_cons, List.not_mem_nil, or_false] at hx
    rcases hx with rfl | rfl | rfl | rfl | rfl | rfl | rfl | rfl <;> omega

def say6T (L : List Int) (n : Int) : List UInt8 := own6 (prs L) ++ [47] ++ Lib.itoa n

theorem prefix6_back (L : List Int) (n : Int) (hf : FitB L) (hl : L.length = 16) (hn : 0 ≤ n ∧ n ≤ 128) (pos : Nat) : ∃ p, (preReader grpReader 128).read (say6T L n) pos Pre.new6 = .good p ∧ p.addr.addr = L ∧ p.num.value = n := by
  obtain ⟨hb, h8, h16⟩ := prs_byt L hf hl
  have hp := parse_own6 (prs L) h16 h8
  unfold parse6 at hp
  cases hx : grpReader.read (own6 (prs L)) 0 Grp.new with
  | bad k =>
    rw [hx] at hp
    simp at hp
  | good g =>
    rw [hx] at hp
    have hga : g.addr = L := by
      have := congrArg Prod.fst hp
      simp only at this
      rw [this, hb]
    obtain ⟨ht, hw⟩ := Reader.takes_read grpReader _ _ _ _ hx
    have t1 := pre_addr_takes ⟨0, false⟩ _ _ _ ht
    have t2 : (preReader grpReader 128).takes [47] ⟨g, false, ⟨0, false⟩⟩ = some ⟨g, true, ⟨0, false⟩⟩ := by
      have e : (preReader grpReader 128).take ⟨g, false, ⟨0, false⟩⟩ 47 = some ⟨g, true, ⟨0, false⟩⟩ := by
        rw [preR_take]
        unfold preTake
        rw [if_neg (fun k => by cases k), if_pos ⟨rfl, hw⟩]
      show ((preReader grpReader 128).take _ 47).bind _ = _
      rw [e]
      rfl
    have hnn := num_said ⟨n.toNat, by omega⟩
    have en : ((n.toNat : Nat) : Int) = n := by omega
    simp only [en] at hnn
    have t3 := pre_num_takes g _ _ _ hnn
    refine ⟨⟨g, true, ⟨n, true⟩⟩, ?_, hga, rfl⟩
    refine Reader.read_takes _ _ _ _ _ ?_ rfl
    unfold say6T
    exact Reader.takes_on (Reader.takes_on t1 t2) t3

end Go.Proofs.YtopbbljnhnhpaaaDoor

namespace Go.Proofs.YtopbbljnhnhpaaaDoor
open Go Go.RowKit
set_option linter.unusedVariables false
set_option linter.unusedSimpArgs false

theorem text6_L (L : List Int) (hf : FitB L) (hl : L.length = 16) (w : World) (ht : Tz w) :
    Calls Tryd.prog 20 #[A6 L] w fun e w' => e = .returned (strV (own6 (prs L))) ∧ Below w.heap.size w w' := by
  obtain ⟨a0, a1, a2, a3, a4, a5, a6, a7, a8, a9, a10, a11, a12, a13, a14, a15, rfl⟩ := six16 hl
  have hz := fun z h => hf z h
  simp only [List.mem_cons, List.not_mem_nil, or_false, forall_eq_or_imp, forall_eq] at hz
  obtain ⟨z0, z1, z2, z3, z4, z5, z6, z7, z8, z9, z10, z11, z12, z13, z14, z15⟩ := hz
  exact text6_all a0 a1 a2 a3 a4 a5 a6 a7 a8 a9 a10 a11 a12 a13 a14 a15 z0 z1 z2 z3 z4 z5 z6 z7 z8 z9 z10 z11 z12 z13 z14 z15 w ht

def say6E (L : List Int) (n : Int) : Value :=
  if okP6 L n then .tuple #[.string ((⟨(own6 (prs L)).toArray⟩ : ByteArray) ++ ⟨#[47]⟩ ++ ⟨(Lib.itoa n).toArray⟩), .int .i64 0] else .tuple #[.string ⟨#[]⟩, .int .i64 22]

set_option maxHeartbeats 4000000 in
set_option maxRecDepth 100000 in
theorem say6_calls (L : List Int) (n : Int) (hf : FitB L) (hl : L.length = 16) (w : World) (hb : -9223372036854775808 ≤ n ∧ n ≤ 9223372036854775807) (ht : Tabs w) (htz : Tz w) :
    Calls Tryd.prog 28 #[P6 L n] w fun e w' => PxPost (say6E L n) w e w' := by
  generalize hQ : (fun e w' => PxPost (say6E L n) w e w') = Q
  have HQ : Hid _ := hQ
  clear hQ
  have HC : Hid _ := fun W => Check6_calls L n W hf hl hb
  have hB0 := (Below.refl w.heap.size w).alloc (Nat.le_refl _) (.cells (cp6 L n).toArray 40)
  have hb0 := blk_new w (.cells (cp6 L n).toArray 40)
  generalize hW0 : w.alloc (.cells (cp6 L n).toArray 40) = W0 at *
  have HW0 : Hid _ := hW0
  have HLP : Hid _ := loadP6 hl (CellsAt.pfx hl hb0).1
  clear hW0
  go_enter Tryd.func28, Tryd.ntmps28
  go_wp2_with first
    | ((with_reducible show wpList _ _ _ _ _ _); rw [HW0.out]; refine armL (.tmp 1) 40 rfl rfl rfl HLP.out ?_)
  refine Calls.mono (HC.out _) ?_
  rintro e w1 ⟨rfl, hB1⟩
  have hBw1 := hB0.trans (hB1.mono hB0.size)
  have hb1 := (hB1.block w.heap.size (Array.getElem?_eq_some_iff.1 hb0).1).trans hb0
  have HT : Hid (Tabs w1) := tabs_on (w := w) ht hBw1
  have HZ : Hid (Tz w1) := Tz.on htz hBw1
  have l1 := (Array.getElem?_eq_some_iff.1 hb1).1
  clear HC HLP HW0 hb0 hB0 hB1 ht htz
  cases hq : okP6 L n
  · have HE : Hid (say6E L n = .tuple #[.string ⟨#[]⟩, .int .i64 22]) := by unfold say6E; rw [hq]; rfl
    simp only [Bool.false_eq_true, if_false]
    go_wp2
    try go_ret2
    rw [← HQ.out]
    exact ⟨by rw [HE.out]; rfl, hBw1⟩
  · have HE : Hid (say6E L n = .tuple #[.string ((⟨(own6 (prs L)).toArray⟩ : ByteArray) ++ ⟨#[47]⟩ ++ ⟨(Lib.itoa n).toArray⟩), .int .i64 0]) := by unfold say6E; rw [hq]; rfl
    have hn : 0 ≤ n ∧ n ≤ 128 := by
      unfold okP6 at hq
      simp only [Bool.and_eq_true, decide_eq_true_eq] at hq
      exact hq.1
    have HX : Hid (∀ x : Hi w1, Calls Tryd.prog 20 #[A6 L] x.W fun e w' => e = .returned (strV (own6 (prs L))) ∧ Below x.W.heap.size x.W w') := fun x => text6_L L hf hl x.W (Tz.on HZ.out x.below)
    have HI : Hid (∀ x : Hi w1, Calls Tryd.prog 54 #[.int .i64 n] x.W fun e w' => e = .returned (.string ⟨(Lib.itoa n).toArray⟩) ∧ Below x.W.heap.size x.W w') := fun x => itoa_calls n ⟨by omega, by omega⟩ x.W (HT.out _ x.below)
    have HL6 : Hid (∀ x : Hi w1, (Instr.loadAt 31 (.pointer (some ⟨w.heap.size, 0, none⟩))).run Tryd.prog x.W = .ok (A6 L) x.W) := fun x => load6 hl (CellsAt.pfx hl (Hi.blk hb1 x)).2.1
    have c16 : ∀ x : Hi w1, x.W.cell? ⟨w.heap.size, 16, none⟩ = some (.int .i64 n) := fun x => (CellsAt.pfx hl (Hi.blk hb1 x)).2.2
    have hSz : (⟨(own6 (prs L)).toArray⟩ : ByteArray).size ≤ 202 := own_len (prs L) (prs_byt L hf hl).2.1
    have hIz : (⟨(Lib.itoa n).toArray⟩ : ByteArray).size ≤ 1000 := itoa_len ⟨by omega, by omega⟩
    have HX' : Hid (∀ x : Hi w1, Calls Tryd.prog 20 #[A6 L] x.W fun e w' => e = .returned (.string ⟨(own6 (prs L)).toArray⟩) ∧ Below x.W.heap.size x.W w') := HX.out
    generalize (⟨(own6 (prs L)).toArray⟩ : ByteArray) = S at HX' HE hSz
    generalize (⟨(Lib.itoa n).toArray⟩ : ByteArray) = I at HI HE hIz
    have cat1 : ∀ W, (Op.stringOp .add S ⟨#[47]⟩).run Tryd.prog W = .ok (.string (S ++ ⟨#[47]⟩)) W := fun W => run_string_add_sum W _ _ (by show S.size + 1 ≤ _; omega)
    have hSq : (S ++ (⟨#[47]⟩ : ByteArray)).size ≤ 4004 := by rw [ByteArray.size_append']; show S.size + 1 ≤ _; omega
    generalize hS2 : S ++ (⟨#[47]⟩ : ByteArray) = S2 at HE hSq cat1
    have cat2 : ∀ W, (Op.stringOp .add S2 I).run Tryd.prog W = .ok (.string (S2 ++ I)) W := fun W => run_string_add_sum W _ _ (by omega)
    clear hS2 hSz hSq hIz HX
    simp only [if_true]
    go_wp2_with fail
    refine wp_region_hi (by kernel_rfl) (by kernel_rfl) ?_
    repeat (first | go_big_quiet_skip | (go_big_quiet_want; refine hi_load (.tmp 10) 31 rfl rfl HL6.out ?_; simp only [Act.put, List.setIfInBounds_toArray, List.set_cons_zero, List.set_cons_succ]; go_big_quiet_on) | (go_big_quiet_want; go_big_quiet_op; first | go_big_quiet_on | go_big_quiet_call (first | (go_at_call 20; with_reducible exact Hi.calls (HX'.out _)) | (go_at_call 54; with_reducible exact Hi.calls (HI.out _)))))
    refine wpQuiet_nil ?_
    intro _ hw
    obtain ⟨y, rfl⟩ := hw
    go_wp2
    try go_ret2
    rw [← HQ.out]
    exact ⟨by rw [HE.out]; rfl, hBw1.trans (y.below.mono hBw1.size)⟩

end Go.Proofs.YtopbbljnhnhpaaaDoor
