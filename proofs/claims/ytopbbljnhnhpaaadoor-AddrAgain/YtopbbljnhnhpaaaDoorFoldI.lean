/-
  Say4.
  A text that is read whole as an IPv4 prefix is that prefix's own text.
-/
import Derived.Test.YtopbbljnhnhpaaaDoorFoldC
import Derived.Test.YtopbbljnhnhpaaaDoorAddrChk2
import Derived.Test.YtopbbljnhnhpaaaDoorRd3
namespace Go.Proofs.YtopbbljnhnhpaaaDoor
open Go Go.RowKit
set_option linter.unusedVariables false
set_option linter.unusedSimpArgs false

theorem tabs_on {w w' : World} (h : Tabs w) (hb : Below w.heap.size w w') : Tabs w' := fun x hx => h x (hb.trans (hx.mono hb.size))

def say4E (a0 a1 a2 a3 n : Int) : Value :=
  if okP4 a0 a1 a2 a3 n then .tuple #[.string ((⟨(text4 [a0, a1, a2, a3]).toArray⟩ : ByteArray) ++ ⟨#[47]⟩ ++ ⟨(Lib.itoa n).toArray⟩), .int .i64 0] else .tuple #[.string ⟨#[]⟩, .int .i64 22]

theorem text4_len {a0 a1 a2 a3 : Int} (h0 : Byte a0) (h1 : Byte a1) (h2 : Byte a2) (h3 : Byte a3) : (text4 [a0, a1, a2, a3]).length ≤ 4003 := by
  have l0 := itoa_len h0
  have l1 := itoa_len h1
  have l2 := itoa_len h2
  have l3 := itoa_len h3
  simp [text4, Lib.join]
  omega

set_option maxHeartbeats 8000000 in
set_option maxRecDepth 100000 in
theorem say4_calls (a0 a1 a2 a3 n : Int) (w : World) (h0 : Byte a0) (h1 : Byte a1) (h2 : Byte a2) (h3 : Byte a3) (hb : -9223372036854775808 ≤ n ∧ n ≤ 9223372036854775807) (ht : Tabs w) :
    Calls Tryd.prog 26 #[P4 a0 a1 a2 a3 n] w fun e w' => e = .returned (say4E a0 a1 a2 a3 n) ∧ Below w.heap.size w w' := by
  have HC : Hid _ := fun W => Check4_calls a0 a1 a2 a3 n W h0 h1 h2 h3 hb
  have HX : Hid (∀ W, Tabs W → Calls Tryd.prog 15 #[addrV [a0, a1, a2, a3]] W fun e w' => e = .returned (.string ⟨(text4 [a0, a1, a2, a3]).toArray⟩) ∧ Below W.heap.size W w') := fun W => text4_calls a0 a1 a2 a3 h0 h1 h2 h3 W
  have hSz : (⟨(text4 [a0, a1, a2, a3]).toArray⟩ : ByteArray).size ≤ 4003 := text4_len h0 h1 h2 h3
  have HT : Hid (Tabs w) := ht
  clear ht
  go_enter Tryd.func26, Tryd.ntmps26
  go_wp2_with fail
  refine Calls.mono (HC.out _) ?_
  rintro e w1 ⟨rfl, hB1⟩
  obtain ⟨c0, c1, c2, c3, c4⟩ := box5 w _ _ _ _ _ _ hB1
  have hB : Below w.heap.size w w1 := ((Below.refl _ w).alloc (Nat.le_refl _) _).trans (hB1.mono (by simp))
  have HU : Hid (Tabs w1) := tabs_on (w := w) HT.out hB
  have lt := World.block_lt_of_cell? w1 _ c4
  clear hB1 HC
  cases hq : okP4 a0 a1 a2 a3 n
  · have HE : Hid (say4E a0 a1 a2 a3 n = .tuple #[.string ⟨#[]⟩, .int .i64 22]) := by unfold say4E; rw [hq]; rfl
    simp only [Bool.false_eq_true, if_false]
    go_wp2
    go_ret2
    exact ⟨by rw [HE.out]; rfl, hB⟩
  · have HE : Hid (say4E a0 a1 a2 a3 n = .tuple #[.string ((⟨(text4 [a0, a1, a2, a3]).toArray⟩ : ByteArray) ++ ⟨#[47]⟩ ++ ⟨(Lib.itoa n).toArray⟩), .int .i64 0]) := by unfold say4E; rw [hq]; rfl
    have hn : Byte n := by
      unfold okP4 at hq
      simp only [Bool.and_eq_true, decide_eq_true_eq] at hq
      exact ⟨by omega, by omega⟩
    have HI : Hid _ := fun W => itoa_calls n hn W
    have hIz : (⟨(Lib.itoa n).toArray⟩ : ByteArray).size ≤ 1000 := itoa_len hn
    generalize (⟨(text4 [a0, a1, a2, a3]).toArray⟩ : ByteArray) = S at HX HE hSz
    generalize (⟨(Lib.itoa n).toArray⟩ : ByteArray) = I at HI HE hIz
    have cat1 : ∀ W, (Op.stringOp .add S ⟨#[47]⟩).run Tryd.prog W = .ok (.string (S ++ ⟨#[47]⟩)) W := fun W => run_string_add_sum W _ _ (by show S.size + 1 ≤ _; omega)
    have hSq : (S ++ (⟨#[47]⟩ : ByteArray)).size ≤ 4004 := by rw [ByteArray.size_append']; show S.size + 1 ≤ _; omega
    generalize hS2 : S ++ (⟨#[47]⟩ : ByteArray) = S2 at HE hSq cat1
    have cat2 : ∀ W, (Op.stringOp .add S2 I).run Tryd.prog W = .ok (.string (S2 ++ I)) W := fun W => run_string_add_sum W _ _ (by omega)
    clear hS2 hSz hSq hIz
    simp only [if_true]
    go_wp2_with fail
    go_region_with (first
      | (go_at_call 15; refine Calls.mono (HX.out _ (tabs_on (w := w1) HU.out (Below.refl _ _).drew)) ?_; rintro e w2 ⟨rfl, hB2⟩; have BB := ((Below.refl w1.heap.size w1).drew).trans hB2; have q4 := (BB.cell (p := ⟨w.heap.size, 4, none⟩) lt).trans c4)
      | (go_at_call 54; refine Calls.mono (HI.out _ (HU.out _ BB)) ?_; rintro e w3 ⟨rfl, hB3⟩; have BC := BB.trans (hB3.mono BB.size)))
    all_goals
      go_wp2
      go_ret2
      exact ⟨by rw [HE.out]; rfl, hB.trans (BC.mono hB.size)⟩

end Go.Proofs.YtopbbljnhnhpaaaDoor

namespace Go.Proofs.YtopbbljnhnhpaaaDoor
open Go Go.RowKit
set_option linter.unusedVariables false
set_option linter.unusedSimpArgs false

def numX (n : Num) : List UInt8 := if n.begun then Lib.itoa n.value else []

theorem itoa_one {c : UInt8} (h : 48 ≤ c.toNat ∧ c.toNat ≤ 57) : Lib.itoa ((c.toNat : Int) - 48) = [c] := by
  have e : (((c.toNat : Int) - 48)).toNat = c.toNat - 48 := by omega
  unfold Lib.itoa
  rw [if_neg (by omega), e]
  unfold Lib.decDigits
  rw [dif_pos (by omega)]
  have hc : c = UInt8.ofNat c.toNat := by simp
  simp
  apply UInt8.toNat_inj.1
  simp
  omega

theorem itoa_snoc {v : Int} {c : UInt8} (hv : 0 < v) (h : 48 ≤ c.toNat ∧ c.toNat ≤ 57) : Lib.itoa (10 * v + ((c.toNat : Int) - 48)) = Lib.itoa v ++ [c] := by
  have e : (10 * v + ((c.toNat : Int) - 48)).toNat = 10 * v.toNat + (c.toNat - 48) := by omega
  unfold Lib.itoa
  rw [if_neg (by omega), if_neg (by omega), e]
  rw [Lib.decDigits, dif_neg (by omega)]
  have e1 : (10 * v.toNat + (c.toNat - 48)) / 10 = v.toNat := by omega
  have e2 : (10 * v.toNat + (c.toNat - 48)) % 10 = c.toNat - 48 := by omega
  rw [e1, e2]
  congr 1
  simp
  apply UInt8.toNat_inj.1
  simp
  omega

def Num.Fresh (n : Num) : Prop := n.begun = false → n.value = 0

theorem num_text {n n' : Num} {c : UInt8} {most : Int} (h : n.take c.toNat most = some n') (h0 : 0 ≤ n.value) (hf : n.Fresh) : numX n' = numX n ++ [c] ∧ n'.begun = true ∧ 0 ≤ n'.value := by
  unfold Num.take at h
  split at h
  · cases h
  · rename_i h1
    split at h
    · cases h
    · cases h
      unfold numX
      refine ⟨?_, rfl, by dsimp only; omega⟩
      dsimp only
      rw [if_pos rfl]
      cases hb : n.begun with
      | false =>
        rw [hf hb]
        simpa using itoa_one (c := c) (by omega)
      | true =>
        rw [hb] at h1
        rw [if_pos rfl]
        have hv : n.value ≠ 0 := fun k => h1 (.inr (.inr ⟨rfl, k⟩))
        exact itoa_snoc (by omega) (by omega)

def dotT (d : Dot) : List UInt8 :=
  (if 1 ≤ d.count then Lib.itoa d.e0 ++ [46] else []) ++ (if 2 ≤ d.count then Lib.itoa d.e1 ++ [46] else []) ++ (if 3 ≤ d.count then Lib.itoa d.e2 ++ [46] else []) ++ numX d.num

theorem dot_text {d d' : Dot} {c : UInt8} (h : d.take c.toNat = some d') (hd : d.Ok) (hf : d.num.Fresh) : dotT d' = dotT d ++ [c] ∧ d'.num.Fresh := by
  unfold Dot.take at h
  split at h
  · cases hh : d.num.take c.toNat 255 with
    | none => rw [hh] at h; cases h
    | some n =>
      rw [hh] at h
      cases h
      obtain ⟨e1, e2, e3⟩ := num_text hh hd.num.1 hf
      refine ⟨?_, fun k => ?_⟩
      · unfold dotT
        dsimp only
        rw [e1]
        simp only [List.append_assoc]
      · dsimp only at k
        rw [e2] at k
        cases k
  · rename_i hc
    have hc : c = 46 := UInt8.toNat_inj.1 (by simp; omega)
    subst hc
    split at h
    · cases h
    · rename_i hk
      cases h
      have hb : d.num.begun = true := by
        cases hb : d.num.begun with
        | true => rfl
        | false => exact absurd (.inl hb) hk
      have h3 : d.count ≠ 3 := fun k => hk (.inr k)
      have hcc := hd.count
      have ht : numX d.num = Lib.itoa d.num.value := by unfold numX; rw [if_pos hb]
      unfold dotT
      rw [ht]
      unfold Dot.put
      split
      · rename_i q
        refine ⟨?_, fun _ => rfl⟩
        simp [q, numX, Num.new]
      · split
        · rename_i q
          refine ⟨?_, fun _ => rfl⟩
          simp [q, numX, Num.new]
        · have q : d.count = 2 := by omega
          refine ⟨?_, fun _ => rfl⟩
          simp [q, numX, Num.new]

def preT (p : Pre Dot) : List UInt8 := dotT p.addr ++ (if p.slashed then 47 :: numX p.num else [])

structure PreOk (p : Pre Dot) : Prop where
  ok : p.addr.Ok
  fresh : p.addr.num.Fresh
  pos : 0 ≤ p.num.value
  fresh2 : p.num.Fresh
  not : p.slashed = false → p.num.begun = false
  yes : p.slashed = true → p.addr.whole = true

theorem pre_text {p p' : Pre Dot} {c : UInt8} {most : Int} (h : preTake dotReader most p c.toNat = some p') (hp : PreOk p) : preT p' = preT p ++ [c] ∧ PreOk p' := by
  unfold preTake at h
  cases hs : p.slashed with
  | true =>
    rw [if_pos hs] at h
    cases hn : p.num.take c.toNat most with
    | none => rw [hn] at h; cases h
    | some n =>
      rw [hn] at h
      cases h
      obtain ⟨e1, e2, e3⟩ := num_text hn hp.pos hp.fresh2
      refine ⟨?_, hp.ok, hp.fresh, e3, fun k => ?_, fun k => ?_, hp.yes⟩
      · simp [preT, hs, e1]
      · dsimp only at k; rw [e2] at k; cases k
      · dsimp only at k; rw [hs] at k; cases k
  | false =>
    rw [if_neg (by rw [hs]; decide)] at h
    split at h
    · rename_i hw
      cases h
      have hc : c = 47 := UInt8.toNat_inj.1 (by have := hw.1; simp; omega)
      subst hc
      refine ⟨?_, hp.ok, hp.fresh, hp.pos, hp.fresh2, fun k => (by cases k), fun _ => hw.2⟩
      simp [preT, hs, numX, hp.not hs]
    · cases hn : dotReader.take p.addr c.toNat with
      | none => rw [hn] at h; cases h
      | some d =>
        rw [hn] at h
        cases h
        have hn' : p.addr.take c.toNat = some d := hn
        obtain ⟨e1, e2⟩ := dot_text hn' hp.ok hp.fresh
        refine ⟨?_, Dot.take_ok hn' hp.ok, e2, hp.pos, hp.fresh2, hp.not, fun k => ?_⟩
        · simp [preT, hs, e1]
        · dsimp only at k; rw [hs] at k; cases k

theorem pre_read {most : Int} : ∀ (l : List UInt8) (pos : Nat) (p p' : Pre Dot), PreOk p → (preReader dotReader most).read l pos p = .good p' → preT p' = preT p ++ l ∧ PreOk p' ∧ p'.num.begun = true
  | [], pos, p, p', hp, h => by
    unfold Reader.read at h
    split at h
    · rename_i hw
      cases h
      exact ⟨by simp, hp, hw⟩
    · cases h
  | c :: l, pos, p, p', hp, h => by
    unfold Reader.read at h
    split at h
    · cases h
    · rename_i p1 h1
      obtain ⟨e1, e2⟩ := pre_text (most := most) h1 hp
      obtain ⟨f1, f2, f3⟩ := pre_read l (pos + 1) p1 p' e2 h
      exact ⟨by rw [f1, e1]; simp, f2, f3⟩

/-- What is read whole as a prefix is that prefix's text. -/
theorem prefix4_own {l : List UInt8} {p : Pre Dot} (h : (preReader dotReader 32).read l 0 Pre.new4 = .good p) :
    l = text4 [p.addr.e0, p.addr.e1, p.addr.e2, p.addr.num.value] ++ [47] ++ Lib.itoa p.num.value ∧ PreOk p := by
  obtain ⟨h1, h2, h3⟩ := pre_read l 0 _ p ⟨Dot.ok_new, fun _ => rfl, by decide, fun _ => rfl, fun _ => rfl, fun k => by cases k⟩ h
  have hs : p.slashed = true := by
    cases hs : p.slashed with
    | true => rfl
    | false => rw [h2.not hs] at h3; cases h3
  have hw := h2.yes hs
  unfold Dot.whole at hw
  simp only [Bool.and_eq_true, decide_eq_true_eq] at hw
  have e0 : preT Pre.new4 = [] := rfl
  rw [e0, List.nil_append] at h1
  refine ⟨?_, h2⟩
  rw [← h1]
  simp [preT, dotT, numX, hs, h3, hw.1, hw.2, text4, Lib.join]

end Go.Proofs.YtopbbljnhnhpaaaDoor
