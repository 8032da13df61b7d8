/-
  Keys as bytes.
-/
import Derived.Test.YtabmkbhmgfneiaaTa1
import Derived.Test.YtabmkbhmgfneiaaSixM
namespace Go.Proofs.Ytabmkbhmgfneiaa
open Go Go.RowKit
set_option linter.unusedVariables false
set_option linter.unusedSimpArgs false

def bt (k : Bs) (p : Nat) : Nat := (k[p]?.getD false).toNat
theorem bt_lt (k : Bs) (p : Nat) : bt k p < 2 := by unfold bt; cases k[p]?.getD false <;> decide
def byteV (k : Bs) (i : Nat) : Nat := bt k (8 * i) * 128 + bt k (8 * i + 1) * 64 + bt k (8 * i + 2) * 32 + bt k (8 * i + 3) * 16 + bt k (8 * i + 4) * 8 + bt k (8 * i + 5) * 4 + bt k (8 * i + 6) * 2 + bt k (8 * i + 7)
theorem byteV_lt (k : Bs) (i : Nat) : byteV k i < 256 := by
  unfold byteV
  have h0 := bt_lt k (8 * i); have h1 := bt_lt k (8 * i + 1); have h2 := bt_lt k (8 * i + 2); have h3 := bt_lt k (8 * i + 3)
  have h4 := bt_lt k (8 * i + 4); have h5 := bt_lt k (8 * i + 5); have h6 := bt_lt k (8 * i + 6); have h7 := bt_lt k (8 * i + 7)
  omega
theorem byteV_bit (k : Bs) (i j : Nat) (hj : j < 8) : bk (byteV k i) (7 - j) = bt k (8 * i + j) := by
  have h0 := bt_lt k (8 * i); have h1 := bt_lt k (8 * i + 1); have h2 := bt_lt k (8 * i + 2); have h3 := bt_lt k (8 * i + 3)
  have h4 := bt_lt k (8 * i + 4); have h5 := bt_lt k (8 * i + 5); have h6 := bt_lt k (8 * i + 6); have h7 := bt_lt k (8 * i + 7)
  unfold bk byteV
  rcases (by omega : j = 0 ∨ j = 1 ∨ j = 2 ∨ j = 3 ∨ j = 4 ∨ j = 5 ∨ j = 6 ∨ j = 7) with rfl | rfl | rfl | rfl | rfl | rfl | rfl | rfl <;> (try simp only [Nat.add_zero]) <;> omega
def bytN (n : Nat) (k : Bs) : List Int := (List.range n).map (fun i => ((byteV k i : Nat) : Int))
theorem bytN_length (n : Nat) (k : Bs) : (bytN n k).length = n := by simp [bytN]
theorem bytN_fit (n : Nat) (k : Bs) : FitB (bytN n k) := by
  intro z hz
  obtain ⟨i, -, rfl⟩ := List.mem_map.1 hz
  have := byteV_lt k i
  omega
theorem bytN_get (n : Nat) (k : Bs) (i : Nat) (hi : i < n) : (bytN n k)[i]? = some ((byteV k i : Nat) : Int) := by simp [bytN, hi]
theorem bitN_bytN (n : Nat) (k : Bs) (p : Nat) (hp : p < 8 * n) : bitN (bytN n k) p = bt k p := by
  unfold bitN
  rw [bytN_get _ _ _ (by omega)]
  simp only [Option.getD_some, Int.toNat_natCast]
  rw [byteV_bit _ _ _ (by omega)]
  congr 1
  omega
def bitsK (l : List Int) (n : Nat) : Bs := (List.range n).map (fun i => decide (bitN l i = 1))
theorem bitsK_length (l : List Int) (n : Nat) : (bitsK l n).length = n := by simp [bitsK]
theorem bt_bitsK (l : List Int) (n p : Nat) : bt (bitsK l n) p = if p < n then bitN l p else 0 := by
  unfold bt bitsK
  by_cases h : p < n
  · rw [if_pos h]
    have : (List.map (fun i => decide (bitN l i = 1)) (List.range n))[p]? = some (decide (bitN l p = 1)) := by simp [h]
    rw [this]
    have := bitN_lt l p
    rcases (by omega : bitN l p = 0 ∨ bitN l p = 1) with e | e <;> simp [e]
  · rw [if_neg h]
    have : (List.map (fun i => decide (bitN l i = 1)) (List.range n))[p]? = none := by simp; omega
    rw [this]; rfl
theorem key_of {m n : Nat} {l : List Int} (hf : FitB l) (hl : l.length = m) (hb : l = blR n l) : l = bytN m (bitsK l n) := by
  refine row_ext (by rw [bytN_length, hl]) hf (bytN_fit _ _) (fun p hp => ?_)
  rw [bitN_bytN _ _ _ (by omega), bt_bitsK]
  have := bitN_blR hf n p hp
  rwa [← hb] at this
theorem bt_take (k : Bs) (n p : Nat) : bt (k.take n) p = if p < n then bt k p else 0 := by
  unfold bt
  rw [List.getElem?_take]
  split <;> rfl
theorem blR_bytN (m n : Nat) (k : Bs) : blR n (bytN m k) = bytN m (k.take n) := by
  refine row_ext (by rw [blR_length, bytN_length, bytN_length]) (blR_fit (bytN_fit _ _)) (bytN_fit _ _) (fun p hp => ?_)
  rw [blR_length, bytN_length] at hp
  rw [bitN_blR (bytN_fit _ _) n p (by rw [bytN_length]; exact hp), bitN_bytN _ _ _ hp, bitN_bytN _ _ _ hp, bt_take]
theorem bt_inj {a b : Bs} (hl : a.length = b.length) (h : ∀ p, p < a.length → bt a p = bt b p) : a = b := by
  refine List.ext_getElem hl (fun p h1 h2 => ?_)
  have := h p h1
  unfold bt at this
  rw [List.getElem?_eq_getElem h1, List.getElem?_eq_getElem h2] at this
  revert this
  cases a[p] <;> cases b[p] <;> simp
theorem bytN_inj {m : Nat} {a b : Bs} (hl : a.length = b.length) (hm : a.length ≤ 8 * m) (e : bytN m a = bytN m b) : a = b :=
  bt_inj hl (fun p hp => by rw [← bitN_bytN m a p (by omega), e, bitN_bytN m b p (by omega)])

theorem okP6_byt {k : Bs} (h : k.length ≤ 128) : okP6 (bytN 16 k) k.length = true := by
  unfold okP6
  rw [blR_bytN, List.take_length]
  simp; omega
theorem ok6_key {l : List Int} {n : Int} (hf : FitB l) (hl : l.length = 16) (h : okP6 l n = true) : ∃ k : Bs, k.length ≤ 128 ∧ l = bytN 16 k ∧ n = (k.length : Int) := by
  unfold okP6 at h
  simp only [Bool.and_eq_true, decide_eq_true_eq] at h
  obtain ⟨⟨h0, h1⟩, hb⟩ := h
  obtain ⟨m, rfl⟩ : ∃ m : Nat, n = m := ⟨n.toNat, by omega⟩
  exact ⟨bitsK l m, by rw [bitsK_length]; omega, key_of hf hl hb, by rw [bitsK_length]⟩
theorem pre_take {p q : Bs} : pre p q = (decide (p.length ≤ q.length) && decide (p = q.take p.length)) := by
  unfold pre
  rw [← Bool.decide_and]
  refine decide_eq_decide.2 ⟨fun h => ⟨h.length_le, List.prefix_iff_eq_take.1 h⟩, fun h => List.prefix_iff_eq_take.2 h.2⟩
theorem cov6_byt {p q : Bs} (hq : q.length ≤ 128) : cov6 (bytN 16 p) p.length (bytN 16 q) q.length = pre p q := by
  unfold cov6
  rw [blR_bytN, pre_take]
  by_cases h : p.length ≤ q.length
  · have e : (decide (bytN 16 p = bytN 16 (q.take p.length))) = decide (p = q.take p.length) :=
      decide_eq_decide.2 ⟨fun e => bytN_inj (by rw [List.length_take]; omega) (by omega) e, fun e => congrArg (bytN 16) e⟩
    rw [e]
    congr 1
    exact decide_eq_decide.2 (by omega)
  · rw [decide_eq_false (by omega), decide_eq_false h]; rfl
theorem both6_byt {p q : Bs} (hp : p.length ≤ 128) (hq : q.length ≤ 128) : both6 (bytN 16 p) p.length (bytN 16 q) q.length = true := by
  unfold both6
  rw [okP6_byt hp, okP6_byt hq]; rfl
theorem has6_byt {p a : Bs} (ha : a.length = 128) (hp : p.length ≤ 128) : has6 (bytN 16 p) p.length (bytN 16 a) = pre p a := by
  unfold has6
  rw [blR_bytN, pre_take, decide_eq_true (show p.length ≤ a.length by omega), Bool.true_and]
  exact decide_eq_decide.2 ⟨fun e => (bytN_inj (by rw [List.length_take]; omega) (by rw [List.length_take]; omega) e).symm, fun e => (congrArg (bytN 16) e).symm⟩
theorem eqK {p q : Bs} (hp : p.length ≤ 128) : (decide (bytN 16 p = bytN 16 q) && decide ((p.length : Int) = q.length)) = decide (p = q) := by
  rw [← Bool.decide_and]
  refine decide_eq_decide.2 ⟨fun h => bytN_inj (by omega) (by omega) h.1, fun h => by subst h; exact ⟨rfl, rfl⟩⟩

/-- IPv4's. -/
theorem byt4 (k : Bs) : bytN 4 k = [((byteV k 0 : Nat) : Int), ((byteV k 1 : Nat) : Int), ((byteV k 2 : Nat) : Int), ((byteV k 3 : Nat) : Int)] := rfl
theorem byteV_zero {k : Bs} {i : Nat} (h : k.length ≤ 8 * i) : byteV k i = 0 := by
  have : ∀ j, bt k (8 * i + j) = 0 := fun j => by
    unfold bt
    rw [List.getElem?_eq_none (by omega)]; rfl
  unfold byteV
  have h0 := this 0
  rw [Nat.add_zero] at h0
  rw [h0, this 1, this 2, this 3, this 4, this 5, this 6, this 7]
theorem byt_16 {k : Bs} (h : k.length ≤ 32) : bytN 16 k = bytN 4 k ++ List.replicate 12 0 := by
  have z : ∀ i, 4 ≤ i → ((byteV k i : Nat) : Int) = 0 := fun i hi => by rw [byteV_zero (by omega)]; rfl
  have : bytN 16 k = bytN 4 k ++ [((byteV k 4 : Nat) : Int), ((byteV k 5 : Nat) : Int), ((byteV k 6 : Nat) : Int), ((byteV k 7 : Nat) : Int), ((byteV k 8 : Nat) : Int), ((byteV k 9 : Nat) : Int), ((byteV k 10 : Nat) : Int), ((byteV k 11 : Nat) : Int), ((byteV k 12 : Nat) : Int), ((byteV k 13 : Nat) : Int), ((byteV k 14 : Nat) : Int), ((byteV k 15 : Nat) : Int)] := rfl
  rw [this, z 4 (by omega), z 5 (by omega), z 6 (by omega), z 7 (by omega), z 8 (by omega), z 9 (by omega), z 10 (by omega), z 11 (by omega), z 12 (by omega), z 13 (by omega), z 14 (by omega), z 15 (by omega)]
  rfl
theorem ok4_key {a0 a1 a2 a3 n : Int} (hf : FitB [a0, a1, a2, a3]) (h : okP4 a0 a1 a2 a3 n = true) : ∃ k : Bs, k.length ≤ 32 ∧ [a0, a1, a2, a3] = bytN 4 k ∧ n = (k.length : Int) := by
  unfold okP4 at h
  simp only [Bool.and_eq_true, decide_eq_true_eq] at h
  obtain ⟨⟨h0, h1⟩, hb⟩ := h
  obtain ⟨m, rfl⟩ : ∃ m : Nat, n = m := ⟨n.toNat, by omega⟩
  rw [← blR4] at hb
  exact ⟨bitsK _ m, by rw [bitsK_length]; omega, key_of hf rfl hb, by rw [bitsK_length]⟩
theorem okP4_byt {k : Bs} (h : k.length ≤ 32) : okP4 (byteV k 0 : Nat) (byteV k 1 : Nat) (byteV k 2 : Nat) (byteV k 3 : Nat) k.length = true := by
  unfold okP4
  rw [← blR4, ← byt4, blR_bytN, List.take_length]
  simp; omega
theorem hasB_byt {p a : Bs} (ha : a.length = 32) (hp : p.length ≤ 32) : hasB (byteV p 0 : Nat) (byteV p 1 : Nat) (byteV p 2 : Nat) (byteV p 3 : Nat) p.length (byteV a 0 : Nat) (byteV a 1 : Nat) (byteV a 2 : Nat) (byteV a 3 : Nat) = pre p a := by
  unfold hasB
  rw [← blR4, ← byt4, ← byt4, blR_bytN, pre_take, decide_eq_true (show p.length ≤ a.length by omega), Bool.true_and]
  exact decide_eq_decide.2 ⟨fun e => (bytN_inj (by rw [List.length_take]; omega) (by rw [List.length_take]; omega) e).symm, fun e => (congrArg (bytN 4) e).symm⟩

/-- How many first bits are alike. -/
theorem lcp_min {p q : Bs} {L : Nat} (hp : p.length ≤ 128) (hq : q.length ≤ 128) (h1 : ∀ i, i < L → bt p i = bt q i) (h2 : L < 128 → bt p L ≠ bt q L) (h3 : L ≤ 128) :
    min (min p.length q.length) L = (lcp p q).length ∧ p.take (min (min p.length q.length) L) = lcp p q := by
  have hle1 := (lcp_fst p q).length_le
  have hle2 := (lcp_snd p q).length_le
  have e1 : p.take (lcp p q).length = lcp p q := (List.prefix_iff_eq_take.1 (lcp_fst p q)).symm
  have key : min (min p.length q.length) L = (lcp p q).length := by
    refine Nat.le_antisymm ?_ ?_
    · have hb : p.take (min (min p.length q.length) L) = q.take (min (min p.length q.length) L) := by
        refine bt_inj (by simp only [List.length_take]; omega) (fun i hi => ?_)
        rw [List.length_take] at hi
        rw [bt_take, bt_take]
        split
        · exact h1 i (by omega)
        · rfl
      have := (lcp_most (List.take_prefix _ p) (hb ▸ List.take_prefix _ q)).length_le
      rw [List.length_take] at this
      omega
    · have : (lcp p q).length ≤ L := by
        apply Classical.byContradiction
        intro hc
        apply h2 (by omega)
        have e2 : q.take (lcp p q).length = lcp p q := (List.prefix_iff_eq_take.1 (lcp_snd p q)).symm
        have a1 := bt_take p (lcp p q).length L
        have a2 := bt_take q (lcp p q).length L
        rw [if_pos (by omega)] at a1 a2
        rw [← a1, ← a2, e1, e2]
      omega
  exact ⟨key, by rw [key, e1]⟩
end Go.Proofs.Ytabmkbhmgfneiaa
