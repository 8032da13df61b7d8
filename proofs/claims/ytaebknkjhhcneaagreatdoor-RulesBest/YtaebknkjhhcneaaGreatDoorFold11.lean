/-
  The walk of the statement FieldGets: any bits of any bytes, and the bytes with others in their place.
  The contract of write once more: no other block is turned.
  Runs of bits as plain functions: which run is none, how many bits there are, the bits and the bytes of all.
  Runs of bits in memory, and the contracts of check and of the program's Cat.
-/
import Derived.Test.YtaebknkjhhcneaaGreatDoorFold10
import Derived.Test.YtaebknkjhhcneaaGreatDoorFold09
namespace Go.Proofs.YtaebknkjhhcneaaGreatDoor.Fld
set_option linter.unusedVariables false
set_option linter.unusedSimpArgs false
open Go Go.RowKit
attribute [local go_sem] Oper.semAt_some

theorem own_fit (zs : List Int) (h : zs.all (fun z => decide (0 ≤ z) && decide (z < 256)) = true) : FitB zs := by
  intro z hz
  have := List.all_eq_true.1 h z hz
  simpa using this

theorem lit_bytes (w : World) : BytesAt (w.alloc (.cells #[.int .u8 171, .int .u8 205] 5)).heap.size (w.alloc (.cells #[.int .u8 171, .int .u8 205] 5)) (.slice (some ⟨w.heap.size, 0, none⟩) 2 2) [171, 205] :=
  ((own_new w [171, 205] #[.int .u8 171, .int .u8 205] (fun j hj => by
    match j, hj with
    | 0, _ => rfl
    | 1, _ => rfl
    | n + 2, hj => simp at hj; omega)).own (cap := 2) (own_fit _ (by decide)) (by simp)).bytes

theorem alive_get : getV [171, 205] 4 8 = 188 ∧ getE [171, 205] 4 8 = 0 ∧ putE [171, 205] 4 8 0 = 0 ∧ putL [171, 205] 4 8 0 = [160, 13] := by decide +kernel

theorem alive_g (w : World) : Calls Tryz.prog 136 #[.slice (some ⟨w.heap.size, 0, none⟩) 2 2, .int .i64 4, .int .i64 8] (w.alloc (.cells #[.int .u8 171, .int .u8 205] 5))
    fun e w' => e = .returned (.tuple #[.int .u64 188, .int .i64 0]) ∧ w' = w.alloc (.cells #[.int .u8 171, .int .u8 205] 5) := by
  have h := get_calls _ [171, 205] 4 8 _ (lit_bytes w) (by decide) (by decide)
  rw [alive_get.1, alive_get.2.1] at h
  exact h
theorem bounds_i64 {a : Int} (h : (Lit.int .i64 a).wf = true) : -9223372036854775808 ≤ a ∧ a ≤ 9223372036854775807 := by
  have e : IntKind.i64.min = -9223372036854775808 := rfl
  have h2 : IntKind.i64.min ≤ a ∧ a ≤ 9223372036854775807 := by simpa [Lit.wf] using h
  rwa [e] at h2

end Go.Proofs.YtaebknkjhhcneaaGreatDoor.Fld

namespace Go.Proofs.YtaebknkjhhcneaaGreatDoor.Fld
set_option linter.unusedVariables false
set_option linter.unusedSimpArgs false
open Go Go.RowKit
attribute [local go_sem] Oper.semAt_some

set_option maxHeartbeats 1000000 in
theorem write_only (g cap base : Nat) (zs : List Int) (p n v : Nat) (w : World) (hf : FitB zs) (hl : zs.length ≤ 140737488351232) (h : OwnG base w g zs) (hp : p + n ≤ 8 * zs.length) (hn : n ≤ 64) (hv : v < 18446744073709551616) :
    Calls Tryz.prog 189 #[.slice (some ⟨g, 0, none⟩) zs.length cap, .int .i64 p, .int .i64 n, .int .u64 v] w fun e w' => e = .returned (.tuple #[]) ∧ OwnG base w' g (writeL zs p n v n) ∧ Below base w w' ∧ w'.heap.size = w.heap.size ∧ ∀ j, j ≠ g → w'.heap[j]? = w.heap[j]? := by
  go_enter Tryz.func189, Tryz.ntmps189
  go_wp2
  go_loopw [11] (fun i wr => ∃ k : Nat, k ≤ n ∧ i = .int .i64 k ∧ OwnG base wr g (writeL zs p n v k) ∧ Below base w wr ∧ wr.heap.size = w.heap.size ∧ ∀ j, j ≠ g → wr.heap[j]? = w.heap[j]?) (fun i _ => n - (intOf i).toNat)
  case atStart => exact ⟨0, Nat.zero_le _, rfl, h, Below.refl _ _, rfl, fun _ _ => rfl⟩
  case round =>
    obtain ⟨k, hk, rfl, ho, hB, hs, hoth⟩ := hrel
    have HOT : Hid _ := hoth
    clear hoth
    by_cases hlt : k < n
    · have hset : writeL zs p n v (k + 1) = (writeL zs p n v k).set ((p + k) / 8) ((setN ((writeL zs p n v k)[(p + k) / 8]?.getD 0).toNat (7 - (p + k) % 8) (bk v (n - 1 - k)) : Nat) : Int) := rfl
      have hfit := fit_at (writeL_fit hf p n v k) ((p + k) / 8)
      have hlen : (writeL zs p n v k).length = zs.length := writeL_length ..
      have hcc := ho.cell ((p + k) / 8) (by omega)
      have hop := ho.open ((p + k) / 8)
      have hos := ho.set ((p + k) / 8) (by omega)
      generalize hy : writeL zs p n v (k + 1) = y at *
      have HY : Hid _ := hy
      clear hy
      generalize writeL zs p n v k = x at *
      have hbit := bit_u64 v (n - 1 - k) (by omega) (by omega)
      rw [Int.toNat_natCast] at hbit
      have ho1 := or_mask (x[(p + k) / 8]?.getD 0) (p + k) hfit
      have ho2 := an_mask (x[(p + k) / 8]?.getD 0) (p + k) hfit
      generalize x[(p + k) / 8]?.getD 0 = z at *
      have hb2 := bk_lt v (n - 1 - k)
      generalize bk v (n - 1 - k) = bb at *
      have hbb : bb = 0 ∨ bb = 1 := by omega
      rcases hbb with rfl | rfl
      · generalize setN z.toNat (7 - (p + k) % 8) 0 = s at *
        have HS : Hid _ := hset
        have HO : Hid _ := hos
        clear hset hos ho1
        go_wp2
        refine ⟨⟨k + 1, by omega, by simp, ?_, hB.trans (below_set _ _ ho.low), by rw [← hs]; simp [World.setCell], fun j hj => (Below.heap_setCell _ _ _ _ hj).trans (HOT.out j hj)⟩, by simp [intOf]; omega⟩
        rw [HY.out, HS.out]
        exact HO.out _
      · generalize setN z.toNat (7 - (p + k) % 8) 1 = s at *
        have HS : Hid _ := hset
        have HO : Hid _ := hos
        clear hset hos ho2
        go_wp2
        refine ⟨⟨k + 1, by omega, by simp, ?_, hB.trans (below_set _ _ ho.low), by rw [← hs]; simp [World.setCell], fun j hj => (Below.heap_setCell _ _ _ _ hj).trans (HOT.out j hj)⟩, by simp [intOf]; omega⟩
        rw [HY.out, HS.out]
        exact HO.out _
    · obtain rfl : k = n := by omega
      go_wp2
      exact bodyPost_end (results_none rfl _ _ _) rfl ⟨rfl, ho, hB, hs, HOT.out⟩

end Go.Proofs.YtaebknkjhhcneaaGreatDoor.Fld

namespace Go.Proofs.YtaebknkjhhcneaaGreatDoor.Fld
set_option linter.unusedVariables false
set_option linter.unusedSimpArgs false
open Go Go.RowKit

/-- Run k: how many bits, and the number. -/
def rN (rs : List (Int × Nat)) (k : Nat) : Int := (rs[k]?.getD (0, 0)).1
def rV (rs : List (Int × Nat)) (k : Nat) : Nat := (rs[k]?.getD (0, 0)).2
def runE (n : Int) (v : Nat) : Int := if n < 0 ∨ 64 < n then 30 else if wideB v n.toNat then 1 else 0
def allOk (rs : List (Int × Nat)) (k : Nat) : Prop := ∀ j, j < k → runE (rN rs j) (rV rs j) = 0
def total (rs : List (Int × Nat)) : Nat → Nat
  | 0 => 0
  | k + 1 => total rs k + (rN rs k).toNat

theorem runE_ok {n : Int} {v : Nat} (h : runE n v = 0) : 0 ≤ n ∧ n ≤ 64 ∧ wideB v n.toNat = false ∧ v < 2 ^ n.toNat := by
  unfold runE at h
  by_cases c : n < 0 ∨ 64 < n
  · rw [if_pos c] at h; omega
  · rw [if_neg c] at h
    cases hw : wideB v n.toNat
    · refine ⟨by omega, by omega, rfl, ?_⟩
      unfold wideB at hw
      simpa using hw
    · rw [hw] at h; simp at h
theorem allOk_succ {rs : List (Int × Nat)} {k : Nat} (h : allOk rs k) (hk : runE (rN rs k) (rV rs k) = 0) : allOk rs (k + 1) := by
  intro j hj
  by_cases c : j = k
  · subst c; exact hk
  · exact h j (by omega)
theorem total_le {rs : List (Int × Nat)} : ∀ {k : Nat}, allOk rs k → total rs k ≤ 64 * k
  | 0, _ => by simp [total]
  | k + 1, h => by
    have h1 := total_le (k := k) (fun j hj => h j (by omega))
    have h2 := runE_ok (h k (by omega))
    simp only [total]
    omega
theorem total_mono (rs : List (Int × Nat)) (k : Nat) : ∀ n, k ≤ n → total rs k ≤ total rs n := by
  intro n
  induction n with
  | zero => intro h; have : k = 0 := by omega
            subst this; exact Nat.le_refl _
  | succ n ih =>
    intro h
    by_cases c : k = n + 1
    · subst c; exact Nat.le_refl _
    · have := ih (by omega); simp only [total]; omega

/-- The bits of the first k runs. -/
def runBits (n v : Nat) : List Nat := (List.range n).map (fun j => bk v (n - 1 - j))
def catBits (rs : List (Int × Nat)) : Nat → List Nat
  | 0 => []
  | k + 1 => catBits rs k ++ runBits (rN rs k).toNat (rV rs k)
@[simp] theorem catBits_length (rs : List (Int × Nat)) (k : Nat) : (catBits rs k).length = total rs k := by
  induction k with
  | zero => rfl
  | succ k ih => simp [catBits, total, ih, runBits]

/-- The bytes, run by run. -/
def catRow (rs : List (Int × Nat)) (t : Nat) : Nat → List Int
  | 0 => List.replicate ((t + 7) / 8) 0
  | k + 1 => writeL (catRow rs t k) (total rs k) (rN rs k).toNat (rV rs k) (rN rs k).toNat
@[simp] theorem catRow_length (rs : List (Int × Nat)) (t k : Nat) : (catRow rs t k).length = (t + 7) / 8 := by
  induction k with
  | zero => simp [catRow]
  | succ k ih => simp [catRow, ih]
theorem catRow_fit (rs : List (Int × Nat)) (t k : Nat) : FitB (catRow rs t k) := by
  induction k with
  | zero => intro z hz; have := List.eq_of_mem_replicate hz; subst this; decide
  | succ k ih => exact writeL_fit ih _ _ _ _
theorem bitN_catRow (rs : List (Int × Nat)) (t k q : Nat) (h : total rs k ≤ t) : bitN (catRow rs t k) q = (catBits rs k)[q]?.getD 0 := by
  induction k with
  | zero => simp [catRow, catBits, bitN_zero]
  | succ k ih =>
    simp only [total] at h
    rw [catRow, bitN_writeL (catRow_fit _ _ _) _ _ _ _ _ (by simp; omega), ih (by omega), catBits]
    by_cases c : total rs k ≤ q ∧ q < total rs k + (rN rs k).toNat
    · rw [if_pos c, List.getElem?_append_right (by simpa using c.1)]
      simp [runBits, show q - total rs k < (rN rs k).toNat by omega]
    · rw [if_neg c]
      by_cases d : q < total rs k
      · rw [List.getElem?_append_left (by simpa using d)]
      · rw [List.getElem?_append_right (by simp; omega), List.getElem?_eq_none (by simp; omega), List.getElem?_eq_none (by simp [runBits]; omega)]

theorem catBits_lt (rs : List (Int × Nat)) (k q : Nat) : (catBits rs k)[q]?.getD 0 < 2 := by
  induction k with
  | zero => simp [catBits]
  | succ k ih =>
    rw [catBits]
    by_cases d : q < total rs k
    · rw [List.getElem?_append_left (by simpa using d)]; exact ih
    · rw [List.getElem?_append_right (by simp; omega)]
      simp only [runBits, List.getElem?_map]
      by_cases c : q - (catBits rs k).length < (rN rs k).toNat
      · rw [List.getElem?_range c]; exact bk_lt _ _
      · rw [List.getElem?_eq_none (by simp; simpa using c)]
        show (0 : Nat) < 2
        decide

theorem bit01' (b : Nat) (h : b < 2) : (if b = 1 then 1 else 0) = b := by
  have : b = 0 ∨ b = 1 := by omega
  rcases this with rfl | rfl <;> rfl

theorem cat_pack (rs : List (Int × Nat)) (k : Nat) : packL (catBits rs k) (catBits rs k).length = catRow rs (total rs k) k := by
  refine row_ext (by simp) (packL_fit _ _) (catRow_fit _ _ _) fun q hq => ?_
  rw [bitN_packL _ _ _ (Nat.le_refl _), bitN_catRow _ _ _ _ (Nat.le_refl _)]
  have h2 := catBits_lt rs k q
  by_cases c : q < (catBits rs k).length
  · have := bit01' _ h2
    have c' : q < total rs k := by simpa using c
    simpa [c'] using this
  · rw [List.getElem?_eq_none (by omega)]
    simp

/-- What Cat answers. -/
def CatIs (rs : List (Int × Nat)) (bs : List Int) (er : Int) : Prop :=
  (∃ k, k < rs.length ∧ allOk rs k ∧ runE (rN rs k) (rV rs k) ≠ 0 ∧ er = runE (rN rs k) (rV rs k) ∧ bs = []) ∨
  (allOk rs rs.length ∧ 65536 < total rs rs.length ∧ er = 3 ∧ bs = []) ∨
  (allOk rs rs.length ∧ total rs rs.length ≤ 65536 ∧ er = 0 ∧ bs = catRow rs (total rs rs.length) rs.length)

theorem CatIs.uniq {rs : List (Int × Nat)} {bs bs' : List Int} {er er' : Int} (h : CatIs rs bs er) (g : CatIs rs bs' er') : bs = bs' ∧ er = er' := by
  rcases h with ⟨k, hk, ho, hn, rfl, rfl⟩ | ⟨ho, hb, rfl, rfl⟩ | ⟨ho, hb, rfl, rfl⟩ <;>
  rcases g with ⟨k', hk', ho', hn', rfl, rfl⟩ | ⟨ho', hb', rfl, rfl⟩ | ⟨ho', hb', rfl, rfl⟩
  · have : k = k' := by
      rcases Nat.lt_trichotomy k k' with c | c | c
      · exact absurd (ho' k c) hn
      · exact c
      · exact absurd (ho k' c) hn'
    subst this
    exact ⟨rfl, rfl⟩
  · exact absurd (ho' k hk) hn
  · exact absurd (ho' k hk) hn
  · exact absurd (ho k' hk') hn'
  · exact ⟨rfl, rfl⟩
  · omega
  · exact absurd (ho k' hk') hn'
  · omega
  · exact ⟨rfl, rfl⟩

/-- A run is found at its place. -/
theorem cat_get (rs : List (Int × Nat)) (n k : Nat) (hk : k < n) (ho : allOk rs n) : accN (catRow rs (total rs n) n) (total rs k) (rN rs k).toNat = rV rs k := by
  have hok := runE_ok (ho k hk)
  refine accN_of (fun j hj => ?_) hok.2.2.2
  rw [bitN_catRow _ _ _ _ (Nat.le_refl _)]
  have key : ∀ n, k < n → (catBits rs n)[total rs k + j]? = some (bk (rV rs k) ((rN rs k).toNat - 1 - j)) := by
    intro n
    induction n with
    | zero => intro h; omega
    | succ n ih =>
      intro h
      rw [catBits]
      by_cases c : k = n
      · subst c
        rw [List.getElem?_append_right (by simp), catBits_length, show total rs k + j - total rs k = j by omega]
        simp [runBits, hj]
      · have hm := total_mono rs (k + 1) n (by omega)
        simp only [total] at hm
        rw [List.getElem?_append_left (by simp; omega)]
        exact ih (by omega)
  rw [key n hk]
  rfl

end Go.Proofs.YtaebknkjhhcneaaGreatDoor.Fld

namespace Go.Proofs.YtaebknkjhhcneaaGreatDoor.Fld
set_option linter.unusedVariables false
set_option linter.unusedSimpArgs false
open Go Go.RowKit
attribute [local go_sem] Oper.semAt_some

/-- The slice value v holds the runs rs, in a block below n₀. -/
structure RunsAt (n₀ : Nat) (W : World) (v : Value) (rs : List (Int × Nat)) : Prop where
  bnd : ∀ j, (-9223372036854775808 ≤ rN rs j ∧ rN rs j ≤ 9223372036854775807) ∧ rV rs j < 18446744073709551616
  val : ∃ a cap, v = .slice a rs.length cap ∧ (rs.length = 0 ∨ ∃ b off, a = some ⟨b, off, none⟩ ∧ b < n₀ ∧ ∀ j, j < rs.length → W.cell? ⟨b, off + j * 2, none⟩ = some (.int .i64 (rN rs j)) ∧ W.cell? ⟨b, off + j * 2 + 1, none⟩ = some (.int .u64 (rV rs j : Nat)))

theorem RunsAt.later {A B : World} {v : Value} {rs : List (Int × Nat)} (h : RunsAt A.heap.size A v rs) (hb : Below A.heap.size A B) : RunsAt B.heap.size B v rs := by
  obtain ⟨h1, a, cap, hv, hz⟩ := h
  refine ⟨h1, a, cap, hv, hz.imp id ?_⟩
  rintro ⟨b, off, rfl, hlt, hc⟩
  exact ⟨b, off, rfl, by have := hb.size; omega, fun j hj => ⟨(hb.cell (p := ⟨b, off + j * 2, none⟩) hlt).trans (hc j hj).1, (hb.cell (p := ⟨b, off + j * 2 + 1, none⟩) hlt).trans (hc j hj).2⟩⟩

set_option maxHeartbeats 1000000 in
theorem check_calls (n : Int) (v : Nat) (w : World) (hn : -9223372036854775808 ≤ n ∧ n ≤ 9223372036854775807) (hv : v < 18446744073709551616) :
    Calls Tryz.prog 187 #[.agg #[.int .i64 n, .int .u64 v]] w fun e w' => e = .returned (.int .i64 (runE n v)) ∧ Below w.heap.size w w' := by
  by_cases c : n < 0 ∨ 64 < n
  · have e : runE n v = 30 := by unfold runE; rw [if_pos c]
    rw [e]
    rcases c with c | c
    all_goals
      go_enter Tryz.func187, Tryz.ntmps187
      go_wp2
      go_ret
      exact ⟨rfl, (Below.refl _ w).alloc (Nat.le_refl _) _⟩
  · obtain ⟨m, rfl⟩ := Int.eq_ofNat_of_zero_le (by omega : 0 ≤ n)
    have hm : m ≤ 64 := by omega
    have hwc := fun w => wide_calls v m w hv hm
    have hB := (Below.refl w.heap.size w).alloc (Nat.le_refl _) (.cells #[.int .i64 m, .int .u64 v] 199)
    cases hw : wideB v m
    · have e : runE m v = 0 := by unfold runE; rw [if_neg c, Int.toNat_natCast, hw]; rfl
      rw [e]
      rw [hw] at hwc
      have HW : Hid _ := hwc
      clear hwc hw e
      go_enter Tryz.func187, Tryz.ntmps187
      go_wp2_with fail
      refine Calls.mono (HW.out _) ?_
      rintro e w1 ⟨rfl, rfl⟩
      go_wp2
      go_ret
      exact ⟨rfl, hB⟩
    · have e : runE m v = 1 := by unfold runE; rw [if_neg c, Int.toNat_natCast, hw]; rfl
      rw [e]
      rw [hw] at hwc
      have HW : Hid _ := hwc
      clear hwc hw e
      go_enter Tryz.func187, Tryz.ntmps187
      go_wp2_with fail
      refine Calls.mono (HW.out _) ?_
      rintro e w1 ⟨rfl, rfl⟩
      go_wp2
      go_ret
      exact ⟨rfl, hB⟩

def CatPost (rs : List (Int × Nat)) (w : World) (e : Ending) (w' : World) : Prop :=
  ∃ r bs er, e = .returned (.tuple #[r, .int .i64 er]) ∧ BytesAt w'.heap.size w' r bs ∧ Below w.heap.size w w' ∧ CatIs rs bs er

set_option maxHeartbeats 4000000 in
set_option maxRecDepth 100000 in
theorem cat_calls (v : Value) (rs : List (Int × Nat)) (w : World) (h : RunsAt w.heap.size w v rs) (hl : rs.length ≤ 1200) :
    Calls Tryz.prog 172 #[v] w fun e w' => CatPost rs w e w' := by
  obtain ⟨hbnd, a, cap, rfl, hz⟩ := h
  go_enter Tryz.func172, Tryz.ntmps172
  go_wp2
  go_loopw [4, 14] (fun x i wr => ∃ k : Nat, k ≤ rs.length ∧ i = .int .i64 k ∧ allOk rs k ∧ x = .int .i64 (total rs k : Nat) ∧ Below w.heap.size w wr) (fun _ i _ => rs.length - (intOf i).toNat)
  case atStart => exact ⟨0, Nat.zero_le _, rfl, fun j hj => absurd hj (by omega), rfl, Below.refl _ _⟩
  case round =>
    obtain ⟨k, hk, rfl, hall, rfl, hB⟩ := hrel
    have htl := total_le hall
    by_cases hlt : k < rs.length
    · have hz' := hz
      rcases hz' with hz' | ⟨b, off, rfl, hbn, hc⟩
      · omega
      have c1 := (hB.cell (p := ⟨b, off + k * 2, none⟩) hbn).trans (hc k hlt).1
      have c2 := (hB.cell (p := ⟨b, off + k * 2 + 1, none⟩) hbn).trans (hc k hlt).2
      have hbk := hbnd k
      have hck := fun w => check_calls (rN rs k) (rV rs k) w hbk.1 hbk.2
      have HC : Hid _ := hck
      have hsucc := allOk_succ (k := k) hall
      have htot : total rs (k + 1) = total rs k + (rN rs k).toNat := rfl
      have hok := @runE_ok (rN rs k) (rV rs k)
      have hbad : runE (rN rs k) (rV rs k) ≠ 0 → CatIs rs [] (runE (rN rs k) (rV rs k)) := fun hne => .inl ⟨k, hlt, hall, hne, rfl, rfl⟩
      generalize hT1 : total rs (k + 1) = T1 at *
      generalize hT : total rs k = T at *
      generalize rN rs k = N at *
      generalize rV rs k = V at *
      have HS : Hid _ := hsucc
      have HB : Hid _ := hbad
      have HO : Hid _ := hok
      have HT : Hid _ := hT1
      clear hck hsucc hbad hok hT1 hT hc hz hbnd
      have hA := hB.alloc hB.size (.cells #[.int .i64 N, .int .u64 V] 199)
      have hnew : (wr.alloc (.cells #[.int .i64 N, .int .u64 V] 199)).cell? ⟨wr.heap.size, 0, none⟩ = some (.int .i64 N) := by
        rw [World.cell?_alloc_new]; rfl
      have hsz : wr.heap.size < (wr.alloc (.cells #[.int .i64 N, .int .u64 V] 199)).heap.size := by simp
      go_wp2_with fail
      refine Calls.mono (HC.out _) ?_
      rintro e w1 ⟨rfl, hB1⟩
      have cN := (hB1.cell (p := ⟨wr.heap.size, 0, none⟩) hsz).trans hnew
      have hBB := hA.trans (hB1.mono hA.size)
      clear hA hnew hsz hB1 HC c1 c2
      by_cases hr : runE N V = 0
      · obtain ⟨n0, n64, _, _⟩ := HO.out hr
        obtain ⟨m, rfl⟩ := Int.eq_ofNat_of_zero_le n0
        rw [hr]
        have htot2 : ((T1 : Nat) : Int) = (T : Int) + m := by omega
        have HT2 : Hid _ := htot2
        have HR : Hid _ := hr
        clear htot htot2 hr
        go_wp2
        refine ⟨⟨k + 1, by omega, by simp, HS.out HR.out, ?_, hBB⟩, by simp [intOf]; omega⟩
        rw [HT.out, HT2.out]
      · have hq : (runE N V != 0) = true := by simpa using hr
        have HRR : Hid _ := hr
        clear hr
        go_wp2
        go_ret2
        exact ⟨_, [], _, rfl, nil_bytes _ _, hBB, HB.out HRR.out⟩
    · obtain rfl : k = rs.length := by omega
      have hmany : 65536 < total rs rs.length → CatIs rs [] 3 := fun hm => .inr (.inl ⟨hall, hm, rfl, rfl⟩)
      have hgood : total rs rs.length ≤ 65536 → CatIs rs (catRow rs (total rs rs.length) rs.length) 0 := fun hm => .inr (.inr ⟨hall, hm, rfl, rfl⟩)
      have hmono := fun k hk => total_mono rs k rs.length hk
      obtain ⟨T, hT⟩ : ∃ T, T = total rs rs.length := ⟨_, rfl⟩
      rw [← hT] at hmany hgood htl hmono
      rw [← hT]
      have HM : Hid _ := hmany
      have HG : Hid _ := hgood
      have HMO : Hid _ := hmono
      have HTT : Hid _ := hT
      clear hmany hgood hmono hT
      by_cases hbig : 65536 < T
      · go_wp2
        go_ret2
        exact ⟨_, [], 3, rfl, nil_bytes _ _, hB, HM.out hbig⟩
      · obtain ⟨i, hi, hz0, hs, hby⟩ := info_parts info_u8
        obtain ⟨f, hfd⟩ : ∃ f, f = (T + 7) / 8 := ⟨_, rfl⟩
        have hroom := fun w => room_calls T w (by omega)
        simp only [← hfd] at hroom
        have HR : Hid _ := hroom
        have hf2 : f ≤ 10000 := by omega
        have hf3 : T ≤ 8 * f := by omega
        have HFD : Hid _ := hfd
        clear hroom hfd
        go_wp2_with (first
          | (go_at_call 188; refine Calls.mono (HR.out _) ?_; rintro e w2 ⟨rfl, rfl⟩)
          | (at_make; refine wpList_make_full _ rfl _ _ _ rfl _ 5 i (.int .u8 0) 1 Tryz.underlying127 hi hz0 hs .i64 .i64 _ _ f rfl rfl rfl rfl (by rw [hby]; omega) (by unfold maxLen; omega) (Nat.le_refl _) ?_; intro X hown hgr; have hG := own_made hown; have hB1 := (Below.refl _ _).grown hgr (Nat.le_refl _) (fun k hk => by cases hk); clear hown hgr))
        have hB2 := hB.trans (hB1.mono hB.size)
        have hsz0 := hB.size
        clear hB hB1
        generalize hgg : w2.heap.size = g at *
        go_loopw [9, 35] (fun x i wr => ∃ k : Nat, k ≤ rs.length ∧ i = .int .i64 k ∧ x = .int .i64 (total rs k : Nat) ∧ OwnG g wr g (catRow rs T k) ∧ Below w.heap.size w wr) (fun _ i _ => rs.length - (intOf i).toNat)
        case atStart =>
          refine ⟨0, Nat.zero_le _, rfl, rfl, ?_, hB2⟩
          have : catRow rs T 0 = List.replicate f 0 := by rw [HFD.out]; rfl
          rw [this]
          exact hG
        case round =>
          clear hG hB2
          obtain ⟨k, hk, rfl, rfl, hG, hB⟩ := hrel
          by_cases hlt2 : k < rs.length
          · have hz' := hz
            rcases hz' with hz' | ⟨b, off, rfl, hbn, hc⟩
            · omega
            have c1 := (hB.cell (p := ⟨b, off + k * 2, none⟩) hbn).trans (hc k hlt2).1
            have c2 := (hB.cell (p := ⟨b, off + k * 2 + 1, none⟩) hbn).trans (hc k hlt2).2
            have hbk := hbnd k
            obtain ⟨n0, n64, _, _⟩ := runE_ok (hall k hlt2)
            have htot : total rs (k + 1) = total rs k + (rN rs k).toNat := rfl
            have hmo := HMO.out (k + 1) (by omega)
            have hlen : (catRow rs T k).length = f := by rw [HFD.out]; simp
            have hfit := catRow_fit rs T k
            have hrow : catRow rs T (k + 1) = writeL (catRow rs T k) (total rs k) (rN rs k).toNat (rV rs k) (rN rs k).toNat := rfl
            have hgl := hG.block
            generalize rV rs k = V at *
            obtain ⟨m, hm⟩ := Int.eq_ofNat_of_zero_le n0
            rw [hm] at c1 htot hrow n64
            rw [Int.toNat_natCast] at htot hrow
            clear hm n0
            have hA := hB.alloc hB.size (.cells #[.int .i64 m, .int .u64 V] 199)
            have hGA := hG.keep ((Below.refl _ wr).alloc (Nat.le_refl _) (.cells #[.int .i64 m, .int .u64 V] 199))
            have hnew : (wr.alloc (.cells #[.int .i64 m, .int .u64 V] 199)).cell? ⟨wr.heap.size, 0, none⟩ = some (.int .i64 m) := by
              rw [World.cell?_alloc_new]; rfl
            have hw := write_only g f g (catRow rs T k) (total rs k) m V _ hfit (by omega) hGA (by omega) (by omega) hbk.2
            rw [← hrow, hlen] at hw
            generalize hT1 : total rs (k + 1) = T1 at *
            generalize hT0 : total rs k = T0 at *
            generalize hR1 : catRow rs T (k + 1) = R1 at *
            have HW : Hid _ := hw
            have HT1 : Hid _ := hT1
            have HR1 : Hid _ := hR1
            have htot2 : ((T1 : Nat) : Int) = (T0 : Int) + m := by omega
            have HT2 : Hid _ := htot2
            have hb6 : T0 + m ≤ 65536 := by omega
            clear hw hT1 hT0 hR1 hrow htot htot2 hfit hc hz hall hbnd hGA
            go_wp2_with fail
            refine Calls.mono HW.out ?_
            rintro e w3 ⟨rfl, hG3, hB3, hs3, hoth⟩
            have cN := (World.cell?_of_block (a := ⟨wr.heap.size, 0, none⟩) (hoth wr.heap.size (by omega))).trans hnew
            have hBB := hA.trans (hB3.mono hsz0)
            clear hoth HW hnew hA c1 c2
            go_wp2
            refine ⟨⟨k + 1, by omega, by simp, ?_, ?_, hBB⟩, by simp [intOf]; omega⟩
            · rw [HT1.out, HT2.out]
            · rw [HR1.out]; exact hG3
          · obtain rfl : k = rs.length := by omega
            have hbt := (hG.own (cap := f) (catRow_fit rs T rs.length) (by rw [catRow_length]; omega)).bytes
            rw [catRow_length, ← HFD.out] at hbt
            have HBT : Hid _ := hbt
            clear hbt
            have hgd := HG.out (by omega)
            go_wp2
            go_ret2
            exact ⟨_, _, 0, rfl, HBT.out, hB, hgd⟩

end Go.Proofs.YtaebknkjhhcneaaGreatDoor.Fld
