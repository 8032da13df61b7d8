/-
  Atomic and Bare of package splitsix: what catches, and the closures.
-/
import Derived.Test.YtcllcinekohklaaXe3
namespace Go.Proofs.Ytcllcinekohklaa
open Go Go.RowKit
set_option linter.unusedVariables false
set_option linter.unusedSimpArgs false

/-- The zero datagram. -/
abbrev Z6 : Value := VV zF zG (.slice none 0 0) (.slice none 0 0)

set_option maxHeartbeats 2000000 in
set_option maxRecDepth 100000 in
theorem ansA_no (p q : Addr) (w : World) (er : Int) (h : ∀ W, Below w.heap.size w W → W.heap.size = w.heap.size + 2 → Calls Try.prog 35 #[.pointer (some p), .pointer (some q)] W fun e w' => e = .panicked [guP er] ∧ Below W.heap.size W w') :
    Calls Try.prog 34 #[.func (.func 35) #[] #[.pointer (some p), .pointer (some q)]] w fun e w' => e = .returned (.tuple #[Z6, .int .i64 er]) ∧ Below w.heap.size w w' := by
  have hmf : ∀ (fn : Fn) (first cap : Array Value) (w : World), (Instr.makeFunc fn first cap).run Try.prog w = .ok (.func fn first cap) w := fun _ _ _ _ => rfl
  obtain ⟨W0, hW0⟩ : ∃ W0, W0 = (w.alloc (.cells zeroV.toArray 28)).alloc (eBox 0) := ⟨_, rfl⟩
  have hbA : W0.heap[w.heap.size]? = some (.cells zeroV.toArray 28) := by rw [hW0]; exact blk_alloc (blk_new w _) _
  have hbB : W0.heap[w.heap.size + 1]? = some (eBox 0) := by
    have := blk_new (w.alloc (.cells zeroV.toArray 28)) (eBox 0)
    rw [show (w.alloc (.cells zeroV.toArray 28)).heap.size = w.heap.size + 1 by simp] at this
    rw [hW0]; exact this
  have hB0 : Below w.heap.size w W0 := by rw [hW0]; exact ((Below.refl w.heap.size w).alloc (Nat.le_refl _) _).alloc (by simp) _
  have hs0 : W0.heap.size = w.heap.size + 2 := by rw [hW0]; simp
  have HC : Hid _ := h W0 hB0 hs0
  have HA0 : Hid (W0.heap[w.heap.size]? = some (.cells zeroV.toArray 28)) := hbA
  have HB0 : Hid (W0.heap[w.heap.size + 1]? = some (eBox 0)) := hbB
  have HBB : Hid (Below w.heap.size w W0) := hB0
  have HS0 : Hid (W0.heap.size = w.heap.size + 2) := hs0
  have hW := hW0.symm
  unfold zeroV eBox at hW
  clear hbA hbB hB0 h hW0 hs0
  go_enter_defers Try.func34, Try.ntmps34
  go_wp2_with fail
  refine Calls.mono HC.out ?_
  rintro e1 w1 ⟨rfl, hb1⟩
  have hA1 : w1.heap[w.heap.size]? = some (BV zF zG (.slice none 0 0) (.slice none 0 0)) := by rw [blk_on HA0.out hb1, zeroV_vC]
  have hB1 := blk_on HB0.out hb1
  refine leaves_cons (f := 51) (args := #[.pointer (some ⟨w.heap.size + 1, 0, none⟩)]) (by simp) (by simp [go_sem]) ?_
  refine (catch_faultV (w.heap.size + 1) 0 er _ hB1).mono ?_
  rintro e9 u9 w9 ⟨rfl, rfl, h9, ho9⟩
  exact ⟨_, resCC rfl rfl rfl (vb_var ((ho9.other _ (by omega)).trans hA1)) (loadErr h9), rfl, (HBB.out.trans (Below.mono hb1 HBB.out.size)).trans (ho9.below (by omega))⟩

set_option maxHeartbeats 2000000 in
set_option maxRecDepth 100000 in
theorem ansA_yes (p q : Addr) (w : World) (f : F6) (g : G6) (hs : Opts) (body : List Int) (h : ∀ W, Below w.heap.size w W → W.heap.size = w.heap.size + 2 → Calls Try.prog 35 #[.pointer (some p), .pointer (some q)] W fun e w' => ∃ vh vb, e = .returned (VV f g vh vb) ∧ D6 (fun b => W.heap.size ≤ b) w' f vh vb hs body ∧ Below W.heap.size W w') :
    Calls Try.prog 34 #[.func (.func 35) #[] #[.pointer (some p), .pointer (some q)]] w fun e w' => ∃ vh vb, e = .returned (.tuple #[VV f g vh vb, .int .i64 0]) ∧ D6 (fun b => w.heap.size ≤ b) w' f vh vb hs body ∧ Below w.heap.size w w' := by
  have hmf : ∀ (fn : Fn) (first cap : Array Value) (w : World), (Instr.makeFunc fn first cap).run Try.prog w = .ok (.func fn first cap) w := fun _ _ _ _ => rfl
  obtain ⟨W0, hW0⟩ : ∃ W0, W0 = (w.alloc (.cells zeroV.toArray 28)).alloc (eBox 0) := ⟨_, rfl⟩
  have hbA : W0.heap[w.heap.size]? = some (.cells zeroV.toArray 28) := by rw [hW0]; exact blk_alloc (blk_new w _) _
  have hbB : W0.heap[w.heap.size + 1]? = some (eBox 0) := by
    have := blk_new (w.alloc (.cells zeroV.toArray 28)) (eBox 0)
    rw [show (w.alloc (.cells zeroV.toArray 28)).heap.size = w.heap.size + 1 by simp] at this
    rw [hW0]; exact this
  have hB0 : Below w.heap.size w W0 := by rw [hW0]; exact ((Below.refl w.heap.size w).alloc (Nat.le_refl _) _).alloc (by simp) _
  have hs0 : W0.heap.size = w.heap.size + 2 := by rw [hW0]; simp
  have HC : Hid _ := h W0 hB0 hs0
  have HA0 : Hid (W0.heap[w.heap.size]? = some (.cells zeroV.toArray 28)) := hbA
  have HB0 : Hid (W0.heap[w.heap.size + 1]? = some (eBox 0)) := hbB
  have HBB : Hid (Below w.heap.size w W0) := hB0
  have HS0 : Hid (W0.heap.size = w.heap.size + 2) := hs0
  have hW := hW0.symm
  unfold zeroV eBox at hW
  clear hbA hbB hB0 h hW0 hs0
  go_enter_defers Try.func34, Try.ntmps34
  go_wp2_with fail
  refine Calls.mono HC.out ?_
  rintro e1 w1 ⟨vh, vb, rfl, hd, hb1⟩
  obtain ⟨w2, hst, hbx, ho⟩ := box_store Try.sizeOf28 (blk_on HA0.out hb1) (by rfl) (vC f g vh vb) vC_len (vC_one hd.hd.one hd.bd.one)
  have hB2 : w2.heap[w.heap.size + 1]? = some (eBox 0) := (ho.other _ (by omega)).trans (blk_on HB0.out hb1)
  obtain ⟨w3, hst3, hA3, hB3, ho3⟩ : ∃ w3, (Instr.storeAt 30 (.pointer (some ⟨w.heap.size + 1, 0, none⟩)) (.int .i64 0)).run Try.prog w2 = .ok () w3 ∧ w3.heap[w.heap.size]? = some (BV f g vh vb) ∧ w3.heap[w.heap.size + 1]? = some (eBox 0) ∧ Only (w.heap.size + 1) w2 w3 := ⟨_, st_err (y := 0) hB2, blk_set_other hbx (by omega) _ _, blk_set hB2 0 (.int .i64 0), (Only.refl _ w2).set 0 _⟩
  have hs0 := HS0.out
  have hd2 := hd.sep (Sep.of_only (O := fun b => b = w.heap.size) ho rfl) (fun b hb e => by omega)
  have hd3 := hd2.sep (Sep.of_only (O := fun b => b = w.heap.size + 1) ho3 rfl) (fun b hb e => by omega)
  have HD : Hid (D6 (fun b => w.heap.size ≤ b) w3 f vh vb hs body) := hd3.mono (fun b _ hb => by omega)
  have HBE : Hid (Below w.heap.size w w3) := ((HBB.out.trans (Below.mono hb1 HBB.out.size)).trans (ho.below (Nat.le_refl _))).trans (ho3.below (by omega))
  have HST : Hid _ := hst
  have HST3 : Hid _ := hst3
  have HA3 : Hid _ := hA3
  have HB3 : Hid _ := hB3
  clear hst hbx ho hB2 hst3 hA3 hB3 ho3 hd hd2 hd3 hb1 HC HA0 HB0 HBB hs0 HS0
  go_wp2_with first
    | ((with_reducible show wpList _ _ _ ({ dst := _, op := Op.store 28 (Operand.tmp 2) (Operand.tmp 6), type := _, pos := _, after := _, guard := _ } :: _) _ _); refine armS (.tmp 2) (Operand.tmp 6) 28 rfl rfl rfl rfl HST.out ?_; simp only [Act.put])
    | ((with_reducible show wpList _ _ _ ({ dst := _, op := Op.store 30 (Operand.tmp 3) _, type := _, pos := _, after := _, guard := _ } :: _) _ _); refine armS (.tmp 3) (.const (.int .i64 0)) 30 rfl rfl rfl rfl HST3.out ?_; simp only [Act.put])
  refine leaves_cons (f := 51) (args := #[.pointer (some ⟨w.heap.size + 1, 0, none⟩)]) (by simp) (by simp [go_sem]) ?_
  refine (catch_idleV _ _).mono ?_
  rintro e9 u9 w9 ⟨rfl, rfl, rfl⟩
  exact ⟨_, resCC rfl rfl rfl (vb_var HA3.out) (loadErr HB3.out), vh, vb, rfl, HD.out, HBE.out⟩

set_option maxHeartbeats 2000000 in
set_option maxRecDepth 100000 in
theorem ansB_no (p : Addr) (w : World) (er : Int) (h : ∀ W, Below w.heap.size w W → W.heap.size = w.heap.size + 2 → Calls Try.prog 40 #[.pointer (some p)] W fun e w' => e = .panicked [guP er] ∧ Below W.heap.size W w') :
    Calls Try.prog 34 #[.func (.func 40) #[] #[.pointer (some p)]] w fun e w' => e = .returned (.tuple #[Z6, .int .i64 er]) ∧ Below w.heap.size w w' := by
  have hmf : ∀ (fn : Fn) (first cap : Array Value) (w : World), (Instr.makeFunc fn first cap).run Try.prog w = .ok (.func fn first cap) w := fun _ _ _ _ => rfl
  obtain ⟨W0, hW0⟩ : ∃ W0, W0 = (w.alloc (.cells zeroV.toArray 28)).alloc (eBox 0) := ⟨_, rfl⟩
  have hbA : W0.heap[w.heap.size]? = some (.cells zeroV.toArray 28) := by rw [hW0]; exact blk_alloc (blk_new w _) _
  have hbB : W0.heap[w.heap.size + 1]? = some (eBox 0) := by
    have := blk_new (w.alloc (.cells zeroV.toArray 28)) (eBox 0)
    rw [show (w.alloc (.cells zeroV.toArray 28)).heap.size = w.heap.size + 1 by simp] at this
    rw [hW0]; exact this
  have hB0 : Below w.heap.size w W0 := by rw [hW0]; exact ((Below.refl w.heap.size w).alloc (Nat.le_refl _) _).alloc (by simp) _
  have hs0 : W0.heap.size = w.heap.size + 2 := by rw [hW0]; simp
  have HC : Hid _ := h W0 hB0 hs0
  have HA0 : Hid (W0.heap[w.heap.size]? = some (.cells zeroV.toArray 28)) := hbA
  have HB0 : Hid (W0.heap[w.heap.size + 1]? = some (eBox 0)) := hbB
  have HBB : Hid (Below w.heap.size w W0) := hB0
  have HS0 : Hid (W0.heap.size = w.heap.size + 2) := hs0
  have hW := hW0.symm
  unfold zeroV eBox at hW
  clear hbA hbB hB0 h hW0 hs0
  go_enter_defers Try.func34, Try.ntmps34
  go_wp2_with fail
  refine Calls.mono HC.out ?_
  rintro e1 w1 ⟨rfl, hb1⟩
  have hA1 : w1.heap[w.heap.size]? = some (BV zF zG (.slice none 0 0) (.slice none 0 0)) := by rw [blk_on HA0.out hb1, zeroV_vC]
  have hB1 := blk_on HB0.out hb1
  refine leaves_cons (f := 51) (args := #[.pointer (some ⟨w.heap.size + 1, 0, none⟩)]) (by simp) (by simp [go_sem]) ?_
  refine (catch_faultV (w.heap.size + 1) 0 er _ hB1).mono ?_
  rintro e9 u9 w9 ⟨rfl, rfl, h9, ho9⟩
  exact ⟨_, resCC rfl rfl rfl (vb_var ((ho9.other _ (by omega)).trans hA1)) (loadErr h9), rfl, (HBB.out.trans (Below.mono hb1 HBB.out.size)).trans (ho9.below (by omega))⟩

set_option maxHeartbeats 2000000 in
set_option maxRecDepth 100000 in
theorem ansB_yes (p : Addr) (w : World) (f : F6) (g : G6) (hs : Opts) (body : List Int) (h : ∀ W, Below w.heap.size w W → W.heap.size = w.heap.size + 2 → Calls Try.prog 40 #[.pointer (some p)] W fun e w' => ∃ vh vb, e = .returned (VV f g vh vb) ∧ D6 (fun b => W.heap.size ≤ b) w' f vh vb hs body ∧ Below W.heap.size W w') :
    Calls Try.prog 34 #[.func (.func 40) #[] #[.pointer (some p)]] w fun e w' => ∃ vh vb, e = .returned (.tuple #[VV f g vh vb, .int .i64 0]) ∧ D6 (fun b => w.heap.size ≤ b) w' f vh vb hs body ∧ Below w.heap.size w w' := by
  have hmf : ∀ (fn : Fn) (first cap : Array Value) (w : World), (Instr.makeFunc fn first cap).run Try.prog w = .ok (.func fn first cap) w := fun _ _ _ _ => rfl
  obtain ⟨W0, hW0⟩ : ∃ W0, W0 = (w.alloc (.cells zeroV.toArray 28)).alloc (eBox 0) := ⟨_, rfl⟩
  have hbA : W0.heap[w.heap.size]? = some (.cells zeroV.toArray 28) := by rw [hW0]; exact blk_alloc (blk_new w _) _
  have hbB : W0.heap[w.heap.size + 1]? = some (eBox 0) := by
    have := blk_new (w.alloc (.cells zeroV.toArray 28)) (eBox 0)
    rw [show (w.alloc (.cells zeroV.toArray 28)).heap.size = w.heap.size + 1 by simp] at this
    rw [hW0]; exact this
  have hB0 : Below w.heap.size w W0 := by rw [hW0]; exact ((Below.refl w.heap.size w).alloc (Nat.le_refl _) _).alloc (by simp) _
  have hs0 : W0.heap.size = w.heap.size + 2 := by rw [hW0]; simp
  have HC : Hid _ := h W0 hB0 hs0
  have HA0 : Hid (W0.heap[w.heap.size]? = some (.cells zeroV.toArray 28)) := hbA
  have HB0 : Hid (W0.heap[w.heap.size + 1]? = some (eBox 0)) := hbB
  have HBB : Hid (Below w.heap.size w W0) := hB0
  have HS0 : Hid (W0.heap.size = w.heap.size + 2) := hs0
  have hW := hW0.symm
  unfold zeroV eBox at hW
  clear hbA hbB hB0 h hW0 hs0
  go_enter_defers Try.func34, Try.ntmps34
  go_wp2_with fail
  refine Calls.mono HC.out ?_
  rintro e1 w1 ⟨vh, vb, rfl, hd, hb1⟩
  obtain ⟨w2, hst, hbx, ho⟩ := box_store Try.sizeOf28 (blk_on HA0.out hb1) (by rfl) (vC f g vh vb) vC_len (vC_one hd.hd.one hd.bd.one)
  have hB2 : w2.heap[w.heap.size + 1]? = some (eBox 0) := (ho.other _ (by omega)).trans (blk_on HB0.out hb1)
  obtain ⟨w3, hst3, hA3, hB3, ho3⟩ : ∃ w3, (Instr.storeAt 30 (.pointer (some ⟨w.heap.size + 1, 0, none⟩)) (.int .i64 0)).run Try.prog w2 = .ok () w3 ∧ w3.heap[w.heap.size]? = some (BV f g vh vb) ∧ w3.heap[w.heap.size + 1]? = some (eBox 0) ∧ Only (w.heap.size + 1) w2 w3 := ⟨_, st_err (y := 0) hB2, blk_set_other hbx (by omega) _ _, blk_set hB2 0 (.int .i64 0), (Only.refl _ w2).set 0 _⟩
  have hs0 := HS0.out
  have hd2 := hd.sep (Sep.of_only (O := fun b => b = w.heap.size) ho rfl) (fun b hb e => by omega)
  have hd3 := hd2.sep (Sep.of_only (O := fun b => b = w.heap.size + 1) ho3 rfl) (fun b hb e => by omega)
  have HD : Hid (D6 (fun b => w.heap.size ≤ b) w3 f vh vb hs body) := hd3.mono (fun b _ hb => by omega)
  have HBE : Hid (Below w.heap.size w w3) := ((HBB.out.trans (Below.mono hb1 HBB.out.size)).trans (ho.below (Nat.le_refl _))).trans (ho3.below (by omega))
  have HST : Hid _ := hst
  have HST3 : Hid _ := hst3
  have HA3 : Hid _ := hA3
  have HB3 : Hid _ := hB3
  clear hst hbx ho hB2 hst3 hA3 hB3 ho3 hd hd2 hd3 hb1 HC HA0 HB0 HBB hs0 HS0
  go_wp2_with first
    | ((with_reducible show wpList _ _ _ ({ dst := _, op := Op.store 28 (Operand.tmp 2) (Operand.tmp 6), type := _, pos := _, after := _, guard := _ } :: _) _ _); refine armS (.tmp 2) (Operand.tmp 6) 28 rfl rfl rfl rfl HST.out ?_; simp only [Act.put])
    | ((with_reducible show wpList _ _ _ ({ dst := _, op := Op.store 30 (Operand.tmp 3) _, type := _, pos := _, after := _, guard := _ } :: _) _ _); refine armS (.tmp 3) (.const (.int .i64 0)) 30 rfl rfl rfl rfl HST3.out ?_; simp only [Act.put])
  refine leaves_cons (f := 51) (args := #[.pointer (some ⟨w.heap.size + 1, 0, none⟩)]) (by simp) (by simp [go_sem]) ?_
  refine (catch_idleV _ _).mono ?_
  rintro e9 u9 w9 ⟨rfl, rfl, rfl⟩
  exact ⟨_, resCC rfl rfl rfl (vb_var HA3.out) (loadErr HB3.out), vh, vb, rfl, HD.out, HBE.out⟩

def atE (f : F6) (hs : Opts) (g : G6) (nb : Nat) (id : Int) : Int := if ckE f hs g nb ≠ 0 then ckE f hs g nb else if g.fr = true then 140 else if ckE f hs (hdG g id) nb ≠ 0 then 2 else 0
def brG (g : G6) : G6 := { g with fr := false, id := 0 }
def brE (f : F6) (hs : Opts) (g : G6) (nb : Nat) : Int := if ckE f hs g nb ≠ 0 then ckE f hs g nb else if g.more = true ∨ g.off ≠ 0 then 140 else if ckE f hs (brG g) nb ≠ 0 then 54 else 0
theorem atE_zero {f : F6} {hs : Opts} {g : G6} {nb : Nat} {id : Int} (h : atE f hs g nb id = 0) : ckE f hs g nb = 0 ∧ g.fr = false ∧ ckE f hs (hdG g id) nb = 0 := by
  unfold atE at h
  by_cases h1 : ckE f hs g nb ≠ 0
  · rw [if_pos h1] at h; exact absurd h h1
  rw [if_neg h1] at h
  by_cases h2 : g.fr = true
  · rw [if_pos h2] at h; omega
  rw [if_neg h2] at h
  by_cases h3 : ckE f hs (hdG g id) nb ≠ 0
  · rw [if_pos h3] at h; omega
  exact ⟨by simpa using h1, by simpa using h2, by simpa using h3⟩
theorem brE_zero {f : F6} {hs : Opts} {g : G6} {nb : Nat} (h : brE f hs g nb = 0) : ckE f hs g nb = 0 ∧ g.more = false ∧ g.off = 0 ∧ ckE f hs (brG g) nb = 0 := by
  unfold brE at h
  by_cases h1 : ckE f hs g nb ≠ 0
  · rw [if_pos h1] at h; exact absurd h h1
  rw [if_neg h1] at h
  by_cases h2 : g.more = true ∨ g.off ≠ 0
  · rw [if_pos h2] at h; omega
  rw [if_neg h2] at h
  by_cases h3 : ckE f hs (brG g) nb ≠ 0
  · rw [if_pos h3] at h; omega
  exact ⟨by simpa using h1, by simpa using fun e => h2 (.inl e), by
    by_cases c : g.off = 0
    · exact c
    · exact absurd (.inr c) h2, by simpa using h3⟩
/-- A datagram's box, and all above. -/
structure VAt (S : Nat → Prop) (pv : Nat) (f : F6) (g : G6) (vh vb : Value) (hs : Opts) (body : List Int) (W : World) : Prop where
  v : W.heap[pv]? = some (BV f g vh vb)
  dd : D6 S W f vh vb hs body
theorem VAt.on {S : Nat → Prop} {pv : Nat} {f : F6} {g : G6} {vh vb : Value} {hs : Opts} {body : List Int} {W W' : World} (h : VAt S pv f g vh vb hs body W) (hb : Below W.heap.size W W') : VAt S pv f g vh vb hs body W' := ⟨blk_on h.v hb, h.dd.on hb⟩
theorem heads8 {f : F6} {hs : Opts} {g : G6} {nb : Nat} (h : ckE f hs g nb = 0) : hs.length ≤ 8 := (ck_zero h).1.2.1.1

section
variable {S : Nat → Prop} {pv : Nat} {f : F6} {g : G6} {vh vb : Value} {hs : Opts} {body : List Int} {W : World}
set_option maxHeartbeats 4000000 in
set_option maxRecDepth 100000 in
theorem atomic_a {pi : Nat} {id : Int} (h : VAt S pv f g vh vb hs body W) (hi : W.heap[pi]? = some (.cells [.int .u32 id].toArray 22)) (h0 : ckE f hs g body.length ≠ 0) :
    Calls Try.prog 35 #[.pointer (some ⟨pv, 0, none⟩), .pointer (some ⟨pi, 0, none⟩)] W fun e w' => e = .panicked [guP (ckE f hs g body.length)] ∧ Below W.heap.size W w' := by
  obtain ⟨W0, hW0⟩ : ∃ W0, W0 = W.alloc (.cells zeroV.toArray 28) := ⟨_, rfl⟩
  have hz0 : W0.heap[W.heap.size]? = some (.cells zeroV.toArray 28) := by rw [hW0]; exact blk_new W _
  have hB0 : Below W.heap.size W W0 := by rw [hW0]; exact (Below.refl W.heap.size W).alloc (Nat.le_refl _) _
  have hA0 := h.on hB0
  have HZ0 : Hid (W0.heap[W.heap.size]? = some (.cells zeroV.toArray 28)) := hz0
  have HB0 : Hid (Below W.heap.size W W0) := hB0
  have HA0 : Hid (VAt S pv f g vh vb hs body W0) := hA0
  have HL0 : Hid _ := vb_load hA0.v
  have hW := hW0.symm
  unfold zeroV at hW
  have HC : Hid _ := check_no g hA0.dd h0
  clear hz0 hB0 hA0 h hW0 h0 hi
  go_enter Try.func35, Try.ntmps35
  go_wp2_with first
    | ((with_reducible show wpList _ _ _ ({ dst := _, op := Op.load 28 (Operand.tmp 0), type := _, pos := _, after := _, guard := _ } :: _) _ _); refine armL (.tmp 0) 28 rfl rfl rfl HL0.out ?_)
  refine Calls.mono HC.out ?_
  rintro e w2 ⟨rfl, hb2⟩
  exact ⟨rfl, rfl, HB0.out.trans (hb2.mono HB0.out.size)⟩
set_option maxHeartbeats 4000000 in
set_option maxRecDepth 100000 in
theorem bare_a (h : VAt S pv f g vh vb hs body W) (h0 : ckE f hs g body.length ≠ 0) :
    Calls Try.prog 40 #[.pointer (some ⟨pv, 0, none⟩)] W fun e w' => e = .panicked [guP (ckE f hs g body.length)] ∧ Below W.heap.size W w' := by
  obtain ⟨W0, hW0⟩ : ∃ W0, W0 = W.alloc (.cells zeroV.toArray 28) := ⟨_, rfl⟩
  have hz0 : W0.heap[W.heap.size]? = some (.cells zeroV.toArray 28) := by rw [hW0]; exact blk_new W _
  have hB0 : Below W.heap.size W W0 := by rw [hW0]; exact (Below.refl W.heap.size W).alloc (Nat.le_refl _) _
  have hA0 := h.on hB0
  have HZ0 : Hid (W0.heap[W.heap.size]? = some (.cells zeroV.toArray 28)) := hz0
  have HB0 : Hid (Below W.heap.size W W0) := hB0
  have HA0 : Hid (VAt S pv f g vh vb hs body W0) := hA0
  have HL0 : Hid _ := vb_load hA0.v
  have hW := hW0.symm
  unfold zeroV at hW
  have HC : Hid _ := check_no g hA0.dd h0
  clear hz0 hB0 hA0 h hW0 h0
  go_enter Try.func40, Try.ntmps40
  go_wp2_with first
    | ((with_reducible show wpList _ _ _ ({ dst := _, op := Op.load 28 (Operand.tmp 0), type := _, pos := _, after := _, guard := _ } :: _) _ _); refine armL (.tmp 0) 28 rfl rfl rfl HL0.out ?_)
  refine Calls.mono HC.out ?_
  rintro e w2 ⟨rfl, hb2⟩
  exact ⟨rfl, rfl, HB0.out.trans (hb2.mono HB0.out.size)⟩
set_option maxHeartbeats 4000000 in
set_option maxRecDepth 100000 in
theorem atomic_b {pi : Nat} {id : Int} (h : VAt S pv f g vh vb hs body W) (hi : W.heap[pi]? = some (.cells [.int .u32 id].toArray 22)) (h0 : ckE f hs g body.length = 0) (h1 : g.fr = true) :
    Calls Try.prog 35 #[.pointer (some ⟨pv, 0, none⟩), .pointer (some ⟨pi, 0, none⟩)] W fun e w' => e = .panicked [guP 140] ∧ Below W.heap.size W w' := by
  obtain ⟨W0, hW0⟩ : ∃ W0, W0 = W.alloc (.cells zeroV.toArray 28) := ⟨_, rfl⟩
  have hz0 : W0.heap[W.heap.size]? = some (.cells zeroV.toArray 28) := by rw [hW0]; exact blk_new W _
  have hB0 : Below W.heap.size W W0 := by rw [hW0]; exact (Below.refl W.heap.size W).alloc (Nat.le_refl _) _
  have hA0 := h.on hB0
  have HZ0 : Hid (W0.heap[W.heap.size]? = some (.cells zeroV.toArray 28)) := hz0
  have HB0 : Hid (Below W.heap.size W W0) := hB0
  have HA0 : Hid (VAt S pv f g vh vb hs body W0) := hA0
  have HL0 : Hid _ := vb_load hA0.v
  have hW := hW0.symm
  unfold zeroV at hW
  have HC : Hid _ := check_yes g hA0.dd h0
  clear hz0 hB0 hA0 h hW0 h0 hi
  go_enter Try.func35, Try.ntmps35
  go_wp2_with first
    | ((with_reducible show wpList _ _ _ ({ dst := _, op := Op.load 28 (Operand.tmp 0), type := _, pos := _, after := _, guard := _ } :: _) _ _); refine armL (.tmp 0) 28 rfl rfl rfl HL0.out ?_)
  refine Calls.mono HC.out ?_
  rintro e w2 ⟨rfl, hb2⟩
  have hA2 := HA0.out.on hb2
  have HA2 : Hid (VAt S pv f g vh vb hs body w2) := hA2
  have HBX : Hid (Below W.heap.size W w2) := HB0.out.trans (hb2.mono HB0.out.size)
  have HZ2 : Hid (w2.heap[W.heap.size]? = some (.cells zeroV.toArray 28)) := blk_on HZ0.out hb2
  have hlo2 : W.heap.size < w2.heap.size := (Array.getElem?_eq_some_iff.1 HZ2.out).1
  have k36 := vb36 hA2.v
  rw [h1] at k36
  clear hA2 hb2 HC HL0 HA0 HB0 HZ0 h1
  go_wp2_with fail
  refine Calls.mono (must_bad _ _) ?_
  rintro e w9 ⟨rfl, hw⟩
  obtain rfl := hw.symm
  exact ⟨rfl, rfl, HBX.out⟩
set_option maxHeartbeats 4000000 in
set_option maxRecDepth 100000 in
theorem bare_b (h : VAt S pv f g vh vb hs body W) (h0 : ckE f hs g body.length = 0) (h1 : g.more = true ∨ g.off ≠ 0) :
    Calls Try.prog 40 #[.pointer (some ⟨pv, 0, none⟩)] W fun e w' => e = .panicked [guP 140] ∧ Below W.heap.size W w' := by
  obtain ⟨W0, hW0⟩ : ∃ W0, W0 = W.alloc (.cells zeroV.toArray 28) := ⟨_, rfl⟩
  have hz0 : W0.heap[W.heap.size]? = some (.cells zeroV.toArray 28) := by rw [hW0]; exact blk_new W _
  have hB0 : Below W.heap.size W W0 := by rw [hW0]; exact (Below.refl W.heap.size W).alloc (Nat.le_refl _) _
  have hA0 := h.on hB0
  have HZ0 : Hid (W0.heap[W.heap.size]? = some (.cells zeroV.toArray 28)) := hz0
  have HB0 : Hid (Below W.heap.size W W0) := hB0
  have HA0 : Hid (VAt S pv f g vh vb hs body W0) := hA0
  have HL0 : Hid _ := vb_load hA0.v
  have hW := hW0.symm
  unfold zeroV at hW
  have HC : Hid _ := check_yes g hA0.dd h0
  clear hz0 hB0 hA0 h hW0 h0
  go_enter Try.func40, Try.ntmps40
  go_wp2_with first
    | ((with_reducible show wpList _ _ _ ({ dst := _, op := Op.load 28 (Operand.tmp 0), type := _, pos := _, after := _, guard := _ } :: _) _ _); refine armL (.tmp 0) 28 rfl rfl rfl HL0.out ?_)
  refine Calls.mono HC.out ?_
  rintro e w2 ⟨rfl, hb2⟩
  have hA2 := HA0.out.on hb2
  have HA2 : Hid (VAt S pv f g vh vb hs body w2) := hA2
  have HBX : Hid (Below W.heap.size W w2) := HB0.out.trans (hb2.mono HB0.out.size)
  have HZ2 : Hid (w2.heap[W.heap.size]? = some (.cells zeroV.toArray 28)) := blk_on HZ0.out hb2
  have hlo2 : W.heap.size < w2.heap.size := (Array.getElem?_eq_some_iff.1 HZ2.out).1
  have k39 := vb39 hA2.v
  have k38 := vb38 hA2.v
  clear hA2 hb2 HC HL0 HA0 HB0 HZ0
  by_cases hm : g.more = true
  · rw [hm] at k39
    clear h1 hm
    go_wp2_with fail
    refine Calls.mono (must_bad _ _) ?_
    rintro e w9 ⟨rfl, hw⟩
    obtain rfl := hw.symm
    exact ⟨rfl, rfl, HBX.out⟩
  · have ho : (g.off == 0) = false := by
      rcases h1 with h1 | h1
      · exact absurd h1 hm
      · simpa using h1
    have hm' : g.more = false := by simpa using hm
    rw [hm'] at k39
    clear h1 hm hm'
    go_wp2_with fail
    refine Calls.mono (must_bad _ _) ?_
    rintro e w9 ⟨rfl, hw⟩
    obtain rfl := hw.symm
    exact ⟨rfl, rfl, HBX.out⟩
set_option maxHeartbeats 4000000 in
set_option maxRecDepth 100000 in
theorem atomic_c {pi : Nat} {id : Int} (h : VAt S pv f g vh vb hs body W) (hi : W.heap[pi]? = some (.cells [.int .u32 id].toArray 22)) (h0 : ckE f hs g body.length = 0) (h1 : g.fr = false) (h3 : ckE f hs (hdG g id) body.length ≠ 0) :
    Calls Try.prog 35 #[.pointer (some ⟨pv, 0, none⟩), .pointer (some ⟨pi, 0, none⟩)] W fun e w' => e = .panicked [guP 2] ∧ Below W.heap.size W w' := by
  obtain ⟨W0, hW0⟩ : ∃ W0, W0 = W.alloc (.cells zeroV.toArray 28) := ⟨_, rfl⟩
  have hz0 : W0.heap[W.heap.size]? = some (.cells zeroV.toArray 28) := by rw [hW0]; exact blk_new W _
  have hB0 : Below W.heap.size W W0 := by rw [hW0]; exact (Below.refl W.heap.size W).alloc (Nat.le_refl _) _
  have hA0 := h.on hB0
  have HZ0 : Hid (W0.heap[W.heap.size]? = some (.cells zeroV.toArray 28)) := hz0
  have HB0 : Hid (Below W.heap.size W W0) := hB0
  have HA0 : Hid (VAt S pv f g vh vb hs body W0) := hA0
  have HL0 : Hid _ := vb_load hA0.v
  have hW := hW0.symm
  unfold zeroV at hW
  have HC : Hid _ := check_yes g hA0.dd h0
  clear hz0 hB0 hA0 h hW0 h0
  go_enter Try.func35, Try.ntmps35
  go_wp2_with first
    | ((with_reducible show wpList _ _ _ ({ dst := _, op := Op.load 28 (Operand.tmp 0), type := _, pos := _, after := _, guard := _ } :: _) _ _); refine armL (.tmp 0) 28 rfl rfl rfl HL0.out ?_)
  refine Calls.mono HC.out ?_
  rintro e w2 ⟨rfl, hb2⟩
  have hA2 := HA0.out.on hb2
  have HA2 : Hid (VAt S pv f g vh vb hs body w2) := hA2
  have HBX : Hid (Below W.heap.size W w2) := HB0.out.trans (hb2.mono HB0.out.size)
  have HZ2 : Hid (w2.heap[W.heap.size]? = some (.cells zeroV.toArray 28)) := blk_on HZ0.out hb2
  have hlo2 : W.heap.size < w2.heap.size := (Array.getElem?_eq_some_iff.1 HZ2.out).1
  have k36 := vb36 hA2.v
  rw [h1] at k36
  have ki : w2.cell? ⟨pi, 0, none⟩ = some (.int .u32 id) := blk_cell (blk_on (blk_on hi HB0.out) hb2) (j := 0) rfl
  have HL2 : Hid _ := vb_load hA2.v
  have HHE : Hid _ := headed_calls (vh := vh) (vb := vb) f g hA2.dd.hd.one hA2.dd.bd.one id w2
  clear hA2 hb2 HC HL0 HA0 HB0 HZ0 hi
  go_wp2_with fail
  refine Calls.mono (must_good _ _) ?_
  rintro e w9 ⟨rfl, hw⟩
  obtain rfl := hw.symm
  clear hw
  go_wp2_with first
    | ((with_reducible show wpList _ _ _ ({ dst := _, op := Op.load 28 (Operand.tmp 0), type := _, pos := _, after := _, guard := _ } :: _) _ _); refine armL (.tmp 0) 28 rfl rfl rfl HL2.out ?_)
  refine Calls.mono HHE.out ?_
  rintro e w3 ⟨rfl, hb3⟩
  have hA3 := HA2.out.on hb3
  obtain ⟨w4, hst4, hbx4, hB4, hs4⟩ := vb_new w3 f (hdG g id) (vh := vh) (vb := vb) hA3.dd.hd.one hA3.dd.bd.one
  unfold zeroV at hst4
  have HST : Hid _ := hst4
  have HL4 : Hid _ := vb_load hbx4
  have hD4 := hA3.dd.on hB4
  have HCK : Hid _ := Check_any (g := hdG g id) hD4
  have hB24 : Below w2.heap.size w2 w4 := hb3.trans (hB4.mono hb3.size)
  have HZ4 : Hid (w4.heap[W.heap.size]? = some (.cells zeroV.toArray 28)) := blk_on HZ2.out hB24
  have HB4 : Hid (Below W.heap.size W w4) := HBX.out.trans (hB24.mono HBX.out.size)
  have HX4 : Hid _ := hbx4
  have HD4 : Hid (D6 S w4 f vh vb hs body) := hD4
  have HLO : Hid (W.heap.size < w3.heap.size) := by show _ < _; have := hb3.size; omega
  clear hst4 hbx4 hB4 hs4 hA3 hb3 hD4 hB24 k36 ki HL2 HHE HBX HZ2 HA2
  generalize hG : hdG g id = GG at *
  have HG : Hid (hdG g id = GG) := hG
  clear hG
  go_wp2_with first
    | ((with_reducible show wpList _ _ _ ({ dst := _, op := Op.store 28 (Operand.tmp 3) (Operand.tmp 12), type := _, pos := _, after := _, guard := _ } :: _) _ _); refine armS (.tmp 3) (Operand.tmp 12) 28 rfl rfl rfl rfl HST.out ?_; simp only [Act.put])
    | ((with_reducible show wpList _ _ _ ({ dst := _, op := Op.load 28 (Operand.tmp 3), type := _, pos := _, after := _, guard := _ } :: _) _ _); refine armL (.tmp 3) 28 rfl rfl rfl HL4.out ?_)
  refine Calls.mono HCK.out ?_
  rintro e w7 ⟨rfl, hb7⟩
  have HBX : Hid (Below W.heap.size W w7) := HB4.out.trans (hb7.mono HB4.out.size)
  have q : (ckE f hs GG body.length == 0) = false := by simpa using h3
  generalize ckE f hs GG body.length = CE at *
  clear hb7 HCK HL4 HST
  go_wp2_with fail
  refine Calls.mono (must_bad _ _) ?_
  rintro e w9 ⟨rfl, hw⟩
  obtain rfl := hw.symm
  exact ⟨rfl, rfl, HBX.out⟩
set_option maxHeartbeats 4000000 in
set_option maxRecDepth 100000 in
theorem atomic_d {pi : Nat} {id : Int} (h : VAt S pv f g vh vb hs body W) (hi : W.heap[pi]? = some (.cells [.int .u32 id].toArray 22)) (h0 : ckE f hs g body.length = 0) (h1 : g.fr = false) (h3 : ckE f hs (hdG g id) body.length = 0) :
    Calls Try.prog 35 #[.pointer (some ⟨pv, 0, none⟩), .pointer (some ⟨pi, 0, none⟩)] W fun e w' => ∃ vh' vb', e = .returned (VV f (hdG g id) vh' vb') ∧ D6 (fun b => W.heap.size ≤ b) w' f vh' vb' hs body ∧ Below W.heap.size W w' := by
  have h8 := heads8 h0
  obtain ⟨W0, hW0⟩ : ∃ W0, W0 = W.alloc (.cells zeroV.toArray 28) := ⟨_, rfl⟩
  have hz0 : W0.heap[W.heap.size]? = some (.cells zeroV.toArray 28) := by rw [hW0]; exact blk_new W _
  have hB0 : Below W.heap.size W W0 := by rw [hW0]; exact (Below.refl W.heap.size W).alloc (Nat.le_refl _) _
  have hA0 := h.on hB0
  have HZ0 : Hid (W0.heap[W.heap.size]? = some (.cells zeroV.toArray 28)) := hz0
  have HB0 : Hid (Below W.heap.size W W0) := hB0
  have HA0 : Hid (VAt S pv f g vh vb hs body W0) := hA0
  have HL0 : Hid _ := vb_load hA0.v
  have hW := hW0.symm
  unfold zeroV at hW
  have HC : Hid _ := check_yes g hA0.dd h0
  clear hz0 hB0 hA0 h hW0 h0
  go_enter Try.func35, Try.ntmps35
  go_wp2_with first
    | ((with_reducible show wpList _ _ _ ({ dst := _, op := Op.load 28 (Operand.tmp 0), type := _, pos := _, after := _, guard := _ } :: _) _ _); refine armL (.tmp 0) 28 rfl rfl rfl HL0.out ?_)
  refine Calls.mono HC.out ?_
  rintro e w2 ⟨rfl, hb2⟩
  have hA2 := HA0.out.on hb2
  have HA2 : Hid (VAt S pv f g vh vb hs body w2) := hA2
  have HBX : Hid (Below W.heap.size W w2) := HB0.out.trans (hb2.mono HB0.out.size)
  have HZ2 : Hid (w2.heap[W.heap.size]? = some (.cells zeroV.toArray 28)) := blk_on HZ0.out hb2
  have hlo2 : W.heap.size < w2.heap.size := (Array.getElem?_eq_some_iff.1 HZ2.out).1
  have k36 := vb36 hA2.v
  rw [h1] at k36
  have ki : w2.cell? ⟨pi, 0, none⟩ = some (.int .u32 id) := blk_cell (blk_on (blk_on hi HB0.out) hb2) (j := 0) rfl
  have HL2 : Hid _ := vb_load hA2.v
  have HHE : Hid _ := headed_calls (vh := vh) (vb := vb) f g hA2.dd.hd.one hA2.dd.bd.one id w2
  clear hA2 hb2 HC HL0 HA0 HB0 HZ0 hi
  go_wp2_with fail
  refine Calls.mono (must_good _ _) ?_
  rintro e w9 ⟨rfl, hw⟩
  obtain rfl := hw.symm
  clear hw
  go_wp2_with first
    | ((with_reducible show wpList _ _ _ ({ dst := _, op := Op.load 28 (Operand.tmp 0), type := _, pos := _, after := _, guard := _ } :: _) _ _); refine armL (.tmp 0) 28 rfl rfl rfl HL2.out ?_)
  refine Calls.mono HHE.out ?_
  rintro e w3 ⟨rfl, hb3⟩
  have hA3 := HA2.out.on hb3
  obtain ⟨w4, hst4, hbx4, hB4, hs4⟩ := vb_new w3 f (hdG g id) (vh := vh) (vb := vb) hA3.dd.hd.one hA3.dd.bd.one
  unfold zeroV at hst4
  have HST : Hid _ := hst4
  have HL4 : Hid _ := vb_load hbx4
  have hD4 := hA3.dd.on hB4
  have HCK : Hid _ := Check_any (g := hdG g id) hD4
  have hB24 : Below w2.heap.size w2 w4 := hb3.trans (hB4.mono hb3.size)
  have HZ4 : Hid (w4.heap[W.heap.size]? = some (.cells zeroV.toArray 28)) := blk_on HZ2.out hB24
  have HB4 : Hid (Below W.heap.size W w4) := HBX.out.trans (hB24.mono HBX.out.size)
  have HX4 : Hid _ := hbx4
  have HD4 : Hid (D6 S w4 f vh vb hs body) := hD4
  have HLO : Hid (W.heap.size < w3.heap.size) := by show _ < _; have := hb3.size; omega
  clear hst4 hbx4 hB4 hs4 hA3 hb3 hD4 hB24 k36 ki HL2 HHE HBX HZ2 HA2
  generalize hG : hdG g id = GG at *
  have HG : Hid (hdG g id = GG) := hG
  clear hG
  go_wp2_with first
    | ((with_reducible show wpList _ _ _ ({ dst := _, op := Op.store 28 (Operand.tmp 3) (Operand.tmp 12), type := _, pos := _, after := _, guard := _ } :: _) _ _); refine armS (.tmp 3) (Operand.tmp 12) 28 rfl rfl rfl rfl HST.out ?_; simp only [Act.put])
    | ((with_reducible show wpList _ _ _ ({ dst := _, op := Op.load 28 (Operand.tmp 3), type := _, pos := _, after := _, guard := _ } :: _) _ _); refine armL (.tmp 3) 28 rfl rfl rfl HL4.out ?_)
  refine Calls.mono HCK.out ?_
  rintro e w7 ⟨rfl, hb7⟩
  have HX7 : Hid _ := vb_load (blk_on HX4.out hb7)
  have HD7 : Hid (D6 S w7 f vh vb hs body) := HD4.out.on hb7
  have HB7 : Hid (Below W.heap.size W w7) := HB4.out.trans (hb7.mono HB4.out.size)
  have HZ7 : Hid (w7.heap[W.heap.size]? = some (.cells zeroV.toArray 28)) := blk_on HZ4.out hb7
  have HLO7 : Hid (W.heap.size < w7.heap.size) := (Array.getElem?_eq_some_iff.1 HZ7.out).1
  have HOW : Hid _ := own_calls GG HD7.out h8
  rw [h3]
  clear hb7 HCK HL4 HST HB4 HZ4 HX4 HD4
  go_wp2_with fail
  refine Calls.mono (must_good _ _) ?_
  rintro e w9 ⟨rfl, hw⟩
  obtain rfl := hw.symm
  clear hw
  go_wp2_with first
    | ((with_reducible show wpList _ _ _ ({ dst := _, op := Op.load 28 (Operand.tmp 3), type := _, pos := _, after := _, guard := _ } :: _) _ _); refine armL (.tmp 3) 28 rfl rfl rfl HX7.out ?_)
  refine Calls.mono HOW.out ?_
  rintro e w8 ⟨vh', vb', rfl, hd8, hb8⟩
  obtain ⟨w10, hst10, hbx10, hon10⟩ := box_store Try.sizeOf28 (blk_on HZ7.out hb8) (by rfl) (vC f GG vh' vb') vC_len (vC_one hd8.hd.one hd8.bd.one)
  have HST10 : Hid _ := hst10
  have HV10 : Hid _ := vb_var hbx10
  have hlo7 := HLO7.out
  have hd10 := hd8.sep (Sep.of_only (O := fun b => b = W.heap.size) hon10 rfl) (fun b hb e => by omega)
  have HD10 : Hid (D6 (fun b => W.heap.size ≤ b) w10 f vh' vb' hs body) := hd10.mono (fun b _ hb => by omega)
  have HB10 : Hid (Below W.heap.size W w10) := (HB7.out.trans (hb8.mono HB7.out.size)).trans (hon10.below (Nat.le_refl _))
  clear hst10 hbx10 hon10 hd8 hd10 hb8 HOW HX7 HD7 HB7 HZ7 hlo7 HLO7
  go_wp2_with first
    | ((with_reducible show wpList _ _ _ ({ dst := _, op := Op.store 28 (Operand.tmp 2) (Operand.tmp 18), type := _, pos := _, after := _, guard := _ } :: _) _ _); refine armS (.tmp 2) (Operand.tmp 18) 28 rfl rfl rfl rfl HST10.out ?_; simp only [Act.put])
  exact bodyPost_ret (res1t rfl rfl HV10.out) rfl ⟨vh', vb', by rw [HG.out], HD10.out, HB10.out⟩
set_option maxHeartbeats 4000000 in
set_option maxRecDepth 100000 in
theorem bare_c (h : VAt S pv f g vh vb hs body W) (h0 : ckE f hs g body.length = 0) (h1 : g.more = false) (h2 : g.off = 0) (h3 : ckE f hs (brG g) body.length ≠ 0) :
    Calls Try.prog 40 #[.pointer (some ⟨pv, 0, none⟩)] W fun e w' => e = .panicked [guP 54] ∧ Below W.heap.size W w' := by
  obtain ⟨W0, hW0⟩ : ∃ W0, W0 = W.alloc (.cells zeroV.toArray 28) := ⟨_, rfl⟩
  have hz0 : W0.heap[W.heap.size]? = some (.cells zeroV.toArray 28) := by rw [hW0]; exact blk_new W _
  have hB0 : Below W.heap.size W W0 := by rw [hW0]; exact (Below.refl W.heap.size W).alloc (Nat.le_refl _) _
  have hA0 := h.on hB0
  have HZ0 : Hid (W0.heap[W.heap.size]? = some (.cells zeroV.toArray 28)) := hz0
  have HB0 : Hid (Below W.heap.size W W0) := hB0
  have HA0 : Hid (VAt S pv f g vh vb hs body W0) := hA0
  have HL0 : Hid _ := vb_load hA0.v
  have hW := hW0.symm
  unfold zeroV at hW
  have HC : Hid _ := check_yes g hA0.dd h0
  clear hz0 hB0 hA0 h hW0 h0
  go_enter Try.func40, Try.ntmps40
  go_wp2_with first
    | ((with_reducible show wpList _ _ _ ({ dst := _, op := Op.load 28 (Operand.tmp 0), type := _, pos := _, after := _, guard := _ } :: _) _ _); refine armL (.tmp 0) 28 rfl rfl rfl HL0.out ?_)
  refine Calls.mono HC.out ?_
  rintro e w2 ⟨rfl, hb2⟩
  have hA2 := HA0.out.on hb2
  have HA2 : Hid (VAt S pv f g vh vb hs body w2) := hA2
  have HBX : Hid (Below W.heap.size W w2) := HB0.out.trans (hb2.mono HB0.out.size)
  have HZ2 : Hid (w2.heap[W.heap.size]? = some (.cells zeroV.toArray 28)) := blk_on HZ0.out hb2
  have hlo2 : W.heap.size < w2.heap.size := (Array.getElem?_eq_some_iff.1 HZ2.out).1
  have k39 := vb39 hA2.v
  have k38 := vb38 hA2.v
  rw [h1] at k39
  rw [h2] at k38
  have HL2 : Hid _ := vb_load hA2.v
  obtain ⟨w4, hst4, hbx4, hB4, hs4⟩ := vb_new w2 f g (vh := vh) (vb := vb) hA2.dd.hd.one hA2.dd.bd.one
  unfold zeroV at hst4
  obtain ⟨w5, hst5, hbx5, hon5⟩ : ∃ w5, (Instr.storeAt 4 (.pointer (some ⟨w2.heap.size, 36, none⟩)) (.bool false)).run Try.prog w4 = .ok () w5 ∧ w5.heap[w2.heap.size]? = some (BV f { g with fr := false } vh vb) ∧ Only w2.heap.size w4 w5 := ⟨_, st_bool hbx4 (show 36 < _ by rw [vC_len]; omega) false, vs36 hbx4 false, (Only.refl _ w4).set 36 _⟩
  obtain ⟨w6, hst6, hbx6, hon6⟩ : ∃ w6, (Instr.storeAt 22 (.pointer (some ⟨w2.heap.size, 37, none⟩)) (.int .u32 0)).run Try.prog w5 = .ok () w6 ∧ w6.heap[w2.heap.size]? = some (BV f (brG g) vh vb) ∧ Only w2.heap.size w5 w6 := ⟨_, st_u32 hbx5 (show 37 < _ by rw [vC_len]; omega) 0, vs37 hbx5 0, (Only.refl _ w5).set 37 _⟩
  have hB26 : Below w2.heap.size w2 w6 := (hB4.trans (hon5.below (Nat.le_refl _))).trans (hon6.below (Nat.le_refl _))
  have HST : Hid _ := hst4
  have HST5 : Hid _ := hst5
  have HST6 : Hid _ := hst6
  have HL4 : Hid _ := vb_load hbx6
  have hD4 := hA2.dd.on hB26
  have HCK : Hid _ := Check_any (g := brG g) hD4
  have HZ4 : Hid (w6.heap[W.heap.size]? = some (.cells zeroV.toArray 28)) := blk_on HZ2.out hB26
  have HB4 : Hid (Below W.heap.size W w6) := HBX.out.trans (hB26.mono HBX.out.size)
  have HX4 : Hid _ := hbx6
  have HD4 : Hid (D6 S w6 f vh vb hs body) := hD4
  have HLO : Hid (W.heap.size < w2.heap.size) := hlo2
  clear hst4 hbx4 hB4 hs4 hst5 hbx5 hon5 hst6 hbx6 hon6 hB26 hA2 hD4 HZ2 HBX HA2 HC HL0 HA0 HB0 HZ0 hb2
  generalize hG : brG g = GG at *
  have HG : Hid (brG g = GG) := hG
  clear hG
  go_wp2_with fail
  refine Calls.mono (must_good _ _) ?_
  rintro e w9 ⟨rfl, hw⟩
  obtain rfl := hw.symm
  clear hw
  go_wp2_with first
    | ((with_reducible show wpList _ _ _ ({ dst := _, op := Op.load 28 (Operand.tmp 0), type := _, pos := _, after := _, guard := _ } :: _) _ _); refine armL (.tmp 0) 28 rfl rfl rfl HL2.out ?_)
    | ((with_reducible show wpList _ _ _ ({ dst := _, op := Op.store 28 (Operand.tmp 2) (Operand.tmp 14), type := _, pos := _, after := _, guard := _ } :: _) _ _); refine armS (.tmp 2) (Operand.tmp 14) 28 rfl rfl rfl rfl HST.out ?_; simp only [Act.put])
    | ((with_reducible show wpList _ _ _ ({ dst := _, op := Op.store 4 (Operand.tmp 15) _, type := _, pos := _, after := _, guard := _ } :: _) _ _); refine armS (.tmp 15) (.const (.bool false)) 4 rfl rfl rfl rfl HST5.out ?_; simp only [Act.put])
    | ((with_reducible show wpList _ _ _ ({ dst := _, op := Op.store 22 (Operand.tmp 16) _, type := _, pos := _, after := _, guard := _ } :: _) _ _); refine armS (.tmp 16) (.const (.int .u32 0)) 22 rfl rfl rfl rfl HST6.out ?_; simp only [Act.put])
    | ((with_reducible show wpList _ _ _ ({ dst := _, op := Op.load 28 (Operand.tmp 2), type := _, pos := _, after := _, guard := _ } :: _) _ _); refine armL (.tmp 2) 28 rfl rfl rfl HL4.out ?_)
  refine Calls.mono HCK.out ?_
  rintro e w7 ⟨rfl, hb7⟩
  have HBX : Hid (Below W.heap.size W w7) := HB4.out.trans (hb7.mono HB4.out.size)
  have q : (ckE f hs GG body.length == 0) = false := by simpa using h3
  generalize ckE f hs GG body.length = CE at *
  clear hb7 HCK HL4 HST
  go_wp2_with fail
  refine Calls.mono (must_bad _ _) ?_
  rintro e w9 ⟨rfl, hw⟩
  obtain rfl := hw.symm
  exact ⟨rfl, rfl, HBX.out⟩
set_option maxHeartbeats 4000000 in
set_option maxRecDepth 100000 in
theorem bare_d (h : VAt S pv f g vh vb hs body W) (h0 : ckE f hs g body.length = 0) (h1 : g.more = false) (h2 : g.off = 0) (h3 : ckE f hs (brG g) body.length = 0) :
    Calls Try.prog 40 #[.pointer (some ⟨pv, 0, none⟩)] W fun e w' => ∃ vh' vb', e = .returned (VV f (brG g) vh' vb') ∧ D6 (fun b => W.heap.size ≤ b) w' f vh' vb' hs body ∧ Below W.heap.size W w' := by
  have h8 := heads8 h0
  obtain ⟨W0, hW0⟩ : ∃ W0, W0 = W.alloc (.cells zeroV.toArray 28) := ⟨_, rfl⟩
  have hz0 : W0.heap[W.heap.size]? = some (.cells zeroV.toArray 28) := by rw [hW0]; exact blk_new W _
  have hB0 : Below W.heap.size W W0 := by rw [hW0]; exact (Below.refl W.heap.size W).alloc (Nat.le_refl _) _
  have hA0 := h.on hB0
  have HZ0 : Hid (W0.heap[W.heap.size]? = some (.cells zeroV.toArray 28)) := hz0
  have HB0 : Hid (Below W.heap.size W W0) := hB0
  have HA0 : Hid (VAt S pv f g vh vb hs body W0) := hA0
  have HL0 : Hid _ := vb_load hA0.v
  have hW := hW0.symm
  unfold zeroV at hW
  have HC : Hid _ := check_yes g hA0.dd h0
  clear hz0 hB0 hA0 h hW0 h0
  go_enter Try.func40, Try.ntmps40
  go_wp2_with first
    | ((with_reducible show wpList _ _ _ ({ dst := _, op := Op.load 28 (Operand.tmp 0), type := _, pos := _, after := _, guard := _ } :: _) _ _); refine armL (.tmp 0) 28 rfl rfl rfl HL0.out ?_)
  refine Calls.mono HC.out ?_
  rintro e w2 ⟨rfl, hb2⟩
  have hA2 := HA0.out.on hb2
  have HA2 : Hid (VAt S pv f g vh vb hs body w2) := hA2
  have HBX : Hid (Below W.heap.size W w2) := HB0.out.trans (hb2.mono HB0.out.size)
  have HZ2 : Hid (w2.heap[W.heap.size]? = some (.cells zeroV.toArray 28)) := blk_on HZ0.out hb2
  have hlo2 : W.heap.size < w2.heap.size := (Array.getElem?_eq_some_iff.1 HZ2.out).1
  have k39 := vb39 hA2.v
  have k38 := vb38 hA2.v
  rw [h1] at k39
  rw [h2] at k38
  have HL2 : Hid _ := vb_load hA2.v
  obtain ⟨w4, hst4, hbx4, hB4, hs4⟩ := vb_new w2 f g (vh := vh) (vb := vb) hA2.dd.hd.one hA2.dd.bd.one
  unfold zeroV at hst4
  obtain ⟨w5, hst5, hbx5, hon5⟩ : ∃ w5, (Instr.storeAt 4 (.pointer (some ⟨w2.heap.size, 36, none⟩)) (.bool false)).run Try.prog w4 = .ok () w5 ∧ w5.heap[w2.heap.size]? = some (BV f { g with fr := false } vh vb) ∧ Only w2.heap.size w4 w5 := ⟨_, st_bool hbx4 (show 36 < _ by rw [vC_len]; omega) false, vs36 hbx4 false, (Only.refl _ w4).set 36 _⟩
  obtain ⟨w6, hst6, hbx6, hon6⟩ : ∃ w6, (Instr.storeAt 22 (.pointer (some ⟨w2.heap.size, 37, none⟩)) (.int .u32 0)).run Try.prog w5 = .ok () w6 ∧ w6.heap[w2.heap.size]? = some (BV f (brG g) vh vb) ∧ Only w2.heap.size w5 w6 := ⟨_, st_u32 hbx5 (show 37 < _ by rw [vC_len]; omega) 0, vs37 hbx5 0, (Only.refl _ w5).set 37 _⟩
  have hB26 : Below w2.heap.size w2 w6 := (hB4.trans (hon5.below (Nat.le_refl _))).trans (hon6.below (Nat.le_refl _))
  have HST : Hid _ := hst4
  have HST5 : Hid _ := hst5
  have HST6 : Hid _ := hst6
  have HL4 : Hid _ := vb_load hbx6
  have hD4 := hA2.dd.on hB26
  have HCK : Hid _ := Check_any (g := brG g) hD4
  have HZ4 : Hid (w6.heap[W.heap.size]? = some (.cells zeroV.toArray 28)) := blk_on HZ2.out hB26
  have HB4 : Hid (Below W.heap.size W w6) := HBX.out.trans (hB26.mono HBX.out.size)
  have HX4 : Hid _ := hbx6
  have HD4 : Hid (D6 S w6 f vh vb hs body) := hD4
  have HLO : Hid (W.heap.size < w2.heap.size) := hlo2
  clear hst4 hbx4 hB4 hs4 hst5 hbx5 hon5 hst6 hbx6 hon6 hB26 hA2 hD4 HZ2 HBX HA2 HC HL0 HA0 HB0 HZ0 hb2
  generalize hG : brG g = GG at *
  have HG : Hid (brG g = GG) := hG
  clear hG
  go_wp2_with fail
  refine Calls.mono (must_good _ _) ?_
  rintro e w9 ⟨rfl, hw⟩
  obtain rfl := hw.symm
  clear hw
  go_wp2_with first
    | ((with_reducible show wpList _ _ _ ({ dst := _, op := Op.load 28 (Operand.tmp 0), type := _, pos := _, after := _, guard := _ } :: _) _ _); refine armL (.tmp 0) 28 rfl rfl rfl HL2.out ?_)
    | ((with_reducible show wpList _ _ _ ({ dst := _, op := Op.store 28 (Operand.tmp 2) (Operand.tmp 14), type := _, pos := _, after := _, guard := _ } :: _) _ _); refine armS (.tmp 2) (Operand.tmp 14) 28 rfl rfl rfl rfl HST.out ?_; simp only [Act.put])
    | ((with_reducible show wpList _ _ _ ({ dst := _, op := Op.store 4 (Operand.tmp 15) _, type := _, pos := _, after := _, guard := _ } :: _) _ _); refine armS (.tmp 15) (.const (.bool false)) 4 rfl rfl rfl rfl HST5.out ?_; simp only [Act.put])
    | ((with_reducible show wpList _ _ _ ({ dst := _, op := Op.store 22 (Operand.tmp 16) _, type := _, pos := _, after := _, guard := _ } :: _) _ _); refine armS (.tmp 16) (.const (.int .u32 0)) 22 rfl rfl rfl rfl HST6.out ?_; simp only [Act.put])
    | ((with_reducible show wpList _ _ _ ({ dst := _, op := Op.load 28 (Operand.tmp 2), type := _, pos := _, after := _, guard := _ } :: _) _ _); refine armL (.tmp 2) 28 rfl rfl rfl HL4.out ?_)
  refine Calls.mono HCK.out ?_
  rintro e w7 ⟨rfl, hb7⟩
  have HX7 : Hid _ := vb_load (blk_on HX4.out hb7)
  have HD7 : Hid (D6 S w7 f vh vb hs body) := HD4.out.on hb7
  have HB7 : Hid (Below W.heap.size W w7) := HB4.out.trans (hb7.mono HB4.out.size)
  have HZ7 : Hid (w7.heap[W.heap.size]? = some (.cells zeroV.toArray 28)) := blk_on HZ4.out hb7
  have HLO7 : Hid (W.heap.size < w7.heap.size) := (Array.getElem?_eq_some_iff.1 HZ7.out).1
  have HOW : Hid _ := own_calls GG HD7.out h8
  rw [h3]
  clear hb7 HCK HL4 HST HB4 HZ4 HX4 HD4
  go_wp2_with fail
  refine Calls.mono (must_good _ _) ?_
  rintro e w9 ⟨rfl, hw⟩
  obtain rfl := hw.symm
  clear hw
  go_wp2_with first
    | ((with_reducible show wpList _ _ _ ({ dst := _, op := Op.load 28 (Operand.tmp 2), type := _, pos := _, after := _, guard := _ } :: _) _ _); refine armL (.tmp 2) 28 rfl rfl rfl HX7.out ?_)
  refine Calls.mono HOW.out ?_
  rintro e w8 ⟨vh', vb', rfl, hd8, hb8⟩
  obtain ⟨w10, hst10, hbx10, hon10⟩ := box_store Try.sizeOf28 (blk_on HZ7.out hb8) (by rfl) (vC f GG vh' vb') vC_len (vC_one hd8.hd.one hd8.bd.one)
  have HST10 : Hid _ := hst10
  have HV10 : Hid _ := vb_var hbx10
  have hlo7 := HLO7.out
  have hd10 := hd8.sep (Sep.of_only (O := fun b => b = W.heap.size) hon10 rfl) (fun b hb e => by omega)
  have HD10 : Hid (D6 (fun b => W.heap.size ≤ b) w10 f vh' vb' hs body) := hd10.mono (fun b _ hb => by omega)
  have HB10 : Hid (Below W.heap.size W w10) := (HB7.out.trans (hb8.mono HB7.out.size)).trans (hon10.below (Nat.le_refl _))
  clear hst10 hbx10 hon10 hd8 hd10 hb8 HOW HX7 HD7 HB7 HZ7 hlo7 HLO7
  go_wp2_with first
    | ((with_reducible show wpList _ _ _ ({ dst := _, op := Op.store 28 (Operand.tmp 1) (Operand.tmp 22), type := _, pos := _, after := _, guard := _ } :: _) _ _); refine armS (.tmp 1) (Operand.tmp 22) 28 rfl rfl rfl rfl HST10.out ?_; simp only [Act.put])
  exact bodyPost_ret (res1t rfl rfl HV10.out) rfl ⟨vh', vb', by rw [HG.out], HD10.out, HB10.out⟩
end

end Go.Proofs.Ytcllcinekohklaa
