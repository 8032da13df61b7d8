/-
  Atomic and Bare of both sides.
-/
import Derived.Test.YtcllcinekohklaaXf1
namespace Go.Proofs.Ytcllcinekohklaa
open Go Go.RowKit
set_option linter.unusedVariables false
set_option linter.unusedSimpArgs false

def rF (E : Int) (f : F6) : F6 := if E = 0 then f else zF
def rG (E : Int) (g : G6) : G6 := if E = 0 then g else zG
def rH (E : Int) (hs : Opts) : Opts := if E = 0 then hs else []
def rB (E : Int) (body : List Int) : List Int := if E = 0 then body else []
/-- A datagram, or none and why. -/
def AnsV (w : World) (E : Int) (f : F6) (g : G6) (hs : Opts) (body : List Int) (e : Ending) (w' : World) : Prop :=
  ∃ vh vb, e = .returned (.tuple #[VV (rF E f) (rG E g) vh vb, .int .i64 E]) ∧ D6 (fun _ => True) w' (rF E f) vh vb (rH E hs) (rB E body) ∧ Below w.heap.size w w'
theorem BS.nil (S : Nat → Prop) (w : World) : BS S w (.slice none 0 0) [] := ⟨⟨fun z hz => absurd hz (by simp), Nat.zero_le _, none, 0, rfl, Nat.le_refl _, .inl rfl⟩, .inl rfl⟩
theorem AnsV.no {w w' : World} {E : Int} {f : F6} {g : G6} {hs : Opts} {body : List Int} (hE : E ≠ 0) (hb : Below w.heap.size w w') : AnsV w E f g hs body (.returned (.tuple #[Z6, .int .i64 E])) w' := by
  refine ⟨.slice none 0 0, .slice none 0 0, ?_, ?_, hb⟩
  · unfold rF rG; rw [if_neg hE, if_neg hE]
  · unfold rF rH rB; rw [if_neg hE, if_neg hE, if_neg hE]
    exact ⟨HS.nil _ _, BS.nil _ _, by unfold zF; simp⟩
theorem AnsV.yes {S : Nat → Prop} {w w' : World} {f : F6} {g : G6} {hs : Opts} {body : List Int} {vh vb : Value} (hd : D6 S w' f vh vb hs body) (hb : Below w.heap.size w w') : AnsV w 0 f g hs body (.returned (.tuple #[VV f g vh vb, .int .i64 0])) w' := by
  refine ⟨vh, vb, ?_, ?_, hb⟩
  · unfold rF rG; rw [if_pos rfl, if_pos rfl]
  · unfold rF rH rB; rw [if_pos rfl, if_pos rfl, if_pos rfl]
    exact hd.mono (fun _ _ _ => trivial)
theorem boxes_more (w : World) (os : List Obj) : Below w.heap.size w (os.foldl (fun W o => W.alloc o) w) ∧ (os.foldl (fun W o => W.alloc o) w).heap.size = w.heap.size + os.length := by
  have : ∀ (os : List Obj) (W : World), Below w.heap.size w W → Below w.heap.size w (os.foldl (fun W o => W.alloc o) W) ∧ (os.foldl (fun W o => W.alloc o) W).heap.size = W.heap.size + os.length := by
    intro os
    induction os with
    | nil => intro W h; exact ⟨h, by simp⟩
    | cons o os ih =>
      intro W h
      have := ih (W.alloc o) (h.alloc h.size o)
      refine ⟨this.1, ?_⟩
      rw [List.foldl_cons, this.2]
      simp
      omega
  exact this os w (Below.refl _ _)

section
variable {S : Nat → Prop} {w : World} {f : F6} (g : G6) {vh vb : Value} {hs : Opts} {body : List Int}
set_option maxHeartbeats 4000000 in
set_option maxRecDepth 100000 in
theorem Atomic_any (id : Int) (h : D6 S w f vh vb hs body) : Calls Try.prog 16 #[VV f g vh vb, .int .u32 id] w (AnsV w (atE f hs g body.length id) f (hdG g id) hs body) := by
  obtain ⟨W0, hW0⟩ : ∃ W0, W0 = ((w.alloc (BV f g vh vb)).alloc (.cells [.int .u32 id].toArray 22)).alloc (.cells zeroV.toArray 28) := ⟨_, rfl⟩
  have hv0 : W0.heap[w.heap.size]? = some (BV f g vh vb) := by rw [hW0]; exact blk_alloc (blk_alloc (blk_new w _) _) _
  have hi0 : W0.heap[w.heap.size + 1]? = some (.cells [.int .u32 id].toArray 22) := by
    have := blk_alloc (blk_new (w.alloc (BV f g vh vb)) (.cells [.int .u32 id].toArray 22)) (.cells zeroV.toArray 28)
    rw [show (w.alloc (BV f g vh vb)).heap.size = w.heap.size + 1 by simp] at this
    rw [hW0]; exact this
  have HI0 : Hid (W0.heap[w.heap.size + 1]? = some (.cells [.int .u32 id].toArray 22)) := hi0
  have hz0 : W0.heap[w.heap.size + 1 + 1]? = some (.cells zeroV.toArray 28) := by
    have := blk_new ((w.alloc (BV f g vh vb)).alloc (.cells [.int .u32 id].toArray 22)) (.cells zeroV.toArray 28)
    rw [show ((w.alloc (BV f g vh vb)).alloc (.cells [.int .u32 id].toArray 22)).heap.size = w.heap.size + 1 + 1 by simp] at this
    rw [hW0]; exact this
  have hB0 : Below w.heap.size w W0 := by rw [hW0]; exact (((Below.refl w.heap.size w).alloc (Nat.le_refl _) _).alloc (by simp) _).alloc (by simp; omega) _
  have hd0 := h.on hB0
  have hA0 : VAt S w.heap.size f g vh vb hs body W0 := ⟨hv0, hd0⟩
  have hlo : w.heap.size + 3 = W0.heap.size := by rw [hW0]; simp
  have HB0 : Hid (Below w.heap.size w W0) := hB0
  have HZ0 : Hid (W0.heap[w.heap.size + 1 + 1]? = some (.cells zeroV.toArray 28)) := hz0
  have HLO : Hid _ := hlo
  have hW := hW0.symm
  unfold zeroV at hW
  have hend : ∀ (E : Int) (e : Ending) (X : World), E ≠ 0 → e = .returned (.tuple #[Z6, .int .i64 E]) ∧ Below W0.heap.size W0 X → ∃ f' g' vh' vb', e = .returned (.tuple #[VV f' g' vh' vb', .int .i64 E]) ∧ (∀ X', Only (w.heap.size + 1 + 1) X X' → AnsV w E f (hdG g id) hs body (.returned (.tuple #[VV f' g' vh' vb', .int .i64 E])) X') ∧ vh'.oneCell' = true ∧ vb'.oneCell' = true ∧ Below W0.heap.size W0 X := fun E e X hE hx =>
    ⟨zF, zG, .slice none 0 0, .slice none 0 0, hx.1, fun X' ho => AnsV.no hE ((HB0.out.trans (hx.2.mono HB0.out.size)).trans (ho.below (by omega))), rfl, rfl, hx.2⟩
  have hans : Calls Try.prog 34 #[.func (.func 35) #[] #[.pointer (some ⟨w.heap.size, 0, none⟩), .pointer (some ⟨w.heap.size + 1, 0, none⟩)]] W0 fun e X => ∃ f' g' vh' vb', e = .returned (.tuple #[VV f' g' vh' vb', .int .i64 (atE f hs g body.length id)]) ∧ (∀ X', Only (w.heap.size + 1 + 1) X X' → AnsV w (atE f hs g body.length id) f (hdG g id) hs body (.returned (.tuple #[VV f' g' vh' vb', .int .i64 (atE f hs g body.length id)])) X') ∧ vh'.oneCell' = true ∧ vb'.oneCell' = true ∧ Below W0.heap.size W0 X := by
    by_cases h0 : ckE f hs g body.length = 0
    · by_cases h1 : g.fr = true
      · have e : atE f hs g body.length id = 140 := by unfold atE; rw [if_neg (by simp [h0]), if_pos h1]
        rw [e]
        exact (ansA_no ⟨w.heap.size, 0, none⟩ ⟨w.heap.size + 1, 0, none⟩ W0 140 (fun W hW _ => atomic_b (hA0.on hW) (blk_on HI0.out hW) h0 h1)).mono (fun e X hx => hend 140 e X (by decide) hx)
      · have h1' : g.fr = false := by simpa using h1
        by_cases h3 : ckE f hs (hdG g id) body.length = 0
        · have e : atE f hs g body.length id = 0 := by unfold atE; rw [if_neg (by simp [h0]), if_neg h1, if_neg (by simp [h3])]
          rw [e]
          refine (ansA_yes ⟨w.heap.size, 0, none⟩ ⟨w.heap.size + 1, 0, none⟩ W0 f (hdG g id) hs body (fun W hW _ => atomic_d (hA0.on hW) (blk_on HI0.out hW) h0 h1' h3)).mono ?_
          rintro e X ⟨vh', vb', rfl, hd, hbX⟩
          exact ⟨f, hdG g id, vh', vb', rfl, fun X' ho => AnsV.yes (hd.sep (Sep.of_only (O := fun b => b = w.heap.size + 1 + 1) ho rfl) (fun b hb e => by omega)) ((HB0.out.trans (hbX.mono HB0.out.size)).trans (ho.below (by omega))), hd.hd.one, hd.bd.one, hbX⟩
        · have e : atE f hs g body.length id = 2 := by unfold atE; rw [if_neg (by simp [h0]), if_neg h1, if_pos h3]
          rw [e]
          exact (ansA_no ⟨w.heap.size, 0, none⟩ ⟨w.heap.size + 1, 0, none⟩ W0 2 (fun W hW _ => atomic_c (hA0.on hW) (blk_on HI0.out hW) h0 h1' h3)).mono (fun e X hx => hend 2 e X (by decide) hx)
    · have e : atE f hs g body.length id = ckE f hs g body.length := by unfold atE; rw [if_pos h0]
      rw [e]
      exact (ansA_no ⟨w.heap.size, 0, none⟩ ⟨w.heap.size + 1, 0, none⟩ W0 _ (fun W hW _ => atomic_a (hA0.on hW) (blk_on HI0.out hW) h0)).mono (fun e X hx => hend _ e X h0 hx)
  have HA : Hid _ := hans
  clear hans hend hv0 hi0 hz0 hB0 hd0 hA0 hlo hW0 h
  generalize atE f hs g body.length id = E at *
  generalize hdG g id = GG at *
  go_enter Try.func16, Try.ntmps16
  go_wp2_with fail
  refine Calls.mono HA.out ?_
  rintro e X ⟨f', g', vh', vb', rfl, hA, o1, o2, hbX⟩
  obtain ⟨X', hst, hbx, ho⟩ := box_store Try.sizeOf28 (blk_on HZ0.out hbX) (by rfl) (vC f' g' vh' vb') vC_len (vC_one o1 o2)
  have HAN : Hid (AnsV w E f GG hs body (.returned (.tuple #[VV f' g' vh' vb', .int .i64 E])) X') := hA X' ho
  have HV : Hid _ := vb_var hbx
  have HST : Hid _ := hst
  clear hA hst hbx ho hbX HA HZ0 HB0
  go_wp2_with first
    | ((with_reducible show wpList _ _ _ ({ dst := _, op := Op.store 28 (Operand.tmp 4) (Operand.tmp 8), type := _, pos := _, after := _, guard := _ } :: _) _ _); refine armS (.tmp 4) (Operand.tmp 8) 28 rfl rfl rfl rfl HST.out ?_; simp only [Act.put])
  exact bodyPost_ret (resCT (y := .int .i64 E) rfl rfl rfl HV.out) rfl HAN.out
end

section
variable {S : Nat → Prop} {w : World} {f : F6} (g : G6) {vh vb : Value} {hs : Opts} {body : List Int}
set_option maxHeartbeats 4000000 in
set_option maxRecDepth 100000 in
theorem Bare_any (h : D6 S w f vh vb hs body) : Calls Try.prog 18 #[VV f g vh vb] w (AnsV w (brE f hs g body.length) f (brG g) hs body) := by
  obtain ⟨W0, hW0⟩ : ∃ W0, W0 = (w.alloc (BV f g vh vb)).alloc (.cells zeroV.toArray 28) := ⟨_, rfl⟩
  have hv0 : W0.heap[w.heap.size]? = some (BV f g vh vb) := by rw [hW0]; exact blk_alloc (blk_new w _) _
  have hz0 : W0.heap[w.heap.size + 1]? = some (.cells zeroV.toArray 28) := by
    have := blk_new (w.alloc (BV f g vh vb)) (.cells zeroV.toArray 28)
    rw [show (w.alloc (BV f g vh vb)).heap.size = w.heap.size + 1 by simp] at this
    rw [hW0]; exact this
  have hB0 : Below w.heap.size w W0 := by rw [hW0]; exact ((Below.refl w.heap.size w).alloc (Nat.le_refl _) _).alloc (by simp) _
  have hd0 := h.on hB0
  have hA0 : VAt S w.heap.size f g vh vb hs body W0 := ⟨hv0, hd0⟩
  have hlo : w.heap.size + 2 = W0.heap.size := by rw [hW0]; simp
  have HB0 : Hid (Below w.heap.size w W0) := hB0
  have HZ0 : Hid (W0.heap[w.heap.size + 1]? = some (.cells zeroV.toArray 28)) := hz0
  have HLO : Hid _ := hlo
  have hW := hW0.symm
  unfold zeroV at hW
  have hend : ∀ (E : Int) (e : Ending) (X : World), E ≠ 0 → e = .returned (.tuple #[Z6, .int .i64 E]) ∧ Below W0.heap.size W0 X → ∃ f' g' vh' vb', e = .returned (.tuple #[VV f' g' vh' vb', .int .i64 E]) ∧ (∀ X', Only (w.heap.size + 1) X X' → AnsV w E f (brG g) hs body (.returned (.tuple #[VV f' g' vh' vb', .int .i64 E])) X') ∧ vh'.oneCell' = true ∧ vb'.oneCell' = true ∧ Below W0.heap.size W0 X := fun E e X hE hx =>
    ⟨zF, zG, .slice none 0 0, .slice none 0 0, hx.1, fun X' ho => AnsV.no hE ((HB0.out.trans (hx.2.mono HB0.out.size)).trans (ho.below (by omega))), rfl, rfl, hx.2⟩
  have hans : Calls Try.prog 34 #[.func (.func 40) #[] #[.pointer (some ⟨w.heap.size, 0, none⟩)]] W0 fun e X => ∃ f' g' vh' vb', e = .returned (.tuple #[VV f' g' vh' vb', .int .i64 (brE f hs g body.length)]) ∧ (∀ X', Only (w.heap.size + 1) X X' → AnsV w (brE f hs g body.length) f (brG g) hs body (.returned (.tuple #[VV f' g' vh' vb', .int .i64 (brE f hs g body.length)])) X') ∧ vh'.oneCell' = true ∧ vb'.oneCell' = true ∧ Below W0.heap.size W0 X := by
    by_cases h0 : ckE f hs g body.length = 0
    · by_cases h1 : g.more = true ∨ g.off ≠ 0
      · have e : brE f hs g body.length = 140 := by unfold brE; rw [if_neg (by simp [h0]), if_pos h1]
        rw [e]
        exact (ansB_no ⟨w.heap.size, 0, none⟩ W0 140 (fun W hW _ => bare_b (hA0.on hW) h0 h1)).mono (fun e X hx => hend 140 e X (by decide) hx)
      · have h1' : g.more = false := by simpa using fun e => h1 (.inl e)
        have h2' : g.off = 0 := by
          by_cases c : g.off = 0
          · exact c
          · exact absurd (.inr c) h1
        by_cases h3 : ckE f hs (brG g) body.length = 0
        · have e : brE f hs g body.length = 0 := by unfold brE; rw [if_neg (by simp [h0]), if_neg h1, if_neg (by simp [h3])]
          rw [e]
          refine (ansB_yes ⟨w.heap.size, 0, none⟩ W0 f (brG g) hs body (fun W hW _ => bare_d (hA0.on hW) h0 h1' h2' h3)).mono ?_
          rintro e X ⟨vh', vb', rfl, hd, hbX⟩
          exact ⟨f, brG g, vh', vb', rfl, fun X' ho => AnsV.yes (hd.sep (Sep.of_only (O := fun b => b = w.heap.size + 1) ho rfl) (fun b hb e => by omega)) ((HB0.out.trans (hbX.mono HB0.out.size)).trans (ho.below (by omega))), hd.hd.one, hd.bd.one, hbX⟩
        · have e : brE f hs g body.length = 54 := by unfold brE; rw [if_neg (by simp [h0]), if_neg h1, if_pos h3]
          rw [e]
          exact (ansB_no ⟨w.heap.size, 0, none⟩ W0 54 (fun W hW _ => bare_c (hA0.on hW) h0 h1' h2' h3)).mono (fun e X hx => hend 54 e X (by decide) hx)
    · have e : brE f hs g body.length = ckE f hs g body.length := by unfold brE; rw [if_pos h0]
      rw [e]
      exact (ansB_no ⟨w.heap.size, 0, none⟩ W0 _ (fun W hW _ => bare_a (hA0.on hW) h0)).mono (fun e X hx => hend _ e X h0 hx)
  have HA : Hid _ := hans
  clear hans hend hv0 hz0 hB0 hd0 hA0 hlo hW0 h
  generalize brE f hs g body.length = E at *
  generalize brG g = GG at *
  go_enter Try.func18, Try.ntmps18
  go_wp2_with fail
  refine Calls.mono HA.out ?_
  rintro e X ⟨f', g', vh', vb', rfl, hA, o1, o2, hbX⟩
  obtain ⟨X', hst, hbx, ho⟩ := box_store Try.sizeOf28 (blk_on HZ0.out hbX) (by rfl) (vC f' g' vh' vb') vC_len (vC_one o1 o2)
  have HAN : Hid (AnsV w E f GG hs body (.returned (.tuple #[VV f' g' vh' vb', .int .i64 E])) X') := hA X' ho
  have HV : Hid _ := vb_var hbx
  have HST : Hid _ := hst
  clear hA hst hbx ho hbX HA HZ0 HB0
  go_wp2_with first
    | ((with_reducible show wpList _ _ _ ({ dst := _, op := Op.store 28 (Operand.tmp 2) (Operand.tmp 6), type := _, pos := _, after := _, guard := _ } :: _) _ _); refine armS (.tmp 2) (Operand.tmp 6) 28 rfl rfl rfl rfl HST.out ?_; simp only [Act.put])
  exact bodyPost_ret (resCT (y := .int .i64 E) rfl rfl rfl HV.out) rfl HAN.out
end

section
variable {S : Nat → Prop} {w : World} {f : F6} {vh vb : Value} {hs : Opts} {body : List Int}
set_option maxHeartbeats 4000000 in
set_option maxRecDepth 100000 in
theorem RCk_any (g : G6) (h : D6 S w f vh vb hs body) : Calls Try.prog 32 #[VV f g vh vb] w fun e w' => e = .returned (.int .i64 (ckE f hs g body.length)) ∧ Below w.heap.size w w' := by
  have hb0 := blk_new w (BV f g vh vb)
  have HLD : Hid _ := vb_load hb0
  have hB0 : Below w.heap.size w (w.alloc (BV f g vh vb)) := (Below.refl w.heap.size w).alloc (Nat.le_refl _) (BV f g vh vb)
  have HC : Hid _ := RCheck_any g (h.on hB0)
  have HB0 : Hid _ := hB0
  clear hb0 h hB0
  generalize hW0 : w.alloc (BV f g vh vb) = W0 at *
  generalize ckE f hs g body.length = E at *
  go_enter Try.func32, Try.ntmps32
  go_wp2_with first
    | ((with_reducible show wpList _ _ _ ({ dst := _, op := Op.load 28 (Operand.tmp 1), type := _, pos := _, after := _, guard := _ } :: _) _ _); refine armL (.tmp 1) 28 rfl rfl rfl HLD.out ?_)
  refine Calls.mono HC.out ?_
  rintro e w2 ⟨rfl, hb2⟩
  have HB : Hid (Below w.heap.size w w2) := HB0.out.trans (hb2.mono HB0.out.size)
  clear hb2
  go_wp2
  go_ret
  exact ⟨rfl, HB.out⟩
end
theorem build_zero : ∀ W, (Instr.build 28 #[]).run Try.prog W = .ok Z6 W := fun W => by kernel_rfl

section
variable {S : Nat → Prop} {w : World} {f : F6} (g : G6) {vh vb : Value} {hs : Opts} {body : List Int}
set_option maxHeartbeats 4000000 in
set_option maxRecDepth 100000 in
theorem RAtomic_any (id : Int) (h : D6 S w f vh vb hs body) : Calls Try.prog 17 #[VV f g vh vb, .int .u32 id] w (AnsV w (atE f hs g body.length id) f (hdG g id) hs body) := by
  obtain ⟨W0, hW0⟩ : ∃ W0, W0 = (w.alloc (BV f g vh vb)).alloc (.cells zeroV.toArray 28) := ⟨_, rfl⟩
  have hv0 : W0.heap[w.heap.size]? = some (BV f g vh vb) := by rw [hW0]; exact blk_alloc (blk_new w _) _
  have hz0 : W0.heap[w.heap.size + 1]? = some (.cells zeroV.toArray 28) := by
    have := blk_new (w.alloc (BV f g vh vb)) (.cells zeroV.toArray 28)
    rw [show (w.alloc (BV f g vh vb)).heap.size = w.heap.size + 1 by simp] at this
    rw [hW0]; exact this
  have hB0 : Below w.heap.size w W0 := by rw [hW0]; exact ((Below.refl w.heap.size w).alloc (Nat.le_refl _) _).alloc (by simp) _
  have hd0 := (h.mono (S' := fun b => b < w.heap.size) (fun b hb _ => hb)).on hB0
  have HB0 : Hid (Below w.heap.size w W0) := hB0
  have HD0 : Hid (D6 (fun b => b < w.heap.size) W0 f vh vb hs body) := hd0
  have HL0 : Hid _ := vb_load hv0
  have HV0 : Hid (W0.heap[w.heap.size]? = some (BV f g vh vb)) := hv0
  have HZ0 : Hid (W0.heap[w.heap.size + 1]? = some (.cells zeroV.toArray 28)) := hz0
  have HC : Hid _ := RCk_any g hd0
  have HBZ : Hid _ := build_zero
  have hW := hW0.symm
  unfold zeroV at hW
  have hO1 := h.hd.one
  have hO2 := h.bd.one
  have HN : Hid (∀ E X, E ≠ 0 → Below w.heap.size w X → X.heap[w.heap.size + 1]? = some (.cells zeroV.toArray 28) → ∃ X', (Instr.storeAt 28 (.pointer (some ⟨w.heap.size + 1, 0, none⟩)) Z6).run Try.prog X = .ok () X' ∧ (loadVar 28 ⟨w.heap.size + 1, 0, none⟩).run Try.prog X' = .ok Z6 X' ∧ AnsV w E f (hdG g id) hs body (.returned (.tuple #[Z6, .int .i64 E])) X') := fun E X hE hX hz => by
    obtain ⟨X', hst, hbx, ho⟩ := box_store Try.sizeOf28 hz (by rfl) (vC zF zG (.slice none 0 0) (.slice none 0 0)) vC_len (vC_one rfl rfl)
    exact ⟨X', hst, vb_var hbx, AnsV.no hE (hX.trans (ho.below (by omega)))⟩
  clear hv0 hz0 hB0 hd0 hW0 h
  by_cases h0 : ckE f hs g body.length = 0
  · rw [h0] at HC
    by_cases h1 : g.fr = true
    · have e : atE f hs g body.length id = 140 := by unfold atE; rw [if_neg (by simp [h0]), if_pos h1]
      rw [e]
      clear e h0
      go_enter Try.func17, Try.ntmps17
      go_wp2_with first
        | ((with_reducible show wpList _ _ _ ({ dst := _, op := Op.load 28 (Operand.tmp 2), type := _, pos := _, after := _, guard := _ } :: _) _ _); refine armL (.tmp 2) 28 rfl rfl rfl HL0.out ?_)
      refine Calls.mono HC.out ?_
      rintro e w2 ⟨rfl, hb2⟩
      have HB2 : Hid (Below w.heap.size w w2) := HB0.out.trans (hb2.mono HB0.out.size)
      have HZ2 : Hid (w2.heap[w.heap.size + 1]? = some (.cells zeroV.toArray 28)) := blk_on HZ0.out hb2
      have HV2 : Hid (w2.heap[w.heap.size]? = some (BV f g vh vb)) := blk_on HV0.out hb2
      have HD2 : Hid (D6 (fun b => b < w.heap.size) w2 f vh vb hs body) := HD0.out.on hb2
      clear hb2 HL0 HC
      have k36 := vb36 HV2.out
      rw [h1] at k36
      clear h1
      obtain ⟨X', hst, hlv, hans⟩ := HN.out 140 w2 (by first | decide | assumption) HB2.out HZ2.out
      have HST : Hid _ := hst
      have HLV : Hid _ := hlv
      have HAN : Hid (AnsV w 140 f (hdG g id) hs body (.returned (.tuple #[Z6, .int .i64 140])) X') := hans
      clear hst hlv hans HN
      go_wp2_with first
        | ((with_reducible show wpList _ _ _ ({ dst := _, op := Op.build 28 _, type := _, pos := _, after := _, guard := _ } :: _) _ _); refine arm_build rfl 28 [] rfl rfl (HBZ.out _) ?_)
        | ((with_reducible show wpList _ _ _ ({ dst := _, op := Op.store 28 (Operand.tmp 4) (Operand.tmp 15), type := _, pos := _, after := _, guard := _ } :: _) _ _); refine armS (.tmp 4) (Operand.tmp 15) 28 rfl rfl rfl rfl HST.out ?_; simp only [Act.put])
      exact bodyPost_ret (resCT (y := .int .i64 140) rfl rfl rfl HLV.out) rfl HAN.out
    · have h1' : g.fr = false := by simpa using h1
      have hG : Hid (hdG g id = { g with fr := true, id := id }) := by show hdG g id = _; unfold hdG; rw [h1']; rfl
      go_enter Try.func17, Try.ntmps17
      go_wp2_with first
        | ((with_reducible show wpList _ _ _ ({ dst := _, op := Op.load 28 (Operand.tmp 2), type := _, pos := _, after := _, guard := _ } :: _) _ _); refine armL (.tmp 2) 28 rfl rfl rfl HL0.out ?_)
      refine Calls.mono HC.out ?_
      rintro e w2 ⟨rfl, hb2⟩
      have HB2 : Hid (Below w.heap.size w w2) := HB0.out.trans (hb2.mono HB0.out.size)
      have HZ2 : Hid (w2.heap[w.heap.size + 1]? = some (.cells zeroV.toArray 28)) := blk_on HZ0.out hb2
      have HV2 : Hid (w2.heap[w.heap.size]? = some (BV f g vh vb)) := blk_on HV0.out hb2
      have HD2 : Hid (D6 (fun b => b < w.heap.size) w2 f vh vb hs body) := HD0.out.on hb2
      clear hb2 HL0 HC
      have k36 := vb36 HV2.out
      rw [h1'] at k36
      obtain ⟨w5, hst5, hbx5, hon5⟩ : ∃ w5, (Instr.storeAt 4 (.pointer (some ⟨w.heap.size, 36, none⟩)) (.bool true)).run Try.prog w2 = .ok () w5 ∧ w5.heap[w.heap.size]? = some (BV f { g with fr := true } vh vb) ∧ Only w.heap.size w2 w5 := ⟨_, st_bool HV2.out (show 36 < _ by rw [vC_len]; omega) true, vs36 HV2.out true, (Only.refl _ w2).set 36 _⟩
      obtain ⟨w6, hst6, hbx6, hon6⟩ : ∃ w6, (Instr.storeAt 22 (.pointer (some ⟨w.heap.size, 37, none⟩)) (.int .u32 id)).run Try.prog w5 = .ok () w6 ∧ w6.heap[w.heap.size]? = some (BV f (hdG g id) vh vb) ∧ Only w.heap.size w5 w6 := ⟨_, st_u32 hbx5 (show 37 < _ by rw [vC_len]; omega) id, by rw [hG.out]; exact vs37 hbx5 id, (Only.refl _ w5).set 37 _⟩
      have hon := hon5.trans hon6
      have hD6 := HD2.out.sep (Sep.of_only (O := fun b => b = w.heap.size) hon rfl) (fun b hb e => by omega)
      have HB6 : Hid (Below w.heap.size w w6) := HB2.out.trans (hon.below (Nat.le_refl _))
      have HZ6 : Hid (w6.heap[w.heap.size + 1]? = some (.cells zeroV.toArray 28)) := (hon.other _ (by omega)).trans HZ2.out
      have HX6 : Hid (w6.heap[w.heap.size]? = some (BV f (hdG g id) vh vb)) := hbx6
      have HL6 : Hid _ := vb_load hbx6
      have HD6 : Hid (D6 (fun b => b < w.heap.size) w6 f vh vb hs body) := hD6
      have HC6 : Hid _ := RCk_any (hdG g id) hD6
      have HS5 : Hid _ := hst5
      have HS6 : Hid _ := hst6
      clear hst5 hbx5 hon5 hst6 hbx6 hon6 hon hD6 HB2 HZ2 HV2 HD2
      go_wp2_with first
        | ((with_reducible show wpList _ _ _ ({ dst := _, op := Op.store 4 (Operand.tmp 17) _, type := _, pos := _, after := _, guard := _ } :: _) _ _); refine armS (.tmp 17) (.const (.bool true)) 4 rfl rfl rfl rfl HS5.out ?_; simp only [Act.put])
        | ((with_reducible show wpList _ _ _ ({ dst := _, op := Op.store 22 (Operand.tmp 18) (Operand.tmp 16), type := _, pos := _, after := _, guard := _ } :: _) _ _); refine armS (.tmp 18) (Operand.tmp 16) 22 rfl rfl rfl rfl HS6.out ?_; simp only [Act.put])
        | ((with_reducible show wpList _ _ _ ({ dst := _, op := Op.load 28 (Operand.tmp 2), type := _, pos := _, after := _, guard := _ } :: _) _ _); refine armL (.tmp 2) 28 rfl rfl rfl HL6.out ?_)
      refine Calls.mono HC6.out ?_
      rintro e w7 ⟨rfl, hb7⟩
      have HB7 : Hid (Below w.heap.size w w7) := HB6.out.trans (hb7.mono HB6.out.size)
      have HZ7 : Hid (w7.heap[w.heap.size + 1]? = some (.cells zeroV.toArray 28)) := blk_on HZ6.out hb7
      have HL7 : Hid _ := vb_load (blk_on HX6.out hb7)
      have HD7 : Hid (D6 (fun b => b < w.heap.size) w7 f vh vb hs body) := HD6.out.on hb7
      clear hb7 HC6 HS5 HS6 HL6 k36 HB6 HZ6 HX6 HD6
      by_cases h3 : ckE f hs (hdG g id) body.length = 0
      · have e : atE f hs g body.length id = 0 := by unfold atE; rw [if_neg (by simp [h0]), if_neg h1, if_neg (by simp [h3])]
        rw [h3]
        obtain ⟨X', hst, hbx, ho⟩ := box_store Try.sizeOf28 HZ7.out (by rfl) (vC f (hdG g id) vh vb) vC_len (vC_one hO1 hO2)
        have HST : Hid _ := hst
        have HLV : Hid _ := vb_var hbx
        have HAN : Hid (AnsV w (atE f hs g body.length id) f (hdG g id) hs body (.returned (.tuple #[VV f (hdG g id) vh vb, .int .i64 0])) X') := by show AnsV _ _ _ _ _ _ _ _; rw [e]; exact AnsV.yes (HD7.out.sep (Sep.of_only (O := fun b => b = w.heap.size + 1) ho rfl) (fun b hb e => by omega)) (HB7.out.trans (ho.below (by omega)))
        clear hst hbx ho HN e h3 hG
        generalize hdG g id = GG at *
        go_wp2_with first
          | ((with_reducible show wpList _ _ _ ({ dst := _, op := Op.load 28 (Operand.tmp 2), type := _, pos := _, after := _, guard := _ } :: _) _ _); refine armL (.tmp 2) 28 rfl rfl rfl HL7.out ?_)
          | ((with_reducible show wpList _ _ _ ({ dst := _, op := Op.store 28 (Operand.tmp 4) (Operand.tmp 23), type := _, pos := _, after := _, guard := _ } :: _) _ _); refine armS (.tmp 4) (Operand.tmp 23) 28 rfl rfl rfl rfl HST.out ?_; simp only [Act.put])
        exact bodyPost_ret (resCT (y := .int .i64 0) rfl rfl rfl HLV.out) rfl HAN.out
      · have e : atE f hs g body.length id = 2 := by unfold atE; rw [if_neg (by simp [h0]), if_neg h1, if_pos h3]
        have q3 : (ckE f hs (hdG g id) body.length != 0) = true := by simpa using h3
        generalize ckE f hs (hdG g id) body.length = CE at *
        clear h3
        obtain ⟨X', hst, hlv, hans⟩ := HN.out 2 w7 (by first | decide | assumption) HB7.out HZ7.out
        have HST : Hid _ := hst
        have HLV : Hid _ := hlv
        have HAN : Hid (AnsV w 2 f (hdG g id) hs body (.returned (.tuple #[Z6, .int .i64 2])) X') := hans
        clear hst hlv hans HN
        have HAN2 : Hid (AnsV w (atE f hs g body.length id) f (hdG g id) hs body (.returned (.tuple #[Z6, .int .i64 2])) X') := by show AnsV _ _ _ _ _ _ _ _; rw [e]; exact HAN.out
        clear e
        go_wp2_with first
          | ((with_reducible show wpList _ _ _ ({ dst := _, op := Op.build 28 _, type := _, pos := _, after := _, guard := _ } :: _) _ _); refine arm_build rfl 28 [] rfl rfl (HBZ.out _) ?_)
          | ((with_reducible show wpList _ _ _ ({ dst := _, op := Op.store 28 (Operand.tmp 4) (Operand.tmp 22), type := _, pos := _, after := _, guard := _ } :: _) _ _); refine armS (.tmp 4) (Operand.tmp 22) 28 rfl rfl rfl rfl HST.out ?_; simp only [Act.put])
        exact bodyPost_ret (resCT (y := .int .i64 2) rfl rfl rfl HLV.out) rfl HAN2.out
  · have e : atE f hs g body.length id = ckE f hs g body.length := by unfold atE; rw [if_pos h0]
    rw [e]
    have q0 : (ckE f hs g body.length != 0) = true := by simpa using h0
    clear e
    generalize ckE f hs g body.length = CE at *
    go_enter Try.func17, Try.ntmps17
    go_wp2_with first
      | ((with_reducible show wpList _ _ _ ({ dst := _, op := Op.load 28 (Operand.tmp 2), type := _, pos := _, after := _, guard := _ } :: _) _ _); refine armL (.tmp 2) 28 rfl rfl rfl HL0.out ?_)
    refine Calls.mono HC.out ?_
    rintro e w2 ⟨rfl, hb2⟩
    have HB2 : Hid (Below w.heap.size w w2) := HB0.out.trans (hb2.mono HB0.out.size)
    have HZ2 : Hid (w2.heap[w.heap.size + 1]? = some (.cells zeroV.toArray 28)) := blk_on HZ0.out hb2
    have HV2 : Hid (w2.heap[w.heap.size]? = some (BV f g vh vb)) := blk_on HV0.out hb2
    have HD2 : Hid (D6 (fun b => b < w.heap.size) w2 f vh vb hs body) := HD0.out.on hb2
    clear hb2 HL0 HC
    obtain ⟨X', hst, hlv, hans⟩ := HN.out CE w2 (by first | decide | assumption) HB2.out HZ2.out
    have HST : Hid _ := hst
    have HLV : Hid _ := hlv
    have HAN : Hid (AnsV w CE f (hdG g id) hs body (.returned (.tuple #[Z6, .int .i64 CE])) X') := hans
    clear hst hlv hans HN
    clear h0
    go_wp2_with first
      | ((with_reducible show wpList _ _ _ ({ dst := _, op := Op.build 28 _, type := _, pos := _, after := _, guard := _ } :: _) _ _); refine arm_build rfl 28 [] rfl rfl (HBZ.out _) ?_)
      | ((with_reducible show wpList _ _ _ ({ dst := _, op := Op.store 28 (Operand.tmp 4) (Operand.tmp 11), type := _, pos := _, after := _, guard := _ } :: _) _ _); refine armS (.tmp 4) (Operand.tmp 11) 28 rfl rfl rfl rfl HST.out ?_; simp only [Act.put])
    exact bodyPost_ret (resCT (y := .int .i64 CE) rfl rfl rfl HLV.out) rfl HAN.out
end

section
variable {S : Nat → Prop} {w : World} {f : F6} (g : G6) {vh vb : Value} {hs : Opts} {body : List Int}
set_option maxHeartbeats 4000000 in
set_option maxRecDepth 100000 in
theorem RBare_any (h : D6 S w f vh vb hs body) : Calls Try.prog 19 #[VV f g vh vb] w (AnsV w (brE f hs g body.length) f (brG g) hs body) := by
  obtain ⟨W0, hW0⟩ : ∃ W0, W0 = (w.alloc (BV f g vh vb)).alloc (.cells zeroV.toArray 28) := ⟨_, rfl⟩
  have hv0 : W0.heap[w.heap.size]? = some (BV f g vh vb) := by rw [hW0]; exact blk_alloc (blk_new w _) _
  have hz0 : W0.heap[w.heap.size + 1]? = some (.cells zeroV.toArray 28) := by
    have := blk_new (w.alloc (BV f g vh vb)) (.cells zeroV.toArray 28)
    rw [show (w.alloc (BV f g vh vb)).heap.size = w.heap.size + 1 by simp] at this
    rw [hW0]; exact this
  have hB0 : Below w.heap.size w W0 := by rw [hW0]; exact ((Below.refl w.heap.size w).alloc (Nat.le_refl _) _).alloc (by simp) _
  have hd0 := (h.mono (S' := fun b => b < w.heap.size) (fun b hb _ => hb)).on hB0
  have HB0 : Hid (Below w.heap.size w W0) := hB0
  have HD0 : Hid (D6 (fun b => b < w.heap.size) W0 f vh vb hs body) := hd0
  have HL0 : Hid _ := vb_load hv0
  have HV0 : Hid (W0.heap[w.heap.size]? = some (BV f g vh vb)) := hv0
  have HZ0 : Hid (W0.heap[w.heap.size + 1]? = some (.cells zeroV.toArray 28)) := hz0
  have HC : Hid _ := RCk_any g hd0
  have HBZ : Hid _ := build_zero
  have hW := hW0.symm
  unfold zeroV at hW
  have hO1 := h.hd.one
  have hO2 := h.bd.one
  have HN : Hid (∀ E X, E ≠ 0 → Below w.heap.size w X → X.heap[w.heap.size + 1]? = some (.cells zeroV.toArray 28) → ∃ X', (Instr.storeAt 28 (.pointer (some ⟨w.heap.size + 1, 0, none⟩)) Z6).run Try.prog X = .ok () X' ∧ (loadVar 28 ⟨w.heap.size + 1, 0, none⟩).run Try.prog X' = .ok Z6 X' ∧ AnsV w E f (brG g) hs body (.returned (.tuple #[Z6, .int .i64 E])) X') := fun E X hE hX hz => by
    obtain ⟨X', hst, hbx, ho⟩ := box_store Try.sizeOf28 hz (by rfl) (vC zF zG (.slice none 0 0) (.slice none 0 0)) vC_len (vC_one rfl rfl)
    exact ⟨X', hst, vb_var hbx, AnsV.no hE (hX.trans (ho.below (by omega)))⟩
  clear hv0 hz0 hB0 hd0 hW0 h
  by_cases h0 : ckE f hs g body.length = 0
  · rw [h0] at HC
    have ho9 := ck_off h0
    have hnf : g.fr = false → g.more = false ∧ g.off = 0 := fun hf => by
      have h3 := (ck_zero h0).1.2.2
      unfold endB at h3
      rw [hf] at h3
      simp at h3
      exact ⟨h3.1.1.2, h3.1.1.1.2⟩
    by_cases h1 : g.more = true ∨ g.off ≠ 0
    · have e : brE f hs g body.length = 140 := by unfold brE; rw [if_neg (by simp [h0]), if_pos h1]
      rw [e]
      have hf : g.fr = true := by
        by_cases c : g.fr = true
        · exact c
        · have := hnf (by simpa using c)
          rcases h1 with h1 | h1
          · rw [this.1] at h1; cases h1
          · exact absurd this.2 h1
      clear e h0 hnf
      go_enter Try.func19, Try.ntmps19
      go_wp2_with first
        | ((with_reducible show wpList _ _ _ ({ dst := _, op := Op.load 28 (Operand.tmp 1), type := _, pos := _, after := _, guard := _ } :: _) _ _); refine armL (.tmp 1) 28 rfl rfl rfl HL0.out ?_)
      refine Calls.mono HC.out ?_
      rintro e w2 ⟨rfl, hb2⟩
      have HB2 : Hid (Below w.heap.size w w2) := HB0.out.trans (hb2.mono HB0.out.size)
      have HZ2 : Hid (w2.heap[w.heap.size + 1]? = some (.cells zeroV.toArray 28)) := blk_on HZ0.out hb2
      have HV2 : Hid (w2.heap[w.heap.size]? = some (BV f g vh vb)) := blk_on HV0.out hb2
      have HD2 : Hid (D6 (fun b => b < w.heap.size) w2 f vh vb hs body) := HD0.out.on hb2
      clear hb2 HL0 HC
      have k36 := vb36 HV2.out
      have k38 := vb38 HV2.out
      have k39 := vb39 HV2.out
      rw [hf] at k36
      obtain ⟨X', hst, hlv, hans⟩ := HN.out 140 w2 (by first | decide | assumption) HB2.out HZ2.out
      have HST : Hid _ := hst
      have HLV : Hid _ := hlv
      have HAN : Hid (AnsV w 140 f (brG g) hs body (.returned (.tuple #[Z6, .int .i64 140])) X') := hans
      clear hst hlv hans HN
      by_cases hm : g.more = true
      · rw [hm] at k39
        clear h1 hm hf
        go_wp2_with first
          | ((with_reducible show wpList _ _ _ ({ dst := _, op := Op.build 28 _, type := _, pos := _, after := _, guard := _ } :: _) _ _); refine arm_build rfl 28 [] rfl rfl (HBZ.out _) ?_)
          | ((with_reducible show wpList _ _ _ ({ dst := _, op := Op.store 28 (Operand.tmp 2) (Operand.tmp 22), type := _, pos := _, after := _, guard := _ } :: _) _ _); refine armS (.tmp 2) (Operand.tmp 22) 28 rfl rfl rfl rfl HST.out ?_; simp only [Act.put])
        exact bodyPost_ret (resCT (y := .int .i64 140) rfl rfl rfl HLV.out) rfl HAN.out
      · have ho : decide (0 < g.off) = true := by
          rcases h1 with h1 | h1
          · exact absurd h1 hm
          · simp; omega
        have hm' : g.more = false := by simpa using hm
        rw [hm'] at k39
        clear h1 hm hm' hf
        go_wp2_with first
          | ((with_reducible show wpList _ _ _ ({ dst := _, op := Op.build 28 _, type := _, pos := _, after := _, guard := _ } :: _) _ _); refine arm_build rfl 28 [] rfl rfl (HBZ.out _) ?_)
          | ((with_reducible show wpList _ _ _ ({ dst := _, op := Op.store 28 (Operand.tmp 2) (Operand.tmp 22), type := _, pos := _, after := _, guard := _ } :: _) _ _); refine armS (.tmp 2) (Operand.tmp 22) 28 rfl rfl rfl rfl HST.out ?_; simp only [Act.put])
        exact bodyPost_ret (resCT (y := .int .i64 140) rfl rfl rfl HLV.out) rfl HAN.out
    · have h1' : g.more = false := by simpa using fun e => h1 (.inl e)
      have h2' : g.off = 0 := by
        by_cases c : g.off = 0
        · exact c
        · exact absurd (.inr c) h1
      go_enter Try.func19, Try.ntmps19
      go_wp2_with first
        | ((with_reducible show wpList _ _ _ ({ dst := _, op := Op.load 28 (Operand.tmp 1), type := _, pos := _, after := _, guard := _ } :: _) _ _); refine armL (.tmp 1) 28 rfl rfl rfl HL0.out ?_)
      refine Calls.mono HC.out ?_
      rintro e w2 ⟨rfl, hb2⟩
      have HB2 : Hid (Below w.heap.size w w2) := HB0.out.trans (hb2.mono HB0.out.size)
      have HZ2 : Hid (w2.heap[w.heap.size + 1]? = some (.cells zeroV.toArray 28)) := blk_on HZ0.out hb2
      have HV2 : Hid (w2.heap[w.heap.size]? = some (BV f g vh vb)) := blk_on HV0.out hb2
      have HD2 : Hid (D6 (fun b => b < w.heap.size) w2 f vh vb hs body) := HD0.out.on hb2
      clear hb2 HL0 HC
      have k36 := vb36 HV2.out
      have k38 := vb38 HV2.out
      have k39 := vb39 HV2.out
      rw [h1'] at k39
      rw [h2'] at k38
      obtain ⟨w5, hst5, hbx5, hon5⟩ : ∃ w5, (Instr.storeAt 4 (.pointer (some ⟨w.heap.size, 36, none⟩)) (.bool false)).run Try.prog w2 = .ok () w5 ∧ w5.heap[w.heap.size]? = some (BV f { g with fr := false } vh vb) ∧ Only w.heap.size w2 w5 := ⟨_, st_bool HV2.out (show 36 < _ by rw [vC_len]; omega) false, vs36 HV2.out false, (Only.refl _ w2).set 36 _⟩
      obtain ⟨w6, hst6, hbx6, hon6⟩ : ∃ w6, (Instr.storeAt 22 (.pointer (some ⟨w.heap.size, 37, none⟩)) (.int .u32 0)).run Try.prog w5 = .ok () w6 ∧ w6.heap[w.heap.size]? = some (BV f (brG g) vh vb) ∧ Only w.heap.size w5 w6 := ⟨_, st_u32 hbx5 (show 37 < _ by rw [vC_len]; omega) 0, vs37 hbx5 0, (Only.refl _ w5).set 37 _⟩
      have hon := hon5.trans hon6
      have hD6 := HD2.out.sep (Sep.of_only (O := fun b => b = w.heap.size) hon rfl) (fun b hb e => by omega)
      have HB6 : Hid (Below w.heap.size w w6) := HB2.out.trans (hon.below (Nat.le_refl _))
      have HZ6 : Hid (w6.heap[w.heap.size + 1]? = some (.cells zeroV.toArray 28)) := (hon.other _ (by omega)).trans HZ2.out
      have HX6 : Hid (w6.heap[w.heap.size]? = some (BV f (brG g) vh vb)) := hbx6
      have HL6 : Hid _ := vb_load hbx6
      have HD6 : Hid (D6 (fun b => b < w.heap.size) w6 f vh vb hs body) := hD6
      have HC6 : Hid _ := RCk_any (brG g) hD6
      have HS5 : Hid _ := hst5
      have HS6 : Hid _ := hst6
      have HH0 : Hid (ckE f hs g body.length = 0) := h0
      have HH1 : Hid (¬ (g.more = true ∨ g.off ≠ 0)) := h1
      clear hst5 hbx5 hon5 hst6 hbx6 hon6 hon hD6 HB2 HZ2 HV2 HD2 hnf h1' h2' ho9 h0 h1
      cases hfr : g.fr
      all_goals rw [hfr] at k36
      all_goals clear hfr
      · skip
        go_wp2_with first
          | ((with_reducible show wpList _ _ _ ({ dst := _, op := Op.store 4 (Operand.tmp 23) _, type := _, pos := _, after := _, guard := _ } :: _) _ _); refine armS (.tmp 23) (.const (.bool false)) 4 rfl rfl rfl rfl HS5.out ?_; simp only [Act.put])
          | ((with_reducible show wpList _ _ _ ({ dst := _, op := Op.store 22 (Operand.tmp 24) _, type := _, pos := _, after := _, guard := _ } :: _) _ _); refine armS (.tmp 24) (.const (.int .u32 0)) 22 rfl rfl rfl rfl HS6.out ?_; simp only [Act.put])
          | ((with_reducible show wpList _ _ _ ({ dst := _, op := Op.load 28 (Operand.tmp 1), type := _, pos := _, after := _, guard := _ } :: _) _ _); refine armL (.tmp 1) 28 rfl rfl rfl HL6.out ?_)
        refine Calls.mono HC6.out ?_
        rintro e w7 ⟨rfl, hb7⟩
        have HB7 : Hid (Below w.heap.size w w7) := HB6.out.trans (hb7.mono HB6.out.size)
        have HZ7 : Hid (w7.heap[w.heap.size + 1]? = some (.cells zeroV.toArray 28)) := blk_on HZ6.out hb7
        have HL7 : Hid _ := vb_load (blk_on HX6.out hb7)
        have HD7 : Hid (D6 (fun b => b < w.heap.size) w7 f vh vb hs body) := HD6.out.on hb7
        clear hb7 HC6 HS5 HS6 HL6 k36 k38 k39 HB6 HZ6 HX6 HD6
        by_cases h3 : ckE f hs (brG g) body.length = 0
        · have e : brE f hs g body.length = 0 := by unfold brE; rw [if_neg (by simp [HH0.out]), if_neg HH1.out, if_neg (by simp [h3])]
          rw [h3]
          obtain ⟨X', hst, hbx, ho⟩ := box_store Try.sizeOf28 HZ7.out (by rfl) (vC f (brG g) vh vb) vC_len (vC_one hO1 hO2)
          have HST : Hid _ := hst
          have HLV : Hid _ := vb_var hbx
          have HAN : Hid (AnsV w (brE f hs g body.length) f (brG g) hs body (.returned (.tuple #[VV f (brG g) vh vb, .int .i64 0])) X') := by show AnsV _ _ _ _ _ _ _ _; rw [e]; exact AnsV.yes (HD7.out.sep (Sep.of_only (O := fun b => b = w.heap.size + 1) ho rfl) (fun b hb e => by omega)) (HB7.out.trans (ho.below (by omega)))
          clear hst hbx ho HN e h3
          generalize brG g = GG at *
          go_wp2_with first
            | ((with_reducible show wpList _ _ _ ({ dst := _, op := Op.load 28 (Operand.tmp 1), type := _, pos := _, after := _, guard := _ } :: _) _ _); refine armL (.tmp 1) 28 rfl rfl rfl HL7.out ?_)
            | ((with_reducible show wpList _ _ _ ({ dst := _, op := Op.store 28 (Operand.tmp 2) (Operand.tmp 29), type := _, pos := _, after := _, guard := _ } :: _) _ _); refine armS (.tmp 2) (Operand.tmp 29) 28 rfl rfl rfl rfl HST.out ?_; simp only [Act.put])
          exact bodyPost_ret (resCT (y := .int .i64 0) rfl rfl rfl HLV.out) rfl HAN.out
        · have e : brE f hs g body.length = 54 := by unfold brE; rw [if_neg (by simp [HH0.out]), if_neg HH1.out, if_pos h3]
          have q3 : (ckE f hs (brG g) body.length != 0) = true := by simpa using h3
          generalize ckE f hs (brG g) body.length = CE at *
          clear h3
          obtain ⟨X', hst, hlv, hans⟩ := HN.out 54 w7 (by first | decide | assumption) HB7.out HZ7.out
          have HST : Hid _ := hst
          have HLV : Hid _ := hlv
          have HAN : Hid (AnsV w 54 f (brG g) hs body (.returned (.tuple #[Z6, .int .i64 54])) X') := hans
          clear hst hlv hans HN
          have HAN2 : Hid (AnsV w (brE f hs g body.length) f (brG g) hs body (.returned (.tuple #[Z6, .int .i64 54])) X') := by show AnsV _ _ _ _ _ _ _ _; rw [e]; exact HAN.out
          clear e
          go_wp2_with first
            | ((with_reducible show wpList _ _ _ ({ dst := _, op := Op.build 28 _, type := _, pos := _, after := _, guard := _ } :: _) _ _); refine arm_build rfl 28 [] rfl rfl (HBZ.out _) ?_)
            | ((with_reducible show wpList _ _ _ ({ dst := _, op := Op.store 28 (Operand.tmp 2) (Operand.tmp 28), type := _, pos := _, after := _, guard := _ } :: _) _ _); refine armS (.tmp 2) (Operand.tmp 28) 28 rfl rfl rfl rfl HST.out ?_; simp only [Act.put])
          exact bodyPost_ret (resCT (y := .int .i64 54) rfl rfl rfl HLV.out) rfl HAN2.out
      · skip
        go_wp2_with first
          | ((with_reducible show wpList _ _ _ ({ dst := _, op := Op.store 4 (Operand.tmp 23) _, type := _, pos := _, after := _, guard := _ } :: _) _ _); refine armS (.tmp 23) (.const (.bool false)) 4 rfl rfl rfl rfl HS5.out ?_; simp only [Act.put])
          | ((with_reducible show wpList _ _ _ ({ dst := _, op := Op.store 22 (Operand.tmp 24) _, type := _, pos := _, after := _, guard := _ } :: _) _ _); refine armS (.tmp 24) (.const (.int .u32 0)) 22 rfl rfl rfl rfl HS6.out ?_; simp only [Act.put])
          | ((with_reducible show wpList _ _ _ ({ dst := _, op := Op.load 28 (Operand.tmp 1), type := _, pos := _, after := _, guard := _ } :: _) _ _); refine armL (.tmp 1) 28 rfl rfl rfl HL6.out ?_)
        refine Calls.mono HC6.out ?_
        rintro e w7 ⟨rfl, hb7⟩
        have HB7 : Hid (Below w.heap.size w w7) := HB6.out.trans (hb7.mono HB6.out.size)
        have HZ7 : Hid (w7.heap[w.heap.size + 1]? = some (.cells zeroV.toArray 28)) := blk_on HZ6.out hb7
        have HL7 : Hid _ := vb_load (blk_on HX6.out hb7)
        have HD7 : Hid (D6 (fun b => b < w.heap.size) w7 f vh vb hs body) := HD6.out.on hb7
        clear hb7 HC6 HS5 HS6 HL6 k36 k38 k39 HB6 HZ6 HX6 HD6
        by_cases h3 : ckE f hs (brG g) body.length = 0
        · have e : brE f hs g body.length = 0 := by unfold brE; rw [if_neg (by simp [HH0.out]), if_neg HH1.out, if_neg (by simp [h3])]
          rw [h3]
          obtain ⟨X', hst, hbx, ho⟩ := box_store Try.sizeOf28 HZ7.out (by rfl) (vC f (brG g) vh vb) vC_len (vC_one hO1 hO2)
          have HST : Hid _ := hst
          have HLV : Hid _ := vb_var hbx
          have HAN : Hid (AnsV w (brE f hs g body.length) f (brG g) hs body (.returned (.tuple #[VV f (brG g) vh vb, .int .i64 0])) X') := by show AnsV _ _ _ _ _ _ _ _; rw [e]; exact AnsV.yes (HD7.out.sep (Sep.of_only (O := fun b => b = w.heap.size + 1) ho rfl) (fun b hb e => by omega)) (HB7.out.trans (ho.below (by omega)))
          clear hst hbx ho HN e h3
          generalize brG g = GG at *
          go_wp2_with first
            | ((with_reducible show wpList _ _ _ ({ dst := _, op := Op.load 28 (Operand.tmp 1), type := _, pos := _, after := _, guard := _ } :: _) _ _); refine armL (.tmp 1) 28 rfl rfl rfl HL7.out ?_)
            | ((with_reducible show wpList _ _ _ ({ dst := _, op := Op.store 28 (Operand.tmp 2) (Operand.tmp 29), type := _, pos := _, after := _, guard := _ } :: _) _ _); refine armS (.tmp 2) (Operand.tmp 29) 28 rfl rfl rfl rfl HST.out ?_; simp only [Act.put])
          exact bodyPost_ret (resCT (y := .int .i64 0) rfl rfl rfl HLV.out) rfl HAN.out
        · have e : brE f hs g body.length = 54 := by unfold brE; rw [if_neg (by simp [HH0.out]), if_neg HH1.out, if_pos h3]
          have q3 : (ckE f hs (brG g) body.length != 0) = true := by simpa using h3
          generalize ckE f hs (brG g) body.length = CE at *
          clear h3
          obtain ⟨X', hst, hlv, hans⟩ := HN.out 54 w7 (by first | decide | assumption) HB7.out HZ7.out
          have HST : Hid _ := hst
          have HLV : Hid _ := hlv
          have HAN : Hid (AnsV w 54 f (brG g) hs body (.returned (.tuple #[Z6, .int .i64 54])) X') := hans
          clear hst hlv hans HN
          have HAN2 : Hid (AnsV w (brE f hs g body.length) f (brG g) hs body (.returned (.tuple #[Z6, .int .i64 54])) X') := by show AnsV _ _ _ _ _ _ _ _; rw [e]; exact HAN.out
          clear e
          go_wp2_with first
            | ((with_reducible show wpList _ _ _ ({ dst := _, op := Op.build 28 _, type := _, pos := _, after := _, guard := _ } :: _) _ _); refine arm_build rfl 28 [] rfl rfl (HBZ.out _) ?_)
            | ((with_reducible show wpList _ _ _ ({ dst := _, op := Op.store 28 (Operand.tmp 2) (Operand.tmp 28), type := _, pos := _, after := _, guard := _ } :: _) _ _); refine armS (.tmp 2) (Operand.tmp 28) 28 rfl rfl rfl rfl HST.out ?_; simp only [Act.put])
          exact bodyPost_ret (resCT (y := .int .i64 54) rfl rfl rfl HLV.out) rfl HAN2.out
  · have e : brE f hs g body.length = ckE f hs g body.length := by unfold brE; rw [if_pos h0]
    rw [e]
    have q0 : (ckE f hs g body.length != 0) = true := by simpa using h0
    clear e
    generalize ckE f hs g body.length = CE at *
    go_enter Try.func19, Try.ntmps19
    go_wp2_with first
      | ((with_reducible show wpList _ _ _ ({ dst := _, op := Op.load 28 (Operand.tmp 1), type := _, pos := _, after := _, guard := _ } :: _) _ _); refine armL (.tmp 1) 28 rfl rfl rfl HL0.out ?_)
    refine Calls.mono HC.out ?_
    rintro e w2 ⟨rfl, hb2⟩
    have HB2 : Hid (Below w.heap.size w w2) := HB0.out.trans (hb2.mono HB0.out.size)
    have HZ2 : Hid (w2.heap[w.heap.size + 1]? = some (.cells zeroV.toArray 28)) := blk_on HZ0.out hb2
    have HV2 : Hid (w2.heap[w.heap.size]? = some (BV f g vh vb)) := blk_on HV0.out hb2
    have HD2 : Hid (D6 (fun b => b < w.heap.size) w2 f vh vb hs body) := HD0.out.on hb2
    clear hb2 HL0 HC
    obtain ⟨X', hst, hlv, hans⟩ := HN.out CE w2 (by first | decide | assumption) HB2.out HZ2.out
    have HST : Hid _ := hst
    have HLV : Hid _ := hlv
    have HAN : Hid (AnsV w CE f (brG g) hs body (.returned (.tuple #[Z6, .int .i64 CE])) X') := hans
    clear hst hlv hans HN
    clear h0
    go_wp2_with first
      | ((with_reducible show wpList _ _ _ ({ dst := _, op := Op.build 28 _, type := _, pos := _, after := _, guard := _ } :: _) _ _); refine arm_build rfl 28 [] rfl rfl (HBZ.out _) ?_)
      | ((with_reducible show wpList _ _ _ ({ dst := _, op := Op.store 28 (Operand.tmp 2) (Operand.tmp 9), type := _, pos := _, after := _, guard := _ } :: _) _ _); refine armS (.tmp 2) (Operand.tmp 9) 28 rfl rfl rfl rfl HST.out ?_; simp only [Act.put])
    exact bodyPost_ret (resCT (y := .int .i64 CE) rfl rfl rfl HLV.out) rfl HAN.out
end

end Go.Proofs.Ytcllcinekohklaa
