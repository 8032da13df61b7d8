/-
  The walk of the document's Read6, over texts of groups and colons alone.
-/
import Derived.Test.YtaebknkjhhcneaaGreatDoorFold16
import Derived.Test.YtaebknkjhhcneaaGreatDoorFold05
namespace Go.Proofs.YtaebknkjhhcneaaGreatDoor
set_option linter.unusedVariables false
set_option linter.unusedSimpArgs false
open Go Go.RowKit

/-- The step is one of a text of groups and colons alone. -/
def SixS.plain (l : List Int) (k : Nat) (c : Int) (x : SixS) : Bool :=
  if c = 58 ∧ x.part = [] then decide (k = 0 ∨ (l[k - 1]? = some 58 ∧ x.gap < 0))
  else if c = 58 then grpB x.part && decide ((x.L.length : Int) + 1 < x.room)
  else !decide (k = 1 ∧ l[0]? = some 58) && (grpB (x.part ++ [c]) && (decide (x.gap < 0) && decide (x.L.length < 6)))

def okRun (l : List Int) : Nat → Nat → SixS → Bool
  | 0, _, _ => true
  | f + 1, k, x => x.plain l k (l.getD k 0) && (match x.step l k (l.getD k 0) with
    | some y => okRun l f (k + 1) y
    | none => false)

theorem okRun_step (l : List Int) (k : Nat) (c : Int) (x : SixS) (hx : l[k]? = some c) (h : okRun l (l.length - k) k x = true) : x.plain l k c = true ∧ ∀ y, x.step l k c = some y → okRun l (l.length - (k + 1)) (k + 1) y = true := by
  obtain ⟨hk, rfl⟩ := List.getElem?_eq_some_iff.1 hx
  have e : l.length - k = (l.length - (k + 1)) + 1 := by omega
  rw [e, okRun, List.getD_eq_getElem?_getD, hx] at h
  simp only [Option.getD_some, Bool.and_eq_true] at h
  refine ⟨h.1, fun y hy => ?_⟩
  rw [hy] at h
  exact h.2

set_option maxHeartbeats 8000000 in
set_option maxRecDepth 100000 in
theorem Read6_plain (s : ByteArray) (w : World) (hs : s.size ≤ 99999) (hrun : okRun (txt s) s.size 0 ⟨[], -1, []⟩ = true) :
    Calls Tryz.prog 130 #[.string s] w fun e w' => Read6Post s w e w' := by
  have hl := txt_length s
  generalize hQ : (fun e w' => Read6Post s w e w') = Q
  have HQ : Hid _ := hQ
  clear hQ
  obtain ⟨W1, hst, b1, hB1⟩ := box_new Tryz.sizeOf185 (w.alloc (.cells (sixL (.slice none 0 0) 0 ⟨#[]⟩).toArray 185)) (sixL (.slice none 0 0) 0 ⟨#[]⟩) rfl (sixL (.slice none 0 0) (-1) ⟨#[]⟩) rfl (by simp [sixL, Value.oneCell'])
  have hz : (w.alloc (.cells (sixL (.slice none 0 0) 0 ⟨#[]⟩).toArray 185)).heap.size = w.heap.size + 1 := by simp
  have hres := blk_new w (.cells (sixL (.slice none 0 0) 0 ⟨#[]⟩).toArray 185)
  have hB0 := (Below.refl w.heap.size w).alloc (Nat.le_refl _) (.cells (sixL (.slice none 0 0) 0 ⟨#[]⟩).toArray 185)
  rw [hz] at hst b1 hB1
  have hX0 : SixAt w W1 (.slice none 0 0) ⟨#[]⟩ ⟨[], -1, []⟩ := ⟨b1, (hB1.block _ (by omega)).trans hres, World.ownsRow_nil _ _ _ _, rfl, hB0.trans (hB1.mono (by omega)), (Array.getElem?_eq_some_iff.1 b1).1⟩
  have HST : Hid _ := hst
  clear hst b1 hB1 hz hres hB0
  go_enter Tryz.func130, Tryz.ntmps130
  go_wp2_with ((with_reducible show wpList _ _ _ _ _ _); refine arm_store rfl (.tmp 4) (.tmp 11) 185 rfl rfl rfl HST.out ?_)
  go_loopw [5] (fun i wr => ∃ (k : Nat) (v : Value) (p : ByteArray) (x : SixS), k ≤ s.size ∧ i = .int .i64 k ∧ SixAt w wr v p x ∧ x.Ok k ∧ okRun (txt s) (s.size - k) k x = true ∧ read6 (txt s) s.size 0 ⟨[], -1, []⟩ = read6 (txt s) (s.size - k) k x) (fun i _ => s.size - (intOf i).toNat)
  case atStart => exact ⟨0, _, _, _, Nat.zero_le _, rfl, hX0, ⟨by simp, by decide, by simp, by simp⟩, hrun, rfl⟩
  case round =>
    obtain ⟨k, v, p, x, hk, rfl, hX, hok, horun, hrd⟩ := hrel
    clear hX0 HST hrun
    have HX : Hid _ := hX
    by_cases hlt : k < s.size
    · have hx := txt_at s k hlt
      have hb := byte_at s k hlt
      have hstep := read6_step (txt s) k _ x hx
      rw [hl] at hstep
      have hrd2 := hrd.trans hstep
      rw [← hl] at horun
      obtain ⟨hpl, hrn⟩ := okRun_step (txt s) k _ x hx horun
      rw [hl] at hrn
      have HPLN : Hid _ := hpl
      have HRN2 : Hid _ := hrn
      clear hpl hrn horun
      have hps : p.size = x.part.length := by rw [← hX.part, txt_length]
      have hp0 : x.part = [] ↔ p.size = 0 := by rw [← hX.part]; exact txt_empty p
      obtain ⟨a, cap, rfl⟩ := hX.form
      obtain ⟨c0, c1, c2⟩ := hX.cells
      have C0 : Hid _ := c0
      have C1 : Hid _ := c1
      have C2 : Hid _ := c2
      have d0 := c0 (Hi.refl wr)
      have d1 := c1 (Hi.refl wr)
      have d2 := c2 (Hi.refl wr)
      simp only [Hi.refl] at d0 d1 d2
      have hfew := hok.few
      have hgap := hok.gap
      have HGO : Hid (∀ y, x.step (txt s) k (((s[k]'hlt).toNat : Nat) : Int) = some y → read6 (txt s) s.size 0 ⟨[], -1, []⟩ = read6 (txt s) (s.size - (k + 1)) (k + 1) y) := fun y h => by rw [hrd2, h]
      have HNO : Hid (x.step (txt s) k (((s[k]'hlt).toNat : Nat) : Int) = none → read6 (txt s) s.size 0 ⟨[], -1, []⟩ = (x, k)) := fun h => by rw [hrd2, h]
      have HOK : Hid (∀ y, x.step (txt s) k (((s[k]'hlt).toNat : Nat) : Int) = some y → y.Ok (k + 1)) := fun y h => step_ok h hok
      have HTX : Hid _ := hx
      clear hstep hX hrd hrd2 c0 c1 c2 hx
      by_cases hc : (((s[k]'hlt).toNat : Nat) : Int) = 58
      · have q0 : ((((s[k]'hlt).toNat : Nat) : Int) == 58) = true := by simpa using hc
        by_cases he : p.size = 0
        · have hse := toList_none p he
          have hpe := hp0.2 he
          by_cases hk0 : k = 0
          · subst hk0
            have hy : x.step (txt s) 0 (((s[0]'hlt).toNat : Nat) : Int) = some x := by
              unfold SixS.step
              rw [if_pos ⟨hc, hpe⟩, if_pos rfl]
            have HR : Hid _ := HGO.out x hy
            have HO : Hid _ := HOK.out x hy
            have HRU : Hid _ := HRN2.out x hy
            clear hy HGO HNO HOK hpe hp0
            go_wp2
            exact ⟨⟨1, _, _, x, by omega, rfl, HX.out, HO.out, HRU.out, HR.out⟩, by simp [intOf]; omega⟩
          · obtain ⟨j, rfl⟩ : ∃ j, k = j + 1 := ⟨k - 1, by omega⟩
            have hj : j < s.size := by omega
            have hxj := txt_at s j hj
            have hbj := byte_at s j hj
            have hl7 : ((x.L.length : Nat) : Int) ≤ 7 := by omega
            have hcond : x.step (txt s) (j + 1) (((s[j + 1]'hlt).toNat : Nat) : Int) = if (((s[j]'hj).toNat : Nat) : Int) = 58 ∧ x.gap < 0 then some { x with gap := x.L.length } else none := by
              unfold SixS.step
              rw [if_pos ⟨hc, hpe⟩, if_neg (by omega)]
              simp only [Nat.add_sub_cancel, hxj, Option.some.injEq, hfew, and_true]
            by_cases hsec : (((s[j]'hj).toNat : Nat) : Int) = 58 ∧ x.gap < 0
            · rw [if_pos hsec] at hcond
              have q1 : ((((s[j]'hj).toNat : Nat) : Int) == 58) = true := by simpa using hsec.1
              have q2 := hsec.2
              have HR : Hid _ := HGO.out _ hcond
              have HO : Hid _ := HOK.out _ hcond
              have HRU : Hid _ := HRN2.out _ hcond
              have HS : Hid _ := HX.out.setGap (x.L.length : Int)
              have hfz := blk_open HX.out.box 1
              clear hcond HGO HNO HOK hpe hp0 hsec hxj
              go_wp2
              exact ⟨⟨j + 1 + 1, _, _, _, by omega, by simp, HS.out, HO.out, HRU.out, HR.out⟩, by simp [intOf]; omega⟩
            · exfalso
              have hp := HPLN.out
              unfold SixS.plain at hp
              rw [if_pos ⟨hc, hpe⟩] at hp
              simp only [Nat.add_sub_cancel, hxj, Option.some.injEq, decide_eq_true_eq] at hp
              rcases hp with hp | hp
              · omega
              · exact hsec hp
        · have hse := toList_empty p he
          have hpe : ¬ x.part = [] := fun h => he (hp0.1 h)
          have hstp : x.step (txt s) k (((s[k]'hlt).toNat : Nat) : Int) = if grpB x.part = false ∨ x.room ≤ x.L.length + 1 then none else some { x with L := x.L ++ [valF x.part], part := [] } := by
            unfold SixS.step
            rw [if_neg (fun h => hpe h.2), if_pos hc]
          have hgr : ∀ y : Hi wr, Calls Tryz.prog 163 #[.string p] y.W fun e w' => e = .returned (.bool (grpB x.part)) ∧ Below y.W.heap.size y.W w' := fun y => by
            have := group_ref p y.W (by have := hok.short; omega)
            rw [HX.out.part] at this
            exact this.mono fun e w' h => ⟨h.1, by rw [h.2]; exact Below.refl _ _⟩
          have hrm : ∀ y : Hi wr, Calls Tryz.prog 164 #[.agg (sixL (.slice a x.L.length cap) x.gap p).toArray] y.W fun e w' => e = .returned (.int .i64 x.room) ∧ Below y.W.heap.size y.W w' := fun y => by
            exact room_ref _ _ _ y.W rfl rfl (by omega)
          have HRM : Hid _ := hrm
          have HLD : Hid _ := fun y : Hi wr => HX.out.load y
          have hroom : x.room = 7 ∨ x.room = 8 := by unfold SixS.room; split <;> simp
          clear hrm
          have c0 := C0.out
          have c1 := C1.out
          have c2 := C2.out
          cases hgb : grpB x.part with
          | false =>
            exfalso
            have hp := HPLN.out
            unfold SixS.plain at hp
            rw [if_neg (fun h => hpe h.2), if_pos hc, hgb] at hp
            cases hp
          | true =>
            rw [hgb] at hgr
            have HGR : Hid _ := hgr
            clear hgr
            by_cases hrr : x.room ≤ x.L.length + 1
            · exfalso
              have hp := HPLN.out
              unfold SixS.plain at hp
              rw [if_neg (fun h => hpe h.2), if_pos hc, hgb] at hp
              simp at hp
              omega
            · have hstp := hstp.trans (if_neg (fun h => h.elim (fun h => by rw [hgb] at h; cases h) hrr))
              have HR : Hid _ := HGO.out _ hstp
              have HO : Hid _ := HOK.out _ hstp
              have HRU : Hid _ := HRN2.out _ hstp
              clear hstp HGO HNO HOK hpe hp0
              generalize x.room = r at *
              go_wp2_with fail
              refine wp_region_hi (by kernel_rfl) (by kernel_rfl) ?_
              repeat (first
                | go_big_quiet_skip
                | (go_big_quiet_want; refine hi_load (.tmp 4) 185 rfl rfl HLD.out ?_; simp only [Act.put, List.setIfInBounds_toArray, List.set_cons_zero, List.set_cons_succ]; go_big_quiet_on)
                | (go_big_quiet_want; go_big_quiet_op; first | go_big_quiet_on | go_big_quiet_call (first | (go_at_call 163; exact Hi.calls (HGR.out _)) | (go_at_call 164; exact Hi.calls (HRM.out _)) | (go_at_call 166; exact Hi.calls (HBG.out _)))))
              refine wpQuiet_nil ?_
              intro _ hw
              obtain ⟨y, rfl⟩ := hw
              have HX : Hid _ := HX.out.up y.below
              have hval : ∀ W, Calls Tryz.prog 165 #[.string p] W fun e w' => ∃ u, e = .returned u ∧ (u = .int .i64 (valF x.part) ∧ w' = W) := fun W => by
                have := value_ref p W (by rw [HX.out.part]; exact hgb)
                rw [HX.out.part] at this
                exact this.mono fun e w' h => ⟨_, h.1, rfl, h.2⟩
              have HV : Hid _ := hval
              generalize y.W = V at *
              have HXd : SixAt w V.drew (.slice a x.L.length cap) p x := HX.out.up ((Below.refl _ _).drew)
              generalize hVd : V.drew = Vd at *
              obtain ⟨e0, e1, e2⟩ := HXd.cells
              obtain ⟨v', w1, hrun, ⟨a', cap', rfl⟩, hX1, f0, ff⟩ := HXd.push (by omega) (valF x.part) 137
              have HS : Hid _ := hX1.setPart ⟨#[]⟩
              have k2 := hX1.cells.2.2 (Hi.refl _)
              have kf := blk_open hX1.box
              simp only [Hi.refl] at k2
              have HRN : Hid _ := hrun
              have g0 := e0 (Hi.refl Vd)
              have g2 := e2 (Hi.refl Vd)
              simp only [Hi.refl] at g0 g2
              have G0 : ∀ o, (Vd.alloc o).cell? ⟨w.heap.size + 1, 0, none⟩ = some (.slice a x.L.length cap) := fun o => e0 ⟨_, (Below.refl _ Vd).alloc (Nat.le_refl _) o⟩
              clear hrun hval hX1 hgb e0 e1 e2 HX HGR HRM HLD c0 c1 c2 C0 C1 C2 d0 d1 d2
              generalize valF x.part = z at *
              go_wp2_with fail
              go_region_law (first
                | (refine step_append_ex (R := fun v w2 => v = .slice a' (x.L.length + 1) cap' ∧ w2 = w1) rfl _ _ _ _ rfl rfl rfl ⟨_, _, HRN.out, rfl, rfl⟩ ?_; rintro _ _ ⟨rfl, rfl⟩)
                | (refine step_callR rfl 165 _ (by kernel_rfl) (HV.out _) ?_; rintro _ _ ⟨rfl, rfl⟩))
              all_goals
                go_wp2
                exact ⟨⟨k + 1, _, _, _, by omega, by simp, HS.out, HO.out, HRU.out, HR.out⟩, by simp [intOf]; omega⟩
      · have q0 : ((((s[k]'hlt).toNat : Nat) : Int) == 58) = false := by simpa using hc
        have hstp0 : x.step (txt s) k (((s[k]'hlt).toNat : Nat) : Int) = if k = 1 ∧ (txt s)[0]? = some 58 then none else if (grpB (x.part ++ [(((s[k]'hlt).toNat : Nat) : Int)]) && decide ((x.L.length : Int) + 1 ≤ x.room)) || (begB (x.part ++ [(((s[k]'hlt).toNat : Nat) : Int)]) && (decide ((x.L.length : Int) + 2 ≤ x.room) && (decide (0 ≤ x.gap) || decide (x.L.length = 6)))) then some { x with part := x.part ++ [(((s[k]'hlt).toNat : Nat) : Int)] } else none := by
          unfold SixS.step
          rw [if_neg (fun h => hc h.1), if_neg hc]
        have hs0 : 0 < s.size := by omega
        have hx0 := txt_at s 0 hs0
        have hb0 := byte_at s 0 hs0
        rw [hx0] at hstp0
        by_cases hone : k = 1 ∧ (((s[0]'hs0).toNat : Nat) : Int) = 58
        · exfalso
          have hp := HPLN.out
          unfold SixS.plain at hp
          rw [if_neg (fun h => hc h.1), if_neg hc, hx0, decide_eq_true ⟨hone.1, by rw [hone.2]⟩] at hp
          cases hp
        · rw [if_neg (fun h => hone ⟨h.1, by simpa using h.2⟩)] at hstp0
          have hdec : (((k : Int) == 1) = false) ∨ (((k : Int) == 1) = true ∧ ((((s[0]'hs0).toNat : Nat) : Int) == 58) = false) := by
            by_cases hk1 : k = 1
            · refine .inr ⟨by simp; omega, ?_⟩
              have : ¬ (((s[0]'hs0).toNat : Nat) : Int) = 58 := fun h => hone ⟨hk1, h⟩
              simpa using this
            · exact .inl (by simp; omega)
          have htq : txt (p ++ s.extract k (k + 1)) = x.part ++ [(((s[k]'hlt).toNat : Nat) : Int)] := by
            have e : ((txt s).drop k).take (k + 1 - k) = [(((s[k]'hlt).toNat : Nat) : Int)] := by
              rw [Nat.add_sub_cancel_left, drop_at HTX.out]
              rfl
            rw [txt_append, HX.out.part, txt_extract, e]
          have hqs : (p ++ s.extract k (k + 1)).size ≤ 100000 := by
            have := hok.short
            have e := congrArg List.length htq
            rw [txt_length, List.length_append] at e
            simp only [List.length_cons, List.length_nil] at e
            omega
          have HCAT : Hid (∀ W, (Op.stringOp .add p (s.extract k (k + 1))).run Tryz.prog W = .ok (.string (p ++ s.extract k (k + 1))) W) := fun W => run_string_add_sum W _ _ (by rw [← ByteArray.size_append']; omega)
          have hSP : ∀ {V : World}, SixAt w V (.slice a x.L.length cap) p x → SixAt w (V.setCell ⟨w.heap.size + 1, 2, none⟩ (.string (p ++ s.extract k (k + 1)))) (.slice a x.L.length cap) (p ++ s.extract k (k + 1)) { x with part := x.part ++ [(((s[k]'hlt).toNat : Nat) : Int)] } := fun h => by
            have := h.setPart (p ++ s.extract k (k + 1))
            rw [htq] at this
            exact this
          have hgr : ∀ y : Hi wr, Calls Tryz.prog 163 #[.string (p ++ s.extract k (k + 1))] y.W fun e w' => e = .returned (.bool (grpB (x.part ++ [(((s[k]'hlt).toNat : Nat) : Int)]))) ∧ Below y.W.heap.size y.W w' := fun y => by
            rw [← htq]
            exact Hi.calls_same (fun W => group_ref _ W (by omega)) y
          have hbg : ∀ y : Hi wr, Calls Tryz.prog 166 #[.string (p ++ s.extract k (k + 1))] y.W fun e w' => e = .returned (.bool (begB (x.part ++ [(((s[k]'hlt).toNat : Nat) : Int)]))) ∧ Below y.W.heap.size y.W w' := fun y => by
            rw [← htq]
            exact begins_ref _ y.W hqs
          have hrm : ∀ y : Hi wr, Calls Tryz.prog 164 #[.agg (sixL (.slice a x.L.length cap) x.gap p).toArray] y.W fun e w' => e = .returned (.int .i64 x.room) ∧ Below y.W.heap.size y.W w' := fun y => by
            exact room_ref _ _ _ y.W rfl rfl (by omega)
          have HRM : Hid _ := hrm
          have HGR : Hid _ := hgr
          have HBG : Hid _ := hbg
          have HSP : Hid (∀ {V : World}, _ → SixAt w (V.setCell ⟨w.heap.size + 1, 2, none⟩ (.string (p ++ s.extract k (k + 1)))) (.slice a x.L.length cap) (p ++ s.extract k (k + 1)) { x with part := x.part ++ [(((s[k]'hlt).toNat : Nat) : Int)] }) := @hSP
          have HLD : Hid _ := fun y : Hi wr => HX.out.load y
          have hroom : x.room = 7 ∨ x.room = 8 := by unfold SixS.room; split <;> simp
          have HGO2 : Hid _ := HGO.out { x with part := x.part ++ [(((s[k]'hlt).toNat : Nat) : Int)] }
          have HOK2 : Hid _ := HOK.out { x with part := x.part ++ [(((s[k]'hlt).toNat : Nat) : Int)] }
          have HNO2 : Hid _ := HNO.out
          have HRU2 : Hid _ := HRN2.out { x with part := x.part ++ [(((s[k]'hlt).toNat : Nat) : Int)] }
          have HSTP : Hid _ := hstp0
          clear hrm hgr hbg hSP hstp0 htq hqs hp0 hps hx0 hone HGO HOK HNO
          have c0 := C0.out
          have c1 := C1.out
          have c2 := C2.out
          have hle1 : (k : Int) + 1 ≤ (s.size : Nat) := by omega
          have hsl := slice_str s k hlt
          have hcat := HCAT.out
          have ff : ∀ y : Hi wr, ∀ j, y.W.frozen? ⟨w.heap.size + 1, j, none⟩ = false := fun y j => blk_open (Hi.blk HX.out.box y) j
          have FF : Hid _ := ff
          clear ff
          have hp := HPLN.out
          unfold SixS.plain at hp
          rw [if_neg (fun h => hc h.1), if_neg hc] at hp
          simp only [Bool.and_eq_true, decide_eq_true_eq] at hp
          obtain ⟨_, hG, hgl, hl6⟩ := hp
          have hr8 : x.room = 8 := by unfold SixS.room; rw [if_neg (by omega)]
          rw [hG] at HGR
          have hst0 : x.step (txt s) k (((s[k]'hlt).toNat : Nat) : Int) = some { x with part := x.part ++ [(((s[k]'hlt).toNat : Nat) : Int)] } := HSTP.out.trans (if_pos (by rw [hG, hr8, decide_eq_true (by omega)]; rfl))
          have HSTX : Hid _ := hst0
          have h1 : (x.L.length : Int) + 1 ≤ x.room := by rw [hr8]; omega
          have h2 : (x.L.length : Int) + 2 ≤ x.room := by rw [hr8]; omega
          have hg : ¬ 0 ≤ x.gap := by omega
          have q6 : ((x.L.length : Int) == 6) = false := by simp; omega
          have HH1 : Hid _ := h1
          have HH2 : Hid _ := h2
          have HHG : Hid (¬ 0 ≤ x.gap) := hg
          have HQ6 : Hid _ := q6
          clear h1 h2 hg q6 hgl
          clear hG hr8 hst0 hroom HSTP
          generalize x.room = r at *
          generalize hBg : begB (x.part ++ [(((s[k]'hlt).toNat : Nat) : Int)]) = Bg at *
          clear hBg
          rcases hdec with hd1 | ⟨hd1, hd2⟩
          · go_wp2_with fail
            go_region
            obtain ⟨y, hy⟩ : ∃ y : Hi wr, wr.drew = y.W := ⟨⟨wr.drew, (Below.refl _ _).drew⟩, rfl⟩
            rw [hy]
            clear hy hsl hcat HCAT
            generalize p ++ s.extract k (k + 1) = q at *
            go_wp2_with fail
            cases Bg
            all_goals
              have hg : ¬ 0 ≤ x.gap := (by have := HHG.out; omega)
              have h1 := HH1.out
              have h2 := HH2.out
              have q6 := HQ6.out
              refine wp_region_up (by kernel_rfl) (by kernel_rfl) ?_
              repeat (first
                | go_big_quiet_skip
                | (go_big_quiet_want; refine hi_load (.tmp 4) 185 rfl rfl HLD.out ?_; simp only [Act.put, List.setIfInBounds_toArray, List.set_cons_zero, List.set_cons_succ]; go_big_quiet_on)
                | (go_big_quiet_want; go_big_quiet_op; first | go_big_quiet_on | go_big_quiet_call (first | (go_at_call 163; exact Hi.calls (HGR.out _)) | (go_at_call 164; exact Hi.calls (HRM.out _)) | (go_at_call 166; exact Hi.calls (HBG.out _)))))
              refine wpQuiet_nil ?_
              intro _ hw
              obtain ⟨y2, rfl⟩ := hw
              clear y
              go_wp2_with fail
              refine wp_region_up (by kernel_rfl) (by kernel_rfl) ?_
              repeat (first
                | go_big_quiet_skip
                | (go_big_quiet_want; refine hi_load (.tmp 4) 185 rfl rfl HLD.out ?_; simp only [Act.put, List.setIfInBounds_toArray, List.set_cons_zero, List.set_cons_succ]; go_big_quiet_on)
                | (go_big_quiet_want; go_big_quiet_op; first | go_big_quiet_on | go_big_quiet_call (first | (go_at_call 163; exact Hi.calls (HGR.out _)) | (go_at_call 164; exact Hi.calls (HRM.out _)) | (go_at_call 166; exact Hi.calls (HBG.out _)))))
              refine wpQuiet_nil ?_
              intro _ hw
              obtain ⟨y3, rfl⟩ := hw
              clear y2
              have hst : x.step (txt s) k (((s[k]'hlt).toNat : Nat) : Int) = some { x with part := x.part ++ [(((s[k]'hlt).toNat : Nat) : Int)] } := HSTX.out
              have HR : Hid _ := HGO2.out hst
              have HO : Hid _ := HOK2.out hst
              have HRU : Hid _ := HRU2.out hst
              have HS : Hid _ := HSP.out (HX.out.up y3.below)
              have ff := FF.out
              clear hst HGO2 HOK2 HNO2 HRU2 HSTX HSP HX
              go_wp2
              exact ⟨⟨k + 1, _, _, _, by omega, by simp, HS.out, HO.out, HRU.out, HR.out⟩, by simp [intOf]; omega⟩
          · go_wp2_with fail
            go_region
            obtain ⟨y, hy⟩ : ∃ y : Hi wr, wr.drew = y.W := ⟨⟨wr.drew, (Below.refl _ _).drew⟩, rfl⟩
            rw [hy]
            clear hy hsl hcat HCAT
            generalize p ++ s.extract k (k + 1) = q at *
            go_wp2_with fail
            cases Bg
            all_goals
              have hg : ¬ 0 ≤ x.gap := (by have := HHG.out; omega)
              have h1 := HH1.out
              have h2 := HH2.out
              have q6 := HQ6.out
              refine wp_region_up (by kernel_rfl) (by kernel_rfl) ?_
              repeat (first
                | go_big_quiet_skip
                | (go_big_quiet_want; refine hi_load (.tmp 4) 185 rfl rfl HLD.out ?_; simp only [Act.put, List.setIfInBounds_toArray, List.set_cons_zero, List.set_cons_succ]; go_big_quiet_on)
                | (go_big_quiet_want; go_big_quiet_op; first | go_big_quiet_on | go_big_quiet_call (first | (go_at_call 163; exact Hi.calls (HGR.out _)) | (go_at_call 164; exact Hi.calls (HRM.out _)) | (go_at_call 166; exact Hi.calls (HBG.out _)))))
              refine wpQuiet_nil ?_
              intro _ hw
              obtain ⟨y2, rfl⟩ := hw
              clear y
              go_wp2_with fail
              refine wp_region_up (by kernel_rfl) (by kernel_rfl) ?_
              repeat (first
                | go_big_quiet_skip
                | (go_big_quiet_want; refine hi_load (.tmp 4) 185 rfl rfl HLD.out ?_; simp only [Act.put, List.setIfInBounds_toArray, List.set_cons_zero, List.set_cons_succ]; go_big_quiet_on)
                | (go_big_quiet_want; go_big_quiet_op; first | go_big_quiet_on | go_big_quiet_call (first | (go_at_call 163; exact Hi.calls (HGR.out _)) | (go_at_call 164; exact Hi.calls (HRM.out _)) | (go_at_call 166; exact Hi.calls (HBG.out _)))))
              refine wpQuiet_nil ?_
              intro _ hw
              obtain ⟨y3, rfl⟩ := hw
              clear y2
              have hst : x.step (txt s) k (((s[k]'hlt).toNat : Nat) : Int) = some { x with part := x.part ++ [(((s[k]'hlt).toNat : Nat) : Int)] } := HSTX.out
              have HR : Hid _ := HGO2.out hst
              have HO : Hid _ := HOK2.out hst
              have HRU : Hid _ := HRU2.out hst
              have HS : Hid _ := HSP.out (HX.out.up y3.below)
              have ff := FF.out
              clear hst HGO2 HOK2 HNO2 HRU2 HSTX HSP HX
              go_wp2
              exact ⟨⟨k + 1, _, _, _, by omega, by simp, HS.out, HO.out, HRU.out, HR.out⟩, by simp [intOf]; omega⟩
    · obtain rfl : k = s.size := by omega
      have HRD : Hid (read6 (txt s) s.size 0 ⟨[], -1, []⟩ = (x, s.size)) := by
        refine hrd.trans ?_
        rw [Nat.sub_self]
        rfl
      clear hX hrd
      obtain ⟨wE, hst, hlv, hrow, hbE⟩ := HX.out.end_
      have HL : Hid _ := HX.out.load (Hi.refl _)
      have HST : Hid _ := hst
      have HLV : Hid _ := hlv
      have HRW : Hid _ := hrow
      have HBE : Hid _ := hbE
      clear hst hlv hrow hbE
      go_wp2_with first
        | ((with_reducible show wpList _ _ _ _ _ _); refine armL (.tmp 4) 185 rfl rfl rfl HL.out ?_)
        | ((with_reducible show wpList _ _ _ _ _ _); refine armS (.tmp 2) (.tmp 151) 185 rfl rfl rfl rfl HST.out ?_)
      refine bodyPost_ret (res_cell2 Tryz.results130 rfl HLV.out) rfl ?_
      rw [← HQ.out]
      exact ⟨_, _, by rw [HRD.out]; rfl, by rw [HRD.out]; exact HRW.out, by rw [HRD.out]; exact HX.out.part, HBE.out⟩

end Go.Proofs.YtaebknkjhhcneaaGreatDoor
