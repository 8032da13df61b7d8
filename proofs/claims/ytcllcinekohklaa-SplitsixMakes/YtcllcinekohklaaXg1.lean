/-
  Count and Fits of package splitsix.
-/
import Derived.Test.YtcllcinekohklaaXf1
namespace Go.Proofs.Ytcllcinekohklaa
open Go Go.RowKit
set_option linter.unusedVariables false
set_option linter.unusedSimpArgs false

attribute [local go_sem] Oper.semAt_some
def cBox (x : Int) : Obj := .cells [.int .i64 x].toArray 3
section
variable {S : Nat → Prop} {w : World} {f : F6} (g : G6) {vh vb : Value} {hs : Opts} {body : List Int} (mtu : Int)
/-- The two boxes of Count and of Fits. -/
theorem two_boxes (h : D6 S w f vh vb hs body) : ∃ W3, W3 = (w.alloc (BV f g vh vb)).alloc (cBox mtu) ∧ Below w.heap.size w W3 ∧ VAt S w.heap.size f g vh vb hs body W3 ∧ W3.heap[w.heap.size + 1]? = some (cBox mtu) := by
  have hB := ((Below.refl w.heap.size w).alloc (Nat.le_refl _) (BV f g vh vb)).alloc (by simp) (cBox mtu)
  refine ⟨_, rfl, hB, ⟨blk_alloc (blk_new w _) _, h.on hB⟩, ?_⟩
  have := blk_new (w.alloc (BV f g vh vb)) (cBox mtu)
  rw [show (w.alloc (BV f g vh vb)).heap.size = w.heap.size + 1 by simp] at this
  exact this
end
section
variable {S : Nat → Prop} {pv pm : Nat} {f : F6} {g : G6} {vh vb : Value} {hs : Opts} {body : List Int} {mtu : Int} {w : World}
set_option maxHeartbeats 4000000 in
set_option maxRecDepth 100000 in
theorem fits1_no (h : VAt S pv f g vh vb hs body w) (hm : w.heap[pm]? = some (cBox mtu)) (he : fitE f hs g body.length mtu ≠ 0) :
    Calls Try.prog 30 #[.pointer (some ⟨pv, 0, none⟩), .pointer (some ⟨pm, 0, none⟩)] w fun e w' => e = .panicked [guP (fitE f hs g body.length mtu)] ∧ Below w.heap.size w w' := by
  have HL : Hid _ := vb_load h.v
  have km : w.cell? ⟨pm, 0, none⟩ = some (.int .i64 mtu) := blk_cell hm (j := 0) rfl
  have HC : Hid _ := fits_no g mtu h.dd he
  clear h hm he
  go_enter Try.func30, Try.ntmps30
  go_wp2_with first
    | ((with_reducible show wpList _ _ _ ({ dst := _, op := Op.load 28 (Operand.tmp 0), type := _, pos := _, after := _, guard := _ } :: _) _ _); refine armL (.tmp 0) 28 rfl rfl rfl HL.out ?_)
  refine Calls.mono HC.out ?_
  rintro e w2 ⟨rfl, hb2⟩
  exact ⟨rfl, rfl, hb2⟩
set_option maxHeartbeats 4000000 in
set_option maxRecDepth 100000 in
theorem fits1_yes (h : VAt S pv f g vh vb hs body w) (hm : w.heap[pm]? = some (cBox mtu)) (he : fitE f hs g body.length mtu = 0) :
    Calls Try.prog 30 #[.pointer (some ⟨pv, 0, none⟩), .pointer (some ⟨pm, 0, none⟩)] w fun e w' => ∃ v, e = .returned v ∧ v = .bool (fitB hs g body.length mtu) ∧ Below w.heap.size w w' := by
  have HL : Hid _ := vb_load h.v
  have km : w.cell? ⟨pm, 0, none⟩ = some (.int .i64 mtu) := blk_cell hm (j := 0) rfl
  have HC : Hid _ := fits_yes g mtu h.dd he
  clear h hm he
  generalize fitB hs g body.length mtu = B at *
  go_enter Try.func30, Try.ntmps30
  go_wp2_with first
    | ((with_reducible show wpList _ _ _ ({ dst := _, op := Op.load 28 (Operand.tmp 0), type := _, pos := _, after := _, guard := _ } :: _) _ _); refine armL (.tmp 0) 28 rfl rfl rfl HL.out ?_)
  refine Calls.mono HC.out ?_
  rintro e w2 ⟨rfl, hb2⟩
  have HB : Hid (Below w.heap.size w w2) := hb2
  clear hb2 HC HL km
  go_wp2
  go_ret
  exact ⟨_, rfl, rfl, HB.out⟩
end
section
variable {S : Nat → Prop} {w : World} {f : F6} (g : G6) {vh vb : Value} {hs : Opts} {body : List Int} (mtu : Int)
def fitA (f : F6) (hs : Opts) (g : G6) (nb : Nat) (mtu : Int) : Bool := if fitE f hs g nb mtu = 0 then fitB hs g nb mtu else false
set_option maxHeartbeats 4000000 in
set_option maxRecDepth 100000 in
theorem Fits_any (h : D6 S w f vh vb hs body) : Calls Try.prog 12 #[VV f g vh vb, .int .i64 mtu] w fun e w' => e = .returned (.tuple #[.bool (fitA f hs g body.length mtu), .int .i64 (fitE f hs g body.length mtu)]) ∧ Below w.heap.size w w' := by
  obtain ⟨W3, hW3, hB3, hA3, hm3⟩ := two_boxes g mtu h
  have hans : Calls Try.prog 29 #[.func (.func 30) #[] #[.pointer (some ⟨w.heap.size, 0, none⟩), .pointer (some ⟨w.heap.size + 1, 0, none⟩)]] W3 fun e w' => e = .returned (.tuple #[.bool (fitA f hs g body.length mtu), .int .i64 (fitE f hs g body.length mtu)]) ∧ Below W3.heap.size W3 w' := by
    by_cases he : fitE f hs g body.length mtu = 0
    · have ea : fitA f hs g body.length mtu = fitB hs g body.length mtu := by unfold fitA; rw [if_pos he]
      rw [ea, he]
      refine (ansF_yes ⟨w.heap.size, 0, none⟩ ⟨w.heap.size + 1, 0, none⟩ W3 (fun v _ => v = .bool (fitB hs g body.length mtu)) (fun _ _ _ h _ => h) (fun W hW _ => fits1_yes (hA3.on hW) (blk_on hm3 hW) he)).mono ?_
      rintro e w' ⟨v, rfl, rfl, hb⟩
      exact ⟨rfl, hb⟩
    · have ea : fitA f hs g body.length mtu = false := by unfold fitA; rw [if_neg he]
      rw [ea]
      exact ansF_no ⟨w.heap.size, 0, none⟩ ⟨w.heap.size + 1, 0, none⟩ W3 _ (fun W hW _ => fits1_no (hA3.on hW) (blk_on hm3 hW) he)
  have HA : Hid _ := hans
  have HB3 : Hid (Below w.heap.size w W3) := hB3
  have hW := hW3.symm
  unfold cBox at hW
  clear hans hA3 hm3 hB3 h hW3
  generalize fitA f hs g body.length mtu = FA at *
  generalize fitE f hs g body.length mtu = FE at *
  go_enter Try.func12, Try.ntmps12
  go_wp2_with fail
  refine Calls.mono HA.out ?_
  rintro e w4 ⟨rfl, hb4⟩
  have HB : Hid (Below w.heap.size w w4) := HB3.out.trans (hb4.mono HB3.out.size)
  clear hb4 HA HB3
  go_wp2
  go_ret2
  exact ⟨rfl, HB.out⟩
end
/-- The counter, behind k rounds. -/
structure CtI (w : World) (k : Nat) (O : Nat → Prop) (A : World) : Prop where
  box : A.heap[w.heap.size]? = some (cBox k)
  ob : O w.heap.size
  bel : Below w.heap.size w A
def CountE (N : Nat) (w : World) (en : Option Int) (e : Ending) (w' : World) : Prop :=
  match en with
  | none => e = .returned (.int .i64 N) ∧ Below w.heap.size w w'
  | some er => e = .panicked [guP er] ∧ Below w.heap.size w w'
section
variable {S : Nat → Prop} {pv pm : Nat} {f : F6} {g : G6} {vh vb : Value} {hs : Opts} {body : List Int} {mtu : Int} {w : World}
set_option maxHeartbeats 4000000 in
set_option maxRecDepth 100000 in
theorem count1_calls (h : VAt S pv f g vh vb hs body w) (hm : w.heap[pm]? = some (cBox mtu)) :
    Calls Try.prog 28 #[.pointer (some ⟨pv, 0, none⟩), .pointer (some ⟨pm, 0, none⟩)] w fun e w' => CountE (fragP f hs g body mtu 0).1.length w (fragP f hs g body mtu 0).2 e w' := by
  obtain ⟨W0, hW0⟩ : ∃ W0, W0 = w.alloc (cBox 0) := ⟨_, rfl⟩
  have hc0 : W0.heap[w.heap.size]? = some (cBox 0) := by rw [hW0]; exact blk_new w _
  have hB0 : Below w.heap.size w W0 := by rw [hW0]; exact (Below.refl w.heap.size w).alloc (Nat.le_refl _) _
  obtain ⟨W1, hst1, hc1, hon1⟩ : ∃ W1, (Instr.storeAt 3 (.pointer (some ⟨w.heap.size, 0, none⟩)) (.int .i64 0)).run Try.prog W0 = .ok () W1 ∧ W1.heap[w.heap.size]? = some (cBox 0) ∧ Only w.heap.size W0 W1 := ⟨_, st_int hc0 (by simp) 0, blk_set hc0 0 (.int .i64 0), (Only.refl _ W0).set 0 _⟩
  have hB1 : Below w.heap.size w W1 := hB0.trans (hon1.below (Nat.le_refl _))
  have hs1 : W1.heap.size = w.heap.size + 1 := by rw [hon1.size, hW0]; simp
  have hA1 := h.on hB1
  have HLV : Hid _ := vb_load hA1.v
  have km : W1.cell? ⟨pm, 0, none⟩ = some (.int .i64 mtu) := blk_cell (blk_on hm hB1) (j := 0) rfl
  have HFR : Hid _ := fragments_calls f g vh vb mtu 0 W1
  rw [hs1] at HFR
  have HG : Hid (∀ w3, Below W1.heap.size W1 w3 → w3.heap.size = w.heap.size + 4 → w3.heap[w.heap.size + 1]? = some (BV f g vh vb) → w3.heap[w.heap.size + 1 + 1]? = some (.cells [.int .i64 mtu].toArray 3) → w3.heap[w.heap.size + 1 + 1 + 1]? = some (.cells [.int .u32 0].toArray 22) →
      GivesP Try.prog 44 #[.pointer (some ⟨w.heap.size + 1, 0, none⟩), .pointer (some ⟨w.heap.size + 1 + 1, 0, none⟩), .pointer (some ⟨w.heap.size + 1 + 1 + 1, 0, none⟩)] (fragP f hs g body mtu 0).1.length (FragX f vh hs (fragP f hs g body mtu 0).1) (fun c => c < w3.heap.size ∧ c ≠ w.heap.size) w3 (fragP f hs g body mtu 0).2) := fun w3 hB3 hs3 h1 h2 h3 => by
    refine gives_any ⟨h1, h2, h3, fun c hc => hc.1, ⟨by omega, by omega⟩, ⟨by omega, by omega⟩, ⟨by omega, by omega⟩, ?_⟩
    have hd := (h.dd.mono (S' := fun c => c < w.heap.size) (fun c hc _ => hc)).on hB1
    exact (hd.on hB3).mono (fun c hc hh => ⟨hc, by omega⟩)
  have HC1 : Hid (W1.heap[w.heap.size]? = some (cBox 0)) := hc1
  have HB1 : Hid (Below w.heap.size w W1) := hB1
  have HS1 : Hid (W1.heap.size = w.heap.size + 1) := hs1
  have HST : Hid _ := hst1
  have hLl := fragP_len f hs g body mtu 0
  have hW := hW0.symm
  unfold cBox at hW
  clear hc0 hB0 hst1 hc1 hon1 hB1 hA1 h hm hW0 hs1
  generalize hLL : (fragP f hs g body mtu 0).1 = L at *
  generalize hEN : (fragP f hs g body mtu 0).2 = en at *
  clear hLL hEN
  refine (callsIn_wide (n := 9)).1 ?_
  refine callsIn_of_wp_marks Try.func28 rfl trivial ?_ rfl
  simp only [Try.ntmps28, List.size_toArray, List.length_cons, List.length_nil, Nat.reduceAdd, Nat.reduceSub, Array.replicate_succ, Array.replicate_zero, List.push_toArray, List.append_toArray, List.nil_append, List.cons_append]
  gi_wp2_with first
    | ((with_reducible show wpListIn _ _ _ _ _ _ _ _); refine armLI (.tmp 0) 28 rfl rfl rfl HLV.out ?_)
    | ((with_reducible show wpListIn _ _ _ _ _ _ _ _); refine armSI (.tmp 3) (.const (.int .i64 0)) 3 rfl rfl rfl rfl HST.out ?_; try simp only [Act.put])
  refine ⟨trivial, (callsIn_wide.2 HFR.out).mono ?_⟩
  rintro e w3 ⟨rfl, hb3, hB3, hs3⟩
  have hs3' : w3.heap.size = w.heap.size + 4 := by omega
  have hC3 : Hid (w3.heap[w.heap.size]? = some (cBox 0)) := blk_on HC1.out (by rw [HS1.out]; exact hB3)
  have HB3 : Hid (Below w.heap.size w w3) := HB1.out.trans (hB3.mono (by omega))
  have HGI : Hid (GivesP Try.prog 44 #[.pointer (some ⟨w.heap.size + 1, 0, none⟩), .pointer (some ⟨w.heap.size + 1 + 1, 0, none⟩), .pointer (some ⟨w.heap.size + 1 + 1 + 1, 0, none⟩)] L.length (FragX f vh hs L) (fun c => c < w3.heap.size ∧ c ≠ w.heap.size) w3 en) := HG.out w3 (by rw [HS1.out]; exact hB3) hs3' hb3.1 hb3.2.1 hb3.2.2
  have hsz3 : w.heap.size + 4 ≤ w3.heap.size := by omega
  clear hb3 hB3 hs3 hs3' HG HFR HLV HC1 HB1 HS1 km HST hW
  gi_wp2_with fail
  refine wpIn_rangeP (gf := 44) rfl enters_frags HGI.out (Nat.le_refl _) (fun b hb => ⟨hb.1, rfl⟩) rfl
    (fun k O A => CtI w k O A)
    (fun b => b = w.heap.size) (fun b hb => ⟨fun h => h.2 hb, by omega⟩) ?stable
    ⟨hC3.out, rfl, HB3.out⟩ ?round ?done
  case stable =>
    rintro k O A B h hs
    exact ⟨hs.blk h.box (fun hb => hb.2 h.ob), h.ob, h.bel.trans (hs.below h.bel.size (fun b hb hh => by have := hh.1; omega))⟩
  case round =>
    rintro m k x W O hk hsz hO _ hI
    have HI : Hid (CtI w k O W) := hI
    have hkb : k ≤ 100000 := by omega
    clear hI
    gi_wp2_with fail
    refine ⟨Sep.refl _ _, ?_⟩
    intro W2 hon
    have hLO : ¬ (O (w3.heap.size + 1)) := fun h => (hO _ h).2.2.2 rfl
    have hne : w.heap.size ≠ w3.heap.size + 1 := by omega
    have hb2 : W2.heap[w.heap.size]? = some (cBox k) := (hon.other _ hne).trans HI.out.box
    have hbel : Below w.heap.size w W2 := HI.out.bel.trans (hon.below (by omega))
    have kc : W2.cell? ⟨w.heap.size, 0, none⟩ = some (.int .i64 k) := blk_cell hb2 (j := 0) rfl
    obtain ⟨W3, hst3, hc3, hon3⟩ : ∃ W3, (Instr.storeAt 3 (.pointer (some ⟨w.heap.size, 0, none⟩)) (.int .i64 ((k : Int) + 1))).run Try.prog W2 = .ok () W3 ∧ W3.heap[w.heap.size]? = some (cBox ((k + 1 : Nat) : Int)) ∧ Only w.heap.size W2 W3 := ⟨_, st_int hb2 (by simp) _, blk_set hb2 0 (.int .i64 ((k : Int) + 1)), (Only.refl _ W2).set 0 _⟩
    have HST : Hid _ := hst3
    have HFIN : Hid (RoundP (fun k O A => CtI w k O A) k O W.heap.size W2 .normal W3) := ⟨O, Sep.of_only hon3 (.inl HI.out.ob), fun b hb => ⟨by have := (hO b hb).2.1; have := hon.size; have := hon3.size; omega, .inl hb⟩, rfl, hc3, HI.out.ob, hbel.trans (hon3.below (Nat.le_refl _))⟩
    clear hb2 hbel hst3 hc3 hon3 hon hLO hO HI
    generalize w3.heap.size + 1 = ll at *
    gi_wp2_with ((with_reducible show wpListIn _ _ _ _ _ _ _ _); refine armSI (.tmp 3) (.tmp 9) 3 rfl rfl rfl rfl HST.out ?_; try simp only [Act.put])
    exact HFIN.out
  case done =>
    rintro O X hI hK hne
    have hon : Only w3.heap.size X (X.putObj w3.heap.size (.deferred none)) := Only.putObj _
    cases en with
    | some er =>
      refine ⟨by simp, .inl ⟨_, _, rfl, run_takeDeferred hK, ?_⟩⟩
      exact ⟨rfl, hI.bel.trans (hon.below (by omega))⟩
    | none =>
      have kc : X.cell? ⟨w.heap.size, 0, none⟩ = some (.int .i64 L.length) := blk_cell hI.box (j := 0) rfl
      have HB : Hid (Below w.heap.size w X) := hI.bel
      unfold exitP
      clear hI
      obtain ⟨N, hN⟩ : ∃ N, L.length = N := ⟨_, rfl⟩
      have HN : Hid (L.length = N) := hN
      rw [hN] at kc
      clear hN
      gi_wp2_with fail
      refine ⟨by simp, .inl ⟨_, _, rfl, run_takeDeferred hK, ?_⟩⟩
      exact ⟨_, results_tmp rfl _ _ _, by rw [HN.out]; rfl, HB.out.trans (hon.below (by omega))⟩
end
section
variable {S : Nat → Prop} {w : World} {f : F6} (g : G6) {vh vb : Value} {hs : Opts} {body : List Int} (mtu : Int)
def enE (en : Option Int) : Int := match en with | none => 0 | some er => er
def cntN (en : Option Int) (N : Nat) : Nat := match en with | none => N | some _ => 0
set_option maxHeartbeats 4000000 in
set_option maxRecDepth 100000 in
theorem Count_any (h : D6 S w f vh vb hs body) : Calls Try.prog 10 #[VV f g vh vb, .int .i64 mtu] w fun e w' => e = .returned (.tuple #[.int .i64 (cntN (fragP f hs g body mtu 0).2 (fragP f hs g body mtu 0).1.length), .int .i64 (enE (fragP f hs g body mtu 0).2)]) ∧ Below w.heap.size w w' := by
  obtain ⟨W3, hW3, hB3, hA3, hm3⟩ := two_boxes g mtu h
  have hans : Calls Try.prog 27 #[.func (.func 28) #[] #[.pointer (some ⟨w.heap.size, 0, none⟩), .pointer (some ⟨w.heap.size + 1, 0, none⟩)]] W3 fun e w' => e = .returned (.tuple #[.int .i64 (cntN (fragP f hs g body mtu 0).2 (fragP f hs g body mtu 0).1.length), .int .i64 (enE (fragP f hs g body mtu 0).2)]) ∧ Below W3.heap.size W3 w' := by
    cases he : (fragP f hs g body mtu 0).2 with
    | none =>
      refine (ansC_yes ⟨w.heap.size, 0, none⟩ ⟨w.heap.size + 1, 0, none⟩ W3 (fun v _ => v = .int .i64 (fragP f hs g body mtu 0).1.length) (fun _ _ _ h _ => h) (fun W hW _ => by
        have := count1_calls (hA3.on hW) (blk_on hm3 hW)
        rw [he] at this
        refine this.mono ?_
        rintro e w' ⟨rfl, hb⟩
        exact ⟨_, rfl, rfl, hb⟩)).mono ?_
      rintro e w' ⟨v, rfl, rfl, hb⟩
      exact ⟨rfl, hb⟩
    | some er =>
      refine (ansC_no ⟨w.heap.size, 0, none⟩ ⟨w.heap.size + 1, 0, none⟩ W3 er (fun W hW _ => by
        have := count1_calls (hA3.on hW) (blk_on hm3 hW)
        rw [he] at this
        exact this)).mono ?_
      rintro e w' ⟨rfl, hb⟩
      exact ⟨rfl, hb⟩
  have HA : Hid _ := hans
  have HB3 : Hid (Below w.heap.size w W3) := hB3
  have hW := hW3.symm
  unfold cBox at hW
  clear hans hA3 hm3 hB3 h hW3
  generalize cntN (fragP f hs g body mtu 0).2 (fragP f hs g body mtu 0).1.length = FA at *
  generalize enE (fragP f hs g body mtu 0).2 = FE at *
  go_enter Try.func10, Try.ntmps10
  go_wp2_with fail
  refine Calls.mono HA.out ?_
  rintro e w4 ⟨rfl, hb4⟩
  have HB : Hid (Below w.heap.size w w4) := HB3.out.trans (hb4.mono HB3.out.size)
  clear hb4 HA HB3
  go_wp2
  go_ret2
  exact ⟨rfl, HB.out⟩
end

end Go.Proofs.Ytcllcinekohklaa
