/-
  Split and Count of both sides.
-/
import Derived.Test.YtackllcfnlhkpaaVc3
namespace Go.Proofs.Ytackllcfnlhkpaa
open Go Go.RowKit Go.Shelf
set_option linter.unusedVariables false
set_option linter.unusedSimpArgs false
attribute [local go_sem] Oper.semAt_some

/-- The answer's fragments. -/
def outL (df mf : Bool) (off : Int) (opts body : List Int) (mtu : Int) : List Fg := if refE df mf off opts body mtu = 0 then fragL mf off opts body mtu else []
section
variable (f : Fd) (mf : Bool) (off : Int) (so sb : Value) (opts body : List Int) (mtu : Int) (w : World)
theorem RSplit_calls (h1 : RowC w so opts) (h2 : RowC w sb body) (hoff : -9223372036854775808 ≤ off ∧ off ≤ 9223372036854775807) (hmt : -9223372036854775808 ≤ mtu ∧ mtu ≤ 9223372036854775807) :
    Calls Try.prog 10 #[VV f mf off so sb, .int .i64 mtu] w fun e w' => RSplitP f w (refE f.df mf off opts body mtu) (outL f.df mf off opts body mtu) e w' := by
  unfold outL
  by_cases hw : wrongE off opts.length body.length mtu = 0
  · cases hf : fitB opts.length body.length mtu
    · cases hd : f.df
      · by_cases hm : mf = true ∧ body.length % 8 ≠ 0
        · have := RSplit_early f mf off so sb opts body mtu w h1 h2 hoff hmt (.inr (.inr (.inr hm)))
          rw [hd] at this
          exact this
        · have hk := chk_ok (wrong_ok hw).1
          have hl := fragL_len (mf := mf) (off := off) (opts := opts) (body := body) (mtu := mtu) (by omega)
          have := RSplit_loop f mf off so sb opts body mtu w h1 h2 hoff hmt hw hf hd (by cases mf <;> simp at hm ⊢; exact hm) (by omega)
          have e : refE false mf off opts body mtu = if farB (fragL mf off opts body mtu) then 5 else 0 := by
            unfold refE
            rw [if_neg (by simpa using hw), hf]
            cases mf
            · simp
            · simp at hm
              simp [hm]
          rw [e]
          have e2 : (if (if farB (fragL mf off opts body mtu) then (5 : Int) else 0) = 0 then fragL mf off opts body mtu else []) = if farB (fragL mf off opts body mtu) then [] else fragL mf off opts body mtu := by
            cases farB (fragL mf off opts body mtu) <;> rfl
          rw [e2]
          exact this
      · have := RSplit_early f mf off so sb opts body mtu w h1 h2 hoff hmt (.inr (.inr (.inl hd)))
        rw [hd] at this
        exact this
    · exact RSplit_early f mf off so sb opts body mtu w h1 h2 hoff hmt (.inr (.inl hf))
  · exact RSplit_early f mf off so sb opts body mtu w h1 h2 hoff hmt (.inl hw)
/-- What Split answers. -/
def SplitP (E : Int) (L : List Fg) (e : Ending) (w' : World) : Prop := ∃ v, e = .returned (.tuple #[v, .int .i64 E]) ∧ RowV f w.heap.size (fun b => w.heap.size ≤ b) w' v L ∧ Below w.heap.size w w'
theorem Split_calls (h1 : RowC w so opts) (h2 : RowC w sb body) (hoff : -9223372036854775808 ≤ off ∧ off ≤ 9223372036854775807) (hmt : -9223372036854775808 ≤ mtu ∧ mtu ≤ 9223372036854775807) :
    Calls Try.prog 9 #[VV f mf off so sb, .int .i64 mtu] w fun e w' => SplitP f w (refE f.df mf off opts body mtu) (outL f.df mf off opts body mtu) e w' := by
  unfold outL
  by_cases he : refE f.df mf off opts body mtu = 0
  · rw [if_pos he]
    refine (Split_yes f mf off so sb opts body mtu w h1 h2 hoff hmt he).mono ?_
    rintro e w' ⟨v, rfl, hr, hb⟩
    exact ⟨v, by rw [he], hr, hb⟩
  · rw [if_neg he]
    refine (Split_no f mf off so sb opts body mtu w h1 h2 hoff hmt he).mono ?_
    rintro e w' ⟨rfl, hb⟩
    exact ⟨_, rfl, RowV.nil _ _ _ _, hb⟩

set_option maxHeartbeats 1000000 in
set_option maxRecDepth 100000 in
theorem RCount_calls (h1 : RowC w so opts) (h2 : RowC w sb body) (hoff : -9223372036854775808 ≤ off ∧ off ≤ 9223372036854775807) (hmt : -9223372036854775808 ≤ mtu ∧ mtu ≤ 9223372036854775807) :
    Calls Try.prog 12 #[VV f mf off so sb, .int .i64 mtu] w fun e w' => e = .returned (.tuple #[.int .i64 ((outL f.df mf off opts body mtu).length : Nat), .int .i64 (refE f.df mf off opts body mtu)]) ∧ Below w.heap.size w w' := by
  have HSP : Hid (∀ W, Below w.heap.size w W → Calls Try.prog 10 #[VV f mf off so sb, .int .i64 mtu] W fun e w' => RSplitP f W (refE f.df mf off opts body mtu) (outL f.df mf off opts body mtu) e w') := fun W hW => RSplit_calls f mf off so sb opts body mtu W (h1.on hW) (h2.on hW) hoff hmt
  have hb0 := blk_new w (BV f mf off so sb)
  have HLD : Hid _ := vb_load hb0
  have HBB : Hid (Below w.heap.size w (w.alloc (BV f mf off so sb))) := (Below.refl w.heap.size w).alloc (Nat.le_refl _) (BV f mf off so sb)
  clear hb0 h1 h2
  generalize refE f.df mf off opts body mtu = rE at *
  generalize outL f.df mf off opts body mtu = LL at *
  go_enter Try.func12, Try.ntmps12
  go_wp2_with ((with_reducible show wpList _ _ _ _ _ _); refine armL (.tmp 2) 27 rfl rfl rfl HLD.out ?_)
  refine Calls.mono (HSP.out _ HBB.out) ?_
  rintro e w2 ⟨v, rfl, hr, hb2⟩
  obtain ⟨a, c, rfl⟩ := hr.slc
  have HB2 : Hid _ := HBB.out.trans (hb2.mono HBB.out.size)
  clear hb2 hr HSP HLD
  generalize hN : LL.length = N at *
  have HN : Hid _ := hN
  clear hN
  go_wp2
  go_ret2
  exact ⟨by rw [HN.out]; rfl, HB2.out⟩

set_option maxHeartbeats 1000000 in
set_option maxRecDepth 100000 in
theorem Count_no (h1 : RowC w so opts) (h2 : RowC w sb body) (hoff : -9223372036854775808 ≤ off ∧ off ≤ 9223372036854775807) (hmt : -9223372036854775808 ≤ mtu ∧ mtu ≤ 9223372036854775807) (he : refE f.df mf off opts body mtu ≠ 0) :
    Calls Try.prog 11 #[VV f mf off so sb, .int .i64 mtu] w fun e w' => e = .returned (.tuple #[.int .i64 0, .int .i64 (refE f.df mf off opts body mtu)]) ∧ Below w.heap.size w w' := by
  have HRF : Hid (∀ W, Below w.heap.size w W → Calls Try.prog 21 #[VV f mf off so sb, .int .i64 mtu] W fun e w' => e = .returned (.int .i64 (refE f.df mf off opts body mtu)) ∧ Below W.heap.size W w') := fun W hW => refused_calls f mf off so sb opts body mtu W (h1.on hW) (h2.on hW) hoff hmt
  have hb0 := blk_new w (BV f mf off so sb)
  have HLD : Hid _ := vb_load hb0
  have HBB : Hid (Below w.heap.size w (w.alloc (BV f mf off so sb))) := (Below.refl w.heap.size w).alloc (Nat.le_refl _) (BV f mf off so sb)
  clear hb0 h1 h2
  generalize refE f.df mf off opts body mtu = rE at *
  have q1 : (rE != 0) = true := by simpa using he
  clear he
  go_enter Try.func11, Try.ntmps11
  go_wp2_with ((with_reducible show wpList _ _ _ _ _ _); refine armL (.tmp 2) 27 rfl rfl rfl HLD.out ?_)
  refine Calls.mono (HRF.out _ HBB.out) ?_
  rintro e w2 ⟨rfl, hb2⟩
  have HB2 : Hid _ := HBB.out.trans (hb2.mono HBB.out.size)
  clear hb2
  go_wp2
  go_ret2
  exact ⟨rfl, HB2.out⟩

set_option maxHeartbeats 4000000 in
set_option maxRecDepth 100000 in
theorem Count_yes (h1 : RowC w so opts) (h2 : RowC w sb body) (hoff : -9223372036854775808 ≤ off ∧ off ≤ 9223372036854775807) (hmt : -9223372036854775808 ≤ mtu ∧ mtu ≤ 9223372036854775807) (he : refE f.df mf off opts body mtu = 0) :
    Calls Try.prog 11 #[VV f mf off so sb, .int .i64 mtu] w fun e w' => e = .returned (.tuple #[.int .i64 ((fragL mf off opts body mtu).length : Nat), .int .i64 0]) ∧ Below w.heap.size w w' := by
  have HRF : Hid (∀ W, Below w.heap.size w W → Calls Try.prog 21 #[VV f mf off so sb, .int .i64 mtu] W fun e w' => e = .returned (.int .i64 0) ∧ Below W.heap.size W w') := fun W hW => by
    have := refused_calls f mf off so sb opts body mtu W (h1.on hW) (h2.on hW) hoff hmt
    rw [he] at this
    exact this
  have hw := ref_ok he
  have hck := chk_ok (wrong_ok hw).1
  have hLl : (fragL mf off opts body mtu).length ≤ 70001 := fragL_len (by omega)
  have HFR : Hid (∀ W, Calls Try.prog 22 #[VV f mf off so sb, .int .i64 mtu] W fun e w' => e = .returned (.func (.func 29) #[] #[.pointer (some ⟨W.heap.size, 0, none⟩), .pointer (some ⟨W.heap.size + 1, 0, none⟩)]) ∧ w'.heap[W.heap.size]? = some (BV f mf off so sb) ∧ w'.heap[W.heap.size + 1]? = some (.cells #[.int .i64 mtu] 3) ∧ Below W.heap.size W w' ∧ w'.heap.size = W.heap.size + 2) := fun W => fragments_calls f mf off so sb mtu W
  have hb0 := blk_new w (BV f mf off so sb)
  have HLD : Hid _ := vb_load hb0
  have HB0 : Hid (((w.alloc (BV f mf off so sb)).heap[w.heap.size]? = some (BV f mf off so sb))) := hb0
  have HBB : Hid (Below w.heap.size w (w.alloc (BV f mf off so sb))) := (Below.refl w.heap.size w).alloc (Nat.le_refl _) (BV f mf off so sb)
  have HG : Hid (∀ (ab : Nat) (w2 w3 : World), Below w.heap.size w w2 → w.heap.size ≤ ab → ab < w2.heap.size → w3.heap[w2.heap.size]? = some (BV f mf off so sb) → w3.heap[w2.heap.size + 1]? = some (.cells #[.int .i64 mtu] 3) → Below w2.heap.size w2 w3 → w3.heap.size = w2.heap.size + 2 →
      GivesO Try.prog 29 #[.pointer (some ⟨w2.heap.size, 0, none⟩), .pointer (some ⟨w2.heap.size + 1, 0, none⟩)] (fragL mf off opts body mtu).length (FragX f (fragL mf off opts body mtu)) (fun b => b < w3.heap.size ∧ ¬ b = ab) w3) := fun ab w2 w3 hB hs hs' hv hm hB3 hs3 => frags_gives (fun b => b = ab) h1 h2 hw hB (fun b hb => by omega) hv hm hB3 hs3
  clear hb0 h1 h2 he hw hck
  generalize hLL : fragL mf off opts body mtu = L at *
  clear hLL
  generalize hLn : L.length = LN at *
  have HLN : Hid _ := hLn
  clear hLn
  refine (callsIn_wide (n := 9)).1 ?_
  refine callsIn_of_wp_marks Try.func11 rfl trivial ?_ rfl
  simp only [Try.ntmps11, List.size_toArray, List.length_cons, List.length_nil, Nat.reduceAdd, Nat.reduceSub, Array.replicate_succ, Array.replicate_zero, List.push_toArray, List.append_toArray, List.nil_append, List.cons_append]
  gi_wp2_with ((with_reducible show wpListIn _ _ _ _ _ _ _ _); refine armLI (.tmp 2) 27 rfl rfl rfl HLD.out ?_)
  refine ⟨trivial, (callsIn_wide.2 (HRF.out _ HBB.out)).mono ?_⟩
  rintro e w2 ⟨rfl, hb2⟩
  have HB2 : Hid (Below w.heap.size w w2) := HBB.out.trans (hb2.mono HBB.out.size)
  have hk2 : w2.heap[w.heap.size]? = some (BV f mf off so sb) := blk_on HB0.out hb2
  obtain ⟨w2a, hW2a⟩ : ∃ W, (w2.alloc (.cells [.int .i64 0].toArray 3)).setCell ⟨w2.heap.size, 0, none⟩ (.int .i64 0) = W := ⟨_, rfl⟩
  have hnb := blk_new w2 (.cells [.int .i64 0].toArray 3)
  have hab : w2a.heap[w2.heap.size]? = some (.cells [.int .i64 0].toArray 3) := by rw [← hW2a]; exact blk_set hnb 0 _
  have hba : Below w2.heap.size w2 w2a := by rw [← hW2a]; exact ((Below.refl w2.heap.size w2).alloc (Nat.le_refl _) _).setCell (p := ⟨w2.heap.size, 0, none⟩) (Nat.le_refl _) _
  have hsa : w2a.heap.size = w2.heap.size + 1 := by rw [← hW2a]; simp
  have hk2a : w2a.heap[w.heap.size]? = some (BV f mf off so sb) := blk_on hk2 hba
  have HLD2 : Hid _ := vb_load hk2a
  have HAB : Hid (w2a.heap[w2.heap.size]? = some (.cells [.int .i64 0].toArray 3)) := hab
  have HBA : Hid (Below w.heap.size w w2a) := HB2.out.trans (hba.mono HB2.out.size)
  have HSA : Hid (w2a.heap.size = w2.heap.size + 1) := hsa
  have hww : w.heap.size < w2.heap.size := (Array.getElem?_eq_some_iff.1 hk2).1
  have HSTN : Hid ((Instr.storeAt 3 (.pointer (some ⟨w2.heap.size, 0, none⟩)) (.int .i64 0)).run Try.prog (w2.alloc (.cells #[.int .i64 0] 3)) = .ok () w2a) := by show _ = _; rw [← hW2a]; exact st_int hnb (show 0 < 1 by decide) 0
  clear hb2 hk2 hba hk2a hab HRF HLD HB0 HBB hnb hW2a hsa
  gi_wp2_with first
    | ((with_reducible show wpListIn _ _ _ _ _ ({ dst := _, op := Op.load 27 (Operand.tmp 2), type := _, pos := _, after := _, guard := _ } :: _) _ _); refine armLI (.tmp 2) 27 rfl rfl rfl HLD2.out ?_)
    | ((with_reducible show wpListIn _ _ _ _ _ ({ dst := _, op := Op.store 3 (Operand.tmp 7) (Operand.const (Value.int IntKind.i64 0)), type := _, pos := _, after := _, guard := _ } :: _) _ _); refine armSI (.tmp 7) (.const (.int .i64 0)) 3 rfl rfl rfl rfl HSTN.out ?_; simp only [Act.put])
  refine ⟨trivial, (callsIn_wide.2 (HFR.out _)).mono ?_⟩
  rintro e w3 ⟨rfl, hv3, hm3, hB3, hs3⟩
  have hA3 : Hid (w3.heap[w2.heap.size]? = some (.cells [.int .i64 0].toArray 3)) := blk_on HAB.out hB3
  have HB3 : Hid (Below w.heap.size w w3) := HBA.out.trans (hB3.mono HBA.out.size)
  have hgi := HG.out w2.heap.size _ w3 HBA.out (by omega) (by rw [HSA.out]; omega) hv3 hm3 hB3 hs3
  have HGI : Hid (GivesO Try.prog 29 #[.pointer (some ⟨w2a.heap.size, 0, none⟩), .pointer (some ⟨w2a.heap.size + 1, 0, none⟩)] LN (FragX f L) (fun b => b < w3.heap.size ∧ ¬ b = w2.heap.size) w3) := hgi
  have hsz3 : w2.heap.size + 3 ≤ w3.heap.size := by have := HSA.out; omega
  clear hgi hv3 hm3 hB3 hs3 HG HFR HLD2 HAB HBA HSTN
  gi_wp2_with fail
  refine wpIn_rangeO (gf := 29) rfl enters_frags HGI.out (Nat.le_refl _) (fun b hb => ⟨hb.1, rfl⟩) rfl
    (fun k O A => O w2.heap.size ∧ (∀ b, O b → b = w2.heap.size) ∧ A.heap[w2.heap.size]? = some (.cells [.int .i64 (k : Nat)].toArray 3) ∧ Below w.heap.size w A) (fun O A => False)
    (fun b => b = w2.heap.size) (fun b hb => ⟨fun h => h.2 hb, by omega⟩) ?stable (fun _ _ _ h _ => h)
    ⟨rfl, fun b hb => hb, hA3.out, HB3.out⟩ ?round ?done (fun _ _ h _ _ => h.elim)
  case stable =>
    rintro k O A B ⟨h1, h2, h4, h5⟩ hs
    exact ⟨h1, h2, hs.blk h4 (fun hb => hb.2 h1), h5.trans (hs.below h5.size (fun b hb hh => by have := hh.1; omega))⟩
  case round =>
    rintro m k x W O hk hsz hO hX ⟨i1, i2, i4, i5⟩
    clear hX
    gi_wp2_with fail
    refine ⟨Sep.refl _ _, ?_⟩
    intro W2 hon
    have hr2 : W2.heap[w2.heap.size]? = some (.cells [.int .i64 (k : Nat)].toArray 3) := (hon.other _ (by omega)).trans i4
    have r0 := blk_cell hr2 (j := 0) rfl
    have rf := blk_open hr2 0
    have hbw : Below w.heap.size w W2 := i5.trans (hon.below (by omega))
    have hk1 : k ≤ 70001 := by omega
    have HR2 : Hid (W2.heap[w2.heap.size]? = some (.cells [.int .i64 (k : Nat)].toArray 3)) := hr2
    have HFIN : Hid (RoundO (fun k O A => O w2.heap.size ∧ (∀ b, O b → b = w2.heap.size) ∧ A.heap[w2.heap.size]? = some (.cells [.int .i64 (k : Nat)].toArray 3) ∧ Below w.heap.size w A) (fun O A => False) k O W.heap.size W2 .normal (W2.setCell ⟨w2.heap.size, 0, none⟩ (.int .i64 ((k : Int) + 1)))) := by
      refine ⟨O, Sep.of_only ((Only.refl _ W2).set 0 _) (.inl i1), fun b hb => ⟨?_, .inl hb⟩, .inl ⟨rfl, i1, i2, ?_, hbw.setCell (p := ⟨w2.heap.size, 0, none⟩) (by simp; omega) _⟩⟩
      · have := (hO b hb).2.1
        have := hon.size
        simp
        omega
      · rw [Int.natCast_add]
        exact blk_set hr2 0 _
    clear hr2 hon i4 i5 i2 hO
    gi_wp2_with fail
    exact HFIN.out
  case done =>
    rintro O X ⟨h1, h2, h4, h5⟩ hK hne
    have r0 := blk_cell h4 (j := 0) rfl
    clear h4
    gi_wp2_with fail
    refine ⟨by simp, .inl ⟨_, _, rfl, run_takeDeferred hK, ?_⟩⟩
    exact ⟨_, results_tmp2 rfl _ _ _, rfl, h5.trans ((Only.putObj _).below (by omega))⟩

theorem Count_calls (h1 : RowC w so opts) (h2 : RowC w sb body) (hoff : -9223372036854775808 ≤ off ∧ off ≤ 9223372036854775807) (hmt : -9223372036854775808 ≤ mtu ∧ mtu ≤ 9223372036854775807) :
    Calls Try.prog 11 #[VV f mf off so sb, .int .i64 mtu] w fun e w' => e = .returned (.tuple #[.int .i64 ((outL f.df mf off opts body mtu).length : Nat), .int .i64 (refE f.df mf off opts body mtu)]) ∧ Below w.heap.size w w' := by
  unfold outL
  by_cases he : refE f.df mf off opts body mtu = 0
  · rw [if_pos he, he]
    exact Count_yes f mf off so sb opts body mtu w h1 h2 hoff hmt he
  · rw [if_neg he]
    exact Count_no f mf off so sb opts body mtu w h1 h2 hoff hmt he
end

end Go.Proofs.Ytackllcfnlhkpaa
