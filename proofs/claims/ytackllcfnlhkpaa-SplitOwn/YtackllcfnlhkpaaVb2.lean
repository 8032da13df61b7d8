/-
  Split of the program.
-/
import Derived.Test.YtackllcfnlhkpaaVb1
namespace Go.Proofs.Ytackllcfnlhkpaa
open Go Go.RowKit Go.Shelf
set_option linter.unusedVariables false
set_option linter.unusedSimpArgs false
attribute [local go_sem] Oper.semAt_some

theorem armAI {F : Fence} {n : Nat} {P : Program} {w w2 : World} {ops : Array Oper} {rest : List Oper} {o : Oper} {a : Act} {Q : Exit → Act → World → Prop} (s x : Operand) (t : TypeId) (hop : o.op = Op.call { callee := Callee.builtin Builtin.append, args := #[s, x], argTypes := #[t, t] }) (hg : o.guard = none) {vs vx v : Value} (hs : a.eval s = vs) (hx : a.eval x = vx) (hrun : (Builtin.append_ #[t, t] o.type #[vs, vx]).run P w = .ok v w2) (hK : wpListIn F n P ops Q rest (a.put o.dst v) w2) : wpListIn F n P ops Q (o :: rest) a w := by
  refine wpListIn_plain hg fun K hK' => ?_
  unfold Oper.wpIn
  refine ⟨by simp [Oper.about, hop, resolve, Target.leads, Sem.run_pure], ?_⟩
  rw [Oper.semAt_plain F _ _ (by rw [hop]; intro c hc'; cases hc')]
  simp [execOp, hop, resolve, invoke, builtin, hs, hx, hrun, Result.andThen]
  exact hK' _ _ hK
theorem bs_run (W : World) (f : Fd) (mf : Bool) (off : Int) (so sb : Value) : (Instr.buildSlice 29 1 #[(0, VV f mf off so sb)]).run Try.prog W = .ok (.slice (some ⟨W.heap.size, 0, none⟩) 1 1) (W.alloc (BV f mf off so sb)) := by kernel_rfl
theorem armBI {F : Fence} {n : Nat} {P : Program} {w w2 : World} {ops : Array Oper} {rest : List Oper} {o : Oper} {a : Act} {Q : Exit → Act → World → Prop} (x : Operand) (t : TypeId) (hop : o.op = Op.buildSlice t 1 #[(0, x)]) (hg : o.guard = none) {vx v : Value} (hx : a.eval x = vx) (hrun : (Instr.buildSlice t 1 #[(0, vx)]).run P w = .ok v w2) (hK : wpListIn F n P ops Q rest (a.put o.dst v) w2) : wpListIn F n P ops Q (o :: rest) a w := by
  refine wpListIn_plain hg fun K hK' => ?_
  unfold Oper.wpIn
  refine ⟨by simp [Oper.about, hop], ?_⟩
  rw [Oper.semAt_plain F _ _ (by rw [hop]; intro c hc'; cases hc')]
  simp [execOp, hop, hx, hrun, Result.andThen]
  exact hK' _ _ hK
theorem armB {P : Program} {w w2 : World} {ops : Array Oper} {rest : List Oper} {o : Oper} {a : Act} {Q : Exit → Act → World → Prop} (x : Operand) (t : TypeId) (hop : o.op = Op.buildSlice t 1 #[(0, x)]) (hg : o.guard = none) {vx v : Value} (hx : a.eval x = vx) (hrun : (Instr.buildSlice t 1 #[(0, vx)]).run P w = .ok v w2) (hK : wpList P ops Q rest (a.put o.dst v) w2) : wpList P ops Q (o :: rest) a w := by
  refine BigFrame.wpList_want (by simp [Region.wanted, hg]) fun K hK' => ?_
  unfold Oper.wp
  simp [execOp, hop, hx, hrun, Result.andThen]
  exact hK' _ _ hK
theorem take_at' {α : Type} (L : List α) (k : Nat) {x : α} (h : L[k]? = some x) : L.take (k + 1) = L.take k ++ [x] := by
  obtain ⟨hlt, e⟩ := List.getElem?_eq_some_iff.1 h
  rw [List.take_succ_eq_append_getElem hlt, e]
theorem frs_len (mtu : Nat) (later : List Int) (mf : Bool) : ∀ (n : Nat) (off : Int) (o b : List Int), (frs mtu later mf n off o b).length ≤ n + 1
  | 0, off, o, b => by simp [frs]
  | n + 1, off, o, b => by
    rw [frs]
    split
    · simp
    · simp only [List.length_cons]
      have := frs_len mtu later mf n (off + (room mtu o.length / 8 : Nat)) later (b.drop (room mtu o.length))
      omega
theorem fragL_len {mf : Bool} {off : Int} {opts body : List Int} {mtu : Int} (h : body.length ≤ 70000) : (fragL mf off opts body mtu).length ≤ 70001 := by
  have := frs_len mtu.toNat (copiedL opts) mf body.length off opts body
  unfold fragL
  omega
theorem ref_ok {df mf : Bool} {off : Int} {opts body : List Int} {mtu : Int} (h : refE df mf off opts body mtu = 0) : wrongE off opts.length body.length mtu = 0 := by
  unfold refE at h
  by_cases hw : wrongE off opts.length body.length mtu = 0
  · exact hw
  · rw [if_pos hw] at h; exact h
/-- What lies in a row's box. -/
def rowBox (v : Value) : Obj := .cells [v].toArray 29
theorem st_rows {W : World} {b : Nat} {v0 v : Value} (h : W.heap[b]? = some (rowBox v0)) (hv : ∃ x n m, v = .slice x n m) : (Instr.storeAt 29 (.pointer (some ⟨b, 0, none⟩)) v).run Try.prog W = .ok () (W.setCell ⟨b, 0, none⟩ v) := by
  obtain ⟨x, n, m, rfl⟩ := hv
  have h1 : W.cell? ⟨b, 0, none⟩ = some v0 := blk_cell h rfl
  have h2 := blk_open h 0
  simp [Instr.storeAt, go_sem, h1, h2]
theorem ld_rows {W : World} {p : Addr} {v : Value} (h : W.cell? p = some v) (hv : ∃ x n m, v = .slice x n m) : (Instr.loadAt 29 (.pointer (some p))).run Try.prog W = .ok v W := by
  obtain ⟨x, n, m, rfl⟩ := hv
  simp [Instr.loadAt, go_sem, h]

/-- What Split's rounds keep: the row so far, in blocks of O. -/
structure SpI (f : Fd) (w : World) (ab : Nat) (L : List Fg) (k : Nat) (O : Nat → Prop) (A : World) (v : Value) : Prop where
  ob : O ab
  box : A.heap[ab]? = some (rowBox v)
  row : RowV f w.heap.size (fun b => O b ∧ b ≠ ab ∧ v.ownBlock ≠ some b) A v (L.take k)
  vb : ∀ b, v.ownBlock = some b → O b ∧ b ≠ ab
  lo : ∀ b, O b → w.heap.size ≤ b
  bel : Below w.heap.size w A
theorem SpI.stable {f : Fd} {w : World} {ab : Nat} {L : List Fg} {k : Nat} {O : Nat → Prop} {A B : World} {v : Value} {s : Nat} (h : SpI f w ab L k O A v) (hw : w.heap.size ≤ s) (hs : Sep (fun b => s ≤ b ∧ ¬ O b) A B) : SpI f w ab L k O B v :=
  ⟨h.ob, hs.blk h.box (fun hb => hb.2 h.ob), h.row.sep hs (fun b hb hh => hh.2 hb.1) (fun b hb hh => hh.2 (h.vb b hb).1), h.vb, h.lo, h.bel.trans (hs.below h.bel.size (fun b hb hh => by have := hh.1; omega))⟩

section
variable (f : Fd) (mf : Bool) (off : Int) (so sb : Value) (opts body : List Int) (mtu : Int) (w : World)
set_option maxHeartbeats 1000000 in
set_option maxRecDepth 100000 in
theorem Split_no (h1 : RowC w so opts) (h2 : RowC w sb body) (hoff : -9223372036854775808 ≤ off ∧ off ≤ 9223372036854775807) (hmt : -9223372036854775808 ≤ mtu ∧ mtu ≤ 9223372036854775807) (he : refE f.df mf off opts body mtu ≠ 0) :
    Calls Try.prog 9 #[VV f mf off so sb, .int .i64 mtu] w fun e w' => e = .returned (.tuple #[.slice none 0 0, .int .i64 (refE f.df mf off opts body mtu)]) ∧ Below w.heap.size w w' := by
  have HRF : Hid (∀ W, Below w.heap.size w W → Calls Try.prog 21 #[VV f mf off so sb, .int .i64 mtu] W fun e w' => e = .returned (.int .i64 (refE f.df mf off opts body mtu)) ∧ Below W.heap.size W w') := fun W hW => refused_calls f mf off so sb opts body mtu W (h1.on hW) (h2.on hW) hoff hmt
  have hb0 := blk_new w (BV f mf off so sb)
  have HLD : Hid _ := vb_load hb0
  have HBB : Hid (Below w.heap.size w (w.alloc (BV f mf off so sb))) := (Below.refl w.heap.size w).alloc (Nat.le_refl _) (BV f mf off so sb)
  clear hb0 h1 h2
  generalize refE f.df mf off opts body mtu = rE at *
  have q1 : (rE != 0) = true := by simpa using he
  clear he
  go_enter Try.func9, Try.ntmps9
  go_wp2_with ((with_reducible show wpList _ _ _ _ _ _); refine armL (.tmp 2) 27 rfl rfl rfl HLD.out ?_)
  refine Calls.mono (HRF.out _ HBB.out) ?_
  rintro e w2 ⟨rfl, hb2⟩
  have HB2 : Hid _ := HBB.out.trans (hb2.mono HBB.out.size)
  clear hb2
  go_wp2
  go_ret2
  exact ⟨rfl, HB2.out⟩

set_option maxHeartbeats 4000000 in
set_option maxRecDepth 100000 in
theorem Split_yes (h1 : RowC w so opts) (h2 : RowC w sb body) (hoff : -9223372036854775808 ≤ off ∧ off ≤ 9223372036854775807) (hmt : -9223372036854775808 ≤ mtu ∧ mtu ≤ 9223372036854775807) (he : refE f.df mf off opts body mtu = 0) :
    Calls Try.prog 9 #[VV f mf off so sb, .int .i64 mtu] w fun e w' => ∃ v, e = .returned (.tuple #[v, .int .i64 0]) ∧ RowV f w.heap.size (fun b => w.heap.size ≤ b) w' v (fragL mf off opts body mtu) ∧ Below w.heap.size w w' := by
  have HRF : Hid (∀ W, Below w.heap.size w W → Calls Try.prog 21 #[VV f mf off so sb, .int .i64 mtu] W fun e w' => e = .returned (.int .i64 0) ∧ Below W.heap.size W w') := fun W hW => by
    have := refused_calls f mf off so sb opts body mtu W (h1.on hW) (h2.on hW) hoff hmt
    rw [he] at this
    exact this
  have hw := ref_ok he
  have hck := chk_ok (wrong_ok hw).1
  have hLl : (fragL mf off opts body mtu).length ≤ 70001 := fragL_len (by omega)
  have HFR : Hid (∀ W, Calls Try.prog 22 #[VV f mf off so sb, .int .i64 mtu] W fun e w' => e = .returned (.func (.func 29) #[] #[.pointer (some ⟨W.heap.size, 0, none⟩), .pointer (some ⟨W.heap.size + 1, 0, none⟩)]) ∧ w'.heap[W.heap.size]? = some (BV f mf off so sb) ∧ w'.heap[W.heap.size + 1]? = some (.cells #[.int .i64 mtu] 3) ∧ Below W.heap.size W w' ∧ w'.heap.size = W.heap.size + 2) := fun W => fragments_calls f mf off so sb mtu W
  have hb0 := blk_new w (BV f mf off so sb)
  have HLD : Hid _ := vb_load hb0
  have HB0 : Hid (((w.alloc (BV f mf off so sb)).heap[w.heap.size]? = some (BV f mf off so sb))) := hb0
  have HBB : Hid (Below w.heap.size w (w.alloc (BV f mf off so sb))) := (Below.refl w.heap.size w).alloc (Nat.le_refl _) (BV f mf off so sb)
  have HG : Hid (∀ (ab : Nat) (w2 w3 : World), Below w.heap.size w w2 → w.heap.size ≤ ab → ab < w2.heap.size → w3.heap[w2.heap.size]? = some (BV f mf off so sb) → w3.heap[w2.heap.size + 1]? = some (.cells #[.int .i64 mtu] 3) → Below w2.heap.size w2 w3 → w3.heap.size = w2.heap.size + 2 →
      GivesO Try.prog 29 #[.pointer (some ⟨w2.heap.size, 0, none⟩), .pointer (some ⟨w2.heap.size + 1, 0, none⟩)] (fragL mf off opts body mtu).length (FragX f (fragL mf off opts body mtu)) (fun b => b < w3.heap.size ∧ ¬ b = ab) w3) := fun ab w2 w3 hB hs hs' hv hm hB3 hs3 => frags_gives (fun b => b = ab) h1 h2 hw hB (fun b hb => by omega) hv hm hB3 hs3
  clear hb0 h1 h2 he hw hck
  generalize hLL : fragL mf off opts body mtu = L at *
  clear hLL
  refine (callsIn_wide (n := 9)).1 ?_
  refine callsIn_of_wp_marks Try.func9 rfl trivial ?_ rfl
  simp only [Try.ntmps9, List.size_toArray, List.length_cons, List.length_nil, Nat.reduceAdd, Nat.reduceSub, Array.replicate_succ, Array.replicate_zero, List.push_toArray, List.append_toArray, List.nil_append, List.cons_append]
  gi_wp2_with ((with_reducible show wpListIn _ _ _ _ _ _ _ _); refine armLI (.tmp 2) 27 rfl rfl rfl HLD.out ?_)
  refine ⟨trivial, (callsIn_wide.2 (HRF.out _ HBB.out)).mono ?_⟩
  rintro e w2 ⟨rfl, hb2⟩
  have HB2 : Hid (Below w.heap.size w w2) := HBB.out.trans (hb2.mono HBB.out.size)
  have hk2 : w2.heap[w.heap.size]? = some (BV f mf off so sb) := blk_on HB0.out hb2
  have hba := (Below.refl w2.heap.size w2).alloc (Nat.le_refl _) (rowBox (.slice none 0 0))
  have hk2a : (w2.alloc (rowBox (.slice none 0 0))).heap[w.heap.size]? = some (BV f mf off so sb) := blk_on hk2 hba
  have HLD2 : Hid _ := vb_load hk2a
  have hab := blk_new w2 (rowBox (.slice none 0 0))
  have HAB : Hid ((w2.alloc (rowBox (.slice none 0 0))).heap[w2.heap.size]? = some (rowBox (.slice none 0 0))) := hab
  have HBA : Hid (Below w.heap.size w (w2.alloc (rowBox (.slice none 0 0)))) := HB2.out.trans (hba.mono HB2.out.size)
  have HSA : Hid ((w2.alloc (rowBox (.slice none 0 0))).heap.size = w2.heap.size + 1) := by show _ = _; simp
  have hww : w.heap.size < w2.heap.size := (Array.getElem?_eq_some_iff.1 hk2).1
  unfold rowBox at HLD2
  clear hb2 hk2 hba hk2a hab HRF HLD HB0 HBB
  gi_wp2_with ((with_reducible show wpListIn _ _ _ _ _ _ _ _); refine armLI (.tmp 2) 27 rfl rfl rfl HLD2.out ?_)
  refine ⟨trivial, (callsIn_wide.2 (HFR.out _)).mono ?_⟩
  rintro e w3 ⟨rfl, hv3, hm3, hB3, hs3⟩
  have hA3 : Hid (w3.heap[w2.heap.size]? = some (rowBox (.slice none 0 0))) := blk_on HAB.out hB3
  have HB3 : Hid (Below w.heap.size w w3) := HBA.out.trans (hB3.mono HBA.out.size)
  have hs3' : w3.heap.size = w2.heap.size + 3 := by have := HSA.out; unfold rowBox at this; simp at hs3; omega
  have hgi := HG.out w2.heap.size _ w3 HBA.out (by omega) (by rw [HSA.out]; omega) hv3 hm3 hB3 hs3
  rw [HSA.out] at hgi
  have HGI : Hid (GivesO Try.prog 29 #[.pointer (some ⟨w2.heap.size + 1, 0, none⟩), .pointer (some ⟨w2.heap.size + 1 + 1, 0, none⟩)] L.length (FragX f L) (fun b => b < w3.heap.size ∧ ¬ b = w2.heap.size) w3) := hgi
  clear hgi
  have hsz3 : w2.heap.size + 3 ≤ w3.heap.size := by omega
  clear hv3 hm3 hB3 hs3 hs3' HG HFR HLD2 HAB HBA HSA
  gi_wp2_with fail
  refine wpIn_rangeO (gf := 29) rfl enters_frags HGI.out (Nat.le_refl _) (fun b hb => ⟨hb.1, rfl⟩) rfl
    (fun k O A => ∃ v, SpI f w w2.heap.size L k O A v) (fun O A => False)
    (fun b => b = w2.heap.size) (fun b hb => ⟨fun h => h.2 hb, by omega⟩) ?stable (fun _ _ _ h _ => h)
    ⟨.slice none 0 0, rfl, hA3.out, RowV.nil _ _ _ _, fun b hb => by simp [Value.ownBlock] at hb, fun b hb => by omega, HB3.out⟩ ?round ?done (fun _ _ h _ _ => h.elim)
  case stable =>
    rintro k O A B ⟨v, h⟩ hs
    exact ⟨v, h.stable (s := w3.heap.size) (by omega) hs⟩
  case round =>
    rintro m k x W O hk hsz hO ⟨g, so', sb', hg, rfl, hbo, hbb⟩ ⟨v, hI⟩
    obtain ⟨W1, hst, hbx, hBn, hsn⟩ := vb_new W f g.mf g.off (so := so') (sb := sb') hbo.one hbb.one
    unfold zeroV at hst
    have HST : Hid _ := hst
    have HBX : Hid _ := hbx
    have HBN : Hid _ := hBn
    have HI : Hid (SpI f w w2.heap.size L k O W v) := hI
    have HBO : Hid _ := hbo
    have HBBY : Hid _ := hbb
    clear hst hbx hBn hbo hbb hI
    gi_wp2_with ((with_reducible show wpListIn _ _ _ _ _ _ _ _); refine armSI (.tmp 8) (.tmp 18) 27 rfl rfl rfl rfl HST.out ?_)
    refine ⟨Sep.of_below HBN.out, ?_⟩
    intro W2 hon
    have hLO : ¬ (O (w3.heap.size + 1)) := fun h => (hO _ h).2.2.2 rfl
    have hSL : Sep (fun b => w3.heap.size ≤ b ∧ ¬ O b) W W2 := (Sep.of_below HBN.out).trans (Sep.of_only hon ⟨by omega, hLO⟩)
    have hI2 : SpI f w w2.heap.size L k O W2 v := HI.out.stable (s := w3.heap.size) (by omega) hSL
    have hb2 : W2.heap[W.heap.size]? = some (BV f g.mf g.off so' sb') := (hon.other _ (by omega)).trans HBX.out
    have hsW : Sep (fun b => b = w3.heap.size + 1) W W2 := (Sep.of_below HBN.out).trans (Sep.of_only hon rfl)
    have hbo2 := HBO.out.sep hsW (fun b hb e => hb (.inr (.inr e)))
    have hbb2 := HBBY.out.sep hsW (fun b hb e => hb (.inr (.inr e)))
    have hsz2 : W2.heap.size = W.heap.size + 1 := by rw [hon.size, hsn]
    have HC1 : Hid (∀ X, Below W2.heap.size W2 X → Calls Try.prog 23 #[so'] X fun e w' => ∃ u, e = .returned u ∧ (BS (fun b => X.heap.size ≤ b) w' u g.opts ∧ Below X.heap.size X w')) := fun X hX => Clone_bs so' g.opts X (hbo2.row.on hX)
    have HC2 : Hid (∀ X, Below W2.heap.size W2 X → Calls Try.prog 23 #[sb'] X fun e w' => ∃ u, e = .returned u ∧ (BS (fun b => X.heap.size ≤ b) w' u g.body ∧ Below X.heap.size X w')) := fun X hX => Clone_bs sb' g.body X (hbb2.row.on hX)
    have hso's := hbo2.slc
    have hsb's := hbb2.slc
    have HI2 : Hid (SpI f w w2.heap.size L k O W2 v) := hI2
    have HB2X : Hid (W2.heap[W.heap.size]? = some (BV f g.mf g.off so' sb')) := hb2
    have HSZ2 : Hid _ := hsz2
    try simp only [Act.put]
    clear hb2 hon HBX HBN HST hsz2 hsn hbo2 hbb2 HBO HBBY hI2 HI hSL hsW
    gi_wp2_with fail
    refine region_round (fun a0 a' w' => ∃ u1 u2, a' = ((((((((a0.put (some 19) (.pointer (some ⟨W.heap.size, 15, none⟩))).put (some 20) (so')).put (some 21) (u1)).put (some 22) (.pointer (some ⟨W.heap.size, 16, none⟩))).put (some 23) (sb')).put (some 24) (u2)).put (some 25) (.pointer (some ⟨W.heap.size, 15, none⟩))).put (some 26) (.pointer (some ⟨W.heap.size, 16, none⟩))) ∧ w'.heap[W.heap.size]? = some (BV f g.mf g.off u1 u2) ∧ BS (fun b => W2.heap.size ≤ b) w' u1 g.opts ∧ BS (fun b => W2.heap.size ≤ b) w' u2 g.body ∧ Sep (fun b => b = W.heap.size) W2 w') (fun _ => True) (by kernel_rfl) (by intro o ho c e; simp only [List.mem_cons, List.not_mem_nil, or_false] at ho; rcases ho with rfl | rfl | rfl | rfl | rfl | rfl | rfl | rfl | rfl | rfl <;> cases e) ?_ ?_
    · show wpAnyH _ _ _ _ _ 10 (Array.replicate 10 false) _ _
      refine take_one (i := 0) (d := some 19) (v := .pointer (some ⟨W.heap.size, 15, none⟩)) rfl rfl rfl (by kernel_rfl) (by kernel_rfl) (by kernel_rfl) (fun _ _ _ _ _ h => h.elim) (fun W hS => by kernel_rfl) trivial ?_
      simp only [Act.put, List.setIfInBounds_toArray, List.set_cons_zero, List.set_cons_succ]
      refine take_one (i := 3) (d := some 22) (v := .pointer (some ⟨W.heap.size, 16, none⟩)) rfl rfl rfl (by kernel_rfl) (by kernel_rfl) (by kernel_rfl) (fun _ _ _ _ _ h => h.elim) (fun W hS => by kernel_rfl) trivial ?_
      simp only [Act.put, List.setIfInBounds_toArray, List.set_cons_zero, List.set_cons_succ]
      have hX0 : Below W2.heap.size W2 W2.drew := (Below.refl _ W2).drew
      refine all_two (i1 := 1) (i2 := 4) (by kernel_rfl) rfl rfl rfl rfl ?_ ?_
      · refine wp_loadA (d := some 20) (.tmp 19) 25 rfl rfl rfl (ld_row (vb15 (blk_on HB2X.out hX0)) hso's) ⟨trivial, ?_⟩
        simp only [Act.put, List.setIfInBounds_toArray, List.set_cons_zero, List.set_cons_succ]
        refine all_two (i1 := 2) (i2 := 4) (by kernel_rfl) rfl rfl rfl rfl ?_ ?_
        · refine wp_call (d := some 21) 23 _ rfl (by kernel_rfl) (HC1.out _ hX0) ?_
          rintro u1 X1 ⟨hu1, hB1⟩
          have hX1 : Below W2.heap.size W2 X1 := hX0.trans (hB1.mono hX0.size)
          have hu1' : BS (fun b => W2.heap.size ≤ b) X1 u1 g.opts := hu1.mono fun b _ hb => Nat.le_trans hX0.size hb
          refine ⟨trivial, ?_⟩
          simp only [Act.put, List.setIfInBounds_toArray, List.set_cons_zero, List.set_cons_succ]
          refine all_one (i := 4) (by kernel_rfl) rfl rfl ?_
          refine wp_loadA (d := some 23) (.tmp 22) 25 rfl rfl rfl (ld_row (vb16 (blk_on HB2X.out hX1)) hsb's) ⟨trivial, ?_⟩
          simp only [Act.put, List.setIfInBounds_toArray, List.set_cons_zero, List.set_cons_succ]
          refine take_one (i := 6) (d := some 25) (v := .pointer (some ⟨W.heap.size, 15, none⟩)) rfl rfl rfl (by kernel_rfl) (by kernel_rfl) (by kernel_rfl) (fun _ _ _ _ _ h => h.elim) (fun W hS => by kernel_rfl) trivial ?_
          simp only [Act.put, List.setIfInBounds_toArray, List.set_cons_zero, List.set_cons_succ]
          refine all_one (i := 5) (by kernel_rfl) rfl rfl ?_
          refine wp_call (d := some 24) 23 _ rfl (by kernel_rfl) (HC2.out _ hX1) ?_
          rintro u2 X2 ⟨hu2, hB2⟩
          have hX2 : Below W2.heap.size W2 X2 := hX1.trans (hB2.mono hX1.size)
          refine ⟨trivial, ?_⟩
          simp only [Act.put, List.setIfInBounds_toArray, List.set_cons_zero, List.set_cons_succ]
          have hf2 := blk_on HB2X.out hX2
          have hu1s := hu1.slc
          have hu2s := hu2.slc
          have hf3 := vs15 hf2 u1
          have hf4 := vs16 hf3 u2
          refine all_one (i := 7) (by kernel_rfl) rfl rfl ?_
          refine wp_storeA (.tmp 25) (.tmp 21) 25 rfl rfl rfl rfl (st_row hf2 (show 15 < 17 by decide) hu1s) ⟨trivial, ?_⟩
          refine take_one (i := 8) (d := some 26) (v := .pointer (some ⟨W.heap.size, 16, none⟩)) rfl rfl rfl (by kernel_rfl) (by kernel_rfl) (by kernel_rfl) (fun _ _ _ _ _ h => h.elim) (fun W hS => by kernel_rfl) trivial ?_
          simp only [Act.put, List.setIfInBounds_toArray, List.set_cons_zero, List.set_cons_succ]
          refine all_one (i := 9) (by kernel_rfl) rfl rfl ?_
          refine wp_storeA (.tmp 26) (.tmp 24) 25 rfl rfl rfl rfl (st_row hf3 (show 16 < 17 by decide) hu2s) ⟨trivial, ?_⟩
          refine wpAnyH_done (by kernel_rfl) ?_ _
          have hon : Only W.heap.size X2 ((X2.setCell ⟨W.heap.size, 15, none⟩ u1).setCell ⟨W.heap.size, 16, none⟩ u2) := ((Only.refl _ X2).set 15 _).set 16 _
          have hsep : Sep (fun b => b = W.heap.size) X2 ((X2.setCell ⟨W.heap.size, 15, none⟩ u1).setCell ⟨W.heap.size, 16, none⟩ u2) := Sep.of_only hon rfl
          have hne : ∀ b, W2.heap.size ≤ b → ¬ b = W.heap.size := fun b hb e => by have := HSZ2.out; omega
          exact ⟨u1, u2, rfl, hf4, (hu1'.on hB2).sep hsep hne, (hu2.mono fun b _ hb => Nat.le_trans hX1.size hb).sep hsep hne, (Sep.of_below hX2).trans hsep⟩
        · refine wp_loadA (d := some 23) (.tmp 22) 25 rfl rfl rfl (ld_row (vb16 (blk_on HB2X.out hX0)) hsb's) ⟨trivial, ?_⟩
          simp only [Act.put, List.setIfInBounds_toArray, List.set_cons_zero, List.set_cons_succ]
          refine all_one (i := 2) (by kernel_rfl) rfl rfl ?_
          refine wp_call (d := some 21) 23 _ rfl (by kernel_rfl) (HC1.out _ hX0) ?_
          rintro u1 X1 ⟨hu1, hB1⟩
          have hX1 : Below W2.heap.size W2 X1 := hX0.trans (hB1.mono hX0.size)
          have hu1' : BS (fun b => W2.heap.size ≤ b) X1 u1 g.opts := hu1.mono fun b _ hb => Nat.le_trans hX0.size hb
          refine ⟨trivial, ?_⟩
          simp only [Act.put, List.setIfInBounds_toArray, List.set_cons_zero, List.set_cons_succ]
          refine take_one (i := 6) (d := some 25) (v := .pointer (some ⟨W.heap.size, 15, none⟩)) rfl rfl rfl (by kernel_rfl) (by kernel_rfl) (by kernel_rfl) (fun _ _ _ _ _ h => h.elim) (fun W hS => by kernel_rfl) trivial ?_
          simp only [Act.put, List.setIfInBounds_toArray, List.set_cons_zero, List.set_cons_succ]
          refine all_one (i := 5) (by kernel_rfl) rfl rfl ?_
          refine wp_call (d := some 24) 23 _ rfl (by kernel_rfl) (HC2.out _ hX1) ?_
          rintro u2 X2 ⟨hu2, hB2⟩
          have hX2 : Below W2.heap.size W2 X2 := hX1.trans (hB2.mono hX1.size)
          refine ⟨trivial, ?_⟩
          simp only [Act.put, List.setIfInBounds_toArray, List.set_cons_zero, List.set_cons_succ]
          have hf2 := blk_on HB2X.out hX2
          have hu1s := hu1.slc
          have hu2s := hu2.slc
          have hf3 := vs15 hf2 u1
          have hf4 := vs16 hf3 u2
          refine all_one (i := 7) (by kernel_rfl) rfl rfl ?_
          refine wp_storeA (.tmp 25) (.tmp 21) 25 rfl rfl rfl rfl (st_row hf2 (show 15 < 17 by decide) hu1s) ⟨trivial, ?_⟩
          refine take_one (i := 8) (d := some 26) (v := .pointer (some ⟨W.heap.size, 16, none⟩)) rfl rfl rfl (by kernel_rfl) (by kernel_rfl) (by kernel_rfl) (fun _ _ _ _ _ h => h.elim) (fun W hS => by kernel_rfl) trivial ?_
          simp only [Act.put, List.setIfInBounds_toArray, List.set_cons_zero, List.set_cons_succ]
          refine all_one (i := 9) (by kernel_rfl) rfl rfl ?_
          refine wp_storeA (.tmp 26) (.tmp 24) 25 rfl rfl rfl rfl (st_row hf3 (show 16 < 17 by decide) hu2s) ⟨trivial, ?_⟩
          refine wpAnyH_done (by kernel_rfl) ?_ _
          have hon : Only W.heap.size X2 ((X2.setCell ⟨W.heap.size, 15, none⟩ u1).setCell ⟨W.heap.size, 16, none⟩ u2) := ((Only.refl _ X2).set 15 _).set 16 _
          have hsep : Sep (fun b => b = W.heap.size) X2 ((X2.setCell ⟨W.heap.size, 15, none⟩ u1).setCell ⟨W.heap.size, 16, none⟩ u2) := Sep.of_only hon rfl
          have hne : ∀ b, W2.heap.size ≤ b → ¬ b = W.heap.size := fun b hb e => by have := HSZ2.out; omega
          exact ⟨u1, u2, rfl, hf4, (hu1'.on hB2).sep hsep hne, (hu2.mono fun b _ hb => Nat.le_trans hX1.size hb).sep hsep hne, (Sep.of_below hX2).trans hsep⟩
      · refine wp_loadA (d := some 23) (.tmp 22) 25 rfl rfl rfl (ld_row (vb16 (blk_on HB2X.out hX0)) hsb's) ⟨trivial, ?_⟩
        simp only [Act.put, List.setIfInBounds_toArray, List.set_cons_zero, List.set_cons_succ]
        refine all_one (i := 1) (by kernel_rfl) rfl rfl ?_
        refine wp_loadA (d := some 20) (.tmp 19) 25 rfl rfl rfl (ld_row (vb15 (blk_on HB2X.out hX0)) hso's) ⟨trivial, ?_⟩
        simp only [Act.put, List.setIfInBounds_toArray, List.set_cons_zero, List.set_cons_succ]
        refine all_one (i := 2) (by kernel_rfl) rfl rfl ?_
        refine wp_call (d := some 21) 23 _ rfl (by kernel_rfl) (HC1.out _ hX0) ?_
        rintro u1 X1 ⟨hu1, hB1⟩
        have hX1 : Below W2.heap.size W2 X1 := hX0.trans (hB1.mono hX0.size)
        have hu1' : BS (fun b => W2.heap.size ≤ b) X1 u1 g.opts := hu1.mono fun b _ hb => Nat.le_trans hX0.size hb
        refine ⟨trivial, ?_⟩
        simp only [Act.put, List.setIfInBounds_toArray, List.set_cons_zero, List.set_cons_succ]
        refine take_one (i := 6) (d := some 25) (v := .pointer (some ⟨W.heap.size, 15, none⟩)) rfl rfl rfl (by kernel_rfl) (by kernel_rfl) (by kernel_rfl) (fun _ _ _ _ _ h => h.elim) (fun W hS => by kernel_rfl) trivial ?_
        simp only [Act.put, List.setIfInBounds_toArray, List.set_cons_zero, List.set_cons_succ]
        refine all_one (i := 5) (by kernel_rfl) rfl rfl ?_
        refine wp_call (d := some 24) 23 _ rfl (by kernel_rfl) (HC2.out _ hX1) ?_
        rintro u2 X2 ⟨hu2, hB2⟩
        have hX2 : Below W2.heap.size W2 X2 := hX1.trans (hB2.mono hX1.size)
        refine ⟨trivial, ?_⟩
        simp only [Act.put, List.setIfInBounds_toArray, List.set_cons_zero, List.set_cons_succ]
        have hf2 := blk_on HB2X.out hX2
        have hu1s := hu1.slc
        have hu2s := hu2.slc
        have hf3 := vs15 hf2 u1
        have hf4 := vs16 hf3 u2
        refine all_one (i := 7) (by kernel_rfl) rfl rfl ?_
        refine wp_storeA (.tmp 25) (.tmp 21) 25 rfl rfl rfl rfl (st_row hf2 (show 15 < 17 by decide) hu1s) ⟨trivial, ?_⟩
        refine take_one (i := 8) (d := some 26) (v := .pointer (some ⟨W.heap.size, 16, none⟩)) rfl rfl rfl (by kernel_rfl) (by kernel_rfl) (by kernel_rfl) (fun _ _ _ _ _ h => h.elim) (fun W hS => by kernel_rfl) trivial ?_
        simp only [Act.put, List.setIfInBounds_toArray, List.set_cons_zero, List.set_cons_succ]
        refine all_one (i := 9) (by kernel_rfl) rfl rfl ?_
        refine wp_storeA (.tmp 26) (.tmp 24) 25 rfl rfl rfl rfl (st_row hf3 (show 16 < 17 by decide) hu2s) ⟨trivial, ?_⟩
        refine wpAnyH_done (by kernel_rfl) ?_ _
        have hon : Only W.heap.size X2 ((X2.setCell ⟨W.heap.size, 15, none⟩ u1).setCell ⟨W.heap.size, 16, none⟩ u2) := ((Only.refl _ X2).set 15 _).set 16 _
        have hsep : Sep (fun b => b = W.heap.size) X2 ((X2.setCell ⟨W.heap.size, 15, none⟩ u1).setCell ⟨W.heap.size, 16, none⟩ u2) := Sep.of_only hon rfl
        have hne : ∀ b, W2.heap.size ≤ b → ¬ b = W.heap.size := fun b hb e => by have := HSZ2.out; omega
        exact ⟨u1, u2, rfl, hf4, (hu1'.on hB2).sep hsep hne, (hu2.mono fun b _ hb => Nat.le_trans hX1.size hb).sep hsep hne, (Sep.of_below hX2).trans hsep⟩
    · rintro a' X ⟨u1, u2, rfl, hfx, hu1, hu2, hsX⟩
      simp only [Act.put, List.setIfInBounds_toArray, List.set_cons_zero, List.set_cons_succ]
      have hsz2 := HSZ2.out
      have hWO : ¬ O W.heap.size := fun h => by have := (hO _ h).2.1; omega
      have hI3 : SpI f w w2.heap.size L k O X v := HI2.out.stable (s := w3.heap.size) (by omega) (hsX.mono fun b _ hb => by subst hb; exact ⟨by omega, hWO⟩)
      have hkl : (L.take k).length ≤ 100000 := by rw [List.length_take]; omega
      have hlX : W2.heap.size ≤ X.heap.size := hsX.size
      have hOl : ∀ b, O b → b < W.heap.size := fun b hb => (hO b hb).2.1
      have habW : w2.heap.size < W.heap.size := hOl _ hI3.ob
      obtain ⟨v', X', hrun, hrow', hsX', hat⟩ := (hI3.row.mono (S' := fun b => (O b ∧ b ≠ w2.heap.size ∧ v.ownBlock ≠ some b) ∨ (W2.heap.size ≤ b ∧ b < X.heap.size)) (fun b _ hb => .inl hb)).push (fun b hb e => by
        rcases hb with hb | hb
        · exact hb.2.2 e
        · have h1 := hOl b (hI3.vb b e).1
          omega) hI3.bel.size hkl g (hu1.mono fun b hb h => .inr ⟨h, hb⟩) (hu2.mono fun b hb h => .inr ⟨h, hb⟩) 29
      have hvs : ∃ x n m, v = .slice x n m := by obtain ⟨a, c, e⟩ := hI3.row.slc; exact ⟨_, _, _, e⟩
      have hvs' : ∃ x n m, v' = .slice x n m := by obtain ⟨a, c, e⟩ := hrow'.slc; exact ⟨_, _, _, e⟩
      have hbx' : X'.heap[w2.heap.size]? = some (rowBox v) := hsX'.blk hI3.box (fun e => (hI3.vb _ e).2 rfl)
      have hXX : X.heap.size ≤ X'.heap.size := hsX'.size
      have hfin : RoundO (fun k O A => ∃ v, SpI f w w2.heap.size L k O A v) (fun O A => False) k O W.heap.size W2 .normal (X'.setCell ⟨w2.heap.size, 0, none⟩ v') := by
        have hon : Only w2.heap.size X' (X'.setCell ⟨w2.heap.size, 0, none⟩ v') := (Only.refl _ X').set 0 _
        have hsY : Sep (fun b => b = w2.heap.size) X' (X'.setCell ⟨w2.heap.size, 0, none⟩ v') := Sep.of_only hon rfl
        have hYs : (X'.setCell ⟨w2.heap.size, 0, none⟩ v').heap.size = X'.heap.size := hon.size
        have hvo : ∀ b, v'.ownBlock = some b → (O b ∨ b = X.heap.size + 1) ∧ b ≠ w2.heap.size := fun b hb => by
          rcases hat with hat | hat
          · rw [hat] at hb
            exact ⟨.inl (hI3.vb b hb).1, (hI3.vb b hb).2⟩
          · rw [hat] at hb
            cases hb
            exact ⟨.inr rfl, by omega⟩
        have hvne : ∀ b, b < X.heap.size → v.ownBlock ≠ some b → v'.ownBlock ≠ some b := fun b hb hn e => by
          rcases hat with hat | hat
          · exact hn (hat ▸ e)
          · rw [hat] at e
            cases e
            omega
        refine ⟨fun b => O b ∨ (W.heap.size ≤ b ∧ b < X'.heap.size), ?_, fun b hb => ?_, .inl ⟨rfl, v', ?_⟩⟩
        · refine ((hsX.mono fun b _ hb => .inr (by omega)).trans (hsX'.mono fun b _ hb => .inl (hI3.vb b hb).1)).trans (hsY.mono fun b _ hb => .inl (by rw [hb]; exact hI3.ob))
        · rcases hb with hb | hb
          · exact ⟨by rw [hYs]; have := hOl b hb; omega, .inl hb⟩
          · exact ⟨by rw [hYs]; exact hb.2, .inr hb.1⟩
        · refine ⟨.inl hI3.ob, blk_set hbx' 0 v', ?_, fun b hb => ⟨?_, (hvo b hb).2⟩, fun b hb => ?_, ?_⟩
          · rw [take_at' L k hg]
            refine (hrow'.sep hsY (fun b hb e => ?_) (fun b hb e => (hvo b hb).2 e)).mono (fun b _ hb => ?_)
            · rcases hb with hb | hb
              · exact hb.2.1 e
              · omega
            · rcases hb with hb | hb
              · have h1 := hOl b hb.1
                exact ⟨.inl hb.1, hb.2.1, hvne b (by omega) hb.2.2⟩
              · refine ⟨.inr ⟨by omega, by omega⟩, by omega, hvne b hb.2 (fun e => ?_)⟩
                have := hOl b (hI3.vb b e).1
                omega
          · rcases (hvo b hb).1 with h | h
            · exact .inl h
            · exact .inr ⟨by omega, (hrow'.lt hb).2⟩
          · rcases hb with hb | hb
            · exact hI3.lo b hb
            · have := hI3.lo _ hI3.ob; omega
          · have h1 := hI3.bel
            have h2 : Below w.heap.size X X' := hsX'.below h1.size (fun b hb e => by have := hI3.lo b (hI3.vb b e).1; omega)
            exact (h1.trans h2).trans (hon.below (by have := hI3.lo _ hI3.ob; omega))
      have HFIN : Hid (RoundO (fun k O A => ∃ v, SpI f w w2.heap.size L k O A v) (fun O A => False) k O W.heap.size W2 .normal (X'.setCell ⟨w2.heap.size, 0, none⟩ v')) := hfin
      have HL7 : Hid _ := ld_rows (W := X) (p := ⟨w2.heap.size, 0, none⟩) (blk_cell hI3.box rfl) hvs
      have HL8 : Hid _ := vb_load hfx
      have HRUN : Hid _ := hrun
      have HS7 : Hid _ := st_rows hbx' hvs'
      obtain ⟨x', n', m', rfl⟩ := hvs'
      obtain ⟨x0, n0, m0, rfl⟩ := hvs
      clear hfin hrun hbx' hrow' hsX' hat hI3 hfx hu1 hu2 hsX HI2 HB2X HC1 HC2 hso's hsb's
      gi_wp2_with first
        | ((with_reducible show wpListIn _ _ _ _ _ _ _ _); refine armLI (.tmp 7) 29 rfl rfl rfl HL7.out ?_)
        | ((with_reducible show wpListIn _ _ _ _ _ _ _ _); refine armLI (.tmp 8) 27 rfl rfl rfl HL8.out ?_)
        | ((with_reducible show wpListIn _ _ _ _ _ _ _ _); refine armBI (.tmp 28) 29 rfl rfl rfl (bs_run X f g.mf g.off u1 u2) ?_)
        | (gi_at_builtin; refine armAI (.tmp 27) (.tmp 29) 29 rfl rfl rfl rfl HRUN.out ?_; simp only [Act.put, List.setIfInBounds_toArray, List.set_cons_zero, List.set_cons_succ]; refine armSI (.tmp 7) (.tmp 30) 29 rfl rfl rfl rfl HS7.out ?_; simp only [Act.put])
      exact HFIN.out
  case done =>
    rintro O X ⟨v, hI⟩ hK hne
    have hvs : ∃ x n m, v = .slice x n m := by obtain ⟨a, c, e⟩ := hI.row.slc; exact ⟨_, _, _, e⟩
    have HL7 : Hid _ := ld_rows (W := X) (p := ⟨w2.heap.size, 0, none⟩) (blk_cell hI.box rfl) hvs
    have HI : Hid (SpI f w w2.heap.size L L.length O X v) := hI
    clear hI hvs
    gi_wp2_with first
      | ((with_reducible show wpListIn _ _ _ _ _ _ _ _); refine armLI (.tmp 7) 29 rfl rfl rfl HL7.out ?_)
    have hI := HI.out
    have hon : Only w3.heap.size X (X.putObj w3.heap.size (.deferred none)) := Only.putObj _
    have hrow := hI.row
    rw [List.take_length] at hrow
    refine ⟨by simp, .inl ⟨_, _, rfl, run_takeDeferred hK, ?_⟩⟩
    exact ⟨_, results_tmp2 rfl _ _ _, v, rfl, (hrow.sep (Sep.of_only (O := fun b => b = w3.heap.size) hon rfl) (fun b hb e => hne b hb.1 e) (fun b hb e => hne b (hI.vb b hb).1 e)).mono (fun b _ hb => hI.lo b hb.1), hI.bel.trans (hon.below (by omega))⟩
end

end Go.Proofs.Ytackllcfnlhkpaa
