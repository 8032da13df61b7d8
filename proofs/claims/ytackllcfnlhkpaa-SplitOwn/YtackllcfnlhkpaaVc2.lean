/-
  The document's Split.
-/
import Derived.Test.YtackllcfnlhkpaaVc1
namespace Go.Proofs.Ytackllcfnlhkpaa
open Go Go.RowKit
set_option linter.unusedVariables false
set_option linter.unusedSimpArgs false

section
variable {W : World} {b : Nat} {f : Fd} {mf : Bool} {off : Int} {so sb : Value}
theorem put3 (h : W.heap[b]? = some (BV f mf off so sb)) (x : Bool) : ∃ W', (Instr.storeAt 4 (.pointer (some ⟨b, 3, none⟩)) (.bool x)).run Try.prog W = .ok () W' ∧ W'.heap[b]? = some (BV f x off so sb) ∧ Only b W W' := ⟨_, st_bool h (show 3 < 17 by decide) x, vs3 h x, (Only.refl _ _).set 3 _⟩
theorem put4 (h : W.heap[b]? = some (BV f mf off so sb)) (x : Int) : ∃ W', (Instr.storeAt 3 (.pointer (some ⟨b, 4, none⟩)) (.int .i64 x)).run Try.prog W = .ok () W' ∧ W'.heap[b]? = some (BV f mf x so sb) ∧ Only b W W' := ⟨_, st_int h (show 4 < 17 by decide) x, vs4 h x, (Only.refl _ _).set 4 _⟩
theorem put15 (h : W.heap[b]? = some (BV f mf off so sb)) {v : Value} (hv : ∃ x n m, v = .slice x n m) : ∃ W', (Instr.storeAt 25 (.pointer (some ⟨b, 15, none⟩)) v).run Try.prog W = .ok () W' ∧ W'.heap[b]? = some (BV f mf off v sb) ∧ Only b W W' := ⟨_, st_row h (show 15 < 17 by decide) hv, vs15 h v, (Only.refl _ _).set 15 _⟩
theorem put16 (h : W.heap[b]? = some (BV f mf off so sb)) {v : Value} (hv : ∃ x n m, v = .slice x n m) : ∃ W', (Instr.storeAt 25 (.pointer (some ⟨b, 16, none⟩)) v).run Try.prog W = .ok () W' ∧ W'.heap[b]? = some (BV f mf off so v) ∧ Only b W W' := ⟨_, st_row h (show 16 < 17 by decide) hv, vs16 h v, (Only.refl _ _).set 16 _⟩
end
theorem BS.cut {S : Nat → Prop} {w : World} {v u : Value} {zs : List Int} (h : BS S w v zs) (h0 : 0 < zs.length) (n : Nat) (hn : n ≤ zs.length) (hu : ∀ W, (Instr.sliceAt 25 v none (some (.int .i64 n)) none).run Try.prog W = .ok u W) : BS S w u (zs.take n) := by
  obtain ⟨u', hu', hb⟩ := cut_front h h0 n hn
  have h1 := hu w
  rw [hu' w] at h1
  injection h1 with h1 _
  rw [← h1]
  exact hb
theorem BS.rst {S : Nat → Prop} {w : World} {v u : Value} {zs : List Int} (h : BS S w v zs) (h0 : 0 < zs.length) (n : Nat) (hn : n ≤ zs.length) (hu : ∀ W, (Instr.sliceAt 25 v (some (.int .i64 n)) none none).run Try.prog W = .ok u W) : BS S w u (zs.drop n) := by
  obtain ⟨u', hu', hb⟩ := cut_rest h h0 n hn
  have h1 := hu w
  rw [hu' w] at h1
  injection h1 with h1 _
  rw [← h1]
  exact hb
theorem far_last {L : List Fg} {k : Nat} {g : Fg} (hk : L.drop k = [g]) (h : ∀ (j : Nat) (g' : Fg), j < k → L[j]? = some g' → g'.off ≤ g.off) : farB L = decide (8191 < g.off) := by
  obtain ⟨h1, h2, h3⟩ := drop_at hk
  have hl : L.length = k + 1 := by have := congrArg List.length hk; simp at this; omega
  by_cases hf : 8191 < g.off
  · rw [far_yes h1 hf]; simp [hf]
  · rw [far_no (fun j g' hg' => ?_)]
    · simp [hf]
    · have hj := (List.getElem?_eq_some_iff.1 hg').1
      by_cases e : j = k
      · subst e; rw [h1] at hg'; cases hg'; omega
      · have := h j g' (by omega) hg'; omega

theorem RowV.base {f : Fd} {base base' : Nat} {S : Nat → Prop} {w : World} {v : Value} {L : List Fg} (h : RowV f base S w v L) (hb : base' ≤ base) : RowV f base' S w v L := by
  obtain ⟨ps, h1, h2, h3⟩ := h
  refine ⟨ps, h1, ⟨h2.1, ?_⟩, h3⟩
  rcases h2.2 with h | ⟨g, cap, cur, e, hg, hr⟩
  · exact .inl h
  · exact .inr ⟨g, cap, cur, e, Nat.le_trans hb hg, hr⟩
/-- The memory of the document's loop. -/
structure RsI (f : Fd) (mf : Bool) (off : Int) (so0 sb0 : Value) (w : World) (rb : Nat) (L : List Fg) (k : Nat) (of : Int) (o b : List Int) (so sb l : Value) (A : World) : Prop where
  box : A.heap[rb]? = some (BV f mf of so sb)
  vbx : A.heap[w.heap.size]? = some (BV f mf off so0 sb0)
  row : RowV f (w.heap.size + 1) (fun c => c ≠ rb ∧ l.ownBlock ≠ some c) A l (L.take k)
  rl : ∀ c, l.ownBlock = some c → c ≠ rb
  bo : BS (fun c => c ≠ rb ∧ l.ownBlock ≠ some c) A so o
  bb : BS (fun c => c ≠ rb ∧ l.ownBlock ≠ some c) A sb b
  bel : Below w.heap.size w A
  lo : w.heap.size < rb
section
variable {f : Fd} {mf : Bool} {off : Int} {so0 sb0 : Value} {w : World} {rb : Nat} {L : List Fg} {k : Nat} {of : Int} {o b : List Int} {so sb l : Value} {A B : World}
theorem RsI.on (h : RsI f mf off so0 sb0 w rb L k of o b so sb l A) (hb : Below A.heap.size A B) : RsI f mf off so0 sb0 w rb L k of o b so sb l B :=
  ⟨blk_on h.box hb, blk_on h.vbx hb, h.row.on hb, h.rl, h.bo.on hb, h.bb.on hb, h.bel.trans (hb.mono h.bel.size), h.lo⟩
theorem RsI.put {of' : Int} {o' b' : List Int} {so' sb' : Value} (h : RsI f mf off so0 sb0 w rb L k of o b so sb l A) (ho : Only rb A B) (hb : B.heap[rb]? = some (BV f mf of' so' sb')) (h1 : BS (fun c => c ≠ rb ∧ l.ownBlock ≠ some c) A so' o') (h2 : BS (fun c => c ≠ rb ∧ l.ownBlock ≠ some c) A sb' b') : RsI f mf off so0 sb0 w rb L k of' o' b' so' sb' l B := by
  have hs : Sep (fun c => c = rb) A B := Sep.of_only ho rfl
  have hlo := h.lo
  exact ⟨hb, (ho.other _ (by omega)).trans h.vbx, h.row.sep hs (fun c hc e => hc.1 e) (fun c hc e => h.rl c hc e), h.rl, h1.sep hs (fun c hc e => hc.1 e), h2.sep hs (fun c hc e => hc.1 e), h.bel.trans (ho.below (by omega)), h.lo⟩
theorem RsI.app {g : Fg} {so' sb' : Value} (h : RsI f mf off so0 sb0 w rb L k of o b so sb l A) (hg : L[k]? = some g) (hl : L.length ≤ 100000) (h1 : BS (fun c => c ≠ rb ∧ l.ownBlock ≠ some c) A so' g.opts) (h2 : BS (fun c => c ≠ rb ∧ l.ownBlock ≠ some c) A sb' g.body) (ty : TypeId) :
    ∃ l' B, (Builtin.append_ #[29, 29] ty #[l, .slice (some ⟨A.heap.size, 0, none⟩) 1 1]).run Try.prog (A.alloc (BV f g.mf g.off so' sb')) = .ok l' B ∧ RsI f mf off so0 sb0 w rb L (k + 1) of o b so sb l' B ∧ A.heap.size ≤ B.heap.size := by
  have hrl := (Array.getElem?_eq_some_iff.1 h.box).1
  have hk : (L.take k).length ≤ 100000 := by rw [List.length_take]; omega
  obtain ⟨l', B, hrun, hrow, hsep, hat⟩ := (h.row.mono (S' := fun c => (c ≠ rb ∧ l.ownBlock ≠ some c) ∧ c < A.heap.size) (fun c hc hh => ⟨hh, hc⟩)).push (fun c hc e => hc.1.2 e) (by have := h.lo; omega) hk g (h1.mono fun c hc hh => ⟨hh, hc⟩) (h2.mono fun c hc hh => ⟨hh, hc⟩) ty
  have hne : ∀ c, (c ≠ rb ∧ l.ownBlock ≠ some c) ∧ c < A.heap.size → c ≠ rb ∧ l'.ownBlock ≠ some c := fun c hc => ⟨hc.1.1, fun e => by
    rcases hat with hat | hat
    · exact hc.1.2 (hat ▸ e)
    · rw [hat] at e
      cases e
      have := hc.2
      omega⟩
  have key : ∀ {v : Value} {zs : List Int}, BS (fun c => c ≠ rb ∧ l.ownBlock ≠ some c) A v zs → BS (fun c => c ≠ rb ∧ l'.ownBlock ≠ some c) B v zs := fun hz =>
    ((hz.mono (S' := fun c => (c ≠ rb ∧ l.ownBlock ≠ some c) ∧ c < A.heap.size) (fun c hc hh => ⟨hh, hc⟩)).sep hsep (fun c hc e => hc.1.2 e)).mono (fun c _ hc => hne c hc)
  refine ⟨l', B, hrun, ⟨hsep.blk h.box (fun e => h.rl _ e rfl), hsep.blk h.vbx (fun e => by have := (h.row.lt e).1; omega), ?_, fun c hc => ?_, key h.bo, key h.bb, h.bel.trans (hsep.below h.bel.size (fun c hc e => by have := (h.row.lt e).1; omega)), h.lo⟩, hsep.size⟩
  · rw [take_at' L k hg]
    exact hrow.mono (fun c _ hc => hne c hc)
  · rcases hat with hat | hat
    · exact h.rl c (hat ▸ hc)
    · rw [hat] at hc
      cases hc
      omega
end

section
variable (f : Fd) (mf : Bool) (off : Int) (so sb : Value) (opts body : List Int) (mtu : Int) (w : World)
/-- What the document's Split answers. -/
def RSplitP (E : Int) (L : List Fg) (e : Ending) (w' : World) : Prop := ∃ v, e = .returned (.tuple #[v, .int .i64 E]) ∧ RowV f w.heap.size (fun _ => True) w' v L ∧ Below w.heap.size w w'
set_option maxHeartbeats 1000000 in
set_option maxRecDepth 100000 in
theorem RSplit_early (h1 : RowC w so opts) (h2 : RowC w sb body) (hoff : -9223372036854775808 ≤ off ∧ off ≤ 9223372036854775807) (hmt : -9223372036854775808 ≤ mtu ∧ mtu ≤ 9223372036854775807)
    (he : wrongE off opts.length body.length mtu ≠ 0 ∨ fitB opts.length body.length mtu = true ∨ f.df = true ∨ (mf = true ∧ body.length % 8 ≠ 0)) :
    Calls Try.prog 10 #[VV f mf off so sb, .int .i64 mtu] w fun e w' => RSplitP f w (refE f.df mf off opts body mtu) (if refE f.df mf off opts body mtu = 0 then fragL mf off opts body mtu else []) e w' := by
  have HFT : Hid (∀ W, Below w.heap.size w W → Calls Try.prog 14 #[VV f mf off so sb, .int .i64 mtu] W fun e w' => e = .returned (.tuple #[.bool (decide (wrongE off opts.length body.length mtu = 0) && fitB opts.length body.length mtu), .int .i64 (wrongE off opts.length body.length mtu)]) ∧ Below W.heap.size W w') := fun W hW => RFits_calls f mf off so sb opts body mtu W (h1.on hW) (h2.on hW) hoff hmt
  have hb0 := blk_new w (BV f mf off so sb)
  have HLD : Hid _ := vb_load hb0
  have HB0 : Hid _ := hb0
  have HBB : Hid (Below w.heap.size w (w.alloc (BV f mf off so sb))) := (Below.refl w.heap.size w).alloc (Nat.le_refl _) (BV f mf off so sb)
  obtain ⟨a2, c2, hsb⟩ : ∃ a c, sb = .slice a body.length c := by obtain ⟨_, _, a, cap, e, _⟩ := h2; exact ⟨_, _, e⟩
  have HSB : Hid _ := hsb
  have hl2 := h2.len
  have q8 : (((body.length : Nat) : Int) % 8 != 0) = decide (body.length % 8 ≠ 0) := by
    by_cases h : body.length % 8 = 0
    · have : ((body.length : Nat) : Int) % 8 = 0 := by omega
      simp [h, this]
    · have : ((body.length : Nat) : Int) % 8 ≠ 0 := by omega
      simp [h, this]
  obtain ⟨rE, hrE⟩ : ∃ rE, rE = refE f.df mf off opts body mtu := ⟨_, rfl⟩
  obtain ⟨LL, hLL⟩ : ∃ LL, LL = if refE f.df mf off opts body mtu = 0 then fragL mf off opts body mtu else [] := ⟨_, rfl⟩
  rw [← hLL, ← hrE]
  rw [← hrE] at hLL
  unfold refE at hrE
  have hrE' : rE = if wrongE off opts.length body.length mtu ≠ 0 then wrongE off opts.length body.length mtu else if fitB opts.length body.length mtu then 0 else if f.df then 130 else 1 := by
    rw [hrE]
    rcases he with he | he | he | he
    · simp [he]
    · simp [he]
    · simp [he]
    · simp [he.1, he.2]
  have HE : Hid (rE = if wrongE off opts.length body.length mtu ≠ 0 then wrongE off opts.length body.length mtu else if fitB opts.length body.length mtu then 0 else if f.df then 130 else 1) := hrE'
  have HLL : Hid (rE = 0 → fitB opts.length body.length mtu = true → wrongE off opts.length body.length mtu = 0 → LL = [⟨off, mf, opts, body⟩]) := fun h h' hw => by
    rw [hLL, if_pos h, fragL]
    have hm := (wrong_ok hw).2
    unfold fitB at h'
    exact frs_fits (by simp at h'; omega)
  have HLN : Hid (rE ≠ 0 → LL = []) := fun h => by rw [hLL, if_neg h]
  have HR1 : Hid (RowC w so opts) := h1
  have HR2 : Hid (RowC w sb body) := h2
  clear hb0 h1 h2 hsb hrE hrE' hLL
  generalize wrongE off opts.length body.length mtu = wE at *
  generalize fitB opts.length body.length mtu = fB at *
  generalize hnb : body.length = nb at *
  generalize hx8 : decide (nb % 8 ≠ 0) = x8 at *
  have he' : wE ≠ 0 ∨ fB = true ∨ f.df = true ∨ (mf = true ∧ x8 = true) := by
    rcases he with h | h | h | h
    · exact .inl h
    · exact .inr (.inl h)
    · exact .inr (.inr (.inl h))
    · exact .inr (.inr (.inr ⟨h.1, by rw [← hx8]; simpa using h.2⟩))
  have HDF : Hid (∀ W : World, W.heap[w.heap.size]? = some (BV f mf off so sb) → W.cell? ⟨w.heap.size, 2, none⟩ = some (.bool f.df) ∧ W.cell? ⟨w.heap.size, 3, none⟩ = some (.bool mf) ∧ W.cell? ⟨w.heap.size, 16, none⟩ = some (.slice a2 nb c2)) := fun W hW => ⟨vb2 hW, vb3 hW, by rw [vb16 hW, HSB.out]⟩
  generalize hdf : f.df = df at *
  have HDFE : Hid _ := hdf
  clear hnb hx8 he hdf
  go_enter Try.func10, Try.ntmps10
  go_wp2_with ((with_reducible show wpList _ _ _ _ _ _); refine armL (.tmp 2) 27 rfl rfl rfl HLD.out ?_)
  refine Calls.mono (HFT.out _ HBB.out) ?_
  rintro e w2 ⟨rfl, hb2⟩
  have HB2 : Hid (Below w.heap.size w w2) := HBB.out.trans (hb2.mono HBB.out.size)
  have hk2 := blk_on HB0.out hb2
  obtain ⟨d2, d3, d16⟩ := HDF.out w2 hk2
  have HLD2 : Hid _ := vb_load hk2
  clear hb2 hk2 HB0 HLD HFT HDF
  have HNO : Hid (∀ E, E ≠ 0 → rE = E → RSplitP f w rE LL (.returned (.tuple #[.slice none 0 0, .int .i64 E])) w2) := fun E h h' => by
    subst h'
    rw [HLN.out h]
    exact ⟨_, rfl, RowV.nil _ _ _ _, HB2.out⟩
  by_cases hw : wE = 0
  · subst hw
    have e0 : (decide ((0 : Int) = 0) && fB) = fB := by simp
    rw [e0]
    cases fB
    · cases df
      · obtain ⟨rfl, rfl⟩ : mf = true ∧ x8 = true := by simpa using he'
        have HE1 : Hid (rE = 1) := by show rE = 1; rw [HE.out]; simp
        clear he' HE e0
        go_wp2
        go_ret2
        exact HNO.out 1 (by decide) HE1.out
      · have HE1 : Hid (rE = 130) := by show rE = 130; rw [HE.out]; simp
        clear he' HE e0
        go_wp2
        go_ret2
        exact HNO.out 130 (by decide) HE1.out
    · have HE1 : Hid (rE = 0) := by show rE = 0; rw [HE.out]; simp
      have HL1 : Hid (LL = [⟨off, mf, opts, body⟩]) := HLL.out HE1.out rfl rfl
      clear he' HE e0
      go_wp2_with first
        | ((with_reducible show wpList _ _ _ ({ dst := _, op := Op.load 27 (Operand.tmp 2), type := _, pos := _, after := _, guard := _ } :: _) _ _); refine armL (.tmp 2) 27 rfl rfl rfl HLD2.out ?_)
        | ((with_reducible show wpList _ _ _ ({ dst := _, op := Op.buildSlice 29 1 #[(0, Operand.tmp 22)], type := _, pos := _, after := _, guard := _ } :: _) _ _); refine armB (.tmp 22) 29 rfl rfl rfl (bs_run w2 f mf off so sb) ?_)
      go_ret2
      refine ⟨_, by rw [HE1.out]; rfl, ?_, HB2.out.alloc HB2.out.size _⟩
      rw [HL1.out]
      have hBa := (Below.refl w2.heap.size w2).alloc (Nat.le_refl _) (BV f mf off so sb)
      refine ⟨[(so, sb)], rfl, ⟨rfl, .inr ⟨w2.heap.size, 1, (vC f mf off so sb).toArray, rfl, HB2.out.size, blk_new w2 _, Nat.le_refl _, by unfold maxLen; decide, rfl, rfl⟩⟩, fun j g p hg hp => ?_⟩
      match j, hg, hp with
      | 0, hg, hp =>
        simp at hg hp
        subst hg hp
        have hB3 := HB2.out.trans (hBa.mono HB2.out.size)
        exact ⟨((BS.of_row HR1.out).on hB3).mono (fun _ _ _ => trivial), ((BS.of_row HR2.out).on hB3).mono (fun _ _ _ => trivial)⟩
      | j + 1, hg, hp => simp at hg
  · have HE1 : Hid (rE = wE) := by show rE = wE; rw [HE.out]; simp [hw]
    have HW : Hid (wE ≠ 0) := hw
    have e0 : (decide (wE = 0) && fB) = false := by simp [hw]
    rw [e0]
    have q1 : (wE != 0) = true := by simpa using hw
    clear he' HE e0 hw
    go_wp2
    go_ret2
    exact HNO.out wE HW.out HE1.out
end

end Go.Proofs.Ytackllcfnlhkpaa
