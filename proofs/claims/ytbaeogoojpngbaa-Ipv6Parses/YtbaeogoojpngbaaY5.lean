/-
  Write of package ipv6.
-/
import Derived.Test.YtbaeogoojpngbaaY4
namespace Go.Proofs.Ytbaeogoojpngbaa
open Go Go.RowKit
set_option linter.unusedVariables false
set_option linter.unusedSimpArgs false

theorem ex_addE {o : Oper} {a : Act} {W : World} (p q : Operand) {t : TypeId} (hop : o.op = Op.binOp .add 3 p q t) {x y z : Int} (hp : a.eval p = .int .i64 x) (hq : a.eval q = .int .i64 y) (hz : x + y = z) (h : -9223372036854775808 ≤ z ∧ z ≤ 9223372036854775807) : (execOp a.eval o).run Try.prog W = .ok (.value (.int .i64 z)) W := by
  have e : IntKind.i64.wrap (x + y) = z := by rw [hz]; exact wrapi64 _ h
  generalize a.eval = ev at *
  simp [execOp, hop, hp, hq, go_sem, e]
theorem ex_subE {o : Oper} {a : Act} {W : World} (p q : Operand) {t : TypeId} (hop : o.op = Op.binOp .sub 3 p q t) {x y z : Int} (hp : a.eval p = .int .i64 x) (hq : a.eval q = .int .i64 y) (hz : x - y = z) (h : -9223372036854775808 ≤ z ∧ z ≤ 9223372036854775807) : (execOp a.eval o).run Try.prog W = .ok (.value (.int .i64 z)) W := by
  have e : IntKind.i64.wrap (x - y) = z := by rw [hz]; exact wrapi64 _ h
  generalize a.eval = ev at *
  simp [execOp, hop, hp, hq, go_sem, e]
theorem wrapu8 (x : Int) (h : 0 ≤ x ∧ x < 256) : IntKind.u8.wrap x = x := by
  have e : x % 256 = x := by omega
  simp [IntKind.wrap, IntKind.signed, IntKind.bits, e]
theorem ex_cv8 {o : Oper} {a : Act} {W : World} (p : Operand) (hop : o.op = Op.convert 3 5 p) {x : Int} (hp : a.eval p = .int .i64 x) (h : 0 ≤ x ∧ x < 256) : (execOp a.eval o).run Try.prog W = .ok (.value (.int .u8 x)) W := by
  have e := wrapu8 x h
  generalize a.eval = ev at *
  simp [execOp, hop, hp, go_sem, e]
theorem ex_makeA {P : Program} {o : Oper} {a : Act} {w w2 : World} (t : TypeId) (l c : Operand) (hop : o.op = Op.makeSlice t l c) {vl vc v : Value} (hl : a.eval l = vl) (hc : a.eval c = vc) (hrun : (Instr.makeSlice t vl vc).run P w = .ok v w2) : (execOp a.eval o).run P w = .ok (.value v) w2 := by
  simp [execOp, hop, hl, hc, hrun, Result.andThen]
theorem OB.made (w X : World) (c : Nat) (hc : c ≤ 1000000) (hb : Below w.heap.size w X) : ∃ X', (Instr.makeSlice 26 (.int .i64 0) (.int .i64 (c : Int))).run Try.prog X = .ok (.slice (some ⟨X.heap.size, 0, none⟩) 0 c) X' ∧ OB w.heap.size w X' (.slice (some ⟨X.heap.size, 0, none⟩) 0 c) [] ∧ Below X.heap.size X X' := by
  obtain ⟨i, hi, hz0, hs, hby⟩ := info_parts info_u8
  obtain ⟨X', hr, ho, hg⟩ := run_make_own (P := Try.prog) X w.heap.size 26 5 i (.int .u8 0) 1 Try.underlying26 hi hz0 hs .i64 .i64 c (by rw [hby]; omega) (by unfold maxLen; omega) hb.size
  have hB : Below X.heap.size X X' := (Below.refl _ X).grown hg (Nat.le_refl _) (fun k hk => by cases hk)
  exact ⟨X', hr, ⟨ho, hb.trans (hB.mono hb.size)⟩, hB⟩
/-- A head's box. -/
def hBox (K : Int) (s : Value) : Obj := .cells [.int .u8 K, s].toArray 52
theorem HS.nthB {S : Nat → Prop} {w : World} {a : Option Addr} {cap : Nat} {hs : Opts} (h : HS S w (.slice a hs.length cap) hs) {k : Nat} (hk : k < hs.length) :
    ∃ b off a1 c1, a = some ⟨b, off, none⟩ ∧ b < w.heap.size ∧ BS S w (.slice a1 (oD hs k).length c1) (oD hs k) ∧ ∀ W, Below w.heap.size w W → (Instr.loadAt 52 (.pointer (some ⟨b, off + k * 2, none⟩))).run Try.prog W = .ok (.agg [.int .u8 (oK hs k), .slice a1 (oD hs k).length c1].toArray) W := by
  obtain ⟨h1, h2, a', cap', e, hz⟩ := h
  injection e with e _ _
  subst e
  rcases hz with hz | ⟨b, off, rfl, hlt, hS, hc⟩
  · omega
  obtain ⟨c0, s, c1, hb⟩ := hc k hk
  obtain ⟨_, _, a1, k1, e1, _⟩ := hb.row
  subst e1
  refine ⟨b, off, a1, k1, rfl, hlt, hb, fun W hW => agg_load Try.isAgg52 Try.sizeOf52 rfl ?_⟩
  intro j v hj
  match j, hj with
  | 0, hj => cases hj; exact (hW.cell hlt).trans c0
  | 1, hj => cases hj; exact (hW.cell (p := ⟨b, off + k * 2 + 1, none⟩) hlt).trans c1
  | j + 2, hj => simp at hj
theorem h_new (W : World) (K : Int) {s : Value} (h1 : s.oneCell' = true) : ∃ W', (Instr.storeAt 52 (.pointer (some ⟨W.heap.size, 0, none⟩)) (.agg [.int .u8 K, s].toArray)).run Try.prog (W.alloc (.cells #[.int .u8 0, .slice none 0 0] 52)) = .ok () W' ∧ W'.heap[W.heap.size]? = some (hBox K s) ∧ Below W.heap.size W W' := by
  have h1' : ∀ v ∈ [Value.int .u8 K, s], v.oneCell' = true := by
    intro v hv
    rcases List.mem_cons.1 hv with rfl | hv
    · rfl
    · rcases List.mem_cons.1 hv with rfl | hv
      · exact h1
      · cases hv
  obtain ⟨W', hr, hb, hB⟩ := box_new Try.sizeOf52 W [.int .u8 0, .slice none 0 0] rfl [.int .u8 K, s] rfl h1'
  exact ⟨W', hr, hb, hB⟩
section
variable {w : World} {f : F6} {g : G6} {vh vb : Value} {hs : Opts} {body A : List Int}
set_option maxHeartbeats 4000000 in
set_option maxRecDepth 100000 in
theorem Write_no (h : D6 (fun b => b < w.heap.size) w f vh vb hs body) (hE : ckE f hs g body.length ≠ 0) : Calls Try.prog 8 #[VV f g vh vb] w fun e w' => e = .returned (.tuple #[.slice none 0 0, .int .i64 (ckE f hs g body.length)]) ∧ Below w.heap.size w w' := by
  obtain ⟨w0, hw0⟩ : ∃ w0, w0 = w.alloc (BV f g vh vb) := ⟨_, rfl⟩
  have hb0 : w0.heap[w.heap.size]? = some (BV f g vh vb) := by rw [hw0]; exact blk_new w (BV f g vh vb)
  have hB0 : Below w.heap.size w w0 := by rw [hw0]; exact (Below.refl w.heap.size w).alloc (Nat.le_refl _) (BV f g vh vb)
  have HL0 : Hid _ := vb_load hb0
  have HB0 : Hid (Below w.heap.size w w0) := hB0
  have hSZ := Size_any g (h.on hB0)
  rw [if_neg hE, if_neg hE] at hSZ
  have HSZ : Hid _ := hSZ
  have q : (ckE f hs g body.length != 0) = true := by simpa using hE
  have hW := hw0.symm
  clear hb0 hB0 hw0 h hSZ hE
  generalize ckE f hs g body.length = E at *
  go_enter Try.func8, Try.ntmps8
  go_wp2_with first
    | ((with_reducible show wpList _ _ _ ({ dst := _, op := Op.load 28 (Operand.tmp 1), type := _, pos := _, after := _, guard := _ } :: _) _ _); refine armL (.tmp 1) 28 rfl rfl rfl HL0.out ?_)
  refine Calls.mono HSZ.out ?_
  rintro e w1 ⟨rfl, hb1⟩
  have HB1 : Hid (Below w.heap.size w w1) := HB0.out.trans (hb1.mono HB0.out.size)
  clear hb1 HSZ HL0 HB0
  go_wp2
  go_ret2
  exact ⟨rfl, HB1.out⟩
set_option maxHeartbeats 4000000 in
set_option maxRecDepth 100000 in
theorem Write_yes (h : D6 (fun b => b < w.heap.size) w f vh vb hs body) (hE : ckE f hs g body.length = 0) (he : f.ad = u8L A) (hf : Fit A) (hcl : 0 ≤ f.cls ∧ f.cls < 256) (hhp : 0 ≤ f.hop ∧ f.hop < 256) (hpr : 0 ≤ f.proto ∧ f.proto < 256) (hid : 0 ≤ g.id ∧ g.id ≤ 4294967295) :
    Calls Try.prog 8 #[VV f g vh vb] w fun e w' => ∃ v', e = .returned (.tuple #[v', .int .i64 0]) ∧ OB w.heap.size w w' v' (wrL f A hs g body) := by
  obtain ⟨w0, hw0⟩ : ∃ w0, w0 = w.alloc (BV f g vh vb) := ⟨_, rfl⟩
  have hb0 : w0.heap[w.heap.size]? = some (BV f g vh vb) := by rw [hw0]; exact blk_new w (BV f g vh vb)
  have hB0 : Below w.heap.size w w0 := by rw [hw0]; exact (Below.refl w.heap.size w).alloc (Nat.le_refl _) (BV f g vh vb)
  have HL0 : Hid _ := vb_load hb0
  have HV0 : Hid (w0.heap[w.heap.size]? = some (BV f g vh vb)) := hb0
  have HB0 : Hid (Below w.heap.size w w0) := hB0
  have hSZ := Size_any g (h.on hB0)
  rw [hE, if_pos rfl, if_pos rfl] at hSZ
  obtain ⟨hok, hlen⟩ := ck_zero hE
  have hal := ahead6_le g.fr hok.2.1
  obtain ⟨al, hale⟩ : ∃ al : Nat, ahead6 hs g.fr = al := ⟨_, rfl⟩
  obtain ⟨nb, hnb⟩ : ∃ nb : Nat, body.length = nb := ⟨_, rfl⟩
  obtain ⟨tot, htot⟩ : ∃ tot : Nat, al + nb = tot := ⟨_, rfl⟩
  obtain ⟨n, hn⟩ : ∃ n : Nat, al - 40 + nb = n := ⟨_, rfl⟩
  rw [hale, hnb, show ((al : Nat) : Int) + ((nb : Nat) : Int) = ((tot : Nat) : Int) by omega] at hSZ
  rw [hale] at hal hlen
  rw [hnb] at hlen
  have HSZ : Hid _ := hSZ
  have hnx : ∀ i, 0 ≤ nx6 hs g.fr f.proto i ∧ nx6 hs g.fr f.proto i < 256 := fun i => by
    unfold nx6
    split
    · exact h.hd.fit i
    · split
      · omega
      · exact hpr
  have HAF : Hid (∀ X v, OB w.heap.size w X v [] → Calls Try.prog 21 #[v, VV f g vh vb, .int .i64 n] X fun e w' => ∃ v', e = .returned v' ∧ OB w.heap.size w w' v' (frontL f A (nx6 hs g.fr f.proto 0) n) ∧ w.heap.size ≤ w'.heap.size ∧ Keep X w') := fun X v hX => addFront_calls hX hX.bel.size h.hd.one h.bd.one h.hd.opts he hf hcl ⟨h.lab.1, hok.1⟩ hhp (hnx 0) n (by omega)
  have HNX : Hid (∀ X, Below w.heap.size w X → ∀ i : Nat, Calls Try.prog 22 #[VV f g vh vb, .int .i64 i] X fun e w' => e = .returned (.int .u8 (nx6 hs g.fr f.proto i)) ∧ Below X.heap.size X w') := fun X hX i => next_calls X (vC_l6 (f := f) (g := g) h.hd.one h.bd.one) hs (OptsAt.up h.hd.opts hX hX.size) i
  have HNXB : Hid (∀ i, 0 ≤ nx6 hs g.fr f.proto i ∧ nx6 hs g.fr f.proto i < 256) := hnx
  have HHK : Hid (∀ i, i < hs.length → ((2 + (oD hs i).length) / 8 - 1 : Nat) < 256 ∧ 8 ≤ 2 + (oD hs i).length ∧ (oD hs i).length ≤ 2046) := fun i hi => by
    have := hok.2.1.2 i hi
    unfold headOk at this
    simp at this
    omega
  have HOF : Hid (g.fr = true → 0 ≤ g.off ∧ g.off ≤ 8191) := fun hfr => by
    have h3 := hok.2.2
    unfold endB at h3
    rw [if_pos hfr] at h3
    simpa using h3
  have HFH : Hid (∀ X v zs, g.fr = true → OB w.heap.size w X v zs → zs.length + 8 ≤ 1000000 → Calls Try.prog 23 #[v, VV f g vh vb] X fun e w' => ∃ v', e = .returned v' ∧ OB w.heap.size w w' v' (zs ++ fragL g.id g.off g.more f.proto) ∧ w.heap.size ≤ w'.heap.size ∧ Keep X w') := fun X v zs hfr hX hl => addFragHead_calls hX hX.bel.size (vC_l6 (f := f) (g := g) h.hd.one h.bd.one) (HOF.out hfr) hid hpr hl
  have hhl : hs.length ≤ 8 := hok.2.1.1
  have HTOT : Hid (∀ k, k ≤ hs.length → oTot hs k ≤ 100000) := fun k hk => headsB_tot hok.2.1 k hk
  obtain ⟨ah, ch, hvh⟩ : ∃ a c, vh = .slice a hs.length c := by obtain ⟨_, _, a, cap, e, _⟩ := h.hd; exact ⟨_, _, e⟩
  obtain ⟨ab, cb, hvb⟩ : ∃ a c, vb = .slice a nb c := by obtain ⟨_, _, a, cap, e, _⟩ := h.bd.row; rw [hnb] at e; exact ⟨_, _, e⟩
  subst hvh hvb
  have HD : Hid (D6 (fun b => b < w.heap.size) w f (.slice ah hs.length ch) (.slice ab nb cb) hs body) := h
  have HWL : Hid (frontL f A (nx6 hs g.fr f.proto 0) n ++ hdsL hs g.fr f.proto hs.length ++ (if g.fr then fragL g.id g.off g.more f.proto else []) ++ body = wrL f A hs g body) := by
    show _ = wrL f A hs g body
    unfold wrL
    rw [hale, hnb, hn]
  have HAL : Hid (A.length = 32) := by show A.length = 32; have := f.len; rw [he] at this; simpa [u8L] using this
  have HNB : Hid _ := hnb
  have HT40 : Hid ((tot : Int) - 40 = (n : Int)) := by show _ = _; omega
  have w23 : IntKind.i64.wrap ((tot : Int) - 40) = (n : Int) := by rw [show (tot : Int) - 40 = (n : Int) by omega]; exact wrapi64 _ (by omega)
  have hW := hw0.symm
  clear hb0 hB0 hw0 h hSZ hE hok hnx he hf hcl hhp hpr hid hale hnb hn
  go_enter Try.func8, Try.ntmps8
  go_wp2_with first
    | ((with_reducible show wpList _ _ _ ({ dst := _, op := Op.load 28 (Operand.tmp 1), type := _, pos := _, after := _, guard := _ } :: _) _ _); refine armL (.tmp 1) 28 rfl rfl rfl HL0.out ?_)
  refine Calls.mono HSZ.out ?_
  rintro e w1 ⟨rfl, hb1⟩
  have HB1 : Hid (Below w.heap.size w w1) := HB0.out.trans (hb1.mono HB0.out.size)
  have HV1 : Hid (w1.heap[w.heap.size]? = some (BV f g (.slice ah hs.length ch) (.slice ab nb cb))) := blk_on HV0.out hb1
  clear hb1 HSZ HL0 HB0 HV0
  go_wp2_with fail
  refine region_mid (fun a0 a' w' => ∃ v4 x20, a' = (((((((a0.put (some 19) (.int .i64 (tot : Nat))).put (some 21) (VV f g (.slice ah hs.length ch) (.slice ab nb cb))).put (some 22) (.int .i64 (tot : Nat))).put (some 23) (.int .i64 (n : Nat))).put (some 20) (.slice (some ⟨x20, 0, none⟩) 0 tot)).put (some 24) (v4)).put (some 7) (v4)) ∧ OB w.heap.size w w' v4 (frontL f A (nx6 hs g.fr f.proto 0) n) ∧ w'.heap[w.heap.size]? = some (BV f g (.slice ah hs.length ch) (.slice ab nb cb))) ?_ ?_
  · skip
    refine wp_region_held (S := fun X => X.heap[w.heap.size]? = some (BV f g (.slice ah hs.length ch) (.slice ab nb cb))) (by kernel_rfl) ?_
    show wpAnyH _ _ _ _ _ 7 (Array.replicate 7 false) _ _
    have hs0 : w1.drew.heap[w.heap.size]? = some (BV f g (.slice ah hs.length ch) (.slice ab nb cb)) := HV1.out
    refine take_one (i := 0) (d := some 19) (v := .int .i64 (tot : Nat)) rfl rfl rfl (by kernel_rfl) (by kernel_rfl) (by kernel_rfl) (fun _ _ _ _ _ h => h.elim) (fun W hS => by kernel_rfl) hs0 ?_
    simp only [Act.put, List.setIfInBounds_toArray, List.set_cons_zero, List.set_cons_succ]
    refine take_one (i := 2) (d := some 21) (v := VV f g (.slice ah hs.length ch) (.slice ab nb cb)) rfl rfl rfl (by kernel_rfl) (by kernel_rfl) (by kernel_rfl) (fun _ _ _ _ _ h => h.elim) (fun W hS => ex_loadA (.tmp 1) 28 rfl rfl (vb_load hS)) hs0 ?_
    simp only [Act.put, List.setIfInBounds_toArray, List.set_cons_zero, List.set_cons_succ]
    refine take_one (i := 3) (d := some 22) (v := .int .i64 (tot : Nat)) rfl rfl rfl (by kernel_rfl) (by kernel_rfl) (by kernel_rfl) (fun _ _ _ _ _ h => h.elim) (fun W hS => by kernel_rfl) hs0 ?_
    simp only [Act.put, List.setIfInBounds_toArray, List.set_cons_zero, List.set_cons_succ]
    have e40 := HT40.out
    refine take_one (i := 4) (d := some 23) (v := .int .i64 (n : Nat)) rfl rfl rfl (by kernel_rfl) (by kernel_rfl) (by kernel_rfl) (fun _ _ _ _ _ h => h.elim) (fun W hS => ex_subE (.tmp 22) (.const (.int .i64 40)) rfl rfl rfl e40 (by omega)) hs0 ?_
    simp only [Act.put, List.setIfInBounds_toArray, List.set_cons_zero, List.set_cons_succ]
    obtain ⟨X1, hr1, ho1, hbX⟩ := OB.made w w1.drew tot (by omega) (HB1.out.trans (((Below.refl _ w1).drew).mono HB1.out.size))
    refine all_one (i := 1) (by kernel_rfl) rfl rfl ?_
    refine wp_valA (d := some 20) rfl (ex_makeA 26 (.const (.int .i64 0)) (.tmp 19) rfl rfl rfl hr1) ⟨blk_on hs0 hbX, ?_⟩
    simp only [Act.put, List.setIfInBounds_toArray, List.set_cons_zero, List.set_cons_succ]
    refine all_one (i := 5) (by kernel_rfl) rfl rfl ?_
    refine wp_call (d := some 24) (R := fun v X => OB w.heap.size w X v (frontL f A (nx6 hs g.fr f.proto 0) n) ∧ w.heap.size ≤ X.heap.size ∧ Keep X1 X) 21 _ rfl (by kernel_rfl) (HAF.out X1 _ ho1) ?_
    rintro v4 w4 ⟨ho4, hs4, hk4⟩
    have hv4 := hk4 _ _ _ _ (by decide) (blk_on hs0 hbX)
    refine ⟨hv4, ?_⟩
    simp only [Act.put, List.setIfInBounds_toArray, List.set_cons_zero, List.set_cons_succ]
    refine take_one (i := 6) (d := some 7) (v := v4) rfl rfl rfl (by kernel_rfl) (by kernel_rfl) (by kernel_rfl) (fun _ _ _ _ _ h => h.elim) (fun W hS => by kernel_rfl) hv4 ?_
    simp only [Act.put, List.setIfInBounds_toArray, List.set_cons_zero, List.set_cons_succ]
    refine wpAnyH_done (by kernel_rfl) ?_ _
    exact ⟨v4, w1.drew.heap.size, rfl, ho4, hv4⟩
  · rintro a' w4 ⟨v4, x20, rfl, ho4, hv4⟩
    simp only [Act.put, List.setIfInBounds_toArray, List.set_cons_zero, List.set_cons_succ]
    have HO4 : Hid (OB w.heap.size w w4 v4 (frontL f A (nx6 hs g.fr f.proto 0) n)) := ho4
    have HV4 : Hid (w4.heap[w.heap.size]? = some (BV f g (.slice ah hs.length ch) (.slice ab nb cb))) := hv4
    have k35 := vb35 hv4
    clear ho4 hv4 HAF w23 HV1 HB1
    obtain ⟨N, hN⟩ : ∃ N, hs.length = N := ⟨_, rfl⟩
    have HN : Hid (hs.length = N) := hN
    obtain ⟨VH, hVH⟩ : ∃ VH : Value, VH = .slice ah hs.length ch := ⟨_, rfl⟩
    rw [hN] at k35 hhl
    have HVH : Hid _ := hVH
    clear hN hVH
    obtain ⟨F0, hF0⟩ : ∃ F0, frontL f A (nx6 hs g.fr f.proto 0) n = F0 := ⟨_, rfl⟩
    rw [hF0] at HO4 HWL
    have hFl : F0.length = 40 := by rw [← hF0]; unfold frontL; simp [HAL.out]
    clear hF0
    go_wp2_with fail
    go_loopw [7, 28] (fun bv i wr => ∃ k : Nat, k ≤ N ∧ i = .int .i64 k ∧ Hid (OB w.heap.size w wr bv (F0 ++ hdsL hs g.fr f.proto k)) ∧ Hid (wr.heap[w.heap.size]? = some (BV f g (.slice ah hs.length ch) (.slice ab nb cb)))) (fun _ i _ => N - (intOf i).toNat)
    case atStart => exact ⟨0, Nat.zero_le _, rfl, by show OB _ _ _ _ _; simp only [hdsL, List.append_nil]; exact HO4.out, HV4.out⟩
    case round =>
      obtain ⟨k, hk, rfl, hob, hvr⟩ := hrel
      have hBr := hob.out.bel
      have hzl : (F0 ++ hdsL hs g.fr f.proto k).length ≤ 100100 := by rw [List.length_append, hdsL_len, hFl]; have := HTOT.out k (by rw [HN.out]; exact hk); omega
      by_cases hlt : k < N
      · have hki : (k : Int) < (N : Int) := by omega
        obtain ⟨bh, oh, a1, c1, ea, hbh, hbs, hld⟩ := HD.out.hd.nthB (k := k) (by rw [HN.out]; exact hlt)
        subst ea
        have HLH : Hid _ := hld _ hBr
        obtain ⟨w5, hst5, hbx5, hB5⟩ := h_new wr (oK hs k) (s := .slice a1 (oD hs k).length c1) rfl
        have HS5 : Hid _ := hst5
        have HX5 : Hid (w5.heap[wr.heap.size]? = some (hBox (oK hs k) (.slice a1 (oD hs k).length c1))) := hbx5
        have hHK := HHK.out k (by rw [HN.out]; exact hlt)
        have hs5 : w.heap.size ≤ wr.heap.size := hBr.size
        have HO5 : Hid (OB w.heap.size w w5 u7 (F0 ++ hdsL hs g.fr f.proto k)) := hob.out.below hs5 hB5
        have HV5 : Hid (w5.heap[w.heap.size]? = some (BV f g (.slice (some ⟨bh, oh, none⟩) hs.length ch) (.slice ab nb cb))) := blk_on hvr.out hB5
        have HBS : Hid (BS (fun b => b < w.heap.size) w (.slice a1 (oD hs k).length c1) (oD hs k)) := hbs
        have hs5' : w.heap.size ≤ w5.heap.size := Nat.le_trans hs5 hB5.size
        have hne : w.heap.size < wr.heap.size := (Array.getElem?_eq_some_iff.1 hvr.out).1
        have HZ : Hid _ := hzl
        have HHD : Hid (hdsL hs g.fr f.proto (k + 1) = hdsL hs g.fr f.proto k ++ ([nx6 hs g.fr f.proto (k + 1), (((2 + (oD hs k).length) / 8 - 1 : Nat) : Int)] ++ oD hs k)) := rfl
        obtain ⟨D, hD⟩ : ∃ D, (oD hs k).length = D := ⟨_, rfl⟩
        have HDE : Hid ((oD hs k).length = D) := hD
        rw [hD] at HLH HS5 HX5 hHK HBS HHD
        obtain ⟨hn9, hn8, hn6⟩ := hHK
        obtain ⟨c9, hc9⟩ : ∃ c9 : Nat, (2 + D) / 8 - 1 = c9 := ⟨_, rfl⟩
        rw [hc9] at HHD hn9
        have HC9 : Hid _ := hc9
        generalize oK hs k = K at *
        clear hst5 hbx5 hB5 hob hvr hbs hld hBr hzl hD hc9
        go_wp2_with first
          | ((with_reducible show wpList _ _ _ ({ dst := _, op := Op.load 52 (Operand.tmp 31), type := _, pos := _, after := _, guard := _ } :: _) _ _); refine armL (.tmp 31) 52 rfl rfl rfl HLH.out ?_)
          | ((with_reducible show wpList _ _ _ ({ dst := _, op := Op.store 52 (Operand.tmp 9) (Operand.tmp 32), type := _, pos := _, after := _, guard := _ } :: _) _ _); refine armS (.tmp 9) (Operand.tmp 32) 52 rfl rfl rfl rfl HS5.out ?_; simp only [Act.put])
        refine region_mid (fun a0 a' w' => ∃ v6 x45, a' = (((((((((((((((a0.put (some 33) (u7)).put (some 34) (VV f g (.slice (some ⟨bh, oh, none⟩) hs.length ch) (.slice ab nb cb))).put (some 35) (.int .i64 (k : Nat))).put (some 36) (.int .i64 ((k + 1 : Nat) : Int))).put (some 38) (.pointer (some ⟨wr.heap.size, 1, none⟩))).put (some 39) (.slice a1 D c1)).put (some 40) (.int .i64 (D : Nat))).put (some 41) (.int .i64 ((2 + D : Nat) : Int))).put (some 42) (.int .i64 (((2 + D) / 8 : Nat) : Int))).put (some 43) (.int .i64 (c9 : Nat))).put (some 44) (.int .u8 (c9 : Nat))).put (some 37) (.int .u8 (nx6 hs g.fr f.proto (k + 1)))).put (some 45) (.slice (some ⟨x45, 0, none⟩) 2 2)).put (some 46) (v6)).put (some 7) (v6)) ∧ OB w.heap.size w w' v6 ((F0 ++ hdsL hs g.fr f.proto k) ++ [nx6 hs g.fr f.proto (k + 1), (c9 : Int)]) ∧ w'.heap[w.heap.size]? = some (BV f g (.slice (some ⟨bh, oh, none⟩) hs.length ch) (.slice ab nb cb)) ∧ w'.heap[wr.heap.size]? = some (hBox K (.slice a1 D c1))) ?_ ?_
        · skip
          refine wp_region_held (S := fun X => X.heap[w.heap.size]? = some (BV f g (.slice (some ⟨bh, oh, none⟩) hs.length ch) (.slice ab nb cb)) ∧ X.heap[wr.heap.size]? = some (hBox K (.slice a1 D c1))) (by kernel_rfl) ?_
          show wpAnyH _ _ _ _ _ 15 (Array.replicate 15 false) _ _
          have hs0 : w5.drew.heap[w.heap.size]? = some (BV f g (.slice (some ⟨bh, oh, none⟩) hs.length ch) (.slice ab nb cb)) ∧ w5.drew.heap[wr.heap.size]? = some (hBox K (.slice a1 D c1)) := ⟨HV5.out, HX5.out⟩
          refine take_one (i := 0) (d := some 33) (v := u7) rfl rfl rfl (by kernel_rfl) (by kernel_rfl) (by kernel_rfl) (fun _ _ _ _ _ h => h.elim) (fun W hS => by kernel_rfl) hs0 ?_
          simp only [Act.put, List.setIfInBounds_toArray, List.set_cons_zero, List.set_cons_succ]
          refine take_one (i := 1) (d := some 34) (v := VV f g (.slice (some ⟨bh, oh, none⟩) hs.length ch) (.slice ab nb cb)) rfl rfl rfl (by kernel_rfl) (by kernel_rfl) (by kernel_rfl) (fun _ _ _ _ _ h => h.elim) (fun W hS => ex_loadA (.tmp 1) 28 rfl rfl (vb_load hS.1)) hs0 ?_
          simp only [Act.put, List.setIfInBounds_toArray, List.set_cons_zero, List.set_cons_succ]
          refine take_one (i := 2) (d := some 35) (v := .int .i64 (k : Nat)) rfl rfl rfl (by kernel_rfl) (by kernel_rfl) (by kernel_rfl) (fun _ _ _ _ _ h => h.elim) (fun W hS => by kernel_rfl) hs0 ?_
          simp only [Act.put, List.setIfInBounds_toArray, List.set_cons_zero, List.set_cons_succ]
          refine take_one (i := 3) (d := some 36) (v := .int .i64 ((k + 1 : Nat) : Int)) rfl rfl rfl (by kernel_rfl) (by kernel_rfl) (by kernel_rfl) (fun _ _ _ _ _ h => h.elim) (fun W hS => ex_addE (.tmp 35) (.const (.int .i64 1)) rfl rfl rfl (by omega) (by omega)) hs0 ?_
          simp only [Act.put, List.setIfInBounds_toArray, List.set_cons_zero, List.set_cons_succ]
          refine take_one (i := 5) (d := some 38) (v := .pointer (some ⟨wr.heap.size, 1, none⟩)) rfl rfl rfl (by kernel_rfl) (by kernel_rfl) (by kernel_rfl) (fun _ _ _ _ _ h => h.elim) (fun W hS => by kernel_rfl) hs0 ?_
          simp only [Act.put, List.setIfInBounds_toArray, List.set_cons_zero, List.set_cons_succ]
          refine take_one (i := 6) (d := some 39) (v := .slice a1 D c1) rfl rfl rfl (by kernel_rfl) (by kernel_rfl) (by kernel_rfl) (fun _ _ _ _ _ h => h.elim) (fun W hS => ex_loadA (.tmp 38) 26 rfl rfl (ld_row (blk_cell (j := 1) hS.2 rfl) ⟨_, _, _, rfl⟩)) hs0 ?_
          simp only [Act.put, List.setIfInBounds_toArray, List.set_cons_zero, List.set_cons_succ]
          refine take_one (i := 7) (d := some 40) (v := .int .i64 (D : Nat)) rfl rfl rfl (by kernel_rfl) (by kernel_rfl) (by kernel_rfl) (fun _ _ _ _ _ h => h.elim) (fun W hS => by kernel_rfl) hs0 ?_
          simp only [Act.put, List.setIfInBounds_toArray, List.set_cons_zero, List.set_cons_succ]
          refine take_one (i := 8) (d := some 41) (v := .int .i64 ((2 + D : Nat) : Int)) rfl rfl rfl (by kernel_rfl) (by kernel_rfl) (by kernel_rfl) (fun _ _ _ _ _ h => h.elim) (fun W hS => ex_addE (.const (.int .i64 2)) (.tmp 40) rfl rfl rfl (by omega) (by omega)) hs0 ?_
          simp only [Act.put, List.setIfInBounds_toArray, List.set_cons_zero, List.set_cons_succ]
          refine take_one (i := 9) (d := some 42) (v := .int .i64 (((2 + D) / 8 : Nat) : Int)) rfl rfl rfl (by kernel_rfl) (by kernel_rfl) (by kernel_rfl) (fun _ _ _ _ _ h => h.elim) (fun W hS => ex_div8 (.tmp 41) rfl rfl (by omega)) hs0 ?_
          simp only [Act.put, List.setIfInBounds_toArray, List.set_cons_zero, List.set_cons_succ]
          have e43 : (((2 + D) / 8 : Nat) : Int) - 1 = (c9 : Int) := by have := HC9.out; omega
          refine take_one (i := 10) (d := some 43) (v := .int .i64 (c9 : Nat)) rfl rfl rfl (by kernel_rfl) (by kernel_rfl) (by kernel_rfl) (fun _ _ _ _ _ h => h.elim) (fun W hS => ex_subE (.tmp 42) (.const (.int .i64 1)) rfl rfl rfl e43 (by omega)) hs0 ?_
          simp only [Act.put, List.setIfInBounds_toArray, List.set_cons_zero, List.set_cons_succ]
          refine take_one (i := 11) (d := some 44) (v := .int .u8 (c9 : Nat)) rfl rfl rfl (by kernel_rfl) (by kernel_rfl) (by kernel_rfl) (fun _ _ _ _ _ h => h.elim) (fun W hS => ex_cv8 (.tmp 43) rfl rfl (by omega)) hs0 ?_
          simp only [Act.put, List.setIfInBounds_toArray, List.set_cons_zero, List.set_cons_succ]
          have hBd : Below w5.heap.size w5 w5.drew := (Below.refl _ w5).drew
          refine all_one (i := 4) (by kernel_rfl) rfl rfl ?_
          refine wp_call (d := some 37) (R := fun v X => v = .int .u8 (nx6 hs g.fr f.proto (k + 1)) ∧ Below w5.drew.heap.size w5.drew X) 22 _ rfl (by kernel_rfl) ((HNX.out _ (HO5.out.bel.trans (hBd.mono hs5')) (k + 1)).mono (fun e w' hx => ⟨_, hx.1, rfl, hx.2⟩)) ?_
          rintro u X1 ⟨rfl, hbX⟩
          have hX1 : Below w5.heap.size w5 X1 := hBd.trans (hbX.mono hBd.size)
          have hv1 := blk_on hs0.1 hbX
          have hx1 := blk_on hs0.2 hbX
          refine ⟨⟨hv1, hx1⟩, ?_⟩
          simp only [Act.put, List.setIfInBounds_toArray, List.set_cons_zero, List.set_cons_succ]
          have hoX := HO5.out.below hs5' hX1
          obtain ⟨v6, w6, hr6, ho6, hs6, hk6⟩ := hoX.lit (Nat.le_trans hs5' hX1.size) [nx6 hs g.fr f.proto (k + 1), (c9 : Int)] #[.int .u8 (nx6 hs g.fr f.proto (k + 1)), .int .u8 (c9 : Int)] rfl (fun z hz => by have := HNXB.out (k + 1); simp at hz; omega) (by have := HZ.out; simp at *; omega) 2 rfl 26
          refine all_one (i := 12) (by kernel_rfl) rfl rfl ?_
          refine wp_valA (d := some 45) rfl (v := .slice (some ⟨X1.heap.size, 0, none⟩) 2 2) (w2 := X1.alloc (.cells #[.int .u8 (nx6 hs g.fr f.proto (k + 1)), .int .u8 (c9 : Int)] 5)) (by kernel_rfl) ⟨⟨blk_alloc hv1 _, blk_alloc hx1 _⟩, ?_⟩
          simp only [Act.put, List.setIfInBounds_toArray, List.set_cons_zero, List.set_cons_succ]
          have hS6 := (⟨hk6 _ _ _ _ (by decide) hv1, hk6 _ _ _ _ (by decide) hx1⟩ : w6.heap[w.heap.size]? = some (BV f g (.slice (some ⟨bh, oh, none⟩) hs.length ch) (.slice ab nb cb)) ∧ w6.heap[wr.heap.size]? = some (hBox K (.slice a1 D c1)))
          refine all_one (i := 13) (by kernel_rfl) rfl rfl ?_
          refine wp_append (d := some 46) (.tmp 33) (.tmp 45) 26 rfl rfl rfl rfl hr6 ⟨hS6, ?_⟩
          simp only [Act.put, List.setIfInBounds_toArray, List.set_cons_zero, List.set_cons_succ]
          refine take_one (i := 14) (d := some 7) (v := v6) rfl rfl rfl (by kernel_rfl) (by kernel_rfl) (by kernel_rfl) (fun _ _ _ _ _ h => h.elim) (fun W hS => by kernel_rfl) hS6 ?_
          simp only [Act.put, List.setIfInBounds_toArray, List.set_cons_zero, List.set_cons_succ]
          refine wpAnyH_done (by kernel_rfl) ?_ _
          exact ⟨v6, X1.heap.size, rfl, ho6, hS6.1, hS6.2⟩
        · rintro a' w8 ⟨v6, x45, rfl, ho8, hv8, hx8⟩
          simp only [Act.put, List.setIfInBounds_toArray, List.set_cons_zero, List.set_cons_succ]
          have k1 : w8.cell? ⟨wr.heap.size, 1, none⟩ = some (.slice a1 D c1) := blk_cell hx8 (j := 1) rfl
          have hB8 := ho8.bel
          obtain ⟨v9, w9, hr9, ho9, hs9, hk9⟩ := ho8.app hB8.size ((HBS.out.on hB8).row.bytes) (by have := HZ.out; have := HDE.out; simp at *; omega) 26
          have HR9 : Hid _ := hr9
          have HO9 : Hid (OB w.heap.size w w9 v9 (F0 ++ hdsL hs g.fr f.proto (k + 1))) := by
            show OB _ _ _ _ _
            rw [HHD.out]
            simpa only [List.append_assoc] using ho9
          have HV9 : Hid (w9.heap[w.heap.size]? = some (BV f g (.slice (some ⟨bh, oh, none⟩) hs.length ch) (.slice ab nb cb))) := hk9 _ _ _ _ (by decide) hv8
          have hkb : k ≤ 8 := by omega
          clear ho8 hv8 hx8 hB8 hr9 ho9 hs9 hk9 HO5 HV5 HX5 HBS
          go_wp2_with (at_builtin; refine wpList_append_run rfl _ _ _ _ rfl rfl rfl HR9.out ?_; clear HR9)
          exact ⟨⟨k + 1, by omega, by simp, HO9.out, HV9.out⟩, by simp [intOf]; omega⟩
      · have hkN : k = N := by omega
        have hNi : ¬ (k : Int) < (N : Int) := by omega
        have hob1 := hob.out
        rw [hkN, ← HN.out] at hob1
        have hv := hvr.out
        obtain ⟨fr, hfr⟩ : ∃ fr, g.fr = fr := ⟨_, rfl⟩
        have k36 := vb36 hv
        rw [hfr] at k36
        have HFR : Hid (g.fr = fr) := hfr
        have HOE : Hid (OB w.heap.size w wr u7 (F0 ++ hdsL hs g.fr f.proto hs.length)) := hob1
        have HVE : Hid (wr.heap[w.heap.size]? = some (BV f g (.slice ah hs.length ch) (.slice ab nb cb))) := hv
        have hzl' : (F0 ++ hdsL hs g.fr f.proto hs.length).length ≤ 100100 := by rw [List.length_append, hdsL_len, hFl]; have := HTOT.out hs.length (Nat.le_refl _); omega
        have HZL : Hid _ := hzl'
        clear hob hvr hob1 hv hkN hzl hBr hfr hzl' hlt
        cases fr
        · obtain ⟨v9, w9, hr9, ho9, hs9, hk9⟩ := HOE.out.app HOE.out.bel.size ((HD.out.on HOE.out.bel).bd.row.bytes) (by have := HZL.out; have := HNB.out; omega) 26
          have k41 := vb41 HVE.out
          have HR9 : Hid _ := hr9
          have HFIN : Hid (OB w.heap.size w w9 v9 (wrL f A hs g body)) := by
            show OB _ _ _ _ _
            rw [HFR.out] at ho9
            rw [← HWL.out, HFR.out]
            simp only [Bool.false_eq_true, if_false, List.append_nil]
            exact ho9
          clear hr9 ho9 hs9 hk9
          go_wp2_with (at_builtin; refine wpList_append_run rfl _ _ _ _ rfl rfl rfl HR9.out ?_; clear HR9)
          go_ret2
          exact ⟨v9, rfl, HFIN.out⟩
        · have HLV : Hid _ := vb_load HVE.out
          have HFF : Hid _ := HFH.out _ _ _ HFR.out HOE.out (by have := HZL.out; omega)
          go_wp2_with first
            | ((with_reducible show wpList _ _ _ ({ dst := _, op := Op.load 28 (Operand.tmp 1), type := _, pos := _, after := _, guard := _ } :: _) _ _); refine armL (.tmp 1) 28 rfl rfl rfl HLV.out ?_)
          refine Calls.mono HFF.out ?_
          rintro e w8 ⟨v8, rfl, ho8, hs8, hk8⟩
          have hv8 := hk8 _ _ _ _ (by decide) HVE.out
          obtain ⟨v9, w9, hr9, ho9, hs9, hk9⟩ := ho8.app hs8 ((HD.out.on ho8.bel).bd.row.bytes) (by have := HZL.out; have := HNB.out; simp [fragL] at *; omega) 26
          have k41 := vb41 hv8
          have HR9 : Hid _ := hr9
          have HFIN : Hid (OB w.heap.size w w9 v9 (wrL f A hs g body)) := by
            show OB _ _ _ _ _
            rw [HFR.out] at ho9
            rw [← HWL.out, HFR.out]
            simp only [if_true]
            exact ho9
          clear hr9 ho9 hs9 hk9 ho8 hk8 hv8 HFF HLV k36
          go_wp2_with (at_builtin; refine wpList_append_run rfl _ _ _ _ rfl rfl rfl HR9.out ?_; clear HR9)
          go_ret2
          exact ⟨v9, rfl, HFIN.out⟩
end

end Go.Proofs.Ytbaeogoojpngbaa
