/-
  The statement Ipv6Writes.
-/
import Derived.Test.YtbaeogoojpngbaaYc
namespace Go.Proofs.Ytbaeogoojpngbaa
open Go Go.RowKit
set_option linter.unusedVariables false
set_option linter.unusedSimpArgs false

theorem Fit.cons {z : Int} {l : List Int} (hz : 0 ≤ z ∧ z < 256) (h : Fit l) : Fit (z :: l) := fun y hy => by
  rcases List.mem_cons.1 hy with rfl | hy
  · exact hz
  · exact h y hy
theorem Fit.nil : Fit [] := fun z hz => absurd hz (by simp)
section
variable {S : Nat → Prop} {w : World} {v : Value} {hs : Opts} {fr : Bool} {proto : Int}
theorem HS.fitD (h : HS S w v hs) (j : Nat) : Fit (oD hs j) := by
  by_cases hj : j < hs.length
  · obtain ⟨a, cap, rfl, h0 | ⟨b, off, rfl, _, _, hc⟩⟩ := h.val
    · omega
    · obtain ⟨_, s, _, hb⟩ := hc j hj
      exact hb.row.fit
  · intro z hz
    unfold oD at hz
    rw [List.getElem?_eq_none (by omega)] at hz
    simp at hz
theorem nx_fit (h : HS S w v hs) (hp : 0 ≤ proto ∧ proto < 256) (i : Nat) : 0 ≤ nx6 hs fr proto i ∧ nx6 hs fr proto i < 256 := by
  unfold nx6
  split
  · exact h.fit i
  · split <;> omega
theorem hdsL_fit (h : HS S w v hs) (hp : 0 ≤ proto ∧ proto < 256) (ha : allH hs hs.length) : ∀ k, k ≤ hs.length → Fit (hdsL hs fr proto k)
  | 0, _ => Fit.nil
  | k + 1, hk => by
    have h1 := nx_fit (fr := fr) h hp (k + 1)
    have h2 := ha k (by omega)
    unfold headOk at h2
    simp only [Bool.and_eq_true, decide_eq_true_eq] at h2
    exact Fit.app (hdsL_fit h hp ha k (by omega)) (Fit.app (Fit.cons h1 (Fit.cons (by omega) Fit.nil)) (h.fitD k))
end
section
variable {S : Nat → Prop} {w : World} {f : F6} {g : G6} {vh vb : Value} {hs : Opts} {body : List Int} {A : List Int}
theorem wrL_fit (h : D6 S w f vh vb hs body) (hE : ckE f hs g body.length = 0) (hA : A.length = 32) (hf : Fit A) (hcl : 0 ≤ f.cls ∧ f.cls < 256) (hhp : 0 ≤ f.hop ∧ f.hop < 256) (hpr : 0 ≤ f.proto ∧ f.proto < 256) (hid : 0 ≤ g.id ∧ g.id ≤ 4294967295) :
    Fit (wrL f A hs g body) ∧ (wrL f A hs g body).length = ahead6 hs g.fr + body.length := by
  obtain ⟨⟨hlab, hhd, hend⟩, hsz⟩ := ck_zero hE
  have hl := h.lab
  have hn := nx_fit (fr := g.fr) h.hd hpr 0
  have hah : 40 ≤ ahead6 hs g.fr := by unfold ahead6; omega
  unfold wrL frontL
  refine ⟨Fit.app (Fit.app (Fit.app (Fit.app ?_ hf) (hdsL_fit h.hd hpr hhd.2 _ (Nat.le_refl _))) ?_) h.bd.row.fit, ?_⟩
  · generalize nx6 hs g.fr f.proto 0 = nx at *
    generalize hN : ahead6 hs g.fr - 40 + body.length = n
    have : n ≤ 65535 := by omega
    refine Fit.cons (by omega) (Fit.cons (by omega) (Fit.cons (by omega) (Fit.cons (by omega) (Fit.cons (by omega) (Fit.cons (by omega) (Fit.cons (by omega) (Fit.cons (by omega) Fit.nil)))))))
  · split
    · rename_i hfr
      unfold endB at hend
      rw [if_pos hfr] at hend
      simp only [Bool.and_eq_true, decide_eq_true_eq] at hend
      unfold fragL
      have hm : 0 ≤ (if g.more then (1 : Int) else 0) ∧ (if g.more then (1 : Int) else 0) ≤ 1 := by split <;> omega
      refine Fit.cons (by omega) (Fit.cons (by omega) (Fit.cons (by omega) (Fit.cons (by omega) (Fit.cons (by omega) (Fit.cons (by omega) (Fit.cons (by omega) (Fit.cons (by omega) Fit.nil)))))))
    · exact Fit.nil
  · simp only [List.length_append, List.length_cons, List.length_nil, hdsL_len, hA]
    unfold ahead6
    split <;> simp [fragL] <;> omega
/-- What Write answers. -/
def wrB (f : F6) (A : List Int) (hs : Opts) (g : G6) (body : List Int) : List Int := if ckE f hs g body.length = 0 then wrL f A hs g body else []
theorem Write_any (h : D6 (fun b => b < w.heap.size) w f vh vb hs body) (he : f.ad = u8L A) (hf : Fit A) (hcl : 0 ≤ f.cls ∧ f.cls < 256) (hhp : 0 ≤ f.hop ∧ f.hop < 256) (hpr : 0 ≤ f.proto ∧ f.proto < 256) (hid : 0 ≤ g.id ∧ g.id ≤ 4294967295) :
    Calls Try.prog 8 #[VV f g vh vb] w fun e w' => ∃ v, e = .returned (.tuple #[v, .int .i64 (ckE f hs g body.length)]) ∧ BytesAt w'.heap.size w' v (wrB f A hs g body) ∧ Below w.heap.size w w' := by
  by_cases hk : ckE f hs g body.length = 0
  · refine (Write_yes h hk he hf hcl hhp hpr hid).mono ?_
    rintro e w' ⟨v, rfl, hob⟩
    have hA : A.length = 32 := by have := f.len; rw [he] at this; simpa [u8L] using this
    obtain ⟨hF, hl⟩ := wrL_fit h hk hA hf hcl hhp hpr hid
    have := (ck_zero hk).2
    refine ⟨v, by rw [hk], ?_, hob.bel⟩
    unfold wrB
    rw [if_pos hk]
    exact (hob.row hF (by omega)).bytes
  · refine (Write_no h hk).mono ?_
    rintro e w' ⟨rfl, hb⟩
    refine ⟨_, rfl, ?_, hb⟩
    unfold wrB
    rw [if_neg hk]
    exact (BS.nil (fun _ => True) w').bytes
theorem RWrite_any (h : D6 (fun b => b < w.heap.size) w f vh vb hs body) (he : f.ad = u8L A) (hf : Fit A) (hcl : 0 ≤ f.cls ∧ f.cls < 256) (hhp : 0 ≤ f.hop ∧ f.hop < 256) (hpr : 0 ≤ f.proto ∧ f.proto < 256) (hid : 0 ≤ g.id ∧ g.id ≤ 4294967295) :
    Calls Try.prog 9 #[VV f g vh vb] w fun e w' => ∃ v, e = .returned (.tuple #[v, .int .i64 (ckE f hs g body.length)]) ∧ BytesAt w'.heap.size w' v (wrB f A hs g body) ∧ Below w.heap.size w w' := by
  by_cases hk : ckE f hs g body.length = 0
  · refine (RWrite_yes h hk he hf hcl hhp hpr hid).mono ?_
    rintro e w' ⟨v, rfl, hob⟩
    have hA : A.length = 32 := by have := f.len; rw [he] at this; simpa [u8L] using this
    obtain ⟨hF, hl⟩ := wrL_fit h hk hA hf hcl hhp hpr hid
    have := (ck_zero hk).2
    refine ⟨v, by rw [hk], ?_, hob.bel⟩
    unfold wrB
    rw [if_pos hk]
    exact (hob.row hF (by omega)).bytes
  · refine (RWrite_no h hk).mono ?_
    rintro e w' ⟨rfl, hb⟩
    refine ⟨_, rfl, ?_, hb⟩
    unfold wrB
    rw [if_neg hk]
    exact (BS.nil (fun _ => True) w').bytes
set_option maxHeartbeats 4000000 in
set_option maxRecDepth 100000 in
theorem ipv6Writes_walk (h : D6 (fun b => b < w.heap.size) w f vh vb hs body) (he : f.ad = u8L A) (hf : Fit A) (hcl : 0 ≤ f.cls ∧ f.cls < 256) (hhp : 0 ≤ f.hop ∧ f.hop < 256) (hpr : 0 ≤ f.proto ∧ f.proto < 256) (hid : 0 ≤ g.id ∧ g.id ≤ 4294967295) :
    Calls Try.prog 3 #[VV f g vh vb] w fun e w' => e = .returned (.bool true) ∧ Below w.heap.size w w' := by
  obtain ⟨W0, hW0⟩ : ∃ W0, W0 = w.alloc (BV f g vh vb) := ⟨_, rfl⟩
  have hb0 : W0.heap[w.heap.size]? = some (BV f g vh vb) := by rw [hW0]; exact blk_new w (BV f g vh vb)
  have hB0 : Below w.heap.size w W0 := by rw [hW0]; exact (Below.refl w.heap.size w).alloc (Nat.le_refl _) (BV f g vh vb)
  have hld : ∀ x : Hi W0, (Instr.loadAt 28 (.pointer (some ⟨w.heap.size, 0, none⟩))).run Try.prog x.W = .ok (VV f g vh vb) x.W := fun x => vb_load (Hi.blk hb0 x)
  have hd : ∀ x : Hi W0, D6 (fun b => b < x.W.heap.size) x.W f vh vb hs body := fun x => (h.on (hB0.trans (x.below.mono hB0.size))).mono (fun b hb _ => hb)
  have hw1 := fun (x : Hi W0) => Write_any (g := g) (hd x) he hf hcl hhp hpr hid
  have hw2 := fun (x : Hi W0) => RWrite_any (g := g) (hd x) he hf hcl hhp hpr hid
  have hs1 := fun (x : Hi W0) => Size_any g (hd x)
  have hs2 := fun (x : Hi W0) => RSize_any g (hd x)
  have hc1 := fun (x : Hi W0) => Check_any g (hd x)
  have hc2 := fun (x : Hi W0) => RCheck_any g (hd x)
  generalize (if ckE f hs g body.length = 0 then (ahead6 hs g.fr : Int) + body.length else 0) = nn at *
  generalize (if ckE f hs g body.length = 0 then (ahead6 hs g.fr : Int) else 0) = hh at *
  generalize ckE f hs g body.length = kk at *
  generalize wrB f A hs g body = bs at *
  have HLD0 : Hid _ := hld (Hi.refl _)
  have HLD : Hid _ := hld
  have HW1 : Hid _ := hw1 (Hi.refl _)
  have HW2 : Hid _ := hw2
  have HS1 : Hid _ := hs1
  have HS2 : Hid _ := hs2
  have HC1 : Hid _ := hc1
  have HC2 : Hid _ := hc2
  have HB0 : Hid (Below w.heap.size w W0) := hB0
  have hW := hW0.symm
  clear hld hw1 hw2 hs1 hs2 hc1 hc2 hb0 h hB0 hd he hf hcl hhp hpr hid hW0
  go_enter Try.func3, Try.ntmps3
  go_wp2_with ((with_reducible show wpList _ _ _ ({ dst := _, op := Op.load 28 (Operand.tmp 1), type := _, pos := _, after := _, guard := _ } :: _) _ _); refine armL (.tmp 1) 28 rfl rfl rfl HLD0.out ?_)
  refine Calls.mono HW1.out ?_
  rintro e1 w1 ⟨v1, rfl, hby1, hb1⟩
  obtain ⟨x1, rfl⟩ : ∃ x : Hi W0, w1 = x.W := ⟨⟨w1, hb1⟩, rfl⟩
  clear hb1 HW1 HLD0 hW
  go_wp2_with ((with_reducible show wpList _ _ _ ({ dst := _, op := Op.load 28 (Operand.tmp 1), type := _, pos := _, after := _, guard := _ } :: _) _ _); refine armL (.tmp 1) 28 rfl rfl rfl (HLD.out _) ?_)
  refine Calls.mono (HW2.out x1) ?_
  rintro e2 w2 ⟨v2, rfl, hby2, hb2⟩
  have hb2' := x1.below.trans (hb2.mono x1.below.size)
  have hby1' := hby1.later hb2
  have hup : ∀ x : Hi w2, ∃ y : Hi W0, y.W = x.W := fun x => ⟨⟨x.W, hb2'.trans (x.below.mono hb2'.size)⟩, rfl⟩
  have hl2 : ∀ x : Hi w2, (Instr.loadAt 28 (.pointer (some ⟨w.heap.size, 0, none⟩))).run Try.prog x.W = .ok (VV f g vh vb) x.W := fun x => by
    obtain ⟨y, hy⟩ := hup x
    rw [← hy]
    exact HLD.out y
  have hs1 : ∀ x : Hi w2, Calls Try.prog 10 #[VV f g vh vb] x.W fun e w' => e = .returned (.tuple #[.int .i64 nn, .int .i64 hh, .int .i64 kk]) ∧ Below x.W.heap.size x.W w' := fun x => by
    obtain ⟨y, hy⟩ := hup x
    rw [← hy]
    exact HS1.out y
  have hs2 : ∀ x : Hi w2, Calls Try.prog 11 #[VV f g vh vb] x.W fun e w' => e = .returned (.tuple #[.int .i64 nn, .int .i64 hh, .int .i64 kk]) ∧ Below x.W.heap.size x.W w' := fun x => by
    obtain ⟨y, hy⟩ := hup x
    rw [← hy]
    exact HS2.out y
  have hc1 : ∀ x : Hi w2, Calls Try.prog 12 #[VV f g vh vb] x.W fun e w' => e = .returned (.int .i64 kk) ∧ Below x.W.heap.size x.W w' := fun x => by
    obtain ⟨y, hy⟩ := hup x
    rw [← hy]
    exact HC1.out y
  have hc2 : ∀ x : Hi w2, Calls Try.prog 13 #[VV f g vh vb] x.W fun e w' => e = .returned (.int .i64 kk) ∧ Below x.W.heap.size x.W w' := fun x => by
    obtain ⟨y, hy⟩ := hup x
    rw [← hy]
    exact HC2.out y
  have t1 := Hi.text hby1'
  have t2 := Hi.text hby2
  have hbl2 := HB0.out.trans (hb2'.mono HB0.out.size)
  have HBL : Hid _ := hbl2
  have HL20 : Hid _ := hl2 (Hi.refl _)
  have HL2 : Hid _ := hl2
  have HS10 : Hid _ := hs1 (Hi.refl _)
  have HS2' : Hid _ := hs2
  have HC1' : Hid _ := hc1
  have HC2' : Hid _ := hc2
  generalize strOfNums bs = SS at *
  clear hby1 hby1' hby2 hb2 HW2 HLD hl2 hb2' hs1 hs2 hc1 hc2 HS1 HS2 HC1 HC2 hbl2 hup HB0
  go_wp2_with ((with_reducible show wpList _ _ _ ({ dst := _, op := Op.load 28 (Operand.tmp 1), type := _, pos := _, after := _, guard := _ } :: _) _ _); refine armL (.tmp 1) 28 rfl rfl rfl HL20.out ?_)
  refine Calls.mono HS10.out ?_
  rintro e3 w3 ⟨rfl, hb3⟩
  obtain ⟨x3, rfl⟩ : ∃ x : Hi w2, w3 = x.W := ⟨⟨w3, hb3⟩, rfl⟩
  clear hb3 HL20 HS10
  go_wp2_with ((with_reducible show wpList _ _ _ ({ dst := _, op := Op.load 28 (Operand.tmp 1), type := _, pos := _, after := _, guard := _ } :: _) _ _); refine armL (.tmp 1) 28 rfl rfl rfl (HL2.out _) ?_)
  refine Calls.mono (Hi.calls (HS2'.out _)) ?_
  rintro e4 w4 ⟨rfl, x4, rfl⟩
  clear HS2'
  go_wp2_with fail
  refine wp_region_up (by kernel_rfl) (by kernel_rfl) ?_
  repeat (first
    | go_big_quiet_skip
    | (go_big_quiet_want; refine hi_load (.tmp 1) 28 rfl rfl HL2.out ?_; simp only [Act.put, List.setIfInBounds_toArray, List.set_cons_zero, List.set_cons_succ]; go_big_quiet_on)
    | (go_big_quiet_want; go_big_quiet_op; first | go_big_quiet_on | go_big_quiet_call (first | (go_at_call 12; exact Hi.calls (HC1'.out _)) | (go_at_call 13; exact Hi.calls (HC2'.out _)) | (go_at_call 14; exact Hi.calls (alive_calls _)))))
  refine wpQuiet_nil ?_
  intro _ hw
  obtain ⟨y, rfl⟩ := hw
  go_wp2
  go_ret
  exact ⟨rfl, HBL.out.trans (y.below.mono HBL.out.size)⟩
end
theorem ipv6Writes_open {H : Type} {enc : TypeId × Value → H} {W : World} {base : Nat} (v0 : Value) {d0 : DataW H} {p0 : List MemPlace}
    (o0 : Value.okWide Try.prog W .any base 28 v0) (h0 : DataW.Trod enc Try.prog W 0 (fun _ => true) true 28 v0 d0 p0) (z0 : ∀ k ∈ d0.weights Try.prog 28, k ≤ reachBytes) :
    Calls Try.prog 3 #[v0] W fun e w' => e = .returned (.bool true) ∧ Below W.heap.size W w' := by
  obtain ⟨f, g, vh, vb, hs, body, rfl, hd, _, hid, ⟨A, he, hf⟩, hcl, hhp, hpr⟩ := open_v6 h0 z0
  exact ipv6Writes_walk hd he hf (by omega) (by omega) (by omega) hid

end Go.Proofs.Ytbaeogoojpngbaa
