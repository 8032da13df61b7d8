/-
  Parse of package ipv6, where there are no heads.
  alive of the statements of ipv6.
  The statement Ipv6Writes.
-/
import Derived.Test.YtpgnnplpcalbbaaGreatFold12
import Derived.Recover
import Derived.WalkLawsBesides
import Derived.Defers
import Derived.Test.YtpgnnplpcalbbaaGreatFold10
import Derived.Test.YtpgnnplpcalbbaaGreatFold11
set_option linter.unusedVariables false
set_option linter.unusedSimpArgs false
namespace Go.Proofs.YtpgnnplpcalbbaaGreat.V6
open Go Go.RowKit
theorem ta_yes (v : Value) (w : World) : (Instr.typeAssert (.iface 218 v) 20 218 true).run Tryz.prog w = .ok (.tuple #[v, .bool true]) w := by
  simp [Instr.typeAssert, Tryz.underlying218, go_sem]
theorem ta_no (w : World) : (Instr.typeAssert .nilIface 20 218 true).run Tryz.prog w = .ok (.tuple #[.agg #[.int .i64 0, .int .i64 0], .bool false]) w := by
  simp [Instr.typeAssert, Tryz.underlying218, go_sem]
/-- The three results' boxes. -/
structure BoxW (w0 W : World) (Q : Nat) (c : List Value) (x y : Int) : Prop where
  vb : W.heap[Q]? = some (.cells c.toArray 36)
  len : c.length = 42
  xb : W.heap[Q + 1]? = some (.cells [.int .i64 x].toArray 3)
  yb : W.heap[Q + 2]? = some (.cells [.int .i64 y].toArray 37)
  bel : Below w0.heap.size w0 W
  up : w0.heap.size ≤ Q
section
variable {w0 W W' : World} {Q : Nat} {c : List Value} {x y : Int}
theorem BoxW.on (h : BoxW w0 W Q c x y) (hb : Below W.heap.size W W') : BoxW w0 W' Q c x y :=
  ⟨blk_on h.vb hb, h.len, blk_on h.xb hb, blk_on h.yb hb, h.bel.trans (hb.mono h.bel.size), h.up⟩
theorem BoxW.drew (h : BoxW w0 W Q c x y) : BoxW w0 W.drew Q c x y := ⟨h.vb, h.len, h.xb, h.yb, h.bel.drew, h.up⟩
theorem BoxW.sets (h : BoxW w0 W Q c x y) (V : List Value) (hV : V.length = 42) (h1 : ∀ v ∈ V, v.oneCell' = true) :
    ∃ w2, (Instr.storeAt 36 (.pointer (some ⟨Q, 0, none⟩)) (.agg V.toArray)).run Tryz.prog W = .ok () w2 ∧ BoxW w0 w2 Q V x y ∧ Only Q W w2 := by
  have hO : Only Q W (W.setCells Q 0 V) := Only.sets _ _ _ (Only.refl _ _)
  refine ⟨_, agg_store Tryz.sizeOf36 hV h1 (fun j hj => ?_) (blk_open h.vb), ⟨?_, hV, (hO.other _ (by omega)).trans h.xb, (hO.other _ (by omega)).trans h.yb, h.bel.trans (hO.below h.up), h.up⟩, hO⟩
  · have : j < c.length := by have := h.len; omega
    simp [World.cell?, h.vb, this]
  · have hc := h.len
    have := blk_sets V 0 c W h.vb
    rwa [setsL_all c V (by omega)] at this
theorem BoxW.setX (h : BoxW w0 W Q c x y) (z : Int) : BoxW w0 (W.setCell ⟨Q + 1, 0, none⟩ (.int .i64 z)) Q c z y :=
  ⟨blk_set_other h.vb (by omega) _ _, h.len, by rw [blk_set h.xb]; rfl, blk_set_other h.yb (by omega) _ _, h.bel.setCell (by have := h.up; simp; omega) _, h.up⟩
theorem BoxW.setY (h : BoxW w0 W Q c x y) (z : Int) : BoxW w0 (W.setCell ⟨Q + 2, 0, none⟩ (.int .i64 z)) Q c x z :=
  ⟨blk_set_other h.vb (by omega) _ _, h.len, blk_set_other h.xb (by omega) _ _, by rw [blk_set h.yb]; rfl, h.bel.setCell (by have := h.up; simp; omega) _, h.up⟩
end
theorem BoxW.start (w : World) : BoxW w (((w.alloc (.cells zeroV.toArray 36)).alloc (.cells #[.int .i64 0] 3)).alloc (.cells #[.int .i64 0] 37)) w.heap.size zeroV 0 0 := by
  have h1 := blk_new (w.alloc (.cells zeroV.toArray 36)) (.cells #[.int .i64 0] 3)
  have h2 := blk_new ((w.alloc (.cells zeroV.toArray 36)).alloc (.cells #[.int .i64 0] 3)) (.cells #[.int .i64 0] 37)
  rw [show (w.alloc (.cells zeroV.toArray 36)).heap.size = w.heap.size + 1 by simp] at h1
  rw [show ((w.alloc (.cells zeroV.toArray 36)).alloc (.cells #[.int .i64 0] 3)).heap.size = w.heap.size + 2 by simp] at h2
  exact ⟨blk_alloc (blk_alloc (blk_new w _) _) _, rfl, blk_alloc h1 _, h2, (((Below.refl w.heap.size w).alloc (Nat.le_refl _) _).alloc (by simp) _).alloc (by simp; omega) _, Nat.le_refl _⟩
theorem BoxW.load {w0 W : World} {Q : Nat} {c : List Value} {x y : Int} (h : BoxW w0 W Q c x y) : (loadVar 36 ⟨Q, 0, none⟩).run Tryz.prog W = .ok (.agg c.toArray) W :=
  agg_loadVar Tryz.isAgg36 Tryz.sizeOf36 h.len (CellsAt.of_blk h.vb)
theorem BoxW.loadX {w0 W : World} {Q : Nat} {c : List Value} {x y : Int} (h : BoxW w0 W Q c x y) : (loadVar 3 ⟨Q + 1, 0, none⟩).run Tryz.prog W = .ok (.int .i64 x) W := by
  have := blk_cell h.xb (j := 0) rfl
  simp [loadVar, go_sem, this]
theorem BoxW.loadY {w0 W : World} {Q : Nat} {c : List Value} {x y : Int} (h : BoxW w0 W Q c x y) : (loadVar 37 ⟨Q + 2, 0, none⟩).run Tryz.prog W = .ok (.int .i64 y) W := by
  have := blk_cell h.yb (j := 0) rfl
  simp [loadVar, go_sem, this]
theorem resC {P : Program} {fn : Func} {a b c : Tmp} {t u s : TypeId} (h : fn.results = #[.cell a t, .cell b u, .cell c s]) {tmps : Array Value} {A B C : Addr} (ha : tmps.getD a undef = .pointer (some A)) (hb : tmps.getD b undef = .pointer (some B)) (hc : tmps.getD c undef = .pointer (some C)) {x y z : Value} {w : World}
    (hx : (loadVar t A).run P w = .ok x w) (hy : (loadVar u B).run P w = .ok y w) (hz : (loadVar s C).run P w = .ok z w) :
    (results fn tmps).run P w = .ok (.tuple #[x, y, z]) w := by
  rw [Array.getD_eq_getD_getElem?] at ha hb hc
  simp [results, h, ha, hb, hc, asAddr, hx, hy, hz]
section
variable {w : World} {v : Value} {zs : List Int}
end
end Go.Proofs.YtpgnnplpcalbbaaGreat.V6
namespace Go.Proofs.YtpgnnplpcalbbaaGreat.V6
open Go Go.RowKit
theorem armLg {P : Program} {w : World} {ops : Array Oper} {rest : List Oper} {o : Oper} {a : Act} {Q : Exit → Act → World → Prop} (p : Operand) (t : TypeId) (hop : o.op = Op.load t p) (hw : Region.wanted o (yielded ops a.tmps) = true) {vp v : Value} (hp : a.eval p = vp) (hrun : (Instr.loadAt t vp).run P w = .ok v w) (hK : wpList P ops Q rest (a.put o.dst v) w) : wpList P ops Q (o :: rest) a w :=
  arm_load hw p t hop hp hrun hK
theorem _root_.Go.Proofs.YtpgnnplpcalbbaaGreat.BS.nil (S : Nat → Prop) (w : World) : BS S w (.slice none 0 0) [] := ⟨⟨fun z hz => absurd hz (by simp), Nat.zero_le _, none, 0, rfl, Nat.le_refl _, .inl rfl⟩, .inl rfl⟩
def aA : List Int := List.replicate 31 0 ++ [1]
def aF : F6 := ⟨0, 0, 64, 59, u8L aA, rfl, fun v hv => by unfold u8L at hv; obtain ⟨z, _, rfl⟩ := List.mem_map.1 hv; rfl⟩
def aF0 : F6 := ⟨0, 0, 64, 59, List.replicate 32 (.int .u8 0), rfl, fun v hv => by rw [(List.mem_replicate.1 hv).2]; rfl⟩
def awl : List Value := .int .u8 0 :: .int .u32 0 :: .int .u8 64 :: .int .u8 0 :: .int .u8 0 :: .int .u8 0 :: .int .u8 0 :: .int .u8 0 :: .int .u8 0 :: .int .u8 0 :: .int .u8 0 :: .int .u8 0 :: .int .u8 0 :: .int .u8 0 :: .int .u8 0 :: .int .u8 0 :: .int .u8 0 :: .int .u8 0 :: .int .u8 0 :: .int .u8 0 :: .int .u8 0 :: .int .u8 0 :: .int .u8 0 :: .int .u8 0 :: .int .u8 0 :: .int .u8 0 :: .int .u8 0 :: .int .u8 0 :: .int .u8 0 :: .int .u8 0 :: .int .u8 0 :: .int .u8 0 :: .int .u8 0 :: .int .u8 0 :: .int .u8 0 :: .slice none 0 0 :: .bool false :: .int .u32 0 :: .int .i64 0 :: .bool false :: .int .u8 59 :: .slice none 0 0 :: []
theorem awl_eq : vC aF0 zG (.slice none 0 0) (.slice none 0 0) = awl := rfl
theorem awl_set : awl.set 34 (.int .u8 1) = vC aF zG (.slice none 0 0) (.slice none 0 0) := rfl
def aZ : List Int := wrL aF aA [] zG []
theorem aA_fit : Fit aA := fun z hz => by
  unfold aA at hz
  rcases List.mem_append.1 hz with h | h
  · rw [(List.mem_replicate.1 h).2]; omega
  · simp at h; rw [h]; omega
theorem aZ_eq : aZ = [96, 0, 0, 0, 0, 0, 59, 64, 0, 0, 0, 0, 0, 0, 0, 0, 0, 0, 0, 0, 0, 0, 0, 0, 0, 0, 0, 0, 0, 0, 0, 0, 0, 0, 0, 0, 0, 0, 0, 1] := by kernel_rfl
theorem aZ_fit : Fit aZ := fun z hz => by
  rw [aZ_eq] at hz
  simp at hz
  omega
theorem aZ_ck : ckE aF [] zG 0 = 0 := by kernel_rfl
theorem aZ_len : aZ.length = 40 := by rw [aZ_eq]; rfl
theorem aZ_A : ((aZ.drop 8).take 32).length = 32 := by rw [aZ_eq]; rfl
theorem aZ_fin : finF (clsN aZ) (labN aZ) (gz aZ 7) (gz aZ 6) ((aZ.drop 8).take 32) aZ_A = aF := by
  have h1 : clsN aZ = 0 := by kernel_rfl
  have h2 : labN aZ = 0 := by kernel_rfl
  have h3 : gz aZ 7 = 64 := by kernel_rfl
  have h4 : gz aZ 6 = 59 := by kernel_rfl
  have h5 : (aZ.drop 8).take 32 = aA := by kernel_rfl
  have : ∀ (a b c d : Int) (L : List Int) (h : L.length = 32), a = 0 → b = 0 → c = 64 → d = 59 → L = aA → finF a b c d L h = aF := by
    rintro _ _ _ _ _ h rfl rfl rfl rfl rfl
    rfl
  exact this _ _ _ _ _ _ h1 h2 h3 h4 h5
end Go.Proofs.YtpgnnplpcalbbaaGreat.V6
namespace Go.Proofs.YtpgnnplpcalbbaaGreat.V6
open Go Go.RowKit
theorem _root_.Go.Proofs.YtpgnnplpcalbbaaGreat.Fit.cons {z : Int} {l : List Int} (hz : 0 ≤ z ∧ z < 256) (h : Fit l) : Fit (z :: l) := fun y hy => by
  rcases List.mem_cons.1 hy with rfl | hy
  · exact hz
  · exact h y hy
theorem _root_.Go.Proofs.YtpgnnplpcalbbaaGreat.Fit.nil : Fit [] := fun z hz => absurd hz (by simp)
section
variable {S : Nat → Prop} {w : World} {v : Value} {hs : Opts} {fr : Bool} {proto : Int}
theorem HS.fitD (h : HS S w v hs) (j : Nat) : Fit (oD hs j) := by
  by_cases hj : j < hs.length
  · obtain ⟨a, cap, rfl, h0 | ⟨b, off, rfl, _, _, hc⟩⟩ := h.val
    · omega
    · obtain ⟨_, s, _, hb⟩ := hc j hj
      exact hb.row.fit
  · intro z hz
    unfold oD at hz
    rw [List.getElem?_eq_none (by omega)] at hz
    simp at hz
theorem nx_fit (h : HS S w v hs) (hp : 0 ≤ proto ∧ proto < 256) (i : Nat) : 0 ≤ nx6 hs fr proto i ∧ nx6 hs fr proto i < 256 := by
  unfold nx6
  split
  · exact h.fit i
  · split <;> omega
theorem hdsL_fit (h : HS S w v hs) (hp : 0 ≤ proto ∧ proto < 256) (ha : allH hs hs.length) : ∀ k, k ≤ hs.length → Fit (hdsL hs fr proto k)
  | 0, _ => Fit.nil
  | k + 1, hk => by
    have h1 := nx_fit (fr := fr) h hp (k + 1)
    have h2 := ha k (by omega)
    unfold headOk at h2
    simp only [Bool.and_eq_true, decide_eq_true_eq] at h2
    exact Fit.app (hdsL_fit h hp ha k (by omega)) (Fit.app (Fit.cons h1 (Fit.cons (by omega) Fit.nil)) (h.fitD k))
end
section
variable {S : Nat → Prop} {w : World} {f : F6} {g : G6} {vh vb : Value} {hs : Opts} {body : List Int} {A : List Int}
theorem wrL_fit (h : D6 S w f vh vb hs body) (hE : ckE f hs g body.length = 0) (hA : A.length = 32) (hf : Fit A) (hcl : 0 ≤ f.cls ∧ f.cls < 256) (hhp : 0 ≤ f.hop ∧ f.hop < 256) (hpr : 0 ≤ f.proto ∧ f.proto < 256) (hid : 0 ≤ g.id ∧ g.id ≤ 4294967295) :
    Fit (wrL f A hs g body) ∧ (wrL f A hs g body).length = ahead6 hs g.fr + body.length := by
  obtain ⟨⟨hlab, hhd, hend⟩, hsz⟩ := ck_zero hE
  have hl := h.lab
  have hn := nx_fit (fr := g.fr) h.hd hpr 0
  have hah : 40 ≤ ahead6 hs g.fr := by unfold ahead6; omega
  unfold wrL frontL
  refine ⟨Fit.app (Fit.app (Fit.app (Fit.app ?_ hf) (hdsL_fit h.hd hpr hhd.2 _ (Nat.le_refl _))) ?_) h.bd.row.fit, ?_⟩
  · generalize nx6 hs g.fr f.proto 0 = nx at *
    generalize hN : ahead6 hs g.fr - 40 + body.length = n
    have : n ≤ 65535 := by omega
    refine Fit.cons (by omega) (Fit.cons (by omega) (Fit.cons (by omega) (Fit.cons (by omega) (Fit.cons (by omega) (Fit.cons (by omega) (Fit.cons (by omega) (Fit.cons (by omega) Fit.nil)))))))
  · split
    · rename_i hfr
      unfold endB at hend
      rw [if_pos hfr] at hend
      simp only [Bool.and_eq_true, decide_eq_true_eq] at hend
      unfold fragL
      have hm : 0 ≤ (if g.more then (1 : Int) else 0) ∧ (if g.more then (1 : Int) else 0) ≤ 1 := by split <;> omega
      refine Fit.cons (by omega) (Fit.cons (by omega) (Fit.cons (by omega) (Fit.cons (by omega) (Fit.cons (by omega) (Fit.cons (by omega) (Fit.cons (by omega) (Fit.cons (by omega) Fit.nil)))))))
    · exact Fit.nil
  · simp only [List.length_append, List.length_cons, List.length_nil, hdsL_len, hA]
    unfold ahead6
    split <;> simp [fragL] <;> omega
/-- What Write answers. -/
def wrB (f : F6) (A : List Int) (hs : Opts) (g : G6) (body : List Int) : List Int := if ckE f hs g body.length = 0 then wrL f A hs g body else []
theorem Write_any (h : D6 (fun b => b < w.heap.size) w f vh vb hs body) (he : f.ad = u8L A) (hf : Fit A) (hcl : 0 ≤ f.cls ∧ f.cls < 256) (hhp : 0 ≤ f.hop ∧ f.hop < 256) (hpr : 0 ≤ f.proto ∧ f.proto < 256) (hid : 0 ≤ g.id ∧ g.id ≤ 4294967295) :
    Calls Tryz.prog 149 #[VV f g vh vb] w fun e w' => ∃ v, e = .returned (.tuple #[v, .int .i64 (ckE f hs g body.length)]) ∧ BytesAt w'.heap.size w' v (wrB f A hs g body) ∧ Below w.heap.size w w' := by
  by_cases hk : ckE f hs g body.length = 0
  · refine (Write_yes h hk he hf hcl hhp hpr hid).mono ?_
    rintro e w' ⟨v, rfl, hob⟩
    have hA : A.length = 32 := by have := f.len; rw [he] at this; simpa [u8L] using this
    obtain ⟨hF, hl⟩ := wrL_fit h hk hA hf hcl hhp hpr hid
    have := (ck_zero hk).2
    refine ⟨v, by rw [hk], ?_, hob.bel⟩
    unfold wrB
    rw [if_pos hk]
    exact (hob.row hF (by omega)).bytes
  · refine (Write_no h hk).mono ?_
    rintro e w' ⟨rfl, hb⟩
    refine ⟨_, rfl, ?_, hb⟩
    unfold wrB
    rw [if_neg hk]
    exact (BS.nil (fun _ => True) w').bytes
theorem RWrite_any (h : D6 (fun b => b < w.heap.size) w f vh vb hs body) (he : f.ad = u8L A) (hf : Fit A) (hcl : 0 ≤ f.cls ∧ f.cls < 256) (hhp : 0 ≤ f.hop ∧ f.hop < 256) (hpr : 0 ≤ f.proto ∧ f.proto < 256) (hid : 0 ≤ g.id ∧ g.id ≤ 4294967295) :
    Calls Tryz.prog 78 #[VV f g vh vb] w fun e w' => ∃ v, e = .returned (.tuple #[v, .int .i64 (ckE f hs g body.length)]) ∧ BytesAt w'.heap.size w' v (wrB f A hs g body) ∧ Below w.heap.size w w' := by
  by_cases hk : ckE f hs g body.length = 0
  · refine (RWrite_yes h hk he hf hcl hhp hpr hid).mono ?_
    rintro e w' ⟨v, rfl, hob⟩
    have hA : A.length = 32 := by have := f.len; rw [he] at this; simpa [u8L] using this
    obtain ⟨hF, hl⟩ := wrL_fit h hk hA hf hcl hhp hpr hid
    have := (ck_zero hk).2
    refine ⟨v, by rw [hk], ?_, hob.bel⟩
    unfold wrB
    rw [if_pos hk]
    exact (hob.row hF (by omega)).bytes
  · refine (RWrite_no h hk).mono ?_
    rintro e w' ⟨rfl, hb⟩
    refine ⟨_, rfl, ?_, hb⟩
    unfold wrB
    rw [if_neg hk]
    exact (BS.nil (fun _ => True) w').bytes
end
end Go.Proofs.YtpgnnplpcalbbaaGreat.V6
