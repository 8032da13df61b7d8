/-
  Boxes and new memory, for package icmp.
  parse of package icmp.
  parse of package icmp: a message that is one.
-/
import Derived.Test.YtpgnnplpcalbbaaGreatFold21
import Derived.Test.YtpgnnplpcalbbaaGreatFold07
import Derived.Test.YtpgnnplpcalbbaaGreatFold22
import Derived.Test.YtpgnnplpcalbbaaGreatFold06
set_option linter.unusedVariables false
set_option linter.unusedSimpArgs false
namespace Go.Proofs.YtpgnnplpcalbbaaGreat.Icm
open Go Go.RowKit Go.ChangeShapes Go.WideShapes Go.ChangeAt
theorem box_store {ty : TypeId} {n : Nat} {w : World} {R : Nat} {c : List Value} (hs : ∀ w, (Go.sizeOf ty).run Tryz.prog w = .ok n w) (h : w.heap[R]? = some (.cells c.toArray ty)) (hl : c.length = n) (V : List Value) (hV : V.length = n) (h1 : ∀ v ∈ V, v.oneCell' = true) :
    ∃ w', (Instr.storeAt ty (.pointer (some ⟨R, 0, none⟩)) (.agg V.toArray)).run Tryz.prog w = .ok () w' ∧ w'.heap[R]? = some (.cells V.toArray ty) ∧ Only R w w' := by
  refine ⟨_, agg_store hs hV h1 (fun j hj => ?_) (fun j => blk_open h j), ?_, Only.sets _ _ _ (Only.refl _ _)⟩
  · rw [Nat.zero_add, blk_cell h (j := j) (v := c[j]'(by omega)) (by simp)]
    rfl
  · rw [blk_sets V 0 c w h, setsL_all _ _ (by omega)]
/-- A new box is given its cells. -/
theorem box_new {ty : TypeId} {n : Nat} (hs : ∀ w, (Go.sizeOf ty).run Tryz.prog w = .ok n w) (w : World) (c : List Value) (hl : c.length = n) (V : List Value) (hV : V.length = n) (h1 : ∀ v ∈ V, v.oneCell' = true) :
    ∃ w', (Instr.storeAt ty (.pointer (some ⟨w.heap.size, 0, none⟩)) (.agg V.toArray)).run Tryz.prog (w.alloc (.cells c.toArray ty)) = .ok () w' ∧ w'.heap[w.heap.size]? = some (.cells V.toArray ty) ∧ Below w.heap.size w w' := by
  obtain ⟨w', h, hb, ho⟩ := box_store hs (blk_new w (.cells c.toArray ty)) hl V hV h1
  exact ⟨w', h, hb, ((Below.refl _ w).alloc (Nat.le_refl _) _).trans (ho.below (Nat.le_refl _))⟩
/-- Bytes that lie in memory made behind world w. -/
def New (w : World) (v : Value) (zs : List Int) : Prop := ∃ a k, v = .slice a zs.length k ∧ zs.length ≤ k ∧ (zs.length = 0 ∨ ∃ b off, a = some ⟨b, off, none⟩ ∧ w.heap.size ≤ b)
theorem New.nil (w : World) : New w (.slice none 0 0) [] := ⟨_, _, rfl, Nat.le_refl _, .inl rfl⟩
theorem New.rowC {w w' : World} {v : Value} {zs : List Int} (h : New w v zs) (hb : BytesAt w'.heap.size w' v zs) : RowC w' v zs := by
  obtain ⟨a, k, rfl, hk, _⟩ := h
  exact .of_bytes hb hk
theorem New.of_bs {w w' : World} {v : Value} {zs : List Int} (h : BS (fun b => w.heap.size ≤ b) w' v zs) : New w v zs := by
  obtain ⟨⟨hf, hl, a, k, rfl, hk, hz⟩, loc⟩ := h
  refine ⟨a, k, rfl, hk, loc.imp id ?_⟩
  rintro ⟨b, off, n, k', e, hb⟩
  simp at e
  exact ⟨b, off, e.1, hb⟩
theorem bytes_copied2c {w : World} {v : Value} {zs : List Int} (h : BytesAt w.heap.size w v zs) (B : Nat) (hlo : w.heap.size ≤ B + 1) (ty : TypeId) (hB : w.heap.size = B + 1) :
    ∃ a cap w2, (Builtin.append_ #[25, 25] ty #[.slice (some ⟨B, 0, none⟩) 0 0, v]).run Tryz.prog w = .ok (.slice a zs.length cap) w2 ∧ BytesAt w2.heap.size w2 (.slice a zs.length cap) zs ∧ Below w.heap.size w w2 ∧ zs.length ≤ cap ∧ (zs.length = 0 ∨ ∃ g off, a = some ⟨g, off, none⟩ ∧ w.heap.size ≤ g) := by
  obtain ⟨b, cap, w2, hr, hc, hb, hz⟩ := bytes_copied3 h B ty
  refine ⟨_, _, _, hr, copied_bytes hz h.fit h.len, hb, hc, ?_⟩
  rcases hz with ⟨rfl, _⟩ | ⟨hg, _⟩
  · exact .inl rfl
  · exact .inr ⟨_, _, rfl, hg⟩
theorem New.old {w w' : World} {v : Value} {zs : List Int} (h : New w' v zs) (hs : w.heap.size ≤ w'.heap.size) : New w v zs := by
  obtain ⟨a, k, e, hk, hz⟩ := h
  exact ⟨a, k, e, hk, hz.imp id (fun ⟨b, off, ea, hb⟩ => ⟨b, off, ea, Nat.le_trans hs hb⟩)⟩
theorem New.only {w W W' : World} {g : Nat} {v : Value} {zs : List Int} (h : New w v zs) (hg : g < w.heap.size) (hv : BytesAt W.heap.size W v zs) (ho : Only g W W') : BytesAt W'.heap.size W' v zs :=
  by
  obtain ⟨a, k, rfl, hk, hz⟩ := h
  exact bytes_only hv ho (hz.imp id (fun ⟨b, off, e, hb⟩ => ⟨b, off, _, _, by rw [e], Nat.lt_of_lt_of_le hg hb⟩))
theorem ex_move {P : Program} {o : Oper} {a : Act} {W : World} (p : Operand) (hop : o.op = Op.move p) {v : Value} (hp : a.eval p = v) : (execOp a.eval o).run P W = .ok (.value v) W := by
  generalize a.eval = ev at *
  simp [execOp, hop, hp, go_sem]
theorem ex_index {o : Oper} {a : Act} {W : World} (k : Nat) (j : Nat) {b off len cap : Nat} (hop : o.op = Op.indexAddr 25 (.tmp k) (.const (.int .i64 (j : Int)))) (hk : a.eval (.tmp k) = .slice (some ⟨b, off, none⟩) len cap) (hj : j < len) :
    (execOp a.eval o).run Tryz.prog W = .ok (.value (.pointer (some ⟨b, off + j, none⟩))) W := by
  have hc : a.eval (.const (.int .i64 (j : Int))) = .int .i64 (j : Int) := rfl
  have h1 : ((j : Int) < (len : Int)) := by omega
  generalize a.eval = ev at *
  simp [execOp, hop, hk, hc, go_sem, h1, hj]
theorem ex_load8 {o : Oper} {a : Act} {W : World} (k : Nat) {p : Addr} {x : Int} (hop : o.op = Op.load 5 (.tmp k)) (hk : a.eval (.tmp k) = .pointer (some p)) (hc : W.cell? p = some (.int .u8 x)) :
    (execOp a.eval o).run Tryz.prog W = .ok (.value (.int .u8 x)) W := by
  generalize a.eval = ev at *
  simp [execOp, hop, hk, go_sem, hc]
end Go.Proofs.YtpgnnplpcalbbaaGreat.Icm
namespace Go.Proofs.YtpgnnplpcalbbaaGreat.Icm
open Go Go.RowKit Go.Shelf
theorem or_byte32 (a c : Int) (ha : 0 ≤ a ∧ a ≤ 16777215) (hc : 0 ≤ c ∧ c ≤ 255) : bits .or .u32 (a * 256) c = a * 256 + c := by
  obtain ⟨x, rfl⟩ := Int.eq_ofNat_of_zero_le ha.1
  obtain ⟨y, rfl⟩ := Int.eq_ofNat_of_zero_le hc.1
  rw [show ((x : Int) * 256) = ((x * 256 : Nat) : Int) by omega, u32_or_nat (x * 256) y (by omega) (by omega), Nat.or_comm, show x * 256 = 2 ^ 8 * x by omega, or_hi y x 8 (by omega)]
  omega
def rstL (zs : List Int) : Int := ((gz zs 4 * 256 + gz zs 5) * 256 + gz zs 6) * 256 + gz zs 7
def rstK (zs : List Int) : Nat → Int
  | 0 => 0
  | k + 1 => rstK zs k * 256 + gz zs (4 + k)
theorem rstK_range {zs : List Int} (h : Fit zs) : ∀ k : Nat, 0 ≤ rstK zs k ∧ rstK zs k < 256 ^ k
  | 0 => by simp [rstK]
  | k + 1 => by
    have h1 := rstK_range h k
    have h2 := h.gz (4 + k)
    simp only [rstK, Int.pow_succ]
    omega
theorem rstK_four (zs : List Int) : rstK zs 4 = rstL zs := by simp [rstK, rstL]
def pE (ph : Int → List Int) (zs : List Int) : Int := if zs.length < 8 then 70 else if 65535 < zs.length then 2 else if sumW 0 (wordsL (ph zs.length ++ zs)) = 65535 then 0 else 71
def pM (ph : Int → List Int) (zs : List Int) : Msg := if pE ph zs = 0 then ⟨gz zs 0, gz zs 1, rstL zs, zs.drop 8⟩ else ⟨0, 0, 0, []⟩
/-- A message whose bytes lie in memory made behind world w. -/
def MsgN (w w' : World) (c : List Value) (m : Msg) : Prop := MsgC w' c m ∧ ∃ vb, c = [.int .u8 m.ty, .int .u8 m.code, .int .u32 m.rest, vb] ∧ New w vb m.body
theorem MsgN.old {w w2 W : World} {c : List Value} {m : Msg} (h : MsgN w2 W c m) (hs : w.heap.size ≤ w2.heap.size) : MsgN w W c m := by
  obtain ⟨h1, vb, h2, h3⟩ := h
  exact ⟨h1, vb, h2, h3.old hs⟩
theorem MsgN.only {w W W' : World} {g : Nat} {c : List Value} {m : Msg} (h : MsgN w W c m) (hg : g < w.heap.size) (ho : Only g W W') : MsgN w W' c m := by
  obtain ⟨⟨⟨vb, h1, h2⟩, r1, r2, r3⟩, vb', e, n1⟩ := h
  rw [h1] at e
  simp only [List.cons.injEq, and_true, true_and] at e
  subst e
  exact ⟨⟨⟨vb, h1, n1.only hg h2 ho⟩, r1, r2, r3⟩, vb, h1, n1⟩
theorem MsgC.zero (w : World) : MsgC w [.int .u8 0, .int .u8 0, .int .u32 0, .slice none 0 0] ⟨0, 0, 0, []⟩ := ⟨⟨_, rfl, BytesAt.none w⟩, by decide, by decide, by decide⟩
def ParI (ph : Int → List Int) (zs : List Int) (w : World) (e : Ending) (w' : World) : Prop :=
  ∃ c, e = .returned (.tuple #[.agg c.toArray, .int .i64 (pE ph zs)]) ∧ MsgN w w' c (pM ph zs) ∧ Below w.heap.size w w'
theorem ParI.bad {ph : Int → List Int} {zs : List Int} {w w' : World} {e : Ending} {er : Int} (hu : pE ph zs = er) (hne : er ≠ 0) (h : e = .returned (.tuple #[.agg #[.int .u8 0, .int .u8 0, .int .u32 0, .slice none 0 0], .int .i64 er])) (hb : Below w.heap.size w w') : ParI ph zs w e w' := by
  have h0 : ¬ pE ph zs = 0 := by rw [hu]; exact hne
  refine ⟨[.int .u8 0, .int .u8 0, .int .u32 0, .slice none 0 0], ?_, ?_, hb⟩
  · rw [h, hu]
  · unfold pM
    rw [if_neg h0]
    exact ⟨MsgC.zero w', _, rfl, New.nil _⟩
theorem ParI.good {ph : Int → List Int} {zs : List Int} {w w' : World} {e : Ending} {vb : Value} (hf : Fit zs) (hu : pE ph zs = 0) (h : e = .returned (.tuple #[.agg #[.int .u8 (gz zs 0), .int .u8 (gz zs 1), .int .u32 (rstL zs), vb], .int .i64 0])) (hv : BytesAt w'.heap.size w' vb (zs.drop 8)) (nv : New w vb (zs.drop 8)) (hb : Below w.heap.size w w') : ParI ph zs w e w' := by
  have hr := rstK_range hf 4
  rw [rstK_four] at hr
  have g0 := hf.gz 0
  have g1 := hf.gz 1
  refine ⟨[.int .u8 (gz zs 0), .int .u8 (gz zs 1), .int .u32 (rstL zs), vb], ?_, ?_, hb⟩
  · rw [h, hu]
  · unfold pM
    rw [if_pos hu]
    exact ⟨⟨⟨vb, rfl, hv⟩, ⟨g0.1, by show gz zs 0 ≤ 255; omega⟩, ⟨g1.1, by show gz zs 1 ≤ 255; omega⟩, ⟨hr.1, by have := hr.2; simp at this; show rstL zs ≤ _; omega⟩⟩, vb, rfl, nv⟩
theorem pE_short {ph : Int → List Int} {zs : List Int} (h : zs.length < 8) : pE ph zs = 70 := if_pos h
theorem pE_long {ph : Int → List Int} {zs : List Int} (h : 65535 < zs.length) : pE ph zs = 2 := by
  unfold pE
  rw [if_neg (by omega), if_pos h]
theorem pE_more {ph : Int → List Int} {zs : List Int} (h : 8 ≤ zs.length) (h4 : zs.length ≤ 65535) : pE ph zs = if sumW 0 (wordsL (ph zs.length ++ zs)) = 65535 then 0 else 71 := by
  unfold pE
  rw [if_neg (by omega), if_neg (by omega)]
set_option maxHeartbeats 2000000 in
set_option maxRecDepth 100000 in
theorem parse_short (o : Value) (ph : Int → List Int) (v : Value) (zs : List Int) (w : World) (ho : OverI w o ph) (h : RowC w v zs) (hn : zs.length < 8) :
    Calls Tryz.prog 156 #[o, v] w fun e w' => ParI ph zs w e w' := by
  obtain ⟨g, lb, rfl⟩ := ho.own
  obtain ⟨a, cap, rfl, _⟩ := h.val
  have HE : Hid _ := pE_short (ph := ph) hn
  have HB : Hid _ := (Below.refl w.heap.size w).alloc (Nat.le_refl _) (.cells #[.int .u8 0, .int .u8 0, .int .u32 0, .slice none 0 0] 46)
  obtain ⟨w1, hst, b1, hb1⟩ := box_new Tryz.sizeOf46 w [.int .u8 0, .int .u8 0, .int .u32 0, .slice none 0 0] rfl [.int .u8 0, .int .u8 0, .int .u32 0, .slice none 0 0] rfl (by simp [Value.oneCell'])
  have HST : Hid _ := hst
  have B1 : Hid _ := b1
  have HB1 : Hid _ := hb1
  clear ho h hst b1 hb1
  go_enter Tryz.func156, Tryz.ntmps156
  go_wp2_with ((with_reducible show wpList _ _ _ _ _ _); refine arm_store rfl (.tmp 4) (.tmp 14) 46 rfl rfl rfl HST.out ?_)
  exact bodyPost_ret (res2t rfl rfl (agg_loadVar Tryz.isAgg46 Tryz.sizeOf46 rfl (CellsAt.of_blk B1.out))) rfl (.bad HE.out (by decide) rfl HB1.out)
theorem ex_buildI {o : Oper} {a : Act} {W : World} (p q r s : Operand) {x y z : Int} {t : Option Addr} {n m : Nat} (hop : o.op = Op.build 46 #[(0, p), (1, q), (2, r), (3, s)]) (hp : a.eval p = .int .u8 x) (hq : a.eval q = .int .u8 y) (hr : a.eval r = .int .u32 z) (hs : a.eval s = .slice t n m) :
    (execOp a.eval o).run Tryz.prog W = .ok (.value (.agg [.int .u8 x, .int .u8 y, .int .u32 z, .slice t n m].toArray)) W := by
  generalize a.eval = ev at *
  simp [execOp, hop, hp, hq, hr, hs, go_sem]
theorem ex_rest8 {o : Oper} {a : Act} {W : World} (k : Nat) {b off len cap : Nat} (hop : o.op = Op.slice 25 (.tmp k) (some (.const (.int .i64 8))) none none) (hk : a.eval (.tmp k) = .slice (some ⟨b, off, none⟩) len cap) (h8 : 8 ≤ len) (hc : len ≤ cap) :
    (execOp a.eval o).run Tryz.prog W = .ok (.value (restV b off len cap 8)) W := by
  have hcst : a.eval (.const (.int .i64 8)) = .int .i64 8 := rfl
  generalize a.eval = ev at *
  unfold restV
  by_cases h : cap = 8
  · subst h
    obtain rfl : len = 8 := by omega
    simp [execOp, hop, hk, hcst, go_sem]
  · have h1 : (8 : Int) ≤ (len : Int) := by omega
    simp [execOp, hop, hk, hcst, go_sem, h, h8, hc, h1]
set_option maxHeartbeats 2000000 in
set_option maxRecDepth 100000 in
theorem parse_bad (o : Value) (ph : Int → List Int) (v : Value) (zs : List Int) (w : World) (ho : OverI w o ph) (h : RowC w v zs) (hn : 8 ≤ zs.length) (h0 : pE ph zs ≠ 0) :
    Calls Tryz.prog 156 #[o, v] w fun e w' => ParI ph zs w e w' := by
  obtain ⟨W0, hW0⟩ : ∃ W0, w.alloc (.cells [.int .u8 0, .int .u8 0, .int .u32 0, .slice none 0 0].toArray 46) = W0 := ⟨_, rfl⟩
  have b0 := blk_new w (.cells [.int .u8 0, .int .u8 0, .int .u32 0, .slice none 0 0].toArray 46)
  have hB0 := (Below.refl w.heap.size w).alloc (Nat.le_refl _) (.cells [.int .u8 0, .int .u8 0, .int .u32 0, .slice none 0 0].toArray 46)
  rw [hW0] at b0 hB0
  have hP := parts_one W0 v 25 zs (h.on hB0).bytes
  have hBp := (Below.refl W0.heap.size W0).alloc (Nat.le_refl _) (.cells #[v] 25)
  have hfl : [zs].flatten = zs := by simp
  have hck : ∃ ck e0, Calls Tryz.prog 217 #[o, .slice (some ⟨W0.heap.size, 0, none⟩) 1 1] (W0.alloc (.cells #[v] 25)) (fun e w' => e = .returned (.tuple #[.int .u16 ck, .int .i64 e0]) ∧ Below (W0.alloc (.cells #[v] 25)).heap.size (W0.alloc (.cells #[v] 25)) w') ∧ ((e0 = 0 ∧ ck ≠ 0 ∧ pE ph zs = 71) ∨ (e0 = 2 ∧ pE ph zs = 2)) := by
    by_cases hl : 65535 < zs.length
    · exact ⟨0, 2, check_long o ph _ _ _ (ho.later (hB0.trans (hBp.mono hB0.size))) hP (by simp) (by simpa using hl) (by have := h.len; simp; omega), .inr ⟨rfl, pE_long hl⟩⟩
    · have hc := check_ok o ph _ _ _ (ho.later (hB0.trans (hBp.mono hB0.size))) hP (by simp) (by simp; omega)
      rw [hfl] at hc
      have hm := pE_more (ph := ph) hn (by omega)
      have hs : sumW 0 (wordsL (ph zs.length ++ zs)) ≠ 65535 := fun k => h0 (by rw [hm, if_pos k])
      exact ⟨_, 0, hc, .inl ⟨rfl, by omega, by rw [hm, if_neg hs]⟩⟩
  obtain ⟨ck, e0, hck, hcs⟩ := hck
  obtain ⟨g, lb, rfl⟩ := ho.own
  obtain ⟨a, cap, rfl, _⟩ := h.val
  have HCK : Hid _ := hck
  have B0 : Hid _ := b0
  have HB0 : Hid _ := hB0
  have HBP : Hid _ := hBp
  clear ho h b0 hB0 hBp hP hck hfl h0
  rcases hcs with ⟨rfl, hk0, hE⟩ | ⟨rfl, hE⟩
  · have q1 : (ck != 0) = true := by simpa using hk0
    have HE : Hid _ := hE
    clear hk0 hE
    go_enter Tryz.func156, Tryz.ntmps156
    go_wp2_with fail
    refine Calls.mono HCK.out ?_
    rintro _ w1 ⟨rfl, hb1⟩
    have hx1 := HBP.out.trans (hb1.mono HBP.out.size)
    obtain ⟨w3, hst3, b3, hon3⟩ := box_store Tryz.sizeOf46 (blk_on B0.out hx1) rfl [.int .u8 0, .int .u8 0, .int .u32 0, .slice none 0 0] rfl (by simp [Value.oneCell'])
    have HST : Hid _ := hst3
    have B3 : Hid _ := b3
    have HX : Hid (Below w.heap.size w w3) := (HB0.out.trans (hx1.mono HB0.out.size)).trans (hon3.below (Nat.le_refl _))
    clear hst3 b3 hon3 hx1 hb1 HCK
    go_wp2_with ((with_reducible show wpList _ _ _ _ _ _); refine arm_store rfl (.tmp 4) (.tmp 30) 46 rfl rfl rfl HST.out ?_)
    exact bodyPost_ret (res2t rfl rfl (agg_loadVar Tryz.isAgg46 Tryz.sizeOf46 rfl (CellsAt.of_blk B3.out))) rfl (.bad HE.out (by decide) rfl HX.out)
  · have HE : Hid _ := hE
    clear hE
    go_enter Tryz.func156, Tryz.ntmps156
    go_wp2_with fail
    refine Calls.mono HCK.out ?_
    rintro _ w1 ⟨rfl, hb1⟩
    have hx1 := HBP.out.trans (hb1.mono HBP.out.size)
    obtain ⟨w3, hst3, b3, hon3⟩ := box_store Tryz.sizeOf46 (blk_on B0.out hx1) rfl [.int .u8 0, .int .u8 0, .int .u32 0, .slice none 0 0] rfl (by simp [Value.oneCell'])
    have HST : Hid _ := hst3
    have B3 : Hid _ := b3
    have HX : Hid (Below w.heap.size w w3) := (HB0.out.trans (hx1.mono HB0.out.size)).trans (hon3.below (Nat.le_refl _))
    clear hst3 b3 hon3 hx1 hb1 HCK
    go_wp2_with ((with_reducible show wpList _ _ _ _ _ _); refine arm_store rfl (.tmp 4) (.tmp 30) 46 rfl rfl rfl HST.out ?_)
    exact bodyPost_ret (res2t rfl rfl (agg_loadVar Tryz.isAgg46 Tryz.sizeOf46 rfl (CellsAt.of_blk B3.out))) rfl (.bad HE.out (by decide) rfl HX.out)
end Go.Proofs.YtpgnnplpcalbbaaGreat.Icm
namespace Go.Proofs.YtpgnnplpcalbbaaGreat.Icm
open Go Go.RowKit Go.Shelf
set_option maxHeartbeats 4000000 in
set_option maxRecDepth 100000 in
theorem parse_good (o : Value) (ph : Int → List Int) (v : Value) (zs : List Int) (w : World) (ho : OverI w o ph) (h : RowC w v zs) (hn : 8 ≤ zs.length) (h0 : pE ph zs = 0) :
    Calls Tryz.prog 156 #[o, v] w fun e w' => ParI ph zs w e w' := by
  obtain ⟨W0, hW0⟩ : ∃ W0, w.alloc (.cells [.int .u8 0, .int .u8 0, .int .u32 0, .slice none 0 0].toArray 46) = W0 := ⟨_, rfl⟩
  have b0 := blk_new w (.cells [.int .u8 0, .int .u8 0, .int .u32 0, .slice none 0 0].toArray 46)
  have hB0 := (Below.refl w.heap.size w).alloc (Nat.le_refl _) (.cells [.int .u8 0, .int .u8 0, .int .u32 0, .slice none 0 0].toArray 46)
  have HS0 : Hid (W0.heap.size = w.heap.size + 1) := by
    have : W0.heap.size = w.heap.size + 1 := by rw [← hW0]; simp
    exact this
  rw [hW0] at b0 hB0
  have hP := parts_one W0 v 25 zs (h.on hB0).bytes
  have hBp := (Below.refl W0.heap.size W0).alloc (Nat.le_refl _) (.cells #[v] 25)
  have hfl : [zs].flatten = zs := by simp
  have hl : zs.length ≤ 65535 := by
    by_cases hl : 65535 < zs.length
    · rw [pE_long hl] at h0
      exact absurd h0 (by decide)
    · omega
  have hm := pE_more (ph := ph) hn hl
  have hs : sumW 0 (wordsL (ph zs.length ++ zs)) = 65535 := by
    by_cases k : sumW 0 (wordsL (ph zs.length ++ zs)) = 65535
    · exact k
    · rw [hm, if_neg k] at h0
      exact absurd h0 (by decide)
  have hck := check_ok o ph _ _ _ (ho.later (hB0.trans (hBp.mono hB0.size))) hP (by simp) (by simp; omega)
  rw [hfl, hs] at hck
  obtain ⟨g, lb, rfl⟩ := ho.own
  have hfit := h.fit
  obtain ⟨b, off, cap, rfl, hcap, hbl, hcell⟩ := h.some (by omega)
  have HRW : Hid (∀ W, Below W0.heap.size W0 W → RowC W (.slice (some ⟨b, off, none⟩) zs.length cap) zs) := fun W hW => h.on (hB0.trans (hW.mono hB0.size))
  have HCE : Hid (∀ W, Below w.heap.size w W → ∀ j, j < zs.length → W.cell? ⟨b, off + j, none⟩ = some (.int .u8 (gz zs j))) := fun W hW j hj => (hW.cell (p := ⟨b, off + j, none⟩) hbl).trans (hcell j hj)
  have HCL : Hid (∀ W, Below W0.heap.size W0 W → Calls Tryz.prog 129 #[restV b off zs.length cap 8] W fun e w' => ∃ u, e = .returned u ∧ (BytesAt w'.heap.size w' u (zs.drop 8) ∧ Below W.heap.size W w' ∧ New W u (zs.drop 8))) := fun W hW => by
    obtain ⟨b', off', cap', hS⟩ := (h.on (hB0.trans (hW.mono hB0.size))).rowS (by omega)
    obtain ⟨e1, e2, e3⟩ : b = b' ∧ off = off' ∧ cap = cap' := by
      have k := hS.val
      simp at k
      exact ⟨k.1.1, k.1.2, k.2⟩
    subst e1 e2 e3
    exact (V6.Clone_bs _ _ W (hS.rest 8 hn).row).mono (fun e w' k => by
      obtain ⟨u, k1, k2, k3⟩ := k
      exact ⟨u, k1, k2.row.bytes, k3, .of_bs k2⟩)
  have HCK : Hid _ := hck
  have B0 : Hid _ := b0
  have HB0 : Hid _ := hB0
  have HBP : Hid _ := hBp
  have HE : Hid _ := h0
  have HF : Hid _ := hfit
  have hr := fun k => rstK_range hfit k
  have HR : Hid _ := hr
  have hgz : Hid (∀ k, 0 ≤ gz zs k ∧ gz zs k < 256) := fun k => hfit.gz k
  have hne4 : (cap = 4) = False := eq_false (by omega)
  have hc8 : 8 ≤ cap := by omega
  clear ho h b0 hB0 hBp hP hck hfl h0 hm hs hfit hcell hr
  go_enter Tryz.func156, Tryz.ntmps156
  go_wp2_with fail
  refine Calls.mono HCK.out ?_
  rintro _ w1 ⟨rfl, hb1⟩
  have hx1 := HBP.out.trans (hb1.mono HBP.out.size)
  clear hb1 HCK HBP
  go_wp2
  go_loopw [8, 35] (fun r i wr => ∃ k : Nat, k ≤ 4 ∧ i = .int .i64 k ∧ r = .int .u32 (rstK zs k) ∧ wr = w1) (fun _ i _ => 4 - (intOf i).toNat)
  case atStart => exact ⟨0, Nat.zero_le _, rfl, rfl, rfl⟩
  case round =>
    obtain ⟨k, hk, rfl, rfl, rfl⟩ := hrel
    by_cases hlt : k < 4
    · have hc := HCE.out _ (HB0.out.trans (hx1.mono HB0.out.size)) (4 + k) (by omega)
      have hor : bits .or .u32 (rstK zs k * 256) (gz zs (4 + k)) = rstK zs (k + 1) := by
        have h1 := HR.out k
        have h2 := hgz.out (4 + k)
        refine or_byte32 _ _ ⟨h1.1, ?_⟩ ⟨h2.1, by omega⟩
        have : (256 : Int) ^ k ≤ 256 ^ 3 := by
          rcases (by omega : k = 0 ∨ k = 1 ∨ k = 2 ∨ k = 3) with rfl | rfl | rfl | rfl <;> decide
        have h3 := h1.2
        simp at this
        omega
      have hw : IntKind.u32.wrap (rstK zs k * 256) = rstK zs k * 256 := by
        have h1 := HR.out (k + 1)
        have h2 := hgz.out (4 + k)
        have h3 : rstK zs (k + 1) = rstK zs k * 256 + gz zs (4 + k) := rfl
        have h4 := HR.out k
        have : (256 : Int) ^ (k + 1) ≤ 256 ^ 4 := by
          rcases (by omega : k = 0 ∨ k = 1 ∨ k = 2 ∨ k = 3) with rfl | rfl | rfl | rfl <;> decide
        simp at this
        rw [IntKind.wrap_u32]
        omega
      rw [← Nat.add_assoc] at hc
      have hz4 : gz zs (4 + k) % 4294967296 = gz zs (4 + k) := by
        have := hgz.out (4 + k)
        omega
      generalize gz zs (4 + k) = z at *
      obtain ⟨r1, hr1⟩ : ∃ r1, rstK zs (k + 1) = r1 := ⟨_, rfl⟩
      rw [hr1] at hor
      have HK1 : Hid _ := hr1
      clear hr1
      generalize rstK zs k = r0 at *
      go_wp2
      exact ⟨⟨k + 1, by omega, by simp, by rw [HK1.out], trivial⟩, by simp [intOf]; omega⟩
    · obtain rfl : k = 4 := by omega
      rw [rstK_four]
      have c0 := fun W hW => HCE.out W hW 0 (by omega)
      have C0 : Hid _ := c0
      have c1 := fun W hW => HCE.out W hW 1 (by omega)
      have C1 : Hid _ := c1
      clear c0 c1 HCE
      generalize hg0 : gz zs 0 = z0 at *
      generalize hg1 : gz zs 1 = z1 at *
      generalize hgr : rstL zs = zr at *
      have G0 : Hid _ := hg0
      have G1 : Hid _ := hg1
      have GR : Hid _ := hgr
      clear hg0 hg1 hgr
      have h0l : 0 < zs.length := by omega
      have h1l : 1 < zs.length := by omega
      go_wp2_with fail
      have hd1 : Below W0.heap.size W0 wr.drew := hx1.drew
      have hwd : Below w.heap.size w wr.drew := HB0.out.trans (hd1.mono HB0.out.size)
      refine wp_region_held (S := fun W => Below w.heap.size w W) (by kernel_rfl) ?_
      show wpAnyH _ _ _ _ _ 13 (Array.replicate 13 false) _ wr.drew
      refine take_one (i := 0) (d := some 45) (v := .slice (some ⟨b, off, none⟩) zs.length cap) rfl rfl rfl (by kernel_rfl) (by kernel_rfl) (by kernel_rfl) (fun _ _ d _ _ h => by cases d <;> exact h) (fun W hS => ex_move (.tmp 1) rfl rfl) hwd ?_
      simp only [Act.put, List.setIfInBounds_toArray, List.set_cons_zero, List.set_cons_succ]
      refine take_one (i := 1) (d := some 46) (v := .pointer (some ⟨b, off + 0, none⟩)) rfl rfl rfl (by kernel_rfl) (by kernel_rfl) (by kernel_rfl) (fun _ _ d _ _ h => by cases d <;> exact h) (fun W hS => ex_index 45 0 rfl rfl h0l) hwd ?_
      simp only [Act.put, List.setIfInBounds_toArray, List.set_cons_zero, List.set_cons_succ]
      refine take_one (i := 2) (d := some 47) (v := .int .u8 z0) rfl rfl rfl (by kernel_rfl) (by kernel_rfl) (by kernel_rfl) (fun _ _ d _ _ h => by cases d <;> exact h) (fun W hS => ex_load8 46 rfl rfl (C0.out W hS)) hwd ?_
      simp only [Act.put, List.setIfInBounds_toArray, List.set_cons_zero, List.set_cons_succ]
      refine take_one (i := 3) (d := some 48) (v := .slice (some ⟨b, off, none⟩) zs.length cap) rfl rfl rfl (by kernel_rfl) (by kernel_rfl) (by kernel_rfl) (fun _ _ d _ _ h => by cases d <;> exact h) (fun W hS => ex_move (.tmp 1) rfl rfl) hwd ?_
      simp only [Act.put, List.setIfInBounds_toArray, List.set_cons_zero, List.set_cons_succ]
      refine take_one (i := 4) (d := some 49) (v := .pointer (some ⟨b, off + 1, none⟩)) rfl rfl rfl (by kernel_rfl) (by kernel_rfl) (by kernel_rfl) (fun _ _ d _ _ h => by cases d <;> exact h) (fun W hS => ex_index 48 1 rfl rfl h1l) hwd ?_
      simp only [Act.put, List.setIfInBounds_toArray, List.set_cons_zero, List.set_cons_succ]
      refine take_one (i := 5) (d := some 50) (v := .int .u8 z1) rfl rfl rfl (by kernel_rfl) (by kernel_rfl) (by kernel_rfl) (fun _ _ d _ _ h => by cases d <;> exact h) (fun W hS => ex_load8 49 rfl rfl (C1.out W hS)) hwd ?_
      simp only [Act.put, List.setIfInBounds_toArray, List.set_cons_zero, List.set_cons_succ]
      refine take_one (i := 6) (d := some 51) (v := .int .u32 zr) rfl rfl rfl (by kernel_rfl) (by kernel_rfl) (by kernel_rfl) (fun _ _ d _ _ h => by cases d <;> exact h) (fun W hS => ex_move (.tmp 8) rfl rfl) hwd ?_
      simp only [Act.put, List.setIfInBounds_toArray, List.set_cons_zero, List.set_cons_succ]
      refine take_one (i := 7) (d := some 52) (v := .slice (some ⟨b, off, none⟩) zs.length cap) rfl rfl rfl (by kernel_rfl) (by kernel_rfl) (by kernel_rfl) (fun _ _ d _ _ h => by cases d <;> exact h) (fun W hS => ex_move (.tmp 1) rfl rfl) hwd ?_
      simp only [Act.put, List.setIfInBounds_toArray, List.set_cons_zero, List.set_cons_succ]
      refine take_one (i := 8) (d := some 53) (v := restV b off zs.length cap 8) rfl rfl rfl (by kernel_rfl) (by kernel_rfl) (by kernel_rfl) (fun _ _ d _ _ h => by cases d <;> exact h) (fun W hS => ex_rest8 52 rfl rfl hn hcap) hwd ?_
      simp only [Act.put, List.setIfInBounds_toArray, List.set_cons_zero, List.set_cons_succ]
      refine all_one (i := 9) (by kernel_rfl) rfl rfl ?_
      refine wp_call (d := some 54) 129 _ rfl (by kernel_rfl) (HCL.out _ hd1) ?_
      rintro u w2 ⟨hu, hb2, hnw⟩
      have hx2 := hd1.trans (hb2.mono hd1.size)
      obtain ⟨au, cu, rfl, _⟩ := hu.val
      have hxw2 := hwd.trans (hb2.mono hwd.size)
      refine ⟨hxw2, ?_⟩
      simp only [Act.put, List.setIfInBounds_toArray, List.set_cons_zero, List.set_cons_succ]
      refine take_one (i := 10) (d := some 55) (v := .agg [.int .u8 z0, .int .u8 z1, .int .u32 zr, .slice au (zs.drop 8).length cu].toArray) rfl rfl rfl (by kernel_rfl) (by kernel_rfl) (by kernel_rfl) (fun _ _ d _ _ h => by cases d <;> exact h) (fun W hS => ex_buildI (.tmp 47) (.tmp 50) (.tmp 51) (.tmp 54) rfl rfl rfl rfl rfl) hxw2 ?_
      simp only [Act.put, List.setIfInBounds_toArray, List.set_cons_zero, List.set_cons_succ]
      obtain ⟨w3, hst3, b3, hon3⟩ := box_store Tryz.sizeOf46 (blk_on B0.out hx2) rfl [.int .u8 z0, .int .u8 z1, .int .u32 zr, .slice au (zs.drop 8).length cu] rfl (by simp [Value.oneCell'])
      have hx3 : Below w.heap.size w w3 := (HB0.out.trans (hx2.mono HB0.out.size)).trans (hon3.below (Nat.le_refl _))
      have hsz := HS0.out
      have hsd := hd1.size
      have hnw0 : New W0 (.slice au (zs.drop 8).length cu) (zs.drop 8) := hnw.old hsd
      have hu3 := hnw0.only (by omega) hu hon3
      have HX3 : Hid _ := hx3
      have HU3 : Hid _ := hu3
      have HN3 : Hid (New w (.slice au (zs.drop 8).length cu) (zs.drop 8)) := hnw0.old (by omega)
      have B3 : Hid _ := b3
      refine all_one (i := 11) (by kernel_rfl) rfl rfl ?_
      refine store_wp (.tmp 4) (.tmp 55) 46 rfl rfl rfl hst3 ⟨hx3, ?_⟩
      simp only [Act.put, List.setIfInBounds_toArray, List.set_cons_zero, List.set_cons_succ]
      refine take_one (i := 12) (d := some 5) (v := .int .i64 0) rfl rfl rfl (by kernel_rfl) (by kernel_rfl) (by kernel_rfl) (fun _ _ d _ _ h => by cases d <;> exact h) (fun W hS => ex_assign (.const (.int .i64 0)) rfl rfl) hx3 ?_
      simp only [Act.put, List.setIfInBounds_toArray, List.set_cons_zero, List.set_cons_succ]
      refine wpAnyH_done (by kernel_rfl) ?_ _
      clear hsz hsd hnw0 hu3 hx3 b3 hon3 hst3 hnw hu hb2
      go_wp2
      obtain rfl := G0.out
      obtain rfl := G1.out
      obtain rfl := GR.out
      exact bodyPost_ret (res2t rfl rfl (agg_loadVar Tryz.isAgg46 Tryz.sizeOf46 rfl (CellsAt.of_blk B3.out))) rfl (.good HF.out HE.out rfl HU3.out HN3.out HX3.out)
end Go.Proofs.YtpgnnplpcalbbaaGreat.Icm
