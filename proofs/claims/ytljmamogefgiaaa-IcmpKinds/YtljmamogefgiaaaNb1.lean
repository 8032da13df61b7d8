/-
  parse of package icmp.
-/
import Derived.Test.YtljmamogefgiaaaNb0
namespace Go.Proofs.Ytljmamogefgiaaa
open Go Go.RowKit Go.Shelf
set_option linter.unusedVariables false
set_option linter.unusedSimpArgs false

theorem or_byte32 (a c : Int) (ha : 0 ≤ a ∧ a ≤ 16777215) (hc : 0 ≤ c ∧ c ≤ 255) : bits .or .u32 (a * 256) c = a * 256 + c := by
  obtain ⟨x, rfl⟩ := Int.eq_ofNat_of_zero_le ha.1
  obtain ⟨y, rfl⟩ := Int.eq_ofNat_of_zero_le hc.1
  rw [show ((x : Int) * 256) = ((x * 256 : Nat) : Int) by omega, u32_or_nat (x * 256) y (by omega) (by omega), Nat.or_comm, show x * 256 = 2 ^ 8 * x by omega, or_hi y x 8 (by omega)]
  omega
def rstL (zs : List Int) : Int := ((gz zs 4 * 256 + gz zs 5) * 256 + gz zs 6) * 256 + gz zs 7
def rstK (zs : List Int) : Nat → Int
  | 0 => 0
  | k + 1 => rstK zs k * 256 + gz zs (4 + k)
theorem rstK_range {zs : List Int} (h : Fit zs) : ∀ k : Nat, 0 ≤ rstK zs k ∧ rstK zs k < 256 ^ k
  | 0 => by simp [rstK]
  | k + 1 => by
    have h1 := rstK_range h k
    have h2 := h.gz (4 + k)
    simp only [rstK, Int.pow_succ]
    omega
theorem rstK_four (zs : List Int) : rstK zs 4 = rstL zs := by simp [rstK, rstL]
def pE (ph : Int → List Int) (zs : List Int) : Int := if zs.length < 8 then 70 else if 65535 < zs.length then 2 else if sumW 0 (wordsL (ph zs.length ++ zs)) = 65535 then 0 else 71
def pM (ph : Int → List Int) (zs : List Int) : Msg := if pE ph zs = 0 then ⟨gz zs 0, gz zs 1, rstL zs, zs.drop 8⟩ else ⟨0, 0, 0, []⟩
/-- A message whose bytes lie in memory made behind world w. -/
def MsgN (w w' : World) (c : List Value) (m : Msg) : Prop := MsgC w' c m ∧ ∃ vb, c = [.int .u8 m.ty, .int .u8 m.code, .int .u32 m.rest, vb] ∧ New w vb m.body
theorem MsgN.old {w w2 W : World} {c : List Value} {m : Msg} (h : MsgN w2 W c m) (hs : w.heap.size ≤ w2.heap.size) : MsgN w W c m := by
  obtain ⟨h1, vb, h2, h3⟩ := h
  exact ⟨h1, vb, h2, h3.old hs⟩
theorem MsgN.only {w W W' : World} {g : Nat} {c : List Value} {m : Msg} (h : MsgN w W c m) (hg : g < w.heap.size) (ho : Only g W W') : MsgN w W' c m := by
  obtain ⟨⟨⟨vb, h1, h2⟩, r1, r2, r3⟩, vb', e, n1⟩ := h
  rw [h1] at e
  simp only [List.cons.injEq, and_true, true_and] at e
  subst e
  exact ⟨⟨⟨vb, h1, n1.only hg h2 ho⟩, r1, r2, r3⟩, vb, h1, n1⟩
theorem MsgC.zero (w : World) : MsgC w [.int .u8 0, .int .u8 0, .int .u32 0, .slice none 0 0] ⟨0, 0, 0, []⟩ := ⟨⟨_, rfl, BytesAt.none w⟩, by decide, by decide, by decide⟩
def ParI (ph : Int → List Int) (zs : List Int) (w : World) (e : Ending) (w' : World) : Prop :=
  ∃ c, e = .returned (.tuple #[.agg c.toArray, .int .i64 (pE ph zs)]) ∧ MsgN w w' c (pM ph zs) ∧ Below w.heap.size w w'
theorem ParI.bad {ph : Int → List Int} {zs : List Int} {w w' : World} {e : Ending} {er : Int} (hu : pE ph zs = er) (hne : er ≠ 0) (h : e = .returned (.tuple #[.agg #[.int .u8 0, .int .u8 0, .int .u32 0, .slice none 0 0], .int .i64 er])) (hb : Below w.heap.size w w') : ParI ph zs w e w' := by
  have h0 : ¬ pE ph zs = 0 := by rw [hu]; exact hne
  refine ⟨[.int .u8 0, .int .u8 0, .int .u32 0, .slice none 0 0], ?_, ?_, hb⟩
  · rw [h, hu]
  · unfold pM
    rw [if_neg h0]
    exact ⟨MsgC.zero w', _, rfl, .inl rfl⟩
theorem ParI.good {ph : Int → List Int} {zs : List Int} {w w' : World} {e : Ending} {vb : Value} (hf : Fit zs) (hu : pE ph zs = 0) (h : e = .returned (.tuple #[.agg #[.int .u8 (gz zs 0), .int .u8 (gz zs 1), .int .u32 (rstL zs), vb], .int .i64 0])) (hv : BytesAt w'.heap.size w' vb (zs.drop 8)) (nv : New w vb (zs.drop 8)) (hb : Below w.heap.size w w') : ParI ph zs w e w' := by
  have hr := rstK_range hf 4
  rw [rstK_four] at hr
  have g0 := hf.gz 0
  have g1 := hf.gz 1
  refine ⟨[.int .u8 (gz zs 0), .int .u8 (gz zs 1), .int .u32 (rstL zs), vb], ?_, ?_, hb⟩
  · rw [h, hu]
  · unfold pM
    rw [if_pos hu]
    exact ⟨⟨⟨vb, rfl, hv⟩, ⟨g0.1, by show gz zs 0 ≤ 255; omega⟩, ⟨g1.1, by show gz zs 1 ≤ 255; omega⟩, ⟨hr.1, by have := hr.2; simp at this; show rstL zs ≤ _; omega⟩⟩, vb, rfl, nv⟩
theorem pE_short {ph : Int → List Int} {zs : List Int} (h : zs.length < 8) : pE ph zs = 70 := if_pos h
theorem pE_long {ph : Int → List Int} {zs : List Int} (h : 65535 < zs.length) : pE ph zs = 2 := by
  unfold pE
  rw [if_neg (by omega), if_pos h]
theorem pE_more {ph : Int → List Int} {zs : List Int} (h : 8 ≤ zs.length) (h4 : zs.length ≤ 65535) : pE ph zs = if sumW 0 (wordsL (ph zs.length ++ zs)) = 65535 then 0 else 71 := by
  unfold pE
  rw [if_neg (by omega), if_neg (by omega)]

set_option maxHeartbeats 2000000 in
set_option maxRecDepth 100000 in
theorem parse_short (o : Value) (ph : Int → List Int) (v : Value) (zs : List Int) (w : World) (ho : OverI w o ph) (h : RowC w v zs) (hn : zs.length < 8) :
    Calls Try.prog 39 #[o, v] w fun e w' => ParI ph zs w e w' := by
  obtain ⟨g, lb, rfl⟩ := ho.own
  obtain ⟨a, cap, rfl, _⟩ := h.val
  have HE : Hid _ := pE_short (ph := ph) hn
  have HB : Hid _ := (Below.refl w.heap.size w).alloc (Nat.le_refl _) (.cells #[.int .u8 0, .int .u8 0, .int .u32 0, .slice none 0 0] 26)
  obtain ⟨w1, hst, b1, hb1⟩ := box_new Try.sizeOf26 w [.int .u8 0, .int .u8 0, .int .u32 0, .slice none 0 0] rfl [.int .u8 0, .int .u8 0, .int .u32 0, .slice none 0 0] rfl (by simp [Value.oneCell'])
  have HST : Hid _ := hst
  have B1 : Hid _ := b1
  have HB1 : Hid _ := hb1
  clear ho h hst b1 hb1
  go_enter Try.func39, Try.ntmps39
  go_wp2_with ((with_reducible show wpList _ _ _ _ _ _); refine arm_store rfl (.tmp 4) (.tmp 14) 26 rfl rfl rfl HST.out ?_)
  exact bodyPost_ret (res2t rfl rfl (agg_loadVar Try.isAgg26 Try.sizeOf26 rfl (CellsAt.of_blk B1.out))) rfl (.bad HE.out (by decide) rfl HB1.out)

theorem ex_buildI {o : Oper} {a : Act} {W : World} (p q r s : Operand) {x y z : Int} {t : Option Addr} {n m : Nat} (hop : o.op = Op.build 26 #[(0, p), (1, q), (2, r), (3, s)]) (hp : a.eval p = .int .u8 x) (hq : a.eval q = .int .u8 y) (hr : a.eval r = .int .u32 z) (hs : a.eval s = .slice t n m) :
    (execOp a.eval o).run Try.prog W = .ok (.value (.agg [.int .u8 x, .int .u8 y, .int .u32 z, .slice t n m].toArray)) W := by
  generalize a.eval = ev at *
  simp [execOp, hop, hp, hq, hr, hs, go_sem]
theorem ex_rest8 {o : Oper} {a : Act} {W : World} (k : Nat) {b off len cap : Nat} (hop : o.op = Op.slice 24 (.tmp k) (some (.const (.int .i64 8))) none none) (hk : a.eval (.tmp k) = .slice (some ⟨b, off, none⟩) len cap) (h8 : 8 ≤ len) (hc : len ≤ cap) :
    (execOp a.eval o).run Try.prog W = .ok (.value (restV b off len cap 8)) W := by
  have hcst : a.eval (.const (.int .i64 8)) = .int .i64 8 := rfl
  generalize a.eval = ev at *
  unfold restV
  by_cases h : cap = 8
  · subst h
    obtain rfl : len = 8 := by omega
    simp [execOp, hop, hk, hcst, go_sem]
  · have h1 : (8 : Int) ≤ (len : Int) := by omega
    simp [execOp, hop, hk, hcst, go_sem, h, h8, hc, h1]

set_option maxHeartbeats 2000000 in
set_option maxRecDepth 100000 in
theorem parse_bad (o : Value) (ph : Int → List Int) (v : Value) (zs : List Int) (w : World) (ho : OverI w o ph) (h : RowC w v zs) (hn : 8 ≤ zs.length) (h0 : pE ph zs ≠ 0) :
    Calls Try.prog 39 #[o, v] w fun e w' => ParI ph zs w e w' := by
  obtain ⟨W0, hW0⟩ : ∃ W0, w.alloc (.cells [.int .u8 0, .int .u8 0, .int .u32 0, .slice none 0 0].toArray 26) = W0 := ⟨_, rfl⟩
  have b0 := blk_new w (.cells [.int .u8 0, .int .u8 0, .int .u32 0, .slice none 0 0].toArray 26)
  have hB0 := (Below.refl w.heap.size w).alloc (Nat.le_refl _) (.cells [.int .u8 0, .int .u8 0, .int .u32 0, .slice none 0 0].toArray 26)
  rw [hW0] at b0 hB0
  have hP := parts_one W0 v 24 zs (h.on hB0).bytes
  have hBp := (Below.refl W0.heap.size W0).alloc (Nat.le_refl _) (.cells #[v] 24)
  have hfl : [zs].flatten = zs := by simp
  have hck : ∃ ck e0, Calls Try.prog 47 #[o, .slice (some ⟨W0.heap.size, 0, none⟩) 1 1] (W0.alloc (.cells #[v] 24)) (fun e w' => e = .returned (.tuple #[.int .u16 ck, .int .i64 e0]) ∧ Below (W0.alloc (.cells #[v] 24)).heap.size (W0.alloc (.cells #[v] 24)) w') ∧ ((e0 = 0 ∧ ck ≠ 0 ∧ pE ph zs = 71) ∨ (e0 = 2 ∧ pE ph zs = 2)) := by
    by_cases hl : 65535 < zs.length
    · exact ⟨0, 2, check_long o ph _ _ _ (ho.later (hB0.trans (hBp.mono hB0.size))) hP (by simp) (by simpa using hl) (by have := h.len; simp; omega), .inr ⟨rfl, pE_long hl⟩⟩
    · have hc := check_ok o ph _ _ _ (ho.later (hB0.trans (hBp.mono hB0.size))) hP (by simp) (by simp; omega)
      rw [hfl] at hc
      have hm := pE_more (ph := ph) hn (by omega)
      have hs : sumW 0 (wordsL (ph zs.length ++ zs)) ≠ 65535 := fun k => h0 (by rw [hm, if_pos k])
      exact ⟨_, 0, hc, .inl ⟨rfl, by omega, by rw [hm, if_neg hs]⟩⟩
  obtain ⟨ck, e0, hck, hcs⟩ := hck
  obtain ⟨g, lb, rfl⟩ := ho.own
  obtain ⟨a, cap, rfl, _⟩ := h.val
  have HCK : Hid _ := hck
  have B0 : Hid _ := b0
  have HB0 : Hid _ := hB0
  have HBP : Hid _ := hBp
  clear ho h b0 hB0 hBp hP hck hfl h0
  rcases hcs with ⟨rfl, hk0, hE⟩ | ⟨rfl, hE⟩
  · have q1 : (ck != 0) = true := by simpa using hk0
    have HE : Hid _ := hE
    clear hk0 hE
    go_enter Try.func39, Try.ntmps39
    go_wp2_with fail
    refine Calls.mono HCK.out ?_
    rintro _ w1 ⟨rfl, hb1⟩
    have hx1 := HBP.out.trans (hb1.mono HBP.out.size)
    obtain ⟨w3, hst3, b3, hon3⟩ := box_store Try.sizeOf26 (blk_on B0.out hx1) rfl [.int .u8 0, .int .u8 0, .int .u32 0, .slice none 0 0] rfl (by simp [Value.oneCell'])
    have HST : Hid _ := hst3
    have B3 : Hid _ := b3
    have HX : Hid (Below w.heap.size w w3) := (HB0.out.trans (hx1.mono HB0.out.size)).trans (hon3.below (Nat.le_refl _))
    clear hst3 b3 hon3 hx1 hb1 HCK
    go_wp2_with ((with_reducible show wpList _ _ _ _ _ _); refine arm_store rfl (.tmp 4) (.tmp 30) 26 rfl rfl rfl HST.out ?_)
    exact bodyPost_ret (res2t rfl rfl (agg_loadVar Try.isAgg26 Try.sizeOf26 rfl (CellsAt.of_blk B3.out))) rfl (.bad HE.out (by decide) rfl HX.out)
  · have HE : Hid _ := hE
    clear hE
    go_enter Try.func39, Try.ntmps39
    go_wp2_with fail
    refine Calls.mono HCK.out ?_
    rintro _ w1 ⟨rfl, hb1⟩
    have hx1 := HBP.out.trans (hb1.mono HBP.out.size)
    obtain ⟨w3, hst3, b3, hon3⟩ := box_store Try.sizeOf26 (blk_on B0.out hx1) rfl [.int .u8 0, .int .u8 0, .int .u32 0, .slice none 0 0] rfl (by simp [Value.oneCell'])
    have HST : Hid _ := hst3
    have B3 : Hid _ := b3
    have HX : Hid (Below w.heap.size w w3) := (HB0.out.trans (hx1.mono HB0.out.size)).trans (hon3.below (Nat.le_refl _))
    clear hst3 b3 hon3 hx1 hb1 HCK
    go_wp2_with ((with_reducible show wpList _ _ _ _ _ _); refine arm_store rfl (.tmp 4) (.tmp 30) 26 rfl rfl rfl HST.out ?_)
    exact bodyPost_ret (res2t rfl rfl (agg_loadVar Try.isAgg26 Try.sizeOf26 rfl (CellsAt.of_blk B3.out))) rfl (.bad HE.out (by decide) rfl HX.out)

end Go.Proofs.Ytljmamogefgiaaa
