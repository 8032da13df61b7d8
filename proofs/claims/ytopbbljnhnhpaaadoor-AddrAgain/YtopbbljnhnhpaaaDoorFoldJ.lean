/-
  AddrAgain: what is parsed, said and parsed is the same.
  The walk of AddrAgain.
-/
import Derived.Test.YtopbbljnhnhpaaaDoorFoldH
import Derived.Test.YtopbbljnhnhpaaaDoorFoldG
import Derived.Test.YtopbbljnhnhpaaaDoorFoldI
import Derived.Test.YtopbbljnhnhpaaaDoorRd3
namespace Go.Proofs.YtopbbljnhnhpaaaDoor
open Go Go.RowKit
set_option linter.unusedVariables false
set_option linter.unusedSimpArgs false

theorem ok_read {σ : Type} {R : Reader σ} {O : σ → Prop} (hO : ∀ s r s', R.take s r = some s' → O s → O s') : ∀ (l : List UInt8) (pos : Nat) (p p' : σ), O p → R.read l pos p = .good p' → O p'
  | [], pos, p, p', h1, h => by
    unfold Reader.read at h
    split at h
    · injection h with h
      rw [← h]
      exact h1
    · cases h
  | c :: l, pos, p, p', h1, h => by
    unfold Reader.read at h
    split at h
    · cases h
    · rename_i q hq
      exact ok_read hO l _ q p' (hO _ _ _ hq h1) h

theorem pre_okR {σ : Type} {R : Reader σ} {most : Int} {O : σ → Prop} (hO : ∀ s r s', R.take s r = some s' → O s → O s') : ∀ (l : List UInt8) (pos : Nat) (p p' : Pre σ), O p.addr → p.num.Ok most → (preReader R most).read l pos p = .good p' → O p'.addr ∧ p'.num.Ok most
  | [], pos, p, p', h1, h2, h => by
    unfold Reader.read at h
    split at h
    · injection h with h
      rw [← h]
      exact ⟨h1, h2⟩
    · cases h
  | c :: l, pos, p, p', h1, h2, h => by
    unfold Reader.read at h
    split at h
    · cases h
    · rename_i q hq
      have hq' : preTake R most p c.toNat = some q := hq
      have k : O q.addr ∧ q.num.Ok most := by
        unfold preTake at hq'
        split at hq'
        · obtain ⟨n, hn, rfl⟩ := Option.map_eq_some_iff.1 hq'
          exact ⟨h1, Num.take_ok hn h2⟩
        · split at hq'
          · cases hq'
            exact ⟨h1, h2⟩
          · obtain ⟨n, hn, rfl⟩ := Option.map_eq_some_iff.1 hq'
            exact ⟨hO _ _ _ hn h1, h2⟩
      exact pre_okR hO l _ q p' k.1 k.2 h

theorem pre_ok6 (l : List UInt8) (pos : Nat) (p p' : Pre Grp) (h1 : p.addr.Ok) (h2 : p.num.Ok 128) (h : (preReader grpReader 128).read l pos p = .good p') : p'.addr.Ok ∧ p'.num.Ok 128 := pre_okR (O := Grp.Ok) (fun s r s' h hk => Grp.take_ok h hk) l pos p p' h1 h2 h
theorem pre_ok4 (l : List UInt8) (pos : Nat) (p p' : Pre Dot) (h1 : p.addr.Ok) (h2 : p.num.Ok 32) (h : (preReader dotReader 32).read l pos p = .good p') : p'.addr.Ok ∧ p'.num.Ok 32 := pre_okR (O := Dot.Ok) (fun s r s' h hk => Dot.take_ok h hk) l pos p p' h1 h2 h

theorem zero_fit : FitB (List.replicate 16 0) := fun z hz => by rw [(List.mem_replicate.1 hz).2]; decide

/-- What Parse6 answers, whatever the text. -/
theorem parse6_any (s : ByteArray) (hs : s.size ≤ 140737488351232) : ∃ (L : List Int) (m e : Int), FitB L ∧ L.length = 16 ∧ ∀ W, Calls Tryd.prog 18 #[.string s] W fun e' w' => e' = .returned (.tuple #[A6 L, .int .i64 m, .int .i64 e]) ∧ Below W.heap.size W w' := by
  have hc := fun W => parse6_calls s (by omega) W
  unfold parse6 at hc
  cases hx : grpReader.read s.data.toList 0 Grp.new with
  | bad n => rw [hx] at hc; exact ⟨List.replicate 16 0, n, 20, zero_fit, rfl, fun W => hc W⟩
  | good g =>
    rw [hx] at hc
    have hok := ok_read (R := grpReader) (O := Grp.Ok) (fun s r s' h hk => Grp.take_ok h hk) _ _ _ _ Grp.ok_new hx
    have hw := read_good (R := grpReader) _ _ _ _ hx
    exact ⟨g.addr, 0, 0, Grp.addr_fit hok, Grp.addr_len hok hw, fun W => hc W⟩

/-- What is said of an address is parsed as it. -/
theorem parse6_text (L : List Int) (hf : FitB L) (hl : L.length = 16) (W : World) : Calls Tryd.prog 18 #[strV (own6 (prs L))] W fun e w' => e = .returned (.tuple #[A6 L, .int .i64 0, .int .i64 0]) ∧ Below W.heap.size W w' := by
  obtain ⟨hb, h8, h16⟩ := prs_byt L hf hl
  have hn := own_len (prs L) h8
  have hc := parse6_calls ⟨(own6 (prs L)).toArray⟩ (by show (own6 (prs L)).toArray.size ≤ _; simp; omega) W
  have e : parse6 (⟨(own6 (prs L)).toArray⟩ : ByteArray).data.toList = (byt (prs L), 0, 0) := parse_own6 (prs L) h16 h8
  rw [e, hb] at hc
  exact hc

/-- What Prefix6 answers, whatever the text. -/
theorem prefix6_any (s : ByteArray) (hs : s.size ≤ 140737488351232) : ∃ (L : List Int) (n m e : Int), FitB L ∧ L.length = 16 ∧ (e = 0 → okP6 L n = true ∧ 0 ≤ n ∧ n ≤ 128) ∧ ∀ W, Calls Tryd.prog 24 #[.string s] W fun e' w' => e' = .returned (.tuple #[P6 L n, .int .i64 m, .int .i64 e]) ∧ Below W.heap.size W w' := by
  have hc := fun W => prefix6_calls s (by omega) W
  cases hx : (preReader grpReader 128).read s.data.toList 0 Pre.new6 with
  | bad k => rw [hx] at hc; exact ⟨List.replicate 16 0, 0, k, 20, zero_fit, rfl, fun h => absurd h (by decide), fun W => hc W⟩
  | good p =>
    rw [hx] at hc
    have hk := pre_ok6 s.data.toList 0 Pre.new6 p Grp.ok_new ⟨by decide, by decide⟩ hx
    have hw := pre_whole_addr (R := grpReader) (most := 128) s.data.toList 0 Pre.new6 p (fun e => by cases e) (fun e => by cases e) hx
    cases hq : okP6 p.addr.addr p.num.value with
    | true => exact ⟨p.addr.addr, p.num.value, 0, 0, Grp.addr_fit hk.1, Grp.addr_len hk.1 hw, fun _ => ⟨hq, hk.2.1, hk.2.2⟩, fun W => Calls.mono (hc W) (fun e w' h => ⟨by rw [h.1]; unfold prefix6E; simp only [hq, if_true], h.2⟩)⟩
    | false => exact ⟨List.replicate 16 0, 0, Lib.indexByte s.data.toList 47, 21, zero_fit, rfl, fun h => absurd h (by decide), fun W => Calls.mono (hc W) (fun e w' h => ⟨by rw [h.1]; unfold prefix6E; simp only [hq, Bool.false_eq_true, if_false], h.2⟩)⟩

/-- What Say6 says of a prefix is read as it. -/
theorem prefix6_text (L : List Int) (n : Int) (hf : FitB L) (hl : L.length = 16) (hn : 0 ≤ n ∧ n ≤ 128) (hk : okP6 L n = true) (W : World) : Calls Tryd.prog 24 #[.string ((⟨(own6 (prs L)).toArray⟩ : ByteArray) ++ ⟨#[47]⟩ ++ ⟨(Lib.itoa n).toArray⟩)] W fun e w' => e = .returned (.tuple #[P6 L n, .int .i64 0, .int .i64 0]) ∧ Below W.heap.size W w' := by
  have hn1 := own_len (prs L) (prs_byt L hf hl).2.1
  have hn2 : (Lib.itoa n).length ≤ 1000 := itoa_len ⟨by omega, by omega⟩
  have e : ((⟨(own6 (prs L)).toArray⟩ : ByteArray) ++ ⟨#[47]⟩ ++ ⟨(Lib.itoa n).toArray⟩).data.toList = say6T L n := by
    rw [ByteArray.data_append, ByteArray.data_append]
    simp [say6T]
  have hc := prefix6_calls ((⟨(own6 (prs L)).toArray⟩ : ByteArray) ++ ⟨#[47]⟩ ++ ⟨(Lib.itoa n).toArray⟩) (by
    have h9 := congrArg List.length e
    simp only [say6T, List.length_append, List.length_cons, List.length_nil] at h9
    have h8 : ((⟨(own6 (prs L)).toArray⟩ : ByteArray) ++ ⟨#[47]⟩ ++ ⟨(Lib.itoa n).toArray⟩).size = (((⟨(own6 (prs L)).toArray⟩ : ByteArray) ++ ⟨#[47]⟩ ++ ⟨(Lib.itoa n).toArray⟩).data.toList).length := Array.length_toList.symm
    omega) W
  rw [e] at hc
  obtain ⟨p, hp, h1, h2⟩ := prefix6_back L n hf hl hn 0
  rw [hp] at hc
  refine Calls.mono hc (fun e w' h => ⟨?_, h.2⟩)
  rw [h.1]
  unfold prefix6E
  simp only [h1, h2, hk, if_true]

/-- What Prefix4 answers, whatever the text. -/
theorem prefix4_any (s : ByteArray) (hs : s.size ≤ 140737488351232) : ∃ (a0 a1 a2 a3 n m e : Int), (e ≠ 0 → a0 = 0 ∧ a1 = 0 ∧ a2 = 0 ∧ a3 = 0 ∧ n = 0) ∧ (e = 0 → okP4 a0 a1 a2 a3 n = true ∧ Byte a0 ∧ Byte a1 ∧ Byte a2 ∧ Byte a3 ∧ (0 ≤ n ∧ n ≤ 32) ∧ s.data.toList = text4 [a0, a1, a2, a3] ++ [47] ++ Lib.itoa n) ∧ ∀ W, Calls Tryd.prog 22 #[.string s] W fun e' w' => e' = .returned (.tuple #[P4 a0 a1 a2 a3 n, .int .i64 m, .int .i64 e]) ∧ Below W.heap.size W w' := by
  have hc := fun W => prefix4_calls s (by omega) W
  cases hx : (preReader dotReader 32).read s.data.toList 0 Pre.new4 with
  | bad k => rw [hx] at hc; exact ⟨0, 0, 0, 0, 0, k, 20, fun _ => ⟨rfl, rfl, rfl, rfl, rfl⟩, fun h => absurd h (by decide), fun W => hc W⟩
  | good p =>
    rw [hx] at hc
    obtain ⟨ho, hp⟩ := prefix4_own hx
    have hd := hp.ok
    have hk := pre_ok4 s.data.toList 0 Pre.new4 p Dot.ok_new ⟨by decide, by decide⟩ hx
    cases hq : okP4 p.addr.e0 p.addr.e1 p.addr.e2 p.addr.num.value p.num.value with
    | true => exact ⟨p.addr.e0, p.addr.e1, p.addr.e2, p.addr.num.value, p.num.value, 0, 0, fun h => absurd rfl h, fun _ => ⟨hq, hk.1.e0, hk.1.e1, hk.1.e2, ⟨hk.1.num.1, by have := hk.1.num.2; omega⟩, ⟨hk.2.1, hk.2.2⟩, ho⟩, fun W => Calls.mono (hc W) (fun e w' h => ⟨by rw [h.1]; unfold prefix4E; simp only [hq, if_true], h.2⟩)⟩
    | false => exact ⟨0, 0, 0, 0, 0, Lib.indexByte s.data.toList 47, 21, fun _ => ⟨rfl, rfl, rfl, rfl, rfl⟩, fun h => absurd h (by decide), fun W => Calls.mono (hc W) (fun e w' h => ⟨by rw [h.1]; unfold prefix4E; simp only [hq, Bool.false_eq_true, if_false], h.2⟩)⟩

end Go.Proofs.YtopbbljnhnhpaaaDoor

namespace Go.Proofs.YtopbbljnhnhpaaaDoor
open Go Go.RowKit
set_option linter.unusedVariables false
set_option linter.unusedSimpArgs false

theorem CellsAt.blkR {w : World} {b : Nat} {c : List Value} {t : TypeId} (h : w.heap[b]? = some (.cells c.toArray t)) : CellsAt w b 0 c := fun j v hj => by
  rw [Nat.zero_add]
  exact blk_cell h hj
theorem armLw {P : Program} {w : World} {ops : Array Oper} {rest : List Oper} {o : Oper} {a : Act} {Q : Exit → Act → World → Prop} (p : Operand) (t : TypeId) (hop : o.op = Op.load t p) (hw : Region.wanted o (yielded ops a.tmps) = true) {vp v : Value} (hp : a.eval p = vp) (hrun : (Instr.loadAt t vp).run P w = .ok v w) (hK : wpList P ops Q rest (a.put o.dst v) w) : wpList P ops Q (o :: rest) a w :=
  arm_load hw p t hop hp hrun hK
theorem neqA6w (zs : List Int) (h : FitB zs) (hl : zs.length = 16) (w : World) : (binOp .neq 31 (A6 zs) (A6 zs)).run Tryd.prog w = .ok (.bool false) w := by
  have := eq_arr16 9998 zs zs h h hl hl w
  simp only [binOp, Op.equal, Op.maxDepth]
  simp [this]
theorem gdA6w (b : BinOp) (x y : Operand) (u v : Array Value) (w : World) : (eqGuard b 31 x y (.agg u) (.agg v)).run Tryd.prog w = .ok () w := by
  have he : Tryd.prog.eqGuardType Tryd.prog.depth 31 = false := by kernel_rfl
  cases b <;> simp [eqGuard, go_sem, he]
theorem gdP4w (b : BinOp) (x y : Operand) (u v : Array Value) (w : World) : (eqGuard b 38 x y (.agg u) (.agg v)).run Tryd.prog w = .ok () w := by
  have he : Tryd.prog.eqGuardType Tryd.prog.depth 38 = false := by kernel_rfl
  cases b <;> simp [eqGuard, go_sem, he]
theorem neqP6w (zs : List Int) (n : Int) (h : FitB zs) (hl : zs.length = 16) (w : World) : (binOp .neq 40 (P6 zs n) (P6 zs n)).run Tryd.prog w = .ok (.bool false) w := by
  have := neqP6 zs zs n n h h hl hl w
  simpa using this

set_option maxRecDepth 100000 in
set_option maxHeartbeats 8000000 in
theorem addrAgain_walk (s : ByteArray) (hs : s.size ≤ 140737488351232) (w : World) (tb : Tabs w ∧ Tz w) :
    Calls Tryd.prog 10 #[.string s] w fun e w' => PxPost (.bool true) w e w' := by
  generalize hQ : (fun e w' => PxPost (.bool true) w e w') = Q
  have HQ : Hid _ := hQ
  clear hQ
  have HAW : Hid _ := Awake.on tb w (Below.refl _ _)
  obtain ⟨L, m, e, fL, lL, hP⟩ := parse6_any s hs
  obtain ⟨M, n, m2, e2, fM, lM, hM, hX⟩ := prefix6_any s hs
  obtain ⟨a0, a1, a2, a3, k, m3, e3, hbad, hgood, hF⟩ := prefix4_any s hs
  have HP : Hid _ := hP
  have HX : Hid _ := hX
  have HF : Hid _ := hF
  have HT : Hid (∀ W, Below w.heap.size w W → Calls Tryd.prog 20 #[A6 L] W fun e w' => e = .returned (strV (own6 (prs L))) ∧ Below W.heap.size W w') := fun W hW => text6_L L fL lL W (Tz.on tb.2 hW)
  have HPT : Hid _ := fun W => parse6_text L fL lL W
  have HM : Hid _ := hM
  have HG : Hid _ := hgood
  have HBD : Hid _ := hbad
  have HTB : Hid _ := tb
  clear hP hX hF hM hgood hbad tb
  generalize strV (own6 (prs L)) = tx at HT HPT
  go_enter Tryd.func10, Tryd.ntmps10
  go_wp2_with fail
  refine Calls.mono HAW.out ?_
  rintro _ w1 ⟨rfl, hB1⟩
  clear HAW
  go_wp2_with fail
  refine Calls.mono (HP.out _) ?_
  rintro _ w2 ⟨rfl, hB2⟩
  have hBw2 := hB1.trans (hB2.mono hB1.size)
  obtain ⟨w3, hst3, hb3, hB3⟩ := box_new (ty := 31) (n := 16) (fun w => by kernel_rfl) w2 [.int .u8 0, .int .u8 0, .int .u8 0, .int .u8 0, .int .u8 0, .int .u8 0, .int .u8 0, .int .u8 0, .int .u8 0, .int .u8 0, .int .u8 0, .int .u8 0, .int .u8 0, .int .u8 0, .int .u8 0, .int .u8 0] rfl (u8s L) (by rw [u8s_length, lL]) (u8s_one L)
  have HS3 : Hid _ := hst3
  have HB3 : Hid _ := hBw2.trans (hB3.mono hBw2.size)
  have HK3 : Hid _ := hb3
  clear HP hst3 hB1 hB2 hBw2 hB3 hb3
  have HE1 : Hid (e = 0 ∨ e ≠ 0) := Classical.em _
  rcases HE1.out with he | he
  · obtain rfl : e = 0 := he
    have HL3 : Hid _ := load6 lL (CellsAt.blkR HK3.out)
    go_wp2_with first
      | ((with_reducible show wpList _ _ _ _ _ _); refine armS (.tmp 3) (.tmp 27) 31 rfl rfl rfl rfl HS3.out ?_)
      | ((with_reducible show wpList _ _ _ _ _ _); refine armLw (.tmp 3) 31 rfl rfl rfl HL3.out ?_)
    refine Calls.mono (HT.out _ HB3.out) ?_
    rintro _ w4 ⟨rfl, hB4⟩
    have hBw4 := HB3.out.trans (hB4.mono HB3.out.size)
    have hb4 := (hB4.block _ (Array.getElem?_eq_some_iff.1 HK3.out).1).trans HK3.out
    clear HT HL3 HS3
    go_wp2_with fail
    refine Calls.mono (HPT.out _) ?_
    rintro _ w5 ⟨rfl, hB5⟩
    have hBw5 := hBw4.trans (hB5.mono hBw4.size)
    have hb5 := (hB5.block _ (Array.getElem?_eq_some_iff.1 hb4).1).trans hb4
    obtain ⟨w6, hst6, hb6, hB6⟩ := box_new (ty := 31) (n := 16) (fun w => by kernel_rfl) w5 [.int .u8 0, .int .u8 0, .int .u8 0, .int .u8 0, .int .u8 0, .int .u8 0, .int .u8 0, .int .u8 0, .int .u8 0, .int .u8 0, .int .u8 0, .int .u8 0, .int .u8 0, .int .u8 0, .int .u8 0, .int .u8 0] rfl (u8s L) (by rw [u8s_length, lL]) (u8s_one L)
    have hb36 := (hB6.block _ (Array.getElem?_eq_some_iff.1 hb5).1).trans hb5
    have HS6 : Hid _ := hst6
    have HL6 : Hid _ := load6 lL (CellsAt.blkR hb6)
    have HL36 : Hid _ := load6 lL (CellsAt.blkR hb36)
    have HBX : Hid (Below w.heap.size w w6) := hBw5.trans (hB6.mono hBw5.size)
    have HNE : Hid _ := neqA6w L fL lL w6
    clear HPT hst6 hB4 hBw4 hb4 hB5 hBw5 hb5 hb6 hB6 hb36 HB3 HK3
    go_wp2_with first
      | ((with_reducible show wpList _ _ _ _ _ _); refine armS (.tmp 6) (.tmp 36) 31 rfl rfl rfl rfl HS6.out ?_)
      | ((with_reducible show wpList _ _ _ _ _ _); refine armLw (.tmp 6) 31 rfl rfl rfl HL6.out ?_)
      | ((with_reducible show wpList _ _ _ _ _ _); refine armLw (.tmp 3) 31 rfl rfl rfl HL36.out ?_)
      | ((with_reducible show wpList _ _ _ _ _ _); refine arm_bin rfl .neq 31 _ (.tmp 42) (.tmp 43) rfl rfl rfl (gdA6w _ _ _ _ _ _) HNE.out ?_)
    refine Calls.mono (HX.out _) ?_
    rintro _ x1 ⟨rfl, hX1⟩
    have hBx1 := HBX.out.trans (hX1.mono HBX.out.size)
    obtain ⟨x2, hst2, hb2, hB2⟩ := box_new (ty := 40) (n := 17) (fun w => by kernel_rfl) x1 [.int .u8 0, .int .u8 0, .int .u8 0, .int .u8 0, .int .u8 0, .int .u8 0, .int .u8 0, .int .u8 0, .int .u8 0, .int .u8 0, .int .u8 0, .int .u8 0, .int .u8 0, .int .u8 0, .int .u8 0, .int .u8 0, .int .i64 0] rfl (cp6 M n) (cp6_length _ _ lM) (cp6_one _ _)
    have HS2 : Hid _ := hst2
    have HBY : Hid _ := hBx1.trans (hB2.mono hBx1.size)
    have HK2 : Hid _ := hb2
    clear hst2 hX1 hBx1 hB2 hb2 HBX HX
    have HE2 : Hid (e2 = 0 ∨ e2 ≠ 0) := Classical.em _
    rcases HE2.out with he2 | he2
    · obtain ⟨ok2, n2⟩ := HM.out he2
      obtain rfl : e2 = 0 := he2
      have HL2 : Hid _ := loadP6 lM (CellsAt.pfx lM HK2.out).1
      have HSY : Hid _ := say6_calls M n fM lM x2 ⟨by omega, by omega⟩ (tabs_on (w := w) HTB.out.1 HBY.out) (Tz.on HTB.out.2 HBY.out)
      have HSE : Hid (say6E M n = .tuple #[.string ((⟨(own6 (prs M)).toArray⟩ : ByteArray) ++ ⟨#[47]⟩ ++ ⟨(Lib.itoa n).toArray⟩), .int .i64 0]) := by unfold say6E; rw [if_pos ok2]; rfl
      have HXT : Hid _ := fun W => prefix6_text M n fM lM n2 ok2 W
      rw [HSE.out] at HSY
      generalize (⟨(own6 (prs M)).toArray⟩ : ByteArray) ++ ⟨#[47]⟩ ++ ⟨(Lib.itoa n).toArray⟩ = ty at HSY HXT
      clear HSE HE2 HM ok2
      go_wp2_with first
        | ((with_reducible show wpList _ _ _ _ _ _); refine armS (.tmp 9) (.tmp 49) 40 rfl rfl rfl rfl HS2.out ?_)
        | ((with_reducible show wpList _ _ _ _ _ _); refine armLw (.tmp 9) 40 rfl rfl rfl HL2.out ?_)
      refine Calls.mono HSY.out ?_
      rintro _ x3 ⟨rfl, hX3⟩
      have hBx3 := HBY.out.trans (hX3.mono HBY.out.size)
      have hb3 := (hX3.block _ (Array.getElem?_eq_some_iff.1 HK2.out).1).trans HK2.out
      clear HSY HL2 HS2
      go_wp2_with fail
      refine Calls.mono (HXT.out _) ?_
      rintro _ x4 ⟨rfl, hX4⟩
      have hBx4 := hBx3.trans (hX4.mono hBx3.size)
      have hb4 := (hX4.block _ (Array.getElem?_eq_some_iff.1 hb3).1).trans hb3
      obtain ⟨x5, hst5, hb5, hB5⟩ := box_new (ty := 40) (n := 17) (fun w => by kernel_rfl) x4 [.int .u8 0, .int .u8 0, .int .u8 0, .int .u8 0, .int .u8 0, .int .u8 0, .int .u8 0, .int .u8 0, .int .u8 0, .int .u8 0, .int .u8 0, .int .u8 0, .int .u8 0, .int .u8 0, .int .u8 0, .int .u8 0, .int .i64 0] rfl (cp6 M n) (cp6_length _ _ lM) (cp6_one _ _)
      have hb45 := (hB5.block _ (Array.getElem?_eq_some_iff.1 hb4).1).trans hb4
      have HS5 : Hid _ := hst5
      have HL5 : Hid _ := loadP6 lM (CellsAt.pfx lM hb5).1
      have HL45 : Hid _ := loadP6 lM (CellsAt.pfx lM hb45).1
      have HBZ : Hid (Below w.heap.size w x5) := hBx4.trans (hB5.mono hBx4.size)
      have HNP : Hid _ := neqP6w M n fM lM x5
      clear HXT hst5 hX3 hBx3 hb3 hX4 hBx4 hb4 hb5 hB5 hb45 HBY HK2
      go_wp2_with first
        | ((with_reducible show wpList _ _ _ _ _ _); refine armS (.tmp 14) (.tmp 62) 40 rfl rfl rfl rfl HS5.out ?_)
        | ((with_reducible show wpList _ _ _ _ _ _); refine armLw (.tmp 14) 40 rfl rfl rfl HL5.out ?_)
        | ((with_reducible show wpList _ _ _ _ _ _); refine armLw (.tmp 9) 40 rfl rfl rfl HL45.out ?_)
        | ((with_reducible show wpList _ _ _ _ _ _); refine arm_bin rfl .neq 40 _ (.tmp 72) (.tmp 73) rfl rfl rfl (gdP6 _ _ _ _ _ _) HNP.out ?_)
      refine Calls.mono (HF.out _) ?_
      rintro _ y1 ⟨rfl, hY1⟩
      have HBF : Hid (Below w.heap.size w y1) := HBZ.out.trans (hY1.mono HBZ.out.size)
      clear hY1 HBZ HF
      have HE3 : Hid (e3 = 0 ∨ e3 ≠ 0) := Classical.em _
      rcases HE3.out with he3 | he3
      · obtain ⟨ok4, b0, b1, b2, b3, hk4, hs4⟩ := HG.out he3
        obtain rfl : e3 = 0 := he3
        have hsay : ∀ W, Below w.heap.size w W → Calls Tryd.prog 26 #[P4 a0 a1 a2 a3 k] W fun e w' => e = .returned (.tuple #[.string s, .int .i64 0]) ∧ Below W.heap.size W w' := fun W hW => by
          have h := say4_calls a0 a1 a2 a3 k W b0 b1 b2 b3 ⟨by omega, by omega⟩ (tabs_on (w := w) HTB.out.1 hW)
          have es : (⟨(text4 [a0, a1, a2, a3]).toArray⟩ : ByteArray) ++ ⟨#[47]⟩ ++ ⟨(Lib.itoa k).toArray⟩ = s := by
            have e9 : ((⟨(text4 [a0, a1, a2, a3]).toArray⟩ : ByteArray) ++ ⟨#[47]⟩ ++ ⟨(Lib.itoa k).toArray⟩).data.toList = s.data.toList := by
              rw [hs4, ByteArray.data_append, ByteArray.data_append]
              simp
            have e8 := congrArg List.toArray e9
            rw [Array.toArray_toList, Array.toArray_toList] at e8
            exact ByteArray.ext e8
          unfold say4E at h
          rw [if_pos ok4, es] at h
          exact h
        have HSAY : Hid _ := hsay
        clear hsay hs4 ok4 HG HBD HE3
        go_wp2_with fail
        refine Calls.mono (HSAY.out _ (HBF.out.trans (((Below.refl _ y1).alloc (Nat.le_refl _) _).mono HBF.out.size))) ?_
        rintro _ y2 ⟨rfl, hY2⟩
        have HBE : Hid (Below w.heap.size w y2) := (HBF.out.trans (((Below.refl _ y1).alloc (Nat.le_refl _) _).mono HBF.out.size)).trans (hY2.mono (Nat.le_trans HBF.out.size (by simp)))
        clear hY2 HSAY HBF
        go_wp2
        try go_ret
        rw [← HQ.out]
        exact ⟨rfl, HBE.out⟩
      · obtain ⟨rfl, rfl, rfl, rfl, rfl⟩ := HBD.out he3
        have q3 : (e3 != 0) = true := by simpa using he3
        have HEQ : Hid (∀ W, (binOp .eql 38 (P4 0 0 0 0 0) (P4 0 0 0 0 0)).run Tryd.prog W = .ok (.bool true) W) := fun W => by kernel_rfl
        have HBE : Hid (Below w.heap.size w (y1.alloc (.cells #[.int .u8 0, .int .u8 0, .int .u8 0, .int .u8 0, .int .i64 0] 38))) := HBF.out.trans (((Below.refl _ y1).alloc (Nat.le_refl _) _).mono HBF.out.size)
        clear HG HBD he3 HE3 HBF
        go_wp2_with first
          | ((with_reducible show wpList _ _ _ _ _ _); refine arm_bin rfl .eql 38 _ (.tmp 84) (.tmp 85) rfl rfl rfl (gdP4w _ _ _ _ _ _) (HEQ.out _) ?_)
        try go_ret
        rw [← HQ.out]
        exact ⟨rfl, HBE.out⟩
    · have q2 : (e2 == 0) = false := by simpa using he2
      have HBZ : Hid (Below w.heap.size w x2) := HBY.out
      clear HBY HK2 HM he2 HE2
      go_wp2_with first
        | ((with_reducible show wpList _ _ _ _ _ _); refine armS (.tmp 9) (.tmp 49) 40 rfl rfl rfl rfl HS2.out ?_)
      refine Calls.mono (HF.out _) ?_
      rintro _ y1 ⟨rfl, hY1⟩
      have HBF : Hid (Below w.heap.size w y1) := HBZ.out.trans (hY1.mono HBZ.out.size)
      clear hY1 HBZ HF
      have HE3 : Hid (e3 = 0 ∨ e3 ≠ 0) := Classical.em _
      rcases HE3.out with he3 | he3
      · obtain ⟨ok4, b0, b1, b2, b3, hk4, hs4⟩ := HG.out he3
        obtain rfl : e3 = 0 := he3
        have hsay : ∀ W, Below w.heap.size w W → Calls Tryd.prog 26 #[P4 a0 a1 a2 a3 k] W fun e w' => e = .returned (.tuple #[.string s, .int .i64 0]) ∧ Below W.heap.size W w' := fun W hW => by
          have h := say4_calls a0 a1 a2 a3 k W b0 b1 b2 b3 ⟨by omega, by omega⟩ (tabs_on (w := w) HTB.out.1 hW)
          have es : (⟨(text4 [a0, a1, a2, a3]).toArray⟩ : ByteArray) ++ ⟨#[47]⟩ ++ ⟨(Lib.itoa k).toArray⟩ = s := by
            have e9 : ((⟨(text4 [a0, a1, a2, a3]).toArray⟩ : ByteArray) ++ ⟨#[47]⟩ ++ ⟨(Lib.itoa k).toArray⟩).data.toList = s.data.toList := by
              rw [hs4, ByteArray.data_append, ByteArray.data_append]
              simp
            have e8 := congrArg List.toArray e9
            rw [Array.toArray_toList, Array.toArray_toList] at e8
            exact ByteArray.ext e8
          unfold say4E at h
          rw [if_pos ok4, es] at h
          exact h
        have HSAY : Hid _ := hsay
        clear hsay hs4 ok4 HG HBD HE3
        go_wp2_with fail
        refine Calls.mono (HSAY.out _ (HBF.out.trans (((Below.refl _ y1).alloc (Nat.le_refl _) _).mono HBF.out.size))) ?_
        rintro _ y2 ⟨rfl, hY2⟩
        have HBE : Hid (Below w.heap.size w y2) := (HBF.out.trans (((Below.refl _ y1).alloc (Nat.le_refl _) _).mono HBF.out.size)).trans (hY2.mono (Nat.le_trans HBF.out.size (by simp)))
        clear hY2 HSAY HBF
        go_wp2
        try go_ret
        rw [← HQ.out]
        exact ⟨rfl, HBE.out⟩
      · obtain ⟨rfl, rfl, rfl, rfl, rfl⟩ := HBD.out he3
        have q3 : (e3 != 0) = true := by simpa using he3
        have HEQ : Hid (∀ W, (binOp .eql 38 (P4 0 0 0 0 0) (P4 0 0 0 0 0)).run Tryd.prog W = .ok (.bool true) W) := fun W => by kernel_rfl
        have HBE : Hid (Below w.heap.size w (y1.alloc (.cells #[.int .u8 0, .int .u8 0, .int .u8 0, .int .u8 0, .int .i64 0] 38))) := HBF.out.trans (((Below.refl _ y1).alloc (Nat.le_refl _) _).mono HBF.out.size)
        clear HG HBD he3 HE3 HBF
        go_wp2_with first
          | ((with_reducible show wpList _ _ _ _ _ _); refine arm_bin rfl .eql 38 _ (.tmp 84) (.tmp 85) rfl rfl rfl (gdP4w _ _ _ _ _ _) (HEQ.out _) ?_)
        try go_ret
        rw [← HQ.out]
        exact ⟨rfl, HBE.out⟩
  · have q1 : (e == 0) = false := by simpa using he
    have HBX : Hid (Below w.heap.size w w3) := HB3.out
    clear HT HPT HB3 HK3 he HE1
    go_wp2_with first
      | ((with_reducible show wpList _ _ _ _ _ _); refine armS (.tmp 3) (.tmp 27) 31 rfl rfl rfl rfl HS3.out ?_)
    refine Calls.mono (HX.out _) ?_
    rintro _ x1 ⟨rfl, hX1⟩
    have hBx1 := HBX.out.trans (hX1.mono HBX.out.size)
    obtain ⟨x2, hst2, hb2, hB2⟩ := box_new (ty := 40) (n := 17) (fun w => by kernel_rfl) x1 [.int .u8 0, .int .u8 0, .int .u8 0, .int .u8 0, .int .u8 0, .int .u8 0, .int .u8 0, .int .u8 0, .int .u8 0, .int .u8 0, .int .u8 0, .int .u8 0, .int .u8 0, .int .u8 0, .int .u8 0, .int .u8 0, .int .i64 0] rfl (cp6 M n) (cp6_length _ _ lM) (cp6_one _ _)
    have HS2 : Hid _ := hst2
    have HBY : Hid _ := hBx1.trans (hB2.mono hBx1.size)
    have HK2 : Hid _ := hb2
    clear hst2 hX1 hBx1 hB2 hb2 HBX HX
    have HE2 : Hid (e2 = 0 ∨ e2 ≠ 0) := Classical.em _
    rcases HE2.out with he2 | he2
    · obtain ⟨ok2, n2⟩ := HM.out he2
      obtain rfl : e2 = 0 := he2
      have HL2 : Hid _ := loadP6 lM (CellsAt.pfx lM HK2.out).1
      have HSY : Hid _ := say6_calls M n fM lM x2 ⟨by omega, by omega⟩ (tabs_on (w := w) HTB.out.1 HBY.out) (Tz.on HTB.out.2 HBY.out)
      have HSE : Hid (say6E M n = .tuple #[.string ((⟨(own6 (prs M)).toArray⟩ : ByteArray) ++ ⟨#[47]⟩ ++ ⟨(Lib.itoa n).toArray⟩), .int .i64 0]) := by unfold say6E; rw [if_pos ok2]; rfl
      have HXT : Hid _ := fun W => prefix6_text M n fM lM n2 ok2 W
      rw [HSE.out] at HSY
      generalize (⟨(own6 (prs M)).toArray⟩ : ByteArray) ++ ⟨#[47]⟩ ++ ⟨(Lib.itoa n).toArray⟩ = ty at HSY HXT
      clear HSE HE2 HM ok2
      go_wp2_with first
        | ((with_reducible show wpList _ _ _ _ _ _); refine armS (.tmp 9) (.tmp 49) 40 rfl rfl rfl rfl HS2.out ?_)
        | ((with_reducible show wpList _ _ _ _ _ _); refine armLw (.tmp 9) 40 rfl rfl rfl HL2.out ?_)
      refine Calls.mono HSY.out ?_
      rintro _ x3 ⟨rfl, hX3⟩
      have hBx3 := HBY.out.trans (hX3.mono HBY.out.size)
      have hb3 := (hX3.block _ (Array.getElem?_eq_some_iff.1 HK2.out).1).trans HK2.out
      clear HSY HL2 HS2
      go_wp2_with fail
      refine Calls.mono (HXT.out _) ?_
      rintro _ x4 ⟨rfl, hX4⟩
      have hBx4 := hBx3.trans (hX4.mono hBx3.size)
      have hb4 := (hX4.block _ (Array.getElem?_eq_some_iff.1 hb3).1).trans hb3
      obtain ⟨x5, hst5, hb5, hB5⟩ := box_new (ty := 40) (n := 17) (fun w => by kernel_rfl) x4 [.int .u8 0, .int .u8 0, .int .u8 0, .int .u8 0, .int .u8 0, .int .u8 0, .int .u8 0, .int .u8 0, .int .u8 0, .int .u8 0, .int .u8 0, .int .u8 0, .int .u8 0, .int .u8 0, .int .u8 0, .int .u8 0, .int .i64 0] rfl (cp6 M n) (cp6_length _ _ lM) (cp6_one _ _)
      have hb45 := (hB5.block _ (Array.getElem?_eq_some_iff.1 hb4).1).trans hb4
      have HS5 : Hid _ := hst5
      have HL5 : Hid _ := loadP6 lM (CellsAt.pfx lM hb5).1
      have HL45 : Hid _ := loadP6 lM (CellsAt.pfx lM hb45).1
      have HBZ : Hid (Below w.heap.size w x5) := hBx4.trans (hB5.mono hBx4.size)
      have HNP : Hid _ := neqP6w M n fM lM x5
      clear HXT hst5 hX3 hBx3 hb3 hX4 hBx4 hb4 hb5 hB5 hb45 HBY HK2
      go_wp2_with first
        | ((with_reducible show wpList _ _ _ _ _ _); refine armS (.tmp 14) (.tmp 62) 40 rfl rfl rfl rfl HS5.out ?_)
        | ((with_reducible show wpList _ _ _ _ _ _); refine armLw (.tmp 14) 40 rfl rfl rfl HL5.out ?_)
        | ((with_reducible show wpList _ _ _ _ _ _); refine armLw (.tmp 9) 40 rfl rfl rfl HL45.out ?_)
        | ((with_reducible show wpList _ _ _ _ _ _); refine arm_bin rfl .neq 40 _ (.tmp 72) (.tmp 73) rfl rfl rfl (gdP6 _ _ _ _ _ _) HNP.out ?_)
      refine Calls.mono (HF.out _) ?_
      rintro _ y1 ⟨rfl, hY1⟩
      have HBF : Hid (Below w.heap.size w y1) := HBZ.out.trans (hY1.mono HBZ.out.size)
      clear hY1 HBZ HF
      have HE3 : Hid (e3 = 0 ∨ e3 ≠ 0) := Classical.em _
      rcases HE3.out with he3 | he3
      · obtain ⟨ok4, b0, b1, b2, b3, hk4, hs4⟩ := HG.out he3
        obtain rfl : e3 = 0 := he3
        have hsay : ∀ W, Below w.heap.size w W → Calls Tryd.prog 26 #[P4 a0 a1 a2 a3 k] W fun e w' => e = .returned (.tuple #[.string s, .int .i64 0]) ∧ Below W.heap.size W w' := fun W hW => by
          have h := say4_calls a0 a1 a2 a3 k W b0 b1 b2 b3 ⟨by omega, by omega⟩ (tabs_on (w := w) HTB.out.1 hW)
          have es : (⟨(text4 [a0, a1, a2, a3]).toArray⟩ : ByteArray) ++ ⟨#[47]⟩ ++ ⟨(Lib.itoa k).toArray⟩ = s := by
            have e9 : ((⟨(text4 [a0, a1, a2, a3]).toArray⟩ : ByteArray) ++ ⟨#[47]⟩ ++ ⟨(Lib.itoa k).toArray⟩).data.toList = s.data.toList := by
              rw [hs4, ByteArray.data_append, ByteArray.data_append]
              simp
            have e8 := congrArg List.toArray e9
            rw [Array.toArray_toList, Array.toArray_toList] at e8
            exact ByteArray.ext e8
          unfold say4E at h
          rw [if_pos ok4, es] at h
          exact h
        have HSAY : Hid _ := hsay
        clear hsay hs4 ok4 HG HBD HE3
        go_wp2_with fail
        refine Calls.mono (HSAY.out _ (HBF.out.trans (((Below.refl _ y1).alloc (Nat.le_refl _) _).mono HBF.out.size))) ?_
        rintro _ y2 ⟨rfl, hY2⟩
        have HBE : Hid (Below w.heap.size w y2) := (HBF.out.trans (((Below.refl _ y1).alloc (Nat.le_refl _) _).mono HBF.out.size)).trans (hY2.mono (Nat.le_trans HBF.out.size (by simp)))
        clear hY2 HSAY HBF
        go_wp2
        try go_ret
        rw [← HQ.out]
        exact ⟨rfl, HBE.out⟩
      · obtain ⟨rfl, rfl, rfl, rfl, rfl⟩ := HBD.out he3
        have q3 : (e3 != 0) = true := by simpa using he3
        have HEQ : Hid (∀ W, (binOp .eql 38 (P4 0 0 0 0 0) (P4 0 0 0 0 0)).run Tryd.prog W = .ok (.bool true) W) := fun W => by kernel_rfl
        have HBE : Hid (Below w.heap.size w (y1.alloc (.cells #[.int .u8 0, .int .u8 0, .int .u8 0, .int .u8 0, .int .i64 0] 38))) := HBF.out.trans (((Below.refl _ y1).alloc (Nat.le_refl _) _).mono HBF.out.size)
        clear HG HBD he3 HE3 HBF
        go_wp2_with first
          | ((with_reducible show wpList _ _ _ _ _ _); refine arm_bin rfl .eql 38 _ (.tmp 84) (.tmp 85) rfl rfl rfl (gdP4w _ _ _ _ _ _) (HEQ.out _) ?_)
        try go_ret
        rw [← HQ.out]
        exact ⟨rfl, HBE.out⟩
    · have q2 : (e2 == 0) = false := by simpa using he2
      have HBZ : Hid (Below w.heap.size w x2) := HBY.out
      clear HBY HK2 HM he2 HE2
      go_wp2_with first
        | ((with_reducible show wpList _ _ _ _ _ _); refine armS (.tmp 9) (.tmp 49) 40 rfl rfl rfl rfl HS2.out ?_)
      refine Calls.mono (HF.out _) ?_
      rintro _ y1 ⟨rfl, hY1⟩
      have HBF : Hid (Below w.heap.size w y1) := HBZ.out.trans (hY1.mono HBZ.out.size)
      clear hY1 HBZ HF
      have HE3 : Hid (e3 = 0 ∨ e3 ≠ 0) := Classical.em _
      rcases HE3.out with he3 | he3
      · obtain ⟨ok4, b0, b1, b2, b3, hk4, hs4⟩ := HG.out he3
        obtain rfl : e3 = 0 := he3
        have hsay : ∀ W, Below w.heap.size w W → Calls Tryd.prog 26 #[P4 a0 a1 a2 a3 k] W fun e w' => e = .returned (.tuple #[.string s, .int .i64 0]) ∧ Below W.heap.size W w' := fun W hW => by
          have h := say4_calls a0 a1 a2 a3 k W b0 b1 b2 b3 ⟨by omega, by omega⟩ (tabs_on (w := w) HTB.out.1 hW)
          have es : (⟨(text4 [a0, a1, a2, a3]).toArray⟩ : ByteArray) ++ ⟨#[47]⟩ ++ ⟨(Lib.itoa k).toArray⟩ = s := by
            have e9 : ((⟨(text4 [a0, a1, a2, a3]).toArray⟩ : ByteArray) ++ ⟨#[47]⟩ ++ ⟨(Lib.itoa k).toArray⟩).data.toList = s.data.toList := by
              rw [hs4, ByteArray.data_append, ByteArray.data_append]
              simp
            have e8 := congrArg List.toArray e9
            rw [Array.toArray_toList, Array.toArray_toList] at e8
            exact ByteArray.ext e8
          unfold say4E at h
          rw [if_pos ok4, es] at h
          exact h
        have HSAY : Hid _ := hsay
        clear hsay hs4 ok4 HG HBD HE3
        go_wp2_with fail
        refine Calls.mono (HSAY.out _ (HBF.out.trans (((Below.refl _ y1).alloc (Nat.le_refl _) _).mono HBF.out.size))) ?_
        rintro _ y2 ⟨rfl, hY2⟩
        have HBE : Hid (Below w.heap.size w y2) := (HBF.out.trans (((Below.refl _ y1).alloc (Nat.le_refl _) _).mono HBF.out.size)).trans (hY2.mono (Nat.le_trans HBF.out.size (by simp)))
        clear hY2 HSAY HBF
        go_wp2
        try go_ret
        rw [← HQ.out]
        exact ⟨rfl, HBE.out⟩
      · obtain ⟨rfl, rfl, rfl, rfl, rfl⟩ := HBD.out he3
        have q3 : (e3 != 0) = true := by simpa using he3
        have HEQ : Hid (∀ W, (binOp .eql 38 (P4 0 0 0 0 0) (P4 0 0 0 0 0)).run Tryd.prog W = .ok (.bool true) W) := fun W => by kernel_rfl
        have HBE : Hid (Below w.heap.size w (y1.alloc (.cells #[.int .u8 0, .int .u8 0, .int .u8 0, .int .u8 0, .int .i64 0] 38))) := HBF.out.trans (((Below.refl _ y1).alloc (Nat.le_refl _) _).mono HBF.out.size)
        clear HG HBD he3 HE3 HBF
        go_wp2_with first
          | ((with_reducible show wpList _ _ _ _ _ _); refine arm_bin rfl .eql 38 _ (.tmp 84) (.tmp 85) rfl rfl rfl (gdP4w _ _ _ _ _ _) (HEQ.out _) ?_)
        try go_ret
        rw [← HQ.out]
        exact ⟨rfl, HBE.out⟩

set_option maxRecDepth 100000 in
theorem addrAgain_open {H : Type} {enc : TypeId × Value → H} {W : World} {base : Nat} (tb : Tabs W ∧ Tz W) (v0 : Value) {d0 : DataW H} {p0 : List MemPlace}
    (o0 : Value.okWide Tryd.prog W .any base 9 v0) (h0 : DataW.Trod enc Tryd.prog W 0 (fun _ => true) true 9 v0 d0 p0) (z0 : ∀ k ∈ d0.weights Tryd.prog 9, k ≤ reachBytes) :
    Calls Tryd.prog 10 #[v0] W fun e w' => e = .returned (.bool true) ∧ Below W.heap.size W w' := by
  obtain ⟨s, rfl, hs⟩ := open_text o0 h0 z0
  exact addrAgain_walk s hs W tb

end Go.Proofs.YtopbbljnhnhpaaaDoor
