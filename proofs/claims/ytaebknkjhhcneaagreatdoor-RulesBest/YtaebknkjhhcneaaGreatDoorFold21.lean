/-
  Edge of the program.
  Owns of the program and of the document.
  Which rule is the best: Best4 and Best6 of the program.
  The rule that is known, and its edge: awake.
-/
import Derived.Test.YtaebknkjhhcneaaGreatDoorMc3
import Derived.Test.YtaebknkjhhcneaaGreatDoorFold18
import Derived.Test.YtaebknkjhhcneaaGreatDoorFold19
import Derived.Test.YtaebknkjhhcneaaGreatDoorFold12
import Derived.Test.YtaebknkjhhcneaaGreatDoorQa8p
import Derived.Test.YtaebknkjhhcneaaGreatDoorFold17
import Derived.Test.YtaebknkjhhcneaaGreatDoorMh2
namespace Go.Proofs.YtaebknkjhhcneaaGreatDoor
open Go Go.RowKit
set_option linter.unusedVariables false
set_option linter.unusedSimpArgs false


theorem armV {P : Program} {w : World} {ops : Array Oper} {rest : List Oper} {o : Oper} {a : Act} {Q : Exit → Act → World → Prop} (X : Op) (hop : o.op = X) (hg : o.guard = none) {v : Value} (hrun : (execOp a.eval o).run P w = .ok (.value v) w) (hK : wpList P ops Q rest (a.put o.dst v) w) : wpList P ops Q (o :: rest) a w := by
  refine BigFrame.wpList_want (by simp [Region.wanted, hg]) fun K hK' => ?_
  unfold Oper.wp
  rw [hrun]
  exact hK' _ _ hK
theorem res2c {P : Program} {fn : Func} {a b : Tmp} {t : TypeId} (h : fn.results = #[.cell a t, .tmp b]) {tmps : Array Value} {R : Addr} (hp : tmps.getD a undef = .pointer (some R)) {v : Value} {w : World} (hl : (loadVar t R).run P w = .ok v w) :
    (results fn tmps).run P w = .ok (.tuple #[v, tmps.getD b undef]) w := by
  rw [Array.getD_eq_getD_getElem?] at hp
  simp [results, h, hp, asAddr, hl]
theorem edg_l4 (r : Ru) (v : Nat) : (edg r v).l4 = v4L r v := by rw [edg]
theorem edg_l6 (r : Ru) (v : Nat) : (edg r v).l6 = endL r v := by rw [edg]
theorem edg_ow (r : Ru) (v : Nat) : (edg r v).ow = ownL r v := by rw [edg]
theorem edg_len {r : Ru} (h : r.Ok) (v : Nat) : (edC (edg r v)).length = 41 := edC_length (by rw [edg_l4]; exact v4L_length h) (by rw [edg_l6]; exact endL_length h) (by rw [edg_ow]; exact ownL_length h)
def edgE (r : Ru) (v : Nat) : Value := if ckE r = 0 then (if v < 2 ^ r.ea.toNat then .tuple #[EV (edg r v), .int .i64 0] else .tuple #[EV zeroEd, .int .i64 101]) else .tuple #[EV zeroEd, .int .i64 (ckE r)]


end Go.Proofs.YtaebknkjhhcneaaGreatDoor

namespace Go.Proofs.YtaebknkjhhcneaaGreatDoor
open Go Go.RowKit
set_option linter.unusedVariables false
set_option linter.unusedSimpArgs false

def hasL (l : List Int) (n : Int) (y : List Int) : Bool := decide (blR n y = l)
theorem has4_form {a0 a1 a2 a3 n b0 b1 b2 b3 : Int} : (okP4 a0 a1 a2 a3 n && hasB a0 a1 a2 a3 n b0 b1 b2 b3) = (okP4L [a0, a1, a2, a3] n && hasL [a0, a1, a2, a3] n [b0, b1, b2, b3]) ∧ okP4 a0 a1 a2 a3 n = okP4L [a0, a1, a2, a3] n := by
  have e : okP4 a0 a1 a2 a3 n = okP4L [a0, a1, a2, a3] n := by unfold okP4 okP4L; rw [blR4]
  have e2 : hasB a0 a1 a2 a3 n b0 b1 b2 b3 = hasL [a0, a1, a2, a3] n [b0, b1, b2, b3] := by unfold hasB hasL; rw [blR4]
  rw [e, e2]
  exact ⟨rfl, rfl⟩
theorem okP4_L {a0 a1 a2 a3 n : Int} : okP4 a0 a1 a2 a3 n = okP4L [a0, a1, a2, a3] n := by unfold okP4 okP4L; rw [blR4]
theorem Has4_L (l : List Int) (n : Int) (y : List Int) (w : World) (hf : FitB l) (hl : l.length = 4) (hb : In64 n) (yf : FitB y) (yl : y.length = 4) :
    Calls Tryz.prog 50 #[P4L l n, A4L y] w fun e w' => e = .returned (.tuple #[.bool (okP4L l n && hasL l n y), .int .i64 (if okP4L l n then 0 else 22)]) ∧ Below w.heap.size w w' := by
  obtain ⟨a0, a1, a2, a3, rfl⟩ := list4 hl
  obtain ⟨b0, b1, b2, b3, rfl⟩ := list4 yl
  have h := Has4_calls a0 a1 a2 a3 n b0 b1 b2 b3 w ⟨hf a0 (by simp), hf a1 (by simp), hf a2 (by simp), hf a3 (by simp), hb⟩ (yf b0 (by simp)) (yf b1 (by simp)) (yf b2 (by simp)) (yf b3 (by simp))
  rw [has4_form.1, okP4_L] at h
  exact h
theorem RHas4_L (l : List Int) (n : Int) (y : List Int) (w : World) (hf : FitB l) (hl : l.length = 4) (hb : In64 n) (yf : FitB y) (yl : y.length = 4) :
    Calls Tryz.prog 51 #[P4L l n, A4L y] w fun e w' => e = .returned (.tuple #[.bool (okP4L l n && hasL l n y), .int .i64 (if okP4L l n then 0 else 22)]) ∧ Below w.heap.size w w' := by
  obtain ⟨a0, a1, a2, a3, rfl⟩ := list4 hl
  obtain ⟨b0, b1, b2, b3, rfl⟩ := list4 yl
  have h := RHas4_calls a0 a1 a2 a3 n b0 b1 b2 b3 w (hf a0 (by simp)) (hf a1 (by simp)) (hf a2 (by simp)) (hf a3 (by simp)) hb (yf b0 (by simp)) (yf b1 (by simp)) (yf b2 (by simp)) (yf b3 (by simp))
  rw [has4_form.1, okP4_L] at h
  exact h
def hasP (o l p : Int) (n : Nat) : Bool := decide (setOk o l p) && decide (hasN o.toNat l.toNat p.toNat n)
theorem nat_set {o l p : Int} (h : setOk o l p) (hp : 0 ≤ p) : ∃ o' l' p' : Nat, o = o' ∧ l = l' ∧ p = p' ∧ o' ≤ 15 ∧ l' ≤ 16 - o' ∧ p' < 2 ^ l' := by
  obtain ⟨⟨h1, h2, h3, h4⟩, h5⟩ := h
  refine ⟨o.toNat, l.toNat, p.toNat, by omega, by omega, by omega, by omega, by omega, ?_⟩
  have e : (2 : Int) ^ l.toNat = ((2 ^ l.toNat : Nat) : Int) := by rw [Int.natCast_pow]; rfl
  rw [e] at h5
  omega
theorem RHas_P (o l p : Int) (n : Nat) (w : World) (ho : In64 o) (hl : In64 l) (hp : 0 ≤ p ∧ p < 65536) (hn : n < 65536) :
    Calls Tryz.prog 60 #[PS o l p, .int .u16 n] w fun e w' => e = .returned (HasE (hasP o l p n) (if setOk o l p then 0 else 90)) ∧ Below w.heap.size w w' := by
  by_cases h : setOk o l p
  · obtain ⟨o', l', p', rfl, rfl, rfl, h1, h2, h3⟩ := nat_set h hp.1
    have := RHas_yes o' l' p' n w h1 h2 h3 hn
    rw [if_pos h, hasP, decide_eq_true h, Bool.true_and, Int.toNat_natCast, Int.toNat_natCast, Int.toNat_natCast]
    exact this
  · rw [if_neg h, hasP, decide_eq_false h, Bool.false_and]
    exact RHas_no o l p n w ho hl hp h
def ownsB (e : Ed) (y : List Int) (n : Nat) : Bool := hasL e.l4 e.n4 y && ((e.l == 0) || hasP e.o e.l e.p n)
def ownsE (e : Ed) (y : List Int) (n : Nat) : Value := if okP4L e.l4 e.n4 = true then (if setOk e.o e.l e.p then .tuple #[.bool (ownsB e y n), .int .i64 0] else .tuple #[.bool false, .int .i64 90]) else .tuple #[.bool false, .int .i64 22]
abbrev YO (y : List Int) : Obj := .cells (b8 y).toArray 61
theorem load_y {W : World} {b : Nat} {y : List Int} (hl : y.length = 4) (h : W.heap[b]? = some (YO y)) : (Instr.loadAt 61 (.pointer (some ⟨b, 0, none⟩))).run Tryz.prog W = .ok (A4L y) W :=
  agg_load (t := 61) Tryz.isAgg61 Tryz.sizeOf61 (by rw [b8_length, hl]) (CellsAt.of_blk h)


set_option maxHeartbeats 2000000 in
set_option maxRecDepth 100000 in
theorem ROwns_any (e : Ed) (he : e.In) (y : List Int) (yf : FitB y) (yl : y.length = 4) (n : Nat) (hn : n < 65536) (w : World) :
    Calls Tryz.prog 26 #[EV e, A4L y, .int .u16 n] w fun e' w' => e' = .returned (ownsE e y n) ∧ Below w.heap.size w w' := by
  obtain ⟨hb, hb2, hBw⟩ := two_box' w (EO e) (YO y)
  have H4 : Hid _ := fun W => RHas4_L e.l4 e.n4 y W he.f4 he.k4 he.b4 yf yl
  have HP : Hid _ := fun W => RHas_P e.o e.l e.p n W he.bo he.bl he.bp hn
  have hE0 := EdAt.of he.k4 he.k6 he.kw hb
  have HL4 : Hid _ := hE0.ld4
  have HLY : Hid _ := load_y yl hb2
  have HX : Hid (∀ W', Below ((w.alloc (EO e)).alloc (YO y)).heap.size ((w.alloc (EO e)).alloc (YO y)) W' → EdAt W' w.heap.size e) := fun W' h => EdAt.of he.k4 he.k6 he.kw (blk_on hb h)
  generalize hW : (w.alloc (EO e)).alloc (YO y) = W at *
  clear hE0 hb hb2
  cases c4 : okP4L e.l4 e.n4
  · have hE : ownsE e y n = .tuple #[.bool false, .int .i64 22] := by unfold ownsE; rw [c4]; rfl
    rw [hE]
    rw [c4] at H4
    clear hE c4 he
    go_enter Tryz.func26, Tryz.ntmps26
    go_wp2_with first
      | ((with_reducible show wpList _ _ _ _ _ _); refine armL (.tmp 13) 63 rfl rfl rfl HL4.out ?_)
      | ((with_reducible show wpList _ _ _ _ _ _); refine armL (.tmp 4) 61 rfl rfl rfl HLY.out ?_)
    refine (H4.out _).mono ?_
    rintro e' w2 ⟨rfl, hB2⟩
    go_wp2
    go_returns
    exact ⟨rfl, hBw.trans (hB2.mono hBw.size)⟩
  · rw [c4] at H4
    by_cases cs : setOk e.o e.l e.p
    · have hE : ownsE e y n = .tuple #[.bool (ownsB e y n), .int .i64 0] := by unfold ownsE; rw [if_pos c4, if_pos cs]
      rw [hE, ownsB]
      rw [if_pos cs] at HP
      clear hE c4 cs
      generalize hasL e.l4 e.n4 y = b1 at *
      generalize hasP e.o e.l e.p n = b2 at *
      cases b1 <;> cases hl0 : (e.l == 0)
      all_goals
        go_enter Tryz.func26, Tryz.ntmps26
        go_wp2_with first
          | ((with_reducible show wpList _ _ _ _ _ _); refine armL (.tmp 13) 63 rfl rfl rfl HL4.out ?_)
          | ((with_reducible show wpList _ _ _ _ _ _); refine armL (.tmp 4) 61 rfl rfl rfl HLY.out ?_)
        refine (H4.out _).mono ?_
        rintro e' w2 ⟨rfl, hB2⟩
        have HLS : Hid _ := (HX.out _ hB2).ldS
        go_wp2_with first
          | ((with_reducible show wpList _ _ _ _ _ _); refine armL (.tmp 23) 67 rfl rfl rfl HLS.out ?_)
        refine (HP.out _).mono ?_
        rintro e' w3 ⟨rfl, hB3⟩
        have hB23 := hB2.trans (hB3.mono hB2.size)
        have c6 := (HX.out _ hB23).c6
        go_wp2
        go_returns
        exact ⟨rfl, hBw.trans (hB23.mono hBw.size)⟩
    · have hE : ownsE e y n = .tuple #[.bool false, .int .i64 90] := by unfold ownsE; rw [if_pos c4, if_neg cs]
      rw [hE]
      rw [if_neg cs] at HP
      clear hE c4 cs
      generalize hasL e.l4 e.n4 y = b1 at *
      generalize hasP e.o e.l e.p n = b2 at *
      go_enter Tryz.func26, Tryz.ntmps26
      go_wp2_with first
        | ((with_reducible show wpList _ _ _ _ _ _); refine armL (.tmp 13) 63 rfl rfl rfl HL4.out ?_)
        | ((with_reducible show wpList _ _ _ _ _ _); refine armL (.tmp 4) 61 rfl rfl rfl HLY.out ?_)
      refine (H4.out _).mono ?_
      rintro e' w2 ⟨rfl, hB2⟩
      have HLS : Hid _ := (HX.out _ hB2).ldS
      go_wp2_with first
        | ((with_reducible show wpList _ _ _ _ _ _); refine armL (.tmp 23) 67 rfl rfl rfl HLS.out ?_)
      refine (HP.out _).mono ?_
      rintro e' w3 ⟨rfl, hB3⟩
      have hB23 := hB2.trans (hB3.mono hB2.size)
      go_wp2
      go_returns
      exact ⟨rfl, hBw.trans (hB23.mono hBw.size)⟩

end Go.Proofs.YtaebknkjhhcneaaGreatDoor

namespace Go.Proofs.YtaebknkjhhcneaaGreatDoor
open Go Go.RowKit
set_option linter.unusedVariables false
set_option linter.unusedSimpArgs false

/-- The rules that a slice holds. -/
def RsAt (W : World) (v : Value) (rs : List Ru) : Prop :=
  ∃ ad cap, v = .slice ad rs.length cap ∧ rs.length ≤ cap ∧ cap ≤ maxLen ∧ (rs ≠ [] → ∃ g off, ad = some ⟨g, off, none⟩ ∧ g < W.heap.size ∧ ∀ (j : Nat) r, rs[j]? = some r → CellsAt W g (off + j * 25) (rc r))
theorem RsAt.below {W W' : World} {v : Value} {rs : List Ru} (h : RsAt W v rs) (hb : Below W.heap.size W W') : RsAt W' v rs := by
  obtain ⟨ad, cap, e, h1, h2, h3⟩ := h
  refine ⟨ad, cap, e, h1, h2, fun hne => ?_⟩
  obtain ⟨g, off, e1, hg, hc⟩ := h3 hne
  exact ⟨g, off, e1, Nat.lt_of_lt_of_le hg hb.size, fun j r hj k u hk => (hb.cell (p := ⟨g, _, none⟩) hg).trans (hc j r hj k u hk)⟩

/-- The best of the first k rules, and how long its prefix is. -/
def bestN (n : Ru → Int) (hs : Ru → Bool) (rs : List Ru) : Nat → Int × Int
  | 0 => (0, -1)
  | k + 1 => match rs[k]? with
    | some r => if hs r = true ∧ (bestN n hs rs k).2 < n r then (((k : Nat) : Int), n r) else bestN n hs rs k
    | none => bestN n hs rs k
def bestE (n : Ru → Int) (hs : Ru → Bool) (rs : List Ru) : Value := .tuple #[.int .i64 (bestN n hs rs rs.length).1, .bool (decide (0 ≤ (bestN n hs rs rs.length).2))]
theorem bestN_in {n : Ru → Int} {hs : Ru → Bool} {rs : List Ru} (hn : ∀ r ∈ rs, In64 (n r)) : ∀ k, k ≤ rs.length → (0 ≤ (bestN n hs rs k).1 ∧ (bestN n hs rs k).1 ≤ k) ∧ In64 (bestN n hs rs k).2
  | 0, _ => ⟨⟨by simp [bestN], by simp [bestN]⟩, by simp [bestN, In64]⟩
  | k + 1, h => by
    obtain ⟨⟨h1, h2⟩, h3⟩ := bestN_in hn k (by omega)
    unfold bestN
    split
    · rename_i r hr
      split
      · exact ⟨⟨by show (0 : Int) ≤ (k : Nat); omega, by show ((k : Nat) : Int) ≤ ((k + 1 : Nat) : Int); omega⟩, hn r (List.mem_of_getElem? hr)⟩
      · exact ⟨⟨h1, by show _ ≤ ((k + 1 : Nat) : Int); omega⟩, h3⟩
    · exact ⟨⟨h1, by show _ ≤ ((k + 1 : Nat) : Int); omega⟩, h3⟩

def has4R (y : List Int) (r : Ru) : Bool := okP4L r.l4 r.n4 && hasL r.l4 r.n4 y
def has6R (y : List Int) (r : Ru) : Bool := okP6 r.l6 r.n6 && has6 r.l6 r.n6 y
abbrev zRL : List Value := [.int .u8 0, .int .u8 0, .int .u8 0, .int .u8 0, .int .u8 0, .int .u8 0, .int .u8 0, .int .u8 0, .int .u8 0, .int .u8 0, .int .u8 0, .int .u8 0, .int .u8 0, .int .u8 0, .int .u8 0, .int .u8 0, .int .i64 0, .int .u8 0, .int .u8 0, .int .u8 0, .int .u8 0, .int .i64 0, .int .i64 0, .int .i64 0, .bool false]


set_option maxRecDepth 100000 in
set_option maxHeartbeats 2000000 in
theorem ask4 (r : Ru) (hr : r.In) (y : List Int) (yf : FitB y) (yl : y.length = 4) (b : Nat) (w : World) (hb : w.heap[b]? = some (.cells (b8 y).toArray 61)) :
    Calls Tryz.prog 49 #[RV r, .pointer (some ⟨b, 0, none⟩)] w fun e w' => e = .returned (.tuple #[.int .i64 r.n4, .bool (has4R y r)]) ∧ Below w.heap.size w w' := by
  generalize hQ : (fun (e : Ending) (w' : World) => e = .returned (.tuple #[.int .i64 r.n4, .bool (has4R y r)]) ∧ Below w.heap.size w w') = Q
  have HQ : Hid _ := hQ
  clear hQ
  have HH : Hid _ := fun W => Has4_L r.l4 r.n4 y W hr.f4 hr.k4 hr.b4 yf yl
  have hB0 := (Below.refl w.heap.size w).alloc (Nat.le_refl _) (RO r)
  have hb0 := blk_new w (RO r)
  have hy0 := blk_alloc hb (RO r)
  have lt0 : w.heap.size < (w.alloc (RO r)).heap.size := by simp
  generalize hW0 : w.alloc (RO r) = W0 at *
  have HW0 : Hid (w.alloc (.cells (rc r).toArray 65) = W0) := hW0
  have HA : Hid _ := RuAt.of hr hb0
  have HLA : Hid ((Instr.loadAt 61 (.pointer (some ⟨b, 0, none⟩))).run Tryz.prog W0 = .ok (A4L y) W0) := agg_load (n := 4) (fun w => by kernel_rfl) (fun w => by kernel_rfl) (by simp [yl, b8_length]) (CellsAt.blk hy0)
  clear hW0
  go_enter Tryz.func49, Tryz.ntmps49
  go_wp2_with first
    | ((with_reducible show wpList _ _ _ _ _ _); rw [HW0.out]; refine armL (.tmp 8) 63 rfl rfl rfl HA.out.ld4 ?_)
    | ((with_reducible show wpList _ _ _ _ _ _); refine armL (.tmp 1) 61 rfl rfl rfl HLA.out ?_)
  refine Calls.mono (HH.out _) ?_
  rintro e w1 ⟨rfl, hB1⟩
  have hb1 := (hB1.block w.heap.size lt0).trans hb0
  have c9 := (RuAt.of hr hb1).c21
  have eh : (okP4L r.l4 r.n4 && hasL r.l4 r.n4 y) = has4R y r := rfl
  rw [eh]
  generalize (if okP4L r.l4 r.n4 = true then (0 : Int) else 22) = er
  generalize has4R y r = hx at HQ ⊢
  clear eh HA HH HLA
  go_wp2
  try go_ret2
  rw [← HQ.out]
  exact ⟨rfl, hB0.trans (hB1.mono hB0.size)⟩


set_option maxRecDepth 100000 in
set_option maxHeartbeats 4000000 in
theorem best4 (rs : List Ru) (hrs : ∀ r ∈ rs, r.In) (hlen : rs.length ≤ 1000000) (v : Value) (y : List Int) (yf : FitB y) (yl : y.length = 4) (b : Nat) (w : World) (hv : RsAt w v rs) (hb : w.heap[b]? = some (.cells (b8 y).toArray 61)) :
    Calls Tryz.prog 48 #[v, .func (.func 49) #[] #[.pointer (some ⟨b, 0, none⟩)]] w fun e w' => e = .returned (bestE Ru.n4 (has4R y) rs) ∧ Below w.heap.size w w' := by
  generalize hQ : (fun (e : Ending) (w' : World) => e = .returned (bestE Ru.n4 (has4R y) rs) ∧ Below w.heap.size w w') = Q
  have HQ : Hid _ := hQ
  clear hQ
  have HV : Hid _ := hv
  obtain ⟨ad, cap, rfl, h1, h2, h3⟩ := hv
  have hin := bestN_in (n := Ru.n4) (hs := has4R y) (rs := rs) (fun r hr => (hrs r hr).b4)
  go_enter Tryz.func48, Tryz.ntmps48
  go_wp2
  go_loopw [6, 7, 14] (fun a l i wr => ∃ k : Nat, k ≤ rs.length ∧ i = .int .i64 k ∧ a = .int .i64 (bestN Ru.n4 (has4R y) rs k).1 ∧ l = .int .i64 (bestN Ru.n4 (has4R y) rs k).2 ∧ Below w.heap.size w wr) (fun _ _ i _ => rs.length - (intOf i).toNat)
  case atStart => exact ⟨0, Nat.zero_le _, rfl, rfl, rfl, Below.refl _ _⟩
  case round =>
    obtain ⟨k, hk, rfl, rfl, rfl, hBk⟩ := hrel
    by_cases hlt : k < rs.length
    · obtain ⟨r, hr⟩ : ∃ r, rs[k]? = some r := ⟨_, List.getElem?_eq_getElem hlt⟩
      have hrin := hrs r (List.mem_of_getElem? hr)
      obtain ⟨g, off, rfl, hg, hc⟩ := h3 (fun e => by rw [e] at hlt; simp at hlt)
      have hck : CellsAt wr g (off + k * 25) (rc r) := fun j u hj => (hBk.cell (p := ⟨g, _, none⟩) hg).trans (hc k r hr j u hj)
      have HLR : Hid ((Instr.loadAt 65 (.pointer (some ⟨g, off + k * 25, none⟩))).run Tryz.prog wr = .ok (RV r) wr) := agg_load (fun w => by kernel_rfl) (fun w => by kernel_rfl) (rc_length hrin) hck
      obtain ⟨w5, hst, hb5, hB5⟩ := box_new (ty := 65) (n := 25) (fun w => by kernel_rfl) wr zRL rfl (rc r) (rc_length hrin) (rc_one r)
      have HST : Hid _ := hst
      have HLB : Hid ((Instr.loadAt 65 (.pointer (some ⟨wr.heap.size, 0, none⟩))).run Tryz.prog w5 = .ok (RV r) w5) := agg_load (fun w => by kernel_rfl) (fun w => by kernel_rfl) (rc_length hrin) (CellsAt.blk hb5)
      have hB5' := hBk.trans (hB5.mono hBk.size)
      have hby := (hB5'.block b (Array.getElem?_eq_some_iff.1 hb).1).trans hb
      have HASK : Hid _ := ask4 r hrin y yf yl b w5 hby
      obtain ⟨⟨p1, p2⟩, p3⟩ := hin k hk
      have q1 : decide ((k : Int) < rs.length) = true := by simpa using hlt
      have hnx : bestN Ru.n4 (has4R y) rs (k + 1) = if has4R y r = true ∧ (bestN Ru.n4 (has4R y) rs k).2 < r.n4 then (((k : Nat) : Int), r.n4) else bestN Ru.n4 (has4R y) rs k := by
        simp only [bestN, hr]
      have HNX : Hid _ := hnx
      have w9 : IntKind.i64.wrap ((k : Int) + 1) = (k : Int) + 1 := wrap_i64 _ ⟨by omega, by omega⟩
      clear hst hc hck hnx hr HV h3 hin
      generalize hm : (bestN Ru.n4 (has4R y) rs k).1 = m1 at *
      generalize hm2 : (bestN Ru.n4 (has4R y) rs k).2 = m2 at *
      have HM : Hid _ := And.intro hm hm2
      clear hm hm2
      go_wp2_with first
        | ((with_reducible show wpList _ _ _ _ _ _); refine armL (.tmp 17) 65 rfl rfl rfl HLR.out ?_)
        | ((with_reducible show wpList _ _ _ _ _ _); refine armS (.tmp 9) (.tmp 18) 65 rfl rfl rfl rfl HST.out ?_)
        | ((with_reducible show wpList _ _ _ _ _ _); refine armL (.tmp 9) 65 rfl rfl rfl HLB.out ?_)
      refine Calls.mono HASK.out ?_
      rintro e w6 ⟨rfl, hB6⟩
      have hB6' := hB5'.trans (hB6.mono hB5'.size)
      cases hh : has4R y r with
      | false =>
        have HB : Hid ((bestN Ru.n4 (has4R y) rs (k + 1)).1 = m1 ∧ (bestN Ru.n4 (has4R y) rs (k + 1)).2 = m2) := by
          show _ ∧ _
          rw [HNX.out, hh, if_neg (fun e => by cases e.1)]
          exact HM.out
        have HK : Hid _ := hB6'
        clear HNX hB6 hB6' hh
        go_wp2
        go_roundw
        case rel => exact ⟨k + 1, hlt, rfl, by rw [HB.out.1], by rw [HB.out.2], HK.out⟩
        case measure => show rs.length - (k + 1) < rs.length - k; omega
      | true =>
        by_cases hgt : m2 < r.n4
        · have q2 : decide (m2 < r.n4) = true := by simpa using hgt
          have HB : Hid ((bestN Ru.n4 (has4R y) rs (k + 1)).1 = ((k : Nat) : Int) ∧ (bestN Ru.n4 (has4R y) rs (k + 1)).2 = r.n4) := by
            show _ ∧ _
            rw [HNX.out, hh, if_pos ⟨rfl, hgt⟩]
            exact ⟨rfl, rfl⟩
          have HK : Hid _ := hB6'
          clear HNX hB6 hB6' hh hgt
          go_wp2
          go_roundw
          case rel => exact ⟨k + 1, hlt, rfl, by rw [HB.out.1], by rw [HB.out.2], HK.out⟩
          case measure => show rs.length - (k + 1) < rs.length - k; omega
        · have q2 : decide (m2 < r.n4) = false := by simpa using hgt
          have HB : Hid ((bestN Ru.n4 (has4R y) rs (k + 1)).1 = m1 ∧ (bestN Ru.n4 (has4R y) rs (k + 1)).2 = m2) := by
            show _ ∧ _
            rw [HNX.out, if_neg (fun e => hgt e.2)]
            exact HM.out
          have HK : Hid _ := hB6'
          clear HNX hB6 hB6' hh hgt
          go_wp2
          go_roundw
          case rel => exact ⟨k + 1, hlt, rfl, by rw [HB.out.1], by rw [HB.out.2], HK.out⟩
          case measure => show rs.length - (k + 1) < rs.length - k; omega
    · obtain rfl : k = rs.length := by omega
      have HBk : Hid _ := hBk
      unfold bestE at HQ
      generalize (bestN Ru.n4 (has4R y) rs rs.length).1 = m1 at *
      generalize (bestN Ru.n4 (has4R y) rs rs.length).2 = m2 at *
      clear hBk hin h3
      go_wp2
      try go_ret2
      rw [← HQ.out]
      exact ⟨rfl, HBk.out⟩


set_option maxRecDepth 100000 in
set_option maxHeartbeats 2000000 in
theorem ask6 (r : Ru) (hr : r.In) (y : List Int) (yf : FitB y) (yl : y.length = 16) (b : Nat) (w : World) (hb : w.heap[b]? = some (.cells (u8s y).toArray 24)) :
    Calls Tryz.prog 52 #[RV r, .pointer (some ⟨b, 0, none⟩)] w fun e w' => e = .returned (.tuple #[.int .i64 r.n6, .bool (has6R y r)]) ∧ Below w.heap.size w w' := by
  generalize hQ : (fun (e : Ending) (w' : World) => e = .returned (.tuple #[.int .i64 r.n6, .bool (has6R y r)]) ∧ Below w.heap.size w w') = Q
  have HQ : Hid _ := hQ
  clear hQ
  have HH : Hid _ := fun W => Has6_calls r.l6 r.n6 y W hr.f6 hr.k6 yf yl hr.b6
  have hB0 := (Below.refl w.heap.size w).alloc (Nat.le_refl _) (RO r)
  have hb0 := blk_new w (RO r)
  have hy0 := blk_alloc hb (RO r)
  have lt0 : w.heap.size < (w.alloc (RO r)).heap.size := by simp
  generalize hW0 : w.alloc (RO r) = W0 at *
  have HW0 : Hid (w.alloc (.cells (rc r).toArray 65) = W0) := hW0
  have HA : Hid _ := RuAt.of hr hb0
  have HLA : Hid ((Instr.loadAt 24 (.pointer (some ⟨b, 0, none⟩))).run Tryz.prog W0 = .ok (A6 y) W0) := agg_load (n := 16) (fun w => by kernel_rfl) (fun w => by kernel_rfl) (by simp [yl, u8s_length]) (CellsAt.blk hy0)
  clear hW0
  go_enter Tryz.func52, Tryz.ntmps52
  go_wp2_with first
    | ((with_reducible show wpList _ _ _ _ _ _); rw [HW0.out]; refine armL (.tmp 8) 26 rfl rfl rfl HA.out.ld6 ?_)
    | ((with_reducible show wpList _ _ _ _ _ _); refine armL (.tmp 1) 24 rfl rfl rfl HLA.out ?_)
  refine Calls.mono (HH.out _) ?_
  rintro e w1 ⟨rfl, hB1⟩
  have hb1 := (hB1.block w.heap.size lt0).trans hb0
  have c9 := (RuAt.of hr hb1).c16
  have eh : (okP6 r.l6 r.n6 && has6 r.l6 r.n6 y) = has6R y r := rfl
  rw [eh]
  generalize (if okP6 r.l6 r.n6 = true then (0 : Int) else 22) = er
  generalize has6R y r = hx at HQ ⊢
  clear eh HA HH HLA
  go_wp2
  try go_ret2
  rw [← HQ.out]
  exact ⟨rfl, hB0.trans (hB1.mono hB0.size)⟩


set_option maxRecDepth 100000 in
set_option maxHeartbeats 4000000 in
theorem best6 (rs : List Ru) (hrs : ∀ r ∈ rs, r.In) (hlen : rs.length ≤ 1000000) (v : Value) (y : List Int) (yf : FitB y) (yl : y.length = 16) (b : Nat) (w : World) (hv : RsAt w v rs) (hb : w.heap[b]? = some (.cells (u8s y).toArray 24)) :
    Calls Tryz.prog 48 #[v, .func (.func 52) #[] #[.pointer (some ⟨b, 0, none⟩)]] w fun e w' => e = .returned (bestE Ru.n6 (has6R y) rs) ∧ Below w.heap.size w w' := by
  generalize hQ : (fun (e : Ending) (w' : World) => e = .returned (bestE Ru.n6 (has6R y) rs) ∧ Below w.heap.size w w') = Q
  have HQ : Hid _ := hQ
  clear hQ
  have HV : Hid _ := hv
  obtain ⟨ad, cap, rfl, h1, h2, h3⟩ := hv
  have hin := bestN_in (n := Ru.n6) (hs := has6R y) (rs := rs) (fun r hr => (hrs r hr).b6)
  go_enter Tryz.func48, Tryz.ntmps48
  go_wp2
  go_loopw [6, 7, 14] (fun a l i wr => ∃ k : Nat, k ≤ rs.length ∧ i = .int .i64 k ∧ a = .int .i64 (bestN Ru.n6 (has6R y) rs k).1 ∧ l = .int .i64 (bestN Ru.n6 (has6R y) rs k).2 ∧ Below w.heap.size w wr) (fun _ _ i _ => rs.length - (intOf i).toNat)
  case atStart => exact ⟨0, Nat.zero_le _, rfl, rfl, rfl, Below.refl _ _⟩
  case round =>
    obtain ⟨k, hk, rfl, rfl, rfl, hBk⟩ := hrel
    by_cases hlt : k < rs.length
    · obtain ⟨r, hr⟩ : ∃ r, rs[k]? = some r := ⟨_, List.getElem?_eq_getElem hlt⟩
      have hrin := hrs r (List.mem_of_getElem? hr)
      obtain ⟨g, off, rfl, hg, hc⟩ := h3 (fun e => by rw [e] at hlt; simp at hlt)
      have hck : CellsAt wr g (off + k * 25) (rc r) := fun j u hj => (hBk.cell (p := ⟨g, _, none⟩) hg).trans (hc k r hr j u hj)
      have HLR : Hid ((Instr.loadAt 65 (.pointer (some ⟨g, off + k * 25, none⟩))).run Tryz.prog wr = .ok (RV r) wr) := agg_load (fun w => by kernel_rfl) (fun w => by kernel_rfl) (rc_length hrin) hck
      obtain ⟨w5, hst, hb5, hB5⟩ := box_new (ty := 65) (n := 25) (fun w => by kernel_rfl) wr zRL rfl (rc r) (rc_length hrin) (rc_one r)
      have HST : Hid _ := hst
      have HLB : Hid ((Instr.loadAt 65 (.pointer (some ⟨wr.heap.size, 0, none⟩))).run Tryz.prog w5 = .ok (RV r) w5) := agg_load (fun w => by kernel_rfl) (fun w => by kernel_rfl) (rc_length hrin) (CellsAt.blk hb5)
      have hB5' := hBk.trans (hB5.mono hBk.size)
      have hby := (hB5'.block b (Array.getElem?_eq_some_iff.1 hb).1).trans hb
      have HASK : Hid _ := ask6 r hrin y yf yl b w5 hby
      obtain ⟨⟨p1, p2⟩, p3⟩ := hin k hk
      have q1 : decide ((k : Int) < rs.length) = true := by simpa using hlt
      have hnx : bestN Ru.n6 (has6R y) rs (k + 1) = if has6R y r = true ∧ (bestN Ru.n6 (has6R y) rs k).2 < r.n6 then (((k : Nat) : Int), r.n6) else bestN Ru.n6 (has6R y) rs k := by
        simp only [bestN, hr]
      have HNX : Hid _ := hnx
      have w9 : IntKind.i64.wrap ((k : Int) + 1) = (k : Int) + 1 := wrap_i64 _ ⟨by omega, by omega⟩
      clear hst hc hck hnx hr HV h3 hin
      generalize hm : (bestN Ru.n6 (has6R y) rs k).1 = m1 at *
      generalize hm2 : (bestN Ru.n6 (has6R y) rs k).2 = m2 at *
      have HM : Hid _ := And.intro hm hm2
      clear hm hm2
      go_wp2_with first
        | ((with_reducible show wpList _ _ _ _ _ _); refine armL (.tmp 17) 65 rfl rfl rfl HLR.out ?_)
        | ((with_reducible show wpList _ _ _ _ _ _); refine armS (.tmp 9) (.tmp 18) 65 rfl rfl rfl rfl HST.out ?_)
        | ((with_reducible show wpList _ _ _ _ _ _); refine armL (.tmp 9) 65 rfl rfl rfl HLB.out ?_)
      refine Calls.mono HASK.out ?_
      rintro e w6 ⟨rfl, hB6⟩
      have hB6' := hB5'.trans (hB6.mono hB5'.size)
      cases hh : has6R y r with
      | false =>
        have HB : Hid ((bestN Ru.n6 (has6R y) rs (k + 1)).1 = m1 ∧ (bestN Ru.n6 (has6R y) rs (k + 1)).2 = m2) := by
          show _ ∧ _
          rw [HNX.out, hh, if_neg (fun e => by cases e.1)]
          exact HM.out
        have HK : Hid _ := hB6'
        clear HNX hB6 hB6' hh
        go_wp2
        go_roundw
        case rel => exact ⟨k + 1, hlt, rfl, by rw [HB.out.1], by rw [HB.out.2], HK.out⟩
        case measure => show rs.length - (k + 1) < rs.length - k; omega
      | true =>
        by_cases hgt : m2 < r.n6
        · have q2 : decide (m2 < r.n6) = true := by simpa using hgt
          have HB : Hid ((bestN Ru.n6 (has6R y) rs (k + 1)).1 = ((k : Nat) : Int) ∧ (bestN Ru.n6 (has6R y) rs (k + 1)).2 = r.n6) := by
            show _ ∧ _
            rw [HNX.out, hh, if_pos ⟨rfl, hgt⟩]
            exact ⟨rfl, rfl⟩
          have HK : Hid _ := hB6'
          clear HNX hB6 hB6' hh hgt
          go_wp2
          go_roundw
          case rel => exact ⟨k + 1, hlt, rfl, by rw [HB.out.1], by rw [HB.out.2], HK.out⟩
          case measure => show rs.length - (k + 1) < rs.length - k; omega
        · have q2 : decide (m2 < r.n6) = false := by simpa using hgt
          have HB : Hid ((bestN Ru.n6 (has6R y) rs (k + 1)).1 = m1 ∧ (bestN Ru.n6 (has6R y) rs (k + 1)).2 = m2) := by
            show _ ∧ _
            rw [HNX.out, if_neg (fun e => hgt e.2)]
            exact HM.out
          have HK : Hid _ := hB6'
          clear HNX hB6 hB6' hh hgt
          go_wp2
          go_roundw
          case rel => exact ⟨k + 1, hlt, rfl, by rw [HB.out.1], by rw [HB.out.2], HK.out⟩
          case measure => show rs.length - (k + 1) < rs.length - k; omega
    · obtain rfl : k = rs.length := by omega
      have HBk : Hid _ := hBk
      unfold bestE at HQ
      generalize (bestN Ru.n6 (has6R y) rs rs.length).1 = m1 at *
      generalize (bestN Ru.n6 (has6R y) rs rs.length).2 = m2 at *
      clear hBk hin h3
      go_wp2
      try go_ret2
      rw [← HQ.out]
      exact ⟨rfl, HBk.out⟩


end Go.Proofs.YtaebknkjhhcneaaGreatDoor

namespace Go.Proofs.YtaebknkjhhcneaaGreatDoor
open Go Go.RowKit
set_option linter.unusedVariables false
set_option linter.unusedSimpArgs false

theorem fit_of {l : List Int} (h : l.all (fun z => decide (0 ≤ z) && decide (z < 256)) = true) : FitB l := by
  intro z hz
  rw [List.all_eq_true] at h
  have := h z hz
  simpa using this
/-- A text whose groups and colons alone say an address that ends with ::. -/
theorem known_parse6 (s : ByteArray) (L A : List Int) (hs : s.size ≤ 100) (hr : okRun (txt s) s.size 0 ⟨[], -1, []⟩ = true) (hL : read6 (txt s) s.size 0 ⟨[], -1, []⟩ = (⟨L, (L.length : Int), []⟩, s.size)) (h7 : L.length ≤ 7) (hz : ∀ z ∈ L, 0 ≤ z ∧ z < 65536) (hA : byK (L ++ List.replicate (8 - L.length) 0) 8 = A) (W : World) :
    Calls Tryz.prog 93 #[.string s] W fun e w' => Par6Post (A, 0, 0) W e w' := by
  rw [← hA]
  exact Parse6_gap s L W (fun W => Read6_plain s W (by omega) hr) hL h7 hz
def kP1 : ByteArray := ⟨#[50, 48, 48, 49, 58, 100, 98, 56, 58, 58, 47, 52, 48]⟩
def kP1H : ByteArray := ⟨#[50, 48, 48, 49, 58, 100, 98, 56, 58, 58]⟩
def kP1A : List Int := [32, 1, 13, 184, 0, 0, 0, 0, 0, 0, 0, 0, 0, 0, 0, 0]
theorem kP1_good : Good6 kP1 10 kP1A 40 where
  slash := by decide +kernel
  lt := by decide
  short := by decide
  parse := fun W => by
    have e : kP1.extract 0 10 = kP1H := by decide +kernel
    rw [e]
    exact known_parse6 kP1H [8193, 3512] kP1A (by decide) (by decide +kernel) (by decide +kernel) (by decide) (by decide) (by decide +kernel) W
  len := by decide +kernel
  sz := by decide +kernel
  digits := by decide +kernel
  num := by decide +kernel
  ok := by decide +kernel
  a16 := rfl
  fit := fit_of (by decide)
  n64 := by decide
def kP4 : ByteArray := ⟨#[49, 57, 50, 46, 48, 46, 50, 46, 48, 47, 50, 52]⟩
def kP4H : ByteArray := ⟨#[49, 57, 50, 46, 48, 46, 50, 46, 48]⟩
def kP4A : List Int := [192, 0, 2, 0]
theorem kP4H_parse (W : World) : Calls Tryz.prog 168 #[.string kP4H] W fun e w' => Par4R (kP4A, 0, 0) W e w' := by
  have h := Parse4_ref kP4H W (by decide)
  unfold Par4Post at h
  have e : rparse4 (txt kP4H) = (kP4A, 0, 0) := by decide +kernel
  rw [e] at h
  exact h
theorem kP4_good : Good4 kP4 9 kP4A 24 where
  slash := by decide +kernel
  lt := by decide
  short := by decide
  parse := fun W => by
    have e : kP4.extract 0 9 = kP4H := by decide +kernel
    rw [e]
    exact kP4H_parse W
  len := by decide +kernel
  sz := by decide +kernel
  digits := by decide +kernel
  num := by decide +kernel
  ok := by decide +kernel
  a16 := rfl
  fit := fit_of (by decide)
  n64 := by decide

def kR : Ru := ⟨kP1A, 40, kP4A, 24, 16, 6, false⟩
theorem kR_in : kR.In := ⟨fit_of (by decide), rfl, ⟨by decide, by decide⟩, fit_of (by decide), rfl, ⟨by decide, by decide⟩, ⟨by decide, by decide⟩, ⟨by decide, by decide⟩⟩
abbrev zeroRL : List Value := [.int .u8 0, .int .u8 0, .int .u8 0, .int .u8 0, .int .u8 0, .int .u8 0, .int .u8 0, .int .u8 0, .int .u8 0, .int .u8 0, .int .u8 0, .int .u8 0, .int .u8 0, .int .u8 0, .int .u8 0, .int .u8 0, .int .i64 0, .int .u8 0, .int .u8 0, .int .u8 0, .int .u8 0, .int .i64 0, .int .i64 0, .int .i64 0, .bool false]
def kE : Ed := ⟨[192, 0, 2, 18], 32, 6, 8, 52, [32, 1, 13, 184, 0, 18, 52, 0, 0, 0, 0, 0, 0, 0, 0, 0], 56, kA⟩
theorem kE_eq : edg kR 4660 = kE := by
  unfold edg kE
  have e1 : v4L kR 4660 = [192, 0, 2, 18] := by decide +kernel
  have e2 : endL kR 4660 = [32, 1, 13, 184, 0, 18, 52, 0, 0, 0, 0, 0, 0, 0, 0, 0] := by decide +kernel
  have e3 : ownL kR 4660 = kA := by decide +kernel
  have e4 : kR.n4 + hB kR = 32 := by decide +kernel
  have e5 : (if 0 < qB kR then kR.off else 0) = 6 := by decide +kernel
  have e6 : qB kR = 8 := by decide +kernel
  have e7 : pidV kR 4660 = 52 := by decide +kernel
  have e8 : kR.n6 + kR.ea = 56 := by decide +kernel
  rw [e1, e2, e3, e4, e5, e6, e7, e8]
  rfl
theorem kE_edge : edgE kR 4660 = .tuple #[EV kE, .int .i64 0] := by
  unfold edgE
  rw [if_pos (by decide +kernel), if_pos (by decide +kernel), kE_eq]

end Go.Proofs.YtaebknkjhhcneaaGreatDoor
