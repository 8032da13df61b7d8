/-
  Owns of the program and of the document.
-/
import Derived.Test.YtloadmpappjceaaDoorMd1
namespace Go.Proofs.YtloadmpappjceaaDoor
open Go Go.RowKit
set_option linter.unusedVariables false
set_option linter.unusedSimpArgs false

def hasL (l : List Int) (n : Int) (y : List Int) : Bool := decide (blR n y = l)
theorem has4_form {a0 a1 a2 a3 n b0 b1 b2 b3 : Int} : (okP4 a0 a1 a2 a3 n && hasB a0 a1 a2 a3 n b0 b1 b2 b3) = (okP4L [a0, a1, a2, a3] n && hasL [a0, a1, a2, a3] n [b0, b1, b2, b3]) ∧ okP4 a0 a1 a2 a3 n = okP4L [a0, a1, a2, a3] n := by
  have e : okP4 a0 a1 a2 a3 n = okP4L [a0, a1, a2, a3] n := by unfold okP4 okP4L; rw [blR4]
  have e2 : hasB a0 a1 a2 a3 n b0 b1 b2 b3 = hasL [a0, a1, a2, a3] n [b0, b1, b2, b3] := by unfold hasB hasL; rw [blR4]
  rw [e, e2]
  exact ⟨rfl, rfl⟩
theorem okP4_L {a0 a1 a2 a3 n : Int} : okP4 a0 a1 a2 a3 n = okP4L [a0, a1, a2, a3] n := by unfold okP4 okP4L; rw [blR4]
theorem Has4_L (l : List Int) (n : Int) (y : List Int) (w : World) (hf : FitB l) (hl : l.length = 4) (hb : In64 n) (yf : FitB y) (yl : y.length = 4) :
    Calls Tryd.prog 46 #[P4L l n, A4L y] w fun e w' => e = .returned (.tuple #[.bool (okP4L l n && hasL l n y), .int .i64 (if okP4L l n then 0 else 22)]) ∧ Below w.heap.size w w' := by
  obtain ⟨a0, a1, a2, a3, rfl⟩ := list4 hl
  obtain ⟨b0, b1, b2, b3, rfl⟩ := list4 yl
  have h := Has4_calls a0 a1 a2 a3 n b0 b1 b2 b3 w ⟨hf a0 (by simp), hf a1 (by simp), hf a2 (by simp), hf a3 (by simp), hb⟩ (yf b0 (by simp)) (yf b1 (by simp)) (yf b2 (by simp)) (yf b3 (by simp))
  rw [has4_form.1, okP4_L] at h
  exact h
theorem RHas4_L (l : List Int) (n : Int) (y : List Int) (w : World) (hf : FitB l) (hl : l.length = 4) (hb : In64 n) (yf : FitB y) (yl : y.length = 4) :
    Calls Tryd.prog 50 #[P4L l n, A4L y] w fun e w' => e = .returned (.tuple #[.bool (okP4L l n && hasL l n y), .int .i64 (if okP4L l n then 0 else 22)]) ∧ Below w.heap.size w w' := by
  obtain ⟨a0, a1, a2, a3, rfl⟩ := list4 hl
  obtain ⟨b0, b1, b2, b3, rfl⟩ := list4 yl
  have h := RHas4_calls a0 a1 a2 a3 n b0 b1 b2 b3 w (hf a0 (by simp)) (hf a1 (by simp)) (hf a2 (by simp)) (hf a3 (by simp)) hb (yf b0 (by simp)) (yf b1 (by simp)) (yf b2 (by simp)) (yf b3 (by simp))
  rw [has4_form.1, okP4_L] at h
  exact h
def hasP (o l p : Int) (n : Nat) : Bool := decide (setOk o l p) && decide (hasN o.toNat l.toNat p.toNat n)
theorem nat_set {o l p : Int} (h : setOk o l p) (hp : 0 ≤ p) : ∃ o' l' p' : Nat, o = o' ∧ l = l' ∧ p = p' ∧ o' ≤ 15 ∧ l' ≤ 16 - o' ∧ p' < 2 ^ l' := by
  obtain ⟨⟨h1, h2, h3, h4⟩, h5⟩ := h
  refine ⟨o.toNat, l.toNat, p.toNat, by omega, by omega, by omega, by omega, by omega, ?_⟩
  have e : (2 : Int) ^ l.toNat = ((2 ^ l.toNat : Nat) : Int) := by rw [Int.natCast_pow]; rfl
  rw [e] at h5
  omega
theorem Has_P (o l p : Int) (n : Nat) (w : World) (ho : In64 o) (hl : In64 l) (hp : 0 ≤ p ∧ p < 65536) (hn : n < 65536) :
    Calls Tryd.prog 52 #[PS o l p, .int .u16 n] w fun e w' => e = .returned (HasE (hasP o l p n) (if setOk o l p then 0 else 90)) ∧ Below w.heap.size w w' := by
  by_cases h : setOk o l p
  · obtain ⟨o', l', p', rfl, rfl, rfl, h1, h2, h3⟩ := nat_set h hp.1
    have := Has_yes o' l' p' n w h1 h2 h3 hn
    rw [if_pos h, hasP, decide_eq_true h, Bool.true_and, Int.toNat_natCast, Int.toNat_natCast, Int.toNat_natCast]
    exact this
  · rw [if_neg h, hasP, decide_eq_false h, Bool.false_and]
    exact Has_no o l p n w ho hl hp h
theorem RHas_P (o l p : Int) (n : Nat) (w : World) (ho : In64 o) (hl : In64 l) (hp : 0 ≤ p ∧ p < 65536) (hn : n < 65536) :
    Calls Tryd.prog 53 #[PS o l p, .int .u16 n] w fun e w' => e = .returned (HasE (hasP o l p n) (if setOk o l p then 0 else 90)) ∧ Below w.heap.size w w' := by
  by_cases h : setOk o l p
  · obtain ⟨o', l', p', rfl, rfl, rfl, h1, h2, h3⟩ := nat_set h hp.1
    have := RHas_yes o' l' p' n w h1 h2 h3 hn
    rw [if_pos h, hasP, decide_eq_true h, Bool.true_and, Int.toNat_natCast, Int.toNat_natCast, Int.toNat_natCast]
    exact this
  · rw [if_neg h, hasP, decide_eq_false h, Bool.false_and]
    exact RHas_no o l p n w ho hl hp h
def ownsB (e : Ed) (y : List Int) (n : Nat) : Bool := hasL e.l4 e.n4 y && ((e.l == 0) || hasP e.o e.l e.p n)
def ownsE (e : Ed) (y : List Int) (n : Nat) : Value := if okP4L e.l4 e.n4 = true then (if setOk e.o e.l e.p then .tuple #[.bool (ownsB e y n), .int .i64 0] else .tuple #[.bool false, .int .i64 90]) else .tuple #[.bool false, .int .i64 22]
abbrev YO (y : List Int) : Obj := .cells (b8 y).toArray 27
theorem load_y {W : World} {b : Nat} {y : List Int} (hl : y.length = 4) (h : W.heap[b]? = some (YO y)) : (Instr.loadAt 27 (.pointer (some ⟨b, 0, none⟩))).run Tryd.prog W = .ok (A4L y) W :=
  agg_load (t := 27) Tryd.isAgg27 Tryd.sizeOf27 (by rw [b8_length, hl]) (CellsAt.of_blk h)


set_option maxHeartbeats 2000000 in
set_option maxRecDepth 100000 in
theorem Owns_any (e : Ed) (he : e.In) (y : List Int) (yf : FitB y) (yl : y.length = 4) (n : Nat) (hn : n < 65536) (w : World) :
    Calls Tryd.prog 25 #[EV e, A4L y, .int .u16 n] w fun e' w' => e' = .returned (ownsE e y n) ∧ Below w.heap.size w w' := by
  obtain ⟨hb, hb2, hBw⟩ := two_box' w (EO e) (YO y)
  have H4 : Hid _ := fun W => Has4_L e.l4 e.n4 y W he.f4 he.k4 he.b4 yf yl
  have HP : Hid _ := fun W => Has_P e.o e.l e.p n W he.bo he.bl he.bp hn
  have hE0 := EdAt.of he.k4 he.k6 he.kw hb
  have HL4 : Hid _ := hE0.ld4
  have HLY : Hid _ := load_y yl hb2
  have HX : Hid (∀ W', Below ((w.alloc (EO e)).alloc (YO y)).heap.size ((w.alloc (EO e)).alloc (YO y)) W' → EdAt W' w.heap.size e) := fun W' h => EdAt.of he.k4 he.k6 he.kw (blk_on hb h)
  generalize hW : (w.alloc (EO e)).alloc (YO y) = W at *
  clear hE0 hb hb2
  cases c4 : okP4L e.l4 e.n4
  · have hE : ownsE e y n = .tuple #[.bool false, .int .i64 22] := by unfold ownsE; rw [c4]; rfl
    rw [hE]
    rw [c4] at H4
    clear hE c4 he
    go_enter Tryd.func25, Tryd.ntmps25
    go_wp2_with first
      | ((with_reducible show wpList _ _ _ _ _ _); refine armL (.tmp 12) 29 rfl rfl rfl HL4.out ?_)
      | ((with_reducible show wpList _ _ _ _ _ _); refine armL (.tmp 4) 27 rfl rfl rfl HLY.out ?_)
    refine (H4.out _).mono ?_
    rintro e' w2 ⟨rfl, hB2⟩
    go_wp2
    go_returns
    exact ⟨rfl, hBw.trans (hB2.mono hBw.size)⟩
  · rw [c4] at H4
    by_cases cs : setOk e.o e.l e.p
    · have hE : ownsE e y n = .tuple #[.bool (ownsB e y n), .int .i64 0] := by unfold ownsE; rw [if_pos c4, if_pos cs]
      rw [hE, ownsB]
      rw [if_pos cs] at HP
      clear hE c4 cs
      generalize hasL e.l4 e.n4 y = b1 at *
      generalize hasP e.o e.l e.p n = b2 at *
      cases b1 <;> cases hl0 : (e.l == 0)
      all_goals
        go_enter Tryd.func25, Tryd.ntmps25
        go_wp2_with first
          | ((with_reducible show wpList _ _ _ _ _ _); refine armL (.tmp 12) 29 rfl rfl rfl HL4.out ?_)
          | ((with_reducible show wpList _ _ _ _ _ _); refine armL (.tmp 4) 27 rfl rfl rfl HLY.out ?_)
        refine (H4.out _).mono ?_
        rintro e' w2 ⟨rfl, hB2⟩
        have HLS : Hid _ := (HX.out _ hB2).ldS
        go_wp2_with first
          | ((with_reducible show wpList _ _ _ _ _ _); refine armL (.tmp 22) 34 rfl rfl rfl HLS.out ?_)
        refine (HP.out _).mono ?_
        rintro e' w3 ⟨rfl, hB3⟩
        have hB23 := hB2.trans (hB3.mono hB2.size)
        have c6 := (HX.out _ hB23).c6
        go_wp2
        go_returns
        exact ⟨rfl, hBw.trans (hB23.mono hBw.size)⟩
    · have hE : ownsE e y n = .tuple #[.bool false, .int .i64 90] := by unfold ownsE; rw [if_pos c4, if_neg cs]
      rw [hE]
      rw [if_neg cs] at HP
      clear hE c4 cs
      generalize hasL e.l4 e.n4 y = b1 at *
      generalize hasP e.o e.l e.p n = b2 at *
      go_enter Tryd.func25, Tryd.ntmps25
      go_wp2_with first
        | ((with_reducible show wpList _ _ _ _ _ _); refine armL (.tmp 12) 29 rfl rfl rfl HL4.out ?_)
        | ((with_reducible show wpList _ _ _ _ _ _); refine armL (.tmp 4) 27 rfl rfl rfl HLY.out ?_)
      refine (H4.out _).mono ?_
      rintro e' w2 ⟨rfl, hB2⟩
      have HLS : Hid _ := (HX.out _ hB2).ldS
      go_wp2_with first
        | ((with_reducible show wpList _ _ _ _ _ _); refine armL (.tmp 22) 34 rfl rfl rfl HLS.out ?_)
      refine (HP.out _).mono ?_
      rintro e' w3 ⟨rfl, hB3⟩
      have hB23 := hB2.trans (hB3.mono hB2.size)
      go_wp2
      go_returns
      exact ⟨rfl, hBw.trans (hB23.mono hBw.size)⟩


set_option maxHeartbeats 2000000 in
set_option maxRecDepth 100000 in
theorem ROwns_any (e : Ed) (he : e.In) (y : List Int) (yf : FitB y) (yl : y.length = 4) (n : Nat) (hn : n < 65536) (w : World) :
    Calls Tryd.prog 26 #[EV e, A4L y, .int .u16 n] w fun e' w' => e' = .returned (ownsE e y n) ∧ Below w.heap.size w w' := by
  obtain ⟨hb, hb2, hBw⟩ := two_box' w (EO e) (YO y)
  have H4 : Hid _ := fun W => RHas4_L e.l4 e.n4 y W he.f4 he.k4 he.b4 yf yl
  have HP : Hid _ := fun W => RHas_P e.o e.l e.p n W he.bo he.bl he.bp hn
  have hE0 := EdAt.of he.k4 he.k6 he.kw hb
  have HL4 : Hid _ := hE0.ld4
  have HLY : Hid _ := load_y yl hb2
  have HX : Hid (∀ W', Below ((w.alloc (EO e)).alloc (YO y)).heap.size ((w.alloc (EO e)).alloc (YO y)) W' → EdAt W' w.heap.size e) := fun W' h => EdAt.of he.k4 he.k6 he.kw (blk_on hb h)
  generalize hW : (w.alloc (EO e)).alloc (YO y) = W at *
  clear hE0 hb hb2
  cases c4 : okP4L e.l4 e.n4
  · have hE : ownsE e y n = .tuple #[.bool false, .int .i64 22] := by unfold ownsE; rw [c4]; rfl
    rw [hE]
    rw [c4] at H4
    clear hE c4 he
    go_enter Tryd.func26, Tryd.ntmps26
    go_wp2_with first
      | ((with_reducible show wpList _ _ _ _ _ _); refine armL (.tmp 13) 29 rfl rfl rfl HL4.out ?_)
      | ((with_reducible show wpList _ _ _ _ _ _); refine armL (.tmp 4) 27 rfl rfl rfl HLY.out ?_)
    refine (H4.out _).mono ?_
    rintro e' w2 ⟨rfl, hB2⟩
    go_wp2
    go_returns
    exact ⟨rfl, hBw.trans (hB2.mono hBw.size)⟩
  · rw [c4] at H4
    by_cases cs : setOk e.o e.l e.p
    · have hE : ownsE e y n = .tuple #[.bool (ownsB e y n), .int .i64 0] := by unfold ownsE; rw [if_pos c4, if_pos cs]
      rw [hE, ownsB]
      rw [if_pos cs] at HP
      clear hE c4 cs
      generalize hasL e.l4 e.n4 y = b1 at *
      generalize hasP e.o e.l e.p n = b2 at *
      cases b1 <;> cases hl0 : (e.l == 0)
      all_goals
        go_enter Tryd.func26, Tryd.ntmps26
        go_wp2_with first
          | ((with_reducible show wpList _ _ _ _ _ _); refine armL (.tmp 13) 29 rfl rfl rfl HL4.out ?_)
          | ((with_reducible show wpList _ _ _ _ _ _); refine armL (.tmp 4) 27 rfl rfl rfl HLY.out ?_)
        refine (H4.out _).mono ?_
        rintro e' w2 ⟨rfl, hB2⟩
        have HLS : Hid _ := (HX.out _ hB2).ldS
        go_wp2_with first
          | ((with_reducible show wpList _ _ _ _ _ _); refine armL (.tmp 23) 34 rfl rfl rfl HLS.out ?_)
        refine (HP.out _).mono ?_
        rintro e' w3 ⟨rfl, hB3⟩
        have hB23 := hB2.trans (hB3.mono hB2.size)
        have c6 := (HX.out _ hB23).c6
        go_wp2
        go_returns
        exact ⟨rfl, hBw.trans (hB23.mono hBw.size)⟩
    · have hE : ownsE e y n = .tuple #[.bool false, .int .i64 90] := by unfold ownsE; rw [if_pos c4, if_neg cs]
      rw [hE]
      rw [if_neg cs] at HP
      clear hE c4 cs
      generalize hasL e.l4 e.n4 y = b1 at *
      generalize hasP e.o e.l e.p n = b2 at *
      go_enter Tryd.func26, Tryd.ntmps26
      go_wp2_with first
        | ((with_reducible show wpList _ _ _ _ _ _); refine armL (.tmp 13) 29 rfl rfl rfl HL4.out ?_)
        | ((with_reducible show wpList _ _ _ _ _ _); refine armL (.tmp 4) 27 rfl rfl rfl HLY.out ?_)
      refine (H4.out _).mono ?_
      rintro e' w2 ⟨rfl, hB2⟩
      have HLS : Hid _ := (HX.out _ hB2).ldS
      go_wp2_with first
        | ((with_reducible show wpList _ _ _ _ _ _); refine armL (.tmp 23) 34 rfl rfl rfl HLS.out ?_)
      refine (HP.out _).mono ?_
      rintro e' w3 ⟨rfl, hB3⟩
      have hB23 := hB2.trans (hB3.mono hB2.size)
      go_wp2
      go_returns
      exact ⟨rfl, hBw.trans (hB23.mono hBw.size)⟩

end Go.Proofs.YtloadmpappjceaaDoor
