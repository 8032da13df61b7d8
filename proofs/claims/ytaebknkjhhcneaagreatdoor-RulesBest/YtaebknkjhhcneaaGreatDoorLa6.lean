/-
  eachLine: the lines of a text that have words are handed on, one after another.
-/
import Derived.Test.YtaebknkjhhcneaaGreatDoorFold13
namespace Go.Proofs.YtaebknkjhhcneaaGreatDoor
open Go Go.RowKit
set_option linter.unusedVariables false
set_option linter.unusedSimpArgs false

/-- What a line is handed to: what it keeps in memory (I), and what it does to that (f). -/
structure Taker {σ : Type} (w0 : World) (B R : Nat) (I : σ → World → Prop) (f : σ → Ln → Option σ) : Prop where
  take : ∀ (st st' : σ) (ln : Ln) (v : Value) (w : World), I st w → WordsAt w v ln.words → ln.words ≠ [] → f st ln = some st' → B ≤ w.heap.size → Below B w0 w →
    Calls Tryz.prog 86 #[.pointer (some ⟨R, 0, none⟩), .agg #[.int .i64 ln.num, v, .int .i64 ln.beh]] w fun e w' => e = .returned (.tuple #[]) ∧ I st' w' ∧ Below B w w' ∧ ∀ (k : Nat) (o : Obj), w.heap[k]? = some o → ((∃ s p, o = .stringIter s p) ∨ ∃ c, o = .cells c 170) → w'.heap[k]? = some o
  keep : ∀ (st : σ) (w w' : World), I st w → KQ w w' → I st w'

def EachPost {σ : Type} (B : Nat) (I : σ → World → Prop) (st' : σ) (w : World) (e : Ending) (w' : World) : Prop := e = .returned (.tuple #[]) ∧ I st' w' ∧ Below B w w'

/-- How far eachLine is. -/
structure At {σ : Type} (B : Nat) (I : σ → World → Prop) (f : σ → Ln → Option σ) (s s' : ByteArray) (st' : σ) (w : World) (kL : Nat) (pos : Nat) (t : Sc) (st : σ) (v : Value) (W : World) : Prop where
  le : pos ≤ s'.size
  beg : t.beg ≤ pos
  frm : t.frm ≤ pos
  num : 0 ≤ t.ln.num ∧ t.ln.num ≤ pos + 1
  len : t.ln.words.length ≤ pos
  it : W.heap[kL + 1]? = some (.stringIter s' pos)
  box : W.heap[kL]? = some (.cells #[.int .i64 t.ln.num, v, .int .i64 t.ln.beh] 170)
  row : RowW kL W v t.ln.words
  inv : I st W
  below : Below B w W
  rest : (linesFrom s (s'.data.toList.drop pos) pos t).foldlM f st = some st'

theorem concat_list (s : ByteArray) : (s ++ (⟨#[10]⟩ : ByteArray)).data.toList = s.data.toList ++ [10] := by
  rw [ByteArray.data_append]
  simp
theorem concat_size (s : ByteArray) : (s ++ (⟨#[10]⟩ : ByteArray)).size = s.size + 1 := by
  have h := congrArg List.length (concat_list s)
  rw [List.length_append] at h
  exact h

theorem wrap64 (x : Int) (h1 : -9223372036854775808 ≤ x) (h2 : x ≤ 9223372036854775807) : IntKind.i64.wrap x = x := by
  unfold IntKind.wrap
  simp [IntKind.bits, IntKind.signed]
  omega

theorem iterPos_of {W : World} {k : Nat} {s : ByteArray} {p : Nat} (h : W.heap[k]? = some (.stringIter s p)) : W.iterPos k = p := by simp [World.iterPos, h]
theorem foldlM_cons {σ : Type} {f : σ → Ln → Option σ} {st st' : σ} {L : Ln} {ls : List Ln} (h : ([L] ++ ls).foldlM f st = some st') : ∃ st2, f st L = some st2 ∧ ls.foldlM f st2 = some st' := by
  simp only [List.cons_append, List.nil_append, List.foldlM_cons] at h
  exact Option.bind_eq_some_iff.1 h

/-- A byte is gone over. -/
theorem At.next {σ : Type} {B : Nat} {I : σ → World → Prop} {f : σ → Ln → Option σ} {s s' : ByteArray} {st' : σ} {w : World} {kL pos : Nat} {t : Sc} {st : σ} {v : Value} {W : World} {R : Nat} (K : Taker w B R I f) (h : At B I f s s' st' w kL pos t st v W) (hB : B ≤ kL) (k : Nat) (hk : ∀ j, j < k → pos + j < s'.size ∧ isSep (s'.get! (pos + j)) = false) (h1 : 1 ≤ k) :
    At B I f s s' st' w kL (pos + k) t st v (W.iterAt (kL + 1) s' (pos + k)) := by
  have hlast := (hk (k - 1) (by omega)).1
  refine ⟨by omega, by have := h.beg; omega, by have := h.frm; omega, ⟨h.num.1, by have := h.num.2; omega⟩, by have := h.len; omega, Lib.iterAt_heap _ _ _ _ _ h.it, (Lib.iterAt_other _ _ _ _ _ (by omega)).trans h.box, h.row.move fun g cs hg => Lib.iterAt_other _ _ _ _ _ (fun e => by rw [e, h.it] at hg; cases hg), K.keep _ _ _ h.inv (KQ.iterAt h.it _ _), Lib.below_iterAt h.below (by omega) _ _, ?_⟩
  rw [← lines_skip s s' t pos k hk]
  exact h.rest


theorem lines_sep (s : ByteArray) (c : UInt8) (r : List UInt8) (i : Nat) (t : Sc) (h : isSep c = true) (h10 : c ≠ 10) : linesFrom s (c :: r) i t = linesFrom s r (i + 1) { t.cut s i with frm := i + 1, rem := t.rem || c == 35 } := by
  rw [linesFrom, if_neg (by rw [h]; decide), if_neg h10]
theorem lines_nl (s : ByteArray) (r : List UInt8) (i : Nat) (t : Sc) : linesFrom s (10 :: r) i t = (if (t.cut s i).ln.words = [] then [] else [(t.cut s i).ln]) ++ linesFrom s r (i + 1) (Sc.new ((t.cut s i).ln.num + 1) (i + 1)) := by
  rw [linesFrom, if_neg (by decide), if_pos rfl]

/-- Behind a word's end. -/
structure Md {σ : Type} (B : Nat) (I : σ → World → Prop) (f : σ → Ln → Option σ) (s s' : ByteArray) (st' : σ) (w : World) (kL : Nat) (pos : Nat) (L : Ln) (bg : Nat) (st : σ) (v : Value) (W : World) (ls : List Ln) : Prop where
  le : pos + 1 ≤ s'.size
  beg : bg ≤ pos
  num : 0 ≤ L.num ∧ L.num ≤ pos + 1
  len : L.words.length ≤ pos + 1
  it : W.heap[kL + 1]? = some (.stringIter s' (pos + 1))
  box : W.heap[kL]? = some (.cells #[.int .i64 L.num, v, .int .i64 L.beh] 170)
  row : RowW kL W v L.words
  inv : I st W
  below : Below B w W
  rest : ls.foldlM f st = some st'

theorem Md.re {σ : Type} {B : Nat} {I : σ → World → Prop} {f : σ → Ln → Option σ} {s s' : ByteArray} {st' : σ} {w : World} {kL pos : Nat} {L : Ln} {bg : Nat} {st : σ} {v : Value} {W : World} {ls ls' : List Ln} (h : Md B I f s s' st' w kL pos L bg st v W ls) (hr : ls'.foldlM f st = some st') : Md B I f s s' st' w kL pos L bg st v W ls' :=
  ⟨h.le, h.beg, h.num, h.len, h.it, h.box, h.row, h.inv, h.below, hr⟩

theorem Md.sep {σ : Type} {B : Nat} {I : σ → World → Prop} {f : σ → Ln → Option σ} {s s' : ByteArray} {st' : σ} {w : World} {kL pos : Nat} {L : Ln} {bg : Nat} {rm : Bool} {st : σ} {v : Value} {W : World}
    (h : Md B I f s s' st' w kL pos L bg st v W (linesFrom s (s'.data.toList.drop (pos + 1)) (pos + 1) ⟨L, bg, pos + 1, rm⟩)) : At B I f s s' st' w kL (pos + 1) ⟨L, bg, pos + 1, rm⟩ st v W :=
  ⟨h.le, by have := h.beg; show bg ≤ _; omega, Nat.le_refl _, ⟨h.num.1, by have := h.num.2; show L.num ≤ _; omega⟩, h.len, h.it, h.box, h.row, h.inv, h.below, h.rest⟩

/-- No word ends. -/
theorem At.stay {σ : Type} {B : Nat} {I : σ → World → Prop} {f : σ → Ln → Option σ} {s s' : ByteArray} {st' : σ} {w : World} {kL pos : Nat} {t : Sc} {st : σ} {v : Value} {W : World} {R : Nat} (K : Taker w B R I f) (h : At B I f s s' st' w kL pos t st v W) (hB : B ≤ kL) (hp : pos < s'.size) (hc : t.cut s pos = t) {ls : List Ln} (hl : linesFrom s (s'.data.toList.drop pos) pos t = ls) :
    Md B I f s s' st' w kL pos t.ln t.beg st v (W.iterAt (kL + 1) s' (pos + 1)) ls :=
  ⟨hp, h.beg, h.num, by have := h.len; omega, Lib.iterAt_heap _ _ _ _ _ h.it, (Lib.iterAt_other _ _ _ _ _ (by omega)).trans h.box, h.row.move fun g cs hg => Lib.iterAt_other _ _ _ _ _ (fun e => by rw [e, h.it] at hg; cases hg), K.keep _ _ _ h.inv (KQ.iterAt h.it _ _), Lib.below_iterAt h.below (by omega) _ _, hl ▸ h.rest⟩

/-- The text's next byte is looked at. -/
theorem At.stay0 {σ : Type} {B : Nat} {I : σ → World → Prop} {f : σ → Ln → Option σ} {s s' : ByteArray} {st' : σ} {w : World} {kL pos : Nat} {t : Sc} {st : σ} {v : Value} {W : World} {R : Nat} (K : Taker w B R I f) (h : At B I f s s' st' w kL pos t st v W) (hB : B ≤ kL) (hp : pos < s'.size) :
    Md B I f s s' st' w kL pos t.ln t.beg st v (W.iterAt (kL + 1) s' (pos + 1)) (linesFrom s (s'.data.toList.drop pos) pos t) :=
  ⟨hp, h.beg, h.num, by have := h.len; omega, Lib.iterAt_heap _ _ _ _ _ h.it, (Lib.iterAt_other _ _ _ _ _ (by omega)).trans h.box, h.row.move fun g cs hg => Lib.iterAt_other _ _ _ _ _ (fun e => by rw [e, h.it] at hg; cases hg), K.keep _ _ _ h.inv (KQ.iterAt h.it _ _), Lib.below_iterAt h.below (by omega) _ _, h.rest⟩

/-- A word ends: it was appended, and the column behind it laid. -/
theorem Md.cut {σ : Type} {B : Nat} {I : σ → World → Prop} {f : σ → Ln → Option σ} {s s' : ByteArray} {st' : σ} {w : World} {kL pos : Nat} {L : Ln} {bg : Nat} {st : σ} {v v1 : Value} {W X : World} {R : Nat} {ls : List Ln} {x : ByteArray × Int} (K : Taker w B R I f) (h : Md B I f s s' st' w kL pos L bg st v W ls) (hB : B ≤ kL) (hL : L.words.length ≤ pos) (ha : AppW kL W.drew v L.words x v1 X) (e : Int) {ls' : List Ln} (hr : ls'.foldlM f st = some st') :
    Md B I f s s' st' w kL pos ⟨L.num, L.words ++ [x], e⟩ bg st v1 ((X.setCell ⟨kL, 1, none⟩ v1).setCell ⟨kL, 2, none⟩ (.int .i64 e)) ls' := by
  have hrow : RowW kL W.drew v L.words := h.row
  have b1 : X.heap[kL]? = some (.cells #[.int .i64 L.num, v, .int .i64 L.beh] 170) := ha.keep hrow h.box (fun c e => by cases e)
  have b2 := blk_set (c := [.int .i64 L.num, v, .int .i64 L.beh]) b1 1 v1
  have b3 := blk_set b2 2 (.int .i64 e)
  have i1 : X.heap[kL + 1]? = some (.stringIter s' (pos + 1)) := ha.keep hrow h.it (fun c e => by cases e)
  have hX : Below B W X := ⟨ha.2.os, ha.2.tape, ha.2.output, ha.2.size, fun k hk => ha.2.block k (by
      have := (Array.getElem?_eq_some_iff.1 h.box).1
      show k < W.heap.size
      omega) (fun e => by
      have := (World.ownsRow.lt hrow k e.symm).1
      omega)⟩
  refine ⟨h.le, h.beg, h.num, by simp; omega, ?_, b3, ?_, ?_, ?_, hr⟩
  · exact blk_set_other (blk_set_other i1 (by omega) _ _) (by omega) _ _
  · refine RowW.move ha.1 fun g cs hg => ?_
    have hne : g ≠ kL := fun e => by rw [e, b1] at hg; cases hg
    exact (blk_set_other (blk_set_other hg hne 1 v1) hne 2 _).trans hg.symm
  · exact K.keep _ _ _ h.inv (KQ.trans (ha.kq hrow) (KQ.trans (KQ.set b1 1 v1) (KQ.set b2 2 _)))
  · exact ((h.below.trans hX).setCell hB _).setCell hB _

/-- A line ends. -/
theorem At.fresh {σ : Type} {B : Nat} {I : σ → World → Prop} {f : σ → Ln → Option σ} {s s' : ByteArray} {st' : σ} {w : World} {kL pos : Nat} {n b : Int} {st : σ} {v : Value} {W : World} {R : Nat} (K : Taker w B R I f) (hB : B ≤ kL) (le : pos + 1 ≤ s'.size) (num : 0 ≤ n ∧ n ≤ pos + 1)
    (it : W.heap[kL + 1]? = some (.stringIter s' (pos + 1))) (box : W.heap[kL]? = some (.cells #[.int .i64 n, v, .int .i64 b] 170)) (inv : I st W) (below : Below B w W) (rest : (linesFrom s (s'.data.toList.drop (pos + 1)) (pos + 1) (Sc.new (n + 1) (pos + 1))).foldlM f st = some st') :
    At B I f s s' st' w kL (pos + 1) (Sc.new (n + 1) (pos + 1)) st (.slice none 0 0) (((W.setCell ⟨kL, 0, none⟩ (.int .i64 (n + 1))).setCell ⟨kL, 1, none⟩ (.slice none 0 0)).setCell ⟨kL, 2, none⟩ (.int .i64 0)) := by
  have b1 := blk_set (c := [.int .i64 n, v, .int .i64 b]) box 0 (.int .i64 (n + 1))
  have b2 := blk_set b1 1 (.slice none 0 0)
  have b3 := blk_set b2 2 (.int .i64 0)
  refine ⟨le, Nat.le_refl _, Nat.le_refl _, ⟨by show 0 ≤ n + 1; omega, by show n + 1 ≤ _; omega⟩, Nat.zero_le _, ?_, b3, ⟨rfl, .inl ⟨rfl, rfl⟩⟩, ?_, ?_, rest⟩
  · exact blk_set_other (blk_set_other (blk_set_other it (by omega) _ _) (by omega) _ _) (by omega) _ _
  · exact K.keep _ _ _ inv (KQ.trans (KQ.set box 0 _) (KQ.trans (KQ.set b1 1 _) (KQ.set b2 2 _)))
  · exact ((below.setCell hB _).setCell hB _).setCell hB _


set_option maxRecDepth 100000 in
set_option maxHeartbeats 8000000 in
theorem eachLine_calls {σ : Type} {B R : Nat} {I : σ → World → Prop} {f : σ → Ln → Option σ} {w : World} (K : Taker w B R I f) (s : ByteArray) (hs : s.size ≤ 1048576) (st st' : σ) (hI : I st w) (hB : B ≤ w.heap.size) (hf : (linesOf s).foldlM f st = some st') :
    Calls Tryz.prog 85 #[.string s, .func (.func 86) #[.pointer (some ⟨R, 0, none⟩)] #[]] w fun e w' => EachPost B I st' w e w' := by
  generalize hQ : (fun e w' => EachPost B I st' w e w') = Q
  have HQ : Hid _ := hQ
  clear hQ
  have HK : Hid _ := K
  clear K
  have hB0 := (Below.refl B w).alloc hB (.cells #[.int .i64 1, .slice none 0 0, .int .i64 0] 170)
  have hl0 := blk_new w (.cells #[.int .i64 1, .slice none 0 0, .int .i64 0] 170)
  have hz0 : (w.alloc (.cells #[.int .i64 1, .slice none 0 0, .int .i64 0] 170)).heap.size = w.heap.size + 1 := by simp
  have hI0 := HK.out.keep _ _ _ hI (KQ.alloc w (.cells #[.int .i64 1, .slice none 0 0, .int .i64 0] 170))
  have hcs := concat_size s
  have hcl := concat_list s
  have hA0 : At B I f s (s ++ (⟨#[10]⟩ : ByteArray)) st' w w.heap.size 0 (Sc.new 1 0) st (.slice none 0 0) ((w.alloc (.cells #[.int .i64 1, .slice none 0 0, .int .i64 0] 170)).iter (s ++ (⟨#[10]⟩ : ByteArray)) 0) := by
    refine ⟨Nat.zero_le _, Nat.le_refl _, Nat.le_refl _, ⟨by decide, by decide⟩, Nat.le_refl _, ?_, blk_alloc hl0 _, ⟨rfl, .inl ⟨rfl, rfl⟩⟩, HK.out.keep _ _ _ hI0 (KQ.alloc _ _), hB0.alloc (by omega) _, ?_⟩
    · have := World.iter_heap (w.alloc (.cells #[.int .i64 1, .slice none 0 0, .int .i64 0] 170)) (s ++ (⟨#[10]⟩ : ByteArray)) 0
      rw [hz0] at this
      exact this
    · rw [hcl, List.drop_zero]
      exact hf
  have HA0 : Hid _ := hA0
  clear hB0 hl0 hz0 hI0 hcl hA0 hf hI
  generalize hs' : s ++ (⟨#[10]⟩ : ByteArray) = s' at *
  have HS : Hid _ := hs'
  clear hs'
  go_enter Tryz.func85, Tryz.ntmps85
  go_wp2_with fail
  go_loopw [5, 6, 7] (fun b fr r wr => ∃ (pos : Nat) (t : Sc) (st1 : σ) (v : Value), b = .int .i64 t.beg ∧ fr = .int .i64 t.frm ∧ r = .bool t.rem ∧ At B I f s s' st' w w.heap.size pos t st1 v wr) (fun _ _ _ wr => s'.size - wr.iterPos (w.heap.size + 1))
  case atStart =>
    rw [HS.out]
    exact ⟨0, _, _, _, rfl, rfl, rfl, HA0.out⟩
  case round =>
    obtain ⟨pos, ⟨⟨num, ws, beh⟩, bg, fr, rm⟩, st1, v, rfl, rfl, rfl, hA⟩ := hrel
    have hmu : wr.iterPos (w.heap.size + 1) = pos := by simp [World.iterPos, hA.it]
    have h1 : bg ≤ pos := hA.beg
    have h2 : fr ≤ pos := hA.frm
    have h3 : 0 ≤ num ∧ num ≤ pos + 1 := hA.num
    have h4 : ws.length ≤ pos := hA.len
    have h0 := hA.le
    by_cases hp : pos < s'.size
    · have hdrop : s'.data.toList.drop pos = s'[pos] :: s'.data.toList.drop (pos + 1) := by
        rw [List.drop_eq_getElem_cons (by rw [Array.length_toList]; exact hp)]
        simp [ByteArray.getElem_eq_getElem_data]
      by_cases h128 : (s'[pos]'hp).toNat < 128
      · have hnext : ∀ ty, (Instr.next (.pointer (some ⟨w.heap.size + 1, 0, none⟩)) true ty).run Tryz.prog wr = _ := fun ty => Lib.run_next_ascii_at wr (w.heap.size + 1) s' pos ty hA.it hp h128
        have hget : s'.get! (pos + 0) = s'[pos]'hp := by
          show s'.get! pos = _
          simp only [ByteArray.get!]
          exact getElem!_pos s'.data pos hp
        by_cases hsep : isSep (s'[pos]'hp) = false
        · have HN : Hid _ := At.next HK.out hA hB 1 (fun j hj => by
            obtain rfl : j = 0 := by omega
            exact ⟨hp, by rw [hget]; exact hsep⟩) (Nat.le_refl _)
          have hit1 := Lib.iterAt_heap wr (w.heap.size + 1) s' pos (pos + 1) hA.it
          generalize s'[pos]'hp = c at *
          unfold isSep at hsep
          simp only [Bool.or_eq_false_iff, beq_eq_false_iff_ne, ne_eq] at hsep
          obtain ⟨⟨⟨k1, k2⟩, k3⟩, k4⟩ := hsep
          have key : ∀ n : UInt8, ¬ c = n → (c.toNat : Int) ≠ (n.toNat : Int) := fun n hn e => hn (UInt8.toNat_inj.1 (by exact_mod_cast e))
          have e1 : (c.toNat : Int) ≠ 32 := key 32 k1
          have e2 : (c.toNat : Int) ≠ 9 := key 9 k2
          have e3 : (c.toNat : Int) ≠ 35 := key 35 k3
          have e4 : (c.toNat : Int) ≠ 10 := key 10 k4
          generalize (c.toNat : Int) = z at hnext e1 e2 e3 e4
          have f1 : (z != 32) = true := by simpa using e1
          have f2 : (z != 9) = true := by simpa using e2
          have f3 : (z != 35) = true := by simpa using e3
          have f4 : (z != 10) = true := by simpa using e4
          clear e1 e2 e3 e4
          generalize wr.iterAt (w.heap.size + 1) s' (pos + 1) = W1 at hnext HN hit1
          clear key k1 k2 k3 k4 hdrop hget hA
          go_wp2
          go_roundw
          case rel => exact ⟨pos + 1, _, _, _, rfl, rfl, rfl, HN.out⟩
          case measure =>
            have hmu2 : W1.iterPos (w.heap.size + 1) = pos + 1 := by simp [World.iterPos, hit1]
            rw [hmu, hmu2]
            omega
        · have hsep' : isSep (s'[pos]'hp) = true := by simpa using hsep
          have hc4 : s'[pos]'hp = 32 ∨ s'[pos]'hp = 9 ∨ s'[pos]'hp = 35 ∨ s'[pos]'hp = 10 := by
            unfold isSep at hsep'
            simp only [Bool.or_eq_true, beq_iff_eq] at hsep'
            rcases hsep' with ((k | k) | k) | k
            · exact .inl k
            · exact .inr (.inl k)
            · exact .inr (.inr (.inl k))
            · exact .inr (.inr (.inr k))
          have hpn : pos ≤ s.size := by omega
          clear hsep hget
          rcases hc4 with hc | hc | hc | hc
          · rw [hc] at hnext hdrop
            have en : ∀ ty, (Instr.next (.pointer (some ⟨w.heap.size + 1, 0, none⟩)) true ty).run Tryz.prog wr = .ok (.tuple #[.bool true, .int .i64 pos, .int .i32 32]) (wr.iterAt (w.heap.size + 1) s' (pos + 1)) := hnext
            clear hnext hc hsep' h128
            by_cases hct : fr < pos ∧ rm = false
            · obtain ⟨hlt, rfl⟩ := hct
              have hcut : Sc.cut s pos ⟨⟨num, ws, beh⟩, bg, fr, false⟩ = ⟨⟨num, ws ++ [(s.extract fr pos, (fr : Int) - bg + 1)], (pos : Int) - bg + 1⟩, bg, fr, false⟩ := if_pos ⟨hlt, rfl⟩
              have hM0 := At.stay0 HK.out hA hB hp
              have HR : Hid _ := hA.rest
              rw [hdrop, lines_sep _ _ _ _ _ rfl (by decide), hcut] at HR
              have lk : w.heap.size + 1 < (wr.iterAt (w.heap.size + 1) s' (pos + 1)).heap.size := (Array.getElem?_eq_some_iff.1 hM0.it).1
              generalize wr.iterAt (w.heap.size + 1) s' (pos + 1) = W1 at en hM0 lk
              obtain ⟨va, vc, rfl⟩ := hM0.row.form
              have w1 : IntKind.i64.wrap ((fr : Int) - bg) = (fr : Int) - bg := wrap64 _ (by omega) (by omega)
              have w2 : IntKind.i64.wrap ((fr : Int) - bg + 1) = (fr : Int) - bg + 1 := wrap64 _ (by omega) (by omega)
              have w3 : IntKind.i64.wrap ((pos : Int) - bg) = (pos : Int) - bg := wrap64 _ (by omega) (by omega)
              have w4 : IntKind.i64.wrap ((pos : Int) - bg + 1) = (pos : Int) - bg + 1 := wrap64 _ (by omega) (by omega)
              have c0 : W1.cell? ⟨w.heap.size, 0, none⟩ = some (.int .i64 num) := blk_cell (c := [_, _, _]) hM0.box rfl
              have c1 : W1.cell? ⟨w.heap.size, 1, none⟩ = some (.slice va ws.length vc) := blk_cell (c := [_, _, _]) hM0.box rfl
              have c1a : ∀ o, (W1.alloc o).cell? ⟨w.heap.size, 1, none⟩ = some (.slice va ws.length vc) := fun o => blk_cell (c := [_, _, _]) (blk_alloc hM0.box o) rfl
              have H0 : Hid _ := hM0
              have q1 : decide ((fr : Int) < pos) = true := by simpa using hlt
              have HAP : Hid (∀ ty, _) := fun ty => words_append (W := W1.drew) (v := .slice va ws.length vc) (ws := ws) hM0.row (by show _ ≤ W1.heap.size; omega) (by omega) (s.extract fr pos, (fr : Int) - bg + 1) ty
              clear hA hM0 hdrop hcut h0
              go_wp2_with fail
              go_region_law (refine step_append_ex rfl _ _ _ _ rfl rfl rfl (HAP.out _) ?_; intro v1 X1 hX; obtain ⟨va1, vc1, rfl⟩ := hX.form; have xb := (hX.keep H0.out.row H0.out.box (fun c e => by cases e)); have x0 : X1.cell? ⟨w.heap.size, 0, none⟩ = some (.int .i64 num) := blk_cell (c := [_, _, _]) xb rfl; have x1 : X1.cell? ⟨w.heap.size, 1, none⟩ = some (.slice va ws.length vc) := blk_cell (c := [_, _, _]) xb rfl; have x2 : X1.cell? ⟨w.heap.size, 2, none⟩ = some (.int .i64 beh) := blk_cell (c := [_, _, _]) xb rfl; have xf : ∀ j, X1.frozen? ⟨w.heap.size, j, none⟩ = false := fun j => blk_open (c := [_, _, _]) xb j)
              all_goals
                have HF : Hid _ := Md.sep (Md.cut HK.out H0.out hB h4 hX ((pos : Int) - bg + 1) HR.out)
                clear hX xb
                go_wp2
                go_roundw
                case rel => exact ⟨_, _, _, _, rfl, rfl, rfl, HF.out⟩
                case measure =>
                  rw [hmu, iterPos_of HF.out.it]
                  omega
            · have hcut : Sc.cut s pos ⟨⟨num, ws, beh⟩, bg, fr, rm⟩ = ⟨⟨num, ws, beh⟩, bg, fr, rm⟩ := if_neg hct
              have hM0 := At.stay0 HK.out hA hB hp
              have HR : Hid _ := hA.rest
              rw [hdrop, lines_sep _ _ _ _ _ rfl (by decide), hcut] at HR
              have lk : w.heap.size + 1 < (wr.iterAt (w.heap.size + 1) s' (pos + 1)).heap.size := (Array.getElem?_eq_some_iff.1 hM0.it).1
              generalize wr.iterAt (w.heap.size + 1) s' (pos + 1) = W1 at en hM0 lk
              have HF : Hid _ := Md.sep (Md.re hM0 HR.out)
              clear hA hM0 hdrop hcut h0 HR
              cases rm with
              | true =>
                by_cases hlt : fr < pos
                · have q1 : decide ((fr : Int) < pos) = true := by simpa using hlt
                  go_wp2
                  go_roundw
                  case rel => exact ⟨_, _, _, _, rfl, rfl, rfl, HF.out⟩
                  case measure =>
                    rw [hmu, iterPos_of HF.out.it]
                    omega
                · have q1 : decide ((fr : Int) < pos) = false := by simpa using hlt
                  go_wp2
                  go_roundw
                  case rel => exact ⟨_, _, _, _, rfl, rfl, rfl, HF.out⟩
                  case measure =>
                    rw [hmu, iterPos_of HF.out.it]
                    omega
              | false =>
                have hnl : ¬ fr < pos := fun e => hct ⟨e, rfl⟩
                obtain rfl : fr = pos := by omega
                go_wp2
                go_roundw
                case rel => exact ⟨_, _, _, _, rfl, rfl, rfl, HF.out⟩
                case measure =>
                  rw [hmu, iterPos_of HF.out.it]
                  omega
          · rw [hc] at hnext hdrop
            have en : ∀ ty, (Instr.next (.pointer (some ⟨w.heap.size + 1, 0, none⟩)) true ty).run Tryz.prog wr = .ok (.tuple #[.bool true, .int .i64 pos, .int .i32 9]) (wr.iterAt (w.heap.size + 1) s' (pos + 1)) := hnext
            clear hnext hc hsep' h128
            by_cases hct : fr < pos ∧ rm = false
            · obtain ⟨hlt, rfl⟩ := hct
              have hcut : Sc.cut s pos ⟨⟨num, ws, beh⟩, bg, fr, false⟩ = ⟨⟨num, ws ++ [(s.extract fr pos, (fr : Int) - bg + 1)], (pos : Int) - bg + 1⟩, bg, fr, false⟩ := if_pos ⟨hlt, rfl⟩
              have hM0 := At.stay0 HK.out hA hB hp
              have HR : Hid _ := hA.rest
              rw [hdrop, lines_sep _ _ _ _ _ rfl (by decide), hcut] at HR
              have lk : w.heap.size + 1 < (wr.iterAt (w.heap.size + 1) s' (pos + 1)).heap.size := (Array.getElem?_eq_some_iff.1 hM0.it).1
              generalize wr.iterAt (w.heap.size + 1) s' (pos + 1) = W1 at en hM0 lk
              obtain ⟨va, vc, rfl⟩ := hM0.row.form
              have w1 : IntKind.i64.wrap ((fr : Int) - bg) = (fr : Int) - bg := wrap64 _ (by omega) (by omega)
              have w2 : IntKind.i64.wrap ((fr : Int) - bg + 1) = (fr : Int) - bg + 1 := wrap64 _ (by omega) (by omega)
              have w3 : IntKind.i64.wrap ((pos : Int) - bg) = (pos : Int) - bg := wrap64 _ (by omega) (by omega)
              have w4 : IntKind.i64.wrap ((pos : Int) - bg + 1) = (pos : Int) - bg + 1 := wrap64 _ (by omega) (by omega)
              have c0 : W1.cell? ⟨w.heap.size, 0, none⟩ = some (.int .i64 num) := blk_cell (c := [_, _, _]) hM0.box rfl
              have c1 : W1.cell? ⟨w.heap.size, 1, none⟩ = some (.slice va ws.length vc) := blk_cell (c := [_, _, _]) hM0.box rfl
              have c1a : ∀ o, (W1.alloc o).cell? ⟨w.heap.size, 1, none⟩ = some (.slice va ws.length vc) := fun o => blk_cell (c := [_, _, _]) (blk_alloc hM0.box o) rfl
              have H0 : Hid _ := hM0
              have q1 : decide ((fr : Int) < pos) = true := by simpa using hlt
              have HAP : Hid (∀ ty, _) := fun ty => words_append (W := W1.drew) (v := .slice va ws.length vc) (ws := ws) hM0.row (by show _ ≤ W1.heap.size; omega) (by omega) (s.extract fr pos, (fr : Int) - bg + 1) ty
              clear hA hM0 hdrop hcut h0
              go_wp2_with fail
              go_region_law (refine step_append_ex rfl _ _ _ _ rfl rfl rfl (HAP.out _) ?_; intro v1 X1 hX; obtain ⟨va1, vc1, rfl⟩ := hX.form; have xb := (hX.keep H0.out.row H0.out.box (fun c e => by cases e)); have x0 : X1.cell? ⟨w.heap.size, 0, none⟩ = some (.int .i64 num) := blk_cell (c := [_, _, _]) xb rfl; have x1 : X1.cell? ⟨w.heap.size, 1, none⟩ = some (.slice va ws.length vc) := blk_cell (c := [_, _, _]) xb rfl; have x2 : X1.cell? ⟨w.heap.size, 2, none⟩ = some (.int .i64 beh) := blk_cell (c := [_, _, _]) xb rfl; have xf : ∀ j, X1.frozen? ⟨w.heap.size, j, none⟩ = false := fun j => blk_open (c := [_, _, _]) xb j)
              all_goals
                have HF : Hid _ := Md.sep (Md.cut HK.out H0.out hB h4 hX ((pos : Int) - bg + 1) HR.out)
                clear hX xb
                go_wp2
                go_roundw
                case rel => exact ⟨_, _, _, _, rfl, rfl, rfl, HF.out⟩
                case measure =>
                  rw [hmu, iterPos_of HF.out.it]
                  omega
            · have hcut : Sc.cut s pos ⟨⟨num, ws, beh⟩, bg, fr, rm⟩ = ⟨⟨num, ws, beh⟩, bg, fr, rm⟩ := if_neg hct
              have hM0 := At.stay0 HK.out hA hB hp
              have HR : Hid _ := hA.rest
              rw [hdrop, lines_sep _ _ _ _ _ rfl (by decide), hcut] at HR
              have lk : w.heap.size + 1 < (wr.iterAt (w.heap.size + 1) s' (pos + 1)).heap.size := (Array.getElem?_eq_some_iff.1 hM0.it).1
              generalize wr.iterAt (w.heap.size + 1) s' (pos + 1) = W1 at en hM0 lk
              have HF : Hid _ := Md.sep (Md.re hM0 HR.out)
              clear hA hM0 hdrop hcut h0 HR
              cases rm with
              | true =>
                by_cases hlt : fr < pos
                · have q1 : decide ((fr : Int) < pos) = true := by simpa using hlt
                  go_wp2
                  go_roundw
                  case rel => exact ⟨_, _, _, _, rfl, rfl, rfl, HF.out⟩
                  case measure =>
                    rw [hmu, iterPos_of HF.out.it]
                    omega
                · have q1 : decide ((fr : Int) < pos) = false := by simpa using hlt
                  go_wp2
                  go_roundw
                  case rel => exact ⟨_, _, _, _, rfl, rfl, rfl, HF.out⟩
                  case measure =>
                    rw [hmu, iterPos_of HF.out.it]
                    omega
              | false =>
                have hnl : ¬ fr < pos := fun e => hct ⟨e, rfl⟩
                obtain rfl : fr = pos := by omega
                go_wp2
                go_roundw
                case rel => exact ⟨_, _, _, _, rfl, rfl, rfl, HF.out⟩
                case measure =>
                  rw [hmu, iterPos_of HF.out.it]
                  omega
          · rw [hc] at hnext hdrop
            have en : ∀ ty, (Instr.next (.pointer (some ⟨w.heap.size + 1, 0, none⟩)) true ty).run Tryz.prog wr = .ok (.tuple #[.bool true, .int .i64 pos, .int .i32 35]) (wr.iterAt (w.heap.size + 1) s' (pos + 1)) := hnext
            clear hnext hc hsep' h128
            by_cases hct : fr < pos ∧ rm = false
            · obtain ⟨hlt, rfl⟩ := hct
              have hcut : Sc.cut s pos ⟨⟨num, ws, beh⟩, bg, fr, false⟩ = ⟨⟨num, ws ++ [(s.extract fr pos, (fr : Int) - bg + 1)], (pos : Int) - bg + 1⟩, bg, fr, false⟩ := if_pos ⟨hlt, rfl⟩
              have hM0 := At.stay0 HK.out hA hB hp
              have HR : Hid _ := hA.rest
              rw [hdrop, lines_sep _ _ _ _ _ rfl (by decide), hcut] at HR
              have lk : w.heap.size + 1 < (wr.iterAt (w.heap.size + 1) s' (pos + 1)).heap.size := (Array.getElem?_eq_some_iff.1 hM0.it).1
              generalize wr.iterAt (w.heap.size + 1) s' (pos + 1) = W1 at en hM0 lk
              obtain ⟨va, vc, rfl⟩ := hM0.row.form
              have w1 : IntKind.i64.wrap ((fr : Int) - bg) = (fr : Int) - bg := wrap64 _ (by omega) (by omega)
              have w2 : IntKind.i64.wrap ((fr : Int) - bg + 1) = (fr : Int) - bg + 1 := wrap64 _ (by omega) (by omega)
              have w3 : IntKind.i64.wrap ((pos : Int) - bg) = (pos : Int) - bg := wrap64 _ (by omega) (by omega)
              have w4 : IntKind.i64.wrap ((pos : Int) - bg + 1) = (pos : Int) - bg + 1 := wrap64 _ (by omega) (by omega)
              have c0 : W1.cell? ⟨w.heap.size, 0, none⟩ = some (.int .i64 num) := blk_cell (c := [_, _, _]) hM0.box rfl
              have c1 : W1.cell? ⟨w.heap.size, 1, none⟩ = some (.slice va ws.length vc) := blk_cell (c := [_, _, _]) hM0.box rfl
              have c1a : ∀ o, (W1.alloc o).cell? ⟨w.heap.size, 1, none⟩ = some (.slice va ws.length vc) := fun o => blk_cell (c := [_, _, _]) (blk_alloc hM0.box o) rfl
              have H0 : Hid _ := hM0
              have q1 : decide ((fr : Int) < pos) = true := by simpa using hlt
              have HAP : Hid (∀ ty, _) := fun ty => words_append (W := W1.drew) (v := .slice va ws.length vc) (ws := ws) hM0.row (by show _ ≤ W1.heap.size; omega) (by omega) (s.extract fr pos, (fr : Int) - bg + 1) ty
              clear hA hM0 hdrop hcut h0
              go_wp2_with fail
              go_region_law (refine step_append_ex rfl _ _ _ _ rfl rfl rfl (HAP.out _) ?_; intro v1 X1 hX; obtain ⟨va1, vc1, rfl⟩ := hX.form; have xb := (hX.keep H0.out.row H0.out.box (fun c e => by cases e)); have x0 : X1.cell? ⟨w.heap.size, 0, none⟩ = some (.int .i64 num) := blk_cell (c := [_, _, _]) xb rfl; have x1 : X1.cell? ⟨w.heap.size, 1, none⟩ = some (.slice va ws.length vc) := blk_cell (c := [_, _, _]) xb rfl; have x2 : X1.cell? ⟨w.heap.size, 2, none⟩ = some (.int .i64 beh) := blk_cell (c := [_, _, _]) xb rfl; have xf : ∀ j, X1.frozen? ⟨w.heap.size, j, none⟩ = false := fun j => blk_open (c := [_, _, _]) xb j)
              all_goals
                have HF : Hid _ := Md.sep (Md.cut HK.out H0.out hB h4 hX ((pos : Int) - bg + 1) HR.out)
                clear hX xb
                go_wp2
                go_roundw
                case rel => exact ⟨_, _, _, _, rfl, rfl, rfl, HF.out⟩
                case measure =>
                  rw [hmu, iterPos_of HF.out.it]
                  omega
            · have hcut : Sc.cut s pos ⟨⟨num, ws, beh⟩, bg, fr, rm⟩ = ⟨⟨num, ws, beh⟩, bg, fr, rm⟩ := if_neg hct
              have hM0 := At.stay0 HK.out hA hB hp
              have HR : Hid _ := hA.rest
              rw [hdrop, lines_sep _ _ _ _ _ rfl (by decide), hcut] at HR
              have lk : w.heap.size + 1 < (wr.iterAt (w.heap.size + 1) s' (pos + 1)).heap.size := (Array.getElem?_eq_some_iff.1 hM0.it).1
              generalize wr.iterAt (w.heap.size + 1) s' (pos + 1) = W1 at en hM0 lk
              have HF : Hid _ := Md.sep (Md.re hM0 HR.out)
              clear hA hM0 hdrop hcut h0 HR
              cases rm with
              | true =>
                by_cases hlt : fr < pos
                · have q1 : decide ((fr : Int) < pos) = true := by simpa using hlt
                  go_wp2
                  go_roundw
                  case rel => exact ⟨_, _, _, _, rfl, rfl, rfl, HF.out⟩
                  case measure =>
                    rw [hmu, iterPos_of HF.out.it]
                    omega
                · have q1 : decide ((fr : Int) < pos) = false := by simpa using hlt
                  go_wp2
                  go_roundw
                  case rel => exact ⟨_, _, _, _, rfl, rfl, rfl, HF.out⟩
                  case measure =>
                    rw [hmu, iterPos_of HF.out.it]
                    omega
              | false =>
                have hnl : ¬ fr < pos := fun e => hct ⟨e, rfl⟩
                obtain rfl : fr = pos := by omega
                go_wp2
                go_roundw
                case rel => exact ⟨_, _, _, _, rfl, rfl, rfl, HF.out⟩
                case measure =>
                  rw [hmu, iterPos_of HF.out.it]
                  omega
          · rw [hc] at hnext hdrop
            have en : ∀ ty, (Instr.next (.pointer (some ⟨w.heap.size + 1, 0, none⟩)) true ty).run Tryz.prog wr = .ok (.tuple #[.bool true, .int .i64 pos, .int .i32 10]) (wr.iterAt (w.heap.size + 1) s' (pos + 1)) := hnext
            clear hnext hc hsep' h128
            by_cases hct : fr < pos ∧ rm = false
            · obtain ⟨hlt, rfl⟩ := hct
              have hcut : Sc.cut s pos ⟨⟨num, ws, beh⟩, bg, fr, false⟩ = ⟨⟨num, ws ++ [(s.extract fr pos, (fr : Int) - bg + 1)], (pos : Int) - bg + 1⟩, bg, fr, false⟩ := if_pos ⟨hlt, rfl⟩
              have hM0 := At.stay0 HK.out hA hB hp
              have HR : Hid _ := hA.rest
              rw [hdrop, lines_nl, hcut, if_neg (by simp)] at HR
              have lk : w.heap.size + 1 < (wr.iterAt (w.heap.size + 1) s' (pos + 1)).heap.size := (Array.getElem?_eq_some_iff.1 hM0.it).1
              generalize wr.iterAt (w.heap.size + 1) s' (pos + 1) = W1 at en hM0 lk
              obtain ⟨va, vc, rfl⟩ := hM0.row.form
              have w1 : IntKind.i64.wrap ((fr : Int) - bg) = (fr : Int) - bg := wrap64 _ (by omega) (by omega)
              have w2 : IntKind.i64.wrap ((fr : Int) - bg + 1) = (fr : Int) - bg + 1 := wrap64 _ (by omega) (by omega)
              have w3 : IntKind.i64.wrap ((pos : Int) - bg) = (pos : Int) - bg := wrap64 _ (by omega) (by omega)
              have w4 : IntKind.i64.wrap ((pos : Int) - bg + 1) = (pos : Int) - bg + 1 := wrap64 _ (by omega) (by omega)
              have c0 : W1.cell? ⟨w.heap.size, 0, none⟩ = some (.int .i64 num) := blk_cell (c := [_, _, _]) hM0.box rfl
              have c1 : W1.cell? ⟨w.heap.size, 1, none⟩ = some (.slice va ws.length vc) := blk_cell (c := [_, _, _]) hM0.box rfl
              have c1a : ∀ o, (W1.alloc o).cell? ⟨w.heap.size, 1, none⟩ = some (.slice va ws.length vc) := fun o => blk_cell (c := [_, _, _]) (blk_alloc hM0.box o) rfl
              have H0 : Hid _ := hM0
              have q1 : decide ((fr : Int) < pos) = true := by simpa using hlt
              have HAP : Hid (∀ ty, _) := fun ty => words_append (W := W1.drew) (v := .slice va ws.length vc) (ws := ws) hM0.row (by show _ ≤ W1.heap.size; omega) (by omega) (s.extract fr pos, (fr : Int) - bg + 1) ty
              clear hA hM0 hdrop hcut h0
              go_wp2_with fail
              go_region_law (refine step_append_ex rfl _ _ _ _ rfl rfl rfl (HAP.out _) ?_; intro v1 X1 hX; obtain ⟨va1, vc1, rfl⟩ := hX.form; have xb := (hX.keep H0.out.row H0.out.box (fun c e => by cases e)); have x0 : X1.cell? ⟨w.heap.size, 0, none⟩ = some (.int .i64 num) := blk_cell (c := [_, _, _]) xb rfl; have x1 : X1.cell? ⟨w.heap.size, 1, none⟩ = some (.slice va ws.length vc) := blk_cell (c := [_, _, _]) xb rfl; have x2 : X1.cell? ⟨w.heap.size, 2, none⟩ = some (.int .i64 beh) := blk_cell (c := [_, _, _]) xb rfl; have xf : ∀ j, X1.frozen? ⟨w.heap.size, j, none⟩ = false := fun j => blk_open (c := [_, _, _]) xb j)
              all_goals
                have hM := Md.cut HK.out H0.out hB h4 hX ((pos : Int) - bg + 1) HR.out
                clear xb
                obtain ⟨st2, hf2, hr2⟩ := foldlM_cons hM.rest
                have hsz := (Array.getElem?_eq_some_iff.1 hM.it).1
                have HT : Hid _ := HK.out.take st1 st2 ⟨num, ws ++ [(s.extract fr pos, (fr : Int) - bg + 1)], (pos : Int) - bg + 1⟩ _ _ hM.inv hM.row.words (by simp) hf2 (by omega) hM.below
                have HM : Hid _ := hM
                have w5 : IntKind.i64.wrap (num + 1) = num + 1 := wrap64 _ (by omega) (by omega)
                have q2 : decide ((0 : Int) < (ws.length : Int) + 1) = true := decide_eq_true (by omega)
                clear hM hsz
                go_wp2_with fail
                refine Calls.mono HT.out ?_
                rintro e W5 ⟨rfl, hI5, hB5, hk5⟩
                have b5 := hk5 _ _ HM.out.box (.inr ⟨_, rfl⟩)
                have i5 := hk5 _ _ HM.out.it (.inl ⟨_, _, rfl⟩)
                have HF : Hid _ := At.fresh HK.out hB HM.out.le HM.out.num i5 b5 hI5 (HM.out.below.trans hB5) hr2
                have d0 : W5.cell? ⟨w.heap.size, 0, none⟩ = some (.int .i64 num) := blk_cell (c := [_, _, _]) b5 rfl
                have d1 : W5.cell? ⟨w.heap.size, 1, none⟩ = some (.slice va1 (ws.length + 1) vc1) := blk_cell (c := [_, _, _]) b5 rfl
                have d2 : W5.cell? ⟨w.heap.size, 2, none⟩ = some (.int .i64 ((pos : Int) - bg + 1)) := blk_cell (c := [_, _, _]) b5 rfl
                have df : ∀ j, W5.frozen? ⟨w.heap.size, j, none⟩ = false := fun j => blk_open (c := [_, _, _]) b5 j
                clear b5 i5 hk5 hI5 hB5 hr2 HM HT
                go_wp2
                go_roundw
                case rel => exact ⟨_, _, _, _, rfl, rfl, rfl, HF.out⟩
                case measure =>
                  rw [hmu, iterPos_of HF.out.it]
                  omega
            · have hcut : Sc.cut s pos ⟨⟨num, ws, beh⟩, bg, fr, rm⟩ = ⟨⟨num, ws, beh⟩, bg, fr, rm⟩ := if_neg hct
              have hM0 := At.stay0 HK.out hA hB hp
              have HR : Hid _ := hA.rest
              rw [hdrop, lines_nl, hcut] at HR
              have lk : w.heap.size + 1 < (wr.iterAt (w.heap.size + 1) s' (pos + 1)).heap.size := (Array.getElem?_eq_some_iff.1 hM0.it).1
              generalize wr.iterAt (w.heap.size + 1) s' (pos + 1) = W1 at en hM0 lk
              have q1 : fr < pos ∧ rm = true ∨ fr = pos := by
                by_cases hlt : fr < pos
                · refine .inl ⟨hlt, ?_⟩
                  cases rm with
                  | true => rfl
                  | false => exact absurd ⟨hlt, rfl⟩ hct
                · exact .inr (by omega)
              clear hct hcut hdrop h0 hA
              cases ws with
              | nil =>
                rw [if_pos rfl, List.nil_append] at HR
                have HF : Hid _ := At.fresh HK.out hB hM0.le hM0.num hM0.it hM0.box hM0.inv hM0.below HR.out
                have c0 : W1.cell? ⟨w.heap.size, 0, none⟩ = some (.int .i64 num) := blk_cell (c := [_, _, _]) hM0.box rfl
                have c1 : W1.cell? ⟨w.heap.size, 1, none⟩ = some v := blk_cell (c := [_, _, _]) hM0.box rfl
                have c2 : W1.cell? ⟨w.heap.size, 2, none⟩ = some (.int .i64 beh) := blk_cell (c := [_, _, _]) hM0.box rfl
                have cf : ∀ j, W1.frozen? ⟨w.heap.size, j, none⟩ = false := fun j => blk_open (c := [_, _, _]) hM0.box j
                obtain ⟨va, vc, hv⟩ := hM0.row.form
                have hv2 : v = .slice va 0 vc := hv
                rw [hv2] at c1
                have w5 : IntKind.i64.wrap (num + 1) = num + 1 := wrap64 _ (by omega) (by omega)
                clear hM0 HR hv hv2
                rcases q1 with ⟨q1, rfl⟩ | rfl
                · have q3 : decide ((fr : Int) < pos) = true := by simpa using q1
                  go_wp2
                  go_roundw
                  case rel => exact ⟨_, _, _, _, rfl, rfl, rfl, HF.out⟩
                  case measure =>
                    rw [hmu, iterPos_of HF.out.it]
                    omega
                · cases rm with
                  | true =>
                    go_wp2
                    go_roundw
                    case rel => exact ⟨_, _, _, _, rfl, rfl, rfl, HF.out⟩
                    case measure =>
                      rw [hmu, iterPos_of HF.out.it]
                      omega
                  | false =>
                    go_wp2
                    go_roundw
                    case rel => exact ⟨_, _, _, _, rfl, rfl, rfl, HF.out⟩
                    case measure =>
                      rw [hmu, iterPos_of HF.out.it]
                      omega
              | cons y ws =>
                rw [if_neg (by simp)] at HR
                have hM := Md.re hM0 HR.out
                clear hM0
                rcases q1 with ⟨q1, rfl⟩ | rfl
                · have q3 : decide ((fr : Int) < pos) = true := by simpa using q1
                  obtain ⟨st2, hf2, hr2⟩ := foldlM_cons hM.rest
                  have hsz := (Array.getElem?_eq_some_iff.1 hM.it).1
                  have HT : Hid _ := HK.out.take st1 st2 ⟨num, y :: ws, beh⟩ _ _ hM.inv hM.row.words (by simp) hf2 (by omega) hM.below
                  have HM : Hid _ := hM
                  have w5 : IntKind.i64.wrap (num + 1) = num + 1 := wrap64 _ (by omega) (by omega)
                  obtain ⟨va, vc, hv⟩ := hM.row.form
                  have hv2 : v = .slice va (ws.length + 1) vc := hv
                  have c0 : W1.cell? ⟨w.heap.size, 0, none⟩ = some (.int .i64 num) := blk_cell (c := [_, _, _]) hM.box rfl
                  have c1 : W1.cell? ⟨w.heap.size, 1, none⟩ = some v := blk_cell (c := [_, _, _]) hM.box rfl
                  have c2 : W1.cell? ⟨w.heap.size, 2, none⟩ = some (.int .i64 beh) := blk_cell (c := [_, _, _]) hM.box rfl
                  have q2 : decide ((0 : Int) < (ws.length : Int) + 1) = true := decide_eq_true (by omega)
                  subst hv2
                  clear hv
                  clear hM hsz
                  go_wp2_with fail
                  refine Calls.mono HT.out ?_
                  rintro e W5 ⟨rfl, hI5, hB5, hk5⟩
                  have b5 := hk5 _ _ HM.out.box (.inr ⟨_, rfl⟩)
                  have i5 := hk5 _ _ HM.out.it (.inl ⟨_, _, rfl⟩)
                  have HF : Hid _ := At.fresh HK.out hB HM.out.le HM.out.num i5 b5 hI5 (HM.out.below.trans hB5) hr2
                  have d0 : W5.cell? ⟨w.heap.size, 0, none⟩ = some (.int .i64 num) := blk_cell (c := [_, _, _]) b5 rfl
                  have d1 : W5.cell? ⟨w.heap.size, 1, none⟩ = some (.slice va (ws.length + 1) vc) := blk_cell (c := [_, _, _]) b5 rfl
                  have d2 : W5.cell? ⟨w.heap.size, 2, none⟩ = some (.int .i64 (beh)) := blk_cell (c := [_, _, _]) b5 rfl
                  have df : ∀ j, W5.frozen? ⟨w.heap.size, j, none⟩ = false := fun j => blk_open (c := [_, _, _]) b5 j
                  clear b5 i5 hk5 hI5 hB5 hr2 HM HT
                  go_wp2
                  go_roundw
                  case rel => exact ⟨_, _, _, _, rfl, rfl, rfl, HF.out⟩
                  case measure =>
                    rw [hmu, iterPos_of HF.out.it]
                    omega
                · cases rm with
                  | true =>
                    obtain ⟨st2, hf2, hr2⟩ := foldlM_cons hM.rest
                    have hsz := (Array.getElem?_eq_some_iff.1 hM.it).1
                    have HT : Hid _ := HK.out.take st1 st2 ⟨num, y :: ws, beh⟩ _ _ hM.inv hM.row.words (by simp) hf2 (by omega) hM.below
                    have HM : Hid _ := hM
                    have w5 : IntKind.i64.wrap (num + 1) = num + 1 := wrap64 _ (by omega) (by omega)
                    obtain ⟨va, vc, hv⟩ := hM.row.form
                    have hv2 : v = .slice va (ws.length + 1) vc := hv
                    have c0 : W1.cell? ⟨w.heap.size, 0, none⟩ = some (.int .i64 num) := blk_cell (c := [_, _, _]) hM.box rfl
                    have c1 : W1.cell? ⟨w.heap.size, 1, none⟩ = some v := blk_cell (c := [_, _, _]) hM.box rfl
                    have c2 : W1.cell? ⟨w.heap.size, 2, none⟩ = some (.int .i64 beh) := blk_cell (c := [_, _, _]) hM.box rfl
                    have q2 : decide ((0 : Int) < (ws.length : Int) + 1) = true := decide_eq_true (by omega)
                    subst hv2
                    clear hv
                    clear hM hsz
                    go_wp2_with fail
                    refine Calls.mono HT.out ?_
                    rintro e W5 ⟨rfl, hI5, hB5, hk5⟩
                    have b5 := hk5 _ _ HM.out.box (.inr ⟨_, rfl⟩)
                    have i5 := hk5 _ _ HM.out.it (.inl ⟨_, _, rfl⟩)
                    have HF : Hid _ := At.fresh HK.out hB HM.out.le HM.out.num i5 b5 hI5 (HM.out.below.trans hB5) hr2
                    have d0 : W5.cell? ⟨w.heap.size, 0, none⟩ = some (.int .i64 num) := blk_cell (c := [_, _, _]) b5 rfl
                    have d1 : W5.cell? ⟨w.heap.size, 1, none⟩ = some (.slice va (ws.length + 1) vc) := blk_cell (c := [_, _, _]) b5 rfl
                    have d2 : W5.cell? ⟨w.heap.size, 2, none⟩ = some (.int .i64 (beh)) := blk_cell (c := [_, _, _]) b5 rfl
                    have df : ∀ j, W5.frozen? ⟨w.heap.size, j, none⟩ = false := fun j => blk_open (c := [_, _, _]) b5 j
                    clear b5 i5 hk5 hI5 hB5 hr2 HM HT
                    go_wp2
                    go_roundw
                    case rel => exact ⟨_, _, _, _, rfl, rfl, rfl, HF.out⟩
                    case measure =>
                      rw [hmu, iterPos_of HF.out.it]
                      omega
                  | false =>
                    obtain ⟨st2, hf2, hr2⟩ := foldlM_cons hM.rest
                    have hsz := (Array.getElem?_eq_some_iff.1 hM.it).1
                    have HT : Hid _ := HK.out.take st1 st2 ⟨num, y :: ws, beh⟩ _ _ hM.inv hM.row.words (by simp) hf2 (by omega) hM.below
                    have HM : Hid _ := hM
                    have w5 : IntKind.i64.wrap (num + 1) = num + 1 := wrap64 _ (by omega) (by omega)
                    obtain ⟨va, vc, hv⟩ := hM.row.form
                    have hv2 : v = .slice va (ws.length + 1) vc := hv
                    have c0 : W1.cell? ⟨w.heap.size, 0, none⟩ = some (.int .i64 num) := blk_cell (c := [_, _, _]) hM.box rfl
                    have c1 : W1.cell? ⟨w.heap.size, 1, none⟩ = some v := blk_cell (c := [_, _, _]) hM.box rfl
                    have c2 : W1.cell? ⟨w.heap.size, 2, none⟩ = some (.int .i64 beh) := blk_cell (c := [_, _, _]) hM.box rfl
                    have q2 : decide ((0 : Int) < (ws.length : Int) + 1) = true := decide_eq_true (by omega)
                    subst hv2
                    clear hv
                    clear hM hsz
                    go_wp2_with fail
                    refine Calls.mono HT.out ?_
                    rintro e W5 ⟨rfl, hI5, hB5, hk5⟩
                    have b5 := hk5 _ _ HM.out.box (.inr ⟨_, rfl⟩)
                    have i5 := hk5 _ _ HM.out.it (.inl ⟨_, _, rfl⟩)
                    have HF : Hid _ := At.fresh HK.out hB HM.out.le HM.out.num i5 b5 hI5 (HM.out.below.trans hB5) hr2
                    have d0 : W5.cell? ⟨w.heap.size, 0, none⟩ = some (.int .i64 num) := blk_cell (c := [_, _, _]) b5 rfl
                    have d1 : W5.cell? ⟨w.heap.size, 1, none⟩ = some (.slice va (ws.length + 1) vc) := blk_cell (c := [_, _, _]) b5 rfl
                    have d2 : W5.cell? ⟨w.heap.size, 2, none⟩ = some (.int .i64 (beh)) := blk_cell (c := [_, _, _]) b5 rfl
                    have df : ∀ j, W5.frozen? ⟨w.heap.size, j, none⟩ = false := fun j => blk_open (c := [_, _, _]) b5 j
                    clear b5 i5 hk5 hI5 hB5 hr2 HM HT
                    go_wp2
                    go_roundw
                    case rel => exact ⟨_, _, _, _, rfl, rfl, rfl, HF.out⟩
                    case measure =>
                      rw [hmu, iterPos_of HF.out.it]
                      omega
      · have hd := decode_high s' pos hp (by omega)
        have hle := decode_le s' pos
        have hnext : ∀ ty, (Instr.next (.pointer (some ⟨w.heap.size + 1, 0, none⟩)) true ty).run Tryz.prog wr = _ := fun ty => Lib.run_next_any_at wr (w.heap.size + 1) s' pos ty hA.it hp
        have hget : s'.get! (pos + 0) = s'[pos]'hp := by
          show s'.get! pos = _
          simp only [ByteArray.get!]
          exact getElem!_pos s'.data pos hp
        have HN : Hid _ := At.next HK.out hA hB (Utf8.decode s' pos).2 (fun j hj => by
          cases j with
          | zero => exact ⟨hp, by rw [hget]; exact isSep_high (by omega)⟩
          | succ j =>
            obtain ⟨g1, g2⟩ := decode_cont s' pos (j + 1) (by omega) hj
            exact ⟨g1, isSep_high g2⟩) hd.2
        have hit1 := Lib.iterAt_heap wr (w.heap.size + 1) s' pos (pos + (Utf8.decode s' pos).2) hA.it
        have hd2 := hd.2
        generalize (Utf8.decode s' pos).2 = k at hnext HN hit1 hd2
        have hkle := HN.out.le
        generalize wr.iterAt (w.heap.size + 1) s' (pos + k) = W1 at hnext HN hit1
        have hd1 := hd.1
        generalize (Utf8.decode s' pos).1 = r at hnext hd1 hle
        have f1 : ((r : Int) != 32) = true := by simp; omega
        have f2 : ((r : Int) != 9) = true := by simp; omega
        have f3 : ((r : Int) != 35) = true := by simp; omega
        have f4 : ((r : Int) != 10) = true := by simp; omega
        generalize (r : Int) = z at hnext f1 f2 f3 f4
        clear hd hdrop hget hA h128
        go_wp2
        go_roundw
        case rel => exact ⟨pos + k, _, _, _, rfl, rfl, rfl, HN.out⟩
        case measure =>
          have hmu2 : W1.iterPos (w.heap.size + 1) = pos + k := by simp [World.iterPos, hit1]
          rw [hmu, hmu2]
          omega
    · have hnext : ∀ ty, (Instr.next (.pointer (some ⟨w.heap.size + 1, 0, none⟩)) true ty).run Tryz.prog wr = _ := fun ty => Lib.run_next_end_at wr (w.heap.size + 1) s' pos ty hA.it hp
      have hend : s'.data.toList.drop pos = [] := List.drop_eq_nil_of_le (by rw [Array.length_toList]; show s'.size ≤ pos; omega)
      have hr := hA.rest
      rw [hend] at hr
      have hst : st1 = st' := Option.some.inj hr
      have hi := hA.inv
      have hb := hA.below
      rw [hst] at hi
      have H1 : Hid _ := hi
      have H2 : Hid _ := hb
      clear hA hi hb hr hend
      go_wp2
      go_end0
      rw [← HQ.out]
      exact ⟨rfl, H1.out, H2.out⟩


end Go.Proofs.YtaebknkjhhcneaaGreatDoor
