/-
  A law of our own on 'for x := range g { .. }' where every round falls off its end: the iterator's contract 'Gives' (the values that come, in their order; a round turns nothing that lay below the iterator's world nor anything that the iterator has laid since its call), and 'wpIn_range': the loop out of one walk of its body. An iterator that itself ranges over an iterator has the contract too.
  Plain mathematics for package sum: words of bytes, the sum of words in ones' complement, and what follows of it.
  Plain mathematics of sums: the sum of words is their sum modulo 65535; words of rows that are joined.
-/
import Derived.RangeFuncNested
import Derived.RangeFuncBound
import Derived.RangeFuncCalls
import Derived.RangeFuncLeaves
import Derived.Shelf.Abstract
import Derived.Shelf.RegionOpen
import Derived.WalkKit
import Derived.OwnWalkIn
import Derived.TacticsInMore
import Derived.LoopNIn
import Derived.LoopIn
import Derived.Laws.BitsAllLaws
set_option linter.unusedVariables false
set_option linter.unusedSimpArgs false
namespace Go.Proofs.YtpgnnplpcalbbaaGreat
open Go Go.RowKit
/-- Between A and B nothing has turned below lo, nor from hi on. -/
structure Kept (lo hi : Nat) (A B : World) : Prop where
  below : Below lo A B
  above : ∀ k, hi ≤ k → k < A.heap.size → B.heap[k]? = A.heap[k]?
theorem Kept.refl (lo hi : Nat) (A : World) : Kept lo hi A A := ⟨Below.refl _ _, fun _ _ _ => rfl⟩
theorem Kept.trans {lo hi : Nat} {A B C : World} (h : Kept lo hi A B) (k : Kept lo hi B C) : Kept lo hi A C :=
  ⟨h.below.trans k.below, fun i hi hA => (k.above i hi (Nat.lt_of_lt_of_le hA h.below.size)).trans (h.above i hi hA)⟩
theorem Kept.mono {lo hi lo' hi' : Nat} {A B : World} (h : Kept lo hi A B) (hl : lo' ≤ lo) (hh : hi ≤ hi') : Kept lo' hi' A B :=
  ⟨h.below.mono hl, fun k hk hA => h.above k (Nat.le_trans hh hk) hA⟩
theorem Kept.putObj {lo hi : Nat} {A : World} {l : Nat} (o : Obj) (hl : lo ≤ l) (hh : l < hi) : Kept lo hi A (A.putObj l o) :=
  ⟨⟨rfl, rfl, rfl, by simp, fun k hk => World.putObj_heap_other (by omega)⟩, fun k hk _ => World.putObj_heap_other (by omega)⟩
theorem Kept.alloc {lo hi : Nat} {A : World} (o : Obj) (hl : lo ≤ A.heap.size) : Kept lo hi A (A.alloc o) :=
  ⟨(Below.refl lo A).alloc hl o, fun k _ hk => Below.heap_alloc A o k hk⟩
theorem Kept.setCell {lo hi : Nat} {A : World} (b o : Nat) (v : Value) (hl : lo ≤ b) (hh : b < hi) : Kept lo hi A (A.setCell ⟨b, o, none⟩ v) :=
  ⟨(Below.refl lo A).setCell (p := ⟨b, o, none⟩) hl v, fun k hk _ => Below.heap_setCell A ⟨b, o, none⟩ v k (fun e => by simp at e; omega)⟩
theorem OwnFrom.later {β : Type} {B B' : Nat} {I : β → World → Prop} (h : OwnFrom B I) (hB : B ≤ B') : OwnFrom B' I :=
  fun s W W' row hs hg hr => h s W W' row hs hg (fun r e => ⟨Nat.le_trans hB (hr r e).1, (hr r e).2⟩)
/-- The contract of an iterator value that was made in w: whatever the loop, the values xs come, in their order. -/
def Gives (P : Program) (g : Nat) (lb : Array Value) (xs : List Value) (w : World) : Prop :=
  ∀ (l : Nat) (J : Nat → World → Prop) (W : World), Below w.heap.size w W → OwnFrom W.heap.size J →
    (∀ k x W1, xs[k]? = some x → J k W1 → ∀ m, YieldAt Fence.wide m P l #[x] W1 fun e W' => e = .returned (.bool true) ∧ J (k + 1) W' ∧ Kept w.heap.size W.heap.size W1 W') →
    J 0 W → ∀ n, CallsIn Fence.wide n P g (#[.func (.yield l) #[] #[]] ++ lb) W fun e W' => (∃ v, e = .returned v) ∧ J xs.length W'
theorem Gives.later {P : Program} {g : Nat} {lb : Array Value} {xs : List Value} {w w' : World} (h : Gives P g lb xs w) (hb : Below w.heap.size w w') : Gives P g lb xs w' :=
  fun l J W hW hJ hY h0 => h l J W (hb.trans (hW.mono hb.size)) hJ
    (fun k x W1 hx hj m => (hY k x W1 hx hj m).mono (fun _ _ hr => ⟨hr.1, hr.2.1, hr.2.2.mono hb.size (Nat.le_refl _)⟩)) h0
/-- A round's contract stands in the frame of another loop's round. -/
theorem RoundIn.inRound {F : Fence} {n : Nat} {P : Program} {l : Nat} {f : FuncId} {tmps : Array Value} {assign body : Code} {w : World} {R : Ending → World → Prop} (l' : Nat) (h : RoundIn F n P l f tmps assign body w R) : RoundIn (F.inRound l') n P l f tmps assign body w R := h
/-- The loop, where its body always falls off its end. -/
theorem wpIn_range {P : Program} {n : Nat} {g : Operand} {ps : Array Tmp} {assign body : Code} {Q : Exit → Act → World → Prop} {a : Act} {w : World}
    {gf : Nat} {lb : Array Value} (hg : a.eval g = .func (.func gf) #[] lb) (eg : ∀ args w, (callFunc gf args).run P w = .ok (.enter gf args) w)
    {xs : List Value} {w0 : World} (hseq : Gives P gf lb xs w0) (hb0 : Below w0.heap.size w0 w) (hps : ps.size = 1)
    (I : Nat → World → Prop) (hI : OwnFrom w.heap.size I) (h0 : I 0 w) (a₁ : Value → Act)
    (hassign : ∀ (l m : Nat) (x : Value) (W : World) (K : Act → World → Prop), K (a₁ x) W →
      assign.wpIn (Fence.wide.inRound l) m P (Exit.then K (fun _ _ _ => False)) { tmps := (ps.zip #[x]).foldl (fun t (p, v) => t.setIfInBounds p v) a.tmps, defers := [] } W)
    (hbody : ∀ (l m k : Nat) (x : Value) (W : World), xs[k]? = some x → w.heap.size ≤ W.heap.size → I k W →
      body.wpIn (Fence.wide.inRound l) m P (fun e _ W' => e = .normal ∧ I (k + 1) W' ∧ Kept w0.heap.size w.heap.size W W') (a₁ x) W)
    (hdone : ∀ (D : Nat) (W : World), w.heap.size ≤ D → I xs.length W → W.heap[D]? = some (.deferred (some [])) → Q .normal { a with defers := { target := .collected D, args := #[] } :: a.defers } W) :
    (Code.rangeFunc g ps assign body).wpIn Fence.wide n P Q a w := by
  refine wpIn_rangeFunc fun fn hfn => ?_
  obtain ⟨rec, hrec⟩ : ∃ rec : LoopState → Loop, rec = fun st => { state := st, pending := none, fn, tmps := a.tmps, params := ps, assign, body, defers := w.heap.size } := ⟨_, rfl⟩
  obtain ⟨W1, hW1⟩ : ∃ W1, (w.alloc (.deferred (some []))).alloc (.loop (rec .ready)) = W1 := ⟨_, rfl⟩
  have hs1 : W1.heap.size = w.heap.size + 2 := by rw [← hW1]; simp
  have hL1 : W1.heap[w.heap.size + 1]? = some (.loop (rec .ready)) := by
    rw [← hW1]; have := World.alloc_heap_new (w.alloc (.deferred (some []))) (.loop (rec .ready)); rwa [World.size_alloc] at this
  have hD1 : W1.heap[w.heap.size]? = some (.deferred (some [])) := by
    rw [← hW1]; exact (Below.heap_alloc _ _ _ (by simp)).trans (World.alloc_heap_new w _)
  have hI1 : I 0 W1 := by rw [← hW1]; exact hI.alloc _ (hI.alloc _ h0)
  have hb1 : Below w0.heap.size w0 W1 := by
    rw [← hW1]; exact (hb0.alloc hb0.size _).alloc (by simp; have := hb0.size; omega) _
  have hle := hb0.size
  refine ⟨w.heap.size + 1, [{ target := .collected w.heap.size, args := #[] }], W1, { target := .fn (.func gf) lb, args := #[.func (.yield (w.heap.size + 1)) #[] #[]] }, W1, gf,
    #[.func (.yield (w.heap.size + 1)) #[] #[]] ++ lb, W1, ?_, ?_, fun _ _ => trivial, ?_, fun h => by simp [Fence.wide] at h, ?_⟩
  · rw [← hW1, hrec]; exact run_enterLoop_outer _ _ _ _ _
  · simp only [resolve, hg]
    simp [go_sem]
  · simp [invoke, go_sem, eg]
  · have stay : ∀ {A B : World} {row : Option Nat} {j : Nat} {o : Obj}, A.grownBy B row → (∀ r, row = some r → W1.heap.size ≤ r ∧ ∃ o : Obj, A.heap[r]? = some o ∧ o.isCells = false) → j < w.heap.size + 2 → A.heap[j]? = some o → B.heap[j]? = some o :=
      fun hgr hr hj ho => (hgr.block _ (Array.getElem?_eq_some_iff.1 ho).1 (fun e => by have := (hr _ e.symm).1; omega)).trans ho
    refine (hseq (w.heap.size + 1)
      (fun k W => I k W ∧ W.heap[w.heap.size + 1]? = some (.loop (rec .ready)) ∧ W.heap[w.heap.size]? = some (.deferred (some [])))
      W1 hb1
      (fun s A B row hs hgr hr => ⟨hI s A B row hs.1 hgr (fun r e => ⟨by have := (hr r e).1; omega, (hr r e).2⟩), stay hgr hr (by omega) hs.2.1, stay hgr hr (by omega) hs.2.2⟩)
      ?_ ⟨hI1, hL1, hD1⟩ _).mono ?_
    · rintro k x W hx ⟨hi, hl, hd⟩ m
      have hlt : w.heap.size + 1 < W.heap.size := (Array.getElem?_eq_some_iff.1 hl).1
      have hy := run_yield (P := P) (args := #[x]) hl (by rw [hrec]; exact hps.symm)
      rw [hrec] at hy
      refine ⟨fn, _, assign, body, hy, roundIn_of_wpIn hfn (hassign _ _ x W _ ⟨_, run_beginRound hl (by rw [hrec]), ?_⟩)⟩
      clear hy
      obtain ⟨W2, hW2⟩ : ∃ W2, W.putObj (w.heap.size + 1) (.loop { rec .ready with state := .busy }) = W2 := ⟨_, rfl⟩
      have hs2 : W2.heap.size = W.heap.size := by rw [← hW2]; simp
      have hl2 : W2.heap[w.heap.size + 1]? = some (.loop (rec .busy)) := by
        rw [← hW2, hrec]; exact World.putObj_heap_same hlt
      have hd2 : W2.heap[w.heap.size]? = some (.deferred (some [])) := by rw [← hW2]; exact (World.putObj_heap_other (by omega)).trans hd
      have hi2 : I k W2 := by rw [← hW2]; exact hI.putObj _ hi (by omega) hl rfl
      have hk2 : Kept w0.heap.size W1.heap.size W W2 := by rw [← hW2]; exact Kept.putObj _ (by omega) (by omega)
      rw [hW2]
      refine wpIn_mono (hbody _ _ k x W2 hx (by omega) hi2) ?_
      rintro e a3 W3 ⟨rfl, hi3, hk3⟩
      have hl3 := (hk3.above (w.heap.size + 1) (by omega) (by omega)).trans hl2
      have hd3 := (hk3.above w.heap.size (Nat.le_refl _) (by omega)).trans hd2
      have hlt3 := (Array.getElem?_eq_some_iff.1 hl3).1
      refine ⟨_, _, run_endRound none hl3, rfl, ⟨hI.putObj _ hi3 (by omega) hl3 rfl, ?_, ?_⟩, ?_⟩
      · rw [World.putObj_heap_same hlt3, hrec]; rfl
      · exact (World.putObj_heap_other (by omega)).trans hd3
      · exact (hk2.trans (hk3.mono (Nat.le_refl _) (by omega))).trans (Kept.putObj _ (by omega) (by omega))
    · rintro e W2 ⟨⟨v, rfl⟩, hi, hl, hd⟩
      exact ⟨none, _, by have := run_endLoop (P := P) hl (by rw [hrec]; simp); rw [hrec] at this; exact this, hdone _ _ (Nat.le_refl _) (hI.putObj _ hi (by omega) hl rfl) ((World.putObj_heap_other (by omega)).trans hd)⟩
end Go.Proofs.YtpgnnplpcalbbaaGreat
namespace Go.Proofs.YtpgnnplpcalbbaaGreat
open Go
theorem hi_word (c : Int) (h0 : 0 ≤ c) (h1 : c < 256) : IntKind.u16.wrap (IntKind.u16.wrap c * 256) = c * 256 := by
  rw [IntKind.wrap_u16, IntKind.wrap_u16]; omega
theorem or_word (a c : Int) (a0 : 0 ≤ a) (a1 : a < 256) (h0 : 0 ≤ c) (h1 : c < 256) : bits .or .u16 (a * 256) c = a * 256 + c := by
  obtain ⟨x, rfl⟩ := Int.eq_ofNat_of_zero_le a0
  obtain ⟨y, rfl⟩ := Int.eq_ofNat_of_zero_le h0
  rw [u16_or _ _ (by omega) (by omega) (by omega) (by omega)]
  have e1 : ((x : Int) * 256).toNat = 2 ^ 8 * x := by omega
  have e2 : (y : Int).toNat = y := by omega
  rw [e1, e2, ← Nat.two_pow_add_eq_or_of_lt (by omega) x]
  omega
theorem not_word (z : Int) (h0 : 0 ≤ z) (h1 : z ≤ 65535) : bits .xor .u16 IntKind.u16.max z = 65535 - z := by
  obtain ⟨x, rfl⟩ := Int.eq_ofNat_of_zero_le h0
  have hm : IntKind.u16.max = 65535 := by decide
  rw [hm, u16_xor _ _ (by omega) (by omega) (by omega) (by omega)]
  have hx : x < 65536 := by omega
  have e1 : (65535 : Int).toNat = 65535 := rfl
  have e2 : (x : Int).toNat = x := by omega
  have e3 : (65535 ^^^ x : Nat) = 65535 - x := by
    have h := BitVec.toNat_not (x := BitVec.ofNat 16 x)
    rw [BitVec.not_def, BitVec.toNat_xor, BitVec.toNat_allOnes, BitVec.toNat_ofNat, Nat.mod_eq_of_lt (by omega)] at h
    simpa using h
  rw [e1, e2, e3]
  omega
/-- The sum of two words in ones' complement. -/
def addW (a b : Int) : Int := if a + b ≤ 65535 then a + b else a + b - 65535
theorem addW_range (a b : Int) (ha : 0 ≤ a ∧ a ≤ 65535) (hb : 0 ≤ b ∧ b ≤ 65535) : 0 ≤ addW a b ∧ addW a b ≤ 65535 := by unfold addW; split <;> omega
theorem add_word (a b : Int) (ha : 0 ≤ a ∧ a ≤ 65535) (hb : 0 ≤ b ∧ b ≤ 65535) : IntKind.u16.wrap (IntKind.u16.wrap (a + b) + (a + b) / 65536) = addW a b := by
  rw [IntKind.wrap_u16, IntKind.wrap_u16]; unfold addW; split <;> omega
/-- The sum of the words xs, on top of s. -/
def sumW (s : Int) (xs : List Int) : Int := xs.foldl addW s
/-- All of them are words. -/
def Words (xs : List Int) : Prop := ∀ z ∈ xs, 0 ≤ z ∧ z ≤ 65535
theorem turn_words {xs : List Int} (h : Words xs) : Words (xs.map (fun z => 65535 - z)) := by
  intro z hz
  obtain ⟨y, hy, rfl⟩ := List.mem_map.1 hz
  have := h y hy
  omega
theorem sumW_range : ∀ (xs : List Int) (s : Int), 0 ≤ s ∧ s ≤ 65535 → Words xs → 0 ≤ sumW s xs ∧ sumW s xs ≤ 65535
  | [], s, hs, _ => hs
  | x :: xs, s, hs, hx => sumW_range xs (addW s x) (addW_range s x hs (hx x (by simp))) (fun z hz => hx z (by simp [hz]))
theorem sumW_snoc (s : Int) (xs : List Int) (k : Nat) (x : Int) (h : xs[k]? = some x) : sumW s (xs.take (k + 1)) = addW (sumW s (xs.take k)) x := by
  obtain ⟨hk, rfl⟩ := List.getElem?_eq_some_iff.1 h
  rw [List.take_succ_eq_append_getElem hk, sumW, List.foldl_append]; rfl
/-- All of them are bytes. -/
def Fit (zs : List Int) : Prop := ∀ z ∈ zs, 0 ≤ z ∧ z < 256
theorem Fit.at {zs : List Int} (h : Fit zs) (j : Nat) : 0 ≤ zs[j]?.getD 0 ∧ zs[j]?.getD 0 < 256 := by
  cases e : zs[j]? with
  | none => simp
  | some z => exact h z (List.mem_of_getElem? e)
/-- The k-th word of the bytes f. -/
def wd (f : List Int) (k : Nat) : Int := f[2 * k]?.getD 0 * 256 + f[2 * k + 1]?.getD 0
def wordsL (f : List Int) : List Int := (List.range ((f.length + 1) / 2)).map (wd f)
theorem wordsL_length (f : List Int) : (wordsL f).length = (f.length + 1) / 2 := by simp [wordsL]
theorem wordsL_at (f : List Int) (k : Nat) (h : 2 * k < f.length) : (wordsL f)[k]? = some (wd f k) := by
  unfold wordsL; rw [List.getElem?_map, List.getElem?_range (by omega)]; rfl
/-- How many bytes lie ahead of part k. -/
def pre (ps : List (List Int)) (k : Nat) : Nat := ((ps.take k).flatten).length
theorem pre_zero (ps : List (List Int)) : pre ps 0 = 0 := by simp [pre]
theorem pre_all (ps : List (List Int)) : pre ps ps.length = ps.flatten.length := by simp [pre]
theorem pre_succ (ps : List (List Int)) (k : Nat) (h : k < ps.length) : pre ps (k + 1) = pre ps k + (ps[k]?.getD []).length := by
  unfold pre
  rw [List.take_succ_eq_append_getElem h, List.flatten_append, List.length_append]
  simp [h]
theorem flat_at : ∀ (ps : List (List Int)) (k j : Nat), k < ps.length → j < (ps[k]?.getD []).length → ps.flatten[pre ps k + j]? = (ps[k]?.getD [])[j]?
  | [], k, _, h, _ => by simp at h
  | p :: ps, 0, j, _, hj => by
    simp at hj
    simp [pre, List.getElem?_append, hj]
  | p :: ps, k + 1, j, h, hj => by
    have hk : k < ps.length := by simpa using h
    have hj' : j < (ps[k]?.getD []).length := by simpa using hj
    have e := flat_at ps k j hk hj'
    have e2 : pre (p :: ps) (k + 1) = p.length + pre ps k := by simp [pre]
    rw [e2, List.flatten_cons, List.getElem?_append_right (by omega), show p.length + pre ps k + j - p.length = pre ps k + j from by omega, e]
    simp
end Go.Proofs.YtpgnnplpcalbbaaGreat
namespace Go.Proofs.YtpgnnplpcalbbaaGreat
open Go
theorem addW_mod (a b : Int) : addW a b % 65535 = (a + b) % 65535 := by unfold addW; split <;> omega
theorem sumW_mod : ∀ (xs : List Int) (s : Int), sumW s xs % 65535 = (s + xs.sum) % 65535
  | [], s => by simp [sumW]
  | x :: xs, s => by
    have h1 := sumW_mod xs (addW s x)
    have h2 := addW_mod s x
    have e : sumW s (x :: xs) = sumW (addW s x) xs := rfl
    rw [e, h1, List.sum_cons]
    omega
theorem sumW_append (s : Int) (xs ys : List Int) : sumW s (xs ++ ys) = sumW (sumW s xs) ys := List.foldl_append ..
theorem wordsL_nil : wordsL [] = [] := rfl
theorem wordsL_two (a b : Int) (t : List Int) : wordsL (a :: b :: t) = (a * 256 + b) :: wordsL t := by
  unfold wordsL
  have e : ((a :: b :: t).length + 1) / 2 = (t.length + 1) / 2 + 1 := by simp; omega
  rw [e, List.range_succ_eq_map, List.map_cons, List.map_map]
  congr 1
theorem wordsL_append : ∀ (h t : List Int), h.length % 2 = 0 → wordsL (h ++ t) = wordsL h ++ wordsL t
  | [], t, _ => by simp [wordsL_nil]
  | [x], t, hl => by simp at hl
  | a :: b :: h, t, hl => by
    have hl' : h.length % 2 = 0 := by simp at hl; omega
    rw [List.cons_append, List.cons_append, wordsL_two, wordsL_two, wordsL_append h t hl', List.cons_append]
/-- The checksum of words. -/
def chkW (xs : List Int) : Int := 65535 - sumW 0 xs
theorem chkW_range (xs : List Int) (h : Words xs) : 0 ≤ chkW xs ∧ chkW xs ≤ 65535 := by
  have := sumW_range xs 0 (by decide) h
  unfold chkW; omega
theorem chkW_mod (xs : List Int) : chkW xs % 65535 = (- xs.sum) % 65535 := by
  have := sumW_mod xs 0
  unfold chkW; omega
theorem word_back (a : Int) : a / 256 * 256 + a % 256 = a := by omega
theorem Words.append {xs ys : List Int} (h : Words xs) (k : Words ys) : Words (xs ++ ys) := fun z hz => (List.mem_append.1 hz).elim (h z) (k z)
theorem Words.cons {x : Int} {xs : List Int} (h : 0 ≤ x ∧ x ≤ 65535) (k : Words xs) : Words (x :: xs) := fun z hz => by
  rcases List.mem_cons.1 hz with rfl | hz
  · exact h
  · exact k z hz
theorem turned_sum : ∀ (xs : List Int), (xs.map (fun z => 65535 - z)).sum % 65535 = (- xs.sum) % 65535
  | [] => by simp
  | x :: xs => by
    have h := turned_sum xs
    simp only [List.map_cons, List.sum_cons]
    omega
/-- The checksum behind a change, out of the words that change alone. -/
theorem change_mod (h f t l : List Int) : (65535 - sumW (sumW (65535 - chkW (h ++ (f ++ l))) (f.map (fun z => 65535 - z))) t) % 65535 = chkW (h ++ (t ++ l)) % 65535 := by
  have h1 := sumW_mod t (sumW (65535 - chkW (h ++ (f ++ l))) (f.map (fun z => 65535 - z)))
  have h2 := sumW_mod (f.map (fun z => 65535 - z)) (65535 - chkW (h ++ (f ++ l)))
  have h3 := chkW_mod (h ++ (f ++ l))
  have h4 := chkW_mod (h ++ (t ++ l))
  have h5 := turned_sum f
  simp only [List.sum_append] at h3 h4
  omega
/-- A word makes up for the change of others. -/
theorem neutral_mod (h f t l : List Int) : chkW (h ++ (0 :: (f ++ l))) % 65535 = chkW (h ++ (sumW (sumW 0 f) (t.map (fun z => 65535 - z)) :: (t ++ l))) % 65535 := by
  have h1 := sumW_mod (t.map (fun z => 65535 - z)) (sumW 0 f)
  have h2 := sumW_mod f 0
  have h3 := chkW_mod (h ++ (0 :: (f ++ l)))
  have h4 := chkW_mod (h ++ (sumW (sumW 0 f) (t.map (fun z => 65535 - z)) :: (t ++ l)))
  have h5 := turned_sum t
  simp only [List.sum_append, List.sum_cons] at h3 h4
  omega
end Go.Proofs.YtpgnnplpcalbbaaGreat
