/-
  each of a leaf and of a fork, and of any tree.
  over, longest.
-/
import Derived.Test.YtenahbdopgmpfaaFold11
import Derived.Test.YtenahbdopgmpfaaFold09
import Derived.Shelf.Abstract
namespace Go.Proofs.Ytenahbdopgmpfaa
open Go Go.RowKit
set_option linter.unusedVariables false
set_option linter.unusedSimpArgs false

set_option maxHeartbeats 1000000 in
set_option maxRecDepth 100000 in
theorem each_leaf {S : List Ent → World → Prop} {g : Bs → Bool} {fw ft : Value} (hw : Wan S fw g) (ht : Tak S ft) (k : Bs) (v : Int) (hk : k.length ≤ 128) (l : List Ent) (w : World) (hS : S l w) :
    Calls Try.prog 65 #[.iface 85 (LF k v), fw, ft] w fun e w' => e = .returned (.tuple #[]) ∧ S (l ++ if g k then [(k, v)] else []) w' := by
  generalize hQ : (fun (e : Ending) (w' : World) => e = .returned (.tuple #[]) ∧ S (l ++ if g k then [(k, v)] else []) w') = Q
  have HQ : Hid _ := hQ
  clear hQ
  obtain ⟨f1, lb1, rfl, eg1, h1⟩ := hw.fn
  obtain ⟨keep, f2, lb2, rfl, eg2, h2⟩ := ht
  have HT : Hid _ := fun W => leaf_top k v W
  have H1 : Hid _ := h1
  have H2 : Hid _ := h2
  have HK : Hid _ := keep
  have HS : Hid _ := hS
  clear h1 h2 keep hw hS
  go_enter Try.func65, Try.ntmps65
  go_wp2_with fail
  refine Calls.mono (HT.out _) ?_
  rintro e w1 ⟨rfl, hb1⟩
  have HS1 : Hid _ := HK.out _ _ _ HS.out hb1
  clear hb1
  go_wp2_with fail
  refine Calls.mono (H1.out _ _ _ hk HS1.out) ?_
  rintro e w2 ⟨rfl, hb2⟩
  have HS2 : Hid _ := HK.out _ _ _ HS1.out hb2
  clear hb2
  cases hg : g k with
  | false =>
    have HG : Hid _ := hg
    clear hg
    go_wp2
    try go_returns
    rw [← HQ.out, HG.out]
    exact ⟨rfl, by simpa using HS2.out⟩
  | true =>
    have HG : Hid _ := hg
    obtain ⟨w5, hst, hb5, hB5⟩ := box_new (ty := 85) (n := 18) (fun w => by kernel_rfl) w2 zL rfl (lfC k v) (lfC_length k v) (lfC_one k v)
    have HST : Hid _ := hst
    have HLD : Hid _ := lf_load hb5
    have HS5 : Hid _ := HK.out _ _ _ HS2.out hB5
    clear hg hst hb5 hB5
    have t1 := fun w => ta_leaf (LF k v) w
    go_wp2_with first
      | ((with_reducible show wpList _ _ _ _ _ _); refine armS (.tmp 6) (.tmp 22) 85 rfl rfl rfl rfl HST.out ?_)
      | ((with_reducible show wpList _ _ _ _ _ _); refine armL (.tmp 6) 85 rfl rfl rfl HLD.out ?_)
    refine Calls.mono (H2.out _ _ _ _ hk HS5.out) ?_
    rintro e w6 ⟨rfl, s6⟩
    have HS6 : Hid _ := s6
    clear s6
    go_wp2
    try go_returns
    rw [← HQ.out, HG.out]
    exact ⟨rfl, by simpa using HS6.out⟩

def kidsTo (la lb lc : List Ent) : Nat → List Ent
  | 0 => []
  | 1 => la
  | 2 => la ++ lb
  | _ => la ++ (lb ++ lc)

set_option maxHeartbeats 2000000 in
set_option maxRecDepth 100000 in
theorem each_fork {S : List Ent → World → Prop} {g : Bs → Bool} {fw ft : Value} (hw : Wan S fw g) (ht : Tak S ft) (k : Bs) (x y z : Value) (hx : x.oneCell' = true) (hy : y.oneCell' = true) (hz : z.oneCell' = true) (hk : k.length ≤ 128) (la lb lc : List Ent)
    (ha : ∀ l W, S l W → Calls Try.prog 65 #[x, fw, ft] W fun e w' => e = .returned (.tuple #[]) ∧ S (l ++ la) w')
    (hb : ∀ l W, S l W → Calls Try.prog 65 #[y, fw, ft] W fun e w' => e = .returned (.tuple #[]) ∧ S (l ++ lb) w')
    (hc : ∀ l W, S l W → Calls Try.prog 65 #[z, fw, ft] W fun e w' => e = .returned (.tuple #[]) ∧ S (l ++ lc) w')
    (l : List Ent) (w : World) (hS : S l w) :
    Calls Try.prog 65 #[.iface 117 (FK k x y z), fw, ft] w fun e w' => e = .returned (.tuple #[]) ∧ S (l ++ if g k then la ++ (lb ++ lc) else []) w' := by
  generalize hQ : (fun (e : Ending) (w' : World) => e = .returned (.tuple #[]) ∧ S (l ++ if g k then la ++ (lb ++ lc) else []) w') = Q
  have HQ : Hid _ := hQ
  clear hQ
  obtain ⟨f1, lb1, rfl, eg1, h1⟩ := hw.fn
  have keep := ht.keep
  obtain ⟨f2, lb2, rfl, eg2, h2⟩ := ht.fn
  have HT : Hid _ := fun W => fork_top k x y z W
  have H1 : Hid _ := h1
  have HK : Hid _ := keep
  have HS : Hid _ := hS
  have HA : Hid _ := ha
  have HB : Hid _ := hb
  have HC : Hid _ := hc
  clear h1 h2 keep hw hS ha hb hc ht
  go_enter Try.func65, Try.ntmps65
  go_wp2_with fail
  refine Calls.mono (HT.out _) ?_
  rintro e w1 ⟨rfl, hb1⟩
  have HS1 : Hid _ := HK.out _ _ _ HS.out hb1
  clear hb1
  go_wp2_with fail
  refine Calls.mono (H1.out _ _ _ hk HS1.out) ?_
  rintro e w2 ⟨rfl, hb2⟩
  have HS2 : Hid _ := HK.out _ _ _ HS1.out hb2
  clear hb2
  cases hg : g k with
  | false =>
    have HG : Hid _ := hg
    clear hg
    go_wp2
    try go_returns
    rw [← HQ.out, HG.out]
    exact ⟨rfl, by simpa using HS2.out⟩
  | true =>
    have HG : Hid _ := hg
    obtain ⟨w5, hst, hb5, hB5⟩ := box_new (ty := 117) (n := 20) (fun w => by kernel_rfl) w2 zF rfl (fkC k x y z) (fkC_length k x y z) (fkC_one k hx hy hz)
    have HST : Hid _ := hst
    have HLD : Hid _ := fk_kids hb5
    have HS5 : Hid _ := HK.out _ _ _ HS2.out hB5
    clear hg hst hb5 hB5
    have t1 := fun w => ta_fork (FK k x y z) w
    have t2 := fun w => ta_fork_leaf (FK k x y z) w
    go_wp2_with first
      | ((with_reducible show wpList _ _ _ _ _ _); refine armS (.tmp 7) (.tmp 28) 117 rfl rfl rfl rfl HST.out ?_)
      | ((with_reducible show wpList _ _ _ _ _ _); refine armL (.tmp 29) 115 rfl rfl rfl HLD.out ?_)
    go_loopw [31] (fun i wr => ∃ n : Nat, n ≤ 3 ∧ i = .int .i64 n ∧ S (l ++ kidsTo la lb lc n) wr) (fun i _ => 3 - (intOf i).toNat)
    case atStart => exact ⟨0, Nat.zero_le _, rfl, by simpa [kidsTo] using HS5.out⟩
    case round =>
      obtain ⟨n, hn, rfl, hs⟩ := hrel
      rcases (by omega : n = 0 ∨ n = 1 ∨ n = 2 ∨ n = 3) with rfl | rfl | rfl | rfl
      · have HS6 : Hid _ := HA.out _ _ hs
        clear hs
        have t3 := fun w => (ix_kids x y z w).1
        go_wp2_with fail
        refine Calls.mono HS6.out ?_
        rintro e w7 ⟨rfl, s7⟩
        have HS7 : Hid _ := s7
        clear s7
        go_wp2
        try go_roundw
        case rel => exact ⟨1, by omega, rfl, by simpa [kidsTo] using HS7.out⟩
        case measure => decide
      · have HS6 : Hid _ := HB.out _ _ hs
        clear hs
        have t3 := fun w => (ix_kids x y z w).2.1
        go_wp2_with fail
        refine Calls.mono HS6.out ?_
        rintro e w7 ⟨rfl, s7⟩
        have HS7 : Hid _ := s7
        clear s7
        go_wp2
        try go_roundw
        case rel => exact ⟨2, by omega, rfl, by simpa [kidsTo] using HS7.out⟩
        case measure => decide
      · have HS6 : Hid _ := HC.out _ _ hs
        clear hs
        have t3 := fun w => (ix_kids x y z w).2.2
        go_wp2_with fail
        refine Calls.mono HS6.out ?_
        rintro e w7 ⟨rfl, s7⟩
        have HS7 : Hid _ := s7
        clear s7
        go_wp2
        try go_roundw
        case rel => exact ⟨3, by omega, rfl, by simpa [kidsTo] using HS7.out⟩
        case measure => decide
      · have HS6 : Hid _ := hs
        clear hs
        go_wp2
        try go_returns
        rw [← HQ.out, HG.out]
        exact ⟨rfl, by simpa [kidsTo] using HS6.out⟩

theorem each_any {S : List Ent → World → Prop} {g : Bs → Bool} {fw ft : Value} (hw : Wan S fw g) (ht : Tak S ft) (t : Tr) (hok : t.Ok) (l : List Ent) (w : World) (hS : S l w) :
    Calls Try.prog 65 #[enc t, fw, ft] w fun e w' => e = .returned (.tuple #[]) ∧ S (l ++ t.walk g) w' := by
  induction t generalizing l w with
  | nil => exact (each_nil fw ft w).mono (by rintro e w' ⟨rfl, rfl⟩; exact ⟨rfl, by simpa [Tr.walk] using hS⟩)
  | leaf k v => exact each_leaf hw ht k v hok l w hS
  | fork k a b c iha ihb ihc =>
    obtain ⟨h0, h1, h2, h3⟩ := hok
    exact each_fork hw ht k (enc a) (enc b) (enc c) (enc_one a) (enc_one b) (enc_one c) h0 _ _ _ (fun l W => iha h1 l W) (fun l W => ihb h2 l W) (fun l W => ihc h3 l W) l w hS
end Go.Proofs.Ytenahbdopgmpfaa

namespace Go.Proofs.Ytenahbdopgmpfaa
open Go Go.RowKit Go.Shelf
set_option linter.unusedVariables false
set_option linter.unusedSimpArgs false

theorem eg_over1 : ∀ args w, (callFunc 74 args).run Try.prog w = .ok (.enter 74 args) w := enters_of Try.func74 (by kernel_rfl) rfl
theorem eg_longest1 : ∀ args w, (callFunc 62 args).run Try.prog w = .ok (.enter 62 args) w := enters_of Try.func62 (by kernel_rfl) rfl

theorem blk_kept {w w' : World} {b : Nat} {o : Obj} (h : w.heap[b]? = some o) (hb : Below w.heap.size w w') : w'.heap[b]? = some o :=
  (hb.block b (Array.getElem?_eq_some_iff.1 h).1).trans h
theorem st_bool {W : World} {b j : Nat} {c : List Value} {t : TypeId} (h : W.heap[b]? = some (.cells c.toArray t)) (hj : j < c.length) (x : Bool) : (Instr.storeAt 4 (.pointer (some ⟨b, j, none⟩)) (.bool x)).run Try.prog W = .ok () (W.setCell ⟨b, j, none⟩ (.bool x)) := by
  have h1 : W.cell? ⟨b, j, none⟩ = some c[j] := blk_cell h (by simp [hj])
  have h2 := blk_open h j
  simp [Instr.storeAt, go_sem, h1, h2]
theorem res_cell22 {P : Program} {fn : Func} {a b : Tmp} {t u : TypeId} (h : fn.results = #[.cell a t, .cell b u]) {tmps : Array Value} {A B : Addr} (ha : tmps.getD a undef = .pointer (some A)) (hb : tmps.getD b undef = .pointer (some B)) {x y : Value} {w : World} (hx : (loadVar t A).run P w = .ok x w) (hy : (loadVar u B).run P w = .ok y w) :
    (results fn tmps).run P w = .ok (.tuple #[x, y]) w := by
  rw [Array.getD_eq_getD_getElem?] at ha hb
  simp [results, h, ha, hb, asAddr, hx, hy]

set_option maxHeartbeats 1000000 in
set_option maxRecDepth 100000 in
theorem over1_calls (k p : Bs) (hk : k.length ≤ 128) (hp : p.length ≤ 128) (b : Nat) (W : World) (hb : W.heap[b]? = some (.cells (kC p).toArray 39)) :
    Calls Try.prog 74 #[KV k, .pointer (some ⟨b, 0, none⟩)] W fun e w' => e = .returned (.bool (pre k p)) ∧ Below W.heap.size W w' := by
  have HC : Hid _ := fun w => covers_any k p hk hp w
  have hB : Below W.heap.size W (W.alloc (.cells (kC k).toArray 39)) := (Below.refl _ W).alloc (Nat.le_refl _) _
  have H0 : Hid _ := kb_key (kb0 (blk_new W (.cells (kC k).toArray 39)))
  have H1 : Hid _ := kb_key (kb0 (blk_alloc hb (.cells (kC k).toArray 39)))
  generalize pre k p = r at HC ⊢
  go_enter Try.func74, Try.ntmps74
  go_wp2_with first
    | ((with_reducible show wpList _ _ _ _ _ _); refine armLv (.tmp 2) 39 rfl rfl rfl H0.out ?_)
    | ((with_reducible show wpList _ _ _ _ _ _); refine armLv (.tmp 1) 39 rfl rfl rfl H1.out ?_)
  refine Calls.mono (HC.out _) ?_
  rintro e w1 ⟨rfl, hb1⟩
  go_wp2
  go_ret
  exact ⟨rfl, hB.trans (hb1.mono hB.size)⟩

set_option maxHeartbeats 1000000 in
set_option maxRecDepth 100000 in
theorem over_any {S : List Ent → World → Prop} {ft : Value} (p : Bs) (hp : p.length ≤ 128) (t : Tr) (hok : t.Ok) (l : List Ent) (w : World) (hS : S l (w.alloc (.cells (kC p).toArray 39)))
    (hT : Tak (fun l W => S l W ∧ W.heap[w.heap.size]? = some (.cells (kC p).toArray 39)) ft) :
    Calls Try.prog 58 #[enc t, KV p, ft] w fun e w' => e = .returned (.tuple #[]) ∧ S (l ++ t.walk (fun k => pre k p)) w' := by
  have hW : Wan (fun l W => S l W ∧ W.heap[w.heap.size]? = some (.cells (kC p).toArray 39)) (.func (.func 74) #[] #[.pointer (some ⟨w.heap.size, 0, none⟩)]) (fun k => pre k p) :=
    ⟨_, _, rfl, eg_over1, fun l k W hk h => over1_calls k p hk hp _ W h.2⟩
  have HE : Hid _ := each_any hW hT t hok l _ ⟨hS, blk_new w _⟩
  obtain ⟨f2, lb2, rfl, -, -⟩ := hT.fn
  clear hW hT hS
  generalize hQ : (fun (e : Ending) (w' : World) => e = .returned (.tuple #[]) ∧ S (l ++ t.walk (fun k => pre k p)) w') = Q
  have HQ : Hid _ := hQ
  clear hQ
  generalize enc t = T at HE ⊢
  go_enter Try.func58, Try.ntmps58
  go_wp2_with fail
  refine Calls.mono HE.out ?_
  rintro e w1 ⟨rfl, h1, -⟩
  have H1 : Hid _ := h1
  clear h1 HE
  go_wp2
  try go_returns
  rw [← HQ.out]
  exact ⟨rfl, H1.out⟩

/-- The last of what was taken. -/
def lastC (l : List Ent) : List Value := match l.getLast? with | none => zL | some e => lfC e.1 e.2
def lastB (l : List Ent) : Bool := !l.isEmpty
theorem lastC_snoc (l : List Ent) (k : Bs) (v : Int) : lastC (l ++ [(k, v)]) = lfC k v := by simp [lastC]
theorem lastB_snoc (l : List Ent) (k : Bs) (v : Int) : lastB (l ++ [(k, v)]) = true := by simp [lastB]
theorem lastC_length (l : List Ent) : (lastC l).length = 18 := by
  unfold lastC
  split
  · rfl
  · exact lfC_length _ _
theorem lastC_one (l : List Ent) : ∀ u ∈ lastC l, u.oneCell' = true := by
  unfold lastC
  split
  · simp [Value.oneCell']
  · exact lfC_one _ _

set_option maxHeartbeats 1000000 in
set_option maxRecDepth 100000 in
theorem longest1_calls (k : Bs) (v : Int) (c : List Value) (hc : c.length = 18) (x : Bool) (b1 b2 B : Nat) (hn : b1 ≠ b2) (h1 : B ≤ b1) (h2 : B ≤ b2) (W : World) (hb1 : W.heap[b1]? = some (.cells c.toArray 85)) (hb2 : W.heap[b2]? = some (.cells [Value.bool x].toArray 4)) :
    Calls Try.prog 62 #[LF k v, .pointer (some ⟨b1, 0, none⟩), .pointer (some ⟨b2, 0, none⟩)] W fun e w' => e = .returned (.tuple #[]) ∧
      w'.heap[b1]? = some (.cells (lfC k v).toArray 85) ∧ w'.heap[b2]? = some (.cells [Value.bool true].toArray 4) ∧ Below B W w' ∧ ∀ j, j < W.heap.size → j ≠ b1 → j ≠ b2 → w'.heap[j]? = W.heap[j]? := by
  generalize hQ : (fun (e : Ending) (w' : World) => e = .returned (.tuple #[]) ∧
      w'.heap[b1]? = some (.cells (lfC k v).toArray 85) ∧ w'.heap[b2]? = some (.cells [Value.bool true].toArray 4) ∧ Below B W w' ∧ ∀ j, j < W.heap.size → j ≠ b1 → j ≠ b2 → w'.heap[j]? = W.heap[j]?) = Q
  have HQ : Hid _ := hQ
  clear hQ
  have l1 := (Array.getElem?_eq_some_iff.1 hb1).1
  have hB0 : Below W.heap.size W (W.alloc (.cells (lfC k v).toArray 85)) := (Below.refl _ W).alloc (Nat.le_refl _) _
  have H0 : Hid _ := lf_load (blk_new W (.cells (lfC k v).toArray 85))
  obtain ⟨w5, hst, q1, on5⟩ := box_store (ty := 85) (n := 18) (fun w => by kernel_rfl) (blk_alloc hb1 (.cells (lfC k v).toArray 85)) hc (lfC k v) (lfC_length k v) (lfC_one k v)
  have q2 := (on5.other b2 hn.symm).trans (blk_alloc hb2 (.cells (lfC k v).toArray 85))
  have HS1 : Hid _ := hst
  have HS2 : Hid _ := st_bool q2 (by simp : 0 < _) true
  have r1 := blk_set_other q1 hn 0 (.bool true)
  have r2 := blk_set q2 0 (.bool true)
  have on6 : Only b2 w5 (w5.setCell ⟨b2, 0, none⟩ (.bool true)) := (Only.refl b2 w5).set 0 _
  have hB6 : Below B W (w5.setCell ⟨b2, 0, none⟩ (.bool true)) := ((hB0.mono (by omega)).trans (on5.below h1)).trans (on6.below h2)
  have HE : Hid (_ ∧ _ ∧ _ ∧ ∀ j, j < W.heap.size → j ≠ b1 → j ≠ b2 → (w5.setCell ⟨b2, 0, none⟩ (.bool true)).heap[j]? = W.heap[j]?) := ⟨r1, r2, hB6, fun j hj n1 n2 => ((on6.other j n2).trans (on5.other j n1)).trans (hB0.block j hj)⟩
  clear hb1 hb2 hB0 hst q1 on5 q2 r1 r2 on6 hB6
  go_enter Try.func62, Try.ntmps62
  go_wp2_with first
    | ((with_reducible show wpList _ _ _ _ _ _); refine armLv (.tmp 3) 85 rfl rfl rfl H0.out ?_)
    | ((with_reducible show wpList _ _ _ _ _ _); refine armS (.tmp 1) (.tmp 4) 85 rfl rfl rfl rfl HS1.out ?_)
    | ((with_reducible show wpList _ _ _ _ _ _); refine armS (.tmp 2) (.const (.bool true)) 4 rfl rfl rfl rfl HS2.out ?_)
  try go_returns
  rw [← HQ.out]
  exact ⟨rfl, HE.out⟩
end Go.Proofs.Ytenahbdopgmpfaa
