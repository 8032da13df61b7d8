/-
  under of any tree.
  each, over, under over a taker that takes at most N entries.
-/
import Derived.Test.YtenahbdopgmpfaaFold20
namespace Go.Proofs.Ytenahbdopgmpfaa
open Go Go.RowKit Go.Shelf
set_option linter.unusedVariables false
set_option linter.unusedSimpArgs false

theorem armLgT {P : Program} {w : World} {ops : Array Oper} {rest : List Oper} {o : Oper} {a : Act} {Q : Exit → Act → World → Prop} (p : Operand) (t : TypeId) (hop : o.op = Op.load t p) (hw : Region.wanted o (yielded ops a.tmps) = true) {vp v : Value} (hp : a.eval p = vp) (hrun : (Instr.loadAt t vp).run P w = .ok v w) (hK : wpList P ops Q rest (a.put o.dst v) w) : wpList P ops Q (o :: rest) a w :=
  arm_load hw p t hop hp hrun hK
theorem eg_under1 : ∀ args w, (callFunc 63 args).run Try.prog w = .ok (.enter 63 args) w := enters_of Try.func63 (by kernel_rfl) rfl
theorem eg_under2 : ∀ args w, (callFunc 66 args).run Try.prog w = .ok (.enter 66 args) w := enters_of Try.func66 (by kernel_rfl) rfl
set_option maxHeartbeats 1000000 in
set_option maxRecDepth 100000 in
theorem under1_calls (k p : Bs) (hk : k.length ≤ 128) (hp : p.length ≤ 128) (b : Nat) (W : World) (hb : W.heap[b]? = some (.cells (kC p).toArray 39)) :
    Calls Try.prog 63 #[KV k, .pointer (some ⟨b, 0, none⟩)] W fun e w' => e = .returned (.bool (pre p k || pre k p)) ∧ Below W.heap.size W w' := by
  have HC : Hid _ := fun w => covers_any p k hp hk w
  have HD : Hid _ := fun w => covers_any k p hk hp w
  have hB : Below W.heap.size W (W.alloc (.cells (kC k).toArray 39)) := (Below.refl _ W).alloc (Nat.le_refl _) _
  have hb0 := blk_new W (.cells (kC k).toArray 39)
  have hb1 := blk_alloc hb (.cells (kC k).toArray 39)
  have H0 : Hid _ := kb_key (kb0 hb0)
  have H1 : Hid _ := kb_key (kb0 hb1)
  have HB0 : Hid _ := hb0
  have HB1 : Hid _ := hb1
  have HB : Hid _ := hB
  clear hb hB hb0 hb1
  generalize pre k p = r at HD ⊢
  generalize hq : pre p k = q at HC ⊢
  go_enter Try.func63, Try.ntmps63
  go_wp2_with first
    | ((with_reducible show wpList _ _ _ _ _ _); refine armLv (.tmp 1) 39 rfl rfl rfl H1.out ?_)
    | ((with_reducible show wpList _ _ _ _ _ _); refine armLv (.tmp 2) 39 rfl rfl rfl H0.out ?_)
  refine Calls.mono (HC.out _) ?_
  rintro e w1 ⟨rfl, hb1⟩
  have HK : Hid _ := HB.out.trans (hb1.mono HB.out.size)
  have HL0 : Hid _ := kb_key (kb0 (blk_kept HB0.out hb1))
  have HL1 : Hid _ := kb_key (kb0 (blk_kept HB1.out hb1))
  clear hb1 HC HB0 HB1 H0 H1 HB
  cases q with
  | true =>
    go_wp2
    go_ret
    exact ⟨rfl, HK.out⟩
  | false =>
    go_wp2_with first
      | ((with_reducible show wpList _ _ _ _ _ _); refine armLgT (.tmp 2) 39 rfl rfl rfl HL0.out ?_)
      | ((with_reducible show wpList _ _ _ _ _ _); refine armLgT (.tmp 1) 39 rfl rfl rfl HL1.out ?_)
    refine Calls.mono (HD.out _) ?_
    rintro e w2 ⟨rfl, hb2⟩
    have HK2 : Hid _ := HK.out.trans (hb2.mono HK.out.size)
    clear hb2
    go_wp2
    go_ret
    exact ⟨by simp, HK2.out⟩
def BxU (p : Bs) (ft : Value) (B : Nat) (W : World) : Prop := W.heap[B]? = some (.cells (kC p).toArray 39) ∧ W.heap[B + 1]? = some (.cells [ft].toArray 92)
theorem BxU.keep {p : Bs} {ft : Value} {B : Nat} {W W' : World} (h : BxU p ft B W) (hb : Below W.heap.size W W') : BxU p ft B W' := ⟨blk_kept h.1 hb, blk_kept h.2 hb⟩
set_option maxHeartbeats 1000000 in
set_option maxRecDepth 100000 in
theorem under2_calls {S : List Ent → World → Prop} {ft : Value} (p : Bs) (hp : p.length ≤ 128) (B : Nat) (hT : Tak (fun l W => S l W ∧ BxU p ft B W) ft) (l : List Ent) (k : Bs) (v : Int) (W : World) (hk : k.length ≤ 128) (hS : S l W ∧ BxU p ft B W) :
    Calls Try.prog 66 #[LF k v, .pointer (some ⟨B, 0, none⟩), .pointer (some ⟨B + 1, 0, none⟩)] W fun e w' => e = .returned (.tuple #[]) ∧ S (l ++ if pre p k then [(k, v)] else []) w' ∧ BxU p ft B w' := by
  generalize hQ : (fun (e : Ending) (w' : World) => e = .returned (.tuple #[]) ∧ S (l ++ if pre p k then [(k, v)] else []) w' ∧ BxU p ft B w') = Q
  have HQ : Hid _ := hQ
  clear hQ
  obtain ⟨keep, f2, lb2, rfl, eg2, h2⟩ := hT
  have HC : Hid _ := fun w => covers_any p k hp hk w
  have H2 : Hid _ := h2
  have HKP : Hid _ := keep
  have hB : Below W.heap.size W (W.alloc (.cells (lfC k v).toArray 85)) := (Below.refl _ W).alloc (Nat.le_refl _) _
  have hb0 := blk_new W (.cells (lfC k v).toArray 85)
  have hS1 := keep _ _ _ hS hB
  have H0 : Hid _ := kb_key (r := [.int .i64 v]) hb0
  have H1 : Hid _ := kb_key (kb0 hS1.2.1)
  have HB0 : Hid _ := hb0
  have HS1 : Hid _ := hS1
  have HK : Hid (k.length ≤ 128) := hk
  clear hB hb0 hS1 hS keep h2 hp hk
  generalize hq : pre p k = q at HC
  have HPQ : Hid (pre p k = q) := hq
  clear hq
  go_enter Try.func66, Try.ntmps66
  go_wp2_with first
    | ((with_reducible show wpList _ _ _ _ _ _); refine armLv (.tmp 1) 39 rfl rfl rfl H1.out ?_)
    | ((with_reducible show wpList _ _ _ _ _ _); refine armLv (.tmp 5) 39 rfl rfl rfl H0.out ?_)
  refine Calls.mono (HC.out _) ?_
  rintro e w1 ⟨rfl, hb1⟩
  have HS2 : Hid _ := HKP.out _ _ _ HS1.out hb1
  have HLF : Hid _ := lf_load (blk_kept HB0.out hb1)
  clear hb1 HC H0 H1 HS1 HB0
  cases q with
  | false =>
    go_wp2
    try go_returns
    rw [← HQ.out, HPQ.out]
    exact ⟨rfl, by simpa using HS2.out⟩
  | true =>
    have cf : w1.cell? ⟨B + 1, 0, none⟩ = some (.func (.func f2) #[] lb2) := blk_cell HS2.out.2.2 rfl
    go_wp2_with first
      | ((with_reducible show wpList _ _ _ _ _ _); refine armLv (.tmp 3) 85 rfl rfl rfl HLF.out ?_)
    refine Calls.mono (H2.out _ _ _ _ HK.out HS2.out) ?_
    rintro e w6 ⟨rfl, s6⟩
    have HS6 : Hid _ := s6
    clear s6 cf
    go_wp2
    try go_returns
    rw [← HQ.out, HPQ.out]
    exact ⟨rfl, by simpa using HS6.out⟩
set_option maxHeartbeats 1000000 in
set_option maxRecDepth 100000 in
theorem under_any {S : List Ent → World → Prop} {ft : Value} (p : Bs) (hp : p.length ≤ 128) (t : Tr) (hok : t.Ok) (l : List Ent) (w : World) (hS : S l ((w.alloc (.cells (kC p).toArray 39)).alloc (.cells [ft].toArray 92)))
    (hT : Tak (fun l W => S l W ∧ BxU p ft w.heap.size W) ft) :
    Calls Try.prog 46 #[enc t, KV p, ft] w fun e w' => e = .returned (.tuple #[]) ∧ S (l ++ (t.walk (fun k => pre p k || pre k p)).filter (fun e => pre p e.1)) w' := by
  have hW : Wan (fun m W => S (l ++ m.filter (fun e => pre p e.1)) W ∧ BxU p ft w.heap.size W) (.func (.func 63) #[] #[.pointer (some ⟨w.heap.size, 0, none⟩)]) (fun k => pre p k || pre k p) :=
    ⟨_, _, rfl, eg_under1, fun m k W hk h => under1_calls k p hk hp _ W h.2.1⟩
  have hT2 : Tak (fun m W => S (l ++ m.filter (fun e => pre p e.1)) W ∧ BxU p ft w.heap.size W) (.func (.func 66) #[] #[.pointer (some ⟨w.heap.size, 0, none⟩), .pointer (some ⟨w.heap.size + 1, 0, none⟩)]) :=
    ⟨fun m W W' h hb => hT.keep _ _ _ h hb, _, _, rfl, eg_under2, fun m k v W hk h => by
      refine (under2_calls p hp _ hT _ k v W hk h).mono ?_
      rintro e w' ⟨rfl, h1, h2⟩
      refine ⟨rfl, ?_, h2⟩
      rw [List.filter_append, ← List.append_assoc]
      rw [show List.filter (fun e : Ent => pre p e.1) [(k, v)] = if pre p k then [(k, v)] else [] by simp only [List.filter_cons, List.filter_nil]]
      exact h1⟩
  have hs1 : ((w.alloc (.cells (kC p).toArray 39)).alloc (.cells [ft].toArray 92)).heap[w.heap.size + 1]? = some (.cells [ft].toArray 92) := by
    have := blk_new (w.alloc (.cells (kC p).toArray 39)) (.cells [ft].toArray 92)
    rwa [show (w.alloc (.cells (kC p).toArray 39)).heap.size = w.heap.size + 1 by simp] at this
  have HE : Hid _ := each_any hW hT2 t hok [] _ ⟨by simpa using hS, blk_alloc (blk_new w _) _, hs1⟩
  obtain ⟨f2, lb2, rfl, -, -⟩ := hT.fn
  clear hW hT2 hT hS hs1
  generalize hQ : (fun (e : Ending) (w' : World) => e = .returned (.tuple #[]) ∧ S (l ++ (t.walk (fun k => pre p k || pre k p)).filter (fun e => pre p e.1)) w') = Q
  have HQ : Hid _ := hQ
  clear hQ
  generalize enc t = T at HE ⊢
  go_enter Try.func46, Try.ntmps46
  go_wp2_with fail
  refine Calls.mono HE.out ?_
  rintro e w1 ⟨rfl, h1, -⟩
  have H1 : Hid _ := h1
  clear h1 HE
  go_wp2
  try go_returns
  rw [← HQ.out]
  exact ⟨rfl, by simpa using H1.out⟩
end Go.Proofs.Ytenahbdopgmpfaa

namespace Go.Proofs.Ytenahbdopgmpfaa
open Go Go.RowKit Go.Shelf
set_option linter.unusedVariables false
set_option linter.unusedSimpArgs false

structure TakN (N : Nat) (S : List Ent → World → Prop) (ft : Value) : Prop where
  keep : ∀ l W W', S l W → Below W.heap.size W W' → S l W'
  fn : ∃ f lb, ft = .func (.func f) #[] lb ∧ (∀ args w, (callFunc f args).run Try.prog w = .ok (.enter f args) w) ∧
    ∀ l k v W, k.length ≤ 128 → l.length < N → S l W → Calls Try.prog f (#[LF k v] ++ lb) W fun e w' => e = .returned (.tuple #[]) ∧ S (l ++ [(k, v)]) w'
set_option maxHeartbeats 2000000 in
set_option maxRecDepth 100000 in
theorem each_leafN {N : Nat} {S : List Ent → World → Prop} {g : Bs → Bool} {fw ft : Value} (hw : Wan S fw g) (ht : TakN N S ft) (k : Bs) (v : Int) (hk : k.length ≤ 128) (l : List Ent) (w : World) (hN : g k = true → l.length < N) (hS : S l w) :
    Calls Try.prog 65 #[.iface 85 (LF k v), fw, ft] w fun e w' => e = .returned (.tuple #[]) ∧ S (l ++ if g k then [(k, v)] else []) w' := by
  generalize hQ : (fun (e : Ending) (w' : World) => e = .returned (.tuple #[]) ∧ S (l ++ if g k then [(k, v)] else []) w') = Q
  have HQ : Hid _ := hQ
  clear hQ
  obtain ⟨f1, lb1, rfl, eg1, h1⟩ := hw.fn
  obtain ⟨keep, f2, lb2, rfl, eg2, h2⟩ := ht
  have HT : Hid _ := fun W => leaf_top k v W
  have H1 : Hid _ := h1
  have H2 : Hid _ := h2
  have HK : Hid _ := keep
  have HS : Hid _ := hS
  clear h1 h2 keep hw hS
  go_enter Try.func65, Try.ntmps65
  go_wp2_with fail
  refine Calls.mono (HT.out _) ?_
  rintro e w1 ⟨rfl, hb1⟩
  have HS1 : Hid _ := HK.out _ _ _ HS.out hb1
  clear hb1
  go_wp2_with fail
  refine Calls.mono (H1.out _ _ _ hk HS1.out) ?_
  rintro e w2 ⟨rfl, hb2⟩
  have HS2 : Hid _ := HK.out _ _ _ HS1.out hb2
  clear hb2
  cases hg : g k with
  | false =>
    have HG : Hid _ := hg
    clear hg
    go_wp2
    try go_returns
    rw [← HQ.out, HG.out]
    exact ⟨rfl, by simpa using HS2.out⟩
  | true =>
    have HG : Hid _ := hg
    obtain ⟨w5, hst, hb5, hB5⟩ := box_new (ty := 85) (n := 18) (fun w => by kernel_rfl) w2 zL rfl (lfC k v) (lfC_length k v) (lfC_one k v)
    have HST : Hid _ := hst
    have HLD : Hid _ := lf_load hb5
    have HS5 : Hid _ := HK.out _ _ _ HS2.out hB5
    clear hg hst hb5 hB5
    have t1 := fun w => ta_leaf (LF k v) w
    go_wp2_with first
      | ((with_reducible show wpList _ _ _ _ _ _); refine armS (.tmp 6) (.tmp 22) 85 rfl rfl rfl rfl HST.out ?_)
      | ((with_reducible show wpList _ _ _ _ _ _); refine armL (.tmp 6) 85 rfl rfl rfl HLD.out ?_)
    refine Calls.mono (H2.out _ _ _ _ hk (hN HG.out) HS5.out) ?_
    rintro e w6 ⟨rfl, s6⟩
    have HS6 : Hid _ := s6
    clear s6
    go_wp2
    try go_returns
    rw [← HQ.out, HG.out]
    exact ⟨rfl, by simpa using HS6.out⟩

set_option maxHeartbeats 2000000 in
set_option maxRecDepth 100000 in
theorem each_forkN {N : Nat} {S : List Ent → World → Prop} {g : Bs → Bool} {fw ft : Value} (hw : Wan S fw g) (ht : TakN N S ft) (k : Bs) (x y z : Value) (hx : x.oneCell' = true) (hy : y.oneCell' = true) (hz : z.oneCell' = true) (hk : k.length ≤ 128) (la lb lc : List Ent)
    (ha : ∀ l W, l.length + la.length ≤ N → S l W → Calls Try.prog 65 #[x, fw, ft] W fun e w' => e = .returned (.tuple #[]) ∧ S (l ++ la) w')
    (hb : ∀ l W, l.length + lb.length ≤ N → S l W → Calls Try.prog 65 #[y, fw, ft] W fun e w' => e = .returned (.tuple #[]) ∧ S (l ++ lb) w')
    (hc : ∀ l W, l.length + lc.length ≤ N → S l W → Calls Try.prog 65 #[z, fw, ft] W fun e w' => e = .returned (.tuple #[]) ∧ S (l ++ lc) w')
    (l : List Ent) (w : World) (hN : g k = true → l.length + (la.length + (lb.length + lc.length)) ≤ N) (hS : S l w) :
    Calls Try.prog 65 #[.iface 117 (FK k x y z), fw, ft] w fun e w' => e = .returned (.tuple #[]) ∧ S (l ++ if g k then la ++ (lb ++ lc) else []) w' := by
  generalize hQ : (fun (e : Ending) (w' : World) => e = .returned (.tuple #[]) ∧ S (l ++ if g k then la ++ (lb ++ lc) else []) w') = Q
  have HQ : Hid _ := hQ
  clear hQ
  obtain ⟨f1, lb1, rfl, eg1, h1⟩ := hw.fn
  have keep := ht.keep
  obtain ⟨f2, lb2, rfl, eg2, h2⟩ := ht.fn
  have HT : Hid _ := fun W => fork_top k x y z W
  have H1 : Hid _ := h1
  have HK : Hid _ := keep
  have HS : Hid _ := hS
  have HA : Hid _ := ha
  have HB : Hid _ := hb
  have HC : Hid _ := hc
  clear h1 h2 keep hw hS ha hb hc ht
  go_enter Try.func65, Try.ntmps65
  go_wp2_with fail
  refine Calls.mono (HT.out _) ?_
  rintro e w1 ⟨rfl, hb1⟩
  have HS1 : Hid _ := HK.out _ _ _ HS.out hb1
  clear hb1
  go_wp2_with fail
  refine Calls.mono (H1.out _ _ _ hk HS1.out) ?_
  rintro e w2 ⟨rfl, hb2⟩
  have HS2 : Hid _ := HK.out _ _ _ HS1.out hb2
  clear hb2
  cases hg : g k with
  | false =>
    have HG : Hid _ := hg
    clear hg
    go_wp2
    try go_returns
    rw [← HQ.out, HG.out]
    exact ⟨rfl, by simpa using HS2.out⟩
  | true =>
    have HG : Hid _ := hg
    obtain ⟨w5, hst, hb5, hB5⟩ := box_new (ty := 117) (n := 20) (fun w => by kernel_rfl) w2 zF rfl (fkC k x y z) (fkC_length k x y z) (fkC_one k hx hy hz)
    have HST : Hid _ := hst
    have HLD : Hid _ := fk_kids hb5
    have HS5 : Hid _ := HK.out _ _ _ HS2.out hB5
    clear hg hst hb5 hB5
    have t1 := fun w => ta_fork (FK k x y z) w
    have t2 := fun w => ta_fork_leaf (FK k x y z) w
    go_wp2_with first
      | ((with_reducible show wpList _ _ _ _ _ _); refine armS (.tmp 7) (.tmp 28) 117 rfl rfl rfl rfl HST.out ?_)
      | ((with_reducible show wpList _ _ _ _ _ _); refine armL (.tmp 29) 115 rfl rfl rfl HLD.out ?_)
    go_loopw [31] (fun i wr => ∃ n : Nat, n ≤ 3 ∧ i = .int .i64 n ∧ S (l ++ kidsTo la lb lc n) wr) (fun i _ => 3 - (intOf i).toNat)
    case atStart => exact ⟨0, Nat.zero_le _, rfl, by simpa [kidsTo] using HS5.out⟩
    case round =>
      obtain ⟨n, hn, rfl, hs⟩ := hrel
      rcases (by omega : n = 0 ∨ n = 1 ∨ n = 2 ∨ n = 3) with rfl | rfl | rfl | rfl
      · have HS6 : Hid _ := HA.out _ _ (by have := hN HG.out; simp [kidsTo]; omega) hs
        clear hs
        have t3 := fun w => (ix_kids x y z w).1
        go_wp2_with fail
        refine Calls.mono HS6.out ?_
        rintro e w7 ⟨rfl, s7⟩
        have HS7 : Hid _ := s7
        clear s7
        go_wp2
        try go_roundw
        case rel => exact ⟨1, by omega, rfl, by simpa [kidsTo] using HS7.out⟩
        case measure => decide
      · have HS6 : Hid _ := HB.out _ _ (by have := hN HG.out; simp [kidsTo]; omega) hs
        clear hs
        have t3 := fun w => (ix_kids x y z w).2.1
        go_wp2_with fail
        refine Calls.mono HS6.out ?_
        rintro e w7 ⟨rfl, s7⟩
        have HS7 : Hid _ := s7
        clear s7
        go_wp2
        try go_roundw
        case rel => exact ⟨2, by omega, rfl, by simpa [kidsTo] using HS7.out⟩
        case measure => decide
      · have HS6 : Hid _ := HC.out _ _ (by have := hN HG.out; simp [kidsTo]; omega) hs
        clear hs
        have t3 := fun w => (ix_kids x y z w).2.2
        go_wp2_with fail
        refine Calls.mono HS6.out ?_
        rintro e w7 ⟨rfl, s7⟩
        have HS7 : Hid _ := s7
        clear s7
        go_wp2
        try go_roundw
        case rel => exact ⟨3, by omega, rfl, by simpa [kidsTo] using HS7.out⟩
        case measure => decide
      · have HS6 : Hid _ := hs
        clear hs
        go_wp2
        try go_returns
        rw [← HQ.out, HG.out]
        exact ⟨rfl, by simpa [kidsTo] using HS6.out⟩

theorem each_anyN {N : Nat} {S : List Ent → World → Prop} {g : Bs → Bool} {fw ft : Value} (hw : Wan S fw g) (ht : TakN N S ft) (t : Tr) (hok : t.Ok) (l : List Ent) (w : World) (hN : l.length + (t.walk g).length ≤ N) (hS : S l w) :
    Calls Try.prog 65 #[enc t, fw, ft] w fun e w' => e = .returned (.tuple #[]) ∧ S (l ++ t.walk g) w' := by
  induction t generalizing l w with
  | nil => exact (each_nil fw ft w).mono (by rintro e w' ⟨rfl, rfl⟩; exact ⟨rfl, by simpa [Tr.walk] using hS⟩)
  | leaf k v => exact each_leafN hw ht k v hok l w (fun hg => by simp [Tr.walk, hg] at hN; omega) hS
  | fork k a b c iha ihb ihc =>
    obtain ⟨h0, h1, h2, h3⟩ := hok
    exact each_forkN hw ht k (enc a) (enc b) (enc c) (enc_one a) (enc_one b) (enc_one c) h0 _ _ _ (fun l W hn => iha h1 l W hn) (fun l W hn => ihb h2 l W hn) (fun l W hn => ihc h3 l W hn) l w (fun hg => by simpa [Tr.walk, hg] using hN) hS
theorem walk_le {g : Bs → Bool} : ∀ (t : Tr), (t.walk g).length ≤ t.ents.length
  | .nil => Nat.le_refl _
  | .leaf k v => by simp only [Tr.walk, Tr.ents]; split <;> simp
  | .fork k a b c => by
    have h1 := walk_le (g := g) a
    have h2 := walk_le (g := g) b
    have h3 := walk_le (g := g) c
    simp only [Tr.walk, Tr.ents]
    split <;> simp <;> omega
set_option maxHeartbeats 2000000 in
set_option maxRecDepth 100000 in
theorem over_anyN {N : Nat} {S : List Ent → World → Prop} {ft : Value} (p : Bs) (hp : p.length ≤ 128) (t : Tr) (hok : t.Ok) (l : List Ent) (w : World) (hS : S l (w.alloc (.cells (kC p).toArray 39)))
    (hN : l.length + (t.walk (fun k => pre k p)).length ≤ N) (hT : TakN N (fun l W => S l W ∧ W.heap[w.heap.size]? = some (.cells (kC p).toArray 39)) ft) :
    Calls Try.prog 58 #[enc t, KV p, ft] w fun e w' => e = .returned (.tuple #[]) ∧ S (l ++ t.walk (fun k => pre k p)) w' := by
  have hW : Wan (fun l W => S l W ∧ W.heap[w.heap.size]? = some (.cells (kC p).toArray 39)) (.func (.func 74) #[] #[.pointer (some ⟨w.heap.size, 0, none⟩)]) (fun k => pre k p) :=
    ⟨_, _, rfl, eg_over1, fun l k W hk h => over1_calls k p hk hp _ W h.2⟩
  have HE : Hid _ := each_anyN hW hT t hok l _ hN ⟨hS, blk_new w _⟩
  obtain ⟨f2, lb2, rfl, -, -⟩ := hT.fn
  clear hW hT hS hN
  generalize hQ : (fun (e : Ending) (w' : World) => e = .returned (.tuple #[]) ∧ S (l ++ t.walk (fun k => pre k p)) w') = Q
  have HQ : Hid _ := hQ
  clear hQ
  generalize enc t = T at HE ⊢
  go_enter Try.func58, Try.ntmps58
  go_wp2_with fail
  refine Calls.mono HE.out ?_
  rintro e w1 ⟨rfl, h1, -⟩
  have H1 : Hid _ := h1
  clear h1 HE
  go_wp2
  try go_returns
  rw [← HQ.out]
  exact ⟨rfl, H1.out⟩

set_option maxHeartbeats 2000000 in
set_option maxRecDepth 100000 in
theorem under2_callsN {N : Nat} {S : List Ent → World → Prop} {ft : Value} (p : Bs) (hp : p.length ≤ 128) (B : Nat) (hT : TakN N (fun l W => S l W ∧ BxU p ft B W) ft) (l : List Ent) (k : Bs) (v : Int) (W : World) (hk : k.length ≤ 128) (hN : l.length < N) (hS : S l W ∧ BxU p ft B W) :
    Calls Try.prog 66 #[LF k v, .pointer (some ⟨B, 0, none⟩), .pointer (some ⟨B + 1, 0, none⟩)] W fun e w' => e = .returned (.tuple #[]) ∧ S (l ++ if pre p k then [(k, v)] else []) w' ∧ BxU p ft B w' := by
  generalize hQ : (fun (e : Ending) (w' : World) => e = .returned (.tuple #[]) ∧ S (l ++ if pre p k then [(k, v)] else []) w' ∧ BxU p ft B w') = Q
  have HQ : Hid _ := hQ
  clear hQ
  obtain ⟨keep, f2, lb2, rfl, eg2, h2⟩ := hT
  have HC : Hid _ := fun w => covers_any p k hp hk w
  have H2 : Hid _ := h2
  have HKP : Hid _ := keep
  have hB : Below W.heap.size W (W.alloc (.cells (lfC k v).toArray 85)) := (Below.refl _ W).alloc (Nat.le_refl _) _
  have hb0 := blk_new W (.cells (lfC k v).toArray 85)
  have hS1 := keep _ _ _ hS hB
  have H0 : Hid _ := kb_key (r := [.int .i64 v]) hb0
  have H1 : Hid _ := kb_key (kb0 hS1.2.1)
  have HB0 : Hid _ := hb0
  have HS1 : Hid _ := hS1
  have HK : Hid (k.length ≤ 128) := hk
  clear hB hb0 hS1 hS keep h2 hp hk
  generalize hq : pre p k = q at HC
  have HPQ : Hid (pre p k = q) := hq
  clear hq
  go_enter Try.func66, Try.ntmps66
  go_wp2_with first
    | ((with_reducible show wpList _ _ _ _ _ _); refine armLv (.tmp 1) 39 rfl rfl rfl H1.out ?_)
    | ((with_reducible show wpList _ _ _ _ _ _); refine armLv (.tmp 5) 39 rfl rfl rfl H0.out ?_)
  refine Calls.mono (HC.out _) ?_
  rintro e w1 ⟨rfl, hb1⟩
  have HS2 : Hid _ := HKP.out _ _ _ HS1.out hb1
  have HLF : Hid _ := lf_load (blk_kept HB0.out hb1)
  clear hb1 HC H0 H1 HS1 HB0
  cases q with
  | false =>
    go_wp2
    try go_returns
    rw [← HQ.out, HPQ.out]
    exact ⟨rfl, by simpa using HS2.out⟩
  | true =>
    have cf : w1.cell? ⟨B + 1, 0, none⟩ = some (.func (.func f2) #[] lb2) := blk_cell HS2.out.2.2 rfl
    go_wp2_with first
      | ((with_reducible show wpList _ _ _ _ _ _); refine armLv (.tmp 3) 85 rfl rfl rfl HLF.out ?_)
    refine Calls.mono (H2.out _ _ _ _ HK.out hN HS2.out) ?_
    rintro e w6 ⟨rfl, s6⟩
    have HS6 : Hid _ := s6
    clear s6 cf
    go_wp2
    try go_returns
    rw [← HQ.out, HPQ.out]
    exact ⟨rfl, by simpa using HS6.out⟩
set_option maxHeartbeats 2000000 in
set_option maxRecDepth 100000 in
theorem under_anyN {N : Nat} {S : List Ent → World → Prop} {ft : Value} (p : Bs) (hp : p.length ≤ 128) (t : Tr) (hok : t.Ok) (l : List Ent) (w : World) (hS : S l ((w.alloc (.cells (kC p).toArray 39)).alloc (.cells [ft].toArray 92)))
    (hN : l.length + (t.walk (fun k => pre p k || pre k p)).length ≤ N) (hT : TakN N (fun l W => S l W ∧ BxU p ft w.heap.size W) ft) :
    Calls Try.prog 46 #[enc t, KV p, ft] w fun e w' => e = .returned (.tuple #[]) ∧ S (l ++ (t.walk (fun k => pre p k || pre k p)).filter (fun e => pre p e.1)) w' := by
  have hW : Wan (fun m W => S (l ++ m.filter (fun e => pre p e.1)) W ∧ BxU p ft w.heap.size W) (.func (.func 63) #[] #[.pointer (some ⟨w.heap.size, 0, none⟩)]) (fun k => pre p k || pre k p) :=
    ⟨_, _, rfl, eg_under1, fun m k W hk h => under1_calls k p hk hp _ W h.2.1⟩
  have hT2 : TakN (N - l.length) (fun m W => S (l ++ m.filter (fun e => pre p e.1)) W ∧ BxU p ft w.heap.size W) (.func (.func 66) #[] #[.pointer (some ⟨w.heap.size, 0, none⟩), .pointer (some ⟨w.heap.size + 1, 0, none⟩)]) :=
    ⟨fun m W W' h hb => hT.keep _ _ _ h hb, _, _, rfl, eg_under2, fun m k v W hk hm h => by
      refine (under2_callsN p hp _ hT _ k v W hk (by have := List.length_filter_le (fun e : Ent => pre p e.1) m; rw [List.length_append]; omega) h).mono ?_
      rintro e w' ⟨rfl, h1, h2⟩
      refine ⟨rfl, ?_, h2⟩
      rw [List.filter_append, ← List.append_assoc]
      rw [show List.filter (fun e : Ent => pre p e.1) [(k, v)] = if pre p k then [(k, v)] else [] by simp only [List.filter_cons, List.filter_nil]]
      exact h1⟩
  have hs1 : ((w.alloc (.cells (kC p).toArray 39)).alloc (.cells [ft].toArray 92)).heap[w.heap.size + 1]? = some (.cells [ft].toArray 92) := by
    have := blk_new (w.alloc (.cells (kC p).toArray 39)) (.cells [ft].toArray 92)
    rwa [show (w.alloc (.cells (kC p).toArray 39)).heap.size = w.heap.size + 1 by simp] at this
  have HE : Hid _ := each_anyN hW hT2 t hok [] _ (by simp only [List.length_nil]; omega) ⟨by simpa using hS, blk_alloc (blk_new w _) _, hs1⟩
  obtain ⟨f2, lb2, rfl, -, -⟩ := hT.fn
  clear hW hT2 hT hS hs1 hN
  generalize hQ : (fun (e : Ending) (w' : World) => e = .returned (.tuple #[]) ∧ S (l ++ (t.walk (fun k => pre p k || pre k p)).filter (fun e => pre p e.1)) w') = Q
  have HQ : Hid _ := hQ
  clear hQ
  generalize enc t = T at HE ⊢
  go_enter Try.func46, Try.ntmps46
  go_wp2_with fail
  refine Calls.mono HE.out ?_
  rintro e w1 ⟨rfl, h1, -⟩
  have H1 : Hid _ := h1
  clear h1 HE
  go_wp2
  try go_returns
  rw [← HQ.out]
  exact ⟨rfl, by simpa using H1.out⟩
end Go.Proofs.Ytenahbdopgmpfaa
