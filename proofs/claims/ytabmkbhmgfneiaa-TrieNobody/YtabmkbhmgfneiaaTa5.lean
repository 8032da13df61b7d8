/-
  each of a leaf and of a fork, and of any tree.
-/
import Derived.Test.YtabmkbhmgfneiaaTa4
namespace Go.Proofs.Ytabmkbhmgfneiaa
open Go Go.RowKit
set_option linter.unusedVariables false
set_option linter.unusedSimpArgs false

set_option maxHeartbeats 1000000 in
set_option maxRecDepth 100000 in
theorem each_leaf {S : List Ent → World → Prop} {g : Bs → Bool} {fw ft : Value} (hw : Wan S fw g) (ht : Tak S ft) (k : Bs) (v : Int) (hk : k.length ≤ 128) (l : List Ent) (w : World) (hS : S l w) :
    Calls Try.prog 65 #[.iface 85 (LF k v), fw, ft] w fun e w' => e = .returned (.tuple #[]) ∧ S (l ++ if g k then [(k, v)] else []) w' := by
  generalize hQ : (fun (e : Ending) (w' : World) => e = .returned (.tuple #[]) ∧ S (l ++ if g k then [(k, v)] else []) w') = Q
  have HQ : Hid _ := hQ
  clear hQ
  obtain ⟨f1, lb1, rfl, eg1, h1⟩ := hw.fn
  obtain ⟨keep, f2, lb2, rfl, eg2, h2⟩ := ht
  have HT : Hid _ := fun W => leaf_top k v W
  have H1 : Hid _ := h1
  have H2 : Hid _ := h2
  have HK : Hid _ := keep
  have HS : Hid _ := hS
  clear h1 h2 keep hw hS
  go_enter Try.func65, Try.ntmps65
  go_wp2_with fail
  refine Calls.mono (HT.out _) ?_
  rintro e w1 ⟨rfl, hb1⟩
  have HS1 : Hid _ := HK.out _ _ _ HS.out hb1
  clear hb1
  go_wp2_with fail
  refine Calls.mono (H1.out _ _ _ hk HS1.out) ?_
  rintro e w2 ⟨rfl, hb2⟩
  have HS2 : Hid _ := HK.out _ _ _ HS1.out hb2
  clear hb2
  cases hg : g k with
  | false =>
    have HG : Hid _ := hg
    clear hg
    go_wp2
    try go_returns
    rw [← HQ.out, HG.out]
    exact ⟨rfl, by simpa using HS2.out⟩
  | true =>
    have HG : Hid _ := hg
    obtain ⟨w5, hst, hb5, hB5⟩ := box_new (ty := 85) (n := 18) (fun w => by kernel_rfl) w2 zL rfl (lfC k v) (lfC_length k v) (lfC_one k v)
    have HST : Hid _ := hst
    have HLD : Hid _ := lf_load hb5
    have HS5 : Hid _ := HK.out _ _ _ HS2.out hB5
    clear hg hst hb5 hB5
    have t1 := fun w => ta_leaf (LF k v) w
    go_wp2_with first
      | ((with_reducible show wpList _ _ _ _ _ _); refine armS (.tmp 6) (.tmp 22) 85 rfl rfl rfl rfl HST.out ?_)
      | ((with_reducible show wpList _ _ _ _ _ _); refine armL (.tmp 6) 85 rfl rfl rfl HLD.out ?_)
    refine Calls.mono (H2.out _ _ _ _ hk HS5.out) ?_
    rintro e w6 ⟨rfl, s6⟩
    have HS6 : Hid _ := s6
    clear s6
    go_wp2
    try go_returns
    rw [← HQ.out, HG.out]
    exact ⟨rfl, by simpa using HS6.out⟩

def kidsTo (la lb lc : List Ent) : Nat → List Ent
  | 0 => []
  | 1 => la
  | 2 => la ++ lb
  | _ => la ++ (lb ++ lc)

set_option maxHeartbeats 2000000 in
set_option maxRecDepth 100000 in
theorem each_fork {S : List Ent → World → Prop} {g : Bs → Bool} {fw ft : Value} (hw : Wan S fw g) (ht : Tak S ft) (k : Bs) (x y z : Value) (hx : x.oneCell' = true) (hy : y.oneCell' = true) (hz : z.oneCell' = true) (hk : k.length ≤ 128) (la lb lc : List Ent)
    (ha : ∀ l W, S l W → Calls Try.prog 65 #[x, fw, ft] W fun e w' => e = .returned (.tuple #[]) ∧ S (l ++ la) w')
    (hb : ∀ l W, S l W → Calls Try.prog 65 #[y, fw, ft] W fun e w' => e = .returned (.tuple #[]) ∧ S (l ++ lb) w')
    (hc : ∀ l W, S l W → Calls Try.prog 65 #[z, fw, ft] W fun e w' => e = .returned (.tuple #[]) ∧ S (l ++ lc) w')
    (l : List Ent) (w : World) (hS : S l w) :
    Calls Try.prog 65 #[.iface 117 (FK k x y z), fw, ft] w fun e w' => e = .returned (.tuple #[]) ∧ S (l ++ if g k then la ++ (lb ++ lc) else []) w' := by
  generalize hQ : (fun (e : Ending) (w' : World) => e = .returned (.tuple #[]) ∧ S (l ++ if g k then la ++ (lb ++ lc) else []) w') = Q
  have HQ : Hid _ := hQ
  clear hQ
  obtain ⟨f1, lb1, rfl, eg1, h1⟩ := hw.fn
  have keep := ht.keep
  obtain ⟨f2, lb2, rfl, eg2, h2⟩ := ht.fn
  have HT : Hid _ := fun W => fork_top k x y z W
  have H1 : Hid _ := h1
  have HK : Hid _ := keep
  have HS : Hid _ := hS
  have HA : Hid _ := ha
  have HB : Hid _ := hb
  have HC : Hid _ := hc
  clear h1 h2 keep hw hS ha hb hc ht
  go_enter Try.func65, Try.ntmps65
  go_wp2_with fail
  refine Calls.mono (HT.out _) ?_
  rintro e w1 ⟨rfl, hb1⟩
  have HS1 : Hid _ := HK.out _ _ _ HS.out hb1
  clear hb1
  go_wp2_with fail
  refine Calls.mono (H1.out _ _ _ hk HS1.out) ?_
  rintro e w2 ⟨rfl, hb2⟩
  have HS2 : Hid _ := HK.out _ _ _ HS1.out hb2
  clear hb2
  cases hg : g k with
  | false =>
    have HG : Hid _ := hg
    clear hg
    go_wp2
    try go_returns
    rw [← HQ.out, HG.out]
    exact ⟨rfl, by simpa using HS2.out⟩
  | true =>
    have HG : Hid _ := hg
    obtain ⟨w5, hst, hb5, hB5⟩ := box_new (ty := 117) (n := 20) (fun w => by kernel_rfl) w2 zF rfl (fkC k x y z) (fkC_length k x y z) (fkC_one k hx hy hz)
    have HST : Hid _ := hst
    have HLD : Hid _ := fk_kids hb5
    have HS5 : Hid _ := HK.out _ _ _ HS2.out hB5
    clear hg hst hb5 hB5
    have t1 := fun w => ta_fork (FK k x y z) w
    have t2 := fun w => ta_fork_leaf (FK k x y z) w
    go_wp2_with first
      | ((with_reducible show wpList _ _ _ _ _ _); refine armS (.tmp 7) (.tmp 28) 117 rfl rfl rfl rfl HST.out ?_)
      | ((with_reducible show wpList _ _ _ _ _ _); refine armL (.tmp 29) 115 rfl rfl rfl HLD.out ?_)
    go_loopw [31] (fun i wr => ∃ n : Nat, n ≤ 3 ∧ i = .int .i64 n ∧ S (l ++ kidsTo la lb lc n) wr) (fun i _ => 3 - (intOf i).toNat)
    case atStart => exact ⟨0, Nat.zero_le _, rfl, by simpa [kidsTo] using HS5.out⟩
    case round =>
      obtain ⟨n, hn, rfl, hs⟩ := hrel
      rcases (by omega : n = 0 ∨ n = 1 ∨ n = 2 ∨ n = 3) with rfl | rfl | rfl | rfl
      · have HS6 : Hid _ := HA.out _ _ hs
        clear hs
        have t3 := fun w => (ix_kids x y z w).1
        go_wp2_with fail
        refine Calls.mono HS6.out ?_
        rintro e w7 ⟨rfl, s7⟩
        have HS7 : Hid _ := s7
        clear s7
        go_wp2
        try go_roundw
        case rel => exact ⟨1, by omega, rfl, by simpa [kidsTo] using HS7.out⟩
        case measure => decide
      · have HS6 : Hid _ := HB.out _ _ hs
        clear hs
        have t3 := fun w => (ix_kids x y z w).2.1
        go_wp2_with fail
        refine Calls.mono HS6.out ?_
        rintro e w7 ⟨rfl, s7⟩
        have HS7 : Hid _ := s7
        clear s7
        go_wp2
        try go_roundw
        case rel => exact ⟨2, by omega, rfl, by simpa [kidsTo] using HS7.out⟩
        case measure => decide
      · have HS6 : Hid _ := HC.out _ _ hs
        clear hs
        have t3 := fun w => (ix_kids x y z w).2.2
        go_wp2_with fail
        refine Calls.mono HS6.out ?_
        rintro e w7 ⟨rfl, s7⟩
        have HS7 : Hid _ := s7
        clear s7
        go_wp2
        try go_roundw
        case rel => exact ⟨3, by omega, rfl, by simpa [kidsTo] using HS7.out⟩
        case measure => decide
      · have HS6 : Hid _ := hs
        clear hs
        go_wp2
        try go_returns
        rw [← HQ.out, HG.out]
        exact ⟨rfl, by simpa [kidsTo] using HS6.out⟩

theorem each_any {S : List Ent → World → Prop} {g : Bs → Bool} {fw ft : Value} (hw : Wan S fw g) (ht : Tak S ft) (t : Tr) (hok : t.Ok) (l : List Ent) (w : World) (hS : S l w) :
    Calls Try.prog 65 #[enc t, fw, ft] w fun e w' => e = .returned (.tuple #[]) ∧ S (l ++ t.walk g) w' := by
  induction t generalizing l w with
  | nil => exact (each_nil fw ft w).mono (by rintro e w' ⟨rfl, rfl⟩; exact ⟨rfl, by simpa [Tr.walk] using hS⟩)
  | leaf k v => exact each_leaf hw ht k v hok l w hS
  | fork k a b c iha ihb ihc =>
    obtain ⟨h0, h1, h2, h3⟩ := hok
    exact each_fork hw ht k (enc a) (enc b) (enc c) (enc_one a) (enc_one b) (enc_one c) h0 _ _ _ (fun l W => iha h1 l W) (fun l W => ihb h2 l W) (fun l W => ihc h3 l W) l w hS
end Go.Proofs.Ytabmkbhmgfneiaa
