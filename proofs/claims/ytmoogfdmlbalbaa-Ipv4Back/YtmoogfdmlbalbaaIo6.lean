/-
  Options of package ipv4: the walk.
-/
import Derived.Test.YtmoogfdmlbalbaaIo5
namespace Go.Proofs.Ytmoogfdmlbalbaa
open Go Go.RowKit
set_option linter.unusedVariables false
set_option linter.unusedSimpArgs false

section
variable {f : Nat} {rest : List Int}
theorem optsF_fin (h : skipL rest = [] ∨ gz (skipL rest) 0 = 0) : optsF f rest = ([], none) := by
  cases f with
  | zero => rfl
  | succ f => rw [optsF, if_pos h]
theorem optsF_bad (h : ¬ (skipL rest = [] ∨ gz (skipL rest) 0 = 0)) (hb : badO (skipL rest)) : optsF (f + 1) rest = ([], some (skipL rest).length) := by rw [optsF, if_neg h, if_pos hb]
theorem optsF_opt (h : ¬ (skipL rest = [] ∨ gz (skipL rest) 0 = 0)) (hb : ¬ badO (skipL rest)) : optsF (f + 1) rest = ((gz (skipL rest) 0, ((skipL rest).drop 2).take ((gz (skipL rest) 1).toNat - 2)) :: (optsF f ((skipL rest).drop (gz (skipL rest) 1).toNat)).1, (optsF f ((skipL rest).drop (gz (skipL rest) 1).toNat)).2) := by rw [optsF, if_neg h, if_neg hb]
theorem skipL_mem : ∀ (ys : List Int) (z : Int), z ∈ skipL ys → z ∈ ys
  | [], z, h => h
  | y :: r, z, h => by
    unfold skipL at h
    split at h
    · exact List.mem_cons_of_mem _ (skipL_mem r z h)
    · exact h
theorem drop_less (h : ¬ badO (skipL rest)) : ((skipL rest).drop (gz (skipL rest) 1).toNat).length + 2 ≤ rest.length := by
  have := skipL_le rest
  unfold badO at h
  simp
  omega
end
/-- What Options answers. -/
def OptsIs (ys : List Int) (os : Opts) (at' er : Int) : Prop :=
  ((optsF (ys.length + 1) ys).2 = none ∧ os = (optsF (ys.length + 1) ys).1 ∧ at' = 0 ∧ er = 0) ∨ (∃ m, (optsF (ys.length + 1) ys).2 = some m ∧ os = [] ∧ at' = (ys.length : Int) - (m : Nat) ∧ er = 47)
def OptsPost (ys : List Int) (w : World) (e : Ending) (w' : World) : Prop :=
  ∃ v os at' er, e = .returned (.tuple #[v, .int .i64 at', .int .i64 er]) ∧ OptsAt w'.heap.size w' v os ∧ Below w.heap.size w w' ∧ OptsIs ys os at' er
/-- How far the options are read: those that are in the row, and the bytes that are left. -/
structure PreO (ys : List Int) (os : Opts) (rest : List Int) (f : Nat) : Prop where
  eq : optsF (ys.length + 1) ys = (os ++ (optsF f rest).1, (optsF f rest).2)
  fuel : rest.length < f
  len : os.length + rest.length ≤ ys.length
theorem PreO.start (ys : List Int) : PreO ys [] ys (ys.length + 1) := ⟨rfl, by omega, by simp⟩
theorem PreO.next {ys : List Int} {os : Opts} {rest : List Int} {f : Nat} (h : PreO ys os rest f) (h1 : ¬ (skipL rest = [] ∨ gz (skipL rest) 0 = 0)) (hb : ¬ badO (skipL rest)) :
    PreO ys (os ++ [(gz (skipL rest) 0, ((skipL rest).drop 2).take ((gz (skipL rest) 1).toNat - 2))]) ((skipL rest).drop (gz (skipL rest) 1).toNat) (f - 1) := by
  have hl := drop_less hb
  have hf := h.fuel
  have hn := h.len
  obtain ⟨g, rfl⟩ : ∃ g, f = g + 1 := ⟨f - 1, by omega⟩
  refine ⟨?_, by simp at hl ⊢; omega, by simp at hl ⊢; omega⟩
  rw [h.eq, optsF_opt h1 hb]
  simp
theorem PreO.fin {ys : List Int} {os : Opts} {rest : List Int} {f : Nat} (h : PreO ys os rest f) (h1 : skipL rest = [] ∨ gz (skipL rest) 0 = 0) : OptsIs ys os 0 0 := by
  have := h.eq
  rw [optsF_fin h1] at this
  refine .inl ⟨by rw [this], by rw [this]; simp, rfl, rfl⟩
theorem PreO.bad {ys : List Int} {os : Opts} {rest : List Int} {f : Nat} (h : PreO ys os rest f) (h1 : ¬ (skipL rest = [] ∨ gz (skipL rest) 0 = 0)) (hb : badO (skipL rest)) : OptsIs ys [] ((ys.length : Int) - (skipL rest).length) 47 := by
  have hf := h.fuel
  obtain ⟨g, rfl⟩ : ∃ g, f = g + 1 := ⟨f - 1, by omega⟩
  have := h.eq
  rw [optsF_bad h1 hb] at this
  exact .inr ⟨(skipL rest).length, by rw [this], rfl, rfl, rfl⟩

/-- The loop's state. -/
def LoopO (w : World) (R : Nat) (ys : List Int) (o m : Value) (wr : World) : Prop :=
  ∃ os ds v O, o = .pointer (some ⟨O, 0, none⟩) ∧ BoxO w wr w.heap.size v 0 0 ∧ OptRow (R + 1) O wr v os ds ∧ R + 1 ≤ O ∧ O < wr.heap.size ∧ os.length ≤ ys.length ∧ (∃ a n k, v = .slice a n k) ∧
    ((m = .bool false ∧ OptsIs ys os 0 0) ∨
     (m = .bool true ∧ ∃ K d D rest s f, wr.heap[O]? = some (.cells [.int .u8 K, d].toArray 76) ∧ (0 ≤ K ∧ K < 256) ∧ BytesAt w.heap.size w d D ∧ RowC w s rest ∧ ListW w wr R s ys.length ∧ PreO ys (os ++ [(K, D)]) rest f))
def measO (R : Nat) (m : Value) (wr : World) : Nat := match m with | .bool true => leftLen wr R + 1 | _ => 0

theorem OptRow.setc {base top : Nat} {W : World} {v : Value} {os : Opts} {ds : List Value} (h : OptRow base top W v os ds) (ht : top ≤ W.heap.size) {X : Nat} (hX : X < base ∨ top ≤ X) (i : Nat) (u : Value) : OptRow base top (W.setCell ⟨X, i, none⟩ u) v os ds := by
  have ho := (Only.refl X W).set i u
  exact h.keep ht (by rw [ho.size]; exact Nat.le_refl _) (fun j h1 h2 => ho.other j (by omega))
theorem OptRow.on {base top : Nat} {W W' : World} {v : Value} {os : Opts} {ds : List Value} (h : OptRow base top W v os ds) (ht : top ≤ W.heap.size) (hb : Below W.heap.size W W') : OptRow base top W' v os ds :=
  h.keep ht hb.size (fun j _ h2 => hb.block j (by omega))
theorem OptRow.but {base top R : Nat} {W W' : World} {v : Value} {os : Opts} {ds : List Value} (h : OptRow base top W v os ds) (ht : top ≤ W.heap.size) (hb : But R W W') (hR : R < base) : OptRow base top W' v os ds :=
  h.keep ht hb.size (fun j h1 h2 => hb.other j (by omega) (by omega))
theorem loc_both {W : World} {u : Value} {D : List Int} {s : Nat} (h : BytesAt W.heap.size W u D) (hl : D.length = 0 ∨ ∃ b off n k, u = .slice (some ⟨b, off, none⟩) n k ∧ s ≤ b) : D.length = 0 ∨ ∃ b off n k, u = .slice (some ⟨b, off, none⟩) n k ∧ s ≤ b ∧ b < W.heap.size := by
  rcases hl with hl | ⟨b, off, n, k, rfl, hs⟩
  · exact .inl hl
  · obtain ⟨_, _, a, cap, e, hz⟩ := h
    rcases hz with hz | ⟨b', off', rfl, hlt, _⟩
    · exact .inl hz
    · cases e
      exact .inr ⟨_, _, _, _, rfl, hs, hlt⟩
theorem BoxO.same {w0 W W' : World} {Q : Nat} {v : Value} {x y : Int} (h : BoxO w0 W Q v x y) (hb : Below w0.heap.size W W') (hk : ∀ j, j ≤ Q + 2 → W'.heap[j]? = W.heap[j]?) : BoxO w0 W' Q v x y :=
  ⟨(hk Q (by omega)).trans h.vb, (hk (Q + 1) (by omega)).trans h.xb, (hk (Q + 2) (by omega)).trans h.yb, h.bel.trans hb, h.up⟩
def NxO (w w' : World) (R N : Nat) (rest : List Int) (K : Int) (d : Value) (m : Bool) : Prop :=
  (m = false ∧ (skipL rest = [] ∨ gz (skipL rest) 0 = 0)) ∨
  (m = true ∧ ¬ (skipL rest = [] ∨ gz (skipL rest) 0 = 0) ∧ ¬ badO (skipL rest) ∧ K = gz (skipL rest) 0 ∧ BytesAt w.heap.size w d (((skipL rest).drop 2).take ((gz (skipL rest) 1).toNat - 2)) ∧ ∃ s', RowC w s' ((skipL rest).drop (gz (skipL rest) 1).toNat) ∧ ListW w w' R s' N)
theorem NextPost.split {w W w' : World} {R N : Nat} {rest : List Int} {e : Ending} (h : NextPost w W R N (skipL rest) e w') (hu : w.heap.size ≤ R) (hw : Below w.heap.size w W) :
    (¬ (skipL rest = [] ∨ gz (skipL rest) 0 = 0) ∧ badO (skipL rest) ∧ e = .panicked [faultP ((N : Int) - (skipL rest).length) 47] ∧ Below w.heap.size w w' ∧ But R W w') ∨
    (∃ K da dn dc m, e = .returned (.tuple #[.agg #[.int .u8 K, .slice da dn dc], .bool m]) ∧ Below w.heap.size w w' ∧ But R W w' ∧ NxO w w' R N rest K (.slice da dn dc) m) := by
  rcases h with ⟨hz, rfl, hb2, hB2⟩ | ⟨hz1, hz2, hbad, rfl, hb2, hB2⟩ | ⟨hz1, hz2, hgood, d, s', rfl, hd, hr2, hL2, hB2⟩
  · exact .inr ⟨0, none, 0, 0, false, rfl, hb2, hB2, .inl ⟨rfl, hz⟩⟩
  · exact .inl ⟨fun c => c.elim hz1 hz2, hbad, rfl, hb2, hB2⟩
  · have hd' := hd
    obtain ⟨_, _, da, dc, hde, _⟩ := hd
    subst hde
    exact .inr ⟨_, _, _, _, true, rfl, hL2.bel, hB2, .inr ⟨rfl, fun c => c.elim hz1 hz2, hgood, rfl, hd', s', hr2, hL2⟩⟩
theorem LoopO.of_next {w W : World} {R : Nat} {ys rest : List Int} {os : Opts} {ds : List Value} {v : Value} {f O : Nat} {K : Int} {d : Value} {m : Bool} (hB : BoxO w W w.heap.size v 0 0) (hR : OptRow (R + 1) O W v os ds) (h1 : R + 1 ≤ O) (h2 : O < W.heap.size) (hv : ∃ a n k, v = .slice a n k) (hP : PreO ys os rest f) (hO : W.heap[O]? = some (.cells [.int .u8 K, d].toArray 76)) (hf : Fit rest) (hN : NxO w W R ys.length rest K d m) :
    LoopO w R ys (.pointer (some ⟨O, 0, none⟩)) (.bool m) W := by
  refine ⟨os, ds, v, O, rfl, hB, hR, h1, h2, by have := hP.len; omega, hv, ?_⟩
  rcases hN with ⟨rfl, hz⟩ | ⟨rfl, hz, hb, rfl, hd, s', hr, hL⟩
  · exact .inl ⟨rfl, hP.fin hz⟩
  · refine .inr ⟨rfl, _, d, _, _, s', _, hO, ?_, hd, hr, hL, hP.next hz hb⟩
    have : Fit (skipL rest) := fun z hz => hf z (skipL_mem _ _ hz)
    exact this.gz 0

set_option maxHeartbeats 1000000 in
set_option maxRecDepth 100000 in
theorem Options_calls (v : Value) (ys : List Int) (w : World) (h : RowC w v ys) (hl : ys.length ≤ 1048576) :
    Calls Try.prog 26 #[v] w fun e w' => OptsPost ys w e w' := by
  have hmf : ∀ (fn : Fn) (first cap : Array Value) (w : World), (Instr.makeFunc fn first cap).run Try.prog w = .ok (.func fn first cap) w := fun _ _ _ _ => rfl
  have hBX := BoxO.start w
  have HLI : Hid _ := listed_calls v ys _ (h.on hBX.bel)
  have HBX : Hid _ := hBX
  have HR0 : Hid _ := h
  clear hBX h
  rw [show (((w.alloc (.cells #[.slice none 0 0] 42)).alloc (.cells #[.int .i64 0] 3)).alloc (.cells #[.int .i64 0] 28)).heap.size = w.heap.size + 1 + 1 + 1 by simp] at HLI
  generalize hW0 : ((w.alloc (.cells #[.slice none 0 0] 42)).alloc (.cells #[.int .i64 0] 3)).alloc (.cells #[.int .i64 0] 28) = W0 at *
  go_enter_defers Try.func26, Try.ntmps26
  go_wp2_with fail
  refine Calls.mono HLI.out ?_
  rintro _ w1 ⟨rfl, hL1, hb1⟩
  have hsz0 : W0.heap.size = w.heap.size + 1 + 1 + 1 := by rw [← hW0]; simp
  clear hW0
  have HB1 : Hid (BoxO w w1 w.heap.size (.slice none 0 0) 0 0) := HBX.out.on (by rw [hsz0]; exact hb1)
  have HL1 : Hid (ListW w w1 (w.heap.size + 1 + 1 + 1) v ys.length) := ⟨hL1.blk, by omega, HB1.out.bel⟩
  generalize hR : w.heap.size + 1 + 1 + 1 = R at *
  have hRw : w.heap.size + 3 = R := by omega
  have HNX : Hid _ := next_calls (w := w) HR0.out HL1.out (Nat.le_refl _) (by omega)
  have HLT1 : Hid (R < w1.heap.size) := (Array.getElem?_eq_some_iff.1 hL1.blk).1
  clear hL1 hb1 hsz0 HLI HBX W0
  go_wp2_with fail
  refine Calls.mono HNX.out ?_
  rintro e2 w2 h2
  rcases h2.split (by omega) HL1.out.bel with ⟨hz, hbad, rfl, hb2, hB2⟩ | ⟨K, da, dn, dc, m, rfl, hb2, hB2, hN2⟩
  · have hBO := HB1.out.but hB2 (by omega)
    have HOI : Hid (OptsIs ys [] ((ys.length : Int) - (skipL ys).length) 47) := (PreO.start ys).bad hz hbad
    refine leaves_cons (f := 45) (args := #[.pointer (some ⟨w.heap.size, 0, none⟩), .pointer (some ⟨w.heap.size + 1, 0, none⟩), .pointer (some ⟨w.heap.size + 2, 0, none⟩)]) (by simp) (by simp [go_sem]) ?_
    refine (catch_faultO w w.heap.size _ 0 0 _ 47 _ hBO).mono ?_
    rintro e9 u9 w9 ⟨rfl, rfl, h9⟩
    refine ⟨_, resC rfl rfl rfl rfl (h9.load ⟨_, _, _, rfl⟩) h9.loadX h9.loadY, _, [], _, _, rfl, (OptRow.nil 0 0 w9).opts (by simp), h9.bel, HOI.out⟩
  · have hBa := (Below.refl w2.heap.size w2).alloc (Nat.le_refl _) (.cells #[.int .u8 K, .slice da dn dc] 76)
    have HST : Hid (LoopO w R ys (.pointer (some ⟨w2.heap.size, 0, none⟩)) (.bool m) (w2.alloc (.cells #[.int .u8 K, .slice da dn dc] 76))) := by
      refine LoopO.of_next ((HB1.out.but hB2 (by omega)).on hBa) (OptRow.nil _ _ _) ?_ (by simp) ⟨_, _, _, rfl⟩ (PreO.start ys) (blk_new w2 _) HR0.out.fit ?_
      · have := HLT1.out
        have := hB2.size
        omega
      · rcases hN2 with h | ⟨h1, h2, h3, h4, h5, s', h6, h7⟩
        · exact .inl h
        · exact .inr ⟨h1, h2, h3, h4, h5, s', h6, h7.on hBa⟩
    clear hBa hN2 hb2 hB2 HNX HL1 HB1 HLT1 h2
    go_wp2_with fail
    go_loopw [6, 7] (fun o m wr => LoopO w R ys o m wr) (fun _ m wr => measO R m wr)
    case atStart => exact HST.out
    case round =>
      obtain ⟨os, ds, v', O, rfl, hB, hRow, hO1, hO2, hol, ⟨va, vn, vk, rfl⟩, hm⟩ := hrel
      rcases hm with ⟨rfl, hIs⟩ | ⟨rfl, K', d', D', rest, s', f, hOb, hK', hd', hr', hL', hP⟩
      · have m0 := blk_cell hB.vb (j := 0) rfl
        have n0 := blk_open hB.vb 0
        have m1 := blk_cell hB.xb (j := 0) rfl
        have n1 := blk_open hB.xb 0
        have m2 := blk_cell hB.yb (j := 0) rfl
        have n2 := blk_open hB.yb 0
        have HE : Hid _ := ((hB.setV (.slice va vn vk)).setX 0).setY 0
        have hs1 : (wr.setCell ⟨w.heap.size, 0, none⟩ (.slice va vn vk)).heap.size = wr.heap.size := by simp [World.setCell]
        have hs2 : ((wr.setCell ⟨w.heap.size, 0, none⟩ (.slice va vn vk)).setCell ⟨w.heap.size + 1, 0, none⟩ (.int .i64 0)).heap.size = wr.heap.size := by simp [World.setCell]
        have HRow : Hid _ := ((hRow.setc (by omega) (X := w.heap.size) (.inl (by omega)) 0 (.slice va vn vk)).setc (by omega) (X := w.heap.size + 1) (.inl (by omega)) 0 (.int .i64 0)).setc (by omega) (X := w.heap.size + 2) (.inl (by omega)) 0 (.int .i64 0)
        have HIS : Hid (OptsIs ys os 0 0) := hIs
        clear hB hRow hIs hs1 hs2
        go_wp2
        refine leaves_cons (f := 45) (args := #[.pointer (some ⟨w.heap.size, 0, none⟩), .pointer (some ⟨w.heap.size + 1, 0, none⟩), .pointer (some ⟨w.heap.size + 2, 0, none⟩)]) (by simp) (by simp [go_sem]) ?_
        refine (catch_idleO _ _ _ _).mono ?_
        rintro e9 u9 w9 ⟨rfl, rfl, hb9⟩
        have h9 := HE.out.on hb9
        refine ⟨_, resC rfl rfl rfl rfl (h9.load ⟨_, _, _, rfl⟩) h9.loadX h9.loadY, _, os, _, _, rfl, (HRow.out.opts (by omega)).later hb9, h9.bel, HIS.out⟩
      · have k1 := blk_cell hOb (j := 1) rfl
        have hfd := hd'.fit
        have HCL : Hid _ := Clone_calls d' D' wr (hd'.later hB.bel)
        obtain ⟨_, _, xa, xc, rfl, _⟩ := hd'
        have HLL : Hid (leftLen wr R = rest.length) := hL'.leftLen hr'
        have HOB : Hid _ := hOb
        have HBX : Hid _ := hB
        have HRW : Hid _ := hRow
        have HR' : Hid _ := hr'
        have HL' : Hid _ := hL'
        have HP : Hid _ := hP
        clear hB hRow hL' hP hr' hOb
        go_wp2_with fail
        refine Calls.mono HCL.out ?_
        rintro _ w3 ⟨u, rfl, hu3, hb3, hloc3⟩
        have hOb3 := blk_on HOB.out hb3
        have k1' := blk_cell hOb3 (j := 1) rfl
        have f1' := blk_open hOb3 1
        have hsz3 := hb3.size
        have hO4 := (Only.refl O w3).set 1 u
        have hOb4 := blk_set hOb3 1 u
        rw [show ([.int .u8 K', .slice xa D'.length xc] : List Value).set 1 u = [.int .u8 K', u] from rfl] at hOb4
        have hB4 := (HBX.out.on hb3).but (But.of_only hO4) (by omega)
        have hRow4 := (HRW.out.on (by omega) hb3).setc (by omega) (X := O) (.inr (Nat.le_refl _)) 1 u
        have hL3 := HL'.out.on hb3
        have hL4 : ListW w (w3.setCell ⟨O, 1, none⟩ u) R s' ys.length := ⟨(hO4.other R (by omega)).trans hL3.blk, hL3.up, hL3.bel.trans (hO4.below (by have := hL3.up; omega))⟩
        have hlb3 := loc_both hu3 hloc3
        have hu4 := bytes_only hu3 hO4 (hloc3.imp (fun h => h) (fun ⟨b, off, n, k, e, h⟩ => ⟨b, off, n, k, e, by omega⟩))
        have hs4 : (w3.setCell ⟨O, 1, none⟩ u).heap.size = w3.heap.size := hO4.size
        obtain ⟨_, _, ua, uc, hue, _⟩ := hu3
        generalize hDn : D'.length = Dn at *
        subst hue
        have a0 := blk_cell hB4.vb (j := 0) rfl
        have a1 := blk_cell hOb4 (j := 0) rfl
        have a2 := blk_cell hOb4 (j := 1) rfl
        have b0 := blk_cell (HBX.out.on hb3).vb (j := 0) rfl
        have b1 := blk_cell hOb3 (j := 0) rfl
        have hne : ¬ O = w.heap.size := by omega
        have hne' : ¬ w.heap.size = O := by omega
        have hBa := (Below.refl (w3.setCell ⟨O, 1, none⟩ (.slice ua Dn uc)).heap.size (w3.setCell ⟨O, 1, none⟩ (.slice ua Dn uc))).alloc (Nat.le_refl _) (.cells #[.int .u8 K', .slice ua Dn uc] 76)
        have hXb := blk_new (w3.setCell ⟨O, 1, none⟩ (.slice ua Dn uc)) (.cells [.int .u8 K', .slice ua Dn uc].toArray 76)
        rw [hs4] at hXb
        have hOb5 := blk_alloc hOb4 (.cells #[.int .u8 K', .slice ua Dn uc] 76)
        have hB5 := hB4.on hBa
        have hL5 := hL4.on hBa
        have hRow5 := hRow4.on (by rw [hs4]; omega) hBa
        have hu5 := hu4.later hBa
        have hs5 : ((w3.setCell ⟨O, 1, none⟩ (.slice ua Dn uc)).alloc (.cells #[.int .u8 K', .slice ua Dn uc] 76)).heap.size = w3.heap.size + 1 := by simp [World.setCell]
        have hlen' := HP.out.len
        simp only [List.length_append, List.length_cons, List.length_nil] at hlen'
        have hown : ∀ g, (Value.slice va vn vk).ownBlock = some g → R + 1 ≤ g ∧ g < O := fun g hg => ⟨(HRW.out.own.lt g hg).1, HRW.out.gl g hg⟩
        obtain ⟨v6, W6, hrun6, hRow6, hgr6, ⟨ya, yn, yk, rfl⟩⟩ := hRow5.push (X := w3.heap.size) (K := K') (u := .slice ua Dn uc) (D := D') (by omega) (by omega) (blk_cell hXb rfl) (blk_cell hXb rfl) hK' hu5 (hlb3.imp (fun h => hDn.trans h) (fun ⟨b, off, n, k, e, h1, h2⟩ => ⟨b, off, n, k, e, by omega, by omega, fun e' => by have := hown b e'; omega⟩)) (by omega) 1 42
        have hk6 : ∀ j, j < w3.heap.size + 1 → j ≤ R ∨ j = O → W6.heap[j]? = ((w3.setCell ⟨O, 1, none⟩ (.slice ua Dn uc)).alloc (.cells #[.int .u8 K', .slice ua Dn uc] 76)).heap[j]? := fun j hj hc => hgr6.block j (by omega) (fun e => by have := hown j e.symm; omega)
        have hbel6 : Below w.heap.size ((w3.setCell ⟨O, 1, none⟩ (.slice ua Dn uc)).alloc (.cells #[.int .u8 K', .slice ua Dn uc] 76)) W6 := ⟨hgr6.os, hgr6.tape, hgr6.output, hgr6.size, fun j hj => hk6 j (by omega) (.inl (by omega))⟩
        have hB6 := hB5.same hbel6 (fun j hj => hk6 j (by omega) (.inl (by omega)))
        have hL6 : ListW w W6 R s' ys.length := ⟨(hk6 R (by omega) (.inl (Nat.le_refl _))).trans hL5.blk, hL5.up, hL5.bel.trans hbel6⟩
        have hOb6 := (hk6 O (by omega) (.inr rfl)).trans hOb5
        have hs6 := hgr6.size
        have c0 := blk_cell hB6.vb (j := 0) rfl
        have e0 := blk_open hB6.vb 0
        have hO7 := (Only.refl w.heap.size W6).set 0 (.slice ya yn yk)
        have hB7 := hB6.setV (.slice ya yn yk)
        have hRow7 := hRow6.setc (Nat.le_refl _) (X := w.heap.size) (.inl (by omega)) 0 (.slice ya yn yk)
        have hL7 : ListW w (W6.setCell ⟨w.heap.size, 0, none⟩ (.slice ya yn yk)) R s' ys.length := ⟨(hO7.other R (by omega)).trans hL6.blk, hL6.up, hL6.bel.trans (hO7.below (Nat.le_refl _))⟩
        have hOb7 := (hO7.other O (by omega)).trans hOb6
        have hs7 : (W6.setCell ⟨w.heap.size, 0, none⟩ (.slice ya yn yk)).heap.size = W6.heap.size := hO7.size
        have g0 := blk_cell hOb7 (j := 0) rfl
        have g1 := blk_cell hOb7 (j := 1) rfl
        have hB8a := (Below.refl (W6.setCell ⟨w.heap.size, 0, none⟩ (.slice ya yn yk)).heap.size (W6.setCell ⟨w.heap.size, 0, none⟩ (.slice ya yn yk))).alloc (Nat.le_refl _) (.cells #[.int .u8 K', .slice ua Dn uc] 76)
        have HB8 : Hid _ := hB7.on hB8a
        have HL8 : Hid _ := hL7.on hB8a
        have HRow8 : Hid _ := hRow7.on (by rw [hs7]; exact Nat.le_refl _) hB8a
        have hNb := blk_new (W6.setCell ⟨w.heap.size, 0, none⟩ (.slice ya yn yk)) (.cells [.int .u8 K', .slice ua Dn uc].toArray 76)
        rw [hs7] at hNb
        have HNb : Hid _ := hNb
        have HNX : Hid _ := next_calls (w := w) HR'.out HL8.out (by omega) (by omega)
        have HRUN : Hid _ := hrun6
        have HS8 : Hid (((W6.setCell ⟨w.heap.size, 0, none⟩ (.slice ya yn yk)).alloc (.cells #[.int .u8 K', .slice ua Dn uc] 76)).heap.size = W6.heap.size + 1) := by show _ = _; simp [World.setCell]
        clear hrun6 hNb hB8a hL7 hRow7 hB7 hOb7 hO7 hOb6 hL6 hB6 hbel6 hk6 hgr6 hRow6 hown hRow5 hL5 hB5 hOb5 hXb hBa hlb3 hu4 hu5 hL4 hL3 hRow4 hB4 hOb4 hO4 hOb3 hb3 hloc3 HCL k1 hDn
        go_wp2_with (at_builtin; refine wpList_append_run rfl _ _ _ _ rfl rfl rfl HRUN.out ?_; clear HRUN)
        refine Calls.mono HNX.out ?_
        rintro e9 w9 h9
        rcases h9.split (by omega) HL8.out.bel with ⟨hz, hbad, rfl, hb9, hB9⟩ | ⟨K9, ea, en, ec, m9, rfl, hb9, hB9, hN9⟩
        · have hBO := HB8.out.but hB9 (by omega)
          have HOI : Hid (OptsIs ys [] ((ys.length : Int) - (skipL rest).length) 47) := HP.out.bad hz hbad
          refine leaves_cons (f := 45) (args := #[.pointer (some ⟨w.heap.size, 0, none⟩), .pointer (some ⟨w.heap.size + 1, 0, none⟩), .pointer (some ⟨w.heap.size + 2, 0, none⟩)]) (by simp) (by simp [go_sem]) ?_
          refine (catch_faultO w w.heap.size _ 0 0 _ 47 _ hBO).mono ?_
          rintro e10 u10 w10 ⟨rfl, rfl, h10⟩
          refine ⟨_, resC rfl rfl rfl rfl (h10.load ⟨_, _, _, rfl⟩) h10.loadX h10.loadY, _, [], _, _, rfl, (OptRow.nil 0 0 w10).opts (by simp), h10.bel, HOI.out⟩
        · have hsz8 := HS8.out
          have hsz9 := hB9.size
          have hOb9 := hB9.blk HNb.out (by omega)
          have l0 := blk_cell hOb9 (j := 0) rfl
          have l1 := blk_cell hOb9 (j := 1) rfl
          have p0 := blk_open hOb9 0
          have p1 := blk_open hOb9 1
          have hO10 := ((Only.refl W6.heap.size w9).set 0 (.int .u8 K9)).set 1 (.slice ea en ec)
          have hOb10 : ((w9.setCell ⟨W6.heap.size, 0, none⟩ (.int .u8 K9)).setCell ⟨W6.heap.size, 1, none⟩ (.slice ea en ec)).heap[W6.heap.size]? = some (.cells [.int .u8 K9, .slice ea en ec].toArray 76) := by rw [blk_set (blk_set hOb9 0 _) 1 _]; rfl
          have hB10 := (HB8.out.but hB9 (by omega)).but (But.of_only hO10) (by omega)
          have hRow10 := ((HRow8.out.but (by omega) hB9 (by omega)).setc (by omega) (X := W6.heap.size) (.inr (Nat.le_refl _)) 0 (.int .u8 K9)).setc (by simp [World.setCell]; omega) (X := W6.heap.size) (.inr (Nat.le_refl _)) 1 (.slice ea en ec)
          have hN10 : NxO w ((w9.setCell ⟨W6.heap.size, 0, none⟩ (.int .u8 K9)).setCell ⟨W6.heap.size, 1, none⟩ (.slice ea en ec)) R ys.length rest K9 (.slice ea en ec) m9 := by
            rcases hN9 with h | ⟨h1, h2, h3, h4, h5, s9, h6, h7⟩
            · exact .inl h
            · exact .inr ⟨h1, h2, h3, h4, h5, s9, h6, ⟨(hO10.other R (by omega)).trans h7.blk, h7.up, h7.bel.trans (hO10.below (by omega))⟩⟩
          have HST9 : Hid (LoopO w R ys (.pointer (some ⟨W6.heap.size, 0, none⟩)) (.bool m9) ((w9.setCell ⟨W6.heap.size, 0, none⟩ (.int .u8 K9)).setCell ⟨W6.heap.size, 1, none⟩ (.slice ea en ec))) :=
            LoopO.of_next hB10 hRow10 (by omega) (by rw [hO10.size]; omega) ⟨_, _, _, rfl⟩ HP.out hOb10 HR'.out.fit hN10
          have HME : Hid (measO R (.bool m9) ((w9.setCell ⟨W6.heap.size, 0, none⟩ (.int .u8 K9)).setCell ⟨W6.heap.size, 1, none⟩ (.slice ea en ec)) < measO R (.bool true) wr) := by
            show measO R (.bool m9) _ < leftLen wr R + 1
            rw [HLL.out]
            rcases hN10 with ⟨rfl, _⟩ | ⟨rfl, h2, h3, h4, h5, s9, h6, h7⟩
            · show 0 < _
              omega
            · show leftLen _ R + 1 < _
              rw [h7.leftLen h6]
              have := drop_less h3
              omega
          clear hN10 hRow10 hB10 hOb10 hO10 hOb9 hN9 hB9 hb9 h9
          go_wp2
          exact ⟨HST9.out, HME.out⟩

end Go.Proofs.Ytmoogfdmlbalbaa
