/-
  MSS of the document; Clamp of package segment.
-/
import Derived.Test.YtodbgomoedhfaaaSn3
namespace Go.Proofs.Ytodbgomoedhfaaa
open Go Go.RowKit Go.Shelf
set_option linter.unusedVariables false
set_option linter.unusedSimpArgs false

set_option maxHeartbeats 2000000 in
set_option maxRecDepth 100000 in
theorem RMSS_calls (c : List Value) (t : Seg) (w : World) (h : TcpA w c t) :
    Calls Try.prog 29 #[.agg c.toArray] w fun e w' => e = .returned (.tuple #[.int .i64 (mssN t), .bool (mssB t)]) ∧ Below w.heap.size w w' := by
  obtain ⟨⟨vo, vd, hcc, hr, hd⟩, hall⟩ := h
  have b0 := blk_new w (.cells c.toArray 34)
  have hB0 := (Below.refl w.heap.size w).alloc (Nat.le_refl _) (.cells c.toArray 34)
  obtain ⟨W0, hW0⟩ : ∃ W0, w.alloc (.cells c.toArray 34) = W0 := ⟨_, rfl⟩
  rw [hW0] at b0 hB0
  have HL : Hid _ := agg_load (t := 34) Try.isAgg34 Try.sizeOf34 hall.len (CellsAt.of_blk b0)
  have HP : Hid _ := place_calls c t W0 (hall.on hB0)
  have HB0 : Hid _ := hB0
  have HRW : Hid (∀ W, Below W0.heap.size W0 W → RowC W vo t.opts) := fun W hW => hr.on (hB0.trans (hW.mono hB0.size))
  have HK7 : Hid (∀ W, Below W0.heap.size W0 W → W.cell? ⟨w.heap.size, 7, none⟩ = some vo) := fun W hW => blk_cell (j := 7) (blk_on b0 hW) (by rw [hcc]; rfl)
  have hpb : Hid (∀ i, mssO t = some i → i + 2 ≤ t.opts.length) := fun i hi => by
    unfold mssO at hi
    split at hi
    · cases hi
    · exact pl_bound 0 i (Nat.zero_le _) hi
  obtain ⟨av, cv, rfl, _⟩ := hr.val
  unfold mssN mssB
  clear b0 hB0 hall hd hcc hr
  cases ho : mssO t with
  | none =>
    rw [ho] at HP
    clear ho
    go_enter Try.func29, Try.ntmps29
    go_wp2_with ((with_reducible show wpList _ _ _ _ _ _); refine arm_load rfl (.tmp 1) 34 rfl rfl HL.out ?_)
    refine Calls.mono HP.out ?_
    rintro _ w1 ⟨rfl, hb1⟩
    have HX : Hid _ := HB0.out.trans (hb1.mono HB0.out.size)
    have hm1 : plI none = -1 := rfl
    rw [hm1]
    clear hb1 hm1
    go_wp2
    go_ret2
    exact ⟨rfl, HX.out⟩
  | some i =>
    have hi2 := hpb.out i ho
    rw [ho] at HP
    clear ho
    go_enter Try.func29, Try.ntmps29
    go_wp2_with ((with_reducible show wpList _ _ _ _ _ _); refine arm_load rfl (.tmp 1) 34 rfl rfl HL.out ?_)
    refine Calls.mono HP.out ?_
    rintro _ w1 ⟨rfl, hb1⟩
    have hR := HRW.out w1 hb1
    have k7 := HK7.out w1 hb1
    have hg := get_calls _ _ i 2 w1 hR.bytes (by decide) hi2
    have hge : getB t.opts i 2 = wd2 t.opts i := by simp [getB, wd2]
    rw [hge] at hg
    have hwr := wd2_range hR.fit i
    obtain ⟨x, hx⟩ : ∃ x, wd2 t.opts i = x := ⟨_, rfl⟩
    rw [hx] at hg hwr
    have HXE : Hid _ := hx
    have HG : Hid _ := hg
    have HX : Hid _ := HB0.out.trans (hb1.mono HB0.out.size)
    have hm1 : plI (some i) = (i : Int) := rfl
    rw [hm1]
    have hlen := hR.len
    have hi0 : i ≤ 140737488351232 := by omega
    clear hb1 hm1 hR HRW HK7 HP hg hge hx hpb
    go_wp2_with fail
    refine Calls.mono HG.out ?_
    rintro _ w2 ⟨rfl, hw2⟩
    obtain rfl : w1 = w2 := hw2.symm
    clear hw2
    go_wp2
    go_ret2
    obtain rfl := HXE.out
    exact ⟨rfl, HX.out⟩

/-- A copy in memory of its own, or nothing. -/
def CpV (B : Nat) (W : World) (u : Value) (zs : List Int) : Prop := (zs = [] ∧ ∃ a k, u = .slice a 0 k) ∨ ∃ g k, u = .slice (some ⟨g, 0, none⟩) zs.length k ∧ zs.length ≤ k ∧ B ≤ g ∧ OwnG W g zs
theorem CpV.slc {B : Nat} {W : World} {u : Value} {zs : List Int} (h : CpV B W u zs) : ∃ a k, u = .slice a zs.length k := by
  rcases h with ⟨rfl, a, k, e⟩ | ⟨g, k, e, _⟩
  · exact ⟨a, k, e⟩
  · exact ⟨_, k, e⟩
theorem CpV.on {B : Nat} {W W' : World} {u : Value} {zs : List Int} (h : CpV B W u zs) (hb : Below W.heap.size W W') : CpV B W' u zs := h.imp (fun h => h) (fun ⟨g, k, e, h1, h2, h3⟩ => ⟨g, k, e, h1, h2, h3.kept h3.lt hb⟩)
theorem CpV.off {B g : Nat} {W W' : World} {u : Value} {zs : List Int} (h : CpV B W u zs) (hg : g < B) (ho : Only g W W') : CpV B W' u zs := h.imp (fun h => h) (fun ⟨g', k, e, h1, h2, h3⟩ => ⟨g', k, e, h1, h2, h3.off ho (by omega)⟩)
theorem CpV.old {B B' : Nat} {W : World} {u : Value} {zs : List Int} (h : CpV B W u zs) (hB : B' ≤ B) : CpV B' W u zs := h.imp (fun h => h) (fun ⟨g', k, e, h1, h2, h3⟩ => ⟨g', k, e, h1, Nat.le_trans hB h2, h3⟩)
theorem CpV.row {B : Nat} {W : World} {u : Value} {zs : List Int} (h : CpV B W u zs) (hf : Fit zs) (hl : zs.length ≤ 140737488351232) : RowC W u zs := by
  rcases h with ⟨rfl, a, k, rfl⟩ | ⟨g, k, rfl, h1, h2, h3⟩
  · exact ⟨hf, hl, a, k, rfl, Nat.zero_le _, .inl rfl⟩
  · exact .of_bytes (h3.all hf hl zs.length k rfl) h1
set_option maxHeartbeats 1000000 in
set_option maxRecDepth 100000 in
theorem Clone_cp (v : Value) (zs : List Int) (w : World) (h : BytesAt w.heap.size w v zs) :
    Calls Try.prog 56 #[v] w fun e w' => ∃ u, e = .returned u ∧ (CpV w.heap.size w' u zs ∧ Below w.heap.size w w') := by
  obtain ⟨hf, hl, a, cap, rfl, hv⟩ := id h
  cases a with
  | none =>
    have h0 : zs = [] := by
      rcases hv with hv | ⟨b, off, e, _⟩
      · exact List.length_eq_zero_iff.1 hv
      · cases e
    subst h0
    have hB := Below.refl w.heap.size w
    have hN : CpV w.heap.size w (.slice none 0 0) [] := .inl ⟨rfl, _, _, rfl⟩
    have HN : Hid (CpV w.heap.size w (.slice none 0 0) []) := hN
    have hq := Go.Lib.run_eql_slice_nil (P := Try.prog) w 29 5 none 0 cap 0 0 Try.underlying29
    clear h hf hl hv hN
    go_enter Try.func56, Try.ntmps56
    go_wp2
    go_ret
    exact ⟨_, rfl, HN.out, hB⟩
  | some x =>
    have hB0 := (Below.refl w.heap.size w).alloc (Nat.le_refl _) (.cells #[] 5)
    obtain ⟨b, cap2, w2, hrun, hc, hb2, hown⟩ := bytes_copied3 (h.later hB0) w.heap.size 29
    have hbl := hB0.trans (hb2.mono hB0.size)
    have hcp : CpV w.heap.size w2 (.slice (some ⟨b, 0, none⟩) zs.length cap2) zs := by
      rcases hown with ⟨rfl, _⟩ | ⟨h1, h2⟩
      · exact .inl ⟨rfl, _, _, rfl⟩
      · exact .inr ⟨b, cap2, rfl, hc, Nat.le_trans hB0.size h1, h2⟩
    have HCP : Hid (CpV w.heap.size w2 (.slice (some ⟨b, 0, none⟩) zs.length cap2) zs) := hcp
    have H0 : Hid _ := hrun
    have hq := Go.Lib.run_eql_slice_nil (P := Try.prog) w 29 5 (some x) zs.length cap 0 0 Try.underlying29
    clear h hf hl hv hrun hb2 hB0 hown hcp
    go_enter Try.func56, Try.ntmps56
    go_wp2_with (at_builtin; refine wpList_append_run rfl _ _ _ _ rfl rfl rfl H0.out ?_; clear H0)
    go_ret
    exact ⟨_, rfl, HCP.out, hbl⟩
/-- Where Clamp writes. -/
def clO (t : Seg) (most : Int) : Option Nat := match mssO t with
  | none => none
  | some i => if wd2 t.opts i ≤ most then none else some i
def clT (t : Seg) (most : Int) : Seg := match clO t most with
  | none => t
  | some i => ⟨t.src, t.dst, t.seq, t.ack, t.fl, t.win, t.urg, laid t.opts i (w2 (max most 0)), t.data⟩
def clB (t : Seg) (most : Int) : Bool := (clO t most).isSome

end Go.Proofs.Ytodbgomoedhfaaa
