/-
  The walk of the statement Ipv4Options.
-/
import Derived.Test.YtmoogfdmlbalbaaRows
import Derived.Test.YtmoogfdmlbalbaaIqM
namespace Go.Proofs.Ytmoogfdmlbalbaa
open Go Go.RowKit Go.ChangeShapes Go.WideShapes Go.ChangeAt
set_option linter.unusedVariables false
set_option linter.unusedSimpArgs false

theorem two_opts {ys : List Int} {os : Opts} {at' er at2 er2 : Int} (h : OptsIs ys os at' er) (h2 : ((optsF (ys.length + 1) ys).2 = none ∧ at2 = 0 ∧ er2 = 0) ∨ (∃ m, (optsF (ys.length + 1) ys).2 = some m ∧ at2 = (ys.length : Int) - (m : Nat) ∧ er2 = 47)) :
    at' = at2 ∧ er = er2 ∧ ((er2 = 0 ∧ os = (optsF (ys.length + 1) ys).1) ∨ (er2 = 47 ∧ os = [])) := by
  rcases h with ⟨e1, e2, e3, e4⟩ | ⟨m, e1, e2, e3, e4⟩ <;> rcases h2 with ⟨f1, f2, f3⟩ | ⟨m', f1, f2, f3⟩
  · exact ⟨by rw [e3, f2], by rw [e4, f3], .inl ⟨f3, e2⟩⟩
  · rw [e1] at f1; cases f1
  · rw [e1] at f1; cases f1
  · rw [e1] at f1
    cases f1
    exact ⟨by rw [e3, f2], by rw [e4, f3], .inr ⟨f3, e2⟩⟩

set_option maxHeartbeats 1500000 in
set_option maxRecDepth 100000 in
theorem ipv4Options_walk (v : Value) (ys : List Int) (vl : Value) (ls : Opts) (w : World) (h : RowC w v ys) (hl : ys.length ≤ 1048576) (ho : OptsAt w.heap.size w vl ls) :
    Calls Try.prog 6 #[v, vl] w fun e w' => e = .returned (.bool true) ∧ Below w.heap.size w w' := by
  have HOC : Hid _ := Options_calls v ys w h hl
  have HRC : Hid (∀ W, Below w.heap.size w W → Calls Try.prog 27 #[v] W fun e w' => ROptsPost ys W e w') := fun W hB => ROptions_calls v ys W (h.on hB) hl
  have HPK : Hid (∀ W, Below w.heap.size w W → Calls Try.prog 28 #[vl] W fun e w' => PackPost ls W e w') := fun W hB => Pack_calls vl ls W (ho.later hB)
  have HRP : Hid (∀ W, Below w.heap.size w W → Calls Try.prog 29 #[vl] W fun e w' => PackPost ls W e w') := fun W hB => RPack_calls vl ls W (ho.later hB)
  have HRT : Hid (∀ W, Below w.heap.size w W → Calls Try.prog 31 #[v] W fun e w' => e = .returned (.bool (routed (optsF (ys.length + 1) ys).1)) ∧ Below W.heap.size W w') := fun W hB => Routed_calls v ys W (h.on hB) hl
  have HRR : Hid (∀ W, Below w.heap.size w W → Calls Try.prog 32 #[v] W fun e w' => e = .returned (.bool (routed (optsF (ys.length + 1) ys).1)) ∧ Below W.heap.size W w') := fun W hB => RRouted_calls v ys W (h.on hB) hl
  clear h ho
  go_enter Try.func6, Try.ntmps6
  go_wp2_with fail
  refine Calls.mono HOC.out ?_
  rintro _ w1 ⟨x1, os1, n1, e1, rfl, ho1, hb1, hIs⟩
  have HB1 : Hid _ := hb1
  have HO1 : Hid _ := ho1
  clear hb1 ho1 HOC
  go_wp2_with fail
  refine Calls.mono (HRC.out w1 HB1.out) ?_
  rintro _ w2 ⟨x2, n2, e2, rfl, ho2, hb2, hIs2⟩
  obtain ⟨rfl, rfl, hcase⟩ := two_opts hIs hIs2
  have HB2 : Hid _ := HB1.out.trans (hb2.mono HB1.out.size)
  have HO12 : Hid _ := HO1.out.later hb2
  clear hb2 hIs hIs2 HRC
  obtain ⟨y2, HY2, HSEL⟩ : ∃ y2 : Value, OptsAt w2.heap.size w2 y2 os1 ∧ ((e1 = 0 ∧ y2 = x2) ∨ (e1 = 47 ∧ y2 = .slice none 0 0)) := by
    rcases hcase with ⟨rfl, rfl⟩ | ⟨rfl, rfl⟩
    · exact ⟨x2, ho2, .inl ⟨rfl, rfl⟩⟩
    · exact ⟨_, (OptRow.nil 0 0 w2).opts (by simp), .inr ⟨rfl, rfl⟩⟩
  have HY : Hid _ := HY2
  clear ho2 hcase HY2
  rcases HSEL with ⟨rfl, rfl⟩ | ⟨rfl, rfl⟩
  all_goals
    go_wp2_with fail
    refine Calls.mono (HPK.out w2 HB2.out) ?_
    rintro _ w3 ⟨r3, bs3, er3, rfl, hr3, hb3, hp3⟩
    have HB3 : Hid _ := HB2.out.trans (hb3.mono HB2.out.size)
    have HB23 : Hid _ := hb3
    have HR3 : Hid _ := hr3
    clear hb3 hr3
    go_wp2_with fail
    refine Calls.mono (HRP.out w3 HB3.out) ?_
    rintro _ w4 ⟨r4, bs4, er4, rfl, hr4, hb4, hp4⟩
    obtain ⟨rfl, rfl⟩ := hp3.unique hp4
    have hB34 := HB23.out.trans (hb4.mono HB23.out.size)
    have HB4 : Hid _ := HB3.out.trans (hb4.mono HB3.out.size)
    have HTP : Hid _ := Hi.text (HR3.out.bytes.later hb4)
    have HTQ : Hid _ := Hi.text hr4.bytes
    have HSO : Hid _ := SameOptions_same _ _ os1 w4 (HO12.out.later hB34) (HY.out.later hB34)
    clear hr4 hp3 hp4 hB34 hb4 HPK HRP
    generalize strOfNums bs3 = SS at *
    go_wp2_with fail
    refine Calls.mono HSO.out ?_
    rintro _ w5 ⟨rfl, hb5⟩
    have HB5 : Hid _ := HB4.out.trans (hb5.mono HB4.out.size)
    obtain ⟨x5, rfl⟩ : ∃ x : Hi w4, w5 = x.W := ⟨⟨w5, hb5⟩, rfl⟩
    have tp := HTP.out x5
    have tq := HTQ.out x5
    clear hb5
    go_wp2_with fail
    refine Calls.mono (HRT.out _ HB5.out) ?_
    rintro _ w6 ⟨rfl, hb6⟩
    have HB6 : Hid _ := HB5.out.trans (hb6.mono HB5.out.size)
    clear hb6
    go_wp2_with fail
    refine Calls.mono (HRR.out _ HB6.out) ?_
    rintro _ w7 ⟨rfl, hb7⟩
    have HB7 : Hid _ := HB6.out.trans (hb7.mono HB6.out.size)
    clear hb7
    go_wp2_with fail
    refine Calls.mono (awake_calls _) ?_
    rintro _ w8 ⟨rfl, hb8⟩
    have HB8 : Hid _ := HB7.out.trans (hb8.mono HB7.out.size)
    clear hb8
    go_wp2
    go_ret
    exact ⟨rfl, HB8.out⟩

theorem bulk_one {H : Type} (d : DataW H) : 1 ≤ Rows.uptoBulk d := by
  cases d with
  | lit l => cases l <;> simp [Rows.uptoBulk]
  | nil => simp [Rows.uptoBulk]
  | ptr d => simp [Rows.uptoBulk]
  | slice elems spare => simp [Rows.uptoBulk]
  | agg parts => simp [Rows.uptoBulk]
  | iface t d => simp [Rows.uptoBulk]
  | map entries => simp [Rows.uptoBulk]
  | held h => simp [Rows.uptoBulk]
theorem bulk_len {H : Type} (l : List (DataW H)) : l.length ≤ Rows.uptoBulkAll l := by
  induction l with
  | nil => simp [Rows.uptoBulkAll]
  | cons x r ih => have := bulk_one x; simp only [Rows.uptoBulkAll, List.length_cons]; omega

theorem open_row_bulk {H : Type} {enc : TypeId × Value → H} {W : World} {base : Nat} {v : Value} {d : DataW H} {p : List MemPlace} (hval : Value.okWide Try.prog W .any base 25 v)
    (h : DataW.Trod enc Try.prog W 0 (fun _ => true) true 25 v d p) (hz : ∀ k ∈ d.weights Try.prog 25, k ≤ reachBytes) : ∃ zs, RowC W v zs ∧ zs.length ≤ Rows.uptoBulk d := by
  obtain ⟨zs, hr⟩ := open_row hval h hz
  refine ⟨zs, hr, ?_⟩
  obtain ⟨a, cap, rfl, _⟩ := hr.val
  obtain ⟨fuel, hf⟩ := h
  rcases open_ints Try.underlying25 Try.underlying5 (by kernel_rfl) hf with ⟨hcs, _⟩ | ⟨x, l, c, zs', hcs, _, hl, hm, hzl, hx, hcell, hwz⟩
  · simp [Value.cells] at hcs
    rw [hcs.2.1]
    exact Nat.zero_le _
  · simp [Value.cells] at hcs
    obtain ⟨rfl, _⟩ := Prod.mk.inj hx
    have hzl' : zs'.length = c := by simpa using hzl
    simp only [Rows.uptoBulk]
    have h1 := bulk_len (lits (H := H) .u8 (zs'.take l))
    have h2 : (lits (H := H) .u8 (zs'.take l)).length = l := by simp [lits]; omega
    omega

theorem ipv4Options_open {H : Type} {enc : TypeId × Value → H} {W : World} {base : Nat} (v0 : Value) {d0 : DataW H} {p0 : List MemPlace} (v1 : Value) {d1 : DataW H} {p1 : List MemPlace}
    (o0 : Value.okWide Try.prog W .any base 25 v0) (h0 : DataW.Trod enc Try.prog W 0 (fun _ => true) true 25 v0 d0 p0) (z0 : ∀ k ∈ d0.weights Try.prog 25, k ≤ reachBytes)
    (o1 : Value.okWide Try.prog W .any base 42 v1) (h1 : DataW.Trod enc Try.prog W 0 (fun _ => true) true 42 v1 d1 p1) (z1 : ∀ k ∈ d1.weights Try.prog 42, k ≤ reachBytes)
    (hk : Rows.uptoBulkAll [d0, d1] ≤ 1048576) :
    Calls Try.prog 6 #[v0, v1] W fun e w' => e = .returned (.bool true) ∧ Below W.heap.size W w' := by
  obtain ⟨zs, hr, hb⟩ := open_row_bulk o0 h0 z0
  obtain ⟨os, ho⟩ := open_opts o1 h1 z1
  simp only [Rows.uptoBulkAll] at hk
  exact ipv4Options_walk v0 zs v1 os W hr (by omega) ho

end Go.Proofs.Ytmoogfdmlbalbaa
