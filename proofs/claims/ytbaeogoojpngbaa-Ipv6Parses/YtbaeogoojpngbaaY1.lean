/-
  An IPv6 datagram as an argument.
-/
import Derived.Test.YtbaeogoojpngbaaY0
import Derived.Deep.SlicePairs
namespace Go.Proofs.Ytbaeogoojpngbaa
open Go Go.RowKit
set_option linter.unusedVariables false
set_option linter.unusedSimpArgs false

open Go.ChangeShapes Go.WideShapes Go.ChangeAt


def numOf : Value → Int
  | .int _ z => z
  | _ => 0
theorem cells_arr {H : Type} {enc : TypeId × Value → H} {w : World} {base : Nat} {spare : Nat → Bool} {held : Bool} {fuel : Nat} {cs : List Value} {x : DataW H × List MemPlace} {t : TypeId} {N : Nat} (hu : Try.prog.underlying t = some (.array N 5)) (ct : Try.prog.cellsOf t = N)
    (h : DataW.trod enc Try.prog w base spare held fuel t cs = some x) : ∃ A : List Int, A.length = N ∧ cs = u8L A ∧ Fit A := by
  obtain ⟨xs, m, _, _, hl, hx, hi⟩ := DataW.trod_array hu h
  have ce : Try.prog.cellsOf 5 = 1 := by kernel_rfl
  rw [ct] at hl
  have each : ∀ i, i < N → ∃ z : Int, cs[i]? = some (.int .u8 z) ∧ 0 ≤ z ∧ z < 256 := by
    intro i hin
    have h1 := hi i hin
    rw [ce, Nat.mul_one, List.getElem?_eq_getElem (by omega)] at h1
    obtain ⟨z, e, _, wf⟩ := DataW.trod_int Try.underlying5 h1
    have hb := bounds_u8 wf
    refine ⟨z, ?_, by omega, by omega⟩
    have e2 := congrArg (fun l : List Value => l[0]?) e
    simpa [List.getElem?_take, List.getElem?_drop] using e2
  refine ⟨cs.map numOf, by simp [hl], ?_, ?_⟩
  · apply List.ext_getElem?
    intro i
    by_cases hi' : i < N
    · obtain ⟨z, hz, _⟩ := each i hi'
      simp [u8L, hz, numOf]
    · rw [List.getElem?_eq_none (by omega), List.getElem?_eq_none (by simp [u8L]; omega)]
  · intro z hz
    obtain ⟨v, hv, rfl⟩ := List.mem_map.1 hz
    obtain ⟨i, hi', rfl⟩ := List.getElem_of_mem hv
    obtain ⟨z, hz, hb⟩ := each i (by omega)
    rw [List.getElem?_eq_getElem hi'] at hz
    simp only [Option.some.injEq] at hz
    rw [hz]
    exact hb
theorem HS.nil (S : Nat → Prop) (w : World) : HS S w (.slice none 0 0) [] := ⟨fun j => by simp [oK], by simp, none, 0, rfl, .inl rfl⟩
theorem open_row1 {H : Type} {enc : TypeId × Value → H} {W : World} {fuel : Nat} {cs : List Value} {x : DataW H × List MemPlace} (h : DataW.trod enc Try.prog W 0 (fun _ => true) true fuel 26 cs = some x) (hz : ∀ k ∈ x.1.weights Try.prog 26, k ≤ reachBytes) :
    ∃ v zs, cs = [v] ∧ RowC W v zs := by
  obtain ⟨v, zs, e, hb⟩ := open_bytes1 h hz
  refine ⟨v, zs, e, ?_⟩
  subst e
  rcases open_ints Try.underlying26 Try.underlying5 (by kernel_rfl) h with ⟨hcs, _⟩ | ⟨x, l, c, zs, hcs, _, hl, hm, hz, _, hcell, hwz⟩
  · simp at hcs
    subst hcs
    exact .of_bytes hb (Nat.le_refl _)
  · simp at hcs
    subst hcs
    exact .of_bytes hb (by omega)
theorem open_heads {H : Type} {enc : TypeId × Value → H} {W : World} {fuel : Nat} {cs : List Value} {y : DataW H × List MemPlace} (hf : DataW.trod enc Try.prog W 0 (fun _ => true) true fuel 25 cs = some y) (hz : ∀ k ∈ y.1.weights Try.prog 25, k ≤ reachBytes) : ∃ v os, cs = [v] ∧ HS (fun b => b < W.heap.size) W v os := by
  rcases Go.Deep.open_slice_pairs Try.underlying25 Try.underlying52 (by kernel_rfl) rfl rfl (by kernel_rfl) (by kernel_rfl) hf with ⟨hcs, _⟩ | ⟨x, len, cap, m, n, V0, V1, D0, D1, P0, P1, hcs, _, hl, hm, hmm, hx, hr⟩
  · exact ⟨_, [], hcs, HS.nil _ _⟩
  · simp only [if_true] at hmm
    subst hmm
    subst hx
    have hlen : len ≤ 140737488351232 := by
      have hb : Try.prog.bytesOf 52 = 32 := by kernel_rfl
      have := hz _ (by simp only [DataW.weights, Try.underlying25]; exact List.mem_cons_self)
      have e : reachBytes = 140737488351232 := by kernel_rfl
      rw [e, hb] at this
      simp at this
      omega
    have each : ∀ i, i < len → ∃ z : Int × List Int, V0 i = .int .u8 z.1 ∧ (0 ≤ z.1 ∧ z.1 < 256) ∧ RowC W (V1 i) z.2 := by
      intro i hi
      obtain ⟨_, _, r0, r1⟩ := hr i (by omega)
      obtain ⟨z0, e0, _, w0⟩ := DataW.trod_int Try.underlying5 r0
      have hb := bounds_u8 w0
      obtain ⟨v', zs, ev, hby⟩ := open_row1 r1 (fun k hk => hz k (by
        simp only [DataW.weights, Try.underlying25]
        refine List.mem_cons_of_mem _ (List.mem_append_left _ (weights_mem_all (d := .agg [D0 i, D1 i]) (List.mem_map.2 ⟨i, List.mem_range.2 hi, rfl⟩) k ?_))
        simp only [DataW.weights, Try.underlying52]
        exact DataW.weights_mem_each (j := 1) rfl rfl k hk))
      simp at e0 ev
      subst ev
      exact ⟨(z0, zs), e0, by simp; omega, hby⟩
    obtain ⟨os, ho⟩ : ∃ os : Opts, os.length = len ∧ ∀ i, i < len → V0 i = .int .u8 (oK os i) ∧ (0 ≤ oK os i ∧ oK os i < 256) ∧ RowC W (V1 i) (oD os i) := by
      obtain ⟨q, hq⟩ := Go.Deep.choose_lt each
      refine ⟨(List.range len).map q, by simp, fun i hi => ?_⟩
      have := hq i hi
      simpa [oK, oD, hi] using this
    refine ⟨_, os, hcs, fun j => ?_, by omega, some x, m, by rw [ho.1], ?_⟩
    · by_cases hj : j < len
      · exact (ho.2 j hj).2.1
      · have : os[j]? = none := List.getElem?_eq_none (by omega)
        simp [oK, this]
    · by_cases h0 : len = 0
      · exact .inl (by omega)
      · right
        have hr0 := (hr 0 (by omega)).1
        obtain ⟨b, off, spot⟩ := x
        have hspot : spot = none := by simpa [Addr.add] using World.cell?_spot hr0
        subst hspot
        have hbl : b < W.heap.size := by have := cell_block hr0; simpa [Addr.add] using this
        refine ⟨b, off, rfl, hbl, hbl, fun j hj => ?_⟩
        obtain ⟨q0, q1, _, _⟩ := hr j (by omega)
        obtain ⟨e0, _, hb⟩ := ho.2 j (by omega)
        rw [add_plain] at q0 q1
        rw [e0] at q0
        exact ⟨q0, V1 j, q1, BS.of_row hb⟩


theorem bounds_i64 {a : Int} (h : (Lit.int .i64 a).wf = true) : -9223372036854775808 ≤ a ∧ a ≤ 9223372036854775807 := by
  have e : IntKind.i64.min = -9223372036854775808 := rfl
  have h2 : IntKind.i64.min ≤ a ∧ a ≤ 9223372036854775807 := by simpa [Lit.wf] using h
  rwa [e] at h2
theorem bounds_u32' {a : Int} (h : (Lit.int .u32 a).wf = true) : 0 ≤ a ∧ a ≤ 4294967295 := by
  have e : IntKind.u32.min = 0 := rfl
  have e2 : IntKind.u32.max = 4294967295 := rfl
  have h2 : IntKind.u32.min ≤ a ∧ a ≤ IntKind.u32.max := by simpa [Lit.wf] using h
  rwa [e, e2] at h2
theorem list12 {α : Type} {l : List α} (h : l.length = 12) : ∃ x0 x1 x2 x3 x4 x5 x6 x7 x8 x9 x10 x11, l = [x0, x1, x2, x3, x4, x5, x6, x7, x8, x9, x10, x11] := by
  match l, h with
  | [x0, x1, x2, x3, x4, x5, x6, x7, x8, x9, x10, x11], _ => exact ⟨x0, x1, x2, x3, x4, x5, x6, x7, x8, x9, x10, x11, rfl⟩
theorem split42 {l : List Value} (h : l.length = 42) : l = (l.drop 0).take 1 ++ ((l.drop 1).take 1 ++ ((l.drop 2).take 1 ++ ((l.drop 3).take 16 ++ ((l.drop 19).take 16 ++ ((l.drop 35).take 1 ++ ((l.drop 36).take 1 ++ ((l.drop 37).take 1 ++ ((l.drop 38).take 1 ++ ((l.drop 39).take 1 ++ ((l.drop 40).take 1 ++ ((l.drop 41).take 1))))))))))) := by
  rw [show (l.drop 41).take 1 = l.drop 41 from List.take_of_length_le (by simp; omega)]
  rw [show (l.drop 40).take 1 ++ l.drop 41 = l.drop 40 by have := List.take_append_drop 1 (l.drop 40); rwa [List.drop_drop] at this]
  rw [show (l.drop 39).take 1 ++ l.drop 40 = l.drop 39 by have := List.take_append_drop 1 (l.drop 39); rwa [List.drop_drop] at this]
  rw [show (l.drop 38).take 1 ++ l.drop 39 = l.drop 38 by have := List.take_append_drop 1 (l.drop 38); rwa [List.drop_drop] at this]
  rw [show (l.drop 37).take 1 ++ l.drop 38 = l.drop 37 by have := List.take_append_drop 1 (l.drop 37); rwa [List.drop_drop] at this]
  rw [show (l.drop 36).take 1 ++ l.drop 37 = l.drop 36 by have := List.take_append_drop 1 (l.drop 36); rwa [List.drop_drop] at this]
  rw [show (l.drop 35).take 1 ++ l.drop 36 = l.drop 35 by have := List.take_append_drop 1 (l.drop 35); rwa [List.drop_drop] at this]
  rw [show (l.drop 19).take 16 ++ l.drop 35 = l.drop 19 by have := List.take_append_drop 16 (l.drop 19); rwa [List.drop_drop] at this]
  rw [show (l.drop 3).take 16 ++ l.drop 19 = l.drop 3 by have := List.take_append_drop 16 (l.drop 3); rwa [List.drop_drop] at this]
  rw [show (l.drop 2).take 1 ++ l.drop 3 = l.drop 2 by have := List.take_append_drop 1 (l.drop 2); rwa [List.drop_drop] at this]
  rw [show (l.drop 1).take 1 ++ l.drop 2 = l.drop 1 by have := List.take_append_drop 1 (l.drop 1); rwa [List.drop_drop] at this]
  rw [show (l.drop 0).take 1 ++ l.drop 1 = l.drop 0 by have := List.take_append_drop 1 (l.drop 0); rwa [List.drop_drop] at this]
  rw [List.drop_zero]
set_option maxRecDepth 100000 in
set_option maxHeartbeats 1000000 in
theorem open_v6 {H : Type} {enc : TypeId × Value → H} {W : World} {v : Value} {d : DataW H} {p : List MemPlace} (h : DataW.Trod enc Try.prog W 0 (fun _ => true) true 28 v d p) (hz : ∀ k ∈ d.weights Try.prog 28, k ≤ reachBytes) :
    ∃ f g vh vb hs body, v = VV f g vh vb ∧ D6 (fun b => b < W.heap.size) W f vh vb hs body ∧ (-9223372036854775808 ≤ g.off ∧ g.off ≤ 9223372036854775807) ∧ (0 ≤ g.id ∧ g.id ≤ 4294967295) ∧ (∃ A, f.ad = u8L A ∧ Fit A) ∧ (0 ≤ f.cls ∧ f.cls ≤ 255) ∧ (0 ≤ f.hop ∧ f.hop ≤ 255) ∧ (0 ≤ f.proto ∧ f.proto ≤ 255) := by
  obtain ⟨fuel, hf⟩ := h
  obtain ⟨xs, m, _, hx, hl, hxl, hi⟩ := DataW.trod_struct Try.underlying28 hf
  have c42 : Try.prog.cellsOf 28 = 42 := by kernel_rfl
  rw [c42] at hl
  obtain ⟨x0, x1, x2, x3, x4, x5, x6, x7, x8, x9, x10, x11, rfl⟩ := list12 hxl
  have g0 : DataW.trod enc Try.prog W 0 (fun _ => true) true m 5 ((v.cells.toList.drop 0).take 1) = some x0 := by
    have e : DataW.trod enc Try.prog W 0 (fun _ => true) true m 5 ((v.cells.toList.drop 0).take (Try.prog.cellsOf 5)) = some x0 := hi 0 _ rfl
    rwa [show Try.prog.cellsOf 5 = 1 by kernel_rfl] at e
  have g1 : DataW.trod enc Try.prog W 0 (fun _ => true) true m 22 ((v.cells.toList.drop 1).take 1) = some x1 := by
    have e : DataW.trod enc Try.prog W 0 (fun _ => true) true m 22 ((v.cells.toList.drop 1).take (Try.prog.cellsOf 22)) = some x1 := hi 1 _ rfl
    rwa [show Try.prog.cellsOf 22 = 1 by kernel_rfl] at e
  have g2 : DataW.trod enc Try.prog W 0 (fun _ => true) true m 5 ((v.cells.toList.drop 2).take 1) = some x2 := by
    have e : DataW.trod enc Try.prog W 0 (fun _ => true) true m 5 ((v.cells.toList.drop 2).take (Try.prog.cellsOf 5)) = some x2 := hi 2 _ rfl
    rwa [show Try.prog.cellsOf 5 = 1 by kernel_rfl] at e
  have g3 : DataW.trod enc Try.prog W 0 (fun _ => true) true m 24 ((v.cells.toList.drop 3).take 16) = some x3 := by
    have e : DataW.trod enc Try.prog W 0 (fun _ => true) true m 24 ((v.cells.toList.drop 3).take (Try.prog.cellsOf 24)) = some x3 := hi 3 _ rfl
    rwa [show Try.prog.cellsOf 24 = 16 by kernel_rfl] at e
  have g4 : DataW.trod enc Try.prog W 0 (fun _ => true) true m 24 ((v.cells.toList.drop 19).take 16) = some x4 := by
    have e : DataW.trod enc Try.prog W 0 (fun _ => true) true m 24 ((v.cells.toList.drop 19).take (Try.prog.cellsOf 24)) = some x4 := hi 4 _ rfl
    rwa [show Try.prog.cellsOf 24 = 16 by kernel_rfl] at e
  have g5 : DataW.trod enc Try.prog W 0 (fun _ => true) true m 25 ((v.cells.toList.drop 35).take 1) = some x5 := by
    have e : DataW.trod enc Try.prog W 0 (fun _ => true) true m 25 ((v.cells.toList.drop 35).take (Try.prog.cellsOf 25)) = some x5 := hi 5 _ rfl
    rwa [show Try.prog.cellsOf 25 = 1 by kernel_rfl] at e
  have g6 : DataW.trod enc Try.prog W 0 (fun _ => true) true m 4 ((v.cells.toList.drop 36).take 1) = some x6 := by
    have e : DataW.trod enc Try.prog W 0 (fun _ => true) true m 4 ((v.cells.toList.drop 36).take (Try.prog.cellsOf 4)) = some x6 := hi 6 _ rfl
    rwa [show Try.prog.cellsOf 4 = 1 by kernel_rfl] at e
  have g7 : DataW.trod enc Try.prog W 0 (fun _ => true) true m 22 ((v.cells.toList.drop 37).take 1) = some x7 := by
    have e : DataW.trod enc Try.prog W 0 (fun _ => true) true m 22 ((v.cells.toList.drop 37).take (Try.prog.cellsOf 22)) = some x7 := hi 7 _ rfl
    rwa [show Try.prog.cellsOf 22 = 1 by kernel_rfl] at e
  have g8 : DataW.trod enc Try.prog W 0 (fun _ => true) true m 3 ((v.cells.toList.drop 38).take 1) = some x8 := by
    have e : DataW.trod enc Try.prog W 0 (fun _ => true) true m 3 ((v.cells.toList.drop 38).take (Try.prog.cellsOf 3)) = some x8 := hi 8 _ rfl
    rwa [show Try.prog.cellsOf 3 = 1 by kernel_rfl] at e
  have g9 : DataW.trod enc Try.prog W 0 (fun _ => true) true m 4 ((v.cells.toList.drop 39).take 1) = some x9 := by
    have e : DataW.trod enc Try.prog W 0 (fun _ => true) true m 4 ((v.cells.toList.drop 39).take (Try.prog.cellsOf 4)) = some x9 := hi 9 _ rfl
    rwa [show Try.prog.cellsOf 4 = 1 by kernel_rfl] at e
  have g10 : DataW.trod enc Try.prog W 0 (fun _ => true) true m 5 ((v.cells.toList.drop 40).take 1) = some x10 := by
    have e : DataW.trod enc Try.prog W 0 (fun _ => true) true m 5 ((v.cells.toList.drop 40).take (Try.prog.cellsOf 5)) = some x10 := hi 10 _ rfl
    rwa [show Try.prog.cellsOf 5 = 1 by kernel_rfl] at e
  have g11 : DataW.trod enc Try.prog W 0 (fun _ => true) true m 26 ((v.cells.toList.drop 41).take 1) = some x11 := by
    have e : DataW.trod enc Try.prog W 0 (fun _ => true) true m 26 ((v.cells.toList.drop 41).take (Try.prog.cellsOf 26)) = some x11 := hi 11 _ rfl
    rwa [show Try.prog.cellsOf 26 = 1 by kernel_rfl] at e
  obtain ⟨rfl, rfl⟩ := Prod.mk.inj hx
  have w5 : ∀ k ∈ x5.1.weights Try.prog 25, k ≤ reachBytes := fun k hk => hz k (by
    simp only [DataW.weights, Try.underlying28]
    exact DataW.weights_mem_each (j := 5) rfl rfl k hk)
  have w11 : ∀ k ∈ x11.1.weights Try.prog 26, k ≤ reachBytes := fun k hk => hz k (by
    simp only [DataW.weights, Try.underlying28]
    exact DataW.weights_mem_each (j := 11) rfl rfl k hk)
  obtain ⟨cls, e0, _, f0⟩ := DataW.trod_int Try.underlying5 g0
  obtain ⟨lab, e1, _, f1⟩ := DataW.trod_int Try.underlying22 g1
  obtain ⟨hop, e2, _, f2⟩ := DataW.trod_int Try.underlying5 g2
  obtain ⟨A, lA, e3, fA⟩ := cells_arr Try.underlying24 (by kernel_rfl) g3
  obtain ⟨B, lB, e4, fB⟩ := cells_arr Try.underlying24 (by kernel_rfl) g4
  obtain ⟨vh, hs, e5, h5⟩ := open_heads g5 w5
  obtain ⟨fr, e6, _⟩ := DataW.trod_bool Try.underlying4 g6
  obtain ⟨id, e7, _, f7⟩ := DataW.trod_int Try.underlying22 g7
  obtain ⟨off, e8, _, f8⟩ := DataW.trod_int Try.underlying3 g8
  obtain ⟨more, e9, _⟩ := DataW.trod_bool Try.underlying4 g9
  obtain ⟨proto, e10, _, f10⟩ := DataW.trod_int Try.underlying5 g10
  obtain ⟨vb, body, e11, h11⟩ := open_row1 g11 w11
  have hall := split42 hl
  rw [e0, e1, e2, e3, e4, e5, e6, e7, e8, e9, e10, e11] at hall
  have hv := agg_cells hall (by simp)
  have q0 := bounds_u8 f0
  have q2 := bounds_u8 f2
  have q10 := bounds_u8 f10
  refine ⟨⟨cls, lab, hop, proto, u8L A ++ u8L B, by simp [u8L, lA, lB], fun x hx => ?_⟩, ⟨fr, id, off, more⟩, vh, vb, hs, body, ?_, ⟨h5, BS.of_row h11, bounds_u32' f1⟩, bounds_i64 f8, bounds_u32' f7, ⟨A ++ B, by simp [u8L], fun z hz => ?_⟩, by omega, by omega, by omega⟩
  · simp [u8L] at hx
    rcases hx with ⟨z, _, rfl⟩ | ⟨z, _, rfl⟩ <;> rfl
  · rw [hv]
    simp [vC]
  · rcases List.mem_append.1 hz with hz | hz
    · exact fA z hz
    · exact fB z hz

end Go.Proofs.Ytbaeogoojpngbaa
