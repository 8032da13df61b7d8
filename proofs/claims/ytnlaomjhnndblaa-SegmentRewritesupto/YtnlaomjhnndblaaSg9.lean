/-
  Datagrams of UDP, segments and ends as arguments.
-/
import Derived.Test.YtnlaomjhnndblaaSg8
namespace Go.Proofs.Ytnlaomjhnndblaa
open Go Go.RowKit Go.ChangeShapes Go.WideShapes Go.ChangeAt
set_option linter.unusedVariables false
set_option linter.unusedSimpArgs false

def numOf : Value → Int
  | .int _ z => z
  | _ => 0
theorem cells_arr {H : Type} {enc : TypeId × Value → H} {w : World} {base : Nat} {spare : Nat → Bool} {held : Bool} {fuel : Nat} {cs : List Value} {x : DataW H × List MemPlace} {t : TypeId} {N : Nat} (hu : Try.prog.underlying t = some (.array N 5)) (ct : Try.prog.cellsOf t = N)
    (h : DataW.trod enc Try.prog w base spare held fuel t cs = some x) : ∃ A : List Int, A.length = N ∧ cs = u8L A ∧ Fit A := by
  obtain ⟨xs, m, _, _, hl, hx, hi⟩ := DataW.trod_array hu h
  have ce : Try.prog.cellsOf 5 = 1 := by kernel_rfl
  rw [ct] at hl
  have each : ∀ i, i < N → ∃ z : Int, cs[i]? = some (.int .u8 z) ∧ 0 ≤ z ∧ z < 256 := by
    intro i hin
    have h1 := hi i hin
    rw [ce, Nat.mul_one, List.getElem?_eq_getElem (by omega)] at h1
    obtain ⟨z, e, _, wf⟩ := DataW.trod_int Try.underlying5 h1
    have hb := bounds_u8 wf
    refine ⟨z, ?_, by omega, by omega⟩
    have e2 := congrArg (fun l : List Value => l[0]?) e
    simpa [List.getElem?_take, List.getElem?_drop] using e2
  refine ⟨cs.map numOf, by simp [hl], ?_, ?_⟩
  · apply List.ext_getElem?
    intro i
    by_cases hi' : i < N
    · obtain ⟨z, hz, _⟩ := each i hi'
      simp [u8L, hz, numOf]
    · rw [List.getElem?_eq_none (by omega), List.getElem?_eq_none (by simp [u8L]; omega)]
  · intro z hz
    obtain ⟨v, hv, rfl⟩ := List.mem_map.1 hz
    obtain ⟨i, hi', rfl⟩ := List.getElem_of_mem hv
    obtain ⟨z, hz, hb⟩ := each i (by omega)
    rw [List.getElem?_eq_getElem hi'] at hz
    simp only [Option.some.injEq] at hz
    rw [hz]
    exact hb
theorem split_ends {l : List Value} (h : l.length = 40) : l = (l.drop 0).take 4 ++ ((l.drop 4).take 4 ++ ((l.drop 8).take 16 ++ (l.drop 24).take 16)) := by
  have e3 : (l.drop 24).take 16 = l.drop 24 := List.take_of_length_le (by simp; omega)
  have e2 : (l.drop 8).take 16 ++ l.drop 24 = l.drop 8 := by
    have := List.take_append_drop 16 (l.drop 8)
    rwa [List.drop_drop] at this
  have e1 : (l.drop 4).take 4 ++ l.drop 8 = l.drop 4 := by
    have := List.take_append_drop 4 (l.drop 4)
    rwa [List.drop_drop] at this
  rw [e3, e2, e1, List.drop_zero, List.take_append_drop]

theorem split_udp {l : List Value} (h : l.length = 3) : l = (l.drop 0).take 1 ++ ((l.drop 1).take 1 ++ ((l.drop 2).take 1)) := by
  match l, h with
  | [_, _, _], _ => rfl
theorem list_udp {α : Type} {l : List α} (h : l.length = 3) : ∃ x0 x1 x2, l = [x0, x1, x2] := by
  match l, h with
  | [x0, x1, x2], _ => exact ⟨x0, x1, x2, rfl⟩
set_option maxRecDepth 100000 in
theorem open_udp {H : Type} {enc : TypeId × Value → H} {W : World} {v : Value} {d : DataW H} {p : List MemPlace} (h : DataW.Trod enc Try.prog W 0 (fun _ => true) true 31 v d p) (hz : ∀ k ∈ d.weights Try.prog 31, k ≤ reachBytes) :
    ∃ c src dst data, v = .agg c.toArray ∧ UdpC W c src dst data := by
  obtain ⟨fuel, hf⟩ := h
  obtain ⟨xs, m, _, hx, hl, hxl, hi⟩ := DataW.trod_struct Try.underlying31 hf
  have cT : Try.prog.cellsOf 31 = 3 := by kernel_rfl
  rw [cT] at hl
  obtain ⟨x0, x1, x2, rfl⟩ := list_udp hxl
  have g0 : DataW.trod enc Try.prog W 0 (fun _ => true) true m 28 ((v.cells.toList.drop 0).take 1) = some x0 := by
    have e : DataW.trod enc Try.prog W 0 (fun _ => true) true m 28 ((v.cells.toList.drop 0).take (Try.prog.cellsOf 28)) = some x0 := hi 0 _ rfl
    rwa [show Try.prog.cellsOf 28 = 1 by kernel_rfl] at e
  have g1 : DataW.trod enc Try.prog W 0 (fun _ => true) true m 28 ((v.cells.toList.drop 1).take 1) = some x1 := by
    have e : DataW.trod enc Try.prog W 0 (fun _ => true) true m 28 ((v.cells.toList.drop 1).take (Try.prog.cellsOf 28)) = some x1 := hi 1 _ rfl
    rwa [show Try.prog.cellsOf 28 = 1 by kernel_rfl] at e
  have g2 : DataW.trod enc Try.prog W 0 (fun _ => true) true m 29 ((v.cells.toList.drop 2).take 1) = some x2 := by
    have e : DataW.trod enc Try.prog W 0 (fun _ => true) true m 29 ((v.cells.toList.drop 2).take (Try.prog.cellsOf 29)) = some x2 := hi 2 _ rfl
    rwa [show Try.prog.cellsOf 29 = 1 by kernel_rfl] at e
  obtain ⟨rfl, rfl⟩ := Prod.mk.inj hx
  have w2 : ∀ k ∈ x2.1.weights Try.prog 29, k ≤ reachBytes := fun k hk => hz k (by
    simp only [DataW.weights, Try.underlying31]
    exact DataW.weights_mem_each (j := 2) rfl rfl k hk)
  obtain ⟨n0, e0, _, f0⟩ := DataW.trod_int Try.underlying28 g0
  have q0 := bounds_u16 f0
  obtain ⟨n1, e1, _, f1⟩ := DataW.trod_int Try.underlying28 g1
  have q1 := bounds_u16 f1
  obtain ⟨s2, z2, e2, b2⟩ := open_bytes1 g2 w2
  have hall := split_udp hl
  rw [e0, e1, e2] at hall
  have hv := agg_cells hall (by simp)
  exact ⟨_, n0, n1, z2, hv, ⟨s2, rfl, b2⟩, q0, q1⟩
theorem split_tcp {l : List Value} (h : l.length = 9) : l = (l.drop 0).take 1 ++ ((l.drop 1).take 1 ++ ((l.drop 2).take 1 ++ ((l.drop 3).take 1 ++ ((l.drop 4).take 1 ++ ((l.drop 5).take 1 ++ ((l.drop 6).take 1 ++ ((l.drop 7).take 1 ++ ((l.drop 8).take 1)))))))) := by
  match l, h with
  | [_, _, _, _, _, _, _, _, _], _ => rfl
theorem list_tcp {α : Type} {l : List α} (h : l.length = 9) : ∃ x0 x1 x2 x3 x4 x5 x6 x7 x8, l = [x0, x1, x2, x3, x4, x5, x6, x7, x8] := by
  match l, h with
  | [x0, x1, x2, x3, x4, x5, x6, x7, x8], _ => exact ⟨x0, x1, x2, x3, x4, x5, x6, x7, x8, rfl⟩
set_option maxRecDepth 100000 in
theorem open_tcp {H : Type} {enc : TypeId × Value → H} {W : World} {v : Value} {d : DataW H} {p : List MemPlace} (h : DataW.Trod enc Try.prog W 0 (fun _ => true) true 34 v d p) (hz : ∀ k ∈ d.weights Try.prog 34, k ≤ reachBytes) :
    ∃ c t, v = .agg c.toArray ∧ TcpC W c t := by
  obtain ⟨fuel, hf⟩ := h
  obtain ⟨xs, m, _, hx, hl, hxl, hi⟩ := DataW.trod_struct Try.underlying34 hf
  have cT : Try.prog.cellsOf 34 = 9 := by kernel_rfl
  rw [cT] at hl
  obtain ⟨x0, x1, x2, x3, x4, x5, x6, x7, x8, rfl⟩ := list_tcp hxl
  have g0 : DataW.trod enc Try.prog W 0 (fun _ => true) true m 28 ((v.cells.toList.drop 0).take 1) = some x0 := by
    have e : DataW.trod enc Try.prog W 0 (fun _ => true) true m 28 ((v.cells.toList.drop 0).take (Try.prog.cellsOf 28)) = some x0 := hi 0 _ rfl
    rwa [show Try.prog.cellsOf 28 = 1 by kernel_rfl] at e
  have g1 : DataW.trod enc Try.prog W 0 (fun _ => true) true m 28 ((v.cells.toList.drop 1).take 1) = some x1 := by
    have e : DataW.trod enc Try.prog W 0 (fun _ => true) true m 28 ((v.cells.toList.drop 1).take (Try.prog.cellsOf 28)) = some x1 := hi 1 _ rfl
    rwa [show Try.prog.cellsOf 28 = 1 by kernel_rfl] at e
  have g2 : DataW.trod enc Try.prog W 0 (fun _ => true) true m 32 ((v.cells.toList.drop 2).take 1) = some x2 := by
    have e : DataW.trod enc Try.prog W 0 (fun _ => true) true m 32 ((v.cells.toList.drop 2).take (Try.prog.cellsOf 32)) = some x2 := hi 2 _ rfl
    rwa [show Try.prog.cellsOf 32 = 1 by kernel_rfl] at e
  have g3 : DataW.trod enc Try.prog W 0 (fun _ => true) true m 32 ((v.cells.toList.drop 3).take 1) = some x3 := by
    have e : DataW.trod enc Try.prog W 0 (fun _ => true) true m 32 ((v.cells.toList.drop 3).take (Try.prog.cellsOf 32)) = some x3 := hi 3 _ rfl
    rwa [show Try.prog.cellsOf 32 = 1 by kernel_rfl] at e
  have g4 : DataW.trod enc Try.prog W 0 (fun _ => true) true m 5 ((v.cells.toList.drop 4).take 1) = some x4 := by
    have e : DataW.trod enc Try.prog W 0 (fun _ => true) true m 5 ((v.cells.toList.drop 4).take (Try.prog.cellsOf 5)) = some x4 := hi 4 _ rfl
    rwa [show Try.prog.cellsOf 5 = 1 by kernel_rfl] at e
  have g5 : DataW.trod enc Try.prog W 0 (fun _ => true) true m 28 ((v.cells.toList.drop 5).take 1) = some x5 := by
    have e : DataW.trod enc Try.prog W 0 (fun _ => true) true m 28 ((v.cells.toList.drop 5).take (Try.prog.cellsOf 28)) = some x5 := hi 5 _ rfl
    rwa [show Try.prog.cellsOf 28 = 1 by kernel_rfl] at e
  have g6 : DataW.trod enc Try.prog W 0 (fun _ => true) true m 28 ((v.cells.toList.drop 6).take 1) = some x6 := by
    have e : DataW.trod enc Try.prog W 0 (fun _ => true) true m 28 ((v.cells.toList.drop 6).take (Try.prog.cellsOf 28)) = some x6 := hi 6 _ rfl
    rwa [show Try.prog.cellsOf 28 = 1 by kernel_rfl] at e
  have g7 : DataW.trod enc Try.prog W 0 (fun _ => true) true m 29 ((v.cells.toList.drop 7).take 1) = some x7 := by
    have e : DataW.trod enc Try.prog W 0 (fun _ => true) true m 29 ((v.cells.toList.drop 7).take (Try.prog.cellsOf 29)) = some x7 := hi 7 _ rfl
    rwa [show Try.prog.cellsOf 29 = 1 by kernel_rfl] at e
  have g8 : DataW.trod enc Try.prog W 0 (fun _ => true) true m 29 ((v.cells.toList.drop 8).take 1) = some x8 := by
    have e : DataW.trod enc Try.prog W 0 (fun _ => true) true m 29 ((v.cells.toList.drop 8).take (Try.prog.cellsOf 29)) = some x8 := hi 8 _ rfl
    rwa [show Try.prog.cellsOf 29 = 1 by kernel_rfl] at e
  obtain ⟨rfl, rfl⟩ := Prod.mk.inj hx
  have w7 : ∀ k ∈ x7.1.weights Try.prog 29, k ≤ reachBytes := fun k hk => hz k (by
    simp only [DataW.weights, Try.underlying34]
    exact DataW.weights_mem_each (j := 7) rfl rfl k hk)
  have w8 : ∀ k ∈ x8.1.weights Try.prog 29, k ≤ reachBytes := fun k hk => hz k (by
    simp only [DataW.weights, Try.underlying34]
    exact DataW.weights_mem_each (j := 8) rfl rfl k hk)
  obtain ⟨n0, e0, _, f0⟩ := DataW.trod_int Try.underlying28 g0
  have q0 := bounds_u16 f0
  obtain ⟨n1, e1, _, f1⟩ := DataW.trod_int Try.underlying28 g1
  have q1 := bounds_u16 f1
  obtain ⟨n2, e2, _, f2⟩ := DataW.trod_int Try.underlying32 g2
  have q2 := bounds_u32 f2
  obtain ⟨n3, e3, _, f3⟩ := DataW.trod_int Try.underlying32 g3
  have q3 := bounds_u32 f3
  obtain ⟨n4, e4, _, f4⟩ := DataW.trod_int Try.underlying5 g4
  have q4 := bounds_u8 f4
  obtain ⟨n5, e5, _, f5⟩ := DataW.trod_int Try.underlying28 g5
  have q5 := bounds_u16 f5
  obtain ⟨n6, e6, _, f6⟩ := DataW.trod_int Try.underlying28 g6
  have q6 := bounds_u16 f6
  obtain ⟨s7, z7, e7, b7⟩ := open_bytes1 g7 w7
  obtain ⟨s8, z8, e8, b8⟩ := open_bytes1 g8 w8
  have hall := split_tcp hl
  rw [e0, e1, e2, e3, e4, e5, e6, e7, e8] at hall
  have hv := agg_cells hall (by simp)
  have q4b : 0 ≤ n4 ∧ n4 < 256 := by omega
  exact ⟨_, ⟨n0, n1, n2, n3, n4, n5, n6, z7, z8⟩, hv, ⟨s7, s8, rfl, b7, b8⟩, q0, q1, q2, q3, q4b, q5, q6⟩
theorem list_ends {α : Type} {l : List α} (h : l.length = 4) : ∃ x0 x1 x2 x3, l = [x0, x1, x2, x3] := by
  match l, h with
  | [x0, x1, x2, x3], _ => exact ⟨x0, x1, x2, x3, rfl⟩
set_option maxRecDepth 100000 in
theorem open_ends {H : Type} {enc : TypeId × Value → H} {W : World} {v : Value} {d : DataW H} {p : List MemPlace} (h : DataW.Trod enc Try.prog W 0 (fun _ => true) true 27 v d p) (hz : ∀ k ∈ d.weights Try.prog 27, k ≤ reachBytes) :
    ∃ A B C D : List Int, v = .agg (u8L A ++ (u8L B ++ (u8L C ++ u8L D))).toArray ∧ A.length = 4 ∧ B.length = 4 ∧ C.length = 16 ∧ D.length = 16 ∧ Fit A ∧ Fit B ∧ Fit C ∧ Fit D := by
  obtain ⟨fuel, hf⟩ := h
  obtain ⟨xs, m, _, hx, hl, hxl, hi⟩ := DataW.trod_struct Try.underlying27 hf
  have cT : Try.prog.cellsOf 27 = 40 := by kernel_rfl
  rw [cT] at hl
  obtain ⟨x0, x1, x2, x3, rfl⟩ := list_ends hxl
  have g0 : DataW.trod enc Try.prog W 0 (fun _ => true) true m 23 ((v.cells.toList.drop 0).take 4) = some x0 := by
    have e : DataW.trod enc Try.prog W 0 (fun _ => true) true m 23 ((v.cells.toList.drop 0).take (Try.prog.cellsOf 23)) = some x0 := hi 0 _ rfl
    rwa [show Try.prog.cellsOf 23 = 4 by kernel_rfl] at e
  have g1 : DataW.trod enc Try.prog W 0 (fun _ => true) true m 23 ((v.cells.toList.drop 4).take 4) = some x1 := by
    have e : DataW.trod enc Try.prog W 0 (fun _ => true) true m 23 ((v.cells.toList.drop 4).take (Try.prog.cellsOf 23)) = some x1 := hi 1 _ rfl
    rwa [show Try.prog.cellsOf 23 = 4 by kernel_rfl] at e
  have g2 : DataW.trod enc Try.prog W 0 (fun _ => true) true m 25 ((v.cells.toList.drop 8).take 16) = some x2 := by
    have e : DataW.trod enc Try.prog W 0 (fun _ => true) true m 25 ((v.cells.toList.drop 8).take (Try.prog.cellsOf 25)) = some x2 := hi 2 _ rfl
    rwa [show Try.prog.cellsOf 25 = 16 by kernel_rfl] at e
  have g3 : DataW.trod enc Try.prog W 0 (fun _ => true) true m 25 ((v.cells.toList.drop 24).take 16) = some x3 := by
    have e : DataW.trod enc Try.prog W 0 (fun _ => true) true m 25 ((v.cells.toList.drop 24).take (Try.prog.cellsOf 25)) = some x3 := hi 3 _ rfl
    rwa [show Try.prog.cellsOf 25 = 16 by kernel_rfl] at e
  obtain ⟨rfl, rfl⟩ := Prod.mk.inj hx
  obtain ⟨A0, l0, e0, f0⟩ := cells_arr Try.underlying23 (by kernel_rfl) g0
  obtain ⟨A1, l1, e1, f1⟩ := cells_arr Try.underlying23 (by kernel_rfl) g1
  obtain ⟨A2, l2, e2, f2⟩ := cells_arr Try.underlying25 (by kernel_rfl) g2
  obtain ⟨A3, l3, e3, f3⟩ := cells_arr Try.underlying25 (by kernel_rfl) g3
  have hall := split_ends hl
  rw [e0, e1, e2, e3] at hall
  have hv := agg_cells hall (by simp [u8L, l0]; omega)
  exact ⟨A0, A1, A2, A3, hv, l0, l1, l2, l3, f0, f1, f2, f3⟩

end Go.Proofs.Ytnlaomjhnndblaa
