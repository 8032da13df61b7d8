/-
  An IPv4 datagram as argument; the statement Ipv4Writes for every argument.
-/
import Derived.Test.YtmoogfdmlbalbaaIp9
import Derived.OpenShut
import Derived.ChangeArms
import Derived.ProofKit
import Derived.SizedLaws
namespace Go.Proofs.Ytmoogfdmlbalbaa
open Go Go.RowKit Go.ChangeShapes Go.WideShapes Go.ChangeAt
set_option linter.unusedVariables false
set_option linter.unusedSimpArgs false

theorem listV4 {l : List Value} (h : l.length = 4) : ∃ x0 x1 x2 x3, l = [x0, x1, x2, x3] := by
  match l, h with
  | [x0, x1, x2, x3], _ => exact ⟨x0, x1, x2, x3, rfl⟩
theorem cells_arr4 {H : Type} {enc : TypeId × Value → H} {w : World} {base : Nat} {spare : Nat → Bool} {held : Bool} {fuel : Nat} {cs : List Value} {x : DataW H × List MemPlace}
    (h : DataW.trod enc Try.prog w base spare held fuel 24 cs = some x) : ∃ s0 s1 s2 s3 : Int, cs = [.int .u8 s0, .int .u8 s1, .int .u8 s2, .int .u8 s3] ∧ Fit [s0, s1, s2, s3] := by
  obtain ⟨xs, m, _, _, hl, hx, hi⟩ := DataW.trod_array Try.underlying24 h
  have ct : Try.prog.cellsOf 24 = 4 := by kernel_rfl
  have ce : Try.prog.cellsOf 5 = 1 := by kernel_rfl
  rw [ct] at hl
  have each : ∀ i, i < 4 → ∃ z : Int, cs[i]? = some (.int .u8 z) ∧ 0 ≤ z ∧ z < 256 := by
    intro i hin
    have h1 := hi i hin
    rw [ce, Nat.mul_one, List.getElem?_eq_getElem (by omega)] at h1
    obtain ⟨z, e, _, wf⟩ := DataW.trod_int Try.underlying5 h1
    have hb := bounds_u8 wf
    refine ⟨z, ?_, by omega, by omega⟩
    have e2 := congrArg (fun l : List Value => l[0]?) e
    simpa [List.getElem?_take, List.getElem?_drop] using e2
  obtain ⟨a, ha, fa⟩ := each 0 (by decide)
  obtain ⟨b, hb, fb⟩ := each 1 (by decide)
  obtain ⟨c, hc, fc⟩ := each 2 (by decide)
  obtain ⟨d, hd, fd⟩ := each 3 (by decide)
  obtain ⟨x0, x1, x2, x3, rfl⟩ := listV4 hl
  simp at ha hb hc hd
  subst ha hb hc hd
  refine ⟨a, b, c, d, rfl, fun z hz => ?_⟩
  simp at hz
  rcases hz with rfl | rfl | rfl | rfl <;> assumption

theorem open_bytes1 {H : Type} {enc : TypeId × Value → H} {W : World} {fuel : Nat} {cs : List Value} {x : DataW H × List MemPlace} (h : DataW.trod enc Try.prog W 0 (fun _ => true) true fuel 25 cs = some x) (hz : ∀ k ∈ x.1.weights Try.prog 25, k ≤ reachBytes) :
    ∃ v zs, cs = [v] ∧ BytesAt W.heap.size W v zs := by
  rcases open_ints Try.underlying25 Try.underlying5 (by kernel_rfl) h with ⟨rfl, _⟩ | ⟨a, len, cap, zs, rfl, _, hl, hm, hzl, rfl, hcell, hwz⟩
  · exact ⟨_, [], rfl, BytesAt.none W⟩
  · have hzl' : zs.length = cap := by simpa using hzl
    have hb : Try.prog.bytesOf 5 = 1 := by kernel_rfl
    have hr : cap ≤ 140737488351232 := by
      have := hz ((zs.take len).length * 1 + (zs.drop len).length * 1) (by
        simp only [DataW.weights, Try.underlying25, hb]
        simp [lits])
      have e : reachBytes = 140737488351232 := by kernel_rfl
      rw [e] at this
      simp at this
      omega
    have hrow : IsRowB W (some a) len cap zs := .inr ⟨a, rfl, hl, hm, hzl', hcell, hwz⟩
    exact ⟨_, _, rfl, hrow.bytes len (Nat.le_refl _) (by omega)⟩

theorem agg_cells {v : Value} {l : List Value} (h : v.cells.toList = l) (hl : 2 ≤ l.length) : v = .agg l.toArray := by
  cases v
  case agg cs => simp only [Value.cells] at h; rw [← h]
  all_goals (simp [Value.cells] at h; subst h; simp at hl)

theorem seventeen {l : List Value} (h : l.length = 17) : l = (l.drop 0).take 1 ++ ((l.drop 1).take 1 ++ ((l.drop 2).take 1 ++ ((l.drop 3).take 1 ++ ((l.drop 4).take 1 ++ ((l.drop 5).take 1 ++ ((l.drop 6).take 1 ++ ((l.drop 7).take 4 ++ ((l.drop 11).take 4 ++ ((l.drop 15).take 1 ++ (l.drop 16).take 1))))))))) := by
  match l, h with
  | [_, _, _, _, _, _, _, _, _, _, _, _, _, _, _, _, _], _ => rfl

theorem list11 {α : Type} {l : List α} (h : l.length = 11) : ∃ x0 x1 x2 x3 x4 x5 x6 x7 x8 x9 x10, l = [x0, x1, x2, x3, x4, x5, x6, x7, x8, x9, x10] := by
  match l, h with
  | [x0, x1, x2, x3, x4, x5, x6, x7, x8, x9, x10], _ => exact ⟨x0, x1, x2, x3, x4, x5, x6, x7, x8, x9, x10, rfl⟩
set_option maxRecDepth 100000 in
theorem open_v4 {H : Type} {enc : TypeId × Value → H} {W : World} {v : Value} {d : DataW H} {p : List MemPlace} (h : DataW.Trod enc Try.prog W 0 (fun _ => true) true 27 v d p) (hz : ∀ k ∈ d.weights Try.prog 27, k ≤ reachBytes) :
    ∃ c tos id df mf off ttl proto s0 s1 s2 s3 d0 d1 d2 d3 opts body, v = .agg c.toArray ∧ Dgram W c tos id df mf off ttl proto s0 s1 s2 s3 d0 d1 d2 d3 opts body := by
  obtain ⟨fuel, hf⟩ := h
  obtain ⟨xs, m, _, hx, hl, hxl, hi⟩ := DataW.trod_struct Try.underlying27 hf
  have c17 : Try.prog.cellsOf 27 = 17 := by kernel_rfl
  rw [c17] at hl
  obtain ⟨x0, x1, x2, x3, x4, x5, x6, x7, x8, x9, x10, rfl⟩ := list11 hxl
  have g0 : DataW.trod enc Try.prog W 0 (fun _ => true) true m 5 ((v.cells.toList.drop 0).take 1) = some x0 := by
    have e : DataW.trod enc Try.prog W 0 (fun _ => true) true m 5 ((v.cells.toList.drop 0).take (Try.prog.cellsOf 5)) = some x0 := hi 0 _ rfl
    rwa [show Try.prog.cellsOf 5 = 1 by kernel_rfl] at e
  have g1 : DataW.trod enc Try.prog W 0 (fun _ => true) true m 22 ((v.cells.toList.drop 1).take 1) = some x1 := by
    have e : DataW.trod enc Try.prog W 0 (fun _ => true) true m 22 ((v.cells.toList.drop 1).take (Try.prog.cellsOf 22)) = some x1 := hi 1 _ rfl
    rwa [show Try.prog.cellsOf 22 = 1 by kernel_rfl] at e
  have g2 : DataW.trod enc Try.prog W 0 (fun _ => true) true m 4 ((v.cells.toList.drop 2).take 1) = some x2 := by
    have e : DataW.trod enc Try.prog W 0 (fun _ => true) true m 4 ((v.cells.toList.drop 2).take (Try.prog.cellsOf 4)) = some x2 := hi 2 _ rfl
    rwa [show Try.prog.cellsOf 4 = 1 by kernel_rfl] at e
  have g3 : DataW.trod enc Try.prog W 0 (fun _ => true) true m 4 ((v.cells.toList.drop 3).take 1) = some x3 := by
    have e : DataW.trod enc Try.prog W 0 (fun _ => true) true m 4 ((v.cells.toList.drop 3).take (Try.prog.cellsOf 4)) = some x3 := hi 3 _ rfl
    rwa [show Try.prog.cellsOf 4 = 1 by kernel_rfl] at e
  have g4 : DataW.trod enc Try.prog W 0 (fun _ => true) true m 3 ((v.cells.toList.drop 4).take 1) = some x4 := by
    have e : DataW.trod enc Try.prog W 0 (fun _ => true) true m 3 ((v.cells.toList.drop 4).take (Try.prog.cellsOf 3)) = some x4 := hi 4 _ rfl
    rwa [show Try.prog.cellsOf 3 = 1 by kernel_rfl] at e
  have g5 : DataW.trod enc Try.prog W 0 (fun _ => true) true m 5 ((v.cells.toList.drop 5).take 1) = some x5 := by
    have e : DataW.trod enc Try.prog W 0 (fun _ => true) true m 5 ((v.cells.toList.drop 5).take (Try.prog.cellsOf 5)) = some x5 := hi 5 _ rfl
    rwa [show Try.prog.cellsOf 5 = 1 by kernel_rfl] at e
  have g6 : DataW.trod enc Try.prog W 0 (fun _ => true) true m 5 ((v.cells.toList.drop 6).take 1) = some x6 := by
    have e : DataW.trod enc Try.prog W 0 (fun _ => true) true m 5 ((v.cells.toList.drop 6).take (Try.prog.cellsOf 5)) = some x6 := hi 6 _ rfl
    rwa [show Try.prog.cellsOf 5 = 1 by kernel_rfl] at e
  have g7 : DataW.trod enc Try.prog W 0 (fun _ => true) true m 24 ((v.cells.toList.drop 7).take 4) = some x7 := by
    have e : DataW.trod enc Try.prog W 0 (fun _ => true) true m 24 ((v.cells.toList.drop 7).take (Try.prog.cellsOf 24)) = some x7 := hi 7 _ rfl
    rwa [show Try.prog.cellsOf 24 = 4 by kernel_rfl] at e
  have g8 : DataW.trod enc Try.prog W 0 (fun _ => true) true m 24 ((v.cells.toList.drop 11).take 4) = some x8 := by
    have e : DataW.trod enc Try.prog W 0 (fun _ => true) true m 24 ((v.cells.toList.drop 11).take (Try.prog.cellsOf 24)) = some x8 := hi 8 _ rfl
    rwa [show Try.prog.cellsOf 24 = 4 by kernel_rfl] at e
  have g9 : DataW.trod enc Try.prog W 0 (fun _ => true) true m 25 ((v.cells.toList.drop 15).take 1) = some x9 := by
    have e : DataW.trod enc Try.prog W 0 (fun _ => true) true m 25 ((v.cells.toList.drop 15).take (Try.prog.cellsOf 25)) = some x9 := hi 9 _ rfl
    rwa [show Try.prog.cellsOf 25 = 1 by kernel_rfl] at e
  have g10 : DataW.trod enc Try.prog W 0 (fun _ => true) true m 25 ((v.cells.toList.drop 16).take 1) = some x10 := by
    have e : DataW.trod enc Try.prog W 0 (fun _ => true) true m 25 ((v.cells.toList.drop 16).take (Try.prog.cellsOf 25)) = some x10 := hi 10 _ rfl
    rwa [show Try.prog.cellsOf 25 = 1 by kernel_rfl] at e
  obtain ⟨rfl, rfl⟩ := Prod.mk.inj hx
  have w9 : ∀ k ∈ x9.1.weights Try.prog 25, k ≤ reachBytes := fun k hk => hz k (by
    simp only [DataW.weights, Try.underlying27]
    exact DataW.weights_mem_each (j := 9) rfl rfl k hk)
  have w10 : ∀ k ∈ x10.1.weights Try.prog 25, k ≤ reachBytes := fun k hk => hz k (by
    simp only [DataW.weights, Try.underlying27]
    exact DataW.weights_mem_each (j := 10) rfl rfl k hk)
  obtain ⟨tos, e0, _, f0⟩ := DataW.trod_int Try.underlying5 g0
  obtain ⟨id, e1, _, f1⟩ := DataW.trod_int Try.underlying22 g1
  obtain ⟨df, e2, _⟩ := DataW.trod_bool Try.underlying4 g2
  obtain ⟨mf, e3, _⟩ := DataW.trod_bool Try.underlying4 g3
  obtain ⟨off, e4, _, f4⟩ := DataW.trod_int Try.underlying3 g4
  obtain ⟨ttl, e5, _, f5⟩ := DataW.trod_int Try.underlying5 g5
  obtain ⟨proto, e6, _, f6⟩ := DataW.trod_int Try.underlying5 g6
  obtain ⟨s0, s1, s2, s3, e7, f7⟩ := cells_arr4 g7
  obtain ⟨d0, d1, d2, d3, e8, f8⟩ := cells_arr4 g8
  obtain ⟨so, opts, e9, b9⟩ := open_bytes1 g9 w9
  obtain ⟨sb, body, e10, b10⟩ := open_bytes1 g10 w10
  have hall := seventeen hl
  rw [e0, e1, e2, e3, e4, e5, e6, e7, e8, e9, e10] at hall
  have hv := agg_cells hall (by simp)
  have q0 := bounds_u8 f0
  have q5 := bounds_u8 f5
  have q6 := bounds_u8 f6
  have q1 : 0 ≤ id ∧ id ≤ 65535 := bounds_u16 f1
  have q4 := bounds_i64 f4
  exact ⟨_, tos, id, df, mf, off, ttl, proto, s0, s1, s2, s3, d0, d1, d2, d3, opts, body, hv, ⟨so, sb, ⟨rfl, rfl, rfl⟩, b9, b10⟩, q1, by omega, by omega, by omega, f7, f8, q4⟩

theorem ipv4Writes_open {H : Type} {enc : TypeId × Value → H} {W : World} {base : Nat} (v0 : Value) {d0 : DataW H} {p0 : List MemPlace}
    (o0 : Value.okWide Try.prog W .any base 27 v0) (h0 : DataW.Trod enc Try.prog W 0 (fun _ => true) true 27 v0 d0 p0) (z0 : ∀ k ∈ d0.weights Try.prog 27, k ≤ reachBytes) :
    Calls Try.prog 3 #[v0] W fun e w' => e = .returned (.bool true) ∧ Below W.heap.size W w' := by
  obtain ⟨c, tos, id, df, mf, off, ttl, proto, s0, s1, s2, s3, d0, d1, d2, d3, opts, body, rfl, hD⟩ := open_v4 h0 z0
  exact ipv4Writes_walk c tos id df mf off ttl proto s0 s1 s2 s3 d0 d1 d2 d3 opts body W hD

end Go.Proofs.Ytmoogfdmlbalbaa
