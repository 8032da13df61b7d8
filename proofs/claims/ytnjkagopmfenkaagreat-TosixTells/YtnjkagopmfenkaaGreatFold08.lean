/-
  The walk of the statement Ipv4Writes.
  An IPv4 datagram as argument; the statement Ipv4Writes for every argument.
  Same of both sides.
  Same of the document's answer.
-/
import Derived.Test.YtnjkagopmfenkaaGreatFold04
import Derived.Test.YtnjkagopmfenkaaGreatFold07
import Derived.Test.YtnjkagopmfenkaaGreatFold05
import Derived.OpenShut
import Derived.ChangeArms
import Derived.ProofKit
import Derived.SizedLaws
import Derived.Stop.BytesEq
namespace Go.Proofs.YtnjkagopmfenkaaGreat.V4
open Go Go.RowKit
set_option linter.unusedVariables false
set_option linter.unusedSimpArgs false

theorem wr_fit {w : World} {c : List Value} {tos id : Int} {df mf : Bool} {off ttl proto s0 s1 s2 s3 d0 d1 d2 d3 : Int} {opts body : List Int} (h : Dgram w c tos id df mf off ttl proto s0 s1 s2 s3 d0 d1 d2 d3 opts body) (hk : chk off opts.length body.length = 0) :
    Fit (wrL tos id df mf off ttl proto s0 s1 s2 s3 d0 d1 d2 d3 opts body) ∧ (wrL tos id df mf off ttl proto s0 s1 s2 s3 d0 d1 d2 d3 opts body).length = 20 + opts.length + body.length := by
  obtain ⟨hno, hnb, ho⟩ := chk_zero hk
  obtain ⟨so, sb, hc, hso, hsb⟩ := h.cells
  have hF := hdF_fit (20 + opts.length) (20 + opts.length + body.length) tos id (cutW off df mf) ttl proto [s0, s1, s2, s3] [d0, d1, d2, d3] opts (by omega) hnb h.ft h.hid (cutW_range off df mf ho) h.fl h.fp h.fs h.fd hso.fit
  have hl := hdF_length (20 + opts.length) (20 + opts.length + body.length) tos id (cutW off df mf) ttl proto [s0, s1, s2, s3] [d0, d1, d2, d3] opts rfl rfl hno
  unfold wrL
  refine ⟨fun z hz => ?_, by rw [List.length_append, List.length_take, hl]; omega⟩
  rcases List.mem_append.1 hz with hz | hz
  · exact hF z (List.mem_of_mem_take hz)
  · exact hsb.fit z hz

def wrB (tos id : Int) (df mf : Bool) (off ttl proto s0 s1 s2 s3 d0 d1 d2 d3 : Int) (opts body : List Int) : List Int :=
  if chk off opts.length body.length = 0 then wrL tos id df mf off ttl proto s0 s1 s2 s3 d0 d1 d2 d3 opts body else []

end Go.Proofs.YtnjkagopmfenkaaGreat.V4

namespace Go.Proofs.YtnjkagopmfenkaaGreat.V4
open Go Go.RowKit Go.ChangeShapes Go.WideShapes Go.ChangeAt
set_option linter.unusedVariables false
set_option linter.unusedSimpArgs false

theorem seventeen {l : List Value} (h : l.length = 17) : l = (l.drop 0).take 1 ++ ((l.drop 1).take 1 ++ ((l.drop 2).take 1 ++ ((l.drop 3).take 1 ++ ((l.drop 4).take 1 ++ ((l.drop 5).take 1 ++ ((l.drop 6).take 1 ++ ((l.drop 7).take 4 ++ ((l.drop 11).take 4 ++ ((l.drop 15).take 1 ++ (l.drop 16).take 1))))))))) := by
  match l, h with
  | [_, _, _, _, _, _, _, _, _, _, _, _, _, _, _, _, _], _ => rfl

theorem list11 {α : Type} {l : List α} (h : l.length = 11) : ∃ x0 x1 x2 x3 x4 x5 x6 x7 x8 x9 x10, l = [x0, x1, x2, x3, x4, x5, x6, x7, x8, x9, x10] := by
  match l, h with
  | [x0, x1, x2, x3, x4, x5, x6, x7, x8, x9, x10], _ => exact ⟨x0, x1, x2, x3, x4, x5, x6, x7, x8, x9, x10, rfl⟩
set_option maxRecDepth 100000 in
theorem open_v4 {H : Type} {enc : TypeId × Value → H} {W : World} {v : Value} {d : DataW H} {p : List MemPlace} (h : DataW.Trod enc Tryz.prog W 0 (fun _ => true) true 27 v d p) (hz : ∀ k ∈ d.weights Tryz.prog 27, k ≤ reachBytes) :
    ∃ c tos id df mf off ttl proto s0 s1 s2 s3 d0 d1 d2 d3 opts body, v = .agg c.toArray ∧ Dgram W c tos id df mf off ttl proto s0 s1 s2 s3 d0 d1 d2 d3 opts body := by
  obtain ⟨fuel, hf⟩ := h
  obtain ⟨xs, m, _, hx, hl, hxl, hi⟩ := DataW.trod_struct Tryz.underlying27 hf
  have c17 : Tryz.prog.cellsOf 27 = 17 := by kernel_rfl
  rw [c17] at hl
  obtain ⟨x0, x1, x2, x3, x4, x5, x6, x7, x8, x9, x10, rfl⟩ := list11 hxl
  have g0 : DataW.trod enc Tryz.prog W 0 (fun _ => true) true m 5 ((v.cells.toList.drop 0).take 1) = some x0 := by
    have e : DataW.trod enc Tryz.prog W 0 (fun _ => true) true m 5 ((v.cells.toList.drop 0).take (Tryz.prog.cellsOf 5)) = some x0 := hi 0 _ rfl
    rwa [show Tryz.prog.cellsOf 5 = 1 by kernel_rfl] at e
  have g1 : DataW.trod enc Tryz.prog W 0 (fun _ => true) true m 22 ((v.cells.toList.drop 1).take 1) = some x1 := by
    have e : DataW.trod enc Tryz.prog W 0 (fun _ => true) true m 22 ((v.cells.toList.drop 1).take (Tryz.prog.cellsOf 22)) = some x1 := hi 1 _ rfl
    rwa [show Tryz.prog.cellsOf 22 = 1 by kernel_rfl] at e
  have g2 : DataW.trod enc Tryz.prog W 0 (fun _ => true) true m 4 ((v.cells.toList.drop 2).take 1) = some x2 := by
    have e : DataW.trod enc Tryz.prog W 0 (fun _ => true) true m 4 ((v.cells.toList.drop 2).take (Tryz.prog.cellsOf 4)) = some x2 := hi 2 _ rfl
    rwa [show Tryz.prog.cellsOf 4 = 1 by kernel_rfl] at e
  have g3 : DataW.trod enc Tryz.prog W 0 (fun _ => true) true m 4 ((v.cells.toList.drop 3).take 1) = some x3 := by
    have e : DataW.trod enc Tryz.prog W 0 (fun _ => true) true m 4 ((v.cells.toList.drop 3).take (Tryz.prog.cellsOf 4)) = some x3 := hi 3 _ rfl
    rwa [show Tryz.prog.cellsOf 4 = 1 by kernel_rfl] at e
  have g4 : DataW.trod enc Tryz.prog W 0 (fun _ => true) true m 3 ((v.cells.toList.drop 4).take 1) = some x4 := by
    have e : DataW.trod enc Tryz.prog W 0 (fun _ => true) true m 3 ((v.cells.toList.drop 4).take (Tryz.prog.cellsOf 3)) = some x4 := hi 4 _ rfl
    rwa [show Tryz.prog.cellsOf 3 = 1 by kernel_rfl] at e
  have g5 : DataW.trod enc Tryz.prog W 0 (fun _ => true) true m 5 ((v.cells.toList.drop 5).take 1) = some x5 := by
    have e : DataW.trod enc Tryz.prog W 0 (fun _ => true) true m 5 ((v.cells.toList.drop 5).take (Tryz.prog.cellsOf 5)) = some x5 := hi 5 _ rfl
    rwa [show Tryz.prog.cellsOf 5 = 1 by kernel_rfl] at e
  have g6 : DataW.trod enc Tryz.prog W 0 (fun _ => true) true m 5 ((v.cells.toList.drop 6).take 1) = some x6 := by
    have e : DataW.trod enc Tryz.prog W 0 (fun _ => true) true m 5 ((v.cells.toList.drop 6).take (Tryz.prog.cellsOf 5)) = some x6 := hi 6 _ rfl
    rwa [show Tryz.prog.cellsOf 5 = 1 by kernel_rfl] at e
  have g7 : DataW.trod enc Tryz.prog W 0 (fun _ => true) true m 24 ((v.cells.toList.drop 7).take 4) = some x7 := by
    have e : DataW.trod enc Tryz.prog W 0 (fun _ => true) true m 24 ((v.cells.toList.drop 7).take (Tryz.prog.cellsOf 24)) = some x7 := hi 7 _ rfl
    rwa [show Tryz.prog.cellsOf 24 = 4 by kernel_rfl] at e
  have g8 : DataW.trod enc Tryz.prog W 0 (fun _ => true) true m 24 ((v.cells.toList.drop 11).take 4) = some x8 := by
    have e : DataW.trod enc Tryz.prog W 0 (fun _ => true) true m 24 ((v.cells.toList.drop 11).take (Tryz.prog.cellsOf 24)) = some x8 := hi 8 _ rfl
    rwa [show Tryz.prog.cellsOf 24 = 4 by kernel_rfl] at e
  have g9 : DataW.trod enc Tryz.prog W 0 (fun _ => true) true m 25 ((v.cells.toList.drop 15).take 1) = some x9 := by
    have e : DataW.trod enc Tryz.prog W 0 (fun _ => true) true m 25 ((v.cells.toList.drop 15).take (Tryz.prog.cellsOf 25)) = some x9 := hi 9 _ rfl
    rwa [show Tryz.prog.cellsOf 25 = 1 by kernel_rfl] at e
  have g10 : DataW.trod enc Tryz.prog W 0 (fun _ => true) true m 25 ((v.cells.toList.drop 16).take 1) = some x10 := by
    have e : DataW.trod enc Tryz.prog W 0 (fun _ => true) true m 25 ((v.cells.toList.drop 16).take (Tryz.prog.cellsOf 25)) = some x10 := hi 10 _ rfl
    rwa [show Tryz.prog.cellsOf 25 = 1 by kernel_rfl] at e
  obtain ⟨rfl, rfl⟩ := Prod.mk.inj hx
  have w9 : ∀ k ∈ x9.1.weights Tryz.prog 25, k ≤ reachBytes := fun k hk => hz k (by
    simp only [DataW.weights, Tryz.underlying27]
    exact DataW.weights_mem_each (j := 9) rfl rfl k hk)
  have w10 : ∀ k ∈ x10.1.weights Tryz.prog 25, k ≤ reachBytes := fun k hk => hz k (by
    simp only [DataW.weights, Tryz.underlying27]
    exact DataW.weights_mem_each (j := 10) rfl rfl k hk)
  obtain ⟨tos, e0, _, f0⟩ := DataW.trod_int Tryz.underlying5 g0
  obtain ⟨id, e1, _, f1⟩ := DataW.trod_int Tryz.underlying22 g1
  obtain ⟨df, e2, _⟩ := DataW.trod_bool Tryz.underlying4 g2
  obtain ⟨mf, e3, _⟩ := DataW.trod_bool Tryz.underlying4 g3
  obtain ⟨off, e4, _, f4⟩ := DataW.trod_int Tryz.underlying3 g4
  obtain ⟨ttl, e5, _, f5⟩ := DataW.trod_int Tryz.underlying5 g5
  obtain ⟨proto, e6, _, f6⟩ := DataW.trod_int Tryz.underlying5 g6
  obtain ⟨s0, s1, s2, s3, e7, f7⟩ := cells_arr4 g7
  obtain ⟨d0, d1, d2, d3, e8, f8⟩ := cells_arr4 g8
  obtain ⟨so, opts, e9, b9⟩ := open_bytes1 g9 w9
  obtain ⟨sb, body, e10, b10⟩ := open_bytes1 g10 w10
  have hall := seventeen hl
  rw [e0, e1, e2, e3, e4, e5, e6, e7, e8, e9, e10] at hall
  have hv := agg_cells hall (by simp)
  have q0 := bounds_u8 f0
  have q5 := bounds_u8 f5
  have q6 := bounds_u8 f6
  have q1 : 0 ≤ id ∧ id ≤ 65535 := bounds_u16 f1
  have q4 := bounds_i64 f4
  exact ⟨_, tos, id, df, mf, off, ttl, proto, s0, s1, s2, s3, d0, d1, d2, d3, opts, body, hv, ⟨so, sb, ⟨rfl, rfl, rfl⟩, b9, b10⟩, q1, by omega, by omega, by omega, f7, f8, q4⟩

end Go.Proofs.YtnjkagopmfenkaaGreat.V4

namespace Go.Proofs.YtnjkagopmfenkaaGreat.V4
open Go Go.RowKit
set_option linter.unusedVariables false
set_option linter.unusedSimpArgs false

/-- What Same says of two datagrams. -/
def sameB (tos id : Int) (df mf : Bool) (off ttl proto s0 s1 s2 s3 d0 d1 d2 d3 : Int) (opts body : List Int) (tos' id' : Int) (df' mf' : Bool) (off' ttl' proto' s0' s1' s2' s3' d0' d1' d2' d3' : Int) (opts' body' : List Int) : Bool :=
  (tos == tos') && (id == id') && (df == df') && (mf == mf') && (off == off') && (ttl == ttl') && (proto == proto') && decide ([s0, s1, s2, s3] = [s0', s1', s2', s3']) && decide ([d0, d1, d2, d3] = [d0', d1', d2', d3']) && ((strOfNums opts).toList == (strOfNums opts').toList) && ((strOfNums body).toList == (strOfNums body').toList)

theorem sameB_self (tos id : Int) (df mf : Bool) (off ttl proto s0 s1 s2 s3 d0 d1 d2 d3 : Int) (opts body : List Int) : sameB tos id df mf off ttl proto s0 s1 s2 s3 d0 d1 d2 d3 opts body tos id df mf off ttl proto s0 s1 s2 s3 d0 d1 d2 d3 opts body = true := by simp [sameB]

end Go.Proofs.YtnjkagopmfenkaaGreat.V4

namespace Go.Proofs.YtnjkagopmfenkaaGreat.V4
open Go Go.RowKit
set_option linter.unusedVariables false
set_option linter.unusedSimpArgs false

end Go.Proofs.YtnjkagopmfenkaaGreat.V4
