/-
  Segments; SameTCP, SameUDP of both sides; awake.
  awake.
  Datagrams of UDP, segments and ends as arguments.
-/
import Derived.Test.YtpgnnplpcalbbaaGreatFold19
set_option linter.unusedVariables false
set_option linter.unusedSimpArgs false
namespace Go.Proofs.YtpgnnplpcalbbaaGreat
open Go Go.RowKit Go.Shelf
/-- A segment's fields. -/
structure Seg where
  src : Int
  dst : Int
  seq : Int
  ack : Int
  fl : Int
  win : Int
  urg : Int
  opts : List Int
  data : List Int
/-- A segment: its cells and its bytes. -/
structure TcpC (w : World) (c : List Value) (t : Seg) : Prop where
  val : ∃ vo vd, c = [.int .u16 t.src, .int .u16 t.dst, .int .u32 t.seq, .int .u32 t.ack, .int .u8 t.fl, .int .u16 t.win, .int .u16 t.urg, vo, vd] ∧ BytesAt w.heap.size w vo t.opts ∧ BytesAt w.heap.size w vd t.data
  fs : 0 ≤ t.src ∧ t.src ≤ 65535
  fd : 0 ≤ t.dst ∧ t.dst ≤ 65535
  fq : 0 ≤ t.seq ∧ t.seq ≤ 4294967295
  fa : 0 ≤ t.ack ∧ t.ack ≤ 4294967295
  ff : 0 ≤ t.fl ∧ t.fl < 256
  fw : 0 ≤ t.win ∧ t.win ≤ 65535
  fu : 0 ≤ t.urg ∧ t.urg ≤ 65535
theorem TcpC.on {w W : World} {c : List Value} {t : Seg} (h : TcpC w c t) (hb : Below w.heap.size w W) : TcpC W c t := by
  obtain ⟨⟨vo, vd, h1, h2, h3⟩, r1, r2, r3, r4, r5, r6, r7⟩ := h
  exact ⟨⟨vo, vd, h1, h2.later hb, h3.later hb⟩, r1, r2, r3, r4, r5, r6, r7⟩
theorem TcpC.len {w : World} {c : List Value} {t : Seg} (h : TcpC w c t) : c.length = 9 := by
  obtain ⟨⟨vo, vd, rfl, _⟩, _⟩ := h
  rfl
def eqB (xs ys : List Int) : Bool := (strOfNums xs).toList == (strOfNums ys).toList
theorem eqB_self (xs : List Int) : eqB xs xs = true := by simp [eqB]
def sameT (a b : Seg) : Bool := (a.src == b.src) && (a.dst == b.dst) && (a.seq == b.seq) && (a.ack == b.ack) && (a.fl == b.fl) && (a.win == b.win) && (a.urg == b.urg) && eqB a.opts b.opts && eqB a.data b.data
theorem sameT_self (a : Seg) : sameT a a = true := by simp [sameT, eqB_self]
def sameU (s d : Int) (x : List Int) (s' d' : Int) (x' : List Int) : Bool := (s == s') && (d == d') && eqB x x'
theorem sameU_self (s d : Int) (x : List Int) : sameU s d x s d x = true := by simp [sameU, eqB_self]
end Go.Proofs.YtpgnnplpcalbbaaGreat
namespace Go.Proofs.YtpgnnplpcalbbaaGreat
open Go Go.RowKit Go.Shelf
theorem known_udp : udpB (ph4 [10, 0, 0, 1] [10, 0, 0, 2]) 53 1024 [] = [0, 53, 4, 0, 0, 8, 231, 166] := by decide +kernel
theorem OB.bytes {base : Nat} {w wx : World} {v : Value} {zs : List Int} (h : OB base w wx v zs) (hf : Fit zs) (hl : zs.length ≤ 140737488351232) : BytesAt wx.heap.size wx v zs := own_bytes h.own hf hl
end Go.Proofs.YtpgnnplpcalbbaaGreat
namespace Go.Proofs.YtpgnnplpcalbbaaGreat
open Go Go.RowKit Go.ChangeShapes Go.WideShapes Go.ChangeAt
def numOf : Value → Int
  | .int _ z => z
  | _ => 0
theorem cells_arr {H : Type} {enc : TypeId × Value → H} {w : World} {base : Nat} {spare : Nat → Bool} {held : Bool} {fuel : Nat} {cs : List Value} {x : DataW H × List MemPlace} {t : TypeId} {N : Nat} (hu : Tryz.prog.underlying t = some (.array N 5)) (ct : Tryz.prog.cellsOf t = N)
    (h : DataW.trod enc Tryz.prog w base spare held fuel t cs = some x) : ∃ A : List Int, A.length = N ∧ cs = u8L A ∧ Fit A := by
  obtain ⟨xs, m, _, _, hl, hx, hi⟩ := DataW.trod_array hu h
  have ce : Tryz.prog.cellsOf 5 = 1 := by kernel_rfl
  rw [ct] at hl
  have each : ∀ i, i < N → ∃ z : Int, cs[i]? = some (.int .u8 z) ∧ 0 ≤ z ∧ z < 256 := by
    intro i hin
    have h1 := hi i hin
    rw [ce, Nat.mul_one, List.getElem?_eq_getElem (by omega)] at h1
    obtain ⟨z, e, _, wf⟩ := DataW.trod_int Tryz.underlying5 h1
    have hb := bounds_u8 wf
    refine ⟨z, ?_, by omega, by omega⟩
    have e2 := congrArg (fun l : List Value => l[0]?) e
    simpa [List.getElem?_take, List.getElem?_drop] using e2
  refine ⟨cs.map numOf, by simp [hl], ?_, ?_⟩
  · apply List.ext_getElem?
    intro i
    by_cases hi' : i < N
    · obtain ⟨z, hz, _⟩ := each i hi'
      simp [u8L, hz, numOf]
    · rw [List.getElem?_eq_none (by omega), List.getElem?_eq_none (by simp [u8L]; omega)]
  · intro z hz
    obtain ⟨v, hv, rfl⟩ := List.mem_map.1 hz
    obtain ⟨i, hi', rfl⟩ := List.getElem_of_mem hv
    obtain ⟨z, hz, hb⟩ := each i (by omega)
    rw [List.getElem?_eq_getElem hi'] at hz
    simp only [Option.some.injEq] at hz
    rw [hz]
    exact hb
theorem split_ends {l : List Value} (h : l.length = 40) : l = (l.drop 0).take 4 ++ ((l.drop 4).take 4 ++ ((l.drop 8).take 16 ++ (l.drop 24).take 16)) := by
  have e3 : (l.drop 24).take 16 = l.drop 24 := List.take_of_length_le (by simp; omega)
  have e2 : (l.drop 8).take 16 ++ l.drop 24 = l.drop 8 := by
    have := List.take_append_drop 16 (l.drop 8)
    rwa [List.drop_drop] at this
  have e1 : (l.drop 4).take 4 ++ l.drop 8 = l.drop 4 := by
    have := List.take_append_drop 4 (l.drop 4)
    rwa [List.drop_drop] at this
  rw [e3, e2, e1, List.drop_zero, List.take_append_drop]
theorem split_udp {l : List Value} (h : l.length = 3) : l = (l.drop 0).take 1 ++ ((l.drop 1).take 1 ++ ((l.drop 2).take 1)) := by
  match l, h with
  | [_, _, _], _ => rfl
theorem list_udp {α : Type} {l : List α} (h : l.length = 3) : ∃ x0 x1 x2, l = [x0, x1, x2] := by
  match l, h with
  | [x0, x1, x2], _ => exact ⟨x0, x1, x2, rfl⟩
set_option maxRecDepth 100000 in
theorem open_udp {H : Type} {enc : TypeId × Value → H} {W : World} {v : Value} {d : DataW H} {p : List MemPlace} (h : DataW.Trod enc Tryz.prog W 0 (fun _ => true) true 140 v d p) (hz : ∀ k ∈ d.weights Tryz.prog 140, k ≤ reachBytes) :
    ∃ c src dst data, v = .agg c.toArray ∧ UdpC W c src dst data := by
  obtain ⟨fuel, hf⟩ := h
  obtain ⟨xs, m, _, hx, hl, hxl, hi⟩ := DataW.trod_struct Tryz.underlying140 hf
  have cT : Tryz.prog.cellsOf 140 = 3 := by kernel_rfl
  rw [cT] at hl
  obtain ⟨x0, x1, x2, rfl⟩ := list_udp hxl
  have g0 : DataW.trod enc Tryz.prog W 0 (fun _ => true) true m 22 ((v.cells.toList.drop 0).take 1) = some x0 := by
    have e : DataW.trod enc Tryz.prog W 0 (fun _ => true) true m 22 ((v.cells.toList.drop 0).take (Tryz.prog.cellsOf 22)) = some x0 := hi 0 _ rfl
    rwa [show Tryz.prog.cellsOf 22 = 1 by kernel_rfl] at e
  have g1 : DataW.trod enc Tryz.prog W 0 (fun _ => true) true m 22 ((v.cells.toList.drop 1).take 1) = some x1 := by
    have e : DataW.trod enc Tryz.prog W 0 (fun _ => true) true m 22 ((v.cells.toList.drop 1).take (Tryz.prog.cellsOf 22)) = some x1 := hi 1 _ rfl
    rwa [show Tryz.prog.cellsOf 22 = 1 by kernel_rfl] at e
  have g2 : DataW.trod enc Tryz.prog W 0 (fun _ => true) true m 25 ((v.cells.toList.drop 2).take 1) = some x2 := by
    have e : DataW.trod enc Tryz.prog W 0 (fun _ => true) true m 25 ((v.cells.toList.drop 2).take (Tryz.prog.cellsOf 25)) = some x2 := hi 2 _ rfl
    rwa [show Tryz.prog.cellsOf 25 = 1 by kernel_rfl] at e
  obtain ⟨rfl, rfl⟩ := Prod.mk.inj hx
  have w2 : ∀ k ∈ x2.1.weights Tryz.prog 25, k ≤ reachBytes := fun k hk => hz k (by
    simp only [DataW.weights, Tryz.underlying140]
    exact DataW.weights_mem_each (j := 2) rfl rfl k hk)
  obtain ⟨n0, e0, _, f0⟩ := DataW.trod_int Tryz.underlying22 g0
  have q0 := bounds_u16 f0
  obtain ⟨n1, e1, _, f1⟩ := DataW.trod_int Tryz.underlying22 g1
  have q1 := bounds_u16 f1
  obtain ⟨s2, z2, e2, b2⟩ := open_bytes1 g2 w2
  have hall := split_udp hl
  rw [e0, e1, e2] at hall
  have hv := agg_cells hall (by simp)
  exact ⟨_, n0, n1, z2, hv, ⟨s2, rfl, b2⟩, q0, q1⟩
theorem split_tcp {l : List Value} (h : l.length = 9) : l = (l.drop 0).take 1 ++ ((l.drop 1).take 1 ++ ((l.drop 2).take 1 ++ ((l.drop 3).take 1 ++ ((l.drop 4).take 1 ++ ((l.drop 5).take 1 ++ ((l.drop 6).take 1 ++ ((l.drop 7).take 1 ++ ((l.drop 8).take 1)))))))) := by
  match l, h with
  | [_, _, _, _, _, _, _, _, _], _ => rfl
theorem list_tcp {α : Type} {l : List α} (h : l.length = 9) : ∃ x0 x1 x2 x3 x4 x5 x6 x7 x8, l = [x0, x1, x2, x3, x4, x5, x6, x7, x8] := by
  match l, h with
  | [x0, x1, x2, x3, x4, x5, x6, x7, x8], _ => exact ⟨x0, x1, x2, x3, x4, x5, x6, x7, x8, rfl⟩
theorem list_ends {α : Type} {l : List α} (h : l.length = 4) : ∃ x0 x1 x2 x3, l = [x0, x1, x2, x3] := by
  match l, h with
  | [x0, x1, x2, x3], _ => exact ⟨x0, x1, x2, x3, rfl⟩
end Go.Proofs.YtpgnnplpcalbbaaGreat
