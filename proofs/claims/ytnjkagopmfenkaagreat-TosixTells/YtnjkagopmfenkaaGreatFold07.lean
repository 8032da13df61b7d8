/-
  The document's header of an IPv4 datagram.
  The document's Write of an IPv4 datagram.
  Both sides write the same bytes.
  awake of layer 4's statements: a header that is known.
-/
import Derived.Test.YtnjkagopmfenkaaGreatFold06
import Derived.Test.YtnjkagopmfenkaaGreatFold05
import Derived.Test.YtnjkagopmfenkaaGreatFold04
import Derived.Deep.RegionLaw
import Derived.Test.YtnjkagopmfenkaaGreatFold03
namespace Go.Proofs.YtnjkagopmfenkaaGreat.V4
open Go Go.RowKit
set_option linter.unusedVariables false
set_option linter.unusedSimpArgs false

/-- What Head of the document holds: the datagram, and the row as far as it is written. -/
structure RS (w wx : World) (c : List Value) (v : Value) (zs : List Int) : Prop where
  vb : wx.heap[w.heap.size]? = some (.cells c.toArray 27)
  own : wx.ownsRow (w.heap.size + 1) 5 1 v zs.length (bytesV zs)
  bel : Below w.heap.size w wx
theorem RS.below {w wx wy : World} {c : List Value} {v : Value} {zs : List Int} (h : RS w wx c v zs) (hb : Below wx.heap.size wx wy) : RS w wy c v zs :=
  ⟨blk_on h.vb hb, own_below h.own hb, h.bel.trans (hb.mono h.bel.size)⟩
theorem RS.cell {w wx : World} {c : List Value} {v : Value} {zs : List Int} (h : RS w wx c v zs) (j : Nat) {u : Value} (hv : c[j]? = some u) : wx.cell? ⟨w.heap.size, j, none⟩ = some u := by
  simp [World.cell?, h.vb, hv]
theorem RS.app {w wx : World} {c : List Value} {v u : Value} {zs ys : List Int} (h : RS w wx c v zs) (hb : BytesAt wx.heap.size wx u ys) (hl : zs.length + ys.length ≤ 1000000) (ty : TypeId) :
    ∃ v' wy, (Builtin.append_ #[25, 25] ty #[v, u]).run Tryz.prog wx = .ok v' wy ∧ RS w wy c v' (zs ++ ys) := by
  have hlt := (Array.getElem?_eq_some_iff.1 h.vb).1
  obtain ⟨a, cap, rfl, _⟩ := hb.val
  obtain ⟨v', wy, hrun, hown, hgr⟩ := own_bytes_more (w0 := wx) h.own hlt hb hl ty
  have hB : Below (w.heap.size + 1) wx wy := (Below.refl _ wx).grown hgr hlt (fun j hj => (h.own.lt j hj).1)
  refine ⟨v', wy, hrun, (hB.block _ (Nat.lt_succ_self _)).trans h.vb, ?_, h.bel.trans (hB.mono (Nat.le_succ _))⟩
  rw [List.length_append]
  have e : bytesV (zs ++ ys) = bytesV zs ++ bytesV ys := by simp [bytesV]
  rw [e]
  exact hown
theorem RS.part {w wx : World} {c : List Value} {v : Value} {zs : List Int} (h : RS w wx c v zs) {ys : List Int} {pre post : List Value} (hc : c = pre ++ (ys.map (fun z => Value.int .u8 z) ++ post)) (fy : Fit ys) (ly : ys.length = 4) (o : Nat) (ho : pre.length = o) :
    BytesAt wx.heap.size wx (.slice (some ⟨w.heap.size, o, none⟩) 4 4) ys := by
  refine ⟨fy, by omega, some ⟨w.heap.size, o, none⟩, 4, by rw [ly], .inr ⟨w.heap.size, o, rfl, (Array.getElem?_eq_some_iff.1 h.vb).1, fun j hj => ?_⟩⟩
  refine h.cell (o + j) ?_
  rw [hc, List.getElem?_append_right (by omega), ← ho, Nat.add_sub_cancel_left, List.getElem?_append_left (by simpa using hj), List.getElem?_map, List.getElem?_eq_getElem hj]
  rfl
theorem RS.start (w : World) (c : List Value) (x y : Int) : RS w ((w.alloc (.cells c.toArray 27)).alloc (.cells #[.int .u8 x, .int .u8 y] 5)) c (.slice (some ⟨w.heap.size + 1, 0, none⟩) 2 2) [x, y] := by
  refine ⟨blk_alloc (blk_new _ _) _, ?_, ((Below.refl _ w).alloc (Nat.le_refl _) _).alloc (by simp) _⟩
  have e := blk_new (w.alloc (.cells c.toArray 27)) (.cells #[.int .u8 x, .int .u8 y] 5)
  rw [World.size_alloc] at e
  refine ⟨rfl, .inr ⟨w.heap.size + 1, 2, _, rfl, Nat.le_refl _, e, ?_⟩⟩
  exact ⟨by simp, by decide, rfl, rfl⟩

theorem chk_zero {off : Int} {no nb : Nat} (hk : chk off no nb = 0) : no ≤ 40 ∧ 20 + no + nb ≤ 65535 ∧ 0 ≤ off ∧ off ≤ 8191 := by
  unfold chk badV longV at hk
  by_cases hx : (decide (off < 0) || decide (8191 < off) || decide (40 < no) || decide (no % 4 ≠ 0)) = true
  · rw [if_pos hx] at hk; omega
  · rw [if_neg hx] at hk
    by_cases hy : decide (65535 < 20 + no + nb) = true
    · rw [if_pos hy] at hk; omega
    · simp only [Bool.or_eq_true, decide_eq_true_eq, not_or] at hx hy
      omega

def rhd (size all : Nat) (tos id cw ttl proto s0 s1 s2 s3 d0 d1 d2 d3 sm : Int) (opts : List Int) : List Int :=
  [64 + (size : Int) / 4, tos, (all : Int) / 256, (all : Int) % 256, id / 256, id % 256, cw / 256, cw % 256, ttl, proto, sm / 256, sm % 256, s0, s1, s2, s3, d0, d1, d2, d3] ++ opts

end Go.Proofs.YtnjkagopmfenkaaGreat.V4

namespace Go.Proofs.YtnjkagopmfenkaaGreat.V4
open Go Go.RowKit
set_option linter.unusedVariables false
set_option linter.unusedSimpArgs false

def rwrL (tos id : Int) (df mf : Bool) (off ttl proto s0 s1 s2 s3 d0 d1 d2 d3 : Int) (opts body : List Int) : List Int :=
  rhd (20 + opts.length) (20 + opts.length + body.length) tos id (cutW off df mf) ttl proto s0 s1 s2 s3 d0 d1 d2 d3 (65535 - sumW 0 (wordsL (rhd (20 + opts.length) (20 + opts.length + body.length) tos id (cutW off df mf) ttl proto s0 s1 s2 s3 d0 d1 d2 d3 0 opts))) opts ++ body

theorem rhd_length (size all : Nat) (tos id cw ttl proto s0 s1 s2 s3 d0 d1 d2 d3 sm : Int) (opts : List Int) : (rhd size all tos id cw ttl proto s0 s1 s2 s3 d0 d1 d2 d3 sm opts).length = 20 + opts.length := by simp [rhd]; omega
theorem rhd_fit {size all : Nat} {tos id cw ttl proto s0 s1 s2 s3 d0 d1 d2 d3 sm : Int} {opts : List Int} (hs : size ≤ 60) (ha : all ≤ 65535) (ht : 0 ≤ tos ∧ tos < 256) (hi : 0 ≤ id ∧ id ≤ 65535) (hc : 0 ≤ cw ∧ cw ≤ 65535) (hl : 0 ≤ ttl ∧ ttl < 256) (hp : 0 ≤ proto ∧ proto < 256) (fs : Fit [s0, s1, s2, s3]) (fd : Fit [d0, d1, d2, d3]) (fo : Fit opts) (hm : 0 ≤ sm ∧ sm ≤ 65535) :
    Fit (rhd size all tos id cw ttl proto s0 s1 s2 s3 d0 d1 d2 d3 sm opts) := by
  have f0 := fs s0 (by simp)
  have f1 := fs s1 (by simp)
  have f2 := fs s2 (by simp)
  have f3 := fs s3 (by simp)
  have g0 := fd d0 (by simp)
  have g1 := fd d1 (by simp)
  have g2 := fd d2 (by simp)
  have g3 := fd d3 (by simp)
  intro z hz
  unfold rhd at hz
  rcases List.mem_append.1 hz with hz | hz
  · simp only [List.mem_cons, List.not_mem_nil, or_false] at hz
    omega
  · exact fo z hz

end Go.Proofs.YtnjkagopmfenkaaGreat.V4

namespace Go.Proofs.YtnjkagopmfenkaaGreat.V4
open Go Go.RowKit
set_option linter.unusedVariables false
set_option linter.unusedSimpArgs false

set_option maxRecDepth 100000 in
theorem hd8_take (size all : Nat) (tos id cw ttl proto s0 s1 s2 s3 d0 d1 d2 d3 : Int) :
    (laid (laid (hd6 size all tos id cw ttl proto) 12 [s0, s1, s2, s3]) 16 [d0, d1, d2, d3]).take 20 = rhd size all tos id cw ttl proto s0 s1 s2 s3 d0 d1 d2 d3 0 [] := by kernel_rfl

theorem hd9_split (size all : Nat) (tos id cw ttl proto s0 s1 s2 s3 d0 d1 d2 d3 : Int) (opts : List Int) :
    ∃ D, hd9 size all tos id cw ttl proto [s0, s1, s2, s3] [d0, d1, d2, d3] opts = rhd size all tos id cw ttl proto s0 s1 s2 s3 d0 d1 d2 d3 0 [] ++ (opts ++ D) := by
  refine ⟨(laid (laid (hd6 size all tos id cw ttl proto) 12 [s0, s1, s2, s3]) 16 [d0, d1, d2, d3]).drop (20 + opts.length), ?_⟩
  unfold hd9
  rw [show ∀ E : List Int, laid E 20 opts = E.take 20 ++ opts ++ E.drop (20 + opts.length) from fun _ => rfl, hd8_take, List.append_assoc]
theorem rhd_nil (size all : Nat) (tos id cw ttl proto s0 s1 s2 s3 d0 d1 d2 d3 sm : Int) (opts : List Int) :
    rhd size all tos id cw ttl proto s0 s1 s2 s3 d0 d1 d2 d3 sm opts = rhd size all tos id cw ttl proto s0 s1 s2 s3 d0 d1 d2 d3 sm [] ++ opts := by simp [rhd]
theorem wr_same (tos id : Int) (df mf : Bool) (off ttl proto s0 s1 s2 s3 d0 d1 d2 d3 : Int) (opts body : List Int) :
    wrL tos id df mf off ttl proto s0 s1 s2 s3 d0 d1 d2 d3 opts body = rwrL tos id df mf off ttl proto s0 s1 s2 s3 d0 d1 d2 d3 opts body := by
  unfold wrL rwrL hdF
  obtain ⟨D, hD⟩ := hd9_split (20 + opts.length) (20 + opts.length + body.length) tos id (cutW off df mf) ttl proto s0 s1 s2 s3 d0 d1 d2 d3 opts
  have hl : (rhd (20 + opts.length) (20 + opts.length + body.length) tos id (cutW off df mf) ttl proto s0 s1 s2 s3 d0 d1 d2 d3 0 []).length + opts.length = 20 + opts.length := by rw [rhd_length]; simp
  have ht : (hd9 (20 + opts.length) (20 + opts.length + body.length) tos id (cutW off df mf) ttl proto [s0, s1, s2, s3] [d0, d1, d2, d3] opts).take (20 + opts.length) = rhd (20 + opts.length) (20 + opts.length + body.length) tos id (cutW off df mf) ttl proto s0 s1 s2 s3 d0 d1 d2 d3 0 opts := by
    rw [hD, take_split hl, ← rhd_nil]
  have hck : ckW (hd9 (20 + opts.length) (20 + opts.length + body.length) tos id (cutW off df mf) ttl proto [s0, s1, s2, s3] [d0, d1, d2, d3] opts) (20 + opts.length) = 65535 - sumW 0 (wordsL (rhd (20 + opts.length) (20 + opts.length + body.length) tos id (cutW off df mf) ttl proto s0 s1 s2 s3 d0 d1 d2 d3 0 opts)) := by
    unfold ckW
    rw [ht]
  rw [hck]
  generalize 65535 - sumW 0 (wordsL (rhd (20 + opts.length) (20 + opts.length + body.length) tos id (cutW off df mf) ttl proto s0 s1 s2 s3 d0 d1 d2 d3 0 opts)) = ck
  have hp : putL (rhd (20 + opts.length) (20 + opts.length + body.length) tos id (cutW off df mf) ttl proto s0 s1 s2 s3 d0 d1 d2 d3 0 [] ++ (opts ++ D)) 10 ck = rhd (20 + opts.length) (20 + opts.length + body.length) tos id (cutW off df mf) ttl proto s0 s1 s2 s3 d0 d1 d2 d3 ck [] ++ (opts ++ D) := by
    unfold putL
    have l1 : 10 < (rhd (20 + opts.length) (20 + opts.length + body.length) tos id (cutW off df mf) ttl proto s0 s1 s2 s3 d0 d1 d2 d3 0 []).length := by rw [rhd_length]; simp
    rw [List.set_append_left _ _ l1, List.set_append_left _ _ (by rw [List.length_set, rhd_length]; simp)]
    rfl
  rw [hD, hp, take_split (by rw [rhd_length]; simp), ← rhd_nil]

end Go.Proofs.YtnjkagopmfenkaaGreat.V4

namespace Go.Proofs.YtnjkagopmfenkaaGreat.V4
open Go Go.RowKit
set_option linter.unusedVariables false
set_option linter.unusedSimpArgs false

def knownC : List Value := [.int .u8 0, .int .u16 0, .bool false, .bool false, .int .i64 0, .int .u8 64, .int .u8 17, .int .u8 10, .int .u8 0, .int .u8 0, .int .u8 1, .int .u8 10, .int .u8 0, .int .u8 0, .int .u8 2, .slice none 0 0, .slice none 0 0]
def knownB : List Int := [69, 0, 0, 20, 0, 0, 0, 0, 64, 17, 102, 215, 10, 0, 0, 1, 10, 0, 0, 2]
set_option maxRecDepth 100000 in
theorem known_wr : wrL 0 0 false false 0 64 17 10 0 0 1 10 0 0 2 [] [] = knownB := by decide +kernel

theorem known_dg (w : World) : Dgram w knownC 0 0 false false 0 64 17 10 0 0 1 10 0 0 2 [] [] := by
  have hb : BytesAt w.heap.size w (.slice none 0 0) [] := ⟨fun z hz => by simp at hz, by simp, none, 0, rfl, .inl rfl⟩
  exact ⟨⟨_, _, ⟨rfl, rfl, rfl⟩, hb, hb⟩, by decide, by decide, by decide, by decide, fun z hz => by simp at hz; omega, fun z hz => by simp at hz; omega, by decide⟩

end Go.Proofs.YtnjkagopmfenkaaGreat.V4
