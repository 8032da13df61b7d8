/-
  bytes.Clone; Hop of both sides.
  Same of package ipv4.
  Hop of both sides, where it goes on.
  The walk of the statement Ipv4Alike.
-/
import Derived.Test.YtnjkagopmfenkaaGreatFold05
import Derived.Test.YtnjkagopmfenkaaGreatFold04
import Derived.Test.YtnjkagopmfenkaaGreatFold08
import Derived.Lib.SliceRun
namespace Go.Proofs.YtnjkagopmfenkaaGreat.V4
open Go Go.RowKit Go.Shelf
set_option linter.unusedVariables false
set_option linter.unusedSimpArgs false

/-- A datagram stored into a box for a result. -/
theorem slot17 {W : World} {R : Nat} {c : List Value} (h : W.heap[R]? = some (.cells c.toArray 27)) (hc : c.length = 17) (V : List Value) (hV : V.length = 17) (h1 : ∀ v ∈ V, v.oneCell' = true) :
    ∃ w3, (Instr.storeAt 27 (.pointer (some ⟨R, 0, none⟩)) (.agg V.toArray)).run Tryz.prog W = .ok () w3 ∧ (loadVar 27 ⟨R, 0, none⟩).run Tryz.prog w3 = .ok (.agg V.toArray) w3 ∧ Only R W w3 := by
  have hs : ∀ j, j < V.length → (W.cell? ⟨R, 0 + j, none⟩).isSome = true := fun j hj => by
    have hj' : j < c.length := by omega
    simp [World.cell?, h, hj']
  exact ⟨W.setCells R 0 V, agg_store Tryz.sizeOf27 hV h1 hs (blk_open h), agg_loadVar Tryz.isAgg27 Tryz.sizeOf27 hV (CellsAt.stored _ hs), Only.sets _ _ _ (Only.refl _ _)⟩

def hopK (off ttl : Int) (no nb : Nat) : Int := if chk off no nb = 0 then (if ttl < 2 then 46 else 0) else chk off no nb
def zeroC : List Value := [.int .u8 0, .int .u16 0, .bool false, .bool false, .int .i64 0, .int .u8 0, .int .u8 0, .int .u8 0, .int .u8 0, .int .u8 0, .int .u8 0, .int .u8 0, .int .u8 0, .int .u8 0, .int .u8 0, .slice none 0 0, .slice none 0 0]
theorem zero_dg (w : World) : Dgram w zeroC 0 0 false false 0 0 0 0 0 0 0 0 0 0 0 [] [] := by
  have hb : BytesAt w.heap.size w (.slice none 0 0) [] := ⟨fun z hz => by simp at hz, by simp, none, 0, rfl, .inl rfl⟩
  exact ⟨⟨_, _, ⟨rfl, rfl, rfl⟩, hb, hb⟩, by decide, by decide, by decide, by decide, fun z hz => by simp at hz; omega, fun z hz => by simp at hz; omega, by decide⟩
theorem zero_one : ∀ v ∈ zeroC, v.oneCell' = true := by simp [zeroC, Value.oneCell']

/-- The boxes of Hop: the datagram's, the answer's. -/
structure HopW (w W : World) (c : List Value) : Prop where
  vb : W.heap[w.heap.size]? = some (.cells c.toArray 27)
  rb : W.heap[w.heap.size + 1]? = some (.cells zeroC.toArray 27)
  bel : Below w.heap.size w W
theorem HopW.start (w : World) (c : List Value) : HopW w ((w.alloc (.cells c.toArray 27)).alloc (.cells zeroC.toArray 27)) c := by
  refine ⟨blk_alloc (blk_new w _) _, ?_, ((Below.refl w.heap.size w).alloc (Nat.le_refl _) _).alloc (by simp) _⟩
  have := blk_new (w.alloc (.cells c.toArray 27)) (.cells zeroC.toArray 27)
  rwa [show (w.alloc (.cells c.toArray 27)).heap.size = w.heap.size + 1 by simp] at this
theorem HopW.lt {w W : World} {c : List Value} (h : HopW w W c) : w.heap.size + 1 < W.heap.size := (Array.getElem?_eq_some_iff.1 h.rb).1
theorem HopW.on {w W W' : World} {c : List Value} (h : HopW w W c) (hb : Below W.heap.size W W') : HopW w W' c :=
  ⟨blk_on h.vb hb, blk_on h.rb hb, h.bel.trans (hb.mono h.bel.size)⟩
theorem HopW.set {w W : World} {c : List Value} (h : HopW w W c) (j : Nat) (v : Value) : HopW w (W.setCell ⟨w.heap.size, j, none⟩ v) (c.set j v) :=
  ⟨blk_set h.vb j v, blk_set_other h.rb (by omega) j v, h.bel.setCell (Nat.le_refl _) v⟩
theorem HopW.slot {w W : World} {c : List Value} (h : HopW w W c) (V : List Value) (hV : V.length = 17) (h1 : ∀ v ∈ V, v.oneCell' = true) :
    ∃ w3, (Instr.storeAt 27 (.pointer (some ⟨w.heap.size + 1, 0, none⟩)) (.agg V.toArray)).run Tryz.prog W = .ok () w3 ∧ (loadVar 27 ⟨w.heap.size + 1, 0, none⟩).run Tryz.prog w3 = .ok (.agg V.toArray) w3 ∧ Below w.heap.size w w3 ∧ Only (w.heap.size + 1) W w3 := by
  obtain ⟨w3, h3, l3, o3⟩ := slot17 h.rb rfl V hV h1
  exact ⟨w3, h3, l3, h.bel.trans (o3.below (by omega)), o3⟩
theorem HopW.load {w W : World} {c : List Value} (h : HopW w W c) (hl : c.length = 17) : (Instr.loadAt 27 (.pointer (some ⟨w.heap.size, 0, none⟩))).run Tryz.prog W = .ok (.agg c.toArray) W :=
  agg_load Tryz.isAgg27 Tryz.sizeOf27 hl (CellsAt.of_blk h.vb)

end Go.Proofs.YtnjkagopmfenkaaGreat.V4

namespace Go.Proofs.YtnjkagopmfenkaaGreat.V4
open Go Go.RowKit
set_option linter.unusedVariables false
set_option linter.unusedSimpArgs false

end Go.Proofs.YtnjkagopmfenkaaGreat.V4

namespace Go.Proofs.YtnjkagopmfenkaaGreat.V4
open Go Go.RowKit
set_option linter.unusedVariables false
set_option linter.unusedSimpArgs false

end Go.Proofs.YtnjkagopmfenkaaGreat.V4

namespace Go.Proofs.YtnjkagopmfenkaaGreat.V4
open Go Go.RowKit
set_option linter.unusedVariables false
set_option linter.unusedSimpArgs false

/-- What Hop answers: a datagram, by its fields. -/
def HopD (tos id : Int) (df mf : Bool) (off ttl proto s0 s1 s2 s3 d0 d1 d2 d3 : Int) (opts body : List Int) (W : World) (c' : List Value) : Prop :=
  if hopK off ttl opts.length body.length = 0 then Dgram W c' tos id df mf off (ttl - 1) proto s0 s1 s2 s3 d0 d1 d2 d3 opts body else Dgram W c' 0 0 false false 0 0 0 0 0 0 0 0 0 0 0 [] []
theorem HopD.on {tos id : Int} {df mf : Bool} {off ttl proto s0 s1 s2 s3 d0 d1 d2 d3 : Int} {opts body : List Int} {W W' : World} {c' : List Value} (h : HopD tos id df mf off ttl proto s0 s1 s2 s3 d0 d1 d2 d3 opts body W c') (hb : Below W.heap.size W W') : HopD tos id df mf off ttl proto s0 s1 s2 s3 d0 d1 d2 d3 opts body W' c' := by
  unfold HopD at *
  split
  · next hk => rw [if_pos hk] at h; exact h.on hb
  · next hk => rw [if_neg hk] at h; exact h.on hb
theorem HopD.len {tos id : Int} {df mf : Bool} {off ttl proto s0 s1 s2 s3 d0 d1 d2 d3 : Int} {opts body : List Int} {W : World} {c' : List Value} (h : HopD tos id df mf off ttl proto s0 s1 s2 s3 d0 d1 d2 d3 opts body W c') : c'.length = 17 ∧ ∀ v ∈ c', v.oneCell' = true := by
  have key : ∀ {tos id : Int} {df mf : Bool} {off ttl proto s0 s1 s2 s3 d0 d1 d2 d3 : Int} {opts body : List Int}, Dgram W c' tos id df mf off ttl proto s0 s1 s2 s3 d0 d1 d2 d3 opts body → c'.length = 17 ∧ ∀ v ∈ c', v.oneCell' = true := by
    intro tos id df mf off ttl proto s0 s1 s2 s3 d0 d1 d2 d3 opts body hd
    refine ⟨hd.lens.len, ?_⟩
    obtain ⟨so, sb, hc, ho, hb⟩ := hd.cells
    obtain ⟨_, _, ao, ko, rfl, _⟩ := ho
    obtain ⟨_, _, ab, kb, rfl, _⟩ := hb
    rw [hc.eq]
    simp [Value.oneCell']
  unfold HopD at h
  split at h
  · exact key h
  · exact key h
/-- A new box with a datagram in it. -/
theorem box17 (w : World) (V : List Value) (hV : V.length = 17 ∧ ∀ v ∈ V, v.oneCell' = true) :
    ∃ w3, (Instr.storeAt 27 (.pointer (some ⟨w.heap.size, 0, none⟩)) (.agg V.toArray)).run Tryz.prog (w.alloc (.cells zeroC.toArray 27)) = .ok () w3 ∧ CellsAt w3 w.heap.size 0 V ∧ Below w.heap.size w w3 ∧ w.heap.size < w3.heap.size := by
  have hb := blk_new w (.cells zeroC.toArray 27)
  have hs : ∀ j, j < V.length → ((w.alloc (.cells zeroC.toArray 27)).cell? ⟨w.heap.size, 0 + j, none⟩).isSome = true := fun j hj => by
    have hj' : j < zeroC.length := by have := hV.1; simp only [zeroC, List.length_cons, List.length_nil]; omega
    rw [Nat.zero_add, blk_cell hb (List.getElem?_eq_getElem hj')]
    rfl
  have hO : Only w.heap.size (w.alloc (.cells zeroC.toArray 27)) ((w.alloc (.cells zeroC.toArray 27)).setCells w.heap.size 0 V) := Only.sets _ _ _ (Only.refl _ _)
  exact ⟨_, agg_store Tryz.sizeOf27 hV.1 hV.2 hs (blk_open hb), CellsAt.stored _ hs, ((Below.refl _ w).alloc (Nat.le_refl _) _).trans ((hO.below (Nat.le_refl _)).mono (by simp)), by rw [hO.size]; simp⟩

end Go.Proofs.YtnjkagopmfenkaaGreat.V4
