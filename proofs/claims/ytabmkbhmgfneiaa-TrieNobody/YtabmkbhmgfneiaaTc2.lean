/-
  Addresses as keys of 128 bits.
-/
import Derived.Test.YtabmkbhmgfneiaaTc1
namespace Go.Proofs.Ytabmkbhmgfneiaa
open Go Go.RowKit Go.Shelf
set_option linter.unusedVariables false
set_option linter.unusedSimpArgs false

theorem build_k0 (l : List Int) (hl : l.length = 16) (w : World) : (Instr.build 39 #[(0, A6 l), (1, .int .i64 128)]).run Try.prog w = .ok (P6 l 128) w := build6 l 128 hl w
theorem addr_key {l : List Int} (hf : FitB l) (hl : l.length = 16) : l = bytN 16 (bitsK l 128) := by
  refine row_ext (by rw [bytN_length, hl]) hf (bytN_fit _ _) (fun p hp => ?_)
  rw [hl] at hp
  rw [bitN_bytN _ _ _ (by omega), bt_bitsK, if_pos (by omega)]
theorem P6_key {l : List Int} (hf : FitB l) (hl : l.length = 16) : P6 l 128 = KV (bitsK l 128) := by
  show Value.agg (cp6 l 128).toArray = Value.agg (cp6 (bytN 16 (bitsK l 128)) (bitsK l 128).length).toArray
  rw [← addr_key hf hl, bitsK_length]
  rfl
end Go.Proofs.Ytabmkbhmgfneiaa
