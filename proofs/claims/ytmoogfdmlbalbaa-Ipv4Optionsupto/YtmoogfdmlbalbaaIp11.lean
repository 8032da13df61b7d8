/-
  Same of both sides.
-/
import Derived.Test.YtmoogfdmlbalbaaIp9
import Derived.Stop.BytesEq
namespace Go.Proofs.Ytmoogfdmlbalbaa
open Go Go.RowKit
set_option linter.unusedVariables false
set_option linter.unusedSimpArgs false

theorem u8_back (z : Int) (h : 0 ≤ z ∧ z < 256) : (((UInt8.ofNat z.toNat).toNat : Nat) : Int) = z := by
  have : z.toNat % 256 = z.toNat := Nat.mod_eq_of_lt (by omega)
  simp only [UInt8.toNat_ofNat', this]
  omega
theorem cells_back (zs : List Int) (h : Fit zs) : (zs.map (fun z => UInt8.ofNat z.toNat)).map (fun u => Value.int .u8 (u.toNat : Int)) = zs.map (fun z => Value.int .u8 z) := by
  rw [List.map_map]
  refine List.map_congr_left fun z hz => ?_
  simp only [Function.comp_apply, u8_back z (h z hz)]
theorem bytes_inj (zs ys : List Int) (h : Fit zs) (g : Fit ys) : ((zs.map (fun z => UInt8.ofNat z.toNat)) == (ys.map (fun z => UInt8.ofNat z.toNat))) = decide (zs = ys) := by
  rw [Bool.eq_iff_iff]
  simp only [beq_iff_eq, decide_eq_true_eq]
  constructor
  · intro e
    have e2 := congrArg (List.map (fun u : UInt8 => ((u.toNat : Nat) : Int))) e
    rw [List.map_map, List.map_map] at e2
    have q1 : zs.map ((fun u : UInt8 => ((u.toNat : Nat) : Int)) ∘ fun z => UInt8.ofNat z.toNat) = zs := by
      conv => rhs; rw [← List.map_id zs]
      exact List.map_congr_left fun z hz => u8_back z (h z hz)
    have q2 : ys.map ((fun u : UInt8 => ((u.toNat : Nat) : Int)) ∘ fun z => UInt8.ofNat z.toNat) = ys := by
      conv => rhs; rw [← List.map_id ys]
      exact List.map_congr_left fun z hz => u8_back z (g z hz)
    rw [q1, q2] at e2
    exact e2
  · intro e; rw [e]

theorem eq_arr4 (d : Nat) (zs ys : List Int) (h : Fit zs) (g : Fit ys) (hl : zs.length = 4) (gl : ys.length = 4) (W : World) :
    (Op.equalIn (d + 2) 24 (.agg (zs.map (fun z => Value.int .u8 z)).toArray) (.agg (ys.map (fun z => Value.int .u8 z)).toArray)).run Try.prog W = .ok (decide (zs = ys)) W := by
  have := run_equalIn_bytes (P := Try.prog) W d 24 5 4 Try.underlying24 Try.underlying5 (fun w => by simp [go_sem]) (zs.map (fun z => UInt8.ofNat z.toNat)) (ys.map (fun z => UInt8.ofNat z.toNat)) (by simpa using hl) (by simpa using gl)
  rw [bytes_inj zs ys h g] at this
  have e1 := cells_back zs h
  have e2 := cells_back ys g
  rw [← e1, ← e2]
  exact this


set_option maxHeartbeats 1000000 in
set_option maxRecDepth 100000 in
theorem Equal_calls (a b : Value) (xs ys : List Int) (w : World) (ha : BytesAt w.heap.size w a xs) (hb : BytesAt w.heap.size w b ys) :
    Calls Try.prog 44 #[a, b] w fun e w' => e = .returned (.bool ((strOfNums xs).toList == (strOfNums ys).toList)) ∧ Below w.heap.size w w' := by
  have t1 := ha.text
  have t2 := hb.text
  clear ha hb
  generalize strOfNums xs = X at *
  generalize strOfNums ys = Y at *
  have hB := Below.refl w.heap.size w
  go_enter Try.func44, Try.ntmps44
  go_wp2
  go_ret
  exact ⟨rfl, hB⟩

/-- What Same says of two datagrams. -/
def sameB (tos id : Int) (df mf : Bool) (off ttl proto s0 s1 s2 s3 d0 d1 d2 d3 : Int) (opts body : List Int) (tos' id' : Int) (df' mf' : Bool) (off' ttl' proto' s0' s1' s2' s3' d0' d1' d2' d3' : Int) (opts' body' : List Int) : Bool :=
  (tos == tos') && (id == id') && (df == df') && (mf == mf') && (off == off') && (ttl == ttl') && (proto == proto') && decide ([s0, s1, s2, s3] = [s0', s1', s2', s3']) && decide ([d0, d1, d2, d3] = [d0', d1', d2', d3']) && ((strOfNums opts).toList == (strOfNums opts').toList) && ((strOfNums body).toList == (strOfNums body').toList)

theorem sameB_self (tos id : Int) (df mf : Bool) (off ttl proto s0 s1 s2 s3 d0 d1 d2 d3 : Int) (opts body : List Int) : sameB tos id df mf off ttl proto s0 s1 s2 s3 d0 d1 d2 d3 opts body tos id df mf off ttl proto s0 s1 s2 s3 d0 d1 d2 d3 opts body = true := by simp [sameB]

end Go.Proofs.Ytmoogfdmlbalbaa
