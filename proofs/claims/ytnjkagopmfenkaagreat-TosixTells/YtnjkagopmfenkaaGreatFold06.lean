/-
  putWord and cut of package ipv4.
  The header of an IPv4 datagram: head.
  Write of package ipv4.
  A region that draws its order, whose first operations only read and whose last two make a box and fill it: walked once.
-/
import Derived.Test.YtnjkagopmfenkaaGreatFold04
import Derived.Test.YtnjkagopmfenkaaGreatFold00
import Derived.Laws.BitsAllLaws
import Derived.Deep.RegionWith
import Derived.Deep.RegionLaw
import Derived.OwnWalk
import Derived.OrdersHeld
namespace Go.Proofs.YtnjkagopmfenkaaGreat.V4
open Go Go.RowKit
set_option linter.unusedVariables false
set_option linter.unusedSimpArgs false

theorem orA (off : Int) (h : 0 ≤ off ∧ off ≤ 8191) : bits .or .u16 off 8192 = off + 8192 := by
  obtain ⟨a, rfl⟩ := Int.eq_ofNat_of_zero_le h.1
  rw [show (8192 : Int) = ((8192 : Nat) : Int) from rfl, u16_or_nat a 8192 (by omega) (by omega), show (8192 : Nat) = 2 ^ 13 * 1 from rfl, or_hi a 1 13 (by omega)]
  omega
theorem orB (off : Int) (h : 0 ≤ off ∧ off ≤ 8191) : bits .or .u16 off 16384 = off + 16384 := by
  obtain ⟨a, rfl⟩ := Int.eq_ofNat_of_zero_le h.1
  rw [show (16384 : Int) = ((16384 : Nat) : Int) from rfl, u16_or_nat a 16384 (by omega) (by omega), show (16384 : Nat) = 2 ^ 13 * 2 from rfl, or_hi a 2 13 (by omega)]
  omega
theorem orC (off : Int) (h : 0 ≤ off ∧ off ≤ 8191) : bits .or .u16 (off + 16384) 8192 = off + 16384 + 8192 := by
  obtain ⟨a, rfl⟩ := Int.eq_ofNat_of_zero_le h.1
  rw [show ((a : Int) + 16384) = ((a + 16384 : Nat) : Int) by omega, show (8192 : Int) = ((8192 : Nat) : Int) from rfl, u16_or_nat (a + 16384) 8192 (by omega) (by omega)]
  have e1 : a + 16384 = a ||| (2 ^ 13 * 2) := by rw [or_hi a 2 13 (by omega)]
  have e2 : a ||| (2 ^ 13 * 2) ||| 8192 = a ||| (2 ^ 13 * 3) := by
    rw [Nat.or_assoc]
    rfl
  rw [e1, e2, or_hi a 3 13 (by omega)]
  omega

/-- The word that says how a datagram is split. -/
def cutW (off : Int) (df mf : Bool) : Int := off + (if df then 16384 else 0) + (if mf then 8192 else 0)

end Go.Proofs.YtnjkagopmfenkaaGreat.V4

namespace Go.Proofs.YtnjkagopmfenkaaGreat.V4
open Go Go.RowKit
set_option linter.unusedVariables false
set_option linter.unusedSimpArgs false

/-- A datagram's fields, as its cells hold them. -/
structure V4c (c : List Value) (tos id : Int) (df mf : Bool) (off ttl proto : Int) (src dst : List Int) (so sb : Value) : Prop where
  eq : c = [.int .u8 tos, .int .u16 id, .bool df, .bool mf, .int .i64 off, .int .u8 ttl, .int .u8 proto] ++ (src.map (fun z => Value.int .u8 z) ++ (dst.map (fun z => Value.int .u8 z) ++ [so, sb]))
  ls : src.length = 4
  ld : dst.length = 4

def z60 : List Int := List.replicate 60 0

theorem first_byte : ∀ s : Nat, s ≤ 60 → bits .or .i64 64 ((s : Int) / 4) = 64 + (s : Int) / 4 := by decide +kernel

/-- The header behind each step. -/
def hd1 (size : Nat) (tos : Int) : List Int := [64 + (size : Int) / 4, tos] ++ List.replicate 58 0
def hd4 (size all : Nat) (tos id cw : Int) : List Int := putL (putL (putL (hd1 size tos) 2 all) 4 id) 6 cw
def hd6 (size all : Nat) (tos id cw ttl proto : Int) : List Int := ((hd4 size all tos id cw).set 8 ttl).set 9 proto
def hd9 (size all : Nat) (tos id cw ttl proto : Int) (src dst opts : List Int) : List Int := laid (laid (laid (hd6 size all tos id cw ttl proto) 12 src) 16 dst) 20 opts
def ckW (zs : List Int) (size : Nat) : Int := 65535 - sumW 0 (wordsL (zs.take size))
def hdF (size all : Nat) (tos id cw ttl proto : Int) (src dst opts : List Int) : List Int := putL (hd9 size all tos id cw ttl proto src dst opts) 10 (ckW (hd9 size all tos id cw ttl proto src dst opts) size)

theorem z60_lit : (u8L z60).toArray = #[.int .u8 0, .int .u8 0, .int .u8 0, .int .u8 0, .int .u8 0, .int .u8 0, .int .u8 0, .int .u8 0, .int .u8 0, .int .u8 0, .int .u8 0, .int .u8 0, .int .u8 0, .int .u8 0, .int .u8 0, .int .u8 0, .int .u8 0, .int .u8 0, .int .u8 0, .int .u8 0, .int .u8 0, .int .u8 0, .int .u8 0, .int .u8 0, .int .u8 0, .int .u8 0, .int .u8 0, .int .u8 0, .int .u8 0, .int .u8 0, .int .u8 0, .int .u8 0, .int .u8 0, .int .u8 0, .int .u8 0, .int .u8 0, .int .u8 0, .int .u8 0, .int .u8 0, .int .u8 0, .int .u8 0, .int .u8 0, .int .u8 0, .int .u8 0, .int .u8 0, .int .u8 0, .int .u8 0, .int .u8 0, .int .u8 0, .int .u8 0, .int .u8 0, .int .u8 0, .int .u8 0, .int .u8 0, .int .u8 0, .int .u8 0, .int .u8 0, .int .u8 0, .int .u8 0, .int .u8 0] := by kernel_rfl
theorem hd1_lit (size : Nat) (tos : Int) : (u8L (hd1 size tos)).toArray = #[.int .u8 (64 + (size : Int) / 4), .int .u8 tos, .int .u8 0, .int .u8 0, .int .u8 0, .int .u8 0, .int .u8 0, .int .u8 0, .int .u8 0, .int .u8 0, .int .u8 0, .int .u8 0, .int .u8 0, .int .u8 0, .int .u8 0, .int .u8 0, .int .u8 0, .int .u8 0, .int .u8 0, .int .u8 0, .int .u8 0, .int .u8 0, .int .u8 0, .int .u8 0, .int .u8 0, .int .u8 0, .int .u8 0, .int .u8 0, .int .u8 0, .int .u8 0, .int .u8 0, .int .u8 0, .int .u8 0, .int .u8 0, .int .u8 0, .int .u8 0, .int .u8 0, .int .u8 0, .int .u8 0, .int .u8 0, .int .u8 0, .int .u8 0, .int .u8 0, .int .u8 0, .int .u8 0, .int .u8 0, .int .u8 0, .int .u8 0, .int .u8 0, .int .u8 0, .int .u8 0, .int .u8 0, .int .u8 0, .int .u8 0, .int .u8 0, .int .u8 0, .int .u8 0, .int .u8 0, .int .u8 0, .int .u8 0] := by kernel_rfl
end Go.Proofs.YtnjkagopmfenkaaGreat.V4

namespace Go.Proofs.YtnjkagopmfenkaaGreat.V4
open Go Go.RowKit
set_option linter.unusedVariables false
set_option linter.unusedSimpArgs false

theorem hd1_length (size : Nat) (tos : Int) : (hd1 size tos).length = 60 := by simp [hd1]
theorem hd1_fit (size : Nat) (tos : Int) (h : size ≤ 60) (ht : 0 ≤ tos ∧ tos < 256) : Fit (hd1 size tos) := by
  intro z hz
  simp [hd1] at hz
  rcases hz with rfl | rfl | hz <;> omega
theorem hd9_length (size all : Nat) (tos id cw ttl proto : Int) (src dst opts : List Int) (hs : src.length = 4) (hd : dst.length = 4) (ho : opts.length ≤ 40) : (hd9 size all tos id cw ttl proto src dst opts).length = 60 := by
  have h6 : (hd6 size all tos id cw ttl proto).length = 60 := by simp [hd6, hd4, putL_length, hd1_length]
  have h7 : (laid (hd6 size all tos id cw ttl proto) 12 src).length = 60 := by rw [laid_length 12 (by omega), h6]
  have h8 : (laid (laid (hd6 size all tos id cw ttl proto) 12 src) 16 dst).length = 60 := by rw [laid_length 16 (by omega), h7]
  unfold hd9
  rw [laid_length 20 (by omega), h8]
theorem hd9_fit (size all : Nat) (tos id cw ttl proto : Int) (src dst opts : List Int) (hs : size ≤ 60) (ha : all ≤ 65535) (ht : 0 ≤ tos ∧ tos < 256) (hi : 0 ≤ id ∧ id ≤ 65535) (hc : 0 ≤ cw ∧ cw ≤ 65535) (hl : 0 ≤ ttl ∧ ttl < 256) (hp : 0 ≤ proto ∧ proto < 256) (fs : Fit src) (fd : Fit dst) (fo : Fit opts) : Fit (hd9 size all tos id cw ttl proto src dst opts) :=
  laid_fit (laid_fit (laid_fit (set_fit (set_fit (putL_fit (putL_fit (putL_fit (hd1_fit size tos hs ht) 2 all (by omega)) 4 id hi) 6 cw hc) 8 ttl hl) 9 proto hp) fs 12) fd 16) fo 20
theorem hdF_length (size all : Nat) (tos id cw ttl proto : Int) (src dst opts : List Int) (hs : src.length = 4) (hd : dst.length = 4) (ho : opts.length ≤ 40) : (hdF size all tos id cw ttl proto src dst opts).length = 60 := by
  unfold hdF
  rw [putL_length, hd9_length _ _ _ _ _ _ _ _ _ _ hs hd ho]
theorem ckW_range {zs : List Int} (h : Fit zs) (size : Nat) : 0 ≤ ckW zs size ∧ ckW zs size ≤ 65535 := by
  have hrg := sumW_range (wordsL (zs.take size)) 0 (by decide) (wordsL_words (fun z hz => h z (List.mem_of_mem_take hz)))
  unfold ckW
  omega
theorem hdF_fit (size all : Nat) (tos id cw ttl proto : Int) (src dst opts : List Int) (hs : size ≤ 60) (ha : all ≤ 65535) (ht : 0 ≤ tos ∧ tos < 256) (hi : 0 ≤ id ∧ id ≤ 65535) (hc : 0 ≤ cw ∧ cw ≤ 65535) (hl : 0 ≤ ttl ∧ ttl < 256) (hp : 0 ≤ proto ∧ proto < 256) (fs : Fit src) (fd : Fit dst) (fo : Fit opts) : Fit (hdF size all tos id cw ttl proto src dst opts) := by
  have h9 := hd9_fit size all tos id cw ttl proto src dst opts hs ha ht hi hc hl hp fs fd fo
  exact putL_fit h9 10 _ (ckW_range h9 size)
theorem cutW_range (off : Int) (df mf : Bool) (ho : 0 ≤ off ∧ off ≤ 8191) : 0 ≤ cutW off df mf ∧ cutW off df mf ≤ 65535 := by
  unfold cutW
  cases df <;> cases mf <;> simp <;> omega

/-- A datagram: its cells, what they say, and its bytes. -/
structure Dgram (w : World) (c : List Value) (tos id : Int) (df mf : Bool) (off ttl proto s0 s1 s2 s3 d0 d1 d2 d3 : Int) (opts body : List Int) : Prop where
  cells : ∃ so sb, V4c c tos id df mf off ttl proto [s0, s1, s2, s3] [d0, d1, d2, d3] so sb ∧ BytesAt w.heap.size w so opts ∧ BytesAt w.heap.size w sb body
  hid : 0 ≤ id ∧ id ≤ 65535
  ft : 0 ≤ tos ∧ tos < 256
  fl : 0 ≤ ttl ∧ ttl < 256
  fp : 0 ≤ proto ∧ proto < 256
  fs : Fit [s0, s1, s2, s3]
  fd : Fit [d0, d1, d2, d3]
  bo : -9223372036854775808 ≤ off ∧ off ≤ 9223372036854775807

theorem Dgram.lens {w : World} {c : List Value} {tos id : Int} {df mf : Bool} {off ttl proto s0 s1 s2 s3 d0 d1 d2 d3 : Int} {opts body : List Int} (h : Dgram w c tos id df mf off ttl proto s0 s1 s2 s3 d0 d1 d2 d3 opts body) : Lens c off opts.length body.length := by
  obtain ⟨so, sb, hc, ho, hb⟩ := h.cells
  obtain ⟨_, lo, ao, ko, rfl, _⟩ := ho
  obtain ⟨_, lb, ab, kb, rfl, _⟩ := hb
  exact ⟨by rw [hc.eq]; simp, by rw [hc.eq]; rfl, ⟨ao, ko, by rw [hc.eq]; rfl⟩, ⟨ab, kb, by rw [hc.eq]; rfl⟩, h.bo, lo, lb⟩
theorem Dgram.on {w w' : World} {c : List Value} {tos id : Int} {df mf : Bool} {off ttl proto s0 s1 s2 s3 d0 d1 d2 d3 : Int} {opts body : List Int} (h : Dgram w c tos id df mf off ttl proto s0 s1 s2 s3 d0 d1 d2 d3 opts body) (hb : Below w.heap.size w w') : Dgram w' c tos id df mf off ttl proto s0 s1 s2 s3 d0 d1 d2 d3 opts body := by
  obtain ⟨so, sb, hc, ho, hbd⟩ := h.cells
  exact ⟨⟨so, sb, hc, ho.later hb, hbd.later hb⟩, h.hid, h.ft, h.fl, h.fp, h.fs, h.fd, h.bo⟩

/-- The bytes of a datagram. -/
def wrL (tos id : Int) (df mf : Bool) (off ttl proto s0 s1 s2 s3 d0 d1 d2 d3 : Int) (opts body : List Int) : List Int :=
  (hdF (20 + opts.length) (20 + opts.length + body.length) tos id (cutW off df mf) ttl proto [s0, s1, s2, s3] [d0, d1, d2, d3] opts).take (20 + opts.length) ++ body

end Go.Proofs.YtnjkagopmfenkaaGreat.V4

namespace Go.Proofs.YtnjkagopmfenkaaGreat.V4
open Go Go.RowKit
set_option linter.unusedVariables false
set_option linter.unusedSimpArgs false

end Go.Proofs.YtnjkagopmfenkaaGreat.V4
