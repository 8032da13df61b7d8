/-
  The header of an IPv4 datagram: head.
-/
import Derived.Test.YtmoogfdmlbalbaaIp2
import Derived.Deep.RegionWith
import Derived.Deep.RegionLaw
namespace Go.Proofs.Ytmoogfdmlbalbaa
open Go Go.RowKit
set_option linter.unusedVariables false
set_option linter.unusedSimpArgs false

/-- A datagram's fields, as its cells hold them. -/
structure V4c (c : List Value) (tos id : Int) (df mf : Bool) (off ttl proto : Int) (src dst : List Int) (so sb : Value) : Prop where
  eq : c = [.int .u8 tos, .int .u16 id, .bool df, .bool mf, .int .i64 off, .int .u8 ttl, .int .u8 proto] ++ (src.map (fun z => Value.int .u8 z) ++ (dst.map (fun z => Value.int .u8 z) ++ [so, sb]))
  ls : src.length = 4
  ld : dst.length = 4

def u8L (zs : List Int) : List Value := zs.map (fun z => Value.int .u8 z)
def z60 : List Int := List.replicate 60 0

theorem OwnG.of_u8L {w : World} {b : Nat} {zs : List Int} {t : TypeId} (h : w.heap[b]? = some (.cells (u8L zs).toArray t)) : OwnG w b zs := by
  refine ⟨⟨_, _, h⟩, fun j hj => ?_⟩
  simp [World.cell?, h, u8L, hj]
theorem OwnG.cellsAt {w : World} {b : Nat} {zs : List Int} (h : OwnG w b zs) : CellsAt w b 0 (u8L zs) := by
  intro j v hj
  unfold u8L at hj
  rw [List.getElem?_map] at hj
  cases hz : zs[j]? with
  | none => simp [hz] at hj
  | some z =>
    simp [hz] at hj
    subst hj
    have := h.cell j (List.getElem?_eq_some_iff.1 hz).1
    rw [hz] at this
    simpa using this

/-- What head holds: the datagram, a box for the answer, the header as far as it is written. -/
structure HS (w wx : World) (c : List Value) (zs : List Int) : Prop where
  vb : wx.heap[w.heap.size]? = some (.cells c.toArray 27)
  rb : wx.heap[w.heap.size + 1]? = some (.cells (u8L z60).toArray 53)
  own : OwnG wx (w.heap.size + 1 + 1) zs
  bel : Below w.heap.size w wx
theorem HS.only {w wx wy : World} {c : List Value} {zs ys : List Int} (h : HS w wx c zs) (ho : Only (w.heap.size + 1 + 1) wx wy) (g : OwnG wy (w.heap.size + 1 + 1) ys) : HS w wy c ys :=
  ⟨(ho.other _ (by omega)).trans h.vb, (ho.other _ (by omega)).trans h.rb, g, h.bel.trans (ho.below (by omega))⟩
theorem HS.below {w wx wy : World} {c : List Value} {zs : List Int} (h : HS w wx c zs) (hb : Below wx.heap.size wx wy) : HS w wy c zs :=
  ⟨blk_on h.vb hb, blk_on h.rb hb, h.own.kept h.own.lt hb, h.bel.trans (hb.mono h.bel.size)⟩
theorem HS.drew {w wx : World} {c : List Value} {zs : List Int} (h : HS w wx c zs) : HS w wx.drew c zs := ⟨h.vb, h.rb, ⟨h.own.typed, h.own.cell⟩, h.bel.drew⟩
theorem HS.slot {w wx : World} {c : List Value} {zs : List Int} (h : HS w wx c zs) (ys : List Int) (hl : ys.length = 60) :
    ∃ w3, (Instr.storeAt 53 (.pointer (some ⟨w.heap.size + 1, 0, none⟩)) (.agg (u8L ys).toArray)).run Try.prog wx = .ok () w3 ∧ (loadVar 53 ⟨w.heap.size + 1, 0, none⟩).run Try.prog w3 = .ok (.agg (u8L ys).toArray) w3 ∧ Below w.heap.size w w3 := by
  have hs : ∀ j, j < (u8L ys).length → (wx.cell? ⟨w.heap.size + 1, 0 + j, none⟩).isSome = true := fun j hj => by
    have hj' : j < 60 := by simpa [u8L, hl] using hj
    simp [World.cell?, h.rb, u8L, z60, hj']
  have h60 : (u8L ys).length = 60 := by simp [u8L, hl]
  have h1 : ∀ v ∈ u8L ys, v.oneCell' = true := fun v hv => by
    obtain ⟨z, _, rfl⟩ := List.mem_map.1 hv
    rfl
  refine ⟨wx.setCells (w.heap.size + 1) 0 (u8L ys), agg_store Try.sizeOf53 h60 h1 hs (fun j => by simp [World.frozen?, h.rb]), agg_loadVar Try.isAgg53 Try.sizeOf53 h60 (CellsAt.stored _ hs), Below.sets (by omega) _ 0 _ h.bel⟩
theorem res1 {P : Program} {fn : Func} {a : Tmp} {t : TypeId} (h : fn.results = #[.cell a t]) {tmps : Array Value} {R : Addr} (hp : tmps.getD a undef = .pointer (some R)) {v : Value} {w : World} (hl : (loadVar t R).run P w = .ok v w) :
    (results fn tmps).run P w = .ok v w := by
  rw [Array.getD_eq_getD_getElem?] at hp
  simp [results, h, hp, asAddr, hl]
theorem HS.cell {w wx : World} {c : List Value} {zs : List Int} (h : HS w wx c zs) (j : Nat) {v : Value} (hv : c[j]? = some v) : wx.cell? ⟨w.heap.size, j, none⟩ = some v := by
  simp [World.cell?, h.vb, hv]
theorem HS.part {w wx : World} {c : List Value} {zs : List Int} (h : HS w wx c zs) {xs ys us : List Int} {pre post : List Value} (hc : c = pre ++ (ys.map (fun z => Value.int .u8 z) ++ post)) (fy : Fit ys) (ly : ys.length = 4) (o : Nat) (ho : pre.length = o) :
    BytesAt wx.heap.size wx (.slice (some ⟨w.heap.size, o, none⟩) 4 4) ys := by
  refine ⟨fy, by omega, some ⟨w.heap.size, o, none⟩, 4, by rw [ly], .inr ⟨w.heap.size, o, rfl, (Array.getElem?_eq_some_iff.1 h.vb).1, fun j hj => ?_⟩⟩
  refine h.cell (o + j) ?_
  rw [hc, List.getElem?_append_right (by omega), ← ho, Nat.add_sub_cancel_left, List.getElem?_append_left (by simpa using hj), List.getElem?_map, List.getElem?_eq_getElem hj]
  rfl

theorem first_byte : ∀ s : Nat, s ≤ 60 → bits .or .i64 64 ((s : Int) / 4) = 64 + (s : Int) / 4 := by decide +kernel

/-- The header behind each step. -/
def hd1 (size : Nat) (tos : Int) : List Int := [64 + (size : Int) / 4, tos] ++ List.replicate 58 0
def hd4 (size all : Nat) (tos id cw : Int) : List Int := putL (putL (putL (hd1 size tos) 2 all) 4 id) 6 cw
def hd6 (size all : Nat) (tos id cw ttl proto : Int) : List Int := ((hd4 size all tos id cw).set 8 ttl).set 9 proto
def laid (zs : List Int) (o : Nat) (ys : List Int) : List Int := zs.take o ++ ys ++ zs.drop (o + ys.length)
def hd9 (size all : Nat) (tos id cw ttl proto : Int) (src dst opts : List Int) : List Int := laid (laid (laid (hd6 size all tos id cw ttl proto) 12 src) 16 dst) 20 opts
def ckW (zs : List Int) (size : Nat) : Int := 65535 - sumW 0 (wordsL (zs.take size))
def hdF (size all : Nat) (tos id cw ttl proto : Int) (src dst opts : List Int) : List Int := putL (hd9 size all tos id cw ttl proto src dst opts) 10 (ckW (hd9 size all tos id cw ttl proto src dst opts) size)

theorem z60_lit : (u8L z60).toArray = #[.int .u8 0, .int .u8 0, .int .u8 0, .int .u8 0, .int .u8 0, .int .u8 0, .int .u8 0, .int .u8 0, .int .u8 0, .int .u8 0, .int .u8 0, .int .u8 0, .int .u8 0, .int .u8 0, .int .u8 0, .int .u8 0, .int .u8 0, .int .u8 0, .int .u8 0, .int .u8 0, .int .u8 0, .int .u8 0, .int .u8 0, .int .u8 0, .int .u8 0, .int .u8 0, .int .u8 0, .int .u8 0, .int .u8 0, .int .u8 0, .int .u8 0, .int .u8 0, .int .u8 0, .int .u8 0, .int .u8 0, .int .u8 0, .int .u8 0, .int .u8 0, .int .u8 0, .int .u8 0, .int .u8 0, .int .u8 0, .int .u8 0, .int .u8 0, .int .u8 0, .int .u8 0, .int .u8 0, .int .u8 0, .int .u8 0, .int .u8 0, .int .u8 0, .int .u8 0, .int .u8 0, .int .u8 0, .int .u8 0, .int .u8 0, .int .u8 0, .int .u8 0, .int .u8 0, .int .u8 0] := by kernel_rfl
theorem hd1_lit (size : Nat) (tos : Int) : (u8L (hd1 size tos)).toArray = #[.int .u8 (64 + (size : Int) / 4), .int .u8 tos, .int .u8 0, .int .u8 0, .int .u8 0, .int .u8 0, .int .u8 0, .int .u8 0, .int .u8 0, .int .u8 0, .int .u8 0, .int .u8 0, .int .u8 0, .int .u8 0, .int .u8 0, .int .u8 0, .int .u8 0, .int .u8 0, .int .u8 0, .int .u8 0, .int .u8 0, .int .u8 0, .int .u8 0, .int .u8 0, .int .u8 0, .int .u8 0, .int .u8 0, .int .u8 0, .int .u8 0, .int .u8 0, .int .u8 0, .int .u8 0, .int .u8 0, .int .u8 0, .int .u8 0, .int .u8 0, .int .u8 0, .int .u8 0, .int .u8 0, .int .u8 0, .int .u8 0, .int .u8 0, .int .u8 0, .int .u8 0, .int .u8 0, .int .u8 0, .int .u8 0, .int .u8 0, .int .u8 0, .int .u8 0, .int .u8 0, .int .u8 0, .int .u8 0, .int .u8 0, .int .u8 0, .int .u8 0, .int .u8 0, .int .u8 0, .int .u8 0, .int .u8 0] := by kernel_rfl
theorem HS.start (w : World) (c : List Value) (size : Nat) (tos : Int) : HS w (((w.alloc (.cells c.toArray 27)).alloc (.cells #[.int .u8 0, .int .u8 0, .int .u8 0, .int .u8 0, .int .u8 0, .int .u8 0, .int .u8 0, .int .u8 0, .int .u8 0, .int .u8 0, .int .u8 0, .int .u8 0, .int .u8 0, .int .u8 0, .int .u8 0, .int .u8 0, .int .u8 0, .int .u8 0, .int .u8 0, .int .u8 0, .int .u8 0, .int .u8 0, .int .u8 0, .int .u8 0, .int .u8 0, .int .u8 0, .int .u8 0, .int .u8 0, .int .u8 0, .int .u8 0, .int .u8 0, .int .u8 0, .int .u8 0, .int .u8 0, .int .u8 0, .int .u8 0, .int .u8 0, .int .u8 0, .int .u8 0, .int .u8 0, .int .u8 0, .int .u8 0, .int .u8 0, .int .u8 0, .int .u8 0, .int .u8 0, .int .u8 0, .int .u8 0, .int .u8 0, .int .u8 0, .int .u8 0, .int .u8 0, .int .u8 0, .int .u8 0, .int .u8 0, .int .u8 0, .int .u8 0, .int .u8 0, .int .u8 0, .int .u8 0] 53)).alloc (.cells #[.int .u8 (64 + (size : Int) / 4), .int .u8 tos, .int .u8 0, .int .u8 0, .int .u8 0, .int .u8 0, .int .u8 0, .int .u8 0, .int .u8 0, .int .u8 0, .int .u8 0, .int .u8 0, .int .u8 0, .int .u8 0, .int .u8 0, .int .u8 0, .int .u8 0, .int .u8 0, .int .u8 0, .int .u8 0, .int .u8 0, .int .u8 0, .int .u8 0, .int .u8 0, .int .u8 0, .int .u8 0, .int .u8 0, .int .u8 0, .int .u8 0, .int .u8 0, .int .u8 0, .int .u8 0, .int .u8 0, .int .u8 0, .int .u8 0, .int .u8 0, .int .u8 0, .int .u8 0, .int .u8 0, .int .u8 0, .int .u8 0, .int .u8 0, .int .u8 0, .int .u8 0, .int .u8 0, .int .u8 0, .int .u8 0, .int .u8 0, .int .u8 0, .int .u8 0, .int .u8 0, .int .u8 0, .int .u8 0, .int .u8 0, .int .u8 0, .int .u8 0, .int .u8 0, .int .u8 0, .int .u8 0, .int .u8 0] 53)) c (hd1 size tos) := by
  rw [← z60_lit, ← hd1_lit]
  have e2 := blk_new (w.alloc (.cells c.toArray 27)) (.cells (u8L z60).toArray 53)
  have e3 := blk_new ((w.alloc (.cells c.toArray 27)).alloc (.cells (u8L z60).toArray 53)) (.cells (u8L (hd1 size tos)).toArray 53)
  rw [World.size_alloc] at e2
  rw [World.size_alloc, World.size_alloc] at e3
  refine ⟨blk_alloc (blk_alloc (blk_new _ _) _) _, blk_alloc e2 _, OwnG.of_u8L e3, (((Below.refl _ w).alloc (Nat.le_refl _) _).alloc (by simp) _).alloc (by simp; omega) _⟩

theorem putL_length (zs : List Int) (o : Nat) (x : Int) : (putL zs o x).length = zs.length := by simp [putL]
theorem putL_fit {zs : List Int} (h : Fit zs) (o : Nat) (x : Int) (hx : 0 ≤ x ∧ x ≤ 65535) : Fit (putL zs o x) := by
  intro z hz
  unfold putL at hz
  rcases List.mem_or_eq_of_mem_set hz with hz | rfl
  · rcases List.mem_or_eq_of_mem_set hz with hz | rfl
    · exact h z hz
    · omega
  · omega
theorem set_fit {zs : List Int} (h : Fit zs) (o : Nat) (x : Int) (hx : 0 ≤ x ∧ x < 256) : Fit (zs.set o x) := by
  intro z hz
  rcases List.mem_or_eq_of_mem_set hz with hz | rfl
  · exact h z hz
  · exact hx
theorem laid_length {zs ys : List Int} (o : Nat) (h : o + ys.length ≤ zs.length) : (laid zs o ys).length = zs.length := by simp [laid]; omega
theorem laid_fit {zs ys : List Int} (h : Fit zs) (g : Fit ys) (o : Nat) : Fit (laid zs o ys) := by
  intro z hz
  unfold laid at hz
  rcases List.mem_append.1 hz with hz | hz
  · rcases List.mem_append.1 hz with hz | hz
    · exact h z (List.mem_of_mem_take hz)
    · exact g z hz
  · exact h z (List.mem_of_mem_drop hz)

set_option maxHeartbeats 4000000 in
set_option maxRecDepth 100000 in
theorem head_calls (c : List Value) (tos id : Int) (df mf : Bool) (off ttl proto : Int) (s0 s1 s2 s3 d0 d1 d2 d3 : Int) (opts : List Int) (so sb : Value) (all size : Nat) (w : World)
    (hc : V4c c tos id df mf off ttl proto [s0, s1, s2, s3] [d0, d1, d2, d3] so sb) (hso : BytesAt w.heap.size w so opts) (hsz : size = 20 + opts.length) (hlo : opts.length ≤ 40) (hal : all ≤ 65535) (ho : 0 ≤ off ∧ off ≤ 8191) (hid : 0 ≤ id ∧ id ≤ 65535)
    (ft : 0 ≤ tos ∧ tos < 256) (fl : 0 ≤ ttl ∧ ttl < 256) (fp : 0 ≤ proto ∧ proto < 256) (fs : Fit [s0, s1, s2, s3]) (fd : Fit [d0, d1, d2, d3]) :
    Calls Try.prog 33 #[.agg c.toArray, .int .i64 all, .int .i64 size] w fun e w' => e = .returned (.agg (u8L (hdF size all tos id (cutW off df mf) ttl proto [s0, s1, s2, s3] [d0, d1, d2, d3] opts)).toArray) ∧ Below w.heap.size w w' := by
  have hl : c.length = 17 := by rw [hc.eq]; simp [hc.ls, hc.ld]
  have h0 : c[0]? = some (.int .u8 tos) := by rw [hc.eq]; rfl
  have h1 : c[1]? = some (.int .u16 id) := by rw [hc.eq]; rfl
  have h2 : c[2]? = some (.bool df) := by rw [hc.eq]; rfl
  have h3 : c[3]? = some (.bool mf) := by rw [hc.eq]; rfl
  have h4 : c[4]? = some (.int .i64 off) := by rw [hc.eq]; rfl
  have h5 : c[5]? = some (.int .u8 ttl) := by rw [hc.eq]; rfl
  have h6 : c[6]? = some (.int .u8 proto) := by rw [hc.eq]; rfl
  have h15 : c[15]? = some so := by rw [hc.eq]; simp [hc.ls, hc.ld]
  have hs1 : 20 ≤ size := by omega
  have hs2 : size ≤ 60 := by omega
  have hfb := first_byte size hs2
  have hcut := fun w => cut_calls4 c off df mf w h2 h3 h4 ho
  have HSZ : Hid _ := hsz
  have HL : Hid _ := hl
  have HC : Hid _ := hc
  have HCUT : Hid _ := hcut
  have H1 : Hid _ := h1
  have H5 : Hid _ := h5
  have H6 : Hid _ := h6
  have H15 : Hid _ := h15
  have HSO : Hid _ := hso
  clear hl hsz hc hcut h1 h2 h3 h4 h5 h6 h15 hso
  go_enter Try.func33, Try.ntmps33
  have SS0 : Hid _ := HS.start w c size tos
  have L0 : (hd1 size tos).length = 60 := by simp [hd1]
  have fz0 : Fit (hd1 size tos) := by
    intro z hz
    simp [hd1] at hz
    rcases hz with rfl | rfl | hz <;> omega
  have FZ0 : Hid _ := fz0
  clear fz0
  have LL0 : Hid _ := L0
  clear L0
  go_wp2_with fail
  refine Calls.mono (putWord_calls (w.heap.size + 1 + 1) 2 58 58 (hd1 size tos) all _ SS0.out.own (by omega) (by rw [LL0.out]; decide) (by omega) (by rw [LL0.out]; decide)) ?_
  rintro e1 w1 ⟨rfl, own1, only1⟩
  have s1 := SS0.out.only only1 own1
  have l1 : (putL (hd1 size tos) 2 all).length = 60 := by rw [putL_length]; exact LL0.out
  have k1 := s1.cell 1 H1.out
  clear SS0 LL0 own1 only1
  have fz1 : Fit (putL (hd1 size tos) 2 all) := putL_fit FZ0.out 2 all (by omega)
  generalize hz1 : putL (hd1 size tos) 2 all = z1 at *
  have FZ1 : Hid _ := fz1
  clear fz1
  have HZ1 : Hid _ := hz1
  have S1 : Hid _ := s1
  have L1 : Hid _ := l1
  clear hz1 s1 l1
  go_wp2_with fail
  go_region_with (go_at_call 50; refine Calls.mono (putWord_calls (w.heap.size + 1 + 1) 4 56 56 z1 id _ S1.out.drew.own (by omega) (by rw [L1.out]; decide) hid (by rw [L1.out]; decide)) ?_; rintro e2 w2 ⟨rfl, own2, only2⟩)
  have s2 := S1.out.drew.only only2 own2
  have l2 : (putL z1 4 id).length = 60 := by rw [putL_length]; exact L1.out
  clear S1 L1 own2 only2 k1
  have fz2 : Fit (putL z1 4 id) := putL_fit FZ1.out 4 id hid
  generalize hz2 : putL z1 4 id = z2 at *
  have FZ2 : Hid _ := fz2
  clear fz2
  have HZ2 : Hid _ := hz2
  have S2 : Hid _ := s2
  have L2 : Hid _ := l2
  have HLV : Hid _ := agg_load (t := 27) Try.isAgg27 Try.sizeOf27 HL.out (CellsAt.of_blk s2.vb)
  clear hz2 s2 l2
  go_wp2_with fail
  have ce : c = [.int .u8 tos, .int .u16 id, .bool df, .bool mf, .int .i64 off, .int .u8 ttl, .int .u8 proto, .int .u8 s0, .int .u8 s1, .int .u8 s2, .int .u8 s3, .int .u8 d0, .int .u8 d1, .int .u8 d2, .int .u8 d3, so, sb] := HC.out.eq
  have q0 := S2.out.cell 0 (v := .int .u8 tos) (by rw [ce]; rfl)
  have q1 := S2.out.cell 1 (v := .int .u16 id) (by rw [ce]; rfl)
  have q2 := S2.out.cell 2 (v := .bool df) (by rw [ce]; rfl)
  have q3 := S2.out.cell 3 (v := .bool mf) (by rw [ce]; rfl)
  have q4 := S2.out.cell 4 (v := .int .i64 off) (by rw [ce]; rfl)
  have q5 := S2.out.cell 5 (v := .int .u8 ttl) (by rw [ce]; rfl)
  have q6 := S2.out.cell 6 (v := .int .u8 proto) (by rw [ce]; rfl)
  have q7 := S2.out.cell 7 (v := .int .u8 s0) (by rw [ce]; rfl)
  have q8 := S2.out.cell 8 (v := .int .u8 s1) (by rw [ce]; rfl)
  have q9 := S2.out.cell 9 (v := .int .u8 s2) (by rw [ce]; rfl)
  have q10 := S2.out.cell 10 (v := .int .u8 s3) (by rw [ce]; rfl)
  have q11 := S2.out.cell 11 (v := .int .u8 d0) (by rw [ce]; rfl)
  have q12 := S2.out.cell 12 (v := .int .u8 d1) (by rw [ce]; rfl)
  have q13 := S2.out.cell 13 (v := .int .u8 d2) (by rw [ce]; rfl)
  have q14 := S2.out.cell 14 (v := .int .u8 d3) (by rw [ce]; rfl)
  have q15 := S2.out.cell 15 (v := so) (by rw [ce]; rfl)
  have q16 := S2.out.cell 16 (v := sb) (by rw [ce]; rfl)
  rw [ce] at HCUT
  clear ce
  have hcw : 0 ≤ cutW off df mf ∧ cutW off df mf ≤ 65535 := by unfold cutW; cases df <;> cases mf <;> simp <;> omega
  generalize hcwe : cutW off df mf = cw at *
  have HCW : Hid _ := hcwe
  clear hcwe
  go_region_with (first | (go_at_call 51; refine Calls.mono (HCUT.out _) ?_; rintro e3 w3 ⟨rfl, hb3⟩) | (go_at_call 50; refine Calls.mono (putWord_calls (w.heap.size + 1 + 1) 6 54 54 z2 cw _ (S2.out.drew.below hb3).own (by omega) (by rw [L2.out]; decide) hcw (by rw [L2.out]; decide)) ?_; rintro e4 w4 ⟨rfl, own4, only4⟩))
  have s4 := (S2.out.drew.below hb3).only only4 own4
  have l4 : (putL z2 6 cw).length = 60 := by rw [putL_length]; exact L2.out
  clear S2 L2 own4 only4 hb3 q0 q1 q2 q3 q4 q5 q6 q7 q8 q9 q10 q11 q12 q13 q14 q15 q16 HCUT HLV
  have fz4 : Fit (putL z2 6 cw) := putL_fit FZ2.out 6 cw hcw
  generalize hz4 : putL z2 6 cw = z4 at *
  have FZ4 : Hid _ := fz4
  clear fz4
  have HZ4 : Hid _ := hz4
  have k5 := s4.cell 5 H5.out
  have k6 := s4.cell 6 H6.out
  have c8 := s4.own.cell 8 (by omega)
  have c9 := s4.own.cell 9 (by omega)
  have f8 := s4.own.open 8
  have f9 := s4.own.open 9
  have S4 : Hid _ := s4
  have L4 : Hid _ := l4
  clear hz4 s4 l4
  go_wp2_with fail
  have s5 := S4.out.only (((Only.refl (w.heap.size + 1 + 1) w4).set 8 (.int .u8 ttl)).set 9 (.int .u8 proto)) ((S4.out.own.set 8 (by rw [L4.out]; decide) ttl).set 9 (by rw [List.length_set, L4.out]; decide) proto)
  have l5 : ((z4.set 8 ttl).set 9 proto).length = 60 := by simp [L4.out]
  have fz5 : Fit ((z4.set 8 ttl).set 9 proto) := set_fit (set_fit FZ4.out 8 ttl fl) 9 proto fp
  generalize hz5 : (z4.set 8 ttl).set 9 proto = z5 at *
  have FZ5 : Hid _ := fz5
  clear fz5
  have HZ5 : Hid _ := hz5
  generalize (w4.setCell ⟨w.heap.size + 1 + 1, 8, none⟩ (.int .u8 ttl)).setCell ⟨w.heap.size + 1 + 1, 9, none⟩ (.int .u8 proto) = w5 at *
  have S5 : Hid _ := s5
  have L5 : Hid _ := l5
  clear hz5 s5 l5 k5 k6 c8 c9 f8 f9 S4 L4
  go_region_law (refine step_copyR rfl _ _ _ _ rfl rfl rfl (S5.out.drew.own.copy (S5.out.drew.part (xs := []) (us := []) (ys := [s0, s1, s2, s3]) (pre := [.int .u8 tos, .int .u16 id, .bool df, .bool mf, .int .i64 off, .int .u8 ttl, .int .u8 proto]) HC.out.eq fs rfl 7 rfl) 12 48 48 (by rw [L5.out]; decide) (by simp) _) ?_; rintro v6 w6 ⟨own6, only6⟩)
  have s6 : HS w w6 c (laid z5 12 [s0, s1, s2, s3]) := S5.out.drew.only only6 own6
  have l6 : (laid z5 12 [s0, s1, s2, s3]).length = 60 := by rw [laid_length 12 (by rw [L5.out]; simp)]; exact L5.out
  have fz6 : Fit (laid z5 12 [s0, s1, s2, s3]) := laid_fit FZ5.out fs 12
  generalize hz6 : laid z5 12 [s0, s1, s2, s3] = z6 at *
  have FZ6 : Hid _ := fz6
  clear fz6
  have HZ6 : Hid _ := hz6
  have S6 : Hid _ := s6
  have L6 : Hid _ := l6
  clear hz6 s6 l6 S5 own6 only6
  have ce : c = [.int .u8 tos, .int .u16 id, .bool df, .bool mf, .int .i64 off, .int .u8 ttl, .int .u8 proto, .int .u8 s0, .int .u8 s1, .int .u8 s2, .int .u8 s3] ++ ([d0, d1, d2, d3].map (fun z => Value.int .u8 z) ++ [so, sb]) := HC.out.eq
  have HCE : Hid _ := ce
  clear ce
  go_wp2_with fail
  go_region_law (refine step_copyR rfl _ _ _ _ rfl rfl rfl (S6.out.drew.own.copy (S6.out.drew.part (xs := []) (us := []) (ys := [d0, d1, d2, d3]) (pre := [.int .u8 tos, .int .u16 id, .bool df, .bool mf, .int .i64 off, .int .u8 ttl, .int .u8 proto, .int .u8 s0, .int .u8 s1, .int .u8 s2, .int .u8 s3]) HCE.out fd rfl 11 rfl) 16 44 44 (by rw [L6.out]; decide) (by simp) _) ?_; rintro v7 w7 ⟨own7, only7⟩)
  have s7 : HS w w7 c (laid z6 16 [d0, d1, d2, d3]) := S6.out.drew.only only7 own7
  have l7 : (laid z6 16 [d0, d1, d2, d3]).length = 60 := by rw [laid_length 16 (by rw [L6.out]; simp)]; exact L6.out
  have fz7 : Fit (laid z6 16 [d0, d1, d2, d3]) := laid_fit FZ6.out fd 16
  generalize hz7 : laid z6 16 [d0, d1, d2, d3] = z7 at *
  have FZ7 : Hid _ := fz7
  clear fz7
  have HZ7 : Hid _ := hz7
  have S7 : Hid _ := s7
  have L7 : Hid _ := l7
  have k15 := s7.cell 15 H15.out
  have hso7 : BytesAt w.heap.size w7.drew so opts := HSO.out.below s7.drew.bel
  have HSO7 : Hid _ := hso7
  clear hz7 s7 l7 S6 own7 only7 hso7
  go_wp2_with fail
  go_region_law (refine step_copyR rfl _ _ _ _ rfl rfl rfl (S7.out.drew.own.copy HSO7.out 20 40 40 (by rw [L7.out]; decide) hlo _) ?_; rintro v8 w8 ⟨own8, only8⟩)
  have s8 : HS w w8 c (laid z7 20 opts) := S7.out.drew.only only8 own8
  have l8 : (laid z7 20 opts).length = 60 := by rw [laid_length 20 (by rw [L7.out]; omega)]; exact L7.out
  have fz8 : Fit (laid z7 20 opts) := laid_fit FZ7.out HSO.out.fit 20
  generalize hz8 : laid z7 20 opts = z8 at *
  have FZ8 : Hid _ := fz8
  clear fz8
  have HZ8 : Hid _ := hz8
  have S8 : Hid _ := s8
  have L8 : Hid _ := l8
  clear hz8 s8 l8 S7 own8 only8 k15 HSO7
  have i1 : (size : Int) ≤ 60 := by omega
  have hby := S8.out.own.bytes FZ8.out (by rw [L8.out]; decide) 0 size 60 (by rw [L8.out]; omega)
  have hpt := (parts_one w8 _ 25 _ hby).below (B := (w8.alloc (.cells #[.slice (some ⟨w.heap.size + 1 + 1, 0, none⟩) size 60] 25)).drew) (Below.refl _ _).drew
  have hof := of_calls (some ⟨w8.heap.size, 0, none⟩) 1 1 [List.take size (List.drop 0 z8)] (w8.alloc (.cells #[.slice (some ⟨w.heap.size + 1 + 1, 0, none⟩) size 60] 25)).drew hpt
  have hrg := sumW_range (wordsL [List.take size (List.drop 0 z8)].flatten) 0 (by decide) (wordsL_words hpt.fit)
  have hcke : 65535 - sumW 0 (wordsL [List.take size (List.drop 0 z8)].flatten) = ckW z8 size := by simp [ckW]
  have hck : 0 ≤ ckW z8 size ∧ ckW z8 size ≤ 65535 := by rw [← hcke]; omega
  rw [hcke] at hof
  have s9 := (S8.out.below ((Below.refl w8.heap.size w8).alloc (Nat.le_refl _) (.cells #[.slice (some ⟨w.heap.size + 1 + 1, 0, none⟩) size 60] 25))).drew
  have HOF : Hid _ := hof
  have S9 : Hid _ := s9
  clear hby hpt hof hrg hcke s9
  generalize hcw2 : ckW z8 size = ck at *
  have HCK : Hid _ := hcw2
  clear hcw2
  go_wp2_with fail
  go_region_with (first | (go_at_call 52; refine Calls.mono HOF.out ?_; rintro e9 w9 ⟨rfl, hb9⟩) | (go_at_call 50; refine Calls.mono (putWord_calls (w.heap.size + 1 + 1) 10 50 50 z8 ck _ (S9.out.below hb9).own (by omega) (by rw [L8.out]; decide) hck (by rw [L8.out]; decide)) ?_; rintro e10 w10 ⟨rfl, own10, only10⟩))
  have s10 := (S9.out.below hb9).only only10 own10
  have l10 : (putL z8 10 ck).length = 60 := by rw [putL_length]; exact L8.out
  obtain ⟨w11, hst, hres, hbl⟩ := s10.slot (putL z8 10 ck) l10
  have HLD : Hid _ := agg_load (t := 53) Try.isAgg53 Try.sizeOf53 (by simp [u8L, l10]) s10.own.cellsAt
  have HST : Hid _ := hst
  have HRS : Hid _ := hres
  clear hst hres s10 l10 own10 only10 hb9 S9 S8 HOF
  go_wp2_with first
    | ((with_reducible show wpList _ _ _ _ _ _); refine arm_load rfl (.tmp 7) 53 rfl rfl HLD.out ?_)
    | ((with_reducible show wpList _ _ _ _ _ _); refine arm_store rfl (.tmp 6) _ 53 rfl rfl rfl HST.out ?_)
  refine bodyPost_ret (res1 rfl rfl HRS.out) rfl ?_
  refine ⟨?_, hbl⟩
  unfold hdF hd9 hd6 hd4
  rw [HCW.out, HZ1.out, HZ2.out, HZ4.out, HZ5.out, HZ6.out, HZ7.out, HZ8.out, HCK.out]

end Go.Proofs.Ytmoogfdmlbalbaa
