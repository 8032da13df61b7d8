/-
  The document's header of an IPv4 datagram.
-/
import Derived.Test.YtmoogfdmlbalbaaIp4
namespace Go.Proofs.Ytmoogfdmlbalbaa
open Go Go.RowKit
set_option linter.unusedVariables false
set_option linter.unusedSimpArgs false

set_option maxHeartbeats 1000000 in
set_option maxRecDepth 100000 in
theorem two_calls (n : Int) (w : World) (h : 0 ≤ n ∧ n ≤ 65535) : Calls Try.prog 54 #[.int .i64 n] w fun e w' => ∃ r, e = .returned r ∧ BytesAt w'.heap.size w' r [n / 256, n % 256] ∧ Below w.heap.size w w' := by
  go_enter Try.func54, Try.ntmps54
  go_wp2
  go_ret
  refine ⟨_, rfl, bytes_new w 5 [n / 256, n % 256] _ 2 2 (bytes_lit [n / 256, n % 256] _ rfl) rfl (by simp) (fun z hz => by simp at hz; omega), (Below.refl _ w).alloc (Nat.le_refl _) _⟩

/-- What Head of the document holds: the datagram, and the row as far as it is written. -/
structure RS (w wx : World) (c : List Value) (v : Value) (zs : List Int) : Prop where
  vb : wx.heap[w.heap.size]? = some (.cells c.toArray 27)
  own : wx.ownsRow (w.heap.size + 1) 5 1 v zs.length (bytesV zs)
  bel : Below w.heap.size w wx
theorem RS.below {w wx wy : World} {c : List Value} {v : Value} {zs : List Int} (h : RS w wx c v zs) (hb : Below wx.heap.size wx wy) : RS w wy c v zs :=
  ⟨blk_on h.vb hb, own_below h.own hb, h.bel.trans (hb.mono h.bel.size)⟩
theorem RS.cell {w wx : World} {c : List Value} {v : Value} {zs : List Int} (h : RS w wx c v zs) (j : Nat) {u : Value} (hv : c[j]? = some u) : wx.cell? ⟨w.heap.size, j, none⟩ = some u := by
  simp [World.cell?, h.vb, hv]
theorem RS.app {w wx : World} {c : List Value} {v u : Value} {zs ys : List Int} (h : RS w wx c v zs) (hb : BytesAt wx.heap.size wx u ys) (hl : zs.length + ys.length ≤ 1000000) (ty : TypeId) :
    ∃ v' wy, (Builtin.append_ #[25, 25] ty #[v, u]).run Try.prog wx = .ok v' wy ∧ RS w wy c v' (zs ++ ys) := by
  have hlt := (Array.getElem?_eq_some_iff.1 h.vb).1
  obtain ⟨a, cap, rfl, _⟩ := hb.val
  obtain ⟨v', wy, hrun, hown, hgr⟩ := own_bytes_more (w0 := wx) h.own hlt hb hl ty
  have hB : Below (w.heap.size + 1) wx wy := (Below.refl _ wx).grown hgr hlt (fun j hj => (h.own.lt j hj).1)
  refine ⟨v', wy, hrun, (hB.block _ (Nat.lt_succ_self _)).trans h.vb, ?_, h.bel.trans (hB.mono (Nat.le_succ _))⟩
  rw [List.length_append]
  have e : bytesV (zs ++ ys) = bytesV zs ++ bytesV ys := by simp [bytesV]
  rw [e]
  exact hown
theorem RS.part {w wx : World} {c : List Value} {v : Value} {zs : List Int} (h : RS w wx c v zs) {ys : List Int} {pre post : List Value} (hc : c = pre ++ (ys.map (fun z => Value.int .u8 z) ++ post)) (fy : Fit ys) (ly : ys.length = 4) (o : Nat) (ho : pre.length = o) :
    BytesAt wx.heap.size wx (.slice (some ⟨w.heap.size, o, none⟩) 4 4) ys := by
  refine ⟨fy, by omega, some ⟨w.heap.size, o, none⟩, 4, by rw [ly], .inr ⟨w.heap.size, o, rfl, (Array.getElem?_eq_some_iff.1 h.vb).1, fun j hj => ?_⟩⟩
  refine h.cell (o + j) ?_
  rw [hc, List.getElem?_append_right (by omega), ← ho, Nat.add_sub_cancel_left, List.getElem?_append_left (by simpa using hj), List.getElem?_map, List.getElem?_eq_getElem hj]
  rfl
theorem RS.start (w : World) (c : List Value) (x y : Int) : RS w ((w.alloc (.cells c.toArray 27)).alloc (.cells #[.int .u8 x, .int .u8 y] 5)) c (.slice (some ⟨w.heap.size + 1, 0, none⟩) 2 2) [x, y] := by
  refine ⟨blk_alloc (blk_new _ _) _, ?_, ((Below.refl _ w).alloc (Nat.le_refl _) _).alloc (by simp) _⟩
  have e := blk_new (w.alloc (.cells c.toArray 27)) (.cells #[.int .u8 x, .int .u8 y] 5)
  rw [World.size_alloc] at e
  refine ⟨rfl, .inr ⟨w.heap.size + 1, 2, _, rfl, Nat.le_refl _, e, ?_⟩⟩
  exact ⟨by simp, by decide, rfl, rfl⟩

theorem chk_zero {off : Int} {no nb : Nat} (hk : chk off no nb = 0) : no ≤ 40 ∧ 20 + no + nb ≤ 65535 ∧ 0 ≤ off ∧ off ≤ 8191 := by
  unfold chk badV longV at hk
  by_cases hx : (decide (off < 0) || decide (8191 < off) || decide (40 < no) || decide (no % 4 ≠ 0)) = true
  · rw [if_pos hx] at hk; omega
  · rw [if_neg hx] at hk
    by_cases hy : decide (65535 < 20 + no + nb) = true
    · rw [if_pos hy] at hk; omega
    · simp only [Bool.or_eq_true, decide_eq_true_eq, not_or] at hx hy
      omega

def rhd (size all : Nat) (tos id cw ttl proto s0 s1 s2 s3 d0 d1 d2 d3 sm : Int) (opts : List Int) : List Int :=
  [64 + (size : Int) / 4, tos, (all : Int) / 256, (all : Int) % 256, id / 256, id % 256, cw / 256, cw % 256, ttl, proto, sm / 256, sm % 256, s0, s1, s2, s3, d0, d1, d2, d3] ++ opts

set_option maxHeartbeats 4000000 in
set_option maxRecDepth 100000 in
theorem Head_calls (c : List Value) (tos id : Int) (df mf : Bool) (off ttl proto s0 s1 s2 s3 d0 d1 d2 d3 sm : Int) (opts body : List Int) (w : World)
    (h : Dgram w c tos id df mf off ttl proto s0 s1 s2 s3 d0 d1 d2 d3 opts body) (hk : chk off opts.length body.length = 0) (hsm : 0 ≤ sm ∧ sm ≤ 65535) :
    Calls Try.prog 35 #[.agg c.toArray, .int .i64 sm] w fun e w' => ∃ v, e = .returned v ∧ w'.ownsRow (w.heap.size + 1) 5 1 v (20 + opts.length) (bytesV (rhd (20 + opts.length) (20 + opts.length + body.length) tos id (cutW off df mf) ttl proto s0 s1 s2 s3 d0 d1 d2 d3 sm opts)) ∧ Below w.heap.size w w' := by
  have hL := h.lens
  obtain ⟨hno, hnb, ho⟩ := chk_zero hk
  obtain ⟨so, sb, hc, hso, hsb⟩ := h.cells
  obtain ⟨fo, lo, ao, ko, rfl, hoz⟩ := hso
  obtain ⟨fb, lb, ab, kb, rfl, hbz⟩ := hsb
  have h0 : c[0]? = some (.int .u8 tos) := by rw [hc.eq]; rfl
  have h1 : c[1]? = some (.int .u16 id) := by rw [hc.eq]; rfl
  have h2 : c[2]? = some (.bool df) := by rw [hc.eq]; rfl
  have h3 : c[3]? = some (.bool mf) := by rw [hc.eq]; rfl
  have h4 : c[4]? = some (.int .i64 off) := by rw [hc.eq]; rfl
  have h5 : c[5]? = some (.int .u8 ttl) := by rw [hc.eq]; rfl
  have h6 : c[6]? = some (.int .u8 proto) := by rw [hc.eq]; rfl
  have h15 : c[15]? = some (.slice ao opts.length ko) := by rw [hc.eq]; rfl
  have h16 : c[16]? = some (.slice ab body.length kb) := by rw [hc.eq]; rfl
  have hso : BytesAt w.heap.size w (.slice ao opts.length ko) opts := ⟨fo, lo, ao, ko, rfl, hoz⟩
  have HC : Hid _ := hc.eq
  have hc11 : c = [.int .u8 tos, .int .u16 id, .bool df, .bool mf, .int .i64 off, .int .u8 ttl, .int .u8 proto, .int .u8 s0, .int .u8 s1, .int .u8 s2, .int .u8 s3] ++ ([d0, d1, d2, d3].map (fun z => Value.int .u8 z) ++ [.slice ao opts.length ko, .slice ab body.length kb]) := hc.eq
  have HC11 : Hid _ := hc11
  have HFL : Hid _ := h.fl
  have HFP : Hid _ := h.fp
  clear hc11
  have HSO : Hid _ := hso
  have H1 : Hid _ := h1
  have H2 : Hid _ := h2
  have H3 : Hid _ := h3
  have H4 : Hid _ := h4
  have H5 : Hid _ := h5
  have H6 : Hid _ := h6
  have H15 : Hid _ := h15
  have S0 : Hid _ := RS.start w c (64 + (20 + (opts.length : Int)) / 4) tos
  have hid := h.hid
  have HFS : Hid _ := h.fs
  have HFD : Hid _ := h.fd
  clear hc hso hoz hbz h hL hk fo lo fb h1 h2 h3 h4 h5 h6
  go_enter Try.func35, Try.ntmps35
  go_wp2_with fail
  refine Calls.mono (two_calls _ _ (by omega)) ?_
  rintro e1 y1 ⟨r1, rfl, hbr1, hb1⟩
  obtain ⟨v1, x1, hr1, q1⟩ := (S0.out.below hb1).app hbr1 (by simp) 25
  have HR1 : Hid _ := hr1
  have S1 : Hid _ := q1
  have k1 := q1.cell 1 H1.out
  clear hr1 q1 hbr1 hb1
  go_wp2_with (at_builtin; refine wpList_append_run rfl _ _ _ _ rfl rfl rfl HR1.out ?_)
  refine Calls.mono (two_calls _ _ (by omega)) ?_
  rintro e2 y2 ⟨r2, rfl, hbr2, hb2⟩
  obtain ⟨v2, x2, hr2, q2⟩ := (S1.out.below hb2).app hbr2 (by simp) 25
  have HR2 : Hid _ := hr2
  have S2 : Hid _ := q2
  have k4 := q2.cell 4 H4.out
  have k2 := q2.cell 2 H2.out
  have k3 := q2.cell 3 H3.out
  clear hr2 q2 hbr2 hb2 k1
  cases df <;> cases mf
  · go_wp2_with (at_builtin; refine wpList_append_run rfl _ _ _ _ rfl rfl rfl HR2.out ?_)
    refine Calls.mono (two_calls _ _ (by omega)) ?_
    rintro e3 y3 ⟨r3, rfl, hbr3, hb3⟩
    obtain ⟨v3, x3, hr3, q3⟩ := (S2.out.below hb3).app hbr3 (by simp) 25
    have HR3 : Hid _ := hr3
    have S3 : Hid _ := q3
    have k5 := q3.cell 5 H5.out
    have k6 := q3.cell 6 H6.out
    obtain ⟨v4, x4, hr4, q4⟩ := (q3.below ((Below.refl x3.heap.size x3).alloc (Nat.le_refl _) (.cells #[.int .u8 ttl, .int .u8 proto] 5))).app (bytes_new x3 5 [ttl, proto] _ 2 2 (bytes_lit [ttl, proto] _ rfl) rfl (by simp) (fun z hz => by simp at hz; rcases hz with rfl | rfl; exact HFL.out; exact HFP.out)) (by simp) 25
    have HR4 : Hid _ := hr4
    have S4 : Hid _ := q4
    clear hr3 q3 hbr3 hb3 k4 k2 k3 hr4 q4
    go_wp2_with first
      | (at_builtin; refine wpList_append_run rfl _ _ _ _ rfl rfl rfl HR3.out ?_)
      | (at_builtin; refine wpList_append_run rfl _ _ _ _ rfl rfl rfl HR4.out ?_)
    refine Calls.mono (two_calls _ _ (by omega)) ?_
    rintro e5 y5 ⟨r5, rfl, hbr5, hb5⟩
    obtain ⟨v5, x5, hr5, q5⟩ := (S4.out.below hb5).app hbr5 (by simp) 25
    obtain ⟨v6, x6, hr6, q6⟩ := q5.app (q5.part (ys := [s0, s1, s2, s3]) (pre := [.int .u8 tos, .int .u16 id, .bool false, .bool false, .int .i64 off, .int .u8 ttl, .int .u8 proto]) HC.out HFS.out rfl 7 rfl) (by simp) 25
    obtain ⟨v7, x7, hr7, q7⟩ := q6.app (q6.part (ys := [d0, d1, d2, d3]) (pre := [.int .u8 tos, .int .u16 id, .bool false, .bool false, .int .i64 off, .int .u8 ttl, .int .u8 proto, .int .u8 s0, .int .u8 s1, .int .u8 s2, .int .u8 s3]) HC11.out HFD.out rfl 11 rfl) (by simp) 25
    obtain ⟨v8, x8, hr8, q8⟩ := q7.app (HSO.out.later q7.bel) (by simp; omega) 25
    have k15 := q7.cell 15 H15.out
    have HR5 : Hid _ := hr5
    have HR6 : Hid _ := hr6
    have HR7 : Hid _ := hr7
    have HR8 : Hid _ := hr8
    have S8 : Hid _ := q8
    clear hr5 hr6 hr7 hr8 q5 q6 q7 q8 hbr5 hb5 k5 k6
    go_wp2_with first
      | (at_builtin; refine wpList_append_run rfl _ _ _ _ rfl rfl rfl HR5.out ?_)
      | (at_builtin; refine wpList_append_run rfl _ _ _ _ rfl rfl rfl HR6.out ?_)
      | (at_builtin; refine wpList_append_run rfl _ _ _ _ rfl rfl rfl HR7.out ?_)
      | (at_builtin; refine wpList_append_run rfl _ _ _ _ rfl rfl rfl HR8.out ?_)
    go_ret
    have hown := S8.out.own
    refine ⟨_, rfl, ?_, S8.out.bel⟩
    have e8 : [64 + (20 + (opts.length : Int)) / 4, tos] ++ [(20 + (opts.length : Int) + (body.length : Int)) / 256, (20 + (opts.length : Int) + (body.length : Int)) % 256] ++ [id / 256, id % 256] ++ [off / 256, off % 256] ++ [ttl, proto] ++ [sm / 256, sm % 256] ++ [s0, s1, s2, s3] ++ [d0, d1, d2, d3] ++ opts = rhd (20 + opts.length) (20 + opts.length + body.length) tos id (cutW off false false) ttl proto s0 s1 s2 s3 d0 d1 d2 d3 sm opts := by
      simp [rhd, cutW]
    rw [e8] at hown
    have l8 : (rhd (20 + opts.length) (20 + opts.length + body.length) tos id (cutW off false false) ttl proto s0 s1 s2 s3 d0 d1 d2 d3 sm opts).length = 20 + opts.length := by simp [rhd]; omega
    rw [l8] at hown
    exact hown
  · go_wp2_with (at_builtin; refine wpList_append_run rfl _ _ _ _ rfl rfl rfl HR2.out ?_)
    refine Calls.mono (two_calls _ _ (by omega)) ?_
    rintro e3 y3 ⟨r3, rfl, hbr3, hb3⟩
    obtain ⟨v3, x3, hr3, q3⟩ := (S2.out.below hb3).app hbr3 (by simp) 25
    have HR3 : Hid _ := hr3
    have S3 : Hid _ := q3
    have k5 := q3.cell 5 H5.out
    have k6 := q3.cell 6 H6.out
    obtain ⟨v4, x4, hr4, q4⟩ := (q3.below ((Below.refl x3.heap.size x3).alloc (Nat.le_refl _) (.cells #[.int .u8 ttl, .int .u8 proto] 5))).app (bytes_new x3 5 [ttl, proto] _ 2 2 (bytes_lit [ttl, proto] _ rfl) rfl (by simp) (fun z hz => by simp at hz; rcases hz with rfl | rfl; exact HFL.out; exact HFP.out)) (by simp) 25
    have HR4 : Hid _ := hr4
    have S4 : Hid _ := q4
    clear hr3 q3 hbr3 hb3 k4 k2 k3 hr4 q4
    go_wp2_with first
      | (at_builtin; refine wpList_append_run rfl _ _ _ _ rfl rfl rfl HR3.out ?_)
      | (at_builtin; refine wpList_append_run rfl _ _ _ _ rfl rfl rfl HR4.out ?_)
    refine Calls.mono (two_calls _ _ (by omega)) ?_
    rintro e5 y5 ⟨r5, rfl, hbr5, hb5⟩
    obtain ⟨v5, x5, hr5, q5⟩ := (S4.out.below hb5).app hbr5 (by simp) 25
    obtain ⟨v6, x6, hr6, q6⟩ := q5.app (q5.part (ys := [s0, s1, s2, s3]) (pre := [.int .u8 tos, .int .u16 id, .bool false, .bool true, .int .i64 off, .int .u8 ttl, .int .u8 proto]) HC.out HFS.out rfl 7 rfl) (by simp) 25
    obtain ⟨v7, x7, hr7, q7⟩ := q6.app (q6.part (ys := [d0, d1, d2, d3]) (pre := [.int .u8 tos, .int .u16 id, .bool false, .bool true, .int .i64 off, .int .u8 ttl, .int .u8 proto, .int .u8 s0, .int .u8 s1, .int .u8 s2, .int .u8 s3]) HC11.out HFD.out rfl 11 rfl) (by simp) 25
    obtain ⟨v8, x8, hr8, q8⟩ := q7.app (HSO.out.later q7.bel) (by simp; omega) 25
    have k15 := q7.cell 15 H15.out
    have HR5 : Hid _ := hr5
    have HR6 : Hid _ := hr6
    have HR7 : Hid _ := hr7
    have HR8 : Hid _ := hr8
    have S8 : Hid _ := q8
    clear hr5 hr6 hr7 hr8 q5 q6 q7 q8 hbr5 hb5 k5 k6
    go_wp2_with first
      | (at_builtin; refine wpList_append_run rfl _ _ _ _ rfl rfl rfl HR5.out ?_)
      | (at_builtin; refine wpList_append_run rfl _ _ _ _ rfl rfl rfl HR6.out ?_)
      | (at_builtin; refine wpList_append_run rfl _ _ _ _ rfl rfl rfl HR7.out ?_)
      | (at_builtin; refine wpList_append_run rfl _ _ _ _ rfl rfl rfl HR8.out ?_)
    go_ret
    have hown := S8.out.own
    refine ⟨_, rfl, ?_, S8.out.bel⟩
    have e8 : [64 + (20 + (opts.length : Int)) / 4, tos] ++ [(20 + (opts.length : Int) + (body.length : Int)) / 256, (20 + (opts.length : Int) + (body.length : Int)) % 256] ++ [id / 256, id % 256] ++ [(off + 8192) / 256, (off + 8192) % 256] ++ [ttl, proto] ++ [sm / 256, sm % 256] ++ [s0, s1, s2, s3] ++ [d0, d1, d2, d3] ++ opts = rhd (20 + opts.length) (20 + opts.length + body.length) tos id (cutW off false true) ttl proto s0 s1 s2 s3 d0 d1 d2 d3 sm opts := by
      simp [rhd, cutW]
    rw [e8] at hown
    have l8 : (rhd (20 + opts.length) (20 + opts.length + body.length) tos id (cutW off false true) ttl proto s0 s1 s2 s3 d0 d1 d2 d3 sm opts).length = 20 + opts.length := by simp [rhd]; omega
    rw [l8] at hown
    exact hown
  · go_wp2_with (at_builtin; refine wpList_append_run rfl _ _ _ _ rfl rfl rfl HR2.out ?_)
    refine Calls.mono (two_calls _ _ (by omega)) ?_
    rintro e3 y3 ⟨r3, rfl, hbr3, hb3⟩
    obtain ⟨v3, x3, hr3, q3⟩ := (S2.out.below hb3).app hbr3 (by simp) 25
    have HR3 : Hid _ := hr3
    have S3 : Hid _ := q3
    have k5 := q3.cell 5 H5.out
    have k6 := q3.cell 6 H6.out
    obtain ⟨v4, x4, hr4, q4⟩ := (q3.below ((Below.refl x3.heap.size x3).alloc (Nat.le_refl _) (.cells #[.int .u8 ttl, .int .u8 proto] 5))).app (bytes_new x3 5 [ttl, proto] _ 2 2 (bytes_lit [ttl, proto] _ rfl) rfl (by simp) (fun z hz => by simp at hz; rcases hz with rfl | rfl; exact HFL.out; exact HFP.out)) (by simp) 25
    have HR4 : Hid _ := hr4
    have S4 : Hid _ := q4
    clear hr3 q3 hbr3 hb3 k4 k2 k3 hr4 q4
    go_wp2_with first
      | (at_builtin; refine wpList_append_run rfl _ _ _ _ rfl rfl rfl HR3.out ?_)
      | (at_builtin; refine wpList_append_run rfl _ _ _ _ rfl rfl rfl HR4.out ?_)
    refine Calls.mono (two_calls _ _ (by omega)) ?_
    rintro e5 y5 ⟨r5, rfl, hbr5, hb5⟩
    obtain ⟨v5, x5, hr5, q5⟩ := (S4.out.below hb5).app hbr5 (by simp) 25
    obtain ⟨v6, x6, hr6, q6⟩ := q5.app (q5.part (ys := [s0, s1, s2, s3]) (pre := [.int .u8 tos, .int .u16 id, .bool true, .bool false, .int .i64 off, .int .u8 ttl, .int .u8 proto]) HC.out HFS.out rfl 7 rfl) (by simp) 25
    obtain ⟨v7, x7, hr7, q7⟩ := q6.app (q6.part (ys := [d0, d1, d2, d3]) (pre := [.int .u8 tos, .int .u16 id, .bool true, .bool false, .int .i64 off, .int .u8 ttl, .int .u8 proto, .int .u8 s0, .int .u8 s1, .int .u8 s2, .int .u8 s3]) HC11.out HFD.out rfl 11 rfl) (by simp) 25
    obtain ⟨v8, x8, hr8, q8⟩ := q7.app (HSO.out.later q7.bel) (by simp; omega) 25
    have k15 := q7.cell 15 H15.out
    have HR5 : Hid _ := hr5
    have HR6 : Hid _ := hr6
    have HR7 : Hid _ := hr7
    have HR8 : Hid _ := hr8
    have S8 : Hid _ := q8
    clear hr5 hr6 hr7 hr8 q5 q6 q7 q8 hbr5 hb5 k5 k6
    go_wp2_with first
      | (at_builtin; refine wpList_append_run rfl _ _ _ _ rfl rfl rfl HR5.out ?_)
      | (at_builtin; refine wpList_append_run rfl _ _ _ _ rfl rfl rfl HR6.out ?_)
      | (at_builtin; refine wpList_append_run rfl _ _ _ _ rfl rfl rfl HR7.out ?_)
      | (at_builtin; refine wpList_append_run rfl _ _ _ _ rfl rfl rfl HR8.out ?_)
    go_ret
    have hown := S8.out.own
    refine ⟨_, rfl, ?_, S8.out.bel⟩
    have e8 : [64 + (20 + (opts.length : Int)) / 4, tos] ++ [(20 + (opts.length : Int) + (body.length : Int)) / 256, (20 + (opts.length : Int) + (body.length : Int)) % 256] ++ [id / 256, id % 256] ++ [(off + 16384) / 256, (off + 16384) % 256] ++ [ttl, proto] ++ [sm / 256, sm % 256] ++ [s0, s1, s2, s3] ++ [d0, d1, d2, d3] ++ opts = rhd (20 + opts.length) (20 + opts.length + body.length) tos id (cutW off true false) ttl proto s0 s1 s2 s3 d0 d1 d2 d3 sm opts := by
      simp [rhd, cutW]
    rw [e8] at hown
    have l8 : (rhd (20 + opts.length) (20 + opts.length + body.length) tos id (cutW off true false) ttl proto s0 s1 s2 s3 d0 d1 d2 d3 sm opts).length = 20 + opts.length := by simp [rhd]; omega
    rw [l8] at hown
    exact hown
  · go_wp2_with (at_builtin; refine wpList_append_run rfl _ _ _ _ rfl rfl rfl HR2.out ?_)
    refine Calls.mono (two_calls _ _ (by omega)) ?_
    rintro e3 y3 ⟨r3, rfl, hbr3, hb3⟩
    obtain ⟨v3, x3, hr3, q3⟩ := (S2.out.below hb3).app hbr3 (by simp) 25
    have HR3 : Hid _ := hr3
    have S3 : Hid _ := q3
    have k5 := q3.cell 5 H5.out
    have k6 := q3.cell 6 H6.out
    obtain ⟨v4, x4, hr4, q4⟩ := (q3.below ((Below.refl x3.heap.size x3).alloc (Nat.le_refl _) (.cells #[.int .u8 ttl, .int .u8 proto] 5))).app (bytes_new x3 5 [ttl, proto] _ 2 2 (bytes_lit [ttl, proto] _ rfl) rfl (by simp) (fun z hz => by simp at hz; rcases hz with rfl | rfl; exact HFL.out; exact HFP.out)) (by simp) 25
    have HR4 : Hid _ := hr4
    have S4 : Hid _ := q4
    clear hr3 q3 hbr3 hb3 k4 k2 k3 hr4 q4
    go_wp2_with first
      | (at_builtin; refine wpList_append_run rfl _ _ _ _ rfl rfl rfl HR3.out ?_)
      | (at_builtin; refine wpList_append_run rfl _ _ _ _ rfl rfl rfl HR4.out ?_)
    refine Calls.mono (two_calls _ _ (by omega)) ?_
    rintro e5 y5 ⟨r5, rfl, hbr5, hb5⟩
    obtain ⟨v5, x5, hr5, q5⟩ := (S4.out.below hb5).app hbr5 (by simp) 25
    obtain ⟨v6, x6, hr6, q6⟩ := q5.app (q5.part (ys := [s0, s1, s2, s3]) (pre := [.int .u8 tos, .int .u16 id, .bool true, .bool true, .int .i64 off, .int .u8 ttl, .int .u8 proto]) HC.out HFS.out rfl 7 rfl) (by simp) 25
    obtain ⟨v7, x7, hr7, q7⟩ := q6.app (q6.part (ys := [d0, d1, d2, d3]) (pre := [.int .u8 tos, .int .u16 id, .bool true, .bool true, .int .i64 off, .int .u8 ttl, .int .u8 proto, .int .u8 s0, .int .u8 s1, .int .u8 s2, .int .u8 s3]) HC11.out HFD.out rfl 11 rfl) (by simp) 25
    obtain ⟨v8, x8, hr8, q8⟩ := q7.app (HSO.out.later q7.bel) (by simp; omega) 25
    have k15 := q7.cell 15 H15.out
    have HR5 : Hid _ := hr5
    have HR6 : Hid _ := hr6
    have HR7 : Hid _ := hr7
    have HR8 : Hid _ := hr8
    have S8 : Hid _ := q8
    clear hr5 hr6 hr7 hr8 q5 q6 q7 q8 hbr5 hb5 k5 k6
    go_wp2_with first
      | (at_builtin; refine wpList_append_run rfl _ _ _ _ rfl rfl rfl HR5.out ?_)
      | (at_builtin; refine wpList_append_run rfl _ _ _ _ rfl rfl rfl HR6.out ?_)
      | (at_builtin; refine wpList_append_run rfl _ _ _ _ rfl rfl rfl HR7.out ?_)
      | (at_builtin; refine wpList_append_run rfl _ _ _ _ rfl rfl rfl HR8.out ?_)
    go_ret
    have hown := S8.out.own
    refine ⟨_, rfl, ?_, S8.out.bel⟩
    have e8 : [64 + (20 + (opts.length : Int)) / 4, tos] ++ [(20 + (opts.length : Int) + (body.length : Int)) / 256, (20 + (opts.length : Int) + (body.length : Int)) % 256] ++ [id / 256, id % 256] ++ [(off + 16384 + 8192) / 256, (off + 16384 + 8192) % 256] ++ [ttl, proto] ++ [sm / 256, sm % 256] ++ [s0, s1, s2, s3] ++ [d0, d1, d2, d3] ++ opts = rhd (20 + opts.length) (20 + opts.length + body.length) tos id (cutW off true true) ttl proto s0 s1 s2 s3 d0 d1 d2 d3 sm opts := by
      simp [rhd, cutW]
    rw [e8] at hown
    have l8 : (rhd (20 + opts.length) (20 + opts.length + body.length) tos id (cutW off true true) ttl proto s0 s1 s2 s3 d0 d1 d2 d3 sm opts).length = 20 + opts.length := by simp [rhd]; omega
    rw [l8] at hown
    exact hown

end Go.Proofs.Ytmoogfdmlbalbaa
