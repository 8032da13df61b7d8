/-
  Segments; SameTCP, SameUDP of both sides; awake.
-/
import Derived.Test.YtnlaomjhnndblaaSg6
namespace Go.Proofs.Ytnlaomjhnndblaa
open Go Go.RowKit Go.Shelf
set_option linter.unusedVariables false
set_option linter.unusedSimpArgs false

/-- A segment's fields. -/
structure Seg where
  src : Int
  dst : Int
  seq : Int
  ack : Int
  fl : Int
  win : Int
  urg : Int
  opts : List Int
  data : List Int
/-- A segment: its cells and its bytes. -/
structure TcpC (w : World) (c : List Value) (t : Seg) : Prop where
  val : ∃ vo vd, c = [.int .u16 t.src, .int .u16 t.dst, .int .u32 t.seq, .int .u32 t.ack, .int .u8 t.fl, .int .u16 t.win, .int .u16 t.urg, vo, vd] ∧ BytesAt w.heap.size w vo t.opts ∧ BytesAt w.heap.size w vd t.data
  fs : 0 ≤ t.src ∧ t.src ≤ 65535
  fd : 0 ≤ t.dst ∧ t.dst ≤ 65535
  fq : 0 ≤ t.seq ∧ t.seq ≤ 4294967295
  fa : 0 ≤ t.ack ∧ t.ack ≤ 4294967295
  ff : 0 ≤ t.fl ∧ t.fl < 256
  fw : 0 ≤ t.win ∧ t.win ≤ 65535
  fu : 0 ≤ t.urg ∧ t.urg ≤ 65535
theorem TcpC.on {w W : World} {c : List Value} {t : Seg} (h : TcpC w c t) (hb : Below w.heap.size w W) : TcpC W c t := by
  obtain ⟨⟨vo, vd, h1, h2, h3⟩, r1, r2, r3, r4, r5, r6, r7⟩ := h
  exact ⟨⟨vo, vd, h1, h2.later hb, h3.later hb⟩, r1, r2, r3, r4, r5, r6, r7⟩
theorem TcpC.len {w : World} {c : List Value} {t : Seg} (h : TcpC w c t) : c.length = 9 := by
  obtain ⟨⟨vo, vd, rfl, _⟩, _⟩ := h
  rfl
def eqB (xs ys : List Int) : Bool := (strOfNums xs).toList == (strOfNums ys).toList
theorem eqB_self (xs : List Int) : eqB xs xs = true := by simp [eqB]
def sameT (a b : Seg) : Bool := (a.src == b.src) && (a.dst == b.dst) && (a.seq == b.seq) && (a.ack == b.ack) && (a.fl == b.fl) && (a.win == b.win) && (a.urg == b.urg) && eqB a.opts b.opts && eqB a.data b.data
theorem sameT_self (a : Seg) : sameT a a = true := by simp [sameT, eqB_self]
def sameU (s d : Int) (x : List Int) (s' d' : Int) (x' : List Int) : Bool := (s == s') && (d == d') && eqB x x'
theorem sameU_self (s d : Int) (x : List Int) : sameU s d x s d x = true := by simp [sameU, eqB_self]

set_option maxHeartbeats 4000000 in
set_option maxRecDepth 100000 in
theorem SameTCP_calls {c c' : List Value} {a b : Seg} (w : World) (h : TcpC w c a) (h' : TcpC w c' b) :
    Calls Try.prog 36 #[.agg c.toArray, .agg c'.toArray] w fun e w' => e = .returned (.bool (sameT a b)) ∧ Below w.heap.size w w' := by
  obtain ⟨⟨so, sb, hc, ho, hb⟩, _⟩ := h
  obtain ⟨⟨so', sb', hc', ho', hb'⟩, _⟩ := h'

  have q0 : c[0]? = some (.int .u16 a.src) := by rw [hc]; rfl
  have p0 : c'[0]? = some (.int .u16 b.src) := by rw [hc']; rfl
  have q1 : c[1]? = some (.int .u16 a.dst) := by rw [hc]; rfl
  have p1 : c'[1]? = some (.int .u16 b.dst) := by rw [hc']; rfl
  have q2 : c[2]? = some (.int .u32 a.seq) := by rw [hc]; rfl
  have p2 : c'[2]? = some (.int .u32 b.seq) := by rw [hc']; rfl
  have q3 : c[3]? = some (.int .u32 a.ack) := by rw [hc]; rfl
  have p3 : c'[3]? = some (.int .u32 b.ack) := by rw [hc']; rfl
  have q4 : c[4]? = some (.int .u8 a.fl) := by rw [hc]; rfl
  have p4 : c'[4]? = some (.int .u8 b.fl) := by rw [hc']; rfl
  have q5 : c[5]? = some (.int .u16 a.win) := by rw [hc]; rfl
  have p5 : c'[5]? = some (.int .u16 b.win) := by rw [hc']; rfl
  have q6 : c[6]? = some (.int .u16 a.urg) := by rw [hc]; rfl
  have p6 : c'[6]? = some (.int .u16 b.urg) := by rw [hc']; rfl
  have q7 : c[7]? = some so := by rw [hc]; rfl
  have p7 : c'[7]? = some so' := by rw [hc']; rfl
  have q8 : c[8]? = some sb := by rw [hc]; rfl
  have p8 : c'[8]? = some sb' := by rw [hc']; rfl
  have hB := ((Below.refl w.heap.size w).alloc (Nat.le_refl _) (.cells c.toArray 34)).alloc (by simp) (.cells c'.toArray 34)
  have he := Equal_here _ _ _ _ _ (ho.below hB).text (ho'.below hB).text
  have hf := Equal_here _ _ _ _ _ (hb.below hB).text (hb'.below hB).text
  obtain ⟨ao, ko, rfl, _⟩ := ho.val
  obtain ⟨ao', ko', rfl, _⟩ := ho'.val
  obtain ⟨ab, kb, rfl, _⟩ := hb.val
  obtain ⟨ab', kb', rfl, _⟩ := hb'.val
  clear ho ho' hb hb' hc hc'
  unfold sameT eqB
  generalize ((strOfNums a.opts).toList == (strOfNums b.opts).toList) = x10 at *
  generalize ((strOfNums a.data).toList == (strOfNums b.data).toList) = x11 at *
  generalize hx1 : (a.src == b.src) = x1
  generalize hx2 : (a.dst == b.dst) = x2
  generalize hx3 : (a.seq == b.seq) = x3
  generalize hx4 : (a.ack == b.ack) = x4
  generalize hx5 : (a.fl == b.fl) = x5
  generalize hx6 : (a.win == b.win) = x6
  generalize hx7 : (a.urg == b.urg) = x7
  generalize hr : (x1 && x2 && x3 && x4 && x5 && x6 && x7 && x10 && x11) = r
  have HR : Hid _ := hr
  have HB : Hid _ := hB
  have HE : Hid _ := he
  have HF : Hid _ := hf
  clear he hf
  clear hr hB
  go_enter Try.func36, Try.ntmps36
  go_wp2_with fail
  all_goals try (go_ret; refine ⟨congrArg (fun b => Ending.returned (.bool b)) ?_, HB.out⟩; rw [← HR.out]; simp [*]; done)
  refine Calls.mono HE.out ?_
  rintro e1 w1 ⟨rfl, rfl⟩
  go_wp2_with fail
  all_goals try (go_ret; refine ⟨congrArg (fun b => Ending.returned (.bool b)) ?_, HB.out⟩; rw [← HR.out]; simp [*]; done)
  refine Calls.mono HF.out ?_
  rintro e2 w2 ⟨rfl, rfl⟩
  go_wp2
  all_goals try (go_ret; refine ⟨congrArg (fun b => Ending.returned (.bool b)) ?_, HB.out⟩; rw [← HR.out]; simp [*]; done)

set_option maxHeartbeats 4000000 in
set_option maxRecDepth 100000 in
theorem RSameTCP_calls {c c' : List Value} {a b : Seg} (w : World) (h : TcpC w c a) (h' : TcpC w c' b) :
    Calls Try.prog 27 #[.agg c.toArray, .agg c'.toArray] w fun e w' => e = .returned (.bool (sameT a b)) ∧ Below w.heap.size w w' := by
  obtain ⟨⟨so, sb, hc, ho, hb⟩, _⟩ := h
  obtain ⟨⟨so', sb', hc', ho', hb'⟩, _⟩ := h'

  have q0 : c[0]? = some (.int .u16 a.src) := by rw [hc]; rfl
  have p0 : c'[0]? = some (.int .u16 b.src) := by rw [hc']; rfl
  have q1 : c[1]? = some (.int .u16 a.dst) := by rw [hc]; rfl
  have p1 : c'[1]? = some (.int .u16 b.dst) := by rw [hc']; rfl
  have q2 : c[2]? = some (.int .u32 a.seq) := by rw [hc]; rfl
  have p2 : c'[2]? = some (.int .u32 b.seq) := by rw [hc']; rfl
  have q3 : c[3]? = some (.int .u32 a.ack) := by rw [hc]; rfl
  have p3 : c'[3]? = some (.int .u32 b.ack) := by rw [hc']; rfl
  have q4 : c[4]? = some (.int .u8 a.fl) := by rw [hc]; rfl
  have p4 : c'[4]? = some (.int .u8 b.fl) := by rw [hc']; rfl
  have q5 : c[5]? = some (.int .u16 a.win) := by rw [hc]; rfl
  have p5 : c'[5]? = some (.int .u16 b.win) := by rw [hc']; rfl
  have q6 : c[6]? = some (.int .u16 a.urg) := by rw [hc]; rfl
  have p6 : c'[6]? = some (.int .u16 b.urg) := by rw [hc']; rfl
  have q7 : c[7]? = some so := by rw [hc]; rfl
  have p7 : c'[7]? = some so' := by rw [hc']; rfl
  have q8 : c[8]? = some sb := by rw [hc]; rfl
  have p8 : c'[8]? = some sb' := by rw [hc']; rfl
  have hB := ((Below.refl w.heap.size w).alloc (Nat.le_refl _) (.cells c.toArray 34)).alloc (by simp) (.cells c'.toArray 34)
  have t1 := (ho.below hB).text
  have t2 := (ho'.below hB).text
  have t3 := (hb.below hB).text
  have t4 := (hb'.below hB).text
  obtain ⟨ao, ko, rfl, _⟩ := ho.val
  obtain ⟨ao', ko', rfl, _⟩ := ho'.val
  obtain ⟨ab, kb, rfl, _⟩ := hb.val
  obtain ⟨ab', kb', rfl, _⟩ := hb'.val
  clear ho ho' hb hb' hc hc'
  unfold sameT eqB
  generalize strOfNums a.opts = X1 at *
  generalize strOfNums b.opts = X2 at *
  generalize strOfNums a.data = X3 at *
  generalize strOfNums b.data = X4 at *
  generalize hx10 : (X1.toList == X2.toList) = x10
  generalize hx11 : (X3.toList == X4.toList) = x11
  generalize hx1 : (a.src == b.src) = x1
  generalize hx2 : (a.dst == b.dst) = x2
  generalize hx3 : (a.seq == b.seq) = x3
  generalize hx4 : (a.ack == b.ack) = x4
  generalize hx5 : (a.fl == b.fl) = x5
  generalize hx6 : (a.win == b.win) = x6
  generalize hx7 : (a.urg == b.urg) = x7
  generalize hr : (x1 && x2 && x3 && x4 && x5 && x6 && x7 && x10 && x11) = r
  have HR : Hid _ := hr
  have HB : Hid _ := hB
  clear hr hB
  go_enter Try.func27, Try.ntmps27
  go_wp2
  all_goals (go_ret; refine ⟨congrArg (fun b => Ending.returned (.bool b)) ?_, HB.out⟩; rw [← HR.out]; simp [*]; done)

set_option maxHeartbeats 4000000 in
set_option maxRecDepth 100000 in
theorem SameUDP_calls {c c' : List Value} {s d : Int} {x : List Int} {s' d' : Int} {x' : List Int} (w : World) (h : UdpC w c s d x) (h' : UdpC w c' s' d' x') :
    Calls Try.prog 37 #[.agg c.toArray, .agg c'.toArray] w fun e w' => e = .returned (.bool (sameU s d x s' d' x')) ∧ Below w.heap.size w w' := by
  obtain ⟨⟨vd, rfl, hb⟩, _⟩ := h
  obtain ⟨⟨vd', rfl, hb'⟩, _⟩ := h'
  have hB := ((Below.refl w.heap.size w).alloc (Nat.le_refl _) (.cells [.int .u16 s, .int .u16 d, vd].toArray 31)).alloc (by simp) (.cells [.int .u16 s', .int .u16 d', vd'].toArray 31)
  have hf := Equal_here _ _ _ _ _ (hb.below hB).text (hb'.below hB).text
  obtain ⟨ab, kb, rfl, _⟩ := hb.val
  obtain ⟨ab', kb', rfl, _⟩ := hb'.val
  clear hb hb'
  unfold sameU eqB
  generalize ((strOfNums x).toList == (strOfNums x').toList) = x11 at *
  generalize hx1 : (s == s') = x1
  generalize hx2 : (d == d') = x2
  generalize hr : (x1 && x2 && x11) = r
  have HR : Hid _ := hr
  have HB : Hid _ := hB
  have HF : Hid _ := hf
  clear hf
  clear hr hB
  go_enter Try.func37, Try.ntmps37
  go_wp2_with fail
  all_goals try (go_ret; refine ⟨congrArg (fun b => Ending.returned (.bool b)) ?_, HB.out⟩; rw [← HR.out]; simp [*]; done)
  refine Calls.mono HF.out ?_
  rintro e2 w2 ⟨rfl, rfl⟩
  go_wp2
  all_goals try (go_ret; refine ⟨congrArg (fun b => Ending.returned (.bool b)) ?_, HB.out⟩; rw [← HR.out]; simp [*]; done)

set_option maxHeartbeats 4000000 in
set_option maxRecDepth 100000 in
theorem RSameUDP_calls {c c' : List Value} {s d : Int} {x : List Int} {s' d' : Int} {x' : List Int} (w : World) (h : UdpC w c s d x) (h' : UdpC w c' s' d' x') :
    Calls Try.prog 23 #[.agg c.toArray, .agg c'.toArray] w fun e w' => e = .returned (.bool (sameU s d x s' d' x')) ∧ Below w.heap.size w w' := by
  obtain ⟨⟨vd, rfl, hb⟩, _⟩ := h
  obtain ⟨⟨vd', rfl, hb'⟩, _⟩ := h'
  have hB := ((Below.refl w.heap.size w).alloc (Nat.le_refl _) (.cells [.int .u16 s, .int .u16 d, vd].toArray 31)).alloc (by simp) (.cells [.int .u16 s', .int .u16 d', vd'].toArray 31)
  have t3 := (hb.below hB).text
  have t4 := (hb'.below hB).text
  obtain ⟨ab, kb, rfl, _⟩ := hb.val
  obtain ⟨ab', kb', rfl, _⟩ := hb'.val
  clear hb hb'
  unfold sameU eqB
  generalize strOfNums x = X3 at *
  generalize strOfNums x' = X4 at *
  generalize hx11 : (X3.toList == X4.toList) = x11
  generalize hx1 : (s == s') = x1
  generalize hx2 : (d == d') = x2
  generalize hr : (x1 && x2 && x11) = r
  have HR : Hid _ := hr
  have HB : Hid _ := hB
  clear hr hB
  go_enter Try.func23, Try.ntmps23
  go_wp2
  all_goals (go_ret; refine ⟨congrArg (fun b => Ending.returned (.bool b)) ?_, HB.out⟩; rw [← HR.out]; simp [*]; done)

end Go.Proofs.Ytnlaomjhnndblaa
