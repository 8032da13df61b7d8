/-
  Same, Kind4, Kind6 and Ident of package icmp and of the document; cut.
-/
import Derived.Test.YtljmamogefgiaaaNb3
namespace Go.Proofs.Ytljmamogefgiaaa
open Go Go.RowKit Go.Shelf
set_option linter.unusedVariables false
set_option linter.unusedSimpArgs false

set_option maxHeartbeats 4000000 in
set_option maxRecDepth 100000 in
theorem Same_calls {c c' : List Value} {a b : Msg} (w : World) (h : MsgC w c a) (h' : MsgC w c' b) :
    Calls Try.prog 28 #[.agg c.toArray, .agg c'.toArray] w fun e w' => e = .returned (.bool (sameM a b)) ∧ Below w.heap.size w w' := by
  obtain ⟨⟨sb, hc, hb⟩, _⟩ := h
  obtain ⟨⟨sb', hc', hb'⟩, _⟩ := h'
  have q0 : c[0]? = some (.int .u8 a.ty) := by rw [hc]; rfl
  have p0 : c'[0]? = some (.int .u8 b.ty) := by rw [hc']; rfl
  have q1 : c[1]? = some (.int .u8 a.code) := by rw [hc]; rfl
  have p1 : c'[1]? = some (.int .u8 b.code) := by rw [hc']; rfl
  have q2 : c[2]? = some (.int .u32 a.rest) := by rw [hc]; rfl
  have p2 : c'[2]? = some (.int .u32 b.rest) := by rw [hc']; rfl
  have q3 : c[3]? = some sb := by rw [hc]; rfl
  have p3 : c'[3]? = some sb' := by rw [hc']; rfl
  have hB := ((Below.refl w.heap.size w).alloc (Nat.le_refl _) (.cells c.toArray 26)).alloc (by simp) (.cells c'.toArray 26)
  have hf := Equal_here _ _ _ _ _ (hb.below hB).text (hb'.below hB).text
  obtain ⟨ab, kb, rfl, _⟩ := hb.val
  obtain ⟨ab', kb', rfl, _⟩ := hb'.val
  clear hb hb' hc hc'
  unfold sameM eqB
  generalize ((strOfNums a.body).toList == (strOfNums b.body).toList) = x11 at *
  generalize hx1 : (a.ty == b.ty) = x1
  generalize hx2 : (a.code == b.code) = x2
  generalize hx3 : (a.rest == b.rest) = x3
  generalize hr : (x1 && x2 && x3 && x11) = r
  have HR : Hid _ := hr
  have HB : Hid _ := hB
  have HF : Hid _ := hf
  clear hf
  clear hr hB
  go_enter Try.func28, Try.ntmps28
  go_wp2_with fail
  all_goals try (go_ret; refine ⟨congrArg (fun b => Ending.returned (.bool b)) ?_, HB.out⟩; rw [← HR.out]; simp [*]; done)
  refine Calls.mono HF.out ?_
  rintro e2 w2 ⟨rfl, rfl⟩
  go_wp2
  all_goals try (go_ret; refine ⟨congrArg (fun b => Ending.returned (.bool b)) ?_, HB.out⟩; rw [← HR.out]; simp [*]; done)
set_option maxHeartbeats 4000000 in
set_option maxRecDepth 100000 in
theorem RSame_calls {c c' : List Value} {a b : Msg} (w : World) (h : MsgC w c a) (h' : MsgC w c' b) :
    Calls Try.prog 19 #[.agg c.toArray, .agg c'.toArray] w fun e w' => e = .returned (.bool (sameM a b)) ∧ Below w.heap.size w w' := by
  obtain ⟨⟨sb, hc, hb⟩, _⟩ := h
  obtain ⟨⟨sb', hc', hb'⟩, _⟩ := h'
  have q0 : c[0]? = some (.int .u8 a.ty) := by rw [hc]; rfl
  have p0 : c'[0]? = some (.int .u8 b.ty) := by rw [hc']; rfl
  have q1 : c[1]? = some (.int .u8 a.code) := by rw [hc]; rfl
  have p1 : c'[1]? = some (.int .u8 b.code) := by rw [hc']; rfl
  have q2 : c[2]? = some (.int .u32 a.rest) := by rw [hc]; rfl
  have p2 : c'[2]? = some (.int .u32 b.rest) := by rw [hc']; rfl
  have q3 : c[3]? = some sb := by rw [hc]; rfl
  have p3 : c'[3]? = some sb' := by rw [hc']; rfl
  have hB := ((Below.refl w.heap.size w).alloc (Nat.le_refl _) (.cells c.toArray 26)).alloc (by simp) (.cells c'.toArray 26)
  have t3 := (hb.below hB).text
  have t4 := (hb'.below hB).text
  obtain ⟨ab, kb, rfl, _⟩ := hb.val
  obtain ⟨ab', kb', rfl, _⟩ := hb'.val
  clear hb hb' hc hc'
  unfold sameM eqB
  generalize hx11 : ((strOfNums a.body).toList == (strOfNums b.body).toList) = x11
  generalize hx1 : (a.ty == b.ty) = x1
  generalize hx2 : (a.code == b.code) = x2
  generalize hx3 : (a.rest == b.rest) = x3
  generalize hr : (x1 && x2 && x3 && x11) = r
  have HR : Hid _ := hr
  have HB : Hid _ := hB
  clear hr hB
  go_enter Try.func19, Try.ntmps19
  go_wp2
  all_goals try (go_ret; refine ⟨congrArg (fun b => Ending.returned (.bool b)) ?_, HB.out⟩; rw [← HR.out]; simp [*]; done)
def k4 (ty code : Int) : Int := if ty = 8 then 1 else if ty = 0 then 2 else if ty = 3 then (if code = 4 then 4 else 3) else if ty = 11 then 5 else if ty = 12 then 6 else 0
def k6 (ty : Int) : Int := if ty = 128 then 1 else if ty = 129 then 2 else if ty = 1 then 3 else if ty = 2 then 4 else if ty = 3 then 5 else if ty = 4 then 6 else 0

set_option maxHeartbeats 4000000 in
set_option maxRecDepth 100000 in
theorem Kind4_calls {c : List Value} {m : Msg} (w : World) (h : MsgC w c m) :
    Calls Try.prog 21 #[.agg c.toArray] w fun e w' => e = .returned (.int .i64 (k4 m.ty m.code)) ∧ Below w.heap.size w w' := by
  obtain ⟨⟨sb, hc, hb⟩, _⟩ := h
  have q0 : c[0]? = some (.int .u8 m.ty) := by rw [hc]; rfl
  have q1 : c[1]? = some (.int .u8 m.code) := by rw [hc]; rfl
  have hB := (Below.refl w.heap.size w).alloc (Nat.le_refl _) (.cells c.toArray 26)
  clear hc hb
  generalize m.ty = ty at *
  generalize m.code = code at *
  generalize hr : k4 ty code = r
  have HR : Hid _ := hr
  have HB : Hid _ := hB
  clear hr hB
  go_enter Try.func21, Try.ntmps21
  go_wp2
  all_goals (go_ret; refine ⟨congrArg (fun b => Ending.returned (.int .i64 b)) ?_, HB.out⟩; have hr := HR.out; unfold k4 at hr; rw [← hr]; simp_all)
set_option maxHeartbeats 4000000 in
set_option maxRecDepth 100000 in
theorem RKind4_calls {c : List Value} {m : Msg} (w : World) (h : MsgC w c m) :
    Calls Try.prog 22 #[.agg c.toArray] w fun e w' => e = .returned (.int .i64 (k4 m.ty m.code)) ∧ Below w.heap.size w w' := by
  obtain ⟨⟨sb, hc, hb⟩, _⟩ := h
  have q0 : c[0]? = some (.int .u8 m.ty) := by rw [hc]; rfl
  have q1 : c[1]? = some (.int .u8 m.code) := by rw [hc]; rfl
  have hB := (Below.refl w.heap.size w).alloc (Nat.le_refl _) (.cells c.toArray 26)
  clear hc hb
  generalize m.ty = ty at *
  generalize m.code = code at *
  generalize hr : k4 ty code = r
  have HR : Hid _ := hr
  have HB : Hid _ := hB
  clear hr hB
  go_enter Try.func22, Try.ntmps22
  go_wp2
  all_goals (go_ret; refine ⟨congrArg (fun b => Ending.returned (.int .i64 b)) ?_, HB.out⟩; have hr := HR.out; unfold k4 at hr; rw [← hr]; simp_all)
set_option maxHeartbeats 4000000 in
set_option maxRecDepth 100000 in
theorem Kind6_calls {c : List Value} {m : Msg} (w : World) (h : MsgC w c m) :
    Calls Try.prog 23 #[.agg c.toArray] w fun e w' => e = .returned (.int .i64 (k6 m.ty)) ∧ Below w.heap.size w w' := by
  obtain ⟨⟨sb, hc, hb⟩, _⟩ := h
  have q0 : c[0]? = some (.int .u8 m.ty) := by rw [hc]; rfl
  have q1 : c[1]? = some (.int .u8 m.code) := by rw [hc]; rfl
  have hB := (Below.refl w.heap.size w).alloc (Nat.le_refl _) (.cells c.toArray 26)
  clear hc hb
  generalize m.ty = ty at *
  generalize m.code = code at *
  generalize hr : k6 ty = r
  have HR : Hid _ := hr
  have HB : Hid _ := hB
  clear hr hB
  go_enter Try.func23, Try.ntmps23
  go_wp2
  all_goals (go_ret; refine ⟨congrArg (fun b => Ending.returned (.int .i64 b)) ?_, HB.out⟩; have hr := HR.out; unfold k6 at hr; rw [← hr]; simp_all)
set_option maxHeartbeats 4000000 in
set_option maxRecDepth 100000 in
theorem RKind6_calls {c : List Value} {m : Msg} (w : World) (h : MsgC w c m) :
    Calls Try.prog 24 #[.agg c.toArray] w fun e w' => e = .returned (.int .i64 (k6 m.ty)) ∧ Below w.heap.size w w' := by
  obtain ⟨⟨sb, hc, hb⟩, _⟩ := h
  have q0 : c[0]? = some (.int .u8 m.ty) := by rw [hc]; rfl
  have q1 : c[1]? = some (.int .u8 m.code) := by rw [hc]; rfl
  have hB := (Below.refl w.heap.size w).alloc (Nat.le_refl _) (.cells c.toArray 26)
  clear hc hb
  generalize m.ty = ty at *
  generalize m.code = code at *
  generalize hr : k6 ty = r
  have HR : Hid _ := hr
  have HB : Hid _ := hB
  clear hr hB
  go_enter Try.func24, Try.ntmps24
  go_wp2
  all_goals (go_ret; refine ⟨congrArg (fun b => Ending.returned (.int .i64 b)) ?_, HB.out⟩; have hr := HR.out; unfold k6 at hr; rw [← hr]; simp_all)
set_option maxHeartbeats 4000000 in
set_option maxRecDepth 100000 in
theorem Ident_calls {c : List Value} {m : Msg} (w : World) (h : MsgC w c m) :
    Calls Try.prog 25 #[.agg c.toArray] w fun e w' => e = .returned (.int .u16 (m.rest / 65536)) ∧ Below w.heap.size w w' := by
  obtain ⟨⟨sb, hc, hb⟩, _, _, fr⟩ := h
  have q2 : c[2]? = some (.int .u32 m.rest) := by rw [hc]; rfl
  have hB := (Below.refl w.heap.size w).alloc (Nat.le_refl _) (.cells c.toArray 26)
  have r1 : m.rest / 65536 % 65536 = m.rest / 65536 := by omega
  generalize m.rest = rest at *
  have HB : Hid _ := hB
  clear hc hb hB
  go_enter Try.func25, Try.ntmps25
  go_wp2
  go_ret
  exact ⟨rfl, HB.out⟩
set_option maxHeartbeats 4000000 in
set_option maxRecDepth 100000 in
theorem RIdent_calls {c : List Value} {m : Msg} (w : World) (h : MsgC w c m) :
    Calls Try.prog 26 #[.agg c.toArray] w fun e w' => e = .returned (.int .u16 (m.rest / 65536)) ∧ Below w.heap.size w w' := by
  obtain ⟨⟨sb, hc, hb⟩, _, _, fr⟩ := h
  have q2 : c[2]? = some (.int .u32 m.rest) := by rw [hc]; rfl
  have hB := (Below.refl w.heap.size w).alloc (Nat.le_refl _) (.cells c.toArray 26)
  have r1 : m.rest / 65536 % 65536 = m.rest / 65536 := by omega
  generalize m.rest = rest at *
  have HB : Hid _ := hB
  clear hc hb hB
  go_enter Try.func26, Try.ntmps26
  go_wp2
  go_ret
  exact ⟨rfl, HB.out⟩
theorem cut_short (a : Option Addr) (n cap : Nat) (w : World) (hn : n ≤ 70000) : Calls Try.prog 9 #[.slice a n cap] w fun e w' => e = .returned (.slice a n cap) ∧ w' = w := by
  go_enter Try.func9, Try.ntmps9
  go_wp2
  go_ret
  exact ⟨rfl, rfl⟩
theorem cut_long (a : Option Addr) (n cap : Nat) (w : World) (hn : 70000 < n) (hc : n ≤ cap) : Calls Try.prog 9 #[.slice a n cap] w fun e w' => e = .returned (.slice a 70000 cap) ∧ w' = w := by
  have h1 : 70000 ≤ cap := by omega
  go_enter Try.func9, Try.ntmps9
  go_wp2
  go_ret
  exact ⟨rfl, rfl⟩
/-- cut: the first bytes. -/
theorem cut_any (v : Value) (zs : List Int) (w : World) (h : RowC w v zs) : ∃ u, RowC w u (zs.take 70000) ∧ ∀ W, Calls Try.prog 9 #[v] W (fun e w' => e = .returned u ∧ w' = W) := by
  by_cases hn : zs.length ≤ 70000
  · obtain ⟨a, cap, e, hc, _⟩ := h.val
    subst e
    refine ⟨_, ?_, fun W => cut_short a _ cap W hn⟩
    rw [List.take_of_length_le hn]
    exact h
  · obtain ⟨hf, hl, a, cap, e, hc, hz⟩ := h
    subst e
    refine ⟨_, ?_, fun W => cut_long a _ cap W (by omega) hc⟩
    have hlt : (zs.take 70000).length = 70000 := by simp; omega
    refine ⟨fun z hz => hf z (List.mem_of_mem_take hz), by rw [hlt]; omega, a, cap, by rw [hlt], by rw [hlt]; omega, ?_⟩
    rcases hz with hz | ⟨b, off, e1, e2, e3⟩
    · omega
    · refine .inr ⟨b, off, e1, e2, fun j hj => ?_⟩
      rw [hlt] at hj
      rw [e3 j (by omega), List.getElem?_take_of_lt hj]

end Go.Proofs.Ytljmamogefgiaaa
