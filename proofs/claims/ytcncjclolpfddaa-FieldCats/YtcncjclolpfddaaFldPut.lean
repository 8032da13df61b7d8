/-
  The contracts of bytes.Clone and of the program's Put.
-/
import Derived.Test.YtcncjclolpfddaaFldWrite
import Derived.Lib.SliceRun
namespace Go.Proofs.Ytcncjclolpfddaa
set_option linter.unusedVariables false
set_option linter.unusedSimpArgs false
open Go Go.RowKit
attribute [local go_sem] Oper.semAt_some

/-- A built-in append whose run is known. -/
theorem wpList_append_run {P : Program} {w w2 : World} {ops : Array Oper} {rest : List Oper} {o : Oper} {a : Act} {Q : Exit → Act → World → Prop} (hg : o.guard = none) (s x : Operand) (t u : TypeId)
    (hop : o.op = Op.call { callee := Callee.builtin Builtin.append, args := #[s, x], argTypes := #[t, u] }) {vs vx v : Value} (hs : a.eval s = vs) (hx : a.eval x = vx)
    (hrun : (Builtin.append_ #[t, u] o.type #[vs, vx]).run P w = .ok v w2) (hK : wpList P ops Q rest (a.put o.dst v) w2) : wpList P ops Q (o :: rest) a w := by
  refine wpList_plain hg fun K hK' => ?_
  unfold Oper.wp
  simp [execOp, hop, resolve, invoke, builtin, hs, hx, hrun, Result.andThen]
  exact hK' _ _ hK

/-- A new row of bytes. -/
theorem own_new (w : World) (zs : List Int) (us : Array Value) (hu : ∀ j, j < zs.length → us[j]? = some (.int .u8 (zs[j]?.getD 0))) :
    OwnG w.heap.size (w.alloc (.cells us 5)) w.heap.size zs := by
  have hn : (w.alloc (.cells us 5)).heap[w.heap.size]? = some (.cells us 5) := by rw [← World.alloc_eq]; simp
  refine ⟨Nat.le_refl _, ⟨us, hn⟩, fun j hj => ?_⟩
  simp only [World.cell?]
  rw [hn]
  simpa using hu j hj

/-- 'append([]byte{}, v...)': a copy of its own. -/
theorem BytesAt.copied {w : World} {v : Value} {zs : List Int} (h : BytesAt w.heap.size w v zs) (B : Nat) (ty : TypeId) :
    ∃ a cap w2, (Builtin.append_ #[22, 22] ty #[.slice (some ⟨B, 0, none⟩) 0 0, v]).run Try.prog w = .ok (.slice a zs.length cap) w2 ∧ (zs.length = 0 ∨ ∃ g, a = some ⟨g, 0, none⟩ ∧ OwnG w.heap.size w2 g zs) ∧ Below w.heap.size w w2 := by
  obtain ⟨i, hi, hz, hs, hb⟩ := info_parts info_u8
  obtain ⟨hf, hl, a, cap, rfl, hv⟩ := h
  have src : ∃ news : List Value, news = zs.map (fun z => Value.int .u8 z) ∧ Src Try.prog i.size 22 (.slice a zs.length cap) zs.length news w := by
    refine ⟨_, rfl, ?_⟩
    rw [hs]
    rcases hv with hv | ⟨b, off, rfl, hlt, hc⟩
    · obtain rfl : zs = [] := List.length_eq_zero_iff.1 hv
      cases a with
      | none => exact Src.ofNil w Try.underlying22 cap
      | some x => exact Src.ofSlice w Try.underlying22 x 0 cap [] rfl (fun j u hj => by simp at hj) (fun u hu => by cases hu)
    · refine Src.ofSlice w Try.underlying22 _ _ cap _ (by simp) (fun j u hj => ?_) (fun u hu => ?_)
      · rw [List.getElem?_map] at hj
        obtain ⟨z, hz, rfl⟩ := Option.map_eq_some_iff.1 hj
        have hjl := (List.getElem?_eq_some_iff.1 hz).1
        have := hc j hjl
        rw [hz] at this
        rw [Go.WideShapes.add_plain]
        exact this
      · obtain ⟨z, _, rfl⟩ := List.mem_map.1 hu
        rfl
  obtain ⟨news, hnews, hsrc⟩ := src
  by_cases h0 : zs.length = 0
  · obtain rfl : zs = [] := List.length_eq_zero_iff.1 h0
    have hr := run_append_room_src w 22 22 ty 5 i Try.underlying22 hi B 0 0 0 _ 0 news hsrc (Nat.le_refl _) (fun j hj => by rw [hnews] at hj; simp at hj) (fun j hj => by rw [hnews] at hj; simp at hj)
    subst hnews
    exact ⟨_, _, _, hr, .inl rfl, Below.refl _ _⟩
  · have hold : (Builtin.firstCells i.size 0 (.slice (some ⟨B, 0, none⟩) 0 0)).run Try.prog w.drew = .ok ([] : List Value).toArray w.drew := by
      exact run_firstCells_some w.drew i.size 0 ⟨B, 0, none⟩ 0 0 [] (by simp) (fun j u hj => by simp at hj)
    have hr := run_append_grow_src w 22 22 ty 5 i (.int .u8 0) Try.underlying22 hi hz (some ⟨B, 0, none⟩) 0 0 [] hold _ zs.length news hsrc (by omega) (by omega) (by
      rw [hb]
      have : Builtin.nextslicecap (0 + zs.length) 0 = zs.length := by
        unfold Builtin.nextslicecap
        simp
        intro e
        rw [e]; rfl
      omega)
    simp only [Nat.zero_add, List.nil_append] at hr
    refine ⟨_, _, _, hr, .inr ⟨_, rfl, own_new w.drew zs _ (fun j hj => ?_)⟩, ((Below.refl _ w).drew).alloc (Nat.le_refl _) _⟩
    rw [hnews]
    simp [Array.getElem?_append, hj]

set_option maxHeartbeats 1000000 in
theorem clone_calls (v : Value) (zs : List Int) (w : World) (h : BytesAt w.heap.size w v zs) :
    Calls Try.prog 32 #[v] w fun e w' => ∃ a cap, e = .returned (.slice a zs.length cap) ∧ (zs.length = 0 ∨ ∃ g, a = some ⟨g, 0, none⟩ ∧ OwnG w.heap.size w' g zs) ∧ Below w.heap.size w w' := by
  obtain ⟨_, _, a, cap, rfl, hz⟩ := id h
  cases a with
  | none =>
    have h0 : zs.length = 0 := by
      rcases hz with hz | ⟨b, off, e, _⟩
      · exact hz
      · cases e
    clear h hz
    go_enter Try.func32, Try.ntmps32
    have hq := Go.Lib.run_eql_slice_nil (P := Try.prog) w 22 5 none 0 cap 0 0 Try.underlying22
    go_wp2
    go_ret
    exact ⟨none, 0, by rw [h0]; rfl, .inl h0, Below.refl _ _⟩
  | some x =>
    have hb := (Below.refl w.heap.size w).alloc (Nat.le_refl _) (.cells #[] 5)
    have h' : BytesAt (w.alloc (.cells #[] 5)).heap.size (w.alloc (.cells #[] 5)) (.slice (some x) zs.length cap) zs := h.later hb
    obtain ⟨a, cap', w2, hrun, hg, hb2⟩ := h'.copied w.heap.size 22
    have H0 : Hid _ := hrun
    clear hrun h h' hz
    have hq := Go.Lib.run_eql_slice_nil (P := Try.prog) w 22 5 (some x) zs.length cap 0 0 Try.underlying22
    go_enter Try.func32, Try.ntmps32
    go_wp2_with (at_builtin; refine wpList_append_run rfl _ _ _ _ rfl rfl rfl H0.out ?_; clear H0)
    go_ret
    refine ⟨_, _, rfl, hg.imp id ?_, hb.trans (hb2.mono hb.size)⟩
    rintro ⟨g, rfl, ho⟩
    exact ⟨g, rfl, Nat.le_trans hb.size ho.low, ho.typed, ho.cell⟩

set_option maxHeartbeats 400000 in
theorem write_none (u : Value) (p v : Int) (w : World) :
    Calls Try.prog 33 #[u, .int .i64 p, .int .i64 0, .int .u64 v] w fun e w' => e = .returned (.tuple #[]) ∧ w' = w := by
  go_enter Try.func33, Try.ntmps33
  go_wp2
  go_loopw [11] (fun i wr => i = .int .i64 0 ∧ wr = w) (fun i _ => 0)
  case atStart => exact ⟨rfl, rfl⟩
  case round =>
    obtain ⟨rfl, rfl⟩ := hrel
    go_wp2
    exact bodyPost_end (results_none rfl _ _ _) rfl ⟨rfl, rfl⟩

def putOk (zs : List Int) (at' n : Int) (v : Nat) : Bool := okG zs.length at' n && !wideB v n.toNat
def putL (zs : List Int) (at' n : Int) (v : Nat) : List Int := if putOk zs at' n v then writeL zs at'.toNat n.toNat v n.toNat else []
def putE (zs : List Int) (at' n : Int) (v : Nat) : Int := if okG zs.length at' n then (if wideB v n.toNat then 1 else 0) else 30

theorem nil_bytes (n₀ : Nat) (w : World) : BytesAt n₀ w (.slice none 0 0) [] := ⟨fun z hz => by simp at hz, by simp, none, 0, rfl, .inl rfl⟩

set_option maxHeartbeats 1000000 in
theorem put_calls (u : Value) (zs : List Int) (at' n : Int) (v : Nat) (w : World) (h : BytesAt w.heap.size w u zs) (h0 : -9223372036854775808 ≤ at' ∧ at' ≤ 9223372036854775807) (h1 : -9223372036854775808 ≤ n ∧ n ≤ 9223372036854775807) (hv : v < 18446744073709551616) :
    Calls Try.prog 12 #[u, .int .i64 at', .int .i64 n, .int .u64 v] w fun e w' => ∃ r, e = .returned (.tuple #[r, .int .i64 (putE zs at' n v)]) ∧ BytesAt w'.heap.size w' r (putL zs at' n v) ∧ Below w.heap.size w w' := by
  have hl := h.len
  have hf := h.fit
  obtain ⟨_, _, a, cap, rfl, _⟩ := id h
  by_cases hn : n ≤ 64
  · cases ht : thereB zs.length at' n
    · have ev : putL zs at' n v = [] := by simp [putL, putOk, okG, ht]
      have ee : putE zs at' n v = 30 := by simp [putE, okG, ht]
      rw [ev, ee]
      clear h
      go_enter Try.func12, Try.ntmps12
      go_wp2_with fail
      refine (there_calls a _ cap at' n w hl h0 h1).mono ?_
      rintro e w' ⟨rfl, rfl⟩
      rw [ht]
      go_wp2
      go_ret2
      exact ⟨_, rfl, nil_bytes _ _, Below.refl _ _⟩
    · have hth := thereB_yes ht
      obtain ⟨p, rfl⟩ := Int.eq_ofNat_of_zero_le hth.1
      obtain ⟨m, rfl⟩ := Int.eq_ofNat_of_zero_le hth.2.1
      have hm : m ≤ 64 := by omega
      have hok : okG zs.length p m = true := by simp [okG, ht]; omega
      have hwc := wide_calls v m w hv hm
      cases hw : wideB v m
      · have ev : putL zs p m v = writeL zs p m v m := by simp [putL, putOk, hok, hw]
        have ee : putE zs p m v = 0 := by simp [putE, hok, hw]
        rw [ev, ee]
        rw [hw] at hwc
        have HW : Hid _ := hwc
        clear hwc hw ev ee
        go_enter Try.func12, Try.ntmps12
        go_wp2_with fail
        refine (there_calls a _ cap p m w hl h0 h1).mono ?_
        rintro e w' ⟨rfl, rfl⟩
        rw [ht]
        clear ht
        go_wp2_with fail
        refine Calls.mono HW.out ?_
        rintro e w1 ⟨rfl, rfl⟩
        go_wp2_with fail
        refine (clone_calls _ zs _ h).mono ?_
        rintro e w2 ⟨a2, cap2, rfl, hg, hB2⟩
        rcases hg with hg | ⟨g, rfl, ho⟩
        · obtain rfl : zs = [] := List.length_eq_zero_iff.1 hg
          obtain rfl : m = 0 := by simp at hth; omega
          go_wp2_with fail
          refine (write_none _ _ _ w2).mono ?_
          rintro e w3 ⟨rfl, rfl⟩
          go_wp2
          go_ret2
          exact ⟨_, rfl, ⟨hf, hl, _, _, rfl, .inl rfl⟩, hB2⟩
        · go_wp2_with fail
          refine (write_calls g cap2 _ zs p m v w2 hf hl ho (by omega) hm hv).mono ?_
          rintro e w3 ⟨rfl, ho3, hB3, hs3⟩
          go_wp2
          go_ret2
          have := (ho3.own (cap := cap2) (writeL_fit hf p m v m) (by simpa using hl)).bytes
          rw [writeL_length] at this
          exact ⟨_, rfl, this, hB2.trans hB3⟩
      · have ev : putL zs p m v = [] := by simp [putL, putOk, hok, hw]
        have ee : putE zs p m v = 1 := by simp [putE, hok, hw]
        rw [ev, ee]
        rw [hw] at hwc
        have HW : Hid _ := hwc
        clear hwc hw ev ee h
        go_enter Try.func12, Try.ntmps12
        go_wp2_with fail
        refine (there_calls a _ cap p m w hl h0 h1).mono ?_
        rintro e w' ⟨rfl, rfl⟩
        rw [ht]
        clear ht
        go_wp2_with fail
        refine Calls.mono HW.out ?_
        rintro e w1 ⟨rfl, rfl⟩
        go_wp2
        go_ret2
        exact ⟨_, rfl, nil_bytes _ _, Below.refl _ _⟩
  · have ev : putL zs at' n v = [] := by simp [putL, putOk, okG, hn]
    have ee : putE zs at' n v = 30 := by simp [putE, okG, hn]
    rw [ev, ee]
    clear h
    go_enter Try.func12, Try.ntmps12
    go_wp2
    go_ret2
    exact ⟨_, rfl, nil_bytes _ _, Below.refl _ _⟩

end Go.Proofs.Ytcncjclolpfddaa
