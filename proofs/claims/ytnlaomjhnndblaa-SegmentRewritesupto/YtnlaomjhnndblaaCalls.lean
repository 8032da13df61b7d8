/-
  The contracts of package sum's Fold, Of, paired, Update, Neutral, Alike.
-/
import Derived.Test.YtnlaomjhnndblaaTurn
namespace Go.Proofs.Ytnlaomjhnndblaa
open Go Go.RowKit Go.Shelf

theorem BytesAt.later {w W : World} {v : Value} {zs : List Int} (h : BytesAt w.heap.size w v zs) (hb : Below w.heap.size w W) : BytesAt W.heap.size W v zs := by
  obtain ⟨h1, h2, a, cap, hv, hz⟩ := h.below hb
  refine ⟨h1, h2, a, cap, hv, hz.imp id ?_⟩
  rintro ⟨b, off, rfl, hlt, hc⟩
  exact ⟨b, off, rfl, Nat.lt_of_lt_of_le hlt hb.size, hc⟩

theorem PartsAt.later {w W : World} {v : Value} {ps : List (List Int)} (h : PartsAt w.heap.size w v ps) (hb : Below w.heap.size w W) : PartsAt W.heap.size W v ps := by
  obtain ⟨h2, a, cap, hv, hz⟩ := h
  refine ⟨h2, a, cap, hv, hz.imp id ?_⟩
  rintro ⟨b, off, rfl, hlt, hc⟩
  refine ⟨b, off, rfl, Nat.lt_of_lt_of_le hlt hb.size, fun j hj => ?_⟩
  obtain ⟨u, hu, hbu⟩ := hc j hj
  exact ⟨u, (hb.cell (p := ⟨b, off + j, none⟩) hlt).trans hu, hbu.later hb⟩

theorem wordsL_words {f : List Int} (h : Fit f) : Words (wordsL f) := by
  intro z hz
  obtain ⟨k, _, rfl⟩ := List.mem_map.1 hz
  have h1 := h.at (2 * k)
  have h2 := h.at (2 * k + 1)
  unfold wd; omega

theorem eg_words : ∀ args w, (callFunc 95 args).run Try.prog w = .ok (.enter 95 args) w := enters_of Try.func95 (by kernel_rfl) rfl
theorem eg_turned : ∀ args w, (callFunc 94 args).run Try.prog w = .ok (.enter 94 args) w := enters_of Try.func94 (by kernel_rfl) rfl

/-- words, called at parts: its closure gives the words of their bytes. -/
theorem words_made (a : Option Addr) (len cap : Nat) (ps : List (List Int)) (w : World) (hp : PartsAt w.heap.size w (.slice a len cap) ps) :
    Calls Try.prog 91 #[.slice a len cap] w fun e w' => ∃ B, e = .returned (.func (.func 95) #[] #[.pointer (some ⟨B, 0, none⟩)]) ∧ Below w.heap.size w w' ∧ Gives Try.prog 95 #[.pointer (some ⟨B, 0, none⟩)] ((wordsL ps.flatten).map (fun z => .int .u16 z)) w' := by
  refine (words_calls a len cap w).mono ?_
  rintro e w' ⟨rfl, rfl⟩
  have hb : Below w.heap.size w (w.alloc (.cells #[.slice a len cap] 71)) := (Below.refl _ w).alloc (Nat.le_refl _) _
  exact ⟨_, rfl, hb, words1_gives w.heap.size _ ps _ (by simp) (Boxed.new w _ _).cell (hp.later hb)⟩

/-- turned, called at an iterator. -/
theorem turned_made (g : Nat) (lb : Array Value) (eg : ∀ args w, (callFunc g args).run Try.prog w = .ok (.enter g args) w) (xs : List Int) (hxs : Words xs) (w : World) (hg : Gives Try.prog g lb (xs.map (fun z => .int .u16 z)) w) :
    Calls Try.prog 90 #[.func (.func g) #[] lb] w fun e w' => ∃ B, e = .returned (.func (.func 94) #[] #[.pointer (some ⟨B, 0, none⟩)]) ∧ Below w.heap.size w w' ∧ Gives Try.prog 94 #[.pointer (some ⟨B, 0, none⟩)] ((xs.map (fun z => 65535 - z)).map (fun z => .int .u16 z)) w' := by
  refine (turned_calls g lb w).mono ?_
  rintro e w' ⟨rfl, rfl⟩
  have hb : Below w.heap.size w (w.alloc (.cells #[.func (.func g) #[] lb] 143)) := (Below.refl _ w).alloc (Nat.le_refl _) _
  refine ⟨_, rfl, hb, ?_⟩
  have := turned1_gives w.heap.size g lb eg xs hxs _ (by simp) (Boxed.new w _ _).cell (hg.later hb)
  rw [List.map_map]
  exact this

/-- A new row of parts. -/
theorem parts_new (w : World) (us : Array Value) (t : TypeId) (ps : List (List Int)) (len cap : Nat) (hl : len = ps.length) (hs : len ≤ 1000) (h : ∀ j, j < ps.length → ∃ u, us[j]? = some u ∧ BytesAt w.heap.size w u (ps[j]?.getD [])) :
    PartsAt (w.alloc (.cells us t)).heap.size (w.alloc (.cells us t)) (.slice (some ⟨w.heap.size, 0, none⟩) len cap) ps := by
  have hb : Below w.heap.size w (w.alloc (.cells us t)) := (Below.refl _ w).alloc (Nat.le_refl _) _
  refine ⟨by omega, _, _, by rw [hl], .inr ⟨_, _, rfl, by simp, fun j hj => ?_⟩⟩
  obtain ⟨u, hu, hbu⟩ := h j hj
  refine ⟨u, ?_, hbu.later hb⟩
  have hn := World.alloc_heap_new w (.cells us t)
  simp only [World.cell?]
  rw [hn]
  simpa using hu

theorem parts_one (w : World) (u : Value) (t : TypeId) (zs : List Int) (h : BytesAt w.heap.size w u zs) :
    PartsAt (w.alloc (.cells #[u] t)).heap.size (w.alloc (.cells #[u] t)) (.slice (some ⟨w.heap.size, 0, none⟩) 1 1) [zs] :=
  parts_new w #[u] t [zs] 1 1 rfl (by decide) (fun j hj => by
    match j, hj with
    | 0, _ => exact ⟨u, rfl, h⟩)
theorem parts_two (w : World) (u1 u2 : Value) (t : TypeId) (z1 z2 : List Int) (h1 : BytesAt w.heap.size w u1 z1) (h2 : BytesAt w.heap.size w u2 z2) :
    PartsAt (w.alloc (.cells #[u1, u2] t)).heap.size (w.alloc (.cells #[u1, u2] t)) (.slice (some ⟨w.heap.size, 0, none⟩) 2 2) [z1, z2] :=
  parts_new w #[u1, u2] t [z1, z2] 2 2 rfl (by decide) (fun j hj => by
    match j, hj with
    | 0, _ => exact ⟨u1, rfl, h1⟩
    | 1, _ => exact ⟨u2, rfl, h2⟩)
theorem parts_three (w : World) (u1 u2 u3 : Value) (t : TypeId) (z1 z2 z3 : List Int) (h1 : BytesAt w.heap.size w u1 z1) (h2 : BytesAt w.heap.size w u2 z2) (h3 : BytesAt w.heap.size w u3 z3) :
    PartsAt (w.alloc (.cells #[u1, u2, u3] t)).heap.size (w.alloc (.cells #[u1, u2, u3] t)) (.slice (some ⟨w.heap.size, 0, none⟩) 3 3) [z1, z2, z3] :=
  parts_new w #[u1, u2, u3] t [z1, z2, z3] 3 3 rfl (by decide) (fun j hj => by
    match j, hj with
    | 0, _ => exact ⟨u1, rfl, h1⟩
    | 1, _ => exact ⟨u2, rfl, h2⟩
    | 2, _ => exact ⟨u3, rfl, h3⟩)
theorem parts_four (w : World) (u1 u2 u3 u4 : Value) (t : TypeId) (z1 z2 z3 z4 : List Int) (h1 : BytesAt w.heap.size w u1 z1) (h2 : BytesAt w.heap.size w u2 z2) (h3 : BytesAt w.heap.size w u3 z3) (h4 : BytesAt w.heap.size w u4 z4) :
    PartsAt (w.alloc (.cells #[u1, u2, u3, u4] t)).heap.size (w.alloc (.cells #[u1, u2, u3, u4] t)) (.slice (some ⟨w.heap.size, 0, none⟩) 4 4) [z1, z2, z3, z4] :=
  parts_new w #[u1, u2, u3, u4] t [z1, z2, z3, z4] 4 4 rfl (by decide) (fun j hj => by
    match j, hj with
    | 0, _ => exact ⟨u1, rfl, h1⟩
    | 1, _ => exact ⟨u2, rfl, h2⟩
    | 2, _ => exact ⟨u3, rfl, h3⟩
    | 3, _ => exact ⟨u4, rfl, h4⟩)

/-- words, called at one part. -/
theorem words_one (u : Value) (zs : List Int) (w : World) (h : BytesAt w.heap.size w u zs) :
    Calls Try.prog 91 #[.slice (some ⟨w.heap.size, 0, none⟩) 1 1] (w.alloc (.cells #[u] 29)) fun e w' => ∃ B, e = .returned (.func (.func 95) #[] #[.pointer (some ⟨B, 0, none⟩)]) ∧ Below w.heap.size w w' ∧ Gives Try.prog 95 #[.pointer (some ⟨B, 0, none⟩)] ((wordsL zs).map (fun z => .int .u16 z)) w' := by
  refine (words_made _ _ _ [zs] _ (parts_one w u _ zs h)).mono ?_
  rintro e w' ⟨B, rfl, hb, hg⟩
  refine ⟨B, rfl, ((Below.refl _ w).alloc (Nat.le_refl _) _).trans (hb.mono (by simp)), ?_⟩
  simpa using hg

set_option maxHeartbeats 400000 in
theorem fold_calls (a : Option Addr) (len cap : Nat) (ps : List (List Int)) (w : World) (hp : PartsAt w.heap.size w (.slice a len cap) ps) :
    Calls Try.prog 92 #[.slice a len cap] w fun e w' => e = .returned (.int .u16 (sumW 0 (wordsL ps.flatten))) ∧ Below w.heap.size w w' := by
  have hw := wordsL_words hp.fit
  go_enter Try.func92, Try.ntmps92
  go_wp2_with fail
  refine (words_made a len cap ps w hp).mono ?_
  rintro e w' ⟨B, rfl, hb, hg⟩
  go_wp2_with fail
  refine (total_calls 0 (by decide) _ _ eg_words _ hw w' hg).mono ?_
  rintro e w2 ⟨rfl, hb2⟩
  go_wp2
  go_ret
  exact ⟨rfl, hb.trans (hb2.mono hb.size)⟩

set_option maxHeartbeats 400000 in
theorem of_calls (a : Option Addr) (len cap : Nat) (ps : List (List Int)) (w : World) (hp : PartsAt w.heap.size w (.slice a len cap) ps) :
    Calls Try.prog 84 #[.slice a len cap] w fun e w' => e = .returned (.int .u16 (65535 - sumW 0 (wordsL ps.flatten))) ∧ Below w.heap.size w w' := by
  have hr := sumW_range (wordsL ps.flatten) 0 (by decide) (wordsL_words hp.fit)
  have hnot := not_word (sumW 0 (wordsL ps.flatten)) hr.1 hr.2
  have hsg : IntKind.u16.signed = false := rfl
  go_enter Try.func84, Try.ntmps84
  go_wp2_with fail
  refine (fold_calls a len cap ps w hp).mono ?_
  rintro e w' ⟨rfl, hb⟩
  go_wp2
  go_ret
  exact ⟨rfl, hb⟩

theorem ret_bool {a b : Bool} (h : a = b) : Ending.returned (.bool a) = .returned (.bool b) := by rw [h]

set_option maxHeartbeats 400000 in
theorem paired_calls (a a' : Option Addr) (n n' cap cap' : Nat) (w : World) (hn : n ≤ 140737488351232) (hn' : n' ≤ 140737488351232) :
    Calls Try.prog 88 #[.slice a n cap, .slice a' n' cap'] w fun e w' => e = .returned (.bool (decide (n = n' ∧ n % 2 = 0))) ∧ w' = w := by
  by_cases h : n = n'
  · subst h
    go_enter Try.func88, Try.ntmps88
    go_wp2
    go_ret
    exact ⟨ret_bool (by rw [Bool.eq_iff_iff]; simp; omega), rfl⟩
  · have h1 : ((n : Int) == (n' : Int)) = false := beq_eq_false_iff_ne.2 (by omega)
    go_enter Try.func88, Try.ntmps88
    go_wp2
    go_ret
    exact ⟨ret_bool (by simp [h]), rfl⟩

theorem paired_yes (a a' : Option Addr) (n cap cap' : Nat) (w : World) (hn : n ≤ 140737488351232) (h : n % 2 = 0) :
    Calls Try.prog 88 #[.slice a n cap, .slice a' n cap'] w fun e w' => e = .returned (.bool true) ∧ w' = w :=
  (paired_calls a a' n n cap cap' w hn hn).mono (fun _ _ hr => ⟨hr.1.trans (ret_bool (decide_eq_true ⟨rfl, h⟩)), hr.2⟩)
theorem paired_no (a a' : Option Addr) (n n' cap cap' : Nat) (w : World) (hn : n ≤ 140737488351232) (hn' : n' ≤ 140737488351232) (h : ¬ (n = n' ∧ n % 2 = 0)) :
    Calls Try.prog 88 #[.slice a n cap, .slice a' n' cap'] w fun e w' => e = .returned (.bool false) ∧ w' = w :=
  (paired_calls a a' n n' cap cap' w hn hn').mono (fun _ _ hr => ⟨hr.1.trans (ret_bool (decide_eq_false h)), hr.2⟩)

set_option maxHeartbeats 400000 in
theorem update_none (was : Int) (a a' : Option Addr) (n n' cap cap' : Nat) (w : World) (hn : n ≤ 140737488351232) (hn' : n' ≤ 140737488351232) (h : ¬ (n = n' ∧ n % 2 = 0)) :
    Calls Try.prog 82 #[.int .u16 was, .slice a n cap, .slice a' n' cap'] w fun e w' => e = .returned (.tuple #[.int .u16 0, .int .i64 10]) ∧ w' = w := by
  have H : Hid (¬ (n = n' ∧ n % 2 = 0)) := h
  clear h
  go_enter Try.func82, Try.ntmps82
  go_wp2_with fail
  refine (paired_no a a' n n' cap cap' _ hn hn' H.out).mono ?_
  rintro e w' ⟨rfl, rfl⟩
  go_wp2
  go_ret2
  exact ⟨rfl, rfl⟩

set_option maxHeartbeats 400000 in
theorem update_some (was : Int) (hwas : 0 ≤ was ∧ was ≤ 65535) (a a' : Option Addr) (n cap cap' : Nat) (zs ys : List Int) (w : World) (hz : BytesAt w.heap.size w (.slice a n cap) zs) (hy : BytesAt w.heap.size w (.slice a' n cap') ys) (h2 : n % 2 = 0) :
    Calls Try.prog 82 #[.int .u16 was, .slice a n cap, .slice a' n cap'] w fun e w' =>
      e = .returned (.tuple #[.int .u16 (65535 - sumW (sumW (65535 - was) ((wordsL zs).map (fun z => 65535 - z))) (wordsL ys)), .int .i64 0]) ∧ Below w.heap.size w w' := by
  have hn : n ≤ 140737488351232 := by have := hz.len; obtain ⟨_, _, e, _⟩ := hz.val; cases e; exact this
  have hnot := not_word was hwas.1 hwas.2
  have hsg : IntKind.u16.signed = false := rfl
  go_enter Try.func82, Try.ntmps82
  go_wp2_with fail
  refine (paired_yes a a' n cap cap' _ hn h2).mono ?_
  rintro e w' ⟨rfl, rfl⟩
  have hw1 := wordsL_words hz.fit
  have hw2 := wordsL_words hy.fit
  have hw1' : Words ((wordsL zs).map (fun z => 65535 - z)) := turn_words hw1
  have hr1 := sumW_range _ (65535 - was) (by omega) hw1'
  have hr2 := sumW_range _ _ hr1 hw2
  have hnot2 := not_word _ hr2.1 hr2.2
  go_wp2_with fail
  refine (words_one _ zs w' hz).mono ?_
  rintro e x1 ⟨B1, rfl, hb1, hg1⟩
  go_wp2_with fail
  refine (turned_made _ _ eg_words _ hw1 x1 hg1).mono ?_
  rintro e x2 ⟨B2, rfl, hb2, hg2⟩
  go_wp2_with fail
  refine (total_calls (65535 - was) (by omega) _ _ eg_turned _ hw1' x2 hg2).mono ?_
  rintro e x3 ⟨rfl, hb3⟩
  have hb13 : Below w'.heap.size w' x3 := hb1.trans ((hb2.trans (hb3.mono hb2.size)).mono hb1.size)
  clear hb1 hb2 hb3 hg1 hg2
  go_wp2_with fail
  refine (words_one _ ys x3 (hy.later hb13)).mono ?_
  rintro e x4 ⟨B3, rfl, hb4, hg4⟩
  go_wp2_with fail
  refine (total_calls _ hr1 _ _ eg_words _ hw2 x4 hg4).mono ?_
  rintro e x5 ⟨rfl, hb5⟩
  go_wp2
  go_ret2
  exact ⟨rfl, hb13.trans ((hb4.trans (hb5.mono hb4.size)).mono hb13.size)⟩

end Go.Proofs.Ytnlaomjhnndblaa
