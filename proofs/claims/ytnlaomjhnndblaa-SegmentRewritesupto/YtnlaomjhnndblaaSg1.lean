/-
  Words as bytes; slices.Grow; wordBytes, putWord, neverZero of package segment.
-/
import Derived.Test.YtnlaomjhnndblaaGc
import Derived.Test.YtnlaomjhnndblaaPseudo6
import Derived.Lib.AppendZerosOnto
namespace Go.Proofs.Ytnlaomjhnndblaa
open Go Go.RowKit
set_option linter.unusedVariables false
set_option linter.unusedSimpArgs false

def w2 (x : Int) : List Int := [x / 256, x % 256]
def wbL : List Int → List Int
  | [] => []
  | x :: xs => w2 x ++ wbL xs
theorem wbL_append : ∀ (xs ys : List Int), wbL (xs ++ ys) = wbL xs ++ wbL ys
  | [], ys => rfl
  | x :: xs, ys => by simp [wbL, wbL_append xs ys]
theorem wbL_length : ∀ (xs : List Int), (wbL xs).length = 2 * xs.length
  | [] => rfl
  | x :: xs => by simp [wbL, w2, wbL_length xs]; omega
theorem w2_fit {x : Int} (h : 0 ≤ x ∧ x ≤ 65535) : Fit (w2 x) := fun z hz => by simp [w2] at hz; omega
theorem wbL_fit : ∀ {xs : List Int}, Words xs → Fit (wbL xs)
  | [], _ => fun z hz => by simp [wbL] at hz
  | x :: xs, h => fun z hz => by
    simp only [wbL, List.mem_append] at hz
    rcases hz with hz | hz
    · exact w2_fit (h x (by simp)) z hz
    · exact wbL_fit (fun y hy => h y (by simp [hy])) z hz
theorem wbL_snoc (xs : List Int) (k : Nat) (h : k < xs.length) : wbL (xs.take (k + 1)) = wbL (xs.take k) ++ w2 (xs[k]?.getD 0) := by
  rw [List.take_succ_eq_append_getElem h, wbL_append]
  simp [wbL, h]

structure WordsAt (w : World) (v : Value) (ws : List Int) : Prop where
  fit : Words ws
  val : ∃ b off cap, v = .slice (some ⟨b, off, none⟩) ws.length cap ∧ b < w.heap.size ∧ ∀ j, j < ws.length → w.cell? ⟨b, off + j, none⟩ = some (.int .u16 (ws[j]?.getD 0))
theorem words_new (w : World) (ws : List Int) (us : Array Value) (t : TypeId) (n : Nat) (hu : us = (ws.map (fun z => Value.int .u16 z)).toArray) (hn : n = ws.length) (hf : Words ws) :
    WordsAt (w.alloc (.cells us t)) (.slice (some ⟨w.heap.size, 0, none⟩) n n) ws := by
  refine ⟨hf, w.heap.size, 0, n, by rw [hn], by simp, fun j hj => ?_⟩
  have hb := World.alloc_heap_new w (.cells us t)
  simp only [World.cell?]
  rw [hb, hu]
  simp [hj]

theorem own_G {w : World} {base n : Nat} {v : Value} {zs : List Int} (h : w.ownsRow base 5 1 v n (bytesV zs)) (hn : 0 < n) : ∃ g cap, v = .slice (some ⟨g, 0, none⟩) n cap ∧ n ≤ cap ∧ cap ≤ maxLen ∧ base ≤ g ∧ OwnG w g zs := by
  have hl : zs.length = n := by have := h.1; simp [bytesV] at this; omega
  rcases h.2 with ⟨e, h0⟩ | ⟨g, cap, cur, rfl, hb, hg, hc, hm, _⟩
  · omega
  · refine ⟨g, cap, rfl, hc, hm, hb, ⟨cur, _, hg⟩, fun j hj => ?_⟩
    have := h.cells (g := g) rfl j (.int .u8 (zs[j]?.getD 0)) (by rw [bytesV, List.getElem?_map]; simp [hj])
    rw [Go.WideShapes.add_plain] at this
    simpa using this
theorem OB.start {w X : World} {v : Value} (hown : X.ownsRow w.heap.size 5 1 v 0 []) (hgr : w.grownBy X none) : OB w.heap.size w X v [] :=
  ⟨hown, (Below.refl _ w).grown hgr (Nat.le_refl _) (fun k hk => by cases hk)⟩

set_option maxHeartbeats 1000000 in
set_option maxRecDepth 100000 in
theorem wordBytes_calls (v : Value) (ws : List Int) (w : World) (h : WordsAt w v ws) (hl : ws.length ≤ 1000) (h0 : 0 < ws.length) :
    Calls Try.prog 59 #[v] w fun e w' => ∃ g cap, e = .returned (.slice (some ⟨g, 0, none⟩) (2 * ws.length) cap) ∧ 2 * ws.length ≤ cap ∧ cap ≤ maxLen ∧ w.heap.size ≤ g ∧ OwnG w' g (wbL ws) ∧ Below w.heap.size w w' := by
  obtain ⟨hf, b, off, cap, rfl, hbn, hc⟩ := h
  obtain ⟨i, hi, hz, hs, hby⟩ := info_parts info_u8
  have HS : Hid (∀ k, k < ws.length → wbL (ws.take (k + 1)) = wbL (ws.take k) ++ w2 (ws[k]?.getD 0)) := wbL_snoc ws
  have HL : Hid (∀ k, k ≤ ws.length → (wbL (ws.take k)).length = 2 * k) := fun k hk => by rw [wbL_length, List.length_take, Nat.min_eq_left hk]
  have HT : Hid (ws.take ws.length = ws) := List.take_length
  have hw : ∀ k : Nat, 0 ≤ ws[k]?.getD 0 ∧ ws[k]?.getD 0 ≤ 65535 := fun k => by
    cases e : ws[k]? with
    | none => simp
    | some z => exact hf z (List.mem_of_getElem? e)
  have HW : Hid _ := hw
  clear hw
  generalize hN : ws.length = N at *
  have HN : Hid _ := hN
  clear hN hf
  go_enter Try.func59, Try.ntmps59
  go_wp2_with (at_make; refine wpList_make_own _ rfl _ _ _ rfl w.heap.size 5 i (.int .u8 0) 1 Try.underlying29 hi hz hs .i64 .i64 _ (2 * N) rfl rfl (by omega) (by rw [hby]; omega) (by unfold maxLen; omega) (Nat.le_refl _) ?_; intro X hown hgr; have hO := OB.start hown hgr; clear hown hgr)
  go_loopw [3, 12] (fun v i wr => ∃ k : Nat, k ≤ N ∧ i = .int .i64 k ∧ OB w.heap.size w wr v (wbL (ws.take k)) ∧ w.heap.size ≤ wr.heap.size) (fun _ i _ => N - (intOf i).toNat)
  case atStart => exact ⟨0, Nat.zero_le _, rfl, by simpa [wbL] using hO, hO.bel.size⟩
  case round =>
    clear hO
    obtain ⟨k, hk, rfl, hO, hsz⟩ := hrel
    by_cases hlt : k < N
    · have hcell := (hO.bel.cell (p := ⟨b, off + k, none⟩) hbn).trans (hc k hlt)
      have hw := HW.out k
      have hsn := HS.out k hlt
      have hll := HL.out k hk
      generalize ws[k]?.getD 0 = x at *
      obtain ⟨v1, w1, hr, h1, hs1, _⟩ := hO.lit hsz (w2 x) #[.int .u8 (x / 256), .int .u8 (x % 256)] rfl (w2_fit hw) (by simp [w2]; omega) 2 rfl 29
      rw [← hsn] at h1
      have HR : Hid _ := hr
      have H1 : Hid _ := h1
      have q1 : x / 256 % 256 = x / 256 := by omega
      clear hr h1 hO hc hsn
      go_wp2_with (at_builtin; refine wpList_append_run rfl _ _ _ _ rfl rfl rfl HR.out ?_)
      exact ⟨⟨k + 1, by omega, by simp, H1.out, hs1⟩, by simp [intOf]; omega⟩
    · obtain rfl : k = N := by omega
      have hown := hO.own
      rw [HT.out] at hown
      have hwl : (wbL ws).length = 2 * k := by have := HL.out k hk; rwa [HT.out] at this
      rw [hwl] at hown
      obtain ⟨g, cp, rfl, c1, c2, c3, c4⟩ := own_G hown (by omega)
      have hB := hO.bel
      clear hown hO hc
      go_wp2
      go_ret
      exact ⟨g, cp, rfl, c1, c2, c3, c4, hB⟩

set_option maxHeartbeats 1000000 in
set_option maxRecDepth 100000 in
theorem neverZero_calls (x : Int) (w : World) : Calls Try.prog 71 #[.int .u16 x] w fun e w' => e = .returned (.int .u16 (if x = 0 then 65535 else x)) ∧ w' = w := by
  by_cases h : x = 0
  · subst h
    go_enter Try.func71, Try.ntmps71
    go_wp2
    go_ret
    exact ⟨rfl, rfl⟩
  · rw [if_neg h]
    have h1 : (x == 0) = false := by simpa using h
    clear h
    go_enter Try.func71, Try.ntmps71
    go_wp2
    go_ret
    exact ⟨rfl, rfl⟩

/-- putWord: two bytes of a row of one's own are turned. -/
theorem OwnG.put {b : Nat} {u w : World} {zs : List Int} (h : OwnG u b zs) (hw : Below u.heap.size u w) : OwnG w b zs := h.kept h.lt hw
set_option maxHeartbeats 1000000 in
set_option maxRecDepth 100000 in
theorem putWord_calls6 (b o n cap : Nat) (zs : List Int) (x : Int) (w : World) (h : OwnG w b zs) (hn : 2 ≤ n) (ho : o + n ≤ zs.length) (hx : 0 ≤ x ∧ x ≤ 65535) (hs : zs.length ≤ 140737488351232) :
    Calls Try.prog 57 #[.slice (some ⟨b, o, none⟩) n cap, .int .u16 x] w fun e w' => e = .returned (.tuple #[]) ∧ OwnG w' b (laid zs o (w2 x)) ∧ But b w w' := by
  have hnew := words_new w [x] #[.int .u16 x] 28 1 rfl rfl (fun z hz => by simp at hz; subst hz; exact hx)
  have hB0 := (Below.refl w.heap.size w).alloc (Nat.le_refl _) (.cells #[.int .u16 x] 28)
  have HW : Hid _ := wordBytes_calls _ _ _ hnew (by simp) (by simp)
  have HB0 : Hid _ := hB0
  have H : Hid _ := h
  clear hnew hB0 h
  go_enter Try.func57, Try.ntmps57
  go_wp2_with fail
  refine Calls.mono HW.out ?_
  rintro _ w1 ⟨g, cp, rfl, c1, c2, c3, c4, hb1⟩
  have hb := HB0.out.trans (hb1.mono HB0.out.size)
  have hsrc := c4.bytes (wbL_fit (xs := [x]) (fun z hz => by simp at hz; subst hz; exact hx)) (by simp [wbL, w2]) 0 2 cp (by simp [wbL, w2])
  have e : ((wbL [x]).drop 0).take 2 = w2 x := by simp [wbL, w2]
  rw [e] at hsrc
  have hown := H.out.kept H.out.lt hb
  have HC : Hid _ := fun ty => OwnG.copy hown hsrc o n cap ho (by simp [w2]; omega) ty
  have HBB : Hid _ := hb
  clear hb hsrc hown c4 hb1 c1 c2 c3 HW HB0 e
  go_wp2_with ((with_reducible show wpList _ _ _ _ _ _); refine arm_copy rfl (.tmp 4) (.tmp 7) _ _ rfl rfl rfl (HC.out _) ?_; rintro v5 w5 ⟨own5, only5⟩)
  go_end0
  exact ⟨rfl, own5, (But.of_below HBB.out).trans (But.of_only only5)⟩

end Go.Proofs.Ytnlaomjhnndblaa
