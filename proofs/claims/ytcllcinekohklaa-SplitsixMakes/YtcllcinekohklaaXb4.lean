/-
  Clone of a row of heads.
-/
import Derived.Test.YtcllcinekohklaaXb1
namespace Go.Proofs.Ytcllcinekohklaa
open Go Go.RowKit
set_option linter.unusedVariables false
set_option linter.unusedSimpArgs false

theorem infoH : ∃ i, Try.prog.info? 67 = some i ∧ i.zero = some (.agg #[.int .u8 0, .slice none 0 0]) ∧ i.size = 2 ∧ i.bytes = 32 := by
  have h : (Try.prog.info? 67).map (fun i => (i.zero, i.size, i.bytes)) = some (some (.agg #[.int .u8 0, .slice none 0 0]), 2, 32) := by kernel_rfl
  obtain ⟨i, hi, e⟩ := Option.map_eq_some_iff.1 h
  simp only [Prod.mk.injEq] at e
  exact ⟨i, hi, e.1, e.2.1, e.2.2⟩
/-- A row of heads in a block of its own, the first k of whose bodies lie in T, the others in S. -/
structure HM (b k : Nat) (S T : Nat → Prop) (w : World) (hs : Opts) : Prop where
  blk : hs.length = 0 ∨ ∃ cur : List Value, w.heap[b]? = some (.cells cur.toArray 67) ∧ ∀ j, j < hs.length → cur[j * 2]? = some (.int .u8 (oK hs j)) ∧ ∃ s, cur[j * 2 + 1]? = some s ∧ (j < k → BS T w s (oD hs j)) ∧ (k ≤ j → BS S w s (oD hs j))
theorem HM.sep {b k : Nat} {S T O : Nat → Prop} {w w' : World} {hs : Opts} (h : HM b k S T w hs) (hs' : Sep O w w') (hb : ¬ O b) (hS : ∀ c, S c → ¬ O c) (hT : ∀ c, T c → ¬ O c) : HM b k S T w' hs := by
  refine ⟨h.blk.imp id ?_⟩
  rintro ⟨cur, hc, hj⟩
  refine ⟨cur, hs'.blk hc hb, fun j hl => ?_⟩
  obtain ⟨h0, s, h1, h2, h3⟩ := hj j hl
  exact ⟨h0, s, h1, fun q => (h2 q).sep hs' hT, fun q => (h3 q).sep hs' hS⟩
theorem HM.on {b k : Nat} {S T : Nat → Prop} {w w' : World} {hs : Opts} (h : HM b k S T w hs) (hb : Below w.heap.size w w') : HM b k S T w' hs :=
  h.sep (O := fun _ => False) (Sep.of_below hb) (fun h => h) (fun _ _ h => h) (fun _ _ h => h)
theorem HM.step {b k : Nat} {S T : Nat → Prop} {w : World} {hs : Opts} {u : Value} (h : HM b k S T w hs) (hu : BS T w u (oD hs k)) (hS : ∀ c, S c → c ≠ b) (hT : ∀ c, T c → c ≠ b) : HM b (k + 1) S T (w.setCell ⟨b, k * 2 + 1, none⟩ u) hs := by
  have hsep : Sep (fun c => c = b) w (w.setCell ⟨b, k * 2 + 1, none⟩ u) := Sep.of_only ((Only.refl b w).set _ _) rfl
  refine ⟨h.blk.imp id ?_⟩
  rintro ⟨cur, hc, hj⟩
  refine ⟨cur.set (k * 2 + 1) u, blk_set hc _ _, fun j hl => ?_⟩
  obtain ⟨h0, s, h1, h2, h3⟩ := hj j hl
  have hcl : j * 2 + 1 < cur.length := (List.getElem?_eq_some_iff.1 h1).1
  refine ⟨by rw [List.getElem?_set_ne (by omega)]; exact h0, ?_⟩
  by_cases e : j = k
  · subst e
    exact ⟨u, by rw [List.getElem?_set_self hcl], fun _ => hu.sep hsep hT, fun q => absurd q (by omega)⟩
  · exact ⟨s, by rw [List.getElem?_set_ne (by omega)]; exact h1, fun q => (h2 (by omega)).sep hsep hT, fun q => (h3 (by omega)).sep hsep hS⟩
theorem HM.hs {b k : Nat} {S T T' : Nat → Prop} {w : World} {hs : Opts} {a : Option Addr} {cap : Nat} (h : HM b k S T w hs) (hk : hs.length ≤ k) (hf : ∀ j, 0 ≤ oK hs j ∧ oK hs j < 256) (hl : hs.length ≤ 140737488351232) (ha : hs.length = 0 ∨ a = some ⟨b, 0, none⟩) (hb : T' b) (hT : ∀ c, c < w.heap.size → T c → T' c) : HS T' w (.slice a hs.length cap) hs := by
  refine ⟨hf, hl, a, cap, rfl, ?_⟩
  rcases h.blk with h0 | ⟨cur, hc, hj⟩
  · exact .inl h0
  · rcases ha with h0 | rfl
    · exact .inl h0
    · refine .inr ⟨b, 0, rfl, (Array.getElem?_eq_some_iff.1 hc).1, hb, fun j hl => ?_⟩
      obtain ⟨h0, s, h1, h2, h3⟩ := hj j hl
      rw [Nat.zero_add]
      exact ⟨blk_cell hc h0, s, blk_cell hc h1, (h2 (by omega)).mono hT⟩
/-- What Clone of heads answers. -/
def HCl (B : Nat) (S : Nat → Prop) (w' : World) (u : Value) (hs : Opts) : Prop :=
  ∃ a cap b, u = .slice a hs.length cap ∧ (hs.length = 0 ∨ a = some ⟨b, 0, none⟩) ∧ B ≤ b ∧ b < w'.heap.size ∧ HM b 0 S (fun _ => False) w' hs
def flatH (hs : Opts) (ss : Nat → Value) : List Value := (List.range hs.length).flatMap (fun j => [.int .u8 (oK hs j), ss j])
theorem fl2_len (ks ss : Nat → Value) : ∀ n, ((List.range n).flatMap (fun j => [ks j, ss j])).length = n * 2
  | 0 => rfl
  | n + 1 => by rw [List.range_succ, List.flatMap_append, List.length_append, fl2_len ks ss n]; simp; omega
theorem fl2_at (ks ss : Nat → Value) : ∀ n j, j < n → ((List.range n).flatMap (fun j => [ks j, ss j]))[j * 2]? = some (ks j) ∧ ((List.range n).flatMap (fun j => [ks j, ss j]))[j * 2 + 1]? = some (ss j)
  | 0, j, h => by omega
  | n + 1, j, h => by
    rw [List.range_succ, List.flatMap_append]
    by_cases e : j = n
    · subst e
      rw [List.getElem?_append_right (by rw [fl2_len]; omega), List.getElem?_append_right (by rw [fl2_len]; omega), fl2_len]
      simp
    · obtain ⟨h0, h1⟩ := fl2_at ks ss n j (by omega)
      rw [List.getElem?_append_left (by rw [fl2_len]; omega), List.getElem?_append_left (by rw [fl2_len]; omega)]
      exact ⟨h0, h1⟩
theorem fl2_mem (ks ss : Nat → Value) (n : Nat) (hk : ∀ j, j < n → (ks j).oneCell' = true) (hs : ∀ j, j < n → (ss j).oneCell' = true) : ∀ u ∈ (List.range n).flatMap (fun j => [ks j, ss j]), u.oneCell' = true := by
  intro u hu
  obtain ⟨j, hj, h⟩ := List.mem_flatMap.1 hu
  rw [List.mem_range] at hj
  simp at h
  rcases h with rfl | rfl
  · exact hk j hj
  · exact hs j hj

set_option maxHeartbeats 1000000 in
set_option maxRecDepth 100000 in
theorem CloneH_calls {S : Nat → Prop} {w : World} {v : Value} {hs : Opts} (h : HS S w v hs) (hl8 : hs.length ≤ 4398046511104) (hpos : 0 < hs.length) :
    Calls Try.prog 46 #[v] w fun e w' => ∃ u, e = .returned u ∧ (HCl w.heap.size S w' u hs ∧ Below w.heap.size w w') := by
  obtain ⟨i, hi, hz, hsz, hby⟩ := infoH
  obtain ⟨hf, hl, a, cap, rfl, hv⟩ := h
  rcases hv with h0 | ⟨b, off, rfl, hlt, hSb, hc⟩
  · omega
  have hB0 := (Below.refl w.heap.size w).alloc (Nat.le_refl _) (.cells #[] 67)
  have hex : ∀ j, ∃ s, j < hs.length → w.cell? ⟨b, off + j * 2 + 1, none⟩ = some s ∧ BS S w s (oD hs j) := fun j => by
    by_cases hj : j < hs.length
    · obtain ⟨_, s, h1, h2⟩ := hc j hj
      exact ⟨s, fun _ => ⟨h1, h2⟩⟩
    · exact ⟨undef, fun q => absurd q hj⟩
  obtain ⟨ss, hss⟩ := Classical.axiomOfChoice hex
  have hown : (w.alloc (.cells #[] 67)).ownsRow w.heap.size 67 2 (.slice (some ⟨w.heap.size, 0, none⟩) 0 0) 0 [] :=
    ⟨rfl, .inr ⟨w.heap.size, 0, #[], rfl, Nat.le_refl _, blk_new w (.cells #[] 67), Nat.le_refl _, by unfold maxLen; omega, rfl, rfl⟩⟩
  obtain ⟨v', w', hrun, hown', hgr, _, hat⟩ := run_append_own_at (P := Try.prog) (w.alloc (.cells #[] 67)) w.heap.size 25 25 67 i (.agg #[.int .u8 0, .slice none 0 0]) 2 32 Try.underlying25 hi hz hsz hby rfl (by decide) (.slice (some ⟨w.heap.size, 0, none⟩) 0 0) 0 [] hown ⟨b, off, none⟩ hs.length cap (flatH hs ss) (by unfold flatH; exact fl2_len _ _ _)
    (fun j u hj => by
      rw [Go.WideShapes.add_plain]
      have hjl := (List.getElem?_eq_some_iff.1 hj).1
      unfold flatH at hj hjl
      rw [fl2_len (fun j => .int .u8 (oK hs j)) ss] at hjl
      rw [hB0.cell (p := ⟨b, off + j, none⟩) hlt]
      rcases Nat.mod_two_eq_zero_or_one j with e | e
      · obtain ⟨q, rfl⟩ : ∃ q, j = q * 2 := ⟨j / 2, by omega⟩
        rw [(fl2_at (fun j => .int .u8 (oK hs j)) ss hs.length q (by omega)).1] at hj
        injection hj with hj
        rw [← hj]
        exact (hc q (by omega)).1
      · obtain ⟨q, rfl⟩ : ∃ q, j = q * 2 + 1 := ⟨j / 2, by omega⟩
        rw [(fl2_at (fun j => .int .u8 (oK hs j)) ss hs.length q (by omega)).2] at hj
        injection hj with hj
        rw [← hj, ← Nat.add_assoc]
        exact (hss q (by omega)).1) (by unfold flatH; exact fl2_mem (fun j => .int .u8 (oK hs j)) ss _ (fun _ _ => rfl) (fun j hj => (hss j hj).2.one)) (by unfold maxLen; omega) (by omega) (by simp)
  have hgB : Below w.heap.size w w' := (Sep.below (O := fun c => w.heap.size ≤ c) ⟨hgr.os.trans hB0.os, hgr.tape.trans hB0.tape, hgr.output.trans hB0.output, Nat.le_trans hB0.size hgr.size, fun c hc' hn => (hgr.block c (Nat.lt_of_lt_of_le hc' hB0.size) (fun e => by simp [Value.ownBlock] at e; omega)).trans (hB0.block c hc')⟩ (Nat.le_refl _) (fun c hc' => by omega))
  have HHC : Hid (HCl w.heap.size S w' v' hs) := by
    rw [Nat.zero_add] at hown'
    rcases hown'.2 with ⟨_, h0⟩ | ⟨gb, gc, cur, e, h1, h2, h3, h4, h5, h6⟩
    · omega
    · refine ⟨_, gc, gb, e, .inr rfl, h1, (Array.getElem?_eq_some_iff.1 h2).1, ⟨.inr ⟨cur.toList, by simpa using h2, fun j hj => ?_⟩⟩⟩
      have hpre : ∀ m, m < hs.length * 2 → cur.toList[m]? = (flatH hs ss)[m]? := fun m hm => by
        rw [List.nil_append] at h6
        rw [← h6, List.getElem?_take, if_pos hm]
      have := fl2_at (fun j => .int .u8 (oK hs j)) ss hs.length j hj
      exact ⟨by rw [hpre _ (by omega)]; exact this.1, ss j, by rw [hpre _ (by omega)]; exact this.2, fun q => absurd q (by omega), fun _ => (hss j hj).2.on hgB⟩
  have H0 : Hid _ := hrun
  have HB : Hid _ := hgB
  have hq := Go.Lib.run_eql_slice_nil (P := Try.prog) w 25 67 (some ⟨b, off, none⟩) hs.length cap 0 0 Try.underlying25
  clear hrun hgB hown' hgr hat hown hss hex hc hB0 hSb hf
  generalize hs.length = n at *
  go_enter Try.func46, Try.ntmps46
  go_wp2_with (at_builtin; refine wpList_append_run rfl _ _ _ _ rfl rfl rfl H0.out ?_; clear H0)
  go_ret
  exact ⟨_, rfl, HHC.out, HB.out⟩
set_option maxHeartbeats 1000000 in
set_option maxRecDepth 100000 in
theorem CloneH_empty {w : World} (a : Option Addr) (cap : Nat) :
    Calls Try.prog 46 #[.slice a 0 cap] w fun e w' => ∃ u, e = .returned u ∧ ((∃ a' cap', u = .slice a' 0 cap') ∧ Below w.heap.size w w') := by
  cases a with
  | none =>
    have hB := Below.refl w.heap.size w
    have hq := Go.Lib.run_eql_slice_nil (P := Try.prog) w 25 67 none 0 cap 0 0 Try.underlying25
    go_enter Try.func46, Try.ntmps46
    go_wp2
    go_ret
    exact ⟨_, rfl, ⟨_, _, rfl⟩, hB⟩
  | some x =>
    obtain ⟨i, hi, hz, hsz, hby⟩ := infoH
    have hB0 := (Below.refl w.heap.size w).alloc (Nat.le_refl _) (.cells #[] 67)
    have hown : (w.alloc (.cells #[] 67)).ownsRow w.heap.size 67 2 (.slice (some ⟨w.heap.size, 0, none⟩) 0 0) 0 [] :=
      ⟨rfl, .inr ⟨w.heap.size, 0, #[], rfl, Nat.le_refl _, blk_new w (.cells #[] 67), Nat.le_refl _, by unfold maxLen; omega, rfl, rfl⟩⟩
    obtain ⟨v', w', hrun, hown', hgr, _, hat⟩ := run_append_own_at (P := Try.prog) (w.alloc (.cells #[] 67)) w.heap.size 25 25 67 i (.agg #[.int .u8 0, .slice none 0 0]) 2 32 Try.underlying25 hi hz hsz hby rfl (by decide) (.slice (some ⟨w.heap.size, 0, none⟩) 0 0) 0 [] hown x 0 cap [] rfl (fun j u hj => by simp at hj) (by simp) (by unfold maxLen; omega) (by omega) (by simp)
    have hgB : Below w.heap.size w w' := (Sep.below (O := fun c => w.heap.size ≤ c) ⟨hgr.os.trans hB0.os, hgr.tape.trans hB0.tape, hgr.output.trans hB0.output, Nat.le_trans hB0.size hgr.size, fun c hc' hn => (hgr.block c (Nat.lt_of_lt_of_le hc' hB0.size) (fun e => by simp [Value.ownBlock] at e; omega)).trans (hB0.block c hc')⟩ (Nat.le_refl _) (fun c hc' => by omega))
    have HE : Hid (∃ a' cap', v' = .slice a' 0 cap') := by
      rcases hown'.2 with ⟨e, _⟩ | ⟨gb, gc, cur, e, _⟩
      · exact ⟨_, _, e⟩
      · exact ⟨_, _, e⟩
    have H0 : Hid _ := hrun
    have HB : Hid _ := hgB
    have hq := Go.Lib.run_eql_slice_nil (P := Try.prog) w 25 67 (some x) 0 cap 0 0 Try.underlying25
    clear hrun hgB hown' hgr hat hown hB0
    go_enter Try.func46, Try.ntmps46
    go_wp2_with (at_builtin; refine wpList_append_run rfl _ _ _ _ rfl rfl rfl H0.out ?_; clear H0)
    go_ret
    exact ⟨_, rfl, HE.out, HB.out⟩
/-- Both. -/
def HCa (B : Nat) (S : Nat → Prop) (w' : World) (u : Value) (hs : Opts) : Prop :=
  ∃ a cap b, u = .slice a hs.length cap ∧ (hs.length = 0 ∨ a = some ⟨b, 0, none⟩) ∧ B ≤ b ∧ (0 < hs.length → b < w'.heap.size) ∧ HM b 0 S (fun _ => False) w' hs
theorem CloneH_any {S : Nat → Prop} {w : World} {v : Value} {hs : Opts} (h : HS S w v hs) (hl8 : hs.length ≤ 4398046511104) :
    Calls Try.prog 46 #[v] w fun e w' => ∃ u, e = .returned u ∧ (HCa w.heap.size S w' u hs ∧ Below w.heap.size w w') := by
  by_cases h0 : hs.length = 0
  · obtain ⟨_, _, a, cap, rfl, _⟩ := h
    rw [h0]
    refine (CloneH_empty a cap).mono ?_
    rintro e w' ⟨u, rfl, ⟨a', cap', rfl⟩, hb⟩
    exact ⟨_, rfl, ⟨a', cap', w.heap.size, by rw [h0], .inl h0, Nat.le_refl _, fun q => by omega, ⟨.inl h0⟩⟩, hb⟩
  · refine (CloneH_calls h hl8 (by omega)).mono ?_
    rintro e w' ⟨u, rfl, ⟨a, cap, b, hu, ha, hb, hlt, hm⟩, hB⟩
    exact ⟨u, rfl, ⟨a, cap, b, hu, ha, hb, fun _ => hlt, hm⟩, hB⟩

end Go.Proofs.Ytcllcinekohklaa
