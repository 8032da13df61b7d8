/-
  Split; awake of the statements of splitsix.
-/
import Derived.Test.YtcllcinekohklaaXd2
namespace Go.Proofs.Ytcllcinekohklaa
open Go Go.RowKit Go.Shelf
set_option linter.unusedVariables false
set_option linter.unusedSimpArgs false

theorem RowV.lower {f : F6} {hs : Opts} {base base' : Nat} {S : Nat → Prop} {w : World} {v : Value} {L : List FG} (h : RowV f hs base S w v L) (hb : base' ≤ base) : RowV f hs base' S w v L := by
  obtain ⟨ps, hl, ho, hd⟩ := h
  refine ⟨ps, hl, ⟨ho.1, ?_⟩, hd⟩
  rcases ho.2 with h2 | ⟨g, cap, cur, e, h1, h2⟩
  · exact .inl h2
  · exact .inr ⟨g, cap, cur, e, Nat.le_trans hb h1, h2⟩
section
variable {S : Nat → Prop} {w : World} {f : F6} (g : G6) {vh vb : Value} {hs : Opts} {body : List Int} (mtu id : Int)
/-- The three boxes of Split. -/
theorem split_boxes (h : D6 S w f vh vb hs body) : ∃ W3, W3 = (((w.alloc (BV f g vh vb)).alloc (.cells [.int .i64 mtu].toArray 3)).alloc (.cells [.int .u32 id].toArray 22)) ∧ W3.heap.size = w.heap.size + 3 ∧ Below w.heap.size w W3 ∧ ItW f g vh vb hs body mtu id w.heap.size (w.heap.size + 1) (w.heap.size + 1 + 1) (fun c => c < W3.heap.size) W3 := by
  refine ⟨_, rfl, by simp, (((Below.refl w.heap.size w).alloc (Nat.le_refl _) (BV f g vh vb)).alloc (by simp) (.cells [.int .i64 mtu].toArray 3)).alloc (by simp; omega) (.cells [.int .u32 id].toArray 22), ?_⟩
  have h0 := blk_alloc (blk_alloc (blk_new w (BV f g vh vb)) (.cells [.int .i64 mtu].toArray 3)) (.cells [.int .u32 id].toArray 22)
  have h1 := blk_alloc (blk_new (w.alloc (BV f g vh vb)) (.cells [.int .i64 mtu].toArray 3)) (.cells [.int .u32 id].toArray 22)
  rw [show (w.alloc (BV f g vh vb)).heap.size = w.heap.size + 1 by simp] at h1
  have h2 := blk_new ((w.alloc (BV f g vh vb)).alloc (.cells [.int .i64 mtu].toArray 3)) (.cells [.int .u32 id].toArray 22)
  rw [show ((w.alloc (BV f g vh vb)).alloc (.cells [.int .i64 mtu].toArray 3)).heap.size = w.heap.size + 1 + 1 by simp] at h2
  have hB := (((Below.refl w.heap.size w).alloc (Nat.le_refl _) (BV f g vh vb)).alloc (by simp) (.cells [.int .i64 mtu].toArray 3)).alloc (by simp; omega) (.cells [.int .u32 id].toArray 22)
  exact ⟨h0, h1, h2, fun c hc => hc, by simp; omega, by simp, by simp, (h.on hB).mono (fun c hc _ => hc)⟩
set_option maxHeartbeats 1000000 in
set_option maxRecDepth 100000 in
theorem Split_yes (h : D6 S w f vh vb hs body) (he : (fragP f hs g body mtu id).2 = none) :
    Calls Try.prog 8 #[VV f g vh vb, .int .i64 mtu, .int .u32 id] w fun e w' => ∃ v, e = .returned (.tuple #[v, .int .i64 0]) ∧ RowV f hs w.heap.size (fun b => w.heap.size ≤ b) w' v (fragP f hs g body mtu id).1 ∧ Below w.heap.size w w' := by
  obtain ⟨W3, hW3, hs3, hB3, hit⟩ := split_boxes g mtu id h
  have hans := ansS_yes ⟨w.heap.size, 0, none⟩ ⟨w.heap.size + 1, 0, none⟩ ⟨w.heap.size + 1 + 1, 0, none⟩ W3 (fun v A => RowV f hs (W3.heap.size + 1) (fun b => W3.heap.size + 1 ≤ b) A v (fragP f hs g body mtu id).1)
    (fun v A B hr ho => hr.sep (Sep.of_only (O := fun b => b = W3.heap.size) ho rfl) (fun b hb e => by omega) (fun b hb e => by have := (hr.lt hb).1; omega))
    (fun W hW hsW => by
      have := split1_calls (hit.up hW)
      rw [he] at this
      refine this.mono ?_
      rintro e w' ⟨v, rfl, hr, hb⟩
      rw [hsW] at hr
      exact ⟨v, rfl, hr, hb⟩)
  have HA : Hid _ := hans
  have HB3 : Hid _ := hB3
  have HS3 : Hid _ := hs3
  clear hans hit hs3 hB3 h he
  generalize (fragP f hs g body mtu id).1 = L at *
  have hW := hW3.symm
  clear hW3
  go_enter Try.func8, Try.ntmps8
  go_wp2_with fail
  refine Calls.mono HA.out ?_
  rintro e w4 ⟨v, rfl, hr, hb4⟩
  have HR : Hid (RowV f hs w.heap.size (fun b => w.heap.size ≤ b) w4 v L) := (hr.lower (by have := HS3.out; omega)).mono (fun b _ hb => by have := HS3.out; omega)
  have HB : Hid (Below w.heap.size w w4) := HB3.out.trans (Below.mono hb4 HB3.out.size)
  clear hr hb4 HA HB3 HS3
  go_wp2
  go_ret2
  exact ⟨v, rfl, HR.out, HB.out⟩
set_option maxHeartbeats 1000000 in
set_option maxRecDepth 100000 in
theorem Split_no (h : D6 S w f vh vb hs body) (er : Int) (he : (fragP f hs g body mtu id).2 = some er) :
    Calls Try.prog 8 #[VV f g vh vb, .int .i64 mtu, .int .u32 id] w fun e w' => e = .returned (.tuple #[.slice none 0 0, .int .i64 er]) ∧ Below w.heap.size w w' := by
  obtain ⟨W3, hW3, hs3, hB3, hit⟩ := split_boxes g mtu id h
  have hans := ansS_no ⟨w.heap.size, 0, none⟩ ⟨w.heap.size + 1, 0, none⟩ ⟨w.heap.size + 1 + 1, 0, none⟩ W3 er
    (fun W hW hsW => by
      have := split1_calls (hit.up hW)
      rw [he] at this
      exact this)
  have HA : Hid _ := hans
  have HB3 : Hid _ := hB3
  clear hans hit hs3 hB3 h he
  have hW := hW3.symm
  clear hW3
  go_enter Try.func8, Try.ntmps8
  go_wp2_with fail
  refine Calls.mono HA.out ?_
  rintro e w4 ⟨rfl, hb4⟩
  have HB : Hid (Below w.heap.size w w4) := HB3.out.trans (Below.mono hb4 HB3.out.size)
  clear hb4 HA HB3
  go_wp2
  go_ret2
  exact ⟨rfl, HB.out⟩
end
def aF : F6 := ⟨0, 0, 64, 17, List.replicate 32 (.int .u8 0), rfl, fun v hv => by rw [(List.mem_replicate.1 hv).2]; rfl⟩
def aw (u : Value) : List Value := .int .u8 0 :: .int .u32 0 :: .int .u8 64 :: .int .u8 0 :: .int .u8 0 :: .int .u8 0 :: .int .u8 0 :: .int .u8 0 :: .int .u8 0 :: .int .u8 0 :: .int .u8 0 :: .int .u8 0 :: .int .u8 0 :: .int .u8 0 :: .int .u8 0 :: .int .u8 0 :: .int .u8 0 :: .int .u8 0 :: .int .u8 0 :: .int .u8 0 :: .int .u8 0 :: .int .u8 0 :: .int .u8 0 :: .int .u8 0 :: .int .u8 0 :: .int .u8 0 :: .int .u8 0 :: .int .u8 0 :: .int .u8 0 :: .int .u8 0 :: .int .u8 0 :: .int .u8 0 :: .int .u8 0 :: .int .u8 0 :: .int .u8 0 :: .slice none 0 0 :: .bool false :: .int .u32 0 :: .int .i64 0 :: .bool false :: .int .u8 17 :: u :: []
theorem aw_eq (u : Value) : vC aF zG (.slice none 0 0) u = aw u := rfl
def aL : List FG := [⟨⟨true, 7, 0, true⟩, List.replicate 1232 0⟩, ⟨⟨true, 7, 154, false⟩, List.replicate 68 0⟩]
theorem aw_frag : fragP aF [] zG (List.replicate 1300 0) 1280 7 = (aL, none) := by kernel_rfl
theorem HS.nil (S : Nat → Prop) (w : World) : HS S w (.slice none 0 0) [] := ⟨fun j => by simp [oK], by simp, none, 0, rfl, .inl rfl⟩
set_option maxHeartbeats 2000000 in
set_option maxRecDepth 100000 in
theorem awake_calls (w : World) : Calls Try.prog 15 #[] w fun e w' => e = .returned (.bool true) ∧ Below w.heap.size w w' := by
  obtain ⟨i, hi, hz0, hs, hby⟩ := info_parts info_u8
  have HSP : Hid (∀ W u, RowC W u (List.replicate 1300 0) → Calls Try.prog 8 #[.agg (aw u).toArray, .int .i64 1280, .int .u32 7] W fun e w' => ∃ v, e = .returned (.tuple #[v, .int .i64 0]) ∧ RowV aF [] W.heap.size (fun b => W.heap.size ≤ b) w' v aL ∧ Below W.heap.size W w') := fun W u hu => by
    have := Split_yes zG 1280 7 (f := aF) (w := W) (vh := .slice none 0 0) (vb := u) (hs := []) (body := List.replicate 1300 0) (S := fun b => b < W.heap.size) ⟨HS.nil _ _, BS.of_row hu, by unfold aF; simp⟩ (by rw [aw_frag])
    rw [aw_frag] at this
    exact this
  unfold aw at HSP
  go_enter Try.func15, Try.ntmps15
  go_wp2_with (at_make; refine wpList_make_full _ rfl _ _ _ rfl w.heap.size 5 i (.int .u8 0) 1 Try.underlying26 hi hz0 hs .i64 .i64 _ _ 1300 rfl rfl rfl rfl (by rw [hby]; decide) (by unfold maxLen; decide) (Nat.le_refl _) ?_; intro w4 hown hgr; have hG4 := made_own hown; have hB4 := (Below.refl _ w).grown hgr (Nat.le_refl _) (fun k hk => by cases hk); have hrw : RowC w4 (.slice (some ⟨w.heap.size, 0, none⟩) 1300 1300) (List.replicate 1300 0) := (by have := hG4.row (by intro z hz; rw [(List.mem_replicate.1 hz).2]; omega) (by simp) 1300 1300 (by simp) (Nat.le_refl _); rw [List.take_of_length_le (by simp)] at this; simpa using this))
  refine Calls.mono (HSP.out w4 _ hrw) ?_
  rintro e w5 ⟨v, rfl, hrow, hB5⟩
  obtain ⟨b, c, so0, sb0, hv, _, _, hc0, hd0⟩ := hrow.at (j := 0) rfl
  obtain ⟨b', c', so1, sb1, hv', _, _, hc1, hd1⟩ := hrow.at (j := 1) rfl
  rw [hv] at hv'
  injection hv' with e1 e2 e3
  injection e1 with e1
  injection e1 with e1
  subst e1
  subst hv
  obtain ⟨_, _, a0, k0, rfl, _⟩ := hd0.bd.row
  obtain ⟨_, _, a1, k1, rfl, _⟩ := hd1.bd.row
  simp only [List.length_replicate] at *
  have c41 : w5.cell? ⟨b, 41, none⟩ = some (.slice a0 1232 k0) := hc0 41 _ (vC_at 6)
  have c39 : w5.cell? ⟨b, 39, none⟩ = some (.bool true) := hc0 39 _ (vC_at 4)
  have c83 : w5.cell? ⟨b, 83, none⟩ = some (.slice a1 68 k1) := hc1 41 _ (vC_at 6)
  have c81 : w5.cell? ⟨b, 81, none⟩ = some (.bool false) := hc1 39 _ (vC_at 4)
  have c80 : w5.cell? ⟨b, 80, none⟩ = some (.int .i64 154) := hc1 38 _ (vC_at 3)
  have c79 : w5.cell? ⟨b, 79, none⟩ = some (.int .u32 7) := hc1 37 _ (vC_at 2)
  have HB : Hid (Below w.heap.size w w5) := hB4.trans (hB5.mono hB4.size)
  clear hc0 hc1 hd0 hd1 hrow hB5 HSP hrw hG4 hB4 hown hgr hi hz0 hs hby
  unfold aL
  go_wp2
  go_ret
  exact ⟨rfl, HB.out⟩

end Go.Proofs.Ytcllcinekohklaa
