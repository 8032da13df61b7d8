/-
  grouped.addr.
-/
import Derived.Test.YtlpbffcijhgelaaDoorAddrLs
namespace Go.Proofs.YtlpbffcijhgelaaDoor
open Go Go.RowKit
set_option linter.unusedVariables false
set_option linter.unusedSimpArgs false

set_option maxHeartbeats 16000000 in
set_option maxRecDepth 100000 in
theorem grp_addr_full {B b : Nat} {g : Grp} {w : World} (h : GrpAt B b g w) (hk : g.Ok) (hgp : g.gapped = false) (h16 : g.given.length = 16) :
    Calls Tryd.prog 56 #[.pointer (some ⟨b, 0, none⟩)] w fun e w' => e = .returned (addrV g.addr) ∧ Below w.heap.size w w'  := by
  obtain ⟨v0, h0, hown⟩ := h.row
  obtain ⟨a0, cap0, rfl, hn0, hcase⟩ := row_form hown
  obtain ⟨γ, hγ⟩ : ∃ γ : Nat, g.gap = γ := ⟨g.gap.toNat, by have := hk.gap; omega⟩
  have hlt : b < w.heap.size := World.block_lt_of_cell? w _ h0
  have hl16 := hk.len
  have hgl := hk.gap
  have hv := hk.value
  obtain ⟨w1, hw1⟩ : ∃ w1, w1 = w.alloc (.cells #[.int .u8 0, .int .u8 0, .int .u8 0, .int .u8 0, .int .u8 0, .int .u8 0, .int .u8 0, .int .u8 0, .int .u8 0, .int .u8 0, .int .u8 0, .int .u8 0, .int .u8 0, .int .u8 0, .int .u8 0, .int .u8 0] 31) := ⟨_, rfl⟩
  have hsz : w1.heap.size = w.heap.size + 1 := by rw [hw1]; simp
  have hB1 : Below w.heap.size w w1 := by rw [hw1]; exact (Below.refl _ w).alloc (Nat.le_refl _) _
  have hold : ∀ (X : World), Below w1.heap.size w1 X → ∀ i, X.cell? ⟨b, i, none⟩ = w.cell? ⟨b, i, none⟩ := fun X hX i =>
    (hX.cell (p := ⟨b, i, none⟩) (by rw [hsz]; exact Nat.lt_succ_of_lt hlt)).trans (hB1.cell (p := ⟨b, i, none⟩) hlt)
  have hres : ∀ (X : World), Below w1.heap.size w1 X → ∀ i, i < 16 → X.cell? ⟨w.heap.size, i, none⟩ = some (.int .u8 0) := fun X hX i hi => by
    rw [hX.cell (p := ⟨w.heap.size, i, none⟩) (by rw [hsz]; exact Nat.lt_succ_self _), hw1, World.cell?_alloc_new]
    match i, hi with
    | 0, _ => rfl
    | 1, _ => rfl
    | 2, _ => rfl
    | 3, _ => rfl
    | 4, _ => rfl
    | 5, _ => rfl
    | 6, _ => rfl
    | 7, _ => rfl
    | 8, _ => rfl
    | 9, _ => rfl
    | 10, _ => rfl
    | 11, _ => rfl
    | 12, _ => rfl
    | 13, _ => rfl
    | 14, _ => rfl
    | 15, _ => rfl
    | n + 16, h => exact absurd h (by omega)
  have hsrc : g.ended.length = 0 ∧ a0 = none ∨ ∃ x : Addr, a0 = some x ∧ ∀ (j : Nat) z, g.ended[j]? = some z → (w1.alloc (.cells #[] 5)).cell? (x.add j) = some (.int .u8 z) := by
    refine hcase.imp id ?_
    rintro ⟨G, rfl, -, hG, -, hc⟩
    refine ⟨_, rfl, fun j z hj => ?_⟩
    rw [Go.WideShapes.add_plain]
    simp only [Nat.zero_add]
    rw [World.cell?_alloc_lt _ _ _ (by show G < w1.heap.size; omega), hB1.cell (p := ⟨G, j, none⟩) hG]
    exact hc j z hj
  have happ : ∃ v' X', (Builtin.append_ #[81, 81] 81 #[.slice (some ⟨w.heap.size + 1, 0, none⟩) 0 0, .slice a0 g.ended.length cap0]).run Tryd.prog ((w.alloc (.cells #[.int .u8 0, .int .u8 0, .int .u8 0, .int .u8 0, .int .u8 0, .int .u8 0, .int .u8 0, .int .u8 0, .int .u8 0, .int .u8 0, .int .u8 0, .int .u8 0, .int .u8 0, .int .u8 0, .int .u8 0, .int .u8 0] 31)).alloc (.cells #[] 5)) = .ok v' X' ∧ Giv w1 g.ended v' X' := by
    have := (Giv.start w1).app g.ended a0 cap0 (by simp) (by omega) hsrc 81
    rw [hsz] at this
    rw [← hw1]
    exact this
  obtain ⟨L, hL⟩ : ∃ L, L = g.given := ⟨_, rfl⟩
  rw [← hL] at h16
  have hfz : ∀ (X : World), Below w1.heap.size w1 X → ∀ i, X.frozen? ⟨w.heap.size, i, none⟩ = false := fun X hX i => by
    rw [hX.frozen (p := ⟨w.heap.size, i, none⟩) (by rw [hsz]; exact Nat.lt_succ_self _), hw1]
    exact Typed.open ⟨_, heap_alloc_new w _⟩ i
  have hty : ∀ (X : World), Below w1.heap.size w1 X → Typed X w.heap.size 31 := fun X hX => by
    have e := hX.block w.heap.size (by omega)
    rw [hw1, heap_alloc_new] at e
    exact ⟨_, e⟩
  have HY : Hid _ := hty
  have HF : Hid _ := hfz
  have HA : Hid _ := happ
  have HO : Hid _ := hold
  have HS : Hid _ := hres
  have HW : Hid _ := hw1
  have c1 := h.c1
  have c6 := h.c6
  clear happ hold hres hsrc hcase hfz hty
  have q0 : ∀ o, ((w.alloc (.cells #[.int .u8 0, .int .u8 0, .int .u8 0, .int .u8 0, .int .u8 0, .int .u8 0, .int .u8 0, .int .u8 0, .int .u8 0, .int .u8 0, .int .u8 0, .int .u8 0, .int .u8 0, .int .u8 0, .int .u8 0, .int .u8 0] 31)).alloc o).cell? ⟨b, 0, none⟩ = some (.slice a0 g.ended.length cap0) := fun o => by
    rw [← HW.out]
    exact (HO.out _ ((Below.refl _ w1).alloc (Nat.le_refl _) o) 0).trans h0
  clear hw1
  have hone : True := trivial
  · have HAd : Hid (g.addr = L) := by
      show g.addr = L
      unfold Grp.addr
      rw [hgp, hL]
      rfl
    by_cases hd : g.dots = true
    · have hgiv : L = g.ended ++ g.tail.addr := by rw [hL]; unfold Grp.given; rw [if_pos hd]
      go_enter Tryd.func56, Tryd.ntmps56
      go_wp2_with (at_builtin; refine wpList_append_ex rfl _ _ _ _ rfl rfl rfl HA.out ?_; clear HA; rintro v1 X1 hG1; have x6 := (HO.out X1 hG1.below 6).trans c6; rw [hd] at x6)
      have hT1 : DotAt g.tail X1 b 7 := by
        obtain ⟨t0, t1, t2, t3, t4, t5⟩ := h.tail
        exact ⟨(HO.out X1 hG1.below _).trans t0, (HO.out X1 hG1.below _).trans t1, (HO.out X1 hG1.below _).trans t2, (HO.out X1 hG1.below _).trans t3, (HO.out X1 hG1.below _).trans t4, (HO.out X1 hG1.below _).trans t5⟩
      refine (dot_addr g.tail b 7 X1 hk.tail hT1).mono ?_
      rintro e X2 ⟨rfl, hB2⟩
      have HP : Hid _ := tail_app hG1 hl16 hB2 hgiv
      clear hG1 hT1 hB2 x6
      go_wp2_with (first
        | (at_builtin; refine wpList_append_ex rfl _ _ _ _ rfl rfl rfl HP.out ?_; clear HP; rintro v3 X3 hG3; have x4 := fun o => (HO.out _ (hG3.alloc o).below 4).trans h.c4; rw [hgp] at x4; obtain ⟨v4, X4, hcp, hA4, hB4⟩ := copy_full hG3 h16 3)
        | (refine wpList_load_run rfl (.tmp 5) 31 rfl rfl (load16 hA4) ?_)
        | (refine wpList_store_run rfl (.tmp 2) (.tmp 51) 31 rfl rfl rfl (store16 _ hA4.len (fun i hi => by rw [HS.out X4 hB4 i hi]; rfl) (HF.out X4 hB4)) ?_))
      have hV := Below.setCells (Nat.le_refl _) (L.map (fun z => Value.int .u8 z)) 0 X4 (hB1.trans (hB4.mono (by omega)))
      have hA5 := arr_stored hA4.len (fun i hi => by rw [HS.out X4 hB4 i hi]; rfl) (HY.out X4 hB4)
      rw [HAd.out]
      exact bodyPost_ret (results_cell1 Tryd.results56 rfl (loadVar16 hA5)) rfl ⟨rfl, hV⟩
    · have hd' : g.dots = false := by simpa using hd
      by_cases hp : g.part = []
      · have hgiv : L = g.ended := by rw [hL]; unfold Grp.given; rw [if_neg hd, if_neg (by simpa using hp)]
        go_enter Tryd.func56, Tryd.ntmps56
        go_wp2_with (first
        | (at_builtin; refine wpList_append_ex rfl _ _ _ _ rfl rfl rfl HA.out ?_; clear HA; rintro v3 X3 hG3; rw [← hgiv] at hG3; have x6 := (HO.out X3 hG3.below 6).trans c6; rw [hd'] at x6; have x1 := (HO.out X3 hG3.below 1).trans c1; rw [hp] at x1; have x4 := fun o => (HO.out _ (hG3.alloc o).below 4).trans h.c4; rw [hgp] at x4; obtain ⟨v4, X4, hcp, hA4, hB4⟩ := copy_full hG3 h16 3)
        | (refine wpList_load_run rfl (.tmp 5) 31 rfl rfl (load16 hA4) ?_)
        | (refine wpList_store_run rfl (.tmp 2) (.tmp 51) 31 rfl rfl rfl (store16 _ hA4.len (fun i hi => by rw [HS.out X4 hB4 i hi]; rfl) (HF.out X4 hB4)) ?_))
        have hV := Below.setCells (Nat.le_refl _) (L.map (fun z => Value.int .u8 z)) 0 X4 (hB1.trans (hB4.mono (by omega)))
        have hA5 := arr_stored hA4.len (fun i hi => by rw [HS.out X4 hB4 i hi]; rfl) (HY.out X4 hB4)
        rw [HAd.out]
        exact bodyPost_ret (results_cell1 Tryd.results56 rfl (loadVar16 hA5)) rfl ⟨rfl, hV⟩
      · have hgiv : L = g.ended ++ [g.value / 256, g.value % 256] := by rw [hL]; unfold Grp.given; rw [if_neg hd, if_pos (by simpa using hp)]
        have hq : g.part.isEmpty = false := by simpa using hp
        have hq' := str_bne _ hp
        go_enter Tryd.func56, Tryd.ntmps56
        go_wp2_with (at_builtin; refine wpList_append_ex rfl _ _ _ _ rfl rfl rfl HA.out ?_; clear HA; rintro v1 X1 hG1; have x6 := (HO.out X1 hG1.below 6).trans c6; rw [hd'] at x6; have x1 := (HO.out X1 hG1.below 1).trans c1; have x2 := (HO.out X1 hG1.below 2).trans h.c2; have x22 := fun o => (HO.out _ (hG1.alloc o).below 2).trans h.c2)
        go_region_law (refine step_append_ex rfl _ _ _ _ rfl rfl rfl (part_app hG1 hl16 hv hgiv _) ?_; intro v3 X3 hG3; have x4 := fun o => (HO.out _ (hG3.alloc o).below 4).trans h.c4; rw [hgp] at x4; obtain ⟨v4, X4, hcp, hA4, hB4⟩ := copy_full hG3 h16 3)
        all_goals
          go_wp2_with (first
        | (refine wpList_load_run rfl (.tmp 5) 31 rfl rfl (load16 hA4) ?_)
        | (refine wpList_store_run rfl (.tmp 2) (.tmp 51) 31 rfl rfl rfl (store16 _ hA4.len (fun i hi => by rw [HS.out X4 hB4 i hi]; rfl) (HF.out X4 hB4)) ?_))
          have hV := Below.setCells (Nat.le_refl _) (L.map (fun z => Value.int .u8 z)) 0 X4 (hB1.trans (hB4.mono (by omega)))
          have hA5 := arr_stored hA4.len (fun i hi => by rw [HS.out X4 hB4 i hi]; rfl) (HY.out X4 hB4)
          rw [HAd.out]
          exact bodyPost_ret (results_cell1 Tryd.results56 rfl (loadVar16 hA5)) rfl ⟨rfl, hV⟩
end Go.Proofs.YtlpbffcijhgelaaDoor
