/-
  grouped.addr where two colons stood.
-/
import Derived.Test.YtlpbffcijhgelaaDoorAddrGb
namespace Go.Proofs.YtlpbffcijhgelaaDoor
open Go Go.RowKit
set_option linter.unusedVariables false
set_option linter.unusedSimpArgs false

set_option maxHeartbeats 16000000 in
set_option maxRecDepth 100000 in
theorem grp_addr_gapC {B b : Nat} {g : Grp} {w : World} (h : GrpAt B b g w) (hk : g.Ok) (hgp : g.gapped = true) (hd : ¬ g.dots = true) (hp : ¬ g.part = []) :
    Calls Tryd.prog 56 #[.pointer (some ⟨b, 0, none⟩)] w fun e w' => e = .returned (addrV g.addr) ∧ Below w.heap.size w w'  := by
  obtain ⟨v0, h0, hown⟩ := h.row
  obtain ⟨a0, cap0, rfl, hn0, hcase⟩ := row_form hown
  obtain ⟨γ, hγ⟩ : ∃ γ : Nat, g.gap = γ := ⟨g.gap.toNat, by have := hk.gap; omega⟩
  have hlt : b < w.heap.size := World.block_lt_of_cell? w _ h0
  have hl16 := hk.len
  have hgl := hk.gap
  have hv := hk.value
  obtain ⟨w1, hw1⟩ : ∃ w1, w1 = w.alloc (.cells #[.int .u8 0, .int .u8 0, .int .u8 0, .int .u8 0, .int .u8 0, .int .u8 0, .int .u8 0, .int .u8 0, .int .u8 0, .int .u8 0, .int .u8 0, .int .u8 0, .int .u8 0, .int .u8 0, .int .u8 0, .int .u8 0] 31) := ⟨_, rfl⟩
  have hsz : w1.heap.size = w.heap.size + 1 := by rw [hw1]; simp
  have hB1 : Below w.heap.size w w1 := by rw [hw1]; exact (Below.refl _ w).alloc (Nat.le_refl _) _
  have hold : ∀ (X : World), Below w1.heap.size w1 X → ∀ i, X.cell? ⟨b, i, none⟩ = w.cell? ⟨b, i, none⟩ := fun X hX i =>
    (hX.cell (p := ⟨b, i, none⟩) (by rw [hsz]; exact Nat.lt_succ_of_lt hlt)).trans (hB1.cell (p := ⟨b, i, none⟩) hlt)
  have hres : ∀ (X : World), Below w1.heap.size w1 X → ∀ i, i < 16 → X.cell? ⟨w.heap.size, i, none⟩ = some (.int .u8 0) := fun X hX i hi => by
    rw [hX.cell (p := ⟨w.heap.size, i, none⟩) (by rw [hsz]; exact Nat.lt_succ_self _), hw1, World.cell?_alloc_new]
    match i, hi with
    | 0, _ => rfl
    | 1, _ => rfl
    | 2, _ => rfl
    | 3, _ => rfl
    | 4, _ => rfl
    | 5, _ => rfl
    | 6, _ => rfl
    | 7, _ => rfl
    | 8, _ => rfl
    | 9, _ => rfl
    | 10, _ => rfl
    | 11, _ => rfl
    | 12, _ => rfl
    | 13, _ => rfl
    | 14, _ => rfl
    | 15, _ => rfl
    | n + 16, h => exact absurd h (by omega)
  have hsrc : g.ended.length = 0 ∧ a0 = none ∨ ∃ x : Addr, a0 = some x ∧ ∀ (j : Nat) z, g.ended[j]? = some z → (w1.alloc (.cells #[] 5)).cell? (x.add j) = some (.int .u8 z) := by
    refine hcase.imp id ?_
    rintro ⟨G, rfl, -, hG, -, hc⟩
    refine ⟨_, rfl, fun j z hj => ?_⟩
    rw [Go.WideShapes.add_plain]
    simp only [Nat.zero_add]
    rw [World.cell?_alloc_lt _ _ _ (by show G < w1.heap.size; omega), hB1.cell (p := ⟨G, j, none⟩) hG]
    exact hc j z hj
  have happ : ∃ v' X', (Builtin.append_ #[81, 81] 81 #[.slice (some ⟨w.heap.size + 1, 0, none⟩) 0 0, .slice a0 g.ended.length cap0]).run Tryd.prog ((w.alloc (.cells #[.int .u8 0, .int .u8 0, .int .u8 0, .int .u8 0, .int .u8 0, .int .u8 0, .int .u8 0, .int .u8 0, .int .u8 0, .int .u8 0, .int .u8 0, .int .u8 0, .int .u8 0, .int .u8 0, .int .u8 0, .int .u8 0] 31)).alloc (.cells #[] 5)) = .ok v' X' ∧ Giv w1 g.ended v' X' := by
    have := (Giv.start w1).app g.ended a0 cap0 (by simp) (by omega) hsrc 81
    rw [hsz] at this
    rw [← hw1]
    exact this
  obtain ⟨L, hL⟩ : ∃ L, L = g.given := ⟨_, rfl⟩
  have hfz : ∀ (X : World), Below w1.heap.size w1 X → ∀ i, X.frozen? ⟨w.heap.size, i, none⟩ = false := fun X hX i => by
    rw [hX.frozen (p := ⟨w.heap.size, i, none⟩) (by rw [hsz]; exact Nat.lt_succ_self _), hw1]
    exact Typed.open ⟨_, heap_alloc_new w _⟩ i
  have hty : ∀ (X : World), Below w1.heap.size w1 X → Typed X w.heap.size 31 := fun X hX => by
    have e := hX.block w.heap.size (by omega)
    rw [hw1, heap_alloc_new] at e
    exact ⟨_, e⟩
  have HY : Hid _ := hty
  have HF : Hid _ := hfz
  have HA : Hid _ := happ
  have HO : Hid _ := hold
  have HS : Hid _ := hres
  have HW : Hid _ := hw1
  have c1 := h.c1
  have c6 := h.c6
  clear happ hold hres hsrc hcase hfz hty
  have q0 : ∀ o, ((w.alloc (.cells #[.int .u8 0, .int .u8 0, .int .u8 0, .int .u8 0, .int .u8 0, .int .u8 0, .int .u8 0, .int .u8 0, .int .u8 0, .int .u8 0, .int .u8 0, .int .u8 0, .int .u8 0, .int .u8 0, .int .u8 0, .int .u8 0] 31)).alloc o).cell? ⟨b, 0, none⟩ = some (.slice a0 g.ended.length cap0) := fun o => by
    rw [← HW.out]
    exact (HO.out _ ((Below.refl _ w1).alloc (Nat.le_refl _) o) 0).trans h0
  clear hw1
  have hl14 : L.length ≤ 14 := by rw [hL]; exact (given_bound hk hgp).1
  have hγl : γ ≤ L.length := by
    have : g.ended.length ≤ L.length := by rw [hL]; exact (given_bound hk hgp).2
    omega
  have HAd : Hid (g.addr = L.take γ ++ List.replicate (16 - L.length) 0 ++ L.drop γ) := by
    show g.addr = _
    unfold Grp.addr
    rw [hgp, hL, if_pos rfl]
    rw [show g.gap.toNat = γ by omega]
  have HL : Hid _ := hL
  obtain ⟨k, hk1, hk2⟩ : ∃ k : Nat, (16 - ((L.length - γ : Nat) : Int)) = (k : Int) ∧ k = 16 - (L.length - γ) := ⟨16 - (L.length - γ), by omega, rfl⟩
  have hk16 : k ≤ 16 := by omega
  have HK : Hid _ := hk2
  clear hk2
  have hd' : g.dots = false := by simpa using hd
  have hgiv : L = g.ended ++ [g.value / 256, g.value % 256] := by rw [hL]; unfold Grp.given; rw [if_neg hd, if_pos (by simpa using hp)]
  clear hL
  have HG : Hid _ := hgiv
  clear hgiv
  have hq : g.part.isEmpty = false := by simpa using hp
  have hq' := str_bne _ hp
  go_enter Tryd.func56, Tryd.ntmps56
  go_wp2_with (at_builtin; refine wpList_append_ex rfl _ _ _ _ rfl rfl rfl HA.out ?_; clear HA; rintro v1 X1 hG1; have x6 := (HO.out X1 hG1.below 6).trans c6; rw [hd'] at x6; have x1 := (HO.out X1 hG1.below 1).trans c1; have x2 := (HO.out X1 hG1.below 2).trans h.c2; have x22 := fun o => (HO.out _ (hG1.alloc o).below 2).trans h.c2)
  go_region_law (refine step_append_ex rfl _ _ _ _ rfl rfl rfl (part_app hG1 hl16 hv HG.out _) ?_; intro v3 X3 hG3; obtain ⟨a3, cap3, rfl, hcap3, hc3⟩ := row_form hG3.own; have hgc : γ ≤ cap3 := (by omega); have x4 := fun o => (HO.out _ (hG3.alloc o).below 4).trans h.c4; rw [hgp] at x4; have x5 := fun o => (HO.out _ (hG3.alloc o).below 5).trans h.c5; rw [hγ] at x5)
  all_goals
    go_wp2
    rcases Nat.eq_or_lt_of_le hgc with hcg | hcg
    · subst hcg
      go_region_law (refine step_copy_ex rfl _ _ _ _ rfl rfl rfl (copy_head hG3 γ hγl hl14 _) ?_; intro v4 X5 hR4; have z5 := (HO.out X5 hR4.2.below 5).trans h.c5; rw [hγ] at z5; obtain ⟨so, hso, hsl⟩ := slice16 X3.heap.size k hk16; clear hso; have hcp := copy_zero X5; have hA4 := hR4.1; have hB4 := hR4.2.below)
      all_goals
        go_wp2_with (first
          | (refine wpList_load_run rfl (.tmp 5) 31 rfl rfl (load16 hA4) ?_)
          | (refine wpList_store_run rfl (.tmp 2) (.tmp 72) 31 rfl rfl rfl (store16 _ hA4.len (fun i hi => by rw [HS.out X5 hB4 i hi]; rfl) (HF.out X5 hB4)) ?_))
        have hV := Below.setCells (Nat.le_refl _) ((L.take γ ++ List.replicate (16 - γ) 0).map (fun z => Value.int .u8 z)) 0 X5 (hB1.trans (hB4.mono (by omega)))
        have hA5 := arr_stored hA4.len (fun i hi => by rw [HS.out X5 hB4 i hi]; rfl) (HY.out X5 hB4)
        rw [HAd.out, show L.length = γ by omega, List.drop_eq_nil_of_le (show L.length ≤ γ by omega), List.append_nil]
        exact bodyPost_ret (results_cell1 Tryd.results56 rfl (loadVar16 hA5)) rfl ⟨rfl, hV⟩
    · have hne : ¬ cap3 = γ := by omega
      have hz : L.length - γ = 0 ∨ ∃ G, a3 = some ⟨G, 0, none⟩ ∧ Option.map (fun x => x.add γ) a3 = some ⟨G, γ, none⟩ := by
        rcases hc3 with ⟨h0, -⟩ | ⟨G, rfl, -⟩
        · exact .inl (by omega)
        · exact .inr ⟨G, rfl, by simp [Go.WideShapes.add_plain]⟩
      have HZ : Hid _ := hz
      clear hz
      go_region_law (refine step_copy_ex rfl _ _ _ _ rfl rfl rfl (copy_head hG3 γ hγl hl14 _) ?_; intro v4 X4 hR4; have z5 := (HO.out X4 hR4.2.below 5).trans h.c5; rw [hγ] at z5; obtain ⟨so, hso, hsl⟩ := slice16 X3.heap.size k hk16; obtain ⟨v5, X5, hcp, hA4, hB4⟩ := copy_end hR4.2 hR4.1 hG3.below.size γ hγl hl14 (Option.map (fun x => x.add γ) a3) so k (cap3 - γ) HK.out hso HZ.out 3; clear hso)
      all_goals
        go_wp2_with (first
          | (refine wpList_load_run rfl (.tmp 5) 31 rfl rfl (load16 hA4) ?_)
          | (refine wpList_store_run rfl (.tmp 2) (.tmp 72) 31 rfl rfl rfl (store16 _ hA4.len (fun i hi => by rw [HS.out X5 hB4 i hi]; rfl) (HF.out X5 hB4)) ?_))
        have hV := Below.setCells (Nat.le_refl _) (((L.take γ ++ List.replicate (16 - γ) 0).take k ++ L.drop γ).map (fun z => Value.int .u8 z)) 0 X5 (hB1.trans (hB4.mono (by omega)))
        have hA5 := arr_stored hA4.len (fun i hi => by rw [HS.out X5 hB4 i hi]; rfl) (HY.out X5 hB4)
        rw [HAd.out, ← gap_list L γ k hγl hl14 HK.out]
        exact bodyPost_ret (results_cell1 Tryd.results56 rfl (loadVar16 hA5)) rfl ⟨rfl, hV⟩
end Go.Proofs.YtlpbffcijhgelaaDoor
