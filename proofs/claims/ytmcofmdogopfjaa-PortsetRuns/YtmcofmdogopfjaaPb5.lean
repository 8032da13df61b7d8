/-
  Port sets: Runs of the program.
-/
import Derived.Test.YtmcofmdogopfjaaPb4
import Derived.Handy
import Derived.Deep.Onto
namespace Go.Proofs.Ytmcofmdogopfjaa
open Go Go.RowKit Go.Shelf
set_option linter.unusedVariables false
set_option linter.unusedSimpArgs false
attribute [local go_sem] Oper.semAt_some

def cellsP : List (Nat × Nat) → List Value
  | [] => []
  | x :: r => .int .u16 (x.1 : Nat) :: .int .u16 (x.2 : Nat) :: cellsP r
theorem cellsP_length (L : List (Nat × Nat)) : (cellsP L).length = L.length * 2 := by
  induction L with
  | nil => rfl
  | cons x r ih => simp [cellsP, ih]; omega
theorem cellsP_push (L : List (Nat × Nat)) (x : Nat × Nat) : cellsP (L ++ [x]) = cellsP L ++ [.int .u16 (x.1 : Nat), .int .u16 (x.2 : Nat)] := by
  induction L with
  | nil => rfl
  | cons y r ih => simp [cellsP, ih]
theorem cellsP_at : ∀ (L : List (Nat × Nat)) (j : Nat), j < L.length → (cellsP L)[2 * j]? = some (.int .u16 ((L[j]?.getD (0, 0)).1 : Nat)) ∧ (cellsP L)[2 * j + 1]? = some (.int .u16 ((L[j]?.getD (0, 0)).2 : Nat))
  | [], j, h => by simp at h
  | x :: r, 0, h => by simp [cellsP]
  | x :: r, j + 1, h => by
    have ih := cellsP_at r j (by simpa using h)
    simp only [cellsP, List.getElem?_cons_succ]
    rw [show 2 * (j + 1) = 2 * j + 1 + 1 by omega]
    simpa using ih
theorem take_at {α : Type} (L : List α) (k : Nat) {x : α} (h : L[k]? = some x) : L.take (k + 1) = L.take k ++ [x] := by
  obtain ⟨hlt, e⟩ := List.getElem?_eq_some_iff.1 h
  rw [List.take_succ_eq_append_getElem hlt, e]

theorem cell_two (X : World) (u1 u2 : Value) (t : TypeId) : ∀ j u, [u1, u2][j]? = some u → (X.alloc (.cells #[u1, u2] t)).cell? ((⟨X.heap.size, 0, none⟩ : Addr).add j) = some u := by
  intro j u h
  rw [Go.WideShapes.add_plain]
  have hb := blk_new X (.cells #[u1, u2] t)
  match j, h with
  | 0, h =>
    simp only [World.cell?]
    rw [hb]
    simpa using h
  | 1, h =>
    simp only [World.cell?]
    rw [hb]
    simpa using h
/-- A row of runs of one's own. -/
abbrev RowP (base : Nat) (W : World) (v : Value) (L : List (Nat × Nat)) : Prop := W.ownsRow base 71 2 v L.length (cellsP L)
theorem infoP : ∃ i, Try.prog.info? 71 = some i ∧ i.zero = some (.agg #[.int .u16 0, .int .u16 0]) ∧ i.size = 2 ∧ i.bytes = 4 := by
  have h : (Try.prog.info? 71).map (fun i => (i.zero, i.size, i.bytes)) = some (some (.agg #[.int .u16 0, .int .u16 0]), 2, 4) := by kernel_rfl
  obtain ⟨i, hi, e⟩ := Option.map_eq_some_iff.1 h
  simp only [Prod.mk.injEq] at e
  exact ⟨i, hi, e.1, e.2.1, e.2.2⟩

set_option maxRecDepth 100000 in
set_option maxHeartbeats 2000000 in
theorem Runs_yes (o l p : Nat) (w : World) (ho : o ≤ 15) (hl : l ≤ 16 - o) (hp : p < 2 ^ l) :
    Calls Try.prog 24 #[PS o l p] w fun e w' => ∃ v, e = .returned (.tuple #[v, .int .i64 0]) ∧ RowP w.heap.size w' v (blkL (fr o l p) (shS o l) (st o) (shB o l)) ∧ Below w.heap.size w w' := by
  obtain ⟨_, hin, hS, hBq⟩ := runs_all o l p ho hl hp
  obtain ⟨hs, g1, g2, g3⟩ := setIn ho hl hp
  have HC : Hid _ := fun W => Check_any o l p W g1 g2 g3
  rw [if_pos hs] at HC
  have HS : Hid _ := fun W => shapeOf_calls o l p W ho hl hp
  have HR : Hid _ := fun W => runs_calls (fr o l p) (sz o l) (st o) (bk o) W (sz_le o l).2 (bk_le o ho).2
  have eS : (if sz o l = st o then bk o * sz o l else sz o l) = shS o l := rfl
  have eB : (if sz o l = st o then 1 else bk o) = shB o l := rfl
  rw [eS, eB] at HR
  have hBb : shB o l ≤ 65536 := by unfold shB; have := bk_le o ho; split <;> omega
  have hTb := (st_le o).2
  have HG : Hid _ := fun (Bp : Nat) => runs1_gives Bp (fr o l p) (shS o l) (st o) (shB o l) hS hin hTb hBb
  clear eS eB hs g1 g2 g3 hin
  generalize fr o l p = F at *
  generalize shS o l = S at *
  generalize shB o l = B at *
  generalize st o = T at *
  generalize sz o l = s at *
  generalize bk o = b at *
  have hLl : (blkL F S T B).length ≤ 65536 := by rw [blkL_length]; exact hBb
  generalize blkL F S T B = L at *
  have hB := bA w (PSO o l p)
  refine (callsIn_wide (n := 9)).1 ?_
  refine callsIn_of_wp_marks Try.func24 rfl trivial ?_ rfl
  simp only [Try.ntmps24, List.size_toArray, List.length_cons, List.length_nil, Nat.reduceAdd, Nat.reduceSub, Array.replicate_succ, Array.replicate_zero, List.push_toArray, List.append_toArray, List.nil_append, List.cons_append]
  gi_wp2_with fail
  refine ⟨trivial, (callsIn_wide.2 (HC.out _)).mono ?_⟩
  rintro e w2 ⟨rfl, hB2⟩
  have hk2 := ps_at hB2
  obtain ⟨c0, c1, c2⟩ := ps_c hk2
  have hBw2 := hB.trans (hB2.mono hB.size)
  obtain ⟨d0, d1, d2⟩ := ps_c (blk_alloc hk2 (.cells #[.slice none 0 0] 51))
  have hBw3 := hBw2.trans ((bA w2 (.cells #[.slice none 0 0] 51)).mono hBw2.size)
  have hsz : w.heap.size < w2.heap.size := (Array.getElem?_eq_some_iff.1 hk2).1
  clear HC hB2 hB c0 c1 c2
  gi_wp2_with fail
  refine ⟨trivial, (callsIn_wide.2 (HS.out _)).mono ?_⟩
  rintro e w4 ⟨rfl, hB4⟩
  clear d0 d1 d2 HS
  gi_wp2_with fail
  refine ⟨trivial, (callsIn_wide.2 (HR.out _)).mono ?_⟩
  rintro e w5 ⟨rfl, hB5, hk5⟩
  clear HR
  have hbx : Boxed w5 w2.heap.size 51 (.slice none 0 0) := by
    have h1 := blk_on (blk_new w2 (.cells #[.slice none 0 0] 51)) hB4
    exact blk_on h1 hB5
  have hlt2 : w2.heap.size < w4.heap.size := by have := hB4.size; simp at this; omega
  have hsz5 : w4.heap.size < w5.heap.size := (Array.getElem?_eq_some_iff.1 hk5).1
  have hBw5 := (hBw3.trans (hB4.mono hBw3.size)).trans (hB5.mono (Nat.le_trans hBw3.size hB4.size))
  have HGL : Hid _ := HG.out w4.heap.size
  clear HG
  gi_wp2
  have hown : OwnFrom w5.heap.size (fun (k : Nat) X => (∃ v, Boxed X w2.heap.size 51 v ∧ RowP w2.heap.size X v (L.take k) ∧ True) ∧ X.heap[w4.heap.size]? = some (SHO F S T B) ∧ Below w.heap.size w X) :=
    OwnFrom.and (Own.from (holdsRow_own w2.heap.size w2.heap.size 51 71 2 (fun k => (L.take k).length) (fun k => cellsP (L.take k)) (fun _ _ => True)) _)
      (OwnFrom.and (fun s A B row hs hg hr => (hg.block _ (Array.getElem?_eq_some_iff.1 hs).1 (fun e => by have := (hr _ e.symm).1; omega)).trans hs) (ownFrom_below (Nat.le_refl _) (by omega)))
  refine wpIn_rangeC (gf := 35) (lb := #[.pointer (some ⟨w4.heap.size, 0, none⟩)]) rfl (enters_of Try.func35 (by kernel_rfl) rfl) HGL.out rfl
    (fun k X => (∃ v, Boxed X w2.heap.size 51 v ∧ RowP w2.heap.size X v (L.take k) ∧ True) ∧ X.heap[w4.heap.size]? = some (SHO F S T B) ∧ Below w.heap.size w X)
    hown (fun k X h => h.2.1) ⟨⟨_, hbx, ⟨rfl, .inl ⟨rfl, rfl⟩⟩, trivial⟩, hk5, hBw5⟩
    (fun k x a' X => ∃ B6, a' = { tmps := #[PS o l p, .pointer (some ⟨w.heap.size, 0, none⟩), .slice none 0 0, .int .i64 0, .int .i64 0, .pointer (some ⟨w2.heap.size, 0, none⟩), .pointer (some ⟨B6, 0, none⟩), PS o l p, .int .i64 0, .int .i64 0, .bool false, undef, PS o l p, SH F s T b, .func (.func 35) #[] #[.pointer (some ⟨w4.heap.size, 0, none⟩)], x, undef, undef, undef, undef, undef], defers := [] } ∧ ((∃ v, Boxed X w2.heap.size 51 v ∧ RowP w2.heap.size X v (L.take k) ∧ True) ∧ X.heap[w4.heap.size]? = some (SHO F S T B) ∧ Below w.heap.size w X) ∧ X.heap[B6]? = some (.cells x.cells 71))
    ?ownA ?assign ?body ?done
  case ownA =>
    rintro k x a' _ X Y row ⟨B6, e, hI, hb6⟩ hg hr
    refine ⟨B6, e, hown k X Y row hI hg hr, (hg.block _ (Array.getElem?_eq_some_iff.1 hb6).1 (fun e => ?_)).trans hb6⟩
    obtain ⟨_, ob, ho, hc⟩ := hr _ e.symm
    rw [hb6] at ho
    cases ho
    cases hc
  case assign =>
    intro l' m k x X K hx hle hI hK
    rw [List.getElem?_map] at hx
    obtain ⟨z, hz, rfl⟩ := Option.map_eq_some_iff.1 hx
    unfold portV
    gi_wp2
    exact hK _ _ ⟨X.heap.size, rfl, hown.alloc _ hI, blk_new X _⟩ (KeepsOthers.alloc X _)
  case body =>
    rintro l' m k x a' X hx hle ⟨B6, rfl, ⟨⟨v, hbv, hrow, _⟩, hbp, hbw⟩, hb6⟩
    rw [List.getElem?_map] at hx
    obtain ⟨z, hz, rfl⟩ := Option.map_eq_some_iff.1 hx
    obtain ⟨i, hi, hz0, hz1, hz2⟩ := infoP
    have hkl : (L.take k).length = k := by rw [List.length_take]; have := (List.getElem?_eq_some_iff.1 hz).1; omega
    have hkb : k < 65536 := by have := (List.getElem?_eq_some_iff.1 hz).1; omega
    have ht : L.take (k + 1) = L.take k ++ [z] := take_at L k hz
    have hrow' : X.ownsRow w2.heap.size 71 2 v k (cellsP (L.take k)) := by
      have h := hrow
      unfold RowP at h
      rw [hkl] at h
      exact h
    obtain ⟨ad, cap, hvf⟩ : ∃ ad cap, v = .slice ad k cap := by
      rcases hrow'.2 with ⟨rfl, rfl⟩ | ⟨g, cap, cur, rfl, _⟩
      · exact ⟨_, _, rfl⟩
      · exact ⟨_, _, rfl⟩
    have HT : Hid _ := ht
    clear hx ht hz
    generalize L.take k = M at *
    obtain ⟨z1, z2⟩ := z
    unfold portV at hb6 ⊢
    have hc5 := hbv.cell
    have hf5 := hbv.frozen
    have hc6 : X.cell? ⟨B6, 0, none⟩ = some (.int .u16 (z1 : Nat)) := by simp [World.cell?, hb6, Value.cells]
    have hc7 : X.cell? ⟨B6, 1, none⟩ = some (.int .u16 (z2 : Nat)) := by simp [World.cell?, hb6, Value.cells]
    subst hvf
    have hne : some w4.heap.size ≠ (Value.slice ad k cap).ownBlock := by
      rcases hrow'.2 with ⟨e, _⟩ | ⟨g, cap2, cur, e, _, hg, _⟩
      · cases e
        simp [Value.ownBlock]
      · cases e
        intro h
        simp only [Value.ownBlock, Option.some.injEq] at h
        rw [← h, hbp] at hg
        cases hg
    gi_wp2_with (gi_at_builtin; refine wpListIn_append_own _ rfl _ _ 51 rfl w2.heap.size 71 i (.agg #[.int .u16 0, .int .u16 0]) 2 4 Try.underlying51 hi hz0 hz1 hz2 rfl (by decide) _ _ _ rfl (hrow'.alloc _) ⟨X.heap.size, 0, none⟩ 1 1 [.int .u16 (z1 : Nat), .int .u16 (z2 : Nat)] rfl rfl (cell_two _ _ _ _) (by simp [Value.oneCell']) (by unfold maxLen; omega) (by omega) (by simp; omega) ?_; intro v' w1 hown' hgrow _; obtain ⟨g', cap', rfl⟩ := ownsRow_succ hown'; obtain ⟨hv1, hv2, hr2, hk2, hb2⟩ := hbv.appended (n₀ := w2.heap.size) (by decide) hrow' (by omega) (Nat.le_refl _) hown' hgrow; have hc1 := hv1.cell; have hf1 := hv1.frozen)
    first
      | refine ⟨⟨⟨_, hv2, ?_⟩, ?_, hbw.trans (hb2.mono (by omega))⟩, hk2⟩
      | refine ⟨⟨_, hv2, ?_⟩, ?_, hbw.trans (hb2.mono (by omega))⟩
    · rw [HT.out]
      show World.ownsRow _ _ _ _ _ _ _
      rw [cellsP_push, List.length_append, hkl]
      exact hr2
    · have h1 : w1.heap[w4.heap.size]? = some (SHO F S T B) := (hgrow.block _ (by simp; have := (Array.getElem?_eq_some_iff.1 hbp).1; omega) hne).trans (blk_alloc hbp _)
      exact (Below.heap_setCell _ _ _ _ (by simp; omega)).trans h1
  case done =>
    rintro D X hD ⟨⟨v, hbv, hrow, _⟩, hbp, hbw⟩ hK
    rw [List.length_map, List.take_length] at hrow
    obtain ⟨ad, n, cap, rfl⟩ : ∃ ad n cap, v = .slice ad n cap := by
      rcases hrow.2 with ⟨rfl, h0⟩ | ⟨g, cap, cur, rfl, _⟩
      · exact ⟨_, _, _, rfl⟩
      · exact ⟨_, _, _, rfl⟩
    have hc := hbv.cell
    gi_wp2
    refine ⟨by simp, .inl ⟨_, _, rfl, run_takeDeferred hK, ?_⟩⟩
    exact ⟨_, results_tmp2 rfl _ _ _, _, rfl, (ownsRow_putObj hrow _ hK rfl).mono (by omega), hbw.trans (belowK_b (w := w) (Nat.le_refl _) X D _ _ (by have := hBw5.size; omega) hK rfl rfl)⟩

end Go.Proofs.Ytmcofmdogopfjaa
