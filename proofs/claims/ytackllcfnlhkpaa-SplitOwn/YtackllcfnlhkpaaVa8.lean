/-
  refused of the program.
-/
import Derived.Test.YtackllcfnlhkpaaVa7
namespace Go.Proofs.Ytackllcfnlhkpaa
open Go Go.RowKit Go.Shelf
set_option linter.unusedVariables false
set_option linter.unusedSimpArgs false
attribute [local go_sem] Oper.semAt_some

/-- The fragments. -/
def fragL (mf : Bool) (off : Int) (opts body : List Int) (mtu : Int) : List Fg := frs mtu.toNat (copiedL opts) mf body.length off opts body
def farB (L : List Fg) : Bool := L.any (fun g => decide (8191 < g.off))
/-- Why a datagram is not split. -/
def refE (df mf : Bool) (off : Int) (opts body : List Int) (mtu : Int) : Int :=
  if wrongE off opts.length body.length mtu ≠ 0 then wrongE off opts.length body.length mtu else if fitB opts.length body.length mtu then 0 else if df then 130 else if mf && decide (body.length % 8 ≠ 0) then 1 else if farB (fragL mf off opts body mtu) then 5 else 0
theorem far_no {L : List Fg} (h : ∀ (j : Nat) (g : Fg), L[j]? = some g → g.off ≤ 8191) : farB L = false := by
  unfold farB
  rw [List.any_eq_false]
  intro g hg
  obtain ⟨j, hj⟩ := List.getElem?_of_mem hg
  have := h j g hj
  simp
  omega
theorem far_yes {L : List Fg} {k : Nat} {g : Fg} (h : L[k]? = some g) (hg : 8191 < g.off) : farB L = true := by
  unfold farB
  rw [List.any_eq_true]
  exact ⟨g, List.mem_of_getElem? h, by simpa using hg⟩
theorem blk_two (w : World) (o1 o2 : Obj) : ((w.alloc o1).alloc o2).heap[w.heap.size]? = some o1 ∧ ((w.alloc o1).alloc o2).heap[w.heap.size + 1]? = some o2 ∧ Below w.heap.size w ((w.alloc o1).alloc o2) ∧ ((w.alloc o1).alloc o2).heap.size = w.heap.size + 2 := by
  refine ⟨blk_alloc (blk_new w o1) o2, ?_, ((Below.refl w.heap.size w).alloc (Nat.le_refl _) o1).alloc (by simp) o2, by simp⟩
  have := blk_new (w.alloc o1) o2
  rwa [show (w.alloc o1).heap.size = w.heap.size + 1 by simp] at this
theorem st_err {W : World} {b j : Nat} {c : List Value} {t : TypeId} (h : W.heap[b]? = some (.cells c.toArray t)) (hj : j < c.length) (x : Int) : (Instr.storeAt 30 (.pointer (some ⟨b, j, none⟩)) (.int .i64 x)).run Try.prog W = .ok () (W.setCell ⟨b, j, none⟩ (.int .i64 x)) := by
  have h1 : W.cell? ⟨b, j, none⟩ = some (c[j]'hj) := blk_cell h (by simp)
  have h2 := blk_open h j
  simp [Instr.storeAt, go_sem, h1, h2]
theorem ld_err {W : World} {p : Addr} {x : Int} (h : W.cell? p = some (.int .i64 x)) : (loadVar 30 p).run Try.prog W = .ok (.int .i64 x) W := by
  simp [go_sem, h]

section
variable (f : Fd) (mf : Bool) (off : Int) (so sb : Value) (opts body : List Int) (mtu : Int) (w : World)
set_option maxHeartbeats 1000000 in
set_option maxRecDepth 100000 in
theorem refused_early (h1 : RowC w so opts) (h2 : RowC w sb body) (hoff : -9223372036854775808 ≤ off ∧ off ≤ 9223372036854775807) (hmt : -9223372036854775808 ≤ mtu ∧ mtu ≤ 9223372036854775807)
    (he : wrongE off opts.length body.length mtu ≠ 0 ∨ fitB opts.length body.length mtu = true ∨ f.df = true ∨ (mf = true ∧ body.length % 8 ≠ 0)) :
    Calls Try.prog 21 #[VV f mf off so sb, .int .i64 mtu] w fun e w' => e = .returned (.int .i64 (refE f.df mf off opts body mtu)) ∧ Below w.heap.size w w' := by
  have HFT : Hid (∀ W, Below w.heap.size w W → Calls Try.prog 13 #[VV f mf off so sb, .int .i64 mtu] W fun e w' => e = .returned (.tuple #[.bool (decide (wrongE off opts.length body.length mtu = 0) && fitB opts.length body.length mtu), .int .i64 (wrongE off opts.length body.length mtu)]) ∧ Below W.heap.size W w') := fun W hW => Fits_calls f mf off so sb opts body mtu W (h1.on hW) (h2.on hW) hoff hmt
  obtain ⟨hb0, hr0, hB0, _⟩ := blk_two w (BV f mf off so sb) (.cells [.int .i64 0].toArray 30)
  have HLD : Hid _ := vb_load hb0
  have HB0 : Hid _ := hb0
  have HR0 : Hid _ := hr0
  have HBB : Hid (Below w.heap.size w ((w.alloc (BV f mf off so sb)).alloc (.cells [.int .i64 0].toArray 30))) := hB0
  obtain ⟨a2, c2, hsb⟩ : ∃ a c, sb = .slice a body.length c := by obtain ⟨_, _, a, cap, e, _⟩ := h2; exact ⟨_, _, e⟩
  have HSB : Hid _ := hsb
  have hl2 := h2.len
  have q8 : (((body.length : Nat) : Int) % 8 != 0) = decide (body.length % 8 ≠ 0) := by
    by_cases h : body.length % 8 = 0
    · have : ((body.length : Nat) : Int) % 8 = 0 := by omega
      simp [h, this]
    · have : ((body.length : Nat) : Int) % 8 ≠ 0 := by omega
      simp [h, this]
  obtain ⟨rE, hrE⟩ : ∃ rE, rE = refE f.df mf off opts body mtu := ⟨_, rfl⟩
  rw [← hrE]
  unfold refE at hrE
  have hrE' : rE = if wrongE off opts.length body.length mtu ≠ 0 then wrongE off opts.length body.length mtu else if fitB opts.length body.length mtu then 0 else if f.df then 130 else 1 := by
    rw [hrE]
    rcases he with he | he | he | he
    · simp [he]
    · simp [he]
    · simp [he]
    · simp [he.1, he.2]
  have HE : Hid (rE = if wrongE off opts.length body.length mtu ≠ 0 then wrongE off opts.length body.length mtu else if fitB opts.length body.length mtu then 0 else if f.df then 130 else 1) := hrE'
  clear hb0 hr0 hB0 h1 h2 hsb hrE hrE'
  generalize wrongE off opts.length body.length mtu = wE at *
  generalize fitB opts.length body.length mtu = fB at *
  generalize hnb : body.length = nb at *
  generalize hx8 : decide (nb % 8 ≠ 0) = x8 at *
  have he' : wE ≠ 0 ∨ fB = true ∨ f.df = true ∨ (mf = true ∧ x8 = true) := by
    rcases he with h | h | h | h
    · exact .inl h
    · exact .inr (.inl h)
    · exact .inr (.inr (.inl h))
    · exact .inr (.inr (.inr ⟨h.1, by rw [← hx8]; simpa using h.2⟩))
  have HDF : Hid (∀ W : World, W.heap[w.heap.size]? = some (BV f mf off so sb) → W.cell? ⟨w.heap.size, 2, none⟩ = some (.bool f.df) ∧ W.cell? ⟨w.heap.size, 3, none⟩ = some (.bool mf) ∧ W.cell? ⟨w.heap.size, 16, none⟩ = some (.slice a2 nb c2)) := fun W hW => ⟨vb2 hW, vb3 hW, by rw [vb16 hW, HSB.out]⟩
  generalize f.df = df at *
  clear hnb hx8 he
  have HFIN : Hid (∀ (W : World), W.heap[w.heap.size + 1]? = some (.cells [.int .i64 0].toArray 30) → Below w.heap.size w W → ∀ x : Int, (W.setCell ⟨w.heap.size + 1, 0, none⟩ (.int .i64 x)).cell? ⟨w.heap.size + 1, 0, none⟩ = some (.int .i64 x) ∧ Below w.heap.size w (W.setCell ⟨w.heap.size + 1, 0, none⟩ (.int .i64 x))) := fun W hW hB x => ⟨blk_cell (c := [.int .i64 x]) (blk_set hW 0 (.int .i64 x)) rfl, hB.setCell (p := ⟨w.heap.size + 1, 0, none⟩) (by simp) _⟩
  go_enter Try.func21, Try.ntmps21
  go_wp2_with ((with_reducible show wpList _ _ _ _ _ _); refine armL (.tmp 2) 27 rfl rfl rfl HLD.out ?_)
  refine Calls.mono (HFT.out _ HBB.out) ?_
  rintro e w2 ⟨rfl, hb2⟩
  have HB2 : Hid (Below w.heap.size w w2) := HBB.out.trans (hb2.mono HBB.out.size)
  have hk2 := blk_on HB0.out hb2
  have hr2 := blk_on HR0.out hb2
  obtain ⟨d2, d3, d16⟩ := HDF.out w2 hk2
  have r0 := blk_cell hr2 (j := 0) rfl
  have rf := blk_open hr2 0
  have HR2 : Hid _ := hr2
  clear hb2 hk2 hr2 HB0 HR0 HLD HFT HDF
  by_cases hw : wE = 0
  · subst hw
    have e0 : (decide ((0 : Int) = 0) && fB) = fB := by simp
    rw [e0]
    cases fB
    · cases df
      · obtain ⟨rfl, rfl⟩ : mf = true ∧ x8 = true := by simpa using he'
        obtain rfl : rE = 1 := by rw [HE.out]; simp
        clear he' HE e0
        go_wp2
        exact bodyPost_ret (res1t rfl rfl (ld_err (HFIN.out w2 HR2.out HB2.out 1).1)) rfl ⟨rfl, (HFIN.out w2 HR2.out HB2.out 1).2⟩
      · obtain rfl : rE = 130 := by rw [HE.out]; simp
        clear he' HE e0
        go_wp2
        exact bodyPost_ret (res1t rfl rfl (ld_err (HFIN.out w2 HR2.out HB2.out 130).1)) rfl ⟨rfl, (HFIN.out w2 HR2.out HB2.out 130).2⟩
    · obtain rfl : rE = 0 := by rw [HE.out]; simp
      clear he' HE e0
      go_wp2
      exact bodyPost_ret (res1t rfl rfl (ld_err (HFIN.out w2 HR2.out HB2.out 0).1)) rfl ⟨rfl, (HFIN.out w2 HR2.out HB2.out 0).2⟩
  · obtain rfl : rE = wE := by rw [HE.out]; simp [hw]
    have e0 : (decide (rE = 0) && fB) = false := by simp [hw]
    rw [e0]
    have q1 : (rE != 0) = true := by simpa using hw
    clear he' HE e0 hw
    go_wp2
    exact bodyPost_ret (res1t rfl rfl (ld_err (HFIN.out w2 HR2.out HB2.out rE).1)) rfl ⟨rfl, (HFIN.out w2 HR2.out HB2.out rE).2⟩
end

end Go.Proofs.Ytackllcfnlhkpaa
