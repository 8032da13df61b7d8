/-
  addFront of package ipv6.
-/
import Derived.Test.YtbaeogoojpngbaaY3
namespace Go.Proofs.Ytbaeogoojpngbaa
open Go Go.RowKit
set_option linter.unusedVariables false
set_option linter.unusedSimpArgs false

theorem ld_u8 {W : World} {p : Addr} {x : Int} (h : W.cell? p = some (.int .u8 x)) : (Instr.loadAt 5 (.pointer (some p))).run Try.prog W = .ok (.int .u8 x) W := by
  simp [Instr.loadAt, go_sem, h]
theorem OptsAt.up {n : Nat} {w X : World} {v : Value} {hs : Opts} (h : OptsAt n w v hs) (hb : Below n w X) (hn : n ≤ X.heap.size) : OptsAt X.heap.size X v hs := by
  obtain ⟨h1, h2, a, cap, e, hz⟩ := h
  refine ⟨h1, h2, a, cap, e, hz.imp id ?_⟩
  rintro ⟨b, off, rfl, hlt, hc⟩
  refine ⟨b, off, rfl, by omega, fun j hj => ?_⟩
  obtain ⟨c0, s, c1, hs'⟩ := hc j hj
  have hs2 := hs'.below hb
  obtain ⟨f1, f2, a2, cap2, e2, hz2⟩ := hs2
  refine ⟨(hb.cell (p := ⟨b, off + j * 2, none⟩) hlt).trans c0, s, (hb.cell (p := ⟨b, off + j * 2 + 1, none⟩) hlt).trans c1, ⟨f1, f2, a2, cap2, e2, hz2.imp id ?_⟩⟩
  rintro ⟨b2, o2, rfl, hl2, hc2⟩
  exact ⟨b2, o2, rfl, by omega, hc2⟩

theorem wp_valA {P : Program} {o : Oper} {a : Act} {d : Option Nat} {w w2 : World} {K : Act → World → Prop} {Q : Exit → Act → World → Prop} (hd : o.dst = d) {v : Value} (hrun : (execOp a.eval o).run P w = .ok (.value v) w2) (hK : K (a.put d v) w2) : o.wp P a w K Q := by
  subst hd
  unfold Oper.wp
  rw [hrun]
  exact hK
theorem or_first (cls lab : Int) (h1 : 0 ≤ cls ∧ cls < 256) (h2 : 0 ≤ lab ∧ lab ≤ 1048575) : bits .or .u32 1610612736 (cls * 1048576) = 1610612736 + cls * 1048576 ∧ bits .or .u32 (1610612736 + cls * 1048576) lab = 1610612736 + cls * 1048576 + lab := by
  obtain ⟨a, rfl⟩ := Int.eq_ofNat_of_zero_le h1.1
  obtain ⟨b, rfl⟩ := Int.eq_ofNat_of_zero_le h2.1
  constructor
  · rw [show ((a : Int) * 1048576) = ((a * 1048576 : Nat) : Int) by omega, show (1610612736 : Int) = ((1610612736 : Nat) : Int) from rfl, u32_or_nat _ _ (by omega) (by omega), show (1610612736 : Nat) = 2 ^ 28 * 6 from rfl, Nat.or_comm, or_hi (a * 1048576) 6 28 (by omega)]
    omega
  · rw [show (1610612736 + (a : Int) * 1048576) = ((1610612736 + a * 1048576 : Nat) : Int) by omega, u32_or_nat _ _ (by omega) (by omega), show 1610612736 + a * 1048576 = 2 ^ 20 * (1536 + a) by omega, Nat.or_comm, or_hi b (1536 + a) 20 (by omega)]
    omega
/-- Both addresses of a box, as bytes. -/
theorem src_bytes {W : World} {b : Nat} {f : F6} {g : G6} {vh vb : Value} {A : List Int} (h : W.heap[b]? = some (BV f g vh vb)) (e : f.ad = u8L A) (hf : Fit A) : A.length = 32 ∧ BytesAt W.heap.size W (.slice (some ⟨b, 3, none⟩) 16 16) (A.take 16) ∧ BytesAt W.heap.size W (.slice (some ⟨b, 19, none⟩) 16 16) (A.drop 16) := by
  have hl : A.length = 32 := by have := f.len; rw [e] at this; simpa [u8L] using this
  have hb := (Array.getElem?_eq_some_iff.1 h).1
  have hc : ∀ j, j < 32 → W.cell? ⟨b, 3 + j, none⟩ = some (.int .u8 (A[j]?.getD 0)) := fun j hj => by
    refine blk_cell h ?_
    unfold vC
    rw [show 3 + j = j + 3 by omega]
    simp only [List.getElem?_cons_succ]
    rw [List.getElem?_append_left (by rw [f.len]; exact hj), e]
    unfold u8L
    rw [List.getElem?_map, List.getElem?_eq_getElem (by omega)]
    rfl
  refine ⟨hl, ⟨fun z hz => hf z (List.mem_of_mem_take hz), by rw [List.length_take]; omega, _, 16, by rw [List.length_take, hl]; rfl, .inr ⟨b, 3, rfl, hb, fun j hj => ?_⟩⟩, ⟨fun z hz => hf z (List.mem_of_mem_drop hz), by rw [List.length_drop]; omega, _, 16, by rw [List.length_drop, hl], .inr ⟨b, 19, rfl, hb, fun j hj => ?_⟩⟩⟩
  · rw [List.length_take] at hj
    rw [hc j (by omega), List.getElem?_take_of_lt (by omega)]
  · rw [List.length_drop] at hj
    rw [show 19 + j = 3 + (16 + j) by omega, hc (16 + j) (by omega), List.getElem?_drop]
section
variable {f : F6} {g : G6} {vh vb : Value} {hs : Opts} {A : List Int}
set_option maxHeartbeats 4000000 in
set_option maxRecDepth 100000 in
theorem addFront_calls {base : Nat} {w W : World} {v : Value} (h : OB base w W v []) (hsz : base ≤ W.heap.size) (h1 : vh.oneCell' = true) (h2 : vb.oneCell' = true) (hh : OptsAt base w vh hs) (he : f.ad = u8L A) (hf : Fit A)
    (hc : 0 ≤ f.cls ∧ f.cls < 256) (hl : 0 ≤ f.lab ∧ f.lab ≤ 1048575) (hp : 0 ≤ f.hop ∧ f.hop < 256) (hx : 0 ≤ nx6 hs g.fr f.proto 0 ∧ nx6 hs g.fr f.proto 0 < 256) (n : Nat) (hn : n ≤ 65535) :
    Calls Try.prog 21 #[v, VV f g vh vb, .int .i64 n] W fun e w' => ∃ v', e = .returned v' ∧ OB base w w' v' (frontL f A (nx6 hs g.fr f.proto 0) n) ∧ base ≤ w'.heap.size ∧ Keep W w' := by
  obtain ⟨W0, hW0⟩ : ∃ W0, W0 = W.alloc (BV f g vh vb) := ⟨_, rfl⟩
  have hb0 : W0.heap[W.heap.size]? = some (BV f g vh vb) := by rw [hW0]; exact blk_new W _
  have hB0 : Below W.heap.size W W0 := by rw [hW0]; exact (Below.refl W.heap.size W).alloc (Nat.le_refl _) _
  have h0 := h.below hsz hB0
  have hs0 : base ≤ W0.heap.size := Nat.le_trans hsz hB0.size
  obtain ⟨q1, q2⟩ := or_first f.cls f.lab hc hl
  obtain ⟨N, hN⟩ : ∃ N : Int, 1610612736 + f.cls * 1048576 + f.lab = N := ⟨_, rfl⟩
  have HAL : Hid _ := addLong_calls h0 hs0 N (by omega) (by simp)
  have k0 := blk_cell (j := 0) hb0 rfl
  have k1 := blk_cell (j := 1) hb0 rfl
  rw [hN] at q2
  have HEQ : Hid ([] ++ [N / 16777216, N / 65536 % 256, N / 256 % 256, N % 256] ++ [(n : Int) / 256, (n : Int) % 256] ++ [nx6 hs g.fr f.proto 0, f.hop] ++ A.take 16 ++ A.drop 16 = frontL f A (nx6 hs g.fr f.proto 0) n) := by
    show [] ++ [N / 16777216, N / 65536 % 256, N / 256 % 256, N % 256] ++ [(n : Int) / 256, (n : Int) % 256] ++ [nx6 hs g.fr f.proto 0, f.hop] ++ A.take 16 ++ A.drop 16 = frontL f A (nx6 hs g.fr f.proto 0) n
    have e1 : N / 16777216 = 96 + f.cls / 16 := by omega
    have e2 : N / 65536 % 256 = f.cls % 16 * 16 + f.lab / 65536 := by omega
    have e3 : N / 256 % 256 = f.lab / 256 % 256 := by omega
    have e4 : N % 256 = f.lab % 256 := by omega
    rw [e1, e2, e3, e4, List.append_assoc, List.take_append_drop]
    simp [frontL]
  have HB0 : Hid (W0.heap[W.heap.size]? = some (BV f g vh vb)) := hb0
  have HK0 : Hid (Keep W W0) := Keep.below hB0
  have HNX : Hid (∀ X, Below base w X → base ≤ X.heap.size → Calls Try.prog 22 #[VV f g vh vb, .int .i64 0] X fun e w' => e = .returned (.int .u8 (nx6 hs g.fr f.proto 0)) ∧ Below X.heap.size X w') := fun X hX hXs => by
    have := next_calls X (vC_l6 (f := f) (g := g) h1 h2) hs (OptsAt.up hh hX hXs) 0
    exact this
  have v19 : ((n : Nat) : Int) % 65536 = (n : Int) := by omega
  have sh1 : f.cls * 1048576 % 4294967296 = f.cls * 1048576 := by omega
  have HE : Hid (f.ad = u8L A ∧ Fit A) := ⟨he, hf⟩
  have hW := hW0.symm
  clear hb0 hB0 h0 h hW0 hN hh he hf
  generalize hnx : nx6 hs g.fr f.proto 0 = NX at *
  clear hnx
  go_enter Try.func21, Try.ntmps21
  go_wp2_with fail
  refine Calls.mono HAL.out ?_
  rintro e w1 ⟨v1, rfl, ho1, hs1, hk1⟩
  have HAW : Hid _ := addWord_calls ho1 hs1 n (by omega) (by simp)
  have HK1 : Hid (Keep W0 w1) := hk1
  clear ho1 hk1 HAL k0 k1 q1 q2 sh1
  go_wp2_with fail
  refine Calls.mono HAW.out ?_
  rintro e w2 ⟨v2, rfl, ho2, hs2, hk2⟩
  have HK2 : Hid (Keep W0 w2) := HK1.out.trans hk2
  have HO2 : Hid _ := ho2
  clear hk2 HAW HK1 v19
  obtain ⟨zs, hzs⟩ : ∃ zs, [] ++ [N / 16777216, N / 65536 % 256, N / 256 % 256, N % 256] ++ [(n : Int) / 256, (n : Int) % 256] = zs := ⟨_, rfl⟩
  rw [hzs] at HEQ ho2
  have hzl : zs.length = 6 := by rw [← hzs]; rfl
  have HO : Hid (OB base w w2 v2 zs) := ho2
  clear HO2 ho2 hzs
  go_wp2_with fail
  refine region_mid (fun a0 a' w' => ∃ v3 x26, a' = ((((((((a0.put (some 21) (v2)).put (some 22) (VV f g vh vb)).put (some 24) (.pointer (some ⟨W.heap.size, 2, none⟩))).put (some 25) (.int .u8 f.hop)).put (some 23) (.int .u8 NX)).put (some 26) (.slice (some ⟨x26, 0, none⟩) 2 2)).put (some 27) (v3)).put (some 0) (v3)) ∧ OB base w w' v3 (zs ++ [NX, f.hop]) ∧ base ≤ w'.heap.size ∧ Keep W0 w') ?_ ?_
  · skip
    refine wp_region_held (S := fun X => X.heap[W.heap.size]? = some (BV f g vh vb)) (by kernel_rfl) ?_
    show wpAnyH _ _ _ _ _ 8 (Array.replicate 8 false) _ _
    have hs0 : w2.drew.heap[W.heap.size]? = some (BV f g vh vb) := HK2.out _ _ _ _ (by decide) HB0.out
    refine take_one (i := 0) (d := some 21) (v := v2) rfl rfl rfl (by kernel_rfl) (by kernel_rfl) (by kernel_rfl) (fun _ _ _ _ _ h => h.elim) (fun W hS => by kernel_rfl) hs0 ?_
    simp only [Act.put, List.setIfInBounds_toArray, List.set_cons_zero, List.set_cons_succ]
    refine take_one (i := 1) (d := some 22) (v := VV f g vh vb) rfl rfl rfl (by kernel_rfl) (by kernel_rfl) (by kernel_rfl) (fun _ _ _ _ _ h => h.elim) (fun W hS => ex_loadA (.tmp 4) 28 rfl rfl (vb_load hS)) hs0 ?_
    simp only [Act.put, List.setIfInBounds_toArray, List.set_cons_zero, List.set_cons_succ]
    refine take_one (i := 3) (d := some 24) (v := .pointer (some ⟨W.heap.size, 2, none⟩)) rfl rfl rfl (by kernel_rfl) (by kernel_rfl) (by kernel_rfl) (fun _ _ _ _ _ h => h.elim) (fun W hS => by kernel_rfl) hs0 ?_
    simp only [Act.put, List.setIfInBounds_toArray, List.set_cons_zero, List.set_cons_succ]
    refine take_one (i := 4) (d := some 25) (v := .int .u8 f.hop) rfl rfl rfl (by kernel_rfl) (by kernel_rfl) (by kernel_rfl) (fun _ _ _ _ _ h => h.elim) (fun W hS => ex_loadA (.tmp 24) 5 rfl rfl (ld_u8 (blk_cell (j := 2) hS rfl))) hs0 ?_
    simp only [Act.put, List.setIfInBounds_toArray, List.set_cons_zero, List.set_cons_succ]
    refine all_one (i := 2) (by kernel_rfl) rfl rfl ?_
    have hBd : Below w2.heap.size w2 w2.drew := (Below.refl _ w2).drew
    refine wp_call (d := some 23) (R := fun v X => v = .int .u8 NX ∧ Below w2.drew.heap.size w2.drew X) 22 _ rfl (by kernel_rfl) ((HNX.out _ (HO.out.bel.trans (hBd.mono hs2)) (Nat.le_trans hs2 hBd.size)).mono (fun e w' hx => ⟨_, hx.1, rfl, hx.2⟩)) ?_
    rintro u X1 ⟨rfl, hbX⟩
    have hX1 : Below w2.heap.size w2 X1 := hBd.trans (hbX.mono hBd.size)
    have hv1 := blk_on hs0 hbX
    refine ⟨hv1, ?_⟩
    simp only [Act.put, List.setIfInBounds_toArray, List.set_cons_zero, List.set_cons_succ]
    refine all_one (i := 5) (by kernel_rfl) rfl rfl ?_
    have hoX := HO.out.below hs2 hX1
    obtain ⟨v3, w3, hr3, ho3, hs3, hk3⟩ := hoX.lit (Nat.le_trans hs2 hX1.size) [NX, f.hop] #[.int .u8 NX, .int .u8 f.hop] rfl (fun z hz => by simp at hz; omega) (by simp; omega) 2 rfl 26
    refine wp_valA (d := some 26) rfl (v := .slice (some ⟨X1.heap.size, 0, none⟩) 2 2) (w2 := X1.alloc (.cells #[.int .u8 NX, .int .u8 f.hop] 5)) (by kernel_rfl) ⟨blk_alloc hv1 _, ?_⟩
    simp only [Act.put, List.setIfInBounds_toArray, List.set_cons_zero, List.set_cons_succ]
    refine all_one (i := 6) (by kernel_rfl) rfl rfl ?_
    refine wp_append (d := some 27) (.tmp 21) (.tmp 26) 26 rfl rfl rfl rfl hr3 ⟨hk3 _ _ _ _ (by decide) hv1, ?_⟩
    simp only [Act.put, List.setIfInBounds_toArray, List.set_cons_zero, List.set_cons_succ]
    refine take_one (i := 7) (d := some 0) (v := v3) rfl rfl rfl (by kernel_rfl) (by kernel_rfl) (by kernel_rfl) (fun _ _ _ _ _ h => h.elim) (fun W hS => by kernel_rfl) (hk3 _ _ _ _ (by decide) hv1) ?_
    simp only [Act.put, List.setIfInBounds_toArray, List.set_cons_zero, List.set_cons_succ]
    refine wpAnyH_done (by kernel_rfl) ?_ _
    exact ⟨v3, X1.heap.size, rfl, ho3, hs3, HK2.out.trans ((Keep.below hX1).trans hk3)⟩
  · rintro a' w3 ⟨v3, x26, rfl, ho3, hs3, hk3⟩
    simp only [Act.put, List.setIfInBounds_toArray, List.set_cons_zero, List.set_cons_succ]
    have hv3 := hk3 _ _ _ _ (by decide) HB0.out
    obtain ⟨hAl, hsrc, _⟩ := src_bytes hv3 HE.out.1 HE.out.2
    obtain ⟨v4, w4, hr4, ho4, hs4, hk4⟩ := ho3.app hs3 hsrc (by simp; omega) 26
    have hv4 := hk4 _ _ _ _ (by decide) hv3
    obtain ⟨_, _, hdst⟩ := src_bytes hv4 HE.out.1 HE.out.2
    obtain ⟨v5, w5, hr5, ho5, hs5, hk5⟩ := ho4.app hs4 hdst (by simp; omega) 26
    have HR4 : Hid _ := hr4
    have HR5 : Hid _ := hr5
    rw [HEQ.out] at ho5
    have HO5 : Hid (OB base w w5 v5 (frontL f A NX n)) := ho5
    have HK5 : Hid (Keep W w5) := (HK0.out.trans hk3).trans (hk4.trans hk5)
    clear ho3 hk3 hv3 hsrc hr4 ho4 hs4 hk4 hv4 hdst hr5 ho5 hk5
    go_wp2_with first
      | (at_builtin; refine wpList_append_run rfl _ _ _ _ rfl rfl rfl HR4.out ?_; clear HR4)
      | (at_builtin; refine wpList_append_run rfl _ _ _ _ rfl rfl rfl HR5.out ?_; clear HR5)
    go_ret
    exact ⟨v5, rfl, HO5.out, hs5, HK5.out⟩
end

end Go.Proofs.Ytbaeogoojpngbaa
