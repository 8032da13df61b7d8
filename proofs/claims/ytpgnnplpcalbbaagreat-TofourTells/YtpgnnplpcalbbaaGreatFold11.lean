/-
  addFront of package ipv6.
  Write of package ipv6.
  The document's Write of IPv6.
-/
import Derived.Test.YtpgnnplpcalbbaaGreatFold10
import Derived.BigQuiet
set_option linter.unusedVariables false
set_option linter.unusedSimpArgs false
namespace Go.Proofs.YtpgnnplpcalbbaaGreat.V6
open Go Go.RowKit
theorem ld_u8 {W : World} {p : Addr} {x : Int} (h : W.cell? p = some (.int .u8 x)) : (Instr.loadAt 5 (.pointer (some p))).run Tryz.prog W = .ok (.int .u8 x) W := by
  simp [Instr.loadAt, go_sem, h]
theorem OptsAt.up {n : Nat} {w X : World} {v : Value} {hs : Opts} (h : OptsAt n w v hs) (hb : Below n w X) (hn : n ≤ X.heap.size) : OptsAt X.heap.size X v hs := by
  obtain ⟨h1, h2, a, cap, e, hz⟩ := h
  refine ⟨h1, h2, a, cap, e, hz.imp id ?_⟩
  rintro ⟨b, off, rfl, hlt, hc⟩
  refine ⟨b, off, rfl, by omega, fun j hj => ?_⟩
  obtain ⟨c0, s, c1, hs'⟩ := hc j hj
  have hs2 := hs'.below hb
  obtain ⟨f1, f2, a2, cap2, e2, hz2⟩ := hs2
  refine ⟨(hb.cell (p := ⟨b, off + j * 2, none⟩) hlt).trans c0, s, (hb.cell (p := ⟨b, off + j * 2 + 1, none⟩) hlt).trans c1, ⟨f1, f2, a2, cap2, e2, hz2.imp id ?_⟩⟩
  rintro ⟨b2, o2, rfl, hl2, hc2⟩
  exact ⟨b2, o2, rfl, by omega, hc2⟩
theorem wp_valA {P : Program} {o : Oper} {a : Act} {d : Option Nat} {w w2 : World} {K : Act → World → Prop} {Q : Exit → Act → World → Prop} (hd : o.dst = d) {v : Value} (hrun : (execOp a.eval o).run P w = .ok (.value v) w2) (hK : K (a.put d v) w2) : o.wp P a w K Q := by
  subst hd
  unfold Oper.wp
  rw [hrun]
  exact hK
theorem or_first (cls lab : Int) (h1 : 0 ≤ cls ∧ cls < 256) (h2 : 0 ≤ lab ∧ lab ≤ 1048575) : bits .or .u32 1610612736 (cls * 1048576) = 1610612736 + cls * 1048576 ∧ bits .or .u32 (1610612736 + cls * 1048576) lab = 1610612736 + cls * 1048576 + lab := by
  obtain ⟨a, rfl⟩ := Int.eq_ofNat_of_zero_le h1.1
  obtain ⟨b, rfl⟩ := Int.eq_ofNat_of_zero_le h2.1
  constructor
  · rw [show ((a : Int) * 1048576) = ((a * 1048576 : Nat) : Int) by omega, show (1610612736 : Int) = ((1610612736 : Nat) : Int) from rfl, u32_or_nat _ _ (by omega) (by omega), show (1610612736 : Nat) = 2 ^ 28 * 6 from rfl, Nat.or_comm, or_hi (a * 1048576) 6 28 (by omega)]
    omega
  · rw [show (1610612736 + (a : Int) * 1048576) = ((1610612736 + a * 1048576 : Nat) : Int) by omega, u32_or_nat _ _ (by omega) (by omega), show 1610612736 + a * 1048576 = 2 ^ 20 * (1536 + a) by omega, Nat.or_comm, or_hi b (1536 + a) 20 (by omega)]
    omega
/-- Both addresses of a box, as bytes. -/
theorem src_bytes {W : World} {b : Nat} {f : F6} {g : G6} {vh vb : Value} {A : List Int} (h : W.heap[b]? = some (BV f g vh vb)) (e : f.ad = u8L A) (hf : Fit A) : A.length = 32 ∧ BytesAt W.heap.size W (.slice (some ⟨b, 3, none⟩) 16 16) (A.take 16) ∧ BytesAt W.heap.size W (.slice (some ⟨b, 19, none⟩) 16 16) (A.drop 16) := by
  have hl : A.length = 32 := by have := f.len; rw [e] at this; simpa [u8L] using this
  have hb := (Array.getElem?_eq_some_iff.1 h).1
  have hc : ∀ j, j < 32 → W.cell? ⟨b, 3 + j, none⟩ = some (.int .u8 (A[j]?.getD 0)) := fun j hj => by
    refine blk_cell h ?_
    unfold vC
    rw [show 3 + j = j + 3 by omega]
    simp only [List.getElem?_cons_succ]
    rw [List.getElem?_append_left (by rw [f.len]; exact hj), e]
    unfold u8L
    rw [List.getElem?_map, List.getElem?_eq_getElem (by omega)]
    rfl
  refine ⟨hl, ⟨fun z hz => hf z (List.mem_of_mem_take hz), by rw [List.length_take]; omega, _, 16, by rw [List.length_take, hl]; rfl, .inr ⟨b, 3, rfl, hb, fun j hj => ?_⟩⟩, ⟨fun z hz => hf z (List.mem_of_mem_drop hz), by rw [List.length_drop]; omega, _, 16, by rw [List.length_drop, hl], .inr ⟨b, 19, rfl, hb, fun j hj => ?_⟩⟩⟩
  · rw [List.length_take] at hj
    rw [hc j (by omega), List.getElem?_take_of_lt (by omega)]
  · rw [List.length_drop] at hj
    rw [show 19 + j = 3 + (16 + j) by omega, hc (16 + j) (by omega), List.getElem?_drop]
section
variable {f : F6} {g : G6} {vh vb : Value} {hs : Opts} {A : List Int}
set_option maxHeartbeats 4000000 in
set_option maxRecDepth 100000 in
theorem addFront_calls {base : Nat} {w W : World} {v : Value} (h : OB base w W v []) (hsz : base ≤ W.heap.size) (h1 : vh.oneCell' = true) (h2 : vb.oneCell' = true) (hh : OptsAt base w vh hs) (he : f.ad = u8L A) (hf : Fit A)
    (hc : 0 ≤ f.cls ∧ f.cls < 256) (hl : 0 ≤ f.lab ∧ f.lab ≤ 1048575) (hp : 0 ≤ f.hop ∧ f.hop < 256) (hx : 0 ≤ nx6 hs g.fr f.proto 0 ∧ nx6 hs g.fr f.proto 0 < 256) (n : Nat) (hn : n ≤ 65535) :
    Calls Tryz.prog 212 #[v, VV f g vh vb, .int .i64 n] W fun e w' => ∃ v', e = .returned v' ∧ OB base w w' v' (frontL f A (nx6 hs g.fr f.proto 0) n) ∧ base ≤ w'.heap.size ∧ Keep W w' := by
  obtain ⟨W0, hW0⟩ : ∃ W0, W0 = W.alloc (BV f g vh vb) := ⟨_, rfl⟩
  have hb0 : W0.heap[W.heap.size]? = some (BV f g vh vb) := by rw [hW0]; exact blk_new W _
  have hB0 : Below W.heap.size W W0 := by rw [hW0]; exact (Below.refl W.heap.size W).alloc (Nat.le_refl _) _
  have h0 := h.below hsz hB0
  have hs0 : base ≤ W0.heap.size := Nat.le_trans hsz hB0.size
  obtain ⟨q1, q2⟩ := or_first f.cls f.lab hc hl
  obtain ⟨N, hN⟩ : ∃ N : Int, 1610612736 + f.cls * 1048576 + f.lab = N := ⟨_, rfl⟩
  have HAL : Hid _ := addLong_calls h0 hs0 N (by omega) (by simp)
  have k0 := blk_cell (j := 0) hb0 rfl
  have k1 := blk_cell (j := 1) hb0 rfl
  rw [hN] at q2
  have HEQ : Hid ([] ++ [N / 16777216, N / 65536 % 256, N / 256 % 256, N % 256] ++ [(n : Int) / 256, (n : Int) % 256] ++ [nx6 hs g.fr f.proto 0, f.hop] ++ A.take 16 ++ A.drop 16 = frontL f A (nx6 hs g.fr f.proto 0) n) := by
    show [] ++ [N / 16777216, N / 65536 % 256, N / 256 % 256, N % 256] ++ [(n : Int) / 256, (n : Int) % 256] ++ [nx6 hs g.fr f.proto 0, f.hop] ++ A.take 16 ++ A.drop 16 = frontL f A (nx6 hs g.fr f.proto 0) n
    have e1 : N / 16777216 = 96 + f.cls / 16 := by omega
    have e2 : N / 65536 % 256 = f.cls % 16 * 16 + f.lab / 65536 := by omega
    have e3 : N / 256 % 256 = f.lab / 256 % 256 := by omega
    have e4 : N % 256 = f.lab % 256 := by omega
    rw [e1, e2, e3, e4, List.append_assoc, List.take_append_drop]
    simp [frontL]
  have HB0 : Hid (W0.heap[W.heap.size]? = some (BV f g vh vb)) := hb0
  have HK0 : Hid (Keep W W0) := Keep.below hB0
  have HNX : Hid (∀ X, Below base w X → base ≤ X.heap.size → Calls Tryz.prog 213 #[VV f g vh vb, .int .i64 0] X fun e w' => e = .returned (.int .u8 (nx6 hs g.fr f.proto 0)) ∧ Below X.heap.size X w') := fun X hX hXs => by
    have := next_calls X (vC_l6 (f := f) (g := g) h1 h2) hs (OptsAt.up hh hX hXs) 0
    exact this
  have v19 : ((n : Nat) : Int) % 65536 = (n : Int) := by omega
  have sh1 : f.cls * 1048576 % 4294967296 = f.cls * 1048576 := by omega
  have HE : Hid (f.ad = u8L A ∧ Fit A) := ⟨he, hf⟩
  have hW := hW0.symm
  clear hb0 hB0 h0 h hW0 hN hh he hf
  generalize hnx : nx6 hs g.fr f.proto 0 = NX at *
  clear hnx
  go_enter Tryz.func212, Tryz.ntmps212
  go_wp2_with fail
  refine Calls.mono HAL.out ?_
  rintro e w1 ⟨v1, rfl, ho1, hs1, hk1⟩
  have HAW : Hid _ := addWord_calls ho1 hs1 n (by omega) (by simp)
  have HK1 : Hid (Keep W0 w1) := hk1
  clear ho1 hk1 HAL k0 k1 q1 q2 sh1
  go_wp2_with fail
  refine Calls.mono HAW.out ?_
  rintro e w2 ⟨v2, rfl, ho2, hs2, hk2⟩
  have HK2 : Hid (Keep W0 w2) := HK1.out.trans hk2
  have HO2 : Hid _ := ho2
  clear hk2 HAW HK1 v19
  obtain ⟨zs, hzs⟩ : ∃ zs, [] ++ [N / 16777216, N / 65536 % 256, N / 256 % 256, N % 256] ++ [(n : Int) / 256, (n : Int) % 256] = zs := ⟨_, rfl⟩
  rw [hzs] at HEQ ho2
  have hzl : zs.length = 6 := by rw [← hzs]; rfl
  have HO : Hid (OB base w w2 v2 zs) := ho2
  clear HO2 ho2 hzs
  go_wp2_with fail
  refine region_mid (fun a0 a' w' => ∃ v3 x26, a' = ((((((((a0.put (some 21) (v2)).put (some 22) (VV f g vh vb)).put (some 24) (.pointer (some ⟨W.heap.size, 2, none⟩))).put (some 25) (.int .u8 f.hop)).put (some 23) (.int .u8 NX)).put (some 26) (.slice (some ⟨x26, 0, none⟩) 2 2)).put (some 27) (v3)).put (some 0) (v3)) ∧ OB base w w' v3 (zs ++ [NX, f.hop]) ∧ base ≤ w'.heap.size ∧ Keep W0 w') ?_ ?_
  · skip
    refine wp_region_held (S := fun X => X.heap[W.heap.size]? = some (BV f g vh vb)) (by kernel_rfl) ?_
    show wpAnyH _ _ _ _ _ 8 (Array.replicate 8 false) _ _
    have hs0 : w2.drew.heap[W.heap.size]? = some (BV f g vh vb) := HK2.out _ _ _ _ (by decide) HB0.out
    refine take_one (i := 0) (d := some 21) (v := v2) rfl rfl rfl (by kernel_rfl) (by kernel_rfl) (by kernel_rfl) (fun _ _ _ _ _ h => h.elim) (fun W hS => by kernel_rfl) hs0 ?_
    simp only [Act.put, List.setIfInBounds_toArray, List.set_cons_zero, List.set_cons_succ]
    refine take_one (i := 1) (d := some 22) (v := VV f g vh vb) rfl rfl rfl (by kernel_rfl) (by kernel_rfl) (by kernel_rfl) (fun _ _ _ _ _ h => h.elim) (fun W hS => ex_loadA (.tmp 4) 36 rfl rfl (vb_load hS)) hs0 ?_
    simp only [Act.put, List.setIfInBounds_toArray, List.set_cons_zero, List.set_cons_succ]
    refine take_one (i := 3) (d := some 24) (v := .pointer (some ⟨W.heap.size, 2, none⟩)) rfl rfl rfl (by kernel_rfl) (by kernel_rfl) (by kernel_rfl) (fun _ _ _ _ _ h => h.elim) (fun W hS => by kernel_rfl) hs0 ?_
    simp only [Act.put, List.setIfInBounds_toArray, List.set_cons_zero, List.set_cons_succ]
    refine take_one (i := 4) (d := some 25) (v := .int .u8 f.hop) rfl rfl rfl (by kernel_rfl) (by kernel_rfl) (by kernel_rfl) (fun _ _ _ _ _ h => h.elim) (fun W hS => ex_loadA (.tmp 24) 5 rfl rfl (ld_u8 (blk_cell (j := 2) hS rfl))) hs0 ?_
    simp only [Act.put, List.setIfInBounds_toArray, List.set_cons_zero, List.set_cons_succ]
    refine all_one (i := 2) (by kernel_rfl) rfl rfl ?_
    have hBd : Below w2.heap.size w2 w2.drew := (Below.refl _ w2).drew
    refine wp_call (d := some 23) (R := fun v X => v = .int .u8 NX ∧ Below w2.drew.heap.size w2.drew X) 213 _ rfl (by kernel_rfl) ((HNX.out _ (HO.out.bel.trans (hBd.mono hs2)) (Nat.le_trans hs2 hBd.size)).mono (fun e w' hx => ⟨_, hx.1, rfl, hx.2⟩)) ?_
    rintro u X1 ⟨rfl, hbX⟩
    have hX1 : Below w2.heap.size w2 X1 := hBd.trans (hbX.mono hBd.size)
    have hv1 := blk_on hs0 hbX
    refine ⟨hv1, ?_⟩
    simp only [Act.put, List.setIfInBounds_toArray, List.set_cons_zero, List.set_cons_succ]
    refine all_one (i := 5) (by kernel_rfl) rfl rfl ?_
    have hoX := HO.out.below hs2 hX1
    obtain ⟨v3, w3, hr3, ho3, hs3, hk3⟩ := hoX.lit (Nat.le_trans hs2 hX1.size) [NX, f.hop] #[.int .u8 NX, .int .u8 f.hop] rfl (fun z hz => by simp at hz; omega) (by simp; omega) 2 rfl 25
    refine wp_valA (d := some 26) rfl (v := .slice (some ⟨X1.heap.size, 0, none⟩) 2 2) (w2 := X1.alloc (.cells #[.int .u8 NX, .int .u8 f.hop] 5)) (by kernel_rfl) ⟨blk_alloc hv1 _, ?_⟩
    simp only [Act.put, List.setIfInBounds_toArray, List.set_cons_zero, List.set_cons_succ]
    refine all_one (i := 6) (by kernel_rfl) rfl rfl ?_
    refine wp_append (d := some 27) (.tmp 21) (.tmp 26) 25 rfl rfl rfl rfl hr3 ⟨hk3 _ _ _ _ (by decide) hv1, ?_⟩
    simp only [Act.put, List.setIfInBounds_toArray, List.set_cons_zero, List.set_cons_succ]
    refine take_one (i := 7) (d := some 0) (v := v3) rfl rfl rfl (by kernel_rfl) (by kernel_rfl) (by kernel_rfl) (fun _ _ _ _ _ h => h.elim) (fun W hS => by kernel_rfl) (hk3 _ _ _ _ (by decide) hv1) ?_
    simp only [Act.put, List.setIfInBounds_toArray, List.set_cons_zero, List.set_cons_succ]
    refine wpAnyH_done (by kernel_rfl) ?_ _
    exact ⟨v3, X1.heap.size, rfl, ho3, hs3, HK2.out.trans ((Keep.below hX1).trans hk3)⟩
  · rintro a' w3 ⟨v3, x26, rfl, ho3, hs3, hk3⟩
    simp only [Act.put, List.setIfInBounds_toArray, List.set_cons_zero, List.set_cons_succ]
    have hv3 := hk3 _ _ _ _ (by decide) HB0.out
    obtain ⟨hAl, hsrc, _⟩ := src_bytes hv3 HE.out.1 HE.out.2
    obtain ⟨v4, w4, hr4, ho4, hs4, hk4⟩ := ho3.app hs3 hsrc (by simp; omega) 25
    have hv4 := hk4 _ _ _ _ (by decide) hv3
    obtain ⟨_, _, hdst⟩ := src_bytes hv4 HE.out.1 HE.out.2
    obtain ⟨v5, w5, hr5, ho5, hs5, hk5⟩ := ho4.app hs4 hdst (by simp; omega) 25
    have HR4 : Hid _ := hr4
    have HR5 : Hid _ := hr5
    rw [HEQ.out] at ho5
    have HO5 : Hid (OB base w w5 v5 (frontL f A NX n)) := ho5
    have HK5 : Hid (Keep W w5) := (HK0.out.trans hk3).trans (hk4.trans hk5)
    clear ho3 hk3 hv3 hsrc hr4 ho4 hs4 hk4 hv4 hdst hr5 ho5 hk5
    go_wp2_with first
      | (at_builtin; refine wpList_append_run rfl _ _ _ _ rfl rfl rfl HR4.out ?_; clear HR4)
      | (at_builtin; refine wpList_append_run rfl _ _ _ _ rfl rfl rfl HR5.out ?_; clear HR5)
    go_ret
    exact ⟨v5, rfl, HO5.out, hs5, HK5.out⟩
end
end Go.Proofs.YtpgnnplpcalbbaaGreat.V6
namespace Go.Proofs.YtpgnnplpcalbbaaGreat.V6
open Go Go.RowKit
theorem ex_addE {o : Oper} {a : Act} {W : World} (p q : Operand) {t : TypeId} (hop : o.op = Op.binOp .add 3 p q t) {x y z : Int} (hp : a.eval p = .int .i64 x) (hq : a.eval q = .int .i64 y) (hz : x + y = z) (h : -9223372036854775808 ≤ z ∧ z ≤ 9223372036854775807) : (execOp a.eval o).run Tryz.prog W = .ok (.value (.int .i64 z)) W := by
  have e : IntKind.i64.wrap (x + y) = z := by rw [hz]; exact wrapi64 _ h
  generalize a.eval = ev at *
  simp [execOp, hop, hp, hq, go_sem, e]
theorem ex_subE {o : Oper} {a : Act} {W : World} (p q : Operand) {t : TypeId} (hop : o.op = Op.binOp .sub 3 p q t) {x y z : Int} (hp : a.eval p = .int .i64 x) (hq : a.eval q = .int .i64 y) (hz : x - y = z) (h : -9223372036854775808 ≤ z ∧ z ≤ 9223372036854775807) : (execOp a.eval o).run Tryz.prog W = .ok (.value (.int .i64 z)) W := by
  have e : IntKind.i64.wrap (x - y) = z := by rw [hz]; exact wrapi64 _ h
  generalize a.eval = ev at *
  simp [execOp, hop, hp, hq, go_sem, e]
theorem wrapu8 (x : Int) (h : 0 ≤ x ∧ x < 256) : IntKind.u8.wrap x = x := by
  have e : x % 256 = x := by omega
  simp [IntKind.wrap, IntKind.signed, IntKind.bits, e]
theorem ex_cv8 {o : Oper} {a : Act} {W : World} (p : Operand) (hop : o.op = Op.convert 3 5 p) {x : Int} (hp : a.eval p = .int .i64 x) (h : 0 ≤ x ∧ x < 256) : (execOp a.eval o).run Tryz.prog W = .ok (.value (.int .u8 x)) W := by
  have e := wrapu8 x h
  generalize a.eval = ev at *
  simp [execOp, hop, hp, go_sem, e]
theorem ex_makeA {P : Program} {o : Oper} {a : Act} {w w2 : World} (t : TypeId) (l c : Operand) (hop : o.op = Op.makeSlice t l c) {vl vc v : Value} (hl : a.eval l = vl) (hc : a.eval c = vc) (hrun : (Instr.makeSlice t vl vc).run P w = .ok v w2) : (execOp a.eval o).run P w = .ok (.value v) w2 := by
  simp [execOp, hop, hl, hc, hrun, Result.andThen]
theorem _root_.Go.Proofs.YtpgnnplpcalbbaaGreat.OB.made (w X : World) (c : Nat) (hc : c ≤ 1000000) (hb : Below w.heap.size w X) : ∃ X', (Instr.makeSlice 25 (.int .i64 0) (.int .i64 (c : Int))).run Tryz.prog X = .ok (.slice (some ⟨X.heap.size, 0, none⟩) 0 c) X' ∧ OB w.heap.size w X' (.slice (some ⟨X.heap.size, 0, none⟩) 0 c) [] ∧ Below X.heap.size X X' := by
  obtain ⟨i, hi, hz0, hs, hby⟩ := info_parts info_u8
  obtain ⟨X', hr, ho, hg⟩ := run_make_own (P := Tryz.prog) X w.heap.size 25 5 i (.int .u8 0) 1 Tryz.underlying25 hi hz0 hs .i64 .i64 c (by rw [hby]; omega) (by unfold maxLen; omega) hb.size
  have hB : Below X.heap.size X X' := (Below.refl _ X).grown hg (Nat.le_refl _) (fun k hk => by cases hk)
  exact ⟨X', hr, ⟨ho, hb.trans (hB.mono hb.size)⟩, hB⟩
/-- A head's box. -/
def hBox (K : Int) (s : Value) : Obj := .cells [.int .u8 K, s].toArray 110
theorem HS.nthB {S : Nat → Prop} {w : World} {a : Option Addr} {cap : Nat} {hs : Opts} (h : HS S w (.slice a hs.length cap) hs) {k : Nat} (hk : k < hs.length) :
    ∃ b off a1 c1, a = some ⟨b, off, none⟩ ∧ b < w.heap.size ∧ BS S w (.slice a1 (oD hs k).length c1) (oD hs k) ∧ ∀ W, Below w.heap.size w W → (Instr.loadAt 110 (.pointer (some ⟨b, off + k * 2, none⟩))).run Tryz.prog W = .ok (.agg [.int .u8 (oK hs k), .slice a1 (oD hs k).length c1].toArray) W := by
  obtain ⟨h1, h2, a', cap', e, hz⟩ := h
  injection e with e _ _
  subst e
  rcases hz with hz | ⟨b, off, rfl, hlt, hS, hc⟩
  · omega
  obtain ⟨c0, s, c1, hb⟩ := hc k hk
  obtain ⟨_, _, a1, k1, e1, _⟩ := hb.row
  subst e1
  refine ⟨b, off, a1, k1, rfl, hlt, hb, fun W hW => agg_load Tryz.isAgg110 Tryz.sizeOf110 rfl ?_⟩
  intro j v hj
  match j, hj with
  | 0, hj => cases hj; exact (hW.cell hlt).trans c0
  | 1, hj => cases hj; exact (hW.cell (p := ⟨b, off + k * 2 + 1, none⟩) hlt).trans c1
  | j + 2, hj => simp at hj
theorem h_new (W : World) (K : Int) {s : Value} (h1 : s.oneCell' = true) : ∃ W', (Instr.storeAt 110 (.pointer (some ⟨W.heap.size, 0, none⟩)) (.agg [.int .u8 K, s].toArray)).run Tryz.prog (W.alloc (.cells #[.int .u8 0, .slice none 0 0] 110)) = .ok () W' ∧ W'.heap[W.heap.size]? = some (hBox K s) ∧ Below W.heap.size W W' := by
  have h1' : ∀ v ∈ [Value.int .u8 K, s], v.oneCell' = true := by
    intro v hv
    rcases List.mem_cons.1 hv with rfl | hv
    · rfl
    · rcases List.mem_cons.1 hv with rfl | hv
      · exact h1
      · cases hv
  obtain ⟨W', hr, hb, hB⟩ := box_new Tryz.sizeOf110 W [.int .u8 0, .slice none 0 0] rfl [.int .u8 K, s] rfl h1'
  exact ⟨W', hr, hb, hB⟩
section
variable {w : World} {f : F6} {g : G6} {vh vb : Value} {hs : Opts} {body A : List Int}
set_option maxHeartbeats 4000000 in
set_option maxRecDepth 100000 in
theorem Write_no (h : D6 (fun b => b < w.heap.size) w f vh vb hs body) (hE : ckE f hs g body.length ≠ 0) : Calls Tryz.prog 149 #[VV f g vh vb] w fun e w' => e = .returned (.tuple #[.slice none 0 0, .int .i64 (ckE f hs g body.length)]) ∧ Below w.heap.size w w' := by
  obtain ⟨w0, hw0⟩ : ∃ w0, w0 = w.alloc (BV f g vh vb) := ⟨_, rfl⟩
  have hb0 : w0.heap[w.heap.size]? = some (BV f g vh vb) := by rw [hw0]; exact blk_new w (BV f g vh vb)
  have hB0 : Below w.heap.size w w0 := by rw [hw0]; exact (Below.refl w.heap.size w).alloc (Nat.le_refl _) (BV f g vh vb)
  have HL0 : Hid _ := vb_load hb0
  have HB0 : Hid (Below w.heap.size w w0) := hB0
  have hSZ := Size_any g (h.on hB0)
  rw [if_neg hE, if_neg hE] at hSZ
  have HSZ : Hid _ := hSZ
  have q : (ckE f hs g body.length != 0) = true := by simpa using hE
  have hW := hw0.symm
  clear hb0 hB0 hw0 h hSZ hE
  generalize ckE f hs g body.length = E at *
  go_enter Tryz.func149, Tryz.ntmps149
  go_wp2_with first
    | ((with_reducible show wpList _ _ _ ({ dst := _, op := Op.load 36 (Operand.tmp 1), type := _, pos := _, after := _, guard := _ } :: _) _ _); refine armL (.tmp 1) 36 rfl rfl rfl HL0.out ?_)
  refine Calls.mono HSZ.out ?_
  rintro e w1 ⟨rfl, hb1⟩
  have HB1 : Hid (Below w.heap.size w w1) := HB0.out.trans (hb1.mono HB0.out.size)
  clear hb1 HSZ HL0 HB0
  go_wp2
  go_ret2
  exact ⟨rfl, HB1.out⟩
set_option maxHeartbeats 4000000 in
set_option maxRecDepth 100000 in
theorem Write_yes (h : D6 (fun b => b < w.heap.size) w f vh vb hs body) (hE : ckE f hs g body.length = 0) (he : f.ad = u8L A) (hf : Fit A) (hcl : 0 ≤ f.cls ∧ f.cls < 256) (hhp : 0 ≤ f.hop ∧ f.hop < 256) (hpr : 0 ≤ f.proto ∧ f.proto < 256) (hid : 0 ≤ g.id ∧ g.id ≤ 4294967295) :
    Calls Tryz.prog 149 #[VV f g vh vb] w fun e w' => ∃ v', e = .returned (.tuple #[v', .int .i64 0]) ∧ OB w.heap.size w w' v' (wrL f A hs g body) := by
  obtain ⟨w0, hw0⟩ : ∃ w0, w0 = w.alloc (BV f g vh vb) := ⟨_, rfl⟩
  have hb0 : w0.heap[w.heap.size]? = some (BV f g vh vb) := by rw [hw0]; exact blk_new w (BV f g vh vb)
  have hB0 : Below w.heap.size w w0 := by rw [hw0]; exact (Below.refl w.heap.size w).alloc (Nat.le_refl _) (BV f g vh vb)
  have HL0 : Hid _ := vb_load hb0
  have HV0 : Hid (w0.heap[w.heap.size]? = some (BV f g vh vb)) := hb0
  have HB0 : Hid (Below w.heap.size w w0) := hB0
  have hSZ := Size_any g (h.on hB0)
  rw [hE, if_pos rfl, if_pos rfl] at hSZ
  obtain ⟨hok, hlen⟩ := ck_zero hE
  have hal := ahead6_le g.fr hok.2.1
  obtain ⟨al, hale⟩ : ∃ al : Nat, ahead6 hs g.fr = al := ⟨_, rfl⟩
  obtain ⟨nb, hnb⟩ : ∃ nb : Nat, body.length = nb := ⟨_, rfl⟩
  obtain ⟨tot, htot⟩ : ∃ tot : Nat, al + nb = tot := ⟨_, rfl⟩
  obtain ⟨n, hn⟩ : ∃ n : Nat, al - 40 + nb = n := ⟨_, rfl⟩
  rw [hale, hnb, show ((al : Nat) : Int) + ((nb : Nat) : Int) = ((tot : Nat) : Int) by omega] at hSZ
  rw [hale] at hal hlen
  rw [hnb] at hlen
  have HSZ : Hid _ := hSZ
  have hnx : ∀ i, 0 ≤ nx6 hs g.fr f.proto i ∧ nx6 hs g.fr f.proto i < 256 := fun i => by
    unfold nx6
    split
    · exact h.hd.fit i
    · split
      · omega
      · exact hpr
  have HAF : Hid (∀ X v, OB w.heap.size w X v [] → Calls Tryz.prog 212 #[v, VV f g vh vb, .int .i64 n] X fun e w' => ∃ v', e = .returned v' ∧ OB w.heap.size w w' v' (frontL f A (nx6 hs g.fr f.proto 0) n) ∧ w.heap.size ≤ w'.heap.size ∧ Keep X w') := fun X v hX => addFront_calls hX hX.bel.size h.hd.one h.bd.one h.hd.opts he hf hcl ⟨h.lab.1, hok.1⟩ hhp (hnx 0) n (by omega)
  have HNX : Hid (∀ X, Below w.heap.size w X → ∀ i : Nat, Calls Tryz.prog 213 #[VV f g vh vb, .int .i64 i] X fun e w' => e = .returned (.int .u8 (nx6 hs g.fr f.proto i)) ∧ Below X.heap.size X w') := fun X hX i => next_calls X (vC_l6 (f := f) (g := g) h.hd.one h.bd.one) hs (OptsAt.up h.hd.opts hX hX.size) i
  have HNXB : Hid (∀ i, 0 ≤ nx6 hs g.fr f.proto i ∧ nx6 hs g.fr f.proto i < 256) := hnx
  have HHK : Hid (∀ i, i < hs.length → ((2 + (oD hs i).length) / 8 - 1 : Nat) < 256 ∧ 8 ≤ 2 + (oD hs i).length ∧ (oD hs i).length ≤ 2046) := fun i hi => by
    have := hok.2.1.2 i hi
    unfold headOk at this
    simp at this
    omega
  have HOF : Hid (g.fr = true → 0 ≤ g.off ∧ g.off ≤ 8191) := fun hfr => by
    have h3 := hok.2.2
    unfold endB at h3
    rw [if_pos hfr] at h3
    simpa using h3
  have HFH : Hid (∀ X v zs, g.fr = true → OB w.heap.size w X v zs → zs.length + 8 ≤ 1000000 → Calls Tryz.prog 214 #[v, VV f g vh vb] X fun e w' => ∃ v', e = .returned v' ∧ OB w.heap.size w w' v' (zs ++ fragL g.id g.off g.more f.proto) ∧ w.heap.size ≤ w'.heap.size ∧ Keep X w') := fun X v zs hfr hX hl => addFragHead_calls hX hX.bel.size (vC_l6 (f := f) (g := g) h.hd.one h.bd.one) (HOF.out hfr) hid hpr hl
  have hhl : hs.length ≤ 8 := hok.2.1.1
  have HTOT : Hid (∀ k, k ≤ hs.length → oTot hs k ≤ 100000) := fun k hk => headsB_tot hok.2.1 k hk
  obtain ⟨ah, ch, hvh⟩ : ∃ a c, vh = .slice a hs.length c := by obtain ⟨_, _, a, cap, e, _⟩ := h.hd; exact ⟨_, _, e⟩
  obtain ⟨ab, cb, hvb⟩ : ∃ a c, vb = .slice a nb c := by obtain ⟨_, _, a, cap, e, _⟩ := h.bd.row; rw [hnb] at e; exact ⟨_, _, e⟩
  subst hvh hvb
  have HD : Hid (D6 (fun b => b < w.heap.size) w f (.slice ah hs.length ch) (.slice ab nb cb) hs body) := h
  have HWL : Hid (frontL f A (nx6 hs g.fr f.proto 0) n ++ hdsL hs g.fr f.proto hs.length ++ (if g.fr then fragL g.id g.off g.more f.proto else []) ++ body = wrL f A hs g body) := by
    show _ = wrL f A hs g body
    unfold wrL
    rw [hale, hnb, hn]
  have HAL : Hid (A.length = 32) := by show A.length = 32; have := f.len; rw [he] at this; simpa [u8L] using this
  have HNB : Hid _ := hnb
  have HT40 : Hid ((tot : Int) - 40 = (n : Int)) := by show _ = _; omega
  have w23 : IntKind.i64.wrap ((tot : Int) - 40) = (n : Int) := by rw [show (tot : Int) - 40 = (n : Int) by omega]; exact wrapi64 _ (by omega)
  have hW := hw0.symm
  clear hb0 hB0 hw0 h hSZ hE hok hnx he hf hcl hhp hpr hid hale hnb hn
  go_enter Tryz.func149, Tryz.ntmps149
  go_wp2_with first
    | ((with_reducible show wpList _ _ _ ({ dst := _, op := Op.load 36 (Operand.tmp 1), type := _, pos := _, after := _, guard := _ } :: _) _ _); refine armL (.tmp 1) 36 rfl rfl rfl HL0.out ?_)
  refine Calls.mono HSZ.out ?_
  rintro e w1 ⟨rfl, hb1⟩
  have HB1 : Hid (Below w.heap.size w w1) := HB0.out.trans (hb1.mono HB0.out.size)
  have HV1 : Hid (w1.heap[w.heap.size]? = some (BV f g (.slice ah hs.length ch) (.slice ab nb cb))) := blk_on HV0.out hb1
  clear hb1 HSZ HL0 HB0 HV0
  go_wp2_with fail
  refine region_mid (fun a0 a' w' => ∃ v4 x20, a' = (((((((a0.put (some 19) (.int .i64 (tot : Nat))).put (some 21) (VV f g (.slice ah hs.length ch) (.slice ab nb cb))).put (some 22) (.int .i64 (tot : Nat))).put (some 23) (.int .i64 (n : Nat))).put (some 20) (.slice (some ⟨x20, 0, none⟩) 0 tot)).put (some 24) (v4)).put (some 7) (v4)) ∧ OB w.heap.size w w' v4 (frontL f A (nx6 hs g.fr f.proto 0) n) ∧ w'.heap[w.heap.size]? = some (BV f g (.slice ah hs.length ch) (.slice ab nb cb))) ?_ ?_
  · skip
    refine wp_region_held (S := fun X => X.heap[w.heap.size]? = some (BV f g (.slice ah hs.length ch) (.slice ab nb cb))) (by kernel_rfl) ?_
    show wpAnyH _ _ _ _ _ 7 (Array.replicate 7 false) _ _
    have hs0 : w1.drew.heap[w.heap.size]? = some (BV f g (.slice ah hs.length ch) (.slice ab nb cb)) := HV1.out
    refine take_one (i := 0) (d := some 19) (v := .int .i64 (tot : Nat)) rfl rfl rfl (by kernel_rfl) (by kernel_rfl) (by kernel_rfl) (fun _ _ _ _ _ h => h.elim) (fun W hS => by kernel_rfl) hs0 ?_
    simp only [Act.put, List.setIfInBounds_toArray, List.set_cons_zero, List.set_cons_succ]
    refine take_one (i := 2) (d := some 21) (v := VV f g (.slice ah hs.length ch) (.slice ab nb cb)) rfl rfl rfl (by kernel_rfl) (by kernel_rfl) (by kernel_rfl) (fun _ _ _ _ _ h => h.elim) (fun W hS => ex_loadA (.tmp 1) 36 rfl rfl (vb_load hS)) hs0 ?_
    simp only [Act.put, List.setIfInBounds_toArray, List.set_cons_zero, List.set_cons_succ]
    refine take_one (i := 3) (d := some 22) (v := .int .i64 (tot : Nat)) rfl rfl rfl (by kernel_rfl) (by kernel_rfl) (by kernel_rfl) (fun _ _ _ _ _ h => h.elim) (fun W hS => by kernel_rfl) hs0 ?_
    simp only [Act.put, List.setIfInBounds_toArray, List.set_cons_zero, List.set_cons_succ]
    have e40 := HT40.out
    refine take_one (i := 4) (d := some 23) (v := .int .i64 (n : Nat)) rfl rfl rfl (by kernel_rfl) (by kernel_rfl) (by kernel_rfl) (fun _ _ _ _ _ h => h.elim) (fun W hS => ex_subE (.tmp 22) (.const (.int .i64 40)) rfl rfl rfl e40 (by omega)) hs0 ?_
    simp only [Act.put, List.setIfInBounds_toArray, List.set_cons_zero, List.set_cons_succ]
    obtain ⟨X1, hr1, ho1, hbX⟩ := OB.made w w1.drew tot (by omega) (HB1.out.trans (((Below.refl _ w1).drew).mono HB1.out.size))
    refine all_one (i := 1) (by kernel_rfl) rfl rfl ?_
    refine wp_valA (d := some 20) rfl (ex_makeA 25 (.const (.int .i64 0)) (.tmp 19) rfl rfl rfl hr1) ⟨blk_on hs0 hbX, ?_⟩
    simp only [Act.put, List.setIfInBounds_toArray, List.set_cons_zero, List.set_cons_succ]
    refine all_one (i := 5) (by kernel_rfl) rfl rfl ?_
    refine wp_call (d := some 24) (R := fun v X => OB w.heap.size w X v (frontL f A (nx6 hs g.fr f.proto 0) n) ∧ w.heap.size ≤ X.heap.size ∧ Keep X1 X) 212 _ rfl (by kernel_rfl) (HAF.out X1 _ ho1) ?_
    rintro v4 w4 ⟨ho4, hs4, hk4⟩
    have hv4 := hk4 _ _ _ _ (by decide) (blk_on hs0 hbX)
    refine ⟨hv4, ?_⟩
    simp only [Act.put, List.setIfInBounds_toArray, List.set_cons_zero, List.set_cons_succ]
    refine take_one (i := 6) (d := some 7) (v := v4) rfl rfl rfl (by kernel_rfl) (by kernel_rfl) (by kernel_rfl) (fun _ _ _ _ _ h => h.elim) (fun W hS => by kernel_rfl) hv4 ?_
    simp only [Act.put, List.setIfInBounds_toArray, List.set_cons_zero, List.set_cons_succ]
    refine wpAnyH_done (by kernel_rfl) ?_ _
    exact ⟨v4, w1.drew.heap.size, rfl, ho4, hv4⟩
  · rintro a' w4 ⟨v4, x20, rfl, ho4, hv4⟩
    simp only [Act.put, List.setIfInBounds_toArray, List.set_cons_zero, List.set_cons_succ]
    have HO4 : Hid (OB w.heap.size w w4 v4 (frontL f A (nx6 hs g.fr f.proto 0) n)) := ho4
    have HV4 : Hid (w4.heap[w.heap.size]? = some (BV f g (.slice ah hs.length ch) (.slice ab nb cb))) := hv4
    have k35 := vb35 hv4
    clear ho4 hv4 HAF w23 HV1 HB1
    obtain ⟨N, hN⟩ : ∃ N, hs.length = N := ⟨_, rfl⟩
    have HN : Hid (hs.length = N) := hN
    obtain ⟨VH, hVH⟩ : ∃ VH : Value, VH = .slice ah hs.length ch := ⟨_, rfl⟩
    rw [hN] at k35 hhl
    have HVH : Hid _ := hVH
    clear hN hVH
    obtain ⟨F0, hF0⟩ : ∃ F0, frontL f A (nx6 hs g.fr f.proto 0) n = F0 := ⟨_, rfl⟩
    rw [hF0] at HO4 HWL
    have hFl : F0.length = 40 := by rw [← hF0]; unfold frontL; simp [HAL.out]
    clear hF0
    go_wp2_with fail
    go_loopw [7, 28] (fun bv i wr => ∃ k : Nat, k ≤ N ∧ i = .int .i64 k ∧ Hid (OB w.heap.size w wr bv (F0 ++ hdsL hs g.fr f.proto k)) ∧ Hid (wr.heap[w.heap.size]? = some (BV f g (.slice ah hs.length ch) (.slice ab nb cb)))) (fun _ i _ => N - (intOf i).toNat)
    case atStart => exact ⟨0, Nat.zero_le _, rfl, by show OB _ _ _ _ _; simp only [hdsL, List.append_nil]; exact HO4.out, HV4.out⟩
    case round =>
      obtain ⟨k, hk, rfl, hob, hvr⟩ := hrel
      have hBr := hob.out.bel
      have hzl : (F0 ++ hdsL hs g.fr f.proto k).length ≤ 100100 := by rw [List.length_append, hdsL_len, hFl]; have := HTOT.out k (by rw [HN.out]; exact hk); omega
      by_cases hlt : k < N
      · have hki : (k : Int) < (N : Int) := by omega
        obtain ⟨bh, oh, a1, c1, ea, hbh, hbs, hld⟩ := HD.out.hd.nthB (k := k) (by rw [HN.out]; exact hlt)
        subst ea
        have HLH : Hid _ := hld _ hBr
        obtain ⟨w5, hst5, hbx5, hB5⟩ := h_new wr (oK hs k) (s := .slice a1 (oD hs k).length c1) rfl
        have HS5 : Hid _ := hst5
        have HX5 : Hid (w5.heap[wr.heap.size]? = some (hBox (oK hs k) (.slice a1 (oD hs k).length c1))) := hbx5
        have hHK := HHK.out k (by rw [HN.out]; exact hlt)
        have hs5 : w.heap.size ≤ wr.heap.size := hBr.size
        have HO5 : Hid (OB w.heap.size w w5 u7 (F0 ++ hdsL hs g.fr f.proto k)) := hob.out.below hs5 hB5
        have HV5 : Hid (w5.heap[w.heap.size]? = some (BV f g (.slice (some ⟨bh, oh, none⟩) hs.length ch) (.slice ab nb cb))) := blk_on hvr.out hB5
        have HBS : Hid (BS (fun b => b < w.heap.size) w (.slice a1 (oD hs k).length c1) (oD hs k)) := hbs
        have hs5' : w.heap.size ≤ w5.heap.size := Nat.le_trans hs5 hB5.size
        have hne : w.heap.size < wr.heap.size := (Array.getElem?_eq_some_iff.1 hvr.out).1
        have HZ : Hid _ := hzl
        have HHD : Hid (hdsL hs g.fr f.proto (k + 1) = hdsL hs g.fr f.proto k ++ ([nx6 hs g.fr f.proto (k + 1), (((2 + (oD hs k).length) / 8 - 1 : Nat) : Int)] ++ oD hs k)) := rfl
        obtain ⟨D, hD⟩ : ∃ D, (oD hs k).length = D := ⟨_, rfl⟩
        have HDE : Hid ((oD hs k).length = D) := hD
        rw [hD] at HLH HS5 HX5 hHK HBS HHD
        obtain ⟨hn9, hn8, hn6⟩ := hHK
        obtain ⟨c9, hc9⟩ : ∃ c9 : Nat, (2 + D) / 8 - 1 = c9 := ⟨_, rfl⟩
        rw [hc9] at HHD hn9
        have HC9 : Hid _ := hc9
        generalize oK hs k = K at *
        clear hst5 hbx5 hB5 hob hvr hbs hld hBr hzl hD hc9
        go_wp2_with first
          | ((with_reducible show wpList _ _ _ ({ dst := _, op := Op.load 110 (Operand.tmp 31), type := _, pos := _, after := _, guard := _ } :: _) _ _); refine armL (.tmp 31) 110 rfl rfl rfl HLH.out ?_)
          | ((with_reducible show wpList _ _ _ ({ dst := _, op := Op.store 110 (Operand.tmp 9) (Operand.tmp 32), type := _, pos := _, after := _, guard := _ } :: _) _ _); refine armS (.tmp 9) (Operand.tmp 32) 110 rfl rfl rfl rfl HS5.out ?_; simp only [Act.put])
        refine region_mid (fun a0 a' w' => ∃ v6 x45, a' = (((((((((((((((a0.put (some 33) (u7)).put (some 34) (VV f g (.slice (some ⟨bh, oh, none⟩) hs.length ch) (.slice ab nb cb))).put (some 35) (.int .i64 (k : Nat))).put (some 36) (.int .i64 ((k + 1 : Nat) : Int))).put (some 38) (.pointer (some ⟨wr.heap.size, 1, none⟩))).put (some 39) (.slice a1 D c1)).put (some 40) (.int .i64 (D : Nat))).put (some 41) (.int .i64 ((2 + D : Nat) : Int))).put (some 42) (.int .i64 (((2 + D) / 8 : Nat) : Int))).put (some 43) (.int .i64 (c9 : Nat))).put (some 44) (.int .u8 (c9 : Nat))).put (some 37) (.int .u8 (nx6 hs g.fr f.proto (k + 1)))).put (some 45) (.slice (some ⟨x45, 0, none⟩) 2 2)).put (some 46) (v6)).put (some 7) (v6)) ∧ OB w.heap.size w w' v6 ((F0 ++ hdsL hs g.fr f.proto k) ++ [nx6 hs g.fr f.proto (k + 1), (c9 : Int)]) ∧ w'.heap[w.heap.size]? = some (BV f g (.slice (some ⟨bh, oh, none⟩) hs.length ch) (.slice ab nb cb)) ∧ w'.heap[wr.heap.size]? = some (hBox K (.slice a1 D c1))) ?_ ?_
        · skip
          refine wp_region_held (S := fun X => X.heap[w.heap.size]? = some (BV f g (.slice (some ⟨bh, oh, none⟩) hs.length ch) (.slice ab nb cb)) ∧ X.heap[wr.heap.size]? = some (hBox K (.slice a1 D c1))) (by kernel_rfl) ?_
          show wpAnyH _ _ _ _ _ 15 (Array.replicate 15 false) _ _
          have hs0 : w5.drew.heap[w.heap.size]? = some (BV f g (.slice (some ⟨bh, oh, none⟩) hs.length ch) (.slice ab nb cb)) ∧ w5.drew.heap[wr.heap.size]? = some (hBox K (.slice a1 D c1)) := ⟨HV5.out, HX5.out⟩
          refine take_one (i := 0) (d := some 33) (v := u7) rfl rfl rfl (by kernel_rfl) (by kernel_rfl) (by kernel_rfl) (fun _ _ _ _ _ h => h.elim) (fun W hS => by kernel_rfl) hs0 ?_
          simp only [Act.put, List.setIfInBounds_toArray, List.set_cons_zero, List.set_cons_succ]
          refine take_one (i := 1) (d := some 34) (v := VV f g (.slice (some ⟨bh, oh, none⟩) hs.length ch) (.slice ab nb cb)) rfl rfl rfl (by kernel_rfl) (by kernel_rfl) (by kernel_rfl) (fun _ _ _ _ _ h => h.elim) (fun W hS => ex_loadA (.tmp 1) 36 rfl rfl (vb_load hS.1)) hs0 ?_
          simp only [Act.put, List.setIfInBounds_toArray, List.set_cons_zero, List.set_cons_succ]
          refine take_one (i := 2) (d := some 35) (v := .int .i64 (k : Nat)) rfl rfl rfl (by kernel_rfl) (by kernel_rfl) (by kernel_rfl) (fun _ _ _ _ _ h => h.elim) (fun W hS => by kernel_rfl) hs0 ?_
          simp only [Act.put, List.setIfInBounds_toArray, List.set_cons_zero, List.set_cons_succ]
          refine take_one (i := 3) (d := some 36) (v := .int .i64 ((k + 1 : Nat) : Int)) rfl rfl rfl (by kernel_rfl) (by kernel_rfl) (by kernel_rfl) (fun _ _ _ _ _ h => h.elim) (fun W hS => ex_addE (.tmp 35) (.const (.int .i64 1)) rfl rfl rfl (by omega) (by omega)) hs0 ?_
          simp only [Act.put, List.setIfInBounds_toArray, List.set_cons_zero, List.set_cons_succ]
          refine take_one (i := 5) (d := some 38) (v := .pointer (some ⟨wr.heap.size, 1, none⟩)) rfl rfl rfl (by kernel_rfl) (by kernel_rfl) (by kernel_rfl) (fun _ _ _ _ _ h => h.elim) (fun W hS => by kernel_rfl) hs0 ?_
          simp only [Act.put, List.setIfInBounds_toArray, List.set_cons_zero, List.set_cons_succ]
          refine take_one (i := 6) (d := some 39) (v := .slice a1 D c1) rfl rfl rfl (by kernel_rfl) (by kernel_rfl) (by kernel_rfl) (fun _ _ _ _ _ h => h.elim) (fun W hS => ex_loadA (.tmp 38) 25 rfl rfl (ld_row (blk_cell (j := 1) hS.2 rfl) ⟨_, _, _, rfl⟩)) hs0 ?_
          simp only [Act.put, List.setIfInBounds_toArray, List.set_cons_zero, List.set_cons_succ]
          refine take_one (i := 7) (d := some 40) (v := .int .i64 (D : Nat)) rfl rfl rfl (by kernel_rfl) (by kernel_rfl) (by kernel_rfl) (fun _ _ _ _ _ h => h.elim) (fun W hS => by kernel_rfl) hs0 ?_
          simp only [Act.put, List.setIfInBounds_toArray, List.set_cons_zero, List.set_cons_succ]
          refine take_one (i := 8) (d := some 41) (v := .int .i64 ((2 + D : Nat) : Int)) rfl rfl rfl (by kernel_rfl) (by kernel_rfl) (by kernel_rfl) (fun _ _ _ _ _ h => h.elim) (fun W hS => ex_addE (.const (.int .i64 2)) (.tmp 40) rfl rfl rfl (by omega) (by omega)) hs0 ?_
          simp only [Act.put, List.setIfInBounds_toArray, List.set_cons_zero, List.set_cons_succ]
          refine take_one (i := 9) (d := some 42) (v := .int .i64 (((2 + D) / 8 : Nat) : Int)) rfl rfl rfl (by kernel_rfl) (by kernel_rfl) (by kernel_rfl) (fun _ _ _ _ _ h => h.elim) (fun W hS => ex_div8 (.tmp 41) rfl rfl (by omega)) hs0 ?_
          simp only [Act.put, List.setIfInBounds_toArray, List.set_cons_zero, List.set_cons_succ]
          have e43 : (((2 + D) / 8 : Nat) : Int) - 1 = (c9 : Int) := by have := HC9.out; omega
          refine take_one (i := 10) (d := some 43) (v := .int .i64 (c9 : Nat)) rfl rfl rfl (by kernel_rfl) (by kernel_rfl) (by kernel_rfl) (fun _ _ _ _ _ h => h.elim) (fun W hS => ex_subE (.tmp 42) (.const (.int .i64 1)) rfl rfl rfl e43 (by omega)) hs0 ?_
          simp only [Act.put, List.setIfInBounds_toArray, List.set_cons_zero, List.set_cons_succ]
          refine take_one (i := 11) (d := some 44) (v := .int .u8 (c9 : Nat)) rfl rfl rfl (by kernel_rfl) (by kernel_rfl) (by kernel_rfl) (fun _ _ _ _ _ h => h.elim) (fun W hS => ex_cv8 (.tmp 43) rfl rfl (by omega)) hs0 ?_
          simp only [Act.put, List.setIfInBounds_toArray, List.set_cons_zero, List.set_cons_succ]
          have hBd : Below w5.heap.size w5 w5.drew := (Below.refl _ w5).drew
          refine all_one (i := 4) (by kernel_rfl) rfl rfl ?_
          refine wp_call (d := some 37) (R := fun v X => v = .int .u8 (nx6 hs g.fr f.proto (k + 1)) ∧ Below w5.drew.heap.size w5.drew X) 213 _ rfl (by kernel_rfl) ((HNX.out _ (HO5.out.bel.trans (hBd.mono hs5')) (k + 1)).mono (fun e w' hx => ⟨_, hx.1, rfl, hx.2⟩)) ?_
          rintro u X1 ⟨rfl, hbX⟩
          have hX1 : Below w5.heap.size w5 X1 := hBd.trans (hbX.mono hBd.size)
          have hv1 := blk_on hs0.1 hbX
          have hx1 := blk_on hs0.2 hbX
          refine ⟨⟨hv1, hx1⟩, ?_⟩
          simp only [Act.put, List.setIfInBounds_toArray, List.set_cons_zero, List.set_cons_succ]
          have hoX := HO5.out.below hs5' hX1
          obtain ⟨v6, w6, hr6, ho6, hs6, hk6⟩ := hoX.lit (Nat.le_trans hs5' hX1.size) [nx6 hs g.fr f.proto (k + 1), (c9 : Int)] #[.int .u8 (nx6 hs g.fr f.proto (k + 1)), .int .u8 (c9 : Int)] rfl (fun z hz => by have := HNXB.out (k + 1); simp at hz; omega) (by have := HZ.out; simp at *; omega) 2 rfl 25
          refine all_one (i := 12) (by kernel_rfl) rfl rfl ?_
          refine wp_valA (d := some 45) rfl (v := .slice (some ⟨X1.heap.size, 0, none⟩) 2 2) (w2 := X1.alloc (.cells #[.int .u8 (nx6 hs g.fr f.proto (k + 1)), .int .u8 (c9 : Int)] 5)) (by kernel_rfl) ⟨⟨blk_alloc hv1 _, blk_alloc hx1 _⟩, ?_⟩
          simp only [Act.put, List.setIfInBounds_toArray, List.set_cons_zero, List.set_cons_succ]
          have hS6 := (⟨hk6 _ _ _ _ (by decide) hv1, hk6 _ _ _ _ (by decide) hx1⟩ : w6.heap[w.heap.size]? = some (BV f g (.slice (some ⟨bh, oh, none⟩) hs.length ch) (.slice ab nb cb)) ∧ w6.heap[wr.heap.size]? = some (hBox K (.slice a1 D c1)))
          refine all_one (i := 13) (by kernel_rfl) rfl rfl ?_
          refine wp_append (d := some 46) (.tmp 33) (.tmp 45) 25 rfl rfl rfl rfl hr6 ⟨hS6, ?_⟩
          simp only [Act.put, List.setIfInBounds_toArray, List.set_cons_zero, List.set_cons_succ]
          refine take_one (i := 14) (d := some 7) (v := v6) rfl rfl rfl (by kernel_rfl) (by kernel_rfl) (by kernel_rfl) (fun _ _ _ _ _ h => h.elim) (fun W hS => by kernel_rfl) hS6 ?_
          simp only [Act.put, List.setIfInBounds_toArray, List.set_cons_zero, List.set_cons_succ]
          refine wpAnyH_done (by kernel_rfl) ?_ _
          exact ⟨v6, X1.heap.size, rfl, ho6, hS6.1, hS6.2⟩
        · rintro a' w8 ⟨v6, x45, rfl, ho8, hv8, hx8⟩
          simp only [Act.put, List.setIfInBounds_toArray, List.set_cons_zero, List.set_cons_succ]
          have k1 : w8.cell? ⟨wr.heap.size, 1, none⟩ = some (.slice a1 D c1) := blk_cell hx8 (j := 1) rfl
          have hB8 := ho8.bel
          obtain ⟨v9, w9, hr9, ho9, hs9, hk9⟩ := ho8.app hB8.size ((HBS.out.on hB8).row.bytes) (by have := HZ.out; have := HDE.out; simp at *; omega) 25
          have HR9 : Hid _ := hr9
          have HO9 : Hid (OB w.heap.size w w9 v9 (F0 ++ hdsL hs g.fr f.proto (k + 1))) := by
            show OB _ _ _ _ _
            rw [HHD.out]
            simpa only [List.append_assoc] using ho9
          have HV9 : Hid (w9.heap[w.heap.size]? = some (BV f g (.slice (some ⟨bh, oh, none⟩) hs.length ch) (.slice ab nb cb))) := hk9 _ _ _ _ (by decide) hv8
          have hkb : k ≤ 8 := by omega
          clear ho8 hv8 hx8 hB8 hr9 ho9 hs9 hk9 HO5 HV5 HX5 HBS
          go_wp2_with (at_builtin; refine wpList_append_run rfl _ _ _ _ rfl rfl rfl HR9.out ?_; clear HR9)
          exact ⟨⟨k + 1, by omega, by simp, HO9.out, HV9.out⟩, by simp [intOf]; omega⟩
      · have hkN : k = N := by omega
        have hNi : ¬ (k : Int) < (N : Int) := by omega
        have hob1 := hob.out
        rw [hkN, ← HN.out] at hob1
        have hv := hvr.out
        obtain ⟨fr, hfr⟩ : ∃ fr, g.fr = fr := ⟨_, rfl⟩
        have k36 := vb36 hv
        rw [hfr] at k36
        have HFR : Hid (g.fr = fr) := hfr
        have HOE : Hid (OB w.heap.size w wr u7 (F0 ++ hdsL hs g.fr f.proto hs.length)) := hob1
        have HVE : Hid (wr.heap[w.heap.size]? = some (BV f g (.slice ah hs.length ch) (.slice ab nb cb))) := hv
        have hzl' : (F0 ++ hdsL hs g.fr f.proto hs.length).length ≤ 100100 := by rw [List.length_append, hdsL_len, hFl]; have := HTOT.out hs.length (Nat.le_refl _); omega
        have HZL : Hid _ := hzl'
        clear hob hvr hob1 hv hkN hzl hBr hfr hzl' hlt
        cases fr
        · obtain ⟨v9, w9, hr9, ho9, hs9, hk9⟩ := HOE.out.app HOE.out.bel.size ((HD.out.on HOE.out.bel).bd.row.bytes) (by have := HZL.out; have := HNB.out; omega) 25
          have k41 := vb41 HVE.out
          have HR9 : Hid _ := hr9
          have HFIN : Hid (OB w.heap.size w w9 v9 (wrL f A hs g body)) := by
            show OB _ _ _ _ _
            rw [HFR.out] at ho9
            rw [← HWL.out, HFR.out]
            simp only [Bool.false_eq_true, if_false, List.append_nil]
            exact ho9
          clear hr9 ho9 hs9 hk9
          go_wp2_with (at_builtin; refine wpList_append_run rfl _ _ _ _ rfl rfl rfl HR9.out ?_; clear HR9)
          go_ret2
          exact ⟨v9, rfl, HFIN.out⟩
        · have HLV : Hid _ := vb_load HVE.out
          have HFF : Hid _ := HFH.out _ _ _ HFR.out HOE.out (by have := HZL.out; omega)
          go_wp2_with first
            | ((with_reducible show wpList _ _ _ ({ dst := _, op := Op.load 36 (Operand.tmp 1), type := _, pos := _, after := _, guard := _ } :: _) _ _); refine armL (.tmp 1) 36 rfl rfl rfl HLV.out ?_)
          refine Calls.mono HFF.out ?_
          rintro e w8 ⟨v8, rfl, ho8, hs8, hk8⟩
          have hv8 := hk8 _ _ _ _ (by decide) HVE.out
          obtain ⟨v9, w9, hr9, ho9, hs9, hk9⟩ := ho8.app hs8 ((HD.out.on ho8.bel).bd.row.bytes) (by have := HZL.out; have := HNB.out; simp [fragL] at *; omega) 25
          have k41 := vb41 hv8
          have HR9 : Hid _ := hr9
          have HFIN : Hid (OB w.heap.size w w9 v9 (wrL f A hs g body)) := by
            show OB _ _ _ _ _
            rw [HFR.out] at ho9
            rw [← HWL.out, HFR.out]
            simp only [if_true]
            exact ho9
          clear hr9 ho9 hs9 hk9 ho8 hk8 hv8 HFF HLV k36
          go_wp2_with (at_builtin; refine wpList_append_run rfl _ _ _ _ rfl rfl rfl HR9.out ?_; clear HR9)
          go_ret2
          exact ⟨v9, rfl, HFIN.out⟩
end
end Go.Proofs.YtpgnnplpcalbbaaGreat.V6
namespace Go.Proofs.YtpgnnplpcalbbaaGreat.V6
open Go Go.RowKit
theorem ex_idxH {o : Oper} {a : Act} {W : World} (j k : Nat) {g off n c i : Nat} (hop : o.op = Op.indexAddr 34 (.tmp j) (.tmp k)) (hj : a.eval (.tmp j) = .slice (some ⟨g, off, none⟩) n c) (hk : a.eval (.tmp k) = .int .i64 (i : Nat)) (hi : i < n) :
    (execOp a.eval o).run Tryz.prog W = .ok (.value (.pointer (some ⟨g, off + i * 2, none⟩))) W := by
  generalize a.eval = ev at *
  simp [execOp, hop, hj, hk, go_sem, hi]
theorem ld_heads {W : World} {p : Addr} {v : Value} (h : W.cell? p = some v) (hv : ∃ x n m, v = .slice x n m) : (Instr.loadAt 34 (.pointer (some p))).run Tryz.prog W = .ok v W := by
  obtain ⟨x, n, m, rfl⟩ := hv
  simp [Instr.loadAt, go_sem, h]
theorem wrapu32 (x : Int) (h : 0 ≤ x ∧ x < 4294967296) : IntKind.u32.wrap x = x := by
  have e : x % 4294967296 = x := by omega
  simp [IntKind.wrap, IntKind.signed, IntKind.bits, e]
theorem u8q16 {o : Oper} {a : Act} {W : World} (p : Operand) {t : TypeId} (hop : o.op = Op.binOp .quo 5 p (.const (.int .u8 16)) t) {x z : Int} (hp : a.eval p = .int .u8 x) (h : 0 ≤ x ∧ x < 256) (hz : x / 16 = z) : (execOp a.eval o).run Tryz.prog W = .ok (.value (.int .u8 z)) W := by
  have hc : a.eval (.const (.int .u8 16)) = (.int .u8 16) := rfl
  have e : IntKind.u8.wrap (x.tdiv 16) = z := by rw [Int.tdiv_eq_ediv_of_nonneg h.1, hz]; exact wrapu8 _ (by omega)
  generalize a.eval = ev at *
  simp [execOp, hop, hp, hc, go_sem, e]
theorem u8r16 {o : Oper} {a : Act} {W : World} (p : Operand) {t : TypeId} (hop : o.op = Op.binOp .rem 5 p (.const (.int .u8 16)) t) {x z : Int} (hp : a.eval p = .int .u8 x) (h : 0 ≤ x ∧ x < 256) (hz : x % 16 = z) : (execOp a.eval o).run Tryz.prog W = .ok (.value (.int .u8 z)) W := by
  have hc : a.eval (.const (.int .u8 16)) = (.int .u8 16) := rfl
  have e : x.tmod 16 = z := by rw [Int.tmod_eq_emod_of_nonneg h.1, hz]
  generalize a.eval = ev at *
  simp [execOp, hop, hp, hc, go_sem, e]
theorem u8m16 {o : Oper} {a : Act} {W : World} (p : Operand) {t : TypeId} (hop : o.op = Op.binOp .mul 5 p (.const (.int .u8 16)) t) {x z : Int} (hp : a.eval p = .int .u8 x) (hz : x * 16 = z) (h : 0 ≤ z ∧ z < 256) : (execOp a.eval o).run Tryz.prog W = .ok (.value (.int .u8 z)) W := by
  have hc : a.eval (.const (.int .u8 16)) = (.int .u8 16) := rfl
  have e : IntKind.u8.wrap (x * 16) = z := by rw [hz]; exact wrapu8 _ h
  generalize a.eval = ev at *
  simp [execOp, hop, hp, hc, go_sem, e]
theorem u8add {o : Oper} {a : Act} {W : World} (p q : Operand) {t : TypeId} (hop : o.op = Op.binOp .add 5 p q t) {x y z : Int} (hp : a.eval p = .int .u8 x) (hq : a.eval q = .int .u8 y) (hz : x + y = z) (h : 0 ≤ z ∧ z < 256) : (execOp a.eval o).run Tryz.prog W = .ok (.value (.int .u8 z)) W := by
  have e : IntKind.u8.wrap (x + y) = z := by rw [hz]; exact wrapu8 _ h
  generalize a.eval = ev at *
  simp [execOp, hop, hp, hq, go_sem, e]
theorem u32q {o : Oper} {a : Act} {W : World} (k : Int) (p : Operand) {t : TypeId} (hop : o.op = Op.binOp .quo 33 p (.const (.int .u32 k)) t) {x z : Int} (hp : a.eval p = .int .u32 x) (hk : 0 < k) (h : 0 ≤ x ∧ x < 4294967296) (hz : x / k = z) (hzz : 0 ≤ z ∧ z < 4294967296) : (execOp a.eval o).run Tryz.prog W = .ok (.value (.int .u32 z)) W := by
  have hc : a.eval (.const (.int .u32 k)) = (.int .u32 k) := rfl
  have k0 : (k == 0) = false := by simp; omega
  have k1 : ¬ k = 0 := by omega
  have e : IntKind.u32.wrap (x.tdiv k) = z := by rw [Int.tdiv_eq_ediv_of_nonneg h.1, hz]; exact wrapu32 _ hzz
  generalize a.eval = ev at *
  simp [execOp, hop, hp, hc, k0, k1, go_sem, e]
theorem cv328 {o : Oper} {a : Act} {W : World} (p : Operand) (hop : o.op = Op.convert 33 5 p) {x z : Int} (hp : a.eval p = .int .u32 x) (hz : x % 256 = z) : (execOp a.eval o).run Tryz.prog W = .ok (.value (.int .u8 z)) W := by
  have e : IntKind.u8.wrap x = z := by rw [← hz]; simp [IntKind.wrap, IntKind.signed, IntKind.bits]
  generalize a.eval = ev at *
  simp [execOp, hop, hp, go_sem, e]
theorem cvi8 {o : Oper} {a : Act} {W : World} (p : Operand) (hop : o.op = Op.convert 3 5 p) {x z : Int} (hp : a.eval p = .int .i64 x) (hz : x % 256 = z) : (execOp a.eval o).run Tryz.prog W = .ok (.value (.int .u8 z)) W := by
  have e : IntKind.u8.wrap x = z := by rw [← hz]; simp [IntKind.wrap, IntKind.signed, IntKind.bits]
  generalize a.eval = ev at *
  simp [execOp, hop, hp, go_sem, e]
theorem i64q256 {o : Oper} {a : Act} {W : World} (p : Operand) {t : TypeId} (hop : o.op = Op.binOp .quo 3 p (.const (.int .i64 256)) t) {x z : Int} (hp : a.eval p = .int .i64 x) (h : 0 ≤ x ∧ x ≤ 100000) (hz : x / 256 = z) : (execOp a.eval o).run Tryz.prog W = .ok (.value (.int .i64 z)) W := by
  have hc : a.eval (.const (.int .i64 256)) = .int .i64 256 := rfl
  have e : IntKind.i64.wrap (x.tdiv 256) = z := by rw [Int.tdiv_eq_ediv_of_nonneg h.1, hz]; exact wrapi64 _ (by omega)
  generalize a.eval = ev at *
  simp [execOp, hop, hp, hc, go_sem, e]
theorem ld_u32 {W : World} {p : Addr} {x : Int} (h : W.cell? p = some (.int .u32 x)) : (Instr.loadAt 33 (.pointer (some p))).run Tryz.prog W = .ok (.int .u32 x) W := by
  simp [Instr.loadAt, go_sem, h]
theorem RCheck_any {S : Nat → Prop} {w : World} {f : F6} {vh vb : Value} {hs : Opts} {body : List Int} (g : G6) (h : D6 S w f vh vb hs body) : Calls Tryz.prog 69 #[VV f g vh vb] w fun e w' => e = .returned (.int .i64 (ckE f hs g body.length)) ∧ Below w.heap.size w w' := by
  refine (RCheck_calls w (vC_l6 h.hd.one h.bd.one) hs h.hd.opts body h.bd.row.bytes).mono ?_
  rintro e w' ⟨er, rfl, hc, hb⟩
  rw [ck_eq hc]
  exact ⟨rfl, hb⟩
theorem RSize_any {S : Nat → Prop} {w : World} {f : F6} {vh vb : Value} {hs : Opts} {body : List Int} (g : G6) (h : D6 S w f vh vb hs body) : Calls Tryz.prog 35 #[VV f g vh vb] w fun e w' => e = .returned (.tuple #[.int .i64 (if ckE f hs g body.length = 0 then ahead6 hs g.fr + body.length else 0), .int .i64 (if ckE f hs g body.length = 0 then ahead6 hs g.fr else 0), .int .i64 (ckE f hs g body.length)]) ∧ Below w.heap.size w w' := by
  refine (RSize_calls w (vC_l6 h.hd.one h.bd.one) hs h.hd.opts body h.bd.row.bytes).mono ?_
  rintro e w' ⟨er, rfl, hc, hb⟩
  rw [ck_eq hc]
  exact ⟨rfl, hb⟩
theorem _root_.Go.Proofs.YtpgnnplpcalbbaaGreat.OB.start8 {w W : World} (hB : Below w.heap.size w W) (ys : List Int) (us : Array Value) (hu : us = (ys.map (fun z => Value.int .u8 z)).toArray) (h8 : ys.length = 8) : OB w.heap.size w (W.alloc (.cells us 5)) (.slice (some ⟨W.heap.size, 0, none⟩) 8 8) ys := by
  refine ⟨⟨by simp [bytesV], .inr ⟨W.heap.size, 8, us, by rw [h8], hB.size, blk_new W _, by omega, by unfold maxLen; decide, by rw [hu]; simp [h8], ?_⟩⟩, hB.alloc hB.size _⟩
  rw [hu, h8]
  simp only [List.toList_toArray]
  rw [List.take_of_length_le (by simp [h8])]
  rfl
theorem HS.nthC {S : Nat → Prop} {w : World} {a : Option Addr} {cap : Nat} {hs : Opts} (h : HS S w (.slice a hs.length cap) hs) {k : Nat} (hk : k < hs.length) :
    ∃ b off a1 c1, a = some ⟨b, off, none⟩ ∧ b < w.heap.size ∧ BS S w (.slice a1 (oD hs k).length c1) (oD hs k) ∧ ∀ W, Below w.heap.size w W → W.cell? ⟨b, off + k * 2 + 1, none⟩ = some (.slice a1 (oD hs k).length c1) := by
  obtain ⟨h1, h2, a', cap', e, hz⟩ := h
  injection e with e _ _
  subst e
  rcases hz with hz | ⟨b, off, rfl, hlt, hS, hc⟩
  · omega
  obtain ⟨c0, s, c1, hb⟩ := hc k hk
  obtain ⟨_, _, a1, k1, e1, _⟩ := hb.row
  subst e1
  exact ⟨b, off, a1, k1, rfl, hlt, hb, fun W hW => (hW.cell (p := ⟨b, off + k * 2 + 1, none⟩) hlt).trans c1⟩
section
variable {w : World} {f : F6} {g : G6} {vh vb : Value} {hs : Opts} {body A : List Int}
set_option maxHeartbeats 4000000 in
set_option maxRecDepth 100000 in
theorem RWrite_no (h : D6 (fun b => b < w.heap.size) w f vh vb hs body) (hE : ckE f hs g body.length ≠ 0) : Calls Tryz.prog 78 #[VV f g vh vb] w fun e w' => e = .returned (.tuple #[.slice none 0 0, .int .i64 (ckE f hs g body.length)]) ∧ Below w.heap.size w w' := by
  obtain ⟨w0, hw0⟩ : ∃ w0, w0 = w.alloc (BV f g vh vb) := ⟨_, rfl⟩
  have hb0 : w0.heap[w.heap.size]? = some (BV f g vh vb) := by rw [hw0]; exact blk_new w (BV f g vh vb)
  have hB0 : Below w.heap.size w w0 := by rw [hw0]; exact (Below.refl w.heap.size w).alloc (Nat.le_refl _) (BV f g vh vb)
  have HL0 : Hid _ := vb_load hb0
  have HB0 : Hid (Below w.heap.size w w0) := hB0
  have HSZ : Hid _ := RCheck_any g (h.on hB0)
  have q : (ckE f hs g body.length != 0) = true := by simpa using hE
  have hW := hw0.symm
  clear hb0 hB0 hw0 h hE
  generalize ckE f hs g body.length = E at *
  go_enter Tryz.func78, Tryz.ntmps78
  go_wp2_with first
    | ((with_reducible show wpList _ _ _ ({ dst := _, op := Op.load 36 (Operand.tmp 1), type := _, pos := _, after := _, guard := _ } :: _) _ _); refine armL (.tmp 1) 36 rfl rfl rfl HL0.out ?_)
  refine Calls.mono HSZ.out ?_
  rintro e w1 ⟨rfl, hb1⟩
  have HB1 : Hid (Below w.heap.size w w1) := HB0.out.trans (hb1.mono HB0.out.size)
  clear hb1 HSZ HL0 HB0
  go_wp2
  go_ret2
  exact ⟨rfl, HB1.out⟩
set_option maxHeartbeats 4000000 in
set_option maxRecDepth 100000 in
theorem RWrite_yes (h : D6 (fun b => b < w.heap.size) w f vh vb hs body) (hE : ckE f hs g body.length = 0) (he : f.ad = u8L A) (hf : Fit A) (hcl : 0 ≤ f.cls ∧ f.cls < 256) (hhp : 0 ≤ f.hop ∧ f.hop < 256) (hpr : 0 ≤ f.proto ∧ f.proto < 256) (hid : 0 ≤ g.id ∧ g.id ≤ 4294967295) :
    Calls Tryz.prog 78 #[VV f g vh vb] w fun e w' => ∃ v', e = .returned (.tuple #[v', .int .i64 0]) ∧ OB w.heap.size w w' v' (wrL f A hs g body) := by
  obtain ⟨w0, hw0⟩ : ∃ w0, w0 = w.alloc (BV f g vh vb) := ⟨_, rfl⟩
  have hb0 : w0.heap[w.heap.size]? = some (BV f g vh vb) := by rw [hw0]; exact blk_new w (BV f g vh vb)
  have hB0 : Below w.heap.size w w0 := by rw [hw0]; exact (Below.refl w.heap.size w).alloc (Nat.le_refl _) (BV f g vh vb)
  have HL0 : Hid _ := vb_load hb0
  have HV0 : Hid (w0.heap[w.heap.size]? = some (BV f g vh vb)) := hb0
  have HB0 : Hid (Below w.heap.size w w0) := hB0
  have hSZ := RCheck_any g (h.on hB0)
  rw [hE] at hSZ
  obtain ⟨hok, hlen⟩ := ck_zero hE
  have hal := ahead6_le g.fr hok.2.1
  obtain ⟨al, hale⟩ : ∃ al : Nat, ahead6 hs g.fr = al := ⟨_, rfl⟩
  obtain ⟨nb, hnb⟩ : ∃ nb : Nat, body.length = nb := ⟨_, rfl⟩
  obtain ⟨n, hn⟩ : ∃ n : Nat, al - 40 + nb = n := ⟨_, rfl⟩
  rw [hale] at hal hlen
  rw [hnb] at hlen
  have HSZ : Hid _ := hSZ
  have hlab : 0 ≤ f.lab ∧ f.lab ≤ 1048575 := ⟨h.lab.1, hok.1⟩
  have hnx : ∀ i, 0 ≤ nx6 hs g.fr f.proto i ∧ nx6 hs g.fr f.proto i < 256 := fun i => by
    unfold nx6
    split
    · exact h.hd.fit i
    · split
      · omega
      · exact hpr
  have HHE : Hid (∀ X, Below w.heap.size w X → Calls Tryz.prog 89 #[VV f g vh vb] X fun e w' => e = .returned (.int .i64 (al : Int)) ∧ Below X.heap.size X w') := fun X hX => by
    have := Rheads_calls X (vC_l6 (f := f) (g := g) h.hd.one h.bd.one) hs (OptsAt.up h.hd.opts hX hX.size) (headsB_tot hok.2.1)
    rw [ahead6_int, hale] at this
    exact this
  have HNX : Hid (∀ X, Below w.heap.size w X → ∀ i : Nat, Calls Tryz.prog 153 #[VV f g vh vb, .int .i64 i] X fun e w' => e = .returned (.int .u8 (nx6 hs g.fr f.proto i)) ∧ Below X.heap.size X w') := fun X hX i => Rnext_calls X (vC_l6 (f := f) (g := g) h.hd.one h.bd.one) hs (OptsAt.up h.hd.opts hX hX.size) i
  have HNXB : Hid (∀ i, 0 ≤ nx6 hs g.fr f.proto i ∧ nx6 hs g.fr f.proto i < 256) := hnx
  have HHK : Hid (∀ i, i < hs.length → ((2 + (oD hs i).length) / 8 - 1 : Nat) < 256 ∧ 8 ≤ 2 + (oD hs i).length ∧ (oD hs i).length ≤ 2046) := fun i hi => by
    have := hok.2.1.2 i hi
    unfold headOk at this
    simp at this
    omega
  have HOF : Hid (g.fr = true → 0 ≤ g.off ∧ g.off ≤ 8191) := fun hfr => by
    have h3 := hok.2.2
    unfold endB at h3
    rw [if_pos hfr] at h3
    simpa using h3
  have hhl : hs.length ≤ 8 := hok.2.1.1
  have HTOT : Hid (∀ k, k ≤ hs.length → oTot hs k ≤ 100000) := fun k hk => headsB_tot hok.2.1 k hk
  obtain ⟨ah, ch, hvh⟩ : ∃ a c, vh = .slice a hs.length c := by obtain ⟨_, _, a, cap, e, _⟩ := h.hd; exact ⟨_, _, e⟩
  obtain ⟨ab, cb, hvb⟩ : ∃ a c, vb = .slice a nb c := by obtain ⟨_, _, a, cap, e, _⟩ := h.bd.row; rw [hnb] at e; exact ⟨_, _, e⟩
  subst hvh hvb
  have HD : Hid (D6 (fun b => b < w.heap.size) w f (.slice ah hs.length ch) (.slice ab nb cb) hs body) := h
  have HWL : Hid (frontL f A (nx6 hs g.fr f.proto 0) n ++ hdsL hs g.fr f.proto hs.length ++ (if g.fr then fragL g.id g.off g.more f.proto else []) ++ body = wrL f A hs g body) := by
    show _ = wrL f A hs g body
    unfold wrL
    rw [hale, hnb, hn]
  have HE : Hid (f.ad = u8L A ∧ Fit A) := ⟨he, hf⟩
  have HAL : Hid (A.length = 32) := by show A.length = 32; have := f.len; rw [he] at this; simpa [u8L] using this
  have HNB : Hid _ := hnb
  have w16 : IntKind.i64.wrap ((al : Int) - 40) = (al : Int) - 40 := wrapi64 _ (by omega)
  have w20 : IntKind.i64.wrap ((al : Int) - 40 + (nb : Int)) = (n : Int) := by rw [show (al : Int) - 40 + (nb : Int) = (n : Int) by omega]; exact wrapi64 _ (by omega)
  have e20 : (al : Int) - 40 + (nb : Int) = (n : Int) := by omega
  have hnn : n ≤ 65535 := by omega
  have hW := hw0.symm
  clear hb0 hB0 hw0 h hSZ hE hok hnx he hf hale hnb hn
  go_enter Tryz.func78, Tryz.ntmps78
  go_wp2_with first
    | ((with_reducible show wpList _ _ _ ({ dst := _, op := Op.load 36 (Operand.tmp 1), type := _, pos := _, after := _, guard := _ } :: _) _ _); refine armL (.tmp 1) 36 rfl rfl rfl HL0.out ?_)
  refine Calls.mono HSZ.out ?_
  rintro e w1 ⟨rfl, hb1⟩
  have HB1 : Hid (Below w.heap.size w w1) := HB0.out.trans (hb1.mono HB0.out.size)
  have HV1 : Hid (w1.heap[w.heap.size]? = some (BV f g (.slice ah hs.length ch) (.slice ab nb cb))) := blk_on HV0.out hb1
  clear hb1 HSZ HL0 HB0 HV0
  have HLX : Hid (∀ x : Hi w1, (Instr.loadAt 36 (.pointer (some ⟨w.heap.size, 0, none⟩))).run Tryz.prog x.W = .ok (VV f g (.slice ah hs.length ch) (.slice ab nb cb)) x.W) := fun x => vb_load (blk_on HV1.out x.below)
  have k41 : ∀ x : Hi w1, x.W.cell? ⟨w.heap.size, 41, none⟩ = some (.slice ab nb cb) := fun x => vb41 (blk_on HV1.out x.below)
  have HHX : Hid (∀ x : Hi w1, Calls Tryz.prog 89 #[VV f g (.slice ah hs.length ch) (.slice ab nb cb)] x.W fun e w' => e = .returned (.int .i64 (al : Int)) ∧ Below x.W.heap.size x.W w') := fun x => HHE.out _ (HB1.out.trans (x.below.mono HB1.out.size))
  go_wp2_with fail
  refine wp_region_hi (by kernel_rfl) (by kernel_rfl) ?_
  repeat (first | go_big_quiet_skip | (go_big_quiet_want; refine hi_load (.tmp 1) 36 rfl rfl HLX.out ?_; simp only [Act.put, List.setIfInBounds_toArray, List.set_cons_zero, List.set_cons_succ]; go_big_quiet_on) | (go_big_quiet_want; go_big_quiet_op; first | go_big_quiet_on | go_big_quiet_call (first | (go_at_call 89; with_reducible exact Hi.calls (HHX.out _)))))
  refine wpQuiet_nil ?_
  intro _ hw
  obtain ⟨y, rfl⟩ := hw
  have HB2 : Hid (Below w.heap.size w y.W) := HB1.out.trans (y.below.mono HB1.out.size)
  have HV2 : Hid (y.W.heap[w.heap.size]? = some (BV f g (.slice ah hs.length ch) (.slice ab nb cb))) := blk_on HV1.out y.below
  clear HLX k41 HHX HB1 HV1 HHE w16 w20 e20
  generalize y.W = w2 at *
  go_wp2_with fail
  refine region_mid (fun a0 a' w' => ∃ x50, a' = (((((((((((((((((((((((((((((((a0.put (some 21) (.pointer (some ⟨w.heap.size, 0, none⟩))).put (some 22) (.int .u8 f.cls)).put (some 23) (.int .u8 (f.cls / 16))).put (some 24) (.int .u8 (96 + f.cls / 16))).put (some 25) (.pointer (some ⟨w.heap.size, 0, none⟩))).put (some 26) (.int .u8 f.cls)).put (some 27) (.int .u8 (f.cls % 16))).put (some 28) (.int .u8 (f.cls % 16 * 16))).put (some 29) (.pointer (some ⟨w.heap.size, 1, none⟩))).put (some 30) (.int .u32 f.lab)).put (some 31) (.int .u32 (f.lab / 65536))).put (some 32) (.int .u8 (f.lab / 65536))).put (some 33) (.int .u8 (f.cls % 16 * 16 + f.lab / 65536))).put (some 34) (.pointer (some ⟨w.heap.size, 1, none⟩))).put (some 35) (.int .u32 f.lab)).put (some 36) (.int .u32 (f.lab / 256))).put (some 37) (.int .u8 (f.lab / 256 % 256))).put (some 38) (.pointer (some ⟨w.heap.size, 1, none⟩))).put (some 39) (.int .u32 f.lab)).put (some 40) (.int .u8 (f.lab % 256))).put (some 41) (.int .i64 (n : Nat))).put (some 42) (.int .i64 ((n : Int) / 256))).put (some 43) (.int .u8 ((n : Int) / 256))).put (some 44) (.int .i64 (n : Nat))).put (some 45) (.int .u8 ((n : Int) % 256))).put (some 46) (VV f g (.slice ah hs.length ch) (.slice ab nb cb))).put (some 48) (.pointer (some ⟨w.heap.size, 2, none⟩))).put (some 49) (.int .u8 f.hop)).put (some 47) (.int .u8 (nx6 hs g.fr f.proto 0))).put (some 50) (.slice (some ⟨x50, 0, none⟩) 8 8)).put (some 6) (.slice (some ⟨x50, 0, none⟩) 8 8)) ∧ OB w.heap.size w w' (.slice (some ⟨x50, 0, none⟩) 8 8) [96 + f.cls / 16, f.cls % 16 * 16 + f.lab / 65536, f.lab / 256 % 256, f.lab % 256, (n : Int) / 256, (n : Int) % 256, nx6 hs g.fr f.proto 0, f.hop] ∧ w'.heap[w.heap.size]? = some (BV f g (.slice ah hs.length ch) (.slice ab nb cb))) ?_ ?_
  · skip
    refine wp_region_held (S := fun X => X.heap[w.heap.size]? = some (BV f g (.slice ah hs.length ch) (.slice ab nb cb))) (by kernel_rfl) ?_
    show wpAnyH _ _ _ _ _ 31 (Array.replicate 31 false) _ _
    have hs0 : w2.drew.heap[w.heap.size]? = some (BV f g (.slice ah hs.length ch) (.slice ab nb cb)) := HV2.out
    refine take_one (i := 0) (d := some 21) (v := .pointer (some ⟨w.heap.size, 0, none⟩)) rfl rfl rfl (by kernel_rfl) (by kernel_rfl) (by kernel_rfl) (fun _ _ _ _ _ h => h.elim) (fun W hS => by kernel_rfl) hs0 ?_
    simp only [Act.put, List.setIfInBounds_toArray, List.set_cons_zero, List.set_cons_succ]
    refine take_one (i := 1) (d := some 22) (v := .int .u8 f.cls) rfl rfl rfl (by kernel_rfl) (by kernel_rfl) (by kernel_rfl) (fun _ _ _ _ _ h => h.elim) (fun W hS => ex_loadA (.tmp 21) 5 rfl rfl (ld_u8 (blk_cell (j := 0) hS rfl))) hs0 ?_
    simp only [Act.put, List.setIfInBounds_toArray, List.set_cons_zero, List.set_cons_succ]
    refine take_one (i := 2) (d := some 23) (v := .int .u8 (f.cls / 16)) rfl rfl rfl (by kernel_rfl) (by kernel_rfl) (by kernel_rfl) (fun _ _ _ _ _ h => h.elim) (fun W hS => u8q16 (.tmp 22) rfl rfl hcl rfl) hs0 ?_
    simp only [Act.put, List.setIfInBounds_toArray, List.set_cons_zero, List.set_cons_succ]
    refine take_one (i := 3) (d := some 24) (v := .int .u8 (96 + f.cls / 16)) rfl rfl rfl (by kernel_rfl) (by kernel_rfl) (by kernel_rfl) (fun _ _ _ _ _ h => h.elim) (fun W hS => u8add (.const (.int .u8 96)) (.tmp 23) rfl rfl rfl rfl (by omega)) hs0 ?_
    simp only [Act.put, List.setIfInBounds_toArray, List.set_cons_zero, List.set_cons_succ]
    refine take_one (i := 4) (d := some 25) (v := .pointer (some ⟨w.heap.size, 0, none⟩)) rfl rfl rfl (by kernel_rfl) (by kernel_rfl) (by kernel_rfl) (fun _ _ _ _ _ h => h.elim) (fun W hS => by kernel_rfl) hs0 ?_
    simp only [Act.put, List.setIfInBounds_toArray, List.set_cons_zero, List.set_cons_succ]
    refine take_one (i := 5) (d := some 26) (v := .int .u8 f.cls) rfl rfl rfl (by kernel_rfl) (by kernel_rfl) (by kernel_rfl) (fun _ _ _ _ _ h => h.elim) (fun W hS => ex_loadA (.tmp 25) 5 rfl rfl (ld_u8 (blk_cell (j := 0) hS rfl))) hs0 ?_
    simp only [Act.put, List.setIfInBounds_toArray, List.set_cons_zero, List.set_cons_succ]
    refine take_one (i := 6) (d := some 27) (v := .int .u8 (f.cls % 16)) rfl rfl rfl (by kernel_rfl) (by kernel_rfl) (by kernel_rfl) (fun _ _ _ _ _ h => h.elim) (fun W hS => u8r16 (.tmp 26) rfl rfl hcl rfl) hs0 ?_
    simp only [Act.put, List.setIfInBounds_toArray, List.set_cons_zero, List.set_cons_succ]
    refine take_one (i := 7) (d := some 28) (v := .int .u8 (f.cls % 16 * 16)) rfl rfl rfl (by kernel_rfl) (by kernel_rfl) (by kernel_rfl) (fun _ _ _ _ _ h => h.elim) (fun W hS => u8m16 (.tmp 27) rfl rfl rfl (by omega)) hs0 ?_
    simp only [Act.put, List.setIfInBounds_toArray, List.set_cons_zero, List.set_cons_succ]
    refine take_one (i := 8) (d := some 29) (v := .pointer (some ⟨w.heap.size, 1, none⟩)) rfl rfl rfl (by kernel_rfl) (by kernel_rfl) (by kernel_rfl) (fun _ _ _ _ _ h => h.elim) (fun W hS => by kernel_rfl) hs0 ?_
    simp only [Act.put, List.setIfInBounds_toArray, List.set_cons_zero, List.set_cons_succ]
    refine take_one (i := 9) (d := some 30) (v := .int .u32 f.lab) rfl rfl rfl (by kernel_rfl) (by kernel_rfl) (by kernel_rfl) (fun _ _ _ _ _ h => h.elim) (fun W hS => ex_loadA (.tmp 29) 33 rfl rfl (ld_u32 (blk_cell (j := 1) hS rfl))) hs0 ?_
    simp only [Act.put, List.setIfInBounds_toArray, List.set_cons_zero, List.set_cons_succ]
    refine take_one (i := 10) (d := some 31) (v := .int .u32 (f.lab / 65536)) rfl rfl rfl (by kernel_rfl) (by kernel_rfl) (by kernel_rfl) (fun _ _ _ _ _ h => h.elim) (fun W hS => u32q 65536 (.tmp 30) rfl rfl (by decide) (by omega) rfl (by omega)) hs0 ?_
    simp only [Act.put, List.setIfInBounds_toArray, List.set_cons_zero, List.set_cons_succ]
    refine take_one (i := 11) (d := some 32) (v := .int .u8 (f.lab / 65536)) rfl rfl rfl (by kernel_rfl) (by kernel_rfl) (by kernel_rfl) (fun _ _ _ _ _ h => h.elim) (fun W hS => cv328 (.tmp 31) rfl rfl (by omega)) hs0 ?_
    simp only [Act.put, List.setIfInBounds_toArray, List.set_cons_zero, List.set_cons_succ]
    refine take_one (i := 12) (d := some 33) (v := .int .u8 (f.cls % 16 * 16 + f.lab / 65536)) rfl rfl rfl (by kernel_rfl) (by kernel_rfl) (by kernel_rfl) (fun _ _ _ _ _ h => h.elim) (fun W hS => u8add (.tmp 28) (.tmp 32) rfl rfl rfl rfl (by omega)) hs0 ?_
    simp only [Act.put, List.setIfInBounds_toArray, List.set_cons_zero, List.set_cons_succ]
    refine take_one (i := 13) (d := some 34) (v := .pointer (some ⟨w.heap.size, 1, none⟩)) rfl rfl rfl (by kernel_rfl) (by kernel_rfl) (by kernel_rfl) (fun _ _ _ _ _ h => h.elim) (fun W hS => by kernel_rfl) hs0 ?_
    simp only [Act.put, List.setIfInBounds_toArray, List.set_cons_zero, List.set_cons_succ]
    refine take_one (i := 14) (d := some 35) (v := .int .u32 f.lab) rfl rfl rfl (by kernel_rfl) (by kernel_rfl) (by kernel_rfl) (fun _ _ _ _ _ h => h.elim) (fun W hS => ex_loadA (.tmp 34) 33 rfl rfl (ld_u32 (blk_cell (j := 1) hS rfl))) hs0 ?_
    simp only [Act.put, List.setIfInBounds_toArray, List.set_cons_zero, List.set_cons_succ]
    refine take_one (i := 15) (d := some 36) (v := .int .u32 (f.lab / 256)) rfl rfl rfl (by kernel_rfl) (by kernel_rfl) (by kernel_rfl) (fun _ _ _ _ _ h => h.elim) (fun W hS => u32q 256 (.tmp 35) rfl rfl (by decide) (by omega) rfl (by omega)) hs0 ?_
    simp only [Act.put, List.setIfInBounds_toArray, List.set_cons_zero, List.set_cons_succ]
    refine take_one (i := 16) (d := some 37) (v := .int .u8 (f.lab / 256 % 256)) rfl rfl rfl (by kernel_rfl) (by kernel_rfl) (by kernel_rfl) (fun _ _ _ _ _ h => h.elim) (fun W hS => cv328 (.tmp 36) rfl rfl rfl) hs0 ?_
    simp only [Act.put, List.setIfInBounds_toArray, List.set_cons_zero, List.set_cons_succ]
    refine take_one (i := 17) (d := some 38) (v := .pointer (some ⟨w.heap.size, 1, none⟩)) rfl rfl rfl (by kernel_rfl) (by kernel_rfl) (by kernel_rfl) (fun _ _ _ _ _ h => h.elim) (fun W hS => by kernel_rfl) hs0 ?_
    simp only [Act.put, List.setIfInBounds_toArray, List.set_cons_zero, List.set_cons_succ]
    refine take_one (i := 18) (d := some 39) (v := .int .u32 f.lab) rfl rfl rfl (by kernel_rfl) (by kernel_rfl) (by kernel_rfl) (fun _ _ _ _ _ h => h.elim) (fun W hS => ex_loadA (.tmp 38) 33 rfl rfl (ld_u32 (blk_cell (j := 1) hS rfl))) hs0 ?_
    simp only [Act.put, List.setIfInBounds_toArray, List.set_cons_zero, List.set_cons_succ]
    refine take_one (i := 19) (d := some 40) (v := .int .u8 (f.lab % 256)) rfl rfl rfl (by kernel_rfl) (by kernel_rfl) (by kernel_rfl) (fun _ _ _ _ _ h => h.elim) (fun W hS => cv328 (.tmp 39) rfl rfl rfl) hs0 ?_
    simp only [Act.put, List.setIfInBounds_toArray, List.set_cons_zero, List.set_cons_succ]
    refine take_one (i := 20) (d := some 41) (v := .int .i64 (n : Nat)) rfl rfl rfl (by kernel_rfl) (by kernel_rfl) (by kernel_rfl) (fun _ _ _ _ _ h => h.elim) (fun W hS => by kernel_rfl) hs0 ?_
    simp only [Act.put, List.setIfInBounds_toArray, List.set_cons_zero, List.set_cons_succ]
    refine take_one (i := 21) (d := some 42) (v := .int .i64 ((n : Int) / 256)) rfl rfl rfl (by kernel_rfl) (by kernel_rfl) (by kernel_rfl) (fun _ _ _ _ _ h => h.elim) (fun W hS => i64q256 (.tmp 41) rfl rfl (by omega) rfl) hs0 ?_
    simp only [Act.put, List.setIfInBounds_toArray, List.set_cons_zero, List.set_cons_succ]
    refine take_one (i := 22) (d := some 43) (v := .int .u8 ((n : Int) / 256)) rfl rfl rfl (by kernel_rfl) (by kernel_rfl) (by kernel_rfl) (fun _ _ _ _ _ h => h.elim) (fun W hS => cvi8 (.tmp 42) rfl rfl (by omega)) hs0 ?_
    simp only [Act.put, List.setIfInBounds_toArray, List.set_cons_zero, List.set_cons_succ]
    refine take_one (i := 23) (d := some 44) (v := .int .i64 (n : Nat)) rfl rfl rfl (by kernel_rfl) (by kernel_rfl) (by kernel_rfl) (fun _ _ _ _ _ h => h.elim) (fun W hS => by kernel_rfl) hs0 ?_
    simp only [Act.put, List.setIfInBounds_toArray, List.set_cons_zero, List.set_cons_succ]
    refine take_one (i := 24) (d := some 45) (v := .int .u8 ((n : Int) % 256)) rfl rfl rfl (by kernel_rfl) (by kernel_rfl) (by kernel_rfl) (fun _ _ _ _ _ h => h.elim) (fun W hS => cvi8 (.tmp 44) rfl rfl rfl) hs0 ?_
    simp only [Act.put, List.setIfInBounds_toArray, List.set_cons_zero, List.set_cons_succ]
    refine take_one (i := 25) (d := some 46) (v := VV f g (.slice ah hs.length ch) (.slice ab nb cb)) rfl rfl rfl (by kernel_rfl) (by kernel_rfl) (by kernel_rfl) (fun _ _ _ _ _ h => h.elim) (fun W hS => ex_loadA (.tmp 1) 36 rfl rfl (vb_load hS)) hs0 ?_
    simp only [Act.put, List.setIfInBounds_toArray, List.set_cons_zero, List.set_cons_succ]
    refine take_one (i := 27) (d := some 48) (v := .pointer (some ⟨w.heap.size, 2, none⟩)) rfl rfl rfl (by kernel_rfl) (by kernel_rfl) (by kernel_rfl) (fun _ _ _ _ _ h => h.elim) (fun W hS => by kernel_rfl) hs0 ?_
    simp only [Act.put, List.setIfInBounds_toArray, List.set_cons_zero, List.set_cons_succ]
    refine take_one (i := 28) (d := some 49) (v := .int .u8 f.hop) rfl rfl rfl (by kernel_rfl) (by kernel_rfl) (by kernel_rfl) (fun _ _ _ _ _ h => h.elim) (fun W hS => ex_loadA (.tmp 48) 5 rfl rfl (ld_u8 (blk_cell (j := 2) hS rfl))) hs0 ?_
    simp only [Act.put, List.setIfInBounds_toArray, List.set_cons_zero, List.set_cons_succ]
    have hBd : Below w2.heap.size w2 w2.drew := (Below.refl _ w2).drew
    have hBw : Below w.heap.size w w2.drew := HB2.out.trans (hBd.mono HB2.out.size)
    refine all_one (i := 26) (by kernel_rfl) rfl rfl ?_
    refine wp_call (d := some 47) (R := fun v X => v = .int .u8 (nx6 hs g.fr f.proto 0) ∧ Below w2.drew.heap.size w2.drew X) 153 _ rfl (by kernel_rfl) ((HNX.out _ hBw 0).mono (fun e w' hx => ⟨_, hx.1, rfl, hx.2⟩)) ?_
    rintro u X1 ⟨rfl, hbX⟩
    have hv1 := blk_on hs0 hbX
    refine ⟨hv1, ?_⟩
    simp only [Act.put, List.setIfInBounds_toArray, List.set_cons_zero, List.set_cons_succ]
    have hX1 : Below w.heap.size w X1 := hBw.trans (hbX.mono hBw.size)
    have ho8 := OB.start8 hX1 [96 + f.cls / 16, f.cls % 16 * 16 + f.lab / 65536, f.lab / 256 % 256, f.lab % 256, (n : Int) / 256, (n : Int) % 256, nx6 hs g.fr f.proto 0, f.hop] #[.int .u8 (96 + f.cls / 16), .int .u8 (f.cls % 16 * 16 + f.lab / 65536), .int .u8 (f.lab / 256 % 256), .int .u8 (f.lab % 256), .int .u8 ((n : Int) / 256), .int .u8 ((n : Int) % 256), .int .u8 (nx6 hs g.fr f.proto 0), .int .u8 f.hop] rfl rfl
    refine all_one (i := 29) (by kernel_rfl) rfl rfl ?_
    refine wp_valA (d := some 50) rfl (v := .slice (some ⟨X1.heap.size, 0, none⟩) 8 8) (w2 := X1.alloc (.cells #[.int .u8 (96 + f.cls / 16), .int .u8 (f.cls % 16 * 16 + f.lab / 65536), .int .u8 (f.lab / 256 % 256), .int .u8 (f.lab % 256), .int .u8 ((n : Int) / 256), .int .u8 ((n : Int) % 256), .int .u8 (nx6 hs g.fr f.proto 0), .int .u8 f.hop] 5)) (by kernel_rfl) ⟨blk_alloc hv1 _, ?_⟩
    simp only [Act.put, List.setIfInBounds_toArray, List.set_cons_zero, List.set_cons_succ]
    refine take_one (i := 30) (d := some 6) (v := .slice (some ⟨X1.heap.size, 0, none⟩) 8 8) rfl rfl rfl (by kernel_rfl) (by kernel_rfl) (by kernel_rfl) (fun _ _ _ _ _ h => h.elim) (fun W hS => by kernel_rfl) (blk_alloc hv1 _) ?_
    simp only [Act.put, List.setIfInBounds_toArray, List.set_cons_zero, List.set_cons_succ]
    refine wpAnyH_done (by kernel_rfl) ?_ _
    exact ⟨X1.heap.size, rfl, ho8, blk_alloc hv1 _⟩
  · rintro a' w3 ⟨x50, rfl, ho3, hv3⟩
    simp only [Act.put, List.setIfInBounds_toArray, List.set_cons_zero, List.set_cons_succ]
    have HO3 : Hid _ := ho3
    have HV3 : Hid (w3.heap[w.heap.size]? = some (BV f g (.slice ah hs.length ch) (.slice ab nb cb))) := hv3
    clear ho3 hv3
    go_wp2_with fail
    refine region_mid (fun a0 a' w' => ∃ v4 v54, a' = ((((((((a0.put (some 51) (.slice (some ⟨x50, 0, none⟩) 8 8)).put (some 52) (.pointer (some ⟨w.heap.size, 3, none⟩))).put (some 53) (.slice (some ⟨w.heap.size, 3, none⟩) 16 16)).put (some 55) (.pointer (some ⟨w.heap.size, 19, none⟩))).put (some 56) (.slice (some ⟨w.heap.size, 19, none⟩) 16 16)).put (some 54) (v54)).put (some 57) (v4)).put (some 6) (v4)) ∧ OB w.heap.size w w' v4 (frontL f A (nx6 hs g.fr f.proto 0) n) ∧ w'.heap[w.heap.size]? = some (BV f g (.slice ah hs.length ch) (.slice ab nb cb))) ?_ ?_
    · skip
      refine wp_region_held (S := fun X => X.heap[w.heap.size]? = some (BV f g (.slice ah hs.length ch) (.slice ab nb cb))) (by kernel_rfl) ?_
      show wpAnyH _ _ _ _ _ 8 (Array.replicate 8 false) _ _
      have hs0 : w3.drew.heap[w.heap.size]? = some (BV f g (.slice ah hs.length ch) (.slice ab nb cb)) := HV3.out
      refine take_one (i := 0) (d := some 51) (v := .slice (some ⟨x50, 0, none⟩) 8 8) rfl rfl rfl (by kernel_rfl) (by kernel_rfl) (by kernel_rfl) (fun _ _ _ _ _ h => h.elim) (fun W hS => by kernel_rfl) hs0 ?_
      simp only [Act.put, List.setIfInBounds_toArray, List.set_cons_zero, List.set_cons_succ]
      refine take_one (i := 1) (d := some 52) (v := .pointer (some ⟨w.heap.size, 3, none⟩)) rfl rfl rfl (by kernel_rfl) (by kernel_rfl) (by kernel_rfl) (fun _ _ _ _ _ h => h.elim) (fun W hS => by kernel_rfl) hs0 ?_
      simp only [Act.put, List.setIfInBounds_toArray, List.set_cons_zero, List.set_cons_succ]
      refine take_one (i := 2) (d := some 53) (v := .slice (some ⟨w.heap.size, 3, none⟩) 16 16) rfl rfl rfl (by kernel_rfl) (by kernel_rfl) (by kernel_rfl) (fun _ _ _ _ _ h => h.elim) (fun W hS => by kernel_rfl) hs0 ?_
      simp only [Act.put, List.setIfInBounds_toArray, List.set_cons_zero, List.set_cons_succ]
      refine take_one (i := 4) (d := some 55) (v := .pointer (some ⟨w.heap.size, 19, none⟩)) rfl rfl rfl (by kernel_rfl) (by kernel_rfl) (by kernel_rfl) (fun _ _ _ _ _ h => h.elim) (fun W hS => by kernel_rfl) hs0 ?_
      simp only [Act.put, List.setIfInBounds_toArray, List.set_cons_zero, List.set_cons_succ]
      refine take_one (i := 5) (d := some 56) (v := .slice (some ⟨w.heap.size, 19, none⟩) 16 16) rfl rfl rfl (by kernel_rfl) (by kernel_rfl) (by kernel_rfl) (fun _ _ _ _ _ h => h.elim) (fun W hS => by kernel_rfl) hs0 ?_
      simp only [Act.put, List.setIfInBounds_toArray, List.set_cons_zero, List.set_cons_succ]
      have hBd : Below w3.heap.size w3 w3.drew := (Below.refl _ w3).drew
      have hod := HO3.out.below HO3.out.bel.size hBd
      obtain ⟨hAl, hsrc, _⟩ := src_bytes hs0 HE.out.1 HE.out.2
      obtain ⟨v54, X4, hr4, ho4, hs4, hk4⟩ := hod.app hod.bel.size hsrc (by simp; omega) 25
      have hv4 := hk4 _ _ _ _ (by decide) hs0
      obtain ⟨_, _, hdst⟩ := src_bytes hv4 HE.out.1 HE.out.2
      obtain ⟨v4, X5, hr5, ho5, hs5, hk5⟩ := ho4.app hs4 hdst (by simp; omega) 25
      have hv5 := hk5 _ _ _ _ (by decide) hv4
      refine all_one (i := 3) (by kernel_rfl) rfl rfl ?_
      refine wp_append (d := some 54) (.tmp 51) (.tmp 53) 25 rfl rfl rfl rfl hr4 ⟨hv4, ?_⟩
      simp only [Act.put, List.setIfInBounds_toArray, List.set_cons_zero, List.set_cons_succ]
      refine all_one (i := 6) (by kernel_rfl) rfl rfl ?_
      refine wp_append (d := some 57) (.tmp 54) (.tmp 56) 25 rfl rfl rfl rfl hr5 ⟨hv5, ?_⟩
      simp only [Act.put, List.setIfInBounds_toArray, List.set_cons_zero, List.set_cons_succ]
      refine take_one (i := 7) (d := some 6) (v := v4) rfl rfl rfl (by kernel_rfl) (by kernel_rfl) (by kernel_rfl) (fun _ _ _ _ _ h => h.elim) (fun W hS => by kernel_rfl) hv5 ?_
      simp only [Act.put, List.setIfInBounds_toArray, List.set_cons_zero, List.set_cons_succ]
      refine wpAnyH_done (by kernel_rfl) ?_ _
      refine ⟨v4, v54, rfl, ?_, hv5⟩
      rw [List.append_assoc, List.take_append_drop] at ho5
      exact ho5
    · rintro a' w4 ⟨v4, v54, rfl, ho4, hv4⟩
      simp only [Act.put, List.setIfInBounds_toArray, List.set_cons_zero, List.set_cons_succ]
      have HO4 : Hid (OB w.heap.size w w4 v4 (frontL f A (nx6 hs g.fr f.proto 0) n)) := ho4
      have HV4 : Hid (w4.heap[w.heap.size]? = some (BV f g (.slice ah hs.length ch) (.slice ab nb cb))) := hv4
      clear ho4 hv4 HO3 HV3
      obtain ⟨N, hN⟩ : ∃ N, hs.length = N := ⟨_, rfl⟩
      have HN : Hid (hs.length = N) := hN
      rw [hN] at hhl
      clear hN
      obtain ⟨F0, hF0⟩ : ∃ F0, frontL f A (nx6 hs g.fr f.proto 0) n = F0 := ⟨_, rfl⟩
      rw [hF0] at HO4 HWL
      have hFl : F0.length = 40 := by rw [← hF0]; unfold frontL; simp [HAL.out]
      clear hF0
      go_wp2_with fail
      go_loopw [6, 7] (fun bv i wr => ∃ k : Nat, k ≤ N ∧ i = .int .i64 k ∧ Hid (OB w.heap.size w wr bv (F0 ++ hdsL hs g.fr f.proto k)) ∧ Hid (wr.heap[w.heap.size]? = some (BV f g (.slice ah hs.length ch) (.slice ab nb cb)))) (fun _ i _ => N - (intOf i).toNat)
      case atStart => exact ⟨0, Nat.zero_le _, rfl, by show OB _ _ _ _ _; simp only [hdsL, List.append_nil]; exact HO4.out, HV4.out⟩
      case round =>
        obtain ⟨k, hk, rfl, hob, hvr⟩ := hrel
        have hBr := hob.out.bel
        have hzl : (F0 ++ hdsL hs g.fr f.proto k).length ≤ 100100 := by rw [List.length_append, hdsL_len, hFl]; have := HTOT.out k (by rw [HN.out]; exact hk); omega
        have k35 : wr.cell? ⟨w.heap.size, 35, none⟩ = some (.slice ah N ch) := by have := vb35 hvr.out; rw [HN.out] at this; exact this
        by_cases hlt : k < N
        · have hki : (k : Int) < (N : Int) := by omega
          obtain ⟨bh, oh, a1, c1, ea, hbh, hbs, hc1⟩ := HD.out.hd.nthC (k := k) (by rw [HN.out]; exact hlt)
          subst ea
          have hHK := HHK.out k (by rw [HN.out]; exact hlt)
          have HO5 : Hid (OB w.heap.size w wr u6 (F0 ++ hdsL hs g.fr f.proto k)) := hob.out
          have HV5 : Hid (wr.heap[w.heap.size]? = some (BV f g (.slice (some ⟨bh, oh, none⟩) hs.length ch) (.slice ab nb cb))) := hvr.out
          have HBS : Hid (BS (fun b => b < w.heap.size) w (.slice a1 (oD hs k).length c1) (oD hs k)) := hbs
          have HC1 : Hid (∀ X, Below w.heap.size w X → X.cell? ⟨bh, oh + k * 2 + 1, none⟩ = some (.slice a1 (oD hs k).length c1)) := hc1
          have HZ : Hid _ := hzl
          have HHD : Hid (hdsL hs g.fr f.proto (k + 1) = hdsL hs g.fr f.proto k ++ ([nx6 hs g.fr f.proto (k + 1), (((2 + (oD hs k).length) / 8 - 1 : Nat) : Int)] ++ oD hs k)) := rfl
          obtain ⟨D, hD⟩ : ∃ D, (oD hs k).length = D := ⟨_, rfl⟩
          have HDE : Hid ((oD hs k).length = D) := hD
          rw [hD] at hHK HBS HHD HC1
          obtain ⟨hn9, hn8, hn6⟩ := hHK
          obtain ⟨c9, hc9⟩ : ∃ c9 : Nat, (2 + D) / 8 - 1 = c9 := ⟨_, rfl⟩
          rw [hc9] at HHD hn9
          have HC9 : Hid _ := hc9
          have hkL : k < hs.length := by rw [HN.out]; exact hlt
          have HKL : Hid _ := hkL
          clear hob hvr hbs hBr hzl hD hc9 hc1 hkL
          go_wp2_with fail
          clear k35
          refine region_mid (fun a0 a' w' => ∃ v6 x81, a' = (((((((((((((((((((a0.put (some 65) (u6)).put (some 66) (VV f g (.slice (some ⟨bh, oh, none⟩) hs.length ch) (.slice ab nb cb))).put (some 67) (.int .i64 (k : Nat))).put (some 68) (.int .i64 ((k + 1 : Nat) : Int))).put (some 70) (.pointer (some ⟨w.heap.size, 35, none⟩))).put (some 71) (.slice (some ⟨bh, oh, none⟩) hs.length ch)).put (some 72) (.int .i64 (k : Nat))).put (some 73) (.pointer (some ⟨bh, oh + k * 2, none⟩))).put (some 74) (.pointer (some ⟨bh, oh + k * 2 + 1, none⟩))).put (some 75) (.slice a1 D c1)).put (some 76) (.int .i64 (D : Nat))).put (some 77) (.int .i64 ((2 + D : Nat) : Int))).put (some 78) (.int .i64 (((2 + D) / 8 : Nat) : Int))).put (some 79) (.int .i64 (c9 : Nat))).put (some 80) (.int .u8 (c9 : Nat))).put (some 69) (.int .u8 (nx6 hs g.fr f.proto (k + 1)))).put (some 81) (.slice (some ⟨x81, 0, none⟩) 2 2)).put (some 82) (v6)).put (some 6) (v6)) ∧ OB w.heap.size w w' v6 ((F0 ++ hdsL hs g.fr f.proto k) ++ [nx6 hs g.fr f.proto (k + 1), (c9 : Int)]) ∧ w'.heap[w.heap.size]? = some (BV f g (.slice (some ⟨bh, oh, none⟩) hs.length ch) (.slice ab nb cb))) ?_ ?_
          · skip
            refine wp_region_held (S := fun X => X.heap[w.heap.size]? = some (BV f g (.slice (some ⟨bh, oh, none⟩) hs.length ch) (.slice ab nb cb)) ∧ X.cell? ⟨bh, oh + k * 2 + 1, none⟩ = some (.slice a1 D c1)) (by kernel_rfl) ?_
            show wpAnyH _ _ _ _ _ 19 (Array.replicate 19 false) _ _
            have hBd : Below wr.heap.size wr wr.drew := (Below.refl _ wr).drew
            have hBw : Below w.heap.size w wr.drew := HO5.out.bel.trans (hBd.mono HO5.out.bel.size)
            have hs0 : wr.drew.heap[w.heap.size]? = some (BV f g (.slice (some ⟨bh, oh, none⟩) hs.length ch) (.slice ab nb cb)) ∧ wr.drew.cell? ⟨bh, oh + k * 2 + 1, none⟩ = some (.slice a1 D c1) := ⟨HV5.out, HC1.out _ hBw⟩
            refine take_one (i := 0) (d := some 65) (v := u6) rfl rfl rfl (by kernel_rfl) (by kernel_rfl) (by kernel_rfl) (fun _ _ _ _ _ h => h.elim) (fun W hS => by kernel_rfl) hs0 ?_
            simp only [Act.put, List.setIfInBounds_toArray, List.set_cons_zero, List.set_cons_succ]
            refine take_one (i := 1) (d := some 66) (v := VV f g (.slice (some ⟨bh, oh, none⟩) hs.length ch) (.slice ab nb cb)) rfl rfl rfl (by kernel_rfl) (by kernel_rfl) (by kernel_rfl) (fun _ _ _ _ _ h => h.elim) (fun W hS => ex_loadA (.tmp 1) 36 rfl rfl (vb_load hS.1)) hs0 ?_
            simp only [Act.put, List.setIfInBounds_toArray, List.set_cons_zero, List.set_cons_succ]
            refine take_one (i := 2) (d := some 67) (v := .int .i64 (k : Nat)) rfl rfl rfl (by kernel_rfl) (by kernel_rfl) (by kernel_rfl) (fun _ _ _ _ _ h => h.elim) (fun W hS => by kernel_rfl) hs0 ?_
            simp only [Act.put, List.setIfInBounds_toArray, List.set_cons_zero, List.set_cons_succ]
            refine take_one (i := 3) (d := some 68) (v := .int .i64 ((k + 1 : Nat) : Int)) rfl rfl rfl (by kernel_rfl) (by kernel_rfl) (by kernel_rfl) (fun _ _ _ _ _ h => h.elim) (fun W hS => ex_addE (.tmp 67) (.const (.int .i64 1)) rfl rfl rfl (by omega) (by omega)) hs0 ?_
            simp only [Act.put, List.setIfInBounds_toArray, List.set_cons_zero, List.set_cons_succ]
            refine take_one (i := 5) (d := some 70) (v := .pointer (some ⟨w.heap.size, 35, none⟩)) rfl rfl rfl (by kernel_rfl) (by kernel_rfl) (by kernel_rfl) (fun _ _ _ _ _ h => h.elim) (fun W hS => by kernel_rfl) hs0 ?_
            simp only [Act.put, List.setIfInBounds_toArray, List.set_cons_zero, List.set_cons_succ]
            refine take_one (i := 6) (d := some 71) (v := .slice (some ⟨bh, oh, none⟩) hs.length ch) rfl rfl rfl (by kernel_rfl) (by kernel_rfl) (by kernel_rfl) (fun _ _ _ _ _ h => h.elim) (fun W hS => ex_loadA (.tmp 70) 34 rfl rfl (ld_heads (vb35 hS.1) ⟨_, _, _, rfl⟩)) hs0 ?_
            simp only [Act.put, List.setIfInBounds_toArray, List.set_cons_zero, List.set_cons_succ]
            refine take_one (i := 7) (d := some 72) (v := .int .i64 (k : Nat)) rfl rfl rfl (by kernel_rfl) (by kernel_rfl) (by kernel_rfl) (fun _ _ _ _ _ h => h.elim) (fun W hS => by kernel_rfl) hs0 ?_
            simp only [Act.put, List.setIfInBounds_toArray, List.set_cons_zero, List.set_cons_succ]
            refine take_one (i := 8) (d := some 73) (v := .pointer (some ⟨bh, oh + k * 2, none⟩)) rfl rfl rfl (by kernel_rfl) (by kernel_rfl) (by kernel_rfl) (fun _ _ _ _ _ h => h.elim) (fun W hS => ex_idxH 71 72 rfl rfl rfl HKL.out) hs0 ?_
            simp only [Act.put, List.setIfInBounds_toArray, List.set_cons_zero, List.set_cons_succ]
            refine take_one (i := 9) (d := some 74) (v := .pointer (some ⟨bh, oh + k * 2 + 1, none⟩)) rfl rfl rfl (by kernel_rfl) (by kernel_rfl) (by kernel_rfl) (fun _ _ _ _ _ h => h.elim) (fun W hS => by kernel_rfl) hs0 ?_
            simp only [Act.put, List.setIfInBounds_toArray, List.set_cons_zero, List.set_cons_succ]
            refine take_one (i := 10) (d := some 75) (v := .slice a1 D c1) rfl rfl rfl (by kernel_rfl) (by kernel_rfl) (by kernel_rfl) (fun _ _ _ _ _ h => h.elim) (fun W hS => ex_loadA (.tmp 74) 25 rfl rfl (ld_row hS.2 ⟨_, _, _, rfl⟩)) hs0 ?_
            simp only [Act.put, List.setIfInBounds_toArray, List.set_cons_zero, List.set_cons_succ]
            refine take_one (i := 11) (d := some 76) (v := .int .i64 (D : Nat)) rfl rfl rfl (by kernel_rfl) (by kernel_rfl) (by kernel_rfl) (fun _ _ _ _ _ h => h.elim) (fun W hS => by kernel_rfl) hs0 ?_
            simp only [Act.put, List.setIfInBounds_toArray, List.set_cons_zero, List.set_cons_succ]
            refine take_one (i := 12) (d := some 77) (v := .int .i64 ((2 + D : Nat) : Int)) rfl rfl rfl (by kernel_rfl) (by kernel_rfl) (by kernel_rfl) (fun _ _ _ _ _ h => h.elim) (fun W hS => ex_addE (.tmp 76) (.const (.int .i64 2)) rfl rfl rfl (by omega) (by omega)) hs0 ?_
            simp only [Act.put, List.setIfInBounds_toArray, List.set_cons_zero, List.set_cons_succ]
            refine take_one (i := 13) (d := some 78) (v := .int .i64 (((2 + D) / 8 : Nat) : Int)) rfl rfl rfl (by kernel_rfl) (by kernel_rfl) (by kernel_rfl) (fun _ _ _ _ _ h => h.elim) (fun W hS => ex_div8 (.tmp 77) rfl rfl (by omega)) hs0 ?_
            simp only [Act.put, List.setIfInBounds_toArray, List.set_cons_zero, List.set_cons_succ]
            have e79 : (((2 + D) / 8 : Nat) : Int) - 1 = (c9 : Int) := by have := HC9.out; omega
            refine take_one (i := 14) (d := some 79) (v := .int .i64 (c9 : Nat)) rfl rfl rfl (by kernel_rfl) (by kernel_rfl) (by kernel_rfl) (fun _ _ _ _ _ h => h.elim) (fun W hS => ex_subE (.tmp 78) (.const (.int .i64 1)) rfl rfl rfl e79 (by omega)) hs0 ?_
            simp only [Act.put, List.setIfInBounds_toArray, List.set_cons_zero, List.set_cons_succ]
            refine take_one (i := 15) (d := some 80) (v := .int .u8 (c9 : Nat)) rfl rfl rfl (by kernel_rfl) (by kernel_rfl) (by kernel_rfl) (fun _ _ _ _ _ h => h.elim) (fun W hS => ex_cv8 (.tmp 79) rfl rfl (by omega)) hs0 ?_
            simp only [Act.put, List.setIfInBounds_toArray, List.set_cons_zero, List.set_cons_succ]
            refine all_one (i := 4) (by kernel_rfl) rfl rfl ?_
            refine wp_call (d := some 69) (R := fun v X => v = .int .u8 (nx6 hs g.fr f.proto (k + 1)) ∧ Below wr.drew.heap.size wr.drew X) 153 _ rfl (by kernel_rfl) ((HNX.out _ hBw (k + 1)).mono (fun e w' hx => ⟨_, hx.1, rfl, hx.2⟩)) ?_
            rintro u X1 ⟨rfl, hbX⟩
            have hX1 : Below wr.heap.size wr X1 := hBd.trans (hbX.mono hBd.size)
            have hX1w : Below w.heap.size w X1 := hBw.trans (hbX.mono hBw.size)
            have hv1 := blk_on hs0.1 hbX
            have hc1 := HC1.out _ hX1w
            refine ⟨⟨hv1, hc1⟩, ?_⟩
            simp only [Act.put, List.setIfInBounds_toArray, List.set_cons_zero, List.set_cons_succ]
            have hoX := HO5.out.below HO5.out.bel.size hX1
            obtain ⟨v6, w6, hr6, ho6, hs6, hk6⟩ := hoX.lit hX1w.size [nx6 hs g.fr f.proto (k + 1), (c9 : Int)] #[.int .u8 (nx6 hs g.fr f.proto (k + 1)), .int .u8 (c9 : Int)] rfl (fun z hz => by have := HNXB.out (k + 1); simp at hz; omega) (by have := HZ.out; simp at *; omega) 2 rfl 25
            refine all_one (i := 16) (by kernel_rfl) rfl rfl ?_
            refine wp_valA (d := some 81) rfl (v := .slice (some ⟨X1.heap.size, 0, none⟩) 2 2) (w2 := X1.alloc (.cells #[.int .u8 (nx6 hs g.fr f.proto (k + 1)), .int .u8 (c9 : Int)] 5)) (by kernel_rfl) ⟨⟨blk_alloc hv1 _, HC1.out _ (hX1w.alloc hX1w.size _)⟩, ?_⟩
            simp only [Act.put, List.setIfInBounds_toArray, List.set_cons_zero, List.set_cons_succ]
            have hS6 := (⟨hk6 _ _ _ _ (by decide) hv1, HC1.out _ ho6.bel⟩ : w6.heap[w.heap.size]? = some (BV f g (.slice (some ⟨bh, oh, none⟩) hs.length ch) (.slice ab nb cb)) ∧ w6.cell? ⟨bh, oh + k * 2 + 1, none⟩ = some (.slice a1 D c1))
            refine all_one (i := 17) (by kernel_rfl) rfl rfl ?_
            refine wp_append (d := some 82) (.tmp 65) (.tmp 81) 25 rfl rfl rfl rfl hr6 ⟨hS6, ?_⟩
            simp only [Act.put, List.setIfInBounds_toArray, List.set_cons_zero, List.set_cons_succ]
            refine take_one (i := 18) (d := some 6) (v := v6) rfl rfl rfl (by kernel_rfl) (by kernel_rfl) (by kernel_rfl) (fun _ _ _ _ _ h => h.elim) (fun W hS => by kernel_rfl) hS6 ?_
            simp only [Act.put, List.setIfInBounds_toArray, List.set_cons_zero, List.set_cons_succ]
            refine wpAnyH_done (by kernel_rfl) ?_ _
            exact ⟨v6, X1.heap.size, rfl, ho6, hS6.1⟩
          · rintro a' w8 ⟨v6, x81, rfl, ho8, hv8⟩
            simp only [Act.put, List.setIfInBounds_toArray, List.set_cons_zero, List.set_cons_succ]
            have hB8 := ho8.bel
            have k35 : w8.cell? ⟨w.heap.size, 35, none⟩ = some (.slice (some ⟨bh, oh, none⟩) N ch) := by have := vb35 hv8; rw [HN.out] at this; exact this
            have k1 : w8.cell? ⟨bh, oh + k * 2 + 1, none⟩ = some (.slice a1 D c1) := HC1.out _ hB8
            obtain ⟨v9, w9, hr9, ho9, hs9, hk9⟩ := ho8.app hB8.size ((HBS.out.on hB8).row.bytes) (by have := HZ.out; have := HDE.out; simp at *; omega) 25
            have HR9 : Hid _ := hr9
            have HO9 : Hid (OB w.heap.size w w9 v9 (F0 ++ hdsL hs g.fr f.proto (k + 1))) := by
              show OB _ _ _ _ _
              rw [HHD.out]
              simpa only [List.append_assoc] using ho9
            have HV9 : Hid (w9.heap[w.heap.size]? = some (BV f g (.slice (some ⟨bh, oh, none⟩) hs.length ch) (.slice ab nb cb))) := hk9 _ _ _ _ (by decide) hv8
            have hkb : k ≤ 8 := by omega
            clear ho8 hv8 hB8 hr9 ho9 hs9 hk9 HO5 HV5 HBS HC1
            go_wp2_with (at_builtin; refine wpList_append_run rfl _ _ _ _ rfl rfl rfl HR9.out ?_; clear HR9)
            exact ⟨⟨k + 1, by omega, by simp, HO9.out, HV9.out⟩, by simp [intOf]; omega⟩
        · have hkN : k = N := by omega
          have hNi : ¬ (k : Int) < (N : Int) := by omega
          have hob1 := hob.out
          rw [hkN, ← HN.out] at hob1
          have hv := hvr.out
          obtain ⟨fr, hfr⟩ : ∃ fr, g.fr = fr := ⟨_, rfl⟩
          have k36 := vb36 hv
          rw [hfr] at k36
          have HFR : Hid (g.fr = fr) := hfr
          have HOE : Hid (OB w.heap.size w wr u6 (F0 ++ hdsL hs g.fr f.proto hs.length)) := hob1
          have HVE : Hid (wr.heap[w.heap.size]? = some (BV f g (.slice ah hs.length ch) (.slice ab nb cb))) := hv
          have hzl' : (F0 ++ hdsL hs g.fr f.proto hs.length).length ≤ 100100 := by rw [List.length_append, hdsL_len, hFl]; have := HTOT.out hs.length (Nat.le_refl _); omega
          have HZL : Hid _ := hzl'
          clear hob hvr hob1 hv hkN hzl hBr hfr hzl' hlt
          cases fr
          · obtain ⟨v9, w9, hr9, ho9, hs9, hk9⟩ := HOE.out.app HOE.out.bel.size ((HD.out.on HOE.out.bel).bd.row.bytes) (by have := HZL.out; have := HNB.out; omega) 25
            have k41 := vb41 HVE.out
            have HR9 : Hid _ := hr9
            have HFIN : Hid (OB w.heap.size w w9 v9 (wrL f A hs g body)) := by
              show OB _ _ _ _ _
              rw [HFR.out] at ho9
              rw [← HWL.out, HFR.out]
              simp only [Bool.false_eq_true, if_false, List.append_nil]
              exact ho9
            clear hr9 ho9 hs9 hk9
            go_wp2_with (at_builtin; refine wpList_append_run rfl _ _ _ _ rfl rfl rfl HR9.out ?_; clear HR9)
            go_ret2
            exact ⟨v9, rfl, HFIN.out⟩
          · obtain ⟨o1, o2⟩ := HOF.out HFR.out
            have k37 := vb37 HVE.out
            have k38 := vb38 HVE.out
            have k39 := vb39 HVE.out
            have k40 : wr.cell? ⟨w.heap.size, 40, none⟩ = some (.int .u8 f.proto) := blk_cell HVE.out (vC_at 5)
            have hmore : ∃ mr : Bool, g.more = mr := ⟨_, rfl⟩
            obtain ⟨mr, hmr⟩ := hmore
            have HMR : Hid (g.more = mr) := hmr
            rw [hmr] at k39
            clear hmr
            obtain ⟨mi, hmi⟩ : ∃ mi : Int, mi = if mr then 1 else 0 := ⟨_, rfl⟩
            have HMI : Hid _ := hmi
            have hmib : 0 ≤ mi ∧ mi ≤ 1 := by rw [hmi]; cases mr <;> simp
            have HFL : Hid (fragL g.id g.off g.more f.proto = [f.proto, 0, g.off / 32, g.off % 32 * 8 + mi, g.id / 16777216, g.id / 65536 % 256, g.id / 256 % 256, g.id % 256]) := by
              show _ = _
              rw [HMR.out]
              unfold fragL
              rw [hmi]
            clear hmi
            obtain ⟨v8, w8, hr8, ho8, hs8, hk8⟩ := HOE.out.lit HOE.out.bel.size (fragL g.id g.off g.more f.proto) #[.int .u8 f.proto, .int .u8 0, .int .u8 (g.off / 32), .int .u8 (g.off % 32 * 8 + mi), .int .u8 (g.id / 16777216), .int .u8 (g.id / 65536 % 256), .int .u8 (g.id / 256 % 256), .int .u8 (g.id % 256)] (by rw [HFL.out]; rfl) (fun z hz => by rw [HFL.out] at hz; simp at hz; omega) (by rw [HFL.out]; have := HZL.out; simp at *; omega) 8 (by rw [HFL.out]; rfl) 25
            have hv8 := hk8 _ _ _ _ (by decide) HVE.out
            obtain ⟨v9, w9, hr9, ho9, hs9, hk9⟩ := ho8.app hs8 ((HD.out.on ho8.bel).bd.row.bytes) (by have := HZL.out; have := HNB.out; rw [List.length_append, HFL.out]; simp at *; omega) 25
            have k41 := vb41 hv8
            have HR8 : Hid _ := hr8
            have HR9 : Hid _ := hr9
            have HFIN : Hid (OB w.heap.size w w9 v9 (wrL f A hs g body)) := by
              show OB _ _ _ _ _
              rw [HFR.out] at ho9
              rw [← HWL.out, HFR.out]
              simp only [if_true]
              exact ho9
            have m1 : g.off % 256 / 32 = g.off / 32 % 8 := by omega
            have c101 : g.off / 32 % 256 = g.off / 32 := by omega
            have c106 : g.off % 32 * 8 % 256 = g.off % 32 * 8 := by omega
            have c108 : IntKind.u8.wrap (g.off % 32 * 8 + mi) = g.off % 32 * 8 + mi := wrapu8 _ (by omega)
            have c112 : g.id / 16777216 % 256 = g.id / 16777216 := by omega
            clear hr9 ho9 hs9 hk9 ho8 hk8 hv8 hr8 m1
            cases mr
            · obtain rfl : mi = 0 := HMI.out
              rw [Int.add_zero] at HR8
              go_wp2_with first
                | (at_builtin; refine wpList_append_run rfl _ _ _ _ rfl rfl rfl HR8.out ?_; clear HR8)
                | (at_builtin; refine wpList_append_run rfl _ _ _ _ rfl rfl rfl HR9.out ?_; clear HR9)
              go_ret2
              exact ⟨v9, rfl, HFIN.out⟩
            · obtain rfl : mi = 1 := HMI.out
              go_wp2_with first
                | (at_builtin; refine wpList_append_run rfl _ _ _ _ rfl rfl rfl HR8.out ?_; clear HR8)
                | (at_builtin; refine wpList_append_run rfl _ _ _ _ rfl rfl rfl HR9.out ?_; clear HR9)
              go_ret2
              exact ⟨v9, rfl, HFIN.out⟩
end
end Go.Proofs.YtpgnnplpcalbbaaGreat.V6
