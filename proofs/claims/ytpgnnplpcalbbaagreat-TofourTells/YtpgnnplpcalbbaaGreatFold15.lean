/-
  datagram of package ipv6.
  What catches a fault in Parse and Part of package ipv6.
  Parse and Part of package ipv6, of any bytes.
-/
import Derived.Test.YtpgnnplpcalbbaaGreatFold14
set_option linter.unusedVariables false
set_option linter.unusedSimpArgs false
namespace Go.Proofs.YtpgnnplpcalbbaaGreat.V6
open Go Go.RowKit
def leftB (W : World) (R : Nat) : Nat := match W.cell? ⟨R, 0, none⟩ with | some v => lenV v | none => 0
theorem RB.len {S : Nat → Prop} {W : World} {R : Nat} {rest : List Int} {at' : Nat} {c : List Value} {nx : Int} {left : Value} (h : RB S W R rest at' c nx left) : leftB W R = rest.length := by
  unfold leftB
  rw [h.k0]
  exact h.byt.row.lenV
theorem vC40 {cls lab hop p : Int} {A : List Int} {hA : A.length = 32} {g : G6} {vh vb : Value} (x : Int) : (vC (finF cls lab hop p A hA) g vh vb).set 40 (.int .u8 x) = vC (finF cls lab hop x A hA) g vh vb := vC_set 5 _
theorem vC41 {f : F6} {g : G6} {vh vb : Value} (x : Value) : (vC f g vh vb).set 41 x = vC f g vh x := vC_set 6 _
theorem rdH_go {n : Nat} {rest : List Int} {at' : Nat} {kind : Int} {hs : Opts} (hk : isH kind = true) (h8 : 8 ≤ rest.length) (hz : szH rest ≤ rest.length) (hb : hs.length < 8 ∧ kindB kind hs.length = true) : rdH (n + 1) rest at' kind hs = rdH n (rest.drop (szH rest)) (at' + szH rest) (gz rest 0) (hs ++ [(kind, (rest.take (szH rest)).drop 2)]) := by
  rw [rdH, if_pos hk, if_neg (by omega), if_neg (by omega), if_pos hb]
theorem endR_short {rest : List Int} {at' : Nat} {kind : Int} {hs : Opts} (h44 : kind = 44) (h8 : rest.length < 8) : endR (.ok hs kind rest at') = .bad at' 50 := by
  show (if kind = 44 then _ else _) = _
  rw [if_pos h44, if_pos h8]
theorem endR_frag {rest : List Int} {at' : Nat} {kind : Int} {hs : Opts} (h44 : kind = 44) (h8 : ¬ rest.length < 8) : endR (.ok hs kind rest at') = .ok hs ⟨true, gz rest 4 * 16777216 + gz rest 5 * 65536 + gz rest 6 * 256 + gz rest 7, gz rest 2 * 32 + gz rest 3 / 8, decide (gz rest 3 % 2 = 1)⟩ (gz rest 0) (rest.drop 8) := by
  show (if kind = 44 then _ else _) = _
  rw [if_pos h44, if_neg h8]
theorem endR_plain {rest : List Int} {at' : Nat} {kind : Int} {hs : Opts} (h44 : ¬ kind = 44) : endR (.ok hs kind rest at') = .ok hs zG kind rest := by
  show (if kind = 44 then _ else _) = _
  rw [if_neg h44]
  rfl
section
variable {w : World} {zs : List Int}
set_option maxHeartbeats 8000000 in
set_option maxRecDepth 100000 in
theorem datagram_any {W : World} {R : Nat} {left : Value} {cls lab : Int} (h : RB (fun b => b < w.heap.size) W R (zs.drop 6) 6 (c0 cls lab) 0 left) (hlo : w.heap.size ≤ R) (hB : Below w.heap.size w W) (hl : 40 ≤ zs.length) (hlab : 0 ≤ lab ∧ lab ≤ 4294967295) (hA : ((zs.drop 8).take 32).length = 32) (X : Ending → World → Prop)
    (xb : ∀ at' e, endR (rdH 9 (zs.drop 40) 40 (gz zs 6) []) = .bad at' e → ∀ w', Below w.heap.size w w' → X (.panicked [fltP at' e]) w')
    (xo : ∀ hs g proto body, endR (rdH 9 (zs.drop 40) 40 (gz zs 6) []) = .ok hs g proto body → ∀ w' vh vb, D6 (fun b => R < b) w' (finF cls lab (gz zs 7) proto ((zs.drop 8).take 32) hA) vh vb hs body → Below w.heap.size w w' → X (.returned (VV (finF cls lab (gz zs 7) proto ((zs.drop 8).take 32) hA) g vh vb)) w') :
    Calls Tryz.prog 194 #[.pointer (some ⟨R, 0, none⟩)] W X := by
  have hRl : R < W.heap.size := (Array.getElem?_eq_some_iff.1 h.box).1
  have hws := hB.size
  have hzl : zs.length ≤ 140737488351238 := by have := h.byt.row.len; rw [List.length_drop] at this; omega
  obtain ⟨W0, hW0⟩ : ∃ W0, W0 = W.alloc (.cells zeroV.toArray 36) := ⟨_, rfl⟩
  have hz0 : W0.heap[W.heap.size]? = some (.cells zeroV.toArray 36) := by rw [hW0]; exact blk_new W _
  have hB0 : Below W.heap.size W W0 := by rw [hW0]; exact (Below.refl W.heap.size W).alloc (Nat.le_refl _) _
  have h0 := h.on hB0
  have HO1 : Hid _ := octet_calls h0 (by rw [List.length_drop]; omega) (by omega)
  have g6 : gz (zs.drop 6) 0 = gz zs 6 := by unfold gz; rw [List.getElem?_drop]
  have g7 : gz (zs.drop 7) 0 = gz zs 7 := by unfold gz; rw [List.getElem?_drop]
  rw [g6, List.drop_drop] at HO1
  have HZ0 : Hid (W0.heap[W.heap.size]? = some (.cells zeroV.toArray 36)) := hz0
  have HB0 : Hid (Below w.heap.size w W0) := hB.trans (hB0.mono hws)
  have HG7 : Hid _ := g7
  have hfit6 : 0 ≤ gz zs 6 ∧ gz zs 6 < 256 := by
    rw [← g6]; exact gz_fit h.byt.row.fit 0
  obtain ⟨K6, hK6⟩ : ∃ K, gz zs 6 = K := ⟨_, rfl⟩
  obtain ⟨K7, hK7⟩ : ∃ K, gz zs 7 = K := ⟨_, rfl⟩
  rw [hK6] at HO1 hfit6 xb xo
  rw [hK7] at HG7 xo
  have HXB : Hid _ := xb
  have HXO : Hid _ := xo
  have hW0e : W0.heap.size = W.heap.size + 1 := by rw [hW0]; simp
  have hW := hW0.symm
  unfold zeroV at hW
  clear h h0 hz0 hB0 hW0 g6 g7 hK6 hK7 xb xo
  go_enter Tryz.func194, Tryz.ntmps194
  go_wp2_with fail
  refine Calls.mono HO1.out ?_
  rintro e w1 ⟨l1, rfl, hr1, ho1⟩
  obtain ⟨w2, hst2, hr2, hon2⟩ : ∃ w2, (Instr.storeAt 5 (.pointer (some ⟨R, 44, none⟩)) (.int .u8 K6)).run Tryz.prog w1 = .ok () w2 ∧ RB (fun b => b < w.heap.size) w2 R (zs.drop 7) 7 (c0 cls lab) K6 l1 ∧ Only R w1 w2 := ⟨_, st_u8 hr1.box (j := 44) (by rw [rC_len, vC_len]; decide) K6, hr1.next K6 (n := 42) vC_len, (Only.refl _ w1).set 44 _⟩
  have HS2 : Hid _ := hst2
  have ho2 := ho1.trans hon2
  have HON2 : Hid (Only R W0 w2) := ho2
  have HO2 : Hid _ := octet_calls hr2 (by rw [List.length_drop]; omega) (by omega)
  rw [HG7.out, List.drop_drop] at HO2
  clear hr1 ho1 hst2 hr2 hon2 ho2 HO1
  go_wp2_with first
    | ((with_reducible show wpList _ _ _ ({ dst := _, op := Op.store 5 (Operand.tmp 9) (Operand.tmp 7), type := _, pos := _, after := _, guard := _ } :: _) _ _); refine armS (.tmp 9) (Operand.tmp 7) 5 rfl rfl rfl rfl HS2.out ?_; try simp only [Act.put])
  refine Calls.mono HO2.out ?_
  rintro e w3 ⟨l3, rfl, hr3, ho3⟩
  obtain ⟨w4, hst4, hr4, hon4⟩ : ∃ w4, (Instr.storeAt 5 (.pointer (some ⟨R, 4, none⟩)) (.int .u8 K7)).run Tryz.prog w3 = .ok () w4 ∧ RB (fun b => b < w.heap.size) w4 R (zs.drop 8) 8 ((c0 cls lab).set 2 (.int .u8 K7)) K6 l3 ∧ Only R w3 w4 := ⟨_, st_u8 hr3.box (j := 4) (by rw [rC_len, vC_len]; decide) K7, hr3.put (j := 2) (by rw [vC_len]; decide) (.int .u8 K7), (Only.refl _ w3).set 4 _⟩
  have HS4 : Hid _ := hst4
  have HON4 : Hid (Only R W0 w4) := HON2.out.trans (ho3.trans hon4)
  have HR4 : Hid (RB (fun b => b < w.heap.size) w4 R (zs.drop 8) 8 ((c0 cls lab).set 2 (.int .u8 K7)) K6 l3) := hr4
  clear hr3 ho3 hst4 hr4 hon4 HO2 HON2
  go_wp2_with first
    | ((with_reducible show wpList _ _ _ ({ dst := _, op := Op.store 5 (Operand.tmp 17) (Operand.tmp 14), type := _, pos := _, after := _, guard := _ } :: _) _ _); refine armS (.tmp 17) (Operand.tmp 14) 5 rfl rfl rfl rfl HS4.out ?_; try simp only [Act.put])
  refine region_mid (fun a0 a' w' => ∃ v26 v27 l5, a' = ((((((((((a0.put (some 18) (.pointer (some ⟨R, 0, none⟩))).put (some 19) (.pointer (some ⟨R, 0, none⟩))).put (some 20) (.pointer (some ⟨R, 2, none⟩))).put (some 21) (.pointer (some ⟨R, 5, none⟩))).put (some 22) (.slice (some ⟨R, 5, none⟩) 16 16)).put (some 23) (.pointer (some ⟨R, 0, none⟩))).put (some 24) (.pointer (some ⟨R, 0, none⟩))).put (some 25) (.pointer (some ⟨R, 0, none⟩))).put (some 26) (v26)).put (some 27) (v27)) ∧ RB (fun b => b < w.heap.size) w' R (zs.drop 24) 24 (((c0 cls lab).set 2 (.int .u8 K7)).take 3 ++ u8L ((zs.drop 8).take 16) ++ ((c0 cls lab).set 2 (.int .u8 K7)).drop (3 + 16)) K6 l5 ∧ Only R W0 w') ?_ ?_
  · skip
    refine wp_region_held (S := fun _ => True) (by kernel_rfl) ?_
    show wpAnyH _ _ _ _ _ 10 (Array.replicate 10 false) _ _
    refine take_one (i := 0) (d := some 18) (v := .pointer (some ⟨R, 0, none⟩)) rfl rfl rfl (by kernel_rfl) (by kernel_rfl) (by kernel_rfl) (fun _ _ _ _ _ h => h.elim) (fun W hS => by kernel_rfl) trivial ?_
    simp only [Act.put, List.setIfInBounds_toArray, List.set_cons_zero, List.set_cons_succ]
    refine take_one (i := 1) (d := some 19) (v := .pointer (some ⟨R, 0, none⟩)) rfl rfl rfl (by kernel_rfl) (by kernel_rfl) (by kernel_rfl) (fun _ _ _ _ _ h => h.elim) (fun W hS => by kernel_rfl) trivial ?_
    simp only [Act.put, List.setIfInBounds_toArray, List.set_cons_zero, List.set_cons_succ]
    refine take_one (i := 2) (d := some 20) (v := .pointer (some ⟨R, 2, none⟩)) rfl rfl rfl (by kernel_rfl) (by kernel_rfl) (by kernel_rfl) (fun _ _ _ _ _ h => h.elim) (fun W hS => by kernel_rfl) trivial ?_
    simp only [Act.put, List.setIfInBounds_toArray, List.set_cons_zero, List.set_cons_succ]
    refine take_one (i := 3) (d := some 21) (v := .pointer (some ⟨R, 5, none⟩)) rfl rfl rfl (by kernel_rfl) (by kernel_rfl) (by kernel_rfl) (fun _ _ _ _ _ h => h.elim) (fun W hS => by kernel_rfl) trivial ?_
    simp only [Act.put, List.setIfInBounds_toArray, List.set_cons_zero, List.set_cons_succ]
    refine take_one (i := 4) (d := some 22) (v := .slice (some ⟨R, 5, none⟩) 16 16) rfl rfl rfl (by kernel_rfl) (by kernel_rfl) (by kernel_rfl) (fun _ _ _ _ _ h => h.elim) (fun W hS => by kernel_rfl) trivial ?_
    simp only [Act.put, List.setIfInBounds_toArray, List.set_cons_zero, List.set_cons_succ]
    refine take_one (i := 5) (d := some 23) (v := .pointer (some ⟨R, 0, none⟩)) rfl rfl rfl (by kernel_rfl) (by kernel_rfl) (by kernel_rfl) (fun _ _ _ _ _ h => h.elim) (fun W hS => by kernel_rfl) trivial ?_
    simp only [Act.put, List.setIfInBounds_toArray, List.set_cons_zero, List.set_cons_succ]
    refine take_one (i := 6) (d := some 24) (v := .pointer (some ⟨R, 0, none⟩)) rfl rfl rfl (by kernel_rfl) (by kernel_rfl) (by kernel_rfl) (fun _ _ _ _ _ h => h.elim) (fun W hS => by kernel_rfl) trivial ?_
    simp only [Act.put, List.setIfInBounds_toArray, List.set_cons_zero, List.set_cons_succ]
    refine take_one (i := 7) (d := some 25) (v := .pointer (some ⟨R, 0, none⟩)) rfl rfl rfl (by kernel_rfl) (by kernel_rfl) (by kernel_rfl) (fun _ _ _ _ _ h => h.elim) (fun W hS => by kernel_rfl) trivial ?_
    simp only [Act.put, List.setIfInBounds_toArray, List.set_cons_zero, List.set_cons_succ]
    have hrd := HR4.out.on ((Below.refl _ w4).drew)
    have hrun := run_calls hrd 16 (by rw [List.length_drop]; omega) (by rw [List.length_drop]; omega) (by omega)
    refine all_one (i := 8) (by kernel_rfl) rfl rfl ?_
    refine wp_call (d := some 26) (R := fun v X => ∃ l, BS (fun b => b < w.heap.size) X v ((zs.drop 8).take 16) ∧ RB (fun b => b < w.heap.size) X R (zs.drop 24) 24 ((c0 cls lab).set 2 (.int .u8 K7)) K6 l ∧ Only R w4 X) 236 _ rfl (by kernel_rfl) (hrun.mono (fun e X hx => by obtain ⟨u, l, he, hb, hr, ho⟩ := hx; rw [List.drop_drop] at hr; exact ⟨u, he, l, hb, hr, (((Only.refl R w4).drew).trans ho)⟩)) ?_
    rintro u X1 ⟨l5, hbu, hrx, hox⟩
    refine ⟨trivial, ?_⟩
    simp only [Act.put, List.setIfInBounds_toArray, List.set_cons_zero, List.set_cons_succ]
    obtain ⟨rc, X2, hcp, hr2, ho2⟩ := hrx.copied (by simp [vC_len]) hbu (by rw [List.length_take, List.length_drop]; omega) 3 (by omega) 3
    refine all_one (i := 9) (by kernel_rfl) rfl rfl ?_
    refine wp_copyA (d := some 27) (.tmp 22) (.tmp 26) 25 rfl rfl rfl rfl hcp ⟨trivial, ?_⟩
    simp only [Act.put, List.setIfInBounds_toArray, List.set_cons_zero, List.set_cons_succ]
    refine wpAnyH_done (by kernel_rfl) ?_ _
    exact ⟨u, rc, l5, rfl, hr2, HON4.out.trans (hox.trans ho2)⟩
  · rintro a' w5 ⟨v26, v27, l5, rfl, hr5, ho5⟩
    simp only [Act.put, List.setIfInBounds_toArray, List.set_cons_zero, List.set_cons_succ]
    have HR5 : Hid (RB (fun b => b < w.heap.size) w5 R (zs.drop 24) 24 (((c0 cls lab).set 2 (.int .u8 K7)).take 3 ++ u8L ((zs.drop 8).take 16) ++ ((c0 cls lab).set 2 (.int .u8 K7)).drop (3 + 16)) K6 l5) := hr5
    have HON5 : Hid (Only R W0 w5) := ho5
    clear hr5 ho5 HR4 HON4
    obtain ⟨C5, hC5⟩ : ∃ C5, ((c0 cls lab).set 2 (.int .u8 K7)).take 3 ++ u8L ((zs.drop 8).take 16) ++ ((c0 cls lab).set 2 (.int .u8 K7)).drop (3 + 16) = C5 := ⟨_, rfl⟩
    have hC5l : C5.length = 42 := by
      rw [← hC5]
      have h16 : (u8L ((zs.drop 8).take 16)).length = 16 := by unfold u8L; rw [List.length_map, List.length_take, List.length_drop]; omega
      have hVl : ((c0 cls lab).set 2 (.int .u8 K7)).length = 42 := by rw [List.length_set]; exact vC_len
      rw [List.length_append, List.length_append, List.length_take, List.length_drop, hVl, h16]
      rfl
    rw [hC5] at HR5
    have HC5 : Hid _ := hC5
    clear hC5
    go_wp2_with fail
    refine region_mid (fun a0 a' w' => ∃ v36 v37 l6, a' = ((((((((((a0.put (some 28) (.pointer (some ⟨R, 0, none⟩))).put (some 29) (.pointer (some ⟨R, 0, none⟩))).put (some 30) (.pointer (some ⟨R, 2, none⟩))).put (some 31) (.pointer (some ⟨R, 21, none⟩))).put (some 32) (.slice (some ⟨R, 21, none⟩) 16 16)).put (some 33) (.pointer (some ⟨R, 0, none⟩))).put (some 34) (.pointer (some ⟨R, 0, none⟩))).put (some 35) (.pointer (some ⟨R, 0, none⟩))).put (some 36) (v36)).put (some 37) (v37)) ∧ RB (fun b => b < w.heap.size) w' R (zs.drop 40) 40 (C5.take 19 ++ u8L ((zs.drop 24).take 16) ++ C5.drop (19 + 16)) K6 l6 ∧ Only R W0 w') ?_ ?_
    · skip
      refine wp_region_held (S := fun _ => True) (by kernel_rfl) ?_
      show wpAnyH _ _ _ _ _ 10 (Array.replicate 10 false) _ _
      refine take_one (i := 0) (d := some 28) (v := .pointer (some ⟨R, 0, none⟩)) rfl rfl rfl (by kernel_rfl) (by kernel_rfl) (by kernel_rfl) (fun _ _ _ _ _ h => h.elim) (fun W hS => by kernel_rfl) trivial ?_
      simp only [Act.put, List.setIfInBounds_toArray, List.set_cons_zero, List.set_cons_succ]
      refine take_one (i := 1) (d := some 29) (v := .pointer (some ⟨R, 0, none⟩)) rfl rfl rfl (by kernel_rfl) (by kernel_rfl) (by kernel_rfl) (fun _ _ _ _ _ h => h.elim) (fun W hS => by kernel_rfl) trivial ?_
      simp only [Act.put, List.setIfInBounds_toArray, List.set_cons_zero, List.set_cons_succ]
      refine take_one (i := 2) (d := some 30) (v := .pointer (some ⟨R, 2, none⟩)) rfl rfl rfl (by kernel_rfl) (by kernel_rfl) (by kernel_rfl) (fun _ _ _ _ _ h => h.elim) (fun W hS => by kernel_rfl) trivial ?_
      simp only [Act.put, List.setIfInBounds_toArray, List.set_cons_zero, List.set_cons_succ]
      refine take_one (i := 3) (d := some 31) (v := .pointer (some ⟨R, 21, none⟩)) rfl rfl rfl (by kernel_rfl) (by kernel_rfl) (by kernel_rfl) (fun _ _ _ _ _ h => h.elim) (fun W hS => by kernel_rfl) trivial ?_
      simp only [Act.put, List.setIfInBounds_toArray, List.set_cons_zero, List.set_cons_succ]
      refine take_one (i := 4) (d := some 32) (v := .slice (some ⟨R, 21, none⟩) 16 16) rfl rfl rfl (by kernel_rfl) (by kernel_rfl) (by kernel_rfl) (fun _ _ _ _ _ h => h.elim) (fun W hS => by kernel_rfl) trivial ?_
      simp only [Act.put, List.setIfInBounds_toArray, List.set_cons_zero, List.set_cons_succ]
      refine take_one (i := 5) (d := some 33) (v := .pointer (some ⟨R, 0, none⟩)) rfl rfl rfl (by kernel_rfl) (by kernel_rfl) (by kernel_rfl) (fun _ _ _ _ _ h => h.elim) (fun W hS => by kernel_rfl) trivial ?_
      simp only [Act.put, List.setIfInBounds_toArray, List.set_cons_zero, List.set_cons_succ]
      refine take_one (i := 6) (d := some 34) (v := .pointer (some ⟨R, 0, none⟩)) rfl rfl rfl (by kernel_rfl) (by kernel_rfl) (by kernel_rfl) (fun _ _ _ _ _ h => h.elim) (fun W hS => by kernel_rfl) trivial ?_
      simp only [Act.put, List.setIfInBounds_toArray, List.set_cons_zero, List.set_cons_succ]
      refine take_one (i := 7) (d := some 35) (v := .pointer (some ⟨R, 0, none⟩)) rfl rfl rfl (by kernel_rfl) (by kernel_rfl) (by kernel_rfl) (fun _ _ _ _ _ h => h.elim) (fun W hS => by kernel_rfl) trivial ?_
      simp only [Act.put, List.setIfInBounds_toArray, List.set_cons_zero, List.set_cons_succ]
      have hrd := HR5.out.on ((Below.refl _ w5).drew)
      have hrun := run_calls hrd 16 (by rw [List.length_drop]; omega) (by rw [List.length_drop]; omega) (by omega)
      refine all_one (i := 8) (by kernel_rfl) rfl rfl ?_
      refine wp_call (d := some 36) (R := fun v X => ∃ l, BS (fun b => b < w.heap.size) X v ((zs.drop 24).take 16) ∧ RB (fun b => b < w.heap.size) X R (zs.drop 40) 40 C5 K6 l ∧ Only R w5 X) 236 _ rfl (by kernel_rfl) (hrun.mono (fun e X hx => by obtain ⟨u, l, he, hb, hr, ho⟩ := hx; rw [List.drop_drop] at hr; exact ⟨u, he, l, hb, hr, (((Only.refl R w5).drew).trans ho)⟩)) ?_
      rintro u X1 ⟨l5, hbu, hrx, hox⟩
      refine ⟨trivial, ?_⟩
      simp only [Act.put, List.setIfInBounds_toArray, List.set_cons_zero, List.set_cons_succ]
      obtain ⟨rc, X2, hcp, hr2, ho2⟩ := hrx.copied hC5l hbu (by rw [List.length_take, List.length_drop]; omega) 19 (by omega) 3
      refine all_one (i := 9) (by kernel_rfl) rfl rfl ?_
      refine wp_copyA (d := some 37) (.tmp 32) (.tmp 36) 25 rfl rfl rfl rfl hcp ⟨trivial, ?_⟩
      simp only [Act.put, List.setIfInBounds_toArray, List.set_cons_zero, List.set_cons_succ]
      refine wpAnyH_done (by kernel_rfl) ?_ _
      exact ⟨u, rc, l5, rfl, hr2, HON5.out.trans (hox.trans ho2)⟩
    · rintro a' w6 ⟨v36, v37, l6, rfl, hr6, ho6⟩
      simp only [Act.put, List.setIfInBounds_toArray, List.set_cons_zero, List.set_cons_succ]
      have hC6 : C5.take 19 ++ u8L ((zs.drop 24).take 16) ++ C5.drop (19 + 16) = .int .u8 cls :: .int .u32 lab :: .int .u8 K7 :: (u8L ((zs.drop 8).take 32) ++ [.slice none 0 0, .bool false, .int .u32 0, .int .i64 0, .bool false, .int .u8 0, .slice none 0 0]) := by
        rw [← HC5.out]
        have hX : (u8L ((zs.drop 8).take 16)).length = 16 := by simp [u8L]; omega
        have := c_fin (.int .u8 cls) (.int .u32 lab) (.int .u8 K7) (u8L ((zs.drop 8).take 16)) (u8L ((zs.drop 24).take 16)) (List.replicate 32 (.int .u8 0)) [.slice none 0 0, .bool false, .int .u32 0, .int .i64 0, .bool false, .int .u8 0, .slice none 0 0] hX rfl
        have e32 : u8L ((zs.drop 8).take 16) ++ u8L ((zs.drop 24).take 16) = u8L ((zs.drop 8).take 32) := by
          unfold u8L
          rw [← List.map_append]
          congr 1
          have e24 : zs.drop 24 = (zs.drop 8).drop 16 := by rw [List.drop_drop]
          rw [e24]
          have := List.take_add (l := zs.drop 8) (i := 16) (j := 16)
          exact this.symm
        rw [e32] at this
        exact this
      rw [hC6] at hr6
      obtain ⟨C6, hC6e⟩ : ∃ C6, .int .u8 cls :: .int .u32 lab :: .int .u8 K7 :: (u8L ((zs.drop 8).take 32) ++ [.slice none 0 0, .bool false, .int .u32 0, .int .i64 0, .bool false, .int .u8 0, .slice none 0 0]) = C6 := ⟨_, rfl⟩
      rw [hC6e] at hr6
      have hC6l : C6.length = 42 := by
        rw [← hC6e]
        have hX : (u8L ((zs.drop 8).take 32)).length = 32 := by unfold u8L; rw [List.length_map]; exact hA
        rw [List.length_cons, List.length_cons, List.length_cons, List.length_append, hX]
        rfl
      have HR6 : Hid (RB (fun b => b < w.heap.size) w6 R (zs.drop 40) 40 C6 K6 l6) := hr6
      have HON6 : Hid (Only R W0 w6) := ho6
      have hC6v : C6 = vC (finF cls lab K7 0 ((zs.drop 8).take 32) hA) zG (.slice none 0 0) (.slice none 0 0) := by rw [← hC6e]; rfl
      rw [hC6v] at HR6
      clear hr6 ho6 hC6 HC5 hC6e hC6l hC6v
      have HI0 : Hid (Below w.heap.size w w6 ∧ w6.heap[W.heap.size]? = some (.cells zeroV.toArray 36)) := ⟨HB0.out.trans (HON6.out.below hlo), (HON6.out.other _ (by omega)).trans HZ0.out⟩
      have HRR : Hid (HRow (W.heap.size + 1) w6 (.slice none 0 0) [] []) := HRow.nil _ _
      have HF6 : Hid (0 ≤ K6 ∧ K6 < 256) := hfit6
      clear HON6 HB0 HZ0 hfit6 HR5 HON5
      obtain ⟨HH, hHH⟩ : ∃ HH, rdH 9 (zs.drop 40) 40 K6 [] = HH := ⟨_, rfl⟩
      rw [hHH] at HXB HXO
      have HHH : Hid _ := hHH
      clear hHH
      go_wp2_with fail
      go_loopw [] (fun wr => ∃ n rest at' kind hs ds vh left, Hid (RB (fun b => b < w.heap.size) wr R rest at' (vC (finF cls lab K7 0 ((zs.drop 8).take 32) hA) zG vh (.slice none 0 0)) kind left) ∧ Hid (HRow (W.heap.size + 1) wr vh hs ds) ∧ Hid (hs.length + n = 9 ∧ rdH n rest at' kind hs = HH ∧ at' + rest.length = zs.length ∧ (0 ≤ kind ∧ kind < 256)) ∧ hs.length ≤ 8 ∧ Hid (Below w.heap.size w wr ∧ wr.heap[W.heap.size]? = some (.cells zeroV.toArray 36))) (fun wr => leftB wr R)
      case atStart => exact ⟨9, zs.drop 40, 40, K6, [], [], .slice none 0 0, l6, HR6, HRR, ⟨rfl, HHH.out, by rw [List.length_drop]; omega, HF6.out⟩, by simp, HI0⟩
      case round =>
        obtain ⟨n, rest, at', kind, hs, ds, vh, left, hra, hrw, hq, hh8, hbz⟩ := hrel
        clear HR6 HRR HI0 HHH HF6
        obtain ⟨n, rfl⟩ : ∃ m, n = m + 1 := ⟨n - 1, by have := hq.out.1; omega⟩
        have kk := hra.out.k44 vC_len
        go_wp2_with fail
        refine Calls.mono (isHead_calls kind _) ?_
        rintro e wi ⟨rfl, hwi⟩
        obtain rfl := hwi.symm
        clear hwi kk
        cases hk : isH kind with
        | true =>
          have HLE : Hid _ := hra.out.len
          have HHD : Hid _ := head_calls hra.out (fun b hb => by omega) hrw.out ⟨by omega, by have := (Array.getElem?_eq_some_iff.1 hbz.out.2).1; omega⟩ hh8 (by have := hq.out.2.2.1; omega) hq.out.2.2.2 (fun e w' => (∃ (at'' : Nat) (er : Int), e = .panicked [fltP at'' er] ∧ HH = .bad at'' er ∧ Below w.heap.size w w') ∨ (e = .returned (.tuple #[]) ∧ (∃ n rest at' kind hs ds vh left, Hid (RB (fun b => b < w.heap.size) w' R rest at' (vC (finF cls lab K7 0 ((zs.drop 8).take 32) hA) zG vh (.slice none 0 0)) kind left) ∧ Hid (HRow (W.heap.size + 1) w' vh hs ds) ∧ Hid (hs.length + n = 9 ∧ rdH n rest at' kind hs = HH ∧ at' + rest.length = zs.length ∧ (0 ≤ kind ∧ kind < 256)) ∧ hs.length ≤ 8 ∧ Hid (Below w.heap.size w w' ∧ w'.heap[W.heap.size]? = some (.cells zeroV.toArray 36))) ∧ leftB w' R < rest.length))
            (fun h8 w' hb => .inl ⟨_, _, rfl, by rw [← hq.out.2.1, rdH, if_pos hk, if_pos h8], hbz.out.1.trans (hb.mono hbz.out.1.size)⟩)
            (fun h8 hz w' hb => .inl ⟨_, _, rfl, by rw [← hq.out.2.1, rdH, if_pos hk, if_neg (by omega), if_pos hz], hbz.out.1.trans (hb.mono hbz.out.1.size)⟩)
            (fun h8 hz hno w' hb => .inl ⟨_, _, rfl, by rw [← hq.out.2.1, rdH, if_pos hk, if_neg (by omega), if_neg (by omega), if_neg hno], hbz.out.1.trans (hb.mono hbz.out.1.size)⟩)
            (fun h8 hz hgo w' left' vh' ds' hr' hw' hs' => .inr ⟨rfl, ⟨n, _, _, _, _, _, vh', left', hr', hw', ⟨by have := hq.out.1; simp; omega, by rw [← rdH_go hk h8 hz hgo]; exact hq.out.2.1, by have := hq.out.2.2.1; rw [List.length_drop]; omega, gz_fit hra.out.byt.row.fit 0⟩, by simp; omega, ⟨hbz.out.1.trans (hs'.below hbz.out.1.size (fun b hb e => by omega)), hs'.blk hbz.out.2 (by omega)⟩⟩, by
              rw [hr'.len, List.length_drop]
              have : 8 ≤ szH rest := by unfold szH; omega
              omega⟩)
          have HEL : Hid (∀ (at'' : Nat) (er : Int), HH = .bad at'' er → endR HH = .bad at'' er) := fun at'' er e => by rw [e]; rfl
          clear hra hrw hq hh8 hbz
          go_wp2_with fail
          refine Calls.mono HHD.out ?_
          rintro e w7 (⟨at'', er, rfl, hbad, hb7⟩ | ⟨rfl, hinv, hlt⟩)
          · exact ⟨rfl, HXB.out _ _ (HEL.out _ _ hbad) _ hb7⟩
          · have HINV : Hid _ := hinv
            have HLT : Hid _ := hlt
            clear hinv hlt HHD
            go_wp2_with fail
            exact ⟨HINV.out, by rw [HLE.out]; exact HLT.out⟩
        | false =>
          have hHH : HH = .ok hs kind rest at' := by rw [← hq.out.2.1, rdH, if_neg (by rw [hk]; simp)]
          subst hHH
          have HLN : Hid (hs.length ≤ 8) := hh8
          by_cases h44 : kind = 44
          · have q44 : (kind == 44) = true := by simp [h44]
            have kk := hra.out.k44 vC_len
            by_cases h8 : rest.length < 8
            · have HSH : Hid _ := fragHead_short hra.out h8
              have HF : Hid (∀ w', Below w.heap.size w w' → X (.panicked [fltP at' 50]) w') := HXB.out at' 50 (endR_short h44 h8)
              have HBZ : Hid (Below w.heap.size w wr) := hbz.out.1
              clear hra hrw hq hh8 hbz HXB HXO
              go_wp2_with fail
              refine Calls.mono HSH.out ?_
              rintro e w7 ⟨rfl, hb7⟩
              exact ⟨rfl, HF.out _ (HBZ.out.trans (hb7.mono HBZ.out.size))⟩
            · have HFL : Hid _ := fragHead_long hra.out (by omega) (by have := hq.out.2.2.1; omega)
              have HRWB : Hid (HRow (W.heap.size + 1) wr vh hs ds) := hrw.out
              have HBZ : Hid (Below w.heap.size w wr ∧ wr.heap[W.heap.size]? = some (.cells zeroV.toArray 36)) := hbz.out
              have HEN : Hid (endR (.ok hs kind rest at') = .ok hs ⟨true, gz rest 4 * 16777216 + gz rest 5 * 65536 + gz rest 6 * 256 + gz rest 7, gz rest 2 * 32 + gz rest 3 / 8, decide (gz rest 3 % 2 = 1)⟩ (gz rest 0) (rest.drop 8)) := endR_frag h44 h8
              obtain ⟨GG, hGG⟩ : ∃ GG : G6, ⟨true, gz rest 4 * 16777216 + gz rest 5 * 65536 + gz rest 6 * 256 + gz rest 7, gz rest 2 * 32 + gz rest 3 / 8, decide (gz rest 3 % 2 = 1)⟩ = GG := ⟨_, rfl⟩
              rw [hGG] at HFL HEN
              obtain ⟨P0, hP0⟩ : ∃ P0, gz rest 0 = P0 := ⟨_, rfl⟩
              rw [hP0] at HFL HEN
              clear hra hrw hq hh8 hbz HXB hGG hP0
              go_wp2_with fail
              refine Calls.mono HFL.out ?_
              rintro e w7' ⟨lf, rfl, hrf, hof⟩
              have HRA : Hid (RB (fun b => b < w.heap.size) w7' R (rest.drop 8) (at' + 8) (vC (finF cls lab K7 0 ((zs.drop 8).take 32) hA) GG vh (.slice none 0 0)) P0 lf) := hrf
              have HRWA : Hid (HRow (W.heap.size + 1) w7' vh hs ds) := HRWB.out.sep (Sep.of_only (O := fun b => b = R) hof rfl) (fun b hb e => by omega)
              have HZA : Hid (w7'.heap[W.heap.size]? = some (.cells zeroV.toArray 36) ∧ Below w.heap.size w w7') := ⟨(hof.other _ (by omega)).trans HBZ.out.2, HBZ.out.1.trans (hof.below hlo)⟩
              clear hrf hof HFL HRWB HBZ kk
              have kk : w7'.cell? ⟨R, 44, none⟩ = some (.int .u8 P0) := HRA.out.k44 vC_len
              obtain ⟨w7, hst7, hr7, hon7⟩ : ∃ w7, (Instr.storeAt 5 (.pointer (some ⟨R, 42, none⟩)) (.int .u8 P0)).run Tryz.prog w7' = .ok () w7 ∧ RB (fun b => b < w.heap.size) w7 R (rest.drop 8) (at' + 8) (vC (finF cls lab K7 (P0) ((zs.drop 8).take 32) hA) GG vh (.slice none 0 0)) (P0) lf ∧ Only R w7' w7 := ⟨_, st_u8 HRA.out.box (j := 42) (by rw [rC_len, vC_len]; decide) _, by have := HRA.out.put (j := 40) (by rw [vC_len]; decide) (.int .u8 P0); rw [vC40] at this; exact this, (Only.refl _ w7').set 42 _⟩
              have HS7 : Hid _ := hst7
              have HCL : Hid _ := Clone_bs lf (rest.drop 8) w7 hr7.byt.row
              have HL7 : Hid _ := ld_row (hr7.k0) hr7.byt.slc
              have HR7 : Hid (RB (fun b => b < w.heap.size) w7 R (rest.drop 8) (at' + 8) (vC (finF cls lab K7 (P0) ((zs.drop 8).take 32) hA) GG vh (.slice none 0 0)) (P0) lf) := hr7
              have HRW7 : Hid (HRow (W.heap.size + 1) w7 vh hs ds) := HRWA.out.sep (Sep.of_only (O := fun b => b = R) hon7 rfl) (fun b hb e => by omega)
              have HZ7 : Hid (w7.heap[W.heap.size]? = some (.cells zeroV.toArray 36) ∧ Below w.heap.size w w7 ∧ W.heap.size < w7.heap.size) := ⟨(hon7.other _ (by omega)).trans HZA.out.1, HZA.out.2.trans (hon7.below hlo), by rw [hon7.size]; exact (Array.getElem?_eq_some_iff.1 HZA.out.1).1⟩
              clear hst7 hr7 hon7
              go_wp2_with first
                | ((with_reducible show wpList _ _ _ ({ dst := _, op := Op.store 5 (Operand.tmp 59) _, type := _, pos := _, after := _, guard := _ } :: _) _ _); refine armS (.tmp 59) (Operand.tmp 56) 5 rfl rfl rfl rfl HS7.out ?_; try simp only [Act.put])
                | ((with_reducible show wpList _ _ _ ({ dst := _, op := Op.load 25 (Operand.tmp 64), type := _, pos := _, after := _, guard := _ } :: _) _ _); refine armL (.tmp 64) 25 rfl rfl rfl HL7.out ?_)
              refine Calls.mono HCL.out ?_
              rintro e w8 ⟨u, rfl, hbu, hb8⟩
              have hr8 := HR7.out.on hb8
              obtain ⟨w9, hst9, hr9, hon9⟩ : ∃ w9, (Instr.storeAt 25 (.pointer (some ⟨R, 43, none⟩)) u).run Tryz.prog w8 = .ok () w9 ∧ RB (fun b => b < w.heap.size) w9 R (rest.drop 8) (at' + 8) (vC (finF cls lab K7 (P0) ((zs.drop 8).take 32) hA) GG vh u) (P0) lf ∧ Only R w8 w9 := ⟨_, st_row hr8.box (j := 43) (by rw [rC_len, vC_len]; decide) hbu.slc, by have := hr8.put (j := 41) (by rw [vC_len]; decide) u; rw [vC41] at this; exact this, (Only.refl _ w8).set 43 _⟩
              have HL9 : Hid _ := rd_load hr9
              have hz9 : w9.heap[W.heap.size]? = some (.cells zeroV.toArray 36) := (hon9.other _ (by omega)).trans (blk_on HZ7.out.1 hb8)
              have hrw9 := (HRW7.out.on hb8).sep (Sep.of_only (O := fun b => b = R) hon9 rfl) (fun b hb e => by omega)
              obtain ⟨wf, hstf, hbxf, honf⟩ := box_store Tryz.sizeOf36 hz9 (by rfl) (vC (finF cls lab K7 (P0) ((zs.drop 8).take 32) hA) GG vh u) vC_len (vC_one (hrw9.hs (by have := HLN.out; omega)).one hbu.one)
              have HS9 : Hid _ := hst9
              have HSF : Hid _ := hstf
              have HVF : Hid _ := vb_var hbxf
              have hrwf := hrw9.sep (Sep.of_only (O := fun b => b = W.heap.size) honf rfl) (fun b hb e => by omega)
              have hbuf : BS (fun b => R < b) wf u (rest.drop 8) := by
                have h9 := hbu.sep (Sep.of_only (O := fun b => b = R) hon9 rfl) (fun b hb e => by have := HZ7.out.2.2; omega)
                exact (h9.sep (Sep.of_only (O := fun b => b = W.heap.size) honf rfl) (fun b hb e => by have := HZ7.out.2.2; omega)).mono (fun b _ hb => by have := HZ7.out.2.2; omega)
              have HF : Hid (X (.returned (VV (finF cls lab K7 (P0) ((zs.drop 8).take 32) hA) GG vh u)) wf) := HXO.out _ _ _ _ HEN.out wf vh u ⟨(hrwf.hs (by have := HLN.out; omega)).mono (fun b _ hb => by omega), hbuf, hlab⟩ (((HZ7.out.2.1.trans (hb8.mono (by have := HZ7.out.2.2; omega))).trans (hon9.below hlo)).trans (honf.below (by omega)))
              clear hbu hb8 hr8 hst9 hr9 hon9 hz9 hstf hbxf honf hbuf hrwf hrw9 HCL HL7 HR7 HRW7 HZ7
              go_wp2_with first
                | ((with_reducible show wpList _ _ _ ({ dst := _, op := Op.store 25 (Operand.tmp 69) _, type := _, pos := _, after := _, guard := _ } :: _) _ _); refine armS (.tmp 69) (Operand.tmp 66) 25 rfl rfl rfl rfl HS9.out ?_; try simp only [Act.put])
                | ((with_reducible show wpList _ _ _ ({ dst := _, op := Op.load 36 (Operand.tmp 72), type := _, pos := _, after := _, guard := _ } :: _) _ _); refine armL (.tmp 72) 36 rfl rfl rfl HL9.out ?_)
                | ((with_reducible show wpList _ _ _ ({ dst := _, op := Op.store 36 (Operand.tmp 2) _, type := _, pos := _, after := _, guard := _ } :: _) _ _); refine armS (.tmp 2) (Operand.tmp 73) 36 rfl rfl rfl rfl HSF.out ?_; try simp only [Act.put])
              exact bodyPost_ret (res1t rfl rfl HVF.out) rfl HF.out
          · have q44 : (kind == 44) = false := by simpa using h44
            have HRA : Hid (RB (fun b => b < w.heap.size) wr R rest at' (vC (finF cls lab K7 0 ((zs.drop 8).take 32) hA) zG vh (.slice none 0 0)) kind left) := hra.out
            have HRWA : Hid (HRow (W.heap.size + 1) wr vh hs ds) := hrw.out
            have HZA : Hid (wr.heap[W.heap.size]? = some (.cells zeroV.toArray 36) ∧ Below w.heap.size w wr) := ⟨hbz.out.2, hbz.out.1⟩
            have HEN : Hid (endR (.ok hs kind rest at') = .ok hs zG kind rest) := endR_plain h44
            clear hra hrw hq hh8 hbz HXB
            have kk : wr.cell? ⟨R, 44, none⟩ = some (.int .u8 kind) := HRA.out.k44 vC_len
            obtain ⟨w7, hst7, hr7, hon7⟩ : ∃ w7, (Instr.storeAt 5 (.pointer (some ⟨R, 42, none⟩)) (.int .u8 kind)).run Tryz.prog wr = .ok () w7 ∧ RB (fun b => b < w.heap.size) w7 R (rest) (at') (vC (finF cls lab K7 (kind) ((zs.drop 8).take 32) hA) zG vh (.slice none 0 0)) (kind) left ∧ Only R wr w7 := ⟨_, st_u8 HRA.out.box (j := 42) (by rw [rC_len, vC_len]; decide) _, by have := HRA.out.put (j := 40) (by rw [vC_len]; decide) (.int .u8 kind); rw [vC40] at this; exact this, (Only.refl _ wr).set 42 _⟩
            have HS7 : Hid _ := hst7
            have HCL : Hid _ := Clone_bs left (rest) w7 hr7.byt.row
            have HL7 : Hid _ := ld_row (hr7.k0) hr7.byt.slc
            have HR7 : Hid (RB (fun b => b < w.heap.size) w7 R (rest) (at') (vC (finF cls lab K7 (kind) ((zs.drop 8).take 32) hA) zG vh (.slice none 0 0)) (kind) left) := hr7
            have HRW7 : Hid (HRow (W.heap.size + 1) w7 vh hs ds) := HRWA.out.sep (Sep.of_only (O := fun b => b = R) hon7 rfl) (fun b hb e => by omega)
            have HZ7 : Hid (w7.heap[W.heap.size]? = some (.cells zeroV.toArray 36) ∧ Below w.heap.size w w7 ∧ W.heap.size < w7.heap.size) := ⟨(hon7.other _ (by omega)).trans HZA.out.1, HZA.out.2.trans (hon7.below hlo), by rw [hon7.size]; exact (Array.getElem?_eq_some_iff.1 HZA.out.1).1⟩
            clear hst7 hr7 hon7
            go_wp2_with first
              | ((with_reducible show wpList _ _ _ ({ dst := _, op := Op.store 5 (Operand.tmp 59) _, type := _, pos := _, after := _, guard := _ } :: _) _ _); refine armS (.tmp 59) (Operand.tmp 56) 5 rfl rfl rfl rfl HS7.out ?_; try simp only [Act.put])
              | ((with_reducible show wpList _ _ _ ({ dst := _, op := Op.load 25 (Operand.tmp 64), type := _, pos := _, after := _, guard := _ } :: _) _ _); refine armL (.tmp 64) 25 rfl rfl rfl HL7.out ?_)
            refine Calls.mono HCL.out ?_
            rintro e w8 ⟨u, rfl, hbu, hb8⟩
            have hr8 := HR7.out.on hb8
            obtain ⟨w9, hst9, hr9, hon9⟩ : ∃ w9, (Instr.storeAt 25 (.pointer (some ⟨R, 43, none⟩)) u).run Tryz.prog w8 = .ok () w9 ∧ RB (fun b => b < w.heap.size) w9 R (rest) (at') (vC (finF cls lab K7 (kind) ((zs.drop 8).take 32) hA) zG vh u) (kind) left ∧ Only R w8 w9 := ⟨_, st_row hr8.box (j := 43) (by rw [rC_len, vC_len]; decide) hbu.slc, by have := hr8.put (j := 41) (by rw [vC_len]; decide) u; rw [vC41] at this; exact this, (Only.refl _ w8).set 43 _⟩
            have HL9 : Hid _ := rd_load hr9
            have hz9 : w9.heap[W.heap.size]? = some (.cells zeroV.toArray 36) := (hon9.other _ (by omega)).trans (blk_on HZ7.out.1 hb8)
            have hrw9 := (HRW7.out.on hb8).sep (Sep.of_only (O := fun b => b = R) hon9 rfl) (fun b hb e => by omega)
            obtain ⟨wf, hstf, hbxf, honf⟩ := box_store Tryz.sizeOf36 hz9 (by rfl) (vC (finF cls lab K7 (kind) ((zs.drop 8).take 32) hA) zG vh u) vC_len (vC_one (hrw9.hs (by have := HLN.out; omega)).one hbu.one)
            have HS9 : Hid _ := hst9
            have HSF : Hid _ := hstf
            have HVF : Hid _ := vb_var hbxf
            have hrwf := hrw9.sep (Sep.of_only (O := fun b => b = W.heap.size) honf rfl) (fun b hb e => by omega)
            have hbuf : BS (fun b => R < b) wf u (rest) := by
              have h9 := hbu.sep (Sep.of_only (O := fun b => b = R) hon9 rfl) (fun b hb e => by have := HZ7.out.2.2; omega)
              exact (h9.sep (Sep.of_only (O := fun b => b = W.heap.size) honf rfl) (fun b hb e => by have := HZ7.out.2.2; omega)).mono (fun b _ hb => by have := HZ7.out.2.2; omega)
            have HF : Hid (X (.returned (VV (finF cls lab K7 (kind) ((zs.drop 8).take 32) hA) zG vh u)) wf) := HXO.out _ _ _ _ HEN.out wf vh u ⟨(hrwf.hs (by have := HLN.out; omega)).mono (fun b _ hb => by omega), hbuf, hlab⟩ (((HZ7.out.2.1.trans (hb8.mono (by have := HZ7.out.2.2; omega))).trans (hon9.below hlo)).trans (honf.below (by omega)))
            clear hbu hb8 hr8 hst9 hr9 hon9 hz9 hstf hbxf honf hbuf hrwf hrw9 HCL HL7 HR7 HRW7 HZ7
            go_wp2_with first
              | ((with_reducible show wpList _ _ _ ({ dst := _, op := Op.store 25 (Operand.tmp 69) _, type := _, pos := _, after := _, guard := _ } :: _) _ _); refine armS (.tmp 69) (Operand.tmp 66) 25 rfl rfl rfl rfl HS9.out ?_; try simp only [Act.put])
              | ((with_reducible show wpList _ _ _ ({ dst := _, op := Op.load 36 (Operand.tmp 72), type := _, pos := _, after := _, guard := _ } :: _) _ _); refine armL (.tmp 72) 36 rfl rfl rfl HL9.out ?_)
              | ((with_reducible show wpList _ _ _ ({ dst := _, op := Op.store 36 (Operand.tmp 2) _, type := _, pos := _, after := _, guard := _ } :: _) _ _); refine armS (.tmp 2) (Operand.tmp 73) 36 rfl rfl rfl rfl HSF.out ?_; try simp only [Act.put])
            exact bodyPost_ret (res1t rfl rfl HVF.out) rfl HF.out
end
end Go.Proofs.YtpgnnplpcalbbaaGreat.V6
namespace Go.Proofs.YtpgnnplpcalbbaaGreat.V6
open Go Go.RowKit
theorem ld_err {W : World} {p : Addr} {x : Int} (h : W.cell? p = some (.int .i64 x)) : (Instr.loadAt 37 (.pointer (some p))).run Tryz.prog W = .ok (.int .i64 x) W := by
  simp [Instr.loadAt, go_sem, h]
theorem st_err {W : World} {b j : Nat} {c : List Value} {t : TypeId} (h : W.heap[b]? = some (.cells c.toArray t)) (hj : j < c.length) (x : Int) : (Instr.storeAt 37 (.pointer (some ⟨b, j, none⟩)) (.int .i64 x)).run Tryz.prog W = .ok () (W.setCell ⟨b, j, none⟩ (.int .i64 x)) := by
  have h1 : W.cell? ⟨b, j, none⟩ = some (c[j]'hj) := blk_cell h (by simp)
  have h2 := blk_open h j
  simp [Instr.storeAt, go_sem, h1, h2]
theorem zeroV_one : ∀ v ∈ zeroV, v.oneCell' = true := by rw [zeroV_vC]; exact vC_one rfl rfl
/-- What Parse and Part answer. -/
def Par (whole : Bool) (zs : List Int) (B : Nat) (e : Ending) (w' : World) : Prop :=
  match parR whole zs with
  | .bad at' er => e = .returned (.tuple #[.agg zeroV.toArray, .int .i64 (at' : Int), .int .i64 er])
  | .ok hs g proto body => ∃ (hA : ((zs.drop 8).take 32).length = 32) (vh vb : Value), e = .returned (.tuple #[VV (finF (clsN zs) (labN zs) (gz zs 7) proto ((zs.drop 8).take 32) hA) g vh vb, .int .i64 0, .int .i64 0]) ∧ D6 (fun b => B ≤ b) w' (finF (clsN zs) (labN zs) (gz zs 7) proto ((zs.drop 8).take 32) hA) vh vb hs body
set_option maxHeartbeats 2000000 in
set_option maxRecDepth 100000 in
theorem catch_faultP (w0 : World) (Q : Nat) (c : List Value) (x y at' e : Int) (w : World) (h : BoxW w0 w Q c x y) :
    CallsD Tryz.prog 191 #[.pointer (some ⟨Q, 0, none⟩), .pointer (some ⟨Q + 1, 0, none⟩), .pointer (some ⟨Q + 2, 0, none⟩)] (.panicking [fltP at' e]) w fun e' u' w' => e' = .returned (.tuple #[]) ∧ u' = .panicking [{ v := .iface 218 (.agg #[.int .i64 at', .int .i64 e]), recovered := true }] ∧ BoxW w0 w' Q zeroV at' e := by
  have ht := ta_yes (.agg #[.int .i64 at', .int .i64 e]) w
  unfold fltP
  refine callsD_of_wpS Tryz.func191 rfl fun c₀ cs hu => ?_
  apply wpS_seq
  refine wpS_region_rec (v := .iface 218 (.agg #[.int .i64 at', .int .i64 e])) (cs' := { c₀ with mode := .panicking [{ v := .iface 218 (.agg #[.int .i64 at', .int .i64 e]), recovered := true }] } :: cs) rfl rfl (by simp [recoverD, hu]) ?_
  simp only [Tryz.ntmps191, List.size_toArray, List.length_cons, List.length_nil, Nat.reduceAdd, Nat.reduceSub, Array.replicate_succ, Array.replicate_zero, List.push_toArray, List.append_toArray, List.nil_append, List.cons_append, Act.put, List.setIfInBounds_toArray, List.set_cons_zero, List.set_cons_succ]
  go_wp2
  refine wpS_of_wp ?_
  go_wp2_with fail
  have h1 := h.on ((Below.refl w.heap.size w).alloc (Nat.le_refl _) (.cells #[.int .i64 at', .int .i64 e] 218))
  have fb := blk_new w (.cells [.int .i64 at', .int .i64 e].toArray 218)
  have hne : Q + 2 < w.heap.size := (Array.getElem?_eq_some_iff.1 h.yb).1
  clear ht h
  generalize w.alloc (.cells #[.int .i64 at', .int .i64 e] 218) = W1 at *
  generalize w.heap.size = F at *
  have HBW : Hid (BoxW w0 W1 Q c x y) := h1
  have HFB : Hid (W1.heap[F]? = some (.cells [.int .i64 at', .int .i64 e].toArray 218)) := fb
  clear h1 fb
  refine region_mid (fun a0 a' w' => a' = (((((a0.put (some 11) (.agg zeroV.toArray)).put (some 12) (.pointer (some ⟨F, 0, none⟩))).put (some 13) (.int .i64 at')).put (some 14) (.pointer (some ⟨F, 1, none⟩))).put (some 15) (.int .i64 e)) ∧ BoxW w0 w' Q zeroV at' e) ?_ ?_
  · skip
    refine wp_region_held (S := fun X => X.heap[F]? = some (.cells [.int .i64 at', .int .i64 e].toArray 218)) (by kernel_rfl) ?_
    show wpAnyH _ _ _ _ _ 8 (Array.replicate 8 false) _ _
    have hs0 : W1.drew.heap[F]? = some (.cells [.int .i64 at', .int .i64 e].toArray 218) := HFB.out
    have hb0 := HBW.out.drew
    refine take_one (i := 0) (d := some 11) (v := .agg zeroV.toArray) rfl rfl rfl (by kernel_rfl) (by kernel_rfl) (by kernel_rfl) (fun _ _ _ _ _ h => h.elim) (fun W hS => by kernel_rfl) hs0 ?_
    simp only [Act.put, List.setIfInBounds_toArray, List.set_cons_zero, List.set_cons_succ]
    refine take_one (i := 1) (d := some 12) (v := .pointer (some ⟨F, 0, none⟩)) rfl rfl rfl (by kernel_rfl) (by kernel_rfl) (by kernel_rfl) (fun _ _ _ _ _ h => h.elim) (fun W hS => by kernel_rfl) hs0 ?_
    simp only [Act.put, List.setIfInBounds_toArray, List.set_cons_zero, List.set_cons_succ]
    refine take_one (i := 2) (d := some 13) (v := .int .i64 at') rfl rfl rfl (by kernel_rfl) (by kernel_rfl) (by kernel_rfl) (fun _ _ _ _ _ h => h.elim) (fun W hS => ex_loadA (.tmp 12) 3 rfl rfl (ld_int (blk_cell hS (j := 0) rfl))) hs0 ?_
    simp only [Act.put, List.setIfInBounds_toArray, List.set_cons_zero, List.set_cons_succ]
    refine take_one (i := 3) (d := some 14) (v := .pointer (some ⟨F, 1, none⟩)) rfl rfl rfl (by kernel_rfl) (by kernel_rfl) (by kernel_rfl) (fun _ _ _ _ _ h => h.elim) (fun W hS => by kernel_rfl) hs0 ?_
    simp only [Act.put, List.setIfInBounds_toArray, List.set_cons_zero, List.set_cons_succ]
    refine take_one (i := 4) (d := some 15) (v := .int .i64 e) rfl rfl rfl (by kernel_rfl) (by kernel_rfl) (by kernel_rfl) (fun _ _ _ _ _ h => h.elim) (fun W hS => ex_loadA (.tmp 14) 37 rfl rfl (ld_err (blk_cell hS (j := 1) rfl))) hs0 ?_
    simp only [Act.put, List.setIfInBounds_toArray, List.set_cons_zero, List.set_cons_succ]
    obtain ⟨W2, hst2, hb2, ho2⟩ := hb0.sets zeroV rfl zeroV_one
    have hs2 := (ho2.other F (by omega)).trans hs0
    refine all_one (i := 5) (by kernel_rfl) rfl rfl ?_
    refine wp_storeA (.tmp 0) (.tmp 11) 36 rfl rfl rfl rfl hst2 ⟨hs2, ?_⟩
    have hs3 := blk_set_other hs2 (show F ≠ Q + 1 by omega) 0 (.int .i64 at')
    have hb3 := hb2.setX at'
    refine all_one (i := 6) (by kernel_rfl) rfl rfl ?_
    refine wp_storeA (.tmp 1) (.tmp 13) 3 rfl rfl rfl rfl (st_int hb2.xb (j := 0) (by simp) at') ⟨hs3, ?_⟩
    have hs4 := blk_set_other hs3 (show F ≠ Q + 2 by omega) 0 (.int .i64 e)
    have hb4 := hb3.setY e
    refine all_one (i := 7) (by kernel_rfl) rfl rfl ?_
    refine wp_storeA (.tmp 2) (.tmp 15) 37 rfl rfl rfl rfl (st_err hb3.yb (j := 0) (by simp) e) ⟨hs4, ?_⟩
    refine wpAnyH_done (by kernel_rfl) ?_ _
    exact ⟨rfl, hb4⟩
  · rintro a' w' ⟨rfl, hb⟩
    simp only [Act.put, List.setIfInBounds_toArray, List.set_cons_zero, List.set_cons_succ]
    have HE : Hid (BoxW w0 w' Q zeroV at' e) := hb
    clear hb HBW HFB
    go_wp2
    all_goals exact ⟨rfl, _, rfl, _, results_none rfl _ _ _, rfl, rfl, HE.out⟩
set_option maxHeartbeats 2000000 in
set_option maxRecDepth 100000 in
theorem catch_idleP (p q r : Addr) (w : World) :
    CallsD Tryz.prog 191 #[.pointer (some p), .pointer (some q), .pointer (some r)] .returning w fun e u' w' => e = .returned (.tuple #[]) ∧ u' = .returning ∧ Below w.heap.size w w' := by
  have hB := ((Below.refl w.heap.size w).alloc (Nat.le_refl _) (.cells #[.int .i64 0, .int .i64 0] 218))
  have ht := ta_no w
  refine callsD_of_wpS Tryz.func191 rfl fun c₀ cs hu => ?_
  apply wpS_seq
  refine wpS_region_rec (v := .nilIface) (cs' := c₀ :: cs) rfl rfl (by simp [recoverD, hu]) ?_
  simp only [Tryz.ntmps191, List.size_toArray, List.length_cons, List.length_nil, Nat.reduceAdd, Nat.reduceSub, Array.replicate_succ, Array.replicate_zero, List.push_toArray, List.append_toArray, List.nil_append, List.cons_append, Act.put, List.setIfInBounds_toArray, List.set_cons_zero, List.set_cons_succ]
  go_wp2
  refine wpS_of_wp ?_
  go_wp2
  cases c₀
  simp_all [bodyPostS, results, Tryz.results191]
end Go.Proofs.YtpgnnplpcalbbaaGreat.V6
namespace Go.Proofs.YtpgnnplpcalbbaaGreat.V6
open Go Go.RowKit
section
variable {w : World} {v : Value} {zs : List Int}
set_option maxHeartbeats 4000000 in
set_option maxRecDepth 100000 in
theorem Part_X (h : BS (fun b => b < w.heap.size) w v zs) (X : Ending → World → Prop)
    (xb : ∀ (at' : Nat) (er : Int), parR false zs = .bad at' er → ∀ w', Below w.heap.size w w' → X (.returned (.tuple #[.agg zeroV.toArray, .int .i64 at', .int .i64 er])) w')
    (xo : ∀ hs g proto body (hA : ((zs.drop 8).take 32).length = 32), parR false zs = .ok hs g proto body → ∀ w' vh vb, D6 (fun b => w.heap.size ≤ b) w' (finF (clsN zs) (labN zs) (gz zs 7) proto ((zs.drop 8).take 32) hA) vh vb hs body → Below w.heap.size w w' → X (.returned (.tuple #[VV (finF (clsN zs) (labN zs) (gz zs 7) proto ((zs.drop 8).take 32) hA) g vh vb, .int .i64 0, .int .i64 0])) w') :
    Calls Tryz.prog 119 #[v] w X := by
  have hmf : ∀ (fn : Fn) (first cap : Array Value) (w : World), (Instr.makeFunc fn first cap).run Tryz.prog w = .ok (.func fn first cap) w := fun _ _ _ _ => rfl
  have hB := BoxW.start w
  obtain ⟨W0, hW0⟩ : ∃ W0, W0 = (((w.alloc (.cells zeroV.toArray 36)).alloc (.cells #[.int .i64 0] 3)).alloc (.cells #[.int .i64 0] 37)) := ⟨_, rfl⟩
  rw [← hW0] at hB
  have hsz : W0.heap.size = w.heap.size + 3 := by rw [hW0]; simp
  have h0 : BS (fun b => b < W0.heap.size) W0 v zs := (h.on hB.bel).mono (fun b hb _ => hb)
  have HBAD : Hid _ := xb
  have HXO : Hid _ := xo
  have hbeg : Calls Tryz.prog 192 #[v] W0 fun e w' => (∃ (at' : Nat) (er : Int), e = .panicked [fltP at' er] ∧ parR false zs = .bad at' er ∧ Below W0.heap.size W0 w') ∨ (∃ left, e = .returned (.tuple #[.pointer (some ⟨W0.heap.size, 0, none⟩), .int .i64 (lenN zs)]) ∧ RB (fun b => b < W0.heap.size) w' W0.heap.size (zs.drop 6) 6 (c0 (clsN zs) (labN zs)) 0 left ∧ Below W0.heap.size W0 w' ∧ 40 ≤ zs.length ∧ gz zs 0 / 16 = 6) := by
    by_cases hl : zs.length < 40
    · refine (begin_short h0 hl).mono ?_
      rintro e w' ⟨rfl, hb⟩
      exact .inl ⟨0, 50, rfl, by unfold parR; rw [if_pos hl], hb⟩
    · refine begin_long h0 (by omega) _ (fun hn w' hb => .inl ⟨0, 51, rfl, by unfold parR; rw [if_neg hl, if_pos hn], hb⟩) (fun hy w' left hr hb => .inr ⟨left, rfl, hr, hb, by omega, hy⟩)
  have hlnr : 0 ≤ lenN zs ∧ lenN zs < 65536 := by
    have f4 := gz_fit h.row.fit 4
    have f5 := gz_fit h.row.fit 5
    unfold lenN; omega
  have hlb : 0 ≤ labN zs ∧ labN zs ≤ 4294967295 := by
    have f1 := gz_fit h.row.fit 1
    have f2 := gz_fit h.row.fit 2
    have f3 := gz_fit h.row.fit 3
    unfold labN; omega
  have HLB : Hid _ := hlb
  have HPB : Hid (40 ≤ zs.length → gz zs 0 / 16 = 6 → badN false zs → parR false zs = .bad 4 52) := fun a b c => by unfold parR; rw [if_neg (by omega), if_neg (by omega), if_pos c]
  have HPG : Hid (40 ≤ zs.length → gz zs 0 / 16 = 6 → ¬ badN false zs → parR false zs = endR (rdH 9 (zs.drop 40) 40 (gz zs 6) [])) := fun a b c => by unfold parR; rw [if_neg (by omega), if_neg (by omega), if_neg c]
  have HC : Hid _ := hbeg
  have HB : Hid _ := hB
  have HSZ : Hid (W0.heap.size = w.heap.size + 3) := hsz
  obtain ⟨_, _, a, cap, ev, _⟩ := h.row
  subst ev
  have hm := h.row.len
  obtain ⟨zl, hzl⟩ : ∃ n, zs.length = n := ⟨_, rfl⟩
  have HZL : Hid _ := hzl
  obtain ⟨LN, hLN⟩ : ∃ L, lenN zs = L := ⟨_, rfl⟩
  have HLN : Hid _ := hLN
  rw [hLN] at HC hlnr
  rw [hzl] at hm HC ⊢
  obtain ⟨R, hR⟩ : ∃ R, W0.heap.size = R := ⟨_, rfl⟩
  have HRS : Hid _ := hR
  rw [hR] at HC HSZ
  have hW := hW0.symm
  unfold zeroV at hW
  clear hbeg hB hsz h0 h hW0 hzl hR hLN hlb xb xo
  refine Calls.mono (R := fun e w' => Hid (X e w')) ?_ (fun e w' hx => hx.out)
  go_enter_defers Tryz.func119, Tryz.ntmps119
  go_wp2_with fail
  refine Calls.mono HC.out ?_
  rintro e1 w1 (⟨at', er, rfl, hbad, hb1⟩ | ⟨left, rfl, hr1, hb1, h40, h6⟩)
  · skip
    refine leaves_cons (f := 191) (args := #[.pointer (some ⟨w.heap.size, 0, none⟩), .pointer (some ⟨w.heap.size + 1, 0, none⟩), .pointer (some ⟨w.heap.size + 2, 0, none⟩)]) (by simp) (by simp [go_sem]) ?_
    refine (catch_faultP w w.heap.size _ 0 0 at' er _ (HB.out.on (by rw [HRS.out]; exact hb1))).mono ?_
    rintro e9 u9 w9 ⟨rfl, rfl, h9⟩
    exact ⟨_, resC rfl rfl rfl rfl h9.load h9.loadX h9.loadY, HBAD.out _ _ hbad _ h9.bel⟩
  · have HR1 : Hid (RB (fun b => b < W0.heap.size) w1 R (zs.drop 6) 6 (c0 (clsN zs) (labN zs)) 0 left) := by rw [HRS.out]; exact hr1
    have HB1 : Hid (Below W0.heap.size W0 w1) := by rw [HRS.out]; exact hb1
    have h40z := h40
    rw [← HZL.out] at h40
    clear hr1 hb1 HC hW
    by_cases hbd : badN false zs
    · have HBD : Hid _ := HPB.out h40 h6 hbd
      have q : decide ((zl : Int) - 40 ≤ LN) = false := by
        unfold badN at hbd
        rw [HLN.out, HZL.out] at hbd
        simp at hbd ⊢
        omega
      have HBW1 : Hid _ := HB.out.on HB1.out
      rw [HZL.out] at h40
      clear hbd
      go_wp2_with fail
      refine Calls.mono (must_bad _ _ _) ?_
      rintro e2 w2 ⟨rfl, hw2⟩
      obtain rfl := hw2.symm
      refine leaves_cons (f := 191) (args := #[.pointer (some ⟨w.heap.size, 0, none⟩), .pointer (some ⟨w.heap.size + 1, 0, none⟩), .pointer (some ⟨w.heap.size + 2, 0, none⟩)]) (by simp) (by simp [go_sem]) ?_
      refine (catch_faultP w w.heap.size _ 0 0 4 52 _ HBW1.out).mono ?_
      rintro e9 u9 w9 ⟨rfl, rfl, h9⟩
      exact ⟨_, resC rfl rfl rfl rfl h9.load h9.loadX h9.loadY, HBAD.out _ _ HBD.out _ h9.bel⟩
    · have hpar := HPG.out h40 h6 hbd
      have q : decide ((zl : Int) - 40 ≤ LN) = true := by
        unfold badN at hbd
        rw [HLN.out, HZL.out] at hbd
        simp at hbd ⊢
        omega
      have hA : ((zs.drop 8).take 32).length = 32 := by rw [List.length_take, List.length_drop]; omega
      have HDG : Hid (Calls Tryz.prog 194 #[.pointer (some ⟨R, 0, none⟩)] w1 fun e w' => (∃ (at' : Nat) (er : Int), e = .panicked [fltP at' er] ∧ parR false zs = .bad at' er ∧ Below W0.heap.size W0 w') ∨ (∃ hs g proto body vh vb, parR false zs = .ok hs g proto body ∧ e = .returned (VV (finF (clsN zs) (labN zs) (gz zs 7) proto ((zs.drop 8).take 32) hA) g vh vb) ∧ D6 (fun b => R < b) w' (finF (clsN zs) (labN zs) (gz zs 7) proto ((zs.drop 8).take 32) hA) vh vb hs body ∧ Below W0.heap.size W0 w')) := by
        rw [hpar]
        exact datagram_any HR1.out (by rw [HRS.out]; exact Nat.le_refl _) HB1.out h40 HLB.out hA _ (fun at' er he w' hb => .inl ⟨at', er, rfl, he, hb⟩) (fun hs g proto body he w' vh vb hd hb => .inr ⟨hs, g, proto, body, vh, vb, he, rfl, hd, hb⟩)
      rw [HZL.out] at h40
      clear HR1 HB1 hpar hbd
      go_wp2_with fail
      refine Calls.mono (must_good _ _ _) ?_
      rintro e2 w2 ⟨rfl, hw2⟩
      obtain rfl := hw2.symm
      clear hw2
      go_wp2_with fail
      refine Calls.mono HDG.out ?_
      rintro e5 w5 (⟨at', er, rfl, hbad, hb5⟩ | ⟨hs, g, proto, body, vh, vb, hok, rfl, hd5, hb5⟩)
      · skip
        refine leaves_cons (f := 191) (args := #[.pointer (some ⟨w.heap.size, 0, none⟩), .pointer (some ⟨w.heap.size + 1, 0, none⟩), .pointer (some ⟨w.heap.size + 2, 0, none⟩)]) (by simp) (by simp [go_sem]) ?_
        refine (catch_faultP w w.heap.size _ 0 0 at' er _ (HB.out.on hb5)).mono ?_
        rintro e9 u9 w9 ⟨rfl, rfl, h9⟩
        exact ⟨_, resC rfl rfl rfl rfl h9.load h9.loadX h9.loadY, HBAD.out _ _ hbad _ h9.bel⟩
      · have hx5 := HB.out.on hb5
        obtain ⟨FF, hFF⟩ : ∃ FF, finF (clsN zs) (labN zs) (gz zs 7) proto ((zs.drop 8).take 32) hA = FF := ⟨_, rfl⟩
        have HPR : Hid (∀ w', D6 (fun b => w.heap.size ≤ b) w' FF vh vb hs body → Below w.heap.size w w' → X (.returned (.tuple #[VV FF g vh vb, .int .i64 0, .int .i64 0])) w') := fun w' hd hb => by
          have := HXO.out hs g proto body hA hok w' vh vb
          rw [hFF] at this
          exact this hd hb
        rw [hFF] at hd5 ⊢
        obtain ⟨w6, hst6, hB6, hO6⟩ := hx5.sets (vC FF g vh vb) vC_len (vC_one hd5.hd.one hd5.bd.one)
        have m1 := blk_cell hB6.xb (j := 0) rfl
        have n1 := blk_open hB6.xb 0
        have m2 := blk_cell hB6.yb (j := 0) rfl
        have n2 := blk_open hB6.yb 0
        have hlo := HSZ.out
        have hq6 := ((hd5.sep (Sep.of_only (O := fun b => b = w.heap.size) hO6 rfl) (fun b hb e => by omega)).sep (Sep.of_only (O := fun b => b = w.heap.size + 1) ((Only.refl (w.heap.size + 1) w6).set 0 (.int .i64 0)) rfl) (fun b hb e => by omega)).sep (Sep.of_only (O := fun b => b = w.heap.size + 2) ((Only.refl (w.heap.size + 2) _).set 0 (.int .i64 0)) rfl) (fun b hb e => by omega)
        have HQ : Hid _ := hq6.mono (S' := fun b => w.heap.size ≤ b) (fun b _ hb => by omega)
        have HB7 : Hid _ := (hB6.setX 0).setY 0
        have HST : Hid _ := hst6
        clear hd5 hb5 hx5 hB6 hO6 hst6 hq6 hlo HB HDG HSZ HRS hok hFF HBAD HPB HPG HXO
        go_wp2_with ((with_reducible show wpList _ _ _ ({ dst := _, op := Op.store 36 _ _, type := _, pos := _, after := _, guard := _ } :: _) _ _); refine armS (.tmp 2) (.tmp 20) 36 rfl rfl rfl rfl HST.out ?_; try simp only [Act.put])
        refine leaves_cons (f := 191) (args := #[.pointer (some ⟨w.heap.size, 0, none⟩), .pointer (some ⟨w.heap.size + 1, 0, none⟩), .pointer (some ⟨w.heap.size + 2, 0, none⟩)]) (by simp) (by simp [go_sem]) ?_
        refine (catch_idleP _ _ _ _).mono ?_
        rintro e9 u9 w9 ⟨rfl, rfl, hb9⟩
        have h9 := HB7.out.on hb9
        exact ⟨_, resC rfl rfl rfl rfl h9.load h9.loadX h9.loadY, HPR.out _ (HQ.out.on hb9) h9.bel⟩
end
end Go.Proofs.YtpgnnplpcalbbaaGreat.V6
