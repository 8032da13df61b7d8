/-
  datagram of package ipv6, where there are no heads.
-/
import Derived.Test.YtbaeogoojpngbaaY8
import Derived.Laws.IdiomCopy
namespace Go.Proofs.Ytbaeogoojpngbaa
open Go Go.RowKit
set_option linter.unusedVariables false
set_option linter.unusedSimpArgs false

theorem wp_copyA {o : Oper} {a : Act} {d : Option Nat} {w w2 : World} {K : Act → World → Prop} {Q : Exit → Act → World → Prop} (s x : Operand) (t : TypeId) (hop : o.op = Op.call { callee := Callee.builtin Builtin.copy, args := #[s, x], argTypes := #[t, t] }) (hd : o.dst = d) {vs vx v : Value} (hs : a.eval s = vs) (hx : a.eval x = vx) (hrun : (Builtin.copy_ #[t, t] o.type #[vs, vx]).run Try.prog w = .ok v w2) (hK : K (a.put d v) w2) : o.wp Try.prog a w K Q := by
  subst hd
  unfold Oper.wp
  simp [execOp, hop, resolve, invoke, builtin, hs, hx, hrun, Result.andThen]
  exact hK
theorem rd_load {S : Nat → Prop} {W : World} {R : Nat} {rest : List Int} {at' : Nat} {nx : Int} {left : Value} {f : F6} {g : G6} {vh vb : Value} (h : RB S W R rest at' (vC f g vh vb) nx left) : (Instr.loadAt 28 (.pointer (some ⟨R, 2, none⟩))).run Try.prog W = .ok (VV f g vh vb) W := by
  refine agg_load Try.isAgg28 Try.sizeOf28 vC_len (fun j v hj => ?_)
  rw [Nat.add_comm]
  exact h.at hj

/-- A datagram's fields as they were read. -/
def finF (cls lab hop proto : Int) (A : List Int) (h : A.length = 32) : F6 := ⟨cls, lab, hop, proto, u8L A, by simp [u8L, h], fun v hv => by unfold u8L at hv; obtain ⟨z, _, rfl⟩ := List.mem_map.1 hv; rfl⟩
section
variable {S : Nat → Prop} {W W' : World} {R : Nat} {rest : List Int} {at' : Nat} {c : List Value} {nx : Int} {left : Value}
theorem RB.sets (h : RB S W R rest at' c nx left) (vs : List Value) (j : Nat) (hj : j + vs.length ≤ c.length) : RB S (W.setCells R (j + 2) vs) R rest at' (c.take j ++ vs ++ c.drop (j + vs.length)) nx left := by
  have ho : Only R W (W.setCells R (j + 2) vs) := Only.sets _ _ _ (Only.refl _ _)
  refine ⟨?_, h.byt.sep (Sep.of_only (O := fun b => b = R) ho rfl) (fun b hb e => h.ne (e ▸ hb)), h.ne, h.hi⟩
  rw [blk_sets vs (j + 2) _ _ h.box, setsL_eq vs (j + 2) _ (by rw [rC_len]; omega)]
  unfold rC
  have e1 : (left :: .int .i64 (at' : Int) :: (c ++ [.int .u8 nx])).take (j + 2) = left :: .int .i64 (at' : Int) :: c.take j := by
    simp only [List.take_succ_cons]
    rw [List.take_append_of_le_length (by omega)]
  have e2 : (left :: Value.int .i64 (at' : Int) :: (c ++ [.int .u8 nx])).drop (j + 2 + vs.length) = c.drop (j + vs.length) ++ [.int .u8 nx] := by
    rw [show j + 2 + vs.length = (j + vs.length) + 1 + 1 by omega]
    simp only [List.drop_succ_cons]
    rw [List.drop_append_of_le_length (by omega)]
  rw [e1, e2]
  simp [rC]
theorem RB.off (h : RB S W R rest at' c nx left) {Q : Nat} (ho : Only Q W W') (hQ : Q ≠ R) (hS : ¬ S Q) : RB S W' R rest at' c nx left :=
  ⟨(ho.other _ (fun e => hQ e.symm)).trans h.box, h.byt.sep (Sep.of_only (O := fun b => b = Q) ho rfl) (fun b hb e => hS (e ▸ hb)), h.ne, h.hi⟩
theorem RB.copied {S' : Nat → Prop} {u : Value} {ys : List Int} (h : RB S W R rest at' c nx left) (hc : c.length = 42) (hu : BS S' W u ys) (hy : ys.length = 16) (j : Nat) (hj : j + 16 ≤ 42) (ty : TypeId) :
    ∃ r W2, (Builtin.copy_ #[26, 26] ty #[.slice (some ⟨R, j + 2, none⟩) 16 16, u]).run Try.prog W = .ok r W2 ∧ RB S W2 R rest at' (c.take j ++ u8L ys ++ c.drop (j + 16)) nx left ∧ Only R W W2 := by
  have hinf : (Try.prog.info? 5).map (·.size) = some 1 := by kernel_rfl
  obtain ⟨sb, so, cap, rfl, _, hlt, hcell⟩ := hu.row.some (by omega)
  have hul : (u8L ys).length = 16 := by simp [u8L, hy]
  refine ⟨_, _, run_copy_cells W _ _ ty 5 R (j + 2) 16 16 ⟨sb, so, none⟩ ys.length cap (u8L ys) Try.underlying26 hinf (by rw [hul, hy]; rfl) ?_ (fun i hi => ?_) (fun i _ => blk_open h.box _) (fun v hv => by unfold u8L at hv; obtain ⟨z, _, rfl⟩ := List.mem_map.1 hv; rfl), ?_, Only.sets _ _ _ (Only.refl _ _)⟩
  · intro i x hi
    rw [Go.WideShapes.add_plain]
    unfold u8L at hi
    rw [List.getElem?_map] at hi
    obtain ⟨z, hz, rfl⟩ := Option.map_eq_some_iff.1 hi
    have := hcell i (List.getElem?_eq_some_iff.1 hz).1
    unfold gz at this
    rw [hz] at this
    exact this
  · have hlen : j + 2 + i < (rC left at' c nx).length := by rw [rC_len]; omega
    rw [blk_cell h.box (v := (rC left at' c nx)[j + 2 + i]'hlen) (by simp)]
    rfl
  · have := h.sets (u8L ys) j (by omega)
    rw [hul] at this
    exact this
end
theorem c_fin (a b h : Value) (X Y R1 T : List Value) (hX : X.length = 16) (hR : R1.length = 32) :
    (((([a, b, h] ++ (R1 ++ T)).take 3 ++ X ++ ([a, b, h] ++ (R1 ++ T)).drop (3 + 16)).take 19) ++ Y ++ ((([a, b, h] ++ (R1 ++ T)).take 3 ++ X ++ ([a, b, h] ++ (R1 ++ T)).drop (3 + 16)).drop (19 + 16))) = a :: b :: h :: ((X ++ Y) ++ T) := by
  have e1 : ([a, b, h] ++ (R1 ++ T)).take 3 = [a, b, h] := rfl
  have e2 : ([a, b, h] ++ (R1 ++ T)).drop (3 + 16) = R1.drop 16 ++ T := by
    show (R1 ++ T).drop 16 = _
    rw [List.drop_append_of_le_length (by omega)]
  rw [e1, e2]
  have e3 : ([a, b, h] ++ X ++ (R1.drop 16 ++ T)).take 19 = [a, b, h] ++ X := by
    rw [List.take_append_of_le_length (by simp [hX])]
    exact List.take_of_length_le (by simp [hX])
  have e4 : ([a, b, h] ++ X ++ (R1.drop 16 ++ T)).drop (19 + 16) = T := by
    rw [← List.append_assoc, List.drop_append_of_le_length (by simp [hX, hR])]
    rw [List.drop_of_length_le (by simp [hX, hR])]
    rfl
  rw [e3, e4]
  simp
theorem fin_set (a b h : Value) (X T : List Value) (hX : X.length = 32) (i : Nat) (v : Value) : (a :: b :: h :: (X ++ T)).set (35 + i) v = a :: b :: h :: (X ++ T.set i v) := by
  rw [show 35 + i = (32 + i) + 1 + 1 + 1 by omega]
  simp only [List.set_cons_succ]
  rw [List.set_append_right _ _ (by omega), hX, Nat.add_sub_cancel_left]
section
variable {w : World} {zs : List Int}
set_option maxHeartbeats 4000000 in
set_option maxRecDepth 100000 in
theorem datagram_plain {W : World} {R : Nat} {left : Value} {cls lab : Int} (h : RB (fun b => b < w.heap.size) W R (zs.drop 6) 6 (c0 cls lab) 0 left) (hlo : w.heap.size ≤ R) (hB : Below w.heap.size w W) (hl : 40 ≤ zs.length) (hk : isH (gz zs 6) = false) (hk4 : gz zs 6 ≠ 44) (hA : ((zs.drop 8).take 32).length = 32) :
    Calls Try.prog 33 #[.pointer (some ⟨R, 0, none⟩)] W fun e w' => ∃ vb, e = .returned (VV (finF cls lab (gz zs 7) (gz zs 6) ((zs.drop 8).take 32) hA) zG (.slice none 0 0) vb) ∧ BS (fun b => W.heap.size ≤ b) w' vb (zs.drop 40) ∧ Below w.heap.size w w' := by
  have hRl : R < W.heap.size := (Array.getElem?_eq_some_iff.1 h.box).1
  have hws := hB.size
  obtain ⟨W0, hW0⟩ : ∃ W0, W0 = W.alloc (.cells zeroV.toArray 28) := ⟨_, rfl⟩
  have hz0 : W0.heap[W.heap.size]? = some (.cells zeroV.toArray 28) := by rw [hW0]; exact blk_new W _
  have hB0 : Below W.heap.size W W0 := by rw [hW0]; exact (Below.refl W.heap.size W).alloc (Nat.le_refl _) _
  have h0 := h.on hB0
  have HO1 : Hid _ := octet_calls h0 (by rw [List.length_drop]; omega) (by omega)
  have g6 : gz (zs.drop 6) 0 = gz zs 6 := by unfold gz; rw [List.getElem?_drop]
  have g7 : gz (zs.drop 7) 0 = gz zs 7 := by unfold gz; rw [List.getElem?_drop]
  rw [g6, List.drop_drop] at HO1
  have HZ0 : Hid (W0.heap[W.heap.size]? = some (.cells zeroV.toArray 28)) := hz0
  have HB0 : Hid (Below w.heap.size w W0) := hB.trans (hB0.mono hws)
  have HG7 : Hid _ := g7
  have HF : Hid (Fit zs → True) := fun _ => trivial
  have hfit6 : 0 ≤ gz zs 6 ∧ gz zs 6 < 256 := by
    rw [← g6]; exact gz_fit h.byt.row.fit 0
  obtain ⟨K6, hK6⟩ : ∃ K, gz zs 6 = K := ⟨_, rfl⟩
  obtain ⟨K7, hK7⟩ : ∃ K, gz zs 7 = K := ⟨_, rfl⟩
  rw [hK6] at hk hk4 HO1 hfit6 ⊢
  rw [hK7] at HG7 ⊢
  obtain ⟨W0s, hW0s⟩ : ∃ s, W0.heap.size = s := ⟨_, rfl⟩
  have hW0e : W0.heap.size = W.heap.size + 1 := by rw [hW0]; simp
  obtain ⟨FF, hFF⟩ : ∃ FF, finF cls lab K7 K6 ((zs.drop 8).take 32) hA = FF := ⟨_, rfl⟩
  rw [hFF]
  have HFF : Hid _ := hFF
  have q44 : (K6 == 44) = false := by simpa using hk4
  have HIS : Hid (∀ X, Calls Try.prog 42 #[.int .u8 K6] X fun e w' => e = .returned (.bool false) ∧ w' = X) := fun X => by
    have := isHead_calls K6 X
    rw [hk] at this
    exact this
  have hW := hW0.symm
  unfold zeroV at hW
  have HNW : Hid (¬ (W.heap.size < w.heap.size)) := by show ¬ _; omega
  clear h h0 hz0 hB0 hW0 hk hk4 g6 g7 hK6 hK7 hFF hW0s
  go_enter Try.func33, Try.ntmps33
  go_wp2_with fail
  refine Calls.mono HO1.out ?_
  rintro e w1 ⟨l1, rfl, hr1, ho1⟩
  obtain ⟨w2, hst2, hr2, hon2⟩ : ∃ w2, (Instr.storeAt 5 (.pointer (some ⟨R, 44, none⟩)) (.int .u8 K6)).run Try.prog w1 = .ok () w2 ∧ RB (fun b => b < w.heap.size) w2 R (zs.drop 7) 7 (c0 cls lab) K6 l1 ∧ Only R w1 w2 := ⟨_, st_u8 hr1.box (j := 44) (by rw [rC_len, vC_len]; decide) K6, hr1.next K6 (n := 42) vC_len, (Only.refl _ w1).set 44 _⟩
  have HS2 : Hid _ := hst2
  have ho2 := ho1.trans hon2
  have HON2 : Hid (Only R W0 w2) := ho2
  have HO2 : Hid _ := octet_calls hr2 (by rw [List.length_drop]; omega) (by omega)
  rw [HG7.out, List.drop_drop] at HO2
  clear hr1 ho1 hst2 hr2 hon2 ho2 HO1
  go_wp2_with first
    | ((with_reducible show wpList _ _ _ ({ dst := _, op := Op.store 5 (Operand.tmp 9) (Operand.tmp 7), type := _, pos := _, after := _, guard := _ } :: _) _ _); refine armS (.tmp 9) (Operand.tmp 7) 5 rfl rfl rfl rfl HS2.out ?_; try simp only [Act.put])
  refine Calls.mono HO2.out ?_
  rintro e w3 ⟨l3, rfl, hr3, ho3⟩
  obtain ⟨w4, hst4, hr4, hon4⟩ : ∃ w4, (Instr.storeAt 5 (.pointer (some ⟨R, 4, none⟩)) (.int .u8 K7)).run Try.prog w3 = .ok () w4 ∧ RB (fun b => b < w.heap.size) w4 R (zs.drop 8) 8 ((c0 cls lab).set 2 (.int .u8 K7)) K6 l3 ∧ Only R w3 w4 := ⟨_, st_u8 hr3.box (j := 4) (by rw [rC_len, vC_len]; decide) K7, hr3.put (j := 2) (by rw [vC_len]; decide) (.int .u8 K7), (Only.refl _ w3).set 4 _⟩
  have HS4 : Hid _ := hst4
  have HON4 : Hid (Only R W0 w4) := HON2.out.trans (ho3.trans hon4)
  have HR4 : Hid (RB (fun b => b < w.heap.size) w4 R (zs.drop 8) 8 ((c0 cls lab).set 2 (.int .u8 K7)) K6 l3) := hr4
  clear hr3 ho3 hst4 hr4 hon4 HO2 HON2
  go_wp2_with first
    | ((with_reducible show wpList _ _ _ ({ dst := _, op := Op.store 5 (Operand.tmp 17) (Operand.tmp 14), type := _, pos := _, after := _, guard := _ } :: _) _ _); refine armS (.tmp 17) (Operand.tmp 14) 5 rfl rfl rfl rfl HS4.out ?_; try simp only [Act.put])
  refine region_mid (fun a0 a' w' => ∃ v26 v27 l5, a' = ((((((((((a0.put (some 18) (.pointer (some ⟨R, 0, none⟩))).put (some 19) (.pointer (some ⟨R, 0, none⟩))).put (some 20) (.pointer (some ⟨R, 2, none⟩))).put (some 21) (.pointer (some ⟨R, 5, none⟩))).put (some 22) (.slice (some ⟨R, 5, none⟩) 16 16)).put (some 23) (.pointer (some ⟨R, 0, none⟩))).put (some 24) (.pointer (some ⟨R, 0, none⟩))).put (some 25) (.pointer (some ⟨R, 0, none⟩))).put (some 26) (v26)).put (some 27) (v27)) ∧ RB (fun b => b < w.heap.size) w' R (zs.drop 24) 24 (((c0 cls lab).set 2 (.int .u8 K7)).take 3 ++ u8L ((zs.drop 8).take 16) ++ ((c0 cls lab).set 2 (.int .u8 K7)).drop (3 + 16)) K6 l5 ∧ Only R W0 w') ?_ ?_
  · skip
    refine wp_region_held (S := fun _ => True) (by kernel_rfl) ?_
    show wpAnyH _ _ _ _ _ 10 (Array.replicate 10 false) _ _
    refine take_one (i := 0) (d := some 18) (v := .pointer (some ⟨R, 0, none⟩)) rfl rfl rfl (by kernel_rfl) (by kernel_rfl) (by kernel_rfl) (fun _ _ _ _ _ h => h.elim) (fun W hS => by kernel_rfl) trivial ?_
    simp only [Act.put, List.setIfInBounds_toArray, List.set_cons_zero, List.set_cons_succ]
    refine take_one (i := 1) (d := some 19) (v := .pointer (some ⟨R, 0, none⟩)) rfl rfl rfl (by kernel_rfl) (by kernel_rfl) (by kernel_rfl) (fun _ _ _ _ _ h => h.elim) (fun W hS => by kernel_rfl) trivial ?_
    simp only [Act.put, List.setIfInBounds_toArray, List.set_cons_zero, List.set_cons_succ]
    refine take_one (i := 2) (d := some 20) (v := .pointer (some ⟨R, 2, none⟩)) rfl rfl rfl (by kernel_rfl) (by kernel_rfl) (by kernel_rfl) (fun _ _ _ _ _ h => h.elim) (fun W hS => by kernel_rfl) trivial ?_
    simp only [Act.put, List.setIfInBounds_toArray, List.set_cons_zero, List.set_cons_succ]
    refine take_one (i := 3) (d := some 21) (v := .pointer (some ⟨R, 5, none⟩)) rfl rfl rfl (by kernel_rfl) (by kernel_rfl) (by kernel_rfl) (fun _ _ _ _ _ h => h.elim) (fun W hS => by kernel_rfl) trivial ?_
    simp only [Act.put, List.setIfInBounds_toArray, List.set_cons_zero, List.set_cons_succ]
    refine take_one (i := 4) (d := some 22) (v := .slice (some ⟨R, 5, none⟩) 16 16) rfl rfl rfl (by kernel_rfl) (by kernel_rfl) (by kernel_rfl) (fun _ _ _ _ _ h => h.elim) (fun W hS => by kernel_rfl) trivial ?_
    simp only [Act.put, List.setIfInBounds_toArray, List.set_cons_zero, List.set_cons_succ]
    refine take_one (i := 5) (d := some 23) (v := .pointer (some ⟨R, 0, none⟩)) rfl rfl rfl (by kernel_rfl) (by kernel_rfl) (by kernel_rfl) (fun _ _ _ _ _ h => h.elim) (fun W hS => by kernel_rfl) trivial ?_
    simp only [Act.put, List.setIfInBounds_toArray, List.set_cons_zero, List.set_cons_succ]
    refine take_one (i := 6) (d := some 24) (v := .pointer (some ⟨R, 0, none⟩)) rfl rfl rfl (by kernel_rfl) (by kernel_rfl) (by kernel_rfl) (fun _ _ _ _ _ h => h.elim) (fun W hS => by kernel_rfl) trivial ?_
    simp only [Act.put, List.setIfInBounds_toArray, List.set_cons_zero, List.set_cons_succ]
    refine take_one (i := 7) (d := some 25) (v := .pointer (some ⟨R, 0, none⟩)) rfl rfl rfl (by kernel_rfl) (by kernel_rfl) (by kernel_rfl) (fun _ _ _ _ _ h => h.elim) (fun W hS => by kernel_rfl) trivial ?_
    simp only [Act.put, List.setIfInBounds_toArray, List.set_cons_zero, List.set_cons_succ]
    have hrd := HR4.out.on ((Below.refl _ w4).drew)
    have hrun := run_calls hrd 16 (by rw [List.length_drop]; omega) (by rw [List.length_drop]; omega) (by omega)
    refine all_one (i := 8) (by kernel_rfl) rfl rfl ?_
    refine wp_call (d := some 26) (R := fun v X => ∃ l, BS (fun b => b < w.heap.size) X v ((zs.drop 8).take 16) ∧ RB (fun b => b < w.heap.size) X R (zs.drop 24) 24 ((c0 cls lab).set 2 (.int .u8 K7)) K6 l ∧ Only R w4 X) 47 _ rfl (by kernel_rfl) (hrun.mono (fun e X hx => by obtain ⟨u, l, he, hb, hr, ho⟩ := hx; rw [List.drop_drop] at hr; exact ⟨u, he, l, hb, hr, (((Only.refl R w4).drew).trans ho)⟩)) ?_
    rintro u X1 ⟨l5, hbu, hrx, hox⟩
    refine ⟨trivial, ?_⟩
    simp only [Act.put, List.setIfInBounds_toArray, List.set_cons_zero, List.set_cons_succ]
    obtain ⟨rc, X2, hcp, hr2, ho2⟩ := hrx.copied (by simp [vC_len]) hbu (by rw [List.length_take, List.length_drop]; omega) 3 (by omega) 3
    refine all_one (i := 9) (by kernel_rfl) rfl rfl ?_
    refine wp_copyA (d := some 27) (.tmp 22) (.tmp 26) 26 rfl rfl rfl rfl hcp ⟨trivial, ?_⟩
    simp only [Act.put, List.setIfInBounds_toArray, List.set_cons_zero, List.set_cons_succ]
    refine wpAnyH_done (by kernel_rfl) ?_ _
    exact ⟨u, rc, l5, rfl, hr2, HON4.out.trans (hox.trans ho2)⟩
  · rintro a' w5 ⟨v26, v27, l5, rfl, hr5, ho5⟩
    simp only [Act.put, List.setIfInBounds_toArray, List.set_cons_zero, List.set_cons_succ]
    have HR5 : Hid (RB (fun b => b < w.heap.size) w5 R (zs.drop 24) 24 (((c0 cls lab).set 2 (.int .u8 K7)).take 3 ++ u8L ((zs.drop 8).take 16) ++ ((c0 cls lab).set 2 (.int .u8 K7)).drop (3 + 16)) K6 l5) := hr5
    have HON5 : Hid (Only R W0 w5) := ho5
    clear hr5 ho5 HR4 HON4
    obtain ⟨C5, hC5⟩ : ∃ C5, ((c0 cls lab).set 2 (.int .u8 K7)).take 3 ++ u8L ((zs.drop 8).take 16) ++ ((c0 cls lab).set 2 (.int .u8 K7)).drop (3 + 16) = C5 := ⟨_, rfl⟩
    have hC5l : C5.length = 42 := by
      rw [← hC5]
      have h16 : (u8L ((zs.drop 8).take 16)).length = 16 := by unfold u8L; rw [List.length_map, List.length_take, List.length_drop]; omega
      have hVl : ((c0 cls lab).set 2 (.int .u8 K7)).length = 42 := by rw [List.length_set]; exact vC_len
      rw [List.length_append, List.length_append, List.length_take, List.length_drop, hVl, h16]
      rfl
    rw [hC5] at HR5
    have HC5 : Hid _ := hC5
    clear hC5
    go_wp2_with fail
    refine region_mid (fun a0 a' w' => ∃ v36 v37 l6, a' = ((((((((((a0.put (some 28) (.pointer (some ⟨R, 0, none⟩))).put (some 29) (.pointer (some ⟨R, 0, none⟩))).put (some 30) (.pointer (some ⟨R, 2, none⟩))).put (some 31) (.pointer (some ⟨R, 21, none⟩))).put (some 32) (.slice (some ⟨R, 21, none⟩) 16 16)).put (some 33) (.pointer (some ⟨R, 0, none⟩))).put (some 34) (.pointer (some ⟨R, 0, none⟩))).put (some 35) (.pointer (some ⟨R, 0, none⟩))).put (some 36) (v36)).put (some 37) (v37)) ∧ RB (fun b => b < w.heap.size) w' R (zs.drop 40) 40 (C5.take 19 ++ u8L ((zs.drop 24).take 16) ++ C5.drop (19 + 16)) K6 l6 ∧ Only R W0 w') ?_ ?_
    · skip
      refine wp_region_held (S := fun _ => True) (by kernel_rfl) ?_
      show wpAnyH _ _ _ _ _ 10 (Array.replicate 10 false) _ _
      refine take_one (i := 0) (d := some 28) (v := .pointer (some ⟨R, 0, none⟩)) rfl rfl rfl (by kernel_rfl) (by kernel_rfl) (by kernel_rfl) (fun _ _ _ _ _ h => h.elim) (fun W hS => by kernel_rfl) trivial ?_
      simp only [Act.put, List.setIfInBounds_toArray, List.set_cons_zero, List.set_cons_succ]
      refine take_one (i := 1) (d := some 29) (v := .pointer (some ⟨R, 0, none⟩)) rfl rfl rfl (by kernel_rfl) (by kernel_rfl) (by kernel_rfl) (fun _ _ _ _ _ h => h.elim) (fun W hS => by kernel_rfl) trivial ?_
      simp only [Act.put, List.setIfInBounds_toArray, List.set_cons_zero, List.set_cons_succ]
      refine take_one (i := 2) (d := some 30) (v := .pointer (some ⟨R, 2, none⟩)) rfl rfl rfl (by kernel_rfl) (by kernel_rfl) (by kernel_rfl) (fun _ _ _ _ _ h => h.elim) (fun W hS => by kernel_rfl) trivial ?_
      simp only [Act.put, List.setIfInBounds_toArray, List.set_cons_zero, List.set_cons_succ]
      refine take_one (i := 3) (d := some 31) (v := .pointer (some ⟨R, 21, none⟩)) rfl rfl rfl (by kernel_rfl) (by kernel_rfl) (by kernel_rfl) (fun _ _ _ _ _ h => h.elim) (fun W hS => by kernel_rfl) trivial ?_
      simp only [Act.put, List.setIfInBounds_toArray, List.set_cons_zero, List.set_cons_succ]
      refine take_one (i := 4) (d := some 32) (v := .slice (some ⟨R, 21, none⟩) 16 16) rfl rfl rfl (by kernel_rfl) (by kernel_rfl) (by kernel_rfl) (fun _ _ _ _ _ h => h.elim) (fun W hS => by kernel_rfl) trivial ?_
      simp only [Act.put, List.setIfInBounds_toArray, List.set_cons_zero, List.set_cons_succ]
      refine take_one (i := 5) (d := some 33) (v := .pointer (some ⟨R, 0, none⟩)) rfl rfl rfl (by kernel_rfl) (by kernel_rfl) (by kernel_rfl) (fun _ _ _ _ _ h => h.elim) (fun W hS => by kernel_rfl) trivial ?_
      simp only [Act.put, List.setIfInBounds_toArray, List.set_cons_zero, List.set_cons_succ]
      refine take_one (i := 6) (d := some 34) (v := .pointer (some ⟨R, 0, none⟩)) rfl rfl rfl (by kernel_rfl) (by kernel_rfl) (by kernel_rfl) (fun _ _ _ _ _ h => h.elim) (fun W hS => by kernel_rfl) trivial ?_
      simp only [Act.put, List.setIfInBounds_toArray, List.set_cons_zero, List.set_cons_succ]
      refine take_one (i := 7) (d := some 35) (v := .pointer (some ⟨R, 0, none⟩)) rfl rfl rfl (by kernel_rfl) (by kernel_rfl) (by kernel_rfl) (fun _ _ _ _ _ h => h.elim) (fun W hS => by kernel_rfl) trivial ?_
      simp only [Act.put, List.setIfInBounds_toArray, List.set_cons_zero, List.set_cons_succ]
      have hrd := HR5.out.on ((Below.refl _ w5).drew)
      have hrun := run_calls hrd 16 (by rw [List.length_drop]; omega) (by rw [List.length_drop]; omega) (by omega)
      refine all_one (i := 8) (by kernel_rfl) rfl rfl ?_
      refine wp_call (d := some 36) (R := fun v X => ∃ l, BS (fun b => b < w.heap.size) X v ((zs.drop 24).take 16) ∧ RB (fun b => b < w.heap.size) X R (zs.drop 40) 40 C5 K6 l ∧ Only R w5 X) 47 _ rfl (by kernel_rfl) (hrun.mono (fun e X hx => by obtain ⟨u, l, he, hb, hr, ho⟩ := hx; rw [List.drop_drop] at hr; exact ⟨u, he, l, hb, hr, (((Only.refl R w5).drew).trans ho)⟩)) ?_
      rintro u X1 ⟨l5, hbu, hrx, hox⟩
      refine ⟨trivial, ?_⟩
      simp only [Act.put, List.setIfInBounds_toArray, List.set_cons_zero, List.set_cons_succ]
      obtain ⟨rc, X2, hcp, hr2, ho2⟩ := hrx.copied hC5l hbu (by rw [List.length_take, List.length_drop]; omega) 19 (by omega) 3
      refine all_one (i := 9) (by kernel_rfl) rfl rfl ?_
      refine wp_copyA (d := some 37) (.tmp 32) (.tmp 36) 26 rfl rfl rfl rfl hcp ⟨trivial, ?_⟩
      simp only [Act.put, List.setIfInBounds_toArray, List.set_cons_zero, List.set_cons_succ]
      refine wpAnyH_done (by kernel_rfl) ?_ _
      exact ⟨u, rc, l5, rfl, hr2, HON5.out.trans (hox.trans ho2)⟩
    · rintro a' w6 ⟨v36, v37, l6, rfl, hr6, ho6⟩
      simp only [Act.put, List.setIfInBounds_toArray, List.set_cons_zero, List.set_cons_succ]
      have hC6 : C5.take 19 ++ u8L ((zs.drop 24).take 16) ++ C5.drop (19 + 16) = .int .u8 cls :: .int .u32 lab :: .int .u8 K7 :: (u8L ((zs.drop 8).take 32) ++ [.slice none 0 0, .bool false, .int .u32 0, .int .i64 0, .bool false, .int .u8 0, .slice none 0 0]) := by
        rw [← HC5.out]
        have hX : (u8L ((zs.drop 8).take 16)).length = 16 := by simp [u8L]; omega
        have := c_fin (.int .u8 cls) (.int .u32 lab) (.int .u8 K7) (u8L ((zs.drop 8).take 16)) (u8L ((zs.drop 24).take 16)) (List.replicate 32 (.int .u8 0)) [.slice none 0 0, .bool false, .int .u32 0, .int .i64 0, .bool false, .int .u8 0, .slice none 0 0] hX rfl
        have e32 : u8L ((zs.drop 8).take 16) ++ u8L ((zs.drop 24).take 16) = u8L ((zs.drop 8).take 32) := by
          unfold u8L
          rw [← List.map_append]
          congr 1
          have e24 : zs.drop 24 = (zs.drop 8).drop 16 := by rw [List.drop_drop]
          rw [e24]
          have := List.take_add (l := zs.drop 8) (i := 16) (j := 16)
          exact this.symm
        rw [e32] at this
        exact this
      rw [hC6] at hr6
      obtain ⟨C6, hC6e⟩ : ∃ C6, .int .u8 cls :: .int .u32 lab :: .int .u8 K7 :: (u8L ((zs.drop 8).take 32) ++ [.slice none 0 0, .bool false, .int .u32 0, .int .i64 0, .bool false, .int .u8 0, .slice none 0 0]) = C6 := ⟨_, rfl⟩
      rw [hC6e] at hr6
      have hC6l : C6.length = 42 := by
        rw [← hC6e]
        have hX : (u8L ((zs.drop 8).take 32)).length = 32 := by unfold u8L; rw [List.length_map]; exact hA
        rw [List.length_cons, List.length_cons, List.length_cons, List.length_append, hX]
        rfl
      have HR6 : Hid (RB (fun b => b < w.heap.size) w6 R (zs.drop 40) 40 C6 K6 l6) := hr6
      have HON6 : Hid (Only R W0 w6) := ho6
      have k44 : w6.cell? ⟨R, 44, none⟩ = some (.int .u8 K6) := by
        have e : (C6 ++ [Value.int .u8 K6])[42]? = some (.int .u8 K6) := by
          rw [List.getElem?_append_right (by rw [hC6l]; exact Nat.le_refl _), hC6l]
          rfl
        exact blk_cell hr6.box e
      -- the datagram's Proto and Body
      obtain ⟨w7, hst7, hr7, hon7⟩ : ∃ w7, (Instr.storeAt 5 (.pointer (some ⟨R, 42, none⟩)) (.int .u8 K6)).run Try.prog w6 = .ok () w7 ∧ RB (fun b => b < w.heap.size) w7 R (zs.drop 40) 40 (C6.set 40 (.int .u8 K6)) K6 l6 ∧ Only R w6 w7 := ⟨_, st_u8 hr6.box (j := 42) (by rw [rC_len]; omega) K6, hr6.put (j := 40) (by omega) (.int .u8 K6), (Only.refl _ w6).set 42 _⟩
      have HS7 : Hid _ := hst7
      have HCL : Hid _ := Clone_bs l6 (zs.drop 40) w7 hr7.byt.row
      have HL7 : Hid _ := ld_row (hr7.k0) hr7.byt.slc
      have HR7 : Hid (RB (fun b => b < w.heap.size) w7 R (zs.drop 40) 40 (C6.set 40 (.int .u8 K6)) K6 l6) := hr7
      have HON7 : Hid (Only R W0 w7) := ho6.trans hon7
      have HFC : Hid (∀ vb, (C6.set 40 (.int .u8 K6)).set 41 vb = vC FF zG (.slice none 0 0) vb) := fun vb => by
        rw [← hC6e, ← HFF.out]
        have hX : (u8L ((zs.drop 8).take 32)).length = 32 := by unfold u8L; rw [List.length_map]; exact hA
        show ((_ :: _ :: _ :: (u8L ((zs.drop 8).take 32) ++ _)).set (35 + 5) _).set (35 + 6) vb = _
        rw [fin_set _ _ _ _ _ hX, fin_set _ _ _ _ _ hX]
        rfl
      clear hr6 ho6 hC6 hst7 hr7 hon7 HC5 hC6e
      go_wp2_with fail
      go_loopw [] (fun wr => wr = w6) (fun _ => 0)
      case atStart => rfl
      case round =>
        obtain rfl := hrel
        go_wp2_with fail
        refine Calls.mono (HIS.out _) ?_
        rintro e wi ⟨rfl, hwi⟩
        obtain rfl := hwi.symm
        clear hwi
        go_wp2_with first
          | ((with_reducible show wpList _ _ _ ({ dst := _, op := Op.store 5 (Operand.tmp 59) (Operand.tmp 56), type := _, pos := _, after := _, guard := _ } :: _) _ _); refine armS (.tmp 59) (Operand.tmp 56) 5 rfl rfl rfl rfl HS7.out ?_; try simp only [Act.put])
          | ((with_reducible show wpList _ _ _ ({ dst := _, op := Op.load 26 (Operand.tmp 64), type := _, pos := _, after := _, guard := _ } :: _) _ _); refine armL (.tmp 64) 26 rfl rfl rfl HL7.out ?_)
        refine Calls.mono HCL.out ?_
        rintro e w8 ⟨u, rfl, hbu, hb8⟩
        have hr8 := HR7.out.on hb8
        obtain ⟨w9, hst9, hr9, hon9⟩ : ∃ w9, (Instr.storeAt 26 (.pointer (some ⟨R, 43, none⟩)) u).run Try.prog w8 = .ok () w9 ∧ RB (fun b => b < w.heap.size) w9 R (zs.drop 40) 40 ((C6.set 40 (.int .u8 K6)).set 41 u) K6 l6 ∧ Only R w8 w9 := ⟨_, st_row hr8.box (j := 43) (by rw [rC_len]; simp; omega) hbu.slc, hr8.put (j := 41) (by simp; omega) u, (Only.refl _ w8).set 43 _⟩
        rw [HFC.out u] at hr9
        have hw7s : w7.heap.size = W0.heap.size := HON7.out.size
        have HL9 : Hid _ := rd_load hr9
        have hz9 : w9.heap[W.heap.size]? = some (.cells zeroV.toArray 28) := (hon9.other _ (by omega)).trans (blk_on ((HON7.out.other _ (by omega)).trans HZ0.out) hb8)
        obtain ⟨wf, hstf, hbxf, honf⟩ := box_store Try.sizeOf28 hz9 (by rfl) (vC FF zG (.slice none 0 0) u) vC_len (vC_one rfl hbu.one)
        have HS9 : Hid _ := hst9
        have HSF : Hid _ := hstf
        have HVF : Hid _ := vb_var hbxf
        have hbuf : BS (fun b => W.heap.size ≤ b) wf u (zs.drop 40) := by
          have h9 := hbu.sep (Sep.of_only (O := fun b => b = R) hon9 rfl) (fun b hb e => by omega)
          exact (h9.sep (Sep.of_only (O := fun b => b = W.heap.size) honf rfl) (fun b hb e => by omega)).mono (fun b _ hb => by omega)
        have HBU : Hid (BS (fun b => W.heap.size ≤ b) wf u (zs.drop 40)) := hbuf
        have HBF : Hid (Below w.heap.size w wf) := (((HB0.out.trans (HON7.out.below hlo)).trans (hb8.mono (by omega))).trans (hon9.below hlo)).trans (honf.below (by omega))
        clear hbu hb8 hr8 hst9 hr9 hon9 hz9 hstf hbxf honf hbuf HCL HL7 HR7 HFC HR6
        go_wp2_with first
          | ((with_reducible show wpList _ _ _ ({ dst := _, op := Op.store 26 (Operand.tmp 69) (Operand.tmp 66), type := _, pos := _, after := _, guard := _ } :: _) _ _); refine armS (.tmp 69) (Operand.tmp 66) 26 rfl rfl rfl rfl HS9.out ?_; try simp only [Act.put])
          | ((with_reducible show wpList _ _ _ ({ dst := _, op := Op.load 28 (Operand.tmp 72), type := _, pos := _, after := _, guard := _ } :: _) _ _); refine armL (.tmp 72) 28 rfl rfl rfl HL9.out ?_)
          | ((with_reducible show wpList _ _ _ ({ dst := _, op := Op.store 28 (Operand.tmp 2) (Operand.tmp 73), type := _, pos := _, after := _, guard := _ } :: _) _ _); refine armS (.tmp 2) (Operand.tmp 73) 28 rfl rfl rfl rfl HSF.out ?_; try simp only [Act.put])
        exact bodyPost_ret (res1t rfl rfl HVF.out) rfl ⟨u, rfl, HBU.out, HBF.out⟩
end

end Go.Proofs.Ytbaeogoojpngbaa
