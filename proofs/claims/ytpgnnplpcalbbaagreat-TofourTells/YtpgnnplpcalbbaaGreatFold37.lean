/-
  checkAt of package tofour: where the checksum of a body stands, and whether it does.
  carried of package tofour, of any datagram.
  Pointer and MTU of package tofour and of the document.
-/
import Derived.Test.YtpgnnplpcalbbaaGreatFold36
import Derived.Test.YtpgnnplpcalbbaaGreatSpM
import Derived.Test.YtpgnnplpcalbbaaGreatFold00
import Derived.Handy
set_option linter.unusedVariables false
set_option linter.unusedSimpArgs false
namespace Go.Proofs.YtpgnnplpcalbbaaGreat
open Go Go.RowKit Go.Shelf
def thereS (p : Int) (zs : List Int) : Bool := if p = 6 then decide (18 ≤ zs.length) else if p = 17 then decide (8 ≤ zs.length) && !(wd2 zs 6 == 0) else false
/-- A word of a row. -/
theorem word_at {w : World} {v : Value} {zs : List Int} (h : RowC w v zs) (k : Nat) (hk : k + 2 ≤ zs.length) : ∃ b off cap, v = .slice (some ⟨b, off, none⟩) zs.length cap ∧ (Instr.sliceAt 25 v (some (.int .i64 (k : Int))) none none).run Tryz.prog w = .ok (.slice (some ⟨b, off + k, none⟩) (zs.length - k) (cap - k)) w ∧ Calls Tryz.prog 172 #[.slice (some ⟨b, off + k, none⟩) (zs.length - k) (cap - k)] w fun e w' => e = .returned (.int .u16 (wd2 zs k)) ∧ w' = w.drew := by
  obtain ⟨b, off, cap, hS⟩ := h.rowS (by omega)
  have hv := hS.val
  subst hv
  refine ⟨b, off, cap, rfl, ?_, ?_⟩
  · have := slice_from b off zs.length cap k w (by omega) hS.room
    rw [restV_eq] at this
    have hoff : nxt off cap k = off + k := by
      unfold nxt
      rw [if_neg (by have := hS.room; omega)]
    rw [hoff] at this
    exact this
  · have := wordOf_callsS b (off + k) (zs.length - k) (cap - k) (gz zs k) (gz zs (k + 1)) w (by omega) (hS.cell k (by omega)) (by rw [Nat.add_assoc]; exact hS.cell (k + 1) (by omega)) (hS.fit.gz k) (hS.fit.gz (k + 1))
    exact this
set_option maxHeartbeats 1000000 in
set_option maxRecDepth 100000 in
theorem checkAt_callsS (p : Int) (v : Value) (zs : List Int) (w : World) (h : RowC w v zs) : Calls Tryz.prog 221 #[.int .u8 p, v] w fun e w' => e = .returned (.tuple #[.int .i64 (kAt p : Int), .bool (thereS p zs)]) ∧ Below w.heap.size w w' := by
  have hl := h.len
  by_cases h6 : p = 6
  · subst h6
    obtain ⟨a, cap, rfl, _⟩ := h.val
    have ht : thereS 6 zs = decide ((18 : Int) ≤ (zs.length : Int)) := by
      show decide (18 ≤ zs.length) = _
      exact decide_eq_decide.2 (by omega)
    rw [ht]
    clear h ht
    go_enter Tryz.func221, Tryz.ntmps221
    go_wp2
    go_ret2
    exact ⟨rfl, Below.refl _ _⟩
  · by_cases h17 : p = 17
    · subst h17
      by_cases h8 : 8 ≤ zs.length
      · obtain ⟨b, off, cap, rfl, hsl, hwd⟩ := word_at h 6 (by omega)
        have q8 : decide ((8 : Int) ≤ (zs.length : Int)) = true := decide_eq_true (by omega)
        have ht : thereS 17 zs = (wd2 zs 6 != 0) := by
          show (decide (8 ≤ zs.length) && !(wd2 zs 6 == 0)) = _
          rw [decide_eq_true h8]
          rfl
        rw [ht]
        have HSL : Hid _ := hsl
        have HWD : Hid _ := hwd
        clear h ht hsl hwd h8
        generalize wd2 zs 6 = x at *
        go_enter Tryz.func221, Tryz.ntmps221
        go_wp2_with ((with_reducible show wpList _ _ _ ({ dst := _, op := Op.slice _ _ _ _ _, type := _, pos := _, after := _, guard := _ } :: _) _ _); refine arm_slice rfl 25 (.tmp 18) (some (.const (.int .i64 6))) none rfl rfl rfl rfl HSL.out ?_)
        refine Calls.mono HWD.out ?_
        rintro _ w2 ⟨rfl, rfl⟩
        go_wp2
        go_ret2
        exact ⟨rfl, (Below.refl _ _).drew⟩
      · obtain ⟨a, cap, rfl, _⟩ := h.val
        have q8 : decide ((8 : Int) ≤ (zs.length : Int)) = false := decide_eq_false (by omega)
        have ht : thereS 17 zs = false := by
          show (decide (8 ≤ zs.length) && !(wd2 zs 6 == 0)) = _
          rw [decide_eq_false h8]
          rfl
        rw [ht]
        clear h ht h8
        go_enter Tryz.func221, Tryz.ntmps221
        go_wp2
        go_ret2
        exact ⟨rfl, Below.refl _ _⟩
    · have q1 : (p == 6) = false := by simpa using h6
      have q2 : (p == 17) = false := by simpa using h17
      have HE : Hid (kAt p = 0 ∧ thereS p zs = false) := by
        have : kAt p = 0 ∧ thereS p zs = false := by simp [kAt, thereS, h6, h17]
        exact this
      obtain ⟨a, cap, rfl, _⟩ := h.val
      clear h6 h17 h
      go_enter Tryz.func221, Tryz.ntmps221
      go_wp2
      go_ret2
      exact ⟨by rw [HE.out.1, HE.out.2]; rfl, Below.refl _ _⟩
end Go.Proofs.YtpgnnplpcalbbaaGreat
namespace Go.Proofs.YtpgnnplpcalbbaaGreat
open Go Go.RowKit Go.Shelf
theorem wp_effS {P : Program} {o : Oper} {a : Act} {d : Option Nat} {w w2 : World} {v : Value} {K : Act → World → Prop} {Q : Exit → Act → World → Prop} (hd : o.dst = d) (hrun : (execOp a.eval o).run P w = .ok (.value v) w2) (hK : K (a.put d v) w2) : o.wp P a w K Q := by
  subst hd
  unfold Oper.wp
  rw [hrun]
  exact hK
theorem ex_fV6 {o : Oper} {a : Act} {W : World} (k : Nat) (i n : Nat) {b : Nat} (hop : o.op = Op.fieldAddr 36 (.tmp k) i) (hk : a.eval (.tmp k) = .pointer (some ⟨b, 0, none⟩)) (hi : (i = 3 ∧ n = 3) ∨ (i = 4 ∧ n = 19)) :
    (execOp a.eval o).run Tryz.prog W = .ok (.value (.pointer (some ⟨b, n, none⟩))) W := by
  generalize a.eval = ev at *
  rcases hi with ⟨rfl, rfl⟩ | ⟨rfl, rfl⟩ <;> simp [execOp, hop, hk, go_sem]
theorem ex_fE4 {o : Oper} {a : Act} {W : World} (k : Nat) (i n : Nat) {b : Nat} (hop : o.op = Op.fieldAddr 59 (.tmp k) i) (hk : a.eval (.tmp k) = .pointer (some ⟨b, 0, none⟩)) (hi : (i = 0 ∧ n = 0) ∨ (i = 1 ∧ n = 4)) :
    (execOp a.eval o).run Tryz.prog W = .ok (.value (.pointer (some ⟨b, n, none⟩))) W := by
  generalize a.eval = ev at *
  rcases hi with ⟨rfl, rfl⟩ | ⟨rfl, rfl⟩ <;> simp [execOp, hop, hk, go_sem]
theorem ex_build2 {o : Oper} {a : Act} {W : World} (j k : Nat) {x y : Option Addr} {n m n' m' : Nat} (hop : o.op = Op.buildSlice 127 2 #[(0, .tmp j), (1, .tmp k)]) (hj : a.eval (.tmp j) = .slice x n m) (hk : a.eval (.tmp k) = .slice y n' m') :
    (execOp a.eval o).run Tryz.prog W = .ok (.value (.slice (some ⟨W.heap.size, 0, none⟩) 2 2)) (W.alloc (.cells #[.slice x n m, .slice y n' m'] 25)) := by
  generalize a.eval = ev at *
  simp [execOp, hop, hj, hk, go_sem]
theorem ex_assignS {P : Program} {o : Oper} {a : Act} {W : World} (k : Nat) {v : Value} (hop : o.op = Op.assign (.tmp k)) (hk : a.eval (.tmp k) = v) : (execOp a.eval o).run P W = .ok (.value v) W := by
  generalize a.eval = ev at *
  simp [execOp, hop, hk, go_sem]
/-- A checksum that is carried over. -/
def ovS (p : Int) (A B C D body : List Int) : Int := upd (wd2 body (kAt p)) (A ++ B) (C ++ D ++ List.replicate 24 0)
def upS (p : Int) (A B C D body : List Int) : Int := if ovS p A B C D body = 0 ∧ p = 17 then 65535 else ovS p A B C D body
def carS (p : Int) (A B C D body : List Int) : List Int := if thereS p body = true then putL body (kAt p) (upS p A B C D body) else body
set_option maxHeartbeats 4000000 in
set_option maxRecDepth 100000 in
theorem carried_yes (f : V6.F6) (g : V6.G6) (vh vb : Value) (hs : V6.Opts) (A B C D body : List Int) (w : World) (h : SIn w f vh vb hs A B body) (lC : C.length = 4) (lD : D.length = 4) (fC : Fit C) (fD : Fit D) (ht : thereS f.proto body = true) (hbl : body.length ≤ 1000000) :
    Calls Tryz.prog 173 #[V6.VV f g vh vb, .agg (u8L C ++ u8L D).toArray] w fun e w' => ∃ G k, e = .returned (.slice (some ⟨G, 0, none⟩) body.length k) ∧ body.length ≤ k ∧ w.heap.size ≤ G ∧ OwnG w' G (putL body (kAt f.proto) (upS f.proto A B C D body)) ∧ Below w.heap.size w w' := by
  obtain ⟨W0, hW0⟩ : ∃ W0, w.alloc (V6.BV f g vh vb) = W0 := ⟨_, rfl⟩
  obtain ⟨W1, hW1⟩ : ∃ W1, W0.alloc (.cells (u8L C ++ u8L D).toArray 59) = W1 := ⟨_, rfl⟩
  have b0 := blk_new w (V6.BV f g vh vb)
  have hB0 := (Below.refl w.heap.size w).alloc (Nat.le_refl _) (V6.BV f g vh vb)
  rw [hW0] at b0 hB0
  have b1 := blk_new W0 (.cells (u8L C ++ u8L D).toArray 59)
  have hB1 := (Below.refl W0.heap.size W0).alloc (Nat.le_refl _) (.cells (u8L C ++ u8L D).toArray 59)
  have b01 := blk_alloc b0 (.cells (u8L C ++ u8L D).toArray 59)
  rw [hW1] at b1 hB1 b01
  have hX1 := hB0.trans (hB1.mono hB0.size)
  have hpk : (f.proto = 6 ∧ kAt f.proto = 16 ∧ 18 ≤ body.length) ∨ (f.proto = 17 ∧ kAt f.proto = 6 ∧ 8 ≤ body.length) := by
    unfold thereS at ht
    by_cases h6 : f.proto = 6
    · rw [if_pos h6] at ht; exact .inl ⟨h6, by rw [h6]; rfl, of_decide_eq_true ht⟩
    · rw [if_neg h6] at ht
      by_cases h17 : f.proto = 17
      · rw [if_pos h17] at ht; simp at ht; exact .inr ⟨h17, by rw [h17]; rfl, ht.1⟩
      · rw [if_neg h17] at ht; cases ht
  obtain ⟨p, hp⟩ : ∃ p, f.proto = p := ⟨_, rfl⟩
  have HC : Hid (∀ W, Below W1.heap.size W1 W → W.cell? ⟨w.heap.size, 40, none⟩ = some (.int .u8 p) ∧ W.cell? ⟨w.heap.size, 41, none⟩ = some vb) := fun W hW => ⟨by rw [← hp]; exact vb40 (blk_on b01 hW), V6.vb41 (blk_on b01 hW)⟩
  have HEA : Hid (∀ W, Below W1.heap.size W1 W → BytesAt W.heap.size W (.slice (some ⟨w.heap.size, 3, none⟩) 16 16) A ∧ BytesAt W.heap.size W (.slice (some ⟨w.heap.size, 19, none⟩) 16 16) B) := fun W hW => by
    have k1 := CellsAt.of_blk (blk_on b01 hW)
    have hlt : w.heap.size < W.heap.size := (Array.getElem?_eq_some_iff.1 (blk_on b01 hW)).1
    rw [vC_ads g vh vb h.ad] at k1
    have e : ([.int .u8 f.cls, .int .u32 f.lab, .int .u8 f.hop] ++ u8L A : List Value).length = 19 := by simp [u8L_len, h.lA]
    have k2 := CellsAt.part (o := 0) (xs := [.int .u8 f.cls, .int .u32 f.lab, .int .u8 f.hop] ++ u8L A) (ys := u8L B) k1
    rw [e] at k2
    rw [List.append_assoc] at k1
    have k3 := CellsAt.part (o := 0) (xs := [.int .u8 f.cls, .int .u32 f.lab, .int .u8 f.hop]) (ys := u8L A) k1
    exact ⟨cells_bytes k3 hlt h.fA (by rw [h.lA]; decide) h.lA.symm, cells_bytes k2 hlt h.fB (by rw [h.lB]; decide) h.lB.symm⟩
  have HEC : Hid (∀ W, Below W1.heap.size W1 W → BytesAt W.heap.size W (.slice (some ⟨W0.heap.size, 0, none⟩) 4 4) C ∧ BytesAt W.heap.size W (.slice (some ⟨W0.heap.size, 4, none⟩) 4 4) D) := fun W hW => by
    have k1 := CellsAt.of_blk (blk_on b1 hW)
    have hlt : W0.heap.size < W.heap.size := (Array.getElem?_eq_some_iff.1 (blk_on b1 hW)).1
    have e : (u8L C).length = 4 := by rw [u8L_len, lC]
    have k2 := CellsAt.part (o := 0) (xs := u8L C) (ys := u8L D) (zs := []) (by rw [List.append_nil]; exact k1)
    rw [e] at k2
    exact ⟨cells_bytes k1.fst hlt fC (by rw [lC]; decide) lC.symm, cells_bytes k2 hlt fD (by rw [lD]; decide) lD.symm⟩
  have HCL : Hid (Calls Tryz.prog 129 #[vb] W1 fun e w' => ∃ u, e = .returned u ∧ (CpV W1.heap.size w' u body ∧ Below W1.heap.size W1 w')) := Clone_cp _ body W1 (h.on hX1).d6.bd.row.bytes
  have HFB : Hid (Fit body) := h.d6.bd.row.fit
  have HFA : Hid (Fit (A ++ B)) := Fit.app h.fA h.fB
  have hlAB : (A ++ B).length = 32 := by rw [List.length_append, h.lA, h.lB]
  have hfC : Fit (C ++ D ++ List.replicate 24 0) := Fit.app (Fit.app fC fD) (fun z hz => by rw [(List.mem_replicate.1 hz).2]; decide)
  have hlC : (C ++ D ++ List.replicate 24 0).length = 32 := by rw [List.length_append, List.length_append, lC, lD]; rfl
  have hlCD : (C ++ D).length = 8 := by rw [List.length_append, lC, lD]
  have hl8 : (List.replicate 32 (0 : Int)).take 0 ++ (C ++ D) ++ (List.replicate 32 (0 : Int)).drop (0 + (C ++ D).length) = C ++ D ++ List.replicate 24 0 := by rw [hlCD]; rfl
  have FCC : Hid (Fit C) := fC
  have FDD : Hid (Fit D) := fD
  have HX1 : Hid _ := hX1
  have HFC : Hid _ := hfC
  obtain ⟨avb, cvb, rfl, _⟩ := h.d6.bd.row.val
  obtain ⟨ka, hka⟩ : ∃ ka, kAt p = ka := ⟨_, rfl⟩
  rw [hp] at ht hpk ⊢
  rw [hka] at hpk ⊢
  have HTH : Hid _ := ht
  clear b0 hB0 b1 hB1 b01 hX1 h fC fD ht hfC
  have hfp := hp
  clear hp
  obtain ⟨i, hi, hz, hsz, hby⟩ := info_parts info_u8
  have hy0 : Below W1.heap.size W1 W1 := Below.refl _ _
  obtain ⟨k40, k41⟩ := HC.out W1 hy0
  unfold V6.VV V6.BV at *
  generalize (V6.vC f g vh (.slice avb body.length cvb)).toArray = vc at *
  generalize (u8L C ++ u8L D).toArray = ec at *
  go_enter Tryz.func173, Tryz.ntmps173
  go_wp2_with fail
  refine Calls.mono HCL.out ?_
  rintro _ w2 ⟨u, rfl, hcp, hb2⟩
  obtain ⟨G, kc, rfl, hk1, hk2, own1⟩ : ∃ G k, u = .slice (some ⟨G, 0, none⟩) body.length k ∧ body.length ≤ k ∧ W1.heap.size ≤ G ∧ OwnG w2 G body := by
    rcases hcp with ⟨q, _⟩ | q
    · rw [q] at hpk; simp at hpk
    · exact q
  have hy2 := hy0.trans (hb2.mono hy0.size)
  have hrow2 : RowC w2 (.slice (some ⟨G, 0, none⟩) body.length kc) body := .of_bytes (by simpa using own1.bytes HFB.out (by omega) 0 body.length kc (by simp)) hk1
  have OWN1 : Hid _ := own1
  have hgl := own1.lt
  have HCK : Hid (Calls Tryz.prog 221 #[.int .u8 p, .slice (some ⟨G, 0, none⟩) body.length kc] w2 fun e w' => e = .returned (.tuple #[.int .i64 (ka : Int), .bool true]) ∧ Below w2.heap.size w2 w') := by
    have := checkAt_callsS p _ body w2 hrow2
    rw [HTH.out, hka] at this
    exact this
  have HRW : Hid _ := hrow2
  clear hb2 hcp own1 hrow2 HCL k40 k41
  obtain ⟨k40, k41⟩ := HC.out w2 hy2
  go_wp2_with fail
  refine Calls.mono HCK.out ?_
  rintro _ w3 ⟨rfl, hb3⟩
  have hy3 := hy2.trans (hb3.mono hy2.size)
  have hz3 : Below w2.heap.size w2 w3 := hb3
  have hyd : Below W1.heap.size W1 w3.drew := hy3.drew
  have hCA := Concat_calls _ _ _ (parts_two w3.drew _ _ 25 _ _ (HEA.out _ hyd).1 (HEA.out _ hyd).2) (by simp) (by rw [show [A, B].flatten = A ++ B by simp, hlAB]; decide)
  rw [show [A, B].flatten = A ++ B by simp] at hCA
  have HCA : Hid _ := hCA
  clear hb3 HCK hCA k40 k41 hy2
  go_wp2_with fail
  refine wp_region_held (S := fun _ => True) (by kernel_rfl) ?_
  show wpAnyH _ _ _ _ _ 7 (Array.replicate 7 false) _ _
  refine take_one (S := fun _ => True) (i := 0) (d := some 25) (v := .pointer (some ⟨w.heap.size, 3, none⟩)) rfl rfl rfl (by kernel_rfl) (by kernel_rfl) (by kernel_rfl) (fun _ _ d _ _ h => by cases d <;> exact h) (fun W hS => ex_fV6 2 3 3 rfl rfl (by decide)) trivial ?_
  simp only [Act.put, List.setIfInBounds_toArray, List.set_cons_zero, List.set_cons_succ]
  refine take_one (S := fun _ => True) (i := 1) (d := some 26) (v := .slice (some ⟨w.heap.size, 3, none⟩) 16 16) rfl rfl rfl (by kernel_rfl) (by kernel_rfl) (by kernel_rfl) (fun _ _ d _ _ h => by cases d <;> exact h) (fun W hS => ex_slice6 25 rfl rfl) trivial ?_
  simp only [Act.put, List.setIfInBounds_toArray, List.set_cons_zero, List.set_cons_succ]
  refine take_one (S := fun _ => True) (i := 2) (d := some 27) (v := .pointer (some ⟨w.heap.size, 19, none⟩)) rfl rfl rfl (by kernel_rfl) (by kernel_rfl) (by kernel_rfl) (fun _ _ d _ _ h => by cases d <;> exact h) (fun W hS => ex_fV6 2 4 19 rfl rfl (by decide)) trivial ?_
  simp only [Act.put, List.setIfInBounds_toArray, List.set_cons_zero, List.set_cons_succ]
  refine take_one (S := fun _ => True) (i := 3) (d := some 28) (v := .slice (some ⟨w.heap.size, 19, none⟩) 16 16) rfl rfl rfl (by kernel_rfl) (by kernel_rfl) (by kernel_rfl) (fun _ _ d _ _ h => by cases d <;> exact h) (fun W hS => ex_slice6 27 rfl rfl) trivial ?_
  simp only [Act.put, List.setIfInBounds_toArray, List.set_cons_zero, List.set_cons_succ]
  refine all_one (i := 4) (by kernel_rfl) rfl rfl ?_
  refine wp_effS (d := some 29) rfl (ex_build2 26 28 rfl rfl rfl) ⟨trivial, ?_⟩
  simp only [Act.put, List.setIfInBounds_toArray, List.set_cons_zero, List.set_cons_succ]
  refine all_one (i := 5) (by kernel_rfl) rfl rfl ?_
  refine wp_call (d := some 30) 201 _ rfl (by kernel_rfl) HCA.out ?_
  rintro v4 w4 h4
  refine ⟨trivial, ?_⟩
  simp only [Act.put, List.setIfInBounds_toArray, List.set_cons_zero, List.set_cons_succ]
  refine all_one (i := 6) (by kernel_rfl) rfl rfl ?_
  obtain ⟨g4, k4, rfl, hk4, _, hg4, own4⟩ := own_G h4.own (by rw [hlAB]; decide)
  refine wp_effS (d := some 8) (v := .slice (some ⟨g4, 0, none⟩) (A ++ B).length k4) rfl (ex_assignS 30 rfl rfl) ⟨trivial, ?_⟩
  simp only [Act.put, List.setIfInBounds_toArray, List.set_cons_zero, List.set_cons_succ]
  refine wpAnyH_done (by kernel_rfl) ?_ _
  have hy4 : Below W1.heap.size W1 w4 := (hyd.alloc hyd.size _).trans (h4.bel.mono (Nat.le_trans hyd.size (by simp)))
  have hb24 : Below w2.heap.size w2 w4 := (hz3.drew.alloc hz3.drew.size _).trans (h4.bel.mono (Nat.le_trans hz3.drew.size (by simp)))
  have g4lt := own4.lt
  have lG4 : G < w4.heap.size := Nat.lt_of_lt_of_le hgl hb24.size
  have OWN4 : Hid _ := own4
  clear own4 h4 hk4
  rw [hlAB]
  go_wp2_with (at_make; refine wpList_make_full _ rfl _ _ _ rfl w4.heap.size 5 i (.int .u8 0) 1 Tryz.underlying25 hi hz hsz .i64 .i64 _ _ 32 rfl rfl rfl rfl (by rw [hby]; omega) (by unfold maxLen; omega) (Nat.le_refl _) ?_; intro X hown hgr)
  rw [made_n 32] at hown
  have own6 : OwnG X w4.heap.size (List.replicate 32 0) := by
    obtain ⟨g, c, e, _, _, _, o⟩ := own_G hown (by decide)
    cases e
    exact o
  have hb6 : Below w4.heap.size w4 X := (Below.refl _ w4).grown hgr (Nat.le_refl _) (fun k hk => by cases hk)
  have hy6 := hy4.trans (hb6.mono hy4.size)
  have hyd6 := hy6.drew
  have hCB := Concat_calls _ _ _ (parts_two X.drew _ _ 25 _ _ (HEC.out _ hyd6).1 (HEC.out _ hyd6).2) (by simp) (by rw [show [C, D].flatten = C ++ D by simp, hlCD]; decide)
  rw [show [C, D].flatten = C ++ D by simp] at hCB
  have HCB : Hid _ := hCB
  clear hown hgr hCB
  refine wp_region_held (S := fun _ => True) (by kernel_rfl) ?_
  show wpAnyH _ _ _ _ _ 8 (Array.replicate 8 false) _ _
  refine take_one (S := fun _ => True) (i := 0) (d := some 34) (v := .slice (some ⟨w4.heap.size, 0, none⟩) 32 32) rfl rfl rfl (by kernel_rfl) (by kernel_rfl) (by kernel_rfl) (fun _ _ d _ _ h => by cases d <;> exact h) (fun W hS => ex_moveR (.tmp 9) rfl rfl) trivial ?_
  simp only [Act.put, List.setIfInBounds_toArray, List.set_cons_zero, List.set_cons_succ]
  refine take_one (S := fun _ => True) (i := 1) (d := some 35) (v := .pointer (some ⟨W0.heap.size, 0, none⟩)) rfl rfl rfl (by kernel_rfl) (by kernel_rfl) (by kernel_rfl) (fun _ _ d _ _ h => by cases d <;> exact h) (fun W hS => ex_fE4 3 0 0 rfl rfl (by decide)) trivial ?_
  simp only [Act.put, List.setIfInBounds_toArray, List.set_cons_zero, List.set_cons_succ]
  refine take_one (S := fun _ => True) (i := 2) (d := some 36) (v := .slice (some ⟨W0.heap.size, 0, none⟩) 4 4) rfl rfl rfl (by kernel_rfl) (by kernel_rfl) (by kernel_rfl) (fun _ _ d _ _ h => by cases d <;> exact h) (fun W hS => ex_slice4 35 rfl rfl) trivial ?_
  simp only [Act.put, List.setIfInBounds_toArray, List.set_cons_zero, List.set_cons_succ]
  refine take_one (S := fun _ => True) (i := 3) (d := some 37) (v := .pointer (some ⟨W0.heap.size, 4, none⟩)) rfl rfl rfl (by kernel_rfl) (by kernel_rfl) (by kernel_rfl) (fun _ _ d _ _ h => by cases d <;> exact h) (fun W hS => ex_fE4 3 1 4 rfl rfl (by decide)) trivial ?_
  simp only [Act.put, List.setIfInBounds_toArray, List.set_cons_zero, List.set_cons_succ]
  refine take_one (S := fun _ => True) (i := 4) (d := some 38) (v := .slice (some ⟨W0.heap.size, 4, none⟩) 4 4) rfl rfl rfl (by kernel_rfl) (by kernel_rfl) (by kernel_rfl) (fun _ _ d _ _ h => by cases d <;> exact h) (fun W hS => ex_slice4 37 rfl rfl) trivial ?_
  simp only [Act.put, List.setIfInBounds_toArray, List.set_cons_zero, List.set_cons_succ]
  refine all_one (i := 5) (by kernel_rfl) rfl rfl ?_
  refine wp_effS (d := some 39) rfl (ex_build2 36 38 rfl rfl rfl) ⟨trivial, ?_⟩
  simp only [Act.put, List.setIfInBounds_toArray, List.set_cons_zero, List.set_cons_succ]
  refine all_one (i := 6) (by kernel_rfl) rfl rfl ?_
  refine wp_call (d := some 40) 201 _ rfl (by kernel_rfl) HCB.out ?_
  rintro v7 w7 h7
  refine ⟨trivial, ?_⟩
  simp only [Act.put, List.setIfInBounds_toArray, List.set_cons_zero, List.set_cons_succ]
  have hb7 : Below X.heap.size X w7 := ((Below.refl _ X).drew.alloc (by simp) _).trans (h7.bel.mono (by simp))
  have own7 := own6.put hb7
  have by7 := own_bytes h7.own (Fit.app FCC.out FDD.out) (by rw [hlCD]; decide)
  obtain ⟨rc, w8, hcp, own8, only8⟩ := own7.copy by7 0 32 32 (by simp) (by rw [hlCD]; decide) 3
  rw [hl8] at own8
  refine all_one (i := 7) (by kernel_rfl) rfl rfl ?_
  refine V6.wp_copyA (d := some 41) (.tmp 34) (.tmp 40) 25 rfl rfl rfl rfl hcp ⟨trivial, ?_⟩
  simp only [Act.put, List.setIfInBounds_toArray, List.set_cons_zero, List.set_cons_succ]
  refine wpAnyH_done (by kernel_rfl) ?_ _
  have hy8 : Below W1.heap.size W1 w8 := by
    have h1 := hy6.trans (hb7.mono hy6.size)
    exact h1.trans (only8.below hy4.size)
  have own4' := ((OWN4.out.put hb6).put hb7).off only8 (by omega)
  have hb2x : Below w2.heap.size w2 w7 := (hb24.trans (hb6.mono hb24.size)).trans (hb7.mono (Nat.le_trans hb24.size hb6.size))
  have ownG := (OWN1.out.put hb2x).off only8 (by omega)
  have hkb : ka + 2 ≤ body.length := by omega
  have rowG : RowC w8 (.slice (some ⟨G, 0, none⟩) body.length kc) body := .of_bytes (ownG.all HFB.out (by omega) body.length kc rfl) hk1
  obtain ⟨b', off', cap', eG, hsl, hwd⟩ := word_at rowG ka hkb
  cases eG
  rw [Nat.zero_add] at hsl hwd
  have by4 : BytesAt w8.heap.size w8 (.slice (some ⟨g4, 0, none⟩) 32 k4) (A ++ B) := own4'.all HFA.out (by rw [hlAB]; decide) 32 k4 hlAB.symm
  have by8 : BytesAt w8.heap.size w8 (.slice (some ⟨w4.heap.size, 0, none⟩) 32 32) (C ++ D ++ List.replicate 24 0) := own8.all HFC.out (by rw [hlC]; decide) 32 32 hlC.symm
  have hd8 := (Below.refl w8.heap.size w8).drew
  have hup := update_any (wd2 body ka) (wd2_range HFB.out ka) _ _ _ _ w8.drew (by4.later hd8) (by8.later hd8)
  rw [if_pos ⟨by rw [hlAB, hlC], by rw [hlAB]⟩] at hup
  have hxr := upd_range (wd2_range HFB.out ka) (zs := A ++ B) (ys := C ++ D ++ List.replicate 24 0) HFA.out HFC.out
  have hov : ovS p A B C D body = upd (wd2 body ka) (A ++ B) (C ++ D ++ List.replicate 24 0) := by rw [ovS, hka]
  obtain ⟨x, hx⟩ : ∃ x, upd (wd2 body ka) (A ++ B) (C ++ D ++ List.replicate 24 0) = x := ⟨_, rfl⟩
  rw [hx] at hup hxr hov
  have HSL : Hid _ := hsl
  have HWD : Hid _ := hwd
  have HUP : Hid _ := hup
  have OWN8 : Hid _ := ownG
  have HXR : Hid _ := hxr
  clear rowG hsl hwd by4 by8 hup hx own4' ownG own8 only8 hcp own7 own6 by7 h7 HCB HCA HEA HEC OWN1 OWN4 HRW HTH hxr
  go_wp2_with ((with_reducible show wpList _ _ _ ({ dst := _, op := Op.slice _ _ _ _ _, type := _, pos := _, after := _, guard := _ } :: _) _ _); refine arm_slice rfl 25 (.tmp 43) (some (.tmp 44)) none rfl rfl rfl rfl HSL.out ?_)
  refine Calls.mono HWD.out ?_
  rintro _ w9 ⟨rfl, rfl⟩
  go_wp2_with fail
  refine Calls.mono HUP.out ?_
  rintro _ w10 ⟨rfl, hb10⟩
  have hy10 := hy8.trans ((hd8.trans hb10).mono hy8.size)
  have own10 := OWN8.out.put (hd8.trans hb10)
  have rowG2 : RowC w10 (.slice (some ⟨G, 0, none⟩) body.length kc) body := .of_bytes (own10.all HFB.out (by omega) body.length kc rfl) hk1
  obtain ⟨b', off', cap', eG, hsl, -⟩ := word_at rowG2 ka hkb
  cases eG
  rw [Nat.zero_add] at hsl
  have HSL2 : Hid _ := hsl
  have OWN10 : Hid _ := own10
  obtain ⟨k40, k41⟩ := HC.out w10 hy10
  clear hsl own10 rowG2 HSL HWD HUP OWN8 hb10
  go_wp2_with fail
  refine Calls.mono (good_goodS w10) ?_
  rintro _ w11 ⟨rfl, rfl⟩
  by_cases hx0 : x = 0
  · subst hx0
    by_cases h17 : p = 17
    · have q1 : (p == 17) = true := by simpa using h17
      have HUS : Hid (upS p A B C D body = 65535) := by
        have : upS p A B C D body = 65535 := by rw [upS, if_pos ⟨hov, h17⟩]
        exact this
      clear hov h17 hpk hfp hka
      have hpw := putWord_callsS G ka (body.length - ka) (kc - ka) body (65535) w11 OWN10.out (by omega) (by omega) (by decide) hbl
      have HPW : Hid _ := hpw
      clear hpw
      go_wp2_with ((with_reducible show wpList _ _ _ ({ dst := _, op := Op.slice _ _ _ _ _, type := _, pos := _, after := _, guard := _ } :: _) _ _); refine arm_slice rfl 25 (.tmp 61) (some (.tmp 62)) none rfl rfl rfl rfl HSL2.out ?_)
      refine Calls.mono HPW.out ?_
      rintro _ w12 ⟨rfl, own12, only12⟩
      go_wp2
      go_ret
      rw [HUS.out]
      exact ⟨G, kc, rfl, hk1, Nat.le_trans HX1.out.size hk2, own12, (HX1.out.trans (hy10.mono HX1.out.size)).trans (only12.below (Nat.le_trans HX1.out.size hk2))⟩
    · have q1 : (p == 17) = false := by simpa using h17
      have HUS : Hid (upS p A B C D body = 0) := by
        have : upS p A B C D body = 0 := by rw [upS, if_neg (fun h => h17 h.2)]; exact hov
        exact this
      clear hov h17 hpk hfp hka
      have hpw := putWord_callsS G ka (body.length - ka) (kc - ka) body (0) w11 OWN10.out (by omega) (by omega) (by decide) hbl
      have HPW : Hid _ := hpw
      clear hpw
      go_wp2_with ((with_reducible show wpList _ _ _ ({ dst := _, op := Op.slice _ _ _ _ _, type := _, pos := _, after := _, guard := _ } :: _) _ _); refine arm_slice rfl 25 (.tmp 61) (some (.tmp 62)) none rfl rfl rfl rfl HSL2.out ?_)
      refine Calls.mono HPW.out ?_
      rintro _ w12 ⟨rfl, own12, only12⟩
      go_wp2
      go_ret
      rw [HUS.out]
      exact ⟨G, kc, rfl, hk1, Nat.le_trans HX1.out.size hk2, own12, (HX1.out.trans (hy10.mono HX1.out.size)).trans (only12.below (Nat.le_trans HX1.out.size hk2))⟩
  · have q0 : (x == 0) = false := by simpa using hx0
    have HUS : Hid (upS p A B C D body = x) := by
      have : upS p A B C D body = x := by rw [upS, if_neg (fun h => hx0 (hov.symm.trans h.1))]; exact hov
      exact this
    clear hov hx0 hpk hfp hka
    have hpw := putWord_callsS G ka (body.length - ka) (kc - ka) body (x) w11 OWN10.out (by omega) (by omega) (HXR.out) hbl
    have HPW : Hid _ := hpw
    clear hpw
    go_wp2_with ((with_reducible show wpList _ _ _ ({ dst := _, op := Op.slice _ _ _ _ _, type := _, pos := _, after := _, guard := _ } :: _) _ _); refine arm_slice rfl 25 (.tmp 61) (some (.tmp 62)) none rfl rfl rfl rfl HSL2.out ?_)
    refine Calls.mono HPW.out ?_
    rintro _ w12 ⟨rfl, own12, only12⟩
    go_wp2
    go_ret
    rw [HUS.out]
    exact ⟨G, kc, rfl, hk1, Nat.le_trans HX1.out.size hk2, own12, (HX1.out.trans (hy10.mono HX1.out.size)).trans (only12.below (Nat.le_trans HX1.out.size hk2))⟩
end Go.Proofs.YtpgnnplpcalbbaaGreat
namespace Go.Proofs.YtpgnnplpcalbbaaGreat
open Go Go.RowKit
def ptrS (n : Int) : Int := if n = 0 then 0 else if n = 1 then 1 else if n = 4 ∨ n = 5 then 2 else if n = 6 then 9 else if n = 7 then 8 else if 8 ≤ n ∧ n ≤ 23 then 12 else if 24 ≤ n ∧ n ≤ 39 then 16 else 0
def ptrSB (n : Int) : Bool := decide (n ≤ 1) || (decide (4 ≤ n) && decide (n ≤ 39))
theorem ret2s {x p : Int} {y b : Bool} (h1 : x = p) (h2 : y = b) : Ending.returned (Value.tuple #[.int .u8 x, .bool y]) = Ending.returned (Value.tuple #[.int .u8 p, .bool b]) := by rw [h1, h2]
def mtuS (n : Int) : Int := if n < 88 then 68 else if 65555 < n then 65535 else n - 20
set_option maxHeartbeats 4000000 in
set_option maxRecDepth 100000 in
theorem Pointer6_calls (n : Int) (h : 0 ≤ n ∧ n ≤ 4294967295) (w : World) :
    Calls Tryz.prog 47 #[.int .u32 n] w fun e w' => e = .returned (.tuple #[.int .u8 (ptrS n), .bool (ptrSB n)]) ∧ w' = w := by
  have hr : Hid (0 ≤ n ∧ n ≤ 4294967295) := h
  generalize hp : ptrS n = p
  generalize hb : ptrSB n = b
  have HP : Hid _ := hp
  have HB : Hid _ := hb
  clear hp hb
  go_enter Tryz.func47, Tryz.ntmps47
  go_wp2
  all_goals (go_ret2; refine ⟨ret2s ?_ ?_, rfl⟩ <;> (have hp := HP.out; have hb := HB.out; have hr := hr.out; clear HP HB; subst hp; subst hb; (try unfold ptrS); (try unfold ptrSB); try simp only [beq_iff_eq, beq_eq_false_iff_ne, ne_eq, Bool.not_eq_true, decide_eq_true_eq, decide_eq_false_iff_not, Int.not_le, Int.not_lt] at *))
  all_goals first | omega | ((repeat' split) <;> omega) | (rw [Bool.eq_iff_iff]; simp only [Bool.or_eq_true, Bool.and_eq_true, decide_eq_true_eq, true_iff, false_iff, Bool.false_eq_true, iff_true, iff_false, not_or, not_and]; omega)
set_option maxHeartbeats 4000000 in
set_option maxRecDepth 100000 in
theorem MTU6_calls (n : Int) (h : 0 ≤ n ∧ n ≤ 4294967295) (w : World) :
    Calls Tryz.prog 49 #[.int .u32 n] w fun e w' => e = .returned (.int .u16 (mtuS n)) ∧ w' = w := by
  have hr : Hid (0 ≤ n ∧ n ≤ 4294967295) := h
  generalize hp : mtuS n = p
  have HP : Hid _ := hp
  clear hp
  go_enter Tryz.func49, Tryz.ntmps49
  go_wp2
  all_goals (go_ret; refine ⟨?_, rfl⟩; have hp := HP.out; have hr := hr.out; subst hp; unfold mtuS; refine congrArg (fun z => Ending.returned (Value.int .u16 z)) ?_; (try simp only [decide_eq_true_eq, decide_eq_false_iff_not, Int.not_le, Int.not_lt] at *); first | omega | (repeat' split) <;> omega)
set_option maxHeartbeats 4000000 in
set_option maxRecDepth 100000 in
theorem RPointer6_calls (n : Int) (h : 0 ≤ n ∧ n ≤ 4294967295) (w : World) :
    Calls Tryz.prog 48 #[.int .u32 n] w fun e w' => e = .returned (.tuple #[.int .u8 (ptrS n), .bool (ptrSB n)]) ∧ w' = w := by
  have hr : Hid (0 ≤ n ∧ n ≤ 4294967295) := h
  generalize hp : ptrS n = p
  generalize hb : ptrSB n = b
  have HP : Hid _ := hp
  have HB : Hid _ := hb
  clear hp hb
  go_enter Tryz.func48, Tryz.ntmps48
  go_wp2
  all_goals (go_ret2; refine ⟨ret2s ?_ ?_, rfl⟩ <;> (have hp := HP.out; have hb := HB.out; have hr := hr.out; clear HP HB; subst hp; subst hb; (try unfold ptrS); (try unfold ptrSB); try simp only [beq_iff_eq, beq_eq_false_iff_ne, ne_eq, Bool.not_eq_true, decide_eq_true_eq, decide_eq_false_iff_not, Int.not_le, Int.not_lt] at *))
  all_goals first | omega | ((repeat' split) <;> omega) | (rw [Bool.eq_iff_iff]; simp only [Bool.or_eq_true, Bool.and_eq_true, decide_eq_true_eq, true_iff, false_iff, Bool.false_eq_true, iff_true, iff_false, not_or, not_and]; omega)
set_option maxHeartbeats 4000000 in
set_option maxRecDepth 100000 in
theorem RMTU6_calls (n : Int) (h : 0 ≤ n ∧ n ≤ 4294967295) (w : World) :
    Calls Tryz.prog 50 #[.int .u32 n] w fun e w' => e = .returned (.int .u16 (mtuS n)) ∧ w' = w := by
  have hr : Hid (0 ≤ n ∧ n ≤ 4294967295) := h
  generalize hp : mtuS n = p
  have HP : Hid _ := hp
  clear hp
  go_enter Tryz.func50, Tryz.ntmps50
  go_wp2
  all_goals (go_ret; refine ⟨?_, rfl⟩; have hp := HP.out; have hr := hr.out; subst hp; unfold mtuS; refine congrArg (fun z => Ending.returned (Value.int .u16 z)) ?_; (try simp only [decide_eq_true_eq, decide_eq_false_iff_not, Int.not_le, Int.not_lt] at *); first | omega | (repeat' split) <;> omega)
end Go.Proofs.YtpgnnplpcalbbaaGreat
