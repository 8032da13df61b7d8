/-
  Told of the document's.
-/
import Derived.Test.YtgndiblonhgihaaPpG
import Derived.Laws.BytesArg
namespace Go.Proofs.Ytgndiblonhgihaa
open Go Go.RowKit Go.Lib
set_option linter.unusedVariables false
set_option linter.unusedSimpArgs false

theorem lessA : ∀ (A B : List Int), FitB A → FitB B → Op.bytesLess (A.map (fun z => UInt8.ofNat z.toNat)) (B.map (fun z => UInt8.ofNat z.toNat)) = decide (cmpI A B = -1)
  | [], [], _, _ => rfl
  | [], _ :: _, _, _ => rfl
  | _ :: _, [], _, _ => rfl
  | x :: xs, y :: ys, hA, hB => by
    have hx := hA x (by simp)
    have hy := hB y (by simp)
    have ih := lessA xs ys (fun z hz => hA z (by simp [hz])) (fun z hz => hB z (by simp [hz]))
    have h1 : (UInt8.ofNat x.toNat < UInt8.ofNat y.toNat) ↔ x < y := by
      rw [UInt8.lt_iff_toNat_lt, UInt8.toNat_ofNat', UInt8.toNat_ofNat', Nat.mod_eq_of_lt (by omega), Nat.mod_eq_of_lt (by omega)]
      omega
    have h3 : (UInt8.ofNat x.toNat = UInt8.ofNat y.toNat) ↔ x = y := by
      rw [← UInt8.toNat_inj, UInt8.toNat_ofNat', UInt8.toNat_ofNat', Nat.mod_eq_of_lt (by omega), Nat.mod_eq_of_lt (by omega)]
      omega
    simp only [List.map_cons, Op.bytesLess, cmpI, ih]
    by_cases c : x < y
    · have := h1.2 c
      simp [c, this]
    · have n1 : ¬ UInt8.ofNat x.toNat < UInt8.ofNat y.toNat := fun e => c (h1.1 e)
      by_cases d : y < x
      · have n2 : ¬ UInt8.ofNat x.toNat = UInt8.ofNat y.toNat := fun e => by have := h3.1 e; omega
        simp [c, d, n1, n2]
      · have e : x = y := by omega
        have n2 := h3.2 e
        simp [c, d, n1, n2]
theorem less_str {A B : List Int} (hA : FitB A) (hB : FitB B) : Op.bytesLess (strOfNums A).toList (strOfNums B).toList = decide (cmpI A B = -1) := by
  rw [← lessA A B hA hB]
  unfold strOfNums
  simp
theorem ex_lssD {o : Oper} {a : Act} {W : World} (p q : Operand) {t u : TypeId} (hop : o.op = Op.binOp .lss t p q u) {x y : ByteArray} (hp : a.eval p = .string x) (hq : a.eval q = .string y) {b : Bool} (hb : Op.bytesLess x.toList y.toList = b) : (execOp a.eval o).run Try.prog W = .ok (.value (.bool b)) W := by
  generalize a.eval = ev at *
  simp [execOp, hop, hp, hq, go_sem, hb]
theorem ex_lssN {o : Oper} {a : Act} {W : World} (p q : Operand) {t : TypeId} (hop : o.op = Op.binOp .lss 3 p q t) {x y : Int} (hp : a.eval p = .int .i64 x) (hq : a.eval q = .int .i64 y) {b : Bool} (hb : decide (x < y) = b) : (execOp a.eval o).run Try.prog W = .ok (.value (.bool b)) W := by
  generalize a.eval = ev at *
  subst hb
  simp [execOp, hop, hp, hq, go_sem]
theorem ex_convD {o : Oper} {a : Act} {W : World} (p : Operand) {s d : TypeId} (hop : o.op = Op.convert s d p) {vp v : Value} (hp : a.eval p = vp) (hrun : (convert s d vp).run Try.prog W = .ok v W) : (execOp a.eval o).run Try.prog W = .ok (.value v) W := by
  generalize a.eval = ev at *
  simp [execOp, hop, hp, hrun]
theorem ex_lenD {o : Oper} {a : Act} {W : World} (p : Operand) (hop : o.op = Op.call { callee := Callee.builtin Builtin.len, args := #[p], argTypes := #[43] }) {x : Option Addr} {n c : Nat} (hp : a.eval p = .slice x n c) : (execOp a.eval o).run Try.prog W = .ok (.value (.int .i64 n)) W := by
  generalize a.eval = ev at *
  simp [execOp, hop, resolve, invoke, builtin, hp, go_sem, Result.andThen]
theorem ex_ixD {o : Oper} {a : Act} {W : World} (p q : Operand) (hop : o.op = Op.indexAddr 43 p q) {g len c j : Nat} (hp : a.eval p = .slice (some ⟨g, 0, none⟩) len c) (hq : a.eval q = .int .i64 j) (hj : j < len) : (execOp a.eval o).run Try.prog W = .ok (.value (.pointer (some ⟨g, j * 18, none⟩))) W := by
  have hz : ∀ w, (Go.sizeOf 72).run Try.prog w = .ok 18 w := fun w => by kernel_rfl
  have hs : (Instr.indexAt 43 (.slice (some ⟨g, 0, none⟩) len c) (.int .i64 j)).run Try.prog W = .ok (.pointer (some ⟨g, j * 18, none⟩)) W := by
    simp [Instr.indexAt, go_sem, hj, hz]
  generalize a.eval = ev at *
  simp [execOp, hop, hp, hq, hs, Result.andThen]
theorem ld_slD {W : World} {a : Addr} {x : Option Addr} {n c : Nat} (h : W.cell? a = some (.slice x n c)) : (Instr.loadAt 43 (.pointer (some a))).run Try.prog W = .ok (.slice x n c) W := by simp [Instr.loadAt, go_sem, h]
theorem ex_apD {o : Oper} {a : Act} {W W' : World} (s x : Operand) (hop : o.op = Op.call { callee := Callee.builtin Builtin.append, args := #[s, x], argTypes := #[43, 43] }) {vs vx v : Value} (hs : a.eval s = vs) (hx : a.eval x = vx) (hrun : (Builtin.append_ #[43, 43] o.type #[vs, vx]).run Try.prog W = .ok v W') : (execOp a.eval o).run Try.prog W = .ok (.value v) W' := by
  generalize a.eval = ev at *
  simp [execOp, hop, resolve, invoke, builtin, hs, hx, hrun, Result.andThen]
theorem ex_bsD {o : Oper} {a : Act} {W W' : World} (x : Operand) (hop : o.op = Op.buildSlice 43 1 #[(0, x)]) {vx v : Value} (hx : a.eval x = vx) (hrun : (Instr.buildSlice 43 1 #[(0, vx)]).run Try.prog W = .ok v W') : (execOp a.eval o).run Try.prog W = .ok (.value v) W' := by
  generalize a.eval = ev at *
  simp [execOp, hop, hx, hrun, Result.andThen]
theorem strD {W : World} {g o : Nat} {k : List Int} (hk : K16 k) (h : CellsAt W g o (u8s k)) : (convert 75 9 (.slice (some ⟨g, o, none⟩) 16 16)).run Try.prog W = .ok (.string (strOfNums k)) W :=
  run_convert_bytes_arg _ _ _ Try.underlying75 Try.underlying5 g o 16 16 k hk.len (fun i hi => by
    have hi2 : i < k.length := by rw [hk.len]; exact hi
    refine h i _ ?_
    simp [u8s, List.getD, hi2]) _ Try.underlying9
theorem cE_k {W : World} {g o : Nat} {e : PE} (hok : e.Ok) (h : CellsAt W g o (eE e)) : CellsAt W g o (u8s e.k) := by
  rw [eE_ok hok] at h
  exact fun i u hi => h i u (by unfold eC; rw [List.getElem?_append_left (List.getElem?_eq_some_iff.1 hi).1]; exact hi)
/-- Which entries a new one leaves. -/
def TellP (D : List PE) (d : List Int) (lim : Int) (D2 : List PE) : Prop :=
  (∃ (i : Nat) (x : PE), D[i]? = some x ∧ x.k = d ∧ D2 = woD D i) ∨
  ((∀ x ∈ D, x.k ≠ d) ∧ lim ≤ D.length ∧ ∃ (k : Nat) (x : PE), D[k]? = some x ∧ (∀ (j : Nat) (y : PE), D[j]? = some y → x.u ≤ y.u ∧ (j < k → x.u < y.u)) ∧ D2 = woD D k) ∨
  ((∀ x ∈ D, x.k ≠ d) ∧ D.length < lim ∧ D2 = D)
/-- Where a new one stands. -/
def PosP (D : List PE) (d : List Int) (p : Nat) : Prop := p ≤ D.length ∧ (∀ (j : Nat) (x : PE), j < p → D[j]? = some x → cmpI x.k d = -1) ∧ ∀ x, D[p]? = some x → cmpI x.k d ≠ -1
def putD (D : List PE) (p : Nat) (e : PE) : List PE := D.take p ++ [e] ++ D.drop p
def TellR (D1 : List PE) (d : List Int) (cf : Cf) (z t : Int) (more : Bool) (D3 : List PE) : Prop :=
  ∃ m0, MtuP D1 d cf.link m0 ∧ ((m0 ≤ max z cf.least ∧ more = false ∧ D3 = D1) ∨
    (max z cf.least < m0 ∧ more = true ∧ ∃ D2 p, TellP D1 d cf.lim D2 ∧ PosP D2 d p ∧ D3 = putD D2 p ⟨d, max z cf.least, min (t + cf.life) 1099511627776⟩))
set_option maxHeartbeats 4000000 in
theorem RTold_late {W : World} {rb : Nat} {cf : Cf} {now : Int} {D : List PE} {v : Value} (h : Doc rb cf now D v W) {t : Int} (ht : ¬ okT now t) (d : List Int) (z : Int) :
    Calls Try.prog 21 #[.pointer (some ⟨rb, 0, none⟩), .int .i64 t, .agg (u8s d).toArray, .int .i64 z] W fun e w' => e = .returned (.tuple #[.bool false, .int .i64 153]) ∧ Below W.heap.size W w' := by
  obtain ⟨W0, hW0⟩ : ∃ W0, W0 = W.alloc (.cells (u8s d).toArray 35) := ⟨_, rfl⟩
  have hB0 : Below W.heap.size W W0 := by rw [hW0]; exact (Below.refl W.heap.size W).alloc (Nat.le_refl _) _
  have hx0 : W0.heap[W.heap.size]? = some (.cells (u8s d).toArray 35) := by rw [hW0]; exact blk_new W _
  have HLT : Hid (rb < W.heap.size ∧ W.heap.size < W0.heap.size) := ⟨h.lt, (Array.getElem?_eq_some_iff.1 hx0).1⟩
  have HX0 : Hid (W0.heap[W.heap.size]? = some (.cells (u8s d).toArray 35)) := hx0
  have HB0 : Hid (Below W.heap.size W W0) := hB0
  have c4 : W0.cell? ⟨rb, 4, none⟩ = some (.int .i64 now) := blk_cell (j := 4) (h.on hB0).box rfl
  have hW := hW0.symm
  clear hW0 hB0 hx0 h
  by_cases c : t < now
  · have q1 : decide (t < now) = true := decide_eq_true c
    clear ht
    go_enter Try.func21, Try.ntmps21
    go_wp2_with fail
    try go_returns
    exact ⟨rfl, HB0.out⟩
  · have q1 : decide (t < now) = false := decide_eq_false c
    have c2 : t > 1099511627776 := by unfold okT at ht; omega
    have q2 : decide (t > 1099511627776) = true := decide_eq_true c2
    have q3 : decide (1099511627776 < t) = true := decide_eq_true c2
    clear ht
    go_enter Try.func21, Try.ntmps21
    go_wp2_with fail
    try go_returns
    exact ⟨rfl, HB0.out⟩
set_option maxHeartbeats 4000000 in
theorem RTold_bad {W : World} {rb : Nat} {cf : Cf} {now : Int} {D : List PE} {v : Value} (h : Doc rb cf now D v W) {t : Int} (ht : okT now t) (d : List Int) {z : Int} (hz : ¬ (0 ≤ z ∧ z ≤ 65535)) :
    Calls Try.prog 21 #[.pointer (some ⟨rb, 0, none⟩), .int .i64 t, .agg (u8s d).toArray, .int .i64 z] W fun e w' => e = .returned (.tuple #[.bool false, .int .i64 131]) ∧ Below W.heap.size W w' := by
  obtain ⟨W0, hW0⟩ : ∃ W0, W0 = W.alloc (.cells (u8s d).toArray 35) := ⟨_, rfl⟩
  have hB0 : Below W.heap.size W W0 := by rw [hW0]; exact (Below.refl W.heap.size W).alloc (Nat.le_refl _) _
  have hx0 : W0.heap[W.heap.size]? = some (.cells (u8s d).toArray 35) := by rw [hW0]; exact blk_new W _
  have HLT : Hid (rb < W.heap.size ∧ W.heap.size < W0.heap.size) := ⟨h.lt, (Array.getElem?_eq_some_iff.1 hx0).1⟩
  have HX0 : Hid (W0.heap[W.heap.size]? = some (.cells (u8s d).toArray 35)) := hx0
  have HB0 : Hid (Below W.heap.size W W0) := hB0
  have c4 : W0.cell? ⟨rb, 4, none⟩ = some (.int .i64 now) := blk_cell (j := 4) (h.on hB0).box rfl
  have hW := hW0.symm
  have q1 : decide (t < now) = false := decide_eq_false (by have := ht.1; omega)
  have q2 : decide (t > 1099511627776) = false := decide_eq_false (by have := ht.2; omega)
  have q3 : decide (1099511627776 < t) = false := decide_eq_false (by have := ht.2; omega)
  clear hW0 hB0 hx0 h ht
  by_cases c : z < 0
  · have q4 : decide (z < 0) = true := decide_eq_true c
    clear hz
    go_enter Try.func21, Try.ntmps21
    go_wp2_with fail
    try go_returns
    exact ⟨rfl, HB0.out⟩
  · have q4 : decide (z < 0) = false := decide_eq_false c
    have q5 : decide (z > 65535) = true := decide_eq_true (by omega)
    have q6 : decide (65535 < z) = true := decide_eq_true (by omega)
    clear hz
    go_enter Try.func21, Try.ntmps21
    go_wp2_with fail
    try go_returns
    exact ⟨rfl, HB0.out⟩
set_option maxHeartbeats 64000000 in
set_option maxRecDepth 100000 in
theorem RTold {W : World} {rb : Nat} {cf : Cf} {now : Int} {D : List PE} {v : Value} (h : Doc rb cf now D v W) (hlen : D.length ≤ 50000) {t : Int} (ht : okT now t) (hnow : 0 ≤ now) (hcf : cf.Ok) {d : List Int} (hd : K16 d) {z : Int} (hz : 0 ≤ z ∧ z ≤ 65535) :
    Calls Try.prog 21 #[.pointer (some ⟨rb, 0, none⟩), .int .i64 t, .agg (u8s d).toArray, .int .i64 z] W fun e w' => ∃ more D3, e = .returned (.tuple #[.bool more, .int .i64 0]) ∧ TellR (liveD D t) d cf z t more D3 ∧ (∃ u, Doc rb cf t D3 u w') ∧ FrD rb W w' := by
  generalize hQ : (fun (e : Ending) (w' : World) => ∃ more D3, e = .returned (.tuple #[.bool more, .int .i64 0]) ∧ TellR (liveD D t) d cf z t more D3 ∧ (∃ u, Doc rb cf t D3 u w') ∧ FrD rb W w') = Q
  have HQ : Hid (∀ e w', (∃ more D3, e = .returned (.tuple #[.bool more, .int .i64 0]) ∧ TellR (liveD D t) d cf z t more D3 ∧ (∃ u, Doc rb cf t D3 u w') ∧ FrD rb W w') → Q e w') := fun e w' hh => by rw [← hQ]; exact hh
  clear hQ
  obtain ⟨W0, hW0⟩ : ∃ W0, W0 = W.alloc (.cells (u8s d).toArray 35) := ⟨_, rfl⟩
  have hB0 : Below W.heap.size W W0 := by rw [hW0]; exact (Below.refl W.heap.size W).alloc (Nat.le_refl _) _
  have hx0 : W0.heap[W.heap.size]? = some (.cells (u8s d).toArray 35) := by rw [hW0]; exact blk_new W _
  have HLT : Hid (rb < W.heap.size ∧ W.heap.size < W0.heap.size) := ⟨h.lt, (Array.getElem?_eq_some_iff.1 hx0).1⟩
  have HX0 : Hid (W0.heap[W.heap.size]? = some (.cells (u8s d).toArray 35)) := hx0
  have HB0 : Hid (Below W.heap.size W W0) := hB0
  have c4 : W0.cell? ⟨rb, 4, none⟩ = some (.int .i64 now) := blk_cell (j := 4) (h.on hB0).box rfl
  have hW := hW0.symm
  have HBG : Hid _ := RBegin (h.on hB0) (Nat.le_trans hlen (by decide)) ht
  have q1 : decide (t < now) = false := decide_eq_false (by have := ht.1; omega)
  have q2 : decide (t > 1099511627776) = false := decide_eq_false (by have := ht.2; omega)
  have q3 : decide (1099511627776 < t) = false := decide_eq_false (by have := ht.2; omega)
  have q4 : decide (z < 0) = false := decide_eq_false (by omega)
  have q5 : decide (z > 65535) = false := decide_eq_false (by omega)
  have q6 : decide (65535 < z) = false := decide_eq_false (by omega)
  have HK : Hid (K16 d ∧ D.length ≤ 50000) := ⟨hd, hlen⟩
  have HCF : Hid (cf.Ok ∧ 0 ≤ t ∧ t ≤ 1099511627776) := ⟨hcf, by have := ht.1; omega, ht.2⟩
  have HWR : Hid (IntKind.i64.wrap (t + cf.life) = t + cf.life) := wrap_i64 _ ⟨by have := hcf.life; have := ht.1; omega, by have := hcf.life; have := ht.2; omega⟩
  clear hW0 hB0 hx0 h ht hd hlen hz hcf hnow
  go_enter Try.func21, Try.ntmps21
  go_wp2_with fail
  refine Calls.mono HBG.out ?_
  rintro e w1 ⟨rfl, ⟨u, hd1⟩, f1⟩
  have hx1 : w1.heap[W.heap.size]? = some (.cells (u8s d).toArray 35) := (f1.other _ HLT.out.2 (by have := HLT.out; omega)).trans HX0.out
  have c3 : w1.cell? ⟨rb, 3, none⟩ = some (.int .i64 cf.least) := blk_cell (j := 3) hd1.box rfl
  have HL1 : Hid _ := at_A HK.out.1.len hx1
  obtain ⟨D1, hD1⟩ : ∃ D1, D1 = liveD D t := ⟨_, rfl⟩
  have HD1 : Hid (D1.length ≤ 50000) := by rw [hD1]; exact Nat.le_trans (liveD_len D t) HK.out.2
  rw [← hD1] at hd1 HQ
  have HM : Hid _ := RMtu hd1 (Nat.le_trans HD1.out (by decide)) HK.out.1
  have HF1 : Hid (Doc rb cf t D1 u w1 ∧ FrD rb W w1 ∧ w1.heap[W.heap.size]? = some (.cells (u8s d).toArray 35)) := ⟨hd1, (FrD.below HB0.out).trans f1, hx1⟩
  clear hd1 f1 hx1 HBG hW c4 q1 q2 q3 q4 q5 q6 hD1
  go_wp2_with first
    | ((with_reducible show wpList _ _ _ ({ dst := _, op := Op.call { callee := Callee.builtin Builtin.max, args := _, argTypes := _ }, type := _, pos := _, after := _, guard := _ } :: _) _ _); refine wpList_plain rfl fun K hK => ?_; unfold Oper.wp; rw [ex_maxP (.tmp 34) (.tmp 39) rfl rfl rfl]; refine hK _ _ ?_)
    | ((with_reducible show wpList _ _ _ ({ dst := _, op := Op.load 35 (Operand.tmp 6), type := _, pos := _, after := _, guard := _ } :: _) _ _); refine armL (.tmp 6) 35 rfl rfl rfl HL1.out ?_)
  generalize hzm : max z cf.least = zm at *
  refine Calls.mono HM.out ?_
  rintro e w2 ⟨m0, rfl, hm0, hb2⟩
  have HM0 : Hid (MtuP D1 d cf.link m0) := hm0
  have HZM : Hid (max z cf.least = zm) := hzm
  have HF2 : Hid (Doc rb cf t D1 u w2 ∧ FrD rb W w2 ∧ w2.heap[W.heap.size]? = some (.cells (u8s d).toArray 35)) := ⟨HF1.out.1.on hb2, HF1.out.2.1.trans (FrD.below hb2), blk_on HF1.out.2.2 hb2⟩
  clear hm0 hb2 HF1 HL1 HM c3 hzm
  by_cases hge : zm ≥ m0
  · have q1 : decide (zm ≥ m0) = true := decide_eq_true hge
    have q2 : decide (m0 ≤ zm) = true := decide_eq_true hge
    have HFIN : Hid (TellR D1 d cf z t false D1) := ⟨m0, HM0.out, .inl ⟨by rw [HZM.out]; exact hge, rfl, rfl⟩⟩
    clear hge
    go_wp2_with fail
    try go_returns
    exact HQ.out _ _ ⟨false, D1, rfl, HFIN.out, ⟨u, HF2.out.1⟩, HF2.out.2.1⟩
  have q1 : decide (zm ≥ m0) = false := decide_eq_false hge
  have q2 : decide (m0 ≤ zm) = false := decide_eq_false hge
  have HGE : Hid (zm < m0) := Int.not_le.1 (show ¬ (m0 ≤ zm) from hge)
  clear hge
  have HL2 : Hid _ := at_A HK.out.1.len HF2.out.2.2
  have HA : Hid _ := RAt HF2.out.1 (Nat.le_trans HD1.out (by decide)) HK.out.1
  go_wp2_with first
    | ((with_reducible show wpList _ _ _ ({ dst := _, op := Op.load 35 (Operand.tmp 6), type := _, pos := _, after := _, guard := _ } :: _) _ _); refine armL (.tmp 6) 35 rfl rfl rfl HL2.out ?_)
  refine Calls.mono HA.out ?_
  rintro e w3 ⟨r, rfl, hp, hb3⟩
  have hd3 := HF2.out.1.on hb3
  have HF3 : Hid (Doc rb cf t D1 u w3 ∧ FrD rb W w3 ∧ w3.heap[W.heap.size]? = some (.cells (u8s d).toArray 35)) := ⟨hd3, HF2.out.2.1.trans (FrD.below hb3), blk_on HF2.out.2.2 hb3⟩
  obtain ⟨ua, uc, huv⟩ := own_slc hd3.row
  subst huv
  have c5H : Hid (∀ x : Hi w3, x.W.cell? ⟨rb, 5, none⟩ = some (.slice ua D1.length uc)) := fun x => blk_cell (hd3.on x.below).box rfl
  have c0H : Hid (∀ x : Hi w3, x.W.cell? ⟨rb, 0, none⟩ = some (.int .i64 cf.lim)) := fun x => blk_cell (j := 0) (hd3.on x.below).box rfl
  clear hb3 hd3 HA HL2 HF2 q1 q2
  rcases hp with ⟨i, x, rfl, hi, hk⟩ | ⟨rfl, hno⟩
  · have q1 : decide ((i : Int) < 0) = false := decide_eq_false (by omega)
    have q2 : decide ((i : Int) ≥ 0) = true := decide_eq_true (by omega)
    have q3 : decide ((0 : Int) ≤ i) = true := decide_eq_true (by omega)
    have HI : Hid (D1[i]? = some x ∧ x.k = d) := ⟨hi, hk⟩
    clear hi hk
    go_wp2_with fail
    refine wp_region_hi (by kernel_rfl) (by kernel_rfl) ?_
    repeat (first | go_big_quiet_skip | (go_big_quiet_want; go_big_quiet_op; first | go_big_quiet_on | go_big_quiet_call (fail)))
    refine wpQuiet_nil ?_
    intro _ hw
    obtain ⟨yy, rfl⟩ := hw
    have HW : Hid _ := RWithout (HF3.out.1.on yy.below) (Nat.le_trans HD1.out (by decide)) i
    go_wp2_with fail
    refine Calls.mono HW.out ?_
    rintro e w5 ⟨rfl, ⟨u5, hd5⟩, f5⟩
    obtain ⟨D2, hD2⟩ : ∃ D2, D2 = woD D1 i := ⟨_, rfl⟩
    have HTP : Hid (TellP D1 d cf.lim D2) := .inl ⟨i, x, HI.out.1, HI.out.2, hD2⟩
    have HSZ2 : Hid (D2.length ≤ 50000) := by rw [hD2]; exact Nat.le_trans (woD_len D1 i) HD1.out
    rw [← hD2] at hd5
    have HDX : Hid (Doc rb cf t D2 u5 w5) := hd5
    have HFX : Hid (FrD rb W w5) := (HF3.out.2.1.trans (FrD.below yy.below)).trans f5
    have HXX : Hid (w5.heap[W.heap.size]? = some (.cells (u8s d).toArray 35)) := (f5.other _ (Array.getElem?_eq_some_iff.1 (blk_on HF3.out.2.2 yy.below)).1 (by have := HLT.out; omega)).trans (blk_on HF3.out.2.2 yy.below)
    clear hd5 f5 hD2 HW HF3 c5H c0H q1 q2 q3
    obtain ⟨va, vc, hva⟩ := own_slc HDX.out.row
    subst hva
    go_wp2_with fail
    go_loopw [13] (fun i wr => ∃ n : Nat, n ≤ D2.length ∧ i = .int .i64 n ∧ (∀ j x, j < n → D2[j]? = some x → cmpI x.k d = -1) ∧ Below w5.heap.size w5 wr) (fun i _ => D2.length - (intOf i).toNat)
    case atStart => exact ⟨0, Nat.zero_le _, rfl, fun j x hj => by omega, Below.refl _ _⟩
    case round =>
      obtain ⟨n, hn, rfl, hno, hBk⟩ := hrel
      have hdk := HDX.out.on hBk
      have hfk := HFX.out.trans (FrD.below hBk)
      have hxk := blk_on HXX.out hBk
      have HNO : Hid (∀ j x, j < n → D2[j]? = some x → cmpI x.k d = -1) := hno
      have HN : Hid (n ≤ D2.length) := hn
      have NL : Hid (rb < wr.heap.size ∧ W.heap.size < wr.heap.size) := ⟨hdk.lt, (Array.getElem?_eq_some_iff.1 hxk).1⟩
      have HBR : Hid (Below w5.heap.size w5 wr) := hBk
      clear hno hn hBk
      by_cases hlt : n < D2.length
      · obtain ⟨e0, he0⟩ : ∃ e0, D2[n]? = some e0 := ⟨_, List.getElem?_eq_getElem hlt⟩
        obtain ⟨g, c', hv', hg, hbg, hcx⟩ := own_atE hdk.row he0
        obtain ⟨rfl, rfl⟩ : va = some ⟨g, 0, none⟩ ∧ vc = c' := by injection hv' with h1 _ h3; exact ⟨h1, h3⟩
        have hok := hdk.ok e0 (List.mem_of_getElem? he0)
        have qn : decide ((n : Int) < D2.length) = true := decide_eq_true (by omega)
        have HE0 : Hid (D2[n]? = some e0) := he0
        clear hv' he0
        by_cases hc : cmpI e0.k d = -1
        · have hless : Op.bytesLess (strOfNums e0.k).toList (strOfNums d).toList = true := by rw [less_str hok.1 HK.out.1.fit]; exact decide_eq_true hc
          have HC : Hid (cmpI e0.k d = -1) := hc
          have w9 : IntKind.i64.wrap ((n : Int) + 1) = (n : Int) + 1 := wrap_i64 _ ⟨by omega, by have := HSZ2.out; omega⟩
          have HLT2 : Hid (n < D2.length) := hlt
          go_wp2_with fail
          refine wp_region_held (S := fun X => Below wr.heap.size wr X) (by kernel_rfl) ?_
          show wpAnyH _ _ _ _ _ 21 (Array.replicate 21 false) _ wr.drew
          have s0 : Below wr.heap.size wr wr.drew := (Below.refl _ wr).drew
          refine take_wT (i := 0) (d := some 96) (v := .int .i64 (n : Int)) rfl rfl rfl (by kernel_rfl) (by kernel_rfl) (by kernel_rfl) (fun _ _ d _ _ h => by cases d <;> exact h) (fun X hS => by kernel_rfl) s0 ?_
          simp only [Act.put, List.setIfInBounds_toArray, List.set_cons_zero, List.set_cons_succ]
          refine take_wT (i := 1) (d := some 97) (v := .pointer (some ⟨rb, 0, none⟩)) rfl rfl rfl (by kernel_rfl) (by kernel_rfl) (by kernel_rfl) (fun _ _ d _ _ h => by cases d <;> exact h) (fun X hS => by kernel_rfl) s0 ?_
          simp only [Act.put, List.setIfInBounds_toArray, List.set_cons_zero, List.set_cons_succ]
          refine take_wT (i := 2) (d := some 98) (v := .pointer (some ⟨rb, 0, none⟩)) rfl rfl rfl (by kernel_rfl) (by kernel_rfl) (by kernel_rfl) (fun _ _ d _ _ h => by cases d <;> exact h) (fun X hS => by kernel_rfl) s0 ?_
          simp only [Act.put, List.setIfInBounds_toArray, List.set_cons_zero, List.set_cons_succ]
          refine take_wT (i := 3) (d := some 99) (v := .pointer (some ⟨rb, 5, none⟩)) rfl rfl rfl (by kernel_rfl) (by kernel_rfl) (by kernel_rfl) (fun _ _ d _ _ h => by cases d <;> exact h) (fun X hS => by kernel_rfl) s0 ?_
          simp only [Act.put, List.setIfInBounds_toArray, List.set_cons_zero, List.set_cons_succ]
          refine take_wT (i := 4) (d := some 100) (v := .slice (some ⟨g, 0, none⟩) D2.length vc) rfl rfl rfl (by kernel_rfl) (by kernel_rfl) (by kernel_rfl) (fun _ _ d _ _ h => by cases d <;> exact h) (fun X hS => ex_loadA (.tmp 99) 43 rfl rfl (ld_slD (blk_cell (j := 5) (hdk.on hS).box rfl))) s0 ?_
          simp only [Act.put, List.setIfInBounds_toArray, List.set_cons_zero, List.set_cons_succ]
          refine take_wT (i := 5) (d := some 101) (v := .int .i64 (D2.length : Int)) rfl rfl rfl (by kernel_rfl) (by kernel_rfl) (by kernel_rfl) (fun _ _ d _ _ h => by cases d <;> exact h) (fun X hS => ex_lenD (.tmp 100) rfl rfl) s0 ?_
          simp only [Act.put, List.setIfInBounds_toArray, List.set_cons_zero, List.set_cons_succ]
          refine take_wT (i := 6) (d := some 102) (v := .bool true) rfl rfl rfl (by kernel_rfl) (by kernel_rfl) (by kernel_rfl) (fun _ _ d _ _ h => by cases d <;> exact h) (fun X hS => ex_lssN (.tmp 96) (.tmp 101) rfl rfl rfl qn) s0 ?_
          simp only [Act.put, List.setIfInBounds_toArray, List.set_cons_zero, List.set_cons_succ]
          refine take_wT (i := 7) (d := some 103) (v := .bool true) rfl rfl rfl (by kernel_rfl) (by kernel_rfl) (by kernel_rfl) (fun _ _ d _ _ h => by cases d <;> exact h) (fun X hS => by kernel_rfl) s0 ?_
          simp only [Act.put, List.setIfInBounds_toArray, List.set_cons_zero, List.set_cons_succ]
          refine take_wT (i := 8) (d := some 104) (v := .pointer (some ⟨rb, 0, none⟩)) rfl rfl rfl (by kernel_rfl) (by kernel_rfl) (by kernel_rfl) (fun _ _ d _ _ h => by cases d <;> exact h) (fun X hS => by kernel_rfl) s0 ?_
          simp only [Act.put, List.setIfInBounds_toArray, List.set_cons_zero, List.set_cons_succ]
          refine take_wT (i := 9) (d := some 105) (v := .pointer (some ⟨rb, 0, none⟩)) rfl rfl rfl (by kernel_rfl) (by kernel_rfl) (by kernel_rfl) (fun _ _ d _ _ h => by cases d <;> exact h) (fun X hS => by kernel_rfl) s0 ?_
          simp only [Act.put, List.setIfInBounds_toArray, List.set_cons_zero, List.set_cons_succ]
          refine take_wT (i := 10) (d := some 106) (v := .pointer (some ⟨rb, 5, none⟩)) rfl rfl rfl (by kernel_rfl) (by kernel_rfl) (by kernel_rfl) (fun _ _ d _ _ h => by cases d <;> exact h) (fun X hS => by kernel_rfl) s0 ?_
          simp only [Act.put, List.setIfInBounds_toArray, List.set_cons_zero, List.set_cons_succ]
          refine take_wT (i := 11) (d := some 107) (v := .slice (some ⟨g, 0, none⟩) D2.length vc) rfl rfl rfl (by kernel_rfl) (by kernel_rfl) (by kernel_rfl) (fun _ _ d _ _ h => by cases d <;> exact h) (fun X hS => ex_loadA (.tmp 106) 43 rfl rfl (ld_slD (blk_cell (j := 5) (hdk.on hS).box rfl))) s0 ?_
          simp only [Act.put, List.setIfInBounds_toArray, List.set_cons_zero, List.set_cons_succ]
          refine take_wT (i := 12) (d := some 108) (v := .int .i64 (n : Int)) rfl rfl rfl (by kernel_rfl) (by kernel_rfl) (by kernel_rfl) (fun _ _ d _ _ h => by cases d <;> exact h) (fun X hS => by kernel_rfl) s0 ?_
          simp only [Act.put, List.setIfInBounds_toArray, List.set_cons_zero, List.set_cons_succ]
          refine take_wT (i := 13) (d := some 109) (v := .pointer (some ⟨g, n * 18, none⟩)) rfl rfl rfl (by kernel_rfl) (by kernel_rfl) (by kernel_rfl) (fun _ _ d _ _ h => by cases d <;> exact h) (fun X hS => ex_ixD (.tmp 107) (.tmp 108) rfl rfl rfl hlt) s0 ?_
          simp only [Act.put, List.setIfInBounds_toArray, List.set_cons_zero, List.set_cons_succ]
          refine take_wT (i := 14) (d := some 110) (v := .pointer (some ⟨g, n * 18, none⟩)) rfl rfl rfl (by kernel_rfl) (by kernel_rfl) (by kernel_rfl) (fun _ _ d _ _ h => by cases d <;> exact h) (fun X hS => by kernel_rfl) s0 ?_
          simp only [Act.put, List.setIfInBounds_toArray, List.set_cons_zero, List.set_cons_succ]
          refine take_wT (i := 15) (d := some 111) (v := .slice (some ⟨g, n * 18, none⟩) 16 16) rfl rfl rfl (by kernel_rfl) (by kernel_rfl) (by kernel_rfl) (fun _ _ d _ _ h => by cases d <;> exact h) (fun X hS => ex_slc16 110 rfl rfl) s0 ?_
          simp only [Act.put, List.setIfInBounds_toArray, List.set_cons_zero, List.set_cons_succ]
          refine take_wT (i := 16) (d := some 112) (v := .string (strOfNums e0.k)) rfl rfl rfl (by kernel_rfl) (by kernel_rfl) (by kernel_rfl) (fun _ _ d _ _ h => by cases d <;> exact h) (fun X hS => ex_convD (.tmp 111) rfl rfl (strD ⟨hok.1, hok.2⟩ (fun i u hi => (hS.cell (p := ⟨g, _, none⟩) hg).trans (cE_k hok hcx i u hi)))) s0 ?_
          simp only [Act.put, List.setIfInBounds_toArray, List.set_cons_zero, List.set_cons_succ]
          refine take_wT (i := 17) (d := some 113) (v := .slice (some ⟨W.heap.size, 0, none⟩) 16 16) rfl rfl rfl (by kernel_rfl) (by kernel_rfl) (by kernel_rfl) (fun _ _ d _ _ h => by cases d <;> exact h) (fun X hS => ex_slc16 6 rfl rfl) s0 ?_
          simp only [Act.put, List.setIfInBounds_toArray, List.set_cons_zero, List.set_cons_succ]
          refine take_wT (i := 18) (d := some 114) (v := .string (strOfNums d)) rfl rfl rfl (by kernel_rfl) (by kernel_rfl) (by kernel_rfl) (fun _ _ d _ _ h => by cases d <;> exact h) (fun X hS => ex_convD (.tmp 113) rfl rfl (strD HK.out.1 (CellsAt.blkP (c := u8s d) (t := 35) (blk_on hxk hS)))) s0 ?_
          simp only [Act.put, List.setIfInBounds_toArray, List.set_cons_zero, List.set_cons_succ]
          refine take_wT (i := 19) (d := some 115) (v := .bool true) rfl rfl rfl (by kernel_rfl) (by kernel_rfl) (by kernel_rfl) (fun _ _ d _ _ h => by cases d <;> exact h) (fun X hS => ex_lssD (.tmp 112) (.tmp 114) rfl rfl rfl hless) s0 ?_
          simp only [Act.put, List.setIfInBounds_toArray, List.set_cons_zero, List.set_cons_succ]
          refine take_wT (i := 20) (d := some 116) (v := .bool true) rfl rfl rfl (by kernel_rfl) (by kernel_rfl) (by kernel_rfl) (fun _ _ d _ _ h => by cases d <;> exact h) (fun X hS => ex_pickP (c := true) (.tmp 103) (.tmp 115) (.const (.bool false)) rfl rfl rfl rfl) s0 ?_
          simp only [Act.put, List.setIfInBounds_toArray, List.set_cons_zero, List.set_cons_succ]
          refine wpAnyH_done (by kernel_rfl) ?_ _
          generalize wr.drew = V0 at *
          clear hless hok hcx hg hbg hxk hfk hdk hlt hc qn
          go_wp2
          go_roundw
          case rel =>
            refine ⟨n + 1, HLT2.out, rfl, fun j x hj hx => ?_, HBR.out.trans (s0.mono HBR.out.size)⟩
            by_cases cj : j = n
            · subst cj
              rw [HE0.out] at hx
              injection hx with hx
              rw [← hx]
              exact HC.out
            · exact HNO.out j x (by omega) hx
          case measure => show D2.length - (n + 1) < D2.length - n; have := HLT2.out; omega
        · have hless : Op.bytesLess (strOfNums e0.k).toList (strOfNums d).toList = false := by rw [less_str hok.1 HK.out.1.fit]; exact decide_eq_false hc
          have HC : Hid (cmpI e0.k d ≠ -1) := hc
          go_wp2_with fail
          refine wp_region_held (S := fun X => Below wr.heap.size wr X) (by kernel_rfl) ?_
          show wpAnyH _ _ _ _ _ 21 (Array.replicate 21 false) _ wr.drew
          have s0 : Below wr.heap.size wr wr.drew := (Below.refl _ wr).drew
          refine take_wT (i := 0) (d := some 96) (v := .int .i64 (n : Int)) rfl rfl rfl (by kernel_rfl) (by kernel_rfl) (by kernel_rfl) (fun _ _ d _ _ h => by cases d <;> exact h) (fun X hS => by kernel_rfl) s0 ?_
          simp only [Act.put, List.setIfInBounds_toArray, List.set_cons_zero, List.set_cons_succ]
          refine take_wT (i := 1) (d := some 97) (v := .pointer (some ⟨rb, 0, none⟩)) rfl rfl rfl (by kernel_rfl) (by kernel_rfl) (by kernel_rfl) (fun _ _ d _ _ h => by cases d <;> exact h) (fun X hS => by kernel_rfl) s0 ?_
          simp only [Act.put, List.setIfInBounds_toArray, List.set_cons_zero, List.set_cons_succ]
          refine take_wT (i := 2) (d := some 98) (v := .pointer (some ⟨rb, 0, none⟩)) rfl rfl rfl (by kernel_rfl) (by kernel_rfl) (by kernel_rfl) (fun _ _ d _ _ h => by cases d <;> exact h) (fun X hS => by kernel_rfl) s0 ?_
          simp only [Act.put, List.setIfInBounds_toArray, List.set_cons_zero, List.set_cons_succ]
          refine take_wT (i := 3) (d := some 99) (v := .pointer (some ⟨rb, 5, none⟩)) rfl rfl rfl (by kernel_rfl) (by kernel_rfl) (by kernel_rfl) (fun _ _ d _ _ h => by cases d <;> exact h) (fun X hS => by kernel_rfl) s0 ?_
          simp only [Act.put, List.setIfInBounds_toArray, List.set_cons_zero, List.set_cons_succ]
          refine take_wT (i := 4) (d := some 100) (v := .slice (some ⟨g, 0, none⟩) D2.length vc) rfl rfl rfl (by kernel_rfl) (by kernel_rfl) (by kernel_rfl) (fun _ _ d _ _ h => by cases d <;> exact h) (fun X hS => ex_loadA (.tmp 99) 43 rfl rfl (ld_slD (blk_cell (j := 5) (hdk.on hS).box rfl))) s0 ?_
          simp only [Act.put, List.setIfInBounds_toArray, List.set_cons_zero, List.set_cons_succ]
          refine take_wT (i := 5) (d := some 101) (v := .int .i64 (D2.length : Int)) rfl rfl rfl (by kernel_rfl) (by kernel_rfl) (by kernel_rfl) (fun _ _ d _ _ h => by cases d <;> exact h) (fun X hS => ex_lenD (.tmp 100) rfl rfl) s0 ?_
          simp only [Act.put, List.setIfInBounds_toArray, List.set_cons_zero, List.set_cons_succ]
          refine take_wT (i := 6) (d := some 102) (v := .bool true) rfl rfl rfl (by kernel_rfl) (by kernel_rfl) (by kernel_rfl) (fun _ _ d _ _ h => by cases d <;> exact h) (fun X hS => ex_lssN (.tmp 96) (.tmp 101) rfl rfl rfl qn) s0 ?_
          simp only [Act.put, List.setIfInBounds_toArray, List.set_cons_zero, List.set_cons_succ]
          refine take_wT (i := 7) (d := some 103) (v := .bool true) rfl rfl rfl (by kernel_rfl) (by kernel_rfl) (by kernel_rfl) (fun _ _ d _ _ h => by cases d <;> exact h) (fun X hS => by kernel_rfl) s0 ?_
          simp only [Act.put, List.setIfInBounds_toArray, List.set_cons_zero, List.set_cons_succ]
          refine take_wT (i := 8) (d := some 104) (v := .pointer (some ⟨rb, 0, none⟩)) rfl rfl rfl (by kernel_rfl) (by kernel_rfl) (by kernel_rfl) (fun _ _ d _ _ h => by cases d <;> exact h) (fun X hS => by kernel_rfl) s0 ?_
          simp only [Act.put, List.setIfInBounds_toArray, List.set_cons_zero, List.set_cons_succ]
          refine take_wT (i := 9) (d := some 105) (v := .pointer (some ⟨rb, 0, none⟩)) rfl rfl rfl (by kernel_rfl) (by kernel_rfl) (by kernel_rfl) (fun _ _ d _ _ h => by cases d <;> exact h) (fun X hS => by kernel_rfl) s0 ?_
          simp only [Act.put, List.setIfInBounds_toArray, List.set_cons_zero, List.set_cons_succ]
          refine take_wT (i := 10) (d := some 106) (v := .pointer (some ⟨rb, 5, none⟩)) rfl rfl rfl (by kernel_rfl) (by kernel_rfl) (by kernel_rfl) (fun _ _ d _ _ h => by cases d <;> exact h) (fun X hS => by kernel_rfl) s0 ?_
          simp only [Act.put, List.setIfInBounds_toArray, List.set_cons_zero, List.set_cons_succ]
          refine take_wT (i := 11) (d := some 107) (v := .slice (some ⟨g, 0, none⟩) D2.length vc) rfl rfl rfl (by kernel_rfl) (by kernel_rfl) (by kernel_rfl) (fun _ _ d _ _ h => by cases d <;> exact h) (fun X hS => ex_loadA (.tmp 106) 43 rfl rfl (ld_slD (blk_cell (j := 5) (hdk.on hS).box rfl))) s0 ?_
          simp only [Act.put, List.setIfInBounds_toArray, List.set_cons_zero, List.set_cons_succ]
          refine take_wT (i := 12) (d := some 108) (v := .int .i64 (n : Int)) rfl rfl rfl (by kernel_rfl) (by kernel_rfl) (by kernel_rfl) (fun _ _ d _ _ h => by cases d <;> exact h) (fun X hS => by kernel_rfl) s0 ?_
          simp only [Act.put, List.setIfInBounds_toArray, List.set_cons_zero, List.set_cons_succ]
          refine take_wT (i := 13) (d := some 109) (v := .pointer (some ⟨g, n * 18, none⟩)) rfl rfl rfl (by kernel_rfl) (by kernel_rfl) (by kernel_rfl) (fun _ _ d _ _ h => by cases d <;> exact h) (fun X hS => ex_ixD (.tmp 107) (.tmp 108) rfl rfl rfl hlt) s0 ?_
          simp only [Act.put, List.setIfInBounds_toArray, List.set_cons_zero, List.set_cons_succ]
          refine take_wT (i := 14) (d := some 110) (v := .pointer (some ⟨g, n * 18, none⟩)) rfl rfl rfl (by kernel_rfl) (by kernel_rfl) (by kernel_rfl) (fun _ _ d _ _ h => by cases d <;> exact h) (fun X hS => by kernel_rfl) s0 ?_
          simp only [Act.put, List.setIfInBounds_toArray, List.set_cons_zero, List.set_cons_succ]
          refine take_wT (i := 15) (d := some 111) (v := .slice (some ⟨g, n * 18, none⟩) 16 16) rfl rfl rfl (by kernel_rfl) (by kernel_rfl) (by kernel_rfl) (fun _ _ d _ _ h => by cases d <;> exact h) (fun X hS => ex_slc16 110 rfl rfl) s0 ?_
          simp only [Act.put, List.setIfInBounds_toArray, List.set_cons_zero, List.set_cons_succ]
          refine take_wT (i := 16) (d := some 112) (v := .string (strOfNums e0.k)) rfl rfl rfl (by kernel_rfl) (by kernel_rfl) (by kernel_rfl) (fun _ _ d _ _ h => by cases d <;> exact h) (fun X hS => ex_convD (.tmp 111) rfl rfl (strD ⟨hok.1, hok.2⟩ (fun i u hi => (hS.cell (p := ⟨g, _, none⟩) hg).trans (cE_k hok hcx i u hi)))) s0 ?_
          simp only [Act.put, List.setIfInBounds_toArray, List.set_cons_zero, List.set_cons_succ]
          refine take_wT (i := 17) (d := some 113) (v := .slice (some ⟨W.heap.size, 0, none⟩) 16 16) rfl rfl rfl (by kernel_rfl) (by kernel_rfl) (by kernel_rfl) (fun _ _ d _ _ h => by cases d <;> exact h) (fun X hS => ex_slc16 6 rfl rfl) s0 ?_
          simp only [Act.put, List.setIfInBounds_toArray, List.set_cons_zero, List.set_cons_succ]
          refine take_wT (i := 18) (d := some 114) (v := .string (strOfNums d)) rfl rfl rfl (by kernel_rfl) (by kernel_rfl) (by kernel_rfl) (fun _ _ d _ _ h => by cases d <;> exact h) (fun X hS => ex_convD (.tmp 113) rfl rfl (strD HK.out.1 (CellsAt.blkP (c := u8s d) (t := 35) (blk_on hxk hS)))) s0 ?_
          simp only [Act.put, List.setIfInBounds_toArray, List.set_cons_zero, List.set_cons_succ]
          refine take_wT (i := 19) (d := some 115) (v := .bool false) rfl rfl rfl (by kernel_rfl) (by kernel_rfl) (by kernel_rfl) (fun _ _ d _ _ h => by cases d <;> exact h) (fun X hS => ex_lssD (.tmp 112) (.tmp 114) rfl rfl rfl hless) s0 ?_
          simp only [Act.put, List.setIfInBounds_toArray, List.set_cons_zero, List.set_cons_succ]
          refine take_wT (i := 20) (d := some 116) (v := .bool false) rfl rfl rfl (by kernel_rfl) (by kernel_rfl) (by kernel_rfl) (fun _ _ d _ _ h => by cases d <;> exact h) (fun X hS => ex_pickP (c := true) (.tmp 103) (.tmp 115) (.const (.bool false)) rfl rfl rfl rfl) s0 ?_
          simp only [Act.put, List.setIfInBounds_toArray, List.set_cons_zero, List.set_cons_succ]
          refine wpAnyH_done (by kernel_rfl) ?_ _
          have hdk := hdk.on s0
          have hfk := hfk.trans (FrD.below s0)
          have hxk := blk_on hxk s0
          have NL : Hid (rb < wr.drew.heap.size ∧ W.heap.size < wr.drew.heap.size) := NL.out
          generalize wr.drew = wr at *
          clear hless hok hcx hg hbg hlt hc qn HBR s0
          obtain ⟨S1, S2, hs1, src1, hs2, src2⟩ := cutsE (n := n) hdk.row (by have h9 : n ≤ D2.length := HN.out; exact h9)
          have HPOS : Hid (PosP D2 d n) := ⟨HN.out, HNO.out, fun x hx => by rw [HE0.out] at hx; injection hx with hx; rw [← hx]; exact HC.out⟩
          obtain ⟨W4, hW4⟩ : ∃ W4, W4 = wr.alloc (.cells #[] 72) := ⟨_, rfl⟩
          have hB4 : Below wr.heap.size wr W4 := by rw [hW4]; exact (Below.refl wr.heap.size wr).alloc (Nat.le_refl _) _
          have ho4 := own_emp wr
          rw [← hW4] at ho4
          obtain ⟨v5, W5, hap5, own5, hbl5⟩ := appE (L2 := D2.take n) ho4 hB4.size (by have h9 : D2.length ≤ 50000 := HSZ2.out; have h8 : (D2.take n).length ≤ D2.length := (by rw [List.length_take]; exact Nat.min_le_right _ _); simp only [List.length_nil]; omega) (src1.on hB4) 43
          rw [List.nil_append] at own5
          have hb5 : Below wr.heap.size wr W5 := hB4.trans hbl5
          have hd5 := hdk.on hb5
          have hx5 := blk_on hxk hb5
          have c5' : W4.cell? ⟨rb, 5, none⟩ = some (.slice (some ⟨g, 0, none⟩) D2.length vc) := blk_cell (j := 5) (hdk.on hB4).box rfl
          have HB5 : Hid (Below wr.heap.size wr W5) := hb5
          have HO5 : Hid _ := own5
          have HD5 : Hid (Doc rb cf t D2 (.slice (some ⟨g, 0, none⟩) D2.length vc) W5 ∧ W5.heap[W.heap.size]? = some (.cells (u8s d).toArray 35)) := ⟨hd5, hx5⟩
          have HS1 : Hid _ := hs1
          have HAP5 : Hid _ := hap5
          have HS2 : Hid (∀ w : World, (Instr.sliceAt 43 (.slice (some ⟨g, 0, none⟩) D2.length vc) (some (.int .i64 n)) none none).run Try.prog w = .ok S2 w) := hs2
          have HSRC2 : Hid (SrcE wr S2 (D2.drop n)) := src2
          have HDK : Hid (Doc rb cf t D2 (.slice (some ⟨g, 0, none⟩) D2.length vc) wr ∧ FrD rb W wr) := ⟨hdk, hfk⟩
          have e4 := hW4.symm
          clear hs1 src1 hs2 src2 hB4 ho4 hap5 own5 hbl5 hb5 hd5 hx5 hW4 hdk hfk hxk
          go_wp2_with first
            | ((with_reducible show wpList _ _ _ ({ dst := _, op := Op.slice 43 (Operand.tmp 123) none (some (Operand.tmp 124)) none, type := _, pos := _, after := _, guard := _ } :: _) _ _); refine arm_slE (.tmp 123) none (some (.tmp 124)) 43 rfl rfl rfl rfl rfl (HS1.out _) ?_)
            | ((with_reducible show wpList _ _ _ ({ dst := _, op := Op.call { callee := Callee.builtin Builtin.append, args := #[(Operand.tmp 119), (Operand.tmp 125)], argTypes := #[43, 43] }, type := _, pos := _, after := _, guard := _ } :: _) _ _); refine arm_apE (.tmp 119) (.tmp 125) 43 rfl rfl rfl rfl HAP5.out ?_)
          clear e4 c5' HS1 HAP5
          refine wp_region_held (S := fun X => X.heap[W.heap.size]? = some (.cells (u8s d).toArray 35) ∧ X.cell? ⟨rb, 2, none⟩ = some (.int .i64 cf.life)) (by kernel_rfl) ?_
          show wpAnyH _ _ _ _ _ 15 (Array.replicate 15 false) _ W5.drew
          have s0 : W5.drew.heap[W.heap.size]? = some (.cells (u8s d).toArray 35) ∧ W5.drew.cell? ⟨rb, 2, none⟩ = some (.int .i64 cf.life) := ⟨HD5.out.2, blk_cell (w := W5) (j := 2) HD5.out.1.box rfl⟩
          have b5 : Below W5.heap.size W5 W5.drew := (Below.refl _ W5).drew
          have own6 := own_same (w' := W5.drew) HO5.out (fun _ _ => rfl)
          generalize W5.drew = V0 at *
          obtain ⟨en, hen⟩ : ∃ en : PE, en = ⟨d, zm, min (t + cf.life) 1099511627776⟩ := ⟨_, rfl⟩
          have hec : eC d zm (min (t + cf.life) 1099511627776) = eE en := by rw [hen]; exact (eE_ok (x := ⟨d, zm, min (t + cf.life) 1099511627776⟩) ⟨HK.out.1.fit, HK.out.1.len⟩).symm
          obtain ⟨v6, W6, hap6, own6b, hbl6⟩ := pushE own6 (Nat.le_trans HB5.out.size b5.size) (by have h9 : D2.length ≤ 50000 := HSZ2.out; have h8 : (D2.take n).length ≤ D2.length := (by rw [List.length_take]; exact Nat.min_le_right _ _); omega) en 43
          have hbs := bsE V0 en
          have bv6 : Below wr.heap.size wr W6 := (HB5.out.trans (b5.mono HB5.out.size)).trans hbl6
          have nl : rb < wr.heap.size ∧ W.heap.size < wr.heap.size := NL.out
          have bva : Below V0.heap.size V0 (V0.alloc (.cells (eE en).toArray 72)) := (Below.refl _ V0).alloc (Nat.le_refl _) _
          have s1 : (V0.alloc (.cells (eE en).toArray 72)).heap[W.heap.size]? = some (.cells (u8s d).toArray 35) ∧ (V0.alloc (.cells (eE en).toArray 72)).cell? ⟨rb, 2, none⟩ = some (.int .i64 cf.life) := ⟨blk_on s0.1 bva, (bva.cell (p := ⟨rb, 2, none⟩) (Nat.lt_of_lt_of_le nl.1 (Nat.le_trans HB5.out.size b5.size))).trans s0.2⟩
          have s2 : W6.heap[W.heap.size]? = some (.cells (u8s d).toArray 35) ∧ W6.cell? ⟨rb, 2, none⟩ = some (.int .i64 cf.life) := ⟨(hbl6.block _ nl.2).trans s0.1, (hbl6.cell (p := ⟨rb, 2, none⟩) nl.1).trans s0.2⟩
          refine take_wT (i := 0) (d := some 127) (v := v5) rfl rfl rfl (by kernel_rfl) (by kernel_rfl) (by kernel_rfl) (fun _ _ d _ _ h => by cases d <;> exact h) (fun X hS => by kernel_rfl) s0 ?_
          simp only [Act.put, List.setIfInBounds_toArray, List.set_cons_zero, List.set_cons_succ]
          refine take_wT (i := 1) (d := some 128) (v := .agg (u8s d).toArray) rfl rfl rfl (by kernel_rfl) (by kernel_rfl) (by kernel_rfl) (fun _ _ d _ _ h => by cases d <;> exact h) (fun X hS => ex_loadA (.tmp 6) 35 rfl rfl (at_A HK.out.1.len hS.1)) s0 ?_
          simp only [Act.put, List.setIfInBounds_toArray, List.set_cons_zero, List.set_cons_succ]
          refine take_wT (i := 2) (d := some 129) (v := .int .i64 zm) rfl rfl rfl (by kernel_rfl) (by kernel_rfl) (by kernel_rfl) (fun _ _ d _ _ h => by cases d <;> exact h) (fun X hS => by kernel_rfl) s0 ?_
          simp only [Act.put, List.setIfInBounds_toArray, List.set_cons_zero, List.set_cons_succ]
          refine take_wT (i := 3) (d := some 130) (v := .int .i64 t) rfl rfl rfl (by kernel_rfl) (by kernel_rfl) (by kernel_rfl) (fun _ _ d _ _ h => by cases d <;> exact h) (fun X hS => by kernel_rfl) s0 ?_
          simp only [Act.put, List.setIfInBounds_toArray, List.set_cons_zero, List.set_cons_succ]
          refine take_wT (i := 4) (d := some 131) (v := .pointer (some ⟨rb, 0, none⟩)) rfl rfl rfl (by kernel_rfl) (by kernel_rfl) (by kernel_rfl) (fun _ _ d _ _ h => by cases d <;> exact h) (fun X hS => by kernel_rfl) s0 ?_
          simp only [Act.put, List.setIfInBounds_toArray, List.set_cons_zero, List.set_cons_succ]
          refine take_wT (i := 5) (d := some 132) (v := .pointer (some ⟨rb, 0, none⟩)) rfl rfl rfl (by kernel_rfl) (by kernel_rfl) (by kernel_rfl) (fun _ _ d _ _ h => by cases d <;> exact h) (fun X hS => by kernel_rfl) s0 ?_
          simp only [Act.put, List.setIfInBounds_toArray, List.set_cons_zero, List.set_cons_succ]
          refine take_wT (i := 6) (d := some 133) (v := .pointer (some ⟨rb, 0, none⟩)) rfl rfl rfl (by kernel_rfl) (by kernel_rfl) (by kernel_rfl) (fun _ _ d _ _ h => by cases d <;> exact h) (fun X hS => by kernel_rfl) s0 ?_
          simp only [Act.put, List.setIfInBounds_toArray, List.set_cons_zero, List.set_cons_succ]
          refine take_wT (i := 7) (d := some 134) (v := .pointer (some ⟨rb, 2, none⟩)) rfl rfl rfl (by kernel_rfl) (by kernel_rfl) (by kernel_rfl) (fun _ _ d _ _ h => by cases d <;> exact h) (fun X hS => by kernel_rfl) s0 ?_
          simp only [Act.put, List.setIfInBounds_toArray, List.set_cons_zero, List.set_cons_succ]
          refine take_wT (i := 8) (d := some 135) (v := .int .i64 cf.life) rfl rfl rfl (by kernel_rfl) (by kernel_rfl) (by kernel_rfl) (fun _ _ d _ _ h => by cases d <;> exact h) (fun X hS => ex_loadA (.tmp 134) 3 rfl rfl (ld_int hS.2)) s0 ?_
          simp only [Act.put, List.setIfInBounds_toArray, List.set_cons_zero, List.set_cons_succ]
          refine take_wT (i := 9) (d := some 136) (v := .int .i64 (t + cf.life)) rfl rfl rfl (by kernel_rfl) (by kernel_rfl) (by kernel_rfl) (fun _ _ d _ _ h => by cases d <;> exact h) (fun X hS => ex_addP (.tmp 130) (.tmp 135) rfl rfl rfl HWR.out) s0 ?_
          simp only [Act.put, List.setIfInBounds_toArray, List.set_cons_zero, List.set_cons_succ]
          refine take_wT (i := 10) (d := some 137) (v := .int .i64 (min (t + cf.life) 1099511627776)) rfl rfl rfl (by kernel_rfl) (by kernel_rfl) (by kernel_rfl) (fun _ _ d _ _ h => by cases d <;> exact h) (fun X hS => ex_minP (.tmp 136) (.const (.int .i64 1099511627776)) rfl rfl rfl) s0 ?_
          simp only [Act.put, List.setIfInBounds_toArray, List.set_cons_zero, List.set_cons_succ]
          refine take_wT (i := 11) (d := some 138) (v := .agg (eE en).toArray) rfl rfl rfl (by kernel_rfl) (by kernel_rfl) (by kernel_rfl) (fun _ _ d _ _ h => by cases d <;> exact h) (fun X hS => by rw [← hec]; exact ex_buildA 72 [(0, .tmp 128), (1, .tmp 129), (2, .tmp 137)] rfl rfl (bldE HK.out.1.len zm (min (t + cf.life) 1099511627776) _)) s0 ?_
          simp only [Act.put, List.setIfInBounds_toArray, List.set_cons_zero, List.set_cons_succ]
          refine all_wT (i := 12) (by kernel_rfl) rfl rfl ?_
          refine wp_effX (d := some 139) (v := .slice (some ⟨V0.heap.size, 0, none⟩) 1 1) (w2 := V0.alloc (.cells (eE en).toArray 72)) rfl (ex_bsD (.tmp 138) rfl rfl hbs) ⟨s1, ?_⟩
          simp only [Act.put, List.setIfInBounds_toArray, List.set_cons_zero, List.set_cons_succ]
          refine all_wT (i := 13) (by kernel_rfl) rfl rfl ?_
          refine wp_effX (d := some 140) (v := v6) (w2 := W6) rfl (ex_apD (.tmp 127) (.tmp 139) rfl rfl rfl hap6) ⟨s2, ?_⟩
          simp only [Act.put, List.setIfInBounds_toArray, List.set_cons_zero, List.set_cons_succ]
          refine take_wT (i := 14) (d := some 14) (v := v6) rfl rfl rfl (by kernel_rfl) (by kernel_rfl) (by kernel_rfl) (fun _ _ d _ _ h => by cases d <;> exact h) (fun X hS => by kernel_rfl) s2 ?_
          simp only [Act.put, List.setIfInBounds_toArray, List.set_cons_zero, List.set_cons_succ]
          refine wpAnyH_done (by kernel_rfl) ?_ _
          obtain ⟨v7, W7, hap7, own7, hbl7⟩ := appE (L2 := D2.drop n) own6b bv6.size (by have h9 : D2.length ≤ 50000 := HSZ2.out; have h8 : (D2.take n).length ≤ D2.length := (by rw [List.length_take]; exact Nat.min_le_right _ _); have h7 : (D2.drop n).length ≤ D2.length := (by rw [List.length_drop]; exact Nat.sub_le _ _); simp only [List.length_append, List.length_singleton]; omega) (HSRC2.out.on bv6) 43
          have bv7 : Below wr.heap.size wr W7 := bv6.trans hbl7
          obtain ⟨a7, k7, c7, hv7⟩ : ∃ a k c, v7 = Value.slice a k c := by obtain ⟨a, c, e⟩ := own_slc own7; exact ⟨a, _, c, e⟩
          obtain ⟨hdf, hff⟩ := HDK.out.1.put bv7 (D' := putD D2 n en) own7 (fun x hx => by
            unfold putD at hx
            rcases List.mem_append.1 hx with hx | hx
            · rcases List.mem_append.1 hx with hx | hx
              · exact HDK.out.1.ok x (List.mem_of_mem_take hx)
              · simp only [List.mem_singleton] at hx
                rw [hx, hen]
                exact ⟨HK.out.1.fit, HK.out.1.len⟩
            · exact HDK.out.1.ok x (List.mem_of_mem_drop hx))
          have HFIN : Hid (TellR D1 d cf z t true (putD D2 n en) ∧ Doc rb cf t (putD D2 n en) v7 (W7.setCell ⟨rb, 5, none⟩ v7) ∧ FrD rb W (W7.setCell ⟨rb, 5, none⟩ v7)) := ⟨⟨m0, HM0.out, .inr ⟨by rw [HZM.out]; exact HGE.out, rfl, D2, n, HTP.out, HPOS.out, by rw [hen, HZM.out]⟩⟩, hdf, HDK.out.2.trans hff⟩
          have c6 : W6.cell? ⟨rb, 5, none⟩ = some (.slice (some ⟨g, 0, none⟩) D2.length vc) := blk_cell (j := 5) (HDK.out.1.on bv6).box rfl
          have c7' : W7.cell? ⟨rb, 5, none⟩ = some (.slice (some ⟨g, 0, none⟩) D2.length vc) := blk_cell (j := 5) (HDK.out.1.on bv7).box rfl
          have hfz := blk_open (HDK.out.1.on bv7).box 5
          have HAP7 : Hid _ := hap7
          rw [hv7] at HAP7
          rw [hv7] at HFIN
          clear s0 s1 s2 b5 own6 hen hec hap6 own6b hbl6 hbs bv6 nl bva hap7 own7 hbl7 bv7 hdf hff hv7
          go_wp2_with first
            | ((with_reducible show wpList _ _ _ ({ dst := _, op := Op.slice 43 (Operand.tmp 146) (some (Operand.tmp 147)) none none, type := _, pos := _, after := _, guard := _ } :: _) _ _); refine arm_slE (.tmp 146) (some (.tmp 147)) none 43 rfl rfl rfl rfl rfl (HS2.out _) ?_)
            | ((with_reducible show wpList _ _ _ ({ dst := _, op := Op.call { callee := Callee.builtin Builtin.append, args := #[(Operand.tmp 142), (Operand.tmp 148)], argTypes := #[43, 43] }, type := _, pos := _, after := _, guard := _ } :: _) _ _); refine arm_apE (.tmp 142) (.tmp 148) 43 rfl rfl rfl rfl HAP7.out ?_)
          try go_returns
          exact HQ.out _ _ ⟨true, _, rfl, HFIN.out.1, ⟨_, HFIN.out.2.1⟩, HFIN.out.2.2⟩
      · have hnl : n = D2.length := by have h9 := HN.out; omega
        have HNN : Hid (n = D2.length) := hnl
        have qn : decide ((n : Int) < D2.length) = false := decide_eq_false (by omega)
        clear hnl
        go_wp2_with fail
        refine wp_region_held (S := fun X => Below wr.heap.size wr X) (by kernel_rfl) ?_
        show wpAnyH _ _ _ _ _ 21 (Array.replicate 21 false) _ wr.drew
        have s0 : Below wr.heap.size wr wr.drew := (Below.refl _ wr).drew
        refine take_wT (i := 0) (d := some 96) (v := .int .i64 (n : Int)) rfl rfl rfl (by kernel_rfl) (by kernel_rfl) (by kernel_rfl) (fun _ _ d _ _ h => by cases d <;> exact h) (fun X hS => by kernel_rfl) s0 ?_
        simp only [Act.put, List.setIfInBounds_toArray, List.set_cons_zero, List.set_cons_succ]
        refine take_wT (i := 1) (d := some 97) (v := .pointer (some ⟨rb, 0, none⟩)) rfl rfl rfl (by kernel_rfl) (by kernel_rfl) (by kernel_rfl) (fun _ _ d _ _ h => by cases d <;> exact h) (fun X hS => by kernel_rfl) s0 ?_
        simp only [Act.put, List.setIfInBounds_toArray, List.set_cons_zero, List.set_cons_succ]
        refine take_wT (i := 2) (d := some 98) (v := .pointer (some ⟨rb, 0, none⟩)) rfl rfl rfl (by kernel_rfl) (by kernel_rfl) (by kernel_rfl) (fun _ _ d _ _ h => by cases d <;> exact h) (fun X hS => by kernel_rfl) s0 ?_
        simp only [Act.put, List.setIfInBounds_toArray, List.set_cons_zero, List.set_cons_succ]
        refine take_wT (i := 3) (d := some 99) (v := .pointer (some ⟨rb, 5, none⟩)) rfl rfl rfl (by kernel_rfl) (by kernel_rfl) (by kernel_rfl) (fun _ _ d _ _ h => by cases d <;> exact h) (fun X hS => by kernel_rfl) s0 ?_
        simp only [Act.put, List.setIfInBounds_toArray, List.set_cons_zero, List.set_cons_succ]
        refine take_wT (i := 4) (d := some 100) (v := .slice va D2.length vc) rfl rfl rfl (by kernel_rfl) (by kernel_rfl) (by kernel_rfl) (fun _ _ d _ _ h => by cases d <;> exact h) (fun X hS => ex_loadA (.tmp 99) 43 rfl rfl (ld_slD (blk_cell (j := 5) (hdk.on hS).box rfl))) s0 ?_
        simp only [Act.put, List.setIfInBounds_toArray, List.set_cons_zero, List.set_cons_succ]
        refine take_wT (i := 5) (d := some 101) (v := .int .i64 (D2.length : Int)) rfl rfl rfl (by kernel_rfl) (by kernel_rfl) (by kernel_rfl) (fun _ _ d _ _ h => by cases d <;> exact h) (fun X hS => ex_lenD (.tmp 100) rfl rfl) s0 ?_
        simp only [Act.put, List.setIfInBounds_toArray, List.set_cons_zero, List.set_cons_succ]
        refine take_wT (i := 6) (d := some 102) (v := .bool false) rfl rfl rfl (by kernel_rfl) (by kernel_rfl) (by kernel_rfl) (fun _ _ d _ _ h => by cases d <;> exact h) (fun X hS => ex_lssN (.tmp 96) (.tmp 101) rfl rfl rfl qn) s0 ?_
        simp only [Act.put, List.setIfInBounds_toArray, List.set_cons_zero, List.set_cons_succ]
        refine take_wT (i := 7) (d := some 103) (v := .bool false) rfl rfl rfl (by kernel_rfl) (by kernel_rfl) (by kernel_rfl) (fun _ _ d _ _ h => by cases d <;> exact h) (fun X hS => by kernel_rfl) s0 ?_
        simp only [Act.put, List.setIfInBounds_toArray, List.set_cons_zero, List.set_cons_succ]
        refine skip_wT (i := 8) (d := some 104) rfl rfl rfl (by kernel_rfl) (by kernel_rfl) (by kernel_rfl) (fun _ _ d _ _ h => by cases d <;> exact h) s0 ?_
        simp only [Act.put, List.setIfInBounds_toArray, List.set_cons_zero, List.set_cons_succ]
        refine skip_wT (i := 9) (d := some 105) rfl rfl rfl (by kernel_rfl) (by kernel_rfl) (by kernel_rfl) (fun _ _ d _ _ h => by cases d <;> exact h) s0 ?_
        simp only [Act.put, List.setIfInBounds_toArray, List.set_cons_zero, List.set_cons_succ]
        refine skip_wT (i := 10) (d := some 106) rfl rfl rfl (by kernel_rfl) (by kernel_rfl) (by kernel_rfl) (fun _ _ d _ _ h => by cases d <;> exact h) s0 ?_
        simp only [Act.put, List.setIfInBounds_toArray, List.set_cons_zero, List.set_cons_succ]
        refine skip_wT (i := 11) (d := some 107) rfl rfl rfl (by kernel_rfl) (by kernel_rfl) (by kernel_rfl) (fun _ _ d _ _ h => by cases d <;> exact h) s0 ?_
        simp only [Act.put, List.setIfInBounds_toArray, List.set_cons_zero, List.set_cons_succ]
        refine skip_wT (i := 12) (d := some 108) rfl rfl rfl (by kernel_rfl) (by kernel_rfl) (by kernel_rfl) (fun _ _ d _ _ h => by cases d <;> exact h) s0 ?_
        simp only [Act.put, List.setIfInBounds_toArray, List.set_cons_zero, List.set_cons_succ]
        refine skip_wT (i := 13) (d := some 109) rfl rfl rfl (by kernel_rfl) (by kernel_rfl) (by kernel_rfl) (fun _ _ d _ _ h => by cases d <;> exact h) s0 ?_
        simp only [Act.put, List.setIfInBounds_toArray, List.set_cons_zero, List.set_cons_succ]
        refine skip_wT (i := 14) (d := some 110) rfl rfl rfl (by kernel_rfl) (by kernel_rfl) (by kernel_rfl) (fun _ _ d _ _ h => by cases d <;> exact h) s0 ?_
        simp only [Act.put, List.setIfInBounds_toArray, List.set_cons_zero, List.set_cons_succ]
        refine skip_wT (i := 15) (d := some 111) rfl rfl rfl (by kernel_rfl) (by kernel_rfl) (by kernel_rfl) (fun _ _ d _ _ h => by cases d <;> exact h) s0 ?_
        simp only [Act.put, List.setIfInBounds_toArray, List.set_cons_zero, List.set_cons_succ]
        refine skip_wT (i := 16) (d := some 112) rfl rfl rfl (by kernel_rfl) (by kernel_rfl) (by kernel_rfl) (fun _ _ d _ _ h => by cases d <;> exact h) s0 ?_
        simp only [Act.put, List.setIfInBounds_toArray, List.set_cons_zero, List.set_cons_succ]
        refine skip_wT (i := 17) (d := some 113) rfl rfl rfl (by kernel_rfl) (by kernel_rfl) (by kernel_rfl) (fun _ _ d _ _ h => by cases d <;> exact h) s0 ?_
        simp only [Act.put, List.setIfInBounds_toArray, List.set_cons_zero, List.set_cons_succ]
        refine skip_wT (i := 18) (d := some 114) rfl rfl rfl (by kernel_rfl) (by kernel_rfl) (by kernel_rfl) (fun _ _ d _ _ h => by cases d <;> exact h) s0 ?_
        simp only [Act.put, List.setIfInBounds_toArray, List.set_cons_zero, List.set_cons_succ]
        refine skip_wT (i := 19) (d := some 115) rfl rfl rfl (by kernel_rfl) (by kernel_rfl) (by kernel_rfl) (fun _ _ d _ _ h => by cases d <;> exact h) s0 ?_
        simp only [Act.put, List.setIfInBounds_toArray, List.set_cons_zero, List.set_cons_succ]
        refine take_wT (i := 20) (d := some 116) (v := .bool false) rfl rfl rfl (by kernel_rfl) (by kernel_rfl) (by kernel_rfl) (fun _ _ d _ _ h => by cases d <;> exact h) (fun X hS => ex_pickP (c := false) (.tmp 103) (.tmp 115) (.const (.bool false)) rfl rfl rfl rfl) s0 ?_
        simp only [Act.put, List.setIfInBounds_toArray, List.set_cons_zero, List.set_cons_succ]
        refine wpAnyH_done (by kernel_rfl) ?_ _
        have hdk := hdk.on s0
        have hfk := hfk.trans (FrD.below s0)
        have hxk := blk_on hxk s0
        have NL : Hid (rb < wr.drew.heap.size ∧ W.heap.size < wr.drew.heap.size) := NL.out
        generalize wr.drew = wr at *
        clear hlt qn HBR s0
        obtain ⟨S1, S2, hs1, src1, hs2, src2⟩ := cutsE (n := n) hdk.row (by have h9 : n ≤ D2.length := HN.out; exact h9)
        have HPOS : Hid (PosP D2 d n) := ⟨HN.out, HNO.out, fun x hx => by have h9 := (List.getElem?_eq_some_iff.1 hx).1; rw [HNN.out] at h9; exact absurd h9 (Nat.lt_irrefl _)⟩
        obtain ⟨W4, hW4⟩ : ∃ W4, W4 = wr.alloc (.cells #[] 72) := ⟨_, rfl⟩
        have hB4 : Below wr.heap.size wr W4 := by rw [hW4]; exact (Below.refl wr.heap.size wr).alloc (Nat.le_refl _) _
        have ho4 := own_emp wr
        rw [← hW4] at ho4
        obtain ⟨v5, W5, hap5, own5, hbl5⟩ := appE (L2 := D2.take n) ho4 hB4.size (by have h9 : D2.length ≤ 50000 := HSZ2.out; have h8 : (D2.take n).length ≤ D2.length := (by rw [List.length_take]; exact Nat.min_le_right _ _); simp only [List.length_nil]; omega) (src1.on hB4) 43
        rw [List.nil_append] at own5
        have hb5 : Below wr.heap.size wr W5 := hB4.trans hbl5
        have hd5 := hdk.on hb5
        have hx5 := blk_on hxk hb5
        have c5' : W4.cell? ⟨rb, 5, none⟩ = some (.slice va D2.length vc) := blk_cell (j := 5) (hdk.on hB4).box rfl
        have HB5 : Hid (Below wr.heap.size wr W5) := hb5
        have HO5 : Hid _ := own5
        have HD5 : Hid (Doc rb cf t D2 (.slice va D2.length vc) W5 ∧ W5.heap[W.heap.size]? = some (.cells (u8s d).toArray 35)) := ⟨hd5, hx5⟩
        have HS1 : Hid _ := hs1
        have HAP5 : Hid _ := hap5
        have HS2 : Hid (∀ w : World, (Instr.sliceAt 43 (.slice va D2.length vc) (some (.int .i64 n)) none none).run Try.prog w = .ok S2 w) := hs2
        have HSRC2 : Hid (SrcE wr S2 (D2.drop n)) := src2
        have HDK : Hid (Doc rb cf t D2 (.slice va D2.length vc) wr ∧ FrD rb W wr) := ⟨hdk, hfk⟩
        have e4 := hW4.symm
        clear hs1 src1 hs2 src2 hB4 ho4 hap5 own5 hbl5 hb5 hd5 hx5 hW4 hdk hfk hxk
        go_wp2_with first
          | ((with_reducible show wpList _ _ _ ({ dst := _, op := Op.slice 43 (Operand.tmp 123) none (some (Operand.tmp 124)) none, type := _, pos := _, after := _, guard := _ } :: _) _ _); refine arm_slE (.tmp 123) none (some (.tmp 124)) 43 rfl rfl rfl rfl rfl (HS1.out _) ?_)
          | ((with_reducible show wpList _ _ _ ({ dst := _, op := Op.call { callee := Callee.builtin Builtin.append, args := #[(Operand.tmp 119), (Operand.tmp 125)], argTypes := #[43, 43] }, type := _, pos := _, after := _, guard := _ } :: _) _ _); refine arm_apE (.tmp 119) (.tmp 125) 43 rfl rfl rfl rfl HAP5.out ?_)
        clear e4 c5' HS1 HAP5
        refine wp_region_held (S := fun X => X.heap[W.heap.size]? = some (.cells (u8s d).toArray 35) ∧ X.cell? ⟨rb, 2, none⟩ = some (.int .i64 cf.life)) (by kernel_rfl) ?_
        show wpAnyH _ _ _ _ _ 15 (Array.replicate 15 false) _ W5.drew
        have s0 : W5.drew.heap[W.heap.size]? = some (.cells (u8s d).toArray 35) ∧ W5.drew.cell? ⟨rb, 2, none⟩ = some (.int .i64 cf.life) := ⟨HD5.out.2, blk_cell (w := W5) (j := 2) HD5.out.1.box rfl⟩
        have b5 : Below W5.heap.size W5 W5.drew := (Below.refl _ W5).drew
        have own6 := own_same (w' := W5.drew) HO5.out (fun _ _ => rfl)
        generalize W5.drew = V0 at *
        obtain ⟨en, hen⟩ : ∃ en : PE, en = ⟨d, zm, min (t + cf.life) 1099511627776⟩ := ⟨_, rfl⟩
        have hec : eC d zm (min (t + cf.life) 1099511627776) = eE en := by rw [hen]; exact (eE_ok (x := ⟨d, zm, min (t + cf.life) 1099511627776⟩) ⟨HK.out.1.fit, HK.out.1.len⟩).symm
        obtain ⟨v6, W6, hap6, own6b, hbl6⟩ := pushE own6 (Nat.le_trans HB5.out.size b5.size) (by have h9 : D2.length ≤ 50000 := HSZ2.out; have h8 : (D2.take n).length ≤ D2.length := (by rw [List.length_take]; exact Nat.min_le_right _ _); omega) en 43
        have hbs := bsE V0 en
        have bv6 : Below wr.heap.size wr W6 := (HB5.out.trans (b5.mono HB5.out.size)).trans hbl6
        have nl : rb < wr.heap.size ∧ W.heap.size < wr.heap.size := NL.out
        have bva : Below V0.heap.size V0 (V0.alloc (.cells (eE en).toArray 72)) := (Below.refl _ V0).alloc (Nat.le_refl _) _
        have s1 : (V0.alloc (.cells (eE en).toArray 72)).heap[W.heap.size]? = some (.cells (u8s d).toArray 35) ∧ (V0.alloc (.cells (eE en).toArray 72)).cell? ⟨rb, 2, none⟩ = some (.int .i64 cf.life) := ⟨blk_on s0.1 bva, (bva.cell (p := ⟨rb, 2, none⟩) (Nat.lt_of_lt_of_le nl.1 (Nat.le_trans HB5.out.size b5.size))).trans s0.2⟩
        have s2 : W6.heap[W.heap.size]? = some (.cells (u8s d).toArray 35) ∧ W6.cell? ⟨rb, 2, none⟩ = some (.int .i64 cf.life) := ⟨(hbl6.block _ nl.2).trans s0.1, (hbl6.cell (p := ⟨rb, 2, none⟩) nl.1).trans s0.2⟩
        refine take_wT (i := 0) (d := some 127) (v := v5) rfl rfl rfl (by kernel_rfl) (by kernel_rfl) (by kernel_rfl) (fun _ _ d _ _ h => by cases d <;> exact h) (fun X hS => by kernel_rfl) s0 ?_
        simp only [Act.put, List.setIfInBounds_toArray, List.set_cons_zero, List.set_cons_succ]
        refine take_wT (i := 1) (d := some 128) (v := .agg (u8s d).toArray) rfl rfl rfl (by kernel_rfl) (by kernel_rfl) (by kernel_rfl) (fun _ _ d _ _ h => by cases d <;> exact h) (fun X hS => ex_loadA (.tmp 6) 35 rfl rfl (at_A HK.out.1.len hS.1)) s0 ?_
        simp only [Act.put, List.setIfInBounds_toArray, List.set_cons_zero, List.set_cons_succ]
        refine take_wT (i := 2) (d := some 129) (v := .int .i64 zm) rfl rfl rfl (by kernel_rfl) (by kernel_rfl) (by kernel_rfl) (fun _ _ d _ _ h => by cases d <;> exact h) (fun X hS => by kernel_rfl) s0 ?_
        simp only [Act.put, List.setIfInBounds_toArray, List.set_cons_zero, List.set_cons_succ]
        refine take_wT (i := 3) (d := some 130) (v := .int .i64 t) rfl rfl rfl (by kernel_rfl) (by kernel_rfl) (by kernel_rfl) (fun _ _ d _ _ h => by cases d <;> exact h) (fun X hS => by kernel_rfl) s0 ?_
        simp only [Act.put, List.setIfInBounds_toArray, List.set_cons_zero, List.set_cons_succ]
        refine take_wT (i := 4) (d := some 131) (v := .pointer (some ⟨rb, 0, none⟩)) rfl rfl rfl (by kernel_rfl) (by kernel_rfl) (by kernel_rfl) (fun _ _ d _ _ h => by cases d <;> exact h) (fun X hS => by kernel_rfl) s0 ?_
        simp only [Act.put, List.setIfInBounds_toArray, List.set_cons_zero, List.set_cons_succ]
        refine take_wT (i := 5) (d := some 132) (v := .pointer (some ⟨rb, 0, none⟩)) rfl rfl rfl (by kernel_rfl) (by kernel_rfl) (by kernel_rfl) (fun _ _ d _ _ h => by cases d <;> exact h) (fun X hS => by kernel_rfl) s0 ?_
        simp only [Act.put, List.setIfInBounds_toArray, List.set_cons_zero, List.set_cons_succ]
        refine take_wT (i := 6) (d := some 133) (v := .pointer (some ⟨rb, 0, none⟩)) rfl rfl rfl (by kernel_rfl) (by kernel_rfl) (by kernel_rfl) (fun _ _ d _ _ h => by cases d <;> exact h) (fun X hS => by kernel_rfl) s0 ?_
        simp only [Act.put, List.setIfInBounds_toArray, List.set_cons_zero, List.set_cons_succ]
        refine take_wT (i := 7) (d := some 134) (v := .pointer (some ⟨rb, 2, none⟩)) rfl rfl rfl (by kernel_rfl) (by kernel_rfl) (by kernel_rfl) (fun _ _ d _ _ h => by cases d <;> exact h) (fun X hS => by kernel_rfl) s0 ?_
        simp only [Act.put, List.setIfInBounds_toArray, List.set_cons_zero, List.set_cons_succ]
        refine take_wT (i := 8) (d := some 135) (v := .int .i64 cf.life) rfl rfl rfl (by kernel_rfl) (by kernel_rfl) (by kernel_rfl) (fun _ _ d _ _ h => by cases d <;> exact h) (fun X hS => ex_loadA (.tmp 134) 3 rfl rfl (ld_int hS.2)) s0 ?_
        simp only [Act.put, List.setIfInBounds_toArray, List.set_cons_zero, List.set_cons_succ]
        refine take_wT (i := 9) (d := some 136) (v := .int .i64 (t + cf.life)) rfl rfl rfl (by kernel_rfl) (by kernel_rfl) (by kernel_rfl) (fun _ _ d _ _ h => by cases d <;> exact h) (fun X hS => ex_addP (.tmp 130) (.tmp 135) rfl rfl rfl HWR.out) s0 ?_
        simp only [Act.put, List.setIfInBounds_toArray, List.set_cons_zero, List.set_cons_succ]
        refine take_wT (i := 10) (d := some 137) (v := .int .i64 (min (t + cf.life) 1099511627776)) rfl rfl rfl (by kernel_rfl) (by kernel_rfl) (by kernel_rfl) (fun _ _ d _ _ h => by cases d <;> exact h) (fun X hS => ex_minP (.tmp 136) (.const (.int .i64 1099511627776)) rfl rfl rfl) s0 ?_
        simp only [Act.put, List.setIfInBounds_toArray, List.set_cons_zero, List.set_cons_succ]
        refine take_wT (i := 11) (d := some 138) (v := .agg (eE en).toArray) rfl rfl rfl (by kernel_rfl) (by kernel_rfl) (by kernel_rfl) (fun _ _ d _ _ h => by cases d <;> exact h) (fun X hS => by rw [← hec]; exact ex_buildA 72 [(0, .tmp 128), (1, .tmp 129), (2, .tmp 137)] rfl rfl (bldE HK.out.1.len zm (min (t + cf.life) 1099511627776) _)) s0 ?_
        simp only [Act.put, List.setIfInBounds_toArray, List.set_cons_zero, List.set_cons_succ]
        refine all_wT (i := 12) (by kernel_rfl) rfl rfl ?_
        refine wp_effX (d := some 139) (v := .slice (some ⟨V0.heap.size, 0, none⟩) 1 1) (w2 := V0.alloc (.cells (eE en).toArray 72)) rfl (ex_bsD (.tmp 138) rfl rfl hbs) ⟨s1, ?_⟩
        simp only [Act.put, List.setIfInBounds_toArray, List.set_cons_zero, List.set_cons_succ]
        refine all_wT (i := 13) (by kernel_rfl) rfl rfl ?_
        refine wp_effX (d := some 140) (v := v6) (w2 := W6) rfl (ex_apD (.tmp 127) (.tmp 139) rfl rfl rfl hap6) ⟨s2, ?_⟩
        simp only [Act.put, List.setIfInBounds_toArray, List.set_cons_zero, List.set_cons_succ]
        refine take_wT (i := 14) (d := some 14) (v := v6) rfl rfl rfl (by kernel_rfl) (by kernel_rfl) (by kernel_rfl) (fun _ _ d _ _ h => by cases d <;> exact h) (fun X hS => by kernel_rfl) s2 ?_
        simp only [Act.put, List.setIfInBounds_toArray, List.set_cons_zero, List.set_cons_succ]
        refine wpAnyH_done (by kernel_rfl) ?_ _
        obtain ⟨v7, W7, hap7, own7, hbl7⟩ := appE (L2 := D2.drop n) own6b bv6.size (by have h9 : D2.length ≤ 50000 := HSZ2.out; have h8 : (D2.take n).length ≤ D2.length := (by rw [List.length_take]; exact Nat.min_le_right _ _); have h7 : (D2.drop n).length ≤ D2.length := (by rw [List.length_drop]; exact Nat.sub_le _ _); simp only [List.length_append, List.length_singleton]; omega) (HSRC2.out.on bv6) 43
        have bv7 : Below wr.heap.size wr W7 := bv6.trans hbl7
        obtain ⟨a7, k7, c7, hv7⟩ : ∃ a k c, v7 = Value.slice a k c := by obtain ⟨a, c, e⟩ := own_slc own7; exact ⟨a, _, c, e⟩
        obtain ⟨hdf, hff⟩ := HDK.out.1.put bv7 (D' := putD D2 n en) own7 (fun x hx => by
          unfold putD at hx
          rcases List.mem_append.1 hx with hx | hx
          · rcases List.mem_append.1 hx with hx | hx
            · exact HDK.out.1.ok x (List.mem_of_mem_take hx)
            · simp only [List.mem_singleton] at hx
              rw [hx, hen]
              exact ⟨HK.out.1.fit, HK.out.1.len⟩
          · exact HDK.out.1.ok x (List.mem_of_mem_drop hx))
        have HFIN : Hid (TellR D1 d cf z t true (putD D2 n en) ∧ Doc rb cf t (putD D2 n en) v7 (W7.setCell ⟨rb, 5, none⟩ v7) ∧ FrD rb W (W7.setCell ⟨rb, 5, none⟩ v7)) := ⟨⟨m0, HM0.out, .inr ⟨by rw [HZM.out]; exact HGE.out, rfl, D2, n, HTP.out, HPOS.out, by rw [hen, HZM.out]⟩⟩, hdf, HDK.out.2.trans hff⟩
        have c6 : W6.cell? ⟨rb, 5, none⟩ = some (.slice va D2.length vc) := blk_cell (j := 5) (HDK.out.1.on bv6).box rfl
        have c7' : W7.cell? ⟨rb, 5, none⟩ = some (.slice va D2.length vc) := blk_cell (j := 5) (HDK.out.1.on bv7).box rfl
        have hfz := blk_open (HDK.out.1.on bv7).box 5
        have HAP7 : Hid _ := hap7
        rw [hv7] at HAP7
        rw [hv7] at HFIN
        clear s0 s1 s2 b5 own6 hen hec hap6 own6b hbl6 hbs bv6 nl bva hap7 own7 hbl7 bv7 hdf hff hv7
        go_wp2_with first
          | ((with_reducible show wpList _ _ _ ({ dst := _, op := Op.slice 43 (Operand.tmp 146) (some (Operand.tmp 147)) none none, type := _, pos := _, after := _, guard := _ } :: _) _ _); refine arm_slE (.tmp 146) (some (.tmp 147)) none 43 rfl rfl rfl rfl rfl (HS2.out _) ?_)
          | ((with_reducible show wpList _ _ _ ({ dst := _, op := Op.call { callee := Callee.builtin Builtin.append, args := #[(Operand.tmp 142), (Operand.tmp 148)], argTypes := #[43, 43] }, type := _, pos := _, after := _, guard := _ } :: _) _ _); refine arm_apE (.tmp 142) (.tmp 148) 43 rfl rfl rfl rfl HAP7.out ?_)
        try go_returns
        exact HQ.out _ _ ⟨true, _, rfl, HFIN.out.1, ⟨_, HFIN.out.2.1⟩, HFIN.out.2.2⟩
  · have HNO1 : Hid (∀ x ∈ D1, x.k ≠ d) := hno
    clear hno
    have c5 := c5H.out
    have c0 := c0H.out
    by_cases hfull : (D1.length : Int) ≥ cf.lim
    · have q1 : decide ((D1.length : Int) ≥ cf.lim) = true := decide_eq_true hfull
      have q2 : decide (cf.lim ≤ (D1.length : Int)) = true := decide_eq_true hfull
      have HFULL : Hid (cf.lim ≤ D1.length) := hfull
      clear hfull
      go_wp2_with fail
      refine wp_region_hi (by kernel_rfl) (by kernel_rfl) ?_
      repeat (first | go_big_quiet_skip | (go_big_quiet_want; go_big_quiet_op; first | go_big_quiet_on | go_big_quiet_call (fail)))
      refine wpQuiet_nil ?_
      intro _ hw
      obtain ⟨yy, rfl⟩ := hw
      clear c5 c0 q1 q2
      go_wp2_with fail
      go_loopw [11, 12] (fun kv i wr => ∃ (n kk : Nat) (x : PE), n ≤ D1.length ∧ i = .int .i64 n ∧ kv = .int .i64 kk ∧ D1[kk]? = some x ∧ kk ≤ n ∧ (∀ (j : Nat) (y : PE), j < n → D1[j]? = some y → x.u ≤ y.u ∧ (j < kk → x.u < y.u)) ∧ Below yy.W.heap.size yy.W wr) (fun _ i _ => D1.length - (intOf i).toNat)
      case atStart =>
        have h9 : 0 < D1.length := by have := HFULL.out; have := HCF.out.1.lim; omega
        exact ⟨0, 0, _, Nat.zero_le _, rfl, rfl, List.getElem?_eq_getElem h9, Nat.le_refl _, fun j y hj => by omega, Below.refl _ _⟩
      case round =>
        obtain ⟨n, kk, x, hn, rfl, rfl, hkk, hkn, hmin, hBk⟩ := hrel
        have hdk := (HF3.out.1.on yy.below).on hBk
        have c1 : ∀ z : Hi wr, z.W.cell? ⟨rb, 5, none⟩ = some (.slice ua D1.length uc) := fun z => blk_cell (hdk.on z.below).box rfl
        have c1w : wr.cell? ⟨rb, 5, none⟩ = some (.slice ua D1.length uc) := c1 (Hi.refl wr)
        have HMN : Hid (D1[kk]? = some x ∧ kk ≤ n ∧ (∀ (j : Nat) (y : PE), j < n → D1[j]? = some y → x.u ≤ y.u ∧ (j < kk → x.u < y.u))) := ⟨hkk, hkn, hmin⟩
        have HBR : Hid (Below yy.W.heap.size yy.W wr) := hBk
        have hkl : kk < D1.length := (List.getElem?_eq_some_iff.1 hkk).1
        by_cases hlt : n < D1.length
        · obtain ⟨e0, he0⟩ : ∃ e0, D1[n]? = some e0 := ⟨_, List.getElem?_eq_getElem hlt⟩
          obtain ⟨g, c', hv', hg, hbg, hcx⟩ := own_atE hdk.row he0
          obtain ⟨g2, c2, hv2, hg2, hbg2, hcx2⟩ := own_atE hdk.row hkk
          obtain ⟨rfl, rfl⟩ : ua = some ⟨g, 0, none⟩ ∧ uc = c' := by injection hv' with h1 _ h3; exact ⟨h1, h3⟩
          obtain rfl : g = g2 := by injection hv2 with h1 _ h3; injection h1 with h1; injection h1
          have cu1 : ∀ z : Hi wr, z.W.cell? ⟨g, n * 18 + 17, none⟩ = some (.int .i64 e0.u) := fun z => (z.below.cell (p := ⟨g, _, none⟩) hg).trans (cE_u17 hcx)
          have cu2 : ∀ z : Hi wr, z.W.cell? ⟨g, kk * 18 + 17, none⟩ = some (.int .i64 x.u) := fun z => (z.below.cell (p := ⟨g, _, none⟩) hg).trans (cE_u17 hcx2)
          have q1 : decide ((n : Int) < D1.length) = true := decide_eq_true (by omega)
          have q2 : decide ((kk : Int) < D1.length) = true := decide_eq_true (by omega)
          have w9 : IntKind.i64.wrap ((n : Int) + 1) = (n : Int) + 1 := wrap_i64 _ ⟨by omega, by have := HD1.out; omega⟩
          have HN : Hid (n < D1.length) := hlt
          have HE0 : Hid (D1[n]? = some e0) := he0
          clear hcx hcx2 hv' hv2 hBk he0 hmin hkk hbg hbg2
          by_cases hh : e0.u < x.u
          · have q3 : decide (e0.u < x.u) = true := decide_eq_true hh
            have HNX : Hid (∀ (j : Nat) (y : PE), j < n + 1 → D1[j]? = some y → e0.u ≤ y.u ∧ (j < n → e0.u < y.u)) := fun j y hj hy => by
              by_cases cj : j = n
              · subst cj
                rw [HE0.out] at hy
                injection hy with hy
                rw [← hy]
                exact ⟨Int.le_refl _, fun e => absurd e (Nat.lt_irrefl _)⟩
              · have := (HMN.out.2.2 j y (by omega) hy).1
                exact ⟨by omega, fun _ => by omega⟩
            clear hh
            go_wp2_with fail
            refine wp_region_hi (by kernel_rfl) (by kernel_rfl) ?_
            repeat (first | go_big_quiet_skip | (go_big_quiet_want; go_big_quiet_op; first | go_big_quiet_on | go_big_quiet_call (fail)))
            refine wpQuiet_nil ?_
            intro _ hw
            obtain ⟨zz, rfl⟩ := hw
            go_wp2
            go_roundw
            case rel => exact ⟨n + 1, n, e0, HN.out, rfl, rfl, HE0.out, by omega, HNX.out, HBR.out.trans (zz.below.mono HBR.out.size)⟩
            case measure => show D1.length - (n + 1) < D1.length - n; have := HN.out; omega
          · have q3 : decide (e0.u < x.u) = false := decide_eq_false hh
            have HNX : Hid (∀ (j : Nat) (y : PE), j < n + 1 → D1[j]? = some y → x.u ≤ y.u ∧ (j < kk → x.u < y.u)) := fun j y hj hy => by
              by_cases cj : j = n
              · subst cj
                rw [HE0.out] at hy
                injection hy with hy
                rw [← hy]
                exact ⟨by omega, fun e => absurd e (by have := HMN.out.2.1; omega)⟩
              · exact HMN.out.2.2 j y (by omega) hy
            clear hh
            go_wp2_with fail
            refine wp_region_hi (by kernel_rfl) (by kernel_rfl) ?_
            repeat (first | go_big_quiet_skip | (go_big_quiet_want; go_big_quiet_op; first | go_big_quiet_on | go_big_quiet_call (fail)))
            refine wpQuiet_nil ?_
            intro _ hw
            obtain ⟨zz, rfl⟩ := hw
            go_wp2
            go_roundw
            case rel => exact ⟨n + 1, kk, x, HN.out, rfl, rfl, HMN.out.1, by have := HMN.out.2.1; omega, HNX.out, HBR.out.trans (zz.below.mono HBR.out.size)⟩
            case measure => show D1.length - (n + 1) < D1.length - n; have := HN.out; omega
        · obtain rfl : n = D1.length := by omega
          have q1 : decide ((D1.length : Int) < D1.length) = false := decide_eq_false (by omega)
          have q2 : decide ((kk : Int) ≥ 0) = true := decide_eq_true (by omega)
          have q3 : decide ((0 : Int) ≤ kk) = true := decide_eq_true (by omega)
          have HW : Hid _ := RWithout hdk (Nat.le_trans HD1.out (by decide)) kk
          have HXW : Hid (FrD rb W wr ∧ wr.heap[W.heap.size]? = some (.cells (u8s d).toArray 35)) := ⟨(HF3.out.2.1.trans (FrD.below yy.below)).trans (FrD.below hBk), blk_on (blk_on HF3.out.2.2 yy.below) hBk⟩
          clear hmin hkk hkn hBk hdk c1 hlt hn hkl
          go_wp2_with fail
          refine Calls.mono HW.out ?_
          rintro e w5 ⟨rfl, ⟨u5, hd5⟩, f5⟩
          obtain ⟨D2, hD2⟩ : ∃ D2, D2 = woD D1 kk := ⟨_, rfl⟩
          have HTP : Hid (TellP D1 d cf.lim D2) := .inr (.inl ⟨HNO1.out, HFULL.out, kk, x, HMN.out.1, fun j y hy => HMN.out.2.2 j y (List.getElem?_eq_some_iff.1 hy).1 hy, hD2⟩)
          have HSZ2 : Hid (D2.length ≤ 50000) := by rw [hD2]; exact Nat.le_trans (woD_len D1 kk) HD1.out
          rw [← hD2] at hd5
          have HDX : Hid (Doc rb cf t D2 u5 w5) := hd5
          have HFX : Hid (FrD rb W w5) := HXW.out.1.trans f5
          have HXX : Hid (w5.heap[W.heap.size]? = some (.cells (u8s d).toArray 35)) := (f5.other _ (Array.getElem?_eq_some_iff.1 HXW.out.2).1 (by have := HLT.out; omega)).trans HXW.out.2
          clear hd5 f5 hD2 HW HF3 c5H c0H q1 q2 q3 c1w HXW HBR
          obtain ⟨va, vc, hva⟩ := own_slc HDX.out.row
          subst hva
          go_wp2_with fail
          go_loopw [13] (fun i wr => ∃ n : Nat, n ≤ D2.length ∧ i = .int .i64 n ∧ (∀ j x, j < n → D2[j]? = some x → cmpI x.k d = -1) ∧ Below w5.heap.size w5 wr) (fun i _ => D2.length - (intOf i).toNat)
          case atStart => exact ⟨0, Nat.zero_le _, rfl, fun j x hj => by omega, Below.refl _ _⟩
          case round =>
            obtain ⟨n, hn, rfl, hno, hBk⟩ := hrel
            have hdk := HDX.out.on hBk
            have hfk := HFX.out.trans (FrD.below hBk)
            have hxk := blk_on HXX.out hBk
            have HNO : Hid (∀ j x, j < n → D2[j]? = some x → cmpI x.k d = -1) := hno
            have HN : Hid (n ≤ D2.length) := hn
            have NL : Hid (rb < wr.heap.size ∧ W.heap.size < wr.heap.size) := ⟨hdk.lt, (Array.getElem?_eq_some_iff.1 hxk).1⟩
            have HBR : Hid (Below w5.heap.size w5 wr) := hBk
            clear hno hn hBk
            by_cases hlt : n < D2.length
            · obtain ⟨e0, he0⟩ : ∃ e0, D2[n]? = some e0 := ⟨_, List.getElem?_eq_getElem hlt⟩
              obtain ⟨g, c', hv', hg, hbg, hcx⟩ := own_atE hdk.row he0
              obtain ⟨rfl, rfl⟩ : va = some ⟨g, 0, none⟩ ∧ vc = c' := by injection hv' with h1 _ h3; exact ⟨h1, h3⟩
              have hok := hdk.ok e0 (List.mem_of_getElem? he0)
              have qn : decide ((n : Int) < D2.length) = true := decide_eq_true (by omega)
              have HE0 : Hid (D2[n]? = some e0) := he0
              clear hv' he0
              by_cases hc : cmpI e0.k d = -1
              · have hless : Op.bytesLess (strOfNums e0.k).toList (strOfNums d).toList = true := by rw [less_str hok.1 HK.out.1.fit]; exact decide_eq_true hc
                have HC : Hid (cmpI e0.k d = -1) := hc
                have w9 : IntKind.i64.wrap ((n : Int) + 1) = (n : Int) + 1 := wrap_i64 _ ⟨by omega, by have := HSZ2.out; omega⟩
                have HLT2 : Hid (n < D2.length) := hlt
                go_wp2_with fail
                refine wp_region_held (S := fun X => Below wr.heap.size wr X) (by kernel_rfl) ?_
                show wpAnyH _ _ _ _ _ 21 (Array.replicate 21 false) _ wr.drew
                have s0 : Below wr.heap.size wr wr.drew := (Below.refl _ wr).drew
                refine take_wT (i := 0) (d := some 96) (v := .int .i64 (n : Int)) rfl rfl rfl (by kernel_rfl) (by kernel_rfl) (by kernel_rfl) (fun _ _ d _ _ h => by cases d <;> exact h) (fun X hS => by kernel_rfl) s0 ?_
                simp only [Act.put, List.setIfInBounds_toArray, List.set_cons_zero, List.set_cons_succ]
                refine take_wT (i := 1) (d := some 97) (v := .pointer (some ⟨rb, 0, none⟩)) rfl rfl rfl (by kernel_rfl) (by kernel_rfl) (by kernel_rfl) (fun _ _ d _ _ h => by cases d <;> exact h) (fun X hS => by kernel_rfl) s0 ?_
                simp only [Act.put, List.setIfInBounds_toArray, List.set_cons_zero, List.set_cons_succ]
                refine take_wT (i := 2) (d := some 98) (v := .pointer (some ⟨rb, 0, none⟩)) rfl rfl rfl (by kernel_rfl) (by kernel_rfl) (by kernel_rfl) (fun _ _ d _ _ h => by cases d <;> exact h) (fun X hS => by kernel_rfl) s0 ?_
                simp only [Act.put, List.setIfInBounds_toArray, List.set_cons_zero, List.set_cons_succ]
                refine take_wT (i := 3) (d := some 99) (v := .pointer (some ⟨rb, 5, none⟩)) rfl rfl rfl (by kernel_rfl) (by kernel_rfl) (by kernel_rfl) (fun _ _ d _ _ h => by cases d <;> exact h) (fun X hS => by kernel_rfl) s0 ?_
                simp only [Act.put, List.setIfInBounds_toArray, List.set_cons_zero, List.set_cons_succ]
                refine take_wT (i := 4) (d := some 100) (v := .slice (some ⟨g, 0, none⟩) D2.length vc) rfl rfl rfl (by kernel_rfl) (by kernel_rfl) (by kernel_rfl) (fun _ _ d _ _ h => by cases d <;> exact h) (fun X hS => ex_loadA (.tmp 99) 43 rfl rfl (ld_slD (blk_cell (j := 5) (hdk.on hS).box rfl))) s0 ?_
                simp only [Act.put, List.setIfInBounds_toArray, List.set_cons_zero, List.set_cons_succ]
                refine take_wT (i := 5) (d := some 101) (v := .int .i64 (D2.length : Int)) rfl rfl rfl (by kernel_rfl) (by kernel_rfl) (by kernel_rfl) (fun _ _ d _ _ h => by cases d <;> exact h) (fun X hS => ex_lenD (.tmp 100) rfl rfl) s0 ?_
                simp only [Act.put, List.setIfInBounds_toArray, List.set_cons_zero, List.set_cons_succ]
                refine take_wT (i := 6) (d := some 102) (v := .bool true) rfl rfl rfl (by kernel_rfl) (by kernel_rfl) (by kernel_rfl) (fun _ _ d _ _ h => by cases d <;> exact h) (fun X hS => ex_lssN (.tmp 96) (.tmp 101) rfl rfl rfl qn) s0 ?_
                simp only [Act.put, List.setIfInBounds_toArray, List.set_cons_zero, List.set_cons_succ]
                refine take_wT (i := 7) (d := some 103) (v := .bool true) rfl rfl rfl (by kernel_rfl) (by kernel_rfl) (by kernel_rfl) (fun _ _ d _ _ h => by cases d <;> exact h) (fun X hS => by kernel_rfl) s0 ?_
                simp only [Act.put, List.setIfInBounds_toArray, List.set_cons_zero, List.set_cons_succ]
                refine take_wT (i := 8) (d := some 104) (v := .pointer (some ⟨rb, 0, none⟩)) rfl rfl rfl (by kernel_rfl) (by kernel_rfl) (by kernel_rfl) (fun _ _ d _ _ h => by cases d <;> exact h) (fun X hS => by kernel_rfl) s0 ?_
                simp only [Act.put, List.setIfInBounds_toArray, List.set_cons_zero, List.set_cons_succ]
                refine take_wT (i := 9) (d := some 105) (v := .pointer (some ⟨rb, 0, none⟩)) rfl rfl rfl (by kernel_rfl) (by kernel_rfl) (by kernel_rfl) (fun _ _ d _ _ h => by cases d <;> exact h) (fun X hS => by kernel_rfl) s0 ?_
                simp only [Act.put, List.setIfInBounds_toArray, List.set_cons_zero, List.set_cons_succ]
                refine take_wT (i := 10) (d := some 106) (v := .pointer (some ⟨rb, 5, none⟩)) rfl rfl rfl (by kernel_rfl) (by kernel_rfl) (by kernel_rfl) (fun _ _ d _ _ h => by cases d <;> exact h) (fun X hS => by kernel_rfl) s0 ?_
                simp only [Act.put, List.setIfInBounds_toArray, List.set_cons_zero, List.set_cons_succ]
                refine take_wT (i := 11) (d := some 107) (v := .slice (some ⟨g, 0, none⟩) D2.length vc) rfl rfl rfl (by kernel_rfl) (by kernel_rfl) (by kernel_rfl) (fun _ _ d _ _ h => by cases d <;> exact h) (fun X hS => ex_loadA (.tmp 106) 43 rfl rfl (ld_slD (blk_cell (j := 5) (hdk.on hS).box rfl))) s0 ?_
                simp only [Act.put, List.setIfInBounds_toArray, List.set_cons_zero, List.set_cons_succ]
                refine take_wT (i := 12) (d := some 108) (v := .int .i64 (n : Int)) rfl rfl rfl (by kernel_rfl) (by kernel_rfl) (by kernel_rfl) (fun _ _ d _ _ h => by cases d <;> exact h) (fun X hS => by kernel_rfl) s0 ?_
                simp only [Act.put, List.setIfInBounds_toArray, List.set_cons_zero, List.set_cons_succ]
                refine take_wT (i := 13) (d := some 109) (v := .pointer (some ⟨g, n * 18, none⟩)) rfl rfl rfl (by kernel_rfl) (by kernel_rfl) (by kernel_rfl) (fun _ _ d _ _ h => by cases d <;> exact h) (fun X hS => ex_ixD (.tmp 107) (.tmp 108) rfl rfl rfl hlt) s0 ?_
                simp only [Act.put, List.setIfInBounds_toArray, List.set_cons_zero, List.set_cons_succ]
                refine take_wT (i := 14) (d := some 110) (v := .pointer (some ⟨g, n * 18, none⟩)) rfl rfl rfl (by kernel_rfl) (by kernel_rfl) (by kernel_rfl) (fun _ _ d _ _ h => by cases d <;> exact h) (fun X hS => by kernel_rfl) s0 ?_
                simp only [Act.put, List.setIfInBounds_toArray, List.set_cons_zero, List.set_cons_succ]
                refine take_wT (i := 15) (d := some 111) (v := .slice (some ⟨g, n * 18, none⟩) 16 16) rfl rfl rfl (by kernel_rfl) (by kernel_rfl) (by kernel_rfl) (fun _ _ d _ _ h => by cases d <;> exact h) (fun X hS => ex_slc16 110 rfl rfl) s0 ?_
                simp only [Act.put, List.setIfInBounds_toArray, List.set_cons_zero, List.set_cons_succ]
                refine take_wT (i := 16) (d := some 112) (v := .string (strOfNums e0.k)) rfl rfl rfl (by kernel_rfl) (by kernel_rfl) (by kernel_rfl) (fun _ _ d _ _ h => by cases d <;> exact h) (fun X hS => ex_convD (.tmp 111) rfl rfl (strD ⟨hok.1, hok.2⟩ (fun i u hi => (hS.cell (p := ⟨g, _, none⟩) hg).trans (cE_k hok hcx i u hi)))) s0 ?_
                simp only [Act.put, List.setIfInBounds_toArray, List.set_cons_zero, List.set_cons_succ]
                refine take_wT (i := 17) (d := some 113) (v := .slice (some ⟨W.heap.size, 0, none⟩) 16 16) rfl rfl rfl (by kernel_rfl) (by kernel_rfl) (by kernel_rfl) (fun _ _ d _ _ h => by cases d <;> exact h) (fun X hS => ex_slc16 6 rfl rfl) s0 ?_
                simp only [Act.put, List.setIfInBounds_toArray, List.set_cons_zero, List.set_cons_succ]
                refine take_wT (i := 18) (d := some 114) (v := .string (strOfNums d)) rfl rfl rfl (by kernel_rfl) (by kernel_rfl) (by kernel_rfl) (fun _ _ d _ _ h => by cases d <;> exact h) (fun X hS => ex_convD (.tmp 113) rfl rfl (strD HK.out.1 (CellsAt.blkP (c := u8s d) (t := 35) (blk_on hxk hS)))) s0 ?_
                simp only [Act.put, List.setIfInBounds_toArray, List.set_cons_zero, List.set_cons_succ]
                refine take_wT (i := 19) (d := some 115) (v := .bool true) rfl rfl rfl (by kernel_rfl) (by kernel_rfl) (by kernel_rfl) (fun _ _ d _ _ h => by cases d <;> exact h) (fun X hS => ex_lssD (.tmp 112) (.tmp 114) rfl rfl rfl hless) s0 ?_
                simp only [Act.put, List.setIfInBounds_toArray, List.set_cons_zero, List.set_cons_succ]
                refine take_wT (i := 20) (d := some 116) (v := .bool true) rfl rfl rfl (by kernel_rfl) (by kernel_rfl) (by kernel_rfl) (fun _ _ d _ _ h => by cases d <;> exact h) (fun X hS => ex_pickP (c := true) (.tmp 103) (.tmp 115) (.const (.bool false)) rfl rfl rfl rfl) s0 ?_
                simp only [Act.put, List.setIfInBounds_toArray, List.set_cons_zero, List.set_cons_succ]
                refine wpAnyH_done (by kernel_rfl) ?_ _
                generalize wr.drew = V0 at *
                clear hless hok hcx hg hbg hxk hfk hdk hlt hc qn
                go_wp2
                go_roundw
                case rel =>
                  refine ⟨n + 1, HLT2.out, rfl, fun j x hj hx => ?_, HBR.out.trans (s0.mono HBR.out.size)⟩
                  by_cases cj : j = n
                  · subst cj
                    rw [HE0.out] at hx
                    injection hx with hx
                    rw [← hx]
                    exact HC.out
                  · exact HNO.out j x (by omega) hx
                case measure => show D2.length - (n + 1) < D2.length - n; have := HLT2.out; omega
              · have hless : Op.bytesLess (strOfNums e0.k).toList (strOfNums d).toList = false := by rw [less_str hok.1 HK.out.1.fit]; exact decide_eq_false hc
                have HC : Hid (cmpI e0.k d ≠ -1) := hc
                go_wp2_with fail
                refine wp_region_held (S := fun X => Below wr.heap.size wr X) (by kernel_rfl) ?_
                show wpAnyH _ _ _ _ _ 21 (Array.replicate 21 false) _ wr.drew
                have s0 : Below wr.heap.size wr wr.drew := (Below.refl _ wr).drew
                refine take_wT (i := 0) (d := some 96) (v := .int .i64 (n : Int)) rfl rfl rfl (by kernel_rfl) (by kernel_rfl) (by kernel_rfl) (fun _ _ d _ _ h => by cases d <;> exact h) (fun X hS => by kernel_rfl) s0 ?_
                simp only [Act.put, List.setIfInBounds_toArray, List.set_cons_zero, List.set_cons_succ]
                refine take_wT (i := 1) (d := some 97) (v := .pointer (some ⟨rb, 0, none⟩)) rfl rfl rfl (by kernel_rfl) (by kernel_rfl) (by kernel_rfl) (fun _ _ d _ _ h => by cases d <;> exact h) (fun X hS => by kernel_rfl) s0 ?_
                simp only [Act.put, List.setIfInBounds_toArray, List.set_cons_zero, List.set_cons_succ]
                refine take_wT (i := 2) (d := some 98) (v := .pointer (some ⟨rb, 0, none⟩)) rfl rfl rfl (by kernel_rfl) (by kernel_rfl) (by kernel_rfl) (fun _ _ d _ _ h => by cases d <;> exact h) (fun X hS => by kernel_rfl) s0 ?_
                simp only [Act.put, List.setIfInBounds_toArray, List.set_cons_zero, List.set_cons_succ]
                refine take_wT (i := 3) (d := some 99) (v := .pointer (some ⟨rb, 5, none⟩)) rfl rfl rfl (by kernel_rfl) (by kernel_rfl) (by kernel_rfl) (fun _ _ d _ _ h => by cases d <;> exact h) (fun X hS => by kernel_rfl) s0 ?_
                simp only [Act.put, List.setIfInBounds_toArray, List.set_cons_zero, List.set_cons_succ]
                refine take_wT (i := 4) (d := some 100) (v := .slice (some ⟨g, 0, none⟩) D2.length vc) rfl rfl rfl (by kernel_rfl) (by kernel_rfl) (by kernel_rfl) (fun _ _ d _ _ h => by cases d <;> exact h) (fun X hS => ex_loadA (.tmp 99) 43 rfl rfl (ld_slD (blk_cell (j := 5) (hdk.on hS).box rfl))) s0 ?_
                simp only [Act.put, List.setIfInBounds_toArray, List.set_cons_zero, List.set_cons_succ]
                refine take_wT (i := 5) (d := some 101) (v := .int .i64 (D2.length : Int)) rfl rfl rfl (by kernel_rfl) (by kernel_rfl) (by kernel_rfl) (fun _ _ d _ _ h => by cases d <;> exact h) (fun X hS => ex_lenD (.tmp 100) rfl rfl) s0 ?_
                simp only [Act.put, List.setIfInBounds_toArray, List.set_cons_zero, List.set_cons_succ]
                refine take_wT (i := 6) (d := some 102) (v := .bool true) rfl rfl rfl (by kernel_rfl) (by kernel_rfl) (by kernel_rfl) (fun _ _ d _ _ h => by cases d <;> exact h) (fun X hS => ex_lssN (.tmp 96) (.tmp 101) rfl rfl rfl qn) s0 ?_
                simp only [Act.put, List.setIfInBounds_toArray, List.set_cons_zero, List.set_cons_succ]
                refine take_wT (i := 7) (d := some 103) (v := .bool true) rfl rfl rfl (by kernel_rfl) (by kernel_rfl) (by kernel_rfl) (fun _ _ d _ _ h => by cases d <;> exact h) (fun X hS => by kernel_rfl) s0 ?_
                simp only [Act.put, List.setIfInBounds_toArray, List.set_cons_zero, List.set_cons_succ]
                refine take_wT (i := 8) (d := some 104) (v := .pointer (some ⟨rb, 0, none⟩)) rfl rfl rfl (by kernel_rfl) (by kernel_rfl) (by kernel_rfl) (fun _ _ d _ _ h => by cases d <;> exact h) (fun X hS => by kernel_rfl) s0 ?_
                simp only [Act.put, List.setIfInBounds_toArray, List.set_cons_zero, List.set_cons_succ]
                refine take_wT (i := 9) (d := some 105) (v := .pointer (some ⟨rb, 0, none⟩)) rfl rfl rfl (by kernel_rfl) (by kernel_rfl) (by kernel_rfl) (fun _ _ d _ _ h => by cases d <;> exact h) (fun X hS => by kernel_rfl) s0 ?_
                simp only [Act.put, List.setIfInBounds_toArray, List.set_cons_zero, List.set_cons_succ]
                refine take_wT (i := 10) (d := some 106) (v := .pointer (some ⟨rb, 5, none⟩)) rfl rfl rfl (by kernel_rfl) (by kernel_rfl) (by kernel_rfl) (fun _ _ d _ _ h => by cases d <;> exact h) (fun X hS => by kernel_rfl) s0 ?_
                simp only [Act.put, List.setIfInBounds_toArray, List.set_cons_zero, List.set_cons_succ]
                refine take_wT (i := 11) (d := some 107) (v := .slice (some ⟨g, 0, none⟩) D2.length vc) rfl rfl rfl (by kernel_rfl) (by kernel_rfl) (by kernel_rfl) (fun _ _ d _ _ h => by cases d <;> exact h) (fun X hS => ex_loadA (.tmp 106) 43 rfl rfl (ld_slD (blk_cell (j := 5) (hdk.on hS).box rfl))) s0 ?_
                simp only [Act.put, List.setIfInBounds_toArray, List.set_cons_zero, List.set_cons_succ]
                refine take_wT (i := 12) (d := some 108) (v := .int .i64 (n : Int)) rfl rfl rfl (by kernel_rfl) (by kernel_rfl) (by kernel_rfl) (fun _ _ d _ _ h => by cases d <;> exact h) (fun X hS => by kernel_rfl) s0 ?_
                simp only [Act.put, List.setIfInBounds_toArray, List.set_cons_zero, List.set_cons_succ]
                refine take_wT (i := 13) (d := some 109) (v := .pointer (some ⟨g, n * 18, none⟩)) rfl rfl rfl (by kernel_rfl) (by kernel_rfl) (by kernel_rfl) (fun _ _ d _ _ h => by cases d <;> exact h) (fun X hS => ex_ixD (.tmp 107) (.tmp 108) rfl rfl rfl hlt) s0 ?_
                simp only [Act.put, List.setIfInBounds_toArray, List.set_cons_zero, List.set_cons_succ]
                refine take_wT (i := 14) (d := some 110) (v := .pointer (some ⟨g, n * 18, none⟩)) rfl rfl rfl (by kernel_rfl) (by kernel_rfl) (by kernel_rfl) (fun _ _ d _ _ h => by cases d <;> exact h) (fun X hS => by kernel_rfl) s0 ?_
                simp only [Act.put, List.setIfInBounds_toArray, List.set_cons_zero, List.set_cons_succ]
                refine take_wT (i := 15) (d := some 111) (v := .slice (some ⟨g, n * 18, none⟩) 16 16) rfl rfl rfl (by kernel_rfl) (by kernel_rfl) (by kernel_rfl) (fun _ _ d _ _ h => by cases d <;> exact h) (fun X hS => ex_slc16 110 rfl rfl) s0 ?_
                simp only [Act.put, List.setIfInBounds_toArray, List.set_cons_zero, List.set_cons_succ]
                refine take_wT (i := 16) (d := some 112) (v := .string (strOfNums e0.k)) rfl rfl rfl (by kernel_rfl) (by kernel_rfl) (by kernel_rfl) (fun _ _ d _ _ h => by cases d <;> exact h) (fun X hS => ex_convD (.tmp 111) rfl rfl (strD ⟨hok.1, hok.2⟩ (fun i u hi => (hS.cell (p := ⟨g, _, none⟩) hg).trans (cE_k hok hcx i u hi)))) s0 ?_
                simp only [Act.put, List.setIfInBounds_toArray, List.set_cons_zero, List.set_cons_succ]
                refine take_wT (i := 17) (d := some 113) (v := .slice (some ⟨W.heap.size, 0, none⟩) 16 16) rfl rfl rfl (by kernel_rfl) (by kernel_rfl) (by kernel_rfl) (fun _ _ d _ _ h => by cases d <;> exact h) (fun X hS => ex_slc16 6 rfl rfl) s0 ?_
                simp only [Act.put, List.setIfInBounds_toArray, List.set_cons_zero, List.set_cons_succ]
                refine take_wT (i := 18) (d := some 114) (v := .string (strOfNums d)) rfl rfl rfl (by kernel_rfl) (by kernel_rfl) (by kernel_rfl) (fun _ _ d _ _ h => by cases d <;> exact h) (fun X hS => ex_convD (.tmp 113) rfl rfl (strD HK.out.1 (CellsAt.blkP (c := u8s d) (t := 35) (blk_on hxk hS)))) s0 ?_
                simp only [Act.put, List.setIfInBounds_toArray, List.set_cons_zero, List.set_cons_succ]
                refine take_wT (i := 19) (d := some 115) (v := .bool false) rfl rfl rfl (by kernel_rfl) (by kernel_rfl) (by kernel_rfl) (fun _ _ d _ _ h => by cases d <;> exact h) (fun X hS => ex_lssD (.tmp 112) (.tmp 114) rfl rfl rfl hless) s0 ?_
                simp only [Act.put, List.setIfInBounds_toArray, List.set_cons_zero, List.set_cons_succ]
                refine take_wT (i := 20) (d := some 116) (v := .bool false) rfl rfl rfl (by kernel_rfl) (by kernel_rfl) (by kernel_rfl) (fun _ _ d _ _ h => by cases d <;> exact h) (fun X hS => ex_pickP (c := true) (.tmp 103) (.tmp 115) (.const (.bool false)) rfl rfl rfl rfl) s0 ?_
                simp only [Act.put, List.setIfInBounds_toArray, List.set_cons_zero, List.set_cons_succ]
                refine wpAnyH_done (by kernel_rfl) ?_ _
                have hdk := hdk.on s0
                have hfk := hfk.trans (FrD.below s0)
                have hxk := blk_on hxk s0
                have NL : Hid (rb < wr.drew.heap.size ∧ W.heap.size < wr.drew.heap.size) := NL.out
                generalize wr.drew = wr at *
                clear hless hok hcx hg hbg hlt hc qn HBR s0
                obtain ⟨S1, S2, hs1, src1, hs2, src2⟩ := cutsE (n := n) hdk.row (by have h9 : n ≤ D2.length := HN.out; exact h9)
                have HPOS : Hid (PosP D2 d n) := ⟨HN.out, HNO.out, fun x hx => by rw [HE0.out] at hx; injection hx with hx; rw [← hx]; exact HC.out⟩
                obtain ⟨W4, hW4⟩ : ∃ W4, W4 = wr.alloc (.cells #[] 72) := ⟨_, rfl⟩
                have hB4 : Below wr.heap.size wr W4 := by rw [hW4]; exact (Below.refl wr.heap.size wr).alloc (Nat.le_refl _) _
                have ho4 := own_emp wr
                rw [← hW4] at ho4
                obtain ⟨v5, W5, hap5, own5, hbl5⟩ := appE (L2 := D2.take n) ho4 hB4.size (by have h9 : D2.length ≤ 50000 := HSZ2.out; have h8 : (D2.take n).length ≤ D2.length := (by rw [List.length_take]; exact Nat.min_le_right _ _); simp only [List.length_nil]; omega) (src1.on hB4) 43
                rw [List.nil_append] at own5
                have hb5 : Below wr.heap.size wr W5 := hB4.trans hbl5
                have hd5 := hdk.on hb5
                have hx5 := blk_on hxk hb5
                have c5' : W4.cell? ⟨rb, 5, none⟩ = some (.slice (some ⟨g, 0, none⟩) D2.length vc) := blk_cell (j := 5) (hdk.on hB4).box rfl
                have HB5 : Hid (Below wr.heap.size wr W5) := hb5
                have HO5 : Hid _ := own5
                have HD5 : Hid (Doc rb cf t D2 (.slice (some ⟨g, 0, none⟩) D2.length vc) W5 ∧ W5.heap[W.heap.size]? = some (.cells (u8s d).toArray 35)) := ⟨hd5, hx5⟩
                have HS1 : Hid _ := hs1
                have HAP5 : Hid _ := hap5
                have HS2 : Hid (∀ w : World, (Instr.sliceAt 43 (.slice (some ⟨g, 0, none⟩) D2.length vc) (some (.int .i64 n)) none none).run Try.prog w = .ok S2 w) := hs2
                have HSRC2 : Hid (SrcE wr S2 (D2.drop n)) := src2
                have HDK : Hid (Doc rb cf t D2 (.slice (some ⟨g, 0, none⟩) D2.length vc) wr ∧ FrD rb W wr) := ⟨hdk, hfk⟩
                have e4 := hW4.symm
                clear hs1 src1 hs2 src2 hB4 ho4 hap5 own5 hbl5 hb5 hd5 hx5 hW4 hdk hfk hxk
                go_wp2_with first
                  | ((with_reducible show wpList _ _ _ ({ dst := _, op := Op.slice 43 (Operand.tmp 123) none (some (Operand.tmp 124)) none, type := _, pos := _, after := _, guard := _ } :: _) _ _); refine arm_slE (.tmp 123) none (some (.tmp 124)) 43 rfl rfl rfl rfl rfl (HS1.out _) ?_)
                  | ((with_reducible show wpList _ _ _ ({ dst := _, op := Op.call { callee := Callee.builtin Builtin.append, args := #[(Operand.tmp 119), (Operand.tmp 125)], argTypes := #[43, 43] }, type := _, pos := _, after := _, guard := _ } :: _) _ _); refine arm_apE (.tmp 119) (.tmp 125) 43 rfl rfl rfl rfl HAP5.out ?_)
                clear e4 c5' HS1 HAP5
                refine wp_region_held (S := fun X => X.heap[W.heap.size]? = some (.cells (u8s d).toArray 35) ∧ X.cell? ⟨rb, 2, none⟩ = some (.int .i64 cf.life)) (by kernel_rfl) ?_
                show wpAnyH _ _ _ _ _ 15 (Array.replicate 15 false) _ W5.drew
                have s0 : W5.drew.heap[W.heap.size]? = some (.cells (u8s d).toArray 35) ∧ W5.drew.cell? ⟨rb, 2, none⟩ = some (.int .i64 cf.life) := ⟨HD5.out.2, blk_cell (w := W5) (j := 2) HD5.out.1.box rfl⟩
                have b5 : Below W5.heap.size W5 W5.drew := (Below.refl _ W5).drew
                have own6 := own_same (w' := W5.drew) HO5.out (fun _ _ => rfl)
                generalize W5.drew = V0 at *
                obtain ⟨en, hen⟩ : ∃ en : PE, en = ⟨d, zm, min (t + cf.life) 1099511627776⟩ := ⟨_, rfl⟩
                have hec : eC d zm (min (t + cf.life) 1099511627776) = eE en := by rw [hen]; exact (eE_ok (x := ⟨d, zm, min (t + cf.life) 1099511627776⟩) ⟨HK.out.1.fit, HK.out.1.len⟩).symm
                obtain ⟨v6, W6, hap6, own6b, hbl6⟩ := pushE own6 (Nat.le_trans HB5.out.size b5.size) (by have h9 : D2.length ≤ 50000 := HSZ2.out; have h8 : (D2.take n).length ≤ D2.length := (by rw [List.length_take]; exact Nat.min_le_right _ _); omega) en 43
                have hbs := bsE V0 en
                have bv6 : Below wr.heap.size wr W6 := (HB5.out.trans (b5.mono HB5.out.size)).trans hbl6
                have nl : rb < wr.heap.size ∧ W.heap.size < wr.heap.size := NL.out
                have bva : Below V0.heap.size V0 (V0.alloc (.cells (eE en).toArray 72)) := (Below.refl _ V0).alloc (Nat.le_refl _) _
                have s1 : (V0.alloc (.cells (eE en).toArray 72)).heap[W.heap.size]? = some (.cells (u8s d).toArray 35) ∧ (V0.alloc (.cells (eE en).toArray 72)).cell? ⟨rb, 2, none⟩ = some (.int .i64 cf.life) := ⟨blk_on s0.1 bva, (bva.cell (p := ⟨rb, 2, none⟩) (Nat.lt_of_lt_of_le nl.1 (Nat.le_trans HB5.out.size b5.size))).trans s0.2⟩
                have s2 : W6.heap[W.heap.size]? = some (.cells (u8s d).toArray 35) ∧ W6.cell? ⟨rb, 2, none⟩ = some (.int .i64 cf.life) := ⟨(hbl6.block _ nl.2).trans s0.1, (hbl6.cell (p := ⟨rb, 2, none⟩) nl.1).trans s0.2⟩
                refine take_wT (i := 0) (d := some 127) (v := v5) rfl rfl rfl (by kernel_rfl) (by kernel_rfl) (by kernel_rfl) (fun _ _ d _ _ h => by cases d <;> exact h) (fun X hS => by kernel_rfl) s0 ?_
                simp only [Act.put, List.setIfInBounds_toArray, List.set_cons_zero, List.set_cons_succ]
                refine take_wT (i := 1) (d := some 128) (v := .agg (u8s d).toArray) rfl rfl rfl (by kernel_rfl) (by kernel_rfl) (by kernel_rfl) (fun _ _ d _ _ h => by cases d <;> exact h) (fun X hS => ex_loadA (.tmp 6) 35 rfl rfl (at_A HK.out.1.len hS.1)) s0 ?_
                simp only [Act.put, List.setIfInBounds_toArray, List.set_cons_zero, List.set_cons_succ]
                refine take_wT (i := 2) (d := some 129) (v := .int .i64 zm) rfl rfl rfl (by kernel_rfl) (by kernel_rfl) (by kernel_rfl) (fun _ _ d _ _ h => by cases d <;> exact h) (fun X hS => by kernel_rfl) s0 ?_
                simp only [Act.put, List.setIfInBounds_toArray, List.set_cons_zero, List.set_cons_succ]
                refine take_wT (i := 3) (d := some 130) (v := .int .i64 t) rfl rfl rfl (by kernel_rfl) (by kernel_rfl) (by kernel_rfl) (fun _ _ d _ _ h => by cases d <;> exact h) (fun X hS => by kernel_rfl) s0 ?_
                simp only [Act.put, List.setIfInBounds_toArray, List.set_cons_zero, List.set_cons_succ]
                refine take_wT (i := 4) (d := some 131) (v := .pointer (some ⟨rb, 0, none⟩)) rfl rfl rfl (by kernel_rfl) (by kernel_rfl) (by kernel_rfl) (fun _ _ d _ _ h => by cases d <;> exact h) (fun X hS => by kernel_rfl) s0 ?_
                simp only [Act.put, List.setIfInBounds_toArray, List.set_cons_zero, List.set_cons_succ]
                refine take_wT (i := 5) (d := some 132) (v := .pointer (some ⟨rb, 0, none⟩)) rfl rfl rfl (by kernel_rfl) (by kernel_rfl) (by kernel_rfl) (fun _ _ d _ _ h => by cases d <;> exact h) (fun X hS => by kernel_rfl) s0 ?_
                simp only [Act.put, List.setIfInBounds_toArray, List.set_cons_zero, List.set_cons_succ]
                refine take_wT (i := 6) (d := some 133) (v := .pointer (some ⟨rb, 0, none⟩)) rfl rfl rfl (by kernel_rfl) (by kernel_rfl) (by kernel_rfl) (fun _ _ d _ _ h => by cases d <;> exact h) (fun X hS => by kernel_rfl) s0 ?_
                simp only [Act.put, List.setIfInBounds_toArray, List.set_cons_zero, List.set_cons_succ]
                refine take_wT (i := 7) (d := some 134) (v := .pointer (some ⟨rb, 2, none⟩)) rfl rfl rfl (by kernel_rfl) (by kernel_rfl) (by kernel_rfl) (fun _ _ d _ _ h => by cases d <;> exact h) (fun X hS => by kernel_rfl) s0 ?_
                simp only [Act.put, List.setIfInBounds_toArray, List.set_cons_zero, List.set_cons_succ]
                refine take_wT (i := 8) (d := some 135) (v := .int .i64 cf.life) rfl rfl rfl (by kernel_rfl) (by kernel_rfl) (by kernel_rfl) (fun _ _ d _ _ h => by cases d <;> exact h) (fun X hS => ex_loadA (.tmp 134) 3 rfl rfl (ld_int hS.2)) s0 ?_
                simp only [Act.put, List.setIfInBounds_toArray, List.set_cons_zero, List.set_cons_succ]
                refine take_wT (i := 9) (d := some 136) (v := .int .i64 (t + cf.life)) rfl rfl rfl (by kernel_rfl) (by kernel_rfl) (by kernel_rfl) (fun _ _ d _ _ h => by cases d <;> exact h) (fun X hS => ex_addP (.tmp 130) (.tmp 135) rfl rfl rfl HWR.out) s0 ?_
                simp only [Act.put, List.setIfInBounds_toArray, List.set_cons_zero, List.set_cons_succ]
                refine take_wT (i := 10) (d := some 137) (v := .int .i64 (min (t + cf.life) 1099511627776)) rfl rfl rfl (by kernel_rfl) (by kernel_rfl) (by kernel_rfl) (fun _ _ d _ _ h => by cases d <;> exact h) (fun X hS => ex_minP (.tmp 136) (.const (.int .i64 1099511627776)) rfl rfl rfl) s0 ?_
                simp only [Act.put, List.setIfInBounds_toArray, List.set_cons_zero, List.set_cons_succ]
                refine take_wT (i := 11) (d := some 138) (v := .agg (eE en).toArray) rfl rfl rfl (by kernel_rfl) (by kernel_rfl) (by kernel_rfl) (fun _ _ d _ _ h => by cases d <;> exact h) (fun X hS => by rw [← hec]; exact ex_buildA 72 [(0, .tmp 128), (1, .tmp 129), (2, .tmp 137)] rfl rfl (bldE HK.out.1.len zm (min (t + cf.life) 1099511627776) _)) s0 ?_
                simp only [Act.put, List.setIfInBounds_toArray, List.set_cons_zero, List.set_cons_succ]
                refine all_wT (i := 12) (by kernel_rfl) rfl rfl ?_
                refine wp_effX (d := some 139) (v := .slice (some ⟨V0.heap.size, 0, none⟩) 1 1) (w2 := V0.alloc (.cells (eE en).toArray 72)) rfl (ex_bsD (.tmp 138) rfl rfl hbs) ⟨s1, ?_⟩
                simp only [Act.put, List.setIfInBounds_toArray, List.set_cons_zero, List.set_cons_succ]
                refine all_wT (i := 13) (by kernel_rfl) rfl rfl ?_
                refine wp_effX (d := some 140) (v := v6) (w2 := W6) rfl (ex_apD (.tmp 127) (.tmp 139) rfl rfl rfl hap6) ⟨s2, ?_⟩
                simp only [Act.put, List.setIfInBounds_toArray, List.set_cons_zero, List.set_cons_succ]
                refine take_wT (i := 14) (d := some 14) (v := v6) rfl rfl rfl (by kernel_rfl) (by kernel_rfl) (by kernel_rfl) (fun _ _ d _ _ h => by cases d <;> exact h) (fun X hS => by kernel_rfl) s2 ?_
                simp only [Act.put, List.setIfInBounds_toArray, List.set_cons_zero, List.set_cons_succ]
                refine wpAnyH_done (by kernel_rfl) ?_ _
                obtain ⟨v7, W7, hap7, own7, hbl7⟩ := appE (L2 := D2.drop n) own6b bv6.size (by have h9 : D2.length ≤ 50000 := HSZ2.out; have h8 : (D2.take n).length ≤ D2.length := (by rw [List.length_take]; exact Nat.min_le_right _ _); have h7 : (D2.drop n).length ≤ D2.length := (by rw [List.length_drop]; exact Nat.sub_le _ _); simp only [List.length_append, List.length_singleton]; omega) (HSRC2.out.on bv6) 43
                have bv7 : Below wr.heap.size wr W7 := bv6.trans hbl7
                obtain ⟨a7, k7, c7, hv7⟩ : ∃ a k c, v7 = Value.slice a k c := by obtain ⟨a, c, e⟩ := own_slc own7; exact ⟨a, _, c, e⟩
                obtain ⟨hdf, hff⟩ := HDK.out.1.put bv7 (D' := putD D2 n en) own7 (fun x hx => by
                  unfold putD at hx
                  rcases List.mem_append.1 hx with hx | hx
                  · rcases List.mem_append.1 hx with hx | hx
                    · exact HDK.out.1.ok x (List.mem_of_mem_take hx)
                    · simp only [List.mem_singleton] at hx
                      rw [hx, hen]
                      exact ⟨HK.out.1.fit, HK.out.1.len⟩
                  · exact HDK.out.1.ok x (List.mem_of_mem_drop hx))
                have HFIN : Hid (TellR D1 d cf z t true (putD D2 n en) ∧ Doc rb cf t (putD D2 n en) v7 (W7.setCell ⟨rb, 5, none⟩ v7) ∧ FrD rb W (W7.setCell ⟨rb, 5, none⟩ v7)) := ⟨⟨m0, HM0.out, .inr ⟨by rw [HZM.out]; exact HGE.out, rfl, D2, n, HTP.out, HPOS.out, by rw [hen, HZM.out]⟩⟩, hdf, HDK.out.2.trans hff⟩
                have c6 : W6.cell? ⟨rb, 5, none⟩ = some (.slice (some ⟨g, 0, none⟩) D2.length vc) := blk_cell (j := 5) (HDK.out.1.on bv6).box rfl
                have c7' : W7.cell? ⟨rb, 5, none⟩ = some (.slice (some ⟨g, 0, none⟩) D2.length vc) := blk_cell (j := 5) (HDK.out.1.on bv7).box rfl
                have hfz := blk_open (HDK.out.1.on bv7).box 5
                have HAP7 : Hid _ := hap7
                rw [hv7] at HAP7
                rw [hv7] at HFIN
                clear s0 s1 s2 b5 own6 hen hec hap6 own6b hbl6 hbs bv6 nl bva hap7 own7 hbl7 bv7 hdf hff hv7
                go_wp2_with first
                  | ((with_reducible show wpList _ _ _ ({ dst := _, op := Op.slice 43 (Operand.tmp 146) (some (Operand.tmp 147)) none none, type := _, pos := _, after := _, guard := _ } :: _) _ _); refine arm_slE (.tmp 146) (some (.tmp 147)) none 43 rfl rfl rfl rfl rfl (HS2.out _) ?_)
                  | ((with_reducible show wpList _ _ _ ({ dst := _, op := Op.call { callee := Callee.builtin Builtin.append, args := #[(Operand.tmp 142), (Operand.tmp 148)], argTypes := #[43, 43] }, type := _, pos := _, after := _, guard := _ } :: _) _ _); refine arm_apE (.tmp 142) (.tmp 148) 43 rfl rfl rfl rfl HAP7.out ?_)
                try go_returns
                exact HQ.out _ _ ⟨true, _, rfl, HFIN.out.1, ⟨_, HFIN.out.2.1⟩, HFIN.out.2.2⟩
            · have hnl : n = D2.length := by have h9 := HN.out; omega
              have HNN : Hid (n = D2.length) := hnl
              have qn : decide ((n : Int) < D2.length) = false := decide_eq_false (by omega)
              clear hnl
              go_wp2_with fail
              refine wp_region_held (S := fun X => Below wr.heap.size wr X) (by kernel_rfl) ?_
              show wpAnyH _ _ _ _ _ 21 (Array.replicate 21 false) _ wr.drew
              have s0 : Below wr.heap.size wr wr.drew := (Below.refl _ wr).drew
              refine take_wT (i := 0) (d := some 96) (v := .int .i64 (n : Int)) rfl rfl rfl (by kernel_rfl) (by kernel_rfl) (by kernel_rfl) (fun _ _ d _ _ h => by cases d <;> exact h) (fun X hS => by kernel_rfl) s0 ?_
              simp only [Act.put, List.setIfInBounds_toArray, List.set_cons_zero, List.set_cons_succ]
              refine take_wT (i := 1) (d := some 97) (v := .pointer (some ⟨rb, 0, none⟩)) rfl rfl rfl (by kernel_rfl) (by kernel_rfl) (by kernel_rfl) (fun _ _ d _ _ h => by cases d <;> exact h) (fun X hS => by kernel_rfl) s0 ?_
              simp only [Act.put, List.setIfInBounds_toArray, List.set_cons_zero, List.set_cons_succ]
              refine take_wT (i := 2) (d := some 98) (v := .pointer (some ⟨rb, 0, none⟩)) rfl rfl rfl (by kernel_rfl) (by kernel_rfl) (by kernel_rfl) (fun _ _ d _ _ h => by cases d <;> exact h) (fun X hS => by kernel_rfl) s0 ?_
              simp only [Act.put, List.setIfInBounds_toArray, List.set_cons_zero, List.set_cons_succ]
              refine take_wT (i := 3) (d := some 99) (v := .pointer (some ⟨rb, 5, none⟩)) rfl rfl rfl (by kernel_rfl) (by kernel_rfl) (by kernel_rfl) (fun _ _ d _ _ h => by cases d <;> exact h) (fun X hS => by kernel_rfl) s0 ?_
              simp only [Act.put, List.setIfInBounds_toArray, List.set_cons_zero, List.set_cons_succ]
              refine take_wT (i := 4) (d := some 100) (v := .slice va D2.length vc) rfl rfl rfl (by kernel_rfl) (by kernel_rfl) (by kernel_rfl) (fun _ _ d _ _ h => by cases d <;> exact h) (fun X hS => ex_loadA (.tmp 99) 43 rfl rfl (ld_slD (blk_cell (j := 5) (hdk.on hS).box rfl))) s0 ?_
              simp only [Act.put, List.setIfInBounds_toArray, List.set_cons_zero, List.set_cons_succ]
              refine take_wT (i := 5) (d := some 101) (v := .int .i64 (D2.length : Int)) rfl rfl rfl (by kernel_rfl) (by kernel_rfl) (by kernel_rfl) (fun _ _ d _ _ h => by cases d <;> exact h) (fun X hS => ex_lenD (.tmp 100) rfl rfl) s0 ?_
              simp only [Act.put, List.setIfInBounds_toArray, List.set_cons_zero, List.set_cons_succ]
              refine take_wT (i := 6) (d := some 102) (v := .bool false) rfl rfl rfl (by kernel_rfl) (by kernel_rfl) (by kernel_rfl) (fun _ _ d _ _ h => by cases d <;> exact h) (fun X hS => ex_lssN (.tmp 96) (.tmp 101) rfl rfl rfl qn) s0 ?_
              simp only [Act.put, List.setIfInBounds_toArray, List.set_cons_zero, List.set_cons_succ]
              refine take_wT (i := 7) (d := some 103) (v := .bool false) rfl rfl rfl (by kernel_rfl) (by kernel_rfl) (by kernel_rfl) (fun _ _ d _ _ h => by cases d <;> exact h) (fun X hS => by kernel_rfl) s0 ?_
              simp only [Act.put, List.setIfInBounds_toArray, List.set_cons_zero, List.set_cons_succ]
              refine skip_wT (i := 8) (d := some 104) rfl rfl rfl (by kernel_rfl) (by kernel_rfl) (by kernel_rfl) (fun _ _ d _ _ h => by cases d <;> exact h) s0 ?_
              simp only [Act.put, List.setIfInBounds_toArray, List.set_cons_zero, List.set_cons_succ]
              refine skip_wT (i := 9) (d := some 105) rfl rfl rfl (by kernel_rfl) (by kernel_rfl) (by kernel_rfl) (fun _ _ d _ _ h => by cases d <;> exact h) s0 ?_
              simp only [Act.put, List.setIfInBounds_toArray, List.set_cons_zero, List.set_cons_succ]
              refine skip_wT (i := 10) (d := some 106) rfl rfl rfl (by kernel_rfl) (by kernel_rfl) (by kernel_rfl) (fun _ _ d _ _ h => by cases d <;> exact h) s0 ?_
              simp only [Act.put, List.setIfInBounds_toArray, List.set_cons_zero, List.set_cons_succ]
              refine skip_wT (i := 11) (d := some 107) rfl rfl rfl (by kernel_rfl) (by kernel_rfl) (by kernel_rfl) (fun _ _ d _ _ h => by cases d <;> exact h) s0 ?_
              simp only [Act.put, List.setIfInBounds_toArray, List.set_cons_zero, List.set_cons_succ]
              refine skip_wT (i := 12) (d := some 108) rfl rfl rfl (by kernel_rfl) (by kernel_rfl) (by kernel_rfl) (fun _ _ d _ _ h => by cases d <;> exact h) s0 ?_
              simp only [Act.put, List.setIfInBounds_toArray, List.set_cons_zero, List.set_cons_succ]
              refine skip_wT (i := 13) (d := some 109) rfl rfl rfl (by kernel_rfl) (by kernel_rfl) (by kernel_rfl) (fun _ _ d _ _ h => by cases d <;> exact h) s0 ?_
              simp only [Act.put, List.setIfInBounds_toArray, List.set_cons_zero, List.set_cons_succ]
              refine skip_wT (i := 14) (d := some 110) rfl rfl rfl (by kernel_rfl) (by kernel_rfl) (by kernel_rfl) (fun _ _ d _ _ h => by cases d <;> exact h) s0 ?_
              simp only [Act.put, List.setIfInBounds_toArray, List.set_cons_zero, List.set_cons_succ]
              refine skip_wT (i := 15) (d := some 111) rfl rfl rfl (by kernel_rfl) (by kernel_rfl) (by kernel_rfl) (fun _ _ d _ _ h => by cases d <;> exact h) s0 ?_
              simp only [Act.put, List.setIfInBounds_toArray, List.set_cons_zero, List.set_cons_succ]
              refine skip_wT (i := 16) (d := some 112) rfl rfl rfl (by kernel_rfl) (by kernel_rfl) (by kernel_rfl) (fun _ _ d _ _ h => by cases d <;> exact h) s0 ?_
              simp only [Act.put, List.setIfInBounds_toArray, List.set_cons_zero, List.set_cons_succ]
              refine skip_wT (i := 17) (d := some 113) rfl rfl rfl (by kernel_rfl) (by kernel_rfl) (by kernel_rfl) (fun _ _ d _ _ h => by cases d <;> exact h) s0 ?_
              simp only [Act.put, List.setIfInBounds_toArray, List.set_cons_zero, List.set_cons_succ]
              refine skip_wT (i := 18) (d := some 114) rfl rfl rfl (by kernel_rfl) (by kernel_rfl) (by kernel_rfl) (fun _ _ d _ _ h => by cases d <;> exact h) s0 ?_
              simp only [Act.put, List.setIfInBounds_toArray, List.set_cons_zero, List.set_cons_succ]
              refine skip_wT (i := 19) (d := some 115) rfl rfl rfl (by kernel_rfl) (by kernel_rfl) (by kernel_rfl) (fun _ _ d _ _ h => by cases d <;> exact h) s0 ?_
              simp only [Act.put, List.setIfInBounds_toArray, List.set_cons_zero, List.set_cons_succ]
              refine take_wT (i := 20) (d := some 116) (v := .bool false) rfl rfl rfl (by kernel_rfl) (by kernel_rfl) (by kernel_rfl) (fun _ _ d _ _ h => by cases d <;> exact h) (fun X hS => ex_pickP (c := false) (.tmp 103) (.tmp 115) (.const (.bool false)) rfl rfl rfl rfl) s0 ?_
              simp only [Act.put, List.setIfInBounds_toArray, List.set_cons_zero, List.set_cons_succ]
              refine wpAnyH_done (by kernel_rfl) ?_ _
              have hdk := hdk.on s0
              have hfk := hfk.trans (FrD.below s0)
              have hxk := blk_on hxk s0
              have NL : Hid (rb < wr.drew.heap.size ∧ W.heap.size < wr.drew.heap.size) := NL.out
              generalize wr.drew = wr at *
              clear hlt qn HBR s0
              obtain ⟨S1, S2, hs1, src1, hs2, src2⟩ := cutsE (n := n) hdk.row (by have h9 : n ≤ D2.length := HN.out; exact h9)
              have HPOS : Hid (PosP D2 d n) := ⟨HN.out, HNO.out, fun x hx => by have h9 := (List.getElem?_eq_some_iff.1 hx).1; rw [HNN.out] at h9; exact absurd h9 (Nat.lt_irrefl _)⟩
              obtain ⟨W4, hW4⟩ : ∃ W4, W4 = wr.alloc (.cells #[] 72) := ⟨_, rfl⟩
              have hB4 : Below wr.heap.size wr W4 := by rw [hW4]; exact (Below.refl wr.heap.size wr).alloc (Nat.le_refl _) _
              have ho4 := own_emp wr
              rw [← hW4] at ho4
              obtain ⟨v5, W5, hap5, own5, hbl5⟩ := appE (L2 := D2.take n) ho4 hB4.size (by have h9 : D2.length ≤ 50000 := HSZ2.out; have h8 : (D2.take n).length ≤ D2.length := (by rw [List.length_take]; exact Nat.min_le_right _ _); simp only [List.length_nil]; omega) (src1.on hB4) 43
              rw [List.nil_append] at own5
              have hb5 : Below wr.heap.size wr W5 := hB4.trans hbl5
              have hd5 := hdk.on hb5
              have hx5 := blk_on hxk hb5
              have c5' : W4.cell? ⟨rb, 5, none⟩ = some (.slice va D2.length vc) := blk_cell (j := 5) (hdk.on hB4).box rfl
              have HB5 : Hid (Below wr.heap.size wr W5) := hb5
              have HO5 : Hid _ := own5
              have HD5 : Hid (Doc rb cf t D2 (.slice va D2.length vc) W5 ∧ W5.heap[W.heap.size]? = some (.cells (u8s d).toArray 35)) := ⟨hd5, hx5⟩
              have HS1 : Hid _ := hs1
              have HAP5 : Hid _ := hap5
              have HS2 : Hid (∀ w : World, (Instr.sliceAt 43 (.slice va D2.length vc) (some (.int .i64 n)) none none).run Try.prog w = .ok S2 w) := hs2
              have HSRC2 : Hid (SrcE wr S2 (D2.drop n)) := src2
              have HDK : Hid (Doc rb cf t D2 (.slice va D2.length vc) wr ∧ FrD rb W wr) := ⟨hdk, hfk⟩
              have e4 := hW4.symm
              clear hs1 src1 hs2 src2 hB4 ho4 hap5 own5 hbl5 hb5 hd5 hx5 hW4 hdk hfk hxk
              go_wp2_with first
                | ((with_reducible show wpList _ _ _ ({ dst := _, op := Op.slice 43 (Operand.tmp 123) none (some (Operand.tmp 124)) none, type := _, pos := _, after := _, guard := _ } :: _) _ _); refine arm_slE (.tmp 123) none (some (.tmp 124)) 43 rfl rfl rfl rfl rfl (HS1.out _) ?_)
                | ((with_reducible show wpList _ _ _ ({ dst := _, op := Op.call { callee := Callee.builtin Builtin.append, args := #[(Operand.tmp 119), (Operand.tmp 125)], argTypes := #[43, 43] }, type := _, pos := _, after := _, guard := _ } :: _) _ _); refine arm_apE (.tmp 119) (.tmp 125) 43 rfl rfl rfl rfl HAP5.out ?_)
              clear e4 c5' HS1 HAP5
              refine wp_region_held (S := fun X => X.heap[W.heap.size]? = some (.cells (u8s d).toArray 35) ∧ X.cell? ⟨rb, 2, none⟩ = some (.int .i64 cf.life)) (by kernel_rfl) ?_
              show wpAnyH _ _ _ _ _ 15 (Array.replicate 15 false) _ W5.drew
              have s0 : W5.drew.heap[W.heap.size]? = some (.cells (u8s d).toArray 35) ∧ W5.drew.cell? ⟨rb, 2, none⟩ = some (.int .i64 cf.life) := ⟨HD5.out.2, blk_cell (w := W5) (j := 2) HD5.out.1.box rfl⟩
              have b5 : Below W5.heap.size W5 W5.drew := (Below.refl _ W5).drew
              have own6 := own_same (w' := W5.drew) HO5.out (fun _ _ => rfl)
              generalize W5.drew = V0 at *
              obtain ⟨en, hen⟩ : ∃ en : PE, en = ⟨d, zm, min (t + cf.life) 1099511627776⟩ := ⟨_, rfl⟩
              have hec : eC d zm (min (t + cf.life) 1099511627776) = eE en := by rw [hen]; exact (eE_ok (x := ⟨d, zm, min (t + cf.life) 1099511627776⟩) ⟨HK.out.1.fit, HK.out.1.len⟩).symm
              obtain ⟨v6, W6, hap6, own6b, hbl6⟩ := pushE own6 (Nat.le_trans HB5.out.size b5.size) (by have h9 : D2.length ≤ 50000 := HSZ2.out; have h8 : (D2.take n).length ≤ D2.length := (by rw [List.length_take]; exact Nat.min_le_right _ _); omega) en 43
              have hbs := bsE V0 en
              have bv6 : Below wr.heap.size wr W6 := (HB5.out.trans (b5.mono HB5.out.size)).trans hbl6
              have nl : rb < wr.heap.size ∧ W.heap.size < wr.heap.size := NL.out
              have bva : Below V0.heap.size V0 (V0.alloc (.cells (eE en).toArray 72)) := (Below.refl _ V0).alloc (Nat.le_refl _) _
              have s1 : (V0.alloc (.cells (eE en).toArray 72)).heap[W.heap.size]? = some (.cells (u8s d).toArray 35) ∧ (V0.alloc (.cells (eE en).toArray 72)).cell? ⟨rb, 2, none⟩ = some (.int .i64 cf.life) := ⟨blk_on s0.1 bva, (bva.cell (p := ⟨rb, 2, none⟩) (Nat.lt_of_lt_of_le nl.1 (Nat.le_trans HB5.out.size b5.size))).trans s0.2⟩
              have s2 : W6.heap[W.heap.size]? = some (.cells (u8s d).toArray 35) ∧ W6.cell? ⟨rb, 2, none⟩ = some (.int .i64 cf.life) := ⟨(hbl6.block _ nl.2).trans s0.1, (hbl6.cell (p := ⟨rb, 2, none⟩) nl.1).trans s0.2⟩
              refine take_wT (i := 0) (d := some 127) (v := v5) rfl rfl rfl (by kernel_rfl) (by kernel_rfl) (by kernel_rfl) (fun _ _ d _ _ h => by cases d <;> exact h) (fun X hS => by kernel_rfl) s0 ?_
              simp only [Act.put, List.setIfInBounds_toArray, List.set_cons_zero, List.set_cons_succ]
              refine take_wT (i := 1) (d := some 128) (v := .agg (u8s d).toArray) rfl rfl rfl (by kernel_rfl) (by kernel_rfl) (by kernel_rfl) (fun _ _ d _ _ h => by cases d <;> exact h) (fun X hS => ex_loadA (.tmp 6) 35 rfl rfl (at_A HK.out.1.len hS.1)) s0 ?_
              simp only [Act.put, List.setIfInBounds_toArray, List.set_cons_zero, List.set_cons_succ]
              refine take_wT (i := 2) (d := some 129) (v := .int .i64 zm) rfl rfl rfl (by kernel_rfl) (by kernel_rfl) (by kernel_rfl) (fun _ _ d _ _ h => by cases d <;> exact h) (fun X hS => by kernel_rfl) s0 ?_
              simp only [Act.put, List.setIfInBounds_toArray, List.set_cons_zero, List.set_cons_succ]
              refine take_wT (i := 3) (d := some 130) (v := .int .i64 t) rfl rfl rfl (by kernel_rfl) (by kernel_rfl) (by kernel_rfl) (fun _ _ d _ _ h => by cases d <;> exact h) (fun X hS => by kernel_rfl) s0 ?_
              simp only [Act.put, List.setIfInBounds_toArray, List.set_cons_zero, List.set_cons_succ]
              refine take_wT (i := 4) (d := some 131) (v := .pointer (some ⟨rb, 0, none⟩)) rfl rfl rfl (by kernel_rfl) (by kernel_rfl) (by kernel_rfl) (fun _ _ d _ _ h => by cases d <;> exact h) (fun X hS => by kernel_rfl) s0 ?_
              simp only [Act.put, List.setIfInBounds_toArray, List.set_cons_zero, List.set_cons_succ]
              refine take_wT (i := 5) (d := some 132) (v := .pointer (some ⟨rb, 0, none⟩)) rfl rfl rfl (by kernel_rfl) (by kernel_rfl) (by kernel_rfl) (fun _ _ d _ _ h => by cases d <;> exact h) (fun X hS => by kernel_rfl) s0 ?_
              simp only [Act.put, List.setIfInBounds_toArray, List.set_cons_zero, List.set_cons_succ]
              refine take_wT (i := 6) (d := some 133) (v := .pointer (some ⟨rb, 0, none⟩)) rfl rfl rfl (by kernel_rfl) (by kernel_rfl) (by kernel_rfl) (fun _ _ d _ _ h => by cases d <;> exact h) (fun X hS => by kernel_rfl) s0 ?_
              simp only [Act.put, List.setIfInBounds_toArray, List.set_cons_zero, List.set_cons_succ]
              refine take_wT (i := 7) (d := some 134) (v := .pointer (some ⟨rb, 2, none⟩)) rfl rfl rfl (by kernel_rfl) (by kernel_rfl) (by kernel_rfl) (fun _ _ d _ _ h => by cases d <;> exact h) (fun X hS => by kernel_rfl) s0 ?_
              simp only [Act.put, List.setIfInBounds_toArray, List.set_cons_zero, List.set_cons_succ]
              refine take_wT (i := 8) (d := some 135) (v := .int .i64 cf.life) rfl rfl rfl (by kernel_rfl) (by kernel_rfl) (by kernel_rfl) (fun _ _ d _ _ h => by cases d <;> exact h) (fun X hS => ex_loadA (.tmp 134) 3 rfl rfl (ld_int hS.2)) s0 ?_
              simp only [Act.put, List.setIfInBounds_toArray, List.set_cons_zero, List.set_cons_succ]
              refine take_wT (i := 9) (d := some 136) (v := .int .i64 (t + cf.life)) rfl rfl rfl (by kernel_rfl) (by kernel_rfl) (by kernel_rfl) (fun _ _ d _ _ h => by cases d <;> exact h) (fun X hS => ex_addP (.tmp 130) (.tmp 135) rfl rfl rfl HWR.out) s0 ?_
              simp only [Act.put, List.setIfInBounds_toArray, List.set_cons_zero, List.set_cons_succ]
              refine take_wT (i := 10) (d := some 137) (v := .int .i64 (min (t + cf.life) 1099511627776)) rfl rfl rfl (by kernel_rfl) (by kernel_rfl) (by kernel_rfl) (fun _ _ d _ _ h => by cases d <;> exact h) (fun X hS => ex_minP (.tmp 136) (.const (.int .i64 1099511627776)) rfl rfl rfl) s0 ?_
              simp only [Act.put, List.setIfInBounds_toArray, List.set_cons_zero, List.set_cons_succ]
              refine take_wT (i := 11) (d := some 138) (v := .agg (eE en).toArray) rfl rfl rfl (by kernel_rfl) (by kernel_rfl) (by kernel_rfl) (fun _ _ d _ _ h => by cases d <;> exact h) (fun X hS => by rw [← hec]; exact ex_buildA 72 [(0, .tmp 128), (1, .tmp 129), (2, .tmp 137)] rfl rfl (bldE HK.out.1.len zm (min (t + cf.life) 1099511627776) _)) s0 ?_
              simp only [Act.put, List.setIfInBounds_toArray, List.set_cons_zero, List.set_cons_succ]
              refine all_wT (i := 12) (by kernel_rfl) rfl rfl ?_
              refine wp_effX (d := some 139) (v := .slice (some ⟨V0.heap.size, 0, none⟩) 1 1) (w2 := V0.alloc (.cells (eE en).toArray 72)) rfl (ex_bsD (.tmp 138) rfl rfl hbs) ⟨s1, ?_⟩
              simp only [Act.put, List.setIfInBounds_toArray, List.set_cons_zero, List.set_cons_succ]
              refine all_wT (i := 13) (by kernel_rfl) rfl rfl ?_
              refine wp_effX (d := some 140) (v := v6) (w2 := W6) rfl (ex_apD (.tmp 127) (.tmp 139) rfl rfl rfl hap6) ⟨s2, ?_⟩
              simp only [Act.put, List.setIfInBounds_toArray, List.set_cons_zero, List.set_cons_succ]
              refine take_wT (i := 14) (d := some 14) (v := v6) rfl rfl rfl (by kernel_rfl) (by kernel_rfl) (by kernel_rfl) (fun _ _ d _ _ h => by cases d <;> exact h) (fun X hS => by kernel_rfl) s2 ?_
              simp only [Act.put, List.setIfInBounds_toArray, List.set_cons_zero, List.set_cons_succ]
              refine wpAnyH_done (by kernel_rfl) ?_ _
              obtain ⟨v7, W7, hap7, own7, hbl7⟩ := appE (L2 := D2.drop n) own6b bv6.size (by have h9 : D2.length ≤ 50000 := HSZ2.out; have h8 : (D2.take n).length ≤ D2.length := (by rw [List.length_take]; exact Nat.min_le_right _ _); have h7 : (D2.drop n).length ≤ D2.length := (by rw [List.length_drop]; exact Nat.sub_le _ _); simp only [List.length_append, List.length_singleton]; omega) (HSRC2.out.on bv6) 43
              have bv7 : Below wr.heap.size wr W7 := bv6.trans hbl7
              obtain ⟨a7, k7, c7, hv7⟩ : ∃ a k c, v7 = Value.slice a k c := by obtain ⟨a, c, e⟩ := own_slc own7; exact ⟨a, _, c, e⟩
              obtain ⟨hdf, hff⟩ := HDK.out.1.put bv7 (D' := putD D2 n en) own7 (fun x hx => by
                unfold putD at hx
                rcases List.mem_append.1 hx with hx | hx
                · rcases List.mem_append.1 hx with hx | hx
                  · exact HDK.out.1.ok x (List.mem_of_mem_take hx)
                  · simp only [List.mem_singleton] at hx
                    rw [hx, hen]
                    exact ⟨HK.out.1.fit, HK.out.1.len⟩
                · exact HDK.out.1.ok x (List.mem_of_mem_drop hx))
              have HFIN : Hid (TellR D1 d cf z t true (putD D2 n en) ∧ Doc rb cf t (putD D2 n en) v7 (W7.setCell ⟨rb, 5, none⟩ v7) ∧ FrD rb W (W7.setCell ⟨rb, 5, none⟩ v7)) := ⟨⟨m0, HM0.out, .inr ⟨by rw [HZM.out]; exact HGE.out, rfl, D2, n, HTP.out, HPOS.out, by rw [hen, HZM.out]⟩⟩, hdf, HDK.out.2.trans hff⟩
              have c6 : W6.cell? ⟨rb, 5, none⟩ = some (.slice va D2.length vc) := blk_cell (j := 5) (HDK.out.1.on bv6).box rfl
              have c7' : W7.cell? ⟨rb, 5, none⟩ = some (.slice va D2.length vc) := blk_cell (j := 5) (HDK.out.1.on bv7).box rfl
              have hfz := blk_open (HDK.out.1.on bv7).box 5
              have HAP7 : Hid _ := hap7
              rw [hv7] at HAP7
              rw [hv7] at HFIN
              clear s0 s1 s2 b5 own6 hen hec hap6 own6b hbl6 hbs bv6 nl bva hap7 own7 hbl7 bv7 hdf hff hv7
              go_wp2_with first
                | ((with_reducible show wpList _ _ _ ({ dst := _, op := Op.slice 43 (Operand.tmp 146) (some (Operand.tmp 147)) none none, type := _, pos := _, after := _, guard := _ } :: _) _ _); refine arm_slE (.tmp 146) (some (.tmp 147)) none 43 rfl rfl rfl rfl rfl (HS2.out _) ?_)
                | ((with_reducible show wpList _ _ _ ({ dst := _, op := Op.call { callee := Callee.builtin Builtin.append, args := #[(Operand.tmp 142), (Operand.tmp 148)], argTypes := #[43, 43] }, type := _, pos := _, after := _, guard := _ } :: _) _ _); refine arm_apE (.tmp 142) (.tmp 148) 43 rfl rfl rfl rfl HAP7.out ?_)
              try go_returns
              exact HQ.out _ _ ⟨true, _, rfl, HFIN.out.1, ⟨_, HFIN.out.2.1⟩, HFIN.out.2.2⟩
    · have q1 : decide ((D1.length : Int) ≥ cf.lim) = false := decide_eq_false hfull
      have q2 : decide (cf.lim ≤ (D1.length : Int)) = false := decide_eq_false hfull
      have HFULL : Hid ((D1.length : Int) < cf.lim) := by have h9 : ¬ (D1.length : Int) ≥ cf.lim := hfull; have h8 : (D1.length : Int) < cf.lim := by omega
                                                          exact h8
      clear hfull
      go_wp2_with fail
      refine wp_region_hi (by kernel_rfl) (by kernel_rfl) ?_
      repeat (first | go_big_quiet_skip | (go_big_quiet_want; go_big_quiet_op; first | go_big_quiet_on | go_big_quiet_call (fail)))
      refine wpQuiet_nil ?_
      intro _ hw
      obtain ⟨yy, rfl⟩ := hw
      obtain ⟨D2, hD2⟩ : ∃ D2, D2 = D1 := ⟨_, rfl⟩
      have HTP : Hid (TellP D1 d cf.lim D2) := .inr (.inr ⟨HNO1.out, HFULL.out, hD2⟩)
      have HSZ2 : Hid (D2.length ≤ 50000) := by rw [hD2]; exact HD1.out
      have HDX : Hid (Doc rb cf t D2 (.slice ua D1.length uc) yy.W) := by rw [hD2]; exact HF3.out.1.on yy.below
      have HFX : Hid (FrD rb W yy.W) := HF3.out.2.1.trans (FrD.below yy.below)
      have HXX : Hid (yy.W.heap[W.heap.size]? = some (.cells (u8s d).toArray 35)) := blk_on HF3.out.2.2 yy.below
      obtain ⟨u5, hu5⟩ : ∃ u5, u5 = Value.slice ua D1.length uc := ⟨_, rfl⟩
      rw [← hu5] at HDX
      generalize hyw : yy.W = w5 at *
      clear hD2 c5 c0 q1 q2 HF3 c5H c0H hu5 hyw
      obtain ⟨va, vc, hva⟩ := own_slc HDX.out.row
      subst hva
      go_wp2_with fail
      go_loopw [13] (fun i wr => ∃ n : Nat, n ≤ D2.length ∧ i = .int .i64 n ∧ (∀ j x, j < n → D2[j]? = some x → cmpI x.k d = -1) ∧ Below w5.heap.size w5 wr) (fun i _ => D2.length - (intOf i).toNat)
      case atStart => exact ⟨0, Nat.zero_le _, rfl, fun j x hj => by omega, Below.refl _ _⟩
      case round =>
        obtain ⟨n, hn, rfl, hno, hBk⟩ := hrel
        have hdk := HDX.out.on hBk
        have hfk := HFX.out.trans (FrD.below hBk)
        have hxk := blk_on HXX.out hBk
        have HNO : Hid (∀ j x, j < n → D2[j]? = some x → cmpI x.k d = -1) := hno
        have HN : Hid (n ≤ D2.length) := hn
        have NL : Hid (rb < wr.heap.size ∧ W.heap.size < wr.heap.size) := ⟨hdk.lt, (Array.getElem?_eq_some_iff.1 hxk).1⟩
        have HBR : Hid (Below w5.heap.size w5 wr) := hBk
        clear hno hn hBk
        by_cases hlt : n < D2.length
        · obtain ⟨e0, he0⟩ : ∃ e0, D2[n]? = some e0 := ⟨_, List.getElem?_eq_getElem hlt⟩
          obtain ⟨g, c', hv', hg, hbg, hcx⟩ := own_atE hdk.row he0
          obtain ⟨rfl, rfl⟩ : va = some ⟨g, 0, none⟩ ∧ vc = c' := by injection hv' with h1 _ h3; exact ⟨h1, h3⟩
          have hok := hdk.ok e0 (List.mem_of_getElem? he0)
          have qn : decide ((n : Int) < D2.length) = true := decide_eq_true (by omega)
          have HE0 : Hid (D2[n]? = some e0) := he0
          clear hv' he0
          by_cases hc : cmpI e0.k d = -1
          · have hless : Op.bytesLess (strOfNums e0.k).toList (strOfNums d).toList = true := by rw [less_str hok.1 HK.out.1.fit]; exact decide_eq_true hc
            have HC : Hid (cmpI e0.k d = -1) := hc
            have w9 : IntKind.i64.wrap ((n : Int) + 1) = (n : Int) + 1 := wrap_i64 _ ⟨by omega, by have := HSZ2.out; omega⟩
            have HLT2 : Hid (n < D2.length) := hlt
            go_wp2_with fail
            refine wp_region_held (S := fun X => Below wr.heap.size wr X) (by kernel_rfl) ?_
            show wpAnyH _ _ _ _ _ 21 (Array.replicate 21 false) _ wr.drew
            have s0 : Below wr.heap.size wr wr.drew := (Below.refl _ wr).drew
            refine take_wT (i := 0) (d := some 96) (v := .int .i64 (n : Int)) rfl rfl rfl (by kernel_rfl) (by kernel_rfl) (by kernel_rfl) (fun _ _ d _ _ h => by cases d <;> exact h) (fun X hS => by kernel_rfl) s0 ?_
            simp only [Act.put, List.setIfInBounds_toArray, List.set_cons_zero, List.set_cons_succ]
            refine take_wT (i := 1) (d := some 97) (v := .pointer (some ⟨rb, 0, none⟩)) rfl rfl rfl (by kernel_rfl) (by kernel_rfl) (by kernel_rfl) (fun _ _ d _ _ h => by cases d <;> exact h) (fun X hS => by kernel_rfl) s0 ?_
            simp only [Act.put, List.setIfInBounds_toArray, List.set_cons_zero, List.set_cons_succ]
            refine take_wT (i := 2) (d := some 98) (v := .pointer (some ⟨rb, 0, none⟩)) rfl rfl rfl (by kernel_rfl) (by kernel_rfl) (by kernel_rfl) (fun _ _ d _ _ h => by cases d <;> exact h) (fun X hS => by kernel_rfl) s0 ?_
            simp only [Act.put, List.setIfInBounds_toArray, List.set_cons_zero, List.set_cons_succ]
            refine take_wT (i := 3) (d := some 99) (v := .pointer (some ⟨rb, 5, none⟩)) rfl rfl rfl (by kernel_rfl) (by kernel_rfl) (by kernel_rfl) (fun _ _ d _ _ h => by cases d <;> exact h) (fun X hS => by kernel_rfl) s0 ?_
            simp only [Act.put, List.setIfInBounds_toArray, List.set_cons_zero, List.set_cons_succ]
            refine take_wT (i := 4) (d := some 100) (v := .slice (some ⟨g, 0, none⟩) D2.length vc) rfl rfl rfl (by kernel_rfl) (by kernel_rfl) (by kernel_rfl) (fun _ _ d _ _ h => by cases d <;> exact h) (fun X hS => ex_loadA (.tmp 99) 43 rfl rfl (ld_slD (blk_cell (j := 5) (hdk.on hS).box rfl))) s0 ?_
            simp only [Act.put, List.setIfInBounds_toArray, List.set_cons_zero, List.set_cons_succ]
            refine take_wT (i := 5) (d := some 101) (v := .int .i64 (D2.length : Int)) rfl rfl rfl (by kernel_rfl) (by kernel_rfl) (by kernel_rfl) (fun _ _ d _ _ h => by cases d <;> exact h) (fun X hS => ex_lenD (.tmp 100) rfl rfl) s0 ?_
            simp only [Act.put, List.setIfInBounds_toArray, List.set_cons_zero, List.set_cons_succ]
            refine take_wT (i := 6) (d := some 102) (v := .bool true) rfl rfl rfl (by kernel_rfl) (by kernel_rfl) (by kernel_rfl) (fun _ _ d _ _ h => by cases d <;> exact h) (fun X hS => ex_lssN (.tmp 96) (.tmp 101) rfl rfl rfl qn) s0 ?_
            simp only [Act.put, List.setIfInBounds_toArray, List.set_cons_zero, List.set_cons_succ]
            refine take_wT (i := 7) (d := some 103) (v := .bool true) rfl rfl rfl (by kernel_rfl) (by kernel_rfl) (by kernel_rfl) (fun _ _ d _ _ h => by cases d <;> exact h) (fun X hS => by kernel_rfl) s0 ?_
            simp only [Act.put, List.setIfInBounds_toArray, List.set_cons_zero, List.set_cons_succ]
            refine take_wT (i := 8) (d := some 104) (v := .pointer (some ⟨rb, 0, none⟩)) rfl rfl rfl (by kernel_rfl) (by kernel_rfl) (by kernel_rfl) (fun _ _ d _ _ h => by cases d <;> exact h) (fun X hS => by kernel_rfl) s0 ?_
            simp only [Act.put, List.setIfInBounds_toArray, List.set_cons_zero, List.set_cons_succ]
            refine take_wT (i := 9) (d := some 105) (v := .pointer (some ⟨rb, 0, none⟩)) rfl rfl rfl (by kernel_rfl) (by kernel_rfl) (by kernel_rfl) (fun _ _ d _ _ h => by cases d <;> exact h) (fun X hS => by kernel_rfl) s0 ?_
            simp only [Act.put, List.setIfInBounds_toArray, List.set_cons_zero, List.set_cons_succ]
            refine take_wT (i := 10) (d := some 106) (v := .pointer (some ⟨rb, 5, none⟩)) rfl rfl rfl (by kernel_rfl) (by kernel_rfl) (by kernel_rfl) (fun _ _ d _ _ h => by cases d <;> exact h) (fun X hS => by kernel_rfl) s0 ?_
            simp only [Act.put, List.setIfInBounds_toArray, List.set_cons_zero, List.set_cons_succ]
            refine take_wT (i := 11) (d := some 107) (v := .slice (some ⟨g, 0, none⟩) D2.length vc) rfl rfl rfl (by kernel_rfl) (by kernel_rfl) (by kernel_rfl) (fun _ _ d _ _ h => by cases d <;> exact h) (fun X hS => ex_loadA (.tmp 106) 43 rfl rfl (ld_slD (blk_cell (j := 5) (hdk.on hS).box rfl))) s0 ?_
            simp only [Act.put, List.setIfInBounds_toArray, List.set_cons_zero, List.set_cons_succ]
            refine take_wT (i := 12) (d := some 108) (v := .int .i64 (n : Int)) rfl rfl rfl (by kernel_rfl) (by kernel_rfl) (by kernel_rfl) (fun _ _ d _ _ h => by cases d <;> exact h) (fun X hS => by kernel_rfl) s0 ?_
            simp only [Act.put, List.setIfInBounds_toArray, List.set_cons_zero, List.set_cons_succ]
            refine take_wT (i := 13) (d := some 109) (v := .pointer (some ⟨g, n * 18, none⟩)) rfl rfl rfl (by kernel_rfl) (by kernel_rfl) (by kernel_rfl) (fun _ _ d _ _ h => by cases d <;> exact h) (fun X hS => ex_ixD (.tmp 107) (.tmp 108) rfl rfl rfl hlt) s0 ?_
            simp only [Act.put, List.setIfInBounds_toArray, List.set_cons_zero, List.set_cons_succ]
            refine take_wT (i := 14) (d := some 110) (v := .pointer (some ⟨g, n * 18, none⟩)) rfl rfl rfl (by kernel_rfl) (by kernel_rfl) (by kernel_rfl) (fun _ _ d _ _ h => by cases d <;> exact h) (fun X hS => by kernel_rfl) s0 ?_
            simp only [Act.put, List.setIfInBounds_toArray, List.set_cons_zero, List.set_cons_succ]
            refine take_wT (i := 15) (d := some 111) (v := .slice (some ⟨g, n * 18, none⟩) 16 16) rfl rfl rfl (by kernel_rfl) (by kernel_rfl) (by kernel_rfl) (fun _ _ d _ _ h => by cases d <;> exact h) (fun X hS => ex_slc16 110 rfl rfl) s0 ?_
            simp only [Act.put, List.setIfInBounds_toArray, List.set_cons_zero, List.set_cons_succ]
            refine take_wT (i := 16) (d := some 112) (v := .string (strOfNums e0.k)) rfl rfl rfl (by kernel_rfl) (by kernel_rfl) (by kernel_rfl) (fun _ _ d _ _ h => by cases d <;> exact h) (fun X hS => ex_convD (.tmp 111) rfl rfl (strD ⟨hok.1, hok.2⟩ (fun i u hi => (hS.cell (p := ⟨g, _, none⟩) hg).trans (cE_k hok hcx i u hi)))) s0 ?_
            simp only [Act.put, List.setIfInBounds_toArray, List.set_cons_zero, List.set_cons_succ]
            refine take_wT (i := 17) (d := some 113) (v := .slice (some ⟨W.heap.size, 0, none⟩) 16 16) rfl rfl rfl (by kernel_rfl) (by kernel_rfl) (by kernel_rfl) (fun _ _ d _ _ h => by cases d <;> exact h) (fun X hS => ex_slc16 6 rfl rfl) s0 ?_
            simp only [Act.put, List.setIfInBounds_toArray, List.set_cons_zero, List.set_cons_succ]
            refine take_wT (i := 18) (d := some 114) (v := .string (strOfNums d)) rfl rfl rfl (by kernel_rfl) (by kernel_rfl) (by kernel_rfl) (fun _ _ d _ _ h => by cases d <;> exact h) (fun X hS => ex_convD (.tmp 113) rfl rfl (strD HK.out.1 (CellsAt.blkP (c := u8s d) (t := 35) (blk_on hxk hS)))) s0 ?_
            simp only [Act.put, List.setIfInBounds_toArray, List.set_cons_zero, List.set_cons_succ]
            refine take_wT (i := 19) (d := some 115) (v := .bool true) rfl rfl rfl (by kernel_rfl) (by kernel_rfl) (by kernel_rfl) (fun _ _ d _ _ h => by cases d <;> exact h) (fun X hS => ex_lssD (.tmp 112) (.tmp 114) rfl rfl rfl hless) s0 ?_
            simp only [Act.put, List.setIfInBounds_toArray, List.set_cons_zero, List.set_cons_succ]
            refine take_wT (i := 20) (d := some 116) (v := .bool true) rfl rfl rfl (by kernel_rfl) (by kernel_rfl) (by kernel_rfl) (fun _ _ d _ _ h => by cases d <;> exact h) (fun X hS => ex_pickP (c := true) (.tmp 103) (.tmp 115) (.const (.bool false)) rfl rfl rfl rfl) s0 ?_
            simp only [Act.put, List.setIfInBounds_toArray, List.set_cons_zero, List.set_cons_succ]
            refine wpAnyH_done (by kernel_rfl) ?_ _
            generalize wr.drew = V0 at *
            clear hless hok hcx hg hbg hxk hfk hdk hlt hc qn
            go_wp2
            go_roundw
            case rel =>
              refine ⟨n + 1, HLT2.out, rfl, fun j x hj hx => ?_, HBR.out.trans (s0.mono HBR.out.size)⟩
              by_cases cj : j = n
              · subst cj
                rw [HE0.out] at hx
                injection hx with hx
                rw [← hx]
                exact HC.out
              · exact HNO.out j x (by omega) hx
            case measure => show D2.length - (n + 1) < D2.length - n; have := HLT2.out; omega
          · have hless : Op.bytesLess (strOfNums e0.k).toList (strOfNums d).toList = false := by rw [less_str hok.1 HK.out.1.fit]; exact decide_eq_false hc
            have HC : Hid (cmpI e0.k d ≠ -1) := hc
            go_wp2_with fail
            refine wp_region_held (S := fun X => Below wr.heap.size wr X) (by kernel_rfl) ?_
            show wpAnyH _ _ _ _ _ 21 (Array.replicate 21 false) _ wr.drew
            have s0 : Below wr.heap.size wr wr.drew := (Below.refl _ wr).drew
            refine take_wT (i := 0) (d := some 96) (v := .int .i64 (n : Int)) rfl rfl rfl (by kernel_rfl) (by kernel_rfl) (by kernel_rfl) (fun _ _ d _ _ h => by cases d <;> exact h) (fun X hS => by kernel_rfl) s0 ?_
            simp only [Act.put, List.setIfInBounds_toArray, List.set_cons_zero, List.set_cons_succ]
            refine take_wT (i := 1) (d := some 97) (v := .pointer (some ⟨rb, 0, none⟩)) rfl rfl rfl (by kernel_rfl) (by kernel_rfl) (by kernel_rfl) (fun _ _ d _ _ h => by cases d <;> exact h) (fun X hS => by kernel_rfl) s0 ?_
            simp only [Act.put, List.setIfInBounds_toArray, List.set_cons_zero, List.set_cons_succ]
            refine take_wT (i := 2) (d := some 98) (v := .pointer (some ⟨rb, 0, none⟩)) rfl rfl rfl (by kernel_rfl) (by kernel_rfl) (by kernel_rfl) (fun _ _ d _ _ h => by cases d <;> exact h) (fun X hS => by kernel_rfl) s0 ?_
            simp only [Act.put, List.setIfInBounds_toArray, List.set_cons_zero, List.set_cons_succ]
            refine take_wT (i := 3) (d := some 99) (v := .pointer (some ⟨rb, 5, none⟩)) rfl rfl rfl (by kernel_rfl) (by kernel_rfl) (by kernel_rfl) (fun _ _ d _ _ h => by cases d <;> exact h) (fun X hS => by kernel_rfl) s0 ?_
            simp only [Act.put, List.setIfInBounds_toArray, List.set_cons_zero, List.set_cons_succ]
            refine take_wT (i := 4) (d := some 100) (v := .slice (some ⟨g, 0, none⟩) D2.length vc) rfl rfl rfl (by kernel_rfl) (by kernel_rfl) (by kernel_rfl) (fun _ _ d _ _ h => by cases d <;> exact h) (fun X hS => ex_loadA (.tmp 99) 43 rfl rfl (ld_slD (blk_cell (j := 5) (hdk.on hS).box rfl))) s0 ?_
            simp only [Act.put, List.setIfInBounds_toArray, List.set_cons_zero, List.set_cons_succ]
            refine take_wT (i := 5) (d := some 101) (v := .int .i64 (D2.length : Int)) rfl rfl rfl (by kernel_rfl) (by kernel_rfl) (by kernel_rfl) (fun _ _ d _ _ h => by cases d <;> exact h) (fun X hS => ex_lenD (.tmp 100) rfl rfl) s0 ?_
            simp only [Act.put, List.setIfInBounds_toArray, List.set_cons_zero, List.set_cons_succ]
            refine take_wT (i := 6) (d := some 102) (v := .bool true) rfl rfl rfl (by kernel_rfl) (by kernel_rfl) (by kernel_rfl) (fun _ _ d _ _ h => by cases d <;> exact h) (fun X hS => ex_lssN (.tmp 96) (.tmp 101) rfl rfl rfl qn) s0 ?_
            simp only [Act.put, List.setIfInBounds_toArray, List.set_cons_zero, List.set_cons_succ]
            refine take_wT (i := 7) (d := some 103) (v := .bool true) rfl rfl rfl (by kernel_rfl) (by kernel_rfl) (by kernel_rfl) (fun _ _ d _ _ h => by cases d <;> exact h) (fun X hS => by kernel_rfl) s0 ?_
            simp only [Act.put, List.setIfInBounds_toArray, List.set_cons_zero, List.set_cons_succ]
            refine take_wT (i := 8) (d := some 104) (v := .pointer (some ⟨rb, 0, none⟩)) rfl rfl rfl (by kernel_rfl) (by kernel_rfl) (by kernel_rfl) (fun _ _ d _ _ h => by cases d <;> exact h) (fun X hS => by kernel_rfl) s0 ?_
            simp only [Act.put, List.setIfInBounds_toArray, List.set_cons_zero, List.set_cons_succ]
            refine take_wT (i := 9) (d := some 105) (v := .pointer (some ⟨rb, 0, none⟩)) rfl rfl rfl (by kernel_rfl) (by kernel_rfl) (by kernel_rfl) (fun _ _ d _ _ h => by cases d <;> exact h) (fun X hS => by kernel_rfl) s0 ?_
            simp only [Act.put, List.setIfInBounds_toArray, List.set_cons_zero, List.set_cons_succ]
            refine take_wT (i := 10) (d := some 106) (v := .pointer (some ⟨rb, 5, none⟩)) rfl rfl rfl (by kernel_rfl) (by kernel_rfl) (by kernel_rfl) (fun _ _ d _ _ h => by cases d <;> exact h) (fun X hS => by kernel_rfl) s0 ?_
            simp only [Act.put, List.setIfInBounds_toArray, List.set_cons_zero, List.set_cons_succ]
            refine take_wT (i := 11) (d := some 107) (v := .slice (some ⟨g, 0, none⟩) D2.length vc) rfl rfl rfl (by kernel_rfl) (by kernel_rfl) (by kernel_rfl) (fun _ _ d _ _ h => by cases d <;> exact h) (fun X hS => ex_loadA (.tmp 106) 43 rfl rfl (ld_slD (blk_cell (j := 5) (hdk.on hS).box rfl))) s0 ?_
            simp only [Act.put, List.setIfInBounds_toArray, List.set_cons_zero, List.set_cons_succ]
            refine take_wT (i := 12) (d := some 108) (v := .int .i64 (n : Int)) rfl rfl rfl (by kernel_rfl) (by kernel_rfl) (by kernel_rfl) (fun _ _ d _ _ h => by cases d <;> exact h) (fun X hS => by kernel_rfl) s0 ?_
            simp only [Act.put, List.setIfInBounds_toArray, List.set_cons_zero, List.set_cons_succ]
            refine take_wT (i := 13) (d := some 109) (v := .pointer (some ⟨g, n * 18, none⟩)) rfl rfl rfl (by kernel_rfl) (by kernel_rfl) (by kernel_rfl) (fun _ _ d _ _ h => by cases d <;> exact h) (fun X hS => ex_ixD (.tmp 107) (.tmp 108) rfl rfl rfl hlt) s0 ?_
            simp only [Act.put, List.setIfInBounds_toArray, List.set_cons_zero, List.set_cons_succ]
            refine take_wT (i := 14) (d := some 110) (v := .pointer (some ⟨g, n * 18, none⟩)) rfl rfl rfl (by kernel_rfl) (by kernel_rfl) (by kernel_rfl) (fun _ _ d _ _ h => by cases d <;> exact h) (fun X hS => by kernel_rfl) s0 ?_
            simp only [Act.put, List.setIfInBounds_toArray, List.set_cons_zero, List.set_cons_succ]
            refine take_wT (i := 15) (d := some 111) (v := .slice (some ⟨g, n * 18, none⟩) 16 16) rfl rfl rfl (by kernel_rfl) (by kernel_rfl) (by kernel_rfl) (fun _ _ d _ _ h => by cases d <;> exact h) (fun X hS => ex_slc16 110 rfl rfl) s0 ?_
            simp only [Act.put, List.setIfInBounds_toArray, List.set_cons_zero, List.set_cons_succ]
            refine take_wT (i := 16) (d := some 112) (v := .string (strOfNums e0.k)) rfl rfl rfl (by kernel_rfl) (by kernel_rfl) (by kernel_rfl) (fun _ _ d _ _ h => by cases d <;> exact h) (fun X hS => ex_convD (.tmp 111) rfl rfl (strD ⟨hok.1, hok.2⟩ (fun i u hi => (hS.cell (p := ⟨g, _, none⟩) hg).trans (cE_k hok hcx i u hi)))) s0 ?_
            simp only [Act.put, List.setIfInBounds_toArray, List.set_cons_zero, List.set_cons_succ]
            refine take_wT (i := 17) (d := some 113) (v := .slice (some ⟨W.heap.size, 0, none⟩) 16 16) rfl rfl rfl (by kernel_rfl) (by kernel_rfl) (by kernel_rfl) (fun _ _ d _ _ h => by cases d <;> exact h) (fun X hS => ex_slc16 6 rfl rfl) s0 ?_
            simp only [Act.put, List.setIfInBounds_toArray, List.set_cons_zero, List.set_cons_succ]
            refine take_wT (i := 18) (d := some 114) (v := .string (strOfNums d)) rfl rfl rfl (by kernel_rfl) (by kernel_rfl) (by kernel_rfl) (fun _ _ d _ _ h => by cases d <;> exact h) (fun X hS => ex_convD (.tmp 113) rfl rfl (strD HK.out.1 (CellsAt.blkP (c := u8s d) (t := 35) (blk_on hxk hS)))) s0 ?_
            simp only [Act.put, List.setIfInBounds_toArray, List.set_cons_zero, List.set_cons_succ]
            refine take_wT (i := 19) (d := some 115) (v := .bool false) rfl rfl rfl (by kernel_rfl) (by kernel_rfl) (by kernel_rfl) (fun _ _ d _ _ h => by cases d <;> exact h) (fun X hS => ex_lssD (.tmp 112) (.tmp 114) rfl rfl rfl hless) s0 ?_
            simp only [Act.put, List.setIfInBounds_toArray, List.set_cons_zero, List.set_cons_succ]
            refine take_wT (i := 20) (d := some 116) (v := .bool false) rfl rfl rfl (by kernel_rfl) (by kernel_rfl) (by kernel_rfl) (fun _ _ d _ _ h => by cases d <;> exact h) (fun X hS => ex_pickP (c := true) (.tmp 103) (.tmp 115) (.const (.bool false)) rfl rfl rfl rfl) s0 ?_
            simp only [Act.put, List.setIfInBounds_toArray, List.set_cons_zero, List.set_cons_succ]
            refine wpAnyH_done (by kernel_rfl) ?_ _
            have hdk := hdk.on s0
            have hfk := hfk.trans (FrD.below s0)
            have hxk := blk_on hxk s0
            have NL : Hid (rb < wr.drew.heap.size ∧ W.heap.size < wr.drew.heap.size) := NL.out
            generalize wr.drew = wr at *
            clear hless hok hcx hg hbg hlt hc qn HBR s0
            obtain ⟨S1, S2, hs1, src1, hs2, src2⟩ := cutsE (n := n) hdk.row (by have h9 : n ≤ D2.length := HN.out; exact h9)
            have HPOS : Hid (PosP D2 d n) := ⟨HN.out, HNO.out, fun x hx => by rw [HE0.out] at hx; injection hx with hx; rw [← hx]; exact HC.out⟩
            obtain ⟨W4, hW4⟩ : ∃ W4, W4 = wr.alloc (.cells #[] 72) := ⟨_, rfl⟩
            have hB4 : Below wr.heap.size wr W4 := by rw [hW4]; exact (Below.refl wr.heap.size wr).alloc (Nat.le_refl _) _
            have ho4 := own_emp wr
            rw [← hW4] at ho4
            obtain ⟨v5, W5, hap5, own5, hbl5⟩ := appE (L2 := D2.take n) ho4 hB4.size (by have h9 : D2.length ≤ 50000 := HSZ2.out; have h8 : (D2.take n).length ≤ D2.length := (by rw [List.length_take]; exact Nat.min_le_right _ _); simp only [List.length_nil]; omega) (src1.on hB4) 43
            rw [List.nil_append] at own5
            have hb5 : Below wr.heap.size wr W5 := hB4.trans hbl5
            have hd5 := hdk.on hb5
            have hx5 := blk_on hxk hb5
            have c5' : W4.cell? ⟨rb, 5, none⟩ = some (.slice (some ⟨g, 0, none⟩) D2.length vc) := blk_cell (j := 5) (hdk.on hB4).box rfl
            have HB5 : Hid (Below wr.heap.size wr W5) := hb5
            have HO5 : Hid _ := own5
            have HD5 : Hid (Doc rb cf t D2 (.slice (some ⟨g, 0, none⟩) D2.length vc) W5 ∧ W5.heap[W.heap.size]? = some (.cells (u8s d).toArray 35)) := ⟨hd5, hx5⟩
            have HS1 : Hid _ := hs1
            have HAP5 : Hid _ := hap5
            have HS2 : Hid (∀ w : World, (Instr.sliceAt 43 (.slice (some ⟨g, 0, none⟩) D2.length vc) (some (.int .i64 n)) none none).run Try.prog w = .ok S2 w) := hs2
            have HSRC2 : Hid (SrcE wr S2 (D2.drop n)) := src2
            have HDK : Hid (Doc rb cf t D2 (.slice (some ⟨g, 0, none⟩) D2.length vc) wr ∧ FrD rb W wr) := ⟨hdk, hfk⟩
            have e4 := hW4.symm
            clear hs1 src1 hs2 src2 hB4 ho4 hap5 own5 hbl5 hb5 hd5 hx5 hW4 hdk hfk hxk
            go_wp2_with first
              | ((with_reducible show wpList _ _ _ ({ dst := _, op := Op.slice 43 (Operand.tmp 123) none (some (Operand.tmp 124)) none, type := _, pos := _, after := _, guard := _ } :: _) _ _); refine arm_slE (.tmp 123) none (some (.tmp 124)) 43 rfl rfl rfl rfl rfl (HS1.out _) ?_)
              | ((with_reducible show wpList _ _ _ ({ dst := _, op := Op.call { callee := Callee.builtin Builtin.append, args := #[(Operand.tmp 119), (Operand.tmp 125)], argTypes := #[43, 43] }, type := _, pos := _, after := _, guard := _ } :: _) _ _); refine arm_apE (.tmp 119) (.tmp 125) 43 rfl rfl rfl rfl HAP5.out ?_)
            clear e4 c5' HS1 HAP5
            refine wp_region_held (S := fun X => X.heap[W.heap.size]? = some (.cells (u8s d).toArray 35) ∧ X.cell? ⟨rb, 2, none⟩ = some (.int .i64 cf.life)) (by kernel_rfl) ?_
            show wpAnyH _ _ _ _ _ 15 (Array.replicate 15 false) _ W5.drew
            have s0 : W5.drew.heap[W.heap.size]? = some (.cells (u8s d).toArray 35) ∧ W5.drew.cell? ⟨rb, 2, none⟩ = some (.int .i64 cf.life) := ⟨HD5.out.2, blk_cell (w := W5) (j := 2) HD5.out.1.box rfl⟩
            have b5 : Below W5.heap.size W5 W5.drew := (Below.refl _ W5).drew
            have own6 := own_same (w' := W5.drew) HO5.out (fun _ _ => rfl)
            generalize W5.drew = V0 at *
            obtain ⟨en, hen⟩ : ∃ en : PE, en = ⟨d, zm, min (t + cf.life) 1099511627776⟩ := ⟨_, rfl⟩
            have hec : eC d zm (min (t + cf.life) 1099511627776) = eE en := by rw [hen]; exact (eE_ok (x := ⟨d, zm, min (t + cf.life) 1099511627776⟩) ⟨HK.out.1.fit, HK.out.1.len⟩).symm
            obtain ⟨v6, W6, hap6, own6b, hbl6⟩ := pushE own6 (Nat.le_trans HB5.out.size b5.size) (by have h9 : D2.length ≤ 50000 := HSZ2.out; have h8 : (D2.take n).length ≤ D2.length := (by rw [List.length_take]; exact Nat.min_le_right _ _); omega) en 43
            have hbs := bsE V0 en
            have bv6 : Below wr.heap.size wr W6 := (HB5.out.trans (b5.mono HB5.out.size)).trans hbl6
            have nl : rb < wr.heap.size ∧ W.heap.size < wr.heap.size := NL.out
            have bva : Below V0.heap.size V0 (V0.alloc (.cells (eE en).toArray 72)) := (Below.refl _ V0).alloc (Nat.le_refl _) _
            have s1 : (V0.alloc (.cells (eE en).toArray 72)).heap[W.heap.size]? = some (.cells (u8s d).toArray 35) ∧ (V0.alloc (.cells (eE en).toArray 72)).cell? ⟨rb, 2, none⟩ = some (.int .i64 cf.life) := ⟨blk_on s0.1 bva, (bva.cell (p := ⟨rb, 2, none⟩) (Nat.lt_of_lt_of_le nl.1 (Nat.le_trans HB5.out.size b5.size))).trans s0.2⟩
            have s2 : W6.heap[W.heap.size]? = some (.cells (u8s d).toArray 35) ∧ W6.cell? ⟨rb, 2, none⟩ = some (.int .i64 cf.life) := ⟨(hbl6.block _ nl.2).trans s0.1, (hbl6.cell (p := ⟨rb, 2, none⟩) nl.1).trans s0.2⟩
            refine take_wT (i := 0) (d := some 127) (v := v5) rfl rfl rfl (by kernel_rfl) (by kernel_rfl) (by kernel_rfl) (fun _ _ d _ _ h => by cases d <;> exact h) (fun X hS => by kernel_rfl) s0 ?_
            simp only [Act.put, List.setIfInBounds_toArray, List.set_cons_zero, List.set_cons_succ]
            refine take_wT (i := 1) (d := some 128) (v := .agg (u8s d).toArray) rfl rfl rfl (by kernel_rfl) (by kernel_rfl) (by kernel_rfl) (fun _ _ d _ _ h => by cases d <;> exact h) (fun X hS => ex_loadA (.tmp 6) 35 rfl rfl (at_A HK.out.1.len hS.1)) s0 ?_
            simp only [Act.put, List.setIfInBounds_toArray, List.set_cons_zero, List.set_cons_succ]
            refine take_wT (i := 2) (d := some 129) (v := .int .i64 zm) rfl rfl rfl (by kernel_rfl) (by kernel_rfl) (by kernel_rfl) (fun _ _ d _ _ h => by cases d <;> exact h) (fun X hS => by kernel_rfl) s0 ?_
            simp only [Act.put, List.setIfInBounds_toArray, List.set_cons_zero, List.set_cons_succ]
            refine take_wT (i := 3) (d := some 130) (v := .int .i64 t) rfl rfl rfl (by kernel_rfl) (by kernel_rfl) (by kernel_rfl) (fun _ _ d _ _ h => by cases d <;> exact h) (fun X hS => by kernel_rfl) s0 ?_
            simp only [Act.put, List.setIfInBounds_toArray, List.set_cons_zero, List.set_cons_succ]
            refine take_wT (i := 4) (d := some 131) (v := .pointer (some ⟨rb, 0, none⟩)) rfl rfl rfl (by kernel_rfl) (by kernel_rfl) (by kernel_rfl) (fun _ _ d _ _ h => by cases d <;> exact h) (fun X hS => by kernel_rfl) s0 ?_
            simp only [Act.put, List.setIfInBounds_toArray, List.set_cons_zero, List.set_cons_succ]
            refine take_wT (i := 5) (d := some 132) (v := .pointer (some ⟨rb, 0, none⟩)) rfl rfl rfl (by kernel_rfl) (by kernel_rfl) (by kernel_rfl) (fun _ _ d _ _ h => by cases d <;> exact h) (fun X hS => by kernel_rfl) s0 ?_
            simp only [Act.put, List.setIfInBounds_toArray, List.set_cons_zero, List.set_cons_succ]
            refine take_wT (i := 6) (d := some 133) (v := .pointer (some ⟨rb, 0, none⟩)) rfl rfl rfl (by kernel_rfl) (by kernel_rfl) (by kernel_rfl) (fun _ _ d _ _ h => by cases d <;> exact h) (fun X hS => by kernel_rfl) s0 ?_
            simp only [Act.put, List.setIfInBounds_toArray, List.set_cons_zero, List.set_cons_succ]
            refine take_wT (i := 7) (d := some 134) (v := .pointer (some ⟨rb, 2, none⟩)) rfl rfl rfl (by kernel_rfl) (by kernel_rfl) (by kernel_rfl) (fun _ _ d _ _ h => by cases d <;> exact h) (fun X hS => by kernel_rfl) s0 ?_
            simp only [Act.put, List.setIfInBounds_toArray, List.set_cons_zero, List.set_cons_succ]
            refine take_wT (i := 8) (d := some 135) (v := .int .i64 cf.life) rfl rfl rfl (by kernel_rfl) (by kernel_rfl) (by kernel_rfl) (fun _ _ d _ _ h => by cases d <;> exact h) (fun X hS => ex_loadA (.tmp 134) 3 rfl rfl (ld_int hS.2)) s0 ?_
            simp only [Act.put, List.setIfInBounds_toArray, List.set_cons_zero, List.set_cons_succ]
            refine take_wT (i := 9) (d := some 136) (v := .int .i64 (t + cf.life)) rfl rfl rfl (by kernel_rfl) (by kernel_rfl) (by kernel_rfl) (fun _ _ d _ _ h => by cases d <;> exact h) (fun X hS => ex_addP (.tmp 130) (.tmp 135) rfl rfl rfl HWR.out) s0 ?_
            simp only [Act.put, List.setIfInBounds_toArray, List.set_cons_zero, List.set_cons_succ]
            refine take_wT (i := 10) (d := some 137) (v := .int .i64 (min (t + cf.life) 1099511627776)) rfl rfl rfl (by kernel_rfl) (by kernel_rfl) (by kernel_rfl) (fun _ _ d _ _ h => by cases d <;> exact h) (fun X hS => ex_minP (.tmp 136) (.const (.int .i64 1099511627776)) rfl rfl rfl) s0 ?_
            simp only [Act.put, List.setIfInBounds_toArray, List.set_cons_zero, List.set_cons_succ]
            refine take_wT (i := 11) (d := some 138) (v := .agg (eE en).toArray) rfl rfl rfl (by kernel_rfl) (by kernel_rfl) (by kernel_rfl) (fun _ _ d _ _ h => by cases d <;> exact h) (fun X hS => by rw [← hec]; exact ex_buildA 72 [(0, .tmp 128), (1, .tmp 129), (2, .tmp 137)] rfl rfl (bldE HK.out.1.len zm (min (t + cf.life) 1099511627776) _)) s0 ?_
            simp only [Act.put, List.setIfInBounds_toArray, List.set_cons_zero, List.set_cons_succ]
            refine all_wT (i := 12) (by kernel_rfl) rfl rfl ?_
            refine wp_effX (d := some 139) (v := .slice (some ⟨V0.heap.size, 0, none⟩) 1 1) (w2 := V0.alloc (.cells (eE en).toArray 72)) rfl (ex_bsD (.tmp 138) rfl rfl hbs) ⟨s1, ?_⟩
            simp only [Act.put, List.setIfInBounds_toArray, List.set_cons_zero, List.set_cons_succ]
            refine all_wT (i := 13) (by kernel_rfl) rfl rfl ?_
            refine wp_effX (d := some 140) (v := v6) (w2 := W6) rfl (ex_apD (.tmp 127) (.tmp 139) rfl rfl rfl hap6) ⟨s2, ?_⟩
            simp only [Act.put, List.setIfInBounds_toArray, List.set_cons_zero, List.set_cons_succ]
            refine take_wT (i := 14) (d := some 14) (v := v6) rfl rfl rfl (by kernel_rfl) (by kernel_rfl) (by kernel_rfl) (fun _ _ d _ _ h => by cases d <;> exact h) (fun X hS => by kernel_rfl) s2 ?_
            simp only [Act.put, List.setIfInBounds_toArray, List.set_cons_zero, List.set_cons_succ]
            refine wpAnyH_done (by kernel_rfl) ?_ _
            obtain ⟨v7, W7, hap7, own7, hbl7⟩ := appE (L2 := D2.drop n) own6b bv6.size (by have h9 : D2.length ≤ 50000 := HSZ2.out; have h8 : (D2.take n).length ≤ D2.length := (by rw [List.length_take]; exact Nat.min_le_right _ _); have h7 : (D2.drop n).length ≤ D2.length := (by rw [List.length_drop]; exact Nat.sub_le _ _); simp only [List.length_append, List.length_singleton]; omega) (HSRC2.out.on bv6) 43
            have bv7 : Below wr.heap.size wr W7 := bv6.trans hbl7
            obtain ⟨a7, k7, c7, hv7⟩ : ∃ a k c, v7 = Value.slice a k c := by obtain ⟨a, c, e⟩ := own_slc own7; exact ⟨a, _, c, e⟩
            obtain ⟨hdf, hff⟩ := HDK.out.1.put bv7 (D' := putD D2 n en) own7 (fun x hx => by
              unfold putD at hx
              rcases List.mem_append.1 hx with hx | hx
              · rcases List.mem_append.1 hx with hx | hx
                · exact HDK.out.1.ok x (List.mem_of_mem_take hx)
                · simp only [List.mem_singleton] at hx
                  rw [hx, hen]
                  exact ⟨HK.out.1.fit, HK.out.1.len⟩
              · exact HDK.out.1.ok x (List.mem_of_mem_drop hx))
            have HFIN : Hid (TellR D1 d cf z t true (putD D2 n en) ∧ Doc rb cf t (putD D2 n en) v7 (W7.setCell ⟨rb, 5, none⟩ v7) ∧ FrD rb W (W7.setCell ⟨rb, 5, none⟩ v7)) := ⟨⟨m0, HM0.out, .inr ⟨by rw [HZM.out]; exact HGE.out, rfl, D2, n, HTP.out, HPOS.out, by rw [hen, HZM.out]⟩⟩, hdf, HDK.out.2.trans hff⟩
            have c6 : W6.cell? ⟨rb, 5, none⟩ = some (.slice (some ⟨g, 0, none⟩) D2.length vc) := blk_cell (j := 5) (HDK.out.1.on bv6).box rfl
            have c7' : W7.cell? ⟨rb, 5, none⟩ = some (.slice (some ⟨g, 0, none⟩) D2.length vc) := blk_cell (j := 5) (HDK.out.1.on bv7).box rfl
            have hfz := blk_open (HDK.out.1.on bv7).box 5
            have HAP7 : Hid _ := hap7
            rw [hv7] at HAP7
            rw [hv7] at HFIN
            clear s0 s1 s2 b5 own6 hen hec hap6 own6b hbl6 hbs bv6 nl bva hap7 own7 hbl7 bv7 hdf hff hv7
            go_wp2_with first
              | ((with_reducible show wpList _ _ _ ({ dst := _, op := Op.slice 43 (Operand.tmp 146) (some (Operand.tmp 147)) none none, type := _, pos := _, after := _, guard := _ } :: _) _ _); refine arm_slE (.tmp 146) (some (.tmp 147)) none 43 rfl rfl rfl rfl rfl (HS2.out _) ?_)
              | ((with_reducible show wpList _ _ _ ({ dst := _, op := Op.call { callee := Callee.builtin Builtin.append, args := #[(Operand.tmp 142), (Operand.tmp 148)], argTypes := #[43, 43] }, type := _, pos := _, after := _, guard := _ } :: _) _ _); refine arm_apE (.tmp 142) (.tmp 148) 43 rfl rfl rfl rfl HAP7.out ?_)
            try go_returns
            exact HQ.out _ _ ⟨true, _, rfl, HFIN.out.1, ⟨_, HFIN.out.2.1⟩, HFIN.out.2.2⟩
        · have hnl : n = D2.length := by have h9 := HN.out; omega
          have HNN : Hid (n = D2.length) := hnl
          have qn : decide ((n : Int) < D2.length) = false := decide_eq_false (by omega)
          clear hnl
          go_wp2_with fail
          refine wp_region_held (S := fun X => Below wr.heap.size wr X) (by kernel_rfl) ?_
          show wpAnyH _ _ _ _ _ 21 (Array.replicate 21 false) _ wr.drew
          have s0 : Below wr.heap.size wr wr.drew := (Below.refl _ wr).drew
          refine take_wT (i := 0) (d := some 96) (v := .int .i64 (n : Int)) rfl rfl rfl (by kernel_rfl) (by kernel_rfl) (by kernel_rfl) (fun _ _ d _ _ h => by cases d <;> exact h) (fun X hS => by kernel_rfl) s0 ?_
          simp only [Act.put, List.setIfInBounds_toArray, List.set_cons_zero, List.set_cons_succ]
          refine take_wT (i := 1) (d := some 97) (v := .pointer (some ⟨rb, 0, none⟩)) rfl rfl rfl (by kernel_rfl) (by kernel_rfl) (by kernel_rfl) (fun _ _ d _ _ h => by cases d <;> exact h) (fun X hS => by kernel_rfl) s0 ?_
          simp only [Act.put, List.setIfInBounds_toArray, List.set_cons_zero, List.set_cons_succ]
          refine take_wT (i := 2) (d := some 98) (v := .pointer (some ⟨rb, 0, none⟩)) rfl rfl rfl (by kernel_rfl) (by kernel_rfl) (by kernel_rfl) (fun _ _ d _ _ h => by cases d <;> exact h) (fun X hS => by kernel_rfl) s0 ?_
          simp only [Act.put, List.setIfInBounds_toArray, List.set_cons_zero, List.set_cons_succ]
          refine take_wT (i := 3) (d := some 99) (v := .pointer (some ⟨rb, 5, none⟩)) rfl rfl rfl (by kernel_rfl) (by kernel_rfl) (by kernel_rfl) (fun _ _ d _ _ h => by cases d <;> exact h) (fun X hS => by kernel_rfl) s0 ?_
          simp only [Act.put, List.setIfInBounds_toArray, List.set_cons_zero, List.set_cons_succ]
          refine take_wT (i := 4) (d := some 100) (v := .slice va D2.length vc) rfl rfl rfl (by kernel_rfl) (by kernel_rfl) (by kernel_rfl) (fun _ _ d _ _ h => by cases d <;> exact h) (fun X hS => ex_loadA (.tmp 99) 43 rfl rfl (ld_slD (blk_cell (j := 5) (hdk.on hS).box rfl))) s0 ?_
          simp only [Act.put, List.setIfInBounds_toArray, List.set_cons_zero, List.set_cons_succ]
          refine take_wT (i := 5) (d := some 101) (v := .int .i64 (D2.length : Int)) rfl rfl rfl (by kernel_rfl) (by kernel_rfl) (by kernel_rfl) (fun _ _ d _ _ h => by cases d <;> exact h) (fun X hS => ex_lenD (.tmp 100) rfl rfl) s0 ?_
          simp only [Act.put, List.setIfInBounds_toArray, List.set_cons_zero, List.set_cons_succ]
          refine take_wT (i := 6) (d := some 102) (v := .bool false) rfl rfl rfl (by kernel_rfl) (by kernel_rfl) (by kernel_rfl) (fun _ _ d _ _ h => by cases d <;> exact h) (fun X hS => ex_lssN (.tmp 96) (.tmp 101) rfl rfl rfl qn) s0 ?_
          simp only [Act.put, List.setIfInBounds_toArray, List.set_cons_zero, List.set_cons_succ]
          refine take_wT (i := 7) (d := some 103) (v := .bool false) rfl rfl rfl (by kernel_rfl) (by kernel_rfl) (by kernel_rfl) (fun _ _ d _ _ h => by cases d <;> exact h) (fun X hS => by kernel_rfl) s0 ?_
          simp only [Act.put, List.setIfInBounds_toArray, List.set_cons_zero, List.set_cons_succ]
          refine skip_wT (i := 8) (d := some 104) rfl rfl rfl (by kernel_rfl) (by kernel_rfl) (by kernel_rfl) (fun _ _ d _ _ h => by cases d <;> exact h) s0 ?_
          simp only [Act.put, List.setIfInBounds_toArray, List.set_cons_zero, List.set_cons_succ]
          refine skip_wT (i := 9) (d := some 105) rfl rfl rfl (by kernel_rfl) (by kernel_rfl) (by kernel_rfl) (fun _ _ d _ _ h => by cases d <;> exact h) s0 ?_
          simp only [Act.put, List.setIfInBounds_toArray, List.set_cons_zero, List.set_cons_succ]
          refine skip_wT (i := 10) (d := some 106) rfl rfl rfl (by kernel_rfl) (by kernel_rfl) (by kernel_rfl) (fun _ _ d _ _ h => by cases d <;> exact h) s0 ?_
          simp only [Act.put, List.setIfInBounds_toArray, List.set_cons_zero, List.set_cons_succ]
          refine skip_wT (i := 11) (d := some 107) rfl rfl rfl (by kernel_rfl) (by kernel_rfl) (by kernel_rfl) (fun _ _ d _ _ h => by cases d <;> exact h) s0 ?_
          simp only [Act.put, List.setIfInBounds_toArray, List.set_cons_zero, List.set_cons_succ]
          refine skip_wT (i := 12) (d := some 108) rfl rfl rfl (by kernel_rfl) (by kernel_rfl) (by kernel_rfl) (fun _ _ d _ _ h => by cases d <;> exact h) s0 ?_
          simp only [Act.put, List.setIfInBounds_toArray, List.set_cons_zero, List.set_cons_succ]
          refine skip_wT (i := 13) (d := some 109) rfl rfl rfl (by kernel_rfl) (by kernel_rfl) (by kernel_rfl) (fun _ _ d _ _ h => by cases d <;> exact h) s0 ?_
          simp only [Act.put, List.setIfInBounds_toArray, List.set_cons_zero, List.set_cons_succ]
          refine skip_wT (i := 14) (d := some 110) rfl rfl rfl (by kernel_rfl) (by kernel_rfl) (by kernel_rfl) (fun _ _ d _ _ h => by cases d <;> exact h) s0 ?_
          simp only [Act.put, List.setIfInBounds_toArray, List.set_cons_zero, List.set_cons_succ]
          refine skip_wT (i := 15) (d := some 111) rfl rfl rfl (by kernel_rfl) (by kernel_rfl) (by kernel_rfl) (fun _ _ d _ _ h => by cases d <;> exact h) s0 ?_
          simp only [Act.put, List.setIfInBounds_toArray, List.set_cons_zero, List.set_cons_succ]
          refine skip_wT (i := 16) (d := some 112) rfl rfl rfl (by kernel_rfl) (by kernel_rfl) (by kernel_rfl) (fun _ _ d _ _ h => by cases d <;> exact h) s0 ?_
          simp only [Act.put, List.setIfInBounds_toArray, List.set_cons_zero, List.set_cons_succ]
          refine skip_wT (i := 17) (d := some 113) rfl rfl rfl (by kernel_rfl) (by kernel_rfl) (by kernel_rfl) (fun _ _ d _ _ h => by cases d <;> exact h) s0 ?_
          simp only [Act.put, List.setIfInBounds_toArray, List.set_cons_zero, List.set_cons_succ]
          refine skip_wT (i := 18) (d := some 114) rfl rfl rfl (by kernel_rfl) (by kernel_rfl) (by kernel_rfl) (fun _ _ d _ _ h => by cases d <;> exact h) s0 ?_
          simp only [Act.put, List.setIfInBounds_toArray, List.set_cons_zero, List.set_cons_succ]
          refine skip_wT (i := 19) (d := some 115) rfl rfl rfl (by kernel_rfl) (by kernel_rfl) (by kernel_rfl) (fun _ _ d _ _ h => by cases d <;> exact h) s0 ?_
          simp only [Act.put, List.setIfInBounds_toArray, List.set_cons_zero, List.set_cons_succ]
          refine take_wT (i := 20) (d := some 116) (v := .bool false) rfl rfl rfl (by kernel_rfl) (by kernel_rfl) (by kernel_rfl) (fun _ _ d _ _ h => by cases d <;> exact h) (fun X hS => ex_pickP (c := false) (.tmp 103) (.tmp 115) (.const (.bool false)) rfl rfl rfl rfl) s0 ?_
          simp only [Act.put, List.setIfInBounds_toArray, List.set_cons_zero, List.set_cons_succ]
          refine wpAnyH_done (by kernel_rfl) ?_ _
          have hdk := hdk.on s0
          have hfk := hfk.trans (FrD.below s0)
          have hxk := blk_on hxk s0
          have NL : Hid (rb < wr.drew.heap.size ∧ W.heap.size < wr.drew.heap.size) := NL.out
          generalize wr.drew = wr at *
          clear hlt qn HBR s0
          obtain ⟨S1, S2, hs1, src1, hs2, src2⟩ := cutsE (n := n) hdk.row (by have h9 : n ≤ D2.length := HN.out; exact h9)
          have HPOS : Hid (PosP D2 d n) := ⟨HN.out, HNO.out, fun x hx => by have h9 := (List.getElem?_eq_some_iff.1 hx).1; rw [HNN.out] at h9; exact absurd h9 (Nat.lt_irrefl _)⟩
          obtain ⟨W4, hW4⟩ : ∃ W4, W4 = wr.alloc (.cells #[] 72) := ⟨_, rfl⟩
          have hB4 : Below wr.heap.size wr W4 := by rw [hW4]; exact (Below.refl wr.heap.size wr).alloc (Nat.le_refl _) _
          have ho4 := own_emp wr
          rw [← hW4] at ho4
          obtain ⟨v5, W5, hap5, own5, hbl5⟩ := appE (L2 := D2.take n) ho4 hB4.size (by have h9 : D2.length ≤ 50000 := HSZ2.out; have h8 : (D2.take n).length ≤ D2.length := (by rw [List.length_take]; exact Nat.min_le_right _ _); simp only [List.length_nil]; omega) (src1.on hB4) 43
          rw [List.nil_append] at own5
          have hb5 : Below wr.heap.size wr W5 := hB4.trans hbl5
          have hd5 := hdk.on hb5
          have hx5 := blk_on hxk hb5
          have c5' : W4.cell? ⟨rb, 5, none⟩ = some (.slice va D2.length vc) := blk_cell (j := 5) (hdk.on hB4).box rfl
          have HB5 : Hid (Below wr.heap.size wr W5) := hb5
          have HO5 : Hid _ := own5
          have HD5 : Hid (Doc rb cf t D2 (.slice va D2.length vc) W5 ∧ W5.heap[W.heap.size]? = some (.cells (u8s d).toArray 35)) := ⟨hd5, hx5⟩
          have HS1 : Hid _ := hs1
          have HAP5 : Hid _ := hap5
          have HS2 : Hid (∀ w : World, (Instr.sliceAt 43 (.slice va D2.length vc) (some (.int .i64 n)) none none).run Try.prog w = .ok S2 w) := hs2
          have HSRC2 : Hid (SrcE wr S2 (D2.drop n)) := src2
          have HDK : Hid (Doc rb cf t D2 (.slice va D2.length vc) wr ∧ FrD rb W wr) := ⟨hdk, hfk⟩
          have e4 := hW4.symm
          clear hs1 src1 hs2 src2 hB4 ho4 hap5 own5 hbl5 hb5 hd5 hx5 hW4 hdk hfk hxk
          go_wp2_with first
            | ((with_reducible show wpList _ _ _ ({ dst := _, op := Op.slice 43 (Operand.tmp 123) none (some (Operand.tmp 124)) none, type := _, pos := _, after := _, guard := _ } :: _) _ _); refine arm_slE (.tmp 123) none (some (.tmp 124)) 43 rfl rfl rfl rfl rfl (HS1.out _) ?_)
            | ((with_reducible show wpList _ _ _ ({ dst := _, op := Op.call { callee := Callee.builtin Builtin.append, args := #[(Operand.tmp 119), (Operand.tmp 125)], argTypes := #[43, 43] }, type := _, pos := _, after := _, guard := _ } :: _) _ _); refine arm_apE (.tmp 119) (.tmp 125) 43 rfl rfl rfl rfl HAP5.out ?_)
          clear e4 c5' HS1 HAP5
          refine wp_region_held (S := fun X => X.heap[W.heap.size]? = some (.cells (u8s d).toArray 35) ∧ X.cell? ⟨rb, 2, none⟩ = some (.int .i64 cf.life)) (by kernel_rfl) ?_
          show wpAnyH _ _ _ _ _ 15 (Array.replicate 15 false) _ W5.drew
          have s0 : W5.drew.heap[W.heap.size]? = some (.cells (u8s d).toArray 35) ∧ W5.drew.cell? ⟨rb, 2, none⟩ = some (.int .i64 cf.life) := ⟨HD5.out.2, blk_cell (w := W5) (j := 2) HD5.out.1.box rfl⟩
          have b5 : Below W5.heap.size W5 W5.drew := (Below.refl _ W5).drew
          have own6 := own_same (w' := W5.drew) HO5.out (fun _ _ => rfl)
          generalize W5.drew = V0 at *
          obtain ⟨en, hen⟩ : ∃ en : PE, en = ⟨d, zm, min (t + cf.life) 1099511627776⟩ := ⟨_, rfl⟩
          have hec : eC d zm (min (t + cf.life) 1099511627776) = eE en := by rw [hen]; exact (eE_ok (x := ⟨d, zm, min (t + cf.life) 1099511627776⟩) ⟨HK.out.1.fit, HK.out.1.len⟩).symm
          obtain ⟨v6, W6, hap6, own6b, hbl6⟩ := pushE own6 (Nat.le_trans HB5.out.size b5.size) (by have h9 : D2.length ≤ 50000 := HSZ2.out; have h8 : (D2.take n).length ≤ D2.length := (by rw [List.length_take]; exact Nat.min_le_right _ _); omega) en 43
          have hbs := bsE V0 en
          have bv6 : Below wr.heap.size wr W6 := (HB5.out.trans (b5.mono HB5.out.size)).trans hbl6
          have nl : rb < wr.heap.size ∧ W.heap.size < wr.heap.size := NL.out
          have bva : Below V0.heap.size V0 (V0.alloc (.cells (eE en).toArray 72)) := (Below.refl _ V0).alloc (Nat.le_refl _) _
          have s1 : (V0.alloc (.cells (eE en).toArray 72)).heap[W.heap.size]? = some (.cells (u8s d).toArray 35) ∧ (V0.alloc (.cells (eE en).toArray 72)).cell? ⟨rb, 2, none⟩ = some (.int .i64 cf.life) := ⟨blk_on s0.1 bva, (bva.cell (p := ⟨rb, 2, none⟩) (Nat.lt_of_lt_of_le nl.1 (Nat.le_trans HB5.out.size b5.size))).trans s0.2⟩
          have s2 : W6.heap[W.heap.size]? = some (.cells (u8s d).toArray 35) ∧ W6.cell? ⟨rb, 2, none⟩ = some (.int .i64 cf.life) := ⟨(hbl6.block _ nl.2).trans s0.1, (hbl6.cell (p := ⟨rb, 2, none⟩) nl.1).trans s0.2⟩
          refine take_wT (i := 0) (d := some 127) (v := v5) rfl rfl rfl (by kernel_rfl) (by kernel_rfl) (by kernel_rfl) (fun _ _ d _ _ h => by cases d <;> exact h) (fun X hS => by kernel_rfl) s0 ?_
          simp only [Act.put, List.setIfInBounds_toArray, List.set_cons_zero, List.set_cons_succ]
          refine take_wT (i := 1) (d := some 128) (v := .agg (u8s d).toArray) rfl rfl rfl (by kernel_rfl) (by kernel_rfl) (by kernel_rfl) (fun _ _ d _ _ h => by cases d <;> exact h) (fun X hS => ex_loadA (.tmp 6) 35 rfl rfl (at_A HK.out.1.len hS.1)) s0 ?_
          simp only [Act.put, List.setIfInBounds_toArray, List.set_cons_zero, List.set_cons_succ]
          refine take_wT (i := 2) (d := some 129) (v := .int .i64 zm) rfl rfl rfl (by kernel_rfl) (by kernel_rfl) (by kernel_rfl) (fun _ _ d _ _ h => by cases d <;> exact h) (fun X hS => by kernel_rfl) s0 ?_
          simp only [Act.put, List.setIfInBounds_toArray, List.set_cons_zero, List.set_cons_succ]
          refine take_wT (i := 3) (d := some 130) (v := .int .i64 t) rfl rfl rfl (by kernel_rfl) (by kernel_rfl) (by kernel_rfl) (fun _ _ d _ _ h => by cases d <;> exact h) (fun X hS => by kernel_rfl) s0 ?_
          simp only [Act.put, List.setIfInBounds_toArray, List.set_cons_zero, List.set_cons_succ]
          refine take_wT (i := 4) (d := some 131) (v := .pointer (some ⟨rb, 0, none⟩)) rfl rfl rfl (by kernel_rfl) (by kernel_rfl) (by kernel_rfl) (fun _ _ d _ _ h => by cases d <;> exact h) (fun X hS => by kernel_rfl) s0 ?_
          simp only [Act.put, List.setIfInBounds_toArray, List.set_cons_zero, List.set_cons_succ]
          refine take_wT (i := 5) (d := some 132) (v := .pointer (some ⟨rb, 0, none⟩)) rfl rfl rfl (by kernel_rfl) (by kernel_rfl) (by kernel_rfl) (fun _ _ d _ _ h => by cases d <;> exact h) (fun X hS => by kernel_rfl) s0 ?_
          simp only [Act.put, List.setIfInBounds_toArray, List.set_cons_zero, List.set_cons_succ]
          refine take_wT (i := 6) (d := some 133) (v := .pointer (some ⟨rb, 0, none⟩)) rfl rfl rfl (by kernel_rfl) (by kernel_rfl) (by kernel_rfl) (fun _ _ d _ _ h => by cases d <;> exact h) (fun X hS => by kernel_rfl) s0 ?_
          simp only [Act.put, List.setIfInBounds_toArray, List.set_cons_zero, List.set_cons_succ]
          refine take_wT (i := 7) (d := some 134) (v := .pointer (some ⟨rb, 2, none⟩)) rfl rfl rfl (by kernel_rfl) (by kernel_rfl) (by kernel_rfl) (fun _ _ d _ _ h => by cases d <;> exact h) (fun X hS => by kernel_rfl) s0 ?_
          simp only [Act.put, List.setIfInBounds_toArray, List.set_cons_zero, List.set_cons_succ]
          refine take_wT (i := 8) (d := some 135) (v := .int .i64 cf.life) rfl rfl rfl (by kernel_rfl) (by kernel_rfl) (by kernel_rfl) (fun _ _ d _ _ h => by cases d <;> exact h) (fun X hS => ex_loadA (.tmp 134) 3 rfl rfl (ld_int hS.2)) s0 ?_
          simp only [Act.put, List.setIfInBounds_toArray, List.set_cons_zero, List.set_cons_succ]
          refine take_wT (i := 9) (d := some 136) (v := .int .i64 (t + cf.life)) rfl rfl rfl (by kernel_rfl) (by kernel_rfl) (by kernel_rfl) (fun _ _ d _ _ h => by cases d <;> exact h) (fun X hS => ex_addP (.tmp 130) (.tmp 135) rfl rfl rfl HWR.out) s0 ?_
          simp only [Act.put, List.setIfInBounds_toArray, List.set_cons_zero, List.set_cons_succ]
          refine take_wT (i := 10) (d := some 137) (v := .int .i64 (min (t + cf.life) 1099511627776)) rfl rfl rfl (by kernel_rfl) (by kernel_rfl) (by kernel_rfl) (fun _ _ d _ _ h => by cases d <;> exact h) (fun X hS => ex_minP (.tmp 136) (.const (.int .i64 1099511627776)) rfl rfl rfl) s0 ?_
          simp only [Act.put, List.setIfInBounds_toArray, List.set_cons_zero, List.set_cons_succ]
          refine take_wT (i := 11) (d := some 138) (v := .agg (eE en).toArray) rfl rfl rfl (by kernel_rfl) (by kernel_rfl) (by kernel_rfl) (fun _ _ d _ _ h => by cases d <;> exact h) (fun X hS => by rw [← hec]; exact ex_buildA 72 [(0, .tmp 128), (1, .tmp 129), (2, .tmp 137)] rfl rfl (bldE HK.out.1.len zm (min (t + cf.life) 1099511627776) _)) s0 ?_
          simp only [Act.put, List.setIfInBounds_toArray, List.set_cons_zero, List.set_cons_succ]
          refine all_wT (i := 12) (by kernel_rfl) rfl rfl ?_
          refine wp_effX (d := some 139) (v := .slice (some ⟨V0.heap.size, 0, none⟩) 1 1) (w2 := V0.alloc (.cells (eE en).toArray 72)) rfl (ex_bsD (.tmp 138) rfl rfl hbs) ⟨s1, ?_⟩
          simp only [Act.put, List.setIfInBounds_toArray, List.set_cons_zero, List.set_cons_succ]
          refine all_wT (i := 13) (by kernel_rfl) rfl rfl ?_
          refine wp_effX (d := some 140) (v := v6) (w2 := W6) rfl (ex_apD (.tmp 127) (.tmp 139) rfl rfl rfl hap6) ⟨s2, ?_⟩
          simp only [Act.put, List.setIfInBounds_toArray, List.set_cons_zero, List.set_cons_succ]
          refine take_wT (i := 14) (d := some 14) (v := v6) rfl rfl rfl (by kernel_rfl) (by kernel_rfl) (by kernel_rfl) (fun _ _ d _ _ h => by cases d <;> exact h) (fun X hS => by kernel_rfl) s2 ?_
          simp only [Act.put, List.setIfInBounds_toArray, List.set_cons_zero, List.set_cons_succ]
          refine wpAnyH_done (by kernel_rfl) ?_ _
          obtain ⟨v7, W7, hap7, own7, hbl7⟩ := appE (L2 := D2.drop n) own6b bv6.size (by have h9 : D2.length ≤ 50000 := HSZ2.out; have h8 : (D2.take n).length ≤ D2.length := (by rw [List.length_take]; exact Nat.min_le_right _ _); have h7 : (D2.drop n).length ≤ D2.length := (by rw [List.length_drop]; exact Nat.sub_le _ _); simp only [List.length_append, List.length_singleton]; omega) (HSRC2.out.on bv6) 43
          have bv7 : Below wr.heap.size wr W7 := bv6.trans hbl7
          obtain ⟨a7, k7, c7, hv7⟩ : ∃ a k c, v7 = Value.slice a k c := by obtain ⟨a, c, e⟩ := own_slc own7; exact ⟨a, _, c, e⟩
          obtain ⟨hdf, hff⟩ := HDK.out.1.put bv7 (D' := putD D2 n en) own7 (fun x hx => by
            unfold putD at hx
            rcases List.mem_append.1 hx with hx | hx
            · rcases List.mem_append.1 hx with hx | hx
              · exact HDK.out.1.ok x (List.mem_of_mem_take hx)
              · simp only [List.mem_singleton] at hx
                rw [hx, hen]
                exact ⟨HK.out.1.fit, HK.out.1.len⟩
            · exact HDK.out.1.ok x (List.mem_of_mem_drop hx))
          have HFIN : Hid (TellR D1 d cf z t true (putD D2 n en) ∧ Doc rb cf t (putD D2 n en) v7 (W7.setCell ⟨rb, 5, none⟩ v7) ∧ FrD rb W (W7.setCell ⟨rb, 5, none⟩ v7)) := ⟨⟨m0, HM0.out, .inr ⟨by rw [HZM.out]; exact HGE.out, rfl, D2, n, HTP.out, HPOS.out, by rw [hen, HZM.out]⟩⟩, hdf, HDK.out.2.trans hff⟩
          have c6 : W6.cell? ⟨rb, 5, none⟩ = some (.slice va D2.length vc) := blk_cell (j := 5) (HDK.out.1.on bv6).box rfl
          have c7' : W7.cell? ⟨rb, 5, none⟩ = some (.slice va D2.length vc) := blk_cell (j := 5) (HDK.out.1.on bv7).box rfl
          have hfz := blk_open (HDK.out.1.on bv7).box 5
          have HAP7 : Hid _ := hap7
          rw [hv7] at HAP7
          rw [hv7] at HFIN
          clear s0 s1 s2 b5 own6 hen hec hap6 own6b hbl6 hbs bv6 nl bva hap7 own7 hbl7 bv7 hdf hff hv7
          go_wp2_with first
            | ((with_reducible show wpList _ _ _ ({ dst := _, op := Op.slice 43 (Operand.tmp 146) (some (Operand.tmp 147)) none none, type := _, pos := _, after := _, guard := _ } :: _) _ _); refine arm_slE (.tmp 146) (some (.tmp 147)) none 43 rfl rfl rfl rfl rfl (HS2.out _) ?_)
            | ((with_reducible show wpList _ _ _ ({ dst := _, op := Op.call { callee := Callee.builtin Builtin.append, args := #[(Operand.tmp 142), (Operand.tmp 148)], argTypes := #[43, 43] }, type := _, pos := _, after := _, guard := _ } :: _) _ _); refine arm_apE (.tmp 142) (.tmp 148) 43 rfl rfl rfl rfl HAP7.out ?_)
          try go_returns
          exact HQ.out _ _ ⟨true, _, rfl, HFIN.out.1, ⟨_, HFIN.out.2.1⟩, HFIN.out.2.2⟩
end Go.Proofs.Ytgndiblonhgihaa
