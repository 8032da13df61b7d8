/-
  The document's cache: tidy, without, at, mtu.
  slices.SortFunc at rows of entries: where it lies.
-/
import Derived.Test.YtgndiblonhgihaaFold24
import Derived.BigQuiet
import Derived.Shelf.SlSortCmp.NoneTotal
namespace Go.Proofs.Ytgndiblonhgihaa
open Go Go.RowKit Go.Lib
set_option linter.unusedVariables false
set_option linter.unusedSimpArgs false

theorem hi_binE {P : Program} {w : World} {o : Oper} {a : Act} {K : Act → Prop} (b : BinOp) (t u : TypeId) (x y : Operand) (hop : o.op = Op.binOp b t x y u) {vx vy v : Value} (hx : a.eval x = vx) (hy : a.eval y = vy) (hgd : ∀ W, (eqGuard b t x y vx vy).run P W = .ok () W) (hrun : ∀ W, (binOp b t vx vy).run P W = .ok v W) (hK : K (a.put o.dst v)) :
    o.quiet P a (fun w' => ∃ x : Hi w, w' = x.W) K := by
  refine ⟨v, fun W hW => ?_, hK⟩
  unfold Oper.quietAt
  simp [execOp, hop, hx, hy, hgd, hrun, Result.andThen, Oper.quietUpon]
theorem gdA (b : BinOp) (x y : Operand) (u v : Array Value) (w : World) : (eqGuard b 35 x y (.agg u) (.agg v)).run Try.prog w = .ok () w := by
  have he : Try.prog.eqGuardType Try.prog.depth 35 = false := by kernel_rfl
  cases b <;> simp [eqGuard, go_sem, he]
theorem eqlA {p q : List Int} (hp : K16 p) (hq : K16 q) (w : World) : (binOp .eql 35 (.agg (u8s p).toArray) (.agg (u8s q).toArray)).run Try.prog w = .ok (.bool (decide (p = q))) w := by
  have := eq_arr16 9998 p q hp.fit hq.fit hp.len hq.len w
  simp only [binOp, Op.equal, Op.maxDepth]
  simp [this]
/-- The entries that count yet. -/
def liveD (D : List PE) (t : Int) : List PE := D.filter fun x => decide (t < x.u)
theorem liveD_take {D : List PE} {n : Nat} {e : PE} (t : Int) (he : D[n]? = some e) : liveD (D.take (n + 1)) t = if t < e.u then liveD (D.take n) t ++ [e] else liveD (D.take n) t := by
  unfold liveD
  rw [List.take_add_one, he, Option.toList, List.filter_append]
  by_cases c : t < e.u
  · rw [if_pos c]; simp [c]
  · rw [if_neg c]; simp [c]
theorem liveD_len (D : List PE) (t : Int) : (liveD D t).length ≤ D.length := List.length_filter_le _ _
theorem liveD_ok {D : List PE} (h : ∀ x ∈ D, x.Ok) (t : Int) : ∀ x ∈ liveD D t, x.Ok := fun x hx => h x (List.mem_filter.1 hx).1
/-- The entries but one. -/
def woD (D : List PE) (k : Nat) : List PE := D.take k ++ D.drop (k + 1)
theorem woD_take {D : List PE} {n : Nat} {e : PE} (k : Nat) (he : D[n]? = some e) : woD (D.take (n + 1)) k = if n = k then woD (D.take n) k else woD (D.take n) k ++ [e] := by
  have hl : n < D.length := (List.getElem?_eq_some_iff.1 he).1
  have ha : (D.take n).length = n := by simp; omega
  rw [List.take_add_one, he, Option.toList]
  generalize D.take n = A at *
  unfold woD
  by_cases c : n = k
  · subst c
    rw [if_pos rfl, List.take_append_of_le_length (by omega), List.drop_eq_nil_of_le (by simp; omega), List.drop_eq_nil_of_le (by omega)]
  · rw [if_neg c]
    by_cases d : n < k
    · rw [List.take_of_length_le (by simp; omega), List.take_of_length_le (by omega), List.drop_eq_nil_of_le (by simp; omega), List.drop_eq_nil_of_le (by omega)]
      simp
    · rw [List.take_append_of_le_length (by omega), List.drop_append_of_le_length (by omega)]
      simp
theorem woD_len (D : List PE) (k : Nat) : (woD D k).length ≤ D.length := by
  unfold woD
  simp
  omega
theorem woD_ok {D : List PE} (h : ∀ x ∈ D, x.Ok) (k : Nat) : ∀ x ∈ woD D k, x.Ok := fun x hx => by
  unfold woD at hx
  rcases List.mem_append.1 hx with h' | h'
  · exact h x (List.mem_of_mem_take h')
  · exact h x (List.mem_of_mem_drop h')
set_option maxHeartbeats 8000000 in
set_option maxRecDepth 100000 in
theorem RTidy {W : World} {rb : Nat} {cf : Cf} {now : Int} {D : List PE} {v : Value} (h : Doc rb cf now D v W) (hlen : D.length ≤ 100000) (t : Int) :
    Calls Try.prog 40 #[.pointer (some ⟨rb, 0, none⟩), .int .i64 t] W fun e w' => e = .returned (.tuple #[]) ∧ (∃ u, Doc rb cf now (liveD D t) u w') ∧ FrD rb W w' := by
  generalize hQ : (fun (e : Ending) (w' : World) => e = .returned (.tuple #[]) ∧ (∃ u, Doc rb cf now (liveD D t) u w') ∧ FrD rb W w') = Q
  have HQ : Hid (∀ e w', (e = .returned (.tuple #[]) ∧ (∃ u, Doc rb cf now (liveD D t) u w') ∧ FrD rb W w') → Q e w') := fun e w' hh => by rw [← hQ]; exact hh
  clear hQ
  obtain ⟨ad, c, hv⟩ := own_slc h.row
  have HV : Hid (v = .slice ad D.length c) := hv
  have HD : Hid (Doc rb cf now D v W) := h
  have HSZ : Hid (D.length ≤ 100000) := hlen
  have HLT : Hid (rb < W.heap.size) := h.lt
  clear hv h
  go_enter Try.func40, Try.ntmps40
  go_wp2
  go_loopw [4, 5] (fun lv i wr => ∃ n : Nat, n ≤ D.length ∧ i = .int .i64 n ∧ wr.ownsRow W.heap.size 72 18 lv (liveD (D.take n) t).length ((liveD (D.take n) t).flatMap eE) ∧ Below W.heap.size W wr) (fun _ i _ => D.length - (intOf i).toNat)
  case atStart => exact ⟨0, Nat.zero_le _, rfl, (by first | exact World.ownsRow_nil _ _ _ _ | (rw [List.take_zero]; simp only [woD, List.take_nil, List.drop_nil, List.append_nil, List.flatMap_nil, List.length_nil]; exact World.ownsRow_nil _ _ _ _)), Below.refl _ _⟩
  case round =>
    obtain ⟨n, hn, rfl, hrow, hBk⟩ := hrel
    obtain ⟨la, lc, hlv⟩ := own_slc hrow
    subst hlv
    have hdk := HD.out.on hBk
    have HROW : Hid _ := hrow
    have c5 : wr.cell? ⟨rb, 5, none⟩ = some (.slice ad D.length c) := by rw [← HV.out]; exact blk_cell hdk.box rfl
    have HBR : Hid (Below W.heap.size W wr) := hBk
    by_cases hlt : n < D.length
    · obtain ⟨e0, he0⟩ : ∃ e0, D[n]? = some e0 := ⟨_, List.getElem?_eq_getElem hlt⟩
      obtain ⟨g, c', hv', hg, hbg, hcx⟩ := own_atE hdk.row he0
      rw [HV.out] at hv'
      obtain ⟨rfl, rfl⟩ : ad = some ⟨g, 0, none⟩ ∧ c = c' := by injection hv' with h1 _ h3; exact ⟨h1, h3⟩
      have cu : wr.cell? ⟨g, n * 18 + 17, none⟩ = some (.int .i64 e0.u) := cE_u17 hcx
      have q1 : decide ((n : Int) < D.length) = true := by simpa using hlt
      have w9 : IntKind.i64.wrap ((n : Int) + 1) = (n : Int) + 1 := wrap_i64 _ ⟨by omega, by omega⟩
      have HN : Hid (n < D.length) := hlt
      have HPL : Hid _ := liveD_take t he0
      have HE1 : Hid _ := ld_cE hcx
      by_cases hh : t < e0.u
      · have q2 : decide (t < e0.u) = true := decide_eq_true hh
        have hnx := HPL.out
        rw [if_pos hh] at hnx
        have HNX : Hid _ := hnx
        obtain ⟨x2, X2, hap2, hown2, hb2⟩ := pushE hrow hBk.size (by have h1 := HSZ.out; (have : (liveD (D.take n) t).length ≤ (D.take n).length := liveD_len _ _); (have : (D.take n).length ≤ n := by rw [List.length_take]; exact Nat.min_le_left _ _); omega) e0 43
        have HBS : Hid _ := bsE wr e0
        have HAP2 : Hid _ := hap2
        have HR2 : Hid _ := hown2
        have HB2 : Hid (Below W.heap.size W X2) := hBk.trans hb2
        clear hcx hdk hv' hBk he0 hrow hap2 hown2 hb2 hnx hh
        go_wp2_with first
          | ((with_reducible show wpList _ _ _ ({ dst := _, op := Op.load 72 (Operand.tmp 31), type := _, pos := _, after := _, guard := _ } :: _) _ _); refine armL (.tmp 31) 72 rfl rfl rfl HE1.out ?_)
          | ((with_reducible show wpList _ _ _ ({ dst := _, op := Op.buildSlice 43 1 #[(0, (Operand.tmp 32))], type := _, pos := _, after := _, guard := _ } :: _) _ _); refine arm_bsE (.tmp 32) 43 rfl rfl rfl HBS.out ?_)
          | ((with_reducible show wpList _ _ _ ({ dst := _, op := Op.call { callee := Callee.builtin Builtin.append, args := #[(Operand.tmp 25), (Operand.tmp 33)], argTypes := #[43, 43] }, type := _, pos := _, after := _, guard := _ } :: _) _ _); refine arm_apE (.tmp 25) (.tmp 33) 43 rfl rfl rfl rfl HAP2.out ?_)
        go_roundw
        case rel => exact ⟨n + 1, HN.out, rfl, by rw [HNX.out]; exact HR2.out, HB2.out⟩
        case measure => show D.length - (n + 1) < D.length - n; have := HN.out; omega
      · have q2 : decide (t < e0.u) = false := decide_eq_false hh
        have hnx := HPL.out
        rw [if_neg hh] at hnx
        have HNX : Hid _ := hnx
        clear hcx hdk hv' hBk he0 hrow hnx hh
        go_wp2
        go_roundw
        case rel => exact ⟨n + 1, HN.out, rfl, by rw [HNX.out]; exact HROW.out, HBR.out⟩
        case measure => show D.length - (n + 1) < D.length - n; have := HN.out; omega
    · obtain rfl : n = D.length := by omega
      rw [List.take_length] at hrow HROW
      have hfz := blk_open hdk.box 5
      obtain ⟨hdf, hfr⟩ := HD.out.put hBk hrow (liveD_ok HD.out.ok _)
      have HDF : Hid _ := hdf
      have HFR : Hid _ := hfr
      clear hdk hBk hrow hlt HROW hdf hfr
      go_wp2
      try go_returns
      refine HQ.out _ _ ⟨rfl, ⟨_, HDF.out⟩, HFR.out⟩
set_option maxHeartbeats 8000000 in
set_option maxRecDepth 100000 in
theorem RWithout {W : World} {rb : Nat} {cf : Cf} {now : Int} {D : List PE} {v : Value} (h : Doc rb cf now D v W) (hlen : D.length ≤ 100000) (k : Nat) :
    Calls Try.prog 36 #[.pointer (some ⟨rb, 0, none⟩), .int .i64 (k : Int)] W fun e w' => e = .returned (.tuple #[]) ∧ (∃ u, Doc rb cf now (woD D k) u w') ∧ FrD rb W w' := by
  generalize hQ : (fun (e : Ending) (w' : World) => e = .returned (.tuple #[]) ∧ (∃ u, Doc rb cf now (woD D k) u w') ∧ FrD rb W w') = Q
  have HQ : Hid (∀ e w', (e = .returned (.tuple #[]) ∧ (∃ u, Doc rb cf now (woD D k) u w') ∧ FrD rb W w') → Q e w') := fun e w' hh => by rw [← hQ]; exact hh
  clear hQ
  obtain ⟨ad, c, hv⟩ := own_slc h.row
  have HV : Hid (v = .slice ad D.length c) := hv
  have HD : Hid (Doc rb cf now D v W) := h
  have HSZ : Hid (D.length ≤ 100000) := hlen
  have HLT : Hid (rb < W.heap.size) := h.lt
  clear hv h
  go_enter Try.func36, Try.ntmps36
  go_wp2
  go_loopw [4, 5] (fun lv i wr => ∃ n : Nat, n ≤ D.length ∧ i = .int .i64 n ∧ wr.ownsRow W.heap.size 72 18 lv (woD (D.take n) k).length ((woD (D.take n) k).flatMap eE) ∧ Below W.heap.size W wr) (fun _ i _ => D.length - (intOf i).toNat)
  case atStart => exact ⟨0, Nat.zero_le _, rfl, (by first | exact World.ownsRow_nil _ _ _ _ | (rw [List.take_zero]; simp only [woD, List.take_nil, List.drop_nil, List.append_nil, List.flatMap_nil, List.length_nil]; exact World.ownsRow_nil _ _ _ _)), Below.refl _ _⟩
  case round =>
    obtain ⟨n, hn, rfl, hrow, hBk⟩ := hrel
    obtain ⟨la, lc, hlv⟩ := own_slc hrow
    subst hlv
    have hdk := HD.out.on hBk
    have HROW : Hid _ := hrow
    have c5 : wr.cell? ⟨rb, 5, none⟩ = some (.slice ad D.length c) := by rw [← HV.out]; exact blk_cell hdk.box rfl
    have HBR : Hid (Below W.heap.size W wr) := hBk
    by_cases hlt : n < D.length
    · obtain ⟨e0, he0⟩ : ∃ e0, D[n]? = some e0 := ⟨_, List.getElem?_eq_getElem hlt⟩
      obtain ⟨g, c', hv', hg, hbg, hcx⟩ := own_atE hdk.row he0
      rw [HV.out] at hv'
      obtain ⟨rfl, rfl⟩ : ad = some ⟨g, 0, none⟩ ∧ c = c' := by injection hv' with h1 _ h3; exact ⟨h1, h3⟩
      have q1 : decide ((n : Int) < D.length) = true := by simpa using hlt
      have w9 : IntKind.i64.wrap ((n : Int) + 1) = (n : Int) + 1 := wrap_i64 _ ⟨by omega, by omega⟩
      have HN : Hid (n < D.length) := hlt
      have HPL : Hid _ := woD_take k he0
      have HE1 : Hid _ := ld_cE hcx
      by_cases hh : n ≠ k
      · have q2 : ((n : Int) != k) = true := by simp; omega
        have hnx := HPL.out
        rw [if_neg hh] at hnx
        have HNX : Hid _ := hnx
        obtain ⟨x2, X2, hap2, hown2, hb2⟩ := pushE hrow hBk.size (by have h1 := HSZ.out; (have : (woD (D.take n) k).length ≤ (D.take n).length := woD_len _ _); (have : (D.take n).length ≤ n := by rw [List.length_take]; exact Nat.min_le_left _ _); omega) e0 43
        have HBS : Hid _ := bsE wr e0
        have HAP2 : Hid _ := hap2
        have HR2 : Hid _ := hown2
        have HB2 : Hid (Below W.heap.size W X2) := hBk.trans hb2
        clear hcx hdk hv' hBk he0 hrow hap2 hown2 hb2 hnx hh
        go_wp2_with first
          | ((with_reducible show wpList _ _ _ ({ dst := _, op := Op.load 72 (Operand.tmp 24), type := _, pos := _, after := _, guard := _ } :: _) _ _); refine armL (.tmp 24) 72 rfl rfl rfl HE1.out ?_)
          | ((with_reducible show wpList _ _ _ ({ dst := _, op := Op.buildSlice 43 1 #[(0, (Operand.tmp 25))], type := _, pos := _, after := _, guard := _ } :: _) _ _); refine arm_bsE (.tmp 25) 43 rfl rfl rfl HBS.out ?_)
          | ((with_reducible show wpList _ _ _ ({ dst := _, op := Op.call { callee := Callee.builtin Builtin.append, args := #[(Operand.tmp 18), (Operand.tmp 26)], argTypes := #[43, 43] }, type := _, pos := _, after := _, guard := _ } :: _) _ _); refine arm_apE (.tmp 18) (.tmp 26) 43 rfl rfl rfl rfl HAP2.out ?_)
        go_roundw
        case rel => exact ⟨n + 1, HN.out, rfl, by rw [HNX.out]; exact HR2.out, HB2.out⟩
        case measure => show D.length - (n + 1) < D.length - n; have := HN.out; omega
      · have q2 : ((n : Int) != k) = false := by simp; omega
        have hnx := HPL.out
        rw [if_pos (Decidable.not_not.1 hh)] at hnx
        have HNX : Hid _ := hnx
        clear hcx hdk hv' hBk he0 hrow hnx hh
        go_wp2
        go_roundw
        case rel => exact ⟨n + 1, HN.out, rfl, by rw [HNX.out]; exact HROW.out, HBR.out⟩
        case measure => show D.length - (n + 1) < D.length - n; have := HN.out; omega
    · obtain rfl : n = D.length := by omega
      rw [List.take_length] at hrow HROW
      have hfz := blk_open hdk.box 5
      obtain ⟨hdf, hfr⟩ := HD.out.put hBk hrow (woD_ok HD.out.ok _)
      have HDF : Hid _ := hdf
      have HFR : Hid _ := hfr
      clear hdk hBk hrow hlt HROW hdf hfr
      go_wp2
      try go_returns
      refine HQ.out _ _ ⟨rfl, ⟨_, HDF.out⟩, HFR.out⟩
/-- Where an address stands. -/
def AtP (D : List PE) (d : List Int) (r : Int) : Prop := (∃ (i : Nat) (x : PE), r = i ∧ D[i]? = some x ∧ x.k = d) ∨ (r = -1 ∧ ∀ x ∈ D, x.k ≠ d)
set_option maxHeartbeats 8000000 in
set_option maxRecDepth 100000 in
theorem RAt {W : World} {rb : Nat} {cf : Cf} {now : Int} {D : List PE} {v : Value} (h : Doc rb cf now D v W) (hlen : D.length ≤ 100000) {d : List Int} (hd : K16 d) :
    Calls Try.prog 35 #[.pointer (some ⟨rb, 0, none⟩), .agg (u8s d).toArray] W fun e w' => ∃ r, e = .returned (.int .i64 r) ∧ AtP D d r ∧ Below W.heap.size W w' := by
  generalize hQ : (fun (e : Ending) (w' : World) => ∃ r, e = .returned (.int .i64 r) ∧ AtP D d r ∧ Below W.heap.size W w') = Q
  have HQ : Hid (∀ e w', (∃ r, e = .returned (.int .i64 r) ∧ AtP D d r ∧ Below W.heap.size W w') → Q e w') := fun e w' hh => by rw [← hQ]; exact hh
  clear hQ
  obtain ⟨W0, hW0⟩ : ∃ W0, W0 = W.alloc (.cells (u8s d).toArray 35) := ⟨_, rfl⟩
  have hB0 : Below W.heap.size W W0 := by rw [hW0]; exact (Below.refl W.heap.size W).alloc (Nat.le_refl _) _
  have hx0 : W0.heap[W.heap.size]? = some (.cells (u8s d).toArray 35) := by rw [hW0]; exact blk_new W _
  obtain ⟨ad, c, hv⟩ := own_slc h.row
  have HV : Hid (v = .slice ad D.length c) := hv
  have HD0 : Hid (Doc rb cf now D v W0) := h.on hB0
  have HX0 : Hid (W0.heap[W.heap.size]? = some (.cells (u8s d).toArray 35)) := hx0
  have HB0 : Hid (Below W.heap.size W W0) := hB0
  have HK : Hid (K16 d) := hd
  have HSZ : Hid (D.length ≤ 100000) := hlen
  have hW := hW0.symm
  clear hW0 hB0 hx0 hv h hd
  go_enter Try.func35, Try.ntmps35
  go_wp2
  go_loopw [5] (fun i wr => ∃ n : Nat, n ≤ D.length ∧ i = .int .i64 n ∧ (∀ j x, j < n → D[j]? = some x → x.k ≠ d) ∧ Below W0.heap.size W0 wr) (fun i _ => D.length - (intOf i).toNat)
  case atStart => exact ⟨0, Nat.zero_le _, rfl, fun j x hj => by omega, Below.refl _ _⟩
  case round =>
    obtain ⟨n, hn, rfl, hno, hBk⟩ := hrel
    have hdk := HD0.out.on hBk
    have c1 : ∀ x : Hi wr, x.W.cell? ⟨rb, 5, none⟩ = some (.slice ad D.length c) := fun x => by rw [← HV.out]; exact blk_cell (hdk.on x.below).box rfl
    have c1w : wr.cell? ⟨rb, 5, none⟩ = some (.slice ad D.length c) := c1 (Hi.refl wr)
    have HBR : Hid (Below W0.heap.size W0 wr) := hBk
    have HNO : Hid (∀ j x, j < n → D[j]? = some x → x.k ≠ d) := hno
    by_cases hlt : n < D.length
    · obtain ⟨e0, he0⟩ : ∃ e0, D[n]? = some e0 := ⟨_, List.getElem?_eq_getElem hlt⟩
      obtain ⟨g, c', hv', hg, hbg, hcx⟩ := own_atE hdk.row he0
      rw [HV.out] at hv'
      obtain ⟨rfl, rfl⟩ : ad = some ⟨g, 0, none⟩ ∧ c = c' := by injection hv' with h1 _ h3; exact ⟨h1, h3⟩
      have hok := HD0.out.ok e0 (List.mem_of_getElem? he0)
      have hcu : ∀ x : Hi wr, CellsAt x.W g (n * 18) (eE e0) := fun x i u hi => (x.below.cell (p := ⟨g, _, none⟩) hg).trans (hcx i u hi)
      have HL1 : Hid (∀ x : Hi wr, (Instr.loadAt 35 (.pointer (some ⟨g, n * 18, none⟩))).run Try.prog x.W = .ok (.agg (u8s e0.k).toArray) x.W) := fun x => ld_kE hok (hcu x)
      have HL2 : Hid (∀ x : Hi wr, (Instr.loadAt 35 (.pointer (some ⟨W.heap.size, 0, none⟩))).run Try.prog x.W = .ok (.agg (u8s d).toArray) x.W) := fun x => at_A HK.out.len (Hi.blk (blk_on HX0.out hBk) x)
      have q1 : decide ((n : Int) < D.length) = true := by simpa using hlt
      have w9 : IntKind.i64.wrap ((n : Int) + 1) = (n : Int) + 1 := wrap_i64 _ ⟨by omega, by omega⟩
      have HE0 : Hid (D[n]? = some e0) := he0
      have HN : Hid (n < D.length) := hlt
      have HEQ : Hid (∀ X : World, (binOp .eql 35 (.agg (u8s e0.k).toArray) (.agg (u8s d).toArray)).run Try.prog X = .ok (.bool (decide (e0.k = d))) X) := fun X => eqlA ⟨hok.1, hok.2⟩ HK.out X
      clear hcx hcu hdk hv' hBk he0 hno hok hn
      cases hh : decide (e0.k = d) with
      | true =>
        rw [hh] at HEQ
        have hh' : e0.k = d := of_decide_eq_true hh
        have HH : Hid (e0.k = d) := hh'
        clear hh'
        clear hh
        go_wp2_with fail
        refine wp_region_hi (by kernel_rfl) (by kernel_rfl) ?_
        repeat (first | go_big_quiet_skip | (go_big_quiet_want; refine hi_load (.tmp 21) 35 rfl rfl HL1.out ?_; simp only [Act.put, List.setIfInBounds_toArray, List.set_cons_zero, List.set_cons_succ]; go_big_quiet_on) | (go_big_quiet_want; refine hi_load (.tmp 3) 35 rfl rfl HL2.out ?_; simp only [Act.put, List.setIfInBounds_toArray, List.set_cons_zero, List.set_cons_succ]; go_big_quiet_on) | (go_big_quiet_want; refine hi_binE .eql 35 35 (.tmp 22) (.tmp 23) rfl rfl rfl (fun W => gdA _ _ _ _ _ W) HEQ.out ?_; simp only [Act.put, List.setIfInBounds_toArray, List.set_cons_zero, List.set_cons_succ]; go_big_quiet_on) | (go_big_quiet_want; go_big_quiet_op; first | go_big_quiet_on | go_big_quiet_call (fail)))
        refine wpQuiet_nil ?_
        intro _ hw
        obtain ⟨yy, rfl⟩ := hw
        have HF : Hid (Below W.heap.size W yy.W) := HB0.out.trans ((HBR.out.trans (yy.below.mono HBR.out.size)).mono HB0.out.size)
        go_wp2
        try go_ret2
        exact HQ.out _ _ ⟨_, rfl, .inl ⟨n, e0, rfl, HE0.out, HH.out⟩, HF.out⟩
      | false =>
        rw [hh] at HEQ
        have hh' : e0.k ≠ d := of_decide_eq_false hh
        have HH : Hid (e0.k ≠ d) := hh'
        clear hh'
        clear hh
        go_wp2_with fail
        refine wp_region_hi (by kernel_rfl) (by kernel_rfl) ?_
        repeat (first | go_big_quiet_skip | (go_big_quiet_want; refine hi_load (.tmp 21) 35 rfl rfl HL1.out ?_; simp only [Act.put, List.setIfInBounds_toArray, List.set_cons_zero, List.set_cons_succ]; go_big_quiet_on) | (go_big_quiet_want; refine hi_load (.tmp 3) 35 rfl rfl HL2.out ?_; simp only [Act.put, List.setIfInBounds_toArray, List.set_cons_zero, List.set_cons_succ]; go_big_quiet_on) | (go_big_quiet_want; refine hi_binE .eql 35 35 (.tmp 22) (.tmp 23) rfl rfl rfl (fun W => gdA _ _ _ _ _ W) HEQ.out ?_; simp only [Act.put, List.setIfInBounds_toArray, List.set_cons_zero, List.set_cons_succ]; go_big_quiet_on) | (go_big_quiet_want; go_big_quiet_op; first | go_big_quiet_on | go_big_quiet_call (fail)))
        refine wpQuiet_nil ?_
        intro _ hw
        obtain ⟨yy, rfl⟩ := hw
        go_wp2
        go_roundw
        case rel =>
          refine ⟨n + 1, HN.out, rfl, fun j x hj hx => ?_, HBR.out.trans (yy.below.mono HBR.out.size)⟩
          by_cases cj : j = n
          · subst cj
            rw [HE0.out] at hx
            injection hx with hx
            rw [← hx]
            exact HH.out
          · exact HNO.out j x (by omega) hx
        case measure => show D.length - (n + 1) < D.length - n; have := HN.out; omega
    · obtain rfl : n = D.length := by omega
      have HF : Hid (Below W.heap.size W wr) := HB0.out.trans (hBk.mono HB0.out.size)
      clear hdk hBk c1 hno
      go_wp2
      try go_ret2
      exact HQ.out _ _ ⟨_, rfl, .inr ⟨rfl, fun x hx => by
        obtain ⟨j, hj⟩ := List.getElem?_of_mem hx
        exact HNO.out j x (List.getElem?_eq_some_iff.1 hj).1 hj⟩, HF.out⟩
/-- What an address's MTU is. -/
def MtuP (D : List PE) (d : List Int) (link m : Int) : Prop := (∃ x ∈ D, x.k = d ∧ m = x.m) ∨ ((∀ x ∈ D, x.k ≠ d) ∧ m = link)
set_option maxHeartbeats 8000000 in
set_option maxRecDepth 100000 in
theorem RMtu {W : World} {rb : Nat} {cf : Cf} {now : Int} {D : List PE} {v : Value} (h : Doc rb cf now D v W) (hlen : D.length ≤ 100000) {d : List Int} (hd : K16 d) :
    Calls Try.prog 31 #[.pointer (some ⟨rb, 0, none⟩), .agg (u8s d).toArray] W fun e w' => ∃ m, e = .returned (.int .i64 m) ∧ MtuP D d cf.link m ∧ Below W.heap.size W w' := by
  obtain ⟨W0, hW0⟩ : ∃ W0, W0 = W.alloc (.cells (u8s d).toArray 35) := ⟨_, rfl⟩
  have hB0 : Below W.heap.size W W0 := by rw [hW0]; exact (Below.refl W.heap.size W).alloc (Nat.le_refl _) _
  have hx0 : W0.heap[W.heap.size]? = some (.cells (u8s d).toArray 35) := by rw [hW0]; exact blk_new W _
  have HD0 : Hid (Doc rb cf now D v W0) := h.on hB0
  have HB0 : Hid (Below W.heap.size W W0) := hB0
  have HAT : Hid _ := RAt HD0.out hlen hd
  have HL0 : Hid _ := at_A hd.len hx0
  have hW := hW0.symm
  have HSZ : Hid (D.length ≤ 100000) := hlen
  clear hW0 hB0 hx0 h hd
  go_enter Try.func31, Try.ntmps31
  go_wp2_with first
    | ((with_reducible show wpList _ _ _ ({ dst := _, op := Op.load 35 (Operand.tmp 3), type := _, pos := _, after := _, guard := _ } :: _) _ _); refine armL (.tmp 3) 35 rfl rfl rfl HL0.out ?_)
  refine Calls.mono HAT.out ?_
  rintro e w1 ⟨r, rfl, hp, hb1⟩
  have hd1 := HD0.out.on hb1
  have HF : Hid (Below W.heap.size W w1) := HB0.out.trans (hb1.mono HB0.out.size)
  rcases hp with ⟨i, x, rfl, hi, hk⟩ | ⟨rfl, hno⟩
  · obtain ⟨g, c', hv', hg, hbg, hcx⟩ := own_atE hd1.row hi
    have hil := (List.getElem?_eq_some_iff.1 hi).1
    have c5 : w1.cell? ⟨rb, 5, none⟩ = some (.slice (some ⟨g, 0, none⟩) D.length c') := by rw [← hv']; exact blk_cell hd1.box rfl
    have cm : w1.cell? ⟨g, i * 18 + 16, none⟩ = some (.int .i64 x.m) := cE_m16 hcx
    have q1 : decide ((i : Int) < 0) = false := decide_eq_false (by omega)
    have q2 : decide ((i : Int) < D.length) = true := decide_eq_true (by omega)
    have HFIN : Hid (MtuP D d cf.link x.m) := .inl ⟨x, List.mem_of_getElem? hi, hk, rfl⟩
    clear hcx hd1 hv' hb1 HL0 HAT hW hi hk
    go_wp2
    try go_returns
    exact ⟨_, rfl, HFIN.out, HF.out⟩
  · have c1 : w1.cell? ⟨rb, 1, none⟩ = some (.int .i64 cf.link) := blk_cell (j := 1) hd1.box rfl
    have HFIN : Hid (MtuP D d cf.link cf.link) := .inr ⟨hno, rfl⟩
    clear hd1 hb1 HL0 HAT hW hno
    go_wp2
    try go_returns
    exact ⟨_, rfl, HFIN.out, HF.out⟩
end Go.Proofs.Ytgndiblonhgihaa

namespace Go.Proofs.Ytgndiblonhgihaa
open Go Go.RowKit Go.Lib Go.Shelf
set_option linter.unusedVariables false
set_option linter.unusedSimpArgs false

def sortR : Go.Shelf.Ren := ⟨fun | 6 => 43 | 15 => 52 | 14 => 51 | 28 => 65 | 29 => 66 | 20 => 57 | 21 => 58 | 22 => 59 | 23 => 60 | 24 => 61 | 25 => 62 | 26 => 63 | 27 => 64 | 46 => 69 | 47 => 70 | 48 => 71 | 49 => 72 | 50 => 73 | 57 => 74 | n => n, fun | 22 => 43 | 24 => 72 | 25 => 83 | 3 => 3 | 39 => 85 | 0 => 0 | 53 => 100 | 55 => 102 | 4 => 4 | 46 => 94 | 45 => 93 | 50 => 57 | 5 => 5 | 9 => 9 | 66 => 104 | 70 => 108 | 76 => 110 | 77 => 111 | n => n, fun n => n⟩
set_option maxRecDepth 100000 in
theorem sortL : Go.Proofs.SlLaysF0.n6 Try.prog sortR := {
  mixed := by kernel_rfl
  f6 := ⟨ "slices.SortFunc[[]ferryman/api.PathEntry,ferryman/api.PathEntry]", by decide, Try.func43.trans (congrArg some (by kernel_rfl))⟩
  f14 := ⟨ "slices.pdqsortCmpFunc[ferryman/api.PathEntry]", by decide, Try.func51.trans (congrArg some (by kernel_rfl))⟩
  f15 := Try.func52.trans (congrArg some (by kernel_rfl))
  f20 := ⟨ "slices.insertionSortCmpFunc[ferryman/api.PathEntry]", by decide, Try.func57.trans (congrArg some (by kernel_rfl))⟩
  f21 := ⟨ "slices.heapSortCmpFunc[ferryman/api.PathEntry]", by decide, Try.func58.trans (congrArg some (by kernel_rfl))⟩
  f22 := ⟨ "slices.breakPatternsCmpFunc[ferryman/api.PathEntry]", by decide, Try.func59.trans (congrArg some (by kernel_rfl))⟩
  f23 := ⟨ "slices.choosePivotCmpFunc[ferryman/api.PathEntry]", by decide, Try.func60.trans (congrArg some (by kernel_rfl))⟩
  f24 := ⟨ "slices.reverseRangeCmpFunc[ferryman/api.PathEntry]", by decide, Try.func61.trans (congrArg some (by kernel_rfl))⟩
  f25 := ⟨ "slices.partialInsertionSortCmpFunc[ferryman/api.PathEntry]", by decide, Try.func62.trans (congrArg some (by kernel_rfl))⟩
  f26 := ⟨ "slices.partitionEqualCmpFunc[ferryman/api.PathEntry]", by decide, Try.func63.trans (congrArg some (by kernel_rfl))⟩
  f27 := ⟨ "slices.partitionCmpFunc[ferryman/api.PathEntry]", by decide, Try.func64.trans (congrArg some (by kernel_rfl))⟩
  f28 := Try.func65.trans (congrArg some (by kernel_rfl))
  f29 := Try.func66.trans (congrArg some (by kernel_rfl))
  f46 := ⟨ "slices.siftDownCmpFunc[ferryman/api.PathEntry]", by decide, Try.func69.trans (congrArg some (by kernel_rfl))⟩
  f47 := Try.func70.trans (congrArg some (by kernel_rfl))
  f48 := Try.func71.trans (congrArg some (by kernel_rfl))
  f49 := ⟨ "slices.medianAdjacentCmpFunc[ferryman/api.PathEntry]", by decide, Try.func72.trans (congrArg some (by kernel_rfl))⟩
  f50 := ⟨ "slices.medianCmpFunc[ferryman/api.PathEntry]", by decide, Try.func73.trans (congrArg some (by kernel_rfl))⟩
  f57 := ⟨ "slices.order2CmpFunc[ferryman/api.PathEntry]", by decide, Try.func74.trans (congrArg some (by kernel_rfl))⟩
  t0 := Try.underlying0
  a0 := Try.isAgg0
  z0 := Try.sizeOf0
  v0 := Try.zeroValue0
  t3 := Try.underlying3
  a3 := Try.isAgg3
  z3 := Try.sizeOf3
  v3 := Try.zeroValue3
  t4 := Try.underlying4
  a4 := Try.isAgg4
  z4 := Try.sizeOf4
  v4 := Try.zeroValue4
  t5 := Try.underlying5
  a5 := Try.isAgg5
  z5 := Try.sizeOf5
  v5 := Try.zeroValue5
  t9 := Try.underlying9
  a9 := Try.isAgg9
  z9 := Try.sizeOf9
  v9 := Try.zeroValue9
  t22 := Try.underlying43
  a22 := Try.isAgg43
  z22 := Try.sizeOf43
  v22 := Try.zeroValue43
  t25 := Try.underlying83
  a25 := Try.isAgg83
  z25 := Try.sizeOf83
  v25 := Try.zeroValue83
  t39 := Try.underlying85
  a39 := Try.isAgg85
  z39 := Try.sizeOf85
  v39 := Try.zeroValue85
  t45 := Try.underlying93
  a45 := Try.isAgg93
  z45 := Try.sizeOf93
  v45 := Try.zeroValue93
  t46 := Try.underlying94
  a46 := Try.isAgg94
  z46 := Try.sizeOf94
  v46 := Try.zeroValue94
  t50 := Try.underlying57
  a50 := Try.isAgg57
  z50 := Try.sizeOf57
  v50 := Try.zeroValue57
  t53 := Try.underlying100
  a53 := Try.isAgg100
  z53 := Try.sizeOf100
  v53 := Try.zeroValue100
  t55 := Try.underlying102
  a55 := Try.isAgg102
  z55 := Try.sizeOf102
  v55 := Try.zeroValue102
  t66 := Try.underlying104
  a66 := Try.isAgg104
  z66 := Try.sizeOf104
  v66 := Try.zeroValue104
  t70 := Try.underlying108
  a70 := Try.isAgg108
  z70 := Try.sizeOf108
  v70 := Try.zeroValue108
  t76 := Try.underlying110
  a76 := Try.isAgg110
  z76 := Try.sizeOf110
  v76 := Try.zeroValue110
  t77 := Try.underlying111
  a77 := Try.isAgg111
  z77 := Try.sizeOf111
  v77 := Try.zeroValue111 }
end Go.Proofs.Ytgndiblonhgihaa
