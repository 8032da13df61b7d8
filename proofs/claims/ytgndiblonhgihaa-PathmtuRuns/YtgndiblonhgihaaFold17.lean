/-
  An entry comes: what that is plainly; operations of put by hand.
  put: a path's entry is made.
-/
import Derived.Test.YtgndiblonhgihaaFold16
namespace Go.Proofs.Ytgndiblonhgihaa
open Go Go.RowKit Go.Lib
set_option linter.unusedVariables false
set_option linter.unusedSimpArgs false

theorem take_wT {d : Option Nat} {P : Program} {ops : Array Oper} {Q : Exit → Act → World → Prop} {md : Region.Mode} {S : World → Prop} {i : Nat} {o : Oper} {v : Value} {fuel : Nat} {listed : Array Bool} {a : Act} {w : World} (hi : ops[i]? = some o) (hw : Region.wanted o (yielded ops a.tmps) = true) (hd : o.dst = d)
    (hs : Region.noSelect ops = true) (hf : Region.free md ops listed i = true) (hr : (Region.ready md ops listed).contains i = true) (hQ : ∀ c (a : Act) d v w, Q (.panic c) (a.put d v) w → Q (.panic c) a w)
    (hy : ∀ w, S w → (execOp a.eval o).run P w = .ok (.value v) w) (hS : S w) (h : wpAnyH P md ops Q S fuel (listed.setIfInBounds i true) (a.put d v) w) : wpAnyH P md ops Q S (fuel + 1) listed a w :=
  wpAnyH_take hi hs hf hr (fun c a w q => hQ c a _ _ w q) (.inl ⟨hw, hy⟩) hS (hd ▸ h)
theorem all_wT {P : Program} {ops : Array Oper} {Q : Exit → Act → World → Prop} {md : Region.Mode} {S : World → Prop} {i : Nat} {o : Oper} {fuel : Nat} {listed : Array Bool} {a : Act} {w : World} (hr : Region.ready md ops listed = [i]) (hi : ops[i]? = some o) (hw : Region.wanted o (yielded ops a.tmps) = true)
    (h : o.wp P a w (fun a' w' => S w' ∧ wpAnyH P md ops Q S fuel (listed.setIfInBounds i true) a' w') Q) : wpAnyH P md ops Q S (fuel + 1) listed a w := by
  refine wpAnyH_all (rs := [i]) hr (by simp) ?_
  intro j hj
  obtain rfl : j = i := by simpa using hj
  unfold wpOp
  rw [hi]
  simp only
  rw [if_pos hw]
  exact .inl h
theorem all_three {P : Program} {ops : Array Oper} {Q : Exit → Act → World → Prop} {md : Region.Mode} {S : World → Prop} {i1 i2 i3 : Nat} {o1 o2 o3 : Oper} {fuel : Nat} {listed : Array Bool} {a : Act} {w : World} (hr : Region.ready md ops listed = [i1, i2, i3]) (h1 : ops[i1]? = some o1) (g1 : o1.guard = none) (h2 : ops[i2]? = some o2) (g2 : o2.guard = none) (h3 : ops[i3]? = some o3) (g3 : o3.guard = none)
    (k1 : o1.wp P a w (fun a' w' => S w' ∧ wpAnyH P md ops Q S fuel (listed.setIfInBounds i1 true) a' w') Q) (k2 : o2.wp P a w (fun a' w' => S w' ∧ wpAnyH P md ops Q S fuel (listed.setIfInBounds i2 true) a' w') Q) (k3 : o3.wp P a w (fun a' w' => S w' ∧ wpAnyH P md ops Q S fuel (listed.setIfInBounds i3 true) a' w') Q) : wpAnyH P md ops Q S (fuel + 1) listed a w := by
  refine wpAnyH_all (rs := [i1, i2, i3]) hr (by simp) ?_
  intro j hj
  simp at hj
  rcases hj with rfl | rfl | rfl
  · exact wpOp_none h1 g1 k1
  · exact wpOp_none h2 g2 k2
  · exact wpOp_none h3 g3 k3
theorem skip_wT {d : Option Nat} {P : Program} {ops : Array Oper} {Q : Exit → Act → World → Prop} {md : Region.Mode} {S : World → Prop} {i : Nat} {o : Oper} {fuel : Nat} {listed : Array Bool} {a : Act} {w : World} (hi : ops[i]? = some o) (hw : Region.wanted o (yielded ops a.tmps) = false) (hd : o.dst = d)
    (hs : Region.noSelect ops = true) (hf : Region.free md ops listed i = true) (hr : (Region.ready md ops listed).contains i = true) (hQ : ∀ c (a : Act) d v w, Q (.panic c) (a.put d v) w → Q (.panic c) a w)
    (hS : S w) (h : wpAnyH P md ops Q S fuel (listed.setIfInBounds i true) (a.put d undef) w) : wpAnyH P md ops Q S (fuel + 1) listed a w :=
  wpAnyH_take hi hs hf hr (fun c a w q => hQ c a _ _ w q) (.inr ⟨hw, rfl⟩) hS (hd ▸ h)
theorem ex_eqlP {o : Oper} {a : Act} {W : World} (p q : Operand) {t : TypeId} (hop : o.op = Op.binOp .eql 3 p q t) {x y : Int} (hp : a.eval p = .int .i64 x) (hq : a.eval q = .int .i64 y) : (execOp a.eval o).run Try.prog W = .ok (.value (.bool (x == y))) W := by
  generalize a.eval = ev at *
  simp [execOp, hop, hp, hq, go_sem]
theorem ex_pickP {P : Program} {o : Oper} {a : Act} {W : World} (p q r : Operand) (hop : o.op = Op.pick p q r) {c : Bool} (hp : a.eval p = .bool c) {v u : Value} (hv : a.eval q = v) (hu : a.eval r = u) : (execOp a.eval o).run P W = .ok (.value (if c then v else u)) W := by
  generalize a.eval = ev at *
  cases c <;> simp [execOp, hop, hp, hv, hu, go_sem]
theorem ex_notP {o : Oper} {a : Act} {W : World} (p : Operand) (hop : o.op = Op.unOp .not 4 p) {c : Bool} (hp : a.eval p = .bool c) : (execOp a.eval o).run Try.prog W = .ok (.value (.bool (!c))) W := by
  generalize a.eval = ev at *
  simp [execOp, hop, hp, go_sem]
theorem wp_updE {o : Oper} {a : Act} {w w2 : World} {K : Act → World → Prop} {Q : Exit → Act → World → Prop} (m k v : Operand) (hop : o.op = Op.mapUpdate 61 m k v) (hd : o.dst = none) {vm vk vv : Value} (hm : a.eval m = vm) (hk : a.eval k = vk) (hv : a.eval v = vv) (hrun : (Instr.mapUpdate 61 vm vk vv).run Try.prog w = .ok () w2) (hK : K a w2) : o.wp Try.prog a w K Q := by
  have hK' : K (a.put o.dst (.tuple #[])) w2 := by rw [hd]; exact hK
  unfold Oper.wp
  simp [execOp, hop, hm, hk, hv, hrun, Result.andThen]
  exact hK'
theorem ptrs_one (L : List (PE × Nat)) : ∀ u ∈ ptrs L, u.oneCell' = true := by
  intro u hu
  unfold ptrs at hu
  obtain ⟨x, _, rfl⟩ := List.mem_map.1 hu
  rfl
/-- Where a row is asked to take a pointer. -/
def InsK (n k : Nat) : Prop := ∀ (W : World) (v : Value) (xs : List Value) (vb : Nat) (p : Value), W.ownsRow 0 74 1 v n xs → p.oneCell' = true → W.heap[vb]? = some (.cells [p].toArray 74) → v.ownBlock ≠ some vb → (∀ u ∈ xs, u.oneCell' = true) → Calls Try.prog 41 #[v, .int .i64 (k : Int), .slice (some ⟨vb, 0, none⟩) 1 1] W fun e w' => Insd v n k xs p W e w'
theorem insK_end {n : Nat} (h : n ≤ 1000000) : InsK n n := fun W v xs vb p h1 h2 h3 _ _ => insert_end h1 h h2 h3
/-- A line with one more entry. -/
def putK (L : List (PE × Nat)) (k : Nat) (y : PE × Nat) : List (PE × Nat) := L.take k ++ y :: L.drop k
theorem putK_mem (L : List (PE × Nat)) (k : Nat) (y z : PE × Nat) : z ∈ putK L k y ↔ z ∈ L ∨ z = y := by
  unfold putK
  rw [List.mem_append, List.mem_cons]
  have : z ∈ L ↔ z ∈ L.take k ∨ z ∈ L.drop k := by
    conv => lhs; rw [← List.take_append_drop k L]
    rw [List.mem_append]
  rw [this]
  constructor
  · rintro (h | h | h)
    · exact .inl (.inl h)
    · exact .inr h
    · exact .inl (.inr h)
  · rintro ((h | h) | h)
    · exact .inl h
    · exact .inr (.inr h)
    · exact .inr (.inl h)
theorem putK_ptrs (L : List (PE × Nat)) (k : Nat) (y : PE × Nat) : ptrs (putK L k y) = (ptrs L).take k ++ .pointer (some ⟨y.2, 0, none⟩) :: (ptrs L).drop k := by
  simp [ptrs, putK, List.map_take, List.map_drop]
theorem putK_len {L : List (PE × Nat)} {k : Nat} (y : PE × Nat) (h : k ≤ L.length) : (putK L k y).length = L.length + 1 := by
  simp [putK]; omega
theorem KN.put {L : List (PE × Nat)} (h : KN L) {k : Nat} {y : PE × Nat} (hn : ∀ x ∈ L, x.1.k ≠ y.1.k) : KN (putK L k y) := by
  unfold KN putK at *
  have hp : (L.take k ++ y :: L.drop k).Perm (y :: L) := by
    have := List.perm_middle (a := y) (l₁ := L.take k) (l₂ := L.drop k)
    rwa [List.take_append_drop] at this
  rw [(hp.map _).nodup_iff, List.map_cons, List.nodup_cons]
  refine ⟨fun hm => ?_, h⟩
  obtain ⟨x, hx, e⟩ := List.mem_map.1 hm
  exact hn x hx e
theorem SortE.put {L : List (PE × Nat)} (h : SortE L) {k : Nat} {y : PE × Nat} (hk : Stands L y k) (hn : ∀ x ∈ L, x.1.k ≠ y.1.k) : SortE (putK L k y) := by
  obtain ⟨h1, h2, h3⟩ := hk
  have hl : (L.take k).length = k := by simp; omega
  have hg : ∀ i, (putK L k y)[i]? = if i < k then L[i]? else if i = k then some y else L[i - 1]? := by
    intro i
    unfold putK
    by_cases c : i < k
    · rw [if_pos c, List.getElem?_append_left (by omega), List.getElem?_take, if_pos c]
    · rw [if_neg c, List.getElem?_append_right (by omega), hl]
      by_cases d : i = k
      · rw [if_pos d, d, Nat.sub_self]
        rfl
      · rw [if_neg d, show i - k = (i - k - 1) + 1 by omega, List.getElem?_cons_succ, List.getElem?_drop]
        congr 1
        omega
  have hgt : ∀ i x, k ≤ i → L[i]? = some x → cE y x = -1 := fun i x hi hx => by
    have e := h3 i x hi hx
    have e1 : cE y x = - cE x y := cmpE_anti _ _ _ _
    have e2 : cE x y ≠ 0 := fun e => hn x (List.mem_of_getElem? hx) (cmpE_eq e).2
    have e3 := cmpE_vals x.1.u x.1.k y.1.u y.1.k
    have e4 : cE x y = cmpE x.1.u x.1.k y.1.u y.1.k := rfl
    omega
  intro i j x z hij hx hz
  rw [hg] at hx hz
  split at hx
  · split at hz
    · exact h i j x z hij hx hz
    · split at hz
      · injection hz with hz
        rw [← hz]
        exact h2 i x (by omega) hx
      · exact h i (j - 1) x z (by omega) hx hz
  · split at hx
    · injection hx with hx
      rw [if_neg (by omega), if_neg (by omega)] at hz
      rw [← hx]
      exact hgt (j - 1) z (by omega) hz
    · rw [if_neg (by omega), if_neg (by omega)] at hz
      exact h (i - 1) (j - 1) x z (by omega) hx hz
theorem lack_keys (L : List (PE × Nat)) (d : List Int) : ∀ x ∈ lackL L d, x.1.k ≠ d := by
  intro x hx
  have := (List.mem_filter.1 hx).2
  simpa using this
theorem SortE.sub {L : List (PE × Nat)} (h : SortE L) (d : List Int) (hn : KN L) : SortE (lackL L d) := by
  by_cases hh : ∃ x ∈ L, x.1.k = d
  · obtain ⟨x, hx, e⟩ := hh
    obtain ⟨m, hm⟩ := List.getElem?_of_mem hx
    rw [← e, ← lack_at hn hm]
    exact h.cut m
  · rw [(lack_none (fun x hx e => hh ⟨x, hx, e⟩)).1]
    exact h
/-- The end of a put: the pointer lies in the line, the line in its block. -/
theorem put_end {V X X2 X3 : World} {pb mb : Nat} {cf : Cf} {now : Int} {line line2 line3 : Value} {L : List (PE × Nat)} {y : PE × Nat} {M : List (List Int × Nat)} {k : Nat} (hp : Paths pb cf now mb line2 L X) (hm : MapAt X mb M) (hM : MapL M (putK L k y)) (hkn : KN (putK L k y)) (hk : k ≤ L.length) (hy : y.1.Ok ∧ PE.At X y)
    (hpm : pb ≠ mb) (hlp : line2.ownBlock ≠ some pb) (hlm : line2.ownBlock ≠ some mb) (hel : ∀ x, x ∈ putK L k y → line2.ownBlock ≠ some x.2) (hep : ∀ x, x ∈ putK L k y → x.2 ≠ pb)
    (hi : Insd line2 L.length k (ptrs L) (.pointer (some ⟨y.2, 0, none⟩)) X (.returned line3) X2) (h3 : X3 = X2.setCell ⟨pb, 6, none⟩ line3) :
    Keeps pb cf now mb line3 (putK L k y) X3 ∧ Fr pb mb line2 X X3 ∧ (line3.ownBlock = line2.ownBlock ∨ ∀ g, line3.ownBlock = some g → X.heap.size ≤ g) := by
  obtain ⟨v', ev, hrow, hblk, ho, ht, hu, hsz, hfr⟩ := hi
  injection ev with ev
  subst ev
  have b2 : X2.heap[pb]? = some (.cells (pC cf now mb line2).toArray 64) := (hfr pb hp.lt hlp).trans hp.box
  have o3 : Only pb X2 X3 := by rw [h3]; exact (Only.refl pb X2).set 6 _
  have b3 : X3.heap[pb]? = some (.cells (pC cf now mb line3).toArray 64) := by rw [h3]; exact blk_set b2 6 _
  have hin : ∀ x ∈ putK L k y, x.1.Ok ∧ PE.At X x := fun x hx => by
    rcases (putK_mem L k y x).1 hx with h | h
    · exact hp.ents x h
    · rw [h]; exact hy
  have hlt : pb < X.heap.size := hp.lt
  refine ⟨⟨⟨b3, ?_, fun x hx => ⟨(hin x hx).1, ((hin x hx).2.on (hfr x.2 (hin x hx).2.lt (hel x hx))).on (o3.other _ (hep x hx))⟩⟩, ⟨M, (hm.on (hfr mb hm.lt hlm)).on (o3.other mb (Ne.symm hpm)), hM⟩, hkn⟩, ⟨o3.os.trans ho, o3.tape.trans ht, o3.output.trans hu, by rw [o3.size]; exact hsz, fun g hg h1 h2 h4 => (o3.other g h1).trans (hfr g hg h4)⟩, hblk⟩
  rw [putK_len y hk, putK_ptrs]
  refine own_same hrow (fun g hg => o3.other g (fun e => ?_))
  rcases hblk with h | h
  · exact hlp (by rw [← h, hg, e])
  · have := h g hg
    omega
end Go.Proofs.Ytgndiblonhgihaa

namespace Go.Proofs.Ytgndiblonhgihaa
open Go Go.RowKit Go.Lib
set_option linter.unusedVariables false
set_option linter.unusedSimpArgs false

theorem bs1 (W : World) (q : Nat) : (Instr.buildSlice 62 1 #[(0, .pointer (some ⟨q, 0, none⟩))]).run Try.prog W = .ok (.slice (some ⟨W.heap.size, 0, none⟩) 1 1) (W.alloc (.cells [Value.pointer (some ⟨q, 0, none⟩)].toArray 74)) := by
  obtain ⟨i, hi, hz, hsz, hby⟩ := infoP8
  exact run_buildSlice W 62 74 1 #[(0, .pointer (some ⟨q, 0, none⟩))] [Value.pointer (some ⟨q, 0, none⟩)].toArray i (.pointer none) Try.underlying62 hi hz (by rw [hsz]; omega) (by rw [hsz]; omega) (by rw [hsz]; kernel_rfl)
theorem ex_bs1 {o : Oper} {a : Act} {W : World} (j : Nat) {q : Nat} (hop : o.op = Op.buildSlice 62 1 #[(0, .tmp j)]) (hj : a.eval (.tmp j) = .pointer (some ⟨q, 0, none⟩)) : (execOp a.eval o).run Try.prog W = .ok (.value (.slice (some ⟨W.heap.size, 0, none⟩) 1 1)) (W.alloc (.cells [Value.pointer (some ⟨q, 0, none⟩)].toArray 74)) := by
  have h := bs1 W q
  generalize a.eval = ev at *
  simp [execOp, hop, hj, h, Result.andThen]
/-- The line in which a new entry finds its place. -/
def roomL (L : List (PE × Nat)) (d : List Int) (lim : Int) : List (PE × Nat) := if hasL L d = false ∧ (L.length : Int) = lim then L.drop 1 else lackL L d
theorem st_row {W : World} {g o : Nat} {x : Option Addr} {n c : Nat} (h1 : (W.cell? ⟨g, o, none⟩).isSome = true) (h2 : W.frozen? ⟨g, o, none⟩ = false) : (Instr.storeAt 62 (.pointer (some ⟨g, o, none⟩)) (.slice x n c)).run Try.prog W = .ok () (W.setCell ⟨g, o, none⟩ (.slice x n c)) := by
  obtain ⟨v, hv⟩ := Option.isSome_iff_exists.1 h1
  simp [Instr.storeAt, go_sem, hv, h2]
set_option maxHeartbeats 64000000 in
set_option maxRecDepth 100000 in
theorem put_any {V : World} {pb mb : Nat} {cf : Cf} {now : Int} {line : Value} {L : List (PE × Nat)} (h : Keeps pb cf now mb line L V) (hs : SortE L) (hl : L.length ≤ 1000000) {d : List Int} (hd : K16 d) (m u : Int)
    (hI : ∀ b k, Stands (roomL L d cf.lim) (⟨d, m, u⟩, b) k → InsK (roomL L d cf.lim).length k) (hlim : 1 ≤ cf.lim) :
    Calls Try.prog 32 #[.pointer (some ⟨pb, 0, none⟩), .agg (eC d m u).toArray] V fun e w' => e = .returned (.tuple #[]) ∧ ∃ b k line', Stands (roomL L d cf.lim) (⟨d, m, u⟩, b) k ∧ Keeps pb cf now mb line' (putK (roomL L d cf.lim) k (⟨d, m, u⟩, b)) w' ∧ (line'.ownBlock = line.ownBlock ∨ ∀ g, line'.ownBlock = some g → V.heap.size ≤ g) ∧ Fr pb mb line V w' := by
  obtain ⟨b, hb⟩ : ∃ b, b = V.heap.size := ⟨_, rfl⟩
  generalize hQ : (fun (e : Ending) (w' : World) => e = .returned (.tuple #[]) ∧ ∃ b k line', Stands (roomL L d cf.lim) (⟨d, m, u⟩, b) k ∧ Keeps pb cf now mb line' (putK (roomL L d cf.lim) k (⟨d, m, u⟩, b)) w' ∧ (line'.ownBlock = line.ownBlock ∨ ∀ g, line'.ownBlock = some g → V.heap.size ≤ g) ∧ Fr pb mb line V w') = Q
  have HQ : Hid (∀ e w', (e = .returned (.tuple #[]) ∧ ∃ k line', Stands (roomL L d cf.lim) (⟨d, m, u⟩, b) k ∧ Keeps pb cf now mb line' (putK (roomL L d cf.lim) k (⟨d, m, u⟩, b)) w' ∧ (line'.ownBlock = line.ownBlock ∨ ∀ g, line'.ownBlock = some g → V.heap.size ≤ g) ∧ Fr pb mb line V w') → Q e w') := fun e w' hh => by rw [← hQ]; exact ⟨hh.1, b, hh.2⟩
  clear hQ
  have HIK0 : Hid (∀ k, Stands (roomL L d cf.lim) (⟨d, m, u⟩, b) k → InsK (roomL L d cf.lim).length k) := fun k hk => hI b k hk
  obtain ⟨W1, hW1⟩ : ∃ W1, W1 = V.alloc (.cells (eC d m u).toArray 72) := ⟨_, rfl⟩
  have hs1 : W1.heap.size = V.heap.size + 1 := by rw [hW1]; simp
  have hB1 : Below V.heap.size V W1 := by rw [hW1]; exact (Below.refl V.heap.size V).alloc (Nat.le_refl _) _
  have hx1 : EntAt W1 b d m u := by rw [hW1, hb]; exact blk_new V _
  have HK1 : Hid (Keeps pb cf now mb line L W1) := h.on hB1
  have hpV := h.p.lt
  have hmV : mb < V.heap.size := by obtain ⟨M, h1, _⟩ := h.m; exact h1.lt
  have hlV : ∀ g, line.ownBlock = some g → g < V.heap.size := fun g hg => own_lt h.p.row hg
  have HD : Hid (K16 d) := hd
  have HSL : Hid (SortE L ∧ L.length ≤ 1000000) := ⟨hs, hl⟩
  have HB1 : Hid (Below V.heap.size V W1 ∧ EntAt W1 b d m u ∧ W1.heap.size = b + 1) := ⟨hB1, hx1, by rw [hs1, hb]⟩
  have HVN : Hid (pb < V.heap.size ∧ mb < V.heap.size ∧ (∀ g, line.ownBlock = some g → g < V.heap.size) ∧ b = V.heap.size) := ⟨hpV, hmV, hlV, hb⟩
  have hdl := hd.len
  have HLP1 : Hid (line.ownBlock ≠ some pb) := h.lp
  have HLIM : Hid (1 ≤ cf.lim) := hlim
  have hW := hW1.symm
  have hb2 := hb.symm
  clear hW1 hs1 hB1 hx1 h hs hl hpV hmV hlV hd hI hb hlim
  go_enter Try.func32, Try.ntmps32
  go_wp2_with fail
  clear hW
  cases hhas : hasL L d with
  | true =>
    have hroom : roomL L d cf.lim = lackL L d := by unfold roomL; rw [hhas]; simp
    refine wp_region_held (S := fun X => EntAt X b d m u ∧ X.cell? ⟨pb, 0, none⟩ = some (.int .i64 cf.lim)) (by kernel_rfl) ?_
    show wpAnyH _ _ _ _ _ 18 (Array.replicate 18 false) _ W1.drew
    have s0 : EntAt W1.drew b d m u ∧ W1.drew.cell? ⟨pb, 0, none⟩ = some (.int .i64 cf.lim) := ⟨HB1.out.2.1, HK1.out.p.cell 0 _ rfl⟩
    have k0 : Keeps pb cf now mb line L W1.drew := HK1.out.on (Below.refl _ W1).drew
    have b0 : Below W1.heap.size W1 W1.drew := (Below.refl _ W1).drew
    generalize W1.drew = X0 at *
    refine take_wT (i := 0) (d := some 4) (v := .pointer (some ⟨pb, 0, none⟩)) rfl rfl rfl (by kernel_rfl) (by kernel_rfl) (by kernel_rfl) (fun _ _ d _ _ h => by cases d <;> exact h) (fun X hS => by kernel_rfl) s0 ?_
    simp only [Act.put, List.setIfInBounds_toArray, List.set_cons_zero, List.set_cons_succ]
    refine take_wT (i := 1) (d := some 5) (v := .pointer (some ⟨b, 0, none⟩)) rfl rfl rfl (by kernel_rfl) (by kernel_rfl) (by kernel_rfl) (fun _ _ d _ _ h => by cases d <;> exact h) (fun X hS => by kernel_rfl) s0 ?_
    simp only [Act.put, List.setIfInBounds_toArray, List.set_cons_zero, List.set_cons_succ]
    refine take_wT (i := 2) (d := some 6) (v := .agg (u8s d).toArray) rfl rfl rfl (by kernel_rfl) (by kernel_rfl) (by kernel_rfl) (fun _ _ d _ _ h => by cases d <;> exact h) (fun X hS => ex_loadA (.tmp 5) 35 rfl rfl (load6 hdl (fun jj v hv => by simp only [u8s, List.getElem?_map, Option.map_eq_some_iff] at hv; obtain ⟨z, hz, rfl⟩ := hv; exact hS.1.byte jj z hz))) s0 ?_
    simp only [Act.put, List.setIfInBounds_toArray, List.set_cons_zero, List.set_cons_succ]
    refine all_wT (i := 3) (by kernel_rfl) rfl rfl ?_
    refine wp_call (d := some 7) (R := fun v w' => v = .bool (hasL L d) ∧ ∃ line', Keeps pb cf now mb line' (lackL L d) w' ∧ line'.ownBlock = line.ownBlock ∧ Fr pb mb line X0 w') 33 _ rfl (by kernel_rfl) ((drop_any k0 HSL.out.1 HSL.out.2 HD.out).mono (fun e w' hh => ⟨_, hh.1, rfl, hh.2⟩)) ?_
    rintro _ X1 ⟨rfl, line1, k1, l1, f1⟩
    have e1 : EntAt X1 b d m u := s0.1.on (f1.other b s0.1.lt (by have := HVN.out; omega) (by have := HVN.out; omega) (fun e => by have := HVN.out.2.2.1 b e; have := HVN.out.2.2.2; omega))
    have s1 : EntAt X1 b d m u ∧ X1.cell? ⟨pb, 0, none⟩ = some (.int .i64 cf.lim) := ⟨e1, k1.p.cell 0 _ rfl⟩
    refine ⟨s1, ?_⟩
    simp only [Act.put, List.setIfInBounds_toArray, List.set_cons_zero, List.set_cons_succ]
    rw [hhas]
    refine take_wT (i := 4) (d := some 8) (v := .bool (!true)) rfl rfl rfl (by kernel_rfl) (by kernel_rfl) (by kernel_rfl) (fun _ _ d _ _ h => by cases d <;> exact h) (fun X hS => ex_notP (.tmp 7) rfl rfl) s1 ?_
    simp only [Act.put, List.setIfInBounds_toArray, List.set_cons_zero, List.set_cons_succ]
    simp only [Bool.not_true, Bool.not_false]
    refine take_wT (i := 5) (d := some 9) (v := .bool false) rfl rfl rfl (by kernel_rfl) (by kernel_rfl) (by kernel_rfl) (fun _ _ d _ _ h => by cases d <;> exact h) (fun X hS => by kernel_rfl) s1 ?_
    simp only [Act.put, List.setIfInBounds_toArray, List.set_cons_zero, List.set_cons_succ]
    refine skip_wT (i := 6) (d := some 10) rfl rfl rfl (by kernel_rfl) (by kernel_rfl) (by kernel_rfl) (fun _ _ d _ _ h => by cases d <;> exact h) s1 ?_
    simp only [Act.put, List.setIfInBounds_toArray, List.set_cons_zero, List.set_cons_succ]
    refine skip_wT (i := 7) (d := some 11) rfl rfl rfl (by kernel_rfl) (by kernel_rfl) (by kernel_rfl) (fun _ _ d _ _ h => by cases d <;> exact h) s1 ?_
    simp only [Act.put, List.setIfInBounds_toArray, List.set_cons_zero, List.set_cons_succ]
    refine skip_wT (i := 8) (d := some 12) rfl rfl rfl (by kernel_rfl) (by kernel_rfl) (by kernel_rfl) (fun _ _ d _ _ h => by cases d <;> exact h) s1 ?_
    simp only [Act.put, List.setIfInBounds_toArray, List.set_cons_zero, List.set_cons_succ]
    refine skip_wT (i := 9) (d := some 13) rfl rfl rfl (by kernel_rfl) (by kernel_rfl) (by kernel_rfl) (fun _ _ d _ _ h => by cases d <;> exact h) s1 ?_
    simp only [Act.put, List.setIfInBounds_toArray, List.set_cons_zero, List.set_cons_succ]
    refine skip_wT (i := 10) (d := some 14) rfl rfl rfl (by kernel_rfl) (by kernel_rfl) (by kernel_rfl) (fun _ _ d _ _ h => by cases d <;> exact h) s1 ?_
    simp only [Act.put, List.setIfInBounds_toArray, List.set_cons_zero, List.set_cons_succ]
    refine skip_wT (i := 11) (d := some 15) rfl rfl rfl (by kernel_rfl) (by kernel_rfl) (by kernel_rfl) (fun _ _ d _ _ h => by cases d <;> exact h) s1 ?_
    simp only [Act.put, List.setIfInBounds_toArray, List.set_cons_zero, List.set_cons_succ]
    refine skip_wT (i := 12) (d := some 16) rfl rfl rfl (by kernel_rfl) (by kernel_rfl) (by kernel_rfl) (fun _ _ d _ _ h => by cases d <;> exact h) s1 ?_
    simp only [Act.put, List.setIfInBounds_toArray, List.set_cons_zero, List.set_cons_succ]
    refine skip_wT (i := 13) (d := some 17) rfl rfl rfl (by kernel_rfl) (by kernel_rfl) (by kernel_rfl) (fun _ _ d _ _ h => by cases d <;> exact h) s1 ?_
    simp only [Act.put, List.setIfInBounds_toArray, List.set_cons_zero, List.set_cons_succ]
    refine skip_wT (i := 14) (d := some 18) rfl rfl rfl (by kernel_rfl) (by kernel_rfl) (by kernel_rfl) (fun _ _ d _ _ h => by cases d <;> exact h) s1 ?_
    simp only [Act.put, List.setIfInBounds_toArray, List.set_cons_zero, List.set_cons_succ]
    refine skip_wT (i := 15) (d := some 19) rfl rfl rfl (by kernel_rfl) (by kernel_rfl) (by kernel_rfl) (fun _ _ d _ _ h => by cases d <;> exact h) s1 ?_
    simp only [Act.put, List.setIfInBounds_toArray, List.set_cons_zero, List.set_cons_succ]
    refine skip_wT (i := 16) (d := some 20) rfl rfl rfl (by kernel_rfl) (by kernel_rfl) (by kernel_rfl) (fun _ _ d _ _ h => by cases d <;> exact h) s1 ?_
    simp only [Act.put, List.setIfInBounds_toArray, List.set_cons_zero, List.set_cons_succ]
    refine take_wT (i := 17) (d := some 21) (v := .bool false) rfl rfl rfl (by kernel_rfl) (by kernel_rfl) (by kernel_rfl) (fun _ _ d _ _ h => by cases d <;> exact h) (fun X hS => by kernel_rfl) s1 ?_
    simp only [Act.put, List.setIfInBounds_toArray, List.set_cons_zero, List.set_cons_succ]
    refine wpAnyH_done (by kernel_rfl) ?_ _
    have f0 : Fr pb mb line V X1 := ((Fr.below HB1.out.1).trans (Fr.below b0) rfl).trans f1 rfl
    have HK : Hid (Keeps pb cf now mb line1 (lackL L d) X1) := k1
    have HFR : Hid (Fr pb mb line V X1) := f0
    have HE : Hid (EntAt X1 b d m u) := e1
    have HLB : Hid (line1.ownBlock = line.ownBlock) := l1
    obtain ⟨line2, hl2⟩ : ∃ line2, line2 = line1 := ⟨_, rfl⟩
    rw [← hl2] at HK HLB
    have hL2 : roomL L d cf.lim = lackL L d := hroom
    clear s0 k0 b0 k1 l1 f1 e1 s1 f0
    obtain ⟨L2, hL2b⟩ : ∃ L2, L2 = lackL L d := ⟨_, rfl⟩
    rw [← hL2b] at HK hL2
    rw [hL2] at HQ HIK0
    have HIK : Hid _ := HIK0.out
    have HNK : Hid (∀ x ∈ L2, x.1.k ≠ d) := by rw [hL2b]; exact lack_keys L d
    have HSO : Hid (SortE L2) := by rw [hL2b]; exact HSL.out.1.sub d HK1.out.kn
    have HLN : Hid (L2.length ≤ 1000000) := by rw [hL2b]; exact Nat.le_trans (List.length_filter_le _ _) HSL.out.2
    have HBN : Hid (b = V.heap.size ∧ b ≠ pb ∧ b ≠ mb ∧ line2.ownBlock ≠ some b) := by
      have h9 := HVN.out
      exact ⟨h9.2.2.2, by omega, by omega, fun e => by rw [HLB.out] at e; have := h9.2.2.1 b e; omega⟩
    have HLP : Hid (line2.ownBlock ≠ some pb) := HK.out.lp
    obtain ⟨la, lc, hline⟩ := HK.out.p.slc
    obtain ⟨M, hm, hML⟩ := HK.out.m
    have hn := hML.none HNK.out
    have hkeys := hML.keys (fun x hx => (HK.out.p.ents x hx).1)
    have HM : Hid (MapAt X1 mb M ∧ MapL M L2) := ⟨hm, hML⟩
    clear hm hML
    go_wp2_with fail
    refine wp_region_held (S := fun X => X.cell? ⟨pb, 5, none⟩ = some (.map (some mb)) ∧ EntAt X b d m u) (by kernel_rfl) ?_
    show wpAnyH _ _ _ _ _ 7 (Array.replicate 7 false) _ X1.drew
    have s0 : X1.drew.cell? ⟨pb, 5, none⟩ = some (.map (some mb)) ∧ EntAt X1.drew b d m u := ⟨HK.out.p.cell 5 _ rfl, HE.out⟩
    obtain ⟨X3, hup, hm3, ho3⟩ := store16 (W := X1.drew) (q := b) HD.out (HM.out.1.on rfl) hkeys hn
    have e3 : EntAt X3 b d m u := HE.out.on (ho3.other b HBN.out.2.2.1)
    have s3 : X3.cell? ⟨pb, 5, none⟩ = some (.map (some mb)) ∧ EntAt X3 b d m u := ⟨by rw [World.cell?_of_block (w := X1) (w' := X3) (ho3.other pb HK.out.pm)]; exact s0.1, e3⟩
    have ho4 : Only mb X1 X3 := ⟨ho3.os, ho3.tape, ho3.output, ho3.size, ho3.other⟩
    have p3 : Paths pb cf now mb line2 L2 X3 := HK.out.p.same (ho4.other pb HK.out.pm) (fun g hg => ho4.other g (fun e => HK.out.lm (by rw [← e]; exact hg))) (fun x hx => ho4.other _ (HK.out.em hx))
    have hdl := HD.out.len
    clear ho3
    generalize X1.drew = X0 at *
    refine take_wT (i := 0) (d := some 24) (v := .pointer (some ⟨pb, 0, none⟩)) rfl rfl rfl (by kernel_rfl) (by kernel_rfl) (by kernel_rfl) (fun _ _ d _ _ h => by cases d <;> exact h) (fun X hS => by kernel_rfl) s0 ?_
    simp only [Act.put, List.setIfInBounds_toArray, List.set_cons_zero, List.set_cons_succ]
    refine take_wT (i := 1) (d := some 25) (v := .pointer (some ⟨pb, 0, none⟩)) rfl rfl rfl (by kernel_rfl) (by kernel_rfl) (by kernel_rfl) (fun _ _ d _ _ h => by cases d <;> exact h) (fun X hS => by kernel_rfl) s0 ?_
    simp only [Act.put, List.setIfInBounds_toArray, List.set_cons_zero, List.set_cons_succ]
    refine take_wT (i := 2) (d := some 26) (v := .pointer (some ⟨pb, 5, none⟩)) rfl rfl rfl (by kernel_rfl) (by kernel_rfl) (by kernel_rfl) (fun _ _ d _ _ h => by cases d <;> exact h) (fun X hS => by kernel_rfl) s0 ?_
    simp only [Act.put, List.setIfInBounds_toArray, List.set_cons_zero, List.set_cons_succ]
    refine take_wT (i := 3) (d := some 27) (v := .map (some mb)) rfl rfl rfl (by kernel_rfl) (by kernel_rfl) (by kernel_rfl) (fun _ _ d _ _ h => by cases d <;> exact h) (fun X hS => ex_loadA (.tmp 26) 61 rfl rfl (ld_map hS.1)) s0 ?_
    simp only [Act.put, List.setIfInBounds_toArray, List.set_cons_zero, List.set_cons_succ]
    refine take_wT (i := 4) (d := some 28) (v := .pointer (some ⟨b, 0, none⟩)) rfl rfl rfl (by kernel_rfl) (by kernel_rfl) (by kernel_rfl) (fun _ _ d _ _ h => by cases d <;> exact h) (fun X hS => by kernel_rfl) s0 ?_
    simp only [Act.put, List.setIfInBounds_toArray, List.set_cons_zero, List.set_cons_succ]
    refine take_wT (i := 5) (d := some 29) (v := .agg (u8s d).toArray) rfl rfl rfl (by kernel_rfl) (by kernel_rfl) (by kernel_rfl) (fun _ _ d _ _ h => by cases d <;> exact h) (fun X hS => ex_loadA (.tmp 28) 35 rfl rfl (load6 hdl (fun jj v hv => by simp only [u8s, List.getElem?_map, Option.map_eq_some_iff] at hv; obtain ⟨z, hz, rfl⟩ := hv; exact hS.2.byte jj z hz))) s0 ?_
    simp only [Act.put, List.setIfInBounds_toArray, List.set_cons_zero, List.set_cons_succ]
    refine all_wT (i := 6) (by kernel_rfl) rfl rfl ?_
    refine wp_updE (.tmp 27) (.tmp 29) (.tmp 3) rfl rfl rfl rfl rfl hup ⟨s3, ?_⟩
    refine wpAnyH_done (by kernel_rfl) ?_ _
    have HP3 : Hid (Paths pb cf now mb line2 L2 X3) := p3
    have HM3 : Hid (MapAt X3 mb (M ++ [(d, b)])) := hm3
    have HE3 : Hid (EntAt X3 b d m u) := e3
    have HO3 : Hid (Only mb X1 X3) := ho4
    clear s0 hup hm3 e3 s3 ho4 p3 hdl hn hkeys
    go_wp2_with fail
    refine wp_region_held (S := fun _ => True) (by kernel_rfl) ?_
    show wpAnyH _ _ _ _ _ 12 (Array.replicate 12 false) _ X3.drew
    have b0 : Below X3.heap.size X3 X3.drew := (Below.refl _ X3).drew
    generalize X3.drew = Y0 at *
    refine take_wT (i := 0) (d := some 30) (v := .pointer (some ⟨pb, 0, none⟩)) rfl rfl rfl (by kernel_rfl) (by kernel_rfl) (by kernel_rfl) (fun _ _ d _ _ h => by cases d <;> exact h) (fun X hS => by kernel_rfl) trivial ?_
    simp only [Act.put, List.setIfInBounds_toArray, List.set_cons_zero, List.set_cons_succ]
    refine take_wT (i := 1) (d := some 31) (v := .pointer (some ⟨pb, 0, none⟩)) rfl rfl rfl (by kernel_rfl) (by kernel_rfl) (by kernel_rfl) (fun _ _ d _ _ h => by cases d <;> exact h) (fun X hS => by kernel_rfl) trivial ?_
    simp only [Act.put, List.setIfInBounds_toArray, List.set_cons_zero, List.set_cons_succ]
    refine take_wT (i := 2) (d := some 32) (v := .pointer (some ⟨pb, 0, none⟩)) rfl rfl rfl (by kernel_rfl) (by kernel_rfl) (by kernel_rfl) (fun _ _ d _ _ h => by cases d <;> exact h) (fun X hS => by kernel_rfl) trivial ?_
    simp only [Act.put, List.setIfInBounds_toArray, List.set_cons_zero, List.set_cons_succ]
    refine take_wT (i := 3) (d := some 33) (v := .pointer (some ⟨pb, 6, none⟩)) rfl rfl rfl (by kernel_rfl) (by kernel_rfl) (by kernel_rfl) (fun _ _ d _ _ h => by cases d <;> exact h) (fun X hS => by kernel_rfl) trivial ?_
    simp only [Act.put, List.setIfInBounds_toArray, List.set_cons_zero, List.set_cons_succ]
    refine take_wT (i := 5) (d := some 35) (v := .pointer (some ⟨pb, 0, none⟩)) rfl rfl rfl (by kernel_rfl) (by kernel_rfl) (by kernel_rfl) (fun _ _ d _ _ h => by cases d <;> exact h) (fun X hS => by kernel_rfl) trivial ?_
    simp only [Act.put, List.setIfInBounds_toArray, List.set_cons_zero, List.set_cons_succ]
    refine all_three (i1 := 4) (i2 := 6) (i3 := 7) (by kernel_rfl) rfl rfl rfl rfl rfl rfl ?_ ?_ ?_
    · refine wp_effX (d := some 34) (v := .slice la L2.length lc) (w2 := Y0) rfl (ex_loadA (.tmp 33) 62 rfl rfl (ld_row ((HP3.out.on b0).cell 6 _ (by rw [hline]; rfl)))) ⟨trivial, ?_⟩
      simp only [Act.put, List.setIfInBounds_toArray, List.set_cons_zero, List.set_cons_succ]
      refine all_two (i1 := 6) (i2 := 7) (by kernel_rfl) rfl rfl rfl rfl ?_ ?_
      · refine wp_call (d := some 36) (R := fun v w' => ∃ k : Nat, v = .int .i64 (k : Int) ∧ Stands L2 (⟨d, m, u⟩, b) k ∧ Below Y0.heap.size Y0 w') 42 _ rfl (by kernel_rfl) ((place_any (HP3.out.on b0) HSO.out HLN.out (y := (⟨d, m, u⟩, b)) ⟨⟨HD.out.fit, HD.out.len⟩, HE3.out.on (b0.block _ HE3.out.lt)⟩).mono (fun e w' hh => by obtain ⟨k, rfl, hk⟩ := hh; exact ⟨_, rfl, k, rfl, hk⟩)) ?_
        rintro _ Z1 ⟨k, rfl, hst, hb1⟩
        have c1 : Below X3.heap.size X3 Z1 := b0.trans (hb1.mono b0.size)
        refine ⟨trivial, ?_⟩
        simp only [Act.put, List.setIfInBounds_toArray, List.set_cons_zero, List.set_cons_succ]
        refine all_wT (i := 7) (by kernel_rfl) rfl rfl ?_
        obtain ⟨Z2, hZ2⟩ : ∃ Z, Z = Z1.alloc (.cells [Value.pointer (some ⟨b, 0, none⟩)].toArray 74) := ⟨_, rfl⟩
        refine wp_effX (d := some 37) (v := .slice (some ⟨Z1.heap.size, 0, none⟩) 1 1) (w2 := Z2) rfl (by rw [hZ2]; exact ex_bs1 3 rfl rfl) ⟨trivial, ?_⟩
        simp only [Act.put, List.setIfInBounds_toArray, List.set_cons_zero, List.set_cons_succ]
        have hvb : Z2.heap[Z1.heap.size]? = some (.cells [Value.pointer (some ⟨b, 0, none⟩)].toArray 74) := by rw [hZ2]; exact blk_new _ _
        have c2 : Below X3.heap.size X3 Z2 := by rw [hZ2]; exact c1.alloc c1.size _
        have hvl : X3.heap.size ≤ Z1.heap.size := c1.size
        generalize Z1.heap.size = vb at *
        refine all_wT (i := 8) (by kernel_rfl) rfl rfl ?_
        have pz := HP3.out.on c2
        have rz := pz.row
        rw [hline] at rz
        have hlv : (Value.slice la L2.length lc).ownBlock ≠ some vb := fun e => by have h8 := own_lt HP3.out.row (b := vb) (by rw [hline]; exact e); omega
        refine wp_call (d := some 38) (R := fun v w' => Insd (.slice la L2.length lc) L2.length k (ptrs L2) (.pointer (some ⟨b, 0, none⟩)) Z2 (.returned v) w') 41 _ rfl (by kernel_rfl) ((HIK.out k hst Z2 _ _ vb _ rz rfl hvb hlv (ptrs_one L2)).mono (fun e w' hh => by obtain ⟨v, rfl, hh⟩ := hh; exact ⟨v, rfl, v, rfl, hh⟩)) ?_
        rintro line3 X4 hins
        obtain ⟨l3a, l3c, hl3⟩ : ∃ a c, line3 = .slice a (L2.length + 1) c := by obtain ⟨v, ev, hr, _⟩ := hins; injection ev with ev; rw [ev]; exact own_slc hr
        have hXs : Z2.heap.size ≤ X4.heap.size ∧ (X4.heap[pb]? = Z2.heap[pb]?) := by obtain ⟨v, ev, hr, _, _, _, _, h1, h2⟩ := hins; exact ⟨h1, h2 pb pz.lt (fun e => HLP.out (by rw [hline]; exact e))⟩
        refine ⟨trivial, ?_⟩
        simp only [Act.put, List.setIfInBounds_toArray, List.set_cons_zero, List.set_cons_succ]
        refine take_wT (i := 9) (d := some 39) (v := .pointer (some ⟨pb, 0, none⟩)) rfl rfl rfl (by kernel_rfl) (by kernel_rfl) (by kernel_rfl) (fun _ _ d _ _ h => by cases d <;> exact h) (fun X hS => by kernel_rfl) trivial ?_
        simp only [Act.put, List.setIfInBounds_toArray, List.set_cons_zero, List.set_cons_succ]
        refine take_wT (i := 10) (d := some 40) (v := .pointer (some ⟨pb, 6, none⟩)) rfl rfl rfl (by kernel_rfl) (by kernel_rfl) (by kernel_rfl) (fun _ _ d _ _ h => by cases d <;> exact h) (fun X hS => by kernel_rfl) trivial ?_
        simp only [Act.put, List.setIfInBounds_toArray, List.set_cons_zero, List.set_cons_succ]
        refine all_wT (i := 11) (by kernel_rfl) rfl rfl ?_
        have b4 : X4.heap[pb]? = some (.cells (pC cf now mb line2).toArray 64) := hXs.2.trans pz.box
        refine wp_storeA (.tmp 40) (.tmp 38) 62 rfl rfl rfl rfl (w2 := X4.setCell ⟨pb, 6, none⟩ line3) (by rw [hl3]; exact st_row (by rw [blk_cell (j := 6) b4 rfl]; rfl) (blk_open b4 6)) ⟨trivial, ?_⟩
        refine wpAnyH_done (by kernel_rfl) ?_ _
        have hMz : MapAt Z2 mb (M ++ [(d, b)]) := HM3.out.on (c2.block _ HM3.out.lt)
        have hput := put_end (V := V) (line := line) (X3 := X4.setCell ⟨pb, 6, none⟩ line3) (line2 := line2) (k := k) (y := (⟨d, m, u⟩, b)) pz hMz (HM.out.2.put (y := (⟨d, m, u⟩, b)) HNK.out (putK_mem L2 k _)) (HK.out.kn.put (y := (⟨d, m, u⟩, b)) HNK.out) hst.1 ⟨⟨HD.out.fit, HD.out.len⟩, HE3.out.on (c2.block _ HE3.out.lt)⟩ HK.out.pm HLP.out HK.out.lm (fun x hx => by rcases (putK_mem L2 k _ x).1 hx with h | h; exact HK.out.el h; rw [h]; exact HBN.out.2.2.2) (fun x hx => by rcases (putK_mem L2 k _ x).1 hx with h | h; exact HK.out.ep h; rw [h]; exact HBN.out.2.1) (by rw [hline]; exact hins) rfl
        have HF : Hid (∃ k line4, Stands L2 (⟨d, m, u⟩, b) k ∧ Keeps pb cf now mb line4 (putK L2 k (⟨d, m, u⟩, b)) (X4.setCell ⟨pb, 6, none⟩ line3) ∧ (line4.ownBlock = line.ownBlock ∨ ∀ g, line4.ownBlock = some g → V.heap.size ≤ g) ∧ Fr pb mb line V (X4.setCell ⟨pb, 6, none⟩ line3)) := by
          have f3 : Fr pb mb line V X3 := ⟨HO3.out.os.trans HFR.out.os, HO3.out.tape.trans HFR.out.tape, HO3.out.output.trans HFR.out.output, by rw [HO3.out.size]; exact HFR.out.size, fun g hg h1 h2 h4 => (HO3.out.other g h2).trans (HFR.out.other g hg h1 h2 h4)⟩
          have f4 : Fr pb mb line V Z2 := f3.trans (Fr.below c2) rfl
          refine ⟨k, line3, hst, hput.1, ?_, f4.trans hput.2.1 HLB.out⟩
          rcases hput.2.2 with h | h
          · exact .inl (h.trans HLB.out)
          · exact .inr (fun g hg => Nat.le_trans f4.size (h g hg))
        clear hput hMz b4 hXs hl3 hins hlv rz pz
        first
        | (try go_returns
           exact HQ.out _ _ ⟨rfl, HF.out⟩)
        | (go_wp2_with fail
           try go_returns
           exact HQ.out _ _ ⟨rfl, HF.out⟩)
      · obtain ⟨Z1, hZ1⟩ : ∃ Z, Z = Y0.alloc (.cells [Value.pointer (some ⟨b, 0, none⟩)].toArray 74) := ⟨_, rfl⟩
        refine wp_effX (d := some 37) (v := .slice (some ⟨Y0.heap.size, 0, none⟩) 1 1) (w2 := Z1) rfl (by rw [hZ1]; exact ex_bs1 3 rfl rfl) ⟨trivial, ?_⟩
        simp only [Act.put, List.setIfInBounds_toArray, List.set_cons_zero, List.set_cons_succ]
        have hvb : Z1.heap[Y0.heap.size]? = some (.cells [Value.pointer (some ⟨b, 0, none⟩)].toArray 74) := by rw [hZ1]; exact blk_new _ _
        have c1 : Below X3.heap.size X3 Z1 := by rw [hZ1]; exact b0.alloc b0.size _
        have hvl : X3.heap.size ≤ Y0.heap.size := b0.size
        generalize Y0.heap.size = vb at *
        refine all_wT (i := 6) (by kernel_rfl) rfl rfl ?_
        refine wp_call (d := some 36) (R := fun v w' => ∃ k : Nat, v = .int .i64 (k : Int) ∧ Stands L2 (⟨d, m, u⟩, b) k ∧ Below Z1.heap.size Z1 w') 42 _ rfl (by kernel_rfl) ((place_any (HP3.out.on c1) HSO.out HLN.out (y := (⟨d, m, u⟩, b)) ⟨⟨HD.out.fit, HD.out.len⟩, HE3.out.on (c1.block _ HE3.out.lt)⟩).mono (fun e w' hh => by obtain ⟨k, rfl, hk⟩ := hh; exact ⟨_, rfl, k, rfl, hk⟩)) ?_
        rintro _ Z2 ⟨k, rfl, hst, hb2⟩
        have c2 : Below X3.heap.size X3 Z2 := c1.trans (hb2.mono c1.size)
        have hvb := (hb2.block vb (Array.getElem?_eq_some_iff.1 hvb).1).trans hvb
        refine ⟨trivial, ?_⟩
        simp only [Act.put, List.setIfInBounds_toArray, List.set_cons_zero, List.set_cons_succ]
        refine all_wT (i := 8) (by kernel_rfl) rfl rfl ?_
        have pz := HP3.out.on c2
        have rz := pz.row
        rw [hline] at rz
        have hlv : (Value.slice la L2.length lc).ownBlock ≠ some vb := fun e => by have h8 := own_lt HP3.out.row (b := vb) (by rw [hline]; exact e); omega
        refine wp_call (d := some 38) (R := fun v w' => Insd (.slice la L2.length lc) L2.length k (ptrs L2) (.pointer (some ⟨b, 0, none⟩)) Z2 (.returned v) w') 41 _ rfl (by kernel_rfl) ((HIK.out k hst Z2 _ _ vb _ rz rfl hvb hlv (ptrs_one L2)).mono (fun e w' hh => by obtain ⟨v, rfl, hh⟩ := hh; exact ⟨v, rfl, v, rfl, hh⟩)) ?_
        rintro line3 X4 hins
        obtain ⟨l3a, l3c, hl3⟩ : ∃ a c, line3 = .slice a (L2.length + 1) c := by obtain ⟨v, ev, hr, _⟩ := hins; injection ev with ev; rw [ev]; exact own_slc hr
        have hXs : Z2.heap.size ≤ X4.heap.size ∧ (X4.heap[pb]? = Z2.heap[pb]?) := by obtain ⟨v, ev, hr, _, _, _, _, h1, h2⟩ := hins; exact ⟨h1, h2 pb pz.lt (fun e => HLP.out (by rw [hline]; exact e))⟩
        refine ⟨trivial, ?_⟩
        simp only [Act.put, List.setIfInBounds_toArray, List.set_cons_zero, List.set_cons_succ]
        refine take_wT (i := 9) (d := some 39) (v := .pointer (some ⟨pb, 0, none⟩)) rfl rfl rfl (by kernel_rfl) (by kernel_rfl) (by kernel_rfl) (fun _ _ d _ _ h => by cases d <;> exact h) (fun X hS => by kernel_rfl) trivial ?_
        simp only [Act.put, List.setIfInBounds_toArray, List.set_cons_zero, List.set_cons_succ]
        refine take_wT (i := 10) (d := some 40) (v := .pointer (some ⟨pb, 6, none⟩)) rfl rfl rfl (by kernel_rfl) (by kernel_rfl) (by kernel_rfl) (fun _ _ d _ _ h => by cases d <;> exact h) (fun X hS => by kernel_rfl) trivial ?_
        simp only [Act.put, List.setIfInBounds_toArray, List.set_cons_zero, List.set_cons_succ]
        refine all_wT (i := 11) (by kernel_rfl) rfl rfl ?_
        have b4 : X4.heap[pb]? = some (.cells (pC cf now mb line2).toArray 64) := hXs.2.trans pz.box
        refine wp_storeA (.tmp 40) (.tmp 38) 62 rfl rfl rfl rfl (w2 := X4.setCell ⟨pb, 6, none⟩ line3) (by rw [hl3]; exact st_row (by rw [blk_cell (j := 6) b4 rfl]; rfl) (blk_open b4 6)) ⟨trivial, ?_⟩
        refine wpAnyH_done (by kernel_rfl) ?_ _
        have hMz : MapAt Z2 mb (M ++ [(d, b)]) := HM3.out.on (c2.block _ HM3.out.lt)
        have hput := put_end (V := V) (line := line) (X3 := X4.setCell ⟨pb, 6, none⟩ line3) (line2 := line2) (k := k) (y := (⟨d, m, u⟩, b)) pz hMz (HM.out.2.put (y := (⟨d, m, u⟩, b)) HNK.out (putK_mem L2 k _)) (HK.out.kn.put (y := (⟨d, m, u⟩, b)) HNK.out) hst.1 ⟨⟨HD.out.fit, HD.out.len⟩, HE3.out.on (c2.block _ HE3.out.lt)⟩ HK.out.pm HLP.out HK.out.lm (fun x hx => by rcases (putK_mem L2 k _ x).1 hx with h | h; exact HK.out.el h; rw [h]; exact HBN.out.2.2.2) (fun x hx => by rcases (putK_mem L2 k _ x).1 hx with h | h; exact HK.out.ep h; rw [h]; exact HBN.out.2.1) (by rw [hline]; exact hins) rfl
        have HF : Hid (∃ k line4, Stands L2 (⟨d, m, u⟩, b) k ∧ Keeps pb cf now mb line4 (putK L2 k (⟨d, m, u⟩, b)) (X4.setCell ⟨pb, 6, none⟩ line3) ∧ (line4.ownBlock = line.ownBlock ∨ ∀ g, line4.ownBlock = some g → V.heap.size ≤ g) ∧ Fr pb mb line V (X4.setCell ⟨pb, 6, none⟩ line3)) := by
          have f3 : Fr pb mb line V X3 := ⟨HO3.out.os.trans HFR.out.os, HO3.out.tape.trans HFR.out.tape, HO3.out.output.trans HFR.out.output, by rw [HO3.out.size]; exact HFR.out.size, fun g hg h1 h2 h4 => (HO3.out.other g h2).trans (HFR.out.other g hg h1 h2 h4)⟩
          have f4 : Fr pb mb line V Z2 := f3.trans (Fr.below c2) rfl
          refine ⟨k, line3, hst, hput.1, ?_, f4.trans hput.2.1 HLB.out⟩
          rcases hput.2.2 with h | h
          · exact .inl (h.trans HLB.out)
          · exact .inr (fun g hg => Nat.le_trans f4.size (h g hg))
        clear hput hMz b4 hXs hl3 hins hlv rz pz
        first
        | (try go_returns
           exact HQ.out _ _ ⟨rfl, HF.out⟩)
        | (go_wp2_with fail
           try go_returns
           exact HQ.out _ _ ⟨rfl, HF.out⟩)
    · refine wp_call (d := some 36) (R := fun v w' => ∃ k : Nat, v = .int .i64 (k : Int) ∧ Stands L2 (⟨d, m, u⟩, b) k ∧ Below Y0.heap.size Y0 w') 42 _ rfl (by kernel_rfl) ((place_any (HP3.out.on b0) HSO.out HLN.out (y := (⟨d, m, u⟩, b)) ⟨⟨HD.out.fit, HD.out.len⟩, HE3.out.on (b0.block _ HE3.out.lt)⟩).mono (fun e w' hh => by obtain ⟨k, rfl, hk⟩ := hh; exact ⟨_, rfl, k, rfl, hk⟩)) ?_
      rintro _ Z0 ⟨k, rfl, hst, hb0⟩
      have c0 : Below X3.heap.size X3 Z0 := b0.trans (hb0.mono b0.size)
      refine ⟨trivial, ?_⟩
      simp only [Act.put, List.setIfInBounds_toArray, List.set_cons_zero, List.set_cons_succ]
      refine all_two (i1 := 4) (i2 := 7) (by kernel_rfl) rfl rfl rfl rfl ?_ ?_
      · refine wp_effX (d := some 34) (v := .slice la L2.length lc) (w2 := Z0) rfl (ex_loadA (.tmp 33) 62 rfl rfl (ld_row ((HP3.out.on c0).cell 6 _ (by rw [hline]; rfl)))) ⟨trivial, ?_⟩
        simp only [Act.put, List.setIfInBounds_toArray, List.set_cons_zero, List.set_cons_succ]
        refine all_wT (i := 7) (by kernel_rfl) rfl rfl ?_
        obtain ⟨Z2, hZ2⟩ : ∃ Z, Z = Z0.alloc (.cells [Value.pointer (some ⟨b, 0, none⟩)].toArray 74) := ⟨_, rfl⟩
        refine wp_effX (d := some 37) (v := .slice (some ⟨Z0.heap.size, 0, none⟩) 1 1) (w2 := Z2) rfl (by rw [hZ2]; exact ex_bs1 3 rfl rfl) ⟨trivial, ?_⟩
        simp only [Act.put, List.setIfInBounds_toArray, List.set_cons_zero, List.set_cons_succ]
        have hvb : Z2.heap[Z0.heap.size]? = some (.cells [Value.pointer (some ⟨b, 0, none⟩)].toArray 74) := by rw [hZ2]; exact blk_new _ _
        have c2 : Below X3.heap.size X3 Z2 := by rw [hZ2]; exact c0.alloc c0.size _
        have hvl : X3.heap.size ≤ Z0.heap.size := c0.size
        generalize Z0.heap.size = vb at *
        refine all_wT (i := 8) (by kernel_rfl) rfl rfl ?_
        have pz := HP3.out.on c2
        have rz := pz.row
        rw [hline] at rz
        have hlv : (Value.slice la L2.length lc).ownBlock ≠ some vb := fun e => by have h8 := own_lt HP3.out.row (b := vb) (by rw [hline]; exact e); omega
        refine wp_call (d := some 38) (R := fun v w' => Insd (.slice la L2.length lc) L2.length k (ptrs L2) (.pointer (some ⟨b, 0, none⟩)) Z2 (.returned v) w') 41 _ rfl (by kernel_rfl) ((HIK.out k hst Z2 _ _ vb _ rz rfl hvb hlv (ptrs_one L2)).mono (fun e w' hh => by obtain ⟨v, rfl, hh⟩ := hh; exact ⟨v, rfl, v, rfl, hh⟩)) ?_
        rintro line3 X4 hins
        obtain ⟨l3a, l3c, hl3⟩ : ∃ a c, line3 = .slice a (L2.length + 1) c := by obtain ⟨v, ev, hr, _⟩ := hins; injection ev with ev; rw [ev]; exact own_slc hr
        have hXs : Z2.heap.size ≤ X4.heap.size ∧ (X4.heap[pb]? = Z2.heap[pb]?) := by obtain ⟨v, ev, hr, _, _, _, _, h1, h2⟩ := hins; exact ⟨h1, h2 pb pz.lt (fun e => HLP.out (by rw [hline]; exact e))⟩
        refine ⟨trivial, ?_⟩
        simp only [Act.put, List.setIfInBounds_toArray, List.set_cons_zero, List.set_cons_succ]
        refine take_wT (i := 9) (d := some 39) (v := .pointer (some ⟨pb, 0, none⟩)) rfl rfl rfl (by kernel_rfl) (by kernel_rfl) (by kernel_rfl) (fun _ _ d _ _ h => by cases d <;> exact h) (fun X hS => by kernel_rfl) trivial ?_
        simp only [Act.put, List.setIfInBounds_toArray, List.set_cons_zero, List.set_cons_succ]
        refine take_wT (i := 10) (d := some 40) (v := .pointer (some ⟨pb, 6, none⟩)) rfl rfl rfl (by kernel_rfl) (by kernel_rfl) (by kernel_rfl) (fun _ _ d _ _ h => by cases d <;> exact h) (fun X hS => by kernel_rfl) trivial ?_
        simp only [Act.put, List.setIfInBounds_toArray, List.set_cons_zero, List.set_cons_succ]
        refine all_wT (i := 11) (by kernel_rfl) rfl rfl ?_
        have b4 : X4.heap[pb]? = some (.cells (pC cf now mb line2).toArray 64) := hXs.2.trans pz.box
        refine wp_storeA (.tmp 40) (.tmp 38) 62 rfl rfl rfl rfl (w2 := X4.setCell ⟨pb, 6, none⟩ line3) (by rw [hl3]; exact st_row (by rw [blk_cell (j := 6) b4 rfl]; rfl) (blk_open b4 6)) ⟨trivial, ?_⟩
        refine wpAnyH_done (by kernel_rfl) ?_ _
        have hMz : MapAt Z2 mb (M ++ [(d, b)]) := HM3.out.on (c2.block _ HM3.out.lt)
        have hput := put_end (V := V) (line := line) (X3 := X4.setCell ⟨pb, 6, none⟩ line3) (line2 := line2) (k := k) (y := (⟨d, m, u⟩, b)) pz hMz (HM.out.2.put (y := (⟨d, m, u⟩, b)) HNK.out (putK_mem L2 k _)) (HK.out.kn.put (y := (⟨d, m, u⟩, b)) HNK.out) hst.1 ⟨⟨HD.out.fit, HD.out.len⟩, HE3.out.on (c2.block _ HE3.out.lt)⟩ HK.out.pm HLP.out HK.out.lm (fun x hx => by rcases (putK_mem L2 k _ x).1 hx with h | h; exact HK.out.el h; rw [h]; exact HBN.out.2.2.2) (fun x hx => by rcases (putK_mem L2 k _ x).1 hx with h | h; exact HK.out.ep h; rw [h]; exact HBN.out.2.1) (by rw [hline]; exact hins) rfl
        have HF : Hid (∃ k line4, Stands L2 (⟨d, m, u⟩, b) k ∧ Keeps pb cf now mb line4 (putK L2 k (⟨d, m, u⟩, b)) (X4.setCell ⟨pb, 6, none⟩ line3) ∧ (line4.ownBlock = line.ownBlock ∨ ∀ g, line4.ownBlock = some g → V.heap.size ≤ g) ∧ Fr pb mb line V (X4.setCell ⟨pb, 6, none⟩ line3)) := by
          have f3 : Fr pb mb line V X3 := ⟨HO3.out.os.trans HFR.out.os, HO3.out.tape.trans HFR.out.tape, HO3.out.output.trans HFR.out.output, by rw [HO3.out.size]; exact HFR.out.size, fun g hg h1 h2 h4 => (HO3.out.other g h2).trans (HFR.out.other g hg h1 h2 h4)⟩
          have f4 : Fr pb mb line V Z2 := f3.trans (Fr.below c2) rfl
          refine ⟨k, line3, hst, hput.1, ?_, f4.trans hput.2.1 HLB.out⟩
          rcases hput.2.2 with h | h
          · exact .inl (h.trans HLB.out)
          · exact .inr (fun g hg => Nat.le_trans f4.size (h g hg))
        clear hput hMz b4 hXs hl3 hins hlv rz pz
        first
        | (try go_returns
           exact HQ.out _ _ ⟨rfl, HF.out⟩)
        | (go_wp2_with fail
           try go_returns
           exact HQ.out _ _ ⟨rfl, HF.out⟩)
      · obtain ⟨Z1, hZ1⟩ : ∃ Z, Z = Z0.alloc (.cells [Value.pointer (some ⟨b, 0, none⟩)].toArray 74) := ⟨_, rfl⟩
        refine wp_effX (d := some 37) (v := .slice (some ⟨Z0.heap.size, 0, none⟩) 1 1) (w2 := Z1) rfl (by rw [hZ1]; exact ex_bs1 3 rfl rfl) ⟨trivial, ?_⟩
        simp only [Act.put, List.setIfInBounds_toArray, List.set_cons_zero, List.set_cons_succ]
        have hvb : Z1.heap[Z0.heap.size]? = some (.cells [Value.pointer (some ⟨b, 0, none⟩)].toArray 74) := by rw [hZ1]; exact blk_new _ _
        have c1 : Below X3.heap.size X3 Z1 := by rw [hZ1]; exact c0.alloc c0.size _
        have hvl : X3.heap.size ≤ Z0.heap.size := c0.size
        generalize Z0.heap.size = vb at *
        refine all_wT (i := 4) (by kernel_rfl) rfl rfl ?_
        refine wp_effX (d := some 34) (v := .slice la L2.length lc) (w2 := Z1) rfl (ex_loadA (.tmp 33) 62 rfl rfl (ld_row ((HP3.out.on c1).cell 6 _ (by rw [hline]; rfl)))) ⟨trivial, ?_⟩
        simp only [Act.put, List.setIfInBounds_toArray, List.set_cons_zero, List.set_cons_succ]
        refine all_wT (i := 8) (by kernel_rfl) rfl rfl ?_
        have pz := HP3.out.on c1
        have rz := pz.row
        rw [hline] at rz
        have hlv : (Value.slice la L2.length lc).ownBlock ≠ some vb := fun e => by have h8 := own_lt HP3.out.row (b := vb) (by rw [hline]; exact e); omega
        refine wp_call (d := some 38) (R := fun v w' => Insd (.slice la L2.length lc) L2.length k (ptrs L2) (.pointer (some ⟨b, 0, none⟩)) Z1 (.returned v) w') 41 _ rfl (by kernel_rfl) ((HIK.out k hst Z1 _ _ vb _ rz rfl hvb hlv (ptrs_one L2)).mono (fun e w' hh => by obtain ⟨v, rfl, hh⟩ := hh; exact ⟨v, rfl, v, rfl, hh⟩)) ?_
        rintro line3 X4 hins
        obtain ⟨l3a, l3c, hl3⟩ : ∃ a c, line3 = .slice a (L2.length + 1) c := by obtain ⟨v, ev, hr, _⟩ := hins; injection ev with ev; rw [ev]; exact own_slc hr
        have hXs : Z1.heap.size ≤ X4.heap.size ∧ (X4.heap[pb]? = Z1.heap[pb]?) := by obtain ⟨v, ev, hr, _, _, _, _, h1, h2⟩ := hins; exact ⟨h1, h2 pb pz.lt (fun e => HLP.out (by rw [hline]; exact e))⟩
        refine ⟨trivial, ?_⟩
        simp only [Act.put, List.setIfInBounds_toArray, List.set_cons_zero, List.set_cons_succ]
        refine take_wT (i := 9) (d := some 39) (v := .pointer (some ⟨pb, 0, none⟩)) rfl rfl rfl (by kernel_rfl) (by kernel_rfl) (by kernel_rfl) (fun _ _ d _ _ h => by cases d <;> exact h) (fun X hS => by kernel_rfl) trivial ?_
        simp only [Act.put, List.setIfInBounds_toArray, List.set_cons_zero, List.set_cons_succ]
        refine take_wT (i := 10) (d := some 40) (v := .pointer (some ⟨pb, 6, none⟩)) rfl rfl rfl (by kernel_rfl) (by kernel_rfl) (by kernel_rfl) (fun _ _ d _ _ h => by cases d <;> exact h) (fun X hS => by kernel_rfl) trivial ?_
        simp only [Act.put, List.setIfInBounds_toArray, List.set_cons_zero, List.set_cons_succ]
        refine all_wT (i := 11) (by kernel_rfl) rfl rfl ?_
        have b4 : X4.heap[pb]? = some (.cells (pC cf now mb line2).toArray 64) := hXs.2.trans pz.box
        refine wp_storeA (.tmp 40) (.tmp 38) 62 rfl rfl rfl rfl (w2 := X4.setCell ⟨pb, 6, none⟩ line3) (by rw [hl3]; exact st_row (by rw [blk_cell (j := 6) b4 rfl]; rfl) (blk_open b4 6)) ⟨trivial, ?_⟩
        refine wpAnyH_done (by kernel_rfl) ?_ _
        have hMz : MapAt Z1 mb (M ++ [(d, b)]) := HM3.out.on (c1.block _ HM3.out.lt)
        have hput := put_end (V := V) (line := line) (X3 := X4.setCell ⟨pb, 6, none⟩ line3) (line2 := line2) (k := k) (y := (⟨d, m, u⟩, b)) pz hMz (HM.out.2.put (y := (⟨d, m, u⟩, b)) HNK.out (putK_mem L2 k _)) (HK.out.kn.put (y := (⟨d, m, u⟩, b)) HNK.out) hst.1 ⟨⟨HD.out.fit, HD.out.len⟩, HE3.out.on (c1.block _ HE3.out.lt)⟩ HK.out.pm HLP.out HK.out.lm (fun x hx => by rcases (putK_mem L2 k _ x).1 hx with h | h; exact HK.out.el h; rw [h]; exact HBN.out.2.2.2) (fun x hx => by rcases (putK_mem L2 k _ x).1 hx with h | h; exact HK.out.ep h; rw [h]; exact HBN.out.2.1) (by rw [hline]; exact hins) rfl
        have HF : Hid (∃ k line4, Stands L2 (⟨d, m, u⟩, b) k ∧ Keeps pb cf now mb line4 (putK L2 k (⟨d, m, u⟩, b)) (X4.setCell ⟨pb, 6, none⟩ line3) ∧ (line4.ownBlock = line.ownBlock ∨ ∀ g, line4.ownBlock = some g → V.heap.size ≤ g) ∧ Fr pb mb line V (X4.setCell ⟨pb, 6, none⟩ line3)) := by
          have f3 : Fr pb mb line V X3 := ⟨HO3.out.os.trans HFR.out.os, HO3.out.tape.trans HFR.out.tape, HO3.out.output.trans HFR.out.output, by rw [HO3.out.size]; exact HFR.out.size, fun g hg h1 h2 h4 => (HO3.out.other g h2).trans (HFR.out.other g hg h1 h2 h4)⟩
          have f4 : Fr pb mb line V Z1 := f3.trans (Fr.below c1) rfl
          refine ⟨k, line3, hst, hput.1, ?_, f4.trans hput.2.1 HLB.out⟩
          rcases hput.2.2 with h | h
          · exact .inl (h.trans HLB.out)
          · exact .inr (fun g hg => Nat.le_trans f4.size (h g hg))
        clear hput hMz b4 hXs hl3 hins hlv rz pz
        first
        | (try go_returns
           exact HQ.out _ _ ⟨rfl, HF.out⟩)
        | (go_wp2_with fail
           try go_returns
           exact HQ.out _ _ ⟨rfl, HF.out⟩)
    · obtain ⟨Z0, hZ0⟩ : ∃ Z, Z = Y0.alloc (.cells [Value.pointer (some ⟨b, 0, none⟩)].toArray 74) := ⟨_, rfl⟩
      refine wp_effX (d := some 37) (v := .slice (some ⟨Y0.heap.size, 0, none⟩) 1 1) (w2 := Z0) rfl (by rw [hZ0]; exact ex_bs1 3 rfl rfl) ⟨trivial, ?_⟩
      simp only [Act.put, List.setIfInBounds_toArray, List.set_cons_zero, List.set_cons_succ]
      have hvb : Z0.heap[Y0.heap.size]? = some (.cells [Value.pointer (some ⟨b, 0, none⟩)].toArray 74) := by rw [hZ0]; exact blk_new _ _
      have c0 : Below X3.heap.size X3 Z0 := by rw [hZ0]; exact b0.alloc b0.size _
      have hvl : X3.heap.size ≤ Y0.heap.size := b0.size
      generalize Y0.heap.size = vb at *
      refine all_two (i1 := 4) (i2 := 6) (by kernel_rfl) rfl rfl rfl rfl ?_ ?_
      · refine wp_effX (d := some 34) (v := .slice la L2.length lc) (w2 := Z0) rfl (ex_loadA (.tmp 33) 62 rfl rfl (ld_row ((HP3.out.on c0).cell 6 _ (by rw [hline]; rfl)))) ⟨trivial, ?_⟩
        simp only [Act.put, List.setIfInBounds_toArray, List.set_cons_zero, List.set_cons_succ]
        refine all_wT (i := 6) (by kernel_rfl) rfl rfl ?_
        refine wp_call (d := some 36) (R := fun v w' => ∃ k : Nat, v = .int .i64 (k : Int) ∧ Stands L2 (⟨d, m, u⟩, b) k ∧ Below Z0.heap.size Z0 w') 42 _ rfl (by kernel_rfl) ((place_any (HP3.out.on c0) HSO.out HLN.out (y := (⟨d, m, u⟩, b)) ⟨⟨HD.out.fit, HD.out.len⟩, HE3.out.on (c0.block _ HE3.out.lt)⟩).mono (fun e w' hh => by obtain ⟨k, rfl, hk⟩ := hh; exact ⟨_, rfl, k, rfl, hk⟩)) ?_
        rintro _ Z2 ⟨k, rfl, hst, hb2⟩
        have c2 : Below X3.heap.size X3 Z2 := c0.trans (hb2.mono c0.size)
        have hvb := (hb2.block vb (Array.getElem?_eq_some_iff.1 hvb).1).trans hvb
        refine ⟨trivial, ?_⟩
        simp only [Act.put, List.setIfInBounds_toArray, List.set_cons_zero, List.set_cons_succ]
        refine all_wT (i := 8) (by kernel_rfl) rfl rfl ?_
        have pz := HP3.out.on c2
        have rz := pz.row
        rw [hline] at rz
        have hlv : (Value.slice la L2.length lc).ownBlock ≠ some vb := fun e => by have h8 := own_lt HP3.out.row (b := vb) (by rw [hline]; exact e); omega
        refine wp_call (d := some 38) (R := fun v w' => Insd (.slice la L2.length lc) L2.length k (ptrs L2) (.pointer (some ⟨b, 0, none⟩)) Z2 (.returned v) w') 41 _ rfl (by kernel_rfl) ((HIK.out k hst Z2 _ _ vb _ rz rfl hvb hlv (ptrs_one L2)).mono (fun e w' hh => by obtain ⟨v, rfl, hh⟩ := hh; exact ⟨v, rfl, v, rfl, hh⟩)) ?_
        rintro line3 X4 hins
        obtain ⟨l3a, l3c, hl3⟩ : ∃ a c, line3 = .slice a (L2.length + 1) c := by obtain ⟨v, ev, hr, _⟩ := hins; injection ev with ev; rw [ev]; exact own_slc hr
        have hXs : Z2.heap.size ≤ X4.heap.size ∧ (X4.heap[pb]? = Z2.heap[pb]?) := by obtain ⟨v, ev, hr, _, _, _, _, h1, h2⟩ := hins; exact ⟨h1, h2 pb pz.lt (fun e => HLP.out (by rw [hline]; exact e))⟩
        refine ⟨trivial, ?_⟩
        simp only [Act.put, List.setIfInBounds_toArray, List.set_cons_zero, List.set_cons_succ]
        refine take_wT (i := 9) (d := some 39) (v := .pointer (some ⟨pb, 0, none⟩)) rfl rfl rfl (by kernel_rfl) (by kernel_rfl) (by kernel_rfl) (fun _ _ d _ _ h => by cases d <;> exact h) (fun X hS => by kernel_rfl) trivial ?_
        simp only [Act.put, List.setIfInBounds_toArray, List.set_cons_zero, List.set_cons_succ]
        refine take_wT (i := 10) (d := some 40) (v := .pointer (some ⟨pb, 6, none⟩)) rfl rfl rfl (by kernel_rfl) (by kernel_rfl) (by kernel_rfl) (fun _ _ d _ _ h => by cases d <;> exact h) (fun X hS => by kernel_rfl) trivial ?_
        simp only [Act.put, List.setIfInBounds_toArray, List.set_cons_zero, List.set_cons_succ]
        refine all_wT (i := 11) (by kernel_rfl) rfl rfl ?_
        have b4 : X4.heap[pb]? = some (.cells (pC cf now mb line2).toArray 64) := hXs.2.trans pz.box
        refine wp_storeA (.tmp 40) (.tmp 38) 62 rfl rfl rfl rfl (w2 := X4.setCell ⟨pb, 6, none⟩ line3) (by rw [hl3]; exact st_row (by rw [blk_cell (j := 6) b4 rfl]; rfl) (blk_open b4 6)) ⟨trivial, ?_⟩
        refine wpAnyH_done (by kernel_rfl) ?_ _
        have hMz : MapAt Z2 mb (M ++ [(d, b)]) := HM3.out.on (c2.block _ HM3.out.lt)
        have hput := put_end (V := V) (line := line) (X3 := X4.setCell ⟨pb, 6, none⟩ line3) (line2 := line2) (k := k) (y := (⟨d, m, u⟩, b)) pz hMz (HM.out.2.put (y := (⟨d, m, u⟩, b)) HNK.out (putK_mem L2 k _)) (HK.out.kn.put (y := (⟨d, m, u⟩, b)) HNK.out) hst.1 ⟨⟨HD.out.fit, HD.out.len⟩, HE3.out.on (c2.block _ HE3.out.lt)⟩ HK.out.pm HLP.out HK.out.lm (fun x hx => by rcases (putK_mem L2 k _ x).1 hx with h | h; exact HK.out.el h; rw [h]; exact HBN.out.2.2.2) (fun x hx => by rcases (putK_mem L2 k _ x).1 hx with h | h; exact HK.out.ep h; rw [h]; exact HBN.out.2.1) (by rw [hline]; exact hins) rfl
        have HF : Hid (∃ k line4, Stands L2 (⟨d, m, u⟩, b) k ∧ Keeps pb cf now mb line4 (putK L2 k (⟨d, m, u⟩, b)) (X4.setCell ⟨pb, 6, none⟩ line3) ∧ (line4.ownBlock = line.ownBlock ∨ ∀ g, line4.ownBlock = some g → V.heap.size ≤ g) ∧ Fr pb mb line V (X4.setCell ⟨pb, 6, none⟩ line3)) := by
          have f3 : Fr pb mb line V X3 := ⟨HO3.out.os.trans HFR.out.os, HO3.out.tape.trans HFR.out.tape, HO3.out.output.trans HFR.out.output, by rw [HO3.out.size]; exact HFR.out.size, fun g hg h1 h2 h4 => (HO3.out.other g h2).trans (HFR.out.other g hg h1 h2 h4)⟩
          have f4 : Fr pb mb line V Z2 := f3.trans (Fr.below c2) rfl
          refine ⟨k, line3, hst, hput.1, ?_, f4.trans hput.2.1 HLB.out⟩
          rcases hput.2.2 with h | h
          · exact .inl (h.trans HLB.out)
          · exact .inr (fun g hg => Nat.le_trans f4.size (h g hg))
        clear hput hMz b4 hXs hl3 hins hlv rz pz
        first
        | (try go_returns
           exact HQ.out _ _ ⟨rfl, HF.out⟩)
        | (go_wp2_with fail
           try go_returns
           exact HQ.out _ _ ⟨rfl, HF.out⟩)
      · refine wp_call (d := some 36) (R := fun v w' => ∃ k : Nat, v = .int .i64 (k : Int) ∧ Stands L2 (⟨d, m, u⟩, b) k ∧ Below Z0.heap.size Z0 w') 42 _ rfl (by kernel_rfl) ((place_any (HP3.out.on c0) HSO.out HLN.out (y := (⟨d, m, u⟩, b)) ⟨⟨HD.out.fit, HD.out.len⟩, HE3.out.on (c0.block _ HE3.out.lt)⟩).mono (fun e w' hh => by obtain ⟨k, rfl, hk⟩ := hh; exact ⟨_, rfl, k, rfl, hk⟩)) ?_
        rintro _ Z1 ⟨k, rfl, hst, hb1⟩
        have c1 : Below X3.heap.size X3 Z1 := c0.trans (hb1.mono c0.size)
        have hvb := (hb1.block vb (Array.getElem?_eq_some_iff.1 hvb).1).trans hvb
        refine ⟨trivial, ?_⟩
        simp only [Act.put, List.setIfInBounds_toArray, List.set_cons_zero, List.set_cons_succ]
        refine all_wT (i := 4) (by kernel_rfl) rfl rfl ?_
        refine wp_effX (d := some 34) (v := .slice la L2.length lc) (w2 := Z1) rfl (ex_loadA (.tmp 33) 62 rfl rfl (ld_row ((HP3.out.on c1).cell 6 _ (by rw [hline]; rfl)))) ⟨trivial, ?_⟩
        simp only [Act.put, List.setIfInBounds_toArray, List.set_cons_zero, List.set_cons_succ]
        refine all_wT (i := 8) (by kernel_rfl) rfl rfl ?_
        have pz := HP3.out.on c1
        have rz := pz.row
        rw [hline] at rz
        have hlv : (Value.slice la L2.length lc).ownBlock ≠ some vb := fun e => by have h8 := own_lt HP3.out.row (b := vb) (by rw [hline]; exact e); omega
        refine wp_call (d := some 38) (R := fun v w' => Insd (.slice la L2.length lc) L2.length k (ptrs L2) (.pointer (some ⟨b, 0, none⟩)) Z1 (.returned v) w') 41 _ rfl (by kernel_rfl) ((HIK.out k hst Z1 _ _ vb _ rz rfl hvb hlv (ptrs_one L2)).mono (fun e w' hh => by obtain ⟨v, rfl, hh⟩ := hh; exact ⟨v, rfl, v, rfl, hh⟩)) ?_
        rintro line3 X4 hins
        obtain ⟨l3a, l3c, hl3⟩ : ∃ a c, line3 = .slice a (L2.length + 1) c := by obtain ⟨v, ev, hr, _⟩ := hins; injection ev with ev; rw [ev]; exact own_slc hr
        have hXs : Z1.heap.size ≤ X4.heap.size ∧ (X4.heap[pb]? = Z1.heap[pb]?) := by obtain ⟨v, ev, hr, _, _, _, _, h1, h2⟩ := hins; exact ⟨h1, h2 pb pz.lt (fun e => HLP.out (by rw [hline]; exact e))⟩
        refine ⟨trivial, ?_⟩
        simp only [Act.put, List.setIfInBounds_toArray, List.set_cons_zero, List.set_cons_succ]
        refine take_wT (i := 9) (d := some 39) (v := .pointer (some ⟨pb, 0, none⟩)) rfl rfl rfl (by kernel_rfl) (by kernel_rfl) (by kernel_rfl) (fun _ _ d _ _ h => by cases d <;> exact h) (fun X hS => by kernel_rfl) trivial ?_
        simp only [Act.put, List.setIfInBounds_toArray, List.set_cons_zero, List.set_cons_succ]
        refine take_wT (i := 10) (d := some 40) (v := .pointer (some ⟨pb, 6, none⟩)) rfl rfl rfl (by kernel_rfl) (by kernel_rfl) (by kernel_rfl) (fun _ _ d _ _ h => by cases d <;> exact h) (fun X hS => by kernel_rfl) trivial ?_
        simp only [Act.put, List.setIfInBounds_toArray, List.set_cons_zero, List.set_cons_succ]
        refine all_wT (i := 11) (by kernel_rfl) rfl rfl ?_
        have b4 : X4.heap[pb]? = some (.cells (pC cf now mb line2).toArray 64) := hXs.2.trans pz.box
        refine wp_storeA (.tmp 40) (.tmp 38) 62 rfl rfl rfl rfl (w2 := X4.setCell ⟨pb, 6, none⟩ line3) (by rw [hl3]; exact st_row (by rw [blk_cell (j := 6) b4 rfl]; rfl) (blk_open b4 6)) ⟨trivial, ?_⟩
        refine wpAnyH_done (by kernel_rfl) ?_ _
        have hMz : MapAt Z1 mb (M ++ [(d, b)]) := HM3.out.on (c1.block _ HM3.out.lt)
        have hput := put_end (V := V) (line := line) (X3 := X4.setCell ⟨pb, 6, none⟩ line3) (line2 := line2) (k := k) (y := (⟨d, m, u⟩, b)) pz hMz (HM.out.2.put (y := (⟨d, m, u⟩, b)) HNK.out (putK_mem L2 k _)) (HK.out.kn.put (y := (⟨d, m, u⟩, b)) HNK.out) hst.1 ⟨⟨HD.out.fit, HD.out.len⟩, HE3.out.on (c1.block _ HE3.out.lt)⟩ HK.out.pm HLP.out HK.out.lm (fun x hx => by rcases (putK_mem L2 k _ x).1 hx with h | h; exact HK.out.el h; rw [h]; exact HBN.out.2.2.2) (fun x hx => by rcases (putK_mem L2 k _ x).1 hx with h | h; exact HK.out.ep h; rw [h]; exact HBN.out.2.1) (by rw [hline]; exact hins) rfl
        have HF : Hid (∃ k line4, Stands L2 (⟨d, m, u⟩, b) k ∧ Keeps pb cf now mb line4 (putK L2 k (⟨d, m, u⟩, b)) (X4.setCell ⟨pb, 6, none⟩ line3) ∧ (line4.ownBlock = line.ownBlock ∨ ∀ g, line4.ownBlock = some g → V.heap.size ≤ g) ∧ Fr pb mb line V (X4.setCell ⟨pb, 6, none⟩ line3)) := by
          have f3 : Fr pb mb line V X3 := ⟨HO3.out.os.trans HFR.out.os, HO3.out.tape.trans HFR.out.tape, HO3.out.output.trans HFR.out.output, by rw [HO3.out.size]; exact HFR.out.size, fun g hg h1 h2 h4 => (HO3.out.other g h2).trans (HFR.out.other g hg h1 h2 h4)⟩
          have f4 : Fr pb mb line V Z1 := f3.trans (Fr.below c1) rfl
          refine ⟨k, line3, hst, hput.1, ?_, f4.trans hput.2.1 HLB.out⟩
          rcases hput.2.2 with h | h
          · exact .inl (h.trans HLB.out)
          · exact .inr (fun g hg => Nat.le_trans f4.size (h g hg))
        clear hput hMz b4 hXs hl3 hins hlv rz pz
        first
        | (try go_returns
           exact HQ.out _ _ ⟨rfl, HF.out⟩)
        | (go_wp2_with fail
           try go_returns
           exact HQ.out _ _ ⟨rfl, HF.out⟩)
  | false =>
    have hlack : lackL L d = L := (lack_none (fun x hx e => by have := has_at hx; rw [e, hhas] at this; simp at this)).1
    cases hfull : ((((lackL L d).length : Int)) == cf.lim) with
    | false =>
      have hroom : roomL L d cf.lim = lackL L d := by unfold roomL; rw [if_neg]; rintro ⟨_, e⟩; rw [hlack] at hfull; simp [e] at hfull
      refine wp_region_held (S := fun X => EntAt X b d m u ∧ X.cell? ⟨pb, 0, none⟩ = some (.int .i64 cf.lim)) (by kernel_rfl) ?_
      show wpAnyH _ _ _ _ _ 18 (Array.replicate 18 false) _ W1.drew
      have s0 : EntAt W1.drew b d m u ∧ W1.drew.cell? ⟨pb, 0, none⟩ = some (.int .i64 cf.lim) := ⟨HB1.out.2.1, HK1.out.p.cell 0 _ rfl⟩
      have k0 : Keeps pb cf now mb line L W1.drew := HK1.out.on (Below.refl _ W1).drew
      have b0 : Below W1.heap.size W1 W1.drew := (Below.refl _ W1).drew
      generalize W1.drew = X0 at *
      refine take_wT (i := 0) (d := some 4) (v := .pointer (some ⟨pb, 0, none⟩)) rfl rfl rfl (by kernel_rfl) (by kernel_rfl) (by kernel_rfl) (fun _ _ d _ _ h => by cases d <;> exact h) (fun X hS => by kernel_rfl) s0 ?_
      simp only [Act.put, List.setIfInBounds_toArray, List.set_cons_zero, List.set_cons_succ]
      refine take_wT (i := 1) (d := some 5) (v := .pointer (some ⟨b, 0, none⟩)) rfl rfl rfl (by kernel_rfl) (by kernel_rfl) (by kernel_rfl) (fun _ _ d _ _ h => by cases d <;> exact h) (fun X hS => by kernel_rfl) s0 ?_
      simp only [Act.put, List.setIfInBounds_toArray, List.set_cons_zero, List.set_cons_succ]
      refine take_wT (i := 2) (d := some 6) (v := .agg (u8s d).toArray) rfl rfl rfl (by kernel_rfl) (by kernel_rfl) (by kernel_rfl) (fun _ _ d _ _ h => by cases d <;> exact h) (fun X hS => ex_loadA (.tmp 5) 35 rfl rfl (load6 hdl (fun jj v hv => by simp only [u8s, List.getElem?_map, Option.map_eq_some_iff] at hv; obtain ⟨z, hz, rfl⟩ := hv; exact hS.1.byte jj z hz))) s0 ?_
      simp only [Act.put, List.setIfInBounds_toArray, List.set_cons_zero, List.set_cons_succ]
      refine all_wT (i := 3) (by kernel_rfl) rfl rfl ?_
      refine wp_call (d := some 7) (R := fun v w' => v = .bool (hasL L d) ∧ ∃ line', Keeps pb cf now mb line' (lackL L d) w' ∧ line'.ownBlock = line.ownBlock ∧ Fr pb mb line X0 w') 33 _ rfl (by kernel_rfl) ((drop_any k0 HSL.out.1 HSL.out.2 HD.out).mono (fun e w' hh => ⟨_, hh.1, rfl, hh.2⟩)) ?_
      rintro _ X1 ⟨rfl, line1, k1, l1, f1⟩
      have e1 : EntAt X1 b d m u := s0.1.on (f1.other b s0.1.lt (by have := HVN.out; omega) (by have := HVN.out; omega) (fun e => by have := HVN.out.2.2.1 b e; have := HVN.out.2.2.2; omega))
      have s1 : EntAt X1 b d m u ∧ X1.cell? ⟨pb, 0, none⟩ = some (.int .i64 cf.lim) := ⟨e1, k1.p.cell 0 _ rfl⟩
      refine ⟨s1, ?_⟩
      simp only [Act.put, List.setIfInBounds_toArray, List.set_cons_zero, List.set_cons_succ]
      rw [hhas]
      refine take_wT (i := 4) (d := some 8) (v := .bool (!false)) rfl rfl rfl (by kernel_rfl) (by kernel_rfl) (by kernel_rfl) (fun _ _ d _ _ h => by cases d <;> exact h) (fun X hS => ex_notP (.tmp 7) rfl rfl) s1 ?_
      simp only [Act.put, List.setIfInBounds_toArray, List.set_cons_zero, List.set_cons_succ]
      simp only [Bool.not_true, Bool.not_false]
      refine take_wT (i := 5) (d := some 9) (v := .bool true) rfl rfl rfl (by kernel_rfl) (by kernel_rfl) (by kernel_rfl) (fun _ _ d _ _ h => by cases d <;> exact h) (fun X hS => by kernel_rfl) s1 ?_
      simp only [Act.put, List.setIfInBounds_toArray, List.set_cons_zero, List.set_cons_succ]
      refine take_wT (i := 6) (d := some 10) (v := .pointer (some ⟨pb, 0, none⟩)) rfl rfl rfl (by kernel_rfl) (by kernel_rfl) (by kernel_rfl) (fun _ _ d _ _ h => by cases d <;> exact h) (fun X hS => by kernel_rfl) s1 ?_
      simp only [Act.put, List.setIfInBounds_toArray, List.set_cons_zero, List.set_cons_succ]
      refine take_wT (i := 7) (d := some 11) (v := .pointer (some ⟨pb, 0, none⟩)) rfl rfl rfl (by kernel_rfl) (by kernel_rfl) (by kernel_rfl) (fun _ _ d _ _ h => by cases d <;> exact h) (fun X hS => by kernel_rfl) s1 ?_
      simp only [Act.put, List.setIfInBounds_toArray, List.set_cons_zero, List.set_cons_succ]
      refine take_wT (i := 8) (d := some 12) (v := .pointer (some ⟨pb, 6, none⟩)) rfl rfl rfl (by kernel_rfl) (by kernel_rfl) (by kernel_rfl) (fun _ _ d _ _ h => by cases d <;> exact h) (fun X hS => by kernel_rfl) s1 ?_
      simp only [Act.put, List.setIfInBounds_toArray, List.set_cons_zero, List.set_cons_succ]
      refine take_wT (i := 11) (d := some 15) (v := .pointer (some ⟨pb, 0, none⟩)) rfl rfl rfl (by kernel_rfl) (by kernel_rfl) (by kernel_rfl) (fun _ _ d _ _ h => by cases d <;> exact h) (fun X hS => by kernel_rfl) s1 ?_
      simp only [Act.put, List.setIfInBounds_toArray, List.set_cons_zero, List.set_cons_succ]
      refine take_wT (i := 12) (d := some 16) (v := .pointer (some ⟨pb, 0, none⟩)) rfl rfl rfl (by kernel_rfl) (by kernel_rfl) (by kernel_rfl) (fun _ _ d _ _ h => by cases d <;> exact h) (fun X hS => by kernel_rfl) s1 ?_
      simp only [Act.put, List.setIfInBounds_toArray, List.set_cons_zero, List.set_cons_succ]
      refine take_wT (i := 13) (d := some 17) (v := .pointer (some ⟨pb, 0, none⟩)) rfl rfl rfl (by kernel_rfl) (by kernel_rfl) (by kernel_rfl) (fun _ _ d _ _ h => by cases d <;> exact h) (fun X hS => by kernel_rfl) s1 ?_
      simp only [Act.put, List.setIfInBounds_toArray, List.set_cons_zero, List.set_cons_succ]
      refine take_wT (i := 14) (d := some 18) (v := .pointer (some ⟨pb, 0, none⟩)) rfl rfl rfl (by kernel_rfl) (by kernel_rfl) (by kernel_rfl) (fun _ _ d _ _ h => by cases d <;> exact h) (fun X hS => by kernel_rfl) s1 ?_
      simp only [Act.put, List.setIfInBounds_toArray, List.set_cons_zero, List.set_cons_succ]
      refine take_wT (i := 15) (d := some 19) (v := .int .i64 cf.lim) rfl rfl rfl (by kernel_rfl) (by kernel_rfl) (by kernel_rfl) (fun _ _ d _ _ h => by cases d <;> exact h) (fun X hS => ex_loadA (.tmp 18) 3 rfl rfl (ld_int hS.2)) s1 ?_
      simp only [Act.put, List.setIfInBounds_toArray, List.set_cons_zero, List.set_cons_succ]
      refine all_wT (i := 9) (by kernel_rfl) rfl rfl ?_
      obtain ⟨a1, c1, hl1⟩ := k1.p.slc
      refine wp_effX (d := some 13) (v := .slice a1 (lackL L d).length c1) (w2 := X1) rfl (ex_loadA (.tmp 12) 62 rfl rfl (ld_row (k1.p.cell 6 _ (by rw [hl1]; rfl)))) ⟨s1, ?_⟩
      simp only [Act.put, List.setIfInBounds_toArray, List.set_cons_zero, List.set_cons_succ]
      refine take_wT (i := 10) (d := some 14) (v := .int .i64 ((lackL L d).length : Int)) rfl rfl rfl (by kernel_rfl) (by kernel_rfl) (by kernel_rfl) (fun _ _ d _ _ h => by cases d <;> exact h) (fun X hS => by kernel_rfl) s1 ?_
      simp only [Act.put, List.setIfInBounds_toArray, List.set_cons_zero, List.set_cons_succ]
      refine take_wT (i := 16) (d := some 20) (v := .bool ((((lackL L d).length : Int)) == cf.lim)) rfl rfl rfl (by kernel_rfl) (by kernel_rfl) (by kernel_rfl) (fun _ _ d _ _ h => by cases d <;> exact h) (fun X hS => ex_eqlP (.tmp 14) (.tmp 19) rfl rfl rfl) s1 ?_
      simp only [Act.put, List.setIfInBounds_toArray, List.set_cons_zero, List.set_cons_succ]
      rw [hfull]
      refine take_wT (i := 17) (d := some 21) (v := .bool false) rfl rfl rfl (by kernel_rfl) (by kernel_rfl) (by kernel_rfl) (fun _ _ d _ _ h => by cases d <;> exact h) (fun X hS => by kernel_rfl) s1 ?_
      simp only [Act.put, List.setIfInBounds_toArray, List.set_cons_zero, List.set_cons_succ]
      refine wpAnyH_done (by kernel_rfl) ?_ _
      have f0 : Fr pb mb line V X1 := ((Fr.below HB1.out.1).trans (Fr.below b0) rfl).trans f1 rfl
      have HK : Hid (Keeps pb cf now mb line1 (lackL L d) X1) := k1
      have HFR : Hid (Fr pb mb line V X1) := f0
      have HE : Hid (EntAt X1 b d m u) := e1
      have HLB : Hid (line1.ownBlock = line.ownBlock) := l1
      obtain ⟨line2, hl2⟩ : ∃ line2, line2 = line1 := ⟨_, rfl⟩
      rw [← hl2] at HK HLB
      have hL2 : roomL L d cf.lim = lackL L d := hroom
      clear s0 k0 b0 k1 l1 f1 e1 s1 f0
      obtain ⟨L2, hL2b⟩ : ∃ L2, L2 = lackL L d := ⟨_, rfl⟩
      rw [← hL2b] at HK hL2
      rw [hL2] at HQ HIK0
      have HIK : Hid _ := HIK0.out
      have HNK : Hid (∀ x ∈ L2, x.1.k ≠ d) := by rw [hL2b]; exact lack_keys L d
      have HSO : Hid (SortE L2) := by rw [hL2b]; exact HSL.out.1.sub d HK1.out.kn
      have HLN : Hid (L2.length ≤ 1000000) := by rw [hL2b]; exact Nat.le_trans (List.length_filter_le _ _) HSL.out.2
      have HBN : Hid (b = V.heap.size ∧ b ≠ pb ∧ b ≠ mb ∧ line2.ownBlock ≠ some b) := by
        have h9 := HVN.out
        exact ⟨h9.2.2.2, by omega, by omega, fun e => by rw [HLB.out] at e; have := h9.2.2.1 b e; omega⟩
      have HLP : Hid (line2.ownBlock ≠ some pb) := HK.out.lp
      obtain ⟨la, lc, hline⟩ := HK.out.p.slc
      obtain ⟨M, hm, hML⟩ := HK.out.m
      have hn := hML.none HNK.out
      have hkeys := hML.keys (fun x hx => (HK.out.p.ents x hx).1)
      have HM : Hid (MapAt X1 mb M ∧ MapL M L2) := ⟨hm, hML⟩
      clear hm hML
      go_wp2_with fail
      refine wp_region_held (S := fun X => X.cell? ⟨pb, 5, none⟩ = some (.map (some mb)) ∧ EntAt X b d m u) (by kernel_rfl) ?_
      show wpAnyH _ _ _ _ _ 7 (Array.replicate 7 false) _ X1.drew
      have s0 : X1.drew.cell? ⟨pb, 5, none⟩ = some (.map (some mb)) ∧ EntAt X1.drew b d m u := ⟨HK.out.p.cell 5 _ rfl, HE.out⟩
      obtain ⟨X3, hup, hm3, ho3⟩ := store16 (W := X1.drew) (q := b) HD.out (HM.out.1.on rfl) hkeys hn
      have e3 : EntAt X3 b d m u := HE.out.on (ho3.other b HBN.out.2.2.1)
      have s3 : X3.cell? ⟨pb, 5, none⟩ = some (.map (some mb)) ∧ EntAt X3 b d m u := ⟨by rw [World.cell?_of_block (w := X1) (w' := X3) (ho3.other pb HK.out.pm)]; exact s0.1, e3⟩
      have ho4 : Only mb X1 X3 := ⟨ho3.os, ho3.tape, ho3.output, ho3.size, ho3.other⟩
      have p3 : Paths pb cf now mb line2 L2 X3 := HK.out.p.same (ho4.other pb HK.out.pm) (fun g hg => ho4.other g (fun e => HK.out.lm (by rw [← e]; exact hg))) (fun x hx => ho4.other _ (HK.out.em hx))
      have hdl := HD.out.len
      clear ho3
      generalize X1.drew = X0 at *
      refine take_wT (i := 0) (d := some 24) (v := .pointer (some ⟨pb, 0, none⟩)) rfl rfl rfl (by kernel_rfl) (by kernel_rfl) (by kernel_rfl) (fun _ _ d _ _ h => by cases d <;> exact h) (fun X hS => by kernel_rfl) s0 ?_
      simp only [Act.put, List.setIfInBounds_toArray, List.set_cons_zero, List.set_cons_succ]
      refine take_wT (i := 1) (d := some 25) (v := .pointer (some ⟨pb, 0, none⟩)) rfl rfl rfl (by kernel_rfl) (by kernel_rfl) (by kernel_rfl) (fun _ _ d _ _ h => by cases d <;> exact h) (fun X hS => by kernel_rfl) s0 ?_
      simp only [Act.put, List.setIfInBounds_toArray, List.set_cons_zero, List.set_cons_succ]
      refine take_wT (i := 2) (d := some 26) (v := .pointer (some ⟨pb, 5, none⟩)) rfl rfl rfl (by kernel_rfl) (by kernel_rfl) (by kernel_rfl) (fun _ _ d _ _ h => by cases d <;> exact h) (fun X hS => by kernel_rfl) s0 ?_
      simp only [Act.put, List.setIfInBounds_toArray, List.set_cons_zero, List.set_cons_succ]
      refine take_wT (i := 3) (d := some 27) (v := .map (some mb)) rfl rfl rfl (by kernel_rfl) (by kernel_rfl) (by kernel_rfl) (fun _ _ d _ _ h => by cases d <;> exact h) (fun X hS => ex_loadA (.tmp 26) 61 rfl rfl (ld_map hS.1)) s0 ?_
      simp only [Act.put, List.setIfInBounds_toArray, List.set_cons_zero, List.set_cons_succ]
      refine take_wT (i := 4) (d := some 28) (v := .pointer (some ⟨b, 0, none⟩)) rfl rfl rfl (by kernel_rfl) (by kernel_rfl) (by kernel_rfl) (fun _ _ d _ _ h => by cases d <;> exact h) (fun X hS => by kernel_rfl) s0 ?_
      simp only [Act.put, List.setIfInBounds_toArray, List.set_cons_zero, List.set_cons_succ]
      refine take_wT (i := 5) (d := some 29) (v := .agg (u8s d).toArray) rfl rfl rfl (by kernel_rfl) (by kernel_rfl) (by kernel_rfl) (fun _ _ d _ _ h => by cases d <;> exact h) (fun X hS => ex_loadA (.tmp 28) 35 rfl rfl (load6 hdl (fun jj v hv => by simp only [u8s, List.getElem?_map, Option.map_eq_some_iff] at hv; obtain ⟨z, hz, rfl⟩ := hv; exact hS.2.byte jj z hz))) s0 ?_
      simp only [Act.put, List.setIfInBounds_toArray, List.set_cons_zero, List.set_cons_succ]
      refine all_wT (i := 6) (by kernel_rfl) rfl rfl ?_
      refine wp_updE (.tmp 27) (.tmp 29) (.tmp 3) rfl rfl rfl rfl rfl hup ⟨s3, ?_⟩
      refine wpAnyH_done (by kernel_rfl) ?_ _
      have HP3 : Hid (Paths pb cf now mb line2 L2 X3) := p3
      have HM3 : Hid (MapAt X3 mb (M ++ [(d, b)])) := hm3
      have HE3 : Hid (EntAt X3 b d m u) := e3
      have HO3 : Hid (Only mb X1 X3) := ho4
      clear s0 hup hm3 e3 s3 ho4 p3 hdl hn hkeys
      go_wp2_with fail
      refine wp_region_held (S := fun _ => True) (by kernel_rfl) ?_
      show wpAnyH _ _ _ _ _ 12 (Array.replicate 12 false) _ X3.drew
      have b0 : Below X3.heap.size X3 X3.drew := (Below.refl _ X3).drew
      generalize X3.drew = Y0 at *
      refine take_wT (i := 0) (d := some 30) (v := .pointer (some ⟨pb, 0, none⟩)) rfl rfl rfl (by kernel_rfl) (by kernel_rfl) (by kernel_rfl) (fun _ _ d _ _ h => by cases d <;> exact h) (fun X hS => by kernel_rfl) trivial ?_
      simp only [Act.put, List.setIfInBounds_toArray, List.set_cons_zero, List.set_cons_succ]
      refine take_wT (i := 1) (d := some 31) (v := .pointer (some ⟨pb, 0, none⟩)) rfl rfl rfl (by kernel_rfl) (by kernel_rfl) (by kernel_rfl) (fun _ _ d _ _ h => by cases d <;> exact h) (fun X hS => by kernel_rfl) trivial ?_
      simp only [Act.put, List.setIfInBounds_toArray, List.set_cons_zero, List.set_cons_succ]
      refine take_wT (i := 2) (d := some 32) (v := .pointer (some ⟨pb, 0, none⟩)) rfl rfl rfl (by kernel_rfl) (by kernel_rfl) (by kernel_rfl) (fun _ _ d _ _ h => by cases d <;> exact h) (fun X hS => by kernel_rfl) trivial ?_
      simp only [Act.put, List.setIfInBounds_toArray, List.set_cons_zero, List.set_cons_succ]
      refine take_wT (i := 3) (d := some 33) (v := .pointer (some ⟨pb, 6, none⟩)) rfl rfl rfl (by kernel_rfl) (by kernel_rfl) (by kernel_rfl) (fun _ _ d _ _ h => by cases d <;> exact h) (fun X hS => by kernel_rfl) trivial ?_
      simp only [Act.put, List.setIfInBounds_toArray, List.set_cons_zero, List.set_cons_succ]
      refine take_wT (i := 5) (d := some 35) (v := .pointer (some ⟨pb, 0, none⟩)) rfl rfl rfl (by kernel_rfl) (by kernel_rfl) (by kernel_rfl) (fun _ _ d _ _ h => by cases d <;> exact h) (fun X hS => by kernel_rfl) trivial ?_
      simp only [Act.put, List.setIfInBounds_toArray, List.set_cons_zero, List.set_cons_succ]
      refine all_three (i1 := 4) (i2 := 6) (i3 := 7) (by kernel_rfl) rfl rfl rfl rfl rfl rfl ?_ ?_ ?_
      · refine wp_effX (d := some 34) (v := .slice la L2.length lc) (w2 := Y0) rfl (ex_loadA (.tmp 33) 62 rfl rfl (ld_row ((HP3.out.on b0).cell 6 _ (by rw [hline]; rfl)))) ⟨trivial, ?_⟩
        simp only [Act.put, List.setIfInBounds_toArray, List.set_cons_zero, List.set_cons_succ]
        refine all_two (i1 := 6) (i2 := 7) (by kernel_rfl) rfl rfl rfl rfl ?_ ?_
        · refine wp_call (d := some 36) (R := fun v w' => ∃ k : Nat, v = .int .i64 (k : Int) ∧ Stands L2 (⟨d, m, u⟩, b) k ∧ Below Y0.heap.size Y0 w') 42 _ rfl (by kernel_rfl) ((place_any (HP3.out.on b0) HSO.out HLN.out (y := (⟨d, m, u⟩, b)) ⟨⟨HD.out.fit, HD.out.len⟩, HE3.out.on (b0.block _ HE3.out.lt)⟩).mono (fun e w' hh => by obtain ⟨k, rfl, hk⟩ := hh; exact ⟨_, rfl, k, rfl, hk⟩)) ?_
          rintro _ Z1 ⟨k, rfl, hst, hb1⟩
          have c1 : Below X3.heap.size X3 Z1 := b0.trans (hb1.mono b0.size)
          refine ⟨trivial, ?_⟩
          simp only [Act.put, List.setIfInBounds_toArray, List.set_cons_zero, List.set_cons_succ]
          refine all_wT (i := 7) (by kernel_rfl) rfl rfl ?_
          obtain ⟨Z2, hZ2⟩ : ∃ Z, Z = Z1.alloc (.cells [Value.pointer (some ⟨b, 0, none⟩)].toArray 74) := ⟨_, rfl⟩
          refine wp_effX (d := some 37) (v := .slice (some ⟨Z1.heap.size, 0, none⟩) 1 1) (w2 := Z2) rfl (by rw [hZ2]; exact ex_bs1 3 rfl rfl) ⟨trivial, ?_⟩
          simp only [Act.put, List.setIfInBounds_toArray, List.set_cons_zero, List.set_cons_succ]
          have hvb : Z2.heap[Z1.heap.size]? = some (.cells [Value.pointer (some ⟨b, 0, none⟩)].toArray 74) := by rw [hZ2]; exact blk_new _ _
          have c2 : Below X3.heap.size X3 Z2 := by rw [hZ2]; exact c1.alloc c1.size _
          have hvl : X3.heap.size ≤ Z1.heap.size := c1.size
          generalize Z1.heap.size = vb at *
          refine all_wT (i := 8) (by kernel_rfl) rfl rfl ?_
          have pz := HP3.out.on c2
          have rz := pz.row
          rw [hline] at rz
          have hlv : (Value.slice la L2.length lc).ownBlock ≠ some vb := fun e => by have h8 := own_lt HP3.out.row (b := vb) (by rw [hline]; exact e); omega
          refine wp_call (d := some 38) (R := fun v w' => Insd (.slice la L2.length lc) L2.length k (ptrs L2) (.pointer (some ⟨b, 0, none⟩)) Z2 (.returned v) w') 41 _ rfl (by kernel_rfl) ((HIK.out k hst Z2 _ _ vb _ rz rfl hvb hlv (ptrs_one L2)).mono (fun e w' hh => by obtain ⟨v, rfl, hh⟩ := hh; exact ⟨v, rfl, v, rfl, hh⟩)) ?_
          rintro line3 X4 hins
          obtain ⟨l3a, l3c, hl3⟩ : ∃ a c, line3 = .slice a (L2.length + 1) c := by obtain ⟨v, ev, hr, _⟩ := hins; injection ev with ev; rw [ev]; exact own_slc hr
          have hXs : Z2.heap.size ≤ X4.heap.size ∧ (X4.heap[pb]? = Z2.heap[pb]?) := by obtain ⟨v, ev, hr, _, _, _, _, h1, h2⟩ := hins; exact ⟨h1, h2 pb pz.lt (fun e => HLP.out (by rw [hline]; exact e))⟩
          refine ⟨trivial, ?_⟩
          simp only [Act.put, List.setIfInBounds_toArray, List.set_cons_zero, List.set_cons_succ]
          refine take_wT (i := 9) (d := some 39) (v := .pointer (some ⟨pb, 0, none⟩)) rfl rfl rfl (by kernel_rfl) (by kernel_rfl) (by kernel_rfl) (fun _ _ d _ _ h => by cases d <;> exact h) (fun X hS => by kernel_rfl) trivial ?_
          simp only [Act.put, List.setIfInBounds_toArray, List.set_cons_zero, List.set_cons_succ]
          refine take_wT (i := 10) (d := some 40) (v := .pointer (some ⟨pb, 6, none⟩)) rfl rfl rfl (by kernel_rfl) (by kernel_rfl) (by kernel_rfl) (fun _ _ d _ _ h => by cases d <;> exact h) (fun X hS => by kernel_rfl) trivial ?_
          simp only [Act.put, List.setIfInBounds_toArray, List.set_cons_zero, List.set_cons_succ]
          refine all_wT (i := 11) (by kernel_rfl) rfl rfl ?_
          have b4 : X4.heap[pb]? = some (.cells (pC cf now mb line2).toArray 64) := hXs.2.trans pz.box
          refine wp_storeA (.tmp 40) (.tmp 38) 62 rfl rfl rfl rfl (w2 := X4.setCell ⟨pb, 6, none⟩ line3) (by rw [hl3]; exact st_row (by rw [blk_cell (j := 6) b4 rfl]; rfl) (blk_open b4 6)) ⟨trivial, ?_⟩
          refine wpAnyH_done (by kernel_rfl) ?_ _
          have hMz : MapAt Z2 mb (M ++ [(d, b)]) := HM3.out.on (c2.block _ HM3.out.lt)
          have hput := put_end (V := V) (line := line) (X3 := X4.setCell ⟨pb, 6, none⟩ line3) (line2 := line2) (k := k) (y := (⟨d, m, u⟩, b)) pz hMz (HM.out.2.put (y := (⟨d, m, u⟩, b)) HNK.out (putK_mem L2 k _)) (HK.out.kn.put (y := (⟨d, m, u⟩, b)) HNK.out) hst.1 ⟨⟨HD.out.fit, HD.out.len⟩, HE3.out.on (c2.block _ HE3.out.lt)⟩ HK.out.pm HLP.out HK.out.lm (fun x hx => by rcases (putK_mem L2 k _ x).1 hx with h | h; exact HK.out.el h; rw [h]; exact HBN.out.2.2.2) (fun x hx => by rcases (putK_mem L2 k _ x).1 hx with h | h; exact HK.out.ep h; rw [h]; exact HBN.out.2.1) (by rw [hline]; exact hins) rfl
          have HF : Hid (∃ k line4, Stands L2 (⟨d, m, u⟩, b) k ∧ Keeps pb cf now mb line4 (putK L2 k (⟨d, m, u⟩, b)) (X4.setCell ⟨pb, 6, none⟩ line3) ∧ (line4.ownBlock = line.ownBlock ∨ ∀ g, line4.ownBlock = some g → V.heap.size ≤ g) ∧ Fr pb mb line V (X4.setCell ⟨pb, 6, none⟩ line3)) := by
            have f3 : Fr pb mb line V X3 := ⟨HO3.out.os.trans HFR.out.os, HO3.out.tape.trans HFR.out.tape, HO3.out.output.trans HFR.out.output, by rw [HO3.out.size]; exact HFR.out.size, fun g hg h1 h2 h4 => (HO3.out.other g h2).trans (HFR.out.other g hg h1 h2 h4)⟩
            have f4 : Fr pb mb line V Z2 := f3.trans (Fr.below c2) rfl
            refine ⟨k, line3, hst, hput.1, ?_, f4.trans hput.2.1 HLB.out⟩
            rcases hput.2.2 with h | h
            · exact .inl (h.trans HLB.out)
            · exact .inr (fun g hg => Nat.le_trans f4.size (h g hg))
          clear hput hMz b4 hXs hl3 hins hlv rz pz
          first
          | (try go_returns
             exact HQ.out _ _ ⟨rfl, HF.out⟩)
          | (go_wp2_with fail
             try go_returns
             exact HQ.out _ _ ⟨rfl, HF.out⟩)
        · obtain ⟨Z1, hZ1⟩ : ∃ Z, Z = Y0.alloc (.cells [Value.pointer (some ⟨b, 0, none⟩)].toArray 74) := ⟨_, rfl⟩
          refine wp_effX (d := some 37) (v := .slice (some ⟨Y0.heap.size, 0, none⟩) 1 1) (w2 := Z1) rfl (by rw [hZ1]; exact ex_bs1 3 rfl rfl) ⟨trivial, ?_⟩
          simp only [Act.put, List.setIfInBounds_toArray, List.set_cons_zero, List.set_cons_succ]
          have hvb : Z1.heap[Y0.heap.size]? = some (.cells [Value.pointer (some ⟨b, 0, none⟩)].toArray 74) := by rw [hZ1]; exact blk_new _ _
          have c1 : Below X3.heap.size X3 Z1 := by rw [hZ1]; exact b0.alloc b0.size _
          have hvl : X3.heap.size ≤ Y0.heap.size := b0.size
          generalize Y0.heap.size = vb at *
          refine all_wT (i := 6) (by kernel_rfl) rfl rfl ?_
          refine wp_call (d := some 36) (R := fun v w' => ∃ k : Nat, v = .int .i64 (k : Int) ∧ Stands L2 (⟨d, m, u⟩, b) k ∧ Below Z1.heap.size Z1 w') 42 _ rfl (by kernel_rfl) ((place_any (HP3.out.on c1) HSO.out HLN.out (y := (⟨d, m, u⟩, b)) ⟨⟨HD.out.fit, HD.out.len⟩, HE3.out.on (c1.block _ HE3.out.lt)⟩).mono (fun e w' hh => by obtain ⟨k, rfl, hk⟩ := hh; exact ⟨_, rfl, k, rfl, hk⟩)) ?_
          rintro _ Z2 ⟨k, rfl, hst, hb2⟩
          have c2 : Below X3.heap.size X3 Z2 := c1.trans (hb2.mono c1.size)
          have hvb := (hb2.block vb (Array.getElem?_eq_some_iff.1 hvb).1).trans hvb
          refine ⟨trivial, ?_⟩
          simp only [Act.put, List.setIfInBounds_toArray, List.set_cons_zero, List.set_cons_succ]
          refine all_wT (i := 8) (by kernel_rfl) rfl rfl ?_
          have pz := HP3.out.on c2
          have rz := pz.row
          rw [hline] at rz
          have hlv : (Value.slice la L2.length lc).ownBlock ≠ some vb := fun e => by have h8 := own_lt HP3.out.row (b := vb) (by rw [hline]; exact e); omega
          refine wp_call (d := some 38) (R := fun v w' => Insd (.slice la L2.length lc) L2.length k (ptrs L2) (.pointer (some ⟨b, 0, none⟩)) Z2 (.returned v) w') 41 _ rfl (by kernel_rfl) ((HIK.out k hst Z2 _ _ vb _ rz rfl hvb hlv (ptrs_one L2)).mono (fun e w' hh => by obtain ⟨v, rfl, hh⟩ := hh; exact ⟨v, rfl, v, rfl, hh⟩)) ?_
          rintro line3 X4 hins
          obtain ⟨l3a, l3c, hl3⟩ : ∃ a c, line3 = .slice a (L2.length + 1) c := by obtain ⟨v, ev, hr, _⟩ := hins; injection ev with ev; rw [ev]; exact own_slc hr
          have hXs : Z2.heap.size ≤ X4.heap.size ∧ (X4.heap[pb]? = Z2.heap[pb]?) := by obtain ⟨v, ev, hr, _, _, _, _, h1, h2⟩ := hins; exact ⟨h1, h2 pb pz.lt (fun e => HLP.out (by rw [hline]; exact e))⟩
          refine ⟨trivial, ?_⟩
          simp only [Act.put, List.setIfInBounds_toArray, List.set_cons_zero, List.set_cons_succ]
          refine take_wT (i := 9) (d := some 39) (v := .pointer (some ⟨pb, 0, none⟩)) rfl rfl rfl (by kernel_rfl) (by kernel_rfl) (by kernel_rfl) (fun _ _ d _ _ h => by cases d <;> exact h) (fun X hS => by kernel_rfl) trivial ?_
          simp only [Act.put, List.setIfInBounds_toArray, List.set_cons_zero, List.set_cons_succ]
          refine take_wT (i := 10) (d := some 40) (v := .pointer (some ⟨pb, 6, none⟩)) rfl rfl rfl (by kernel_rfl) (by kernel_rfl) (by kernel_rfl) (fun _ _ d _ _ h => by cases d <;> exact h) (fun X hS => by kernel_rfl) trivial ?_
          simp only [Act.put, List.setIfInBounds_toArray, List.set_cons_zero, List.set_cons_succ]
          refine all_wT (i := 11) (by kernel_rfl) rfl rfl ?_
          have b4 : X4.heap[pb]? = some (.cells (pC cf now mb line2).toArray 64) := hXs.2.trans pz.box
          refine wp_storeA (.tmp 40) (.tmp 38) 62 rfl rfl rfl rfl (w2 := X4.setCell ⟨pb, 6, none⟩ line3) (by rw [hl3]; exact st_row (by rw [blk_cell (j := 6) b4 rfl]; rfl) (blk_open b4 6)) ⟨trivial, ?_⟩
          refine wpAnyH_done (by kernel_rfl) ?_ _
          have hMz : MapAt Z2 mb (M ++ [(d, b)]) := HM3.out.on (c2.block _ HM3.out.lt)
          have hput := put_end (V := V) (line := line) (X3 := X4.setCell ⟨pb, 6, none⟩ line3) (line2 := line2) (k := k) (y := (⟨d, m, u⟩, b)) pz hMz (HM.out.2.put (y := (⟨d, m, u⟩, b)) HNK.out (putK_mem L2 k _)) (HK.out.kn.put (y := (⟨d, m, u⟩, b)) HNK.out) hst.1 ⟨⟨HD.out.fit, HD.out.len⟩, HE3.out.on (c2.block _ HE3.out.lt)⟩ HK.out.pm HLP.out HK.out.lm (fun x hx => by rcases (putK_mem L2 k _ x).1 hx with h | h; exact HK.out.el h; rw [h]; exact HBN.out.2.2.2) (fun x hx => by rcases (putK_mem L2 k _ x).1 hx with h | h; exact HK.out.ep h; rw [h]; exact HBN.out.2.1) (by rw [hline]; exact hins) rfl
          have HF : Hid (∃ k line4, Stands L2 (⟨d, m, u⟩, b) k ∧ Keeps pb cf now mb line4 (putK L2 k (⟨d, m, u⟩, b)) (X4.setCell ⟨pb, 6, none⟩ line3) ∧ (line4.ownBlock = line.ownBlock ∨ ∀ g, line4.ownBlock = some g → V.heap.size ≤ g) ∧ Fr pb mb line V (X4.setCell ⟨pb, 6, none⟩ line3)) := by
            have f3 : Fr pb mb line V X3 := ⟨HO3.out.os.trans HFR.out.os, HO3.out.tape.trans HFR.out.tape, HO3.out.output.trans HFR.out.output, by rw [HO3.out.size]; exact HFR.out.size, fun g hg h1 h2 h4 => (HO3.out.other g h2).trans (HFR.out.other g hg h1 h2 h4)⟩
            have f4 : Fr pb mb line V Z2 := f3.trans (Fr.below c2) rfl
            refine ⟨k, line3, hst, hput.1, ?_, f4.trans hput.2.1 HLB.out⟩
            rcases hput.2.2 with h | h
            · exact .inl (h.trans HLB.out)
            · exact .inr (fun g hg => Nat.le_trans f4.size (h g hg))
          clear hput hMz b4 hXs hl3 hins hlv rz pz
          first
          | (try go_returns
             exact HQ.out _ _ ⟨rfl, HF.out⟩)
          | (go_wp2_with fail
             try go_returns
             exact HQ.out _ _ ⟨rfl, HF.out⟩)
      · refine wp_call (d := some 36) (R := fun v w' => ∃ k : Nat, v = .int .i64 (k : Int) ∧ Stands L2 (⟨d, m, u⟩, b) k ∧ Below Y0.heap.size Y0 w') 42 _ rfl (by kernel_rfl) ((place_any (HP3.out.on b0) HSO.out HLN.out (y := (⟨d, m, u⟩, b)) ⟨⟨HD.out.fit, HD.out.len⟩, HE3.out.on (b0.block _ HE3.out.lt)⟩).mono (fun e w' hh => by obtain ⟨k, rfl, hk⟩ := hh; exact ⟨_, rfl, k, rfl, hk⟩)) ?_
        rintro _ Z0 ⟨k, rfl, hst, hb0⟩
        have c0 : Below X3.heap.size X3 Z0 := b0.trans (hb0.mono b0.size)
        refine ⟨trivial, ?_⟩
        simp only [Act.put, List.setIfInBounds_toArray, List.set_cons_zero, List.set_cons_succ]
        refine all_two (i1 := 4) (i2 := 7) (by kernel_rfl) rfl rfl rfl rfl ?_ ?_
        · refine wp_effX (d := some 34) (v := .slice la L2.length lc) (w2 := Z0) rfl (ex_loadA (.tmp 33) 62 rfl rfl (ld_row ((HP3.out.on c0).cell 6 _ (by rw [hline]; rfl)))) ⟨trivial, ?_⟩
          simp only [Act.put, List.setIfInBounds_toArray, List.set_cons_zero, List.set_cons_succ]
          refine all_wT (i := 7) (by kernel_rfl) rfl rfl ?_
          obtain ⟨Z2, hZ2⟩ : ∃ Z, Z = Z0.alloc (.cells [Value.pointer (some ⟨b, 0, none⟩)].toArray 74) := ⟨_, rfl⟩
          refine wp_effX (d := some 37) (v := .slice (some ⟨Z0.heap.size, 0, none⟩) 1 1) (w2 := Z2) rfl (by rw [hZ2]; exact ex_bs1 3 rfl rfl) ⟨trivial, ?_⟩
          simp only [Act.put, List.setIfInBounds_toArray, List.set_cons_zero, List.set_cons_succ]
          have hvb : Z2.heap[Z0.heap.size]? = some (.cells [Value.pointer (some ⟨b, 0, none⟩)].toArray 74) := by rw [hZ2]; exact blk_new _ _
          have c2 : Below X3.heap.size X3 Z2 := by rw [hZ2]; exact c0.alloc c0.size _
          have hvl : X3.heap.size ≤ Z0.heap.size := c0.size
          generalize Z0.heap.size = vb at *
          refine all_wT (i := 8) (by kernel_rfl) rfl rfl ?_
          have pz := HP3.out.on c2
          have rz := pz.row
          rw [hline] at rz
          have hlv : (Value.slice la L2.length lc).ownBlock ≠ some vb := fun e => by have h8 := own_lt HP3.out.row (b := vb) (by rw [hline]; exact e); omega
          refine wp_call (d := some 38) (R := fun v w' => Insd (.slice la L2.length lc) L2.length k (ptrs L2) (.pointer (some ⟨b, 0, none⟩)) Z2 (.returned v) w') 41 _ rfl (by kernel_rfl) ((HIK.out k hst Z2 _ _ vb _ rz rfl hvb hlv (ptrs_one L2)).mono (fun e w' hh => by obtain ⟨v, rfl, hh⟩ := hh; exact ⟨v, rfl, v, rfl, hh⟩)) ?_
          rintro line3 X4 hins
          obtain ⟨l3a, l3c, hl3⟩ : ∃ a c, line3 = .slice a (L2.length + 1) c := by obtain ⟨v, ev, hr, _⟩ := hins; injection ev with ev; rw [ev]; exact own_slc hr
          have hXs : Z2.heap.size ≤ X4.heap.size ∧ (X4.heap[pb]? = Z2.heap[pb]?) := by obtain ⟨v, ev, hr, _, _, _, _, h1, h2⟩ := hins; exact ⟨h1, h2 pb pz.lt (fun e => HLP.out (by rw [hline]; exact e))⟩
          refine ⟨trivial, ?_⟩
          simp only [Act.put, List.setIfInBounds_toArray, List.set_cons_zero, List.set_cons_succ]
          refine take_wT (i := 9) (d := some 39) (v := .pointer (some ⟨pb, 0, none⟩)) rfl rfl rfl (by kernel_rfl) (by kernel_rfl) (by kernel_rfl) (fun _ _ d _ _ h => by cases d <;> exact h) (fun X hS => by kernel_rfl) trivial ?_
          simp only [Act.put, List.setIfInBounds_toArray, List.set_cons_zero, List.set_cons_succ]
          refine take_wT (i := 10) (d := some 40) (v := .pointer (some ⟨pb, 6, none⟩)) rfl rfl rfl (by kernel_rfl) (by kernel_rfl) (by kernel_rfl) (fun _ _ d _ _ h => by cases d <;> exact h) (fun X hS => by kernel_rfl) trivial ?_
          simp only [Act.put, List.setIfInBounds_toArray, List.set_cons_zero, List.set_cons_succ]
          refine all_wT (i := 11) (by kernel_rfl) rfl rfl ?_
          have b4 : X4.heap[pb]? = some (.cells (pC cf now mb line2).toArray 64) := hXs.2.trans pz.box
          refine wp_storeA (.tmp 40) (.tmp 38) 62 rfl rfl rfl rfl (w2 := X4.setCell ⟨pb, 6, none⟩ line3) (by rw [hl3]; exact st_row (by rw [blk_cell (j := 6) b4 rfl]; rfl) (blk_open b4 6)) ⟨trivial, ?_⟩
          refine wpAnyH_done (by kernel_rfl) ?_ _
          have hMz : MapAt Z2 mb (M ++ [(d, b)]) := HM3.out.on (c2.block _ HM3.out.lt)
          have hput := put_end (V := V) (line := line) (X3 := X4.setCell ⟨pb, 6, none⟩ line3) (line2 := line2) (k := k) (y := (⟨d, m, u⟩, b)) pz hMz (HM.out.2.put (y := (⟨d, m, u⟩, b)) HNK.out (putK_mem L2 k _)) (HK.out.kn.put (y := (⟨d, m, u⟩, b)) HNK.out) hst.1 ⟨⟨HD.out.fit, HD.out.len⟩, HE3.out.on (c2.block _ HE3.out.lt)⟩ HK.out.pm HLP.out HK.out.lm (fun x hx => by rcases (putK_mem L2 k _ x).1 hx with h | h; exact HK.out.el h; rw [h]; exact HBN.out.2.2.2) (fun x hx => by rcases (putK_mem L2 k _ x).1 hx with h | h; exact HK.out.ep h; rw [h]; exact HBN.out.2.1) (by rw [hline]; exact hins) rfl
          have HF : Hid (∃ k line4, Stands L2 (⟨d, m, u⟩, b) k ∧ Keeps pb cf now mb line4 (putK L2 k (⟨d, m, u⟩, b)) (X4.setCell ⟨pb, 6, none⟩ line3) ∧ (line4.ownBlock = line.ownBlock ∨ ∀ g, line4.ownBlock = some g → V.heap.size ≤ g) ∧ Fr pb mb line V (X4.setCell ⟨pb, 6, none⟩ line3)) := by
            have f3 : Fr pb mb line V X3 := ⟨HO3.out.os.trans HFR.out.os, HO3.out.tape.trans HFR.out.tape, HO3.out.output.trans HFR.out.output, by rw [HO3.out.size]; exact HFR.out.size, fun g hg h1 h2 h4 => (HO3.out.other g h2).trans (HFR.out.other g hg h1 h2 h4)⟩
            have f4 : Fr pb mb line V Z2 := f3.trans (Fr.below c2) rfl
            refine ⟨k, line3, hst, hput.1, ?_, f4.trans hput.2.1 HLB.out⟩
            rcases hput.2.2 with h | h
            · exact .inl (h.trans HLB.out)
            · exact .inr (fun g hg => Nat.le_trans f4.size (h g hg))
          clear hput hMz b4 hXs hl3 hins hlv rz pz
          first
          | (try go_returns
             exact HQ.out _ _ ⟨rfl, HF.out⟩)
          | (go_wp2_with fail
             try go_returns
             exact HQ.out _ _ ⟨rfl, HF.out⟩)
        · obtain ⟨Z1, hZ1⟩ : ∃ Z, Z = Z0.alloc (.cells [Value.pointer (some ⟨b, 0, none⟩)].toArray 74) := ⟨_, rfl⟩
          refine wp_effX (d := some 37) (v := .slice (some ⟨Z0.heap.size, 0, none⟩) 1 1) (w2 := Z1) rfl (by rw [hZ1]; exact ex_bs1 3 rfl rfl) ⟨trivial, ?_⟩
          simp only [Act.put, List.setIfInBounds_toArray, List.set_cons_zero, List.set_cons_succ]
          have hvb : Z1.heap[Z0.heap.size]? = some (.cells [Value.pointer (some ⟨b, 0, none⟩)].toArray 74) := by rw [hZ1]; exact blk_new _ _
          have c1 : Below X3.heap.size X3 Z1 := by rw [hZ1]; exact c0.alloc c0.size _
          have hvl : X3.heap.size ≤ Z0.heap.size := c0.size
          generalize Z0.heap.size = vb at *
          refine all_wT (i := 4) (by kernel_rfl) rfl rfl ?_
          refine wp_effX (d := some 34) (v := .slice la L2.length lc) (w2 := Z1) rfl (ex_loadA (.tmp 33) 62 rfl rfl (ld_row ((HP3.out.on c1).cell 6 _ (by rw [hline]; rfl)))) ⟨trivial, ?_⟩
          simp only [Act.put, List.setIfInBounds_toArray, List.set_cons_zero, List.set_cons_succ]
          refine all_wT (i := 8) (by kernel_rfl) rfl rfl ?_
          have pz := HP3.out.on c1
          have rz := pz.row
          rw [hline] at rz
          have hlv : (Value.slice la L2.length lc).ownBlock ≠ some vb := fun e => by have h8 := own_lt HP3.out.row (b := vb) (by rw [hline]; exact e); omega
          refine wp_call (d := some 38) (R := fun v w' => Insd (.slice la L2.length lc) L2.length k (ptrs L2) (.pointer (some ⟨b, 0, none⟩)) Z1 (.returned v) w') 41 _ rfl (by kernel_rfl) ((HIK.out k hst Z1 _ _ vb _ rz rfl hvb hlv (ptrs_one L2)).mono (fun e w' hh => by obtain ⟨v, rfl, hh⟩ := hh; exact ⟨v, rfl, v, rfl, hh⟩)) ?_
          rintro line3 X4 hins
          obtain ⟨l3a, l3c, hl3⟩ : ∃ a c, line3 = .slice a (L2.length + 1) c := by obtain ⟨v, ev, hr, _⟩ := hins; injection ev with ev; rw [ev]; exact own_slc hr
          have hXs : Z1.heap.size ≤ X4.heap.size ∧ (X4.heap[pb]? = Z1.heap[pb]?) := by obtain ⟨v, ev, hr, _, _, _, _, h1, h2⟩ := hins; exact ⟨h1, h2 pb pz.lt (fun e => HLP.out (by rw [hline]; exact e))⟩
          refine ⟨trivial, ?_⟩
          simp only [Act.put, List.setIfInBounds_toArray, List.set_cons_zero, List.set_cons_succ]
          refine take_wT (i := 9) (d := some 39) (v := .pointer (some ⟨pb, 0, none⟩)) rfl rfl rfl (by kernel_rfl) (by kernel_rfl) (by kernel_rfl) (fun _ _ d _ _ h => by cases d <;> exact h) (fun X hS => by kernel_rfl) trivial ?_
          simp only [Act.put, List.setIfInBounds_toArray, List.set_cons_zero, List.set_cons_succ]
          refine take_wT (i := 10) (d := some 40) (v := .pointer (some ⟨pb, 6, none⟩)) rfl rfl rfl (by kernel_rfl) (by kernel_rfl) (by kernel_rfl) (fun _ _ d _ _ h => by cases d <;> exact h) (fun X hS => by kernel_rfl) trivial ?_
          simp only [Act.put, List.setIfInBounds_toArray, List.set_cons_zero, List.set_cons_succ]
          refine all_wT (i := 11) (by kernel_rfl) rfl rfl ?_
          have b4 : X4.heap[pb]? = some (.cells (pC cf now mb line2).toArray 64) := hXs.2.trans pz.box
          refine wp_storeA (.tmp 40) (.tmp 38) 62 rfl rfl rfl rfl (w2 := X4.setCell ⟨pb, 6, none⟩ line3) (by rw [hl3]; exact st_row (by rw [blk_cell (j := 6) b4 rfl]; rfl) (blk_open b4 6)) ⟨trivial, ?_⟩
          refine wpAnyH_done (by kernel_rfl) ?_ _
          have hMz : MapAt Z1 mb (M ++ [(d, b)]) := HM3.out.on (c1.block _ HM3.out.lt)
          have hput := put_end (V := V) (line := line) (X3 := X4.setCell ⟨pb, 6, none⟩ line3) (line2 := line2) (k := k) (y := (⟨d, m, u⟩, b)) pz hMz (HM.out.2.put (y := (⟨d, m, u⟩, b)) HNK.out (putK_mem L2 k _)) (HK.out.kn.put (y := (⟨d, m, u⟩, b)) HNK.out) hst.1 ⟨⟨HD.out.fit, HD.out.len⟩, HE3.out.on (c1.block _ HE3.out.lt)⟩ HK.out.pm HLP.out HK.out.lm (fun x hx => by rcases (putK_mem L2 k _ x).1 hx with h | h; exact HK.out.el h; rw [h]; exact HBN.out.2.2.2) (fun x hx => by rcases (putK_mem L2 k _ x).1 hx with h | h; exact HK.out.ep h; rw [h]; exact HBN.out.2.1) (by rw [hline]; exact hins) rfl
          have HF : Hid (∃ k line4, Stands L2 (⟨d, m, u⟩, b) k ∧ Keeps pb cf now mb line4 (putK L2 k (⟨d, m, u⟩, b)) (X4.setCell ⟨pb, 6, none⟩ line3) ∧ (line4.ownBlock = line.ownBlock ∨ ∀ g, line4.ownBlock = some g → V.heap.size ≤ g) ∧ Fr pb mb line V (X4.setCell ⟨pb, 6, none⟩ line3)) := by
            have f3 : Fr pb mb line V X3 := ⟨HO3.out.os.trans HFR.out.os, HO3.out.tape.trans HFR.out.tape, HO3.out.output.trans HFR.out.output, by rw [HO3.out.size]; exact HFR.out.size, fun g hg h1 h2 h4 => (HO3.out.other g h2).trans (HFR.out.other g hg h1 h2 h4)⟩
            have f4 : Fr pb mb line V Z1 := f3.trans (Fr.below c1) rfl
            refine ⟨k, line3, hst, hput.1, ?_, f4.trans hput.2.1 HLB.out⟩
            rcases hput.2.2 with h | h
            · exact .inl (h.trans HLB.out)
            · exact .inr (fun g hg => Nat.le_trans f4.size (h g hg))
          clear hput hMz b4 hXs hl3 hins hlv rz pz
          first
          | (try go_returns
             exact HQ.out _ _ ⟨rfl, HF.out⟩)
          | (go_wp2_with fail
             try go_returns
             exact HQ.out _ _ ⟨rfl, HF.out⟩)
      · obtain ⟨Z0, hZ0⟩ : ∃ Z, Z = Y0.alloc (.cells [Value.pointer (some ⟨b, 0, none⟩)].toArray 74) := ⟨_, rfl⟩
        refine wp_effX (d := some 37) (v := .slice (some ⟨Y0.heap.size, 0, none⟩) 1 1) (w2 := Z0) rfl (by rw [hZ0]; exact ex_bs1 3 rfl rfl) ⟨trivial, ?_⟩
        simp only [Act.put, List.setIfInBounds_toArray, List.set_cons_zero, List.set_cons_succ]
        have hvb : Z0.heap[Y0.heap.size]? = some (.cells [Value.pointer (some ⟨b, 0, none⟩)].toArray 74) := by rw [hZ0]; exact blk_new _ _
        have c0 : Below X3.heap.size X3 Z0 := by rw [hZ0]; exact b0.alloc b0.size _
        have hvl : X3.heap.size ≤ Y0.heap.size := b0.size
        generalize Y0.heap.size = vb at *
        refine all_two (i1 := 4) (i2 := 6) (by kernel_rfl) rfl rfl rfl rfl ?_ ?_
        · refine wp_effX (d := some 34) (v := .slice la L2.length lc) (w2 := Z0) rfl (ex_loadA (.tmp 33) 62 rfl rfl (ld_row ((HP3.out.on c0).cell 6 _ (by rw [hline]; rfl)))) ⟨trivial, ?_⟩
          simp only [Act.put, List.setIfInBounds_toArray, List.set_cons_zero, List.set_cons_succ]
          refine all_wT (i := 6) (by kernel_rfl) rfl rfl ?_
          refine wp_call (d := some 36) (R := fun v w' => ∃ k : Nat, v = .int .i64 (k : Int) ∧ Stands L2 (⟨d, m, u⟩, b) k ∧ Below Z0.heap.size Z0 w') 42 _ rfl (by kernel_rfl) ((place_any (HP3.out.on c0) HSO.out HLN.out (y := (⟨d, m, u⟩, b)) ⟨⟨HD.out.fit, HD.out.len⟩, HE3.out.on (c0.block _ HE3.out.lt)⟩).mono (fun e w' hh => by obtain ⟨k, rfl, hk⟩ := hh; exact ⟨_, rfl, k, rfl, hk⟩)) ?_
          rintro _ Z2 ⟨k, rfl, hst, hb2⟩
          have c2 : Below X3.heap.size X3 Z2 := c0.trans (hb2.mono c0.size)
          have hvb := (hb2.block vb (Array.getElem?_eq_some_iff.1 hvb).1).trans hvb
          refine ⟨trivial, ?_⟩
          simp only [Act.put, List.setIfInBounds_toArray, List.set_cons_zero, List.set_cons_succ]
          refine all_wT (i := 8) (by kernel_rfl) rfl rfl ?_
          have pz := HP3.out.on c2
          have rz := pz.row
          rw [hline] at rz
          have hlv : (Value.slice la L2.length lc).ownBlock ≠ some vb := fun e => by have h8 := own_lt HP3.out.row (b := vb) (by rw [hline]; exact e); omega
          refine wp_call (d := some 38) (R := fun v w' => Insd (.slice la L2.length lc) L2.length k (ptrs L2) (.pointer (some ⟨b, 0, none⟩)) Z2 (.returned v) w') 41 _ rfl (by kernel_rfl) ((HIK.out k hst Z2 _ _ vb _ rz rfl hvb hlv (ptrs_one L2)).mono (fun e w' hh => by obtain ⟨v, rfl, hh⟩ := hh; exact ⟨v, rfl, v, rfl, hh⟩)) ?_
          rintro line3 X4 hins
          obtain ⟨l3a, l3c, hl3⟩ : ∃ a c, line3 = .slice a (L2.length + 1) c := by obtain ⟨v, ev, hr, _⟩ := hins; injection ev with ev; rw [ev]; exact own_slc hr
          have hXs : Z2.heap.size ≤ X4.heap.size ∧ (X4.heap[pb]? = Z2.heap[pb]?) := by obtain ⟨v, ev, hr, _, _, _, _, h1, h2⟩ := hins; exact ⟨h1, h2 pb pz.lt (fun e => HLP.out (by rw [hline]; exact e))⟩
          refine ⟨trivial, ?_⟩
          simp only [Act.put, List.setIfInBounds_toArray, List.set_cons_zero, List.set_cons_succ]
          refine take_wT (i := 9) (d := some 39) (v := .pointer (some ⟨pb, 0, none⟩)) rfl rfl rfl (by kernel_rfl) (by kernel_rfl) (by kernel_rfl) (fun _ _ d _ _ h => by cases d <;> exact h) (fun X hS => by kernel_rfl) trivial ?_
          simp only [Act.put, List.setIfInBounds_toArray, List.set_cons_zero, List.set_cons_succ]
          refine take_wT (i := 10) (d := some 40) (v := .pointer (some ⟨pb, 6, none⟩)) rfl rfl rfl (by kernel_rfl) (by kernel_rfl) (by kernel_rfl) (fun _ _ d _ _ h => by cases d <;> exact h) (fun X hS => by kernel_rfl) trivial ?_
          simp only [Act.put, List.setIfInBounds_toArray, List.set_cons_zero, List.set_cons_succ]
          refine all_wT (i := 11) (by kernel_rfl) rfl rfl ?_
          have b4 : X4.heap[pb]? = some (.cells (pC cf now mb line2).toArray 64) := hXs.2.trans pz.box
          refine wp_storeA (.tmp 40) (.tmp 38) 62 rfl rfl rfl rfl (w2 := X4.setCell ⟨pb, 6, none⟩ line3) (by rw [hl3]; exact st_row (by rw [blk_cell (j := 6) b4 rfl]; rfl) (blk_open b4 6)) ⟨trivial, ?_⟩
          refine wpAnyH_done (by kernel_rfl) ?_ _
          have hMz : MapAt Z2 mb (M ++ [(d, b)]) := HM3.out.on (c2.block _ HM3.out.lt)
          have hput := put_end (V := V) (line := line) (X3 := X4.setCell ⟨pb, 6, none⟩ line3) (line2 := line2) (k := k) (y := (⟨d, m, u⟩, b)) pz hMz (HM.out.2.put (y := (⟨d, m, u⟩, b)) HNK.out (putK_mem L2 k _)) (HK.out.kn.put (y := (⟨d, m, u⟩, b)) HNK.out) hst.1 ⟨⟨HD.out.fit, HD.out.len⟩, HE3.out.on (c2.block _ HE3.out.lt)⟩ HK.out.pm HLP.out HK.out.lm (fun x hx => by rcases (putK_mem L2 k _ x).1 hx with h | h; exact HK.out.el h; rw [h]; exact HBN.out.2.2.2) (fun x hx => by rcases (putK_mem L2 k _ x).1 hx with h | h; exact HK.out.ep h; rw [h]; exact HBN.out.2.1) (by rw [hline]; exact hins) rfl
          have HF : Hid (∃ k line4, Stands L2 (⟨d, m, u⟩, b) k ∧ Keeps pb cf now mb line4 (putK L2 k (⟨d, m, u⟩, b)) (X4.setCell ⟨pb, 6, none⟩ line3) ∧ (line4.ownBlock = line.ownBlock ∨ ∀ g, line4.ownBlock = some g → V.heap.size ≤ g) ∧ Fr pb mb line V (X4.setCell ⟨pb, 6, none⟩ line3)) := by
            have f3 : Fr pb mb line V X3 := ⟨HO3.out.os.trans HFR.out.os, HO3.out.tape.trans HFR.out.tape, HO3.out.output.trans HFR.out.output, by rw [HO3.out.size]; exact HFR.out.size, fun g hg h1 h2 h4 => (HO3.out.other g h2).trans (HFR.out.other g hg h1 h2 h4)⟩
            have f4 : Fr pb mb line V Z2 := f3.trans (Fr.below c2) rfl
            refine ⟨k, line3, hst, hput.1, ?_, f4.trans hput.2.1 HLB.out⟩
            rcases hput.2.2 with h | h
            · exact .inl (h.trans HLB.out)
            · exact .inr (fun g hg => Nat.le_trans f4.size (h g hg))
          clear hput hMz b4 hXs hl3 hins hlv rz pz
          first
          | (try go_returns
             exact HQ.out _ _ ⟨rfl, HF.out⟩)
          | (go_wp2_with fail
             try go_returns
             exact HQ.out _ _ ⟨rfl, HF.out⟩)
        · refine wp_call (d := some 36) (R := fun v w' => ∃ k : Nat, v = .int .i64 (k : Int) ∧ Stands L2 (⟨d, m, u⟩, b) k ∧ Below Z0.heap.size Z0 w') 42 _ rfl (by kernel_rfl) ((place_any (HP3.out.on c0) HSO.out HLN.out (y := (⟨d, m, u⟩, b)) ⟨⟨HD.out.fit, HD.out.len⟩, HE3.out.on (c0.block _ HE3.out.lt)⟩).mono (fun e w' hh => by obtain ⟨k, rfl, hk⟩ := hh; exact ⟨_, rfl, k, rfl, hk⟩)) ?_
          rintro _ Z1 ⟨k, rfl, hst, hb1⟩
          have c1 : Below X3.heap.size X3 Z1 := c0.trans (hb1.mono c0.size)
          have hvb := (hb1.block vb (Array.getElem?_eq_some_iff.1 hvb).1).trans hvb
          refine ⟨trivial, ?_⟩
          simp only [Act.put, List.setIfInBounds_toArray, List.set_cons_zero, List.set_cons_succ]
          refine all_wT (i := 4) (by kernel_rfl) rfl rfl ?_
          refine wp_effX (d := some 34) (v := .slice la L2.length lc) (w2 := Z1) rfl (ex_loadA (.tmp 33) 62 rfl rfl (ld_row ((HP3.out.on c1).cell 6 _ (by rw [hline]; rfl)))) ⟨trivial, ?_⟩
          simp only [Act.put, List.setIfInBounds_toArray, List.set_cons_zero, List.set_cons_succ]
          refine all_wT (i := 8) (by kernel_rfl) rfl rfl ?_
          have pz := HP3.out.on c1
          have rz := pz.row
          rw [hline] at rz
          have hlv : (Value.slice la L2.length lc).ownBlock ≠ some vb := fun e => by have h8 := own_lt HP3.out.row (b := vb) (by rw [hline]; exact e); omega
          refine wp_call (d := some 38) (R := fun v w' => Insd (.slice la L2.length lc) L2.length k (ptrs L2) (.pointer (some ⟨b, 0, none⟩)) Z1 (.returned v) w') 41 _ rfl (by kernel_rfl) ((HIK.out k hst Z1 _ _ vb _ rz rfl hvb hlv (ptrs_one L2)).mono (fun e w' hh => by obtain ⟨v, rfl, hh⟩ := hh; exact ⟨v, rfl, v, rfl, hh⟩)) ?_
          rintro line3 X4 hins
          obtain ⟨l3a, l3c, hl3⟩ : ∃ a c, line3 = .slice a (L2.length + 1) c := by obtain ⟨v, ev, hr, _⟩ := hins; injection ev with ev; rw [ev]; exact own_slc hr
          have hXs : Z1.heap.size ≤ X4.heap.size ∧ (X4.heap[pb]? = Z1.heap[pb]?) := by obtain ⟨v, ev, hr, _, _, _, _, h1, h2⟩ := hins; exact ⟨h1, h2 pb pz.lt (fun e => HLP.out (by rw [hline]; exact e))⟩
          refine ⟨trivial, ?_⟩
          simp only [Act.put, List.setIfInBounds_toArray, List.set_cons_zero, List.set_cons_succ]
          refine take_wT (i := 9) (d := some 39) (v := .pointer (some ⟨pb, 0, none⟩)) rfl rfl rfl (by kernel_rfl) (by kernel_rfl) (by kernel_rfl) (fun _ _ d _ _ h => by cases d <;> exact h) (fun X hS => by kernel_rfl) trivial ?_
          simp only [Act.put, List.setIfInBounds_toArray, List.set_cons_zero, List.set_cons_succ]
          refine take_wT (i := 10) (d := some 40) (v := .pointer (some ⟨pb, 6, none⟩)) rfl rfl rfl (by kernel_rfl) (by kernel_rfl) (by kernel_rfl) (fun _ _ d _ _ h => by cases d <;> exact h) (fun X hS => by kernel_rfl) trivial ?_
          simp only [Act.put, List.setIfInBounds_toArray, List.set_cons_zero, List.set_cons_succ]
          refine all_wT (i := 11) (by kernel_rfl) rfl rfl ?_
          have b4 : X4.heap[pb]? = some (.cells (pC cf now mb line2).toArray 64) := hXs.2.trans pz.box
          refine wp_storeA (.tmp 40) (.tmp 38) 62 rfl rfl rfl rfl (w2 := X4.setCell ⟨pb, 6, none⟩ line3) (by rw [hl3]; exact st_row (by rw [blk_cell (j := 6) b4 rfl]; rfl) (blk_open b4 6)) ⟨trivial, ?_⟩
          refine wpAnyH_done (by kernel_rfl) ?_ _
          have hMz : MapAt Z1 mb (M ++ [(d, b)]) := HM3.out.on (c1.block _ HM3.out.lt)
          have hput := put_end (V := V) (line := line) (X3 := X4.setCell ⟨pb, 6, none⟩ line3) (line2 := line2) (k := k) (y := (⟨d, m, u⟩, b)) pz hMz (HM.out.2.put (y := (⟨d, m, u⟩, b)) HNK.out (putK_mem L2 k _)) (HK.out.kn.put (y := (⟨d, m, u⟩, b)) HNK.out) hst.1 ⟨⟨HD.out.fit, HD.out.len⟩, HE3.out.on (c1.block _ HE3.out.lt)⟩ HK.out.pm HLP.out HK.out.lm (fun x hx => by rcases (putK_mem L2 k _ x).1 hx with h | h; exact HK.out.el h; rw [h]; exact HBN.out.2.2.2) (fun x hx => by rcases (putK_mem L2 k _ x).1 hx with h | h; exact HK.out.ep h; rw [h]; exact HBN.out.2.1) (by rw [hline]; exact hins) rfl
          have HF : Hid (∃ k line4, Stands L2 (⟨d, m, u⟩, b) k ∧ Keeps pb cf now mb line4 (putK L2 k (⟨d, m, u⟩, b)) (X4.setCell ⟨pb, 6, none⟩ line3) ∧ (line4.ownBlock = line.ownBlock ∨ ∀ g, line4.ownBlock = some g → V.heap.size ≤ g) ∧ Fr pb mb line V (X4.setCell ⟨pb, 6, none⟩ line3)) := by
            have f3 : Fr pb mb line V X3 := ⟨HO3.out.os.trans HFR.out.os, HO3.out.tape.trans HFR.out.tape, HO3.out.output.trans HFR.out.output, by rw [HO3.out.size]; exact HFR.out.size, fun g hg h1 h2 h4 => (HO3.out.other g h2).trans (HFR.out.other g hg h1 h2 h4)⟩
            have f4 : Fr pb mb line V Z1 := f3.trans (Fr.below c1) rfl
            refine ⟨k, line3, hst, hput.1, ?_, f4.trans hput.2.1 HLB.out⟩
            rcases hput.2.2 with h | h
            · exact .inl (h.trans HLB.out)
            · exact .inr (fun g hg => Nat.le_trans f4.size (h g hg))
          clear hput hMz b4 hXs hl3 hins hlv rz pz
          first
          | (try go_returns
             exact HQ.out _ _ ⟨rfl, HF.out⟩)
          | (go_wp2_with fail
             try go_returns
             exact HQ.out _ _ ⟨rfl, HF.out⟩)
    | true =>
      have hroom : roomL L d cf.lim = L.drop 1 := by unfold roomL; rw [if_pos ⟨hhas, by rw [hlack] at hfull; simpa using hfull⟩]
      refine wp_region_held (S := fun X => EntAt X b d m u ∧ X.cell? ⟨pb, 0, none⟩ = some (.int .i64 cf.lim)) (by kernel_rfl) ?_
      show wpAnyH _ _ _ _ _ 18 (Array.replicate 18 false) _ W1.drew
      have s0 : EntAt W1.drew b d m u ∧ W1.drew.cell? ⟨pb, 0, none⟩ = some (.int .i64 cf.lim) := ⟨HB1.out.2.1, HK1.out.p.cell 0 _ rfl⟩
      have k0 : Keeps pb cf now mb line L W1.drew := HK1.out.on (Below.refl _ W1).drew
      have b0 : Below W1.heap.size W1 W1.drew := (Below.refl _ W1).drew
      generalize W1.drew = X0 at *
      refine take_wT (i := 0) (d := some 4) (v := .pointer (some ⟨pb, 0, none⟩)) rfl rfl rfl (by kernel_rfl) (by kernel_rfl) (by kernel_rfl) (fun _ _ d _ _ h => by cases d <;> exact h) (fun X hS => by kernel_rfl) s0 ?_
      simp only [Act.put, List.setIfInBounds_toArray, List.set_cons_zero, List.set_cons_succ]
      refine take_wT (i := 1) (d := some 5) (v := .pointer (some ⟨b, 0, none⟩)) rfl rfl rfl (by kernel_rfl) (by kernel_rfl) (by kernel_rfl) (fun _ _ d _ _ h => by cases d <;> exact h) (fun X hS => by kernel_rfl) s0 ?_
      simp only [Act.put, List.setIfInBounds_toArray, List.set_cons_zero, List.set_cons_succ]
      refine take_wT (i := 2) (d := some 6) (v := .agg (u8s d).toArray) rfl rfl rfl (by kernel_rfl) (by kernel_rfl) (by kernel_rfl) (fun _ _ d _ _ h => by cases d <;> exact h) (fun X hS => ex_loadA (.tmp 5) 35 rfl rfl (load6 hdl (fun jj v hv => by simp only [u8s, List.getElem?_map, Option.map_eq_some_iff] at hv; obtain ⟨z, hz, rfl⟩ := hv; exact hS.1.byte jj z hz))) s0 ?_
      simp only [Act.put, List.setIfInBounds_toArray, List.set_cons_zero, List.set_cons_succ]
      refine all_wT (i := 3) (by kernel_rfl) rfl rfl ?_
      refine wp_call (d := some 7) (R := fun v w' => v = .bool (hasL L d) ∧ ∃ line', Keeps pb cf now mb line' (lackL L d) w' ∧ line'.ownBlock = line.ownBlock ∧ Fr pb mb line X0 w') 33 _ rfl (by kernel_rfl) ((drop_any k0 HSL.out.1 HSL.out.2 HD.out).mono (fun e w' hh => ⟨_, hh.1, rfl, hh.2⟩)) ?_
      rintro _ X1 ⟨rfl, line1, k1, l1, f1⟩
      have e1 : EntAt X1 b d m u := s0.1.on (f1.other b s0.1.lt (by have := HVN.out; omega) (by have := HVN.out; omega) (fun e => by have := HVN.out.2.2.1 b e; have := HVN.out.2.2.2; omega))
      have s1 : EntAt X1 b d m u ∧ X1.cell? ⟨pb, 0, none⟩ = some (.int .i64 cf.lim) := ⟨e1, k1.p.cell 0 _ rfl⟩
      refine ⟨s1, ?_⟩
      simp only [Act.put, List.setIfInBounds_toArray, List.set_cons_zero, List.set_cons_succ]
      rw [hhas]
      refine take_wT (i := 4) (d := some 8) (v := .bool (!false)) rfl rfl rfl (by kernel_rfl) (by kernel_rfl) (by kernel_rfl) (fun _ _ d _ _ h => by cases d <;> exact h) (fun X hS => ex_notP (.tmp 7) rfl rfl) s1 ?_
      simp only [Act.put, List.setIfInBounds_toArray, List.set_cons_zero, List.set_cons_succ]
      simp only [Bool.not_true, Bool.not_false]
      refine take_wT (i := 5) (d := some 9) (v := .bool true) rfl rfl rfl (by kernel_rfl) (by kernel_rfl) (by kernel_rfl) (fun _ _ d _ _ h => by cases d <;> exact h) (fun X hS => by kernel_rfl) s1 ?_
      simp only [Act.put, List.setIfInBounds_toArray, List.set_cons_zero, List.set_cons_succ]
      refine take_wT (i := 6) (d := some 10) (v := .pointer (some ⟨pb, 0, none⟩)) rfl rfl rfl (by kernel_rfl) (by kernel_rfl) (by kernel_rfl) (fun _ _ d _ _ h => by cases d <;> exact h) (fun X hS => by kernel_rfl) s1 ?_
      simp only [Act.put, List.setIfInBounds_toArray, List.set_cons_zero, List.set_cons_succ]
      refine take_wT (i := 7) (d := some 11) (v := .pointer (some ⟨pb, 0, none⟩)) rfl rfl rfl (by kernel_rfl) (by kernel_rfl) (by kernel_rfl) (fun _ _ d _ _ h => by cases d <;> exact h) (fun X hS => by kernel_rfl) s1 ?_
      simp only [Act.put, List.setIfInBounds_toArray, List.set_cons_zero, List.set_cons_succ]
      refine take_wT (i := 8) (d := some 12) (v := .pointer (some ⟨pb, 6, none⟩)) rfl rfl rfl (by kernel_rfl) (by kernel_rfl) (by kernel_rfl) (fun _ _ d _ _ h => by cases d <;> exact h) (fun X hS => by kernel_rfl) s1 ?_
      simp only [Act.put, List.setIfInBounds_toArray, List.set_cons_zero, List.set_cons_succ]
      refine take_wT (i := 11) (d := some 15) (v := .pointer (some ⟨pb, 0, none⟩)) rfl rfl rfl (by kernel_rfl) (by kernel_rfl) (by kernel_rfl) (fun _ _ d _ _ h => by cases d <;> exact h) (fun X hS => by kernel_rfl) s1 ?_
      simp only [Act.put, List.setIfInBounds_toArray, List.set_cons_zero, List.set_cons_succ]
      refine take_wT (i := 12) (d := some 16) (v := .pointer (some ⟨pb, 0, none⟩)) rfl rfl rfl (by kernel_rfl) (by kernel_rfl) (by kernel_rfl) (fun _ _ d _ _ h => by cases d <;> exact h) (fun X hS => by kernel_rfl) s1 ?_
      simp only [Act.put, List.setIfInBounds_toArray, List.set_cons_zero, List.set_cons_succ]
      refine take_wT (i := 13) (d := some 17) (v := .pointer (some ⟨pb, 0, none⟩)) rfl rfl rfl (by kernel_rfl) (by kernel_rfl) (by kernel_rfl) (fun _ _ d _ _ h => by cases d <;> exact h) (fun X hS => by kernel_rfl) s1 ?_
      simp only [Act.put, List.setIfInBounds_toArray, List.set_cons_zero, List.set_cons_succ]
      refine take_wT (i := 14) (d := some 18) (v := .pointer (some ⟨pb, 0, none⟩)) rfl rfl rfl (by kernel_rfl) (by kernel_rfl) (by kernel_rfl) (fun _ _ d _ _ h => by cases d <;> exact h) (fun X hS => by kernel_rfl) s1 ?_
      simp only [Act.put, List.setIfInBounds_toArray, List.set_cons_zero, List.set_cons_succ]
      refine take_wT (i := 15) (d := some 19) (v := .int .i64 cf.lim) rfl rfl rfl (by kernel_rfl) (by kernel_rfl) (by kernel_rfl) (fun _ _ d _ _ h => by cases d <;> exact h) (fun X hS => ex_loadA (.tmp 18) 3 rfl rfl (ld_int hS.2)) s1 ?_
      simp only [Act.put, List.setIfInBounds_toArray, List.set_cons_zero, List.set_cons_succ]
      refine all_wT (i := 9) (by kernel_rfl) rfl rfl ?_
      obtain ⟨a1, c1, hl1⟩ := k1.p.slc
      refine wp_effX (d := some 13) (v := .slice a1 (lackL L d).length c1) (w2 := X1) rfl (ex_loadA (.tmp 12) 62 rfl rfl (ld_row (k1.p.cell 6 _ (by rw [hl1]; rfl)))) ⟨s1, ?_⟩
      simp only [Act.put, List.setIfInBounds_toArray, List.set_cons_zero, List.set_cons_succ]
      refine take_wT (i := 10) (d := some 14) (v := .int .i64 ((lackL L d).length : Int)) rfl rfl rfl (by kernel_rfl) (by kernel_rfl) (by kernel_rfl) (fun _ _ d _ _ h => by cases d <;> exact h) (fun X hS => by kernel_rfl) s1 ?_
      simp only [Act.put, List.setIfInBounds_toArray, List.set_cons_zero, List.set_cons_succ]
      refine take_wT (i := 16) (d := some 20) (v := .bool ((((lackL L d).length : Int)) == cf.lim)) rfl rfl rfl (by kernel_rfl) (by kernel_rfl) (by kernel_rfl) (fun _ _ d _ _ h => by cases d <;> exact h) (fun X hS => ex_eqlP (.tmp 14) (.tmp 19) rfl rfl rfl) s1 ?_
      simp only [Act.put, List.setIfInBounds_toArray, List.set_cons_zero, List.set_cons_succ]
      rw [hfull]
      refine take_wT (i := 17) (d := some 21) (v := .bool true) rfl rfl rfl (by kernel_rfl) (by kernel_rfl) (by kernel_rfl) (fun _ _ d _ _ h => by cases d <;> exact h) (fun X hS => by kernel_rfl) s1 ?_
      simp only [Act.put, List.setIfInBounds_toArray, List.set_cons_zero, List.set_cons_succ]
      refine wpAnyH_done (by kernel_rfl) ?_ _
      have f0 : Fr pb mb line V X1 := ((Fr.below HB1.out.1).trans (Fr.below b0) rfl).trans f1 rfl
      have HK1b : Hid (Keeps pb cf now mb line1 (lackL L d) X1) := k1
      have HFR1 : Hid (Fr pb mb line V X1) := f0
      have HE1 : Hid (EntAt X1 b d m u) := e1
      have HLB1 : Hid (line1.ownBlock = line.ownBlock) := l1
      have HFG := forget_any HK1b.out (i := 0) (j := 1) (Nat.zero_le _) (by have h9 : (((lackL L d).length : Int)) = cf.lim := (by simpa using hfull); have := HLIM.out; omega)
      have HFG : Hid _ := HFG
      have hL2 : roomL L d cf.lim = L.drop 1 := hroom
      clear s0 k0 b0 k1 l1 f1 e1 s1 f0
      go_wp2_with fail
      refine Calls.mono HFG.out ?_
      rintro e X2 ⟨rfl, line2, k2, l2, f2, z2⟩
      rw [List.take_zero, List.nil_append, hlack] at k2
      have HK : Hid (Keeps pb cf now mb line2 (L.drop 1) X2) := k2
      have HLB : Hid (line2.ownBlock = line.ownBlock) := l2.trans HLB1.out
      have HFR : Hid (Fr pb mb line V X2) := HFR1.out.trans f2 HLB1.out
      have HE : Hid (EntAt X2 b d m u) := HE1.out.on (f2.other b HE1.out.lt (by have := HVN.out; omega) (by have := HVN.out; omega) (fun e => by rw [HLB1.out] at e; have := HVN.out.2.2.1 b e; have := HVN.out.2.2.2; omega))
      clear k2 l2 f2 z2
      obtain ⟨L2, hL2b⟩ : ∃ L2, L2 = L.drop 1 := ⟨_, rfl⟩
      rw [← hL2b] at HK hL2
      rw [hL2] at HQ HIK0
      have HIK : Hid _ := HIK0.out
      have HNK : Hid (∀ x ∈ L2, x.1.k ≠ d) := by rw [hL2b]; exact fun x hx => lack_keys L d x (by rw [hlack]; exact List.mem_of_mem_drop hx)
      have HSO : Hid (SortE L2) := by rw [hL2b]; exact HSL.out.1.drop 1
      have HLN : Hid (L2.length ≤ 1000000) := by rw [hL2b]; show (L.drop 1).length ≤ 1000000; rw [List.length_drop]; have := HSL.out.2; omega
      have HBN : Hid (b = V.heap.size ∧ b ≠ pb ∧ b ≠ mb ∧ line2.ownBlock ≠ some b) := by
        have h9 := HVN.out
        exact ⟨h9.2.2.2, by omega, by omega, fun e => by rw [HLB.out] at e; have := h9.2.2.1 b e; omega⟩
      have HLP : Hid (line2.ownBlock ≠ some pb) := HK.out.lp
      obtain ⟨la, lc, hline⟩ := HK.out.p.slc
      obtain ⟨M, hm, hML⟩ := HK.out.m
      have hn := hML.none HNK.out
      have hkeys := hML.keys (fun x hx => (HK.out.p.ents x hx).1)
      have HM : Hid (MapAt X2 mb M ∧ MapL M L2) := ⟨hm, hML⟩
      clear hm hML
      go_wp2_with fail
      refine wp_region_held (S := fun X => X.cell? ⟨pb, 5, none⟩ = some (.map (some mb)) ∧ EntAt X b d m u) (by kernel_rfl) ?_
      show wpAnyH _ _ _ _ _ 7 (Array.replicate 7 false) _ X2.drew
      have s0 : X2.drew.cell? ⟨pb, 5, none⟩ = some (.map (some mb)) ∧ EntAt X2.drew b d m u := ⟨HK.out.p.cell 5 _ rfl, HE.out⟩
      obtain ⟨X3, hup, hm3, ho3⟩ := store16 (W := X2.drew) (q := b) HD.out (HM.out.1.on rfl) hkeys hn
      have e3 : EntAt X3 b d m u := HE.out.on (ho3.other b HBN.out.2.2.1)
      have s3 : X3.cell? ⟨pb, 5, none⟩ = some (.map (some mb)) ∧ EntAt X3 b d m u := ⟨by rw [World.cell?_of_block (w := X2) (w' := X3) (ho3.other pb HK.out.pm)]; exact s0.1, e3⟩
      have ho4 : Only mb X2 X3 := ⟨ho3.os, ho3.tape, ho3.output, ho3.size, ho3.other⟩
      have p3 : Paths pb cf now mb line2 L2 X3 := HK.out.p.same (ho4.other pb HK.out.pm) (fun g hg => ho4.other g (fun e => HK.out.lm (by rw [← e]; exact hg))) (fun x hx => ho4.other _ (HK.out.em hx))
      have hdl := HD.out.len
      clear ho3
      generalize X2.drew = X0 at *
      refine take_wT (i := 0) (d := some 24) (v := .pointer (some ⟨pb, 0, none⟩)) rfl rfl rfl (by kernel_rfl) (by kernel_rfl) (by kernel_rfl) (fun _ _ d _ _ h => by cases d <;> exact h) (fun X hS => by kernel_rfl) s0 ?_
      simp only [Act.put, List.setIfInBounds_toArray, List.set_cons_zero, List.set_cons_succ]
      refine take_wT (i := 1) (d := some 25) (v := .pointer (some ⟨pb, 0, none⟩)) rfl rfl rfl (by kernel_rfl) (by kernel_rfl) (by kernel_rfl) (fun _ _ d _ _ h => by cases d <;> exact h) (fun X hS => by kernel_rfl) s0 ?_
      simp only [Act.put, List.setIfInBounds_toArray, List.set_cons_zero, List.set_cons_succ]
      refine take_wT (i := 2) (d := some 26) (v := .pointer (some ⟨pb, 5, none⟩)) rfl rfl rfl (by kernel_rfl) (by kernel_rfl) (by kernel_rfl) (fun _ _ d _ _ h => by cases d <;> exact h) (fun X hS => by kernel_rfl) s0 ?_
      simp only [Act.put, List.setIfInBounds_toArray, List.set_cons_zero, List.set_cons_succ]
      refine take_wT (i := 3) (d := some 27) (v := .map (some mb)) rfl rfl rfl (by kernel_rfl) (by kernel_rfl) (by kernel_rfl) (fun _ _ d _ _ h => by cases d <;> exact h) (fun X hS => ex_loadA (.tmp 26) 61 rfl rfl (ld_map hS.1)) s0 ?_
      simp only [Act.put, List.setIfInBounds_toArray, List.set_cons_zero, List.set_cons_succ]
      refine take_wT (i := 4) (d := some 28) (v := .pointer (some ⟨b, 0, none⟩)) rfl rfl rfl (by kernel_rfl) (by kernel_rfl) (by kernel_rfl) (fun _ _ d _ _ h => by cases d <;> exact h) (fun X hS => by kernel_rfl) s0 ?_
      simp only [Act.put, List.setIfInBounds_toArray, List.set_cons_zero, List.set_cons_succ]
      refine take_wT (i := 5) (d := some 29) (v := .agg (u8s d).toArray) rfl rfl rfl (by kernel_rfl) (by kernel_rfl) (by kernel_rfl) (fun _ _ d _ _ h => by cases d <;> exact h) (fun X hS => ex_loadA (.tmp 28) 35 rfl rfl (load6 hdl (fun jj v hv => by simp only [u8s, List.getElem?_map, Option.map_eq_some_iff] at hv; obtain ⟨z, hz, rfl⟩ := hv; exact hS.2.byte jj z hz))) s0 ?_
      simp only [Act.put, List.setIfInBounds_toArray, List.set_cons_zero, List.set_cons_succ]
      refine all_wT (i := 6) (by kernel_rfl) rfl rfl ?_
      refine wp_updE (.tmp 27) (.tmp 29) (.tmp 3) rfl rfl rfl rfl rfl hup ⟨s3, ?_⟩
      refine wpAnyH_done (by kernel_rfl) ?_ _
      have HP3 : Hid (Paths pb cf now mb line2 L2 X3) := p3
      have HM3 : Hid (MapAt X3 mb (M ++ [(d, b)])) := hm3
      have HE3 : Hid (EntAt X3 b d m u) := e3
      have HO3 : Hid (Only mb X2 X3) := ho4
      clear s0 hup hm3 e3 s3 ho4 p3 hdl hn hkeys
      go_wp2_with fail
      refine wp_region_held (S := fun _ => True) (by kernel_rfl) ?_
      show wpAnyH _ _ _ _ _ 12 (Array.replicate 12 false) _ X3.drew
      have b0 : Below X3.heap.size X3 X3.drew := (Below.refl _ X3).drew
      generalize X3.drew = Y0 at *
      refine take_wT (i := 0) (d := some 30) (v := .pointer (some ⟨pb, 0, none⟩)) rfl rfl rfl (by kernel_rfl) (by kernel_rfl) (by kernel_rfl) (fun _ _ d _ _ h => by cases d <;> exact h) (fun X hS => by kernel_rfl) trivial ?_
      simp only [Act.put, List.setIfInBounds_toArray, List.set_cons_zero, List.set_cons_succ]
      refine take_wT (i := 1) (d := some 31) (v := .pointer (some ⟨pb, 0, none⟩)) rfl rfl rfl (by kernel_rfl) (by kernel_rfl) (by kernel_rfl) (fun _ _ d _ _ h => by cases d <;> exact h) (fun X hS => by kernel_rfl) trivial ?_
      simp only [Act.put, List.setIfInBounds_toArray, List.set_cons_zero, List.set_cons_succ]
      refine take_wT (i := 2) (d := some 32) (v := .pointer (some ⟨pb, 0, none⟩)) rfl rfl rfl (by kernel_rfl) (by kernel_rfl) (by kernel_rfl) (fun _ _ d _ _ h => by cases d <;> exact h) (fun X hS => by kernel_rfl) trivial ?_
      simp only [Act.put, List.setIfInBounds_toArray, List.set_cons_zero, List.set_cons_succ]
      refine take_wT (i := 3) (d := some 33) (v := .pointer (some ⟨pb, 6, none⟩)) rfl rfl rfl (by kernel_rfl) (by kernel_rfl) (by kernel_rfl) (fun _ _ d _ _ h => by cases d <;> exact h) (fun X hS => by kernel_rfl) trivial ?_
      simp only [Act.put, List.setIfInBounds_toArray, List.set_cons_zero, List.set_cons_succ]
      refine take_wT (i := 5) (d := some 35) (v := .pointer (some ⟨pb, 0, none⟩)) rfl rfl rfl (by kernel_rfl) (by kernel_rfl) (by kernel_rfl) (fun _ _ d _ _ h => by cases d <;> exact h) (fun X hS => by kernel_rfl) trivial ?_
      simp only [Act.put, List.setIfInBounds_toArray, List.set_cons_zero, List.set_cons_succ]
      refine all_three (i1 := 4) (i2 := 6) (i3 := 7) (by kernel_rfl) rfl rfl rfl rfl rfl rfl ?_ ?_ ?_
      · refine wp_effX (d := some 34) (v := .slice la L2.length lc) (w2 := Y0) rfl (ex_loadA (.tmp 33) 62 rfl rfl (ld_row ((HP3.out.on b0).cell 6 _ (by rw [hline]; rfl)))) ⟨trivial, ?_⟩
        simp only [Act.put, List.setIfInBounds_toArray, List.set_cons_zero, List.set_cons_succ]
        refine all_two (i1 := 6) (i2 := 7) (by kernel_rfl) rfl rfl rfl rfl ?_ ?_
        · refine wp_call (d := some 36) (R := fun v w' => ∃ k : Nat, v = .int .i64 (k : Int) ∧ Stands L2 (⟨d, m, u⟩, b) k ∧ Below Y0.heap.size Y0 w') 42 _ rfl (by kernel_rfl) ((place_any (HP3.out.on b0) HSO.out HLN.out (y := (⟨d, m, u⟩, b)) ⟨⟨HD.out.fit, HD.out.len⟩, HE3.out.on (b0.block _ HE3.out.lt)⟩).mono (fun e w' hh => by obtain ⟨k, rfl, hk⟩ := hh; exact ⟨_, rfl, k, rfl, hk⟩)) ?_
          rintro _ Z1 ⟨k, rfl, hst, hb1⟩
          have c1 : Below X3.heap.size X3 Z1 := b0.trans (hb1.mono b0.size)
          refine ⟨trivial, ?_⟩
          simp only [Act.put, List.setIfInBounds_toArray, List.set_cons_zero, List.set_cons_succ]
          refine all_wT (i := 7) (by kernel_rfl) rfl rfl ?_
          obtain ⟨Z2, hZ2⟩ : ∃ Z, Z = Z1.alloc (.cells [Value.pointer (some ⟨b, 0, none⟩)].toArray 74) := ⟨_, rfl⟩
          refine wp_effX (d := some 37) (v := .slice (some ⟨Z1.heap.size, 0, none⟩) 1 1) (w2 := Z2) rfl (by rw [hZ2]; exact ex_bs1 3 rfl rfl) ⟨trivial, ?_⟩
          simp only [Act.put, List.setIfInBounds_toArray, List.set_cons_zero, List.set_cons_succ]
          have hvb : Z2.heap[Z1.heap.size]? = some (.cells [Value.pointer (some ⟨b, 0, none⟩)].toArray 74) := by rw [hZ2]; exact blk_new _ _
          have c2 : Below X3.heap.size X3 Z2 := by rw [hZ2]; exact c1.alloc c1.size _
          have hvl : X3.heap.size ≤ Z1.heap.size := c1.size
          generalize Z1.heap.size = vb at *
          refine all_wT (i := 8) (by kernel_rfl) rfl rfl ?_
          have pz := HP3.out.on c2
          have rz := pz.row
          rw [hline] at rz
          have hlv : (Value.slice la L2.length lc).ownBlock ≠ some vb := fun e => by have h8 := own_lt HP3.out.row (b := vb) (by rw [hline]; exact e); omega
          refine wp_call (d := some 38) (R := fun v w' => Insd (.slice la L2.length lc) L2.length k (ptrs L2) (.pointer (some ⟨b, 0, none⟩)) Z2 (.returned v) w') 41 _ rfl (by kernel_rfl) ((HIK.out k hst Z2 _ _ vb _ rz rfl hvb hlv (ptrs_one L2)).mono (fun e w' hh => by obtain ⟨v, rfl, hh⟩ := hh; exact ⟨v, rfl, v, rfl, hh⟩)) ?_
          rintro line3 X4 hins
          obtain ⟨l3a, l3c, hl3⟩ : ∃ a c, line3 = .slice a (L2.length + 1) c := by obtain ⟨v, ev, hr, _⟩ := hins; injection ev with ev; rw [ev]; exact own_slc hr
          have hXs : Z2.heap.size ≤ X4.heap.size ∧ (X4.heap[pb]? = Z2.heap[pb]?) := by obtain ⟨v, ev, hr, _, _, _, _, h1, h2⟩ := hins; exact ⟨h1, h2 pb pz.lt (fun e => HLP.out (by rw [hline]; exact e))⟩
          refine ⟨trivial, ?_⟩
          simp only [Act.put, List.setIfInBounds_toArray, List.set_cons_zero, List.set_cons_succ]
          refine take_wT (i := 9) (d := some 39) (v := .pointer (some ⟨pb, 0, none⟩)) rfl rfl rfl (by kernel_rfl) (by kernel_rfl) (by kernel_rfl) (fun _ _ d _ _ h => by cases d <;> exact h) (fun X hS => by kernel_rfl) trivial ?_
          simp only [Act.put, List.setIfInBounds_toArray, List.set_cons_zero, List.set_cons_succ]
          refine take_wT (i := 10) (d := some 40) (v := .pointer (some ⟨pb, 6, none⟩)) rfl rfl rfl (by kernel_rfl) (by kernel_rfl) (by kernel_rfl) (fun _ _ d _ _ h => by cases d <;> exact h) (fun X hS => by kernel_rfl) trivial ?_
          simp only [Act.put, List.setIfInBounds_toArray, List.set_cons_zero, List.set_cons_succ]
          refine all_wT (i := 11) (by kernel_rfl) rfl rfl ?_
          have b4 : X4.heap[pb]? = some (.cells (pC cf now mb line2).toArray 64) := hXs.2.trans pz.box
          refine wp_storeA (.tmp 40) (.tmp 38) 62 rfl rfl rfl rfl (w2 := X4.setCell ⟨pb, 6, none⟩ line3) (by rw [hl3]; exact st_row (by rw [blk_cell (j := 6) b4 rfl]; rfl) (blk_open b4 6)) ⟨trivial, ?_⟩
          refine wpAnyH_done (by kernel_rfl) ?_ _
          have hMz : MapAt Z2 mb (M ++ [(d, b)]) := HM3.out.on (c2.block _ HM3.out.lt)
          have hput := put_end (V := V) (line := line) (X3 := X4.setCell ⟨pb, 6, none⟩ line3) (line2 := line2) (k := k) (y := (⟨d, m, u⟩, b)) pz hMz (HM.out.2.put (y := (⟨d, m, u⟩, b)) HNK.out (putK_mem L2 k _)) (HK.out.kn.put (y := (⟨d, m, u⟩, b)) HNK.out) hst.1 ⟨⟨HD.out.fit, HD.out.len⟩, HE3.out.on (c2.block _ HE3.out.lt)⟩ HK.out.pm HLP.out HK.out.lm (fun x hx => by rcases (putK_mem L2 k _ x).1 hx with h | h; exact HK.out.el h; rw [h]; exact HBN.out.2.2.2) (fun x hx => by rcases (putK_mem L2 k _ x).1 hx with h | h; exact HK.out.ep h; rw [h]; exact HBN.out.2.1) (by rw [hline]; exact hins) rfl
          have HF : Hid (∃ k line4, Stands L2 (⟨d, m, u⟩, b) k ∧ Keeps pb cf now mb line4 (putK L2 k (⟨d, m, u⟩, b)) (X4.setCell ⟨pb, 6, none⟩ line3) ∧ (line4.ownBlock = line.ownBlock ∨ ∀ g, line4.ownBlock = some g → V.heap.size ≤ g) ∧ Fr pb mb line V (X4.setCell ⟨pb, 6, none⟩ line3)) := by
            have f3 : Fr pb mb line V X3 := ⟨HO3.out.os.trans HFR.out.os, HO3.out.tape.trans HFR.out.tape, HO3.out.output.trans HFR.out.output, by rw [HO3.out.size]; exact HFR.out.size, fun g hg h1 h2 h4 => (HO3.out.other g h2).trans (HFR.out.other g hg h1 h2 h4)⟩
            have f4 : Fr pb mb line V Z2 := f3.trans (Fr.below c2) rfl
            refine ⟨k, line3, hst, hput.1, ?_, f4.trans hput.2.1 HLB.out⟩
            rcases hput.2.2 with h | h
            · exact .inl (h.trans HLB.out)
            · exact .inr (fun g hg => Nat.le_trans f4.size (h g hg))
          clear hput hMz b4 hXs hl3 hins hlv rz pz
          first
          | (try go_returns
             exact HQ.out _ _ ⟨rfl, HF.out⟩)
          | (go_wp2_with fail
             try go_returns
             exact HQ.out _ _ ⟨rfl, HF.out⟩)
        · obtain ⟨Z1, hZ1⟩ : ∃ Z, Z = Y0.alloc (.cells [Value.pointer (some ⟨b, 0, none⟩)].toArray 74) := ⟨_, rfl⟩
          refine wp_effX (d := some 37) (v := .slice (some ⟨Y0.heap.size, 0, none⟩) 1 1) (w2 := Z1) rfl (by rw [hZ1]; exact ex_bs1 3 rfl rfl) ⟨trivial, ?_⟩
          simp only [Act.put, List.setIfInBounds_toArray, List.set_cons_zero, List.set_cons_succ]
          have hvb : Z1.heap[Y0.heap.size]? = some (.cells [Value.pointer (some ⟨b, 0, none⟩)].toArray 74) := by rw [hZ1]; exact blk_new _ _
          have c1 : Below X3.heap.size X3 Z1 := by rw [hZ1]; exact b0.alloc b0.size _
          have hvl : X3.heap.size ≤ Y0.heap.size := b0.size
          generalize Y0.heap.size = vb at *
          refine all_wT (i := 6) (by kernel_rfl) rfl rfl ?_
          refine wp_call (d := some 36) (R := fun v w' => ∃ k : Nat, v = .int .i64 (k : Int) ∧ Stands L2 (⟨d, m, u⟩, b) k ∧ Below Z1.heap.size Z1 w') 42 _ rfl (by kernel_rfl) ((place_any (HP3.out.on c1) HSO.out HLN.out (y := (⟨d, m, u⟩, b)) ⟨⟨HD.out.fit, HD.out.len⟩, HE3.out.on (c1.block _ HE3.out.lt)⟩).mono (fun e w' hh => by obtain ⟨k, rfl, hk⟩ := hh; exact ⟨_, rfl, k, rfl, hk⟩)) ?_
          rintro _ Z2 ⟨k, rfl, hst, hb2⟩
          have c2 : Below X3.heap.size X3 Z2 := c1.trans (hb2.mono c1.size)
          have hvb := (hb2.block vb (Array.getElem?_eq_some_iff.1 hvb).1).trans hvb
          refine ⟨trivial, ?_⟩
          simp only [Act.put, List.setIfInBounds_toArray, List.set_cons_zero, List.set_cons_succ]
          refine all_wT (i := 8) (by kernel_rfl) rfl rfl ?_
          have pz := HP3.out.on c2
          have rz := pz.row
          rw [hline] at rz
          have hlv : (Value.slice la L2.length lc).ownBlock ≠ some vb := fun e => by have h8 := own_lt HP3.out.row (b := vb) (by rw [hline]; exact e); omega
          refine wp_call (d := some 38) (R := fun v w' => Insd (.slice la L2.length lc) L2.length k (ptrs L2) (.pointer (some ⟨b, 0, none⟩)) Z2 (.returned v) w') 41 _ rfl (by kernel_rfl) ((HIK.out k hst Z2 _ _ vb _ rz rfl hvb hlv (ptrs_one L2)).mono (fun e w' hh => by obtain ⟨v, rfl, hh⟩ := hh; exact ⟨v, rfl, v, rfl, hh⟩)) ?_
          rintro line3 X4 hins
          obtain ⟨l3a, l3c, hl3⟩ : ∃ a c, line3 = .slice a (L2.length + 1) c := by obtain ⟨v, ev, hr, _⟩ := hins; injection ev with ev; rw [ev]; exact own_slc hr
          have hXs : Z2.heap.size ≤ X4.heap.size ∧ (X4.heap[pb]? = Z2.heap[pb]?) := by obtain ⟨v, ev, hr, _, _, _, _, h1, h2⟩ := hins; exact ⟨h1, h2 pb pz.lt (fun e => HLP.out (by rw [hline]; exact e))⟩
          refine ⟨trivial, ?_⟩
          simp only [Act.put, List.setIfInBounds_toArray, List.set_cons_zero, List.set_cons_succ]
          refine take_wT (i := 9) (d := some 39) (v := .pointer (some ⟨pb, 0, none⟩)) rfl rfl rfl (by kernel_rfl) (by kernel_rfl) (by kernel_rfl) (fun _ _ d _ _ h => by cases d <;> exact h) (fun X hS => by kernel_rfl) trivial ?_
          simp only [Act.put, List.setIfInBounds_toArray, List.set_cons_zero, List.set_cons_succ]
          refine take_wT (i := 10) (d := some 40) (v := .pointer (some ⟨pb, 6, none⟩)) rfl rfl rfl (by kernel_rfl) (by kernel_rfl) (by kernel_rfl) (fun _ _ d _ _ h => by cases d <;> exact h) (fun X hS => by kernel_rfl) trivial ?_
          simp only [Act.put, List.setIfInBounds_toArray, List.set_cons_zero, List.set_cons_succ]
          refine all_wT (i := 11) (by kernel_rfl) rfl rfl ?_
          have b4 : X4.heap[pb]? = some (.cells (pC cf now mb line2).toArray 64) := hXs.2.trans pz.box
          refine wp_storeA (.tmp 40) (.tmp 38) 62 rfl rfl rfl rfl (w2 := X4.setCell ⟨pb, 6, none⟩ line3) (by rw [hl3]; exact st_row (by rw [blk_cell (j := 6) b4 rfl]; rfl) (blk_open b4 6)) ⟨trivial, ?_⟩
          refine wpAnyH_done (by kernel_rfl) ?_ _
          have hMz : MapAt Z2 mb (M ++ [(d, b)]) := HM3.out.on (c2.block _ HM3.out.lt)
          have hput := put_end (V := V) (line := line) (X3 := X4.setCell ⟨pb, 6, none⟩ line3) (line2 := line2) (k := k) (y := (⟨d, m, u⟩, b)) pz hMz (HM.out.2.put (y := (⟨d, m, u⟩, b)) HNK.out (putK_mem L2 k _)) (HK.out.kn.put (y := (⟨d, m, u⟩, b)) HNK.out) hst.1 ⟨⟨HD.out.fit, HD.out.len⟩, HE3.out.on (c2.block _ HE3.out.lt)⟩ HK.out.pm HLP.out HK.out.lm (fun x hx => by rcases (putK_mem L2 k _ x).1 hx with h | h; exact HK.out.el h; rw [h]; exact HBN.out.2.2.2) (fun x hx => by rcases (putK_mem L2 k _ x).1 hx with h | h; exact HK.out.ep h; rw [h]; exact HBN.out.2.1) (by rw [hline]; exact hins) rfl
          have HF : Hid (∃ k line4, Stands L2 (⟨d, m, u⟩, b) k ∧ Keeps pb cf now mb line4 (putK L2 k (⟨d, m, u⟩, b)) (X4.setCell ⟨pb, 6, none⟩ line3) ∧ (line4.ownBlock = line.ownBlock ∨ ∀ g, line4.ownBlock = some g → V.heap.size ≤ g) ∧ Fr pb mb line V (X4.setCell ⟨pb, 6, none⟩ line3)) := by
            have f3 : Fr pb mb line V X3 := ⟨HO3.out.os.trans HFR.out.os, HO3.out.tape.trans HFR.out.tape, HO3.out.output.trans HFR.out.output, by rw [HO3.out.size]; exact HFR.out.size, fun g hg h1 h2 h4 => (HO3.out.other g h2).trans (HFR.out.other g hg h1 h2 h4)⟩
            have f4 : Fr pb mb line V Z2 := f3.trans (Fr.below c2) rfl
            refine ⟨k, line3, hst, hput.1, ?_, f4.trans hput.2.1 HLB.out⟩
            rcases hput.2.2 with h | h
            · exact .inl (h.trans HLB.out)
            · exact .inr (fun g hg => Nat.le_trans f4.size (h g hg))
          clear hput hMz b4 hXs hl3 hins hlv rz pz
          first
          | (try go_returns
             exact HQ.out _ _ ⟨rfl, HF.out⟩)
          | (go_wp2_with fail
             try go_returns
             exact HQ.out _ _ ⟨rfl, HF.out⟩)
      · refine wp_call (d := some 36) (R := fun v w' => ∃ k : Nat, v = .int .i64 (k : Int) ∧ Stands L2 (⟨d, m, u⟩, b) k ∧ Below Y0.heap.size Y0 w') 42 _ rfl (by kernel_rfl) ((place_any (HP3.out.on b0) HSO.out HLN.out (y := (⟨d, m, u⟩, b)) ⟨⟨HD.out.fit, HD.out.len⟩, HE3.out.on (b0.block _ HE3.out.lt)⟩).mono (fun e w' hh => by obtain ⟨k, rfl, hk⟩ := hh; exact ⟨_, rfl, k, rfl, hk⟩)) ?_
        rintro _ Z0 ⟨k, rfl, hst, hb0⟩
        have c0 : Below X3.heap.size X3 Z0 := b0.trans (hb0.mono b0.size)
        refine ⟨trivial, ?_⟩
        simp only [Act.put, List.setIfInBounds_toArray, List.set_cons_zero, List.set_cons_succ]
        refine all_two (i1 := 4) (i2 := 7) (by kernel_rfl) rfl rfl rfl rfl ?_ ?_
        · refine wp_effX (d := some 34) (v := .slice la L2.length lc) (w2 := Z0) rfl (ex_loadA (.tmp 33) 62 rfl rfl (ld_row ((HP3.out.on c0).cell 6 _ (by rw [hline]; rfl)))) ⟨trivial, ?_⟩
          simp only [Act.put, List.setIfInBounds_toArray, List.set_cons_zero, List.set_cons_succ]
          refine all_wT (i := 7) (by kernel_rfl) rfl rfl ?_
          obtain ⟨Z2, hZ2⟩ : ∃ Z, Z = Z0.alloc (.cells [Value.pointer (some ⟨b, 0, none⟩)].toArray 74) := ⟨_, rfl⟩
          refine wp_effX (d := some 37) (v := .slice (some ⟨Z0.heap.size, 0, none⟩) 1 1) (w2 := Z2) rfl (by rw [hZ2]; exact ex_bs1 3 rfl rfl) ⟨trivial, ?_⟩
          simp only [Act.put, List.setIfInBounds_toArray, List.set_cons_zero, List.set_cons_succ]
          have hvb : Z2.heap[Z0.heap.size]? = some (.cells [Value.pointer (some ⟨b, 0, none⟩)].toArray 74) := by rw [hZ2]; exact blk_new _ _
          have c2 : Below X3.heap.size X3 Z2 := by rw [hZ2]; exact c0.alloc c0.size _
          have hvl : X3.heap.size ≤ Z0.heap.size := c0.size
          generalize Z0.heap.size = vb at *
          refine all_wT (i := 8) (by kernel_rfl) rfl rfl ?_
          have pz := HP3.out.on c2
          have rz := pz.row
          rw [hline] at rz
          have hlv : (Value.slice la L2.length lc).ownBlock ≠ some vb := fun e => by have h8 := own_lt HP3.out.row (b := vb) (by rw [hline]; exact e); omega
          refine wp_call (d := some 38) (R := fun v w' => Insd (.slice la L2.length lc) L2.length k (ptrs L2) (.pointer (some ⟨b, 0, none⟩)) Z2 (.returned v) w') 41 _ rfl (by kernel_rfl) ((HIK.out k hst Z2 _ _ vb _ rz rfl hvb hlv (ptrs_one L2)).mono (fun e w' hh => by obtain ⟨v, rfl, hh⟩ := hh; exact ⟨v, rfl, v, rfl, hh⟩)) ?_
          rintro line3 X4 hins
          obtain ⟨l3a, l3c, hl3⟩ : ∃ a c, line3 = .slice a (L2.length + 1) c := by obtain ⟨v, ev, hr, _⟩ := hins; injection ev with ev; rw [ev]; exact own_slc hr
          have hXs : Z2.heap.size ≤ X4.heap.size ∧ (X4.heap[pb]? = Z2.heap[pb]?) := by obtain ⟨v, ev, hr, _, _, _, _, h1, h2⟩ := hins; exact ⟨h1, h2 pb pz.lt (fun e => HLP.out (by rw [hline]; exact e))⟩
          refine ⟨trivial, ?_⟩
          simp only [Act.put, List.setIfInBounds_toArray, List.set_cons_zero, List.set_cons_succ]
          refine take_wT (i := 9) (d := some 39) (v := .pointer (some ⟨pb, 0, none⟩)) rfl rfl rfl (by kernel_rfl) (by kernel_rfl) (by kernel_rfl) (fun _ _ d _ _ h => by cases d <;> exact h) (fun X hS => by kernel_rfl) trivial ?_
          simp only [Act.put, List.setIfInBounds_toArray, List.set_cons_zero, List.set_cons_succ]
          refine take_wT (i := 10) (d := some 40) (v := .pointer (some ⟨pb, 6, none⟩)) rfl rfl rfl (by kernel_rfl) (by kernel_rfl) (by kernel_rfl) (fun _ _ d _ _ h => by cases d <;> exact h) (fun X hS => by kernel_rfl) trivial ?_
          simp only [Act.put, List.setIfInBounds_toArray, List.set_cons_zero, List.set_cons_succ]
          refine all_wT (i := 11) (by kernel_rfl) rfl rfl ?_
          have b4 : X4.heap[pb]? = some (.cells (pC cf now mb line2).toArray 64) := hXs.2.trans pz.box
          refine wp_storeA (.tmp 40) (.tmp 38) 62 rfl rfl rfl rfl (w2 := X4.setCell ⟨pb, 6, none⟩ line3) (by rw [hl3]; exact st_row (by rw [blk_cell (j := 6) b4 rfl]; rfl) (blk_open b4 6)) ⟨trivial, ?_⟩
          refine wpAnyH_done (by kernel_rfl) ?_ _
          have hMz : MapAt Z2 mb (M ++ [(d, b)]) := HM3.out.on (c2.block _ HM3.out.lt)
          have hput := put_end (V := V) (line := line) (X3 := X4.setCell ⟨pb, 6, none⟩ line3) (line2 := line2) (k := k) (y := (⟨d, m, u⟩, b)) pz hMz (HM.out.2.put (y := (⟨d, m, u⟩, b)) HNK.out (putK_mem L2 k _)) (HK.out.kn.put (y := (⟨d, m, u⟩, b)) HNK.out) hst.1 ⟨⟨HD.out.fit, HD.out.len⟩, HE3.out.on (c2.block _ HE3.out.lt)⟩ HK.out.pm HLP.out HK.out.lm (fun x hx => by rcases (putK_mem L2 k _ x).1 hx with h | h; exact HK.out.el h; rw [h]; exact HBN.out.2.2.2) (fun x hx => by rcases (putK_mem L2 k _ x).1 hx with h | h; exact HK.out.ep h; rw [h]; exact HBN.out.2.1) (by rw [hline]; exact hins) rfl
          have HF : Hid (∃ k line4, Stands L2 (⟨d, m, u⟩, b) k ∧ Keeps pb cf now mb line4 (putK L2 k (⟨d, m, u⟩, b)) (X4.setCell ⟨pb, 6, none⟩ line3) ∧ (line4.ownBlock = line.ownBlock ∨ ∀ g, line4.ownBlock = some g → V.heap.size ≤ g) ∧ Fr pb mb line V (X4.setCell ⟨pb, 6, none⟩ line3)) := by
            have f3 : Fr pb mb line V X3 := ⟨HO3.out.os.trans HFR.out.os, HO3.out.tape.trans HFR.out.tape, HO3.out.output.trans HFR.out.output, by rw [HO3.out.size]; exact HFR.out.size, fun g hg h1 h2 h4 => (HO3.out.other g h2).trans (HFR.out.other g hg h1 h2 h4)⟩
            have f4 : Fr pb mb line V Z2 := f3.trans (Fr.below c2) rfl
            refine ⟨k, line3, hst, hput.1, ?_, f4.trans hput.2.1 HLB.out⟩
            rcases hput.2.2 with h | h
            · exact .inl (h.trans HLB.out)
            · exact .inr (fun g hg => Nat.le_trans f4.size (h g hg))
          clear hput hMz b4 hXs hl3 hins hlv rz pz
          first
          | (try go_returns
             exact HQ.out _ _ ⟨rfl, HF.out⟩)
          | (go_wp2_with fail
             try go_returns
             exact HQ.out _ _ ⟨rfl, HF.out⟩)
        · obtain ⟨Z1, hZ1⟩ : ∃ Z, Z = Z0.alloc (.cells [Value.pointer (some ⟨b, 0, none⟩)].toArray 74) := ⟨_, rfl⟩
          refine wp_effX (d := some 37) (v := .slice (some ⟨Z0.heap.size, 0, none⟩) 1 1) (w2 := Z1) rfl (by rw [hZ1]; exact ex_bs1 3 rfl rfl) ⟨trivial, ?_⟩
          simp only [Act.put, List.setIfInBounds_toArray, List.set_cons_zero, List.set_cons_succ]
          have hvb : Z1.heap[Z0.heap.size]? = some (.cells [Value.pointer (some ⟨b, 0, none⟩)].toArray 74) := by rw [hZ1]; exact blk_new _ _
          have c1 : Below X3.heap.size X3 Z1 := by rw [hZ1]; exact c0.alloc c0.size _
          have hvl : X3.heap.size ≤ Z0.heap.size := c0.size
          generalize Z0.heap.size = vb at *
          refine all_wT (i := 4) (by kernel_rfl) rfl rfl ?_
          refine wp_effX (d := some 34) (v := .slice la L2.length lc) (w2 := Z1) rfl (ex_loadA (.tmp 33) 62 rfl rfl (ld_row ((HP3.out.on c1).cell 6 _ (by rw [hline]; rfl)))) ⟨trivial, ?_⟩
          simp only [Act.put, List.setIfInBounds_toArray, List.set_cons_zero, List.set_cons_succ]
          refine all_wT (i := 8) (by kernel_rfl) rfl rfl ?_
          have pz := HP3.out.on c1
          have rz := pz.row
          rw [hline] at rz
          have hlv : (Value.slice la L2.length lc).ownBlock ≠ some vb := fun e => by have h8 := own_lt HP3.out.row (b := vb) (by rw [hline]; exact e); omega
          refine wp_call (d := some 38) (R := fun v w' => Insd (.slice la L2.length lc) L2.length k (ptrs L2) (.pointer (some ⟨b, 0, none⟩)) Z1 (.returned v) w') 41 _ rfl (by kernel_rfl) ((HIK.out k hst Z1 _ _ vb _ rz rfl hvb hlv (ptrs_one L2)).mono (fun e w' hh => by obtain ⟨v, rfl, hh⟩ := hh; exact ⟨v, rfl, v, rfl, hh⟩)) ?_
          rintro line3 X4 hins
          obtain ⟨l3a, l3c, hl3⟩ : ∃ a c, line3 = .slice a (L2.length + 1) c := by obtain ⟨v, ev, hr, _⟩ := hins; injection ev with ev; rw [ev]; exact own_slc hr
          have hXs : Z1.heap.size ≤ X4.heap.size ∧ (X4.heap[pb]? = Z1.heap[pb]?) := by obtain ⟨v, ev, hr, _, _, _, _, h1, h2⟩ := hins; exact ⟨h1, h2 pb pz.lt (fun e => HLP.out (by rw [hline]; exact e))⟩
          refine ⟨trivial, ?_⟩
          simp only [Act.put, List.setIfInBounds_toArray, List.set_cons_zero, List.set_cons_succ]
          refine take_wT (i := 9) (d := some 39) (v := .pointer (some ⟨pb, 0, none⟩)) rfl rfl rfl (by kernel_rfl) (by kernel_rfl) (by kernel_rfl) (fun _ _ d _ _ h => by cases d <;> exact h) (fun X hS => by kernel_rfl) trivial ?_
          simp only [Act.put, List.setIfInBounds_toArray, List.set_cons_zero, List.set_cons_succ]
          refine take_wT (i := 10) (d := some 40) (v := .pointer (some ⟨pb, 6, none⟩)) rfl rfl rfl (by kernel_rfl) (by kernel_rfl) (by kernel_rfl) (fun _ _ d _ _ h => by cases d <;> exact h) (fun X hS => by kernel_rfl) trivial ?_
          simp only [Act.put, List.setIfInBounds_toArray, List.set_cons_zero, List.set_cons_succ]
          refine all_wT (i := 11) (by kernel_rfl) rfl rfl ?_
          have b4 : X4.heap[pb]? = some (.cells (pC cf now mb line2).toArray 64) := hXs.2.trans pz.box
          refine wp_storeA (.tmp 40) (.tmp 38) 62 rfl rfl rfl rfl (w2 := X4.setCell ⟨pb, 6, none⟩ line3) (by rw [hl3]; exact st_row (by rw [blk_cell (j := 6) b4 rfl]; rfl) (blk_open b4 6)) ⟨trivial, ?_⟩
          refine wpAnyH_done (by kernel_rfl) ?_ _
          have hMz : MapAt Z1 mb (M ++ [(d, b)]) := HM3.out.on (c1.block _ HM3.out.lt)
          have hput := put_end (V := V) (line := line) (X3 := X4.setCell ⟨pb, 6, none⟩ line3) (line2 := line2) (k := k) (y := (⟨d, m, u⟩, b)) pz hMz (HM.out.2.put (y := (⟨d, m, u⟩, b)) HNK.out (putK_mem L2 k _)) (HK.out.kn.put (y := (⟨d, m, u⟩, b)) HNK.out) hst.1 ⟨⟨HD.out.fit, HD.out.len⟩, HE3.out.on (c1.block _ HE3.out.lt)⟩ HK.out.pm HLP.out HK.out.lm (fun x hx => by rcases (putK_mem L2 k _ x).1 hx with h | h; exact HK.out.el h; rw [h]; exact HBN.out.2.2.2) (fun x hx => by rcases (putK_mem L2 k _ x).1 hx with h | h; exact HK.out.ep h; rw [h]; exact HBN.out.2.1) (by rw [hline]; exact hins) rfl
          have HF : Hid (∃ k line4, Stands L2 (⟨d, m, u⟩, b) k ∧ Keeps pb cf now mb line4 (putK L2 k (⟨d, m, u⟩, b)) (X4.setCell ⟨pb, 6, none⟩ line3) ∧ (line4.ownBlock = line.ownBlock ∨ ∀ g, line4.ownBlock = some g → V.heap.size ≤ g) ∧ Fr pb mb line V (X4.setCell ⟨pb, 6, none⟩ line3)) := by
            have f3 : Fr pb mb line V X3 := ⟨HO3.out.os.trans HFR.out.os, HO3.out.tape.trans HFR.out.tape, HO3.out.output.trans HFR.out.output, by rw [HO3.out.size]; exact HFR.out.size, fun g hg h1 h2 h4 => (HO3.out.other g h2).trans (HFR.out.other g hg h1 h2 h4)⟩
            have f4 : Fr pb mb line V Z1 := f3.trans (Fr.below c1) rfl
            refine ⟨k, line3, hst, hput.1, ?_, f4.trans hput.2.1 HLB.out⟩
            rcases hput.2.2 with h | h
            · exact .inl (h.trans HLB.out)
            · exact .inr (fun g hg => Nat.le_trans f4.size (h g hg))
          clear hput hMz b4 hXs hl3 hins hlv rz pz
          first
          | (try go_returns
             exact HQ.out _ _ ⟨rfl, HF.out⟩)
          | (go_wp2_with fail
             try go_returns
             exact HQ.out _ _ ⟨rfl, HF.out⟩)
      · obtain ⟨Z0, hZ0⟩ : ∃ Z, Z = Y0.alloc (.cells [Value.pointer (some ⟨b, 0, none⟩)].toArray 74) := ⟨_, rfl⟩
        refine wp_effX (d := some 37) (v := .slice (some ⟨Y0.heap.size, 0, none⟩) 1 1) (w2 := Z0) rfl (by rw [hZ0]; exact ex_bs1 3 rfl rfl) ⟨trivial, ?_⟩
        simp only [Act.put, List.setIfInBounds_toArray, List.set_cons_zero, List.set_cons_succ]
        have hvb : Z0.heap[Y0.heap.size]? = some (.cells [Value.pointer (some ⟨b, 0, none⟩)].toArray 74) := by rw [hZ0]; exact blk_new _ _
        have c0 : Below X3.heap.size X3 Z0 := by rw [hZ0]; exact b0.alloc b0.size _
        have hvl : X3.heap.size ≤ Y0.heap.size := b0.size
        generalize Y0.heap.size = vb at *
        refine all_two (i1 := 4) (i2 := 6) (by kernel_rfl) rfl rfl rfl rfl ?_ ?_
        · refine wp_effX (d := some 34) (v := .slice la L2.length lc) (w2 := Z0) rfl (ex_loadA (.tmp 33) 62 rfl rfl (ld_row ((HP3.out.on c0).cell 6 _ (by rw [hline]; rfl)))) ⟨trivial, ?_⟩
          simp only [Act.put, List.setIfInBounds_toArray, List.set_cons_zero, List.set_cons_succ]
          refine all_wT (i := 6) (by kernel_rfl) rfl rfl ?_
          refine wp_call (d := some 36) (R := fun v w' => ∃ k : Nat, v = .int .i64 (k : Int) ∧ Stands L2 (⟨d, m, u⟩, b) k ∧ Below Z0.heap.size Z0 w') 42 _ rfl (by kernel_rfl) ((place_any (HP3.out.on c0) HSO.out HLN.out (y := (⟨d, m, u⟩, b)) ⟨⟨HD.out.fit, HD.out.len⟩, HE3.out.on (c0.block _ HE3.out.lt)⟩).mono (fun e w' hh => by obtain ⟨k, rfl, hk⟩ := hh; exact ⟨_, rfl, k, rfl, hk⟩)) ?_
          rintro _ Z2 ⟨k, rfl, hst, hb2⟩
          have c2 : Below X3.heap.size X3 Z2 := c0.trans (hb2.mono c0.size)
          have hvb := (hb2.block vb (Array.getElem?_eq_some_iff.1 hvb).1).trans hvb
          refine ⟨trivial, ?_⟩
          simp only [Act.put, List.setIfInBounds_toArray, List.set_cons_zero, List.set_cons_succ]
          refine all_wT (i := 8) (by kernel_rfl) rfl rfl ?_
          have pz := HP3.out.on c2
          have rz := pz.row
          rw [hline] at rz
          have hlv : (Value.slice la L2.length lc).ownBlock ≠ some vb := fun e => by have h8 := own_lt HP3.out.row (b := vb) (by rw [hline]; exact e); omega
          refine wp_call (d := some 38) (R := fun v w' => Insd (.slice la L2.length lc) L2.length k (ptrs L2) (.pointer (some ⟨b, 0, none⟩)) Z2 (.returned v) w') 41 _ rfl (by kernel_rfl) ((HIK.out k hst Z2 _ _ vb _ rz rfl hvb hlv (ptrs_one L2)).mono (fun e w' hh => by obtain ⟨v, rfl, hh⟩ := hh; exact ⟨v, rfl, v, rfl, hh⟩)) ?_
          rintro line3 X4 hins
          obtain ⟨l3a, l3c, hl3⟩ : ∃ a c, line3 = .slice a (L2.length + 1) c := by obtain ⟨v, ev, hr, _⟩ := hins; injection ev with ev; rw [ev]; exact own_slc hr
          have hXs : Z2.heap.size ≤ X4.heap.size ∧ (X4.heap[pb]? = Z2.heap[pb]?) := by obtain ⟨v, ev, hr, _, _, _, _, h1, h2⟩ := hins; exact ⟨h1, h2 pb pz.lt (fun e => HLP.out (by rw [hline]; exact e))⟩
          refine ⟨trivial, ?_⟩
          simp only [Act.put, List.setIfInBounds_toArray, List.set_cons_zero, List.set_cons_succ]
          refine take_wT (i := 9) (d := some 39) (v := .pointer (some ⟨pb, 0, none⟩)) rfl rfl rfl (by kernel_rfl) (by kernel_rfl) (by kernel_rfl) (fun _ _ d _ _ h => by cases d <;> exact h) (fun X hS => by kernel_rfl) trivial ?_
          simp only [Act.put, List.setIfInBounds_toArray, List.set_cons_zero, List.set_cons_succ]
          refine take_wT (i := 10) (d := some 40) (v := .pointer (some ⟨pb, 6, none⟩)) rfl rfl rfl (by kernel_rfl) (by kernel_rfl) (by kernel_rfl) (fun _ _ d _ _ h => by cases d <;> exact h) (fun X hS => by kernel_rfl) trivial ?_
          simp only [Act.put, List.setIfInBounds_toArray, List.set_cons_zero, List.set_cons_succ]
          refine all_wT (i := 11) (by kernel_rfl) rfl rfl ?_
          have b4 : X4.heap[pb]? = some (.cells (pC cf now mb line2).toArray 64) := hXs.2.trans pz.box
          refine wp_storeA (.tmp 40) (.tmp 38) 62 rfl rfl rfl rfl (w2 := X4.setCell ⟨pb, 6, none⟩ line3) (by rw [hl3]; exact st_row (by rw [blk_cell (j := 6) b4 rfl]; rfl) (blk_open b4 6)) ⟨trivial, ?_⟩
          refine wpAnyH_done (by kernel_rfl) ?_ _
          have hMz : MapAt Z2 mb (M ++ [(d, b)]) := HM3.out.on (c2.block _ HM3.out.lt)
          have hput := put_end (V := V) (line := line) (X3 := X4.setCell ⟨pb, 6, none⟩ line3) (line2 := line2) (k := k) (y := (⟨d, m, u⟩, b)) pz hMz (HM.out.2.put (y := (⟨d, m, u⟩, b)) HNK.out (putK_mem L2 k _)) (HK.out.kn.put (y := (⟨d, m, u⟩, b)) HNK.out) hst.1 ⟨⟨HD.out.fit, HD.out.len⟩, HE3.out.on (c2.block _ HE3.out.lt)⟩ HK.out.pm HLP.out HK.out.lm (fun x hx => by rcases (putK_mem L2 k _ x).1 hx with h | h; exact HK.out.el h; rw [h]; exact HBN.out.2.2.2) (fun x hx => by rcases (putK_mem L2 k _ x).1 hx with h | h; exact HK.out.ep h; rw [h]; exact HBN.out.2.1) (by rw [hline]; exact hins) rfl
          have HF : Hid (∃ k line4, Stands L2 (⟨d, m, u⟩, b) k ∧ Keeps pb cf now mb line4 (putK L2 k (⟨d, m, u⟩, b)) (X4.setCell ⟨pb, 6, none⟩ line3) ∧ (line4.ownBlock = line.ownBlock ∨ ∀ g, line4.ownBlock = some g → V.heap.size ≤ g) ∧ Fr pb mb line V (X4.setCell ⟨pb, 6, none⟩ line3)) := by
            have f3 : Fr pb mb line V X3 := ⟨HO3.out.os.trans HFR.out.os, HO3.out.tape.trans HFR.out.tape, HO3.out.output.trans HFR.out.output, by rw [HO3.out.size]; exact HFR.out.size, fun g hg h1 h2 h4 => (HO3.out.other g h2).trans (HFR.out.other g hg h1 h2 h4)⟩
            have f4 : Fr pb mb line V Z2 := f3.trans (Fr.below c2) rfl
            refine ⟨k, line3, hst, hput.1, ?_, f4.trans hput.2.1 HLB.out⟩
            rcases hput.2.2 with h | h
            · exact .inl (h.trans HLB.out)
            · exact .inr (fun g hg => Nat.le_trans f4.size (h g hg))
          clear hput hMz b4 hXs hl3 hins hlv rz pz
          first
          | (try go_returns
             exact HQ.out _ _ ⟨rfl, HF.out⟩)
          | (go_wp2_with fail
             try go_returns
             exact HQ.out _ _ ⟨rfl, HF.out⟩)
        · refine wp_call (d := some 36) (R := fun v w' => ∃ k : Nat, v = .int .i64 (k : Int) ∧ Stands L2 (⟨d, m, u⟩, b) k ∧ Below Z0.heap.size Z0 w') 42 _ rfl (by kernel_rfl) ((place_any (HP3.out.on c0) HSO.out HLN.out (y := (⟨d, m, u⟩, b)) ⟨⟨HD.out.fit, HD.out.len⟩, HE3.out.on (c0.block _ HE3.out.lt)⟩).mono (fun e w' hh => by obtain ⟨k, rfl, hk⟩ := hh; exact ⟨_, rfl, k, rfl, hk⟩)) ?_
          rintro _ Z1 ⟨k, rfl, hst, hb1⟩
          have c1 : Below X3.heap.size X3 Z1 := c0.trans (hb1.mono c0.size)
          have hvb := (hb1.block vb (Array.getElem?_eq_some_iff.1 hvb).1).trans hvb
          refine ⟨trivial, ?_⟩
          simp only [Act.put, List.setIfInBounds_toArray, List.set_cons_zero, List.set_cons_succ]
          refine all_wT (i := 4) (by kernel_rfl) rfl rfl ?_
          refine wp_effX (d := some 34) (v := .slice la L2.length lc) (w2 := Z1) rfl (ex_loadA (.tmp 33) 62 rfl rfl (ld_row ((HP3.out.on c1).cell 6 _ (by rw [hline]; rfl)))) ⟨trivial, ?_⟩
          simp only [Act.put, List.setIfInBounds_toArray, List.set_cons_zero, List.set_cons_succ]
          refine all_wT (i := 8) (by kernel_rfl) rfl rfl ?_
          have pz := HP3.out.on c1
          have rz := pz.row
          rw [hline] at rz
          have hlv : (Value.slice la L2.length lc).ownBlock ≠ some vb := fun e => by have h8 := own_lt HP3.out.row (b := vb) (by rw [hline]; exact e); omega
          refine wp_call (d := some 38) (R := fun v w' => Insd (.slice la L2.length lc) L2.length k (ptrs L2) (.pointer (some ⟨b, 0, none⟩)) Z1 (.returned v) w') 41 _ rfl (by kernel_rfl) ((HIK.out k hst Z1 _ _ vb _ rz rfl hvb hlv (ptrs_one L2)).mono (fun e w' hh => by obtain ⟨v, rfl, hh⟩ := hh; exact ⟨v, rfl, v, rfl, hh⟩)) ?_
          rintro line3 X4 hins
          obtain ⟨l3a, l3c, hl3⟩ : ∃ a c, line3 = .slice a (L2.length + 1) c := by obtain ⟨v, ev, hr, _⟩ := hins; injection ev with ev; rw [ev]; exact own_slc hr
          have hXs : Z1.heap.size ≤ X4.heap.size ∧ (X4.heap[pb]? = Z1.heap[pb]?) := by obtain ⟨v, ev, hr, _, _, _, _, h1, h2⟩ := hins; exact ⟨h1, h2 pb pz.lt (fun e => HLP.out (by rw [hline]; exact e))⟩
          refine ⟨trivial, ?_⟩
          simp only [Act.put, List.setIfInBounds_toArray, List.set_cons_zero, List.set_cons_succ]
          refine take_wT (i := 9) (d := some 39) (v := .pointer (some ⟨pb, 0, none⟩)) rfl rfl rfl (by kernel_rfl) (by kernel_rfl) (by kernel_rfl) (fun _ _ d _ _ h => by cases d <;> exact h) (fun X hS => by kernel_rfl) trivial ?_
          simp only [Act.put, List.setIfInBounds_toArray, List.set_cons_zero, List.set_cons_succ]
          refine take_wT (i := 10) (d := some 40) (v := .pointer (some ⟨pb, 6, none⟩)) rfl rfl rfl (by kernel_rfl) (by kernel_rfl) (by kernel_rfl) (fun _ _ d _ _ h => by cases d <;> exact h) (fun X hS => by kernel_rfl) trivial ?_
          simp only [Act.put, List.setIfInBounds_toArray, List.set_cons_zero, List.set_cons_succ]
          refine all_wT (i := 11) (by kernel_rfl) rfl rfl ?_
          have b4 : X4.heap[pb]? = some (.cells (pC cf now mb line2).toArray 64) := hXs.2.trans pz.box
          refine wp_storeA (.tmp 40) (.tmp 38) 62 rfl rfl rfl rfl (w2 := X4.setCell ⟨pb, 6, none⟩ line3) (by rw [hl3]; exact st_row (by rw [blk_cell (j := 6) b4 rfl]; rfl) (blk_open b4 6)) ⟨trivial, ?_⟩
          refine wpAnyH_done (by kernel_rfl) ?_ _
          have hMz : MapAt Z1 mb (M ++ [(d, b)]) := HM3.out.on (c1.block _ HM3.out.lt)
          have hput := put_end (V := V) (line := line) (X3 := X4.setCell ⟨pb, 6, none⟩ line3) (line2 := line2) (k := k) (y := (⟨d, m, u⟩, b)) pz hMz (HM.out.2.put (y := (⟨d, m, u⟩, b)) HNK.out (putK_mem L2 k _)) (HK.out.kn.put (y := (⟨d, m, u⟩, b)) HNK.out) hst.1 ⟨⟨HD.out.fit, HD.out.len⟩, HE3.out.on (c1.block _ HE3.out.lt)⟩ HK.out.pm HLP.out HK.out.lm (fun x hx => by rcases (putK_mem L2 k _ x).1 hx with h | h; exact HK.out.el h; rw [h]; exact HBN.out.2.2.2) (fun x hx => by rcases (putK_mem L2 k _ x).1 hx with h | h; exact HK.out.ep h; rw [h]; exact HBN.out.2.1) (by rw [hline]; exact hins) rfl
          have HF : Hid (∃ k line4, Stands L2 (⟨d, m, u⟩, b) k ∧ Keeps pb cf now mb line4 (putK L2 k (⟨d, m, u⟩, b)) (X4.setCell ⟨pb, 6, none⟩ line3) ∧ (line4.ownBlock = line.ownBlock ∨ ∀ g, line4.ownBlock = some g → V.heap.size ≤ g) ∧ Fr pb mb line V (X4.setCell ⟨pb, 6, none⟩ line3)) := by
            have f3 : Fr pb mb line V X3 := ⟨HO3.out.os.trans HFR.out.os, HO3.out.tape.trans HFR.out.tape, HO3.out.output.trans HFR.out.output, by rw [HO3.out.size]; exact HFR.out.size, fun g hg h1 h2 h4 => (HO3.out.other g h2).trans (HFR.out.other g hg h1 h2 h4)⟩
            have f4 : Fr pb mb line V Z1 := f3.trans (Fr.below c1) rfl
            refine ⟨k, line3, hst, hput.1, ?_, f4.trans hput.2.1 HLB.out⟩
            rcases hput.2.2 with h | h
            · exact .inl (h.trans HLB.out)
            · exact .inr (fun g hg => Nat.le_trans f4.size (h g hg))
          clear hput hMz b4 hXs hl3 hins hlv rz pz
          first
          | (try go_returns
             exact HQ.out _ _ ⟨rfl, HF.out⟩)
          | (go_wp2_with fail
             try go_returns
             exact HQ.out _ _ ⟨rfl, HF.out⟩)
end Go.Proofs.Ytgndiblonhgihaa
