/-
  Told of a made cache.
  Told that counts.
-/
import Derived.Test.YtgndiblonhgihaaFold18
namespace Go.Proofs.Ytgndiblonhgihaa
open Go Go.RowKit Go.Lib
set_option linter.unusedVariables false
set_option linter.unusedSimpArgs false

theorem ex_addP {o : Oper} {a : Act} {W : World} (p q : Operand) {t : TypeId} (hop : o.op = Op.binOp .add 3 p q t) {x y z : Int} (hp : a.eval p = .int .i64 x) (hq : a.eval q = .int .i64 y) (hw : IntKind.i64.wrap (x + y) = z) : (execOp a.eval o).run Try.prog W = .ok (.value (.int .i64 z)) W := by
  generalize a.eval = ev at *
  simp [execOp, hop, hp, hq, go_sem, hw]
theorem ex_minP {o : Oper} {a : Act} {W : World} (p q : Operand) (hop : o.op = Op.call { callee := Callee.builtin Builtin.min, args := #[p, q], argTypes := #[3, 3] }) {x y : Int} (hp : a.eval p = .int .i64 x) (hq : a.eval q = .int .i64 y) : (execOp a.eval o).run Try.prog W = .ok (.value (.int .i64 (min x y))) W := by
  generalize a.eval = ev at *
  by_cases c : y < x
  · have e : min x y = y := by omega
    rw [e]
    simp [execOp, hop, resolve, invoke, builtin, hp, hq, Builtin.min_, Builtin.min2, go_sem, Result.andThen, c]
  · have e : min x y = x := by omega
    rw [e]
    simp [execOp, hop, resolve, invoke, builtin, hp, hq, Builtin.min_, Builtin.min2, go_sem, Result.andThen, c]
theorem ex_maxP {o : Oper} {a : Act} {W : World} (p q : Operand) (hop : o.op = Op.call { callee := Callee.builtin Builtin.max, args := #[p, q], argTypes := #[3, 3] }) {x y : Int} (hp : a.eval p = .int .i64 x) (hq : a.eval q = .int .i64 y) : (execOp a.eval o).run Try.prog W = .ok (.value (.int .i64 (max x y))) W := by
  generalize a.eval = ev at *
  by_cases c : x < y
  · have e : max x y = y := by omega
    rw [e]
    simp [execOp, hop, resolve, invoke, builtin, hp, hq, Builtin.max_, Builtin.max2, go_sem, Result.andThen, c]
  · have e : max x y = x := by omega
    rw [e]
    simp [execOp, hop, resolve, invoke, builtin, hp, hq, Builtin.max_, Builtin.max2, go_sem, Result.andThen, c]
set_option maxHeartbeats 8000000 in
set_option maxRecDepth 100000 in
theorem told_keep {V : World} {p pb mb : Nat} {cf : Cf} {now : Int} {line : Value} {L : List (PE × Nat)} (hb : Box V p pb) (h : Keeps pb cf now mb line L V) (hs : SortE L) (hl : L.length ≤ 1000000) {t : Int} (ht : okT now t) {d : List Int} (hd : K16 d) {z : Int} (hz : 0 ≤ z ∧ z ≤ 65535) (hk : mtuL cf (live L t) d ≤ max z cf.least) :
    Calls Try.prog 15 #[.pointer (some ⟨p, 0, none⟩), .int .i64 t, .agg (u8s d).toArray, .int .i64 z] V fun e w' => e = .returned (.tuple #[.bool false, .int .i64 0]) ∧ Box w' p pb ∧ ∃ line', Keeps pb cf t mb line' (live L t) w' ∧ line'.ownBlock = line.ownBlock ∧ Fr pb mb line V w' := by
  generalize hQ : (fun (e : Ending) (w' : World) => e = .returned (.tuple #[.bool false, .int .i64 0]) ∧ Box w' p pb ∧ ∃ line', Keeps pb cf t mb line' (live L t) w' ∧ line'.ownBlock = line.ownBlock ∧ Fr pb mb line V w') = Q
  have HQ : Hid (∀ e w', (e = .returned (.tuple #[.bool false, .int .i64 0]) ∧ Box w' p pb ∧ ∃ line', Keeps pb cf t mb line' (live L t) w' ∧ line'.ownBlock = line.ownBlock ∧ Fr pb mb line V w') → Q e w') := fun e w' hh => by rw [← hQ]; exact hh
  clear hQ
  obtain ⟨b, hbb⟩ : ∃ b, b = V.heap.size := ⟨_, rfl⟩
  obtain ⟨W1, hW1⟩ : ∃ W1, W1 = V.alloc (.cells (u8s d).toArray 35) := ⟨_, rfl⟩
  have hs1 : W1.heap.size = V.heap.size + 1 := by rw [hW1]; simp
  have hB1 : Below V.heap.size V W1 := by rw [hW1]; exact (Below.refl V.heap.size V).alloc (Nat.le_refl _) _
  have hx1 : W1.heap[b]? = some (.cells (u8s d).toArray 35) := by rw [hW1, hbb]; exact blk_new V _
  have k1 := h.on hB1
  have x1 := hb.on (hB1.block _ hb.lt)
  have HC := check_yes x1 k1.p ht
  have HC : Hid _ := HC
  have HG := goOn_any k1 hs hl t
  have HG : Hid _ := HG
  have HBX := h.bx hb
  have hpV := h.p.lt
  have hmV : mb < V.heap.size := by obtain ⟨M, h1, _⟩ := h.m; exact h1.lt
  have hlV : ∀ g, line.ownBlock = some g → g < V.heap.size := fun g hg => own_lt h.p.row hg
  have HN : Hid (p < V.heap.size ∧ pb < b ∧ mb < b ∧ line.ownBlock ≠ some b ∧ b < W1.heap.size ∧ V.heap.size ≤ W1.heap.size) := ⟨hb.lt, by omega, by omega, fun e => by have := hlV b e; omega, by omega, by omega⟩
  have HBX : Hid (p ≠ pb ∧ p ≠ mb ∧ line.ownBlock ≠ some p) := HBX
  have HX1 : Hid (Box W1 p pb ∧ W1.heap[b]? = some (.cells (u8s d).toArray 35) ∧ Below V.heap.size V W1) := ⟨x1, hx1, hB1⟩
  have HD : Hid (K16 d) := hd
  have HSL : Hid (SortE L ∧ L.length ≤ 1000000) := ⟨hs, hl⟩
  have HT : Hid (okT now t) := ht
  have c0 : W1.cell? ⟨p, 0, none⟩ = some (.pointer (some ⟨pb, 0, none⟩)) := blk_cell (j := 0) x1 rfl
  have hW := hW1.symm
  have hb2 := hbb.symm
  have q1 : decide (z < 0) = false := decide_eq_false (by omega)
  have q2 : decide (z > 65535) = false := decide_eq_false (by omega)
  have q3 : decide (65535 < z) = false := decide_eq_false (by omega)
  have HZ : Hid (0 ≤ z ∧ z ≤ 65535) := hz
  clear hW1 hs1 hB1 hx1 k1 x1 h hb hs hl ht hd hpV hmV hlV hbb hz
  go_enter Try.func15, Try.ntmps15
  go_wp2_with fail
  refine Calls.mono HC.out ?_
  rintro e w1 ⟨rfl, rfl⟩
  go_wp2_with fail
  refine Calls.mono HG.out ?_
  rintro e w2 ⟨rfl, line2, k2, l2, f2⟩
  have hbx2 : Box w2 p pb := HX1.out.1.on (f2.other p (Nat.lt_of_lt_of_le HN.out.1 HN.out.2.2.2.2.2) HBX.out.1 HBX.out.2.1 HBX.out.2.2)
  have hx2 : w2.heap[b]? = some (.cells (u8s d).toArray 35) := (f2.other b HN.out.2.2.2.2.1 (by have := HN.out; omega) (by have := HN.out; omega) HN.out.2.2.2.1).trans HX1.out.2.1
  have HK2 : Hid (Keeps pb cf t mb line2 (live L t) w2 ∧ line2.ownBlock = line.ownBlock ∧ Fr pb mb line V w2) := ⟨k2, l2, (Fr.below HX1.out.2.2).trans f2 rfl⟩
  have HX2 : Hid (Box w2 p pb ∧ w2.heap[b]? = some (.cells (u8s d).toArray 35)) := ⟨hbx2, hx2⟩
  obtain ⟨M, hm, hML⟩ := k2.m
  have HM : Hid (MapAt w2 mb M ∧ MapL M (live L t)) := ⟨hm, hML⟩
  have c2 : w2.cell? ⟨p, 0, none⟩ = some (.pointer (some ⟨pb, 0, none⟩)) := blk_cell (j := 0) hbx2 rfl
  have c3 : w2.cell? ⟨pb, 3, none⟩ = some (.int .i64 cf.least) := k2.p.cell 3 _ rfl
  clear k2 l2 f2 hbx2 hx2 hm hML HC HG c0 hW q1 q2 q3
  go_wp2_with first
    | ((with_reducible show wpList _ _ _ ({ dst := _, op := Op.call { callee := Callee.builtin Builtin.max, args := _, argTypes := _ }, type := _, pos := _, after := _, guard := _ } :: _) _ _); refine wpList_plain rfl fun K hK => ?_; unfold Oper.wp; rw [ex_maxP (.tmp 29) (.tmp 37) rfl rfl rfl]; refine hK _ _ ?_)
  generalize hzm : max z cf.least = zm at *
  refine wp_region_held (S := fun X => Box X p pb ∧ X.heap[b]? = some (.cells (u8s d).toArray 35)) (by kernel_rfl) ?_
  show wpAnyH _ _ _ _ _ 8 (Array.replicate 8 false) _ w2.drew
  have s0 : Box w2.drew p pb ∧ w2.drew.heap[b]? = some (.cells (u8s d).toArray 35) := HX2.out
  have b0 : Below w2.heap.size w2 w2.drew := (Below.refl _ w2).drew
  have HMT := mtu_any (V := w2.drew) (HK2.out.1.p.on b0) (HM.out.1.on rfl) HM.out.2 HK2.out.1.kn.kd HD.out
  generalize w2.drew = V0 at *
  refine take_wT (i := 0) (d := some 39) (v := .int .i64 zm) rfl rfl rfl (by kernel_rfl) (by kernel_rfl) (by kernel_rfl) (fun _ _ d _ _ h => by cases d <;> exact h) (fun X hS => by kernel_rfl) s0 ?_
  simp only [Act.put, List.setIfInBounds_toArray, List.set_cons_zero, List.set_cons_succ]
  refine take_wT (i := 1) (d := some 40) (v := .pointer (some ⟨p, 0, none⟩)) rfl rfl rfl (by kernel_rfl) (by kernel_rfl) (by kernel_rfl) (fun _ _ d _ _ h => by cases d <;> exact h) (fun X hS => by kernel_rfl) s0 ?_
  simp only [Act.put, List.setIfInBounds_toArray, List.set_cons_zero, List.set_cons_succ]
  refine take_wT (i := 2) (d := some 41) (v := .pointer (some ⟨p, 0, none⟩)) rfl rfl rfl (by kernel_rfl) (by kernel_rfl) (by kernel_rfl) (fun _ _ d _ _ h => by cases d <;> exact h) (fun X hS => by kernel_rfl) s0 ?_
  simp only [Act.put, List.setIfInBounds_toArray, List.set_cons_zero, List.set_cons_succ]
  refine take_wT (i := 3) (d := some 42) (v := .pointer (some ⟨p, 0, none⟩)) rfl rfl rfl (by kernel_rfl) (by kernel_rfl) (by kernel_rfl) (fun _ _ d _ _ h => by cases d <;> exact h) (fun X hS => by kernel_rfl) s0 ?_
  simp only [Act.put, List.setIfInBounds_toArray, List.set_cons_zero, List.set_cons_succ]
  refine take_wT (i := 4) (d := some 43) (v := .pointer (some ⟨pb, 0, none⟩)) rfl rfl rfl (by kernel_rfl) (by kernel_rfl) (by kernel_rfl) (fun _ _ d _ _ h => by cases d <;> exact h) (fun X hS => ex_loadA (.tmp 42) 50 rfl rfl (ld_pp (blk_cell (j := 0) hS.1 rfl))) s0 ?_
  simp only [Act.put, List.setIfInBounds_toArray, List.set_cons_zero, List.set_cons_succ]
  refine take_wT (i := 5) (d := some 44) (v := .agg (u8s d).toArray) rfl rfl rfl (by kernel_rfl) (by kernel_rfl) (by kernel_rfl) (fun _ _ d _ _ h => by cases d <;> exact h) (fun X hS => ex_loadA (.tmp 6) 35 rfl rfl (load6 HD.out.len (CellsAt.blkP (c := u8s d) (t := 35) hS.2))) s0 ?_
  simp only [Act.put, List.setIfInBounds_toArray, List.set_cons_zero, List.set_cons_succ]
  refine all_wT (i := 6) (by kernel_rfl) rfl rfl ?_
  refine wp_call (d := some 45) 29 _ rfl (by kernel_rfl) (callR HMT) ?_
  rintro _ X1 ⟨rfl, hb1⟩
  have s1 : Box X1 p pb ∧ X1.heap[b]? = some (.cells (u8s d).toArray 35) := ⟨s0.1.on (hb1.block _ s0.1.lt), (hb1.block _ (Array.getElem?_eq_some_iff.1 s0.2).1).trans s0.2⟩
  refine ⟨s1, ?_⟩
  simp only [Act.put, List.setIfInBounds_toArray, List.set_cons_zero, List.set_cons_succ]
  refine take_wT (i := 7) (d := some 46) (v := .bool (decide (zm ≥ mtuL cf (live L t) d))) rfl rfl rfl (by kernel_rfl) (by kernel_rfl) (by kernel_rfl) (fun _ _ d _ _ h => by cases d <;> exact h) (fun X hS => ex_geqP (.tmp 39) (.tmp 45) rfl rfl rfl) s1 ?_
  simp only [Act.put, List.setIfInBounds_toArray, List.set_cons_zero, List.set_cons_succ]
  refine wpAnyH_done (by kernel_rfl) ?_ _

  have q1 : decide (zm ≥ mtuL cf (live L t) d) = true := decide_eq_true hk
  have b1 : Below w2.heap.size w2 X1 := b0.trans (hb1.mono b0.size)
  have HF : Hid (Box X1 p pb ∧ ∃ line', Keeps pb cf t mb line' (live L t) X1 ∧ line'.ownBlock = line.ownBlock ∧ Fr pb mb line V X1) := ⟨s1.1, line2, HK2.out.1.on b1, HK2.out.2.1, HK2.out.2.2.trans (Fr.below b1) rfl⟩
  clear s0 b0 HMT hb1 s1 b1 HK2 HX2 HM HX1 c2 c3 hk
  rw [q1]
  go_wp2_with fail
  try go_returns
  exact HQ.out _ _ ⟨rfl, HF.out⟩
end Go.Proofs.Ytgndiblonhgihaa

namespace Go.Proofs.Ytgndiblonhgihaa
open Go Go.RowKit Go.Lib
set_option linter.unusedVariables false
set_option linter.unusedSimpArgs false

theorem SortE.pw {L : List (PE × Nat)} (h : SortE L) : L.Pairwise (fun x y => cE x y = -1) := List.pairwise_iff_getElem.2 (fun i j hi hj hij => h i j _ _ hij (List.getElem?_eq_getElem hi) (List.getElem?_eq_getElem hj))
theorem SortE.of {L : List (PE × Nat)} (h : L.Pairwise (fun x y => cE x y = -1)) : SortE L := fun i j x y hij hx hy => by
  obtain ⟨hi, ex⟩ := List.getElem?_eq_some_iff.1 hx
  obtain ⟨hj, ey⟩ := List.getElem?_eq_some_iff.1 hy
  rw [← ex, ← ey]
  exact List.pairwise_iff_getElem.1 h i j hi hj hij
theorem SortE.live {L : List (PE × Nat)} (h : SortE L) (t : Int) : SortE (live L t) := SortE.of (h.pw.filter _)
set_option maxRecDepth 100000 in
theorem bldE16 (a0 a1 a2 a3 a4 a5 a6 a7 a8 a9 a10 a11 a12 a13 a14 a15 m u : Int) (w : World) : (Instr.build 72 #[(0, .agg (u8s [a0, a1, a2, a3, a4, a5, a6, a7, a8, a9, a10, a11, a12, a13, a14, a15]).toArray), (1, .int .i64 m), (2, .int .i64 u)]).run Try.prog w = .ok (.agg (eC [a0, a1, a2, a3, a4, a5, a6, a7, a8, a9, a10, a11, a12, a13, a14, a15] m u).toArray) w := by kernel_rfl
theorem bldE {d : List Int} (hl : d.length = 16) (m u : Int) (w : World) : (Instr.build 72 #[(0, .agg (u8s d).toArray), (1, .int .i64 m), (2, .int .i64 u)]).run Try.prog w = .ok (.agg (eC d m u).toArray) w := by
  match d, hl with
  | [a0, a1, a2, a3, a4, a5, a6, a7, a8, a9, a10, a11, a12, a13, a14, a15], _ => exact bldE16 a0 a1 a2 a3 a4 a5 a6 a7 a8 a9 a10 a11 a12 a13 a14 a15 m u w
/-- Settings that may be. -/
structure Cf.Ok (cf : Cf) : Prop where
  lim : 1 ≤ cf.lim ∧ cf.lim ≤ 4096
  life : 1 ≤ cf.life ∧ cf.life ≤ 2147483648
  least : 68 ≤ cf.least
  link : cf.least ≤ cf.link ∧ cf.link ≤ 65535
set_option maxHeartbeats 16000000 in
set_option maxRecDepth 100000 in
theorem told_yes {V : World} {p pb mb : Nat} {cf : Cf} {now : Int} {line : Value} {L : List (PE × Nat)} (hb : Box V p pb) (h : Keeps pb cf now mb line L V) (hs : SortE L) (hl : L.length ≤ 1000000) {t : Int} (ht : okT now t) {d : List Int} (hd : K16 d) {z : Int} (hz : 0 ≤ z ∧ z ≤ 65535) (hcf : cf.Ok) (hI : ∀ b k, Stands (roomL (live L t) d cf.lim) (⟨d, max z cf.least, (min (t + cf.life) 1099511627776)⟩, b) k → InsK (roomL (live L t) d cf.lim).length k) (hk : max z cf.least < mtuL cf (live L t) d) (hnow : 0 ≤ now) :
    Calls Try.prog 15 #[.pointer (some ⟨p, 0, none⟩), .int .i64 t, .agg (u8s d).toArray, .int .i64 z] V fun e w' => e = .returned (.tuple #[.bool true, .int .i64 0]) ∧ Box w' p pb ∧ ∃ b k line', Stands (roomL (live L t) d cf.lim) (⟨d, max z cf.least, (min (t + cf.life) 1099511627776)⟩, b) k ∧ Keeps pb cf t mb line' (putK (roomL (live L t) d cf.lim) k (⟨d, max z cf.least, (min (t + cf.life) 1099511627776)⟩, b)) w' ∧ (line'.ownBlock = line.ownBlock ∨ ∀ g, line'.ownBlock = some g → V.heap.size ≤ g) ∧ Fr pb mb line V w' := by
  have HI : Hid (∀ b k, Stands (roomL (live L t) d cf.lim) (⟨d, max z cf.least, (min (t + cf.life) 1099511627776)⟩, b) k → InsK (roomL (live L t) d cf.lim).length k) := hI
  have HCF : Hid cf.Ok := hcf
  have HNOW : Hid (0 ≤ now) := hnow
  clear hI hcf hnow
  generalize hQ : (fun (e : Ending) (w' : World) => e = .returned (.tuple #[.bool true, .int .i64 0]) ∧ Box w' p pb ∧ ∃ b k line', Stands (roomL (live L t) d cf.lim) (⟨d, max z cf.least, (min (t + cf.life) 1099511627776)⟩, b) k ∧ Keeps pb cf t mb line' (putK (roomL (live L t) d cf.lim) k (⟨d, max z cf.least, (min (t + cf.life) 1099511627776)⟩, b)) w' ∧ (line'.ownBlock = line.ownBlock ∨ ∀ g, line'.ownBlock = some g → V.heap.size ≤ g) ∧ Fr pb mb line V w') = Q
  have HQ : Hid (∀ e w', (e = .returned (.tuple #[.bool true, .int .i64 0]) ∧ Box w' p pb ∧ ∃ b k line', Stands (roomL (live L t) d cf.lim) (⟨d, max z cf.least, (min (t + cf.life) 1099511627776)⟩, b) k ∧ Keeps pb cf t mb line' (putK (roomL (live L t) d cf.lim) k (⟨d, max z cf.least, (min (t + cf.life) 1099511627776)⟩, b)) w' ∧ (line'.ownBlock = line.ownBlock ∨ ∀ g, line'.ownBlock = some g → V.heap.size ≤ g) ∧ Fr pb mb line V w') → Q e w') := fun e w' hh => by rw [← hQ]; exact hh
  clear hQ
  obtain ⟨b, hbb⟩ : ∃ b, b = V.heap.size := ⟨_, rfl⟩
  obtain ⟨W1, hW1⟩ : ∃ W1, W1 = V.alloc (.cells (u8s d).toArray 35) := ⟨_, rfl⟩
  have hs1 : W1.heap.size = V.heap.size + 1 := by rw [hW1]; simp
  have hB1 : Below V.heap.size V W1 := by rw [hW1]; exact (Below.refl V.heap.size V).alloc (Nat.le_refl _) _
  have hx1 : W1.heap[b]? = some (.cells (u8s d).toArray 35) := by rw [hW1, hbb]; exact blk_new V _
  have k1 := h.on hB1
  have x1 := hb.on (hB1.block _ hb.lt)
  have HC := check_yes x1 k1.p ht
  have HC : Hid _ := HC
  have HG := goOn_any k1 hs hl t
  have HG : Hid _ := HG
  have HBX := h.bx hb
  have hpV := h.p.lt
  have hmV : mb < V.heap.size := by obtain ⟨M, h1, _⟩ := h.m; exact h1.lt
  have hlV : ∀ g, line.ownBlock = some g → g < V.heap.size := fun g hg => own_lt h.p.row hg
  have HN : Hid (p < V.heap.size ∧ pb < b ∧ mb < b ∧ line.ownBlock ≠ some b ∧ b < W1.heap.size ∧ V.heap.size ≤ W1.heap.size) := ⟨hb.lt, by omega, by omega, fun e => by have := hlV b e; omega, by omega, by omega⟩
  have HBX : Hid (p ≠ pb ∧ p ≠ mb ∧ line.ownBlock ≠ some p) := HBX
  have HX1 : Hid (Box W1 p pb ∧ W1.heap[b]? = some (.cells (u8s d).toArray 35) ∧ Below V.heap.size V W1) := ⟨x1, hx1, hB1⟩
  have HD : Hid (K16 d) := hd
  have HSL : Hid (SortE L ∧ L.length ≤ 1000000) := ⟨hs, hl⟩
  have HT : Hid (okT now t) := ht
  have c0 : W1.cell? ⟨p, 0, none⟩ = some (.pointer (some ⟨pb, 0, none⟩)) := blk_cell (j := 0) x1 rfl
  have hW := hW1.symm
  have hb2 := hbb.symm
  have q1 : decide (z < 0) = false := decide_eq_false (by omega)
  have q2 : decide (z > 65535) = false := decide_eq_false (by omega)
  have q3 : decide (65535 < z) = false := decide_eq_false (by omega)
  have HZ : Hid (0 ≤ z ∧ z ≤ 65535) := hz
  clear hW1 hs1 hB1 hx1 k1 x1 h hb hs hl ht hd hpV hmV hlV hbb hz
  go_enter Try.func15, Try.ntmps15
  go_wp2_with fail
  refine Calls.mono HC.out ?_
  rintro e w1 ⟨rfl, rfl⟩
  go_wp2_with fail
  refine Calls.mono HG.out ?_
  rintro e w2 ⟨rfl, line2, k2, l2, f2⟩
  have hbx2 : Box w2 p pb := HX1.out.1.on (f2.other p (Nat.lt_of_lt_of_le HN.out.1 HN.out.2.2.2.2.2) HBX.out.1 HBX.out.2.1 HBX.out.2.2)
  have hx2 : w2.heap[b]? = some (.cells (u8s d).toArray 35) := (f2.other b HN.out.2.2.2.2.1 (by have := HN.out; omega) (by have := HN.out; omega) HN.out.2.2.2.1).trans HX1.out.2.1
  have HK2 : Hid (Keeps pb cf t mb line2 (live L t) w2 ∧ line2.ownBlock = line.ownBlock ∧ Fr pb mb line V w2) := ⟨k2, l2, (Fr.below HX1.out.2.2).trans f2 rfl⟩
  have HX2 : Hid (Box w2 p pb ∧ w2.heap[b]? = some (.cells (u8s d).toArray 35)) := ⟨hbx2, hx2⟩
  obtain ⟨M, hm, hML⟩ := k2.m
  have HM : Hid (MapAt w2 mb M ∧ MapL M (live L t)) := ⟨hm, hML⟩
  have c2 : w2.cell? ⟨p, 0, none⟩ = some (.pointer (some ⟨pb, 0, none⟩)) := blk_cell (j := 0) hbx2 rfl
  have c3 : w2.cell? ⟨pb, 3, none⟩ = some (.int .i64 cf.least) := k2.p.cell 3 _ rfl
  clear k2 l2 f2 hbx2 hx2 hm hML HC HG c0 hW q1 q2 q3
  go_wp2_with first
    | ((with_reducible show wpList _ _ _ ({ dst := _, op := Op.call { callee := Callee.builtin Builtin.max, args := _, argTypes := _ }, type := _, pos := _, after := _, guard := _ } :: _) _ _); refine wpList_plain rfl fun K hK => ?_; unfold Oper.wp; rw [ex_maxP (.tmp 29) (.tmp 37) rfl rfl rfl]; refine hK _ _ ?_)
  generalize hzm : max z cf.least = zm at *
  have HWR : Hid (IntKind.i64.wrap (t + cf.life) = t + cf.life) := by
    have h1 := HT.out
    have h2 := HCF.out.life
    unfold okT at h1
    have h3 : 0 ≤ t + cf.life ∨ t + cf.life < 0 := by omega
    have h4 : IntKind.i64.wrap (t + cf.life) = t + cf.life := wrap_i64 _ ⟨by have := HNOW.out; omega, by omega⟩
    exact h4
  refine wp_region_held (S := fun X => Box X p pb ∧ X.heap[b]? = some (.cells (u8s d).toArray 35)) (by kernel_rfl) ?_
  show wpAnyH _ _ _ _ _ 8 (Array.replicate 8 false) _ w2.drew
  have s0 : Box w2.drew p pb ∧ w2.drew.heap[b]? = some (.cells (u8s d).toArray 35) := HX2.out
  have b0 : Below w2.heap.size w2 w2.drew := (Below.refl _ w2).drew
  have HMT := mtu_any (V := w2.drew) (HK2.out.1.p.on b0) (HM.out.1.on rfl) HM.out.2 HK2.out.1.kn.kd HD.out
  generalize w2.drew = V0 at *
  refine take_wT (i := 0) (d := some 39) (v := .int .i64 zm) rfl rfl rfl (by kernel_rfl) (by kernel_rfl) (by kernel_rfl) (fun _ _ d _ _ h => by cases d <;> exact h) (fun X hS => by kernel_rfl) s0 ?_
  simp only [Act.put, List.setIfInBounds_toArray, List.set_cons_zero, List.set_cons_succ]
  refine take_wT (i := 1) (d := some 40) (v := .pointer (some ⟨p, 0, none⟩)) rfl rfl rfl (by kernel_rfl) (by kernel_rfl) (by kernel_rfl) (fun _ _ d _ _ h => by cases d <;> exact h) (fun X hS => by kernel_rfl) s0 ?_
  simp only [Act.put, List.setIfInBounds_toArray, List.set_cons_zero, List.set_cons_succ]
  refine take_wT (i := 2) (d := some 41) (v := .pointer (some ⟨p, 0, none⟩)) rfl rfl rfl (by kernel_rfl) (by kernel_rfl) (by kernel_rfl) (fun _ _ d _ _ h => by cases d <;> exact h) (fun X hS => by kernel_rfl) s0 ?_
  simp only [Act.put, List.setIfInBounds_toArray, List.set_cons_zero, List.set_cons_succ]
  refine take_wT (i := 3) (d := some 42) (v := .pointer (some ⟨p, 0, none⟩)) rfl rfl rfl (by kernel_rfl) (by kernel_rfl) (by kernel_rfl) (fun _ _ d _ _ h => by cases d <;> exact h) (fun X hS => by kernel_rfl) s0 ?_
  simp only [Act.put, List.setIfInBounds_toArray, List.set_cons_zero, List.set_cons_succ]
  refine take_wT (i := 4) (d := some 43) (v := .pointer (some ⟨pb, 0, none⟩)) rfl rfl rfl (by kernel_rfl) (by kernel_rfl) (by kernel_rfl) (fun _ _ d _ _ h => by cases d <;> exact h) (fun X hS => ex_loadA (.tmp 42) 50 rfl rfl (ld_pp (blk_cell (j := 0) hS.1 rfl))) s0 ?_
  simp only [Act.put, List.setIfInBounds_toArray, List.set_cons_zero, List.set_cons_succ]
  refine take_wT (i := 5) (d := some 44) (v := .agg (u8s d).toArray) rfl rfl rfl (by kernel_rfl) (by kernel_rfl) (by kernel_rfl) (fun _ _ d _ _ h => by cases d <;> exact h) (fun X hS => ex_loadA (.tmp 6) 35 rfl rfl (load6 HD.out.len (CellsAt.blkP (c := u8s d) (t := 35) hS.2))) s0 ?_
  simp only [Act.put, List.setIfInBounds_toArray, List.set_cons_zero, List.set_cons_succ]
  refine all_wT (i := 6) (by kernel_rfl) rfl rfl ?_
  refine wp_call (d := some 45) 29 _ rfl (by kernel_rfl) (callR HMT) ?_
  rintro _ X1 ⟨rfl, hb1⟩
  have s1 : Box X1 p pb ∧ X1.heap[b]? = some (.cells (u8s d).toArray 35) := ⟨s0.1.on (hb1.block _ s0.1.lt), (hb1.block _ (Array.getElem?_eq_some_iff.1 s0.2).1).trans s0.2⟩
  refine ⟨s1, ?_⟩
  simp only [Act.put, List.setIfInBounds_toArray, List.set_cons_zero, List.set_cons_succ]
  refine take_wT (i := 7) (d := some 46) (v := .bool (decide (zm ≥ mtuL cf (live L t) d))) rfl rfl rfl (by kernel_rfl) (by kernel_rfl) (by kernel_rfl) (fun _ _ d _ _ h => by cases d <;> exact h) (fun X hS => ex_geqP (.tmp 39) (.tmp 45) rfl rfl rfl) s1 ?_
  simp only [Act.put, List.setIfInBounds_toArray, List.set_cons_zero, List.set_cons_succ]
  refine wpAnyH_done (by kernel_rfl) ?_ _

  have q1 : decide (zm ≥ mtuL cf (live L t) d) = false := decide_eq_false (by omega)
  have b1 : Below w2.heap.size w2 X1 := b0.trans (hb1.mono b0.size)
  clear s0 b0 HMT hb1 HX2 HM HX1 c2 c3 hk
  rw [q1]
  go_wp2_with fail
  refine wp_region_held (S := fun X => Box X p pb ∧ X.heap[b]? = some (.cells (u8s d).toArray 35) ∧ X.cell? ⟨pb, 2, none⟩ = some (.int .i64 cf.life)) (by kernel_rfl) ?_
  show wpAnyH _ _ _ _ _ 19 (Array.replicate 19 false) _ X1.drew
  have b2 : Below w2.heap.size w2 X1.drew := b1.drew
  have k2 : Keeps pb cf t mb line2 (live L t) X1.drew := HK2.out.1.on b2
  have s2 : Box X1.drew p pb ∧ X1.drew.heap[b]? = some (.cells (u8s d).toArray 35) ∧ X1.drew.cell? ⟨pb, 2, none⟩ = some (.int .i64 cf.life) := ⟨s1.1, s1.2, k2.p.cell 2 _ rfl⟩
  have HPUT := put_any k2 (HSL.out.1.live t) (Nat.le_trans (live_len L t) HSL.out.2) HD.out zm (min (t + cf.life) 1099511627776) HI.out HCF.out.lim.1
  have HBX2 := k2.bx s2.1
  generalize X1.drew = V1 at *
  refine take_wT (i := 0) (d := some 47) (v := .pointer (some ⟨p, 0, none⟩)) rfl rfl rfl (by kernel_rfl) (by kernel_rfl) (by kernel_rfl) (fun _ _ d _ _ h => by cases d <;> exact h) (fun X hS => by kernel_rfl) s2 ?_
  simp only [Act.put, List.setIfInBounds_toArray, List.set_cons_zero, List.set_cons_succ]
  refine take_wT (i := 1) (d := some 48) (v := .pointer (some ⟨p, 0, none⟩)) rfl rfl rfl (by kernel_rfl) (by kernel_rfl) (by kernel_rfl) (fun _ _ d _ _ h => by cases d <;> exact h) (fun X hS => by kernel_rfl) s2 ?_
  simp only [Act.put, List.setIfInBounds_toArray, List.set_cons_zero, List.set_cons_succ]
  refine take_wT (i := 2) (d := some 49) (v := .pointer (some ⟨p, 0, none⟩)) rfl rfl rfl (by kernel_rfl) (by kernel_rfl) (by kernel_rfl) (fun _ _ d _ _ h => by cases d <;> exact h) (fun X hS => by kernel_rfl) s2 ?_
  simp only [Act.put, List.setIfInBounds_toArray, List.set_cons_zero, List.set_cons_succ]
  refine take_wT (i := 3) (d := some 50) (v := .pointer (some ⟨pb, 0, none⟩)) rfl rfl rfl (by kernel_rfl) (by kernel_rfl) (by kernel_rfl) (fun _ _ d _ _ h => by cases d <;> exact h) (fun X hS => ex_loadA (.tmp 49) 50 rfl rfl (ld_pp (blk_cell (j := 0) hS.1 rfl))) s2 ?_
  simp only [Act.put, List.setIfInBounds_toArray, List.set_cons_zero, List.set_cons_succ]
  refine take_wT (i := 4) (d := some 51) (v := .agg (u8s d).toArray) rfl rfl rfl (by kernel_rfl) (by kernel_rfl) (by kernel_rfl) (fun _ _ d _ _ h => by cases d <;> exact h) (fun X hS => ex_loadA (.tmp 6) 35 rfl rfl (load6 HD.out.len (CellsAt.blkP (c := u8s d) (t := 35) hS.2.1))) s2 ?_
  simp only [Act.put, List.setIfInBounds_toArray, List.set_cons_zero, List.set_cons_succ]
  refine take_wT (i := 5) (d := some 52) (v := .int .i64 zm) rfl rfl rfl (by kernel_rfl) (by kernel_rfl) (by kernel_rfl) (fun _ _ d _ _ h => by cases d <;> exact h) (fun X hS => by kernel_rfl) s2 ?_
  simp only [Act.put, List.setIfInBounds_toArray, List.set_cons_zero, List.set_cons_succ]
  refine take_wT (i := 6) (d := some 53) (v := .int .i64 t) rfl rfl rfl (by kernel_rfl) (by kernel_rfl) (by kernel_rfl) (fun _ _ d _ _ h => by cases d <;> exact h) (fun X hS => by kernel_rfl) s2 ?_
  simp only [Act.put, List.setIfInBounds_toArray, List.set_cons_zero, List.set_cons_succ]
  refine take_wT (i := 7) (d := some 54) (v := .pointer (some ⟨p, 0, none⟩)) rfl rfl rfl (by kernel_rfl) (by kernel_rfl) (by kernel_rfl) (fun _ _ d _ _ h => by cases d <;> exact h) (fun X hS => by kernel_rfl) s2 ?_
  simp only [Act.put, List.setIfInBounds_toArray, List.set_cons_zero, List.set_cons_succ]
  refine take_wT (i := 8) (d := some 55) (v := .pointer (some ⟨p, 0, none⟩)) rfl rfl rfl (by kernel_rfl) (by kernel_rfl) (by kernel_rfl) (fun _ _ d _ _ h => by cases d <;> exact h) (fun X hS => by kernel_rfl) s2 ?_
  simp only [Act.put, List.setIfInBounds_toArray, List.set_cons_zero, List.set_cons_succ]
  refine take_wT (i := 9) (d := some 56) (v := .pointer (some ⟨p, 0, none⟩)) rfl rfl rfl (by kernel_rfl) (by kernel_rfl) (by kernel_rfl) (fun _ _ d _ _ h => by cases d <;> exact h) (fun X hS => by kernel_rfl) s2 ?_
  simp only [Act.put, List.setIfInBounds_toArray, List.set_cons_zero, List.set_cons_succ]
  refine take_wT (i := 10) (d := some 57) (v := .pointer (some ⟨pb, 0, none⟩)) rfl rfl rfl (by kernel_rfl) (by kernel_rfl) (by kernel_rfl) (fun _ _ d _ _ h => by cases d <;> exact h) (fun X hS => ex_loadA (.tmp 56) 50 rfl rfl (ld_pp (blk_cell (j := 0) hS.1 rfl))) s2 ?_
  simp only [Act.put, List.setIfInBounds_toArray, List.set_cons_zero, List.set_cons_succ]
  refine take_wT (i := 11) (d := some 58) (v := .pointer (some ⟨pb, 0, none⟩)) rfl rfl rfl (by kernel_rfl) (by kernel_rfl) (by kernel_rfl) (fun _ _ d _ _ h => by cases d <;> exact h) (fun X hS => by kernel_rfl) s2 ?_
  simp only [Act.put, List.setIfInBounds_toArray, List.set_cons_zero, List.set_cons_succ]
  refine take_wT (i := 12) (d := some 59) (v := .pointer (some ⟨pb, 0, none⟩)) rfl rfl rfl (by kernel_rfl) (by kernel_rfl) (by kernel_rfl) (fun _ _ d _ _ h => by cases d <;> exact h) (fun X hS => by kernel_rfl) s2 ?_
  simp only [Act.put, List.setIfInBounds_toArray, List.set_cons_zero, List.set_cons_succ]
  refine take_wT (i := 13) (d := some 60) (v := .pointer (some ⟨pb, 2, none⟩)) rfl rfl rfl (by kernel_rfl) (by kernel_rfl) (by kernel_rfl) (fun _ _ d _ _ h => by cases d <;> exact h) (fun X hS => by kernel_rfl) s2 ?_
  simp only [Act.put, List.setIfInBounds_toArray, List.set_cons_zero, List.set_cons_succ]
  refine take_wT (i := 14) (d := some 61) (v := .int .i64 cf.life) rfl rfl rfl (by kernel_rfl) (by kernel_rfl) (by kernel_rfl) (fun _ _ d _ _ h => by cases d <;> exact h) (fun X hS => ex_loadA (.tmp 60) 3 rfl rfl (ld_int hS.2.2)) s2 ?_
  simp only [Act.put, List.setIfInBounds_toArray, List.set_cons_zero, List.set_cons_succ]
  refine take_wT (i := 15) (d := some 62) (v := .int .i64 (t + cf.life)) rfl rfl rfl (by kernel_rfl) (by kernel_rfl) (by kernel_rfl) (fun _ _ d _ _ h => by cases d <;> exact h) (fun X hS => ex_addP (.tmp 53) (.tmp 61) rfl rfl rfl HWR.out) s2 ?_
  simp only [Act.put, List.setIfInBounds_toArray, List.set_cons_zero, List.set_cons_succ]
  refine take_wT (i := 16) (d := some 63) (v := .int .i64 (min (t + cf.life) 1099511627776)) rfl rfl rfl (by kernel_rfl) (by kernel_rfl) (by kernel_rfl) (fun _ _ d _ _ h => by cases d <;> exact h) (fun X hS => ex_minP (.tmp 62) (.const (.int .i64 1099511627776)) rfl rfl rfl) s2 ?_
  simp only [Act.put, List.setIfInBounds_toArray, List.set_cons_zero, List.set_cons_succ]
  refine take_wT (i := 17) (d := some 64) (v := .agg (eC d zm (min (t + cf.life) 1099511627776)).toArray) rfl rfl rfl (by kernel_rfl) (by kernel_rfl) (by kernel_rfl) (fun _ _ d _ _ h => by cases d <;> exact h) (fun X hS => ex_buildA 72 [(0, .tmp 51), (1, .tmp 52), (2, .tmp 63)] rfl rfl (bldE HD.out.len zm (min (t + cf.life) 1099511627776) _)) s2 ?_
  simp only [Act.put, List.setIfInBounds_toArray, List.set_cons_zero, List.set_cons_succ]
  refine all_wT (i := 18) (by kernel_rfl) rfl rfl ?_
  refine wp_callV (R := fun w' => ∃ b k line', Stands (roomL (live L t) d cf.lim) (⟨d, zm, (min (t + cf.life) 1099511627776)⟩, b) k ∧ Keeps pb cf t mb line' (putK (roomL (live L t) d cf.lim) k (⟨d, zm, (min (t + cf.life) 1099511627776)⟩, b)) w' ∧ (line'.ownBlock = line2.ownBlock ∨ ∀ g, line'.ownBlock = some g → V1.heap.size ≤ g) ∧ Fr pb mb line2 V1 w') 32 _ (by kernel_rfl) HPUT ?_
  rintro v X2 ⟨b3, k3, line3, st3, kp3, lb3, f3⟩
  have s3 : Box X2 p pb ∧ X2.heap[b]? = some (.cells (u8s d).toArray 35) ∧ X2.cell? ⟨pb, 2, none⟩ = some (.int .i64 cf.life) := ⟨s2.1.on (f3.other p s2.1.lt HBX2.1 HBX2.2.1 HBX2.2.2), (f3.other b (Array.getElem?_eq_some_iff.1 s2.2.1).1 (by have := HN.out; omega) (by have := HN.out; omega) (by rw [HK2.out.2.1]; exact HN.out.2.2.2.1)).trans s2.2.1, kp3.p.cell 2 _ rfl⟩
  refine ⟨s3, ?_⟩
  simp only [Act.put, List.setIfInBounds_toArray, List.set_cons_zero, List.set_cons_succ]
  refine wpAnyH_done (by kernel_rfl) ?_ _

  have HF : Hid (Box X2 p pb ∧ ∃ b k line', Stands (roomL (live L t) d cf.lim) (⟨d, zm, (min (t + cf.life) 1099511627776)⟩, b) k ∧ Keeps pb cf t mb line' (putK (roomL (live L t) d cf.lim) k (⟨d, zm, (min (t + cf.life) 1099511627776)⟩, b)) X2 ∧ (line'.ownBlock = line.ownBlock ∨ ∀ g, line'.ownBlock = some g → V.heap.size ≤ g) ∧ Fr pb mb line V X2) := by
    have f4 : Fr pb mb line V V1 := HK2.out.2.2.trans (Fr.below b2) rfl
    refine ⟨s3.1, b3, k3, line3, st3, kp3, ?_, f4.trans f3 HK2.out.2.1⟩
    rcases lb3 with e | e
    · exact .inl (e.trans HK2.out.2.1)
    · exact .inr (fun g hg => Nat.le_trans f4.size (e g hg))
  clear s1 b1 b2 k2 s2 HPUT HBX2 st3 kp3 lb3 f3 s3 HK2
  go_wp2_with fail
  try go_returns
  exact HQ.out _ _ ⟨rfl, HF.out⟩
end Go.Proofs.Ytgndiblonhgihaa
