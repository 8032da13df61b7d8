/-
  Parse4 and Parse6 of package icmp; Same of both.
  Same, Kind4, Kind6 and Ident of package icmp and of the document; cut.
  alive; messages and addresses as arguments.
-/
import Derived.Test.YtpgnnplpcalbbaaGreatFold23
set_option linter.unusedVariables false
set_option linter.unusedSimpArgs false
namespace Go.Proofs.YtpgnnplpcalbbaaGreat.Icm
open Go Go.RowKit Go.Shelf
theorem parse_any (o : Value) (ph : Int → List Int) (v : Value) (zs : List Int) (w : World) (ho : OverI w o ph) (h : RowC w v zs) :
    Calls Tryz.prog 156 #[o, v] w fun e w' => ParI ph zs w e w' := by
  by_cases hn : zs.length < 8
  · exact parse_short o ph v zs w ho h hn
  · by_cases h0 : pE ph zs = 0
    · exact parse_good o ph v zs w ho h (by omega) h0
    · exact parse_bad o ph v zs w ho h (by omega) h0
set_option maxHeartbeats 2000000 in
set_option maxRecDepth 100000 in
theorem Parse6_any (A B : List Int) (hA : A.length = 16) (hB : B.length = 16) (fa : Fit A) (fb : Fit B) (v : Value) (zs : List Int) (w : World) (h : RowC w v zs) :
    Calls Tryz.prog 117 #[.agg (u8L A).toArray, .agg (u8L B).toArray, v] w fun e w' => ParI (ph6I A B) zs w e w' := by
  obtain ⟨W0, hW0⟩ : ∃ W0, ((w.alloc (.cells (u8L A).toArray 29)).alloc (.cells (u8L B).toArray 29)).alloc (.cells [.int .u8 0, .int .u8 0, .int .u32 0, .slice none 0 0].toArray 46) = W0 := ⟨_, rfl⟩
  have b0 := blk_new w (.cells (u8L A).toArray 29)
  have b1 := blk_new (w.alloc (.cells (u8L A).toArray 29)) (.cells (u8L B).toArray 29)
  have b2 := blk_new ((w.alloc (.cells (u8L A).toArray 29)).alloc (.cells (u8L B).toArray 29)) (.cells [.int .u8 0, .int .u8 0, .int .u32 0, .slice none 0 0].toArray 46)
  have b0' := blk_alloc (blk_alloc b0 (.cells (u8L B).toArray 29)) (.cells [.int .u8 0, .int .u8 0, .int .u32 0, .slice none 0 0].toArray 46)
  have b1' := blk_alloc b1 (.cells [.int .u8 0, .int .u8 0, .int .u32 0, .slice none 0 0].toArray 46)
  have hb : Below w.heap.size w (((w.alloc (.cells (u8L A).toArray 29)).alloc (.cells (u8L B).toArray 29)).alloc (.cells [.int .u8 0, .int .u8 0, .int .u32 0, .slice none 0 0].toArray 46)) := (((Below.refl _ w).alloc (Nat.le_refl _) _).alloc (by simp) _).alloc (by simp <;> omega) _
  rw [hW0] at b0' b1' b2 hb
  have s1 : (w.alloc (.cells (u8L A).toArray 29)).heap.size = w.heap.size + 1 := by simp
  have s2 : ((w.alloc (.cells (u8L A).toArray 29)).alloc (.cells (u8L B).toArray 29)).heap.size = w.heap.size + 1 + 1 := by simp
  rw [s1] at b1'
  rw [s2] at b2
  have LA : Hid _ := agg_load (t := 29) Tryz.isAgg29 Tryz.sizeOf29 (by simp [u8L, hA]) (CellsAt.of_blk b0')
  have LB : Hid _ := agg_load (t := 29) Tryz.isAgg29 Tryz.sizeOf29 (by simp [u8L, hB]) (CellsAt.of_blk b1')
  have hlt0 : w.heap.size + 1 + 1 < W0.heap.size := (Array.getElem?_eq_some_iff.1 b2).1
  have HB : Hid _ := hb
  have B2 : Hid _ := b2
  have HOV : Hid _ := over6_calls A B hA hB fa fb W0
  have HP : Hid (∀ W o, Below W0.heap.size W0 W → OverI W o (ph6I A B) → Calls Tryz.prog 156 #[o, v] W fun e w' => ParI (ph6I A B) zs W e w') := fun W o hW ho => parse_any o _ v zs W ho (h.on (hb.trans (hW.mono hb.size)))
  obtain ⟨av, cv, rfl, _⟩ := h.val
  clear h b0 b1 b2 b0' b1' hb s1 s2 fa fb hA hB
  generalize ph6I A B = ph at *
  generalize u8L A = xA at *
  generalize u8L B = xB at *
  go_enter Tryz.func117, Tryz.ntmps117
  go_wp2_with first
    | ((with_reducible show wpList _ _ _ _ _ _); refine arm_load rfl (.tmp 3) 29 rfl rfl LA.out ?_)
    | ((with_reducible show wpList _ _ _ _ _ _); refine arm_load rfl (.tmp 4) 29 rfl rfl LB.out ?_)
  refine Calls.mono HOV.out ?_
  rintro _ w1 ⟨o1, rfl, ho1, hb1⟩
  have HP1 : Hid _ := HP.out w1 o1 hb1 ho1
  obtain ⟨g1, l1, e1⟩ := ho1.own
  subst e1
  clear HP HOV ho1
  go_wp2_with fail
  refine Calls.mono HP1.out ?_
  rintro _ w2 ⟨c, rfl, hc, hb2⟩
  have hx2 := hb1.trans (hb2.mono hb1.size)
  obtain ⟨w3, hst3, b3, hon3⟩ := box_store Tryz.sizeOf46 (blk_on B2.out hx2) rfl c hc.1.len hc.1.one
  have HST3 : Hid _ := hst3
  have B3 : Hid _ := b3
  have hs1 := hb1.size
  have hs0 := HB.out.size
  have HC : Hid (MsgN w w3 c (pM ph zs)) := (hc.only (by omega) hon3).old (by omega)
  have HCL : Hid _ := hc.1.len
  have HE : Hid (Below w.heap.size w w3) := (HB.out.trans (hx2.mono HB.out.size)).trans (hon3.below (by omega))
  clear hst3 b3 hon3 hc hb2 hx2 HP1 hs1 hs0 LA LB
  generalize hte : pE ph zs = te at *
  have HTE : Hid _ := hte
  clear hte
  go_wp2_with ((with_reducible show wpList _ _ _ _ _ _); refine arm_store rfl (.tmp 6) (.tmp 13) 46 rfl rfl rfl HST3.out ?_)
  exact bodyPost_ret (res2t rfl rfl (agg_loadVar Tryz.isAgg46 Tryz.sizeOf46 HCL.out (CellsAt.of_blk B3.out))) rfl ⟨c, by rw [HTE.out]; rfl, HC.out, HE.out⟩
set_option maxHeartbeats 2000000 in
set_option maxRecDepth 100000 in
theorem Parse4_any (v : Value) (zs : List Int) (w : World) (h : RowC w v zs) :
    Calls Tryz.prog 81 #[v] w fun e w' => ParI phN zs w e w' := by
  obtain ⟨W0, hW0⟩ : ∃ W0, w.alloc (.cells [.int .u8 0, .int .u8 0, .int .u32 0, .slice none 0 0].toArray 46) = W0 := ⟨_, rfl⟩
  have b0 := blk_new w (.cells [.int .u8 0, .int .u8 0, .int .u32 0, .slice none 0 0].toArray 46)
  have hB0 := (Below.refl w.heap.size w).alloc (Nat.le_refl _) (.cells [.int .u8 0, .int .u8 0, .int .u32 0, .slice none 0 0].toArray 46)
  rw [hW0] at b0 hB0
  have hlt0 : w.heap.size < W0.heap.size := (Array.getElem?_eq_some_iff.1 b0).1
  have HP : Hid _ := parse_any _ phN v zs W0 (over4_over W0) (h.on hB0)
  have HB : Hid _ := hB0
  have B0 : Hid _ := b0
  obtain ⟨av, cv, rfl, _⟩ := h.val
  clear h b0 hB0
  generalize phN = ph at *
  go_enter Tryz.func81, Tryz.ntmps81
  go_wp2_with fail
  refine Calls.mono HP.out ?_
  rintro _ w2 ⟨c, rfl, hc, hb2⟩
  obtain ⟨w3, hst3, b3, hon3⟩ := box_store Tryz.sizeOf46 (blk_on B0.out hb2) rfl c hc.1.len hc.1.one
  have HST3 : Hid _ := hst3
  have B3 : Hid _ := b3
  have hs0 := HB.out.size
  have HC : Hid (MsgN w w3 c (pM ph zs)) := (hc.only (by omega) hon3).old (by omega)
  have HCL : Hid _ := hc.1.len
  have HE : Hid (Below w.heap.size w w3) := (HB.out.trans (hb2.mono HB.out.size)).trans (hon3.below (by omega))
  clear hst3 b3 hon3 hc hb2 HP hs0 hlt0
  generalize hte : pE ph zs = te at *
  have HTE : Hid _ := hte
  clear hte
  go_wp2_with ((with_reducible show wpList _ _ _ _ _ _); refine arm_store rfl (.tmp 2) (.tmp 6) 46 rfl rfl rfl HST3.out ?_)
  exact bodyPost_ret (res2t rfl rfl (agg_loadVar Tryz.isAgg46 Tryz.sizeOf46 HCL.out (CellsAt.of_blk B3.out))) rfl ⟨c, by rw [HTE.out]; rfl, HC.out, HE.out⟩
def eqB (xs ys : List Int) : Bool := (strOfNums xs).toList == (strOfNums ys).toList
theorem eqB_self (xs : List Int) : eqB xs xs = true := by simp [eqB]
def sameM (a b : Msg) : Bool := (a.ty == b.ty) && (a.code == b.code) && (a.rest == b.rest) && eqB a.body b.body
theorem sameM_self (a : Msg) : sameM a a = true := by simp [sameM, eqB_self]
end Go.Proofs.YtpgnnplpcalbbaaGreat.Icm
namespace Go.Proofs.YtpgnnplpcalbbaaGreat.Icm
open Go Go.RowKit Go.Shelf
set_option maxHeartbeats 4000000 in
set_option maxRecDepth 100000 in
theorem RSame_calls {c c' : List Value} {a b : Msg} (w : World) (h : MsgC w c a) (h' : MsgC w c' b) :
    Calls Tryz.prog 21 #[.agg c.toArray, .agg c'.toArray] w fun e w' => e = .returned (.bool (sameM a b)) ∧ Below w.heap.size w w' := by
  obtain ⟨⟨sb, hc, hb⟩, _⟩ := h
  obtain ⟨⟨sb', hc', hb'⟩, _⟩ := h'
  have q0 : c[0]? = some (.int .u8 a.ty) := by rw [hc]; rfl
  have p0 : c'[0]? = some (.int .u8 b.ty) := by rw [hc']; rfl
  have q1 : c[1]? = some (.int .u8 a.code) := by rw [hc]; rfl
  have p1 : c'[1]? = some (.int .u8 b.code) := by rw [hc']; rfl
  have q2 : c[2]? = some (.int .u32 a.rest) := by rw [hc]; rfl
  have p2 : c'[2]? = some (.int .u32 b.rest) := by rw [hc']; rfl
  have q3 : c[3]? = some sb := by rw [hc]; rfl
  have p3 : c'[3]? = some sb' := by rw [hc']; rfl
  have hB := ((Below.refl w.heap.size w).alloc (Nat.le_refl _) (.cells c.toArray 46)).alloc (by simp) (.cells c'.toArray 46)
  have t3 := (hb.below hB).text
  have t4 := (hb'.below hB).text
  obtain ⟨ab, kb, rfl, _⟩ := hb.val
  obtain ⟨ab', kb', rfl, _⟩ := hb'.val
  clear hb hb' hc hc'
  unfold sameM eqB
  generalize hx11 : ((strOfNums a.body).toList == (strOfNums b.body).toList) = x11
  generalize hx1 : (a.ty == b.ty) = x1
  generalize hx2 : (a.code == b.code) = x2
  generalize hx3 : (a.rest == b.rest) = x3
  generalize hr : (x1 && x2 && x3 && x11) = r
  have HR : Hid _ := hr
  have HB : Hid _ := hB
  clear hr hB
  go_enter Tryz.func21, Tryz.ntmps21
  go_wp2
  all_goals try (go_ret; refine ⟨congrArg (fun b => Ending.returned (.bool b)) ?_, HB.out⟩; rw [← HR.out]; simp [*]; done)
def k4 (ty code : Int) : Int := if ty = 8 then 1 else if ty = 0 then 2 else if ty = 3 then (if code = 4 then 4 else 3) else if ty = 11 then 5 else if ty = 12 then 6 else 0
def k6 (ty : Int) : Int := if ty = 128 then 1 else if ty = 129 then 2 else if ty = 1 then 3 else if ty = 2 then 4 else if ty = 3 then 5 else if ty = 4 then 6 else 0
set_option maxHeartbeats 4000000 in
set_option maxRecDepth 100000 in
theorem Kind4_calls {c : List Value} {m : Msg} (w : World) (h : MsgC w c m) :
    Calls Tryz.prog 158 #[.agg c.toArray] w fun e w' => e = .returned (.int .i64 (k4 m.ty m.code)) ∧ Below w.heap.size w w' := by
  obtain ⟨⟨sb, hc, hb⟩, _⟩ := h
  have q0 : c[0]? = some (.int .u8 m.ty) := by rw [hc]; rfl
  have q1 : c[1]? = some (.int .u8 m.code) := by rw [hc]; rfl
  have hB := (Below.refl w.heap.size w).alloc (Nat.le_refl _) (.cells c.toArray 46)
  clear hc hb
  generalize m.ty = ty at *
  generalize m.code = code at *
  generalize hr : k4 ty code = r
  have HR : Hid _ := hr
  have HB : Hid _ := hB
  clear hr hB
  go_enter Tryz.func158, Tryz.ntmps158
  go_wp2
  all_goals (go_ret; refine ⟨congrArg (fun b => Ending.returned (.int .i64 b)) ?_, HB.out⟩; have hr := HR.out; unfold k4 at hr; rw [← hr]; simp_all)
set_option maxHeartbeats 4000000 in
set_option maxRecDepth 100000 in
theorem RKind4_calls {c : List Value} {m : Msg} (w : World) (h : MsgC w c m) :
    Calls Tryz.prog 34 #[.agg c.toArray] w fun e w' => e = .returned (.int .i64 (k4 m.ty m.code)) ∧ Below w.heap.size w w' := by
  obtain ⟨⟨sb, hc, hb⟩, _⟩ := h
  have q0 : c[0]? = some (.int .u8 m.ty) := by rw [hc]; rfl
  have q1 : c[1]? = some (.int .u8 m.code) := by rw [hc]; rfl
  have hB := (Below.refl w.heap.size w).alloc (Nat.le_refl _) (.cells c.toArray 46)
  clear hc hb
  generalize m.ty = ty at *
  generalize m.code = code at *
  generalize hr : k4 ty code = r
  have HR : Hid _ := hr
  have HB : Hid _ := hB
  clear hr hB
  go_enter Tryz.func34, Tryz.ntmps34
  go_wp2
  all_goals (go_ret; refine ⟨congrArg (fun b => Ending.returned (.int .i64 b)) ?_, HB.out⟩; have hr := HR.out; unfold k4 at hr; rw [← hr]; simp_all)
set_option maxHeartbeats 4000000 in
set_option maxRecDepth 100000 in
theorem Kind6_calls {c : List Value} {m : Msg} (w : World) (h : MsgC w c m) :
    Calls Tryz.prog 190 #[.agg c.toArray] w fun e w' => e = .returned (.int .i64 (k6 m.ty)) ∧ Below w.heap.size w w' := by
  obtain ⟨⟨sb, hc, hb⟩, _⟩ := h
  have q0 : c[0]? = some (.int .u8 m.ty) := by rw [hc]; rfl
  have q1 : c[1]? = some (.int .u8 m.code) := by rw [hc]; rfl
  have hB := (Below.refl w.heap.size w).alloc (Nat.le_refl _) (.cells c.toArray 46)
  clear hc hb
  generalize m.ty = ty at *
  generalize m.code = code at *
  generalize hr : k6 ty = r
  have HR : Hid _ := hr
  have HB : Hid _ := hB
  clear hr hB
  go_enter Tryz.func190, Tryz.ntmps190
  go_wp2
  all_goals (go_ret; refine ⟨congrArg (fun b => Ending.returned (.int .i64 b)) ?_, HB.out⟩; have hr := HR.out; unfold k6 at hr; rw [← hr]; simp_all)
end Go.Proofs.YtpgnnplpcalbbaaGreat.Icm
namespace Go.Proofs.YtpgnnplpcalbbaaGreat.Icm
open Go Go.RowKit Go.Shelf Go.ChangeShapes Go.WideShapes Go.ChangeAt
def numOf : Value → Int
  | .int _ z => z
  | _ => 0
theorem cells_arr {H : Type} {enc : TypeId × Value → H} {w : World} {base : Nat} {spare : Nat → Bool} {held : Bool} {fuel : Nat} {cs : List Value} {x : DataW H × List MemPlace} {t : TypeId} {N : Nat} (hu : Tryz.prog.underlying t = some (.array N 5)) (ct : Tryz.prog.cellsOf t = N)
    (h : DataW.trod enc Tryz.prog w base spare held fuel t cs = some x) : ∃ A : List Int, A.length = N ∧ cs = u8L A ∧ Fit A := by
  obtain ⟨xs, m, _, _, hl, hx, hi⟩ := DataW.trod_array hu h
  have ce : Tryz.prog.cellsOf 5 = 1 := by kernel_rfl
  rw [ct] at hl
  have each : ∀ i, i < N → ∃ z : Int, cs[i]? = some (.int .u8 z) ∧ 0 ≤ z ∧ z < 256 := by
    intro i hin
    have h1 := hi i hin
    rw [ce, Nat.mul_one, List.getElem?_eq_getElem (by omega)] at h1
    obtain ⟨z, e, _, wf⟩ := DataW.trod_int Tryz.underlying5 h1
    have hb := bounds_u8 wf
    refine ⟨z, ?_, by omega, by omega⟩
    have e2 := congrArg (fun l : List Value => l[0]?) e
    simpa [List.getElem?_take, List.getElem?_drop] using e2
  refine ⟨cs.map numOf, by simp [hl], ?_, ?_⟩
  · apply List.ext_getElem?
    intro i
    by_cases hi' : i < N
    · obtain ⟨z, hz, _⟩ := each i hi'
      simp [u8L, hz, numOf]
    · rw [List.getElem?_eq_none (by omega), List.getElem?_eq_none (by simp [u8L]; omega)]
  · intro z hz
    obtain ⟨v, hv, rfl⟩ := List.mem_map.1 hz
    obtain ⟨i, hi', rfl⟩ := List.getElem_of_mem hv
    obtain ⟨z, hz, hb⟩ := each i (by omega)
    rw [List.getElem?_eq_getElem hi'] at hz
    simp only [Option.some.injEq] at hz
    rw [hz]
    exact hb
theorem open_arr16 {H : Type} {enc : TypeId × Value → H} {W : World} {v : Value} {d : DataW H} {p : List MemPlace} (h : DataW.Trod enc Tryz.prog W 0 (fun _ => true) true 28 v d p) : ∃ A : List Int, v = .agg (u8L A).toArray ∧ A.length = 16 ∧ Fit A := by
  obtain ⟨fuel, hf⟩ := h
  obtain ⟨A, hl, hc, hfit⟩ := cells_arr Tryz.underlying28 (by kernel_rfl) hf
  exact ⟨A, agg_cells hc (by simp [u8L, hl]), hl, hfit⟩
theorem open_row1 {H : Type} {enc : TypeId × Value → H} {W : World} {fuel : Nat} {cs : List Value} {x : DataW H × List MemPlace} (h : DataW.trod enc Tryz.prog W 0 (fun _ => true) true fuel 25 cs = some x) (hz : ∀ k ∈ x.1.weights Tryz.prog 25, k ≤ reachBytes) :
    ∃ v zs, cs = [v] ∧ RowC W v zs := by
  obtain ⟨v, zs, e, hb⟩ := open_bytes1 h hz
  refine ⟨v, zs, e, ?_⟩
  subst e
  rcases open_ints Tryz.underlying25 Tryz.underlying5 (by kernel_rfl) h with ⟨hcs, _⟩ | ⟨x, l, c, zs, hcs, _, hl, hm, hz, _, hcell, hwz⟩
  · simp at hcs
    subst hcs
    exact .of_bytes hb (Nat.le_refl _)
  · simp at hcs
    subst hcs
    exact .of_bytes hb (by omega)
theorem split_msg {l : List Value} (h : l.length = 4) : l = (l.drop 0).take 1 ++ ((l.drop 1).take 1 ++ ((l.drop 2).take 1 ++ ((l.drop 3).take 1))) := by
  match l, h with
  | [_, _, _, _], _ => rfl
theorem list_msg {α : Type} {l : List α} (h : l.length = 4) : ∃ x0 x1 x2 x3, l = [x0, x1, x2, x3] := by
  match l, h with
  | [x0, x1, x2, x3], _ => exact ⟨x0, x1, x2, x3, rfl⟩
/-- A message as an argument: its cells, and that its body is a row. -/
def MsgA (W : World) (c : List Value) (m : Msg) : Prop := ∃ vb, c = [.int .u8 m.ty, .int .u8 m.code, .int .u32 m.rest, vb] ∧ RowC W vb m.body ∧ (0 ≤ m.ty ∧ m.ty ≤ 255) ∧ (0 ≤ m.code ∧ m.code ≤ 255) ∧ (0 ≤ m.rest ∧ m.rest ≤ 4294967295)
set_option maxRecDepth 100000 in
theorem open_msg {H : Type} {enc : TypeId × Value → H} {W : World} {v : Value} {d : DataW H} {p : List MemPlace} (h : DataW.Trod enc Tryz.prog W 0 (fun _ => true) true 46 v d p) (hz : ∀ k ∈ d.weights Tryz.prog 46, k ≤ reachBytes) :
    ∃ c m, v = .agg c.toArray ∧ MsgA W c m := by
  obtain ⟨fuel, hf⟩ := h
  obtain ⟨xs, m, _, hx, hl, hxl, hi⟩ := DataW.trod_struct Tryz.underlying46 hf
  have cT : Tryz.prog.cellsOf 46 = 4 := by kernel_rfl
  rw [cT] at hl
  obtain ⟨x0, x1, x2, x3, rfl⟩ := list_msg hxl
  have g0 : DataW.trod enc Tryz.prog W 0 (fun _ => true) true m 5 ((v.cells.toList.drop 0).take 1) = some x0 := by
    have e : DataW.trod enc Tryz.prog W 0 (fun _ => true) true m 5 ((v.cells.toList.drop 0).take (Tryz.prog.cellsOf 5)) = some x0 := hi 0 _ rfl
    rwa [show Tryz.prog.cellsOf 5 = 1 by kernel_rfl] at e
  have g1 : DataW.trod enc Tryz.prog W 0 (fun _ => true) true m 5 ((v.cells.toList.drop 1).take 1) = some x1 := by
    have e : DataW.trod enc Tryz.prog W 0 (fun _ => true) true m 5 ((v.cells.toList.drop 1).take (Tryz.prog.cellsOf 5)) = some x1 := hi 1 _ rfl
    rwa [show Tryz.prog.cellsOf 5 = 1 by kernel_rfl] at e
  have g2 : DataW.trod enc Tryz.prog W 0 (fun _ => true) true m 33 ((v.cells.toList.drop 2).take 1) = some x2 := by
    have e : DataW.trod enc Tryz.prog W 0 (fun _ => true) true m 33 ((v.cells.toList.drop 2).take (Tryz.prog.cellsOf 33)) = some x2 := hi 2 _ rfl
    rwa [show Tryz.prog.cellsOf 33 = 1 by kernel_rfl] at e
  have g3 : DataW.trod enc Tryz.prog W 0 (fun _ => true) true m 25 ((v.cells.toList.drop 3).take 1) = some x3 := by
    have e : DataW.trod enc Tryz.prog W 0 (fun _ => true) true m 25 ((v.cells.toList.drop 3).take (Tryz.prog.cellsOf 25)) = some x3 := hi 3 _ rfl
    rwa [show Tryz.prog.cellsOf 25 = 1 by kernel_rfl] at e
  obtain ⟨rfl, rfl⟩ := Prod.mk.inj hx
  have w3 : ∀ k ∈ x3.1.weights Tryz.prog 25, k ≤ reachBytes := fun k hk => hz k (by
    simp only [DataW.weights, Tryz.underlying46]
    exact DataW.weights_mem_each (j := 3) rfl rfl k hk)
  obtain ⟨n0, e0, _, f0⟩ := DataW.trod_int Tryz.underlying5 g0
  have q0 := bounds_u8 f0
  obtain ⟨n1, e1, _, f1⟩ := DataW.trod_int Tryz.underlying5 g1
  have q1 := bounds_u8 f1
  obtain ⟨n2, e2, _, f2⟩ := DataW.trod_int Tryz.underlying33 g2
  have q2 := bounds_u32 f2
  obtain ⟨s3, z3, e3, b3⟩ := open_row1 g3 w3
  have hall := split_msg hl
  rw [e0, e1, e2, e3] at hall
  have hv := agg_cells hall (by simp)
  exact ⟨_, ⟨n0, n1, n2, z3⟩, hv, s3, rfl, b3, by omega, by omega, by omega⟩
theorem _root_.Go.Proofs.YtpgnnplpcalbbaaGreat.OB.bytes {base : Nat} {w wx : World} {v : Value} {zs : List Int} (h : OB base w wx v zs) (hf : Fit zs) (hl : zs.length ≤ 140737488351232) : BytesAt wx.heap.size wx v zs := own_bytes h.own hf hl
theorem _root_.Go.Proofs.YtpgnnplpcalbbaaGreat.OB.rowC {base : Nat} {w wx : World} {v : Value} {zs : List Int} (h : OB base w wx v zs) (hf : Fit zs) (hl : zs.length ≤ 140737488351232) : RowC wx v zs := by
  have hb := h.bytes hf hl
  by_cases h0 : zs.length = 0
  · obtain ⟨a, cap, e, _⟩ := hb.val
    subst e
    exact .of_bytes hb (by omega)
  · obtain ⟨g, cap, e, hc, _⟩ := own_G h.own (by omega)
    subst e
    exact .of_bytes hb hc
theorem known_echo : icB phN ⟨8, 0, 65538, []⟩ = [8, 0, 247, 252, 0, 1, 0, 2] := by decide +kernel
theorem known_pE : pE phN [8, 0, 247, 252, 0, 1, 0, 2] = 0 := by decide +kernel
theorem known_pM : pM phN [8, 0, 247, 252, 0, 1, 0, 2] = ⟨8, 0, 65538, []⟩ := by
  unfold pM
  rw [if_pos known_pE]
  rfl
end Go.Proofs.YtpgnnplpcalbbaaGreat.Icm
