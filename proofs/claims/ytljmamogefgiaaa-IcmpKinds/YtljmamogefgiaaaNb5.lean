/-
  alive; messages and addresses as arguments.
-/
import Derived.Test.YtljmamogefgiaaaNb4
namespace Go.Proofs.Ytljmamogefgiaaa
open Go Go.RowKit Go.Shelf Go.ChangeShapes Go.WideShapes Go.ChangeAt
set_option linter.unusedVariables false
set_option linter.unusedSimpArgs false

def numOf : Value → Int
  | .int _ z => z
  | _ => 0
theorem cells_arr {H : Type} {enc : TypeId × Value → H} {w : World} {base : Nat} {spare : Nat → Bool} {held : Bool} {fuel : Nat} {cs : List Value} {x : DataW H × List MemPlace} {t : TypeId} {N : Nat} (hu : Try.prog.underlying t = some (.array N 5)) (ct : Try.prog.cellsOf t = N)
    (h : DataW.trod enc Try.prog w base spare held fuel t cs = some x) : ∃ A : List Int, A.length = N ∧ cs = u8L A ∧ Fit A := by
  obtain ⟨xs, m, _, _, hl, hx, hi⟩ := DataW.trod_array hu h
  have ce : Try.prog.cellsOf 5 = 1 := by kernel_rfl
  rw [ct] at hl
  have each : ∀ i, i < N → ∃ z : Int, cs[i]? = some (.int .u8 z) ∧ 0 ≤ z ∧ z < 256 := by
    intro i hin
    have h1 := hi i hin
    rw [ce, Nat.mul_one, List.getElem?_eq_getElem (by omega)] at h1
    obtain ⟨z, e, _, wf⟩ := DataW.trod_int Try.underlying5 h1
    have hb := bounds_u8 wf
    refine ⟨z, ?_, by omega, by omega⟩
    have e2 := congrArg (fun l : List Value => l[0]?) e
    simpa [List.getElem?_take, List.getElem?_drop] using e2
  refine ⟨cs.map numOf, by simp [hl], ?_, ?_⟩
  · apply List.ext_getElem?
    intro i
    by_cases hi' : i < N
    · obtain ⟨z, hz, _⟩ := each i hi'
      simp [u8L, hz, numOf]
    · rw [List.getElem?_eq_none (by omega), List.getElem?_eq_none (by simp [u8L]; omega)]
  · intro z hz
    obtain ⟨v, hv, rfl⟩ := List.mem_map.1 hz
    obtain ⟨i, hi', rfl⟩ := List.getElem_of_mem hv
    obtain ⟨z, hz, hb⟩ := each i (by omega)
    rw [List.getElem?_eq_getElem hi'] at hz
    simp only [Option.some.injEq] at hz
    rw [hz]
    exact hb
theorem open_arr16 {H : Type} {enc : TypeId × Value → H} {W : World} {v : Value} {d : DataW H} {p : List MemPlace} (h : DataW.Trod enc Try.prog W 0 (fun _ => true) true 22 v d p) : ∃ A : List Int, v = .agg (u8L A).toArray ∧ A.length = 16 ∧ Fit A := by
  obtain ⟨fuel, hf⟩ := h
  obtain ⟨A, hl, hc, hfit⟩ := cells_arr Try.underlying22 (by kernel_rfl) hf
  exact ⟨A, agg_cells hc (by simp [u8L, hl]), hl, hfit⟩
theorem open_row1 {H : Type} {enc : TypeId × Value → H} {W : World} {fuel : Nat} {cs : List Value} {x : DataW H × List MemPlace} (h : DataW.trod enc Try.prog W 0 (fun _ => true) true fuel 24 cs = some x) (hz : ∀ k ∈ x.1.weights Try.prog 24, k ≤ reachBytes) :
    ∃ v zs, cs = [v] ∧ RowC W v zs := by
  obtain ⟨v, zs, e, hb⟩ := open_bytes1 h hz
  refine ⟨v, zs, e, ?_⟩
  subst e
  rcases open_ints Try.underlying24 Try.underlying5 (by kernel_rfl) h with ⟨hcs, _⟩ | ⟨x, l, c, zs, hcs, _, hl, hm, hz, _, hcell, hwz⟩
  · simp at hcs
    subst hcs
    exact .of_bytes hb (Nat.le_refl _)
  · simp at hcs
    subst hcs
    exact .of_bytes hb (by omega)
theorem split_msg {l : List Value} (h : l.length = 4) : l = (l.drop 0).take 1 ++ ((l.drop 1).take 1 ++ ((l.drop 2).take 1 ++ ((l.drop 3).take 1))) := by
  match l, h with
  | [_, _, _, _], _ => rfl
theorem list_msg {α : Type} {l : List α} (h : l.length = 4) : ∃ x0 x1 x2 x3, l = [x0, x1, x2, x3] := by
  match l, h with
  | [x0, x1, x2, x3], _ => exact ⟨x0, x1, x2, x3, rfl⟩
/-- A message as an argument: its cells, and that its body is a row. -/
def MsgA (W : World) (c : List Value) (m : Msg) : Prop := ∃ vb, c = [.int .u8 m.ty, .int .u8 m.code, .int .u32 m.rest, vb] ∧ RowC W vb m.body ∧ (0 ≤ m.ty ∧ m.ty ≤ 255) ∧ (0 ≤ m.code ∧ m.code ≤ 255) ∧ (0 ≤ m.rest ∧ m.rest ≤ 4294967295)
set_option maxRecDepth 100000 in
theorem open_msg {H : Type} {enc : TypeId × Value → H} {W : World} {v : Value} {d : DataW H} {p : List MemPlace} (h : DataW.Trod enc Try.prog W 0 (fun _ => true) true 26 v d p) (hz : ∀ k ∈ d.weights Try.prog 26, k ≤ reachBytes) :
    ∃ c m, v = .agg c.toArray ∧ MsgA W c m := by
  obtain ⟨fuel, hf⟩ := h
  obtain ⟨xs, m, _, hx, hl, hxl, hi⟩ := DataW.trod_struct Try.underlying26 hf
  have cT : Try.prog.cellsOf 26 = 4 := by kernel_rfl
  rw [cT] at hl
  obtain ⟨x0, x1, x2, x3, rfl⟩ := list_msg hxl
  have g0 : DataW.trod enc Try.prog W 0 (fun _ => true) true m 5 ((v.cells.toList.drop 0).take 1) = some x0 := by
    have e : DataW.trod enc Try.prog W 0 (fun _ => true) true m 5 ((v.cells.toList.drop 0).take (Try.prog.cellsOf 5)) = some x0 := hi 0 _ rfl
    rwa [show Try.prog.cellsOf 5 = 1 by kernel_rfl] at e
  have g1 : DataW.trod enc Try.prog W 0 (fun _ => true) true m 5 ((v.cells.toList.drop 1).take 1) = some x1 := by
    have e : DataW.trod enc Try.prog W 0 (fun _ => true) true m 5 ((v.cells.toList.drop 1).take (Try.prog.cellsOf 5)) = some x1 := hi 1 _ rfl
    rwa [show Try.prog.cellsOf 5 = 1 by kernel_rfl] at e
  have g2 : DataW.trod enc Try.prog W 0 (fun _ => true) true m 23 ((v.cells.toList.drop 2).take 1) = some x2 := by
    have e : DataW.trod enc Try.prog W 0 (fun _ => true) true m 23 ((v.cells.toList.drop 2).take (Try.prog.cellsOf 23)) = some x2 := hi 2 _ rfl
    rwa [show Try.prog.cellsOf 23 = 1 by kernel_rfl] at e
  have g3 : DataW.trod enc Try.prog W 0 (fun _ => true) true m 24 ((v.cells.toList.drop 3).take 1) = some x3 := by
    have e : DataW.trod enc Try.prog W 0 (fun _ => true) true m 24 ((v.cells.toList.drop 3).take (Try.prog.cellsOf 24)) = some x3 := hi 3 _ rfl
    rwa [show Try.prog.cellsOf 24 = 1 by kernel_rfl] at e
  obtain ⟨rfl, rfl⟩ := Prod.mk.inj hx
  have w3 : ∀ k ∈ x3.1.weights Try.prog 24, k ≤ reachBytes := fun k hk => hz k (by
    simp only [DataW.weights, Try.underlying26]
    exact DataW.weights_mem_each (j := 3) rfl rfl k hk)
  obtain ⟨n0, e0, _, f0⟩ := DataW.trod_int Try.underlying5 g0
  have q0 := bounds_u8 f0
  obtain ⟨n1, e1, _, f1⟩ := DataW.trod_int Try.underlying5 g1
  have q1 := bounds_u8 f1
  obtain ⟨n2, e2, _, f2⟩ := DataW.trod_int Try.underlying23 g2
  have q2 := bounds_u32 f2
  obtain ⟨s3, z3, e3, b3⟩ := open_row1 g3 w3
  have hall := split_msg hl
  rw [e0, e1, e2, e3] at hall
  have hv := agg_cells hall (by simp)
  exact ⟨_, ⟨n0, n1, n2, z3⟩, hv, s3, rfl, b3, by omega, by omega, by omega⟩

theorem OB.bytes {base : Nat} {w wx : World} {v : Value} {zs : List Int} (h : OB base w wx v zs) (hf : Fit zs) (hl : zs.length ≤ 140737488351232) : BytesAt wx.heap.size wx v zs := own_bytes h.own hf hl
theorem OB.rowC {base : Nat} {w wx : World} {v : Value} {zs : List Int} (h : OB base w wx v zs) (hf : Fit zs) (hl : zs.length ≤ 140737488351232) : RowC wx v zs := by
  have hb := h.bytes hf hl
  by_cases h0 : zs.length = 0
  · obtain ⟨a, cap, e, _⟩ := hb.val
    subst e
    exact .of_bytes hb (by omega)
  · obtain ⟨g, cap, e, hc, _⟩ := own_G h.own (by omega)
    subst e
    exact .of_bytes hb hc
theorem known_echo : icB phN ⟨8, 0, 65538, []⟩ = [8, 0, 247, 252, 0, 1, 0, 2] := by decide +kernel
theorem known_pE : pE phN [8, 0, 247, 252, 0, 1, 0, 2] = 0 := by decide +kernel
theorem known_pM : pM phN [8, 0, 247, 252, 0, 1, 0, 2] = ⟨8, 0, 65538, []⟩ := by
  unfold pM
  rw [if_pos known_pE]
  rfl
set_option maxHeartbeats 2000000 in
set_option maxRecDepth 100000 in
theorem alive_calls (w : World) : Calls Try.prog 14 #[] w fun e w' => e = .returned (.bool true) ∧ Below w.heap.size w w' := by
  have hu : MsgC w [.int .u8 8, .int .u8 0, .int .u32 65538, .slice none 0 0] ⟨8, 0, 65538, []⟩ := ⟨⟨_, rfl, BytesAt.none w⟩, by decide, by decide, by decide⟩
  have hw := Write4_any _ _ w hu
  rw [known_echo] at hw
  have HW : Hid _ := hw
  clear hw hu
  go_enter Try.func14, Try.ntmps14
  go_wp2_with fail
  refine Calls.mono HW.out ?_
  rintro _ w1 ⟨v, rfl, hO⟩
  have hrow := hO.rowC (fit_of _ rfl) (by simp)
  have hp := Parse4_any v _ w1 hrow
  have HO : Hid _ := hO
  have HP : Hid _ := hp
  have HRW : Hid _ := hrow
  obtain ⟨av, kv, rfl, _⟩ := hrow.val
  have hE0 : icE ⟨8, 0, 65538, []⟩ = 0 := rfl
  rw [hE0]
  clear hO hp hrow HW hE0
  go_wp2_with fail
  refine Calls.mono HP.out ?_
  rintro _ w2 ⟨c, rfl, hc, hb2⟩
  rw [known_pE]
  rw [known_pM] at hc
  obtain ⟨w3, hst3, b3, hb3⟩ := box_new Try.sizeOf26 w2 [.int .u8 0, .int .u8 0, .int .u32 0, .slice none 0 0] rfl c hc.1.len hc.1.one
  have hb13 := hb2.trans (hb3.mono hb2.size)
  have t1 := (HRW.out.on hb13).bytes.text
  have hc3 := hc.1.on hb3
  obtain ⟨⟨sb, hcc, _⟩, _⟩ := id hc3
  have q2 : c[2]? = some (.int .u32 65538) := by rw [hcc]; rfl
  have k2 := blk_cell (j := 2) b3 q2
  have L3 : Hid (∀ W, Below w3.heap.size w3 W → (Instr.loadAt 26 (.pointer (some ⟨w2.heap.size, 0, none⟩))).run Try.prog W = .ok (.agg c.toArray) W) := fun W hW => agg_load Try.isAgg26 Try.sizeOf26 hc.1.len (CellsAt.of_blk (blk_on b3 hW))
  have HK : Hid _ := Kind4_calls w3 hc3
  have HI : Hid (∀ W, Below w3.heap.size w3 W → Calls Try.prog 25 #[.agg c.toArray] W fun e w' => e = .returned (.int .u16 1) ∧ Below W.heap.size W w') := fun W hW => Ident_calls W (hc3.on hW)
  have HST : Hid _ := hst3
  have HX : Hid (Below w.heap.size w w3) := HO.out.bel.trans (hb13.mono HO.out.bel.size)
  have hx0 : strOfNums [8, 0, 247, 252, 0, 1, 0, 2] = (⟨#[8, 0, 247, 252, 0, 1, 0, 2]⟩ : ByteArray) := by decide +kernel
  rw [hx0] at t1
  have hk : k4 8 0 = 1 := rfl
  clear hst3 b3 hb13 hc3 hc hb2 hb3 hcc q2 HO HP HRW hx0
  simp only [List.length_cons, List.length_nil, Nat.reduceAdd] at t1
  go_wp2_with first
    | ((with_reducible show wpList _ _ _ _ _ _); refine arm_store rfl (.tmp 3) (.tmp 13) 26 rfl rfl rfl HST.out ?_)
    | ((with_reducible show wpList _ _ _ _ _ _); refine arm_load rfl (.tmp 3) 26 rfl rfl (L3.out _ (Below.refl _ _)) ?_)
  refine Calls.mono HK.out ?_
  rintro _ w4 ⟨rfl, hb4⟩
  rw [hk]
  have HI4 : Hid _ := HI.out w4 hb4
  have L4 : Hid _ := L3.out w4 hb4
  have HX4 : Hid _ := HX.out.trans (hb4.mono HX.out.size)
  clear hb4 HK
  go_wp2_with first
    | ((with_reducible show wpList _ _ _ _ _ _); refine arm_load rfl (.tmp 3) 26 rfl rfl L4.out ?_)
  refine Calls.mono HI4.out ?_
  rintro _ w5 ⟨rfl, hb5⟩
  have HX5 : Hid _ := HX4.out.trans (hb5.mono HX4.out.size)
  clear hb5
  go_wp2
  go_ret
  exact ⟨rfl, HX5.out⟩

end Go.Proofs.Ytljmamogefgiaaa
