/-
  Same, Kind4, Kind6 and Ident of package icmp and of the document; cut.
  alive; messages and addresses as arguments.
  What is written is parsed as the same: the bytes.
  Addresses and a message in their boxes, the message's body cut.
-/
import Derived.Test.YtnjkagopmfenkaaGreatFold21
namespace Go.Proofs.YtnjkagopmfenkaaGreat.Icm
open Go Go.RowKit Go.Shelf
set_option linter.unusedVariables false
set_option linter.unusedSimpArgs false

set_option maxHeartbeats 4000000 in
set_option maxRecDepth 100000 in
theorem RSame_calls {c c' : List Value} {a b : Msg} (w : World) (h : MsgC w c a) (h' : MsgC w c' b) :
    Calls Tryz.prog 16 #[.agg c.toArray, .agg c'.toArray] w fun e w' => e = .returned (.bool (sameM a b)) ∧ Below w.heap.size w w' := by
  obtain ⟨⟨sb, hc, hb⟩, _⟩ := h
  obtain ⟨⟨sb', hc', hb'⟩, _⟩ := h'
  have q0 : c[0]? = some (.int .u8 a.ty) := by rw [hc]; rfl
  have p0 : c'[0]? = some (.int .u8 b.ty) := by rw [hc']; rfl
  have q1 : c[1]? = some (.int .u8 a.code) := by rw [hc]; rfl
  have p1 : c'[1]? = some (.int .u8 b.code) := by rw [hc']; rfl
  have q2 : c[2]? = some (.int .u32 a.rest) := by rw [hc]; rfl
  have p2 : c'[2]? = some (.int .u32 b.rest) := by rw [hc']; rfl
  have q3 : c[3]? = some sb := by rw [hc]; rfl
  have p3 : c'[3]? = some sb' := by rw [hc']; rfl
  have hB := ((Below.refl w.heap.size w).alloc (Nat.le_refl _) (.cells c.toArray 46)).alloc (by simp) (.cells c'.toArray 46)
  have t3 := (hb.below hB).text
  have t4 := (hb'.below hB).text
  obtain ⟨ab, kb, rfl, _⟩ := hb.val
  obtain ⟨ab', kb', rfl, _⟩ := hb'.val
  clear hb hb' hc hc'
  unfold sameM eqB
  generalize hx11 : ((strOfNums a.body).toList == (strOfNums b.body).toList) = x11
  generalize hx1 : (a.ty == b.ty) = x1
  generalize hx2 : (a.code == b.code) = x2
  generalize hx3 : (a.rest == b.rest) = x3
  generalize hr : (x1 && x2 && x3 && x11) = r
  have HR : Hid _ := hr
  have HB : Hid _ := hB
  clear hr hB
  go_enter Tryz.func16, Tryz.ntmps16
  go_wp2
  all_goals try (go_ret; refine ⟨congrArg (fun b => Ending.returned (.bool b)) ?_, HB.out⟩; rw [← HR.out]; simp [*]; done)
def k4 (ty code : Int) : Int := if ty = 8 then 1 else if ty = 0 then 2 else if ty = 3 then (if code = 4 then 4 else 3) else if ty = 11 then 5 else if ty = 12 then 6 else 0
def k6 (ty : Int) : Int := if ty = 128 then 1 else if ty = 129 then 2 else if ty = 1 then 3 else if ty = 2 then 4 else if ty = 3 then 5 else if ty = 4 then 6 else 0

set_option maxHeartbeats 4000000 in
set_option maxRecDepth 100000 in
theorem Kind4_calls {c : List Value} {m : Msg} (w : World) (h : MsgC w c m) :
    Calls Tryz.prog 104 #[.agg c.toArray] w fun e w' => e = .returned (.int .i64 (k4 m.ty m.code)) ∧ Below w.heap.size w w' := by
  obtain ⟨⟨sb, hc, hb⟩, _⟩ := h
  have q0 : c[0]? = some (.int .u8 m.ty) := by rw [hc]; rfl
  have q1 : c[1]? = some (.int .u8 m.code) := by rw [hc]; rfl
  have hB := (Below.refl w.heap.size w).alloc (Nat.le_refl _) (.cells c.toArray 46)
  clear hc hb
  generalize m.ty = ty at *
  generalize m.code = code at *
  generalize hr : k4 ty code = r
  have HR : Hid _ := hr
  have HB : Hid _ := hB
  clear hr hB
  go_enter Tryz.func104, Tryz.ntmps104
  go_wp2
  all_goals (go_ret; refine ⟨congrArg (fun b => Ending.returned (.int .i64 b)) ?_, HB.out⟩; have hr := HR.out; unfold k4 at hr; rw [← hr]; simp_all)
set_option maxHeartbeats 4000000 in
set_option maxRecDepth 100000 in
theorem RKind4_calls {c : List Value} {m : Msg} (w : World) (h : MsgC w c m) :
    Calls Tryz.prog 29 #[.agg c.toArray] w fun e w' => e = .returned (.int .i64 (k4 m.ty m.code)) ∧ Below w.heap.size w w' := by
  obtain ⟨⟨sb, hc, hb⟩, _⟩ := h
  have q0 : c[0]? = some (.int .u8 m.ty) := by rw [hc]; rfl
  have q1 : c[1]? = some (.int .u8 m.code) := by rw [hc]; rfl
  have hB := (Below.refl w.heap.size w).alloc (Nat.le_refl _) (.cells c.toArray 46)
  clear hc hb
  generalize m.ty = ty at *
  generalize m.code = code at *
  generalize hr : k4 ty code = r
  have HR : Hid _ := hr
  have HB : Hid _ := hB
  clear hr hB
  go_enter Tryz.func29, Tryz.ntmps29
  go_wp2
  all_goals (go_ret; refine ⟨congrArg (fun b => Ending.returned (.int .i64 b)) ?_, HB.out⟩; have hr := HR.out; unfold k4 at hr; rw [← hr]; simp_all)
end Go.Proofs.YtnjkagopmfenkaaGreat.Icm

namespace Go.Proofs.YtnjkagopmfenkaaGreat.Icm
open Go Go.RowKit Go.Shelf Go.ChangeShapes Go.WideShapes Go.ChangeAt
set_option linter.unusedVariables false
set_option linter.unusedSimpArgs false

def numOf : Value → Int
  | .int _ z => z
  | _ => 0
theorem cells_arr {H : Type} {enc : TypeId × Value → H} {w : World} {base : Nat} {spare : Nat → Bool} {held : Bool} {fuel : Nat} {cs : List Value} {x : DataW H × List MemPlace} {t : TypeId} {N : Nat} (hu : Tryz.prog.underlying t = some (.array N 5)) (ct : Tryz.prog.cellsOf t = N)
    (h : DataW.trod enc Tryz.prog w base spare held fuel t cs = some x) : ∃ A : List Int, A.length = N ∧ cs = u8L A ∧ Fit A := by
  obtain ⟨xs, m, _, _, hl, hx, hi⟩ := DataW.trod_array hu h
  have ce : Tryz.prog.cellsOf 5 = 1 := by kernel_rfl
  rw [ct] at hl
  have each : ∀ i, i < N → ∃ z : Int, cs[i]? = some (.int .u8 z) ∧ 0 ≤ z ∧ z < 256 := by
    intro i hin
    have h1 := hi i hin
    rw [ce, Nat.mul_one, List.getElem?_eq_getElem (by omega)] at h1
    obtain ⟨z, e, _, wf⟩ := DataW.trod_int Tryz.underlying5 h1
    have hb := bounds_u8 wf
    refine ⟨z, ?_, by omega, by omega⟩
    have e2 := congrArg (fun l : List Value => l[0]?) e
    simpa [List.getElem?_take, List.getElem?_drop] using e2
  refine ⟨cs.map numOf, by simp [hl], ?_, ?_⟩
  · apply List.ext_getElem?
    intro i
    by_cases hi' : i < N
    · obtain ⟨z, hz, _⟩ := each i hi'
      simp [u8L, hz, numOf]
    · rw [List.getElem?_eq_none (by omega), List.getElem?_eq_none (by simp [u8L]; omega)]
  · intro z hz
    obtain ⟨v, hv, rfl⟩ := List.mem_map.1 hz
    obtain ⟨i, hi', rfl⟩ := List.getElem_of_mem hv
    obtain ⟨z, hz, hb⟩ := each i (by omega)
    rw [List.getElem?_eq_getElem hi'] at hz
    simp only [Option.some.injEq] at hz
    rw [hz]
    exact hb
theorem open_arr16 {H : Type} {enc : TypeId × Value → H} {W : World} {v : Value} {d : DataW H} {p : List MemPlace} (h : DataW.Trod enc Tryz.prog W 0 (fun _ => true) true 28 v d p) : ∃ A : List Int, v = .agg (u8L A).toArray ∧ A.length = 16 ∧ Fit A := by
  obtain ⟨fuel, hf⟩ := h
  obtain ⟨A, hl, hc, hfit⟩ := cells_arr Tryz.underlying28 (by kernel_rfl) hf
  exact ⟨A, agg_cells hc (by simp [u8L, hl]), hl, hfit⟩
theorem open_row1 {H : Type} {enc : TypeId × Value → H} {W : World} {fuel : Nat} {cs : List Value} {x : DataW H × List MemPlace} (h : DataW.trod enc Tryz.prog W 0 (fun _ => true) true fuel 25 cs = some x) (hz : ∀ k ∈ x.1.weights Tryz.prog 25, k ≤ reachBytes) :
    ∃ v zs, cs = [v] ∧ RowC W v zs := by
  obtain ⟨v, zs, e, hb⟩ := open_bytes1 h hz
  refine ⟨v, zs, e, ?_⟩
  subst e
  rcases open_ints Tryz.underlying25 Tryz.underlying5 (by kernel_rfl) h with ⟨hcs, _⟩ | ⟨x, l, c, zs, hcs, _, hl, hm, hz, _, hcell, hwz⟩
  · simp at hcs
    subst hcs
    exact .of_bytes hb (Nat.le_refl _)
  · simp at hcs
    subst hcs
    exact .of_bytes hb (by omega)
theorem split_msg {l : List Value} (h : l.length = 4) : l = (l.drop 0).take 1 ++ ((l.drop 1).take 1 ++ ((l.drop 2).take 1 ++ ((l.drop 3).take 1))) := by
  match l, h with
  | [_, _, _, _], _ => rfl
theorem list_msg {α : Type} {l : List α} (h : l.length = 4) : ∃ x0 x1 x2 x3, l = [x0, x1, x2, x3] := by
  match l, h with
  | [x0, x1, x2, x3], _ => exact ⟨x0, x1, x2, x3, rfl⟩
/-- A message as an argument: its cells, and that its body is a row. -/
def MsgA (W : World) (c : List Value) (m : Msg) : Prop := ∃ vb, c = [.int .u8 m.ty, .int .u8 m.code, .int .u32 m.rest, vb] ∧ RowC W vb m.body ∧ (0 ≤ m.ty ∧ m.ty ≤ 255) ∧ (0 ≤ m.code ∧ m.code ≤ 255) ∧ (0 ≤ m.rest ∧ m.rest ≤ 4294967295)
set_option maxRecDepth 100000 in
theorem open_msg {H : Type} {enc : TypeId × Value → H} {W : World} {v : Value} {d : DataW H} {p : List MemPlace} (h : DataW.Trod enc Tryz.prog W 0 (fun _ => true) true 46 v d p) (hz : ∀ k ∈ d.weights Tryz.prog 46, k ≤ reachBytes) :
    ∃ c m, v = .agg c.toArray ∧ MsgA W c m := by
  obtain ⟨fuel, hf⟩ := h
  obtain ⟨xs, m, _, hx, hl, hxl, hi⟩ := DataW.trod_struct Tryz.underlying46 hf
  have cT : Tryz.prog.cellsOf 46 = 4 := by kernel_rfl
  rw [cT] at hl
  obtain ⟨x0, x1, x2, x3, rfl⟩ := list_msg hxl
  have g0 : DataW.trod enc Tryz.prog W 0 (fun _ => true) true m 5 ((v.cells.toList.drop 0).take 1) = some x0 := by
    have e : DataW.trod enc Tryz.prog W 0 (fun _ => true) true m 5 ((v.cells.toList.drop 0).take (Tryz.prog.cellsOf 5)) = some x0 := hi 0 _ rfl
    rwa [show Tryz.prog.cellsOf 5 = 1 by kernel_rfl] at e
  have g1 : DataW.trod enc Tryz.prog W 0 (fun _ => true) true m 5 ((v.cells.toList.drop 1).take 1) = some x1 := by
    have e : DataW.trod enc Tryz.prog W 0 (fun _ => true) true m 5 ((v.cells.toList.drop 1).take (Tryz.prog.cellsOf 5)) = some x1 := hi 1 _ rfl
    rwa [show Tryz.prog.cellsOf 5 = 1 by kernel_rfl] at e
  have g2 : DataW.trod enc Tryz.prog W 0 (fun _ => true) true m 33 ((v.cells.toList.drop 2).take 1) = some x2 := by
    have e : DataW.trod enc Tryz.prog W 0 (fun _ => true) true m 33 ((v.cells.toList.drop 2).take (Tryz.prog.cellsOf 33)) = some x2 := hi 2 _ rfl
    rwa [show Tryz.prog.cellsOf 33 = 1 by kernel_rfl] at e
  have g3 : DataW.trod enc Tryz.prog W 0 (fun _ => true) true m 25 ((v.cells.toList.drop 3).take 1) = some x3 := by
    have e : DataW.trod enc Tryz.prog W 0 (fun _ => true) true m 25 ((v.cells.toList.drop 3).take (Tryz.prog.cellsOf 25)) = some x3 := hi 3 _ rfl
    rwa [show Tryz.prog.cellsOf 25 = 1 by kernel_rfl] at e
  obtain ⟨rfl, rfl⟩ := Prod.mk.inj hx
  have w3 : ∀ k ∈ x3.1.weights Tryz.prog 25, k ≤ reachBytes := fun k hk => hz k (by
    simp only [DataW.weights, Tryz.underlying46]
    exact DataW.weights_mem_each (j := 3) rfl rfl k hk)
  obtain ⟨n0, e0, _, f0⟩ := DataW.trod_int Tryz.underlying5 g0
  have q0 := bounds_u8 f0
  obtain ⟨n1, e1, _, f1⟩ := DataW.trod_int Tryz.underlying5 g1
  have q1 := bounds_u8 f1
  obtain ⟨n2, e2, _, f2⟩ := DataW.trod_int Tryz.underlying33 g2
  have q2 := bounds_u32 f2
  obtain ⟨s3, z3, e3, b3⟩ := open_row1 g3 w3
  have hall := split_msg hl
  rw [e0, e1, e2, e3] at hall
  have hv := agg_cells hall (by simp)
  exact ⟨_, ⟨n0, n1, n2, z3⟩, hv, s3, rfl, b3, by omega, by omega, by omega⟩

theorem _root_.Go.Proofs.YtnjkagopmfenkaaGreat.OB.bytes {base : Nat} {w wx : World} {v : Value} {zs : List Int} (h : OB base w wx v zs) (hf : Fit zs) (hl : zs.length ≤ 140737488351232) : BytesAt wx.heap.size wx v zs := own_bytes h.own hf hl
theorem _root_.Go.Proofs.YtnjkagopmfenkaaGreat.OB.rowC {base : Nat} {w wx : World} {v : Value} {zs : List Int} (h : OB base w wx v zs) (hf : Fit zs) (hl : zs.length ≤ 140737488351232) : RowC wx v zs := by
  have hb := h.bytes hf hl
  by_cases h0 : zs.length = 0
  · obtain ⟨a, cap, e, _⟩ := hb.val
    subst e
    exact .of_bytes hb (by omega)
  · obtain ⟨g, cap, e, hc, _⟩ := own_G h.own (by omega)
    subst e
    exact .of_bytes hb hc
theorem known_echo : icB phN ⟨8, 0, 65538, []⟩ = [8, 0, 247, 252, 0, 1, 0, 2] := by decide +kernel
theorem known_pE : pE phN [8, 0, 247, 252, 0, 1, 0, 2] = 0 := by decide +kernel
theorem known_pM : pM phN [8, 0, 247, 252, 0, 1, 0, 2] = ⟨8, 0, 65538, []⟩ := by
  unfold pM
  rw [if_pos known_pE]
  rfl
end Go.Proofs.YtnjkagopmfenkaaGreat.Icm

namespace Go.Proofs.YtnjkagopmfenkaaGreat.Icm
open Go Go.RowKit Go.Shelf
set_option linter.unusedVariables false
set_option linter.unusedSimpArgs false

theorem sumW_mem_pos : ∀ (xs : List Int) (s : Int), 0 ≤ s → Words xs → (∃ x ∈ xs, 0 < x) → 0 < sumW s xs
  | [], s, _, _, h => by obtain ⟨x, hx, _⟩ := h; simp at hx
  | y :: ys, s, hs, hw, h => by
    have hy := hw y (by simp)
    have hws : Words ys := fun z hz => hw z (by simp [hz])
    have ha : 0 ≤ addW s y := by unfold addW; split <;> omega
    show 0 < sumW (addW s y) ys
    by_cases h0 : 0 < y
    · refine sumW_pos ys (addW s y) hws ?_
      unfold addW
      split <;> omega
    · obtain ⟨x, hx, hx0⟩ := h
      simp at hx
      rcases hx with rfl | hx
      · omega
      · exact sumW_mem_pos ys _ ha hws ⟨x, hx, hx0⟩
theorem sumW_zero : ∀ (xs : List Int), (∀ x ∈ xs, x = 0) → sumW 0 xs = 0
  | [], _ => rfl
  | y :: ys, h => by
    have hy := h y (by simp)
    subst hy
    show sumW (addW 0 0) ys = 0
    have : addW 0 0 = 0 := by decide
    rw [this]
    exact sumW_zero ys (fun x hx => h x (by simp [hx]))
theorem words_mid (P R : List Int) (x : Int) (hP : P.length % 2 = 0) : wordsL (P ++ (w2 x ++ R)) = wordsL P ++ (x :: wordsL R) := by
  rw [wordsL_append _ _ hP]
  show wordsL P ++ wordsL (x / 256 :: x % 256 :: R) = _
  rw [wordsL_two, word_back]
theorem fill_sum0 (P R : List Int) (hP : P.length % 2 = 0) (fP : Fit P) (fR : Fit R) (x : Int) (hk : x = 65535 - sumW 0 (wordsL (P ++ (w2 0 ++ R)))) : sumW 0 (wordsL (P ++ (w2 x ++ R))) = 65535 := by
  have w0 : Words (wordsL (P ++ (w2 0 ++ R))) := wordsL_words (fP.append ((w2_fit (by decide)).append fR))
  have r0 := sumW_range _ 0 (by decide) w0
  have hx0 : 0 ≤ x ∧ x ≤ 65535 := by omega
  have wx : Words (wordsL (P ++ (w2 x ++ R))) := wordsL_words (fP.append ((w2_fit hx0).append fR))
  have rx := sumW_range _ 0 (by decide) wx
  have m0 := sumW_mod (wordsL (P ++ (w2 0 ++ R))) 0
  have mx := sumW_mod (wordsL (P ++ (w2 x ++ R))) 0
  have px : 0 < sumW 0 (wordsL (P ++ (w2 x ++ R))) := by
    rw [words_mid P R x hP] at wx ⊢
    by_cases hz : ∃ z ∈ wordsL P ++ wordsL R, 0 < z
    · obtain ⟨z, hz, h0⟩ := hz
      refine sumW_mem_pos _ 0 (by decide) wx ⟨z, ?_, h0⟩
      simp at hz ⊢
      rcases hz with h | h <;> simp [h]
    · have hall : ∀ z ∈ wordsL P ++ 0 :: wordsL R, z = 0 := fun z hz' => by
        have hzw : 0 ≤ z := by
          rw [words_mid P R 0 hP] at w0
          exact (w0 z hz').1
        simp at hz'
        rcases hz' with h | h | h
        · by_cases h0 : 0 < z
          · exact absurd ⟨z, by simp [h], h0⟩ hz
          · omega
        · exact h
        · by_cases h0 : 0 < z
          · exact absurd ⟨z, by simp [h], h0⟩ hz
          · omega
      rw [words_mid P R 0 hP, sumW_zero _ hall] at hk
      exact sumW_mem_pos _ 0 (by decide) wx ⟨x, by simp, by omega⟩
  rw [words_mid P R 0 hP] at m0
  rw [words_mid P R x hP] at mx
  simp only [List.sum_append, List.sum_cons] at m0 mx
  rw [words_mid P R 0 hP] at r0 hk
  rw [words_mid P R x hP] at rx px ⊢
  generalize sumW 0 (wordsL P ++ 0 :: wordsL R) = a at *
  generalize sumW 0 (wordsL P ++ x :: wordsL R) = b at *
  generalize (wordsL P).sum = u at *
  generalize (wordsL R).sum = v at *
  omega
theorem icL_length (ph : Int → List Int) (m : Msg) : (icL ph m).length = 8 + m.body.length := by unfold icL; rw [List.length_append]; rfl
theorem icH_cut (m : Msg) (k : Int) (xs : List Int) : icH m k ++ xs = [m.ty, m.code] ++ (w2 k ++ ([m.rest / 16777216, m.rest / 65536 % 256, m.rest / 256 % 256, m.rest % 256] ++ xs)) := rfl
/-- A pseudo header as it must be. -/
structure PhI (ph : Int → List Int) : Prop where
  fit : ∀ n : Int, 0 ≤ n ∧ n ≤ 65535 → Fit (ph n)
  even : ∀ n, (ph n).length % 2 = 0
theorem phN_ok : PhI phN := ⟨fun n _ => phN_fit n, fun n => rfl⟩
theorem ph6I_ok {A B : List Int} (la : A.length = 16) (lb : B.length = 16) (fa : Fit A) (fb : Fit B) : PhI (ph6I A B) := ⟨ph6I_fit fa fb, fun n => by simp [ph6I, ph6, la, lb]⟩
theorem icL_fit {ph : Int → List Int} (h : PhI ph) {w : World} {c : List Value} {m : Msg} (hm : MsgC w c m) (hn : 8 + m.body.length ≤ 65535) : Fit (icL ph m) := by
  obtain ⟨vb, _, hb⟩ := hm.val
  exact (icH_fit hm (icK_range hm (h.fit _ (by omega)))).append hb.fit
theorem ic_sum {ph : Int → List Int} (h : PhI ph) {w : World} {c : List Value} {m : Msg} (hm : MsgC w c m) (hn : 8 + m.body.length ≤ 65535) :
    sumW 0 (wordsL (ph (icL ph m).length ++ icL ph m)) = 65535 := by
  have hl : ((icL ph m).length : Int) = 8 + (m.body.length : Int) := by rw [icL_length]; omega
  rw [hl]
  obtain ⟨vb, _, hb⟩ := hm.val
  have ft := hm.ft
  have fc := hm.fc
  have fr := hm.fr
  have hk : icK ph m = 65535 - sumW 0 (wordsL ((ph (8 + (m.body.length : Int)) ++ [m.ty, m.code]) ++ (w2 0 ++ ([m.rest / 16777216, m.rest / 65536 % 256, m.rest / 256 % 256, m.rest % 256] ++ m.body)))) := by
    unfold icK
    rw [icH_cut, List.append_assoc]
  have hgo := fill_sum0 (ph (8 + (m.body.length : Int)) ++ [m.ty, m.code]) ([m.rest / 16777216, m.rest / 65536 % 256, m.rest / 256 % 256, m.rest % 256] ++ m.body) (by have := h.even (8 + (m.body.length : Int)); simp; omega)
    ((h.fit _ (by omega)).append (fun z hz => by simp at hz; rcases hz with rfl | rfl <;> omega)) (Fit.append (fun z hz => by simp at hz; rcases hz with rfl | rfl | rfl | rfl <;> omega) hb.fit) _ hk
  unfold icL
  rw [icH_cut, ← List.append_assoc]
  exact hgo
theorem ic_back {ph : Int → List Int} (h : PhI ph) {w : World} {c : List Value} {m : Msg} (hm : MsgC w c m) (hn : 8 + m.body.length ≤ 65535) :
    pE ph (icL ph m) = 0 ∧ pM ph (icL ph m) = m := by
  have hl := icL_length ph m
  have hE : pE ph (icL ph m) = 0 := by rw [pE_more (by omega) (by omega), if_pos (ic_sum h hm hn)]
  refine ⟨hE, ?_⟩
  unfold pM
  rw [if_pos hE]
  have fr := hm.fr
  obtain ⟨ty, code, rest, body⟩ := m
  dsimp only at *
  have e : rstL (icL ph ⟨ty, code, rest, body⟩) = rest := by
    show ((rest / 16777216 * 256 + rest / 65536 % 256) * 256 + rest / 256 % 256) * 256 + rest % 256 = rest
    omega
  rw [e]
  rfl

end Go.Proofs.YtnjkagopmfenkaaGreat.Icm

namespace Go.Proofs.YtnjkagopmfenkaaGreat.Icm
open Go Go.RowKit Go.Shelf
set_option linter.unusedVariables false
set_option linter.unusedSimpArgs false

def cutM (m : Msg) : Msg := ⟨m.ty, m.code, m.rest, m.body.take 70000⟩
end Go.Proofs.YtnjkagopmfenkaaGreat.Icm
