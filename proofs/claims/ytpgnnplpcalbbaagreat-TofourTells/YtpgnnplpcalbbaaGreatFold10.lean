/-
  The bytes of an IPv6 datagram, plainly; how they are read.
  An IPv6 datagram as an argument.
  The document's Same of an IPv6 datagram and one that has the same fields.
-/
import Derived.Test.YtpgnnplpcalbbaaGreatFold09
import Derived.Deep.SlicePairs
import Derived.Stop.BytesEq
import Derived.BigQuiet
set_option linter.unusedVariables false
set_option linter.unusedSimpArgs false
namespace Go.Proofs.YtpgnnplpcalbbaaGreat.V6
open Go Go.RowKit
/-- The first k heads as bytes. -/
def hdsL (hs : Opts) (fr : Bool) (proto : Int) : Nat → List Int
  | 0 => []
  | k + 1 => hdsL hs fr proto k ++ ([nx6 hs fr proto (k + 1), (((2 + (oD hs k).length) / 8 - 1 : Nat) : Int)] ++ oD hs k)
def frontL (f : F6) (A : List Int) (nx n : Int) : List Int := [96 + f.cls / 16, f.cls % 16 * 16 + f.lab / 65536, f.lab / 256 % 256, f.lab % 256, n / 256, n % 256, nx, f.hop] ++ A
def wrL (f : F6) (A : List Int) (hs : Opts) (g : G6) (body : List Int) : List Int :=
  frontL f A (nx6 hs g.fr f.proto 0) ((ahead6 hs g.fr - 40 + body.length : Nat) : Int) ++ hdsL hs g.fr f.proto hs.length ++ (if g.fr then fragL g.id g.off g.more f.proto else []) ++ body
theorem hdsL_len (hs : Opts) (fr : Bool) (proto : Int) : ∀ k, (hdsL hs fr proto k).length = oTot hs k
  | 0 => rfl
  | k + 1 => by simp [hdsL, oTot, hdsL_len hs fr proto k]; omega
/-- What reading heads comes to. -/
inductive HR where
  | bad (at' : Nat) (e : Int)
  | ok (hs : Opts) (kind : Int) (rest : List Int) (at' : Nat)
def szH (rest : List Int) : Nat := ((gz rest 1).toNat + 1) * 8
def rdH : Nat → List Int → Nat → Int → Opts → HR
  | 0, _, _, _, _ => .bad 0 0
  | n + 1, rest, at', kind, hs =>
    if isH kind = true then
      (if rest.length < 8 then .bad at' 50 else if rest.length < szH rest then .bad at' 50 else if hs.length < 8 ∧ kindB kind hs.length = true then rdH n (rest.drop (szH rest)) (at' + szH rest) (gz rest 0) (hs ++ [(kind, (rest.take (szH rest)).drop 2)]) else .bad at' 53)
    else .ok hs kind rest at'
/-- What reading comes to. -/
inductive PR where
  | bad (at' : Nat) (e : Int)
  | ok (hs : Opts) (g : G6) (proto : Int) (body : List Int)
def endR : HR → PR
  | .bad at' e => .bad at' e
  | .ok hs kind rest at' => if kind = 44 then (if rest.length < 8 then .bad at' 50 else .ok hs ⟨true, gz rest 4 * 16777216 + gz rest 5 * 65536 + gz rest 6 * 256 + gz rest 7, gz rest 2 * 32 + gz rest 3 / 8, decide (gz rest 3 % 2 = 1)⟩ (gz rest 0) (rest.drop 8)) else .ok hs ⟨false, 0, 0, false⟩ kind rest
def lenN (zs : List Int) : Int := gz zs 4 * 256 + gz zs 5
def badN (whole : Bool) (zs : List Int) : Prop := lenN zs < (zs.length : Int) - 40 ∨ (whole = true ∧ (zs.length : Int) - 40 < lenN zs)
instance (whole : Bool) (zs : List Int) : Decidable (badN whole zs) := by unfold badN; exact inferInstance
def parR (whole : Bool) (zs : List Int) : PR :=
  if zs.length < 40 then .bad 0 50 else if gz zs 0 / 16 ≠ 6 then .bad 0 51 else if badN whole zs then .bad 4 52 else endR (rdH 9 (zs.drop 40) 40 (gz zs 6) [])
theorem _root_.Go.Proofs.YtpgnnplpcalbbaaGreat.Fit.app {a b : List Int} (ha : Fit a) (hb : Fit b) : Fit (a ++ b) := fun z hz => (List.mem_append.1 hz).elim (ha z) (hb z)
theorem gz_fit {zs : List Int} (h : Fit zs) (j : Nat) : 0 ≤ gz zs j ∧ gz zs j < 256 := by
  unfold gz
  cases e : zs[j]? with
  | none => simp
  | some z => exact h z (List.mem_of_getElem? e)
end Go.Proofs.YtpgnnplpcalbbaaGreat.V6
namespace Go.Proofs.YtpgnnplpcalbbaaGreat.V6
open Go Go.RowKit
open Go.ChangeShapes Go.WideShapes Go.ChangeAt
def numOf : Value → Int
  | .int _ z => z
  | _ => 0
theorem cells_arr {H : Type} {enc : TypeId × Value → H} {w : World} {base : Nat} {spare : Nat → Bool} {held : Bool} {fuel : Nat} {cs : List Value} {x : DataW H × List MemPlace} {t : TypeId} {N : Nat} (hu : Tryz.prog.underlying t = some (.array N 5)) (ct : Tryz.prog.cellsOf t = N)
    (h : DataW.trod enc Tryz.prog w base spare held fuel t cs = some x) : ∃ A : List Int, A.length = N ∧ cs = u8L A ∧ Fit A := by
  obtain ⟨xs, m, _, _, hl, hx, hi⟩ := DataW.trod_array hu h
  have ce : Tryz.prog.cellsOf 5 = 1 := by kernel_rfl
  rw [ct] at hl
  have each : ∀ i, i < N → ∃ z : Int, cs[i]? = some (.int .u8 z) ∧ 0 ≤ z ∧ z < 256 := by
    intro i hin
    have h1 := hi i hin
    rw [ce, Nat.mul_one, List.getElem?_eq_getElem (by omega)] at h1
    obtain ⟨z, e, _, wf⟩ := DataW.trod_int Tryz.underlying5 h1
    have hb := bounds_u8 wf
    refine ⟨z, ?_, by omega, by omega⟩
    have e2 := congrArg (fun l : List Value => l[0]?) e
    simpa [List.getElem?_take, List.getElem?_drop] using e2
  refine ⟨cs.map numOf, by simp [hl], ?_, ?_⟩
  · apply List.ext_getElem?
    intro i
    by_cases hi' : i < N
    · obtain ⟨z, hz, _⟩ := each i hi'
      simp [u8L, hz, numOf]
    · rw [List.getElem?_eq_none (by omega), List.getElem?_eq_none (by simp [u8L]; omega)]
  · intro z hz
    obtain ⟨v, hv, rfl⟩ := List.mem_map.1 hz
    obtain ⟨i, hi', rfl⟩ := List.getElem_of_mem hv
    obtain ⟨z, hz, hb⟩ := each i (by omega)
    rw [List.getElem?_eq_getElem hi'] at hz
    simp only [Option.some.injEq] at hz
    rw [hz]
    exact hb
theorem HS.nil (S : Nat → Prop) (w : World) : HS S w (.slice none 0 0) [] := ⟨fun j => by simp [oK], by simp, none, 0, rfl, .inl rfl⟩
theorem open_row1 {H : Type} {enc : TypeId × Value → H} {W : World} {fuel : Nat} {cs : List Value} {x : DataW H × List MemPlace} (h : DataW.trod enc Tryz.prog W 0 (fun _ => true) true fuel 25 cs = some x) (hz : ∀ k ∈ x.1.weights Tryz.prog 25, k ≤ reachBytes) :
    ∃ v zs, cs = [v] ∧ RowC W v zs := by
  obtain ⟨v, zs, e, hb⟩ := open_bytes1 h hz
  refine ⟨v, zs, e, ?_⟩
  subst e
  rcases open_ints Tryz.underlying25 Tryz.underlying5 (by kernel_rfl) h with ⟨hcs, _⟩ | ⟨x, l, c, zs, hcs, _, hl, hm, hz, _, hcell, hwz⟩
  · simp at hcs
    subst hcs
    exact .of_bytes hb (Nat.le_refl _)
  · simp at hcs
    subst hcs
    exact .of_bytes hb (by omega)
theorem open_heads {H : Type} {enc : TypeId × Value → H} {W : World} {fuel : Nat} {cs : List Value} {y : DataW H × List MemPlace} (hf : DataW.trod enc Tryz.prog W 0 (fun _ => true) true fuel 34 cs = some y) (hz : ∀ k ∈ y.1.weights Tryz.prog 34, k ≤ reachBytes) : ∃ v os, cs = [v] ∧ HS (fun b => b < W.heap.size) W v os := by
  rcases Go.Deep.open_slice_pairs Tryz.underlying34 Tryz.underlying110 (by kernel_rfl) rfl rfl (by kernel_rfl) (by kernel_rfl) hf with ⟨hcs, _⟩ | ⟨x, len, cap, m, n, V0, V1, D0, D1, P0, P1, hcs, _, hl, hm, hmm, hx, hr⟩
  · exact ⟨_, [], hcs, HS.nil _ _⟩
  · simp only [if_true] at hmm
    subst hmm
    subst hx
    have hlen : len ≤ 140737488351232 := by
      have hb : Tryz.prog.bytesOf 110 = 32 := by kernel_rfl
      have := hz _ (by simp only [DataW.weights, Tryz.underlying34]; exact List.mem_cons_self)
      have e : reachBytes = 140737488351232 := by kernel_rfl
      rw [e, hb] at this
      simp at this
      omega
    have each : ∀ i, i < len → ∃ z : Int × List Int, V0 i = .int .u8 z.1 ∧ (0 ≤ z.1 ∧ z.1 < 256) ∧ RowC W (V1 i) z.2 := by
      intro i hi
      obtain ⟨_, _, r0, r1⟩ := hr i (by omega)
      obtain ⟨z0, e0, _, w0⟩ := DataW.trod_int Tryz.underlying5 r0
      have hb := bounds_u8 w0
      obtain ⟨v', zs, ev, hby⟩ := open_row1 r1 (fun k hk => hz k (by
        simp only [DataW.weights, Tryz.underlying34]
        refine List.mem_cons_of_mem _ (List.mem_append_left _ (weights_mem_all (d := .agg [D0 i, D1 i]) (List.mem_map.2 ⟨i, List.mem_range.2 hi, rfl⟩) k ?_))
        simp only [DataW.weights, Tryz.underlying110]
        exact DataW.weights_mem_each (j := 1) rfl rfl k hk))
      simp at e0 ev
      subst ev
      exact ⟨(z0, zs), e0, by simp; omega, hby⟩
    obtain ⟨os, ho⟩ : ∃ os : Opts, os.length = len ∧ ∀ i, i < len → V0 i = .int .u8 (oK os i) ∧ (0 ≤ oK os i ∧ oK os i < 256) ∧ RowC W (V1 i) (oD os i) := by
      obtain ⟨q, hq⟩ := Go.Deep.choose_lt each
      refine ⟨(List.range len).map q, by simp, fun i hi => ?_⟩
      have := hq i hi
      simpa [oK, oD, hi] using this
    refine ⟨_, os, hcs, fun j => ?_, by omega, some x, m, by rw [ho.1], ?_⟩
    · by_cases hj : j < len
      · exact (ho.2 j hj).2.1
      · have : os[j]? = none := List.getElem?_eq_none (by omega)
        simp [oK, this]
    · by_cases h0 : len = 0
      · exact .inl (by omega)
      · right
        have hr0 := (hr 0 (by omega)).1
        obtain ⟨b, off, spot⟩ := x
        have hspot : spot = none := by simpa [Addr.add] using World.cell?_spot hr0
        subst hspot
        have hbl : b < W.heap.size := by have := cell_block hr0; simpa [Addr.add] using this
        refine ⟨b, off, rfl, hbl, hbl, fun j hj => ?_⟩
        obtain ⟨q0, q1, _, _⟩ := hr j (by omega)
        obtain ⟨e0, _, hb⟩ := ho.2 j (by omega)
        rw [add_plain] at q0 q1
        rw [e0] at q0
        exact ⟨q0, V1 j, q1, BS.of_row hb⟩
theorem bounds_i64 {a : Int} (h : (Lit.int .i64 a).wf = true) : -9223372036854775808 ≤ a ∧ a ≤ 9223372036854775807 := by
  have e : IntKind.i64.min = -9223372036854775808 := rfl
  have h2 : IntKind.i64.min ≤ a ∧ a ≤ 9223372036854775807 := by simpa [Lit.wf] using h
  rwa [e] at h2
theorem bounds_u32' {a : Int} (h : (Lit.int .u32 a).wf = true) : 0 ≤ a ∧ a ≤ 4294967295 := by
  have e : IntKind.u32.min = 0 := rfl
  have e2 : IntKind.u32.max = 4294967295 := rfl
  have h2 : IntKind.u32.min ≤ a ∧ a ≤ IntKind.u32.max := by simpa [Lit.wf] using h
  rwa [e, e2] at h2
theorem list12 {α : Type} {l : List α} (h : l.length = 12) : ∃ x0 x1 x2 x3 x4 x5 x6 x7 x8 x9 x10 x11, l = [x0, x1, x2, x3, x4, x5, x6, x7, x8, x9, x10, x11] := by
  match l, h with
  | [x0, x1, x2, x3, x4, x5, x6, x7, x8, x9, x10, x11], _ => exact ⟨x0, x1, x2, x3, x4, x5, x6, x7, x8, x9, x10, x11, rfl⟩
theorem split42 {l : List Value} (h : l.length = 42) : l = (l.drop 0).take 1 ++ ((l.drop 1).take 1 ++ ((l.drop 2).take 1 ++ ((l.drop 3).take 16 ++ ((l.drop 19).take 16 ++ ((l.drop 35).take 1 ++ ((l.drop 36).take 1 ++ ((l.drop 37).take 1 ++ ((l.drop 38).take 1 ++ ((l.drop 39).take 1 ++ ((l.drop 40).take 1 ++ ((l.drop 41).take 1))))))))))) := by
  rw [show (l.drop 41).take 1 = l.drop 41 from List.take_of_length_le (by simp; omega)]
  rw [show (l.drop 40).take 1 ++ l.drop 41 = l.drop 40 by have := List.take_append_drop 1 (l.drop 40); rwa [List.drop_drop] at this]
  rw [show (l.drop 39).take 1 ++ l.drop 40 = l.drop 39 by have := List.take_append_drop 1 (l.drop 39); rwa [List.drop_drop] at this]
  rw [show (l.drop 38).take 1 ++ l.drop 39 = l.drop 38 by have := List.take_append_drop 1 (l.drop 38); rwa [List.drop_drop] at this]
  rw [show (l.drop 37).take 1 ++ l.drop 38 = l.drop 37 by have := List.take_append_drop 1 (l.drop 37); rwa [List.drop_drop] at this]
  rw [show (l.drop 36).take 1 ++ l.drop 37 = l.drop 36 by have := List.take_append_drop 1 (l.drop 36); rwa [List.drop_drop] at this]
  rw [show (l.drop 35).take 1 ++ l.drop 36 = l.drop 35 by have := List.take_append_drop 1 (l.drop 35); rwa [List.drop_drop] at this]
  rw [show (l.drop 19).take 16 ++ l.drop 35 = l.drop 19 by have := List.take_append_drop 16 (l.drop 19); rwa [List.drop_drop] at this]
  rw [show (l.drop 3).take 16 ++ l.drop 19 = l.drop 3 by have := List.take_append_drop 16 (l.drop 3); rwa [List.drop_drop] at this]
  rw [show (l.drop 2).take 1 ++ l.drop 3 = l.drop 2 by have := List.take_append_drop 1 (l.drop 2); rwa [List.drop_drop] at this]
  rw [show (l.drop 1).take 1 ++ l.drop 2 = l.drop 1 by have := List.take_append_drop 1 (l.drop 1); rwa [List.drop_drop] at this]
  rw [show (l.drop 0).take 1 ++ l.drop 1 = l.drop 0 by have := List.take_append_drop 1 (l.drop 0); rwa [List.drop_drop] at this]
  rw [List.drop_zero]
set_option maxRecDepth 100000 in
set_option maxHeartbeats 1000000 in
theorem open_v6 {H : Type} {enc : TypeId × Value → H} {W : World} {v : Value} {d : DataW H} {p : List MemPlace} (h : DataW.Trod enc Tryz.prog W 0 (fun _ => true) true 36 v d p) (hz : ∀ k ∈ d.weights Tryz.prog 36, k ≤ reachBytes) :
    ∃ f g vh vb hs body, v = VV f g vh vb ∧ D6 (fun b => b < W.heap.size) W f vh vb hs body ∧ (-9223372036854775808 ≤ g.off ∧ g.off ≤ 9223372036854775807) ∧ (0 ≤ g.id ∧ g.id ≤ 4294967295) ∧ (∃ A, f.ad = u8L A ∧ Fit A) ∧ (0 ≤ f.cls ∧ f.cls ≤ 255) ∧ (0 ≤ f.hop ∧ f.hop ≤ 255) ∧ (0 ≤ f.proto ∧ f.proto ≤ 255) := by
  obtain ⟨fuel, hf⟩ := h
  obtain ⟨xs, m, _, hx, hl, hxl, hi⟩ := DataW.trod_struct Tryz.underlying36 hf
  have c42 : Tryz.prog.cellsOf 36 = 42 := by kernel_rfl
  rw [c42] at hl
  obtain ⟨x0, x1, x2, x3, x4, x5, x6, x7, x8, x9, x10, x11, rfl⟩ := list12 hxl
  have g0 : DataW.trod enc Tryz.prog W 0 (fun _ => true) true m 5 ((v.cells.toList.drop 0).take 1) = some x0 := by
    have e : DataW.trod enc Tryz.prog W 0 (fun _ => true) true m 5 ((v.cells.toList.drop 0).take (Tryz.prog.cellsOf 5)) = some x0 := hi 0 _ rfl
    rwa [show Tryz.prog.cellsOf 5 = 1 by kernel_rfl] at e
  have g1 : DataW.trod enc Tryz.prog W 0 (fun _ => true) true m 33 ((v.cells.toList.drop 1).take 1) = some x1 := by
    have e : DataW.trod enc Tryz.prog W 0 (fun _ => true) true m 33 ((v.cells.toList.drop 1).take (Tryz.prog.cellsOf 33)) = some x1 := hi 1 _ rfl
    rwa [show Tryz.prog.cellsOf 33 = 1 by kernel_rfl] at e
  have g2 : DataW.trod enc Tryz.prog W 0 (fun _ => true) true m 5 ((v.cells.toList.drop 2).take 1) = some x2 := by
    have e : DataW.trod enc Tryz.prog W 0 (fun _ => true) true m 5 ((v.cells.toList.drop 2).take (Tryz.prog.cellsOf 5)) = some x2 := hi 2 _ rfl
    rwa [show Tryz.prog.cellsOf 5 = 1 by kernel_rfl] at e
  have g3 : DataW.trod enc Tryz.prog W 0 (fun _ => true) true m 29 ((v.cells.toList.drop 3).take 16) = some x3 := by
    have e : DataW.trod enc Tryz.prog W 0 (fun _ => true) true m 29 ((v.cells.toList.drop 3).take (Tryz.prog.cellsOf 29)) = some x3 := hi 3 _ rfl
    rwa [show Tryz.prog.cellsOf 29 = 16 by kernel_rfl] at e
  have g4 : DataW.trod enc Tryz.prog W 0 (fun _ => true) true m 29 ((v.cells.toList.drop 19).take 16) = some x4 := by
    have e : DataW.trod enc Tryz.prog W 0 (fun _ => true) true m 29 ((v.cells.toList.drop 19).take (Tryz.prog.cellsOf 29)) = some x4 := hi 4 _ rfl
    rwa [show Tryz.prog.cellsOf 29 = 16 by kernel_rfl] at e
  have g5 : DataW.trod enc Tryz.prog W 0 (fun _ => true) true m 34 ((v.cells.toList.drop 35).take 1) = some x5 := by
    have e : DataW.trod enc Tryz.prog W 0 (fun _ => true) true m 34 ((v.cells.toList.drop 35).take (Tryz.prog.cellsOf 34)) = some x5 := hi 5 _ rfl
    rwa [show Tryz.prog.cellsOf 34 = 1 by kernel_rfl] at e
  have g6 : DataW.trod enc Tryz.prog W 0 (fun _ => true) true m 4 ((v.cells.toList.drop 36).take 1) = some x6 := by
    have e : DataW.trod enc Tryz.prog W 0 (fun _ => true) true m 4 ((v.cells.toList.drop 36).take (Tryz.prog.cellsOf 4)) = some x6 := hi 6 _ rfl
    rwa [show Tryz.prog.cellsOf 4 = 1 by kernel_rfl] at e
  have g7 : DataW.trod enc Tryz.prog W 0 (fun _ => true) true m 33 ((v.cells.toList.drop 37).take 1) = some x7 := by
    have e : DataW.trod enc Tryz.prog W 0 (fun _ => true) true m 33 ((v.cells.toList.drop 37).take (Tryz.prog.cellsOf 33)) = some x7 := hi 7 _ rfl
    rwa [show Tryz.prog.cellsOf 33 = 1 by kernel_rfl] at e
  have g8 : DataW.trod enc Tryz.prog W 0 (fun _ => true) true m 3 ((v.cells.toList.drop 38).take 1) = some x8 := by
    have e : DataW.trod enc Tryz.prog W 0 (fun _ => true) true m 3 ((v.cells.toList.drop 38).take (Tryz.prog.cellsOf 3)) = some x8 := hi 8 _ rfl
    rwa [show Tryz.prog.cellsOf 3 = 1 by kernel_rfl] at e
  have g9 : DataW.trod enc Tryz.prog W 0 (fun _ => true) true m 4 ((v.cells.toList.drop 39).take 1) = some x9 := by
    have e : DataW.trod enc Tryz.prog W 0 (fun _ => true) true m 4 ((v.cells.toList.drop 39).take (Tryz.prog.cellsOf 4)) = some x9 := hi 9 _ rfl
    rwa [show Tryz.prog.cellsOf 4 = 1 by kernel_rfl] at e
  have g10 : DataW.trod enc Tryz.prog W 0 (fun _ => true) true m 5 ((v.cells.toList.drop 40).take 1) = some x10 := by
    have e : DataW.trod enc Tryz.prog W 0 (fun _ => true) true m 5 ((v.cells.toList.drop 40).take (Tryz.prog.cellsOf 5)) = some x10 := hi 10 _ rfl
    rwa [show Tryz.prog.cellsOf 5 = 1 by kernel_rfl] at e
  have g11 : DataW.trod enc Tryz.prog W 0 (fun _ => true) true m 25 ((v.cells.toList.drop 41).take 1) = some x11 := by
    have e : DataW.trod enc Tryz.prog W 0 (fun _ => true) true m 25 ((v.cells.toList.drop 41).take (Tryz.prog.cellsOf 25)) = some x11 := hi 11 _ rfl
    rwa [show Tryz.prog.cellsOf 25 = 1 by kernel_rfl] at e
  obtain ⟨rfl, rfl⟩ := Prod.mk.inj hx
  have w5 : ∀ k ∈ x5.1.weights Tryz.prog 34, k ≤ reachBytes := fun k hk => hz k (by
    simp only [DataW.weights, Tryz.underlying36]
    exact DataW.weights_mem_each (j := 5) rfl rfl k hk)
  have w11 : ∀ k ∈ x11.1.weights Tryz.prog 25, k ≤ reachBytes := fun k hk => hz k (by
    simp only [DataW.weights, Tryz.underlying36]
    exact DataW.weights_mem_each (j := 11) rfl rfl k hk)
  obtain ⟨cls, e0, _, f0⟩ := DataW.trod_int Tryz.underlying5 g0
  obtain ⟨lab, e1, _, f1⟩ := DataW.trod_int Tryz.underlying33 g1
  obtain ⟨hop, e2, _, f2⟩ := DataW.trod_int Tryz.underlying5 g2
  obtain ⟨A, lA, e3, fA⟩ := cells_arr Tryz.underlying29 (by kernel_rfl) g3
  obtain ⟨B, lB, e4, fB⟩ := cells_arr Tryz.underlying29 (by kernel_rfl) g4
  obtain ⟨vh, hs, e5, h5⟩ := open_heads g5 w5
  obtain ⟨fr, e6, _⟩ := DataW.trod_bool Tryz.underlying4 g6
  obtain ⟨id, e7, _, f7⟩ := DataW.trod_int Tryz.underlying33 g7
  obtain ⟨off, e8, _, f8⟩ := DataW.trod_int Tryz.underlying3 g8
  obtain ⟨more, e9, _⟩ := DataW.trod_bool Tryz.underlying4 g9
  obtain ⟨proto, e10, _, f10⟩ := DataW.trod_int Tryz.underlying5 g10
  obtain ⟨vb, body, e11, h11⟩ := open_row1 g11 w11
  have hall := split42 hl
  rw [e0, e1, e2, e3, e4, e5, e6, e7, e8, e9, e10, e11] at hall
  have hv := agg_cells hall (by simp)
  have q0 := bounds_u8 f0
  have q2 := bounds_u8 f2
  have q10 := bounds_u8 f10
  refine ⟨⟨cls, lab, hop, proto, u8L A ++ u8L B, by simp [u8L, lA, lB], fun x hx => ?_⟩, ⟨fr, id, off, more⟩, vh, vb, hs, body, ?_, ⟨h5, BS.of_row h11, bounds_u32' f1⟩, bounds_i64 f8, bounds_u32' f7, ⟨A ++ B, by simp [u8L], fun z hz => ?_⟩, by omega, by omega, by omega⟩
  · simp [u8L] at hx
    rcases hx with ⟨z, _, rfl⟩ | ⟨z, _, rfl⟩ <;> rfl
  · rw [hv]
    simp [vC]
  · rcases List.mem_append.1 hz with hz | hz
    · exact fA z hz
    · exact fB z hz
end Go.Proofs.YtpgnnplpcalbbaaGreat.V6
namespace Go.Proofs.YtpgnnplpcalbbaaGreat.V6
open Go Go.RowKit
theorem eq_arr16 (d : Nat) (zs ys : List Int) (h : Fit zs) (g : Fit ys) (hl : zs.length = 16) (gl : ys.length = 16) (W : World) :
    (Op.equalIn (d + 2) 29 (.agg (zs.map (fun z => Value.int .u8 z)).toArray) (.agg (ys.map (fun z => Value.int .u8 z)).toArray)).run Tryz.prog W = .ok (decide (zs = ys)) W := by
  have := run_equalIn_bytes (P := Tryz.prog) W d 29 5 16 Tryz.underlying29 Tryz.underlying5 (fun w => by simp [go_sem]) (zs.map (fun z => UInt8.ofNat z.toNat)) (ys.map (fun z => UInt8.ofNat z.toNat)) (by simpa using hl) (by simpa using gl)
  rw [bytes_inj zs ys h g] at this
  have e1 := cells_back zs h
  have e2 := cells_back ys g
  rw [← e1, ← e2]
  exact this
theorem neq_arr (zs ys : List Int) (h : Fit zs) (g : Fit ys) (hl : zs.length = 16) (gl : ys.length = 16) (w : World) : (binOp .neq 29 (.agg (u8L zs).toArray) (.agg (u8L ys).toArray)).run Tryz.prog w = .ok (.bool (!(decide (zs = ys)))) w := by
  have := eq_arr16 9998 zs ys h g hl gl w
  unfold u8L
  simp only [binOp, Op.equal, Op.maxDepth]
  simp [this]
theorem gd_arr (b : BinOp) (x y : Operand) (u v : Array Value) (w : World) : (eqGuard b 29 x y (.agg u) (.agg v)).run Tryz.prog w = .ok () w := by
  have he : Tryz.prog.eqGuardType Tryz.prog.depth 29 = false := by kernel_rfl
  cases b <;> simp [eqGuard, go_sem, he]
/-- Both addresses are bytes. -/
def AdOk (f : F6) : Prop := ∃ A, f.ad = u8L A ∧ Fit A
section
variable {W : World} {b : Nat} {f : F6} {g : G6} {vh vb : Value}
theorem vb0 (h : W.heap[b]? = some (BV f g vh vb)) : W.cell? ⟨b, 0, none⟩ = some (.int .u8 f.cls) := blk_cell h rfl
theorem vb1 (h : W.heap[b]? = some (BV f g vh vb)) : W.cell? ⟨b, 1, none⟩ = some (.int .u32 f.lab) := blk_cell h rfl
theorem vb2 (h : W.heap[b]? = some (BV f g vh vb)) : W.cell? ⟨b, 2, none⟩ = some (.int .u8 f.hop) := blk_cell h rfl
theorem vb40 (h : W.heap[b]? = some (BV f g vh vb)) : W.cell? ⟨b, 40, none⟩ = some (.int .u8 f.proto) := blk_cell h (vC_at 5)
theorem vC_parts : vC f g vh vb = [.int .u8 f.cls, .int .u32 f.lab, .int .u8 f.hop] ++ (f.ad.take 16 ++ (f.ad.drop 16 ++ [vh, .bool g.fr, .int .u32 g.id, .int .i64 g.off, .bool g.more, .int .u8 f.proto, vb])) := by
  unfold vC
  have e : f.ad.take 16 ++ (f.ad.drop 16 ++ [vh, .bool g.fr, .int .u32 g.id, .int .i64 g.off, .bool g.more, .int .u8 f.proto, vb]) = f.ad ++ [vh, .bool g.fr, .int .u32 g.id, .int .i64 g.off, .bool g.more, .int .u8 f.proto, vb] := by
    rw [← List.append_assoc, List.take_append_drop]
  rw [e]
  rfl
theorem vb_src (h : W.heap[b]? = some (BV f g vh vb)) : (Instr.loadAt 29 (.pointer (some ⟨b, 3, none⟩))).run Tryz.prog W = .ok (.agg (f.ad.take 16).toArray) W := by
  have c := CellsAt.of_blk h
  rw [List.toList_toArray, vC_parts] at c
  exact agg_load Tryz.isAgg29 Tryz.sizeOf29 (by rw [List.length_take, f.len]; rfl) (CellsAt.part c)
theorem vb_dst (h : W.heap[b]? = some (BV f g vh vb)) : (Instr.loadAt 29 (.pointer (some ⟨b, 19, none⟩))).run Tryz.prog W = .ok (.agg (f.ad.drop 16).toArray) W := by
  have c := CellsAt.of_blk h
  rw [List.toList_toArray, vC_parts, ← List.append_assoc] at c
  have c2 := CellsAt.part c
  rw [show ([Value.int .u8 f.cls, .int .u32 f.lab, .int .u8 f.hop] ++ f.ad.take 16).length = 19 by rw [List.length_append, List.length_take, f.len]; rfl] at c2
  exact agg_load Tryz.isAgg29 Tryz.sizeOf29 (by rw [List.length_drop, f.len]) c2
theorem AdOk.src (h : AdOk f) : ∃ A, f.ad.take 16 = u8L A ∧ Fit A ∧ A.length = 16 := by
  obtain ⟨A, e, hf⟩ := h
  have hl : A.length = 32 := by have := f.len; rw [e] at this; simpa [u8L] using this
  exact ⟨A.take 16, by rw [e]; simp [u8L, List.map_take], fun z hz => hf z (List.mem_of_mem_take hz), by rw [List.length_take]; omega⟩
theorem AdOk.dst (h : AdOk f) : ∃ A, f.ad.drop 16 = u8L A ∧ Fit A ∧ A.length = 16 := by
  obtain ⟨A, e, hf⟩ := h
  have hl : A.length = 32 := by have := f.len; rw [e] at this; simpa [u8L] using this
  exact ⟨A.drop 16, by rw [e]; simp [u8L, List.map_drop], fun z hz => hf z (List.mem_of_mem_drop hz), by rw [List.length_drop]; omega⟩
end
/-- A head in its row, in every world above. -/
theorem HS.nth {S : Nat → Prop} {w : World} {a : Option Addr} {cap : Nat} {hs : Opts} (h : HS S w (.slice a hs.length cap) hs) {k : Nat} (hk : k < hs.length) :
    ∃ b off a1 c1, a = some ⟨b, off, none⟩ ∧ ∀ W, Below w.heap.size w W → W.cell? ⟨b, off + k * 2, none⟩ = some (.int .u8 (oK hs k)) ∧ W.cell? ⟨b, off + k * 2 + 1, none⟩ = some (.slice a1 (oD hs k).length c1) ∧ (convert 25 9 (.slice a1 (oD hs k).length c1)).run Tryz.prog W = .ok (.string (strOfNums (oD hs k))) W := by
  obtain ⟨h1, h2, a', cap', e, hz⟩ := h
  injection e with e _ _
  subst e
  rcases hz with hz | ⟨b, off, rfl, hlt, hS, hc⟩
  · omega
  obtain ⟨c0, s, c1, hb⟩ := hc k hk
  obtain ⟨_, _, a1, k1, rfl, _⟩ := hb.row
  refine ⟨b, off, a1, k1, rfl, fun W hW => ⟨?_, ?_, (hb.on hW).bytes.text⟩⟩
  · rw [← c0]; exact hW.cell hlt
  · rw [← c1]; exact hW.cell hlt
section
variable {S S' : Nat → Prop} {w : World} {f : F6} {g : G6} {vh vb vh' vb' : Value} {hs : Opts} {body : List Int}
set_option maxHeartbeats 4000000 in
set_option maxRecDepth 100000 in
theorem RSame_eq (hf : AdOk f) (h : D6 S w f vh vb hs body) (h' : D6 S' w f vh' vb' hs body) :
    Calls Tryz.prog 17 #[VV f g vh vb, VV f g vh' vb'] w fun e w' => e = .returned (.bool true) ∧ Below w.heap.size w w' := by
  obtain ⟨A, eA, fA, lA⟩ := hf.src
  obtain ⟨B, eB, fB, lB⟩ := hf.dst
  obtain ⟨w2, hw2⟩ : ∃ w2, w2 = (w.alloc (BV f g vh vb)).alloc (BV f g vh' vb') := ⟨_, rfl⟩
  have hb1 : w2.heap[w.heap.size]? = some (BV f g vh vb) := by rw [hw2]; exact blk_alloc (blk_new w _) _
  have hb2 : w2.heap[w.heap.size + 1]? = some (BV f g vh' vb') := by
    have := blk_new (w.alloc (BV f g vh vb)) (BV f g vh' vb')
    rw [show (w.alloc (BV f g vh vb)).heap.size = w.heap.size + 1 by simp] at this
    rw [hw2]; exact this
  have hB : Below w.heap.size w w2 := by rw [hw2]; exact ((Below.refl w.heap.size w).alloc (Nat.le_refl _) _).alloc (by simp) _
  have hd := h.on hB
  have hd' := h'.on hB
  obtain ⟨_, _, ah, ch, rfl, _⟩ := h.hd
  obtain ⟨_, _, ah', ch', rfl, _⟩ := h'.hd
  obtain ⟨_, _, ab, cb, rfl, _⟩ := h.bd.row
  obtain ⟨_, _, ab', cb', rfl, _⟩ := h'.bd.row
  have p0 := vb0 hb1
  have q0 := vb0 hb2
  have p1 := vb1 hb1
  have q1 := vb1 hb2
  have p2 := vb2 hb1
  have q2 := vb2 hb2
  have p35 := vb35 hb1
  have q35 := vb35 hb2
  have p36 := vb36 hb1
  have q36 := vb36 hb2
  have p37 := vb37 hb1
  have q37 := vb37 hb2
  have p38 := vb38 hb1
  have q38 := vb38 hb2
  have p39 := vb39 hb1
  have q39 := vb39 hb2
  have p40 := vb40 hb1
  have q40 := vb40 hb2
  have p41 := vb41 hb1
  have q41 := vb41 hb2
  have t1 := hd.bd.row.bytes.text
  have t2 := hd'.bd.row.bytes.text
  have HS1 : Hid _ := vb_src hb1
  have HS2 : Hid _ := vb_src hb2
  have HD1 : Hid _ := vb_dst hb1
  have HD2 : Hid _ := vb_dst hb2
  rw [eA] at HS1 HS2
  rw [eB] at HD1 HD2
  have HN1 : Hid (∀ W, (binOp .neq 29 (.agg (u8L A).toArray) (.agg (u8L A).toArray)).run Tryz.prog W = .ok (.bool false) W) := fun W => by
    have := neq_arr A A fA fA lA lA W
    simpa using this
  have HN2 : Hid (∀ W, (binOp .neq 29 (.agg (u8L B).toArray) (.agg (u8L B).toArray)).run Tryz.prog W = .ok (.bool false) W) := fun W => by
    have := neq_arr B B fB fB lB lB W
    simpa using this
  have HA : Hid (HS S w2 (.slice ah hs.length ch) hs) := hd.hd
  have HA' : Hid (HS S' w2 (.slice ah' hs.length ch') hs) := hd'.hd
  have HBX : Hid (w2.heap[w.heap.size]? = some (BV f g (.slice ah hs.length ch) (.slice ab body.length cb))) := hb1
  have HBY : Hid (w2.heap[w.heap.size + 1]? = some (BV f g (.slice ah' hs.length ch') (.slice ab' body.length cb'))) := hb2
  have HBB : Hid (Below w.heap.size w w2) := hB
  have hlh := hd.hd.len
  have hW := hw2.symm
  clear hd hd' h h' hb1 hb2 hB fA fB lA lB eA eB hf hw2
  generalize strOfNums body = T at *
  generalize u8L A = UA at *
  generalize u8L B = UB at *
  go_enter Tryz.func17, Tryz.ntmps17
  simp only [List.append_eq, List.cons_append, List.nil_append]
  go_wp2_with first
    | ((with_reducible show wpList _ _ _ ({ dst := _, op := Op.load 29 (Operand.tmp 26), type := _, pos := _, after := _, guard := _ } :: _) _ _); refine arm_load rfl (.tmp 26) 29 rfl rfl HS1.out ?_)
    | ((with_reducible show wpList _ _ _ ({ dst := _, op := Op.load 29 (Operand.tmp 28), type := _, pos := _, after := _, guard := _ } :: _) _ _); refine arm_load rfl (.tmp 28) 29 rfl rfl HS2.out ?_)
    | ((with_reducible show wpList _ _ _ ({ dst := _, op := Op.load 29 (Operand.tmp 33), type := _, pos := _, after := _, guard := _ } :: _) _ _); refine arm_load rfl (.tmp 33) 29 rfl rfl HD1.out ?_)
    | ((with_reducible show wpList _ _ _ ({ dst := _, op := Op.load 29 (Operand.tmp 35), type := _, pos := _, after := _, guard := _ } :: _) _ _); refine arm_load rfl (.tmp 35) 29 rfl rfl HD2.out ?_)
    | ((with_reducible show wpList _ _ _ ({ dst := _, op := Op.binOp BinOp.neq 29 (Operand.tmp 27) (Operand.tmp 29) 29, type := _, pos := _, after := _, guard := _ } :: _) _ _); refine arm_bin rfl .neq 29 29 (.tmp 27) (.tmp 29) rfl rfl rfl (gd_arr _ _ _ _ _ _) (HN1.out _) ?_)
    | ((with_reducible show wpList _ _ _ ({ dst := _, op := Op.binOp BinOp.neq 29 (Operand.tmp 34) (Operand.tmp 36) 29, type := _, pos := _, after := _, guard := _ } :: _) _ _); refine arm_bin rfl .neq 29 29 (.tmp 34) (.tmp 36) rfl rfl rfl (gd_arr _ _ _ _ _ _) (HN2.out _) ?_)
  clear p0 q0 p1 q1 p2 q2 p36 q36 p37 q37 p38 q38 p39 q39 p40 q40 p41 q41 t1 t2 HS1 HS2 HD1 HD2 HN1 HN2 hW
  obtain ⟨N, hN⟩ : ∃ N, hs.length = N := ⟨_, rfl⟩
  have HNN : Hid _ := hN
  rw [hN] at hlh p35 q35
  clear hN
  go_loopw [5] (fun i wr => ∃ k : Nat, k ≤ N ∧ i = .int .i64 k ∧ Below w2.heap.size w2 wr) (fun i _ => N - (intOf i).toNat)
  case atStart => exact ⟨0, Nat.zero_le _, rfl, Below.refl _ _⟩
  case round =>
    obtain ⟨k, hk, rfl, hBw⟩ := hrel
    have HBW : Hid (Below w2.heap.size w2 wr) := hBw
    have r35 : wr.cell? ⟨w.heap.size, 35, none⟩ = some (.slice ah N ch) := by have := vb35 (blk_on HBX.out hBw); rw [HNN.out] at this; exact this
    clear p35 q35
    by_cases hlt : k < N
    · have hki : (k : Int) < (N : Int) := by omega
      obtain ⟨b1, o1, a1, c1, ea, hat1⟩ := HA.out.nth (k := k) (by rw [HNN.out]; exact hlt)
      obtain ⟨b2, o2, a2, c2, eb, hat2⟩ := HA'.out.nth (k := k) (by rw [HNN.out]; exact hlt)
      subst ea eb
      have hup : ∀ x : Hi wr, Below w2.heap.size w2 x.W := fun x => hBw.trans (x.below.mono hBw.size)
      have s1 : ∀ x : Hi wr, x.W.cell? ⟨w.heap.size, 35, none⟩ = some (.slice (some ⟨b1, o1, none⟩) N ch) := fun x => by have := vb35 (blk_on HBX.out (hup x)); rw [HNN.out] at this; exact this
      have s2 : ∀ x : Hi wr, x.W.cell? ⟨w.heap.size + 1, 35, none⟩ = some (.slice (some ⟨b2, o2, none⟩) N ch') := fun x => by have := vb35 (blk_on HBY.out (hup x)); rw [HNN.out] at this; exact this
      have k1 : ∀ x : Hi wr, x.W.cell? ⟨b1, o1 + k * 2, none⟩ = some (.int .u8 (oK hs k)) := fun x => (hat1 _ (hup x)).1
      have k2 : ∀ x : Hi wr, x.W.cell? ⟨b2, o2 + k * 2, none⟩ = some (.int .u8 (oK hs k)) := fun x => (hat2 _ (hup x)).1
      have d1 : ∀ x : Hi wr, x.W.cell? ⟨b1, o1 + k * 2 + 1, none⟩ = some (.slice a1 (oD hs k).length c1) := fun x => (hat1 _ (hup x)).2.1
      have d2 : ∀ x : Hi wr, x.W.cell? ⟨b2, o2 + k * 2 + 1, none⟩ = some (.slice a2 (oD hs k).length c2) := fun x => (hat2 _ (hup x)).2.1
      have x1 : ∀ x : Hi wr, (convert 25 9 (.slice a1 (oD hs k).length c1)).run Tryz.prog x.W = .ok (.string (strOfNums (oD hs k))) x.W := fun x => (hat1 _ (hup x)).2.2
      have x2 : ∀ x : Hi wr, (convert 25 9 (.slice a2 (oD hs k).length c2)).run Tryz.prog x.W = .ok (.string (strOfNums (oD hs k))) x.W := fun x => (hat2 _ (hup x)).2.2
      have HUP : Hid _ := hup
      clear hat1 hat2 hup hBw
      generalize strOfNums (oD hs k) = T1 at *
      generalize oK hs k = K1 at *
      generalize (oD hs k).length = D1 at *
      go_wp2_with fail
      refine wp_region_hi (by kernel_rfl) (by kernel_rfl) ?_
      repeat (first | go_big_quiet_skip | (go_big_quiet_want; go_big_quiet_op; first | go_big_quiet_on | go_big_quiet_call (fail)))
      refine wpQuiet_nil ?_
      intro _ hw
      obtain ⟨y, rfl⟩ := hw
      clear s1 s2 k1 k2 d1 d2 x1 x2
      go_wp2
      exact ⟨⟨k + 1, by omega, by simp, HUP.out y⟩, by simp [intOf]; omega⟩
    · obtain rfl : k = N := by omega
      clear hBw
      go_wp2
      go_ret
      exact ⟨rfl, HBB.out.trans (HBW.out.mono HBB.out.size)⟩
end
end Go.Proofs.YtpgnnplpcalbbaaGreat.V6
