/-
  A prefix's text as a kind of letters: an address's kind, a slash, and a number.
  A prefix's text as a kind of letters: what it owes.
  Regions that draw, by hand: what is left of one, a call in it, a load of a number.
  Map and Comes of the document.
-/
import Derived.Test.YtaebknkjhhcneaaGreatDoorFold02
import Derived.Test.YtaebknkjhhcneaaGreatDoorFold17
import Derived.Test.YtaebknkjhhcneaaGreatDoorFold24
namespace Go.Proofs.YtaebknkjhhcneaaGreatDoor
open Go Go.RowKit
set_option linter.unusedVariables false
set_option linter.unusedSimpArgs false

/-- A prefixed in a block of its own. -/
structure PreIn {σ : Type} (T : TypeId) (rv : Value) (At : σ → World → Prop) (most : Int) (b : Nat) (p : Pre σ) (w : World) : Prop where
  inner : At p.addr w
  c0 : w.cell? ⟨b, 0, none⟩ = some (.iface T rv)
  c1 : w.cell? ⟨b, 1, none⟩ = some (.int .i64 most)
  c2 : w.cell? ⟨b, 2, none⟩ = some (.bool p.slashed)
  c3 : w.cell? ⟨b, 3, none⟩ = some (.int .i64 p.num.value)
  c4 : w.cell? ⟨b, 4, none⟩ = some (.bool p.num.begun)
  ok : p.num.Ok most
  typed : Typed w b 228

def PreTook {σ : Type} (R : Reader σ) (T : TypeId) (rv : Value) (At : σ → World → Prop) (most : Int) (B b : Nat) (own : Nat → Prop) (p : Pre σ) (r : Int) (w : World) (e : Ending) (w' : World) : Prop :=
  e = .returned (.bool (preTake R most p r).isSome) ∧ Turns B (fun j => own j ∨ j = b) w w' ∧ ∀ p', preTake R most p r = some p' → PreIn T rv At most b p' w'

theorem pre_inner {σ : Type} {R : Reader σ} {T : TypeId} {rv : Value} {At : σ → World → Prop} {most : Int} {B b : Nat} {own : Nat → Prop} {p : Pre σ} {r : Int} {w : World} {e : Ending} {w' : World} (hno : ¬ own b) (h : PreIn T rv At most b p w)
    (hs : p.slashed = false) (hc : ¬ (r = 47 ∧ R.whole p.addr = true)) (hT : e = .returned (.bool (R.take p.addr r).isSome) ∧ Turns B own w w' ∧ ∀ st', R.take p.addr r = some st' → At st' w') : PreTook R T rv At most B b own p r w e w' := by
  obtain ⟨he, ht, ha⟩ := hT
  have e1 : preTake R most p r = (R.take p.addr r).map (fun a => { p with addr := a }) := by
    unfold preTake
    rw [if_neg (by rw [hs]; decide), if_neg hc]
  obtain ⟨cs, hcs⟩ := h.typed
  have hb : w'.heap[b]? = w.heap[b]? := (ht.kept b _ hcs hno (fun c fz k => by injection k with k1 k2; exact absurd k2 (by decide))).trans hcs.symm
  have ec := fun i => World.cell?_of_block (a := ⟨b, i, none⟩) hb
  refine ⟨by rw [he, e1, Option.isSome_map], ht.mono (fun k hk => .inl hk), fun p' hp' => ?_⟩
  rw [e1] at hp'
  cases hr : R.take p.addr r with
  | none => rw [hr] at hp'; cases hp'
  | some st' =>
    rw [hr] at hp'
    simp at hp'
    subst hp'
    exact ⟨ha st' hr, (ec 0).trans h.c0, (ec 1).trans h.c1, (ec 2).trans h.c2, (ec 3).trans h.c3, (ec 4).trans h.c4, h.ok, ⟨cs, hb.trans hcs⟩⟩

set_option maxHeartbeats 4000000 in
set_option maxRecDepth 100000 in
theorem pre_take {σ : Type} {R : Reader σ} {T : TypeId} {rv : Value} {ft fw : Nat} {At : σ → World → Prop} {most : Int} {B b : Nat} {own : Nat → Prop} (K : Kind R B own T rv ft fw At) (hB : B ≤ b) (hno : ¬ own b) (hm : 0 ≤ most ∧ most ≤ 255)
    (hfr : ∀ st w w' o k, Typed w b 228 → At st w → Wrote b o k w w' → At st w') (p : Pre σ) (r : Int) (w : World) (h : PreIn T rv At most b p w) (hr : 0 ≤ r ∧ r < 2147483648) :
    Calls Tryz.prog 237 #[.pointer (some ⟨b, 0, none⟩), .int .i32 r] w fun e w' => PreTook R T rv At most B b own p r w e w' := by
  have HH : Hid (PreIn T rv At most b p w) := h
  obtain ⟨hin, c0, c1, c2, c3, c4, hok, hty⟩ := h
  generalize hQ : (fun e w' => PreTook R T rv At most B b own p r w e w') = Q
  have HQ : Hid _ := hQ
  clear hQ
  cases hs : p.slashed
  · rw [hs] at c2
    have mT := K.findT
    have mW := K.findW
    have eT := K.entT
    have eW := K.entW
    have HW : Hid _ := K.whole p.addr w hin
    have HT : Hid _ := K.take p.addr w r hin hr
    have HS : Hid _ := hs
    have hop := hty.open 2
    by_cases h47 : r = 47
    · subst h47
      cases hw : R.whole p.addr
      · rw [hw] at HW
        have HWW : Hid _ := hw
        clear K hin c1 c3 c4 hok hw hs
        go_enter Tryz.func237, Tryz.ntmps237
        go_wp2_with fail
        refine Calls.mono HW.out ?_
        rintro e w1 ⟨rfl, rfl⟩
        go_wp2_with fail
        refine Calls.mono HT.out ?_
        intro e w2 hT
        have hP := pre_inner hno HH.out HS.out (fun k => by have := k.2; rw [HWW.out] at this; cases this) hT
        obtain ⟨rfl, _⟩ := hT
        go_wp2
        rw [← HQ.out]
        exact hP
      · rw [hw] at HW
        have HWW : Hid _ := hw
        clear K c1 c3 c4 hw hs
        go_enter Tryz.func237, Tryz.ntmps237
        go_wp2_with fail
        refine Calls.mono HW.out ?_
        rintro e w1 ⟨rfl, rfl⟩
        have hwr := (Wrote.refl b 2 1 w1).set (i := 2) (by omega) (.bool true)
        go_wp2
        rw [← HQ.out]
        have e1 : preTake R most p 47 = some { p with slashed := true } := by
          unfold preTake
          rw [if_neg (by rw [HS.out]; decide), if_pos ⟨rfl, HWW.out⟩]
        have hh := HH.out
        refine ⟨by rw [e1]; rfl, (hwr.turns hB).mono (fun k hk => .inr hk), fun p' hp' => ?_⟩
        rw [e1] at hp'
        cases hp'
        exact ⟨hfr _ _ _ _ _ hh.typed hh.inner hwr, (hwr.cell 0 (by omega)).trans hh.c0, (hwr.cell 1 (by omega)).trans hh.c1, World.cell?_setCell_same _ _ _ hh.c2, (hwr.cell 3 (by omega)).trans hh.c3, (hwr.cell 4 (by omega)).trans hh.c4, hh.ok, hh.typed.wrote hwr⟩
    · have q47 : (r == 47) = false := by simpa using h47
      clear K hin c1 c3 c4 hok hs HW
      go_enter Tryz.func237, Tryz.ntmps237
      go_wp2_with fail
      refine Calls.mono HT.out ?_
      intro e w2 hT
      have hP := pre_inner hno HH.out HS.out (fun k => h47 k.1) hT
      obtain ⟨rfl, _⟩ := hT
      go_wp2
      rw [← HQ.out]
      exact hP
  · rw [hs] at c2
    have HN : Hid _ := num_take p.num r most b 3 w.drew hok hm.2 hr c3 c4 hty.open
    have HS : Hid _ := hs
    clear K hin c3 c4 hok hs
    have HD : Hid (∀ e w2, NumTook (p.num.take r most) b 3 w.drew e w2 → PreTook R T rv At most B b own p r w e w2 ∧ e = .returned (.bool (p.num.take r most).isSome)) := by
      intro e w2 hT
      have e1 : preTake R most p r = (p.num.take r most).map (fun n => { p with num := n }) := by
        unfold preTake
        rw [if_pos HS.out]
      have hh := HH.out
      unfold NumTook at hT
      cases hn : p.num.take r most with
      | none =>
        rw [hn] at hT e1
        obtain ⟨rfl, rfl⟩ := hT
        exact ⟨⟨by rw [e1]; rfl, (Turns.refl _ _ _).drew, fun p' hp' => by rw [e1] at hp'; cases hp'⟩, rfl⟩
      | some n' =>
        rw [hn] at hT e1
        obtain ⟨rfl, hw2⟩ := hT
        have hwr := (((Wrote.refl b 3 2 w).drew).set (i := 3) (by omega) (.int .i64 n'.value)).set (i := 4) (by omega) (.bool n'.begun)
        rw [← hw2] at hwr
        have hk := Num.take_ok hn hh.ok
        have d3 : w2.cell? ⟨b, 3, none⟩ = some (.int .i64 n'.value) := by
          rw [hw2, World.cell?_setCell_other _ _ _ _ (by intro k; injection k; omega)]
          exact World.cell?_setCell_same _ _ _ hh.c3
        have d4 : w2.cell? ⟨b, 4, none⟩ = some (.bool n'.begun) := by
          rw [hw2]
          have c4' : (w.drew.setCell ⟨b, 3, none⟩ (.int .i64 n'.value)).cell? ⟨b, 4, none⟩ = some (.bool p.num.begun) := by
            rw [World.cell?_setCell_other _ _ _ _ (by intro k; injection k; omega)]
            exact hh.c4
          exact World.cell?_setCell_same _ _ _ c4'
        refine ⟨⟨by rw [e1]; rfl, (hwr.turns hB).mono (fun k hk => .inr hk), fun p' hp' => ?_⟩, rfl⟩
        rw [e1] at hp'
        simp at hp'
        subst hp'
        exact ⟨hfr _ _ _ _ _ hh.typed hh.inner hwr, (hwr.cell 0 (by omega)).trans hh.c0, (hwr.cell 1 (by omega)).trans hh.c1, (hwr.cell 2 (by omega)).trans hh.c2, d3, d4, hk, hh.typed.wrote hwr⟩
    go_enter Tryz.func237, Tryz.ntmps237
    go_wp2_with fail
    go_region_with (go_at_call 235; refine Calls.mono HN.out ?_; intro e w2 hT; have hP := HD.out e w2 hT; obtain ⟨hP, rfl⟩ := hP)
    go_wp2
    go_ret
    rw [← HQ.out]
    exact hP

end Go.Proofs.YtaebknkjhhcneaaGreatDoor

namespace Go.Proofs.YtaebknkjhhcneaaGreatDoor
open Go Go.RowKit
set_option linter.unusedVariables false
set_option linter.unusedSimpArgs false

set_option maxHeartbeats 1000000 in
set_option maxRecDepth 100000 in
theorem pre_whole (begun : Bool) (b : Nat) (w : World) (c4 : w.cell? ⟨b, 4, none⟩ = some (.bool begun)) :
    Calls Tryz.prog 238 #[.pointer (some ⟨b, 0, none⟩)] w fun e w' => e = .returned (.bool begun) ∧ w' = w := by
  go_enter Tryz.func238, Tryz.ntmps238
  go_wp2
  go_ret
  exact ⟨rfl, rfl⟩

theorem PreIn.move {σ : Type} {T : TypeId} {rv : Value} {At : σ → World → Prop} {most : Int} {b : Nat} {p : Pre σ} {w w' : World} (h : PreIn T rv At most b p w) (ha : At p.addr w') (hb : w'.heap[b]? = w.heap[b]?) : PreIn T rv At most b p w' := by
  have ec := fun i => World.cell?_of_block (a := ⟨b, i, none⟩) hb
  obtain ⟨cs, hcs⟩ := h.typed
  exact ⟨ha, (ec 0).trans h.c0, (ec 1).trans h.c1, (ec 2).trans h.c2, (ec 3).trans h.c3, (ec 4).trans h.c4, h.ok, ⟨cs, hb.trans hcs⟩⟩

theorem pre_kind {σ : Type} {R : Reader σ} {T : TypeId} {rv : Value} {ft fw : Nat} {At : σ → World → Prop} {most : Int} {B b : Nat} {own : Nat → Prop} (K : Kind R B own T rv ft fw At) (hB : B ≤ b) (hno : ¬ own b) (hm : 0 ≤ most ∧ most ≤ 255)
    (hfr : ∀ st w w' o k, Typed w b 228 → At st w → Wrote b o k w w' → At st w') :
    Kind (preReader R most) B (fun j => own j ∨ j = b) 229 (.pointer (some ⟨b, 0, none⟩)) 237 238 (PreIn T rv At most b) where
  findT := fun w => by kernel_rfl
  findW := fun w => by kernel_rfl
  entT := fun args w => by kernel_rfl
  entW := fun args w => by kernel_rfl
  take := fun p w r h hr => (pre_take K hB hno hm hfr p r w h hr).mono fun e w' hT => hT
  whole := fun p w h => pre_whole p.num.begun b w h.c4
  step := fun p w k s pos pos' h hk => by
    obtain ⟨_, h2⟩ := h.typed.iterAt hk pos'
    exact h.move (K.step _ _ _ _ _ _ h.inner hk) (Lib.iterAt_other w k b s pos' h2)
  alloc := fun p w o h => by
    obtain ⟨cs, hc⟩ := h.typed
    exact h.move (K.alloc _ _ _ h.inner) (Below.heap_alloc w o b (Array.getElem?_eq_some_iff.1 hc).1)

/-- A dotted stays where another block is written. -/
theorem dot_frame {b c : Nat} (hne : c ≠ b) (st : Dot) (w w' : World) (o k : Nat) (ht : Typed w b 228) (h : DotIn c st w) (g : Wrote b o k w w') : DotIn c st w' := by
  have ec := fun i => World.cell?_of_block (a := ⟨c, i, none⟩) (g.other c hne)
  obtain ⟨cs, hcs⟩ := h.typed
  exact ⟨⟨(ec _).trans h.cells.c0, (ec _).trans h.cells.c1, (ec _).trans h.cells.c2, (ec _).trans h.cells.c3, (ec _).trans h.cells.c4, (ec _).trans h.cells.c5⟩, h.ok, ⟨cs, (g.other c hne).trans hcs⟩⟩

end Go.Proofs.YtaebknkjhhcneaaGreatDoor

namespace Go.Proofs.YtaebknkjhhcneaaGreatDoor
open Go Go.RowKit
set_option linter.unusedVariables false
set_option linter.unusedSimpArgs false

theorem ex_loadG {o : Oper} {a : Act} {W : World} (k : Nat) {p : Addr} {x : Int} (hop : o.op = Op.load 3 (.tmp k)) (hk : a.eval (.tmp k) = .pointer (some p)) (hc : W.cell? p = some (.int .i64 x)) :
    (execOp a.eval o).run Tryz.prog W = .ok (.value (.int .i64 x)) W := by
  generalize a.eval = ev at *
  simp [execOp, hop, hk, go_sem, hc]
theorem region_midG {P : Program} {id : Nat} {ops : Array Oper} {Q : Exit → Act → World → Prop} {a : Act} {w : World} (M : Act → Act → World → Prop) (h : (Code.region id ops true).wp P (fun e a' w' => match e with | .normal => M a a' w' | _ => False) a w) (hM : ∀ a' w', M a a' w' → Q .normal a' w') : (Code.region id ops true).wp P Q a w :=
  wp_mono h (fun e a' w' hm => by cases e <;> first | exact hM a' w' hm | exact hm.elim)
theorem callG {P : Program} {f : FuncId} {vs : Array Value} {w : World} {v : Value} {B : World → Prop} (h : Calls P f vs w fun e w' => e = .returned v ∧ B w') : Calls P f vs w fun e w' => ∃ v', e = .returned v' ∧ (v' = v ∧ B w') :=
  h.mono fun e w' k => ⟨v, k.1, rfl, k.2⟩

end Go.Proofs.YtaebknkjhhcneaaGreatDoor

namespace Go.Proofs.YtaebknkjhhcneaaGreatDoor
open Go Go.RowKit Go.ChangeShapes Go.WideShapes Go.ChangeAt
set_option linter.unusedVariables false
set_option linter.unusedSimpArgs false


set_option maxHeartbeats 2000000 in
set_option maxRecDepth 100000 in
theorem RMap_any (r : Ru) (hr : r.In) (y : List Int) (yf : FitB y) (yl : y.length = 4) (n : Nat) (hn : n < 65536) (w : World) :
    Calls Tryz.prog 55 #[RV r, A4L y, .int .u16 n] w fun e w' => e = .returned (mapE r y n) ∧ Below w.heap.size w w' := by
  generalize hQ : (fun (e : Ending) (w' : World) => e = .returned (mapE r y n) ∧ Below w.heap.size w w') = Q
  have HQ : Hid _ := hQ
  clear hQ
  obtain ⟨hb, hby, hbz, hBw⟩ := three_box w (RO r) (YO y) (.cells zero16V.toArray 24)
  have HOF : Hid _ := fun W => ROf_r r hr y yf yl n hn W
  have HLR : Hid _ := (RuAt.of hr hb).ldR
  have HLY : Hid _ := load_y yl hby
  generalize hW : ((w.alloc (RO r)).alloc (YO y)).alloc (.cells zero16V.toArray 24) = W at *
  by_cases h0 : (ofV r y n).2 = 0
  · obtain ⟨hok, hck, hlt⟩ := of_ok hr h0
    have hE : mapE r y n = .tuple #[A6 (ownL r (ofV r y n).1), .int .i64 0] := by unfold mapE; rw [if_pos h0]
    rw [hE] at HQ
    rw [h0] at HOF
    have HED : Hid _ := fun W => redge_any r hok (ofV r y n).1 hlt W
    have hkw := ownL_length (v := (ofV r y n).1) hok
    have hk4 : (edg r (ofV r y n).1).l4.length = 4 := by rw [edg_l4]; exact v4L_length hok
    have hk6 : (edg r (ofV r y n).1).l6.length = 16 := by rw [edg_l6]; exact endL_length hok
    have p4 : (edC (edg r (ofV r y n).1)).toArray.extract 25 41 = (u8s (ownL r (ofV r y n).1)).toArray := by
      have l4 := cp4_length _ (edg r (ofV r y n).1).n4 hk4
      have l6 := cp6_length _ (edg r (ofV r y n).1).n6 hk6
      have := arr_cut (cp4 (edg r (ofV r y n).1).l4 (edg r (ofV r y n).1).n4 ++ PSL (edg r (ofV r y n).1).o (edg r (ofV r y n).1).l (edg r (ofV r y n).1).p ++ cp6 (edg r (ofV r y n).1).l6 (edg r (ofV r y n).1).n6) (b8 (ownL r (ofV r y n).1)) [] (n := 25) (m := 41) (by simp [l4, l6]) (by rw [b8_length, hkw])
      have e2 : edC (edg r (ofV r y n).1) = cp4 (edg r (ofV r y n).1).l4 (edg r (ofV r y n).1).n4 ++ PSL (edg r (ofV r y n).1).o (edg r (ofV r y n).1).l (edg r (ofV r y n).1).p ++ cp6 (edg r (ofV r y n).1).l6 (edg r (ofV r y n).1).n6 ++ (b8 (ownL r (ofV r y n).1) ++ []) := by
        rw [edC, edg_ow]; simp
      rw [e2]
      exact this
    unfold EV at HED
    generalize (ofV r y n).1 = v at *
    generalize (edC (edg r v)).toArray = z at *
    generalize ownL r v = ow at *
    clear hE h0 hok hck hlt hk4 hk6
    go_enter Tryz.func55, Tryz.ntmps55
    go_wp2_with first
      | ((with_reducible show wpList _ _ _ _ _ _); refine armL (.tmp 3) 65 rfl rfl rfl HLR.out ?_)
      | ((with_reducible show wpList _ _ _ _ _ _); refine armL (.tmp 4) 61 rfl rfl rfl HLY.out ?_)
    refine (HOF.out _).mono ?_
    rintro e w2 ⟨rfl, hB2⟩
    have HL2 : Hid _ := (RuAt.of hr (blk_on hb hB2)).ldR
    go_wp2_with first
      | ((with_reducible show wpList _ _ _ _ _ _); refine armL (.tmp 3) 65 rfl rfl rfl HL2.out ?_)
    refine (HED.out _).mono ?_
    rintro e w3 ⟨rfl, hB3⟩
    have hB23 := hB2.trans (hB3.mono hB2.size)
    obtain ⟨wE, hst, bE, hon⟩ := box_store Tryz.sizeOf24 (blk_on hbz hB23) rfl (u8s ow) (by rw [u8s_length, hkw]) (u8s_one _)
    have HLV : Hid _ := agg_loadVar (t := 24) Tryz.isAgg24 Tryz.sizeOf24 (by rw [u8s_length, hkw]) (CellsAt.of_blk bE)
    have HST : Hid _ := hst
    have HBE : Hid (Below w.heap.size w wE) := (hBw.trans (hB23.mono hBw.size)).trans (hon.below (by omega))
    have hfld : ∀ W, (Instr.field 69 (.agg z) 3).run Tryz.prog W = .ok (.agg (u8s ow).toArray) W := by
      intro W
      simp [Instr.field, go_sem, asAgg, p4, Result.andThen]
    clear hst bE hon
    go_wp2_with first
      | ((with_reducible show wpList _ _ _ _ _ _); refine armS (.tmp 6) (.tmp 24) 24 rfl rfl rfl rfl HST.out ?_)
    refine bodyPost_ret (res2c Tryz.results55 rfl HLV.out) rfl ?_
    rw [← HQ.out]
    exact ⟨rfl, HBE.out⟩
  · have hE : mapE r y n = .tuple #[.agg zero16V.toArray, .int .i64 (ofV r y n).2] := by unfold mapE; rw [if_neg h0]
    rw [hE] at HQ
    have q0 : ((ofV r y n).2 != 0) = true := by simpa using h0
    clear hE h0
    generalize (ofV r y n).2 = ce at *
    generalize (ofV r y n).1 = v at *
    go_enter Tryz.func55, Tryz.ntmps55
    go_wp2_with first
      | ((with_reducible show wpList _ _ _ _ _ _); refine armL (.tmp 3) 65 rfl rfl rfl HLR.out ?_)
      | ((with_reducible show wpList _ _ _ _ _ _); refine armL (.tmp 4) 61 rfl rfl rfl HLY.out ?_)
    refine (HOF.out _).mono ?_
    rintro e w2 ⟨rfl, hB2⟩
    obtain ⟨wE, hst, bE, hon⟩ := box_store Tryz.sizeOf24 (blk_on hbz hB2) rfl zero16V rfl (by decide)
    have HLV : Hid _ := agg_loadVar (t := 24) Tryz.isAgg24 Tryz.sizeOf24 rfl (CellsAt.of_blk bE)
    have HST : Hid _ := hst
    have HBE : Hid (Below w.heap.size w wE) := (hBw.trans (hB2.mono hBw.size)).trans (hon.below (by omega))
    clear hst bE hon
    go_wp2_with first
      | ((with_reducible show wpList _ _ _ _ _ _); refine armS (.tmp 6) (.tmp 19) 24 rfl rfl rfl rfl HST.out ?_)
      | ((with_reducible show wpList _ _ _ _ _ _); refine armV (Op.build 24 #[]) rfl rfl (v := .agg zero16V.toArray) (by kernel_rfl) ?_)
    refine bodyPost_ret (res2c Tryz.results55 rfl HLV.out) rfl ?_
    rw [← HQ.out]
    exact ⟨rfl, HBE.out⟩


end Go.Proofs.YtaebknkjhhcneaaGreatDoor
