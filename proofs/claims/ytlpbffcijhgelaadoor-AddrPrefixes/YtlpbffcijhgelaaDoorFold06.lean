/-
  A prefix's text as a kind of letters: an address's kind, a slash, and a number.
  A prefix's text as a kind of letters: what it owes.
  Prefix6.
  The statement AddrBack for every argument.
  The statement AddrBack for every argument.
  Prefix4.
-/
import Derived.Test.YtlpbffcijhgelaaDoorAddrParse4
import Derived.Test.YtlpbffcijhgelaaDoorFold00
import Derived.Test.YtlpbffcijhgelaaDoorFold01
import Derived.Test.YtlpbffcijhgelaaDoorFold04
import Derived.Test.YtlpbffcijhgelaaDoorShelf
import Derived.Test.YtlpbffcijhgelaaDoorFold05
import Derived.Test.YtlpbffcijhgelaaDoorAddrChk2
namespace Go.Proofs.YtlpbffcijhgelaaDoor
open Go Go.RowKit
set_option linter.unusedVariables false
set_option linter.unusedSimpArgs false

/-- A prefixed in a block of its own. -/
structure PreIn {σ : Type} (T : TypeId) (rv : Value) (At : σ → World → Prop) (most : Int) (b : Nat) (p : Pre σ) (w : World) : Prop where
  inner : At p.addr w
  c0 : w.cell? ⟨b, 0, none⟩ = some (.iface T rv)
  c1 : w.cell? ⟨b, 1, none⟩ = some (.int .i64 most)
  c2 : w.cell? ⟨b, 2, none⟩ = some (.bool p.slashed)
  c3 : w.cell? ⟨b, 3, none⟩ = some (.int .i64 p.num.value)
  c4 : w.cell? ⟨b, 4, none⟩ = some (.bool p.num.begun)
  ok : p.num.Ok most
  typed : Typed w b 105

def PreTook {σ : Type} (R : Reader σ) (T : TypeId) (rv : Value) (At : σ → World → Prop) (most : Int) (B b : Nat) (own : Nat → Prop) (p : Pre σ) (r : Int) (w : World) (e : Ending) (w' : World) : Prop :=
  e = .returned (.bool (preTake R most p r).isSome) ∧ Turns B (fun j => own j ∨ j = b) w w' ∧ ∀ p', preTake R most p r = some p' → PreIn T rv At most b p' w'

theorem pre_inner {σ : Type} {R : Reader σ} {T : TypeId} {rv : Value} {At : σ → World → Prop} {most : Int} {B b : Nat} {own : Nat → Prop} {p : Pre σ} {r : Int} {w : World} {e : Ending} {w' : World} (hno : ¬ own b) (h : PreIn T rv At most b p w)
    (hs : p.slashed = false) (hc : ¬ (r = 47 ∧ R.whole p.addr = true)) (hT : e = .returned (.bool (R.take p.addr r).isSome) ∧ Turns B own w w' ∧ ∀ st', R.take p.addr r = some st' → At st' w') : PreTook R T rv At most B b own p r w e w' := by
  obtain ⟨he, ht, ha⟩ := hT
  have e1 : preTake R most p r = (R.take p.addr r).map (fun a => { p with addr := a }) := by
    unfold preTake
    rw [if_neg (by rw [hs]; decide), if_neg hc]
  obtain ⟨cs, hcs⟩ := h.typed
  have hb : w'.heap[b]? = w.heap[b]? := (ht.kept b _ hcs hno (fun c fz k => by injection k with k1 k2; exact absurd k2 (by decide))).trans hcs.symm
  have ec := fun i => World.cell?_of_block (a := ⟨b, i, none⟩) hb
  refine ⟨by rw [he, e1, Option.isSome_map], ht.mono (fun k hk => .inl hk), fun p' hp' => ?_⟩
  rw [e1] at hp'
  cases hr : R.take p.addr r with
  | none => rw [hr] at hp'; cases hp'
  | some st' =>
    rw [hr] at hp'
    simp at hp'
    subst hp'
    exact ⟨ha st' hr, (ec 0).trans h.c0, (ec 1).trans h.c1, (ec 2).trans h.c2, (ec 3).trans h.c3, (ec 4).trans h.c4, h.ok, ⟨cs, hb.trans hcs⟩⟩

set_option maxHeartbeats 4000000 in
set_option maxRecDepth 100000 in
theorem pre_take {σ : Type} {R : Reader σ} {T : TypeId} {rv : Value} {ft fw : Nat} {At : σ → World → Prop} {most : Int} {B b : Nat} {own : Nat → Prop} (K : Kind R B own T rv ft fw At) (hB : B ≤ b) (hno : ¬ own b) (hm : 0 ≤ most ∧ most ≤ 255)
    (hfr : ∀ st w w' o k, Typed w b 105 → At st w → Wrote b o k w w' → At st w') (p : Pre σ) (r : Int) (w : World) (h : PreIn T rv At most b p w) (hr : 0 ≤ r ∧ r < 2147483648) :
    Calls Tryd.prog 130 #[.pointer (some ⟨b, 0, none⟩), .int .i32 r] w fun e w' => PreTook R T rv At most B b own p r w e w' := by
  have HH : Hid (PreIn T rv At most b p w) := h
  obtain ⟨hin, c0, c1, c2, c3, c4, hok, hty⟩ := h
  generalize hQ : (fun e w' => PreTook R T rv At most B b own p r w e w') = Q
  have HQ : Hid _ := hQ
  clear hQ
  cases hs : p.slashed
  · rw [hs] at c2
    have mT := K.findT
    have mW := K.findW
    have eT := K.entT
    have eW := K.entW
    have HW : Hid _ := K.whole p.addr w hin
    have HT : Hid _ := K.take p.addr w r hin hr
    have HS : Hid _ := hs
    have hop := hty.open 2
    by_cases h47 : r = 47
    · subst h47
      cases hw : R.whole p.addr
      · rw [hw] at HW
        have HWW : Hid _ := hw
        clear K hin c1 c3 c4 hok hw hs
        go_enter Tryd.func130, Tryd.ntmps130
        go_wp2_with fail
        refine Calls.mono HW.out ?_
        rintro e w1 ⟨rfl, rfl⟩
        go_wp2_with fail
        refine Calls.mono HT.out ?_
        intro e w2 hT
        have hP := pre_inner hno HH.out HS.out (fun k => by have := k.2; rw [HWW.out] at this; cases this) hT
        obtain ⟨rfl, _⟩ := hT
        go_wp2
        rw [← HQ.out]
        exact hP
      · rw [hw] at HW
        have HWW : Hid _ := hw
        clear K c1 c3 c4 hw hs
        go_enter Tryd.func130, Tryd.ntmps130
        go_wp2_with fail
        refine Calls.mono HW.out ?_
        rintro e w1 ⟨rfl, rfl⟩
        have hwr := (Wrote.refl b 2 1 w1).set (i := 2) (by omega) (.bool true)
        go_wp2
        rw [← HQ.out]
        have e1 : preTake R most p 47 = some { p with slashed := true } := by
          unfold preTake
          rw [if_neg (by rw [HS.out]; decide), if_pos ⟨rfl, HWW.out⟩]
        have hh := HH.out
        refine ⟨by rw [e1]; rfl, (hwr.turns hB).mono (fun k hk => .inr hk), fun p' hp' => ?_⟩
        rw [e1] at hp'
        cases hp'
        exact ⟨hfr _ _ _ _ _ hh.typed hh.inner hwr, (hwr.cell 0 (by omega)).trans hh.c0, (hwr.cell 1 (by omega)).trans hh.c1, World.cell?_setCell_same _ _ _ hh.c2, (hwr.cell 3 (by omega)).trans hh.c3, (hwr.cell 4 (by omega)).trans hh.c4, hh.ok, hh.typed.wrote hwr⟩
    · have q47 : (r == 47) = false := by simpa using h47
      clear K hin c1 c3 c4 hok hs HW
      go_enter Tryd.func130, Tryd.ntmps130
      go_wp2_with fail
      refine Calls.mono HT.out ?_
      intro e w2 hT
      have hP := pre_inner hno HH.out HS.out (fun k => h47 k.1) hT
      obtain ⟨rfl, _⟩ := hT
      go_wp2
      rw [← HQ.out]
      exact hP
  · rw [hs] at c2
    have HN : Hid _ := num_take p.num r most b 3 w.drew hok hm.2 hr c3 c4 hty.open
    have HS : Hid _ := hs
    clear K hin c3 c4 hok hs
    have HD : Hid (∀ e w2, NumTook (p.num.take r most) b 3 w.drew e w2 → PreTook R T rv At most B b own p r w e w2 ∧ e = .returned (.bool (p.num.take r most).isSome)) := by
      intro e w2 hT
      have e1 : preTake R most p r = (p.num.take r most).map (fun n => { p with num := n }) := by
        unfold preTake
        rw [if_pos HS.out]
      have hh := HH.out
      unfold NumTook at hT
      cases hn : p.num.take r most with
      | none =>
        rw [hn] at hT e1
        obtain ⟨rfl, rfl⟩ := hT
        exact ⟨⟨by rw [e1]; rfl, (Turns.refl _ _ _).drew, fun p' hp' => by rw [e1] at hp'; cases hp'⟩, rfl⟩
      | some n' =>
        rw [hn] at hT e1
        obtain ⟨rfl, hw2⟩ := hT
        have hwr := (((Wrote.refl b 3 2 w).drew).set (i := 3) (by omega) (.int .i64 n'.value)).set (i := 4) (by omega) (.bool n'.begun)
        rw [← hw2] at hwr
        have hk := Num.take_ok hn hh.ok
        have d3 : w2.cell? ⟨b, 3, none⟩ = some (.int .i64 n'.value) := by
          rw [hw2, World.cell?_setCell_other _ _ _ _ (by intro k; injection k; omega)]
          exact World.cell?_setCell_same _ _ _ hh.c3
        have d4 : w2.cell? ⟨b, 4, none⟩ = some (.bool n'.begun) := by
          rw [hw2]
          have c4' : (w.drew.setCell ⟨b, 3, none⟩ (.int .i64 n'.value)).cell? ⟨b, 4, none⟩ = some (.bool p.num.begun) := by
            rw [World.cell?_setCell_other _ _ _ _ (by intro k; injection k; omega)]
            exact hh.c4
          exact World.cell?_setCell_same _ _ _ c4'
        refine ⟨⟨by rw [e1]; rfl, (hwr.turns hB).mono (fun k hk => .inr hk), fun p' hp' => ?_⟩, rfl⟩
        rw [e1] at hp'
        simp at hp'
        subst hp'
        exact ⟨hfr _ _ _ _ _ hh.typed hh.inner hwr, (hwr.cell 0 (by omega)).trans hh.c0, (hwr.cell 1 (by omega)).trans hh.c1, (hwr.cell 2 (by omega)).trans hh.c2, d3, d4, hk, hh.typed.wrote hwr⟩
    go_enter Tryd.func130, Tryd.ntmps130
    go_wp2_with fail
    go_region_with (go_at_call 121; refine Calls.mono HN.out ?_; intro e w2 hT; have hP := HD.out e w2 hT; obtain ⟨hP, rfl⟩ := hP)
    go_wp2
    go_ret
    rw [← HQ.out]
    exact hP

end Go.Proofs.YtlpbffcijhgelaaDoor

namespace Go.Proofs.YtlpbffcijhgelaaDoor
open Go Go.RowKit
set_option linter.unusedVariables false
set_option linter.unusedSimpArgs false

set_option maxHeartbeats 1000000 in
set_option maxRecDepth 100000 in
theorem pre_whole (begun : Bool) (b : Nat) (w : World) (c4 : w.cell? ⟨b, 4, none⟩ = some (.bool begun)) :
    Calls Tryd.prog 131 #[.pointer (some ⟨b, 0, none⟩)] w fun e w' => e = .returned (.bool begun) ∧ w' = w := by
  go_enter Tryd.func131, Tryd.ntmps131
  go_wp2
  go_ret
  exact ⟨rfl, rfl⟩

theorem PreIn.move {σ : Type} {T : TypeId} {rv : Value} {At : σ → World → Prop} {most : Int} {b : Nat} {p : Pre σ} {w w' : World} (h : PreIn T rv At most b p w) (ha : At p.addr w') (hb : w'.heap[b]? = w.heap[b]?) : PreIn T rv At most b p w' := by
  have ec := fun i => World.cell?_of_block (a := ⟨b, i, none⟩) hb
  obtain ⟨cs, hcs⟩ := h.typed
  exact ⟨ha, (ec 0).trans h.c0, (ec 1).trans h.c1, (ec 2).trans h.c2, (ec 3).trans h.c3, (ec 4).trans h.c4, h.ok, ⟨cs, hb.trans hcs⟩⟩

theorem pre_kind {σ : Type} {R : Reader σ} {T : TypeId} {rv : Value} {ft fw : Nat} {At : σ → World → Prop} {most : Int} {B b : Nat} {own : Nat → Prop} (K : Kind R B own T rv ft fw At) (hB : B ≤ b) (hno : ¬ own b) (hm : 0 ≤ most ∧ most ≤ 255)
    (hfr : ∀ st w w' o k, Typed w b 105 → At st w → Wrote b o k w w' → At st w') :
    Kind (preReader R most) B (fun j => own j ∨ j = b) 106 (.pointer (some ⟨b, 0, none⟩)) 130 131 (PreIn T rv At most b) where
  findT := fun w => by kernel_rfl
  findW := fun w => by kernel_rfl
  entT := fun args w => by kernel_rfl
  entW := fun args w => by kernel_rfl
  take := fun p w r h hr => (pre_take K hB hno hm hfr p r w h hr).mono fun e w' hT => hT
  whole := fun p w h => pre_whole p.num.begun b w h.c4
  step := fun p w k s pos pos' h hk => by
    obtain ⟨_, h2⟩ := h.typed.iterAt hk pos'
    exact h.move (K.step _ _ _ _ _ _ h.inner hk) (Lib.iterAt_other w k b s pos' h2)
  alloc := fun p w o h => by
    obtain ⟨cs, hc⟩ := h.typed
    exact h.move (K.alloc _ _ _ h.inner) (Below.heap_alloc w o b (Array.getElem?_eq_some_iff.1 hc).1)

/-- A dotted stays where another block is written. -/
theorem dot_frame {b c : Nat} (hne : c ≠ b) (st : Dot) (w w' : World) (o k : Nat) (ht : Typed w b 105) (h : DotIn c st w) (g : Wrote b o k w w') : DotIn c st w' := by
  have ec := fun i => World.cell?_of_block (a := ⟨c, i, none⟩) (g.other c hne)
  obtain ⟨cs, hcs⟩ := h.typed
  exact ⟨⟨(ec _).trans h.cells.c0, (ec _).trans h.cells.c1, (ec _).trans h.cells.c2, (ec _).trans h.cells.c3, (ec _).trans h.cells.c4, (ec _).trans h.cells.c5⟩, h.ok, ⟨cs, (g.other c hne).trans hcs⟩⟩

end Go.Proofs.YtlpbffcijhgelaaDoor

namespace Go.Proofs.YtlpbffcijhgelaaDoor
open Go Go.RowKit
set_option linter.unusedVariables false
set_option linter.unusedSimpArgs false

/-- What was read whole had a whole address ahead of its slash. -/
theorem pre_whole_addr {σ : Type} {R : Reader σ} {most : Int} : ∀ (l : List UInt8) (pos : Nat) (p p' : Pre σ), (p.slashed = true → R.whole p.addr = true) → (p.num.begun = true → p.slashed = true) → (preReader R most).read l pos p = .good p' → R.whole p'.addr = true
  | [], pos, p, p', h1, h2, h => by
    unfold Reader.read at h
    split at h
    · rename_i hw
      injection h with h
      rw [← h]
      exact h1 (h2 hw)
    · cases h
  | c :: l, pos, p, p', h1, h2, h => by
    unfold Reader.read at h
    split at h
    · cases h
    · rename_i q hq
      refine pre_whole_addr l _ q p' ?_ ?_ h
      · have hq' : preTake R most p c.toNat = some q := hq
        unfold preTake at hq'
        split at hq'
        · rename_i hs
          obtain ⟨n, _, rfl⟩ := Option.map_eq_some_iff.1 hq'
          exact h1
        · split at hq'
          · rename_i hs hc
            cases hq'
            exact fun _ => hc.2
          · rename_i hs hc
            obtain ⟨n, _, rfl⟩ := Option.map_eq_some_iff.1 hq'
            exact fun e => absurd e hs
      · have hq' : preTake R most p c.toNat = some q := hq
        unfold preTake at hq'
        split at hq'
        · rename_i hs
          obtain ⟨n, _, rfl⟩ := Option.map_eq_some_iff.1 hq'
          exact fun _ => hs
        · split at hq'
          · cases hq'
            exact fun _ => rfl
          · obtain ⟨n, _, rfl⟩ := Option.map_eq_some_iff.1 hq'
            exact h2

/-- A grouped stays where another block is written. -/
theorem grp_frame {B b c : Nat} (hne : c ≠ b) (st : Grp) (w w' : World) (o k : Nat) (ht : Typed w b 105) (h : GrpIn B c st w) (g : Wrote b o k w w') : GrpIn B c st w' :=
  ⟨h.cells.move (g.other c hne) (fun G cs hG => g.other G (fun e => by
    obtain ⟨cs', hc⟩ := ht
    rw [e, hc] at hG
    cases hG)), h.ok⟩

def PxPost (v : Value) (w : World) (e : Ending) (w' : World) : Prop := e = .returned v ∧ Below w.heap.size w w'

theorem Grp.addr_fit {g : Grp} (hk : g.Ok) : FitB g.addr := by
  have h1 : FitB g.given := by
    unfold Grp.given
    intro z hz
    have hv := hk.value
    split at hz
    · rcases List.mem_append.1 hz with h | h
      · exact ⟨(hk.bytes z h).1, by have := (hk.bytes z h).2; omega⟩
      · unfold Dot.addr at h
        have t0 := hk.tail.e0; have t1 := hk.tail.e1; have t2 := hk.tail.e2; have t3 := hk.tail.num
        simp only [List.mem_cons, List.not_mem_nil, or_false] at h
        rcases h with rfl | rfl | rfl | rfl
        · exact ⟨t0.1, by have := t0.2; omega⟩
        · exact ⟨t1.1, by have := t1.2; omega⟩
        · exact ⟨t2.1, by have := t2.2; omega⟩
        · exact ⟨t3.1, by have := t3.2; omega⟩
    · split at hz
      · rcases List.mem_append.1 hz with h | h
        · exact ⟨(hk.bytes z h).1, by have := (hk.bytes z h).2; omega⟩
        · simp only [List.mem_cons, List.not_mem_nil, or_false] at h
          rcases h with rfl | rfl <;> omega
      · exact ⟨(hk.bytes z hz).1, by have := (hk.bytes z hz).2; omega⟩
  unfold Grp.addr
  split
  · intro z hz
    rcases List.mem_append.1 hz with h | h
    · rcases List.mem_append.1 h with h | h
      · exact h1 z (List.mem_of_mem_take h)
      · rw [(List.mem_replicate.1 h).2]
        decide
    · exact h1 z (List.mem_of_mem_drop h)
  · exact h1

def Pre.new6 : Pre Grp := ⟨Grp.new, false, ⟨0, false⟩⟩

theorem pre6_kind (n : Nat) : Kind (preReader grpReader 128) (n + 1) (fun j => j = n + 1 ∨ j = n + 2) 106 (.pointer (some ⟨n + 2, 0, none⟩)) 130 131 (PreIn 85 (.pointer (some ⟨n + 1, 0, none⟩)) (GrpIn (n + 1) (n + 1)) 128 (n + 2)) :=
  pre_kind (grp_kind (B := n + 1) (b := n + 1)) (by omega) (by omega) (by decide) (grp_frame (by omega))

def prefix6E (l : List UInt8) (x : End (Pre Grp)) : Value :=
  match x with
  | .bad n => .tuple #[P6 (List.replicate 16 0) 0, .int .i64 n, .int .i64 20]
  | .good p => if okP6 p.addr.addr p.num.value then .tuple #[P6 p.addr.addr p.num.value, .int .i64 0, .int .i64 0] else .tuple #[P6 (List.replicate 16 0) 0, .int .i64 (Lib.indexByte l 47), .int .i64 21]


theorem w0_pre6 (w : World) : ∃ W0, W0 = ((w.alloc (.cells #[.int .u8 0, .int .u8 0, .int .u8 0, .int .u8 0, .int .u8 0, .int .u8 0, .int .u8 0, .int .u8 0, .int .u8 0, .int .u8 0, .int .u8 0, .int .u8 0, .int .u8 0, .int .u8 0, .int .u8 0, .int .u8 0, .int .i64 0] 40)).alloc (.cells #[.slice none 0 0, .string ⟨#[]⟩, .int .u16 0, .int .i64 0, .bool false, .int .i64 0, .bool false, .int .u8 0, .int .u8 0, .int .u8 0, .int .i64 0, .int .i64 0, .bool false] 84)).alloc (.cells #[.iface 85 (.pointer (some ⟨w.heap.size + 1, 0, none⟩)), .int .i64 128, .bool false, .int .i64 0, .bool false] 105) ∧ PreIn 85 (.pointer (some ⟨w.heap.size + 1, 0, none⟩)) (GrpIn (w.heap.size + 1) (w.heap.size + 1)) 128 (w.heap.size + 2) Pre.new6 W0 ∧ Below w.heap.size w W0 ∧ W0.heap[w.heap.size]? = some (.cells #[.int .u8 0, .int .u8 0, .int .u8 0, .int .u8 0, .int .u8 0, .int .u8 0, .int .u8 0, .int .u8 0, .int .u8 0, .int .u8 0, .int .u8 0, .int .u8 0, .int .u8 0, .int .u8 0, .int .u8 0, .int .u8 0, .int .i64 0] 40) ∧ W0.heap.size = w.heap.size + 3 := by
  refine ⟨_, rfl, ?_⟩
  have a0 : (((w.alloc (.cells #[.int .u8 0, .int .u8 0, .int .u8 0, .int .u8 0, .int .u8 0, .int .u8 0, .int .u8 0, .int .u8 0, .int .u8 0, .int .u8 0, .int .u8 0, .int .u8 0, .int .u8 0, .int .u8 0, .int .u8 0, .int .u8 0, .int .i64 0] 40)).alloc (.cells #[.slice none 0 0, .string ⟨#[]⟩, .int .u16 0, .int .i64 0, .bool false, .int .i64 0, .bool false, .int .u8 0, .int .u8 0, .int .u8 0, .int .i64 0, .int .i64 0, .bool false] 84)).alloc (.cells #[.iface 85 (.pointer (some ⟨w.heap.size + 1, 0, none⟩)), .int .i64 128, .bool false, .int .i64 0, .bool false] 105)).heap[w.heap.size]? = some (.cells #[.int .u8 0, .int .u8 0, .int .u8 0, .int .u8 0, .int .u8 0, .int .u8 0, .int .u8 0, .int .u8 0, .int .u8 0, .int .u8 0, .int .u8 0, .int .u8 0, .int .u8 0, .int .u8 0, .int .u8 0, .int .u8 0, .int .i64 0] 40) := by
    rw [Below.heap_alloc _ _ _ (by simp; omega), Below.heap_alloc _ _ _ (by simp)]
    exact alloc_new _ _
  have a1 : (((w.alloc (.cells #[.int .u8 0, .int .u8 0, .int .u8 0, .int .u8 0, .int .u8 0, .int .u8 0, .int .u8 0, .int .u8 0, .int .u8 0, .int .u8 0, .int .u8 0, .int .u8 0, .int .u8 0, .int .u8 0, .int .u8 0, .int .u8 0, .int .i64 0] 40)).alloc (.cells #[.slice none 0 0, .string ⟨#[]⟩, .int .u16 0, .int .i64 0, .bool false, .int .i64 0, .bool false, .int .u8 0, .int .u8 0, .int .u8 0, .int .i64 0, .int .i64 0, .bool false] 84)).alloc (.cells #[.iface 85 (.pointer (some ⟨w.heap.size + 1, 0, none⟩)), .int .i64 128, .bool false, .int .i64 0, .bool false] 105)).heap[w.heap.size + 1]? = some (.cells #[.slice none 0 0, .string ⟨#[]⟩, .int .u16 0, .int .i64 0, .bool false, .int .i64 0, .bool false, .int .u8 0, .int .u8 0, .int .u8 0, .int .i64 0, .int .i64 0, .bool false] 84) := by
    rw [Below.heap_alloc _ _ _ (by simp)]
    exact alloc_new2 _ _ _
  have a2 : (((w.alloc (.cells #[.int .u8 0, .int .u8 0, .int .u8 0, .int .u8 0, .int .u8 0, .int .u8 0, .int .u8 0, .int .u8 0, .int .u8 0, .int .u8 0, .int .u8 0, .int .u8 0, .int .u8 0, .int .u8 0, .int .u8 0, .int .u8 0, .int .i64 0] 40)).alloc (.cells #[.slice none 0 0, .string ⟨#[]⟩, .int .u16 0, .int .i64 0, .bool false, .int .i64 0, .bool false, .int .u8 0, .int .u8 0, .int .u8 0, .int .i64 0, .int .i64 0, .bool false] 84)).alloc (.cells #[.iface 85 (.pointer (some ⟨w.heap.size + 1, 0, none⟩)), .int .i64 128, .bool false, .int .i64 0, .bool false] 105)).heap[w.heap.size + 2]? = some (.cells #[.iface 85 (.pointer (some ⟨w.heap.size + 1, 0, none⟩)), .int .i64 128, .bool false, .int .i64 0, .bool false] 105) := by
    simpa using alloc_new ((w.alloc (.cells #[.int .u8 0, .int .u8 0, .int .u8 0, .int .u8 0, .int .u8 0, .int .u8 0, .int .u8 0, .int .u8 0, .int .u8 0, .int .u8 0, .int .u8 0, .int .u8 0, .int .u8 0, .int .u8 0, .int .u8 0, .int .u8 0, .int .i64 0] 40)).alloc (.cells #[.slice none 0 0, .string ⟨#[]⟩, .int .u16 0, .int .i64 0, .bool false, .int .i64 0, .bool false, .int .u8 0, .int .u8 0, .int .u8 0, .int .i64 0, .int .i64 0, .bool false] 84)) (.cells #[.iface 85 (.pointer (some ⟨w.heap.size + 1, 0, none⟩)), .int .i64 128, .bool false, .int .i64 0, .bool false] 105)
  refine ⟨⟨⟨⟨⟨_, a1⟩, Nat.le_refl _, ⟨.slice none 0 0, ?_, World.ownsRow_nil _ _ _ _⟩, ?_, ?_, ?_, ?_, ?_, ?_, ⟨?_, ?_, ?_, ?_, ?_, ?_⟩⟩, Grp.ok_new⟩, ?_, ?_, ?_, ?_, ?_, ⟨by decide, by decide⟩, ⟨_, a2⟩⟩, (((Below.refl _ w).alloc (Nat.le_refl _) _).alloc (by simp) _).alloc (by simp; omega) _, a0, by simp⟩
  all_goals (unfold World.cell?; first | (rw [a1]; rfl) | (rw [a2]; rfl))


set_option maxHeartbeats 8000000 in
set_option maxRecDepth 100000 in
theorem prefix6_calls (s : ByteArray) (hs : s.size ≤ 140737488355328) (w : World) :
    Calls Tryd.prog 24 #[.string s] w fun e w' => PxPost (prefix6E s.data.toList ((preReader grpReader 128).read s.data.toList 0 Pre.new6)) w e w' := by
  generalize hQ : (fun e w' => PxPost (prefix6E s.data.toList ((preReader grpReader 128).read s.data.toList 0 Pre.new6)) w e w') = Q
  have HQ : Hid _ := hQ
  clear hQ
  obtain ⟨W0, hW0, hnew, hB0, hres, hsz⟩ := w0_pre6 w
  have hC := read_calls (pre6_kind w.heap.size) s hs Pre.new6 _ hnew (by rw [hsz]; omega) (fun k hk => by rw [hsz]; omega)
  have HWH : Hid _ := fun p' => pre_whole_addr (R := grpReader) (most := 128) s.data.toList 0 Pre.new6 p' (fun e => by cases e) (fun e => by cases e)
  have HC : Hid _ := hC
  clear hC
  generalize (preReader grpReader 128).read s.data.toList 0 Pre.new6 = x at HC HWH HQ
  have HX : Hid _ := hW0
  clear hW0
  go_enter Tryd.func24, Tryd.ntmps24
  go_wp2_with fail
  rw [← HX.out]
  refine Calls.mono HC.out ?_
  rintro e W1 ⟨hT, hx⟩
  have hblk := (hT.below.block w.heap.size (Nat.lt_succ_self _)).trans hres
  have hB1 : Below w.heap.size w W1 := hB0.trans (hT.below.mono (Nat.le_succ _))
  have lR := (Array.getElem?_eq_some_iff.1 hblk).1
  clear hT hB0 hres hsz hnew HC HX
  cases x with
  | bad n =>
    subst hx
    obtain ⟨w6, hst6, hb6, ho6⟩ := box_store (ty := 40) (c := [.int .u8 0, .int .u8 0, .int .u8 0, .int .u8 0, .int .u8 0, .int .u8 0, .int .u8 0, .int .u8 0, .int .u8 0, .int .u8 0, .int .u8 0, .int .u8 0, .int .u8 0, .int .u8 0, .int .u8 0, .int .u8 0, .int .i64 0]) Tryd.sizeOf40 hblk rfl (cp6 (List.replicate 16 0) 0) rfl (cp6_one _ _)
    have HST : Hid _ := hst6
    have HB : Hid _ := buildZ6
    have HRES : Hid _ := loadVarP6 (l := List.replicate 16 0) (n := 0) rfl (CellsAt.pfx rfl hb6).1
    clear hst6
    go_wp2_with first
      | ((with_reducible show wpList _ _ _ _ _ _); refine armS (.tmp 2) (.tmp 20) 40 rfl rfl rfl rfl HST.out ?_)
    refine bodyPost_ret (res3c Tryd.results24 (R := ⟨w.heap.size, 0, none⟩) rfl HRES.out) rfl ?_
    rw [← HQ.out]
    exact ⟨rfl, hB1.trans (ho6.below (Nat.le_refl _))⟩
  | good p =>
    obtain ⟨rfl, hP⟩ := hx
    have hok := hP.inner.ok
    have hwh := HWH.out p rfl
    have hl16 : p.addr.addr.length = 16 := Grp.addr_len hok hwh
    have c3 : W1.cell? ⟨w.heap.size + 1 + 1, 3, none⟩ = some (.int .i64 p.num.value) := hP.c3
    have l3 := World.block_lt_of_cell? W1 _ c3
    have HA : Hid (∀ X, Below W1.heap.size W1 X → Calls Tryd.prog 56 #[.pointer (some ⟨w.heap.size + 1, 0, none⟩)] X fun e w' => e = .returned (addrV p.addr.addr) ∧ Below X.heap.size X w') := fun X hX => by
      refine grp_addr (B := w.heap.size + 1) (hP.inner.cells.move (hX.block _ (by
        obtain ⟨cs, hcs⟩ := hP.inner.cells.typed
        exact (Array.getElem?_eq_some_iff.1 hcs).1)) (fun G cs hG => hX.block G (Array.getElem?_eq_some_iff.1 hG).1)) hok (fun e => Grp.whole_full hok hwh e)
    have hnum := hP.ok
    have hfit : FitB p.addr.addr := Grp.addr_fit hok
    generalize hLe : p.addr.addr = L at *
    have hnv : 0 ≤ p.num.value ∧ p.num.value ≤ 128 := ⟨hnum.1, hnum.2⟩
    generalize hNe : p.num.value = N at *
    have HE : Hid _ := And.intro hLe hNe
    clear hLe hNe
    clear hP hok hwh HWH hnum
    have HCK : Hid _ := fun X => Check6_calls L N X hfit hl16 ⟨by omega, by omega⟩
    have HBL : Hid (∀ X, (Instr.build 40 #[(0, addrV L), (1, .int .i64 N)]).run Tryd.prog X = .ok (P6 L N) X) := fun X => build6 L N hl16 X
    have hd1 : Below W1.heap.size W1 W1.drew := (Below.refl _ W1).drew
    have c3d : W1.drew.cell? ⟨w.heap.size + 2, 3, none⟩ = some (.int .i64 N) := c3
    have l2 : w.heap.size + 2 < W1.heap.size := l3
    go_wp2_with fail
    refine region_midG (fun a0 a' w' => ∃ b9, a' = ((((((a0.put (some 23) (.pointer (some ⟨w.heap.size + 2, 3, none⟩))).put (some 24) (.pointer (some ⟨w.heap.size + 2, 3, none⟩))).put (some 25) (.int .i64 N)).put (some 22) (addrV L)).put (some 26) (P6 L N)).put (some 9) (.pointer (some ⟨b9, 0, none⟩))) ∧ W1.heap.size ≤ b9 ∧ w'.heap[b9]? = some (.cells (cp6 L N).toArray 40) ∧ Below W1.heap.size W1 w') ?_ ?_
    · skip

      refine wp_region_held (S := fun W => W.cell? ⟨w.heap.size + 2, 3, none⟩ = some (.int .i64 N)) (by kernel_rfl) ?_
      show wpAnyH _ _ _ _ _ 7 (Array.replicate 7 false) _ W1.drew
      refine take_one (i := 1) (d := some 23) (v := .pointer (some ⟨w.heap.size + 2, 3, none⟩)) rfl rfl rfl (by kernel_rfl) (by kernel_rfl) (by kernel_rfl) (fun _ _ _ _ _ h => h.elim) (fun W hS => by kernel_rfl) c3d ?_
      simp only [Act.put, List.setIfInBounds_toArray, List.set_cons_zero, List.set_cons_succ]
      refine take_one (i := 2) (d := some 24) (v := .pointer (some ⟨w.heap.size + 2, 3, none⟩)) rfl rfl rfl (by kernel_rfl) (by kernel_rfl) (by kernel_rfl) (fun _ _ _ _ _ h => h.elim) (fun W hS => by kernel_rfl) c3d ?_
      simp only [Act.put, List.setIfInBounds_toArray, List.set_cons_zero, List.set_cons_succ]
      refine take_one (i := 3) (d := some 25) (v := .int .i64 N) rfl rfl rfl (by kernel_rfl) (by kernel_rfl) (by kernel_rfl) (fun _ _ _ _ _ h => h.elim) (fun W hS => ex_loadG 24 rfl rfl hS) c3d ?_
      simp only [Act.put, List.setIfInBounds_toArray, List.set_cons_zero, List.set_cons_succ]
      refine all_two (i1 := 0) (i2 := 5) (by kernel_rfl) rfl rfl rfl rfl ?_ ?_
      · refine wp_call (d := some 22) 56 _ rfl (by kernel_rfl) (callG (HA.out _ hd1)) ?_
        rintro _ W2 ⟨rfl, hB2⟩
        have hB2' := hd1.trans hB2
        have c32 := (hB2'.cell (p := ⟨w.heap.size + 2, 3, none⟩) l2).trans c3
        refine ⟨c32, ?_⟩
        simp only [Act.put, List.setIfInBounds_toArray, List.set_cons_zero, List.set_cons_succ]
        refine take_one (i := 4) (d := some 26) (v := P6 L N) rfl rfl rfl (by kernel_rfl) (by kernel_rfl) (by kernel_rfl) (fun _ _ _ _ _ h => h.elim) (fun W hS => ex_buildA 40 [(0, .tmp 22), (1, .tmp 25)] rfl (vs := [(0, addrV L), (1, .int .i64 N)]) rfl (HBL.out _)) c32 ?_
        simp only [Act.put, List.setIfInBounds_toArray, List.set_cons_zero, List.set_cons_succ]
        obtain ⟨w5, hst, hb5, hB5⟩ := box_new (ty := 40) Tryd.sizeOf40 W2 [.int .u8 0, .int .u8 0, .int .u8 0, .int .u8 0, .int .u8 0, .int .u8 0, .int .u8 0, .int .u8 0, .int .u8 0, .int .u8 0, .int .u8 0, .int .u8 0, .int .u8 0, .int .u8 0, .int .u8 0, .int .u8 0, .int .i64 0] rfl (cp6 L N) (cp6_length L N hl16) (cp6_one _ _)
        have hB2a := hB2'.trans (((Below.refl _ W2).alloc (Nat.le_refl _) (.cells #[.int .u8 0, .int .u8 0, .int .u8 0, .int .u8 0, .int .u8 0, .int .u8 0, .int .u8 0, .int .u8 0, .int .u8 0, .int .u8 0, .int .u8 0, .int .u8 0, .int .u8 0, .int .u8 0, .int .u8 0, .int .u8 0, .int .i64 0] 40)).mono hB2'.size)
        have c32a := (hB2a.cell (p := ⟨w.heap.size + 2, 3, none⟩) l2).trans c3
        refine all_one (i := 5) (by kernel_rfl) rfl rfl ?_
        refine wp_allocA (d := some 9) 40 rfl rfl (v := .pointer (some ⟨W2.heap.size, 0, none⟩)) (w2 := W2.alloc (.cells #[.int .u8 0, .int .u8 0, .int .u8 0, .int .u8 0, .int .u8 0, .int .u8 0, .int .u8 0, .int .u8 0, .int .u8 0, .int .u8 0, .int .u8 0, .int .u8 0, .int .u8 0, .int .u8 0, .int .u8 0, .int .u8 0, .int .i64 0] 40)) (by simp [execOp, go_sem]) ⟨c32a, ?_⟩
        simp only [Act.put, List.setIfInBounds_toArray, List.set_cons_zero, List.set_cons_succ]
        have hB5' := hB2'.trans (hB5.mono hB2'.size)
        refine all_one (i := 6) (by kernel_rfl) rfl rfl ?_
        refine wp_storeA (.tmp 9) (.tmp 26) 40 rfl rfl rfl rfl hst ⟨(hB5'.cell (p := ⟨w.heap.size + 2, 3, none⟩) l2).trans c3, ?_⟩
        refine wpAnyH_done (by kernel_rfl) ?_ _
        exact ⟨W2.heap.size, rfl, hB2'.size, hb5, hB5'⟩
      · have hBa := hd1.trans ((Below.refl _ W1.drew).alloc (Nat.le_refl _) (.cells #[.int .u8 0, .int .u8 0, .int .u8 0, .int .u8 0, .int .u8 0, .int .u8 0, .int .u8 0, .int .u8 0, .int .u8 0, .int .u8 0, .int .u8 0, .int .u8 0, .int .u8 0, .int .u8 0, .int .u8 0, .int .u8 0, .int .i64 0] 40))
        have hk := blk_new W1.drew (.cells #[.int .u8 0, .int .u8 0, .int .u8 0, .int .u8 0, .int .u8 0, .int .u8 0, .int .u8 0, .int .u8 0, .int .u8 0, .int .u8 0, .int .u8 0, .int .u8 0, .int .u8 0, .int .u8 0, .int .u8 0, .int .u8 0, .int .i64 0] 40)
        have c3a := (hBa.cell (p := ⟨w.heap.size + 2, 3, none⟩) l2).trans c3
        refine wp_allocA (d := some 9) 40 rfl rfl (v := .pointer (some ⟨W1.heap.size, 0, none⟩)) (w2 := W1.drew.alloc (.cells #[.int .u8 0, .int .u8 0, .int .u8 0, .int .u8 0, .int .u8 0, .int .u8 0, .int .u8 0, .int .u8 0, .int .u8 0, .int .u8 0, .int .u8 0, .int .u8 0, .int .u8 0, .int .u8 0, .int .u8 0, .int .u8 0, .int .i64 0] 40)) (by simp [execOp, go_sem]) ⟨c3a, ?_⟩
        simp only [Act.put, List.setIfInBounds_toArray, List.set_cons_zero, List.set_cons_succ]
        refine all_one (i := 0) (by kernel_rfl) rfl rfl ?_
        refine wp_call (d := some 22) 56 _ rfl (by kernel_rfl) (callG (HA.out _ hBa)) ?_
        rintro _ W2 ⟨rfl, hB2⟩
        have hB2' := hBa.trans (hB2.mono hBa.size)
        have hk2 := (hB2.block W1.heap.size (by simp)).trans hk
        have c32 := (hB2'.cell (p := ⟨w.heap.size + 2, 3, none⟩) l2).trans c3
        refine ⟨c32, ?_⟩
        simp only [Act.put, List.setIfInBounds_toArray, List.set_cons_zero, List.set_cons_succ]
        refine take_one (i := 4) (d := some 26) (v := P6 L N) rfl rfl rfl (by kernel_rfl) (by kernel_rfl) (by kernel_rfl) (fun _ _ _ _ _ h => h.elim) (fun W hS => ex_buildA 40 [(0, .tmp 22), (1, .tmp 25)] rfl (vs := [(0, addrV L), (1, .int .i64 N)]) rfl (HBL.out _)) c32 ?_
        simp only [Act.put, List.setIfInBounds_toArray, List.set_cons_zero, List.set_cons_succ]
        obtain ⟨w5, hst, hb5, ho5⟩ := box_store (ty := 40) (c := [.int .u8 0, .int .u8 0, .int .u8 0, .int .u8 0, .int .u8 0, .int .u8 0, .int .u8 0, .int .u8 0, .int .u8 0, .int .u8 0, .int .u8 0, .int .u8 0, .int .u8 0, .int .u8 0, .int .u8 0, .int .u8 0, .int .i64 0]) Tryd.sizeOf40 hk2 rfl (cp6 L N) (cp6_length L N hl16) (cp6_one _ _)
        have hB5' := hB2'.trans (ho5.below (Nat.le_refl _))
        refine all_one (i := 6) (by kernel_rfl) rfl rfl ?_
        refine wp_storeA (.tmp 9) (.tmp 26) 40 rfl rfl rfl rfl hst ⟨(hB5'.cell (p := ⟨w.heap.size + 2, 3, none⟩) l2).trans c3, ?_⟩
        refine wpAnyH_done (by kernel_rfl) ?_ _
        exact ⟨W1.heap.size, rfl, Nat.le_refl _, hb5, hB5'⟩
    rintro a' V ⟨b9, rfl, hb9, hbx, hBV⟩
    simp only [Act.put, List.setIfInBounds_toArray, List.set_cons_zero, List.set_cons_succ]
    have HLD : Hid _ := loadP6 hl16 (CellsAt.pfx hl16 hbx).1
    have hrV := (hBV.block w.heap.size lR).trans hblk
    have hBV1 := hB1.trans (hBV.mono hB1.size)
    have l9 := (Array.getElem?_eq_some_iff.1 hbx).1
    have lV := hBV.size
    clear HA HBL c3 c3d hd1 hBV
    go_wp2_with first
      | ((with_reducible show wpList _ _ _ _ _ _); refine armL (.tmp 9) 40 rfl rfl rfl HLD.out ?_)
    refine Calls.mono (HCK.out _) ?_
    rintro e W4 ⟨rfl, hB4⟩
    have hr4 := (hB4.block w.heap.size (by omega)).trans hrV
    have hx4 := (hB4.block b9 l9).trans hbx
    have hBw4 := hBV1.trans (hB4.mono hBV1.size)
    clear HLD HCK hrV hbx hBV1 hB4
    cases hq : okP6 L N
    · obtain ⟨w6, hst6, hb6, ho6⟩ := box_store (ty := 40) (c := [.int .u8 0, .int .u8 0, .int .u8 0, .int .u8 0, .int .u8 0, .int .u8 0, .int .u8 0, .int .u8 0, .int .u8 0, .int .u8 0, .int .u8 0, .int .u8 0, .int .u8 0, .int .u8 0, .int .u8 0, .int .u8 0, .int .i64 0]) Tryd.sizeOf40 hr4 rfl (cp6 (List.replicate 16 0) 0) rfl (cp6_one _ _)
      have HST : Hid _ := hst6
      have HB : Hid _ := buildZ6
      have HRES : Hid _ := loadVarP6 (l := List.replicate 16 0) (n := 0) rfl (CellsAt.pfx rfl hb6).1
      have HI : Hid _ := Tryd.strings_IndexByte s 47 W4
      have hE : prefix6E s.data.toList (.good p) = .tuple #[P6 (List.replicate 16 0) 0, .int .i64 (Lib.indexByte s.data.toList 47), .int .i64 21] := by
        unfold prefix6E
        dsimp only
        rw [HE.out.1, HE.out.2, hq]
        rfl
      simp only [Bool.false_eq_true, if_false]
      clear hst6
      go_wp2_with fail
      refine Calls.mono HI.out ?_
      rintro e W5 ⟨rfl, rfl⟩
      go_wp2_with first
        | ((with_reducible show wpList _ _ _ _ _ _); refine armS (.tmp 2) (.tmp 30) 40 rfl rfl rfl rfl HST.out ?_)
      refine bodyPost_ret (res3c Tryd.results24 (R := ⟨w.heap.size, 0, none⟩) rfl HRES.out) rfl ?_
      rw [← HQ.out]
      exact ⟨by rw [hE]; rfl, hBw4.trans (ho6.below (Nat.le_refl _))⟩
    · obtain ⟨w6, hst6, hb6, ho6⟩ := box_store (ty := 40) (c := [.int .u8 0, .int .u8 0, .int .u8 0, .int .u8 0, .int .u8 0, .int .u8 0, .int .u8 0, .int .u8 0, .int .u8 0, .int .u8 0, .int .u8 0, .int .u8 0, .int .u8 0, .int .u8 0, .int .u8 0, .int .u8 0, .int .i64 0]) Tryd.sizeOf40 hr4 rfl (cp6 L N) (cp6_length L N hl16) (cp6_one _ _)
      have HST : Hid _ := hst6
      have HLD : Hid _ := loadP6 hl16 (CellsAt.pfx hl16 hx4).1
      have HRES : Hid _ := loadVarP6 hl16 (CellsAt.pfx hl16 hb6).1
      have hE : prefix6E s.data.toList (.good p) = .tuple #[P6 L N, .int .i64 0, .int .i64 0] := by
        unfold prefix6E
        dsimp only
        rw [HE.out.1, HE.out.2, hq]
        rfl
      clear hst6
      simp only [if_true]
      go_wp2_with first
        | ((with_reducible show wpList _ _ _ _ _ _); refine armL (.tmp 9) 40 rfl rfl rfl HLD.out ?_)
        | ((with_reducible show wpList _ _ _ _ _ _); refine armS (.tmp 2) (.tmp 33) 40 rfl rfl rfl rfl HST.out ?_)
      refine bodyPost_ret (res3c Tryd.results24 (R := ⟨w.heap.size, 0, none⟩) rfl HRES.out) rfl ?_
      rw [← HQ.out]
      exact ⟨by rw [hE]; rfl, hBw4.trans (ho6.below (Nat.le_refl _))⟩

end Go.Proofs.YtlpbffcijhgelaaDoor

namespace Go.Proofs.YtlpbffcijhgelaaDoor
open Go Go.RowKit Go.ChangeShapes Go.WideShapes Go.ChangeAt
set_option linter.unusedVariables false
set_option linter.unusedSimpArgs false

theorem eq_arr16R (d : Nat) (zs ys : List Int) (h : FitB zs) (g : FitB ys) (hl : zs.length = 16) (gl : ys.length = 16) (W : World) :
    (Op.equalIn (d + 2) 31 (.agg (zs.map (fun z => Value.int .u8 z)).toArray) (.agg (ys.map (fun z => Value.int .u8 z)).toArray)).run Tryd.prog W = .ok (decide (zs = ys)) W := by
  have := run_equalIn_bytes (P := Tryd.prog) W d 31 5 16 Tryd.underlying31 Tryd.underlying5 (fun w => by simp [go_sem]) (zs.map (fun z => UInt8.ofNat z.toNat)) (ys.map (fun z => UInt8.ofNat z.toNat)) (by simpa using hl) (by simpa using gl)
  rw [bytes_inj zs ys h g] at this
  have e1 := cells_back zs h
  have e2 := cells_back ys g
  rw [← e1, ← e2]
  exact this

theorem back4 (a0 a1 a2 a3 : Int) (h0 : Byte a0) (h1 : Byte a1) (h2 : Byte a2) (h3 : Byte a3) (W : World) :
    Calls Tryd.prog 13 #[strV (text4 [a0, a1, a2, a3])] W fun e w' => e = .returned (.tuple #[.agg #[.int .u8 a0, .int .u8 a1, .int .u8 a2, .int .u8 a3], .int .i64 0, .int .i64 0]) ∧ Below W.heap.size W w' := by
  have hl : (text4 [a0, a1, a2, a3]).length ≤ 4004 := by
    rw [← tx4_all]
    have hk : ∀ k, k < 4 → Byte ([a0, a1, a2, a3][k]?.getD 0) := by
      intro k hk
      match k, hk with
      | 0, _ => exact h0
      | 1, _ => exact h1
      | 2, _ => exact h2
      | 3, _ => exact h3
    exact tx4_len hk 4 (by omega)
  have h := parse4_calls ⟨(text4 [a0, a1, a2, a3]).toArray⟩ (by show (text4 [a0, a1, a2, a3]).toArray.size ≤ _; rw [List.size_toArray]; omega) W
  have e : parse4 (⟨(text4 [a0, a1, a2, a3]).toArray⟩ : ByteArray).data.toList = ([a0, a1, a2, a3], 0, 0) := by
    show parse4 (text4 [a0, a1, a2, a3]).toArray.toList = _
    rw [List.toList_toArray]
    exact parse_text4 a0 a1 a2 a3 h0 h1 h2 h3
  rw [e] at h
  exact h

theorem grps_fit (b0 b1 b2 b3 b4 b5 b6 b7 b8 b9 b10 b11 b12 b13 b14 b15 : Int) (f0 : 0 ≤ b0 ∧ b0 < 256) (f1 : 0 ≤ b1 ∧ b1 < 256) (f2 : 0 ≤ b2 ∧ b2 < 256) (f3 : 0 ≤ b3 ∧ b3 < 256) (f4 : 0 ≤ b4 ∧ b4 < 256) (f5 : 0 ≤ b5 ∧ b5 < 256) (f6 : 0 ≤ b6 ∧ b6 < 256) (f7 : 0 ≤ b7 ∧ b7 < 256) (f8 : 0 ≤ b8 ∧ b8 < 256) (f9 : 0 ≤ b9 ∧ b9 < 256) (f10 : 0 ≤ b10 ∧ b10 < 256) (f11 : 0 ≤ b11 ∧ b11 < 256) (f12 : 0 ≤ b12 ∧ b12 < 256) (f13 : 0 ≤ b13 ∧ b13 < 256) (f14 : 0 ≤ b14 ∧ b14 < 256) (f15 : 0 ≤ b15 ∧ b15 < 256) : ∀ x ∈ [b0 * 256 + b1, b2 * 256 + b3, b4 * 256 + b5, b6 * 256 + b7, b8 * 256 + b9, b10 * 256 + b11, b12 * 256 + b13, b14 * 256 + b15], 0 ≤ x ∧ x < 65536 := by
  intro x hx
  simp only [List.mem_cons, List.not_mem_nil, or_false] at hx
  rcases hx with rfl | rfl | rfl | rfl | rfl | rfl | rfl | rfl <;> omega
theorem byt_groups (b0 b1 b2 b3 b4 b5 b6 b7 b8 b9 b10 b11 b12 b13 b14 b15 : Int) (f0 : 0 ≤ b0 ∧ b0 < 256) (f1 : 0 ≤ b1 ∧ b1 < 256) (f2 : 0 ≤ b2 ∧ b2 < 256) (f3 : 0 ≤ b3 ∧ b3 < 256) (f4 : 0 ≤ b4 ∧ b4 < 256) (f5 : 0 ≤ b5 ∧ b5 < 256) (f6 : 0 ≤ b6 ∧ b6 < 256) (f7 : 0 ≤ b7 ∧ b7 < 256) (f8 : 0 ≤ b8 ∧ b8 < 256) (f9 : 0 ≤ b9 ∧ b9 < 256) (f10 : 0 ≤ b10 ∧ b10 < 256) (f11 : 0 ≤ b11 ∧ b11 < 256) (f12 : 0 ≤ b12 ∧ b12 < 256) (f13 : 0 ≤ b13 ∧ b13 < 256) (f14 : 0 ≤ b14 ∧ b14 < 256) (f15 : 0 ≤ b15 ∧ b15 < 256) : byt [b0 * 256 + b1, b2 * 256 + b3, b4 * 256 + b5, b6 * 256 + b7, b8 * 256 + b9, b10 * 256 + b11, b12 * 256 + b13, b14 * 256 + b15] = [b0, b1, b2, b3, b4, b5, b6, b7, b8, b9, b10, b11, b12, b13, b14, b15] := by
  have hd : ∀ x y : Int, 0 ≤ x ∧ x < 256 → 0 ≤ y ∧ y < 256 → (x * 256 + y) / 256 = x ∧ (x * 256 + y) % 256 = y := fun x y hx hy => by omega
  simp only [byt, List.flatMap_cons, List.flatMap_nil, List.cons_append, List.nil_append, List.append_nil]
  rw [(hd b0 b1 f0 f1).1, (hd b0 b1 f0 f1).2]
  rw [(hd b2 b3 f2 f3).1, (hd b2 b3 f2 f3).2]
  rw [(hd b4 b5 f4 f5).1, (hd b4 b5 f4 f5).2]
  rw [(hd b6 b7 f6 f7).1, (hd b6 b7 f6 f7).2]
  rw [(hd b8 b9 f8 f9).1, (hd b8 b9 f8 f9).2]
  rw [(hd b10 b11 f10 f11).1, (hd b10 b11 f10 f11).2]
  rw [(hd b12 b13 f12 f13).1, (hd b12 b13 f12 f13).2]
  rw [(hd b14 b15 f14 f15).1, (hd b14 b15 f14 f15).2]
theorem own_len (G : List Int) (hl : G.length = 8) : (own6 G).length ≤ 202 := by
  unfold own6
  split
  · have := jn_len G (by omega); omega
  · have h1 := jn_len (G.take (gapK (zb G) 8).1) (by rw [List.length_take]; omega)
    have h2 := jn_len (G.drop (gapK (zb G) 8).2.1) (by rw [List.length_drop]; omega)
    simp only [List.length_append, List.length_cons, List.length_nil]
    omega
theorem back6 (b0 b1 b2 b3 b4 b5 b6 b7 b8 b9 b10 b11 b12 b13 b14 b15 : Int) (f0 : 0 ≤ b0 ∧ b0 < 256) (f1 : 0 ≤ b1 ∧ b1 < 256) (f2 : 0 ≤ b2 ∧ b2 < 256) (f3 : 0 ≤ b3 ∧ b3 < 256) (f4 : 0 ≤ b4 ∧ b4 < 256) (f5 : 0 ≤ b5 ∧ b5 < 256) (f6 : 0 ≤ b6 ∧ b6 < 256) (f7 : 0 ≤ b7 ∧ b7 < 256) (f8 : 0 ≤ b8 ∧ b8 < 256) (f9 : 0 ≤ b9 ∧ b9 < 256) (f10 : 0 ≤ b10 ∧ b10 < 256) (f11 : 0 ≤ b11 ∧ b11 < 256) (f12 : 0 ≤ b12 ∧ b12 < 256) (f13 : 0 ≤ b13 ∧ b13 < 256) (f14 : 0 ≤ b14 ∧ b14 < 256) (f15 : 0 ≤ b15 ∧ b15 < 256) (W : World) :
    Calls Tryd.prog 18 #[strV (own6 [b0 * 256 + b1, b2 * 256 + b3, b4 * 256 + b5, b6 * 256 + b7, b8 * 256 + b9, b10 * 256 + b11, b12 * 256 + b13, b14 * 256 + b15])] W fun e w' => e = .returned (.tuple #[.agg #[.int .u8 b0, .int .u8 b1, .int .u8 b2, .int .u8 b3, .int .u8 b4, .int .u8 b5, .int .u8 b6, .int .u8 b7, .int .u8 b8, .int .u8 b9, .int .u8 b10, .int .u8 b11, .int .u8 b12, .int .u8 b13, .int .u8 b14, .int .u8 b15], .int .i64 0, .int .i64 0]) ∧ Below W.heap.size W w' := by
  have hl := own_len [b0 * 256 + b1, b2 * 256 + b3, b4 * 256 + b5, b6 * 256 + b7, b8 * 256 + b9, b10 * 256 + b11, b12 * 256 + b13, b14 * 256 + b15] rfl
  have h := parse6_calls ⟨(own6 [b0 * 256 + b1, b2 * 256 + b3, b4 * 256 + b5, b6 * 256 + b7, b8 * 256 + b9, b10 * 256 + b11, b12 * 256 + b13, b14 * 256 + b15]).toArray⟩ (by show (own6 [b0 * 256 + b1, b2 * 256 + b3, b4 * 256 + b5, b6 * 256 + b7, b8 * 256 + b9, b10 * 256 + b11, b12 * 256 + b13, b14 * 256 + b15]).toArray.size ≤ _; rw [List.size_toArray]; omega) W
  have e : parse6 (⟨(own6 [b0 * 256 + b1, b2 * 256 + b3, b4 * 256 + b5, b6 * 256 + b7, b8 * 256 + b9, b10 * 256 + b11, b12 * 256 + b13, b14 * 256 + b15]).toArray⟩ : ByteArray).data.toList = ([b0, b1, b2, b3, b4, b5, b6, b7, b8, b9, b10, b11, b12, b13, b14, b15], 0, 0) := by
    show parse6 (own6 [b0 * 256 + b1, b2 * 256 + b3, b4 * 256 + b5, b6 * 256 + b7, b8 * 256 + b9, b10 * 256 + b11, b12 * 256 + b13, b14 * 256 + b15]).toArray.toList = _
    rw [List.toList_toArray, parse_own6 _ (grps_fit b0 b1 b2 b3 b4 b5 b6 b7 b8 b9 b10 b11 b12 b13 b14 b15 f0 f1 f2 f3 f4 f5 f6 f7 f8 f9 f10 f11 f12 f13 f14 f15) rfl, byt_groups b0 b1 b2 b3 b4 b5 b6 b7 b8 b9 b10 b11 b12 b13 b14 b15 f0 f1 f2 f3 f4 f5 f6 f7 f8 f9 f10 f11 f12 f13 f14 f15]
  rw [e] at h
  exact h
theorem own_inj (b0 b1 b2 b3 b4 b5 b6 b7 b8 b9 b10 b11 b12 b13 b14 b15 c0 c1 c2 c3 c4 c5 c6 c7 c8 c9 c10 c11 c12 c13 c14 c15 : Int) (f0 : 0 ≤ b0 ∧ b0 < 256) (f1 : 0 ≤ b1 ∧ b1 < 256) (f2 : 0 ≤ b2 ∧ b2 < 256) (f3 : 0 ≤ b3 ∧ b3 < 256) (f4 : 0 ≤ b4 ∧ b4 < 256) (f5 : 0 ≤ b5 ∧ b5 < 256) (f6 : 0 ≤ b6 ∧ b6 < 256) (f7 : 0 ≤ b7 ∧ b7 < 256) (f8 : 0 ≤ b8 ∧ b8 < 256) (f9 : 0 ≤ b9 ∧ b9 < 256) (f10 : 0 ≤ b10 ∧ b10 < 256) (f11 : 0 ≤ b11 ∧ b11 < 256) (f12 : 0 ≤ b12 ∧ b12 < 256) (f13 : 0 ≤ b13 ∧ b13 < 256) (f14 : 0 ≤ b14 ∧ b14 < 256) (f15 : 0 ≤ b15 ∧ b15 < 256) (g0 : 0 ≤ c0 ∧ c0 < 256) (g1 : 0 ≤ c1 ∧ c1 < 256) (g2 : 0 ≤ c2 ∧ c2 < 256) (g3 : 0 ≤ c3 ∧ c3 < 256) (g4 : 0 ≤ c4 ∧ c4 < 256) (g5 : 0 ≤ c5 ∧ c5 < 256) (g6 : 0 ≤ c6 ∧ c6 < 256) (g7 : 0 ≤ c7 ∧ c7 < 256) (g8 : 0 ≤ c8 ∧ c8 < 256) (g9 : 0 ≤ c9 ∧ c9 < 256) (g10 : 0 ≤ c10 ∧ c10 < 256) (g11 : 0 ≤ c11 ∧ c11 < 256) (g12 : 0 ≤ c12 ∧ c12 < 256) (g13 : 0 ≤ c13 ∧ c13 < 256) (g14 : 0 ≤ c14 ∧ c14 < 256) (g15 : 0 ≤ c15 ∧ c15 < 256) : own6 [b0 * 256 + b1, b2 * 256 + b3, b4 * 256 + b5, b6 * 256 + b7, b8 * 256 + b9, b10 * 256 + b11, b12 * 256 + b13, b14 * 256 + b15] = own6 [c0 * 256 + c1, c2 * 256 + c3, c4 * 256 + c5, c6 * 256 + c7, c8 * 256 + c9, c10 * 256 + c11, c12 * 256 + c13, c14 * 256 + c15] ↔ [b0, b1, b2, b3, b4, b5, b6, b7, b8, b9, b10, b11, b12, b13, b14, b15] = [c0, c1, c2, c3, c4, c5, c6, c7, c8, c9, c10, c11, c12, c13, c14, c15] := by
  constructor
  · intro h
    have h1 := parse_own6 _ (grps_fit b0 b1 b2 b3 b4 b5 b6 b7 b8 b9 b10 b11 b12 b13 b14 b15 f0 f1 f2 f3 f4 f5 f6 f7 f8 f9 f10 f11 f12 f13 f14 f15) rfl
    have h2 := parse_own6 _ (grps_fit c0 c1 c2 c3 c4 c5 c6 c7 c8 c9 c10 c11 c12 c13 c14 c15 g0 g1 g2 g3 g4 g5 g6 g7 g8 g9 g10 g11 g12 g13 g14 g15) rfl
    rw [h, h2, byt_groups b0 b1 b2 b3 b4 b5 b6 b7 b8 b9 b10 b11 b12 b13 b14 b15 f0 f1 f2 f3 f4 f5 f6 f7 f8 f9 f10 f11 f12 f13 f14 f15, byt_groups c0 c1 c2 c3 c4 c5 c6 c7 c8 c9 c10 c11 c12 c13 c14 c15 g0 g1 g2 g3 g4 g5 g6 g7 g8 g9 g10 g11 g12 g13 g14 g15] at h1
    exact (Prod.mk.inj h1).1.symm
  · intro h
    simp only [List.cons.injEq, and_true] at h
    obtain ⟨rfl, rfl, rfl, rfl, rfl, rfl, rfl, rfl, rfl, rfl, rfl, rfl, rfl, rfl, rfl, rfl⟩ := h
    rfl

end Go.Proofs.YtlpbffcijhgelaaDoor

namespace Go.Proofs.YtlpbffcijhgelaaDoor
open Go Go.RowKit Go.ChangeShapes Go.WideShapes Go.ChangeAt
set_option linter.unusedVariables false
set_option linter.unusedSimpArgs false

theorem bytes_ne (a b : List UInt8) (h : ¬ a = b) : ((⟨a.toArray⟩ : ByteArray) == (⟨b.toArray⟩ : ByteArray)) = false := by
  have : (a.toArray == b.toArray) = false := by rw [beq_eq_false_iff_ne]; intro e; exact h (by simpa using e)
  exact this

set_option maxHeartbeats 8000000 in
set_option maxRecDepth 100000 in
theorem addrBack_walk (a0 a1 a2 a3 b0 b1 b2 b3 b4 b5 b6 b7 b8 b9 b10 b11 b12 b13 b14 b15 c0 c1 c2 c3 c4 c5 c6 c7 c8 c9 c10 c11 c12 c13 c14 c15 : Int) (h0 : Byte a0) (h1 : Byte a1) (h2 : Byte a2) (h3 : Byte a3) (f0 : 0 ≤ b0 ∧ b0 < 256) (f1 : 0 ≤ b1 ∧ b1 < 256) (f2 : 0 ≤ b2 ∧ b2 < 256) (f3 : 0 ≤ b3 ∧ b3 < 256) (f4 : 0 ≤ b4 ∧ b4 < 256) (f5 : 0 ≤ b5 ∧ b5 < 256) (f6 : 0 ≤ b6 ∧ b6 < 256) (f7 : 0 ≤ b7 ∧ b7 < 256) (f8 : 0 ≤ b8 ∧ b8 < 256) (f9 : 0 ≤ b9 ∧ b9 < 256) (f10 : 0 ≤ b10 ∧ b10 < 256) (f11 : 0 ≤ b11 ∧ b11 < 256) (f12 : 0 ≤ b12 ∧ b12 < 256) (f13 : 0 ≤ b13 ∧ b13 < 256) (f14 : 0 ≤ b14 ∧ b14 < 256) (f15 : 0 ≤ b15 ∧ b15 < 256) (g0 : 0 ≤ c0 ∧ c0 < 256) (g1 : 0 ≤ c1 ∧ c1 < 256) (g2 : 0 ≤ c2 ∧ c2 < 256) (g3 : 0 ≤ c3 ∧ c3 < 256) (g4 : 0 ≤ c4 ∧ c4 < 256) (g5 : 0 ≤ c5 ∧ c5 < 256) (g6 : 0 ≤ c6 ∧ c6 < 256) (g7 : 0 ≤ c7 ∧ c7 < 256) (g8 : 0 ≤ c8 ∧ c8 < 256) (g9 : 0 ≤ c9 ∧ c9 < 256) (g10 : 0 ≤ c10 ∧ c10 < 256) (g11 : 0 ≤ c11 ∧ c11 < 256) (g12 : 0 ≤ c12 ∧ c12 < 256) (g13 : 0 ≤ c13 ∧ c13 < 256) (g14 : 0 ≤ c14 ∧ c14 < 256) (g15 : 0 ≤ c15 ∧ c15 < 256) (w : World) (tb : Tabs w ∧ Tz w) :
    Calls Tryd.prog 9 #[.agg #[.int .u8 a0, .int .u8 a1, .int .u8 a2, .int .u8 a3], .agg #[.int .u8 b0, .int .u8 b1, .int .u8 b2, .int .u8 b3, .int .u8 b4, .int .u8 b5, .int .u8 b6, .int .u8 b7, .int .u8 b8, .int .u8 b9, .int .u8 b10, .int .u8 b11, .int .u8 b12, .int .u8 b13, .int .u8 b14, .int .u8 b15], .agg #[.int .u8 c0, .int .u8 c1, .int .u8 c2, .int .u8 c3, .int .u8 c4, .int .u8 c5, .int .u8 c6, .int .u8 c7, .int .u8 c8, .int .u8 c9, .int .u8 c10, .int .u8 c11, .int .u8 c12, .int .u8 c13, .int .u8 c14, .int .u8 c15]] w fun e w' => e = .returned (.bool true) ∧ Below w.heap.size w w' := by
  have HT4 : Hid (∀ W, Below w.heap.size w W → Calls Tryd.prog 15 #[.agg #[.int .u8 a0, .int .u8 a1, .int .u8 a2, .int .u8 a3]] W fun e w' => e = .returned (strV (text4 [a0, a1, a2, a3])) ∧ Below W.heap.size W w') := fun W hW => text4_calls a0 a1 a2 a3 h0 h1 h2 h3 W (Tabs.on tb.1 hW)
  have HP4 : Hid (∀ W, Calls Tryd.prog 13 #[strV (text4 [a0, a1, a2, a3])] W fun e w' => e = .returned (.tuple #[.agg #[.int .u8 a0, .int .u8 a1, .int .u8 a2, .int .u8 a3], .int .i64 0, .int .i64 0]) ∧ Below W.heap.size W w') := fun W => back4 a0 a1 a2 a3 h0 h1 h2 h3 W
  have HTB : Hid (∀ W, Below w.heap.size w W → Calls Tryd.prog 20 #[.agg #[.int .u8 b0, .int .u8 b1, .int .u8 b2, .int .u8 b3, .int .u8 b4, .int .u8 b5, .int .u8 b6, .int .u8 b7, .int .u8 b8, .int .u8 b9, .int .u8 b10, .int .u8 b11, .int .u8 b12, .int .u8 b13, .int .u8 b14, .int .u8 b15]] W fun e w' => e = .returned (strV (own6 [b0 * 256 + b1, b2 * 256 + b3, b4 * 256 + b5, b6 * 256 + b7, b8 * 256 + b9, b10 * 256 + b11, b12 * 256 + b13, b14 * 256 + b15])) ∧ Below W.heap.size W w') := fun W hW => text6_all b0 b1 b2 b3 b4 b5 b6 b7 b8 b9 b10 b11 b12 b13 b14 b15 f0 f1 f2 f3 f4 f5 f6 f7 f8 f9 f10 f11 f12 f13 f14 f15 W (Tz.on tb.2 hW)
  have HTC : Hid (∀ W, Below w.heap.size w W → Calls Tryd.prog 20 #[.agg #[.int .u8 c0, .int .u8 c1, .int .u8 c2, .int .u8 c3, .int .u8 c4, .int .u8 c5, .int .u8 c6, .int .u8 c7, .int .u8 c8, .int .u8 c9, .int .u8 c10, .int .u8 c11, .int .u8 c12, .int .u8 c13, .int .u8 c14, .int .u8 c15]] W fun e w' => e = .returned (strV (own6 [c0 * 256 + c1, c2 * 256 + c3, c4 * 256 + c5, c6 * 256 + c7, c8 * 256 + c9, c10 * 256 + c11, c12 * 256 + c13, c14 * 256 + c15])) ∧ Below W.heap.size W w') := fun W hW => text6_all c0 c1 c2 c3 c4 c5 c6 c7 c8 c9 c10 c11 c12 c13 c14 c15 g0 g1 g2 g3 g4 g5 g6 g7 g8 g9 g10 g11 g12 g13 g14 g15 W (Tz.on tb.2 hW)
  have HP6 : Hid (∀ W, Calls Tryd.prog 18 #[strV (own6 [b0 * 256 + b1, b2 * 256 + b3, b4 * 256 + b5, b6 * 256 + b7, b8 * 256 + b9, b10 * 256 + b11, b12 * 256 + b13, b14 * 256 + b15])] W fun e w' => e = .returned (.tuple #[.agg #[.int .u8 b0, .int .u8 b1, .int .u8 b2, .int .u8 b3, .int .u8 b4, .int .u8 b5, .int .u8 b6, .int .u8 b7, .int .u8 b8, .int .u8 b9, .int .u8 b10, .int .u8 b11, .int .u8 b12, .int .u8 b13, .int .u8 b14, .int .u8 b15], .int .i64 0, .int .i64 0]) ∧ Below W.heap.size W w') := fun W => back6 b0 b1 b2 b3 b4 b5 b6 b7 b8 b9 b10 b11 b12 b13 b14 b15 f0 f1 f2 f3 f4 f5 f6 f7 f8 f9 f10 f11 f12 f13 f14 f15 W
  have HAW : Hid (∀ W, Below w.heap.size w W → Calls Tryd.prog 17 #[] W fun e w' => e = .returned (.bool true) ∧ Below W.heap.size W w') := fun W hW => Awake.on tb W hW
  have HI : Hid _ := own_inj b0 b1 b2 b3 b4 b5 b6 b7 b8 b9 b10 b11 b12 b13 b14 b15 c0 c1 c2 c3 c4 c5 c6 c7 c8 c9 c10 c11 c12 c13 c14 c15 f0 f1 f2 f3 f4 f5 f6 f7 f8 f9 f10 f11 f12 f13 f14 f15 g0 g1 g2 g3 g4 g5 g6 g7 g8 g9 g10 g11 g12 g13 g14 g15
  have hfa : FitB [a0, a1, a2, a3] := fun z hz => by
    simp only [List.mem_cons, List.not_mem_nil, or_false] at hz
    rcases hz with rfl | rfl | rfl | rfl <;> assumption
  have hfb : FitB [b0, b1, b2, b3, b4, b5, b6, b7, b8, b9, b10, b11, b12, b13, b14, b15] := fun z hz => by
    simp only [List.mem_cons, List.not_mem_nil, or_false] at hz
    rcases hz with rfl | rfl | rfl | rfl | rfl | rfl | rfl | rfl | rfl | rfl | rfl | rfl | rfl | rfl | rfl | rfl <;> assumption
  have hfc : FitB [c0, c1, c2, c3, c4, c5, c6, c7, c8, c9, c10, c11, c12, c13, c14, c15] := fun z hz => by
    simp only [List.mem_cons, List.not_mem_nil, or_false] at hz
    rcases hz with rfl | rfl | rfl | rfl | rfl | rfl | rfl | rfl | rfl | rfl | rfl | rfl | rfl | rfl | rfl | rfl <;> assumption
  generalize text4 [a0, a1, a2, a3] = T4 at *
  generalize own6 [b0 * 256 + b1, b2 * 256 + b3, b4 * 256 + b5, b6 * 256 + b7, b8 * 256 + b9, b10 * 256 + b11, b12 * 256 + b13, b14 * 256 + b15] = TB at *
  generalize own6 [c0 * 256 + c1, c2 * 256 + c3, c4 * 256 + c5, c6 * 256 + c7, c8 * 256 + c9, c10 * 256 + c11, c12 * 256 + c13, c14 * 256 + c15] = TC at *
  have ea9997 : ∀ W, (Op.equalIn 9999 23 (.agg #[.int .u8 a0, .int .u8 a1, .int .u8 a2, .int .u8 a3]) (.agg #[.int .u8 a0, .int .u8 a1, .int .u8 a2, .int .u8 a3])).run Tryd.prog W = .ok true W := fun W => by
    have := eq_arr4 9997 [a0, a1, a2, a3] [a0, a1, a2, a3] hfa hfa rfl rfl W
    rwa [decide_eq_true rfl] at this
  have eb9997 : ∀ W, (Op.equalIn 9999 31 (.agg #[.int .u8 b0, .int .u8 b1, .int .u8 b2, .int .u8 b3, .int .u8 b4, .int .u8 b5, .int .u8 b6, .int .u8 b7, .int .u8 b8, .int .u8 b9, .int .u8 b10, .int .u8 b11, .int .u8 b12, .int .u8 b13, .int .u8 b14, .int .u8 b15]) (.agg #[.int .u8 b0, .int .u8 b1, .int .u8 b2, .int .u8 b3, .int .u8 b4, .int .u8 b5, .int .u8 b6, .int .u8 b7, .int .u8 b8, .int .u8 b9, .int .u8 b10, .int .u8 b11, .int .u8 b12, .int .u8 b13, .int .u8 b14, .int .u8 b15])).run Tryd.prog W = .ok true W := fun W => by
    have := eq_arr16R 9997 [b0, b1, b2, b3, b4, b5, b6, b7, b8, b9, b10, b11, b12, b13, b14, b15] [b0, b1, b2, b3, b4, b5, b6, b7, b8, b9, b10, b11, b12, b13, b14, b15] hfb hfb rfl rfl W
    rwa [decide_eq_true rfl] at this
  have ec9997 : Hid (∀ W, (Op.equalIn 9999 31 (.agg #[.int .u8 b0, .int .u8 b1, .int .u8 b2, .int .u8 b3, .int .u8 b4, .int .u8 b5, .int .u8 b6, .int .u8 b7, .int .u8 b8, .int .u8 b9, .int .u8 b10, .int .u8 b11, .int .u8 b12, .int .u8 b13, .int .u8 b14, .int .u8 b15]) (.agg #[.int .u8 c0, .int .u8 c1, .int .u8 c2, .int .u8 c3, .int .u8 c4, .int .u8 c5, .int .u8 c6, .int .u8 c7, .int .u8 c8, .int .u8 c9, .int .u8 c10, .int .u8 c11, .int .u8 c12, .int .u8 c13, .int .u8 c14, .int .u8 c15])).run Tryd.prog W = .ok (decide ([b0, b1, b2, b3, b4, b5, b6, b7, b8, b9, b10, b11, b12, b13, b14, b15] = [c0, c1, c2, c3, c4, c5, c6, c7, c8, c9, c10, c11, c12, c13, c14, c15])) W) := fun W => eq_arr16R 9997 [b0, b1, b2, b3, b4, b5, b6, b7, b8, b9, b10, b11, b12, b13, b14, b15] [c0, c1, c2, c3, c4, c5, c6, c7, c8, c9, c10, c11, c12, c13, c14, c15] hfb hfc rfl rfl W
  have ea9998 : ∀ W, (Op.equalIn 10000 23 (.agg #[.int .u8 a0, .int .u8 a1, .int .u8 a2, .int .u8 a3]) (.agg #[.int .u8 a0, .int .u8 a1, .int .u8 a2, .int .u8 a3])).run Tryd.prog W = .ok true W := fun W => by
    have := eq_arr4 9998 [a0, a1, a2, a3] [a0, a1, a2, a3] hfa hfa rfl rfl W
    rwa [decide_eq_true rfl] at this
  have eb9998 : ∀ W, (Op.equalIn 10000 31 (.agg #[.int .u8 b0, .int .u8 b1, .int .u8 b2, .int .u8 b3, .int .u8 b4, .int .u8 b5, .int .u8 b6, .int .u8 b7, .int .u8 b8, .int .u8 b9, .int .u8 b10, .int .u8 b11, .int .u8 b12, .int .u8 b13, .int .u8 b14, .int .u8 b15]) (.agg #[.int .u8 b0, .int .u8 b1, .int .u8 b2, .int .u8 b3, .int .u8 b4, .int .u8 b5, .int .u8 b6, .int .u8 b7, .int .u8 b8, .int .u8 b9, .int .u8 b10, .int .u8 b11, .int .u8 b12, .int .u8 b13, .int .u8 b14, .int .u8 b15])).run Tryd.prog W = .ok true W := fun W => by
    have := eq_arr16R 9998 [b0, b1, b2, b3, b4, b5, b6, b7, b8, b9, b10, b11, b12, b13, b14, b15] [b0, b1, b2, b3, b4, b5, b6, b7, b8, b9, b10, b11, b12, b13, b14, b15] hfb hfb rfl rfl W
    rwa [decide_eq_true rfl] at this
  have ec9998 : Hid (∀ W, (Op.equalIn 10000 31 (.agg #[.int .u8 b0, .int .u8 b1, .int .u8 b2, .int .u8 b3, .int .u8 b4, .int .u8 b5, .int .u8 b6, .int .u8 b7, .int .u8 b8, .int .u8 b9, .int .u8 b10, .int .u8 b11, .int .u8 b12, .int .u8 b13, .int .u8 b14, .int .u8 b15]) (.agg #[.int .u8 c0, .int .u8 c1, .int .u8 c2, .int .u8 c3, .int .u8 c4, .int .u8 c5, .int .u8 c6, .int .u8 c7, .int .u8 c8, .int .u8 c9, .int .u8 c10, .int .u8 c11, .int .u8 c12, .int .u8 c13, .int .u8 c14, .int .u8 c15])).run Tryd.prog W = .ok (decide ([b0, b1, b2, b3, b4, b5, b6, b7, b8, b9, b10, b11, b12, b13, b14, b15] = [c0, c1, c2, c3, c4, c5, c6, c7, c8, c9, c10, c11, c12, c13, c14, c15])) W) := fun W => eq_arr16R 9998 [b0, b1, b2, b3, b4, b5, b6, b7, b8, b9, b10, b11, b12, b13, b14, b15] [c0, c1, c2, c3, c4, c5, c6, c7, c8, c9, c10, c11, c12, c13, c14, c15] hfb hfc rfl rfl W
  have hk1 := blk_new w (.cells #[.int .u8 a0, .int .u8 a1, .int .u8 a2, .int .u8 a3] 23)
  have hk2 := blk_alloc hk1 (.cells #[.int .u8 b0, .int .u8 b1, .int .u8 b2, .int .u8 b3, .int .u8 b4, .int .u8 b5, .int .u8 b6, .int .u8 b7, .int .u8 b8, .int .u8 b9, .int .u8 b10, .int .u8 b11, .int .u8 b12, .int .u8 b13, .int .u8 b14, .int .u8 b15] 31)
  have hb1 := blk_new (w.alloc (.cells #[.int .u8 a0, .int .u8 a1, .int .u8 a2, .int .u8 a3] 23)) (.cells #[.int .u8 b0, .int .u8 b1, .int .u8 b2, .int .u8 b3, .int .u8 b4, .int .u8 b5, .int .u8 b6, .int .u8 b7, .int .u8 b8, .int .u8 b9, .int .u8 b10, .int .u8 b11, .int .u8 b12, .int .u8 b13, .int .u8 b14, .int .u8 b15] 31)
  have hk3 := blk_alloc hk2 (.cells #[.int .u8 c0, .int .u8 c1, .int .u8 c2, .int .u8 c3, .int .u8 c4, .int .u8 c5, .int .u8 c6, .int .u8 c7, .int .u8 c8, .int .u8 c9, .int .u8 c10, .int .u8 c11, .int .u8 c12, .int .u8 c13, .int .u8 c14, .int .u8 c15] 31)
  have hb2 := blk_alloc hb1 (.cells #[.int .u8 c0, .int .u8 c1, .int .u8 c2, .int .u8 c3, .int .u8 c4, .int .u8 c5, .int .u8 c6, .int .u8 c7, .int .u8 c8, .int .u8 c9, .int .u8 c10, .int .u8 c11, .int .u8 c12, .int .u8 c13, .int .u8 c14, .int .u8 c15] 31)
  have hc1 := blk_new ((w.alloc (.cells #[.int .u8 a0, .int .u8 a1, .int .u8 a2, .int .u8 a3] 23)).alloc (.cells #[.int .u8 b0, .int .u8 b1, .int .u8 b2, .int .u8 b3, .int .u8 b4, .int .u8 b5, .int .u8 b6, .int .u8 b7, .int .u8 b8, .int .u8 b9, .int .u8 b10, .int .u8 b11, .int .u8 b12, .int .u8 b13, .int .u8 b14, .int .u8 b15] 31)) (.cells #[.int .u8 c0, .int .u8 c1, .int .u8 c2, .int .u8 c3, .int .u8 c4, .int .u8 c5, .int .u8 c6, .int .u8 c7, .int .u8 c8, .int .u8 c9, .int .u8 c10, .int .u8 c11, .int .u8 c12, .int .u8 c13, .int .u8 c14, .int .u8 c15] 31)
  have hB1 := (Below.refl w.heap.size w).alloc (Nat.le_refl _) (.cells #[.int .u8 a0, .int .u8 a1, .int .u8 a2, .int .u8 a3] 23)
  have hB2 := hB1.alloc hB1.size (.cells #[.int .u8 b0, .int .u8 b1, .int .u8 b2, .int .u8 b3, .int .u8 b4, .int .u8 b5, .int .u8 b6, .int .u8 b7, .int .u8 b8, .int .u8 b9, .int .u8 b10, .int .u8 b11, .int .u8 b12, .int .u8 b13, .int .u8 b14, .int .u8 b15] 31)
  have hB3 := hB2.alloc hB2.size (.cells #[.int .u8 c0, .int .u8 c1, .int .u8 c2, .int .u8 c3, .int .u8 c4, .int .u8 c5, .int .u8 c6, .int .u8 c7, .int .u8 c8, .int .u8 c9, .int .u8 c10, .int .u8 c11, .int .u8 c12, .int .u8 c13, .int .u8 c14, .int .u8 c15] 31)
  have z1 : (w.alloc (.cells #[.int .u8 a0, .int .u8 a1, .int .u8 a2, .int .u8 a3] 23)).heap.size = w.heap.size + 1 := by simp
  have z2 : ((w.alloc (.cells #[.int .u8 a0, .int .u8 a1, .int .u8 a2, .int .u8 a3] 23)).alloc (.cells #[.int .u8 b0, .int .u8 b1, .int .u8 b2, .int .u8 b3, .int .u8 b4, .int .u8 b5, .int .u8 b6, .int .u8 b7, .int .u8 b8, .int .u8 b9, .int .u8 b10, .int .u8 b11, .int .u8 b12, .int .u8 b13, .int .u8 b14, .int .u8 b15] 31)).heap.size = w.heap.size + 1 + 1 := by simp
  rw [z1] at hb2
  rw [z2] at hc1
  clear hk1 hk2 hb1 hB1 hB2 z1 z2 tb hfa hfb hfc h0 h1 h2 h3 f0 f1 f2 f3 f4 f5 f6 f7 f8 f9 f10 f11 f12 f13 f14 f15 g0 g1 g2 g3 g4 g5 g6 g7 g8 g9 g10 g11 g12 g13 g14 g15
  go_enter Tryd.func9, Tryd.ntmps9
  go_wp2_with fail
  generalize ((w.alloc (.cells #[.int .u8 a0, .int .u8 a1, .int .u8 a2, .int .u8 a3] 23)).alloc (.cells #[.int .u8 b0, .int .u8 b1, .int .u8 b2, .int .u8 b3, .int .u8 b4, .int .u8 b5, .int .u8 b6, .int .u8 b7, .int .u8 b8, .int .u8 b9, .int .u8 b10, .int .u8 b11, .int .u8 b12, .int .u8 b13, .int .u8 b14, .int .u8 b15] 31)).alloc (.cells #[.int .u8 c0, .int .u8 c1, .int .u8 c2, .int .u8 c3, .int .u8 c4, .int .u8 c5, .int .u8 c6, .int .u8 c7, .int .u8 c8, .int .u8 c9, .int .u8 c10, .int .u8 c11, .int .u8 c12, .int .u8 c13, .int .u8 c14, .int .u8 c15] 31) = W3 at *
  refine (HT4.out _ hB3).mono ?_
  rintro e w1 ⟨rfl, hB⟩
  have hB4 := hB3.trans (hB.mono hB3.size)
  have ka := blk_on hk3 hB
  have kb := blk_on hb2 hB
  have kc := blk_on hc1 hB
  clear hk3 hb2 hc1 hB hB3 HT4
  go_wp2_with fail
  refine (HP4.out _).mono ?_
  rintro e w2 ⟨rfl, hB⟩
  have hB5 := hB4.trans (hB.mono hB4.size)
  have hB6 := hB5.alloc hB5.size (.cells #[.int .u8 a0, .int .u8 a1, .int .u8 a2, .int .u8 a3] 23)
  have hx := blk_new w2 (.cells #[.int .u8 a0, .int .u8 a1, .int .u8 a2, .int .u8 a3] 23)
  have ka2 := blk_alloc (blk_on ka hB) (.cells #[.int .u8 a0, .int .u8 a1, .int .u8 a2, .int .u8 a3] 23)
  have kb2 := blk_alloc (blk_on kb hB) (.cells #[.int .u8 a0, .int .u8 a1, .int .u8 a2, .int .u8 a3] 23)
  have kc2 := blk_alloc (blk_on kc hB) (.cells #[.int .u8 a0, .int .u8 a1, .int .u8 a2, .int .u8 a3] 23)
  have ux : (w2.alloc (.cells #[.int .u8 a0, .int .u8 a1, .int .u8 a2, .int .u8 a3] 23)).heap.size = w2.heap.size + 1 := by simp
  clear ka kb kc hB hB4 hB5 HP4
  have q0 : (w2.alloc (.cells #[.int .u8 a0, .int .u8 a1, .int .u8 a2, .int .u8 a3] 23)).cell? ⟨w.heap.size + 1, 0, none⟩ = some (.int .u8 b0) := blk_cell kb2 rfl
  have q1 : (w2.alloc (.cells #[.int .u8 a0, .int .u8 a1, .int .u8 a2, .int .u8 a3] 23)).cell? ⟨w.heap.size + 1, 1, none⟩ = some (.int .u8 b1) := blk_cell kb2 rfl
  have q2 : (w2.alloc (.cells #[.int .u8 a0, .int .u8 a1, .int .u8 a2, .int .u8 a3] 23)).cell? ⟨w.heap.size + 1, 2, none⟩ = some (.int .u8 b2) := blk_cell kb2 rfl
  have q3 : (w2.alloc (.cells #[.int .u8 a0, .int .u8 a1, .int .u8 a2, .int .u8 a3] 23)).cell? ⟨w.heap.size + 1, 3, none⟩ = some (.int .u8 b3) := blk_cell kb2 rfl
  have q4 : (w2.alloc (.cells #[.int .u8 a0, .int .u8 a1, .int .u8 a2, .int .u8 a3] 23)).cell? ⟨w.heap.size + 1, 4, none⟩ = some (.int .u8 b4) := blk_cell kb2 rfl
  have q5 : (w2.alloc (.cells #[.int .u8 a0, .int .u8 a1, .int .u8 a2, .int .u8 a3] 23)).cell? ⟨w.heap.size + 1, 5, none⟩ = some (.int .u8 b5) := blk_cell kb2 rfl
  have q6 : (w2.alloc (.cells #[.int .u8 a0, .int .u8 a1, .int .u8 a2, .int .u8 a3] 23)).cell? ⟨w.heap.size + 1, 6, none⟩ = some (.int .u8 b6) := blk_cell kb2 rfl
  have q7 : (w2.alloc (.cells #[.int .u8 a0, .int .u8 a1, .int .u8 a2, .int .u8 a3] 23)).cell? ⟨w.heap.size + 1, 7, none⟩ = some (.int .u8 b7) := blk_cell kb2 rfl
  have q8 : (w2.alloc (.cells #[.int .u8 a0, .int .u8 a1, .int .u8 a2, .int .u8 a3] 23)).cell? ⟨w.heap.size + 1, 8, none⟩ = some (.int .u8 b8) := blk_cell kb2 rfl
  have q9 : (w2.alloc (.cells #[.int .u8 a0, .int .u8 a1, .int .u8 a2, .int .u8 a3] 23)).cell? ⟨w.heap.size + 1, 9, none⟩ = some (.int .u8 b9) := blk_cell kb2 rfl
  have q10 : (w2.alloc (.cells #[.int .u8 a0, .int .u8 a1, .int .u8 a2, .int .u8 a3] 23)).cell? ⟨w.heap.size + 1, 10, none⟩ = some (.int .u8 b10) := blk_cell kb2 rfl
  have q11 : (w2.alloc (.cells #[.int .u8 a0, .int .u8 a1, .int .u8 a2, .int .u8 a3] 23)).cell? ⟨w.heap.size + 1, 11, none⟩ = some (.int .u8 b11) := blk_cell kb2 rfl
  have q12 : (w2.alloc (.cells #[.int .u8 a0, .int .u8 a1, .int .u8 a2, .int .u8 a3] 23)).cell? ⟨w.heap.size + 1, 12, none⟩ = some (.int .u8 b12) := blk_cell kb2 rfl
  have q13 : (w2.alloc (.cells #[.int .u8 a0, .int .u8 a1, .int .u8 a2, .int .u8 a3] 23)).cell? ⟨w.heap.size + 1, 13, none⟩ = some (.int .u8 b13) := blk_cell kb2 rfl
  have q14 : (w2.alloc (.cells #[.int .u8 a0, .int .u8 a1, .int .u8 a2, .int .u8 a3] 23)).cell? ⟨w.heap.size + 1, 14, none⟩ = some (.int .u8 b14) := blk_cell kb2 rfl
  have q15 : (w2.alloc (.cells #[.int .u8 a0, .int .u8 a1, .int .u8 a2, .int .u8 a3] 23)).cell? ⟨w.heap.size + 1, 15, none⟩ = some (.int .u8 b15) := blk_cell kb2 rfl
  go_wp2_with fail
  generalize w2.alloc (.cells #[.int .u8 a0, .int .u8 a1, .int .u8 a2, .int .u8 a3] 23) = W4 at *
  refine (HTB.out _ hB6).mono ?_
  rintro e w3 ⟨rfl, hB⟩
  have hB7 := hB6.trans (hB.mono hB6.size)
  have ka3 := blk_on ka2 hB
  have kb3 := blk_on kb2 hB
  have kc3 := blk_on kc2 hB
  have hx3 := blk_on hx hB
  clear ka2 kb2 kc2 hx hB hB6 ux q0 q1 q2 q3 q4 q5 q6 q7 q8 q9 q10 q11 q12 q13 q14 q15
  go_wp2_with fail
  refine (HP6.out _).mono ?_
  rintro e w4 ⟨rfl, hB⟩
  have hB8 := hB7.trans (hB.mono hB7.size)
  have hB9 := hB8.alloc hB8.size (.cells #[.int .u8 b0, .int .u8 b1, .int .u8 b2, .int .u8 b3, .int .u8 b4, .int .u8 b5, .int .u8 b6, .int .u8 b7, .int .u8 b8, .int .u8 b9, .int .u8 b10, .int .u8 b11, .int .u8 b12, .int .u8 b13, .int .u8 b14, .int .u8 b15] 31)
  have hy := blk_new w4 (.cells #[.int .u8 b0, .int .u8 b1, .int .u8 b2, .int .u8 b3, .int .u8 b4, .int .u8 b5, .int .u8 b6, .int .u8 b7, .int .u8 b8, .int .u8 b9, .int .u8 b10, .int .u8 b11, .int .u8 b12, .int .u8 b13, .int .u8 b14, .int .u8 b15] 31)
  have ka4 := blk_alloc (blk_on ka3 hB) (.cells #[.int .u8 b0, .int .u8 b1, .int .u8 b2, .int .u8 b3, .int .u8 b4, .int .u8 b5, .int .u8 b6, .int .u8 b7, .int .u8 b8, .int .u8 b9, .int .u8 b10, .int .u8 b11, .int .u8 b12, .int .u8 b13, .int .u8 b14, .int .u8 b15] 31)
  have kb4 := blk_alloc (blk_on kb3 hB) (.cells #[.int .u8 b0, .int .u8 b1, .int .u8 b2, .int .u8 b3, .int .u8 b4, .int .u8 b5, .int .u8 b6, .int .u8 b7, .int .u8 b8, .int .u8 b9, .int .u8 b10, .int .u8 b11, .int .u8 b12, .int .u8 b13, .int .u8 b14, .int .u8 b15] 31)
  have kc4 := blk_alloc (blk_on kc3 hB) (.cells #[.int .u8 b0, .int .u8 b1, .int .u8 b2, .int .u8 b3, .int .u8 b4, .int .u8 b5, .int .u8 b6, .int .u8 b7, .int .u8 b8, .int .u8 b9, .int .u8 b10, .int .u8 b11, .int .u8 b12, .int .u8 b13, .int .u8 b14, .int .u8 b15] 31)
  have hx4 := blk_alloc (blk_on hx3 hB) (.cells #[.int .u8 b0, .int .u8 b1, .int .u8 b2, .int .u8 b3, .int .u8 b4, .int .u8 b5, .int .u8 b6, .int .u8 b7, .int .u8 b8, .int .u8 b9, .int .u8 b10, .int .u8 b11, .int .u8 b12, .int .u8 b13, .int .u8 b14, .int .u8 b15] 31)
  clear ka3 kb3 kc3 hx3 hB hB7 hB8 HP6
  have HBW : Hid _ := hB9
  have HLA : Hid _ := fun y : Hi (w4.alloc (.cells #[.int .u8 b0, .int .u8 b1, .int .u8 b2, .int .u8 b3, .int .u8 b4, .int .u8 b5, .int .u8 b6, .int .u8 b7, .int .u8 b8, .int .u8 b9, .int .u8 b10, .int .u8 b11, .int .u8 b12, .int .u8 b13, .int .u8 b14, .int .u8 b15] 31)) => agg_load (t := 23) Tryd.isAgg23 Tryd.sizeOf23 rfl (CellsAt.of_blk (Hi.blk ka4 y))
  have HLX : Hid _ := fun y : Hi (w4.alloc (.cells #[.int .u8 b0, .int .u8 b1, .int .u8 b2, .int .u8 b3, .int .u8 b4, .int .u8 b5, .int .u8 b6, .int .u8 b7, .int .u8 b8, .int .u8 b9, .int .u8 b10, .int .u8 b11, .int .u8 b12, .int .u8 b13, .int .u8 b14, .int .u8 b15] 31)) => agg_load (t := 23) Tryd.isAgg23 Tryd.sizeOf23 rfl (CellsAt.of_blk (Hi.blk hx4 y))
  have HLB : Hid _ := fun y : Hi (w4.alloc (.cells #[.int .u8 b0, .int .u8 b1, .int .u8 b2, .int .u8 b3, .int .u8 b4, .int .u8 b5, .int .u8 b6, .int .u8 b7, .int .u8 b8, .int .u8 b9, .int .u8 b10, .int .u8 b11, .int .u8 b12, .int .u8 b13, .int .u8 b14, .int .u8 b15] 31)) => agg_load (t := 31) Tryd.isAgg31 Tryd.sizeOf31 rfl (CellsAt.of_blk (Hi.blk kb4 y))
  have HLC : Hid _ := fun y : Hi (w4.alloc (.cells #[.int .u8 b0, .int .u8 b1, .int .u8 b2, .int .u8 b3, .int .u8 b4, .int .u8 b5, .int .u8 b6, .int .u8 b7, .int .u8 b8, .int .u8 b9, .int .u8 b10, .int .u8 b11, .int .u8 b12, .int .u8 b13, .int .u8 b14, .int .u8 b15] 31)) => agg_load (t := 31) Tryd.isAgg31 Tryd.sizeOf31 rfl (CellsAt.of_blk (Hi.blk kc4 y))
  have HLY : Hid _ := fun y : Hi (w4.alloc (.cells #[.int .u8 b0, .int .u8 b1, .int .u8 b2, .int .u8 b3, .int .u8 b4, .int .u8 b5, .int .u8 b6, .int .u8 b7, .int .u8 b8, .int .u8 b9, .int .u8 b10, .int .u8 b11, .int .u8 b12, .int .u8 b13, .int .u8 b14, .int .u8 b15] 31)) => agg_load (t := 31) Tryd.isAgg31 Tryd.sizeOf31 rfl (CellsAt.of_blk (Hi.blk hy y))
  clear ka4 kb4 kc4 hx4 hy hB9
  go_wp2_with fail
  generalize w4.alloc (.cells #[.int .u8 b0, .int .u8 b1, .int .u8 b2, .int .u8 b3, .int .u8 b4, .int .u8 b5, .int .u8 b6, .int .u8 b7, .int .u8 b8, .int .u8 b9, .int .u8 b10, .int .u8 b11, .int .u8 b12, .int .u8 b13, .int .u8 b14, .int .u8 b15] 31) = W9 at *
  by_cases hbc : [b0, b1, b2, b3, b4, b5, b6, b7, b8, b9, b10, b11, b12, b13, b14, b15] = [c0, c1, c2, c3, c4, c5, c6, c7, c8, c9, c10, c11, c12, c13, c14, c15]
  · have hT := HI.out.2 hbc
    subst hT
    clear HI ec9997 ec9998
    simp only [List.cons.injEq, and_true] at hbc
    obtain ⟨rfl, rfl, rfl, rfl, rfl, rfl, rfl, rfl, rfl, rfl, rfl, rfl, rfl, rfl, rfl, rfl⟩ := hbc
    change Hid (∀ y : Hi W9, (Instr.loadAt 23 (.pointer (some ⟨w.heap.size, 0, none⟩))).run Tryd.prog y.W = .ok (.agg #[.int .u8 a0, .int .u8 a1, .int .u8 a2, .int .u8 a3]) y.W) at HLA
    change Hid (∀ y : Hi W9, (Instr.loadAt 23 (.pointer (some ⟨w2.heap.size, 0, none⟩))).run Tryd.prog y.W = .ok (.agg #[.int .u8 a0, .int .u8 a1, .int .u8 a2, .int .u8 a3]) y.W) at HLX
    change Hid (∀ y : Hi W9, (Instr.loadAt 31 (.pointer (some ⟨w.heap.size + 1, 0, none⟩))).run Tryd.prog y.W = .ok (.agg #[.int .u8 b0, .int .u8 b1, .int .u8 b2, .int .u8 b3, .int .u8 b4, .int .u8 b5, .int .u8 b6, .int .u8 b7, .int .u8 b8, .int .u8 b9, .int .u8 b10, .int .u8 b11, .int .u8 b12, .int .u8 b13, .int .u8 b14, .int .u8 b15]) y.W) at HLB
    change Hid (∀ y : Hi W9, (Instr.loadAt 31 (.pointer (some ⟨w.heap.size + 1 + 1, 0, none⟩))).run Tryd.prog y.W = .ok (.agg #[.int .u8 b0, .int .u8 b1, .int .u8 b2, .int .u8 b3, .int .u8 b4, .int .u8 b5, .int .u8 b6, .int .u8 b7, .int .u8 b8, .int .u8 b9, .int .u8 b10, .int .u8 b11, .int .u8 b12, .int .u8 b13, .int .u8 b14, .int .u8 b15]) y.W) at HLC
    change Hid (∀ y : Hi W9, (Instr.loadAt 31 (.pointer (some ⟨w4.heap.size, 0, none⟩))).run Tryd.prog y.W = .ok (.agg #[.int .u8 b0, .int .u8 b1, .int .u8 b2, .int .u8 b3, .int .u8 b4, .int .u8 b5, .int .u8 b6, .int .u8 b7, .int .u8 b8, .int .u8 b9, .int .u8 b10, .int .u8 b11, .int .u8 b12, .int .u8 b13, .int .u8 b14, .int .u8 b15]) y.W) at HLY
    generalize (#[.int .u8 b0, .int .u8 b1, .int .u8 b2, .int .u8 b3, .int .u8 b4, .int .u8 b5, .int .u8 b6, .int .u8 b7, .int .u8 b8, .int .u8 b9, .int .u8 b10, .int .u8 b11, .int .u8 b12, .int .u8 b13, .int .u8 b14, .int .u8 b15] : Array Value) = vb at *
    generalize (#[.int .u8 a0, .int .u8 a1, .int .u8 a2, .int .u8 a3] : Array Value) = va at *
    refine wp_region_hi (by kernel_rfl) (by kernel_rfl) ?_
    repeat (first | (go_big_quiet_want; refine hi_load (.tmp 3) 23 rfl rfl HLA.out ?_; simp only [Act.put, List.setIfInBounds_toArray, List.set_cons_zero, List.set_cons_succ]; go_big_quiet_on) | (go_big_quiet_want; refine hi_load (.tmp 4) 31 rfl rfl HLB.out ?_; simp only [Act.put, List.setIfInBounds_toArray, List.set_cons_zero, List.set_cons_succ]; go_big_quiet_on) | (go_big_quiet_want; refine hi_load (.tmp 5) 31 rfl rfl HLC.out ?_; simp only [Act.put, List.setIfInBounds_toArray, List.set_cons_zero, List.set_cons_succ]; go_big_quiet_on) | (go_big_quiet_want; refine hi_load (.tmp 7) 23 rfl rfl HLX.out ?_; simp only [Act.put, List.setIfInBounds_toArray, List.set_cons_zero, List.set_cons_succ]; go_big_quiet_on) | (go_big_quiet_want; refine hi_load (.tmp 10) 31 rfl rfl HLY.out ?_; simp only [Act.put, List.setIfInBounds_toArray, List.set_cons_zero, List.set_cons_succ]; go_big_quiet_on) | go_big_quiet_step (first | (go_at_call_of 20 (Value.agg vb); exact Hi.calls (HTB.out _ (HBW.out.trans ((Hi.below _).mono HBW.out.size)))) | (go_at_call 17; exact Hi.calls (HAW.out _ (HBW.out.trans ((Hi.below _).mono HBW.out.size))))))
    refine wpQuiet_nil ?_
    intro _ hw
    obtain ⟨y, rfl⟩ := hw
    go_wp2
    go_ret
    exact ⟨rfl, HBW.out.trans (y.below.mono HBW.out.size)⟩
  · have hT : ¬ TB = TC := fun h => hbc (HI.out.1 h)
    have hT2 : (TB == TC) = false := beq_eq_false_iff_ne.2 hT
    have hT3 := bytes_ne TB TC hT
    have ec1 := ec9997.out
    have ec2 := ec9998.out
    rw [decide_eq_false hbc] at ec1 ec2
    clear HI ec9997 ec9998 hbc
    change Hid (∀ y : Hi W9, (Instr.loadAt 23 (.pointer (some ⟨w.heap.size, 0, none⟩))).run Tryd.prog y.W = .ok (.agg #[.int .u8 a0, .int .u8 a1, .int .u8 a2, .int .u8 a3]) y.W) at HLA
    change Hid (∀ y : Hi W9, (Instr.loadAt 23 (.pointer (some ⟨w2.heap.size, 0, none⟩))).run Tryd.prog y.W = .ok (.agg #[.int .u8 a0, .int .u8 a1, .int .u8 a2, .int .u8 a3]) y.W) at HLX
    change Hid (∀ y : Hi W9, (Instr.loadAt 31 (.pointer (some ⟨w.heap.size + 1, 0, none⟩))).run Tryd.prog y.W = .ok (.agg #[.int .u8 b0, .int .u8 b1, .int .u8 b2, .int .u8 b3, .int .u8 b4, .int .u8 b5, .int .u8 b6, .int .u8 b7, .int .u8 b8, .int .u8 b9, .int .u8 b10, .int .u8 b11, .int .u8 b12, .int .u8 b13, .int .u8 b14, .int .u8 b15]) y.W) at HLB
    change Hid (∀ y : Hi W9, (Instr.loadAt 31 (.pointer (some ⟨w.heap.size + 1 + 1, 0, none⟩))).run Tryd.prog y.W = .ok (.agg #[.int .u8 c0, .int .u8 c1, .int .u8 c2, .int .u8 c3, .int .u8 c4, .int .u8 c5, .int .u8 c6, .int .u8 c7, .int .u8 c8, .int .u8 c9, .int .u8 c10, .int .u8 c11, .int .u8 c12, .int .u8 c13, .int .u8 c14, .int .u8 c15]) y.W) at HLC
    change Hid (∀ y : Hi W9, (Instr.loadAt 31 (.pointer (some ⟨w4.heap.size, 0, none⟩))).run Tryd.prog y.W = .ok (.agg #[.int .u8 b0, .int .u8 b1, .int .u8 b2, .int .u8 b3, .int .u8 b4, .int .u8 b5, .int .u8 b6, .int .u8 b7, .int .u8 b8, .int .u8 b9, .int .u8 b10, .int .u8 b11, .int .u8 b12, .int .u8 b13, .int .u8 b14, .int .u8 b15]) y.W) at HLY
    generalize (#[.int .u8 b0, .int .u8 b1, .int .u8 b2, .int .u8 b3, .int .u8 b4, .int .u8 b5, .int .u8 b6, .int .u8 b7, .int .u8 b8, .int .u8 b9, .int .u8 b10, .int .u8 b11, .int .u8 b12, .int .u8 b13, .int .u8 b14, .int .u8 b15] : Array Value) = vb at *
    generalize (#[.int .u8 c0, .int .u8 c1, .int .u8 c2, .int .u8 c3, .int .u8 c4, .int .u8 c5, .int .u8 c6, .int .u8 c7, .int .u8 c8, .int .u8 c9, .int .u8 c10, .int .u8 c11, .int .u8 c12, .int .u8 c13, .int .u8 c14, .int .u8 c15] : Array Value) = vc at *
    generalize (#[.int .u8 a0, .int .u8 a1, .int .u8 a2, .int .u8 a3] : Array Value) = va at *
    refine wp_region_hi (by kernel_rfl) (by kernel_rfl) ?_
    repeat (first | (go_big_quiet_want; refine hi_load (.tmp 3) 23 rfl rfl HLA.out ?_; simp only [Act.put, List.setIfInBounds_toArray, List.set_cons_zero, List.set_cons_succ]; go_big_quiet_on) | (go_big_quiet_want; refine hi_load (.tmp 4) 31 rfl rfl HLB.out ?_; simp only [Act.put, List.setIfInBounds_toArray, List.set_cons_zero, List.set_cons_succ]; go_big_quiet_on) | (go_big_quiet_want; refine hi_load (.tmp 5) 31 rfl rfl HLC.out ?_; simp only [Act.put, List.setIfInBounds_toArray, List.set_cons_zero, List.set_cons_succ]; go_big_quiet_on) | (go_big_quiet_want; refine hi_load (.tmp 7) 23 rfl rfl HLX.out ?_; simp only [Act.put, List.setIfInBounds_toArray, List.set_cons_zero, List.set_cons_succ]; go_big_quiet_on) | (go_big_quiet_want; refine hi_load (.tmp 10) 31 rfl rfl HLY.out ?_; simp only [Act.put, List.setIfInBounds_toArray, List.set_cons_zero, List.set_cons_succ]; go_big_quiet_on) | go_big_quiet_step (first | (go_at_call_of 20 (Value.agg vb); exact Hi.calls (HTB.out _ (HBW.out.trans ((Hi.below _).mono HBW.out.size)))) | (go_at_call_of 20 (Value.agg vc); exact Hi.calls (HTC.out _ (HBW.out.trans ((Hi.below _).mono HBW.out.size)))) | (go_at_call 17; exact Hi.calls (HAW.out _ (HBW.out.trans ((Hi.below _).mono HBW.out.size))))))
    refine wpQuiet_nil ?_
    intro _ hw
    obtain ⟨y, rfl⟩ := hw
    go_wp2
    go_ret
    exact ⟨rfl, HBW.out.trans (y.below.mono HBW.out.size)⟩

set_option maxRecDepth 100000 in
theorem open_addr6R {H : Type} {enc : TypeId × Value → H} {W : World} {v : Value} {d : DataW H} {p : List MemPlace} (h : DataW.Trod enc Tryd.prog W 0 (fun _ => true) true 31 v d p) :
    ∃ a0 a1 a2 a3 a4 a5 a6 a7 a8 a9 a10 a11 a12 a13 a14 a15 : Int, v = .agg #[.int .u8 a0, .int .u8 a1, .int .u8 a2, .int .u8 a3, .int .u8 a4, .int .u8 a5, .int .u8 a6, .int .u8 a7, .int .u8 a8, .int .u8 a9, .int .u8 a10, .int .u8 a11, .int .u8 a12, .int .u8 a13, .int .u8 a14, .int .u8 a15] ∧ (0 ≤ a0 ∧ a0 < 256) ∧ (0 ≤ a1 ∧ a1 < 256) ∧ (0 ≤ a2 ∧ a2 < 256) ∧ (0 ≤ a3 ∧ a3 < 256) ∧ (0 ≤ a4 ∧ a4 < 256) ∧ (0 ≤ a5 ∧ a5 < 256) ∧ (0 ≤ a6 ∧ a6 < 256) ∧ (0 ≤ a7 ∧ a7 < 256) ∧ (0 ≤ a8 ∧ a8 < 256) ∧ (0 ≤ a9 ∧ a9 < 256) ∧ (0 ≤ a10 ∧ a10 < 256) ∧ (0 ≤ a11 ∧ a11 < 256) ∧ (0 ≤ a12 ∧ a12 < 256) ∧ (0 ≤ a13 ∧ a13 < 256) ∧ (0 ≤ a14 ∧ a14 < 256) ∧ (0 ≤ a15 ∧ a15 < 256) := by
  obtain ⟨fuel, hf⟩ := h
  obtain ⟨zs, hl, hcs, hfit⟩ := cells_arrR Tryd.underlying31 (by kernel_rfl) (by kernel_rfl) hf
  have hv := agg_ofR hcs (by simp; omega)
  match zs, hl with
  | [a0, a1, a2, a3, a4, a5, a6, a7, a8, a9, a10, a11, a12, a13, a14, a15], _ => exact ⟨a0, a1, a2, a3, a4, a5, a6, a7, a8, a9, a10, a11, a12, a13, a14, a15, hv, hfit _ (by simp), hfit _ (by simp), hfit _ (by simp), hfit _ (by simp), hfit _ (by simp), hfit _ (by simp), hfit _ (by simp), hfit _ (by simp), hfit _ (by simp), hfit _ (by simp), hfit _ (by simp), hfit _ (by simp), hfit _ (by simp), hfit _ (by simp), hfit _ (by simp), hfit _ (by simp)⟩

set_option maxRecDepth 100000 in
theorem addrBack_open {H : Type} {enc : TypeId × Value → H} {W : World} {base : Nat} (tb : Tabs W ∧ Tz W) (v0 v1 v2 : Value) {d0 d1 d2 : DataW H} {p0 p1 p2 : List MemPlace}
    (o0 : Value.okWide Tryd.prog W .any base 23 v0) (h0 : DataW.Trod enc Tryd.prog W 0 (fun _ => true) true 23 v0 d0 p0) (z0 : ∀ k ∈ d0.weights Tryd.prog 23, k ≤ reachBytes)
    (o1 : Value.okWide Tryd.prog W .any base 31 v1) (h1 : DataW.Trod enc Tryd.prog W 0 (fun _ => true) true 31 v1 d1 p1) (z1 : ∀ k ∈ d1.weights Tryd.prog 31, k ≤ reachBytes)
    (o2 : Value.okWide Tryd.prog W .any base 31 v2) (h2 : DataW.Trod enc Tryd.prog W 0 (fun _ => true) true 31 v2 d2 p2) (z2 : ∀ k ∈ d2.weights Tryd.prog 31, k ≤ reachBytes) :
    Calls Tryd.prog 9 #[v0, v1, v2] W fun e w' => e = .returned (.bool true) ∧ Below W.heap.size W w' := by
  obtain ⟨a0, a1, a2, a3, rfl, e0, e1, e2, e3⟩ := open_four h0
  obtain ⟨b0, b1, b2, b3, b4, b5, b6, b7, b8, b9, b10, b11, b12, b13, b14, b15, rfl, f0, f1, f2, f3, f4, f5, f6, f7, f8, f9, f10, f11, f12, f13, f14, f15⟩ := open_addr6R h1
  obtain ⟨c0, c1, c2, c3, c4, c5, c6, c7, c8, c9, c10, c11, c12, c13, c14, c15, rfl, g0, g1, g2, g3, g4, g5, g6, g7, g8, g9, g10, g11, g12, g13, g14, g15⟩ := open_addr6R h2
  exact addrBack_walk a0 a1 a2 a3 b0 b1 b2 b3 b4 b5 b6 b7 b8 b9 b10 b11 b12 b13 b14 b15 c0 c1 c2 c3 c4 c5 c6 c7 c8 c9 c10 c11 c12 c13 c14 c15 e0 e1 e2 e3 f0 f1 f2 f3 f4 f5 f6 f7 f8 f9 f10 f11 f12 f13 f14 f15 g0 g1 g2 g3 g4 g5 g6 g7 g8 g9 g10 g11 g12 g13 g14 g15 W tb

end Go.Proofs.YtlpbffcijhgelaaDoor

namespace Go.Proofs.YtlpbffcijhgelaaDoor
open Go Go.RowKit
set_option linter.unusedVariables false
set_option linter.unusedSimpArgs false

def Pre.new4 : Pre Dot := ⟨Dot.new, false, ⟨0, false⟩⟩

def prefix4E (l : List UInt8) (x : End (Pre Dot)) : Value :=
  match x with
  | .bad n => .tuple #[P4 0 0 0 0 0, .int .i64 n, .int .i64 20]
  | .good p => if okP4 p.addr.e0 p.addr.e1 p.addr.e2 p.addr.num.value p.num.value then .tuple #[P4 p.addr.e0 p.addr.e1 p.addr.e2 p.addr.num.value p.num.value, .int .i64 0, .int .i64 0] else .tuple #[P4 0 0 0 0 0, .int .i64 (Lib.indexByte l 47), .int .i64 21]

theorem w0_pre (w : World) : PreIn 74 (.pointer (some ⟨w.heap.size + 1, 0, none⟩)) (DotIn (w.heap.size + 1)) 32 (w.heap.size + 2) Pre.new4 (((w.alloc (.cells #[.int .u8 0, .int .u8 0, .int .u8 0, .int .u8 0, .int .i64 0] 38)).alloc (.cells #[.int .u8 0, .int .u8 0, .int .u8 0, .int .i64 0, .int .i64 0, .bool false] 71)).alloc (.cells #[.iface 74 (.pointer (some ⟨w.heap.size + 1, 0, none⟩)), .int .i64 32, .bool false, .int .i64 0, .bool false] 105)) ∧ Below w.heap.size w (((w.alloc (.cells #[.int .u8 0, .int .u8 0, .int .u8 0, .int .u8 0, .int .i64 0] 38)).alloc (.cells #[.int .u8 0, .int .u8 0, .int .u8 0, .int .i64 0, .int .i64 0, .bool false] 71)).alloc (.cells #[.iface 74 (.pointer (some ⟨w.heap.size + 1, 0, none⟩)), .int .i64 32, .bool false, .int .i64 0, .bool false] 105)) ∧ (((w.alloc (.cells #[.int .u8 0, .int .u8 0, .int .u8 0, .int .u8 0, .int .i64 0] 38)).alloc (.cells #[.int .u8 0, .int .u8 0, .int .u8 0, .int .i64 0, .int .i64 0, .bool false] 71)).alloc (.cells #[.iface 74 (.pointer (some ⟨w.heap.size + 1, 0, none⟩)), .int .i64 32, .bool false, .int .i64 0, .bool false] 105)).heap[w.heap.size]? = some (.cells #[.int .u8 0, .int .u8 0, .int .u8 0, .int .u8 0, .int .i64 0] 38) ∧ (((w.alloc (.cells #[.int .u8 0, .int .u8 0, .int .u8 0, .int .u8 0, .int .i64 0] 38)).alloc (.cells #[.int .u8 0, .int .u8 0, .int .u8 0, .int .i64 0, .int .i64 0, .bool false] 71)).alloc (.cells #[.iface 74 (.pointer (some ⟨w.heap.size + 1, 0, none⟩)), .int .i64 32, .bool false, .int .i64 0, .bool false] 105)).heap.size = w.heap.size + 3 := by
  have a0 : (((w.alloc (.cells #[.int .u8 0, .int .u8 0, .int .u8 0, .int .u8 0, .int .i64 0] 38)).alloc (.cells #[.int .u8 0, .int .u8 0, .int .u8 0, .int .i64 0, .int .i64 0, .bool false] 71)).alloc (.cells #[.iface 74 (.pointer (some ⟨w.heap.size + 1, 0, none⟩)), .int .i64 32, .bool false, .int .i64 0, .bool false] 105)).heap[w.heap.size]? = some (.cells #[.int .u8 0, .int .u8 0, .int .u8 0, .int .u8 0, .int .i64 0] 38) := by
    rw [Below.heap_alloc _ _ _ (by simp; omega), Below.heap_alloc _ _ _ (by simp)]
    exact alloc_new _ _
  have a1 : (((w.alloc (.cells #[.int .u8 0, .int .u8 0, .int .u8 0, .int .u8 0, .int .i64 0] 38)).alloc (.cells #[.int .u8 0, .int .u8 0, .int .u8 0, .int .i64 0, .int .i64 0, .bool false] 71)).alloc (.cells #[.iface 74 (.pointer (some ⟨w.heap.size + 1, 0, none⟩)), .int .i64 32, .bool false, .int .i64 0, .bool false] 105)).heap[w.heap.size + 1]? = some (.cells #[.int .u8 0, .int .u8 0, .int .u8 0, .int .i64 0, .int .i64 0, .bool false] 71) := by
    rw [Below.heap_alloc _ _ _ (by simp)]
    exact alloc_new2 _ _ _
  have a2 : (((w.alloc (.cells #[.int .u8 0, .int .u8 0, .int .u8 0, .int .u8 0, .int .i64 0] 38)).alloc (.cells #[.int .u8 0, .int .u8 0, .int .u8 0, .int .i64 0, .int .i64 0, .bool false] 71)).alloc (.cells #[.iface 74 (.pointer (some ⟨w.heap.size + 1, 0, none⟩)), .int .i64 32, .bool false, .int .i64 0, .bool false] 105)).heap[w.heap.size + 2]? = some (.cells #[.iface 74 (.pointer (some ⟨w.heap.size + 1, 0, none⟩)), .int .i64 32, .bool false, .int .i64 0, .bool false] 105) := by
    simpa using alloc_new ((w.alloc (.cells #[.int .u8 0, .int .u8 0, .int .u8 0, .int .u8 0, .int .i64 0] 38)).alloc (.cells #[.int .u8 0, .int .u8 0, .int .u8 0, .int .i64 0, .int .i64 0, .bool false] 71)) (.cells #[.iface 74 (.pointer (some ⟨w.heap.size + 1, 0, none⟩)), .int .i64 32, .bool false, .int .i64 0, .bool false] 105)
  refine ⟨⟨⟨⟨?_, ?_, ?_, ?_, ?_, ?_⟩, Dot.ok_new, ⟨_, a1⟩⟩, ?_, ?_, ?_, ?_, ?_, ⟨by decide, by decide⟩, ⟨_, a2⟩⟩, (((Below.refl _ w).alloc (Nat.le_refl _) _).alloc (by simp) _).alloc (by simp; omega) _, a0, by simp⟩
  all_goals (unfold World.cell?; first | (rw [a1]; rfl) | (rw [a2]; rfl))

theorem pre4_kind (n : Nat) : Kind (preReader dotReader 32) (n + 1) (fun j => j = n + 1 ∨ j = n + 2) 106 (.pointer (some ⟨n + 2, 0, none⟩)) 130 131 (PreIn 74 (.pointer (some ⟨n + 1, 0, none⟩)) (DotIn (n + 1)) 32 (n + 2)) :=
  pre_kind (dot_kind (B := n + 1) (b := n + 1) (Nat.le_refl _)) (by omega) (by omega) (by decide) (dot_frame (by omega))

theorem DotAt.blk {d : Dot} {w w' : World} {b : Nat} (h : DotAt d w b 0) (hb : w'.heap[b]? = w.heap[b]?) : DotAt d w' b 0 := by
  have ec := fun i => World.cell?_of_block (a := ⟨b, i, none⟩) hb
  exact ⟨(ec _).trans h.c0, (ec _).trans h.c1, (ec _).trans h.c2, (ec _).trans h.c3, (ec _).trans h.c4, (ec _).trans h.c5⟩

set_option maxHeartbeats 8000000 in
set_option maxRecDepth 100000 in
theorem prefix4_calls (s : ByteArray) (hs : s.size ≤ 140737488355328) (w : World) :
    Calls Tryd.prog 22 #[.string s] w fun e w' => e = .returned (prefix4E s.data.toList ((preReader dotReader 32).read s.data.toList 0 Pre.new4)) ∧ Below w.heap.size w w' := by
  obtain ⟨hnew, hB0, hres, hsz⟩ := w0_pre w
  have hC := read_calls (pre4_kind w.heap.size) s hs Pre.new4 _ hnew (by rw [hsz]; omega) (fun k hk => by rw [hsz]; omega)
  generalize (preReader dotReader 32).read s.data.toList 0 Pre.new4 = x at hC
  go_enter Tryd.func22, Tryd.ntmps22
  go_wp2_with fail
  generalize (((w.alloc (.cells #[.int .u8 0, .int .u8 0, .int .u8 0, .int .u8 0, .int .i64 0] 38)).alloc (.cells #[.int .u8 0, .int .u8 0, .int .u8 0, .int .i64 0, .int .i64 0, .bool false] 71)).alloc (.cells #[.iface 74 (.pointer (some ⟨w.heap.size + 1, 0, none⟩)), .int .i64 32, .bool false, .int .i64 0, .bool false] 105)) = W0 at hC hnew hB0 hres hsz ⊢
  refine hC.mono ?_
  rintro e W1 ⟨hT, hx⟩
  clear hC hnew
  have hblk := (hT.below.block w.heap.size (Nat.lt_succ_self _)).trans hres
  have z0 : W1.cell? ⟨w.heap.size, 0, none⟩ = some (.int .u8 0) := by simp [World.cell?, hblk]
  have z1 : W1.cell? ⟨w.heap.size, 1, none⟩ = some (.int .u8 0) := by simp [World.cell?, hblk]
  have z2 : W1.cell? ⟨w.heap.size, 2, none⟩ = some (.int .u8 0) := by simp [World.cell?, hblk]
  have z3 : W1.cell? ⟨w.heap.size, 3, none⟩ = some (.int .u8 0) := by simp [World.cell?, hblk]
  have z4 : W1.cell? ⟨w.heap.size, 4, none⟩ = some (.int .i64 0) := by simp [World.cell?, hblk]
  have zf : ∀ i, W1.frozen? ⟨w.heap.size, i, none⟩ = false := Typed.open ⟨_, hblk⟩
  have hB1 : Below w.heap.size w W1 := hB0.trans (hT.below.mono (Nat.le_succ _))
  clear hT hB0 hres hsz
  cases x with
  | bad n =>
    subst hx
    go_wp2
    have hBV : Below w.heap.size w (((((W1.setCell ⟨w.heap.size, 0, none⟩ (.int .u8 0)).setCell ⟨w.heap.size, 1, none⟩ (.int .u8 0)).setCell ⟨w.heap.size, 2, none⟩ (.int .u8 0)).setCell ⟨w.heap.size, 3, none⟩ (.int .u8 0)).setCell ⟨w.heap.size, 4, none⟩ (.int .i64 0)) := (((((hB1.setCell (Nat.le_refl _) _).setCell (Nat.le_refl _) _).setCell (Nat.le_refl _) _).setCell (Nat.le_refl _) _).setCell (Nat.le_refl _) _)
    have f0 : (((((W1.setCell ⟨w.heap.size, 0, none⟩ (.int .u8 0)).setCell ⟨w.heap.size, 1, none⟩ (.int .u8 0)).setCell ⟨w.heap.size, 2, none⟩ (.int .u8 0)).setCell ⟨w.heap.size, 3, none⟩ (.int .u8 0)).setCell ⟨w.heap.size, 4, none⟩ (.int .i64 0)).cell? ⟨w.heap.size, 0, none⟩ = some (.int .u8 0) := by go_cell
    have f1 : (((((W1.setCell ⟨w.heap.size, 0, none⟩ (.int .u8 0)).setCell ⟨w.heap.size, 1, none⟩ (.int .u8 0)).setCell ⟨w.heap.size, 2, none⟩ (.int .u8 0)).setCell ⟨w.heap.size, 3, none⟩ (.int .u8 0)).setCell ⟨w.heap.size, 4, none⟩ (.int .i64 0)).cell? ⟨w.heap.size, 1, none⟩ = some (.int .u8 0) := by go_cell
    have f2 : (((((W1.setCell ⟨w.heap.size, 0, none⟩ (.int .u8 0)).setCell ⟨w.heap.size, 1, none⟩ (.int .u8 0)).setCell ⟨w.heap.size, 2, none⟩ (.int .u8 0)).setCell ⟨w.heap.size, 3, none⟩ (.int .u8 0)).setCell ⟨w.heap.size, 4, none⟩ (.int .i64 0)).cell? ⟨w.heap.size, 2, none⟩ = some (.int .u8 0) := by go_cell
    have f3 : (((((W1.setCell ⟨w.heap.size, 0, none⟩ (.int .u8 0)).setCell ⟨w.heap.size, 1, none⟩ (.int .u8 0)).setCell ⟨w.heap.size, 2, none⟩ (.int .u8 0)).setCell ⟨w.heap.size, 3, none⟩ (.int .u8 0)).setCell ⟨w.heap.size, 4, none⟩ (.int .i64 0)).cell? ⟨w.heap.size, 3, none⟩ = some (.int .u8 0) := by go_cell
    have f4 : (((((W1.setCell ⟨w.heap.size, 0, none⟩ (.int .u8 0)).setCell ⟨w.heap.size, 1, none⟩ (.int .u8 0)).setCell ⟨w.heap.size, 2, none⟩ (.int .u8 0)).setCell ⟨w.heap.size, 3, none⟩ (.int .u8 0)).setCell ⟨w.heap.size, 4, none⟩ (.int .i64 0)).cell? ⟨w.heap.size, 4, none⟩ = some (.int .i64 0) := by go_cell
    generalize (((((W1.setCell ⟨w.heap.size, 0, none⟩ (.int .u8 0)).setCell ⟨w.heap.size, 1, none⟩ (.int .u8 0)).setCell ⟨w.heap.size, 2, none⟩ (.int .u8 0)).setCell ⟨w.heap.size, 3, none⟩ (.int .u8 0)).setCell ⟨w.heap.size, 4, none⟩ (.int .i64 0)) = V at hBV f0 f1 f2 f3 f4 ⊢
    refine bodyPost_ret (by simp [results, Tryd.results22, go_sem, f0, f1, f2, f3, f4]; try rfl) rfl ?_
    exact ⟨rfl, hBV⟩
  | good p =>
    obtain ⟨rfl, hP⟩ := hx
    have HD : Hid _ := hP.inner
    have hok := HD.out.ok
    have b0 := hok.e0
    have HA : Hid (∀ X, Below W1.heap.size W1 X → Calls Tryd.prog 49 #[.pointer (some ⟨w.heap.size + 1, 0, none⟩)] X fun e w' => e = .returned (.agg #[.int .u8 p.addr.e0, .int .u8 p.addr.e1, .int .u8 p.addr.e2, .int .u8 p.addr.num.value]) ∧ Below X.heap.size X w') := fun X hX => by
      obtain ⟨cs, hcs⟩ := HD.out.typed
      exact dot_addr p.addr _ 0 X HD.out.ok (HD.out.cells.blk (hX.block _ (Array.getElem?_eq_some_iff.1 hcs).1))
    have c3 : W1.cell? ⟨w.heap.size + 1 + 1, 3, none⟩ = some (.int .i64 p.num.value) := hP.c3
    have l3 := World.block_lt_of_cell? W1 _ c3
    have lz := World.block_lt_of_cell? W1 _ z0
    have c3a : ∀ o, (W1.alloc o).cell? ⟨w.heap.size + 1 + 1, 3, none⟩ = some (.int .i64 p.num.value) := fun o => (World.cell?_alloc_lt _ _ _ l3).trans c3
    have HZ : Hid _ := hblk
    go_wp2_with fail
    go_region_with (go_at_call 49; (first
      | (refine Calls.mono (HA.out _ (Below.refl _ _).drew) ?_; rintro e W2 ⟨rfl, hB2⟩; have hB3 := ((Below.refl W1.heap.size W1).drew).trans hB2)
      | (refine Calls.mono (HA.out _ (((Below.refl _ _).drew).alloc (Nat.le_refl _) _)) ?_; rintro e W2 ⟨rfl, hB2⟩; have hk := (hB2.block W1.heap.size (by simp)).trans (alloc_new W1.drew _); have hB3 := (((Below.refl W1.heap.size W1).drew).alloc (Nat.le_refl _) _).trans (hB2.mono (by simp)); have k0 : W2.cell? ⟨W1.heap.size, 0, none⟩ = some (.int .u8 0) := (by simp [World.cell?, hk]); have k1 : W2.cell? ⟨W1.heap.size, 1, none⟩ = some (.int .u8 0) := (by simp [World.cell?, hk]); have k2 : W2.cell? ⟨W1.heap.size, 2, none⟩ = some (.int .u8 0) := (by simp [World.cell?, hk]); have k3 : W2.cell? ⟨W1.heap.size, 3, none⟩ = some (.int .u8 0) := (by simp [World.cell?, hk]); have k4 : W2.cell? ⟨W1.heap.size, 4, none⟩ = some (.int .i64 0) := (by simp [World.cell?, hk]); have kf : ∀ i, W2.frozen? ⟨W1.heap.size, i, none⟩ = false := Typed.open ⟨_, hk⟩)); have q3 := (hB3.cell (p := ⟨w.heap.size + 1 + 1, 3, none⟩) l3).trans c3; have q3a : ∀ o, (W2.alloc o).cell? ⟨w.heap.size + 1 + 1, 3, none⟩ = some (.int .i64 p.num.value) := (fun o => (World.cell?_alloc_lt _ _ _ (Nat.lt_of_lt_of_le l3 hB3.size)).trans q3); clear hB2)
    all_goals (first
      | (have kk := k0; have hV : Below W1.heap.size W1 (((((W2.setCell ⟨W1.heap.size, 0, none⟩ (.int .u8 p.addr.e0)).setCell ⟨W1.heap.size, 1, none⟩ (.int .u8 p.addr.e1)).setCell ⟨W1.heap.size, 2, none⟩ (.int .u8 p.addr.e2)).setCell ⟨W1.heap.size, 3, none⟩ (.int .u8 p.addr.num.value)).setCell ⟨W1.heap.size, 4, none⟩ (.int .i64 p.num.value)) := (((((hB3.setCell (Nat.le_refl _) _).setCell (Nat.le_refl _) _).setCell (Nat.le_refl _) _).setCell (Nat.le_refl _) _).setCell (Nat.le_refl _) _); have v0 : (((((W2.setCell ⟨W1.heap.size, 0, none⟩ (.int .u8 p.addr.e0)).setCell ⟨W1.heap.size, 1, none⟩ (.int .u8 p.addr.e1)).setCell ⟨W1.heap.size, 2, none⟩ (.int .u8 p.addr.e2)).setCell ⟨W1.heap.size, 3, none⟩ (.int .u8 p.addr.num.value)).setCell ⟨W1.heap.size, 4, none⟩ (.int .i64 p.num.value)).cell? ⟨W1.heap.size, 0, none⟩ = some (.int .u8 p.addr.e0) := (by go_cell); have v1 : (((((W2.setCell ⟨W1.heap.size, 0, none⟩ (.int .u8 p.addr.e0)).setCell ⟨W1.heap.size, 1, none⟩ (.int .u8 p.addr.e1)).setCell ⟨W1.heap.size, 2, none⟩ (.int .u8 p.addr.e2)).setCell ⟨W1.heap.size, 3, none⟩ (.int .u8 p.addr.num.value)).setCell ⟨W1.heap.size, 4, none⟩ (.int .i64 p.num.value)).cell? ⟨W1.heap.size, 1, none⟩ = some (.int .u8 p.addr.e1) := (by go_cell); have v2 : (((((W2.setCell ⟨W1.heap.size, 0, none⟩ (.int .u8 p.addr.e0)).setCell ⟨W1.heap.size, 1, none⟩ (.int .u8 p.addr.e1)).setCell ⟨W1.heap.size, 2, none⟩ (.int .u8 p.addr.e2)).setCell ⟨W1.heap.size, 3, none⟩ (.int .u8 p.addr.num.value)).setCell ⟨W1.heap.size, 4, none⟩ (.int .i64 p.num.value)).cell? ⟨W1.heap.size, 2, none⟩ = some (.int .u8 p.addr.e2) := (by go_cell); have v3 : (((((W2.setCell ⟨W1.heap.size, 0, none⟩ (.int .u8 p.addr.e0)).setCell ⟨W1.heap.size, 1, none⟩ (.int .u8 p.addr.e1)).setCell ⟨W1.heap.size, 2, none⟩ (.int .u8 p.addr.e2)).setCell ⟨W1.heap.size, 3, none⟩ (.int .u8 p.addr.num.value)).setCell ⟨W1.heap.size, 4, none⟩ (.int .i64 p.num.value)).cell? ⟨W1.heap.size, 3, none⟩ = some (.int .u8 p.addr.num.value) := (by go_cell); have v4 : (((((W2.setCell ⟨W1.heap.size, 0, none⟩ (.int .u8 p.addr.e0)).setCell ⟨W1.heap.size, 1, none⟩ (.int .u8 p.addr.e1)).setCell ⟨W1.heap.size, 2, none⟩ (.int .u8 p.addr.e2)).setCell ⟨W1.heap.size, 3, none⟩ (.int .u8 p.addr.num.value)).setCell ⟨W1.heap.size, 4, none⟩ (.int .i64 p.num.value)).cell? ⟨W1.heap.size, 4, none⟩ = some (.int .i64 p.num.value) := (by go_cell); generalize (((((W2.setCell ⟨W1.heap.size, 0, none⟩ (.int .u8 p.addr.e0)).setCell ⟨W1.heap.size, 1, none⟩ (.int .u8 p.addr.e1)).setCell ⟨W1.heap.size, 2, none⟩ (.int .u8 p.addr.e2)).setCell ⟨W1.heap.size, 3, none⟩ (.int .u8 p.addr.num.value)).setCell ⟨W1.heap.size, 4, none⟩ (.int .i64 p.num.value)) = V at hV v0 v1 v2 v3 v4 ⊢; generalize hb9 : W1.heap.size = b9 at v0 v1 v2 v3 v4 ⊢)
      | (have hV : Below W1.heap.size W1 (W2.alloc (.cells #[.int .u8 p.addr.e0, .int .u8 p.addr.e1, .int .u8 p.addr.e2, .int .u8 p.addr.num.value, .int .i64 p.num.value] 38)) := hB3.alloc hB3.size _; have v0 : (W2.alloc (.cells #[.int .u8 p.addr.e0, .int .u8 p.addr.e1, .int .u8 p.addr.e2, .int .u8 p.addr.num.value, .int .i64 p.num.value] 38)).cell? ⟨W2.heap.size, 0, none⟩ = some (.int .u8 p.addr.e0) := (by go_cell); have v1 : (W2.alloc (.cells #[.int .u8 p.addr.e0, .int .u8 p.addr.e1, .int .u8 p.addr.e2, .int .u8 p.addr.num.value, .int .i64 p.num.value] 38)).cell? ⟨W2.heap.size, 1, none⟩ = some (.int .u8 p.addr.e1) := (by go_cell); have v2 : (W2.alloc (.cells #[.int .u8 p.addr.e0, .int .u8 p.addr.e1, .int .u8 p.addr.e2, .int .u8 p.addr.num.value, .int .i64 p.num.value] 38)).cell? ⟨W2.heap.size, 2, none⟩ = some (.int .u8 p.addr.e2) := (by go_cell); have v3 : (W2.alloc (.cells #[.int .u8 p.addr.e0, .int .u8 p.addr.e1, .int .u8 p.addr.e2, .int .u8 p.addr.num.value, .int .i64 p.num.value] 38)).cell? ⟨W2.heap.size, 3, none⟩ = some (.int .u8 p.addr.num.value) := (by go_cell); have v4 : (W2.alloc (.cells #[.int .u8 p.addr.e0, .int .u8 p.addr.e1, .int .u8 p.addr.e2, .int .u8 p.addr.num.value, .int .i64 p.num.value] 38)).cell? ⟨W2.heap.size, 4, none⟩ = some (.int .i64 p.num.value) := (by go_cell); generalize (W2.alloc (.cells #[.int .u8 p.addr.e0, .int .u8 p.addr.e1, .int .u8 p.addr.e2, .int .u8 p.addr.num.value, .int .i64 p.num.value] 38)) = V at hV v0 v1 v2 v3 v4 ⊢; generalize W2.heap.size = b9 at v0 v1 v2 v3 v4 ⊢))
    all_goals
      have x0 := (hV.cell (p := ⟨w.heap.size, 0, none⟩) lz).trans z0
      have x1 := (hV.cell (p := ⟨w.heap.size, 1, none⟩) lz).trans z1
      have x2 := (hV.cell (p := ⟨w.heap.size, 2, none⟩) lz).trans z2
      have x3 := (hV.cell (p := ⟨w.heap.size, 3, none⟩) lz).trans z3
      have x4 := (hV.cell (p := ⟨w.heap.size, 4, none⟩) lz).trans z4
      have xf : ∀ i, V.frozen? ⟨w.heap.size, i, none⟩ = false := fun i => (hV.frozen (p := ⟨w.heap.size, i, none⟩) lz).trans (zf i)
      have hBV1 : Below w.heap.size w V := hB1.trans (hV.mono hB1.size)
      have HC : Hid _ := Check4_calls p.addr.e0 p.addr.e1 p.addr.e2 p.addr.num.value p.num.value V hok.e0 hok.e1 hok.e2 ⟨hok.num.1, by have := hok.num.2; omega⟩ ⟨by have := hP.ok.1; omega, by have := hP.ok.2; omega⟩
      clear z0 z1 z2 z3 z4 zf c3 c3a q3 q3a hV HA
      go_wp2_with fail
      refine Calls.mono HC.out ?_
      rintro e W4 ⟨rfl, hB4⟩
      have t9 := World.block_lt_of_cell? V _ v0
      have tz := World.block_lt_of_cell? V _ x0
      have u0 := (hB4.cell (p := ⟨b9, 0, none⟩) t9).trans v0
      have u1 := (hB4.cell (p := ⟨b9, 1, none⟩) t9).trans v1
      have u2 := (hB4.cell (p := ⟨b9, 2, none⟩) t9).trans v2
      have u3 := (hB4.cell (p := ⟨b9, 3, none⟩) t9).trans v3
      have u4 := (hB4.cell (p := ⟨b9, 4, none⟩) t9).trans v4
      have s0 := (hB4.cell (p := ⟨w.heap.size, 0, none⟩) tz).trans x0
      have s1 := (hB4.cell (p := ⟨w.heap.size, 1, none⟩) tz).trans x1
      have s2 := (hB4.cell (p := ⟨w.heap.size, 2, none⟩) tz).trans x2
      have s3 := (hB4.cell (p := ⟨w.heap.size, 3, none⟩) tz).trans x3
      have s4 := (hB4.cell (p := ⟨w.heap.size, 4, none⟩) tz).trans x4
      have sf : ∀ i, W4.frozen? ⟨w.heap.size, i, none⟩ = false := fun i => (hB4.frozen (p := ⟨w.heap.size, i, none⟩) tz).trans (xf i)
      have hB5 : Below w.heap.size w W4 := hBV1.trans (hB4.mono hBV1.size)
      clear x0 x1 x2 x3 x4 xf v0 v1 v2 v3 v4 hBV1 hB4 HC
      cases hq : okP4 p.addr.e0 p.addr.e1 p.addr.e2 p.addr.num.value p.num.value
      · have hE : prefix4E s.data.toList (.good p) = .tuple #[P4 0 0 0 0 0, .int .i64 (Lib.indexByte s.data.toList 47), .int .i64 21] := by
          unfold prefix4E
          dsimp only
          rw [hq]
          rfl
        have HI : Hid _ := Tryd.strings_IndexByte s 47 W4
        have HE : Hid _ := hE
        clear hE
        simp only [Bool.false_eq_true, if_false]
        go_wp2_with fail
        refine Calls.mono HI.out ?_
        rintro e W5 ⟨rfl, rfl⟩
        go_wp2
        have hBV : Below w.heap.size w (((((W5.setCell ⟨w.heap.size, 0, none⟩ (.int .u8 0)).setCell ⟨w.heap.size, 1, none⟩ (.int .u8 0)).setCell ⟨w.heap.size, 2, none⟩ (.int .u8 0)).setCell ⟨w.heap.size, 3, none⟩ (.int .u8 0)).setCell ⟨w.heap.size, 4, none⟩ (.int .i64 0)) := (((((hB5.setCell (Nat.le_refl _) _).setCell (Nat.le_refl _) _).setCell (Nat.le_refl _) _).setCell (Nat.le_refl _) _).setCell (Nat.le_refl _) _)
        have f0 : (((((W5.setCell ⟨w.heap.size, 0, none⟩ (.int .u8 0)).setCell ⟨w.heap.size, 1, none⟩ (.int .u8 0)).setCell ⟨w.heap.size, 2, none⟩ (.int .u8 0)).setCell ⟨w.heap.size, 3, none⟩ (.int .u8 0)).setCell ⟨w.heap.size, 4, none⟩ (.int .i64 0)).cell? ⟨w.heap.size, 0, none⟩ = some (.int .u8 0) := by go_cell
        have f1 : (((((W5.setCell ⟨w.heap.size, 0, none⟩ (.int .u8 0)).setCell ⟨w.heap.size, 1, none⟩ (.int .u8 0)).setCell ⟨w.heap.size, 2, none⟩ (.int .u8 0)).setCell ⟨w.heap.size, 3, none⟩ (.int .u8 0)).setCell ⟨w.heap.size, 4, none⟩ (.int .i64 0)).cell? ⟨w.heap.size, 1, none⟩ = some (.int .u8 0) := by go_cell
        have f2 : (((((W5.setCell ⟨w.heap.size, 0, none⟩ (.int .u8 0)).setCell ⟨w.heap.size, 1, none⟩ (.int .u8 0)).setCell ⟨w.heap.size, 2, none⟩ (.int .u8 0)).setCell ⟨w.heap.size, 3, none⟩ (.int .u8 0)).setCell ⟨w.heap.size, 4, none⟩ (.int .i64 0)).cell? ⟨w.heap.size, 2, none⟩ = some (.int .u8 0) := by go_cell
        have f3 : (((((W5.setCell ⟨w.heap.size, 0, none⟩ (.int .u8 0)).setCell ⟨w.heap.size, 1, none⟩ (.int .u8 0)).setCell ⟨w.heap.size, 2, none⟩ (.int .u8 0)).setCell ⟨w.heap.size, 3, none⟩ (.int .u8 0)).setCell ⟨w.heap.size, 4, none⟩ (.int .i64 0)).cell? ⟨w.heap.size, 3, none⟩ = some (.int .u8 0) := by go_cell
        have f4 : (((((W5.setCell ⟨w.heap.size, 0, none⟩ (.int .u8 0)).setCell ⟨w.heap.size, 1, none⟩ (.int .u8 0)).setCell ⟨w.heap.size, 2, none⟩ (.int .u8 0)).setCell ⟨w.heap.size, 3, none⟩ (.int .u8 0)).setCell ⟨w.heap.size, 4, none⟩ (.int .i64 0)).cell? ⟨w.heap.size, 4, none⟩ = some (.int .i64 0) := by go_cell
        generalize (((((W5.setCell ⟨w.heap.size, 0, none⟩ (.int .u8 0)).setCell ⟨w.heap.size, 1, none⟩ (.int .u8 0)).setCell ⟨w.heap.size, 2, none⟩ (.int .u8 0)).setCell ⟨w.heap.size, 3, none⟩ (.int .u8 0)).setCell ⟨w.heap.size, 4, none⟩ (.int .i64 0)) = V at hBV f0 f1 f2 f3 f4 ⊢
        refine bodyPost_ret (by simp [results, Tryd.results22, go_sem, f0, f1, f2, f3, f4]; try rfl) rfl ?_
        exact ⟨by rw [HE.out], hBV⟩
      · have hE : prefix4E s.data.toList (.good p) = .tuple #[P4 p.addr.e0 p.addr.e1 p.addr.e2 p.addr.num.value p.num.value, .int .i64 0, .int .i64 0] := by
          unfold prefix4E
          dsimp only
          rw [hq]
          rfl
        have HE : Hid _ := hE
        clear hE
        simp only [if_true]
        go_wp2
        have hBV : Below w.heap.size w (((((W4.setCell ⟨w.heap.size, 0, none⟩ (.int .u8 p.addr.e0)).setCell ⟨w.heap.size, 1, none⟩ (.int .u8 p.addr.e1)).setCell ⟨w.heap.size, 2, none⟩ (.int .u8 p.addr.e2)).setCell ⟨w.heap.size, 3, none⟩ (.int .u8 p.addr.num.value)).setCell ⟨w.heap.size, 4, none⟩ (.int .i64 p.num.value)) := (((((hB5.setCell (Nat.le_refl _) _).setCell (Nat.le_refl _) _).setCell (Nat.le_refl _) _).setCell (Nat.le_refl _) _).setCell (Nat.le_refl _) _)
        have f0 : (((((W4.setCell ⟨w.heap.size, 0, none⟩ (.int .u8 p.addr.e0)).setCell ⟨w.heap.size, 1, none⟩ (.int .u8 p.addr.e1)).setCell ⟨w.heap.size, 2, none⟩ (.int .u8 p.addr.e2)).setCell ⟨w.heap.size, 3, none⟩ (.int .u8 p.addr.num.value)).setCell ⟨w.heap.size, 4, none⟩ (.int .i64 p.num.value)).cell? ⟨w.heap.size, 0, none⟩ = some (.int .u8 p.addr.e0) := by go_cell
        have f1 : (((((W4.setCell ⟨w.heap.size, 0, none⟩ (.int .u8 p.addr.e0)).setCell ⟨w.heap.size, 1, none⟩ (.int .u8 p.addr.e1)).setCell ⟨w.heap.size, 2, none⟩ (.int .u8 p.addr.e2)).setCell ⟨w.heap.size, 3, none⟩ (.int .u8 p.addr.num.value)).setCell ⟨w.heap.size, 4, none⟩ (.int .i64 p.num.value)).cell? ⟨w.heap.size, 1, none⟩ = some (.int .u8 p.addr.e1) := by go_cell
        have f2 : (((((W4.setCell ⟨w.heap.size, 0, none⟩ (.int .u8 p.addr.e0)).setCell ⟨w.heap.size, 1, none⟩ (.int .u8 p.addr.e1)).setCell ⟨w.heap.size, 2, none⟩ (.int .u8 p.addr.e2)).setCell ⟨w.heap.size, 3, none⟩ (.int .u8 p.addr.num.value)).setCell ⟨w.heap.size, 4, none⟩ (.int .i64 p.num.value)).cell? ⟨w.heap.size, 2, none⟩ = some (.int .u8 p.addr.e2) := by go_cell
        have f3 : (((((W4.setCell ⟨w.heap.size, 0, none⟩ (.int .u8 p.addr.e0)).setCell ⟨w.heap.size, 1, none⟩ (.int .u8 p.addr.e1)).setCell ⟨w.heap.size, 2, none⟩ (.int .u8 p.addr.e2)).setCell ⟨w.heap.size, 3, none⟩ (.int .u8 p.addr.num.value)).setCell ⟨w.heap.size, 4, none⟩ (.int .i64 p.num.value)).cell? ⟨w.heap.size, 3, none⟩ = some (.int .u8 p.addr.num.value) := by go_cell
        have f4 : (((((W4.setCell ⟨w.heap.size, 0, none⟩ (.int .u8 p.addr.e0)).setCell ⟨w.heap.size, 1, none⟩ (.int .u8 p.addr.e1)).setCell ⟨w.heap.size, 2, none⟩ (.int .u8 p.addr.e2)).setCell ⟨w.heap.size, 3, none⟩ (.int .u8 p.addr.num.value)).setCell ⟨w.heap.size, 4, none⟩ (.int .i64 p.num.value)).cell? ⟨w.heap.size, 4, none⟩ = some (.int .i64 p.num.value) := by go_cell
        generalize (((((W4.setCell ⟨w.heap.size, 0, none⟩ (.int .u8 p.addr.e0)).setCell ⟨w.heap.size, 1, none⟩ (.int .u8 p.addr.e1)).setCell ⟨w.heap.size, 2, none⟩ (.int .u8 p.addr.e2)).setCell ⟨w.heap.size, 3, none⟩ (.int .u8 p.addr.num.value)).setCell ⟨w.heap.size, 4, none⟩ (.int .i64 p.num.value)) = V at hBV f0 f1 f2 f3 f4 ⊢
        refine bodyPost_ret (by simp [results, Tryd.results22, go_sem, f0, f1, f2, f3, f4]; try rfl) rfl ?_
        exact ⟨by rw [HE.out], hBV⟩

end Go.Proofs.YtlpbffcijhgelaaDoor
