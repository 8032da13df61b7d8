/-
  How grouped takes a letter, and how a text is read.
  How a text is read, letter by letter, whatever its kind.
  dotted.addr and Parse4.
  What a copy into an array of the call's own does.
-/
import Derived.Test.YtaebknkjhhcneaaGreatDoorFold01
import Derived.Laws.RangeAny
import Derived.Laws.IdiomCopy
namespace Go.Proofs.YtaebknkjhhcneaaGreatDoor
open Go Go.RowKit
set_option linter.unusedVariables false
set_option linter.unusedSimpArgs false

theorem Dot.takes_ok : ∀ (l : List UInt8) (d d' : Dot), d.takes l = some d' → d.Ok → d'.Ok
  | [], d, d', h, hd => by cases h; exact hd
  | c :: l, d, d', h, hd => by
    unfold Dot.takes at h
    cases hx : d.take c.toNat with
    | none => simp [hx] at h
    | some d2 =>
      simp [hx] at h
      exact Dot.takes_ok l d2 d' h (Dot.take_ok hx hd)

theorem Grp.ok_new : Grp.new.Ok :=
  ⟨fun z hz => (by cases hz), rfl, by decide, fun c hc => (by cases hc), by decide, by decide, Dot.ok_new, by decide, fun h => (by cases h), by decide, fun _ _ => by decide, fun h => (by cases h)⟩

theorem Grp.take_ok {g g' : Grp} {r : Int} (h : g.take r = some g') (hg : g.Ok) : g'.Ok := by
  obtain ⟨k1, k2, k3, k4, k5, k6, k7, k8, k9, k10, k11, k12⟩ := hg
  unfold Grp.take at h
  by_cases hd : g.dots = true
  · rw [if_pos hd] at h
    cases hx : g.tail.take r with
    | none => simp [hx] at h
    | some d =>
      rw [hx] at h
      cases h
      exact ⟨k1, k2, k3, k4, k5, k6, Dot.take_ok hx k7, k8, k9, k10, k11, k12⟩
  · rw [if_neg hd] at h
    have hd' : g.dots = false := by simpa using hd
    rw [hd', if_neg (by decide)] at k8
    split at h
    · split at h
      · rename_i hp
        have h14 := k11 hp hd'
        unfold Grp.second at h
        split at h
        · cases h
        · split at h
          · cases h
            refine ⟨k1, k2, k3, k4, k5, k6, k7, by rw [hd', if_neg (by decide)]; exact k8, k9, by dsimp only; omega, k11, k12⟩
          · cases h
            refine ⟨k1, k2, k3, k4, k5, ⟨Int.natCast_nonneg _, Int.le_refl _⟩, k7, ?_, fun h1 => by simp [hd'] at h1, by dsimp only; omega, k11, k12⟩
            dsimp only
            rw [hd', if_neg (by decide), if_pos hp]
            simpa using h14
      · rename_i hp
        rw [if_neg hp] at k8
        unfold Grp.colon at h
        split at h
        · cases h
        · rename_i hroom
          unfold Grp.room at hroom
          cases h
          have hle : g.ended.length ≤ 12 ∧ (g.gapped = true → g.ended.length ≤ 10) := by
            cases hgp : g.gapped
            · rw [hgp] at hroom k8; simp at hroom k8 ⊢; omega
            · rw [hgp] at hroom k8; simp at hroom k8 ⊢; omega
          refine ⟨?_, by simp; omega, by simp, fun c hc => (by cases hc), by simp, by simp; omega, k7, ?_, fun h1 => by simp [hd'] at h1, by simp, fun _ _ => by simp; omega, fun h1 => by simp [hd'] at h1⟩
          · intro z hz
            simp at hz
            rcases hz with hz | rfl | rfl
            · exact k1 z hz
            · unfold Byte; omega
            · unfold Byte; omega
          · simp [hd']
            cases hgp : g.gapped
            · simp; omega
            · have := hle.2 hgp; simp; omega
    · split at h
      · unfold Grp.dot at h
        split at h
        · cases h
        · rename_i hroom
          unfold Grp.room at hroom
          cases hx : g.tail.takes g.part with
          | none => simp [hx] at h
          | some d =>
            simp [hx] at h
            obtain ⟨d', hy, rfl⟩ := h
            have hdk := Dot.take_ok hy (Dot.takes_ok _ _ _ hx k7)
            cases hgp : g.gapped
            · rw [hgp] at hroom
              simp at hroom
              exact ⟨k1, k2, k3, k4, k5, k6, hdk, by simp [hgp]; omega, fun _ _ => by dsimp only; omega, k10, fun _ h2 => (by cases h2), fun _ => by dsimp only; omega⟩
            · rw [hgp] at hroom
              simp at hroom
              exact ⟨k1, k2, k3, k4, k5, k6, hdk, by simp [hgp]; omega, fun _ h2 => by simp [hgp] at h2, k10, fun _ h2 => (by cases h2), fun _ => by dsimp only; omega⟩
      · unfold Grp.digit at h
        cases hx : hexv r with
        | none => simp [hx] at h
        | some x =>
          rw [hx] at h
          obtain ⟨hx0, hx1, hr0, hr1⟩ := hexv_lt hx
          dsimp only at h
          split at h
          · cases h
          · rename_i hno
            cases h
            have hp4 : ¬ g.part.length = 4 := fun e => hno (.inr (.inr e))
            have hrm : ¬ g.room = 0 := fun e => hno (.inr (.inl e))
            unfold Grp.room at hrm
            have hle : g.ended.length ≤ 14 ∧ (g.gapped = true → g.ended.length ≤ 12) := by
              cases hgp : g.gapped
              · rw [hgp] at hrm k8; simp at hrm k8 ⊢; split at k8 <;> omega
              · rw [hgp] at hrm k8; simp at hrm k8 ⊢; split at k8 <;> omega
            refine ⟨k1, k2, by simp; omega, ?_, by dsimp only; omega, k6, k7, ?_, fun h1 => by simp [hd'] at h1, by simp, fun h1 => by simp at h1, fun h1 => by simp [hd'] at h1⟩
            · intro c hc
              simp at hc
              rcases hc with hc | rfl
              · exact k4 c hc
              · have : r.toNat < 128 := by omega
                simp [UInt8.toNat_ofNat']
                omega
            · simp [hd']
              cases hgp : g.gapped
              · simp; omega
              · have := hle.2 hgp; simp; omega

set_option maxHeartbeats 4000000 in
set_option maxRecDepth 100000 in
theorem grp_take {B b : Nat} {g : Grp} {w : World} {r : Int} (h : GrpAt B b g w) (hk : g.Ok) (hr : 0 ≤ r ∧ r < 2147483648) :
    Calls Tryz.prog 227 #[.pointer (some ⟨b, 0, none⟩), .int .i32 r] w fun e w' => GrpTook (g.take r) B b w e w' := by
  have c1 := h.c1
  have c6 := h.c6
  unfold Grp.take
  cases hd : g.dots with
  | true =>
    rw [hd] at c6
    have hC := dot_take g.tail r b 7 w hk.tail hr h.tail h.typed.open
    rw [if_pos rfl]
    generalize hx : g.tail.take r = x at hC
    have HX : Hid _ := hx
    clear hx
    go_enter Tryz.func227, Tryz.ntmps227
    go_wp2_with fail
    refine hC.mono ?_
    rintro e w' ⟨rfl, hW, hS⟩
    go_wp2
    go_ret
    refine ⟨by simp, hW.turns h.hB, fun g' hg' => ?_⟩
    cases x with
    | none => cases hg'
    | some d =>
      cases hg'
      have e := fun i (hi : i < 7) => hW.cell i (Or.inl hi)
      obtain ⟨v, h0, hown⟩ := h.row
      exact ⟨h.typed.wrote hW, h.hB, ⟨v, (e 0 (by omega)).trans h0, own_wrote hW h.typed (by decide) hown⟩, (e 1 (by omega)).trans h.c1, (e 2 (by omega)).trans h.c2, (e 3 (by omega)).trans h.c3,
        (e 4 (by omega)).trans h.c4, (e 5 (by omega)).trans h.c5, (e 6 (by omega)).trans c6, hS d rfl⟩
  | false =>
    rw [hd] at c6
    simp only [Bool.false_eq_true, if_false]
    by_cases h58 : r = 58
    · subst h58
      simp only [if_true]
      by_cases hp : g.part = []
      · rw [hp] at c1
        rw [if_pos hp]
        have hC := grp_second h
        generalize g.second = x at hC ⊢
        go_enter Tryz.func227, Tryz.ntmps227
        go_wp2_with fail
        refine hC.mono ?_
        rintro e w' ⟨rfl, hW⟩
        go_wp2
        go_ret
        exact ⟨rfl, hW⟩
      · rw [if_neg hp]
        have hq : g.part.isEmpty = false := by simpa using hp
        have hq' := str_ne _ hp
        have hC := grp_colon h hk
        generalize g.colon = x at hC ⊢
        go_enter Tryz.func227, Tryz.ntmps227
        go_wp2_with fail
        refine hC.mono ?_
        rintro e w' ⟨rfl, hW⟩
        go_wp2
        go_ret
        exact ⟨rfl, hW⟩
    · rw [if_neg h58]
      have q58 : (r == 58) = false := by simpa using h58
      by_cases h46 : r = 46
      · subst h46
        rw [if_pos rfl]
        have hC := grp_dot h hk hd
        generalize g.dot = x at hC ⊢
        go_enter Tryz.func227, Tryz.ntmps227
        go_wp2_with fail
        refine hC.mono ?_
        rintro e w' ⟨rfl, hW⟩
        go_wp2
        go_ret
        exact ⟨rfl, hW⟩
      · rw [if_neg h46]
        have q46 : (r == 46) = false := by simpa using h46
        have hC := grp_digit h hk hr
        generalize g.digit r = x at hC ⊢
        go_enter Tryz.func227, Tryz.ntmps227
        go_wp2_with fail
        refine hC.mono ?_
        rintro e w' ⟨rfl, hW⟩
        go_wp2
        go_ret
        exact ⟨rfl, hW⟩

end Go.Proofs.YtaebknkjhhcneaaGreatDoor

namespace Go.Proofs.YtaebknkjhhcneaaGreatDoor
open Go Go.RowKit
set_option linter.unusedVariables false
set_option linter.unusedSimpArgs false

/-- A kind of letters behind the interface: what its two methods do to what lies in memory. -/
structure Kind {σ : Type} (R : Reader σ) (B : Nat) (own : Nat → Prop) (T : TypeId) (rv : Value) (ft fw : Nat) (At : σ → World → Prop) : Prop where
  findT : ∀ w, (method 396 T rv "ferryman/addr.take").run Tryz.prog w = .ok (ft, rv) w
  findW : ∀ w, (method 396 T rv "ferryman/addr.whole").run Tryz.prog w = .ok (fw, rv) w
  entT : ∀ args w, (callFunc ft args).run Tryz.prog w = .ok (.enter ft args) w
  entW : ∀ args w, (callFunc fw args).run Tryz.prog w = .ok (.enter fw args) w
  take : ∀ st w r, At st w → 0 ≤ r ∧ r < 2147483648 → Calls Tryz.prog ft #[rv, .int .i32 r] w (fun e w' => e = .returned (.bool (R.take st r).isSome) ∧ Turns B own w w' ∧ ∀ st', R.take st r = some st' → At st' w')
  whole : ∀ st w, At st w → Calls Tryz.prog fw #[rv] w (fun e w' => e = .returned (.bool (R.whole st)) ∧ w' = w)
  step : ∀ st w k s pos pos', At st w → w.heap[k]? = some (.stringIter s pos) → At st (w.iterAt k s pos')
  alloc : ∀ st w o, At st w → At st (w.alloc o)

def ReadPost {σ : Type} (x : End σ) (B : Nat) (own : Nat → Prop) (At : σ → World → Prop) (w : World) (e : Ending) (w' : World) : Prop :=
  Turns B own w w' ∧ match x with
  | .bad n => e = .returned (.tuple #[.int .i64 n, .bool false])
  | .good st' => e = .returned (.tuple #[.int .i64 0, .bool true]) ∧ At st' w'

theorem Turns.back {B : Nat} {own : Nat → Prop} {w W : World} {o : Obj} (h : Turns B (fun j => own j ∨ j = w.heap.size) (w.alloc o) W) (hB : B ≤ w.heap.size) : Turns B own w W :=
  ⟨⟨h.below.os, h.below.tape, h.below.output, Nat.le_trans (by simp) h.below.size, fun k hk => (h.below.block k hk).trans (Below.heap_alloc w o k (by omega))⟩,
    fun k x hk hn hx => by
      have hlt := (Array.getElem?_eq_some_iff.1 hk).1
      exact h.kept k x ((Below.heap_alloc w o k hlt).trans hk) (fun e => e.elim hn (fun e => by omega)) hx⟩

theorem Turns.iterAt {B : Nat} {own : Nat → Prop} {u w : World} {k : Nat} (h : Turns B own u w) (ho : own k) (hB : B ≤ k) (s : ByteArray) (pos : Nat) : Turns B own u (w.iterAt k s pos) :=
  ⟨Lib.below_iterAt h.below hB s pos, fun j x hj hn hx => (Lib.iterAt_other w k j s pos (fun e => hn (e ▸ ho))).trans (h.kept j x hj hn hx)⟩

set_option maxHeartbeats 8000000 in
set_option maxRecDepth 100000 in
theorem read_calls {σ : Type} {R : Reader σ} {B : Nat} {own : Nat → Prop} {T : TypeId} {b : Nat} {ft fw : Nat} {At : σ → World → Prop} (K : Kind R B own T (.pointer (some ⟨b, 0, none⟩)) ft fw At)
    (s : ByteArray) (hs : s.size ≤ 140737488355328) (st : σ) (w : World) (hat : At st w) (hB : B ≤ w.heap.size) (ho : ∀ k, own k → k < w.heap.size) :
    Calls Tryz.prog 153 #[.string s, .iface T (.pointer (some ⟨b, 0, none⟩))] w fun e w' => ReadPost (R.read s.data.toList 0 st) B own At w e w' := by
  have mT := K.findT
  have mW := K.findW
  have eT := K.entT
  have eW := K.entW
  have HK : Hid _ := K
  clear K
  have hLn : s.data.toList.length = s.size := Array.length_toList
  go_enter Tryz.func153, Tryz.ntmps153
  go_wp2_with fail
  go_loopw [] (fun wr => ∃ (pos : Nat) (t : σ), pos ≤ s.size ∧ wr.heap[w.heap.size]? = some (.stringIter s pos) ∧ At t wr ∧ Turns B (fun j => own j ∨ j = w.heap.size) (w.iter s 0) wr ∧ R.read s.data.toList 0 st = R.read (s.data.toList.drop pos) pos t)
    (fun wr => s.size - wr.iterPos w.heap.size)
  case atStart => exact ⟨0, st, Nat.zero_le _, World.iter_heap _ _ _, HK.out.alloc _ _ _ hat, Turns.refl _ _ _, rfl⟩
  case round =>
    obtain ⟨pos, t, hps, hit, hA, hL, hrd⟩ := hrel
    have HR : Hid _ := hrd
    clear hrd
    have hmu : wr.iterPos w.heap.size = pos := by simp [World.iterPos, hit]
    by_cases hp : pos < s.size
    · have hdrop : s.data.toList.drop pos = s[pos] :: s.data.toList.drop (pos + 1) := by
        rw [List.drop_eq_getElem_cons (by omega)]
        simp [ByteArray.getElem_eq_getElem_data]
      by_cases h128 : (s[pos]'hp).toNat < 128
      · have hnext : ∀ ty, (Instr.next (.pointer (some ⟨w.heap.size, 0, none⟩)) true ty).run Tryz.prog wr = _ := fun ty => Lib.run_next_ascii_at wr w.heap.size s pos ty hit hp h128
        have hit1 := Lib.iterAt_heap wr w.heap.size s pos (pos + 1) hit
        have hA1 := HK.out.step _ _ _ _ _ (pos + 1) hA hit
        have hL1 := hL.iterAt (Or.inr rfl) hB s (pos + 1)
        generalize s[pos]'hp = c at hnext h128 hdrop
        rw [hdrop] at HR
        clear hdrop
        generalize wr.iterAt w.heap.size s (pos + 1) = W1 at hnext hit1 hA1 hL1
        have hCall := HK.out.take t W1 c.toNat hA1 (by omega)
        go_wp2_with fail
        refine hCall.mono ?_
        rintro e W2 ⟨rfl, hW, hsome⟩
        clear hCall
        have hL2 : Turns B (fun j => own j ∨ j = w.heap.size) (w.iter s 0) W2 := hL1.trans (hW.mono (fun k hk => Or.inl hk))
        cases hx : R.take t c.toNat with
        | none =>
          go_wp2
          go_ret2
          have hbad : R.read s.data.toList 0 st = .bad pos := by rw [HR.out]; simp [Reader.read, hx]
          rw [hbad]
          exact ⟨hL2.back hB, rfl⟩
        | some t' =>
          have hit2 : W2.heap[w.heap.size]? = some (.stringIter s (pos + 1)) := hW.kept _ _ hit1 (fun e => by have := ho _ e; omega) (fun _ _ e => by cases e)
          go_wp2
          go_roundw
          case rel =>
            refine ⟨pos + 1, t', by omega, hit2, hsome t' hx, hL2, ?_⟩
            rw [HR.out]
            simp [Reader.read, hx]
          case measure =>
            have hmu2 : W2.iterPos w.heap.size = pos + 1 := by simp [World.iterPos, hit2]
            rw [hmu, hmu2]
            omega
      · have hd := decode_high s pos hp (by omega)
        have hle := decode_le s pos
        have hnext : ∀ ty, (Instr.next (.pointer (some ⟨w.heap.size, 0, none⟩)) true ty).run Tryz.prog wr = _ := fun ty => Lib.run_next_any_at wr w.heap.size s pos ty hit hp
        have hA1 := HK.out.step _ _ _ _ _ (pos + (Utf8.decode s pos).2) hA hit
        have hL1 := hL.iterAt (Or.inr rfl) hB s (pos + (Utf8.decode s pos).2)
        generalize wr.iterAt w.heap.size s (pos + (Utf8.decode s pos).2) = W1 at hnext hA1 hL1
        generalize (Utf8.decode s pos).1 = r at hnext hd hle
        have hCall := HK.out.take t W1 r hA1 (by omega)
        rw [R.high t r (by omega)] at hCall
        go_wp2_with fail
        refine hCall.mono ?_
        rintro e W2 ⟨rfl, hW, -⟩
        clear hCall
        have hL2 : Turns B (fun j => own j ∨ j = w.heap.size) (w.iter s 0) W2 := hL1.trans (hW.mono (fun k hk => Or.inl hk))
        go_wp2
        go_ret2
        have hbad : R.read s.data.toList 0 st = .bad pos := by rw [HR.out, hdrop]; simp [Reader.read, R.high t (s[pos].toNat) (by omega)]
        rw [hbad]
        exact ⟨hL2.back hB, rfl⟩
    · have hnext : ∀ ty, (Instr.next (.pointer (some ⟨w.heap.size, 0, none⟩)) true ty).run Tryz.prog wr = _ := fun ty => Lib.run_next_end_at wr w.heap.size s pos ty hit hp
      have hend : s.data.toList.drop pos = [] := List.drop_eq_nil_of_le (by omega)
      rw [hend] at HR
      have hpos : pos = s.size := by omega
      have hCall := HK.out.whole t wr hA
      go_wp2_with fail
      refine hCall.mono ?_
      rintro e W2 ⟨rfl, rfl⟩
      clear hCall
      cases hx : R.whole t with
      | true =>
        go_wp2
        go_ret2
        have hgood : R.read s.data.toList 0 st = .good t := by rw [HR.out]; simp [Reader.read, hx]
        rw [hgood]
        exact ⟨hL.back hB, rfl, hA⟩
      | false =>
        go_wp2
        go_ret2
        have hbad : R.read s.data.toList 0 st = .bad pos := by rw [HR.out]; simp [Reader.read, hx]
        rw [hbad, hpos]
        exact ⟨hL.back hB, rfl⟩

end Go.Proofs.YtaebknkjhhcneaaGreatDoor

namespace Go.Proofs.YtaebknkjhhcneaaGreatDoor
open Go Go.RowKit
set_option linter.unusedVariables false
set_option linter.unusedSimpArgs false

set_option maxHeartbeats 8000000 in
set_option maxRecDepth 100000 in
theorem dot_addr (d : Dot) (b o : Nat) (w : World) (hd : d.Ok) (hat : DotAt d w b o) :
    Calls Tryz.prog 180 #[.pointer (some ⟨b, o, none⟩)] w fun e w' => e = .returned (.agg #[.int .u8 d.e0, .int .u8 d.e1, .int .u8 d.e2, .int .u8 d.num.value]) ∧ Below w.heap.size w w' := by
  have ha : ∀ x, DotAt d (w.alloc x) b o := fun x => hat.alloc x
  have a0 := fun x => (ha x).c0
  have a1 := fun x => (ha x).c1
  have a2 := fun x => (ha x).c2
  have a4 := fun x => (ha x).c4
  have hn : 0 ≤ d.num.value ∧ d.num.value ≤ 255 := hd.num
  clear ha hat
  go_enter Tryz.func180, Tryz.ntmps180
  go_wp2
  go_region
  all_goals go_wp2
  all_goals go_returns
  all_goals exact ⟨rfl, ((Below.refl _ w).alloc (Nat.le_refl _) _).drew⟩

/-- A dotted in a block of its own. -/
structure DotIn (b : Nat) (d : Dot) (w : World) : Prop where
  cells : DotAt d w b 0
  ok : d.Ok
  typed : Typed w b 219

theorem Typed.iterAt {w : World} {b k : Nat} {t : TypeId} (h : Typed w b t) {s : ByteArray} {pos : Nat} (hk : w.heap[k]? = some (.stringIter s pos)) (pos' : Nat) : Typed (w.iterAt k s pos') b t ∧ b ≠ k := by
  obtain ⟨cs, hc⟩ := h
  have hne : b ≠ k := fun e => by subst e; rw [hc] at hk; cases hk
  exact ⟨⟨cs, (Lib.iterAt_other w k b s pos' hne).trans hc⟩, hne⟩

theorem Typed.alloc {w : World} {b : Nat} {t : TypeId} (h : Typed w b t) (o : Obj) : Typed (w.alloc o) b t := by
  obtain ⟨cs, hc⟩ := h
  exact ⟨cs, (Below.heap_alloc w o b (Array.getElem?_eq_some_iff.1 hc).1).trans hc⟩

theorem dot_kind {B b : Nat} (hB : B ≤ b) : Kind dotReader B (fun j => j = b) 250 (.pointer (some ⟨b, 0, none⟩)) 229 234 (DotIn b) where
  findT := fun w => by kernel_rfl
  findW := fun w => by kernel_rfl
  entT := fun args w => by kernel_rfl
  entW := fun args w => by kernel_rfl
  take := fun d w r h hr => (dot_take d r b 0 w h.ok hr h.cells h.typed.open).mono fun e w' hT => ⟨hT.1, hT.2.1.turns hB, fun d' hd' => ⟨hT.2.2 d' hd', Dot.take_ok hd' h.ok, h.typed.wrote hT.2.1⟩⟩
  whole := fun d w h => dot_whole d b 0 w h.cells
  step := fun d w k s pos pos' h hk => by
    obtain ⟨h1, h2⟩ := h.typed.iterAt hk pos'
    exact ⟨h.cells.iterAt h2 s pos', h.ok, h1⟩
  alloc := fun d w o h => ⟨h.cells.alloc o, h.ok, h.typed.alloc o⟩

def addrV (l : List Int) : Value := .agg (l.map (fun z => Value.int .u8 z)).toArray

def zero4 : Value := .agg #[.int .u8 0, .int .u8 0, .int .u8 0, .int .u8 0]

end Go.Proofs.YtaebknkjhhcneaaGreatDoor

namespace Go.Proofs.YtaebknkjhhcneaaGreatDoor
open Go Go.RowKit
set_option linter.unusedVariables false
set_option linter.unusedSimpArgs false

theorem list16 {l : List Int} (h : l.length = 16) : ∃ x0 x1 x2 x3 x4 x5 x6 x7 x8 x9 x10 x11 x12 x13 x14 x15 : Int, l = [x0, x1, x2, x3, x4, x5, x6, x7, x8, x9, x10, x11, x12, x13, x14, x15] := by
  match l, h with
  | [x0, x1, x2, x3, x4, x5, x6, x7, x8, x9, x10, x11, x12, x13, x14, x15], _ => exact ⟨x0, x1, x2, x3, x4, x5, x6, x7, x8, x9, x10, x11, x12, x13, x14, x15, rfl⟩


/-- A built-in copy of which it is known what it leaves. -/
theorem wpList_copy_ex {P : Program} {w : World} {ops : Array Oper} {rest : List Oper} {o : Oper} {a : Act} {Q : Exit → Act → World → Prop} {R : Value → World → Prop} (hg : o.guard = none) (s x : Operand) (t u : TypeId)
    (hop : o.op = Op.call { callee := Callee.builtin Builtin.copy, args := #[s, x], argTypes := #[t, u] }) {vs vx : Value} (hs : a.eval s = vs) (hx : a.eval x = vx)
    (hex : ∃ v w2, (Builtin.copy_ #[t, u] o.type #[vs, vx]).run P w = .ok v w2 ∧ R v w2) (hK : ∀ v w2, R v w2 → wpList P ops Q rest (a.put o.dst v) w2) : wpList P ops Q (o :: rest) a w := by
  obtain ⟨v, w2, hrun, hr⟩ := hex
  refine wpList_plain hg fun K hK' => ?_
  unfold Oper.wp
  simp [execOp, hop, resolve, invoke, builtin, hs, hx, hrun, Result.andThen]
  exact hK' _ _ (hK v w2 hr)

theorem step_copy_ex {P : Program} {ops : Array Oper} {o : Oper} {a : Act} {w : World} {K : Act → World → Prop} {Q : Exit → Act → World → Prop} {E : Prop} {R : Value → World → Prop} (hg : o.guard = none) (s x : Operand) (t u : TypeId)
    (hop : o.op = Op.call { callee := Callee.builtin Builtin.copy, args := #[s, x], argTypes := #[t, u] }) {vs vx : Value} (hs : a.eval s = vs) (hx : a.eval x = vx)
    (hex : ∃ v w2, (Builtin.copy_ #[t, u] o.type #[vs, vx]).run P w = .ok v w2 ∧ R v w2) (hK : ∀ v w2, R v w2 → K (a.put o.dst v) w2) :
    if Region.wanted o (yielded ops a.tmps) = true then Oper.wp P o a w K Q else E := by
  have hw : Region.wanted o (yielded ops a.tmps) = true := by simp [Region.wanted, hg]
  rw [if_pos hw]
  obtain ⟨v, w2, hrun, hr⟩ := hex
  unfold Oper.wp
  simp [execOp, hop, resolve, invoke, builtin, hs, hx, hrun, Result.andThen]
  exact hK _ _ hr

/-- An array of 16 bytes in a block of its own. -/
structure ArrAt (w : World) (A : Nat) (l : List Int) : Prop where
  len : l.length = 16
  cell : ∀ (j : Nat) z, l[j]? = some z → w.cell? ⟨A, j, none⟩ = some (.int .u8 z)
  typed : Typed w A 24

theorem ArrAt.drew {w : World} {A : Nat} {l : List Int} (h : ArrAt w A l) : ArrAt w.drew A l := ⟨h.len, h.cell, h.typed⟩

theorem wrote_setCells (b : Nat) : ∀ (vs : List Value) (o k p : Nat) (u w : World), Wrote b p k u w → p ≤ o → o + vs.length ≤ p + k → Wrote b p k u (w.setCells b o vs)
  | [], _, _, _, _, _, h, _, _ => h
  | v :: r, o, k, p, u, w, h, h1, h2 => by
    unfold World.setCells
    simp at h2
    exact wrote_setCells b r (o + 1) k p u _ (h.set (by omega) v) (by omega) (by omega)

theorem copy_ex {w : World} {A : Nat} {l : List Int} (h : ArrAt w A l) (zs : List Int) (a : Option Addr) (o dl dc c : Nat) (ho : o + dl = 16) (hm : zs.length ≤ dl)
    (hsrc : zs.length = 0 ∨ ∃ x : Addr, a = some x ∧ ∀ (j : Nat) z, zs[j]? = some z → w.cell? (x.add j) = some (.int .u8 z)) (ty : TypeId) :
    ∃ v w2, (Builtin.copy_ #[127, 127] ty #[.slice (some ⟨A, o, none⟩) dl dc, .slice a zs.length c]).run Tryz.prog w = .ok v w2 ∧ ArrAt w2 A (l.take o ++ zs ++ l.drop (o + zs.length)) ∧ Wrote A o zs.length w w2 := by
  have hinf : (Tryz.prog.info? 5).map (·.size) = some 1 := by kernel_rfl
  have hlen := h.len
  rcases hsrc with h0 | ⟨x, rfl, hx⟩
  · obtain rfl : zs = [] := List.length_eq_zero_iff.1 h0
    refine ⟨_, w, run_copy_none w _ _ ty 5 _ a dl dc 0 c Tryz.underlying127 hinf (by simp), ?_, Wrote.refl _ _ _ _⟩
    simpa using h
  · have hcl : ∀ j, j < zs.length → (w.cell? ⟨A, o + j, none⟩).isSome = true := fun j hj => by
      rw [h.cell (o + j) (l[o + j]'(by omega)) (by simp [show o + j < l.length by omega])]; rfl
    have hW : Wrote A o zs.length w (w.setCells A o (zs.map (fun z => Value.int .u8 z))) := wrote_setCells A _ o _ o w w (Wrote.refl _ _ _ _) (Nat.le_refl _) (by simp)
    refine ⟨_, _, run_copy_cells w _ _ ty 5 A o dl dc x zs.length c (zs.map (fun z => Value.int .u8 z)) Tryz.underlying127 hinf ((List.length_map _).trans (Nat.min_eq_left hm).symm) ?_ (by simpa using hcl) (fun j _ => h.typed.open _) (by simp [Value.oneCell']), ⟨?_, ?_, h.typed.wrote hW⟩, hW⟩
    · intro j v hj
      rw [List.getElem?_map] at hj
      cases hz : zs[j]? with
      | none => simp [hz] at hj
      | some z => simp [hz] at hj; subst hj; exact hx j z hz
    · simp; omega
    · intro j z hj
      by_cases h1 : j < o
      · rw [hW.cell j (Or.inl h1)]
        refine h.cell j z ?_
        rw [← hj, List.append_assoc, List.getElem?_append_left (by simp; omega)]
        simp [h1]
      · by_cases h2 : j < o + zs.length
        · have := World.cell?_setCells_in A (zs.map (fun z => Value.int .u8 z)) o w (by simpa using hcl) (j - o) (by simp; omega)
          rw [show o + (j - o) = j by omega] at this
          rw [this]
          rw [List.getElem?_append_left (by simp; omega), List.getElem?_append_right (by simp; omega)] at hj
          simp only [List.length_take, show min o l.length = o by omega] at hj
          simp [List.getElem?_eq_some_iff] at hj ⊢
          obtain ⟨_, hj⟩ := hj
          exact hj
        · rw [hW.cell j (Or.inr (by omega))]
          refine h.cell j z ?_
          have e : o + zs.length + (j - (l.take o ++ zs).length) = j := by simp only [List.length_append, List.length_take]; omega
          rw [← hj, List.getElem?_append_right (by simp; omega), List.getElem?_drop, e]

end Go.Proofs.YtaebknkjhhcneaaGreatDoor
