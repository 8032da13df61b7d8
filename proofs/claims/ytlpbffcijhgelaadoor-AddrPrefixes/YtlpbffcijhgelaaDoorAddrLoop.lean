/-
  How a text is read, letter by letter, whatever its kind.
-/
import Derived.Test.YtlpbffcijhgelaaDoorAddrRead
namespace Go.Proofs.YtlpbffcijhgelaaDoor
open Go Go.RowKit
set_option linter.unusedVariables false
set_option linter.unusedSimpArgs false

/-- A kind of letters behind the interface: what its two methods do to what lies in memory. -/
structure Kind {σ : Type} (R : Reader σ) (B : Nat) (own : Nat → Prop) (T : TypeId) (rv : Value) (ft fw : Nat) (At : σ → World → Prop) : Prop where
  findT : ∀ w, (method 267 T rv "ferryman/addr.take").run Tryd.prog w = .ok (ft, rv) w
  findW : ∀ w, (method 267 T rv "ferryman/addr.whole").run Tryd.prog w = .ok (fw, rv) w
  entT : ∀ args w, (callFunc ft args).run Tryd.prog w = .ok (.enter ft args) w
  entW : ∀ args w, (callFunc fw args).run Tryd.prog w = .ok (.enter fw args) w
  take : ∀ st w r, At st w → 0 ≤ r ∧ r < 2147483648 → Calls Tryd.prog ft #[rv, .int .i32 r] w (fun e w' => e = .returned (.bool (R.take st r).isSome) ∧ Turns B own w w' ∧ ∀ st', R.take st r = some st' → At st' w')
  whole : ∀ st w, At st w → Calls Tryd.prog fw #[rv] w (fun e w' => e = .returned (.bool (R.whole st)) ∧ w' = w)
  step : ∀ st w k s pos pos', At st w → w.heap[k]? = some (.stringIter s pos) → At st (w.iterAt k s pos')
  alloc : ∀ st w o, At st w → At st (w.alloc o)

def ReadPost {σ : Type} (x : End σ) (B : Nat) (own : Nat → Prop) (At : σ → World → Prop) (w : World) (e : Ending) (w' : World) : Prop :=
  Turns B own w w' ∧ match x with
  | .bad n => e = .returned (.tuple #[.int .i64 n, .bool false])
  | .good st' => e = .returned (.tuple #[.int .i64 0, .bool true]) ∧ At st' w'

theorem Turns.back {B : Nat} {own : Nat → Prop} {w W : World} {o : Obj} (h : Turns B (fun j => own j ∨ j = w.heap.size) (w.alloc o) W) (hB : B ≤ w.heap.size) : Turns B own w W :=
  ⟨⟨h.below.os, h.below.tape, h.below.output, Nat.le_trans (by simp) h.below.size, fun k hk => (h.below.block k hk).trans (Below.heap_alloc w o k (by omega))⟩,
    fun k x hk hn hx => by
      have hlt := (Array.getElem?_eq_some_iff.1 hk).1
      exact h.kept k x ((Below.heap_alloc w o k hlt).trans hk) (fun e => e.elim hn (fun e => by omega)) hx⟩

theorem Turns.iterAt {B : Nat} {own : Nat → Prop} {u w : World} {k : Nat} (h : Turns B own u w) (ho : own k) (hB : B ≤ k) (s : ByteArray) (pos : Nat) : Turns B own u (w.iterAt k s pos) :=
  ⟨Lib.below_iterAt h.below hB s pos, fun j x hj hn hx => (Lib.iterAt_other w k j s pos (fun e => hn (e ▸ ho))).trans (h.kept j x hj hn hx)⟩

set_option maxHeartbeats 8000000 in
set_option maxRecDepth 100000 in
theorem read_calls {σ : Type} {R : Reader σ} {B : Nat} {own : Nat → Prop} {T : TypeId} {b : Nat} {ft fw : Nat} {At : σ → World → Prop} (K : Kind R B own T (.pointer (some ⟨b, 0, none⟩)) ft fw At)
    (s : ByteArray) (hs : s.size ≤ 140737488355328) (st : σ) (w : World) (hat : At st w) (hB : B ≤ w.heap.size) (ho : ∀ k, own k → k < w.heap.size) :
    Calls Tryd.prog 48 #[.string s, .iface T (.pointer (some ⟨b, 0, none⟩))] w fun e w' => ReadPost (R.read s.data.toList 0 st) B own At w e w' := by
  have mT := K.findT
  have mW := K.findW
  have eT := K.entT
  have eW := K.entW
  have HK : Hid _ := K
  clear K
  have hLn : s.data.toList.length = s.size := Array.length_toList
  go_enter Tryd.func48, Tryd.ntmps48
  go_wp2_with fail
  go_loopw [] (fun wr => ∃ (pos : Nat) (t : σ), pos ≤ s.size ∧ wr.heap[w.heap.size]? = some (.stringIter s pos) ∧ At t wr ∧ Turns B (fun j => own j ∨ j = w.heap.size) (w.iter s 0) wr ∧ R.read s.data.toList 0 st = R.read (s.data.toList.drop pos) pos t)
    (fun wr => s.size - wr.iterPos w.heap.size)
  case atStart => exact ⟨0, st, Nat.zero_le _, World.iter_heap _ _ _, HK.out.alloc _ _ _ hat, Turns.refl _ _ _, rfl⟩
  case round =>
    obtain ⟨pos, t, hps, hit, hA, hL, hrd⟩ := hrel
    have HR : Hid _ := hrd
    clear hrd
    have hmu : wr.iterPos w.heap.size = pos := by simp [World.iterPos, hit]
    by_cases hp : pos < s.size
    · have hdrop : s.data.toList.drop pos = s[pos] :: s.data.toList.drop (pos + 1) := by
        rw [List.drop_eq_getElem_cons (by omega)]
        simp [ByteArray.getElem_eq_getElem_data]
      by_cases h128 : (s[pos]'hp).toNat < 128
      · have hnext : ∀ ty, (Instr.next (.pointer (some ⟨w.heap.size, 0, none⟩)) true ty).run Tryd.prog wr = _ := fun ty => Lib.run_next_ascii_at wr w.heap.size s pos ty hit hp h128
        have hit1 := Lib.iterAt_heap wr w.heap.size s pos (pos + 1) hit
        have hA1 := HK.out.step _ _ _ _ _ (pos + 1) hA hit
        have hL1 := hL.iterAt (Or.inr rfl) hB s (pos + 1)
        generalize s[pos]'hp = c at hnext h128 hdrop
        rw [hdrop] at HR
        clear hdrop
        generalize wr.iterAt w.heap.size s (pos + 1) = W1 at hnext hit1 hA1 hL1
        have hCall := HK.out.take t W1 c.toNat hA1 (by omega)
        go_wp2_with fail
        refine hCall.mono ?_
        rintro e W2 ⟨rfl, hW, hsome⟩
        clear hCall
        have hL2 : Turns B (fun j => own j ∨ j = w.heap.size) (w.iter s 0) W2 := hL1.trans (hW.mono (fun k hk => Or.inl hk))
        cases hx : R.take t c.toNat with
        | none =>
          go_wp2
          go_ret2
          have hbad : R.read s.data.toList 0 st = .bad pos := by rw [HR.out]; simp [Reader.read, hx]
          rw [hbad]
          exact ⟨hL2.back hB, rfl⟩
        | some t' =>
          have hit2 : W2.heap[w.heap.size]? = some (.stringIter s (pos + 1)) := hW.kept _ _ hit1 (fun e => by have := ho _ e; omega) (fun _ _ e => by cases e)
          go_wp2
          go_roundw
          case rel =>
            refine ⟨pos + 1, t', by omega, hit2, hsome t' hx, hL2, ?_⟩
            rw [HR.out]
            simp [Reader.read, hx]
          case measure =>
            have hmu2 : W2.iterPos w.heap.size = pos + 1 := by simp [World.iterPos, hit2]
            rw [hmu, hmu2]
            omega
      · have hd := decode_high s pos hp (by omega)
        have hle := decode_le s pos
        have hnext : ∀ ty, (Instr.next (.pointer (some ⟨w.heap.size, 0, none⟩)) true ty).run Tryd.prog wr = _ := fun ty => Lib.run_next_any_at wr w.heap.size s pos ty hit hp
        have hA1 := HK.out.step _ _ _ _ _ (pos + (Utf8.decode s pos).2) hA hit
        have hL1 := hL.iterAt (Or.inr rfl) hB s (pos + (Utf8.decode s pos).2)
        generalize wr.iterAt w.heap.size s (pos + (Utf8.decode s pos).2) = W1 at hnext hA1 hL1
        generalize (Utf8.decode s pos).1 = r at hnext hd hle
        have hCall := HK.out.take t W1 r hA1 (by omega)
        rw [R.high t r (by omega)] at hCall
        go_wp2_with fail
        refine hCall.mono ?_
        rintro e W2 ⟨rfl, hW, -⟩
        clear hCall
        have hL2 : Turns B (fun j => own j ∨ j = w.heap.size) (w.iter s 0) W2 := hL1.trans (hW.mono (fun k hk => Or.inl hk))
        go_wp2
        go_ret2
        have hbad : R.read s.data.toList 0 st = .bad pos := by rw [HR.out, hdrop]; simp [Reader.read, R.high t (s[pos].toNat) (by omega)]
        rw [hbad]
        exact ⟨hL2.back hB, rfl⟩
    · have hnext : ∀ ty, (Instr.next (.pointer (some ⟨w.heap.size, 0, none⟩)) true ty).run Tryd.prog wr = _ := fun ty => Lib.run_next_end_at wr w.heap.size s pos ty hit hp
      have hend : s.data.toList.drop pos = [] := List.drop_eq_nil_of_le (by omega)
      rw [hend] at HR
      have hpos : pos = s.size := by omega
      have hCall := HK.out.whole t wr hA
      go_wp2_with fail
      refine hCall.mono ?_
      rintro e W2 ⟨rfl, rfl⟩
      clear hCall
      cases hx : R.whole t with
      | true =>
        go_wp2
        go_ret2
        have hgood : R.read s.data.toList 0 st = .good t := by rw [HR.out]; simp [Reader.read, hx]
        rw [hgood]
        exact ⟨hL.back hB, rfl, hA⟩
      | false =>
        go_wp2
        go_ret2
        have hbad : R.read s.data.toList 0 st = .bad pos := by rw [HR.out]; simp [Reader.read, hx]
        rw [hbad, hpos]
        exact ⟨hL.back hB, rfl⟩

end Go.Proofs.YtlpbffcijhgelaaDoor
