/-
  An append to an own row of bytes: what it turns, and where the new row lies; rows of datagrams beside it.
-/
import Derived.Test.YtackllcfnlhkpaaVe2
namespace Go.Proofs.Ytackllcfnlhkpaa
open Go Go.RowKit
set_option linter.unusedVariables false
set_option linter.unusedSimpArgs false

theorem OB.app2 {base : Nat} {w wx : World} {v u : Value} {zs ys : List Int} (h : OB base w wx v zs) (hs : base ≤ wx.heap.size) (hb : BytesAt wx.heap.size wx u ys) (hl : zs.length + ys.length ≤ 1000000) (ty : TypeId) :
    ∃ v' wy, (Builtin.append_ #[25, 25] ty #[v, u]).run Try.prog wx = .ok v' wy ∧ OB base w wy v' (zs ++ ys) ∧ base ≤ wy.heap.size ∧ Sep (fun c => v.ownBlock = some c) wx wy ∧ (v'.ownBlock = v.ownBlock ∨ ∀ c, v'.ownBlock = some c → wx.heap.size ≤ c) := by
  obtain ⟨_, _, a, c, rfl, hz⟩ := hb
  have hnone : a = none → ys.length = 0 := fun e => by
    rcases hz with hz | ⟨b, off, hz, _⟩
    · exact hz
    · rw [e] at hz; cases hz
  obtain ⟨v', wy, h1, h2, h3, h4⟩ := own_append elem_u8 (c := c) h.own a (bytesV ys) (bytesV_length ys) hnone (fun x hx j u hj => by
      rcases hz with hz | ⟨b, off, hz, _, hc⟩
      · have := (List.getElem?_eq_some_iff.1 hj).1; rw [bytesV_length] at this; omega
      · rw [hx] at hz
        cases hz
        have hjl := (List.getElem?_eq_some_iff.1 hj).1
        rw [bytesV_length] at hjl
        rw [Go.WideShapes.add_plain, hc j hjl]
        unfold bytesV at hj
        rw [List.getElem?_map] at hj
        obtain ⟨z, hz, rfl⟩ := Option.map_eq_some_iff.1 hj
        rw [hz]
        rfl) (fun u hu => by
      unfold bytesV at hu
      obtain ⟨z, _, rfl⟩ := List.mem_map.1 hu
      rfl) (by unfold maxLen; omega) (by omega) hs ty
  have hB : Below base wx wy := (Below.refl _ wx).grown h3 hs (fun j hj => (h.own.lt j hj).1)
  refine ⟨v', wy, h1, ⟨?_, h.bel.trans hB⟩, Nat.le_trans hs hB.size, ⟨h3.os, h3.tape, h3.output, h3.size, fun b hb hn => h3.block b hb (fun e => hn e.symm)⟩, h4⟩
  rw [List.length_append]
  have e : bytesV (zs ++ ys) = bytesV zs ++ bytesV ys := by simp [bytesV]
  rw [e]
  exact h2
theorem OB.lt {base : Nat} {w wx : World} {v : Value} {zs : List Int} (h : OB base w wx v zs) {c : Nat} (hc : v.ownBlock = some c) : c < wx.heap.size := (own_lt h.own hc).2
/-- A row of datagrams beside an own row of bytes that is appended to. -/
structure Beside (f : Fd) (base : Nat) (bv mv : Value) (M : List Fg) (w : World) : Prop where
  row : RowV f base (fun c => bv.ownBlock ≠ some c) w mv M
  ne : ∀ c, mv.ownBlock = some c → bv.ownBlock ≠ some c
theorem Beside.on {f : Fd} {base : Nat} {bv mv : Value} {M : List Fg} {w w' : World} (h : Beside f base bv mv M w) (hb : Below w.heap.size w w') : Beside f base bv mv M w' := ⟨h.row.on hb, h.ne⟩
theorem Beside.app {f : Fd} {base : Nat} {bv bv' mv : Value} {M : List Fg} {w w' : World} (h : Beside f base bv mv M w) (hs : Sep (fun c => bv.ownBlock = some c) w w') (hat : bv'.ownBlock = bv.ownBlock ∨ ∀ c, bv'.ownBlock = some c → w.heap.size ≤ c) : Beside f base bv' mv M w' := by
  have key : ∀ c, c < w.heap.size → bv.ownBlock ≠ some c → bv'.ownBlock ≠ some c := fun c hc hn e => by
    rcases hat with hat | hat
    · exact hn (hat ▸ e)
    · have := hat c e; omega
  refine ⟨?_, fun c hc => key c (h.row.lt hc).2 (h.ne c hc)⟩
  refine (((h.row.mono (S' := fun c => bv.ownBlock ≠ some c ∧ c < w.heap.size) (fun c hc hh => ⟨hh, hc⟩)).sep hs (fun c hc e => hc.1 e) (fun c hc e => h.ne c hc e)).mono (fun c _ hc => key c hc.2 hc.1))
theorem Beside.of {f : Fd} {n : Nat} {bv mv : Value} {M : List Fg} {w : World} (h : RowV f n (fun c => n ≤ c) w mv M) (hb : ∀ c, bv.ownBlock = some c → c < n) : Beside f n bv mv M w :=
  ⟨h.mono (fun c _ hc e => by have := hb c e; omega), fun c hc e => by have := hb c e; have := (h.lt hc).1; omega⟩

end Go.Proofs.Ytackllcfnlhkpaa
