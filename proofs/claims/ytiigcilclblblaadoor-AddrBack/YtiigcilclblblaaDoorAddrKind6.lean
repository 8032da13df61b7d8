/-
  grouped as a kind of letters.
-/
import Derived.Test.YtiigcilclblblaaDoorAddrLs
namespace Go.Proofs.YtiigcilclblblaaDoor
open Go Go.RowKit
set_option linter.unusedVariables false
set_option linter.unusedSimpArgs false

/-- What is whole has all its bytes. -/
theorem Grp.whole_full {g : Grp} (hk : g.Ok) (hw : g.whole = true) (hgp : g.gapped = false) : g.given.length = 16 := by
  unfold Grp.whole at hw
  unfold Grp.given
  by_cases hd : g.dots = true
  · rw [if_pos hd]
    have := hk.full hd hgp
    simp [Dot.addr, this]
  · rw [if_neg hd] at hw ⊢
    rw [hgp] at hw
    simp at hw
    rw [if_pos hw.1]
    have := hw.2
    unfold Grp.room at this
    rw [hgp] at this
    simp at this
    simp
    omega

theorem Grp.addr_len {g : Grp} (hk : g.Ok) (hw : g.whole = true) : g.addr.length = 16 := by
  have hm := hk.most
  unfold Grp.addr
  by_cases hgp : g.gapped = true
  · rw [if_pos hgp]
    have hgl := hk.gap
    have hl : g.given.length ≤ 14 ∧ g.ended.length ≤ g.given.length := by
      unfold Grp.given
      rw [hgp, if_pos rfl] at hm
      split
      · rename_i hd
        rw [if_pos hd] at hm
        simp [Dot.addr]
        omega
      · rename_i hd
        rw [if_neg hd] at hm
        split
        · rename_i hp
          rw [if_neg (by simpa using hp)] at hm
          simp
          omega
        · omega
    simp
    omega
  · rw [if_neg hgp]
    exact Grp.whole_full hk hw (by simpa using hgp)

/-- A grouped in a block of its own. -/
structure GrpIn (B b : Nat) (g : Grp) (w : World) : Prop where
  cells : GrpAt B b g w
  ok : g.Ok

theorem GrpAt.move {B b : Nat} {g : Grp} {w w' : World} (h : GrpAt B b g w) (hb : w'.heap[b]? = w.heap[b]?) (hrow : ∀ (G : Nat) (cs : Array Value), w.heap[G]? = some (Obj.cells cs 5 (0, 0)) → w'.heap[G]? = w.heap[G]?) : GrpAt B b g w' := by
  have e := fun i => World.cell?_of_block (a := ⟨b, i, none⟩) hb
  obtain ⟨v, h0, hown⟩ := h.row
  obtain ⟨cs, hc⟩ := h.typed
  refine ⟨⟨cs, hb.trans hc⟩, h.hB, ⟨v, (e 0).trans h0, hown.1, hown.2.imp id ?_⟩, (e _).trans h.c1, (e _).trans h.c2, (e _).trans h.c3, (e _).trans h.c4, (e _).trans h.c5, (e _).trans h.c6,
    ⟨(e _).trans h.tail.c0, (e _).trans h.tail.c1, (e _).trans h.tail.c2, (e _).trans h.tail.c3, (e _).trans h.tail.c4, (e _).trans h.tail.c5⟩⟩
  rintro ⟨G, cap, cur, rfl, hB, hg, r⟩
  exact ⟨G, cap, cur, rfl, hB, (hrow G cur hg).trans hg, r⟩

theorem grp_kind {B b : Nat} : Kind grpReader B (fun j => j = b) 85 (.pointer (some ⟨b, 0, none⟩)) 123 124 (GrpIn B b) where
  findT := fun w => by kernel_rfl
  findW := fun w => by kernel_rfl
  entT := fun args w => by kernel_rfl
  entW := fun args w => by kernel_rfl
  take := fun g w r h hr => (grp_take h.cells h.ok hr).mono fun e w' hT => ⟨hT.1, hT.2.1, fun g' hg' => ⟨hT.2.2 g' hg', Grp.take_ok hg' h.ok⟩⟩
  whole := fun g w h => grp_whole h.cells h.ok.len
  step := fun g w k s pos pos' h hk => by
    obtain ⟨h1, h2⟩ := h.cells.typed.iterAt hk pos'
    refine ⟨h.cells.move (Lib.iterAt_other w k b s pos' h2) (fun G cs hG => Lib.iterAt_other w k G s pos' (fun e => ?_)), h.ok⟩
    subst e
    rw [hG] at hk
    cases hk
  alloc := fun g w o h => ⟨h.cells.move (Below.heap_alloc w o b (by obtain ⟨cs, hc⟩ := h.cells.typed; exact (Array.getElem?_eq_some_iff.1 hc).1)) (fun G cs hG => Below.heap_alloc w o G (Array.getElem?_eq_some_iff.1 hG).1), h.ok⟩

theorem read_good {σ : Type} {R : Reader σ} : ∀ (l : List UInt8) (pos : Nat) (st st' : σ), R.read l pos st = .good st' → R.whole st' = true
  | [], pos, st, st', h => by
    unfold Reader.read at h
    split at h
    · rename_i hw
      injection h with h
      rw [← h]
      exact hw
    · cases h
  | c :: l, pos, st, st', h => by
    unfold Reader.read at h
    split at h
    · cases h
    · exact read_good l _ _ _ h

end Go.Proofs.YtiigcilclblblaaDoor
