/-
  grouped.addr: what is copied.
-/
import Derived.Test.YtlpbffcijhgelaaDoorAddrCopy
namespace Go.Proofs.YtlpbffcijhgelaaDoor
open Go Go.RowKit
set_option linter.unusedVariables false
set_option linter.unusedSimpArgs false

/-- The bytes that are given so far: a row of the call's own. -/
structure Giv (w1 : World) (l : List Int) (v : Value) (X : World) : Prop where
  own : X.ownsRow w1.heap.size 5 1 v l.length (l.map (fun z => Value.int .u8 z))
  below : Below w1.heap.size w1 X

theorem Giv.start (w1 : World) : Giv w1 [] (.slice (some ⟨w1.heap.size, 0, none⟩) 0 0) (w1.alloc (.cells #[] 5)) :=
  ⟨⟨rfl, .inr ⟨w1.heap.size, 0, _, rfl, Nat.le_refl _, heap_alloc_new w1 _, Nat.le_refl _, by decide, rfl, rfl⟩⟩, (Below.refl _ w1).alloc (Nat.le_refl _) _⟩

theorem Giv.app {w1 X : World} {l : List Int} {v : Value} (h : Giv w1 l v X) (zs : List Int) (a : Option Addr) (c : Nat) (hl : l.length ≤ 1000) (hz : zs.length ≤ 1000)
    (hsrc : zs.length = 0 ∧ a = none ∨ ∃ x : Addr, a = some x ∧ ∀ (j : Nat) z, zs[j]? = some z → X.cell? (x.add j) = some (.int .u8 z)) (ty : TypeId) :
    ∃ v' X', (Builtin.append_ #[81, 81] ty #[v, .slice a zs.length c]).run Tryd.prog X = .ok v' X' ∧ Giv w1 (l ++ zs) v' X' := by
  obtain ⟨v', X', hrun, hown, hgr, -⟩ := own_append elem_u8 (c := c) (m := zs.length) h.own a (zs.map (fun z => Value.int .u8 z)) (by simp) (fun e => by
      rcases hsrc with ⟨h0, _⟩ | ⟨x, rfl, _⟩
      · simpa using h0
      · cases e) (fun x hx j u hj => by
      rcases hsrc with ⟨_, rfl⟩ | ⟨x', rfl, hx'⟩
      · cases hx
      · cases hx
        rw [List.getElem?_map] at hj
        cases hz : zs[j]? with
        | none => simp [hz] at hj
        | some z => simp [hz] at hj; subst hj; exact hx' j z hz) (by simp [Value.oneCell']) (by unfold maxLen; omega) (by omega) h.below.size ty
  refine ⟨v', X', hrun, ⟨by simpa using hown, h.below.grown hgr h.below.size (fun k hk => (h.own.lt k hk).1)⟩⟩

/-- A row of bytes of one's own, cell by cell. -/
theorem row_form {B : Nat} {X : World} {l : List Int} {v : Value} (h : X.ownsRow B 5 1 v l.length (l.map (fun z => Value.int .u8 z))) : ∃ a cap, v = .slice a l.length cap ∧ l.length ≤ cap ∧ (l.length = 0 ∧ a = none ∨ ∃ G, a = some ⟨G, 0, none⟩ ∧ B ≤ G ∧ G < X.heap.size ∧ (∃ cs, X.heap[G]? = some (.cells cs 5 (0, 0))) ∧ ∀ (j : Nat) z, l[j]? = some z → X.cell? ⟨G, j, none⟩ = some (.int .u8 z)) := by
  have hc := fun g hg => h.cells (g := g) hg
  rcases h.2 with ⟨rfl, h0⟩ | ⟨G, cap, cur, rfl, hb, hg, hn, _⟩
  · exact ⟨none, 0, by rw [h0], by omega, .inl ⟨h0, rfl⟩⟩
  · refine ⟨_, cap, rfl, hn, .inr ⟨G, rfl, hb, (Array.getElem?_eq_some_iff.1 hg).1, ⟨cur, hg⟩, fun j z hj => ?_⟩⟩
    have := hc G rfl j (.int .u8 z) (by rw [List.getElem?_map, hj]; rfl)
    rw [Go.WideShapes.add_plain] at this
    simpa using this

theorem arr_new (X : World) : ArrAt (X.alloc (.cells #[.int .u8 0, .int .u8 0, .int .u8 0, .int .u8 0, .int .u8 0, .int .u8 0, .int .u8 0, .int .u8 0, .int .u8 0, .int .u8 0, .int .u8 0, .int .u8 0, .int .u8 0, .int .u8 0, .int .u8 0, .int .u8 0] 31)) X.heap.size (List.replicate 16 0) := by
  refine ⟨rfl, fun j z hj => ?_, ⟨_, heap_alloc_new X _⟩⟩
  rw [World.cell?_alloc_new]
  rw [List.getElem?_replicate] at hj
  split at hj
  case isFalse => cases hj
  rename_i hj'
  cases hj
  match j, hj' with
  | 0, _ => rfl
  | 1, _ => rfl
  | 2, _ => rfl
  | 3, _ => rfl
  | 4, _ => rfl
  | 5, _ => rfl
  | 6, _ => rfl
  | 7, _ => rfl
  | 8, _ => rfl
  | 9, _ => rfl
  | 10, _ => rfl
  | 11, _ => rfl
  | 12, _ => rfl
  | 13, _ => rfl
  | 14, _ => rfl
  | 15, _ => rfl
  | n + 16, h => exact absurd h (by omega)

theorem Giv.alloc {w1 X : World} {l : List Int} {v : Value} (h : Giv w1 l v X) (o : Obj) : Giv w1 l v (X.alloc o) := ⟨h.own.alloc o, h.below.alloc h.below.size o⟩

/-- What is loaded from the array. -/
theorem ArrAt.cells {w : World} {A : Nat} {l : List Int} (h : ArrAt w A l) : ∃ x0 x1 x2 x3 x4 x5 x6 x7 x8 x9 x10 x11 x12 x13 x14 x15 : Int, l = [x0, x1, x2, x3, x4, x5, x6, x7, x8, x9, x10, x11, x12, x13, x14, x15] ∧ w.cell? ⟨A, 0, none⟩ = some (.int .u8 x0) ∧ w.cell? ⟨A, 1, none⟩ = some (.int .u8 x1) ∧ w.cell? ⟨A, 2, none⟩ = some (.int .u8 x2) ∧ w.cell? ⟨A, 3, none⟩ = some (.int .u8 x3) ∧ w.cell? ⟨A, 4, none⟩ = some (.int .u8 x4) ∧ w.cell? ⟨A, 5, none⟩ = some (.int .u8 x5) ∧ w.cell? ⟨A, 6, none⟩ = some (.int .u8 x6) ∧ w.cell? ⟨A, 7, none⟩ = some (.int .u8 x7) ∧ w.cell? ⟨A, 8, none⟩ = some (.int .u8 x8) ∧ w.cell? ⟨A, 9, none⟩ = some (.int .u8 x9) ∧ w.cell? ⟨A, 10, none⟩ = some (.int .u8 x10) ∧ w.cell? ⟨A, 11, none⟩ = some (.int .u8 x11) ∧ w.cell? ⟨A, 12, none⟩ = some (.int .u8 x12) ∧ w.cell? ⟨A, 13, none⟩ = some (.int .u8 x13) ∧ w.cell? ⟨A, 14, none⟩ = some (.int .u8 x14) ∧ w.cell? ⟨A, 15, none⟩ = some (.int .u8 x15) := by
  obtain ⟨x0, x1, x2, x3, x4, x5, x6, x7, x8, x9, x10, x11, x12, x13, x14, x15, rfl⟩ := list16 h.len
  exact ⟨x0, x1, x2, x3, x4, x5, x6, x7, x8, x9, x10, x11, x12, x13, x14, x15, rfl, h.cell 0 _ rfl, h.cell 1 _ rfl, h.cell 2 _ rfl, h.cell 3 _ rfl, h.cell 4 _ rfl, h.cell 5 _ rfl, h.cell 6 _ rfl, h.cell 7 _ rfl, h.cell 8 _ rfl, h.cell 9 _ rfl, h.cell 10 _ rfl, h.cell 11 _ rfl, h.cell 12 _ rfl, h.cell 13 _ rfl, h.cell 14 _ rfl, h.cell 15 _ rfl⟩

/-- The given bytes go over whole. -/
theorem copy_full {w1 X : World} {l : List Int} {v : Value} (h : Giv w1 l v X) (hl : l.length = 16) (ty : TypeId) :
    ∃ v' w2, (Builtin.copy_ #[81, 81] ty #[.slice (some ⟨X.heap.size, 0, none⟩) 16 16, v]).run Tryd.prog (X.alloc (.cells #[.int .u8 0, .int .u8 0, .int .u8 0, .int .u8 0, .int .u8 0, .int .u8 0, .int .u8 0, .int .u8 0, .int .u8 0, .int .u8 0, .int .u8 0, .int .u8 0, .int .u8 0, .int .u8 0, .int .u8 0, .int .u8 0] 31)) = .ok v' w2 ∧ (ArrAt w2 X.heap.size l ∧ Below w1.heap.size w1 w2) := by
  obtain ⟨a, cap, rfl, hcap, hc⟩ := row_form h.own
  obtain ⟨v', w2, hrun, hA, hW⟩ := copy_ex (arr_new X) l a 0 16 16 cap rfl (by omega) (hc.imp (fun x => x.1) (fun ⟨G, e, _, hG, _, hcc⟩ => ⟨_, e, fun j z hj => by
    rw [Go.WideShapes.add_plain]
    simp only [Nat.zero_add]
    rw [World.cell?_alloc_lt _ _ _ hG]
    exact hcc j z hj⟩)) ty
  refine ⟨v', w2, hrun, ?_, (h.below.alloc h.below.size _).trans (hW.below h.below.size)⟩
  simpa [hl] using hA

/-- The bytes ahead of the gap go over. -/
theorem copy_head {w1 X : World} {l : List Int} {a : Option Addr} {cap : Nat} (h : Giv w1 l (.slice a l.length cap) X) (γ : Nat) (hγ : γ ≤ l.length) (hl : l.length ≤ 14) (ty : TypeId) :
    ∃ v' w2, (Builtin.copy_ #[81, 81] ty #[.slice (some ⟨X.heap.size, 0, none⟩) 16 16, .slice a γ cap]).run Tryd.prog ((X.alloc (.cells #[.int .u8 0, .int .u8 0, .int .u8 0, .int .u8 0, .int .u8 0, .int .u8 0, .int .u8 0, .int .u8 0, .int .u8 0, .int .u8 0, .int .u8 0, .int .u8 0, .int .u8 0, .int .u8 0, .int .u8 0, .int .u8 0] 31)).drew) = .ok v' w2 ∧ (ArrAt w2 X.heap.size (l.take γ ++ List.replicate (16 - γ) 0) ∧ Giv w1 l (.slice a l.length cap) w2) := by
  obtain ⟨a', cap', e, hcap, hc⟩ := row_form h.own
  injection e with e1 _ e3
  subst e1 e3
  have hA0 : ArrAt (X.alloc (.cells #[.int .u8 0, .int .u8 0, .int .u8 0, .int .u8 0, .int .u8 0, .int .u8 0, .int .u8 0, .int .u8 0, .int .u8 0, .int .u8 0, .int .u8 0, .int .u8 0, .int .u8 0, .int .u8 0, .int .u8 0, .int .u8 0] 31)).drew X.heap.size (List.replicate 16 0) := (arr_new X).drew
  obtain ⟨v', w2, hrun, hA, hW⟩ := copy_ex hA0 (l.take γ) a 0 16 16 cap rfl (by simp; omega) (hc.imp (fun x => by simp; omega) (fun ⟨G, e, _, hG, _, hcc⟩ => ⟨_, e, fun j z hj => by
    rw [Go.WideShapes.add_plain]
    simp only [Nat.zero_add]
    show (X.alloc (.cells #[.int .u8 0, .int .u8 0, .int .u8 0, .int .u8 0, .int .u8 0, .int .u8 0, .int .u8 0, .int .u8 0, .int .u8 0, .int .u8 0, .int .u8 0, .int .u8 0, .int .u8 0, .int .u8 0, .int .u8 0, .int .u8 0] 31)).cell? _ = _
    rw [World.cell?_alloc_lt _ _ _ hG]
    refine hcc j z ?_
    rw [List.getElem?_take] at hj
    split at hj
    · exact hj
    · cases hj⟩)) ty
  have hlt : (l.take γ).length = γ := by simp; omega
  rw [hlt] at hrun hW
  refine ⟨v', w2, hrun, ?_, ⟨h.own.1, h.own.2.imp id ?_⟩, ((h.below.alloc h.below.size _).drew).trans (hW.below h.below.size)⟩
  · rw [hlt, List.take_zero, List.nil_append, Nat.zero_add, List.drop_replicate] at hA
    exact hA
  · rintro ⟨G, cap, cur, e, hb, hg, r⟩
    have hlt2 := (Array.getElem?_eq_some_iff.1 hg).1
    exact ⟨G, cap, cur, e, hb, (hW.other G (by omega)).trans ((Below.heap_alloc X _ G hlt2).trans hg), r⟩

/-- The bytes behind the gap go to the end. -/
theorem copy_tail {w1 X : World} {l k : List Int} {a : Option Addr} {cap A : Nat} (h : Giv w1 l (.slice a l.length cap) X) (hA0 : ArrAt X A k) (hAB : w1.heap.size ≤ A) (γ : Nat) (hγ : γ ≤ l.length) (hl : l.length ≤ 14) (a' : Option Addr) (o m c dc : Nat) (hm : m = l.length - γ) (ho : o = 16 - m)
    (ha : l.length = 0 ∨ ∃ G, a = some ⟨G, 0, none⟩ ∧ a' = some ⟨G, γ, none⟩) (ty : TypeId) :
    ∃ v' w2, (Builtin.copy_ #[81, 81] ty #[.slice (some ⟨A, o, none⟩) m dc, .slice a' m c]).run Tryd.prog X = .ok v' w2 ∧ (ArrAt w2 A (k.take (16 - m) ++ l.drop γ) ∧ Below w1.heap.size w1 w2) := by
  have hlt : (l.drop γ).length = m := by simp; omega
  have hom : o + m = 16 := by omega
  have hml : (l.drop γ).length ≤ m := by omega
  have hk := hA0.len
  have e2 : k.drop (16 - m + m) = [] := List.drop_eq_nil_of_le (by omega)
  obtain ⟨a2, cap2, e, hcap, hc⟩ := row_form h.own
  injection e with e1 _ e3
  subst e1 e3
  obtain ⟨v', w2, hrun, hA, hW⟩ := copy_ex hA0 (l.drop γ) a' o m dc c hom hml (by
    rcases ha with h0 | ⟨G, hG, rfl⟩
    · exact .inl (by omega)
    · rcases hc with ⟨h0, _⟩ | ⟨G', e, _, hlt, _, hcc⟩
      · exact .inl (by omega)
      · rw [hG] at e
        cases e
        refine .inr ⟨_, rfl, fun j z hj => ?_⟩
        rw [Go.WideShapes.add_plain]
        rw [List.getElem?_drop] at hj
        exact hcc _ z hj) ty
  rw [hlt] at hrun hW
  refine ⟨v', w2, hrun, ?_, h.below.trans (hW.below hAB)⟩
  subst ho
  rw [hlt, e2, List.append_nil] at hA
  exact hA

/-- The four bytes of the tail behind the groups. -/
theorem tail_app {w1 X1 X2 : World} {g : Grp} {v1 : Value} {L : List Int} (hG1 : Giv w1 g.ended v1 X1) (hl : g.ended.length ≤ 16) (hB2 : Below X1.heap.size X1 X2) (hL : L = g.ended ++ g.tail.addr) :
    ∃ v X, (Builtin.append_ #[81, 81] 81 #[v1, .slice (some ⟨X2.heap.size, 0, none⟩) 4 4]).run Tryd.prog (X2.alloc (.cells #[.int .u8 g.tail.e0, .int .u8 g.tail.e1, .int .u8 g.tail.e2, .int .u8 g.tail.num.value] 23)) = .ok v X ∧ Giv w1 L v X := by
  have hG2 : Giv w1 g.ended v1 X2 := by
    refine ⟨⟨hG1.own.1, hG1.own.2.imp id ?_⟩, hG1.below.trans (hB2.mono hG1.below.size)⟩
    rintro ⟨G, cap, cur, rfl, hb, hg, r⟩
    exact ⟨G, cap, cur, rfl, hb, (hB2.block G (Array.getElem?_eq_some_iff.1 hg).1).trans hg, r⟩
  rw [hL]
  exact (hG2.alloc (.cells #[.int .u8 g.tail.e0, .int .u8 g.tail.e1, .int .u8 g.tail.e2, .int .u8 g.tail.num.value] 23)).app g.tail.addr (some ⟨X2.heap.size, 0, none⟩) 4 (by omega) (by simp [Dot.addr]) (.inr ⟨_, rfl, fun j z hj => by
    rw [Go.WideShapes.add_plain]
    simp only [Nat.zero_add, World.cell?_alloc_new]
    match j, hj with
    | 0, hj => cases hj; rfl
    | 1, hj => cases hj; rfl
    | 2, hj => cases hj; rfl
    | 3, hj => cases hj; rfl
    | n + 4, hj => simp [Dot.addr] at hj⟩) 81

theorem Giv.drew {w1 X : World} {l : List Int} {v : Value} (h : Giv w1 l v X) : Giv w1 l v X.drew := ⟨h.own, h.below.drew⟩

/-- The two bytes of the open group behind the groups. -/
theorem part_app {w1 X1 : World} {g : Grp} {v1 : Value} {L : List Int} (hG1 : Giv w1 g.ended v1 X1) (hl : g.ended.length ≤ 16) (hv : 0 ≤ g.value ∧ g.value < 65536) (hL : L = g.ended ++ [g.value / 256, g.value % 256]) (ty : TypeId) :
    ∃ v X, (Builtin.append_ #[81, 81] ty #[v1, .slice (some ⟨X1.heap.size, 0, none⟩) 2 2]).run Tryd.prog ((X1.alloc (.cells #[.int .u8 (IntKind.u8.wrap (g.value / 256)), .int .u8 (IntKind.u8.wrap g.value)] 5)).drew) = .ok v X ∧ Giv w1 L v X := by
  rw [hL]
  exact ((hG1.alloc (.cells #[.int .u8 (IntKind.u8.wrap (g.value / 256)), .int .u8 (IntKind.u8.wrap g.value)] 5)).drew).app [g.value / 256, g.value % 256] (some ⟨X1.heap.size, 0, none⟩) 2 (by omega) (by simp) (.inr ⟨_, rfl, fun j z hj => by
    rw [Go.WideShapes.add_plain]
    show (X1.alloc _).cell? _ = _
    simp only [Nat.zero_add, World.cell?_alloc_new]
    match j, hj with
    | 0, hj =>
      cases hj
      rw [IntKind.wrap_u8, Int.emod_eq_of_lt (by omega) (by omega)]
      rfl
    | 1, hj =>
      cases hj
      rw [IntKind.wrap_u8]
      rfl
    | n + 2, hj => simp at hj⟩) ty

end Go.Proofs.YtlpbffcijhgelaaDoor
