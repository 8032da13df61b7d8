/-
  Text4.
-/
import Derived.Test.YtiigcilclblblaaDoorShelf
import Derived.Test.YtiigcilclblblaaDoorAddrParse4
namespace Go.Proofs.YtiigcilclblblaaDoor
open Go Go.RowKit
set_option linter.unusedVariables false
set_option linter.unusedSimpArgs false

/-- The table that strconv.Itoa reads, whatever is laid above. -/
def Tabs (w : World) : Prop := ∀ w', Below w.heap.size w w' → Lib.TabIs Tryd.prog w' "internal/strconv.uint64pow10" .u64 Lib.pow10Tab

abbrev strV (l : List UInt8) : Value := .string ⟨l.toArray⟩

def text4 (l : List Int) : List UInt8 := Lib.join (l.map Lib.itoa) [46]

theorem itoa_calls (n : Int) (hn : Byte n) (w : World) (ht : Lib.TabIs Tryd.prog w "internal/strconv.uint64pow10" .u64 Lib.pow10Tab) :
    Calls Tryd.prog 54 #[.int .i64 n] w fun e w' => e = .returned (.string ⟨(Lib.itoa n).toArray⟩) ∧ Below w.heap.size w w' := by
  obtain ⟨h0, h1⟩ := hn
  refine (Tryd.strconv_Itoa n (by omega) (by omega) w ht).mono ?_
  rintro e w' ⟨rfl, k, os, rfl⟩
  refine ⟨rfl, rfl, rfl, rfl, ?_, fun j hj => ?_⟩
  · show w.heap.size ≤ (w.heap ++ os).size
    rw [Array.size_append]
    omega
  · show (w.heap ++ os)[j]? = w.heap[j]?
    rw [Array.getElem?_append_left hj]

theorem itoa_len {n : Int} (hn : Byte n) : (Lib.itoa n).length ≤ 1000 := by
  obtain ⟨h0, h1⟩ := hn
  have d1 : ∀ u, u < 10 → (Lib.decDigits u).length = 1 := fun u hu => by rw [Lib.decDigits, dif_pos hu]; rfl
  have d2 : ∀ u, u < 100 → (Lib.decDigits u).length ≤ 2 := fun u hu => by
    rw [Lib.decDigits]
    split
    · simp
    · have := d1 (u / 10) (by omega)
      simp [this]
  have d3 : ∀ u, u < 1000 → (Lib.decDigits u).length ≤ 3 := fun u hu => by
    rw [Lib.decDigits]
    split
    · simp
    · have := d2 (u / 10) (by omega)
      simp
      omega
  unfold Lib.itoa
  rw [if_neg (by omega)]
  have := d3 n.toNat (by omega)
  omega

/-- The texts so far: a row of strings of the call's own. -/
structure Strs (w1 : World) (l : List (List UInt8)) (v : Value) (X : World) : Prop where
  own : X.ownsRow w1.heap.size 9 1 v l.length (l.map strV)
  below : Below w1.heap.size w1 X

theorem Strs.kept {w1 X Y : World} {l : List (List UInt8)} {v : Value} (h : Strs w1 l v X) (hb : Below X.heap.size X Y) : Strs w1 l v Y := by
  refine ⟨⟨h.own.1, h.own.2.imp id ?_⟩, h.below.trans (hb.mono h.below.size)⟩
  rintro ⟨G, cap, cur, rfl, hB, hg, r⟩
  exact ⟨G, cap, cur, rfl, hB, (hb.block G (Array.getElem?_eq_some_iff.1 hg).1).trans hg, r⟩

theorem Strs.add {w1 X : World} {l : List (List UInt8)} {v : Value} (h : Strs w1 l v X) (x : List UInt8) (hl : l.length ≤ 1000) (ty : TypeId) :
    ∃ v' X', (Builtin.append_ #[76, 76] ty #[v, .slice (some ⟨X.heap.size, 0, none⟩) 1 1]).run Tryd.prog (X.alloc (.cells #[strV x] 9)) = .ok v' X' ∧ Strs w1 (l ++ [x]) v' X' := by
  obtain ⟨v', X', hrun, hown, hgr, -⟩ := own_lit elem_string h.own h.below.size (by omega) (by decide) [strV x] 1 rfl (by decide) (by simp [strV, Value.oneCell']) ty _ rfl
  exact ⟨v', X', hrun, ⟨by simpa using hown, h.below.grown hgr h.below.size (fun k hk => (h.own.lt k hk).1)⟩⟩

/-- Join of the texts. -/
theorem Strs.join {w1 X : World} {l : List (List UInt8)} {v : Value} (h : Strs w1 l v X) (c : UInt8) (hl : l.length ≤ 8) (hs : ∀ x ∈ l, x.length ≤ 1000) :
    Calls Tryd.prog 55 #[v, .string ⟨#[c]⟩] X fun e w' => e = .returned (strV (Lib.join l [c])) ∧ Below X.heap.size X w' := by
  have hlen : (Lib.join l [c]).length ≤ 140737488355328 := by
    have : ∀ l : List (List UInt8), (∀ x ∈ l, x.length ≤ 1000) → (Lib.join l [c]).length ≤ 1001 * l.length := by
      intro l
      induction l with
      | nil => intro _; simp [Lib.join_nil]
      | cons x r ih =>
        intro hx
        rw [Lib.join_cons]
        have ht : ∀ r : List (List UInt8), (∀ y ∈ r, y.length ≤ 1000) → (Lib.joinTail [c] r).length ≤ 1001 * r.length := by
          intro r
          induction r with
          | nil => intro _; simp [Lib.joinTail]
          | cons y r ih =>
            intro hy
            have h1 := ih (fun z hz => hy z (List.mem_cons_of_mem _ hz))
            have h2 := hy y (List.mem_cons_self)
            simp only [Lib.joinTail, List.map_cons, List.flatten_cons, List.length_append, List.length_cons, List.length_nil] at h1 ⊢
            omega
        have h1 := ht r (fun z hz => hx z (List.mem_cons_of_mem _ hz))
        have h2 := hx x (List.mem_cons_self)
        simp only [List.length_append, List.length_cons]
        omega
    have := this l hs
    omega
  have hcell := fun g hg => h.own.cells (g := g) hg
  rcases h.own.2 with ⟨rfl, hn⟩ | ⟨G, cap, cur, rfl, hB, hg, hcap, -⟩
  · obtain rfl : l = [] := List.length_eq_zero_iff.1 hn
    refine (Tryd.strings_Join_none none 0 ⟨#[c]⟩ X).mono ?_
    rintro e w' ⟨rfl, rfl⟩
    exact ⟨rfl, Below.refl _ _⟩
  · have hj := Tryd.strings_Join G 0 cap (l.map (fun x => (⟨x.toArray⟩ : ByteArray))) ⟨#[c]⟩ X (fun j x hj => by
      rw [List.getElem?_map] at hj
      cases hz : l[j]? with
      | none => simp [hz] at hj
      | some z =>
        simp [hz] at hj
        subst hj
        have := hcell G rfl j (strV z) (by rw [List.getElem?_map, hz]; rfl)
        rw [Go.WideShapes.add_plain] at this
        simpa [strV] using this) (Array.getElem?_eq_some_iff.1 hg).1 (by simp; omega) (by simpa using hcap) (by
        have e : (List.map (fun x : ByteArray => x.data.toList) (List.map (fun x => (⟨x.toArray⟩ : ByteArray)) l)) = l := by
          rw [List.map_map]
          conv => rhs; rw [← List.map_id l]
          rfl
        rw [e]
        exact hlen)
    have e : (List.map (fun x : ByteArray => x.data.toList) (List.map (fun x => (⟨x.toArray⟩ : ByteArray)) l)) = l := by
      rw [List.map_map]
      conv => rhs; rw [← List.map_id l]
      rfl
    rw [e, List.length_map] at hj
    exact hj

set_option maxHeartbeats 4000000 in
set_option maxRecDepth 100000 in
theorem text4_calls (a0 a1 a2 a3 : Int) (h0 : Byte a0) (h1 : Byte a1) (h2 : Byte a2) (h3 : Byte a3) (w : World) (ht : Tabs w) :
    Calls Tryd.prog 15 #[addrV [a0, a1, a2, a3]] w fun e w' => e = .returned (strV (text4 [a0, a1, a2, a3])) ∧ Below w.heap.size w w' := by
  show Calls Tryd.prog _ #[.agg #[.int .u8 a0, .int .u8 a1, .int .u8 a2, .int .u8 a3]] w _
  have HT : Hid _ := ht
  clear ht
  have b0 : 0 ≤ a0 ∧ a0 < 256 := h0
  have b1 : 0 ≤ a1 ∧ a1 < 256 := h1
  have b2 : 0 ≤ a2 ∧ a2 < 256 := h2
  have b3 : 0 ≤ a3 ∧ a3 < 256 := h3
  have hB1 : Below w.heap.size w (w.alloc (.cells #[.int .u8 a0, .int .u8 a1, .int .u8 a2, .int .u8 a3] 23)) := (Below.refl _ w).alloc (Nat.le_refl _) _
  have i0 : ∀ u : World, (Instr.index 23 (.agg #[.int .u8 a0, .int .u8 a1, .int .u8 a2, .int .u8 a3]) (.int .i64 0)).run Tryd.prog u = .ok (.int .u8 a0) u := fun _ => by kernel_rfl
  have i1 : ∀ u : World, (Instr.index 23 (.agg #[.int .u8 a0, .int .u8 a1, .int .u8 a2, .int .u8 a3]) (.int .i64 1)).run Tryd.prog u = .ok (.int .u8 a1) u := fun _ => by kernel_rfl
  have i2 : ∀ u : World, (Instr.index 23 (.agg #[.int .u8 a0, .int .u8 a1, .int .u8 a2, .int .u8 a3]) (.int .i64 2)).run Tryd.prog u = .ok (.int .u8 a2) u := fun _ => by kernel_rfl
  have i3 : ∀ u : World, (Instr.index 23 (.agg #[.int .u8 a0, .int .u8 a1, .int .u8 a2, .int .u8 a3]) (.int .i64 3)).run Tryd.prog u = .ok (.int .u8 a3) u := fun _ => by kernel_rfl
  go_enter Tryd.func15, Tryd.ntmps15
  go_wp2_with fail
  generalize w.alloc (.cells #[.int .u8 a0, .int .u8 a1, .int .u8 a2, .int .u8 a3] 23) = w1 at hB1 ⊢
  go_loopw [3, 7] (fun v3 v7 wr => ∃ (k : Nat), v7 = .int .i64 k ∧ k ≤ 4 ∧ Strs w1 (([a0, a1, a2, a3].take k).map Lib.itoa) v3 wr) (fun _ v7 _ => 4 - (intOf v7).toNat)
  case atStart => exact ⟨0, rfl, by decide, ⟨World.ownsRow_nil _ _ _ _, Below.refl _ _⟩⟩
  case round =>
    obtain ⟨k, rfl, hk, hS⟩ := hrel
    have hcase : k = 0 ∨ k = 1 ∨ k = 2 ∨ k = 3 ∨ k = 4 := by omega
    rcases hcase with rfl | rfl | rfl | rfl | rfl
    · have hC := itoa_calls a0 h0 wr (HT.out wr (hB1.trans (hS.below.mono hB1.size)))
      go_wp2_with fail
      refine hC.mono ?_
      rintro e W1 ⟨rfl, hb⟩
      clear hC
      obtain ⟨v', X', hrun, hS'⟩ := (hS.kept hb).add (Lib.itoa a0) (by simp) 76
      have HR : Hid _ := hrun
      clear hrun
      go_wp2_with (at_builtin; refine wpList_append_run rfl _ _ _ _ rfl rfl rfl HR.out ?_; clear HR)
      exact ⟨⟨1, rfl, by decide, hS'⟩, by simp [intOf]⟩
    · have hC := itoa_calls a1 h1 wr (HT.out wr (hB1.trans (hS.below.mono hB1.size)))
      go_wp2_with fail
      refine hC.mono ?_
      rintro e W1 ⟨rfl, hb⟩
      clear hC
      obtain ⟨v', X', hrun, hS'⟩ := (hS.kept hb).add (Lib.itoa a1) (by simp) 76
      have HR : Hid _ := hrun
      clear hrun
      go_wp2_with (at_builtin; refine wpList_append_run rfl _ _ _ _ rfl rfl rfl HR.out ?_; clear HR)
      exact ⟨⟨2, rfl, by decide, hS'⟩, by simp [intOf]⟩
    · have hC := itoa_calls a2 h2 wr (HT.out wr (hB1.trans (hS.below.mono hB1.size)))
      go_wp2_with fail
      refine hC.mono ?_
      rintro e W1 ⟨rfl, hb⟩
      clear hC
      obtain ⟨v', X', hrun, hS'⟩ := (hS.kept hb).add (Lib.itoa a2) (by simp) 76
      have HR : Hid _ := hrun
      clear hrun
      go_wp2_with (at_builtin; refine wpList_append_run rfl _ _ _ _ rfl rfl rfl HR.out ?_; clear HR)
      exact ⟨⟨3, rfl, by decide, hS'⟩, by simp [intOf]⟩
    · have hC := itoa_calls a3 h3 wr (HT.out wr (hB1.trans (hS.below.mono hB1.size)))
      go_wp2_with fail
      refine hC.mono ?_
      rintro e W1 ⟨rfl, hb⟩
      clear hC
      obtain ⟨v', X', hrun, hS'⟩ := (hS.kept hb).add (Lib.itoa a3) (by simp) 76
      have HR : Hid _ := hrun
      clear hrun
      go_wp2_with (at_builtin; refine wpList_append_run rfl _ _ _ _ rfl rfl rfl HR.out ?_; clear HR)
      exact ⟨⟨4, rfl, by decide, hS'⟩, by simp [intOf]⟩
    · have hC := hS.join 46 (by simp) (fun x hx => by
        simp at hx
        rcases hx with rfl | rfl | rfl | rfl
        · exact itoa_len h0
        · exact itoa_len h1
        · exact itoa_len h2
        · exact itoa_len h3)
      go_wp2_with fail
      refine hC.mono ?_
      rintro e W1 ⟨rfl, hb⟩
      go_wp2
      go_ret
      exact ⟨rfl, (hB1.trans (hS.below.mono hB1.size)).trans (hb.mono (Nat.le_trans hB1.size hS.below.size))⟩
end Go.Proofs.YtiigcilclblblaaDoor
