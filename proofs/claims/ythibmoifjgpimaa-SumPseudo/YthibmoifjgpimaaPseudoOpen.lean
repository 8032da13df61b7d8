/-
  An array of bytes as an argument; the statement SumPseudo at whatever arguments can be read.
-/
import Derived.Test.YthibmoifjgpimaaPseudoWalk
namespace Go.Proofs.Ythibmoifjgpimaa
open Go Go.RowKit Go.Shelf Go.ChangeShapes Go.WideShapes

theorem open_arr {H : Type} {enc : TypeId × Value → H} {W : World} {base n : Nat} {T : TypeId} {v : Value} {d : DataW H} {p : List MemPlace} (ht : Try.prog.underlying T = some (.array n 5)) (hc : Try.prog.cellsOf T = n)
    (hval : Value.okWide Try.prog W .any base T v) (h : DataW.Trod enc Try.prog W 0 (fun _ => true) true T v d p) : ∃ zs : List Int, zs.length = n ∧ Fit zs ∧ v = .agg (bytesV zs).toArray := by
  unfold Value.okWide at hval
  rw [ht] at hval
  obtain ⟨cs, rfl, hsz, _⟩ := hval
  rw [hc] at hsz
  obtain ⟨fuel, hf⟩ := h
  obtain ⟨xs, m, _, _, hl, hxl, hel⟩ := DataW.trod_array ht hf
  have c1 : Try.prog.cellsOf 5 = 1 := by kernel_rfl
  rw [c1] at hel
  have each : ∀ i, i < n → ∃ z : Int, cs[i]? = some (.int .u8 z) ∧ 0 ≤ z ∧ z < 256 := by
    intro i hi
    have h1 := hel i hi
    rw [List.getElem?_eq_getElem (by omega)] at h1
    obtain ⟨z, e0, _, wz⟩ := DataW.trod_int Try.underlying5 h1
    have hb := bounds_u8 wz
    refine ⟨z, ?_, by omega, by omega⟩
    have hcs : (Value.agg cs).cells.toList = cs.toList := by simp [Value.cells]
    rw [hcs, Nat.mul_one] at e0
    have hlt : i < cs.toList.length := by simp; omega
    rw [List.drop_eq_getElem_cons hlt] at e0
    simp at e0
    rw [Array.getElem?_eq_getElem (by omega), e0]
  obtain ⟨f, hfz⟩ := Go.Deep.choose_lt each
  refine ⟨(List.range n).map f, by simp, ?_, ?_⟩
  · intro z hz
    obtain ⟨i, hi, rfl⟩ := List.mem_map.1 hz
    exact (hfz i (List.mem_range.1 hi)).2
  · congr 1
    apply Array.ext'
    apply List.ext_getElem?
    intro i
    by_cases hi : i < n
    · have := (hfz i hi).1
      rw [← Array.getElem?_toList] at this
      rw [this]
      simp [bytesV, hi]
    · rw [List.getElem?_eq_none (by simp; omega), List.getElem?_eq_none (by simp [bytesV]; omega)]

theorem list4 {l : List Int} (h : l.length = 4) : ∃ a0 a1 a2 a3, l = [a0, a1, a2, a3] := by
  match l, h with
  | [a0, a1, a2, a3], _ => exact ⟨a0, a1, a2, a3, rfl⟩
theorem list16 {l : List Int} (h : l.length = 16) : ∃ a0 a1 a2 a3 a4 a5 a6 a7 a8 a9 a10 a11 a12 a13 a14 a15, l = [a0, a1, a2, a3, a4, a5, a6, a7, a8, a9, a10, a11, a12, a13, a14, a15] := by
  match l, h with
  | [a0, a1, a2, a3, a4, a5, a6, a7, a8, a9, a10, a11, a12, a13, a14, a15], _ => exact ⟨a0, a1, a2, a3, a4, a5, a6, a7, a8, a9, a10, a11, a12, a13, a14, a15, rfl⟩

theorem sumPseudo_open {H : Type} {enc : TypeId × Value → H} {W : World} {base : Nat} (v0 v1 v2 v3 v4 v5 : Value) {d0 d1 d2 d3 d4 d5 : DataW H} {p0 p1 p2 p3 p4 p5 : List MemPlace}
    (o0 : Value.okWide Try.prog W .any base 30 v0) (h0 : DataW.Trod enc Try.prog W 0 (fun _ => true) true 30 v0 d0 p0)
    (o1 : Value.okWide Try.prog W .any base 30 v1) (h1 : DataW.Trod enc Try.prog W 0 (fun _ => true) true 30 v1 d1 p1)
    (o2 : Value.okWide Try.prog W .any base 31 v2) (h2 : DataW.Trod enc Try.prog W 0 (fun _ => true) true 31 v2 d2 p2)
    (o3 : Value.okWide Try.prog W .any base 31 v3) (h3 : DataW.Trod enc Try.prog W 0 (fun _ => true) true 31 v3 d3 p3)
    (o4 : Value.okWide Try.prog W .any base 5 v4) (h4 : DataW.Trod enc Try.prog W 0 (fun _ => true) true 5 v4 d4 p4)
    (o5 : Value.okWide Try.prog W .any base 3 v5) (h5 : DataW.Trod enc Try.prog W 0 (fun _ => true) true 3 v5 d5 p5) :
    Calls Try.prog 4 #[v0, v1, v2, v3, v4, v5] W fun e w' => e = .returned (.bool true) ∧ Below W.heap.size W w' := by
  obtain ⟨za, la, fa, rfl⟩ := open_arr Try.underlying30 (by kernel_rfl) o0 h0
  obtain ⟨zb, lb, fb, rfl⟩ := open_arr Try.underlying30 (by kernel_rfl) o1 h1
  obtain ⟨zc, lc, fc, rfl⟩ := open_arr Try.underlying31 (by kernel_rfl) o2 h2
  obtain ⟨zd, ld, fd, rfl⟩ := open_arr Try.underlying31 (by kernel_rfl) o3 h3
  obtain ⟨p, rfl, _, _, wp⟩ := open_int Try.underlying5 o4 h4
  obtain ⟨n, rfl, _, _, _⟩ := open_int Try.underlying3 o5 h5
  have hp := bounds_u8 wp
  obtain ⟨a0, a1, a2, a3, rfl⟩ := list4 la
  obtain ⟨b0, b1, b2, b3, rfl⟩ := list4 lb
  obtain ⟨c0, c1, c2, c3, c4, c5, c6, c7, c8, c9, c10, c11, c12, c13, c14, c15, rfl⟩ := list16 lc
  obtain ⟨e0, e1, e2, e3, e4, e5, e6, e7, e8, e9, e10, e11, e12, e13, e14, e15, rfl⟩ := list16 ld
  exact sumPseudo_walk a0 a1 a2 a3 b0 b1 b2 b3 c0 c1 c2 c3 c4 c5 c6 c7 c8 c9 c10 c11 c12 c13 c14 c15 e0 e1 e2 e3 e4 e5 e6 e7 e8 e9 e10 e11 e12 e13 e14 e15 p n fa fb fc fd (by omega) W

end Go.Proofs.Ythibmoifjgpimaa
