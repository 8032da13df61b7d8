/-
  What edges own, plainly; the statement MappingApart for every argument.
-/
import Derived.Test.YtloadmpappjceaaDoorMg1
import Derived.Test.YtloadmpappjceaaDoorMf2
namespace Go.Proofs.YtloadmpappjceaaDoor
open Go Go.RowKit Go.ChangeShapes Go.WideShapes Go.ChangeAt
set_option linter.unusedVariables false
set_option linter.unusedSimpArgs false

section
variable {r : Ru} {a b d h q o v : Nat}
theorem edg_set (hok : r.Ok) (v : Nat) : setOk (edg r v).o (edg r v).l (edg r v).p := by
  obtain ⟨a, b, d, h, q, o, hn⟩ := hok.nums
  have hp := hn.psid
  have ho := hn.off
  unfold edg pidV
  rw [hn.eq, hn.eo, Int.toNat_natCast]
  have hm := Nat.mod_lt v (Nat.two_pow_pos q)
  have e : (2 : Int) ^ q = ((2 ^ q : Nat) : Int) := by rw [Int.natCast_pow]; rfl
  by_cases c : (0 : Int) < (q : Int)
  · simp only [if_pos c]
    exact ⟨⟨by omega, by omega, by omega, by omega⟩, by rw [Int.toNat_natCast, e]; omega⟩
  · simp only [if_neg c]
    exact ⟨⟨by omega, by omega, by omega, by omega⟩, by rw [Int.toNat_natCast, e]; omega⟩
theorem edg_in (hok : r.Ok) (v : Nat) : (edg r v).In := by
  have hf := edg_fit hok v
  obtain ⟨a, b, d, h, q, o, hn⟩ := hok.nums
  have hs := edg_set hok v
  have hp := hn.psid
  have hl := hn.len
  have hr := hn.room
  have hm := Nat.mod_lt v (Nat.two_pow_pos q)
  have h16 := pow16 (l := q) (by omega)
  have e4 : (edg r v).n4 = ((d + h : Nat) : Int) := by unfold edg; rw [hn.e4, hn.eh]; simp
  have e6 : (edg r v).n6 = ((a + b : Nat) : Int) := by unfold edg; rw [hn.e6, hn.eb]; simp
  have ep : (edg r v).p = ((v % 2 ^ q : Nat) : Int) := by unfold edg pidV; rw [hn.eq, Int.toNat_natCast]
  exact ⟨hf.f4, hf.k4, ⟨by rw [e4]; omega, by rw [e4]; omega⟩, ⟨by have := hs.1.1; omega, by have := hs.1.2.1; omega⟩, ⟨by have := hs.1.2.2.1; omega, by have := hs.1.2.2.2; have := hs.1.1; omega⟩, ⟨by rw [ep]; omega, by rw [ep]; omega⟩, hf.f6, hf.k6, ⟨by rw [e6]; omega, by rw [e6]; omega⟩, hf.fw, hf.kw⟩
theorem edg_ok4 (hok : r.Ok) (v : Nat) : okP4L (edg r v).l4 (edg r v).n4 = true := by
  obtain ⟨a, b, d, h, q, o, hn⟩ := hok.nums
  exact v4_ok hok hn
theorem edg_ok6 (hok : r.Ok) (v : Nat) : okP6 (edg r v).l6 (edg r v).n6 = true := by
  obtain ⟨a, b, d, h, q, o, hn⟩ := hok.nums
  exact end_ok hok hn
theorem owns_ok (hok : r.Ok) (v : Nat) (y : List Int) (n : Nat) : ownsE (edg r v) y n = .tuple #[.bool (ownsB (edg r v) y n), .int .i64 0] := by
  unfold ownsE
  rw [if_pos (edg_ok4 hok v), if_pos (edg_set hok v)]
theorem owns_iff (hok : r.Ok) (hn : Nums r a b d h q o) (hv : v < 2 ^ b) {y : List Int} (yf : FitB y) (yl : y.length = 4) (n : Nat) :
    ownsB (edg r v) y n = true ↔ (blR r.n4 y = r.l4 ∧ accN y d h = v / 2 ^ q ∧ (0 < q → isOnes o n ∧ pidN o q n = v % 2 ^ q)) := by
  have h1 := v4_has hok hn hv yf yl
  have e1 : hasL (edg r v).l4 (edg r v).n4 y = decide (blR (r.n4 + hB r) y = v4L r v) := rfl
  have hs := edg_set hok v
  have el : (edg r v).l = (q : Int) := by unfold edg; rw [hn.eq]
  have ep : (edg r v).p = ((v % 2 ^ q : Nat) : Int) := by unfold edg pidV; rw [hn.eq, Int.toNat_natCast]
  unfold ownsB
  rw [e1, Bool.and_eq_true, decide_eq_true_eq, h1, and_assoc]
  refine and_congr_right fun _ => and_congr_right fun _ => ?_
  rw [Bool.or_eq_true, hasP, decide_eq_true hs, Bool.true_and, decide_eq_true_eq, el, ep, Int.toNat_natCast, Int.toNat_natCast, beq_iff_eq]
  by_cases c : 0 < q
  · have eo : (edg r v).o = (o : Int) := by unfold edg; rw [hn.eq, hn.eo]; exact if_pos (by omega)
    rw [eo, Int.toNat_natCast]
    exact ⟨fun k _ => k.elim (fun z => by omega) id, fun k => .inr (k c)⟩
  · exact ⟨fun _ z => absurd z c, fun _ => .inl (by omega)⟩
theorem split_eq {v u q : Nat} (h1 : v / 2 ^ q = u / 2 ^ q) (h2 : v % 2 ^ q = u % 2 ^ q) : v = u := by
  rw [← Nat.div_add_mod v (2 ^ q), ← Nat.div_add_mod u (2 ^ q), h1, h2]
theorem owns_one (hok : r.Ok) {v u : Nat} (hv : v < 2 ^ r.ea.toNat) (hu : u < 2 ^ r.ea.toNat) (hne : v ≠ u) {y : List Int} (yf : FitB y) (yl : y.length = 4) (n : Nat) : (ownsB (edg r v) y n && ownsB (edg r u) y n) = false := by
  obtain ⟨a, b, d, h, q, o, hn⟩ := hok.nums
  rw [hn.eb, Int.toNat_natCast] at hv hu
  rw [Bool.and_eq_false_iff]
  by_cases c : ownsB (edg r v) y n = true
  · by_cases c2 : ownsB (edg r u) y n = true
    · obtain ⟨_, e1, e2⟩ := (owns_iff hok hn hv yf yl n).1 c
      obtain ⟨_, f1, f2⟩ := (owns_iff hok hn hu yf yl n).1 c2
      refine absurd (split_eq (q := q) (e1.symm.trans f1) ?_) hne
      by_cases cq : 0 < q
      · exact (e2 cq).2.symm.trans (f2 cq).2
      · obtain rfl : q = 0 := by omega
        omega
    · exact .inr (by simpa using c2)
  · exact .inl (by simpa using c)
theorem end_one (hok : r.Ok) {v u : Nat} (hv : v < 2 ^ r.ea.toNat) (hu : u < 2 ^ r.ea.toNat) (hne : v ≠ u) {x : List Int} (xf : FitB x) (xl : x.length = 16) : (has6 (edg r v).l6 (edg r v).n6 x && has6 (edg r u).l6 (edg r u).n6 x) = false := by
  obtain ⟨a, b, d, h, q, o, hn⟩ := hok.nums
  rw [hn.eb, Int.toNat_natCast] at hv hu
  have e1 : has6 (edg r v).l6 (edg r v).n6 x = decide (blR (r.n6 + r.ea) x = endL r v) := rfl
  have e2 : has6 (edg r u).l6 (edg r u).n6 x = decide (blR (r.n6 + r.ea) x = endL r u) := rfl
  rw [e1, e2, Bool.and_eq_false_iff, decide_eq_false_iff_not, decide_eq_false_iff_not]
  by_cases c : blR (r.n6 + r.ea) x = endL r v
  · refine .inr fun c2 => hne ?_
    rw [← ((end_has hok hn hv xf xl).1 c).2, ← ((end_has hok hn hu xf xl).1 c2).2]
  · exact .inl c
theorem own_one (hok : r.Ok) {v u : Nat} (hv : v < 2 ^ r.ea.toNat) (hu : u < 2 ^ r.ea.toNat) (hne : v ≠ u) : ownL r v ≠ ownL r u := by
  obtain ⟨a, b, d, h, q, o, hn⟩ := hok.nums
  rw [hn.eb, Int.toNat_natCast] at hv hu
  intro e
  refine hne ?_
  rw [← (own_has hok hn hv).2, ← (own_has hok hn hu).2, e]
end

theorem open_a4 {H : Type} {enc : TypeId × Value → H} {W : World} {v : Value} {d : DataW H} {p : List MemPlace} (h : DataW.Trod enc Tryd.prog W 0 (fun _ => true) true 27 v d p) : ∃ y : List Int, v = A4L y ∧ FitB y ∧ y.length = 4 := by
  obtain ⟨fuel, hf⟩ := h
  obtain ⟨zs, hl, hcs, hfit⟩ := cells_arr Tryd.underlying27 (by kernel_rfl) (by kernel_rfl) hf
  exact ⟨zs, agg_of hcs (by rw [b8_length, hl]; omega), hfit, hl⟩
theorem open_a6 {H : Type} {enc : TypeId × Value → H} {W : World} {v : Value} {d : DataW H} {p : List MemPlace} (h : DataW.Trod enc Tryd.prog W 0 (fun _ => true) true 23 v d p) : ∃ y : List Int, v = .agg (b8 y).toArray ∧ FitB y ∧ y.length = 16 := by
  obtain ⟨fuel, hf⟩ := h
  obtain ⟨zs, hl, hcs, hfit⟩ := cells_arr Tryd.underlying23 (by kernel_rfl) (by kernel_rfl) hf
  exact ⟨zs, agg_of hcs (by rw [b8_length, hl]; omega), hfit, hl⟩
abbrev XO (x : List Int) : Obj := .cells (b8 x).toArray 23
theorem three_box (w : World) (o1 o2 o3 : Obj) : (((w.alloc o1).alloc o2).alloc o3).heap[w.heap.size]? = some o1 ∧ (((w.alloc o1).alloc o2).alloc o3).heap[w.heap.size + 1]? = some o2 ∧ (((w.alloc o1).alloc o2).alloc o3).heap[w.heap.size + 2]? = some o3 ∧ Below w.heap.size w (((w.alloc o1).alloc o2).alloc o3) := by
  obtain ⟨h1, h2, hB⟩ := two_box' w o1 o2
  have hz : ((w.alloc o1).alloc o2).heap.size = w.heap.size + 2 := by simp
  have h3 := blk_new ((w.alloc o1).alloc o2) o3
  rw [hz] at h3
  exact ⟨blk_alloc h1 _, blk_alloc h2 _, h3, hB.trans ((bA _ o3).mono hB.size)⟩
theorem neqA6 (zs ys : List Int) (h : FitB zs) (g : FitB ys) (hl : zs.length = 16) (gl : ys.length = 16) (w : World) : (binOp .neq 23 (A6 zs) (A6 ys)).run Tryd.prog w = .ok (.bool (!(decide (zs = ys)))) w := by
  have := eq_arr16 9998 zs ys h g hl gl w
  simp only [binOp, Op.equal, Op.maxDepth]
  simp [this]
theorem eqlA6 (zs ys : List Int) (h : FitB zs) (g : FitB ys) (hl : zs.length = 16) (gl : ys.length = 16) (w : World) : (binOp .eql 23 (A6 zs) (A6 ys)).run Tryd.prog w = .ok (.bool (decide (zs = ys))) w := by
  have := eq_arr16 9998 zs ys h g hl gl w
  simp only [binOp, Op.equal, Op.maxDepth]
  simp [this]
theorem gdA6 (b : BinOp) (x y : Operand) (u v : Array Value) (w : World) : (eqGuard b 23 x y (.agg u) (.agg v)).run Tryd.prog w = .ok () w := by
  have he : Tryd.prog.eqGuardType Tryd.prog.depth 23 = false := by kernel_rfl
  cases b <;> simp [eqGuard, go_sem, he]
theorem edg_of {r : Ru} {v : Nat} {g : Int} {e : Ed} (hr : r.In) (h : edgE r v = .tuple #[EV e, .int .i64 g]) (hg : g = 0) : r.Ok ∧ v < 2 ^ r.ea.toNat ∧ EV e = EV (edg r v) := by
  unfold edgE at h
  by_cases c : ckE r = 0
  · rw [if_pos c] at h
    by_cases c2 : v < 2 ^ r.ea.toNat
    · rw [if_pos c2] at h
      simp at h
      exact ⟨Ru.ok_of hr c, c2, by rw [EV, EV, h.1]⟩
    · rw [if_neg c2] at h
      simp at h
      omega
  · rw [if_neg c] at h
    simp at h
    omega

end Go.Proofs.YtloadmpappjceaaDoor
