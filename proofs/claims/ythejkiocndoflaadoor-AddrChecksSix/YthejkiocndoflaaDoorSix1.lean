/-
  IPv6 addresses and prefixes as one value each: loads, literals, equality.
-/
import Derived.Test.YthejkiocndoflaaDoorAgg
import Derived.Test.YthejkiocndoflaaDoorASetM
namespace Go.Proofs.YthejkiocndoflaaDoor
open Go Go.RowKit
set_option linter.unusedVariables false
set_option linter.unusedSimpArgs false

def u8s (l : List Int) : List Value := l.map (fun z => Value.int .u8 z)
abbrev A6 (l : List Int) : Value := .agg (u8s l).toArray
def cp6 (l : List Int) (n : Int) : List Value := u8s l ++ [Value.int .i64 n]
abbrev P6 (l : List Int) (n : Int) : Value := .agg (cp6 l n).toArray
theorem cp6_def (l : List Int) (n : Int) : cp6 l n = u8s l ++ [Value.int .i64 n] := rfl
theorem cp6_length (l : List Int) (n : Int) (h : l.length = 16) : (cp6 l n).length = 17 := by simp [cp6, u8s, h]
theorem u8s_length (l : List Int) : (u8s l).length = l.length := by simp [u8s]
theorem u8s_one (l : List Int) : ∀ v ∈ u8s l, v.oneCell' = true := by
  intro v hv
  obtain ⟨z, _, rfl⟩ := List.mem_map.1 hv
  rfl
theorem cp6_one (l : List Int) (n : Int) : ∀ v ∈ cp6 l n, v.oneCell' = true := by
  intro v hv
  rcases List.mem_append.1 hv with h | h
  · exact u8s_one l v h
  · simp at h
    subst h
    rfl
theorem six16 {l : List Int} (h : l.length = 16) : ∃ a0 a1 a2 a3 a4 a5 a6 a7 a8 a9 a10 a11 a12 a13 a14 a15, l = [a0, a1, a2, a3, a4, a5, a6, a7, a8, a9, a10, a11, a12, a13, a14, a15] := by
  match l, h with
  | [a0, a1, a2, a3, a4, a5, a6, a7, a8, a9, a10, a11, a12, a13, a14, a15], _ => exact ⟨a0, a1, a2, a3, a4, a5, a6, a7, a8, a9, a10, a11, a12, a13, a14, a15, rfl⟩

theorem build6 (l : List Int) (n : Int) (hl : l.length = 16) (w : World) : (Instr.build 40 #[(0, A6 l), (1, .int .i64 n)]).run Tryd.prog w = .ok (P6 l n) w := by
  obtain ⟨a0, a1, a2, a3, a4, a5, a6, a7, a8, a9, a10, a11, a12, a13, a14, a15, rfl⟩ := six16 hl
  exact run_build w _ _ _ (by kernel_rfl)

theorem load6 {w : World} {b o : Nat} {l : List Int} (hl : l.length = 16) (h : CellsAt w b o (u8s l)) : (Instr.loadAt 31 (.pointer (some ⟨b, o, none⟩))).run Tryd.prog w = .ok (A6 l) w :=
  agg_load Tryd.isAgg31 Tryd.sizeOf31 (by rw [u8s_length, hl]) h
theorem loadP6 {w : World} {b o : Nat} {l : List Int} {n : Int} (hl : l.length = 16) (h : CellsAt w b o (cp6 l n)) : (Instr.loadAt 40 (.pointer (some ⟨b, o, none⟩))).run Tryd.prog w = .ok (P6 l n) w :=
  agg_load Tryd.isAgg40 Tryd.sizeOf40 (cp6_length l n hl) h
theorem loadVarP6 {w : World} {b o : Nat} {l : List Int} {n : Int} (hl : l.length = 16) (h : CellsAt w b o (cp6 l n)) : (loadVar 40 ⟨b, o, none⟩).run Tryd.prog w = .ok (P6 l n) w :=
  agg_loadVar Tryd.isAgg40 Tryd.sizeOf40 (cp6_length l n hl) h

theorem eq_arr16 (d : Nat) (zs ys : List Int) (h : FitB zs) (g : FitB ys) (hl : zs.length = 16) (gl : ys.length = 16) (W : World) :
    (Op.equalIn (d + 2) 31 (A6 zs) (A6 ys)).run Tryd.prog W = .ok (decide (zs = ys)) W := by
  have := run_equalIn_bytes (P := Tryd.prog) W d 31 5 16 Tryd.underlying31 Tryd.underlying5 (fun w => by simp [go_sem]) (zs.map (fun z => UInt8.ofNat z.toNat)) (ys.map (fun z => UInt8.ofNat z.toNat)) (by simpa using hl) (by simpa using gl)
  rw [bytes_inj zs ys h g] at this
  have e1 := cells_back zs h
  have e2 := cells_back ys g
  unfold A6 u8s
  rw [← e1, ← e2]
  exact this

/-- A box for a prefix, and its two parts. -/
theorem CellsAt.pfx {w : World} {b : Nat} {l : List Int} {n : Int} {t : TypeId} (hl : l.length = 16) (h : w.heap[b]? = some (.cells (cp6 l n).toArray t)) : CellsAt w b 0 (cp6 l n) ∧ CellsAt w b 0 (u8s l) ∧ w.cell? ⟨b, 16, none⟩ = some (.int .i64 n) := by
  have h1 : CellsAt w b 0 (cp6 l n) := CellsAt.of_blk h
  refine ⟨h1, CellsAt.fst h1, ?_⟩
  have := h1 16 (.int .i64 n) (by have : (u8s l).length = 16 := by rw [u8s_length, hl]
                                  simp [cp6, this])
  simpa using this
theorem cp6_take (l : List Int) (n : Int) (hl : l.length = 16) : List.take 16 (cp6 l n) = u8s l := by
  have : (u8s l).length = 16 := by rw [u8s_length, hl]
  unfold cp6
  rw [List.take_append_of_le_length (by omega), List.take_of_length_le (by omega)]
theorem cp6_get (l : List Int) (n : Int) (hl : l.length = 16) : (cp6 l n)[16]? = some (Value.int .i64 n) := by
  have : (u8s l).length = 16 := by rw [u8s_length, hl]
  simp [cp6, this]
theorem cp6_fst (l : List Int) (n : Int) (hl : l.length = 16) : (cp6 l n).toArray.extract 0 16 = (u8s l).toArray := by
  have : (u8s l).length = 16 := by rw [u8s_length, hl]
  apply Array.ext'
  simp [cp6, this]
theorem cp6_snd (l : List Int) (n : Int) (hl : l.length = 16) : (cp6 l n).toArray[16]? = some (Value.int .i64 n) := by
  have : (u8s l).length = 16 := by rw [u8s_length, hl]
  simp [cp6, this]

set_option maxHeartbeats 1000000 in
set_option maxRecDepth 100000 in
theorem eqP6 (d : Nat) (zs ys : List Int) (n m : Int) (h : FitB zs) (g : FitB ys) (hl : zs.length = 16) (gl : ys.length = 16) (w : World) :
    (Op.equalIn (d + 3) 40 (P6 zs n) (P6 ys m)).run Tryd.prog w = .ok (decide (zs = ys) && (n == m)) w := by
  have h1 := eq_arr16 d zs ys h g hl gl
  have p1 := cp6_fst zs n hl
  have p2 := cp6_fst ys m gl
  have p3 := cp6_snd zs n hl
  have p4 := cp6_snd ys m gl
  have h2 : ∀ W, (Op.equalIn (d + 2) 3 (.int .i64 n) (.int .i64 m)).run Tryd.prog W = .ok (n == m) W := fun W => by simp [Op.equalIn, go_sem]
  unfold P6
  generalize (cp6 zs n).toArray = x at *
  generalize (cp6 ys m).toArray = y at *
  unfold A6 at h1
  generalize (u8s zs).toArray = u at *
  generalize (u8s ys).toArray = v at *
  have hstd : Tryd.prog.stoodInHeld 40 = false := by kernel_rfl
  show (Op.equalIn ((d + 2) + 1) _ _ _).run Tryd.prog w = _
  rw [Op.equalIn]
  generalize Op.equalIn (d + 2) = E at *
  generalize decide (zs = ys) = q at *
  generalize (n == m) = r at *
  cases q
  · simp [go_sem, hstd, p1, p2, p3, p4, h1, h2]
  · cases r <;> simp [go_sem, hstd, p1, p2, p3, p4, h1, h2]

theorem eqlP6 (zs ys : List Int) (n m : Int) (h : FitB zs) (g : FitB ys) (hl : zs.length = 16) (gl : ys.length = 16) (w : World) :
    (binOp .eql 40 (P6 zs n) (P6 ys m)).run Tryd.prog w = .ok (.bool (decide (zs = ys) && (n == m))) w := by
  have := eqP6 9997 zs ys n m h g hl gl w
  simp only [binOp, Op.equal, Op.maxDepth]
  simp [this]
theorem neqP6 (zs ys : List Int) (n m : Int) (h : FitB zs) (g : FitB ys) (hl : zs.length = 16) (gl : ys.length = 16) (w : World) :
    (binOp .neq 40 (P6 zs n) (P6 ys m)).run Tryd.prog w = .ok (.bool (!(decide (zs = ys) && (n == m)))) w := by
  have := eqP6 9997 zs ys n m h g hl gl w
  simp only [binOp, Op.equal, Op.maxDepth]
  simp [this]
theorem gdP6 (b : BinOp) (x y : Operand) (u v : Array Value) (w : World) : (eqGuard b 40 x y (.agg u) (.agg v)).run Tryd.prog w = .ok () w := by
  have he : Tryd.prog.eqGuardType Tryd.prog.depth 40 = false := by kernel_rfl
  cases b <;> simp [eqGuard, go_sem, he]

/-- A block for a prefix that is open. -/
structure Slot6 (w : World) (R : Nat) : Prop where
  open' : ∀ i, w.frozen? ⟨R, i, none⟩ = false
  some' : ∀ i, i < 17 → (w.cell? ⟨R, i, none⟩).isSome = true
theorem Slot6.zero {w : World} {R : Nat} (h : w.heap[R]? = some (Obj.cells #[.int .u8 0, .int .u8 0, .int .u8 0, .int .u8 0, .int .u8 0, .int .u8 0, .int .u8 0, .int .u8 0, .int .u8 0, .int .u8 0, .int .u8 0, .int .u8 0, .int .u8 0, .int .u8 0, .int .u8 0, .int .u8 0, .int .i64 0] 40)) : Slot6 w R :=
  ⟨fun i => by simp [World.frozen?, h], fun i hi => by simp [World.cell?, h, hi]⟩
theorem Slot6.put {w : World} {R : Nat} (h : Slot6 w R) (l : List Int) (n : Int) (hl : l.length = 16) :
    ∃ w3, (Instr.storeAt 40 (.pointer (some ⟨R, 0, none⟩)) (P6 l n)).run Tryd.prog w = .ok () w3 ∧ (loadVar 40 ⟨R, 0, none⟩).run Tryd.prog w3 = .ok (P6 l n) w3 ∧ (∀ B a, B ≤ R → Below B a w → Below B a w3) ∧ CellsAt w3 R 0 (cp6 l n) := by
  have hcs : CellsAt (w.setCells R 0 (cp6 l n)) R 0 (cp6 l n) := CellsAt.stored _ (fun j hj => by rw [cp6_length _ _ hl] at hj; simpa using h.some' j hj)
  refine ⟨w.setCells R 0 (cp6 l n), agg_store Tryd.sizeOf40 (cp6_length _ _ hl) (cp6_one _ _) (fun j hj => by rw [cp6_length _ _ hl] at hj; simpa using h.some' j hj) h.open', loadVarP6 hl hcs, fun B a hB hb => Below.sets hB _ 0 _ hb, hcs⟩
theorem zero6 : P6 (List.replicate 16 0) 0 = .agg #[.int .u8 0, .int .u8 0, .int .u8 0, .int .u8 0, .int .u8 0, .int .u8 0, .int .u8 0, .int .u8 0, .int .u8 0, .int .u8 0, .int .u8 0, .int .u8 0, .int .u8 0, .int .u8 0, .int .u8 0, .int .u8 0, .int .i64 0] := by kernel_rfl
theorem buildZ6 (w : World) : (Instr.build 40 #[]).run Tryd.prog w = .ok (P6 (List.replicate 16 0) 0) w := run_build w _ _ _ (by kernel_rfl)

end Go.Proofs.YthejkiocndoflaaDoor
