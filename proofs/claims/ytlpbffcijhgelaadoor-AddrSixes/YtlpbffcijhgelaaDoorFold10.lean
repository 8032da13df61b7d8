/-
  The statement AddrSixes for every argument.
  The statement AddrSixes for every argument: the walk.
-/
import Derived.Test.YtlpbffcijhgelaaDoorFold09
import Derived.Test.YtlpbffcijhgelaaDoorFold07
import Derived.Test.YtlpbffcijhgelaaDoorQa8
import Derived.Test.YtlpbffcijhgelaaDoorFold00
import Derived.Test.YtlpbffcijhgelaaDoorFold03
import Derived.Test.YtlpbffcijhgelaaDoorFold08
namespace Go.Proofs.YtlpbffcijhgelaaDoor
open Go Go.RowKit Go.ChangeShapes Go.WideShapes Go.ChangeAt
set_option linter.unusedVariables false
set_option linter.unusedSimpArgs false

theorem zero_fitF : FitB (List.replicate 16 0) := fun z hz => by rw [(List.mem_replicate.1 hz).2]; decide
theorem byK_eight {G : List Int} (h : G.length = 8) : byK G 8 = flat2 G := by
  unfold byK flat2
  rw [List.take_of_length_le (by omega)]
  simp
/-- The document's Parse6, of any text. -/
theorem RParse6_any (s : ByteArray) (hs : s.size ≤ 140737488355328) (w : World) : Calls Tryd.prog 19 #[.string s] w fun e w' => Par6Post (rparse6 (txt s)) w e w' := by
  have hrd := fun W => Read6_ref s W hs
  have hl := txt_length s
  have hfin := read6_fin (txt s) s.size 0 ⟨[], -1, []⟩ SixS.Fin.new
  have hle := read6_le (txt s) s.size 0 ⟨[], -1, []⟩
  cases hr : read6 (txt s) s.size 0 ⟨[], -1, []⟩ with
  | mk x n =>
    rw [hr] at hfin hle
    simp only at hfin hle
    unfold rparse6
    rw [hl, hr]
    simp only
    by_cases hn : n < s.size
    · rw [if_pos hn]
      exact Parse6_short s x n w hrd hr hn hs
    · rw [if_neg hn]
      have hn' : n = s.size := by omega
      have hwf := fun (W : World) (v : Value) (p : ByteArray) (base : Nat) (h1 : W.ownsRow base 3 1 v x.L.length (intsL x.L)) (h2 : txt p = x.part) => Whole6_any s v x p base W h1 h2 hfin
      cases hw : whole6 x with
      | none =>
        rw [hw] at hwf
        exact Parse6_half s x n w hrd hr hn' hwf hs
      | some G =>
        rw [hw] at hwf
        obtain ⟨h8, hz⟩ := whole_fin hfin hw
        have := Parse6_good s x G w hrd (by rw [hr, hn']) hwf h8 hz
        rw [byK_eight h8] at this
        exact this
theorem parse6_fit (l : List UInt8) : FitB (parse6 l).1 ∧ (parse6 l).1.length = 16 := by
  have h := read6_both l [] Grp.new ⟨[], -1, []⟩ (.inl S6.new) _ rfl
  have hb := parse6_both l
  have hfin := read6_fin (l.map toI) (l.map toI).length 0 ⟨[], -1, []⟩ SixS.Fin.new
  have e : (parse6 l).1 = (rparse6 (l.map toI)).1 := by rw [hb]
  rw [e]
  unfold rparse6
  simp only
  split
  · exact ⟨zero_fitF, rfl⟩
  · split
    · exact ⟨zero_fitF, rfl⟩
    · rename_i G hG
      obtain ⟨h8, hz⟩ := whole_fin hfin hG
      refine ⟨fun z hz' => ?_, by show (flat2 G).length = 16; rw [flat2_len]; omega⟩
      simp only [List.mem_flatten, List.mem_map] at hz'
      obtain ⟨_, ⟨y, hy, rfl⟩, hzy⟩ := hz'
      have := hz y hy
      simp at hzy
      rcases hzy with rfl | rfl <;> omega
/-- Both Parse6, of any text, say the same. -/
theorem parse6_all (s : ByteArray) (hs : s.size ≤ 140737488351232) : ∃ (L : List Int) (m e : Int), FitB L ∧ L.length = 16 ∧
    (∀ W, Calls Tryd.prog 18 #[.string s] W fun e' w' => e' = .returned (.tuple #[A6 L, .int .i64 m, .int .i64 e]) ∧ Below W.heap.size W w') ∧
    (∀ W, Calls Tryd.prog 19 #[.string s] W fun e' w' => e' = .returned (.tuple #[A6 L, .int .i64 m, .int .i64 e]) ∧ Below W.heap.size W w') := by
  obtain ⟨hf, hl⟩ := parse6_fit s.data.toList
  refine ⟨(parse6 s.data.toList).1, ((parse6 s.data.toList).2.1 : Int), (parse6 s.data.toList).2.2, hf, hl, fun W => ?_, fun W => ?_⟩
  · exact parse6_calls s (by omega) W
  · have h := RParse6_any s (by omega) W
    have e : rparse6 (txt s) = ((parse6 s.data.toList).1, ((parse6 s.data.toList).2.1 : Int), (parse6 s.data.toList).2.2) := parse6_both s.data.toList
    rw [e] at h
    exact h
end Go.Proofs.YtlpbffcijhgelaaDoor

namespace Go.Proofs.YtlpbffcijhgelaaDoor
open Go Go.RowKit Go.ChangeShapes Go.WideShapes Go.ChangeAt
set_option linter.unusedVariables false
set_option linter.unusedSimpArgs false

theorem CellsAt.blkF {w : World} {b : Nat} {c : List Value} {t : TypeId} (h : w.heap[b]? = some (.cells c.toArray t)) : CellsAt w b 0 c := fun j v hj => by
  rw [Nat.zero_add]
  exact blk_cell h hj
theorem armLF {P : Program} {w : World} {ops : Array Oper} {rest : List Oper} {o : Oper} {a : Act} {Q : Exit → Act → World → Prop} (p : Operand) (t : TypeId) (hop : o.op = Op.load t p) (hw : Region.wanted o (yielded ops a.tmps) = true) {vp v : Value} (hp : a.eval p = vp) (hrun : (Instr.loadAt t vp).run P w = .ok v w) (hK : wpList P ops Q rest (a.put o.dst v) w) : wpList P ops Q (o :: rest) a w :=
  arm_load hw p t hop hp hrun hK
theorem gdA6F (b : BinOp) (x y : Operand) (u v : Array Value) (w : World) : (eqGuard b 31 x y (.agg u) (.agg v)).run Tryd.prog w = .ok () w := by
  have he : Tryd.prog.eqGuardType Tryd.prog.depth 31 = false := by kernel_rfl
  cases b <;> simp [eqGuard, go_sem, he]
theorem eqlA6s (zs : List Int) (h : FitB zs) (hl : zs.length = 16) (w : World) : (binOp .eql 31 (A6 zs) (A6 zs)).run Tryd.prog w = .ok (.bool true) w := by
  have := eq_arr16 9998 zs zs h h hl hl w
  simp only [binOp, Op.equal, Op.maxDepth]
  simp [this]
set_option maxHeartbeats 1000000 in
set_option maxRecDepth 100000 in
theorem addrSixes_walk (s : ByteArray) (hs : s.size ≤ 140737488351232) (w : World) (tb : Tabs w ∧ Tz w) :
    Calls Tryd.prog 4 #[.string s] w fun e w' => e = .returned (.bool true) ∧ Below w.heap.size w w' := by
  obtain ⟨L, m, er, fL, lL, g1, g2⟩ := parse6_all s hs
  have H1 : Hid _ := g1
  have H2 : Hid _ := g2
  have HAW : Hid (∀ W, Below w.heap.size w W → Calls Tryd.prog 17 #[] W fun e w' => e = .returned (.bool true) ∧ Below W.heap.size W w') := fun W hW => Awake.on tb W hW
  clear g1 g2 tb
  go_enter Tryd.func4, Tryd.ntmps4
  go_wp2_with fail
  refine (H1.out _).mono ?_
  rintro e w2 ⟨rfl, hB2⟩
  obtain ⟨w3, hst3, hb3, hB3⟩ := box_new (ty := 31) (n := 16) (fun w => by kernel_rfl) w2 [.int .u8 0, .int .u8 0, .int .u8 0, .int .u8 0, .int .u8 0, .int .u8 0, .int .u8 0, .int .u8 0, .int .u8 0, .int .u8 0, .int .u8 0, .int .u8 0, .int .u8 0, .int .u8 0, .int .u8 0, .int .u8 0] rfl (u8s L) (by rw [u8s_length, lL]) (u8s_one L)
  have HS3 : Hid _ := hst3
  have hBw3 := hB2.trans (hB3.mono hB2.size)
  clear hst3 H1 hB2 hB3
  go_wp2_with ((with_reducible show wpList _ _ _ _ _ _); refine armS (.tmp 3) (.tmp 12) 31 rfl rfl rfl rfl HS3.out ?_)
  refine (H2.out _).mono ?_
  rintro e w4 ⟨rfl, hB4⟩
  have hb4 := (hB4.block _ (Array.getElem?_eq_some_iff.1 hb3).1).trans hb3
  have hBw4 := hBw3.trans (hB4.mono hBw3.size)
  obtain ⟨w5, hst5, hb5, hB5⟩ := box_new (ty := 31) (n := 16) (fun w => by kernel_rfl) w4 [.int .u8 0, .int .u8 0, .int .u8 0, .int .u8 0, .int .u8 0, .int .u8 0, .int .u8 0, .int .u8 0, .int .u8 0, .int .u8 0, .int .u8 0, .int .u8 0, .int .u8 0, .int .u8 0, .int .u8 0, .int .u8 0] rfl (u8s L) (by rw [u8s_length, lL]) (u8s_one L)
  have hb35 := (hB5.block _ (Array.getElem?_eq_some_iff.1 hb4).1).trans hb4
  have HS5 : Hid _ := hst5
  have HL5 : Hid _ := load6 lL (CellsAt.blkF hb5)
  have HL35 : Hid _ := load6 lL (CellsAt.blkF hb35)
  have HBX : Hid (Below w.heap.size w w5) := hBw4.trans (hB5.mono hBw4.size)
  have HEQ : Hid _ := eqlA6s L fL lL w5
  have e1 : (m == m) = true := beq_self_eq_true m
  have e2 : (er == er) = true := beq_self_eq_true er
  clear hst5 hb3 hBw3 hB4 hb4 hBw4 hb5 hB5 hb35 H2 HS3
  go_wp2_with first
    | ((with_reducible show wpList _ _ _ _ _ _); refine armS (.tmp 6) (.tmp 18) 31 rfl rfl rfl rfl HS5.out ?_)
    | ((with_reducible show wpList _ _ _ _ _ _); refine armLF (.tmp 6) 31 rfl rfl rfl HL5.out ?_)
    | ((with_reducible show wpList _ _ _ _ _ _); refine armLF (.tmp 3) 31 rfl rfl rfl HL35.out ?_)
    | ((with_reducible show wpList _ _ _ _ _ _); refine arm_bin rfl .eql 31 _ (.tmp 21) (.tmp 22) rfl rfl rfl (gdA6F _ _ _ _ _ _) HEQ.out ?_)
  refine Calls.mono (HAW.out _ HBX.out) ?_
  rintro e w6 ⟨rfl, hB6⟩
  have HBE : Hid (Below w.heap.size w w6) := HBX.out.trans (hB6.mono HBX.out.size)
  clear hB6
  go_wp2
  go_ret
  exact ⟨rfl, HBE.out⟩

set_option maxRecDepth 100000 in
theorem addrSixes_open {H : Type} {enc : TypeId × Value → H} {W : World} {base : Nat} (tb : Tabs W ∧ Tz W) (v0 : Value) {d0 : DataW H} {p0 : List MemPlace}
    (o0 : Value.okWide Tryd.prog W .any base 9 v0) (h0 : DataW.Trod enc Tryd.prog W 0 (fun _ => true) true 9 v0 d0 p0) (z0 : ∀ k ∈ d0.weights Tryd.prog 9, k ≤ reachBytes) :
    Calls Tryd.prog 4 #[v0] W fun e w' => e = .returned (.bool true) ∧ Below W.heap.size W w' := by
  obtain ⟨s, rfl, hs⟩ := open_text o0 h0 z0
  exact addrSixes_walk s hs W tb
end Go.Proofs.YtlpbffcijhgelaaDoor
