/-
  The document's Same of an IPv6 datagram and one that has the same fields.
-/
import Derived.Test.YtbaeogoojpngbaaY0
import Derived.Stop.BytesEq
import Derived.BigQuiet
namespace Go.Proofs.Ytbaeogoojpngbaa
open Go Go.RowKit
set_option linter.unusedVariables false
set_option linter.unusedSimpArgs false

theorem eq_arr16 (d : Nat) (zs ys : List Int) (h : Fit zs) (g : Fit ys) (hl : zs.length = 16) (gl : ys.length = 16) (W : World) :
    (Op.equalIn (d + 2) 24 (.agg (zs.map (fun z => Value.int .u8 z)).toArray) (.agg (ys.map (fun z => Value.int .u8 z)).toArray)).run Try.prog W = .ok (decide (zs = ys)) W := by
  have := run_equalIn_bytes (P := Try.prog) W d 24 5 16 Try.underlying24 Try.underlying5 (fun w => by simp [go_sem]) (zs.map (fun z => UInt8.ofNat z.toNat)) (ys.map (fun z => UInt8.ofNat z.toNat)) (by simpa using hl) (by simpa using gl)
  rw [bytes_inj zs ys h g] at this
  have e1 := cells_back zs h
  have e2 := cells_back ys g
  rw [← e1, ← e2]
  exact this
theorem neq_arr (zs ys : List Int) (h : Fit zs) (g : Fit ys) (hl : zs.length = 16) (gl : ys.length = 16) (w : World) : (binOp .neq 24 (.agg (u8L zs).toArray) (.agg (u8L ys).toArray)).run Try.prog w = .ok (.bool (!(decide (zs = ys)))) w := by
  have := eq_arr16 9998 zs ys h g hl gl w
  unfold u8L
  simp only [binOp, Op.equal, Op.maxDepth]
  simp [this]
theorem gd_arr (b : BinOp) (x y : Operand) (u v : Array Value) (w : World) : (eqGuard b 24 x y (.agg u) (.agg v)).run Try.prog w = .ok () w := by
  have he : Try.prog.eqGuardType Try.prog.depth 24 = false := by kernel_rfl
  cases b <;> simp [eqGuard, go_sem, he]
/-- Both addresses are bytes. -/
def AdOk (f : F6) : Prop := ∃ A, f.ad = u8L A ∧ Fit A
section
variable {W : World} {b : Nat} {f : F6} {g : G6} {vh vb : Value}
theorem vb0 (h : W.heap[b]? = some (BV f g vh vb)) : W.cell? ⟨b, 0, none⟩ = some (.int .u8 f.cls) := blk_cell h rfl
theorem vb1 (h : W.heap[b]? = some (BV f g vh vb)) : W.cell? ⟨b, 1, none⟩ = some (.int .u32 f.lab) := blk_cell h rfl
theorem vb2 (h : W.heap[b]? = some (BV f g vh vb)) : W.cell? ⟨b, 2, none⟩ = some (.int .u8 f.hop) := blk_cell h rfl
theorem vb40 (h : W.heap[b]? = some (BV f g vh vb)) : W.cell? ⟨b, 40, none⟩ = some (.int .u8 f.proto) := blk_cell h (vC_at 5)
theorem vC_parts : vC f g vh vb = [.int .u8 f.cls, .int .u32 f.lab, .int .u8 f.hop] ++ (f.ad.take 16 ++ (f.ad.drop 16 ++ [vh, .bool g.fr, .int .u32 g.id, .int .i64 g.off, .bool g.more, .int .u8 f.proto, vb])) := by
  unfold vC
  have e : f.ad.take 16 ++ (f.ad.drop 16 ++ [vh, .bool g.fr, .int .u32 g.id, .int .i64 g.off, .bool g.more, .int .u8 f.proto, vb]) = f.ad ++ [vh, .bool g.fr, .int .u32 g.id, .int .i64 g.off, .bool g.more, .int .u8 f.proto, vb] := by
    rw [← List.append_assoc, List.take_append_drop]
  rw [e]
  rfl
theorem vb_src (h : W.heap[b]? = some (BV f g vh vb)) : (Instr.loadAt 24 (.pointer (some ⟨b, 3, none⟩))).run Try.prog W = .ok (.agg (f.ad.take 16).toArray) W := by
  have c := CellsAt.of_blk h
  rw [List.toList_toArray, vC_parts] at c
  exact agg_load Try.isAgg24 Try.sizeOf24 (by rw [List.length_take, f.len]; rfl) (CellsAt.part c)
theorem vb_dst (h : W.heap[b]? = some (BV f g vh vb)) : (Instr.loadAt 24 (.pointer (some ⟨b, 19, none⟩))).run Try.prog W = .ok (.agg (f.ad.drop 16).toArray) W := by
  have c := CellsAt.of_blk h
  rw [List.toList_toArray, vC_parts, ← List.append_assoc] at c
  have c2 := CellsAt.part c
  rw [show ([Value.int .u8 f.cls, .int .u32 f.lab, .int .u8 f.hop] ++ f.ad.take 16).length = 19 by rw [List.length_append, List.length_take, f.len]; rfl] at c2
  exact agg_load Try.isAgg24 Try.sizeOf24 (by rw [List.length_drop, f.len]) c2
theorem AdOk.src (h : AdOk f) : ∃ A, f.ad.take 16 = u8L A ∧ Fit A ∧ A.length = 16 := by
  obtain ⟨A, e, hf⟩ := h
  have hl : A.length = 32 := by have := f.len; rw [e] at this; simpa [u8L] using this
  exact ⟨A.take 16, by rw [e]; simp [u8L, List.map_take], fun z hz => hf z (List.mem_of_mem_take hz), by rw [List.length_take]; omega⟩
theorem AdOk.dst (h : AdOk f) : ∃ A, f.ad.drop 16 = u8L A ∧ Fit A ∧ A.length = 16 := by
  obtain ⟨A, e, hf⟩ := h
  have hl : A.length = 32 := by have := f.len; rw [e] at this; simpa [u8L] using this
  exact ⟨A.drop 16, by rw [e]; simp [u8L, List.map_drop], fun z hz => hf z (List.mem_of_mem_drop hz), by rw [List.length_drop]; omega⟩
end
/-- A head in its row, in every world above. -/
theorem HS.nth {S : Nat → Prop} {w : World} {a : Option Addr} {cap : Nat} {hs : Opts} (h : HS S w (.slice a hs.length cap) hs) {k : Nat} (hk : k < hs.length) :
    ∃ b off a1 c1, a = some ⟨b, off, none⟩ ∧ ∀ W, Below w.heap.size w W → W.cell? ⟨b, off + k * 2, none⟩ = some (.int .u8 (oK hs k)) ∧ W.cell? ⟨b, off + k * 2 + 1, none⟩ = some (.slice a1 (oD hs k).length c1) ∧ (convert 26 9 (.slice a1 (oD hs k).length c1)).run Try.prog W = .ok (.string (strOfNums (oD hs k))) W := by
  obtain ⟨h1, h2, a', cap', e, hz⟩ := h
  injection e with e _ _
  subst e
  rcases hz with hz | ⟨b, off, rfl, hlt, hS, hc⟩
  · omega
  obtain ⟨c0, s, c1, hb⟩ := hc k hk
  obtain ⟨_, _, a1, k1, rfl, _⟩ := hb.row
  refine ⟨b, off, a1, k1, rfl, fun W hW => ⟨?_, ?_, (hb.on hW).bytes.text⟩⟩
  · rw [← c0]; exact hW.cell hlt
  · rw [← c1]; exact hW.cell hlt
section
variable {S S' : Nat → Prop} {w : World} {f : F6} {g : G6} {vh vb vh' vb' : Value} {hs : Opts} {body : List Int}
set_option maxHeartbeats 4000000 in
set_option maxRecDepth 100000 in
theorem RSame_eq (hf : AdOk f) (h : D6 S w f vh vb hs body) (h' : D6 S' w f vh' vb' hs body) :
    Calls Try.prog 19 #[VV f g vh vb, VV f g vh' vb'] w fun e w' => e = .returned (.bool true) ∧ Below w.heap.size w w' := by
  obtain ⟨A, eA, fA, lA⟩ := hf.src
  obtain ⟨B, eB, fB, lB⟩ := hf.dst
  obtain ⟨w2, hw2⟩ : ∃ w2, w2 = (w.alloc (BV f g vh vb)).alloc (BV f g vh' vb') := ⟨_, rfl⟩
  have hb1 : w2.heap[w.heap.size]? = some (BV f g vh vb) := by rw [hw2]; exact blk_alloc (blk_new w _) _
  have hb2 : w2.heap[w.heap.size + 1]? = some (BV f g vh' vb') := by
    have := blk_new (w.alloc (BV f g vh vb)) (BV f g vh' vb')
    rw [show (w.alloc (BV f g vh vb)).heap.size = w.heap.size + 1 by simp] at this
    rw [hw2]; exact this
  have hB : Below w.heap.size w w2 := by rw [hw2]; exact ((Below.refl w.heap.size w).alloc (Nat.le_refl _) _).alloc (by simp) _
  have hd := h.on hB
  have hd' := h'.on hB
  obtain ⟨_, _, ah, ch, rfl, _⟩ := h.hd
  obtain ⟨_, _, ah', ch', rfl, _⟩ := h'.hd
  obtain ⟨_, _, ab, cb, rfl, _⟩ := h.bd.row
  obtain ⟨_, _, ab', cb', rfl, _⟩ := h'.bd.row
  have p0 := vb0 hb1
  have q0 := vb0 hb2
  have p1 := vb1 hb1
  have q1 := vb1 hb2
  have p2 := vb2 hb1
  have q2 := vb2 hb2
  have p35 := vb35 hb1
  have q35 := vb35 hb2
  have p36 := vb36 hb1
  have q36 := vb36 hb2
  have p37 := vb37 hb1
  have q37 := vb37 hb2
  have p38 := vb38 hb1
  have q38 := vb38 hb2
  have p39 := vb39 hb1
  have q39 := vb39 hb2
  have p40 := vb40 hb1
  have q40 := vb40 hb2
  have p41 := vb41 hb1
  have q41 := vb41 hb2
  have t1 := hd.bd.row.bytes.text
  have t2 := hd'.bd.row.bytes.text
  have HS1 : Hid _ := vb_src hb1
  have HS2 : Hid _ := vb_src hb2
  have HD1 : Hid _ := vb_dst hb1
  have HD2 : Hid _ := vb_dst hb2
  rw [eA] at HS1 HS2
  rw [eB] at HD1 HD2
  have HN1 : Hid (∀ W, (binOp .neq 24 (.agg (u8L A).toArray) (.agg (u8L A).toArray)).run Try.prog W = .ok (.bool false) W) := fun W => by
    have := neq_arr A A fA fA lA lA W
    simpa using this
  have HN2 : Hid (∀ W, (binOp .neq 24 (.agg (u8L B).toArray) (.agg (u8L B).toArray)).run Try.prog W = .ok (.bool false) W) := fun W => by
    have := neq_arr B B fB fB lB lB W
    simpa using this
  have HA : Hid (HS S w2 (.slice ah hs.length ch) hs) := hd.hd
  have HA' : Hid (HS S' w2 (.slice ah' hs.length ch') hs) := hd'.hd
  have HBX : Hid (w2.heap[w.heap.size]? = some (BV f g (.slice ah hs.length ch) (.slice ab body.length cb))) := hb1
  have HBY : Hid (w2.heap[w.heap.size + 1]? = some (BV f g (.slice ah' hs.length ch') (.slice ab' body.length cb'))) := hb2
  have HBB : Hid (Below w.heap.size w w2) := hB
  have hlh := hd.hd.len
  have hW := hw2.symm
  clear hd hd' h h' hb1 hb2 hB fA fB lA lB eA eB hf hw2
  generalize strOfNums body = T at *
  generalize u8L A = UA at *
  generalize u8L B = UB at *
  go_enter Try.func19, Try.ntmps19
  simp only [List.append_eq, List.cons_append, List.nil_append]
  go_wp2_with first
    | ((with_reducible show wpList _ _ _ ({ dst := _, op := Op.load 24 (Operand.tmp 26), type := _, pos := _, after := _, guard := _ } :: _) _ _); refine arm_load rfl (.tmp 26) 24 rfl rfl HS1.out ?_)
    | ((with_reducible show wpList _ _ _ ({ dst := _, op := Op.load 24 (Operand.tmp 28), type := _, pos := _, after := _, guard := _ } :: _) _ _); refine arm_load rfl (.tmp 28) 24 rfl rfl HS2.out ?_)
    | ((with_reducible show wpList _ _ _ ({ dst := _, op := Op.load 24 (Operand.tmp 33), type := _, pos := _, after := _, guard := _ } :: _) _ _); refine arm_load rfl (.tmp 33) 24 rfl rfl HD1.out ?_)
    | ((with_reducible show wpList _ _ _ ({ dst := _, op := Op.load 24 (Operand.tmp 35), type := _, pos := _, after := _, guard := _ } :: _) _ _); refine arm_load rfl (.tmp 35) 24 rfl rfl HD2.out ?_)
    | ((with_reducible show wpList _ _ _ ({ dst := _, op := Op.binOp BinOp.neq 24 (Operand.tmp 27) (Operand.tmp 29) 24, type := _, pos := _, after := _, guard := _ } :: _) _ _); refine arm_bin rfl .neq 24 24 (.tmp 27) (.tmp 29) rfl rfl rfl (gd_arr _ _ _ _ _ _) (HN1.out _) ?_)
    | ((with_reducible show wpList _ _ _ ({ dst := _, op := Op.binOp BinOp.neq 24 (Operand.tmp 34) (Operand.tmp 36) 24, type := _, pos := _, after := _, guard := _ } :: _) _ _); refine arm_bin rfl .neq 24 24 (.tmp 34) (.tmp 36) rfl rfl rfl (gd_arr _ _ _ _ _ _) (HN2.out _) ?_)
  clear p0 q0 p1 q1 p2 q2 p36 q36 p37 q37 p38 q38 p39 q39 p40 q40 p41 q41 t1 t2 HS1 HS2 HD1 HD2 HN1 HN2 hW
  obtain ⟨N, hN⟩ : ∃ N, hs.length = N := ⟨_, rfl⟩
  have HNN : Hid _ := hN
  rw [hN] at hlh p35 q35
  clear hN
  go_loopw [5] (fun i wr => ∃ k : Nat, k ≤ N ∧ i = .int .i64 k ∧ Below w2.heap.size w2 wr) (fun i _ => N - (intOf i).toNat)
  case atStart => exact ⟨0, Nat.zero_le _, rfl, Below.refl _ _⟩
  case round =>
    obtain ⟨k, hk, rfl, hBw⟩ := hrel
    have HBW : Hid (Below w2.heap.size w2 wr) := hBw
    have r35 : wr.cell? ⟨w.heap.size, 35, none⟩ = some (.slice ah N ch) := by have := vb35 (blk_on HBX.out hBw); rw [HNN.out] at this; exact this
    clear p35 q35
    by_cases hlt : k < N
    · have hki : (k : Int) < (N : Int) := by omega
      obtain ⟨b1, o1, a1, c1, ea, hat1⟩ := HA.out.nth (k := k) (by rw [HNN.out]; exact hlt)
      obtain ⟨b2, o2, a2, c2, eb, hat2⟩ := HA'.out.nth (k := k) (by rw [HNN.out]; exact hlt)
      subst ea eb
      have hup : ∀ x : Hi wr, Below w2.heap.size w2 x.W := fun x => hBw.trans (x.below.mono hBw.size)
      have s1 : ∀ x : Hi wr, x.W.cell? ⟨w.heap.size, 35, none⟩ = some (.slice (some ⟨b1, o1, none⟩) N ch) := fun x => by have := vb35 (blk_on HBX.out (hup x)); rw [HNN.out] at this; exact this
      have s2 : ∀ x : Hi wr, x.W.cell? ⟨w.heap.size + 1, 35, none⟩ = some (.slice (some ⟨b2, o2, none⟩) N ch') := fun x => by have := vb35 (blk_on HBY.out (hup x)); rw [HNN.out] at this; exact this
      have k1 : ∀ x : Hi wr, x.W.cell? ⟨b1, o1 + k * 2, none⟩ = some (.int .u8 (oK hs k)) := fun x => (hat1 _ (hup x)).1
      have k2 : ∀ x : Hi wr, x.W.cell? ⟨b2, o2 + k * 2, none⟩ = some (.int .u8 (oK hs k)) := fun x => (hat2 _ (hup x)).1
      have d1 : ∀ x : Hi wr, x.W.cell? ⟨b1, o1 + k * 2 + 1, none⟩ = some (.slice a1 (oD hs k).length c1) := fun x => (hat1 _ (hup x)).2.1
      have d2 : ∀ x : Hi wr, x.W.cell? ⟨b2, o2 + k * 2 + 1, none⟩ = some (.slice a2 (oD hs k).length c2) := fun x => (hat2 _ (hup x)).2.1
      have x1 : ∀ x : Hi wr, (convert 26 9 (.slice a1 (oD hs k).length c1)).run Try.prog x.W = .ok (.string (strOfNums (oD hs k))) x.W := fun x => (hat1 _ (hup x)).2.2
      have x2 : ∀ x : Hi wr, (convert 26 9 (.slice a2 (oD hs k).length c2)).run Try.prog x.W = .ok (.string (strOfNums (oD hs k))) x.W := fun x => (hat2 _ (hup x)).2.2
      have HUP : Hid _ := hup
      clear hat1 hat2 hup hBw
      generalize strOfNums (oD hs k) = T1 at *
      generalize oK hs k = K1 at *
      generalize (oD hs k).length = D1 at *
      go_wp2_with fail
      refine wp_region_hi (by kernel_rfl) (by kernel_rfl) ?_
      repeat (first | go_big_quiet_skip | (go_big_quiet_want; go_big_quiet_op; first | go_big_quiet_on | go_big_quiet_call (fail)))
      refine wpQuiet_nil ?_
      intro _ hw
      obtain ⟨y, rfl⟩ := hw
      clear s1 s2 k1 k2 d1 d2 x1 x2
      go_wp2
      exact ⟨⟨k + 1, by omega, by simp, HUP.out y⟩, by simp [intOf]; omega⟩
    · obtain rfl : k = N := by omega
      clear hBw
      go_wp2
      go_ret
      exact ⟨rfl, HBB.out.trans (HBW.out.mono HBB.out.size)⟩
end

end Go.Proofs.Ytbaeogoojpngbaa
