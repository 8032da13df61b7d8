/-
  Same of package ipv6, of any two datagrams.
-/
import Derived.Test.YtbaeogoojpngbaaY1
import Derived.Test.YtbaeogoojpngbaaYo1
namespace Go.Proofs.Ytbaeogoojpngbaa
open Go Go.RowKit
set_option linter.unusedVariables false
set_option linter.unusedSimpArgs false

def adN (f : F6) : List Int := f.ad.map numOf
def same6 (f : F6) (g : G6) (hs : Opts) (body : List Int) (f' : F6) (g' : G6) (hs' : Opts) (body' : List Int) : Bool :=
  (f.cls == f'.cls) && (f.lab == f'.lab) && (f.hop == f'.hop) && decide ((adN f).take 16 = (adN f').take 16) && decide ((adN f).drop 16 = (adN f').drop 16) && hdsB hs hs' && (g.fr == g'.fr) && (g.id == g'.id) && (g.off == g'.off) && (g.more == g'.more) && (f.proto == f'.proto) && bodyB body body'
theorem numOf_u8L (A : List Int) : (u8L A).map numOf = A := by
  unfold u8L
  rw [List.map_map]
  exact (List.map_congr_left (fun _ _ => rfl)).trans (List.map_id A)
theorem adN_src {f : F6} {A : List Int} (h : f.ad.take 16 = u8L A) : (adN f).take 16 = A := by
  unfold adN
  rw [← List.map_take, h, numOf_u8L]
theorem adN_dst {f : F6} {A : List Int} (h : f.ad.drop 16 = u8L A) : (adN f).drop 16 = A := by
  unfold adN
  rw [← List.map_drop, h, numOf_u8L]
theorem eql_arr (zs ys : List Int) (h : Fit zs) (g : Fit ys) (hl : zs.length = 16) (gl : ys.length = 16) (w : World) : (binOp .eql 24 (.agg (u8L zs).toArray) (.agg (u8L ys).toArray)).run Try.prog w = .ok (.bool (decide (zs = ys))) w := by
  have := eq_arr16 9998 zs ys h g hl gl w
  unfold u8L
  simp only [binOp, Op.equal, Op.maxDepth]
  simp [this]
theorem hdsB_self (hs : Opts) : hdsB hs hs = true := hdsB_all rfl (fun j _ => by simp [hdB, bodyB])
theorem same6_self (f : F6) (g : G6) (hs : Opts) (body : List Int) : same6 f g hs body f g hs body = true := by
  unfold same6
  rw [hdsB_self]
  simp [bodyB]
section
variable {S S' : Nat → Prop} {w : World} {f f' : F6} {g g' : G6} {vh vb vh' vb' : Value} {hs hs' : Opts} {body body' : List Int}
set_option maxHeartbeats 8000000 in
set_option maxRecDepth 100000 in
theorem Same_any (hf : AdOk f) (hf' : AdOk f') (h : D6 S w f vh vb hs body) (h' : D6 S' w f' vh' vb' hs' body') :
    Calls Try.prog 20 #[VV f g vh vb, VV f' g' vh' vb'] w fun e w' => e = .returned (.bool (same6 f g hs body f' g' hs' body')) ∧ Below w.heap.size w w' := by
  obtain ⟨A, eA, fA, lA⟩ := hf.src
  obtain ⟨B, eB, fB, lB⟩ := hf.dst
  obtain ⟨A', eA', fA', lA'⟩ := hf'.src
  obtain ⟨B', eB', fB', lB'⟩ := hf'.dst
  obtain ⟨w2, hw2⟩ : ∃ w2, w2 = (w.alloc (BV f g vh vb)).alloc (BV f' g' vh' vb') := ⟨_, rfl⟩
  have hb1 : w2.heap[w.heap.size]? = some (BV f g vh vb) := by rw [hw2]; exact blk_alloc (blk_new w _) _
  have hb2 : w2.heap[w.heap.size + 1]? = some (BV f' g' vh' vb') := by
    have := blk_new (w.alloc (BV f g vh vb)) (BV f' g' vh' vb')
    rw [show (w.alloc (BV f g vh vb)).heap.size = w.heap.size + 1 by simp] at this
    rw [hw2]; exact this
  have hB : Below w.heap.size w w2 := by rw [hw2]; exact ((Below.refl w.heap.size w).alloc (Nat.le_refl _) _).alloc (by simp) _
  have hd := h.on hB
  have hd' := h'.on hB
  obtain ⟨_, _, ah, ch, rfl, _⟩ := h.hd
  obtain ⟨_, _, ah', ch', rfl, _⟩ := h'.hd
  obtain ⟨_, _, ab, cb, rfl, _⟩ := h.bd.row
  obtain ⟨_, _, ab', cb', rfl, _⟩ := h'.bd.row
  have p0 := vb0 hb1
  have q0 := vb0 hb2
  have p1 := vb1 hb1
  have q1 := vb1 hb2
  have p2 := vb2 hb1
  have q2 := vb2 hb2
  have p35 := vb35 hb1
  have q35 := vb35 hb2
  have HS1 : Hid _ := vb_src hb1
  have HS2 : Hid _ := vb_src hb2
  have HD1 : Hid _ := vb_dst hb1
  have HD2 : Hid _ := vb_dst hb2
  rw [eA] at HS1
  rw [eA'] at HS2
  rw [eB] at HD1
  rw [eB'] at HD2
  have HN1 : Hid _ := fun W => eql_arr A A' fA fA' lA lA' W
  have HN2 : Hid _ := fun W => eql_arr B B' fB fB' lB lB' W
  have HBX : Hid (w2.heap[w.heap.size]? = some (BV f g (.slice ah hs.length ch) (.slice ab body.length cb))) := hb1
  have HBY : Hid (w2.heap[w.heap.size + 1]? = some (BV f' g' (.slice ah' hs'.length ch') (.slice ab' body'.length cb'))) := hb2
  have HBB : Hid (Below w.heap.size w w2) := hB
  have hW := hw2.symm
  have HEF : Hid (Calls Try.prog 36 #[.slice ah hs.length ch, .slice ah' hs'.length ch', .func (.func 37) #[] #[]] w2 fun e w' => e = .returned (.bool (hdsB hs hs')) ∧ Below w2.heap.size w2 w') := EqualFunc_any hd.hd hd'.hd
  have HBD : Hid (∀ W, Below w2.heap.size w2 W → Calls Try.prog 38 #[.slice ab body.length cb, .slice ab' body'.length cb'] W fun e w' => e = .returned (.bool (bodyB body body')) ∧ w' = W) := fun W hW => Equal_here _ _ _ _ _ (hd.bd.on hW).bytes.text (hd'.bd.on hW).bytes.text
  unfold same6
  rw [adN_src eA, adN_src eA', adN_dst eB, adN_dst eB']
  generalize hx1 : (f.cls == f'.cls) = x1
  generalize hx2 : (f.lab == f'.lab) = x2
  generalize hx3 : (f.hop == f'.hop) = x3
  generalize decide (A = A') = x4 at *
  generalize decide (B = B') = x5 at *
  generalize hx7 : (g.fr == g'.fr) = x7
  generalize hx8 : (g.id == g'.id) = x8
  generalize hx9 : (g.off == g'.off) = x9
  generalize hx10 : (g.more == g'.more) = x10
  generalize hx11 : (f.proto == f'.proto) = x11
  generalize hdsB hs hs' = x6 at *
  generalize bodyB body body' = x12 at *
  generalize hr : (x1 && x2 && x3 && x4 && x5 && x6 && x7 && x8 && x9 && x10 && x11 && x12) = r
  have HR : Hid _ := hr
  clear hr hd hd' h h' hb1 hb2 hB fA fB lA lB eA eB hf fA' fB' lA' lB' eA' eB' hf' hw2
  generalize u8L A = UA at *
  generalize u8L B = UB at *
  generalize u8L A' = UA' at *
  generalize u8L B' = UB' at *
  go_enter Try.func20, Try.ntmps20
  simp only [List.append_eq, List.cons_append, List.nil_append]
  go_wp2_with first
    | ((with_reducible show wpList _ _ _ ({ dst := _, op := Op.load 24 (Operand.tmp 25), type := _, pos := _, after := _, guard := _ } :: _) _ _); refine arm_load rfl (.tmp 25) 24 rfl rfl HS1.out ?_)
    | ((with_reducible show wpList _ _ _ ({ dst := _, op := Op.load 24 (Operand.tmp 27), type := _, pos := _, after := _, guard := _ } :: _) _ _); refine arm_load rfl (.tmp 27) 24 rfl rfl HS2.out ?_)
    | ((with_reducible show wpList _ _ _ ({ dst := _, op := Op.load 24 (Operand.tmp 32), type := _, pos := _, after := _, guard := _ } :: _) _ _); refine arm_load rfl (.tmp 32) 24 rfl rfl HD1.out ?_)
    | ((with_reducible show wpList _ _ _ ({ dst := _, op := Op.load 24 (Operand.tmp 34), type := _, pos := _, after := _, guard := _ } :: _) _ _); refine arm_load rfl (.tmp 34) 24 rfl rfl HD2.out ?_)
    | ((with_reducible show wpList _ _ _ ({ dst := _, op := Op.binOp BinOp.eql 24 (Operand.tmp 26) (Operand.tmp 28) 24, type := _, pos := _, after := _, guard := _ } :: _) _ _); refine arm_bin rfl .eql 24 24 (.tmp 26) (.tmp 28) rfl rfl rfl (gd_arr _ _ _ _ _ _) (HN1.out _) ?_)
    | ((with_reducible show wpList _ _ _ ({ dst := _, op := Op.binOp BinOp.eql 24 (Operand.tmp 33) (Operand.tmp 35) 24, type := _, pos := _, after := _, guard := _ } :: _) _ _); refine arm_bin rfl .eql 24 24 (.tmp 33) (.tmp 35) rfl rfl rfl (gd_arr _ _ _ _ _ _) (HN2.out _) ?_)
  all_goals try (go_ret; refine ⟨congrArg (fun b => Ending.returned (.bool b)) ?_, HBB.out⟩; rw [← HR.out]; simp [*]; done)
  refine Calls.mono HEF.out ?_
  rintro e5 w5 ⟨rfl, hb5⟩
  have HB5 : Hid (Below w.heap.size w w5) := HBB.out.trans (hb5.mono HBB.out.size)
  have HE5 : Hid _ := HBD.out w5 hb5
  have hb1 := blk_on HBX.out hb5
  have hb2 := blk_on HBY.out hb5
  have p36 := vb36 hb1
  have q36 := vb36 hb2
  have p37 := vb37 hb1
  have q37 := vb37 hb2
  have p38 := vb38 hb1
  have q38 := vb38 hb2
  have p39 := vb39 hb1
  have q39 := vb39 hb2
  have p40 := vb40 hb1
  have q40 := vb40 hb2
  have p41 := vb41 hb1
  have q41 := vb41 hb2
  clear hb1 hb2 hb5 p0 q0 p1 q1 p2 q2 p35 q35 HS1 HS2 HD1 HD2 HN1 HN2 hW HEF HBD HBX HBY
  go_wp2_with fail
  all_goals try (go_ret; refine ⟨congrArg (fun b => Ending.returned (.bool b)) ?_, HB5.out⟩; rw [← HR.out]; simp [*]; done)
  refine Calls.mono HE5.out ?_
  rintro e6 w6 ⟨rfl, rfl⟩
  go_wp2
  all_goals try (go_ret; refine ⟨congrArg (fun b => Ending.returned (.bool b)) ?_, HB5.out⟩; rw [← HR.out]; simp [*]; done)
end

end Go.Proofs.Ytbaeogoojpngbaa
