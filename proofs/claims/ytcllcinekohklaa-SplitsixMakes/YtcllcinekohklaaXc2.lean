/-
  Fragments, plainly; the memory of the iterator; its short ways.
-/
import Derived.Test.YtcllcinekohklaaXc1
import Derived.Test.YtcllcinekohklaaXb2
namespace Go.Proofs.Ytcllcinekohklaa
open Go Go.RowKit Go.Shelf
set_option linter.unusedVariables false
set_option linter.unusedSimpArgs false
attribute [local go_sem] Oper.semAt_some

/-- A fragment. -/
structure FG where
  g : G6
  body : List Int
def frs (sp nn : Nat) (g : G6) : Nat → Int → List Int → List FG × Option Int
  | 0, off, b => ([⟨{ g with off := off }, b⟩], none)
  | n + 1, off, b => if b.length ≤ sp then ([⟨{ g with off := off }, b⟩], none) else if off + (nn / 8 : Nat) ≤ 8191 then (⟨{ g with off := off, more := true }, b.take nn⟩ :: (frs sp nn g n (off + (nn / 8 : Nat)) (b.drop nn)).1, (frs sp nn g n (off + (nn / 8 : Nat)) (b.drop nn)).2) else ([⟨{ g with off := off, more := true }, b.take nn⟩], some 5)
theorem frs_fits {sp nn : Nat} {g : G6} {n : Nat} {off : Int} {b : List Int} (h : b.length ≤ sp) : frs sp nn g n off b = ([⟨{ g with off := off }, b⟩], none) := by
  cases n with
  | zero => rfl
  | succ n => rw [frs, if_pos h]
theorem frs_step {sp nn : Nat} {g : G6} {n : Nat} {off : Int} {b : List Int} (h : ¬ b.length ≤ sp) (h8 : 8 ≤ nn) (hn : b.length ≤ n) (ho : off + (nn / 8 : Nat) ≤ 8191) :
    ∃ n', (b.drop nn).length ≤ n' ∧ (frs sp nn g n off b).1 = ⟨{ g with off := off, more := true }, b.take nn⟩ :: (frs sp nn g n' (off + (nn / 8 : Nat)) (b.drop nn)).1 ∧ (frs sp nn g n off b).2 = (frs sp nn g n' (off + (nn / 8 : Nat)) (b.drop nn)).2 := by
  cases n with
  | zero => omega
  | succ n => exact ⟨n, by rw [List.length_drop]; omega, by rw [frs, if_neg h, if_pos ho], by rw [frs, if_neg h, if_pos ho]⟩
theorem frs_far {sp nn : Nat} {g : G6} {n : Nat} {off : Int} {b : List Int} (h : ¬ b.length ≤ sp) (hn : b.length ≤ n) (ho : ¬ off + (nn / 8 : Nat) ≤ 8191) : frs sp nn g n off b = ([⟨{ g with off := off, more := true }, b.take nn⟩], some 5) := by
  cases n with
  | zero => omega
  | succ n => rw [frs, if_neg h, if_neg ho]
/-- What is yielded. -/
def FragX (f : F6) (vh : Value) (hs : Opts) (L : List FG) (k : Nat) (x : Value) (O : Nat → Prop) (A : World) : Prop :=
  ∃ fg sb, L[k]? = some fg ∧ x = VV f fg.g vh sb ∧ D6 (fun b => ¬ O b) A f vh sb hs fg.body
def bodyLen (W : World) (b : Nat) : Nat := match W.cell? ⟨b, 41, none⟩ with | some v => lenV v | none => 0
theorem bodyLen_of {W : World} {b : Nat} {f : F6} {g : G6} {vh vb : Value} (h : W.heap[b]? = some (BV f g vh vb)) : bodyLen W b = lenV vb := by rw [bodyLen, vb41 h]
theorem ex_addI {o : Oper} {a : Act} {W : World} (p q : Operand) {t : TypeId} (hop : o.op = Op.binOp .add 3 p q t) {x y : Int} (hp : a.eval p = .int .i64 x) (hq : a.eval q = .int .i64 y) (h : -9223372036854775808 ≤ x + y ∧ x + y ≤ 9223372036854775807) : (execOp a.eval o).run Try.prog W = .ok (.value (.int .i64 (x + y))) W := by
  have e2 := wrapi64 (x + y) (by omega)
  generalize a.eval = ev at *
  simp [execOp, hop, hp, hq, go_sem, e2]

/-- The memory of the iterator, between two rounds. -/
structure ItM (f : F6) (vh : Value) (hs : Opts) (R : Nat → Prop) (w W : World) (lb : Nat) (O : Nat → Prop) (g : G6) (b : List Int) (sb : Value) (A : World) : Prop where
  own : ∀ c, O c → ¬ R c ∧ c < A.heap.size
  rd : ∀ c, R c → A.heap[c]? = w.heap[c]?
  size : W.heap.size ≤ A.heap.size
  lo : W.heap.size ≤ lb
  nl : ¬ O lb
  box : A.heap[lb]? = some (BV f g vh sb)
  dd : D6 R A f vh sb hs b
section
variable {f : F6} {vh : Value} {hs : Opts} {R : Nat → Prop} {w W : World} {lb : Nat} {O : Nat → Prop} {g g' : G6} {b b' : List Int} {sb sb' : Value} {A B : World}
theorem ItM.on (h : ItM f vh hs R w W lb O g b sb A) (hw : w.heap.size ≤ W.heap.size) (hR : ∀ c, R c → c < w.heap.size) (hb : Below A.heap.size A B) : ItM f vh hs R w W lb O g b sb B :=
  ⟨fun c hc => ⟨(h.own c hc).1, Nat.lt_of_lt_of_le (h.own c hc).2 hb.size⟩, fun c hc => (hb.block c (Nat.lt_of_lt_of_le (hR c hc) (Nat.le_trans hw h.size))).trans (h.rd c hc), Nat.le_trans h.size hb.size, h.lo, h.nl, blk_on h.box hb, h.dd.on hb⟩
theorem ItM.round {O' : Nat → Prop} (h : ItM f vh hs R w W lb O g b sb A) (hw : w.heap.size ≤ W.heap.size) (hR : ∀ c, R c → c < w.heap.size) (hs' : Sep O A B) (hO : ∀ c, O' c → c < B.heap.size ∧ (O c ∨ A.heap.size ≤ c)) : ItM f vh hs R w W lb O' g b sb B := by
  have hRA : ∀ c, R c → c < A.heap.size := fun c hc => Nat.lt_of_lt_of_le (hR c hc) (Nat.le_trans hw h.size)
  have hRO : ∀ c, R c → ¬ O c := fun c hc ho => (h.own c ho).1 hc
  have hlb := (Array.getElem?_eq_some_iff.1 h.box).1
  refine ⟨fun c hc => ⟨fun hr => ?_, (hO c hc).1⟩, fun c hc => (hs'.same c (hRA c hc) (hRO c hc)).trans (h.rd c hc), Nat.le_trans h.size hs'.size, h.lo, fun ho => ?_, hs'.blk h.box h.nl, h.dd.sep hs' hRO⟩
  · rcases (hO c hc).2 with h4 | h4
    · exact (h.own c h4).1 hr
    · have := hRA c hr; omega
  · rcases (hO lb ho).2 with h4 | h4
    · exact h.nl h4
    · omega
theorem ItM.put (h : ItM f vh hs R w W lb O g b sb A) (hw : w.heap.size ≤ W.heap.size) (hR : ∀ c, R c → c < w.heap.size) (ho : Only lb A B) (hb : B.heap[lb]? = some (BV f g' vh sb')) (h2 : BS R A sb' b') : ItM f vh hs R w W lb O g' b' sb' B := by
  have hlo := h.lo
  have hs' : Sep (fun c => c = lb) A B := Sep.of_only ho rfl
  have hne : ∀ c, R c → ¬ c = lb := fun c hc e => by have := hR c hc; omega
  exact ⟨fun c hc => ⟨(h.own c hc).1, by rw [ho.size]; exact (h.own c hc).2⟩, fun c hc => (ho.other c (hne c hc)).trans (h.rd c hc), by rw [ho.size]; exact h.size, h.lo, h.nl, hb, ⟨h.dd.hd.sep hs' hne, h2.sep hs' hne, h.dd.lab⟩⟩
theorem ItM.frag (h : ItM f vh hs R w W lb O g b sb A) (hz : BS R A sb' b') : D6 (fun c => ¬ O c) A f vh sb' hs b' :=
  ⟨h.dd.hd.mono (fun c _ hc ho => (h.own c ho).1 hc), hz.mono (fun c _ hc ho => (h.own c ho).1 hc), h.dd.lab⟩
end
/-- What an iterator value finds where it was made. -/
structure ItW (f : F6) (g : G6) (vh vb : Value) (hs : Opts) (body : List Int) (mtu id : Int) (pv pm pi : Nat) (R : Nat → Prop) (w : World) : Prop where
  v : w.heap[pv]? = some (BV f g vh vb)
  m : w.heap[pm]? = some (.cells [.int .i64 mtu].toArray 3)
  i : w.heap[pi]? = some (.cells [.int .u32 id].toArray 22)
  rl : ∀ c, R c → c < w.heap.size
  rv : R pv
  rm : R pm
  ri : R pi
  dd : D6 R w f vh vb hs body
theorem ItW.on {f : F6} {g : G6} {vh vb : Value} {hs : Opts} {body : List Int} {mtu id : Int} {pv pm pi : Nat} {R : Nat → Prop} {w W : World} (h : ItW f g vh vb hs body mtu id pv pm pi R w) (hs' : w.heap.size ≤ W.heap.size) (hW : ∀ b, R b → W.heap[b]? = w.heap[b]?) : ItW f g vh vb hs body mtu id pv pm pi R W :=
  ⟨(hW _ h.rv).trans h.v, (hW _ h.rm).trans h.m, (hW _ h.ri).trans h.i, fun c hc => Nat.lt_of_lt_of_le (h.rl c hc) hs', h.rv, h.rm, h.ri, h.dd.same hs' hW⟩
theorem ItW.up {f : F6} {g : G6} {vh vb : Value} {hs : Opts} {body : List Int} {mtu id : Int} {pv pm pi : Nat} {R : Nat → Prop} {w W : World} (h : ItW f g vh vb hs body mtu id pv pm pi R w) (hb : Below w.heap.size w W) : ItW f g vh vb hs body mtu id pv pm pi R W :=
  h.on hb.size (fun b hR => hb.block b (h.rl b hR))

section
variable {f : F6} {g : G6} {vh vb : Value} {hs : Opts} {body : List Int} {mtu id : Int} {pv pm pi : Nat} {R : Nat → Prop} {w : World} (h : ItW f g vh vb hs body mtu id pv pm pi R w)
include h
set_option maxRecDepth 100000 in
set_option maxHeartbeats 4000000 in
theorem gives_no (he : fitE f hs g body.length mtu ≠ 0) (L : List FG) (hL : L = []) :
    GivesP Try.prog 44 #[.pointer (some ⟨pv, 0, none⟩), .pointer (some ⟨pm, 0, none⟩), .pointer (some ⟨pi, 0, none⟩)] L.length (FragX f vh hs L) R w (some (fitE f hs g body.length mtu)) := by
  subst hL
  intro l J W O hWw hWR hO hJ hY h0 n
  refine callsIn_wide.2 ((callsIn_wide (n := 9)).1 ?_)
  have hW := h.on hWw hWR
  have HL : Hid _ := vb_load hW.v
  have km := blk_cell hW.m (j := 0) rfl
  have HC : Hid _ := fits_no g mtu hW.dd he
  have HJ : Hid (∀ B, Below W.heap.size W B → J 0 O B) := fun B hB => hJ 0 O W B h0 (Sep.of_below hB)
  clear hW h hO hJ hY h0 hWR he
  generalize fitE f hs g body.length mtu = er at *
  refine callsIn_of_wp Try.func44 rfl trivial ?_ rfl
  simp only [Try.ntmps44, List.size_toArray, List.length_cons, List.length_nil, Nat.reduceAdd, Nat.reduceSub, Array.replicate_succ, Array.replicate_zero, List.push_toArray, List.append_toArray, List.nil_append, List.cons_append]
  gi_wp2_with ((with_reducible show wpListIn _ _ _ _ _ _ _ _); refine armLI (.tmp 1) 28 rfl rfl rfl HL.out ?_)
  refine ⟨trivial, (callsIn_wide.2 HC.out).mono ?_⟩
  rintro e w2 ⟨rfl, hb2⟩
  exact ⟨rfl, rfl, O, HJ.out _ hb2⟩
set_option maxRecDepth 100000 in
set_option maxHeartbeats 4000000 in
theorem gives_fits (he : fitE f hs g body.length mtu = 0) (hf : fitB hs g body.length mtu = true) (L : List FG) (hL : L = [⟨g, body⟩]) :
    GivesP Try.prog 44 #[.pointer (some ⟨pv, 0, none⟩), .pointer (some ⟨pm, 0, none⟩), .pointer (some ⟨pi, 0, none⟩)] L.length (FragX f vh hs L) R w none := by
  subst hL
  intro l J W O hWw hWR hO hJ hY h0 n
  refine callsIn_wide.2 ((callsIn_wide (n := 9)).1 ?_)
  have hW := h.on hWw hWR
  have HL : Hid _ := vb_load hW.v
  have km := blk_cell hW.m (j := 0) rfl
  have hC := fits_yes g mtu hW.dd he
  rw [hf] at hC
  have HC : Hid _ := hC
  have HJ : Hid (∀ B, Below W.heap.size W B → J 0 O B) := fun B hB => hJ 0 O W B h0 (Sep.of_below hB)
  have HW : Hid _ := hW
  have HO : Hid _ := hO
  have HY : Hid _ := hY
  clear hW h hO hJ hY h0 hWR he hC hf
  refine callsIn_of_wp Try.func44 rfl trivial ?_ rfl
  simp only [Try.ntmps44, List.size_toArray, List.length_cons, List.length_nil, Nat.reduceAdd, Nat.reduceSub, Array.replicate_succ, Array.replicate_zero, List.push_toArray, List.append_toArray, List.nil_append, List.cons_append]
  gi_wp2_with ((with_reducible show wpListIn _ _ _ _ _ _ _ _); refine armLI (.tmp 1) 28 rfl rfl rfl HL.out ?_)
  refine ⟨trivial, (callsIn_wide.2 HC.out).mono ?_⟩
  rintro e w2 ⟨rfl, hb2⟩
  have hW2 := HW.out.up hb2
  have HL2 : Hid _ := vb_load hW2.v
  have hX : FragX f vh hs [⟨g, body⟩] 0 (VV f g vh vb) O w2 := ⟨_, vb, rfl, rfl, hW2.dd.mono (fun c _ hc ho => (HO.out c ho).1 hc)⟩
  have hyk := HY.out 0 _ w2 O (by simp) hb2.size (fun c hc => ⟨(HO.out c hc).1, Nat.lt_of_lt_of_le (HO.out c hc).2 hb2.size⟩) hX (HJ.out _ hb2) (9 - 1)
  obtain ⟨fn, tmps, assign, bodyc, hy, hR⟩ := hyk
  have HRR : Hid _ := hR
  clear hW2 hX hR hb2 HC HL
  gi_wp2_with ((with_reducible show wpListIn _ _ _ _ _ _ _ _); refine armLI (.tmp 1) 28 rfl rfl rfl HL2.out ?_)
  refine RoundIn.mono HRR.out ?_
  rintro e W3 ⟨O', hsep, hO', rfl, hj5⟩
  clear hy HRR hsep hO'
  have HJ5 : Hid _ := hj5
  clear hj5
  gi_wp2_with fail
  refine bodyPost_ret (results_none rfl _ _ _) rfl ?_
  exact ⟨⟨_, rfl⟩, O', HJ5.out⟩
end

end Go.Proofs.Ytcllcinekohklaa
