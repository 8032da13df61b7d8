/-
  The contracts of the document's answer for Fold, and of package sum's Good.
  Memory in general: rows of bytes of one's own, boxes, what an operation leaves alone, regions that draw, arguments.
  bytes.Clone, bytes.Equal; the document's Of; four bytes as an argument.
-/
import Derived.Test.YtpgnnplpcalbbaaGreatFold04
import Derived.Test.YtpgnnplpcalbbaaGreatFold00
import Derived.Handy
import Derived.Laws.BitsAllLaws
import Derived.OwnWalk
import Derived.Deep.RegionLaw
import Derived.OpenShut
import Derived.ChangeArms
import Derived.ProofKit
import Derived.SizedLaws
import Derived.Stop.BytesEq
import Derived.OrdersHeld
import Derived.Lib.SliceRun
set_option linter.unusedVariables false
set_option linter.unusedSimpArgs false
namespace Go.Proofs.YtpgnnplpcalbbaaGreat
open Go Go.RowKit Go.Shelf
def bytesV (zs : List Int) : List Value := zs.map (fun z => .int .u8 z)
theorem bytesV_one (zs : List Int) : ∀ u ∈ bytesV zs, u.oneCell' = true := by
  intro u hu
  obtain ⟨z, _, rfl⟩ := List.mem_map.1 hu
  rfl
theorem bytesV_length (zs : List Int) : (bytesV zs).length = zs.length := by simp [bytesV]
/-- A slice of bytes behind a row of bytes of the call's own. -/
theorem own_bytes_more {w w0 : World} {base n : Nat} {v : Value} {xs : List Value} (hown : w.ownsRow base 5 1 v n xs) (hbase : base ≤ w.heap.size) {a : Option Addr} {m c : Nat} {zs : List Int} (hb : BytesAt w0.heap.size w (.slice a m c) zs) (hn : n + m ≤ 1000000) (ty : TypeId) :
    ∃ v' w', (Builtin.append_ #[25, 25] ty #[v, .slice a m c]).run Tryz.prog w = .ok v' w' ∧ w'.ownsRow base 5 1 v' (n + m) (xs ++ bytesV zs) ∧ w.grownBy w' v.ownBlock := by
  obtain ⟨_, _, a', c', e, hz⟩ := hb
  cases e
  have hnone : a = none → zs.length = 0 := fun e => by
    rcases hz with hz | ⟨b, off, hz, _⟩
    · exact hz
    · rw [e] at hz; cases hz
  obtain ⟨v', w', h1, h2, h3, _⟩ := own_append elem_u8 (c := c) hown a (bytesV zs) (bytesV_length zs) hnone (fun x hx j u hj => by
      rcases hz with hz | ⟨b, off, hz, _, hc⟩
      · have := (List.getElem?_eq_some_iff.1 hj).1; rw [bytesV_length] at this; omega
      · rw [hx] at hz
        cases hz
        have hjl := (List.getElem?_eq_some_iff.1 hj).1
        rw [bytesV_length] at hjl
        rw [Go.WideShapes.add_plain, hc j hjl]
        rw [bytesV, List.getElem?_map] at hj
        obtain ⟨z, hz, rfl⟩ := Option.map_eq_some_iff.1 hj
        rw [hz]; rfl) (bytesV_one zs) (by unfold maxLen; omega) (by omega) hbase ty
  exact ⟨v', w', h1, h2, h3⟩
theorem pre_le (ps : List (List Int)) (k : Nat) : pre ps k ≤ ps.flatten.length := by
  have : ps.flatten = (ps.take k).flatten ++ (ps.drop k).flatten := by rw [← List.flatten_append, List.take_append_drop]
  rw [this, List.length_append]; unfold pre; omega
theorem flat_snoc (ps : List (List Int)) (k : Nat) (h : k < ps.length) : bytesV (ps.take (k + 1)).flatten = bytesV (ps.take k).flatten ++ bytesV (ps[k]?.getD []) := by
  rw [List.take_succ_eq_append_getElem h, List.flatten_append, bytesV, List.map_append]
  simp [bytesV, h]
set_option maxHeartbeats 1000000 in
theorem row_ref (a : Option Addr) (n cap : Nat) (ps : List (List Int)) (w : World) (hp : PartsAt w.heap.size w (.slice a n cap) ps) (hl : ps.flatten.length ≤ 100000) :
    Calls Tryz.prog 165 #[.slice a n cap] w fun e w' => ∃ v, e = .returned v ∧ w'.ownsRow w.heap.size 5 1 v ps.flatten.length (bytesV ps.flatten) ∧ Below w.heap.size w w' := by
  obtain ⟨hn, a, cap, e, hz⟩ := hp
  cases e
  go_enter Tryz.func165, Tryz.ntmps165
  go_wp2
  go_loopw [3, 4] (fun v i wr => ∃ k : Nat, k ≤ ps.length ∧ i = .int .i64 k ∧ wr.ownsRow w.heap.size 5 1 v (pre ps k) (bytesV (ps.take k).flatten) ∧ Below w.heap.size w wr) (fun _ i _ => ps.length - (intOf i).toNat)
  case atStart => exact ⟨0, Nat.zero_le _, rfl, World.ownsRow_nil _ _ _ _, Below.refl _ _⟩
  case round =>
    obtain ⟨k, hk, rfl, hown, hB⟩ := hrel
    have hsz := hB.size
    by_cases hlt : k < ps.length
    · rcases hz with hz | ⟨b, off, rfl, hb, hc⟩
      · omega
      obtain ⟨u, hu, hbu⟩ := hc k hlt
      have hu' := (hB.cell (p := ⟨b, off + k, none⟩) hb).trans hu
      have hbu' := hbu.below hB
      have hpk := pre_succ ps k hlt
      have hpl := pre_le ps (k + 1)
      have hsn := flat_snoc ps k hlt
      have hform := hbu.val
      obtain ⟨a2, cap2, rfl, _⟩ := hform
      obtain ⟨v', w1, hrun, hown', hgrow⟩ := own_bytes_more hown hsz hbu' (by omega) 25
      rw [← hpk, ← hsn] at hown'
      clear hc hu hbu hbu' hpk hpl hsn
      have H0 : Hid _ := hrun
      clear hrun
      generalize (ps[k]?.getD []).length = m at *
      go_wp2_with (at_builtin; refine wpList_append_run rfl _ _ _ _ rfl rfl rfl H0.out ?_; clear H0)
      exact ⟨⟨k + 1, by omega, by simp, hown', hB.grown hgrow hsz (fun j hj => (hown.lt j hj).1)⟩, by simp [intOf]; omega⟩
    · obtain rfl : k = ps.length := by omega
      go_wp2
      go_ret
      rw [pre_all, List.take_length] at hown
      exact ⟨_, rfl, hown, hB⟩
set_option maxHeartbeats 400000 in
theorem fold_ref (a : Option Addr) (n cap : Nat) (ps : List (List Int)) (w : World) (hp : PartsAt w.heap.size w (.slice a n cap) ps) (hl : ps.flatten.length ≤ 100000) :
    Calls Tryz.prog 85 #[.slice a n cap] w fun e w' => e = .returned (.int .u16 (sumW 0 (wordsL ps.flatten))) ∧ Below w.heap.size w w' := by
  have hf := hp.fit
  have hw := wordsL_words hf
  have hr := sumW_range _ 0 (by decide) hw
  have hwl : (wordsL ps.flatten).length ≤ 1000000 := by rw [wordsL_length]; omega
  have hrow := calls_hide (row_ref a n cap ps w hp hl)
  clear hp
  generalize ps.flatten = f at *
  go_enter Tryz.func85, Tryz.ntmps85
  go_wp2_with fail
  refine (calls_show hrow).mono ?_
  rintro e w1 ⟨v, rfl, hv, hB1⟩
  have hby := own_bytes hv hf (by omega)
  obtain ⟨a1, c1, rfl, _⟩ := hby.val
  go_wp2_with fail
  refine (words_ref a1 _ c1 f w1 hby (by omega)).mono ?_
  rintro e w2 ⟨v2, rfl, hv2, hB2⟩
  go_wp2_with fail
  refine (added_calls _ v2 _ hw w2 hwl hv2).mono ?_
  rintro e w3 ⟨rfl, rfl⟩
  clear hwl hw hf hl
  generalize ht : sumW 0 (wordsL f) = t at *
  have HT : Hid _ := ht
  clear ht
  go_wp2
  go_ret
  exact ⟨by rw [HT.out]; rfl, hB1.trans (hB2.mono hB1.size)⟩
theorem Held.flat {w : World} {us : List Value} {ps : List (List Int)} (h : Held w us ps) (hn : us.length ≤ 20) : ps.flatten.length ≤ 60000 := by
  have h1 : ∀ z ∈ ps, z.length ≤ 3000 := by
    intro z hz
    obtain ⟨j, hj, rfl⟩ := List.getElem_of_mem hz
    have hl := h.len
    have := (h.each j us[j] (by simp)).2
    simpa [hj] using this
  have h2 : ∀ (l : List (List Int)), (∀ z ∈ l, z.length ≤ 3000) → l.flatten.length ≤ l.length * 3000 := by
    intro l
    induction l with
    | nil => simp
    | cons z l ih =>
      intro hz
      have h3 := hz z (by simp)
      have h4 := ih (fun y hy => hz y (by simp [hy]))
      simp only [List.flatten_cons, List.length_append, List.length_cons]
      omega
  have h5 := h2 ps h1
  have h6 := h.len
  have : ps.length * 3000 ≤ 20 * 3000 := Nat.mul_le_mul_right _ (by omega)
  omega
end Go.Proofs.YtpgnnplpcalbbaaGreat
namespace Go.Proofs.YtpgnnplpcalbbaaGreat
open Go Go.RowKit Go.ChangeShapes Go.WideShapes Go.ChangeAt
/-- Bytes that begin block b, which is open. -/
structure OwnG (w : World) (b : Nat) (zs : List Int) : Prop where
  typed : ∃ cs t, w.heap[b]? = some (.cells cs t (0, 0))
  cell : ∀ j, j < zs.length → w.cell? ⟨b, j, none⟩ = some (.int .u8 (zs[j]?.getD 0))
theorem OwnG.open {b : Nat} {w : World} {zs : List Int} (h : OwnG w b zs) (i : Nat) : w.frozen? ⟨b, i, none⟩ = false := by
  obtain ⟨cs, t, hc⟩ := h.typed
  simp [World.frozen?, hc]
theorem OwnG.set {b : Nat} {w : World} {zs : List Int} (h : OwnG w b zs) (j : Nat) (hj : j < zs.length) (z : Int) : OwnG (w.setCell ⟨b, j, none⟩ (.int .u8 z)) b (zs.set j z) := by
  refine ⟨?_, fun i hi => ?_⟩
  · obtain ⟨cs, t, hc⟩ := h.typed
    exact ⟨cs.setIfInBounds j (.int .u8 z), t, by simp [World.setCell, Array.getElem?_modify, hc]⟩
  · by_cases e : i = j
    · subst e
      rw [List.getElem?_set_self hj]
      have := h.cell i hj
      obtain ⟨cs, t, hc⟩ := h.typed
      simp only [World.cell?, hc] at this
      simp only [World.cell?, World.setCell, Array.getElem?_modify, hc]
      have hlt := (Array.getElem?_eq_some_iff.1 this).1
      simp [hlt]
    · rw [List.getElem?_set_ne (by omega), World.cell?_setCell_other _ _ _ _ (by intro c; injection c; omega)]
      exact h.cell i (by simpa using hi)
/-- Nothing but block b is turned. -/
structure Only (b : Nat) (w w' : World) : Prop where
  os : w'.os = w.os
  tape : w'.tape = w.tape
  output : w'.output = w.output
  size : w'.heap.size = w.heap.size
  other : ∀ j, j ≠ b → w'.heap[j]? = w.heap[j]?
theorem Only.refl (b : Nat) (w : World) : Only b w w := ⟨rfl, rfl, rfl, rfl, fun _ _ => rfl⟩
theorem Only.set {b : Nat} {u w : World} (h : Only b u w) (i : Nat) (v : Value) : Only b u (w.setCell ⟨b, i, none⟩ v) :=
  ⟨h.os, h.tape, h.output, by rw [← h.size]; simp [World.setCell], fun j hj => (Below.heap_setCell _ _ _ _ hj).trans (h.other j hj)⟩
theorem Only.drew {b : Nat} {u w : World} (h : Only b u w) : Only b u w.drew := ⟨h.os, h.tape, h.output, h.size, h.other⟩
theorem Only.below {b B : Nat} {u w : World} (h : Only b u w) (hB : B ≤ b) : Below B u w := ⟨h.os, h.tape, h.output, by rw [h.size]; exact Nat.le_refl _, fun j hj => h.other j (by omega)⟩
theorem Only.sets {b : Nat} {u : World} : ∀ (vs : List Value) (o : Nat) (w : World), Only b u w → Only b u (w.setCells b o vs)
  | [], _, _, h => h
  | v :: r, o, w, h => by
    unfold World.setCells
    exact Only.sets r (o + 1) _ (h.set o v)
theorem Only.trans {b : Nat} {u v w : World} (h : Only b u v) (g : Only b v w) : Only b u w :=
  ⟨g.os.trans h.os, g.tape.trans h.tape, g.output.trans h.output, g.size.trans h.size, fun j hj => (g.other j hj).trans (h.other j hj)⟩
theorem OwnG.kept {b : Nat} {u w : World} {zs : List Int} (h : OwnG u b zs) (hb : b < u.heap.size) (hw : Below u.heap.size u w) : OwnG w b zs := by
  obtain ⟨cs, t, hc⟩ := h.typed
  exact ⟨⟨cs, t, (hw.block b hb).trans hc⟩, fun j hj => (hw.cell (p := ⟨b, j, none⟩) hb).trans (h.cell j hj)⟩
theorem OwnG.lt {b : Nat} {w : World} {zs : List Int} (h : OwnG w b zs) : b < w.heap.size := by
  obtain ⟨cs, t, hc⟩ := h.typed
  exact (Array.getElem?_eq_some_iff.1 hc).1
theorem row_typed {b : Nat} : ∀ (vs : List Value) (o : Nat) (w : World), (∃ cs t, w.heap[b]? = some (.cells cs t (0, 0))) → ∃ cs t, (w.setCells b o vs).heap[b]? = some (.cells cs t (0, 0))
  | [], _, _, h => h
  | v :: r, o, w, h => by
    unfold World.setCells
    refine row_typed r (o + 1) _ ?_
    obtain ⟨cs, t, hc⟩ := h
    exact ⟨cs.setIfInBounds o v, t, by simp [World.setCell, Array.getElem?_modify, hc]⟩
/-- A piece of a row, as a slice. -/
theorem OwnG.bytes {b : Nat} {w : World} {zs : List Int} (h : OwnG w b zs) (hf : Fit zs) (hl : zs.length ≤ 140737488351232) (o n cap : Nat) (hn : o + n ≤ zs.length) : BytesAt w.heap.size w (.slice (some ⟨b, o, none⟩) n cap) ((zs.drop o).take n) := by
  have hlen : ((zs.drop o).take n).length = n := by simp; omega
  refine ⟨fun z hz => hf z (List.mem_of_mem_drop (List.mem_of_mem_take hz)), by omega, some ⟨b, o, none⟩, cap, by rw [hlen], .inr ⟨b, o, rfl, h.lt, fun j hj => ?_⟩⟩
  rw [hlen] at hj
  rw [h.cell (o + j) (by omega)]
  simp [List.getElem?_take, hj, List.getElem?_drop]
/-- Bytes that come in copied into the row. -/
theorem OwnG.copy {b n₀ : Nat} {w : World} {zs ys : List Int} {v : Value} (h : OwnG w b zs) (hb : BytesAt n₀ w v ys) (o dl dc : Nat) (ho : o + dl ≤ zs.length) (hy : ys.length ≤ dl) (ty : TypeId) :
    ∃ r w2, (Builtin.copy_ #[25, 25] ty #[.slice (some ⟨b, o, none⟩) dl dc, v]).run Tryz.prog w = .ok r w2 ∧ OwnG w2 b (zs.take o ++ ys ++ zs.drop (o + ys.length)) ∧ Only b w w2 := by
  have hinf : (Tryz.prog.info? 5).map (·.size) = some 1 := by kernel_rfl
  obtain ⟨hf, hlen, a, cap, rfl, hz⟩ := hb
  rcases hz with h0 | ⟨sb, so, rfl, hlt, hc⟩
  · obtain rfl : ys = [] := List.length_eq_zero_iff.1 h0
    refine ⟨_, w, run_copy_none w _ _ ty 5 _ a dl dc 0 cap Tryz.underlying25 hinf (by simp), ?_, Only.refl _ _⟩
    simpa using h
  · have hcl : ∀ j, j < ys.length → (w.cell? ⟨b, o + j, none⟩).isSome = true := fun j hj => by rw [h.cell (o + j) (by omega)]; rfl
    have hO : Only b w (w.setCells b o (ys.map (fun z => Value.int .u8 z))) := Only.sets _ _ _ (Only.refl _ _)
    refine ⟨_, _, run_copy_cells w _ _ ty 5 b o dl dc ⟨sb, so, none⟩ ys.length cap (ys.map (fun z => Value.int .u8 z)) Tryz.underlying25 hinf ((List.length_map _).trans (Nat.min_eq_left hy).symm) ?_ (by simpa using hcl) (fun j _ => h.open _) (by simp [Value.oneCell']), ⟨?_, ?_⟩, hO⟩
    · intro j x hj
      rw [Go.WideShapes.add_plain]
      rw [List.getElem?_map] at hj
      cases hz : ys[j]? with
      | none => simp [hz] at hj
      | some z =>
        simp [hz] at hj
        subst hj
        have := hc j (List.getElem?_eq_some_iff.1 hz).1
        rw [hz] at this
        exact this
    · obtain ⟨cs, t, hcs⟩ := h.typed
      exact row_typed _ _ _ ⟨cs, t, hcs⟩
    · intro j hj
      have hj' : j < zs.length := by simp at hj; omega
      by_cases h1 : j < o
      · rw [World.cell?_setCells_out b _ o w ⟨b, j, none⟩ (fun _ _ => Or.inl h1), h.cell j hj']
        rw [List.append_assoc, List.getElem?_append_left (by simp; omega)]
        simp [h1]
      · by_cases h2 : j < o + ys.length
        · have := World.cell?_setCells_in b (ys.map (fun z => Value.int .u8 z)) o w (by simpa using hcl) (j - o) (by simp; omega)
          rw [show o + (j - o) = j by omega] at this
          rw [this, List.append_assoc, List.getElem?_append_right (by simp; omega), List.getElem?_append_left (by simp; omega)]
          simp only [List.length_take, Nat.min_eq_left (show o ≤ zs.length by omega), List.getElem_map]
          rw [List.getElem?_eq_getElem (show j - o < ys.length by omega)]
          rfl
        · rw [World.cell?_setCells_out b _ o w ⟨b, j, none⟩ (fun _ _ => Or.inr (by simp; omega)), h.cell j hj']
          rw [List.getElem?_append_right (by simp; omega), List.getElem?_drop]
          have e : o + ys.length + (j - (zs.take o ++ ys).length) = j := by simp; omega
          rw [e]
theorem arm_copy {P : Program} {w : World} {ops : Array Oper} {rest : List Oper} {o : Oper} {a : Act} {Q : Exit → Act → World → Prop} {R : World → Prop} (hg : Region.wanted o (yielded ops a.tmps) = true) (s x : Operand) (t u : TypeId)
    (hop : o.op = Op.call { callee := Callee.builtin Builtin.copy, args := #[s, x], argTypes := #[t, u] }) {vs vx : Value} (hs : a.eval s = vs) (hx : a.eval x = vx)
    (hex : ∃ v w2, (Builtin.copy_ #[t, u] o.type #[vs, vx]).run P w = .ok v w2 ∧ R w2) (hK : ∀ v w2, R w2 → wpList P ops Q rest (a.put o.dst v) w2) : wpList P ops Q (o :: rest) a w := by
  obtain ⟨v, w2, hrun, hr⟩ := hex
  refine BigFrame.wpList_want hg fun K hK' => ?_
  unfold Oper.wp
  simp [execOp, hop, resolve, invoke, builtin, hs, hx, hrun, Result.andThen]
  exact hK' _ _ (hK v w2 hr)
theorem step_copyR {P : Program} {ops : Array Oper} {o : Oper} {a : Act} {w : World} {K : Act → World → Prop} {Q : Exit → Act → World → Prop} {E : Prop} {R : World → Prop} (hg : o.guard = none) (s x : Operand) (t u : TypeId)
    (hop : o.op = Op.call { callee := Callee.builtin Builtin.copy, args := #[s, x], argTypes := #[t, u] }) {vs vx : Value} (hs : a.eval s = vs) (hx : a.eval x = vx)
    (hex : ∃ v w2, (Builtin.copy_ #[t, u] o.type #[vs, vx]).run P w = .ok v w2 ∧ R w2) (hK : ∀ v w2, R w2 → K (a.put o.dst v) w2) :
    if Region.wanted o (yielded ops a.tmps) = true then Oper.wp P o a w K Q else E := by
  have hw : Region.wanted o (yielded ops a.tmps) = true := by simp [Region.wanted, hg]
  rw [if_pos hw]
  obtain ⟨v, w2, hrun, hr⟩ := hex
  unfold Oper.wp
  simp [execOp, hop, resolve, invoke, builtin, hs, hx, hrun, Result.andThen]
  exact hK _ _ hr
/-- A row with a word at a place. -/
def putL (zs : List Int) (o : Nat) (x : Int) : List Int := (zs.set o (x / 256)).set (o + 1) (x % 256)
theorem or_hi (a m k : Nat) (h : a < 2 ^ k) : a ||| (2 ^ k * m) = a + 2 ^ k * m := by
  rw [Nat.or_comm, ← Nat.two_pow_add_eq_or_of_lt h, Nat.add_comm]
def u8L (zs : List Int) : List Value := zs.map (fun z => Value.int .u8 z)
theorem OwnG.of_u8L {w : World} {b : Nat} {zs : List Int} {t : TypeId} (h : w.heap[b]? = some (.cells (u8L zs).toArray t)) : OwnG w b zs := by
  refine ⟨⟨_, _, h⟩, fun j hj => ?_⟩
  simp [World.cell?, h, u8L, hj]
theorem OwnG.cellsAt {w : World} {b : Nat} {zs : List Int} (h : OwnG w b zs) : CellsAt w b 0 (u8L zs) := by
  intro j v hj
  unfold u8L at hj
  rw [List.getElem?_map] at hj
  cases hz : zs[j]? with
  | none => simp [hz] at hj
  | some z =>
    simp [hz] at hj
    subst hj
    have := h.cell j (List.getElem?_eq_some_iff.1 hz).1
    rw [hz] at this
    simpa using this
theorem res1 {P : Program} {fn : Func} {a : Tmp} {t : TypeId} (h : fn.results = #[.cell a t]) {tmps : Array Value} {R : Addr} (hp : tmps.getD a undef = .pointer (some R)) {v : Value} {w : World} (hl : (loadVar t R).run P w = .ok v w) :
    (results fn tmps).run P w = .ok v w := by
  rw [Array.getD_eq_getD_getElem?] at hp
  simp [results, h, hp, asAddr, hl]
def laid (zs : List Int) (o : Nat) (ys : List Int) : List Int := zs.take o ++ ys ++ zs.drop (o + ys.length)
theorem putL_length (zs : List Int) (o : Nat) (x : Int) : (putL zs o x).length = zs.length := by simp [putL]
theorem putL_fit {zs : List Int} (h : Fit zs) (o : Nat) (x : Int) (hx : 0 ≤ x ∧ x ≤ 65535) : Fit (putL zs o x) := by
  intro z hz
  unfold putL at hz
  rcases List.mem_or_eq_of_mem_set hz with hz | rfl
  · rcases List.mem_or_eq_of_mem_set hz with hz | rfl
    · exact h z hz
    · omega
  · omega
theorem set_fit {zs : List Int} (h : Fit zs) (o : Nat) (x : Int) (hx : 0 ≤ x ∧ x < 256) : Fit (zs.set o x) := by
  intro z hz
  rcases List.mem_or_eq_of_mem_set hz with hz | rfl
  · exact h z hz
  · exact hx
theorem laid_length {zs ys : List Int} (o : Nat) (h : o + ys.length ≤ zs.length) : (laid zs o ys).length = zs.length := by simp [laid]; omega
theorem laid_fit {zs ys : List Int} (h : Fit zs) (g : Fit ys) (o : Nat) : Fit (laid zs o ys) := by
  intro z hz
  unfold laid at hz
  rcases List.mem_append.1 hz with hz | hz
  · rcases List.mem_append.1 hz with hz | hz
    · exact h z (List.mem_of_mem_take hz)
    · exact g z hz
  · exact h z (List.mem_of_mem_drop hz)
theorem made_own {w : World} {base n g : Nat} {cap : Nat} (h : w.ownsRow base 5 1 (.slice (some ⟨g, 0, none⟩) n cap) n (madeCells (Value.int .u8 0).cells (n * 1)).toList) : OwnG w g (List.replicate n 0) := by
  rcases h.2 with ⟨e, h0⟩ | ⟨g', cap', cur, e, hb, hg, _⟩
  · cases e
  · cases e
    refine ⟨⟨cur, _, hg⟩, fun j hj => ?_⟩
    simp only [List.length_replicate] at hj
    have := h.cells (g := g) rfl j (.int .u8 0) (by simp only [madeCells, Nat.mul_one, Array.toList_map, Array.toList_range, List.getElem?_map, List.getElem?_range hj, Option.map_some, Option.some.injEq]; show (#[Value.int .u8 0])[j % 1]! = _; rw [Nat.mod_one]; rfl)
    rw [Go.WideShapes.add_plain] at this
    rw [List.getElem?_replicate]
    simpa [hj] using this
theorem step_appendR {P : Program} {ops : Array Oper} {o : Oper} {a : Act} {w : World} {K : Act → World → Prop} {Q : Exit → Act → World → Prop} {E : Prop} {R : Value → World → Prop} (hg : o.guard = none) (s x : Operand) (t u : TypeId)
    (hop : o.op = Op.call { callee := Callee.builtin Builtin.append, args := #[s, x], argTypes := #[t, u] }) {vs vx : Value} (hs : a.eval s = vs) (hx : a.eval x = vx)
    (hex : ∃ v w2, (Builtin.append_ #[t, u] o.type #[vs, vx]).run P w = .ok v w2 ∧ R v w2) (hK : ∀ v w2, R v w2 → K (a.put o.dst v) w2) :
    if Region.wanted o (yielded ops a.tmps) = true then Oper.wp P o a w K Q else E := by
  have hw : Region.wanted o (yielded ops a.tmps) = true := by simp [Region.wanted, hg]
  rw [if_pos hw]
  obtain ⟨v, w2, hrun, hr⟩ := hex
  unfold Oper.wp
  simp [execOp, hop, resolve, invoke, builtin, hs, hx, hrun, Result.andThen]
  exact hK _ _ hr
theorem step_callR {P : Program} {ops : Array Oper} {o : Oper} {a : Act} {w : World} {K : Act → World → Prop} {Q : Exit → Act → World → Prop} {E : Prop} {R : Value → World → Prop} (hg : o.guard = none) (f : FuncId) (vs : Array Value)
    (hrun : (execOp a.eval o).run P w = .ok (.enter f vs) w) (hc : Calls P f vs w fun e w' => ∃ v, e = .returned v ∧ R v w') (hK : ∀ v w2, R v w2 → K (a.put o.dst v) w2) :
    if Region.wanted o (yielded ops a.tmps) = true then Oper.wp P o a w K Q else E := by
  have hw : Region.wanted o (yielded ops a.tmps) = true := by simp [Region.wanted, hg]
  rw [if_pos hw]
  unfold Oper.wp
  rw [hrun]
  refine hc.mono ?_
  rintro e w' ⟨v, rfl, hr⟩
  exact hK v w' hr
theorem wrapi64 (x : Int) (h : -9223372036854775808 ≤ x ∧ x ≤ 9223372036854775807) : IntKind.i64.wrap x = x := by
  have e : IntKind.i64.wrap x = (x + 9223372036854775808) % 18446744073709551616 - 9223372036854775808 := by
    simp [IntKind.wrap, IntKind.bits, IntKind.signed]
    split <;> omega
  rw [e]
  omega
/-- Bytes behind an own row, and what it leaves. -/
theorem own_tail {w1 w2 : World} {base n : Nat} {v u : Value} {zs ys : List Int} (hown : w2.ownsRow base 5 1 v n (bytesV zs)) (hn : 0 < n) (hz : zs.length = n) (hfz : Fit zs) (hb : BytesAt w2.heap.size w2 u ys) (hl : n + ys.length ≤ 1000000) (hlow : w1.heap.size ≤ base) (hB : Below w1.heap.size w1 w2) (ty : TypeId) :
    ∃ v' w3, (Builtin.append_ #[25, 25] ty #[v, u]).run Tryz.prog w2 = .ok v' w3 ∧ (BytesAt w3.heap.size w3 v' (zs ++ ys) ∧ Below w1.heap.size w1 w3) := by
  obtain ⟨a0, c0, _, _, hf⟩ := own_form hown
  have hbase : base ≤ w2.heap.size := by
    rcases hf with hf | ⟨g, _, h1, h2, _⟩
    · omega
    · omega
  obtain ⟨a, cap, rfl, _⟩ := hb.val
  obtain ⟨v', w3, hrun, hown', hgr⟩ := own_bytes_more (w0 := w2) hown hbase hb hl ty
  have e : bytesV zs ++ bytesV ys = (zs ++ ys).map (fun z => Value.int .u8 z) := by simp [bytesV]
  rw [e] at hown'
  refine ⟨v', w3, hrun, own_bytes hown' (fun z hz' => ?_) (by rw [List.length_append]; omega), hB.trans (((Below.refl _ w2).grown hgr hbase (fun j hj => (hown.lt j hj).1)).mono hlow)⟩
  rcases List.mem_append.1 hz' with h | h
  · exact hfz z h
  · exact hb.fit z h
theorem take_split {A B D : List Int} {n : Nat} (h : A.length + B.length = n) : (A ++ (B ++ D)).take n = A ++ B := by
  rw [← List.append_assoc, List.take_append_of_le_length (by simp; omega), List.take_of_length_le (by simp; omega)]
theorem BytesAt.none (w : World) : BytesAt w.heap.size w (.slice none 0 0) [] := ⟨fun z hz => by simp at hz, by simp, _, _, rfl, .inl rfl⟩
/-- A slice of bytes as text, in every world above. -/
theorem Hi.text {w : World} {v : Value} {zs : List Int} (h : BytesAt w.heap.size w v zs) : ∀ x : Hi w, (convert 25 9 v).run Tryz.prog x.W = .ok (.string (strOfNums zs)) x.W := fun x => (h.later x.below).text
theorem listV4 {l : List Value} (h : l.length = 4) : ∃ x0 x1 x2 x3, l = [x0, x1, x2, x3] := by
  match l, h with
  | [x0, x1, x2, x3], _ => exact ⟨x0, x1, x2, x3, rfl⟩
theorem open_bytes1 {H : Type} {enc : TypeId × Value → H} {W : World} {fuel : Nat} {cs : List Value} {x : DataW H × List MemPlace} (h : DataW.trod enc Tryz.prog W 0 (fun _ => true) true fuel 25 cs = some x) (hz : ∀ k ∈ x.1.weights Tryz.prog 25, k ≤ reachBytes) :
    ∃ v zs, cs = [v] ∧ BytesAt W.heap.size W v zs := by
  rcases open_ints Tryz.underlying25 Tryz.underlying5 (by kernel_rfl) h with ⟨rfl, _⟩ | ⟨a, len, cap, zs, rfl, _, hl, hm, hzl, rfl, hcell, hwz⟩
  · exact ⟨_, [], rfl, BytesAt.none W⟩
  · have hzl' : zs.length = cap := by simpa using hzl
    have hb : Tryz.prog.bytesOf 5 = 1 := by kernel_rfl
    have hr : cap ≤ 140737488351232 := by
      have := hz ((zs.take len).length * 1 + (zs.drop len).length * 1) (by
        simp only [DataW.weights, Tryz.underlying25, hb]
        simp [lits])
      have e : reachBytes = 140737488351232 := by kernel_rfl
      rw [e] at this
      simp at this
      omega
    have hrow : IsRowB W (some a) len cap zs := .inr ⟨a, rfl, hl, hm, hzl', hcell, hwz⟩
    exact ⟨_, _, rfl, hrow.bytes len (Nat.le_refl _) (by omega)⟩
theorem agg_cells {v : Value} {l : List Value} (h : v.cells.toList = l) (hl : 2 ≤ l.length) : v = .agg l.toArray := by
  cases v
  case agg cs => simp only [Value.cells] at h; rw [← h]
  all_goals (simp [Value.cells] at h; subst h; simp at hl)
theorem u8_back (z : Int) (h : 0 ≤ z ∧ z < 256) : (((UInt8.ofNat z.toNat).toNat : Nat) : Int) = z := by
  have : z.toNat % 256 = z.toNat := Nat.mod_eq_of_lt (by omega)
  simp only [UInt8.toNat_ofNat', this]
  omega
theorem cells_back (zs : List Int) (h : Fit zs) : (zs.map (fun z => UInt8.ofNat z.toNat)).map (fun u => Value.int .u8 (u.toNat : Int)) = zs.map (fun z => Value.int .u8 z) := by
  rw [List.map_map]
  refine List.map_congr_left fun z hz => ?_
  simp only [Function.comp_apply, u8_back z (h z hz)]
theorem bytes_inj (zs ys : List Int) (h : Fit zs) (g : Fit ys) : ((zs.map (fun z => UInt8.ofNat z.toNat)) == (ys.map (fun z => UInt8.ofNat z.toNat))) = decide (zs = ys) := by
  rw [Bool.eq_iff_iff]
  simp only [beq_iff_eq, decide_eq_true_eq]
  constructor
  · intro e
    have e2 := congrArg (List.map (fun u : UInt8 => ((u.toNat : Nat) : Int))) e
    rw [List.map_map, List.map_map] at e2
    have q1 : zs.map ((fun u : UInt8 => ((u.toNat : Nat) : Int)) ∘ fun z => UInt8.ofNat z.toNat) = zs := by
      conv => rhs; rw [← List.map_id zs]
      exact List.map_congr_left fun z hz => u8_back z (h z hz)
    have q2 : ys.map ((fun u : UInt8 => ((u.toNat : Nat) : Int)) ∘ fun z => UInt8.ofNat z.toNat) = ys := by
      conv => rhs; rw [← List.map_id ys]
      exact List.map_congr_left fun z hz => u8_back z (g z hz)
    rw [q1, q2] at e2
    exact e2
  · intro e; rw [e]
theorem blk_set {w : World} {b : Nat} {c : List Value} {t : TypeId} (h : w.heap[b]? = some (.cells c.toArray t)) (j : Nat) (v : Value) : (w.setCell ⟨b, j, none⟩ v).heap[b]? = some (.cells (c.set j v).toArray t) := by
  simp [World.setCell, Array.getElem?_modify, h]
theorem blk_set_other {w : World} {b b' : Nat} {o : Obj} (h : w.heap[b]? = some o) (hb : b ≠ b') (j : Nat) (v : Value) : (w.setCell ⟨b', j, none⟩ v).heap[b]? = some o :=
  (Below.heap_setCell _ _ _ _ hb).trans h
theorem blk_open {w : World} {b : Nat} {c : List Value} {t : TypeId} (h : w.heap[b]? = some (.cells c.toArray t)) (j : Nat) : w.frozen? ⟨b, j, none⟩ = false := by
  simp [World.frozen?, h]
theorem blk_cell {w : World} {b : Nat} {c : List Value} {t : TypeId} (h : w.heap[b]? = some (.cells c.toArray t)) {j : Nat} {v : Value} (hj : c[j]? = some v) : w.cell? ⟨b, j, none⟩ = some v := by
  simp [World.cell?, h, hj]
theorem res2 {P : Program} {fn : Func} {a b : Tmp} {t : TypeId} (h : fn.results = #[.cell a t, .tmp b]) {tmps : Array Value} {R : Addr} (hp : tmps.getD a undef = .pointer (some R)) {v : Value} {w : World} (hl : (loadVar t R).run P w = .ok v w) :
    (results fn tmps).run P w = .ok (.tuple #[v, tmps.getD b undef]) w := by
  rw [Array.getD_eq_getD_getElem?] at hp
  simp [results, h, hp, asAddr, hl]
/-- 'append([]byte{}, v...)': a copy of its own, and where it lies. -/
theorem bytes_copied2 {w : World} {v : Value} {zs : List Int} (h : BytesAt w.heap.size w v zs) (B : Nat) (ty : TypeId) :
    ∃ a cap w2, (Builtin.append_ #[25, 25] ty #[.slice (some ⟨B, 0, none⟩) 0 0, v]).run Tryz.prog w = .ok (.slice a zs.length cap) w2 ∧ BytesAt w2.heap.size w2 (.slice a zs.length cap) zs ∧ Below w.heap.size w w2 ∧ (zs.length = 0 ∨ ∃ g off, a = some ⟨g, off, none⟩ ∧ w.heap.size ≤ g) := by
  obtain ⟨i, hi, hz, hs, hb⟩ := info_parts info_u8
  obtain ⟨hf, hl, a, cap, rfl, hv⟩ := h
  have src : ∃ news : List Value, news = zs.map (fun z => Value.int .u8 z) ∧ Src Tryz.prog i.size 25 (.slice a zs.length cap) zs.length news w := by
    refine ⟨_, rfl, ?_⟩
    rw [hs]
    rcases hv with hv | ⟨b, off, rfl, hlt, hc⟩
    · obtain rfl : zs = [] := List.length_eq_zero_iff.1 hv
      cases a with
      | none => exact Src.ofNil w Tryz.underlying25 cap
      | some x => exact Src.ofSlice w Tryz.underlying25 x 0 cap [] rfl (fun j u hj => by simp at hj) (fun u hu => by cases hu)
    · refine Src.ofSlice w Tryz.underlying25 _ _ cap _ (by simp) (fun j u hj => ?_) (fun u hu => ?_)
      · rw [List.getElem?_map] at hj
        obtain ⟨z, hz, rfl⟩ := Option.map_eq_some_iff.1 hj
        have hjl := (List.getElem?_eq_some_iff.1 hz).1
        have := hc j hjl
        rw [hz] at this
        rw [Go.WideShapes.add_plain]
        exact this
      · obtain ⟨z, _, rfl⟩ := List.mem_map.1 hu
        rfl
  obtain ⟨news, hnews, hsrc⟩ := src
  by_cases h0 : zs.length = 0
  · obtain rfl : zs = [] := List.length_eq_zero_iff.1 h0
    have hr := run_append_room_src w 25 25 ty 5 i Tryz.underlying25 hi B 0 0 0 _ 0 news hsrc (Nat.le_refl _) (fun j hj => by rw [hnews] at hj; simp at hj) (fun j hj => by rw [hnews] at hj; simp at hj)
    subst hnews
    refine ⟨_, _, _, hr, ⟨hf, by simp, _, _, rfl, .inl rfl⟩, Below.refl _ _, .inl rfl⟩
  · have hold : (Builtin.firstCells i.size 0 (.slice (some ⟨B, 0, none⟩) 0 0)).run Tryz.prog w.drew = .ok ([] : List Value).toArray w.drew := by
      exact run_firstCells_some w.drew i.size 0 ⟨B, 0, none⟩ 0 0 [] (by simp) (fun j u hj => by simp at hj)
    have hr := run_append_grow_src w 25 25 ty 5 i (.int .u8 0) Tryz.underlying25 hi hz (some ⟨B, 0, none⟩) 0 0 [] hold _ zs.length news hsrc (by omega) (by omega) (by
      rw [hb]
      have : Builtin.nextslicecap (0 + zs.length) 0 = zs.length := by
        unfold Builtin.nextslicecap
        simp
        intro e
        rw [e]; rfl
      omega)
    simp only [Nat.zero_add, List.nil_append] at hr
    refine ⟨_, _, _, hr, ?_, ((Below.refl _ w).drew).alloc (Nat.le_refl _) _, .inr ⟨_, _, rfl, Nat.le_refl _⟩⟩
    refine bytes_new w.drew 5 zs _ zs.length _ (fun j hj => ?_) rfl hl hf
    rw [hnews]
    simp [Array.getElem?_append, hj]
theorem bytes_only {W W' : World} {g : Nat} {v : Value} {zs : List Int} (h : BytesAt W.heap.size W v zs) (ho : Only g W W') (hl : zs.length = 0 ∨ ∃ b off n k, v = .slice (some ⟨b, off, none⟩) n k ∧ g < b) : BytesAt W'.heap.size W' v zs := by
  obtain ⟨hf, hle, a, cap, rfl, hz⟩ := h
  refine ⟨hf, hle, a, cap, rfl, ?_⟩
  rcases hz with hz | ⟨b, off, rfl, hlt, hc⟩
  · exact .inl hz
  · rcases hl with hl | ⟨b', off', n, k, e, hg⟩
    · exact .inl hl
    · cases e
      refine .inr ⟨b, off, rfl, by rw [ho.size]; exact hlt, fun j hj => ?_⟩
      rw [← hc j hj]
      have := ho.other b (by omega)
      simp [World.cell?, this]
/-- What is left of a slice behind its first n elements: at its very end the address stays. -/
def restV (b off len cap n : Nat) : Value := if cap = n then .slice (some ⟨b, off, none⟩) (len - n) 0 else .slice (some ⟨b, off + n, none⟩) (len - n) (cap - n)
theorem u8_low4 (z : Int) (h : 0 ≤ z ∧ z < 256) : bits .and .u8 z 15 = z % 16 := by
  obtain ⟨x, rfl⟩ := Int.eq_ofNat_of_zero_le h.1
  have := u8_and_nat x 15 (by omega) (by omega)
  have e : x &&& 15 = x % 2 ^ 4 := Nat.and_two_pow_sub_one_eq_mod x 4
  rw [e] at this
  rw [show (15 : Int) = ((15 : Nat) : Int) from rfl, this]
  omega
theorem and_bit (x k : Nat) : x &&& 2 ^ k = x / 2 ^ k % 2 * 2 ^ k := by
  apply Nat.eq_of_testBit_eq
  intro i
  rw [Nat.testBit_and, Nat.testBit_two_pow, Nat.testBit_mul_two_pow]
  rcases Nat.mod_two_eq_zero_or_one (x / 2 ^ k) with e | e
  · rw [e]
    by_cases h : k = i
    · subst h
      simp [Nat.testBit, Nat.shiftRight_eq_div_pow, Nat.one_and_eq_mod_two, e]
    · simp [h]
  · rw [e]
    by_cases h : k = i
    · subst h
      simp [Nat.testBit, Nat.shiftRight_eq_div_pow, Nat.one_and_eq_mod_two, e]
    · by_cases h2 : k ≤ i
      · have : i - k ≠ 0 := by omega
        have h1 : Nat.testBit 1 (i - k) = false := by
          have := Nat.testBit_two_pow (n := 0) (m := i - k)
          simp only [Nat.pow_zero] at this
          rw [this]
          simp
          omega
        simp [h, h2, h1]
      · simp [h, h2]
theorem u8_bit (z : Int) (k : Nat) (h : 0 ≤ z ∧ z < 256) (hk : 2 ^ k < 256) : bits .and .u8 z ((2 ^ k : Nat) : Int) = z / ((2 ^ k : Nat) : Int) % 2 * ((2 ^ k : Nat) : Int) := by
  obtain ⟨x, rfl⟩ := Int.eq_ofNat_of_zero_le h.1
  have := u8_and_nat x (2 ^ k) (by omega) hk
  rw [and_bit] at this
  rw [this]
  simp
theorem u16_bit (z : Int) (k : Nat) (h : 0 ≤ z ∧ z < 65536) (hk : 2 ^ k < 65536) : bits .and .u16 z ((2 ^ k : Nat) : Int) = z / ((2 ^ k : Nat) : Int) % 2 * ((2 ^ k : Nat) : Int) := by
  obtain ⟨x, rfl⟩ := Int.eq_ofNat_of_zero_le h.1
  have := u16_and_nat x (2 ^ k) (by omega) hk
  rw [and_bit] at this
  rw [this]
  simp
/-- A byte by its place. -/
def gz (zs : List Int) (i : Nat) : Int := zs[i]?.getD 0
theorem Fit.gz {zs : List Int} (h : Fit zs) (j : Nat) : 0 ≤ gz zs j ∧ gz zs j < 256 := h.at j
/-- A slice that came in: what it holds, and that there is room. -/
structure RowC (w : World) (v : Value) (zs : List Int) : Prop where
  fit : Fit zs
  len : zs.length ≤ 140737488351232
  val : ∃ a cap, v = .slice a zs.length cap ∧ zs.length ≤ cap ∧ (zs.length = 0 ∨ ∃ b off, a = some ⟨b, off, none⟩ ∧ b < w.heap.size ∧ ∀ j, j < zs.length → w.cell? ⟨b, off + j, none⟩ = some (.int .u8 (zs[j]?.getD 0)))
theorem RowC.bytes {w : World} {v : Value} {zs : List Int} (h : RowC w v zs) : BytesAt w.heap.size w v zs := by
  obtain ⟨hf, hl, a, cap, rfl, hc, hz⟩ := h
  exact ⟨hf, hl, a, cap, rfl, hz⟩
theorem RowC.on {w W : World} {v : Value} {zs : List Int} (h : RowC w v zs) (hb : Below w.heap.size w W) : RowC W v zs := by
  obtain ⟨hf, hl, a, cap, rfl, hc, hz⟩ := h
  refine ⟨hf, hl, a, cap, rfl, hc, ?_⟩
  rcases hz with hz | ⟨b, off, rfl, hlt, hcell⟩
  · exact .inl hz
  · exact .inr ⟨b, off, rfl, Nat.lt_of_lt_of_le hlt hb.size, fun j hj => (hb.cell (p := ⟨b, off + j, none⟩) hlt).trans (hcell j hj)⟩
/-- Bytes that are at least one: their block. -/
theorem RowC.some {w : World} {v : Value} {zs : List Int} (h : RowC w v zs) (h0 : 0 < zs.length) : ∃ b off cap, v = .slice (some ⟨b, off, none⟩) zs.length cap ∧ zs.length ≤ cap ∧ b < w.heap.size ∧ ∀ j, j < zs.length → w.cell? ⟨b, off + j, none⟩ = .some (.int .u8 (gz zs j)) := by
  obtain ⟨hf, hl, a, cap, rfl, hc, hz⟩ := h
  rcases hz with hz | ⟨b, off, rfl, hlt, hcell⟩
  · omega
  · exact ⟨b, off, cap, rfl, hc, hlt, hcell⟩
/-- The place behind n elements: at its very end the address stays. -/
def nxt (o cap n : Nat) : Nat := if cap = n then o else o + n
theorem restV_eq (b o len cap n : Nat) : restV b o len cap n = .slice (some ⟨b, nxt o cap n, none⟩) (len - n) (cap - n) := by
  unfold restV nxt
  split
  · next h => subst h; simp
  · rfl
theorem nxt_lt {o cap n : Nat} (h : n < cap) : nxt o cap n = o + n := by unfold nxt; rw [if_neg (by omega)]
theorem loc_lt {m s g : Nat} {v : Value} (h : m = 0 ∨ ∃ b off n k, v = .slice (some ⟨b, off, none⟩) n k ∧ s ≤ b) (hg : g < s) : m = 0 ∨ ∃ b off n k, v = .slice (some ⟨b, off, none⟩) n k ∧ g < b :=
  h.imp id (fun ⟨b, off, n, k, e, hs⟩ => ⟨b, off, n, k, e, Nat.lt_of_lt_of_le hg hs⟩)
def setsL (c : List Value) (o : Nat) : List Value → List Value
  | [] => c
  | v :: r => setsL (c.set o v) (o + 1) r
theorem blk_sets {b : Nat} {t : TypeId} : ∀ (vs : List Value) (o : Nat) (c : List Value) (w : World), w.heap[b]? = some (.cells c.toArray t) → (w.setCells b o vs).heap[b]? = some (.cells (setsL c o vs).toArray t)
  | [], _, _, _, h => h
  | v :: r, o, c, w, h => by
    unfold World.setCells setsL
    exact blk_sets r (o + 1) _ _ (blk_set h o v)
theorem setsL_eq : ∀ (vs : List Value) (o : Nat) (c : List Value), o + vs.length ≤ c.length → setsL c o vs = c.take o ++ vs ++ c.drop (o + vs.length)
  | [], o, c, h => by simp [setsL]
  | v :: r, o, c, h => by
    simp only [List.length_cons] at h
    unfold setsL
    rw [setsL_eq r (o + 1) (c.set o v) (by simp; omega), List.take_succ_eq_append_getElem (by simp; omega)]
    have e1 : (c.set o v).take o = c.take o := by
      rw [List.take_set]
      exact List.set_eq_of_length_le (by simp; omega)
    rw [e1]
    simp only [List.getElem_set_self, List.length_cons]
    rw [List.drop_set, if_pos (by omega), show o + 1 + r.length = o + (r.length + 1) by omega]
    simp
theorem setsL_all (c vs : List Value) (h : vs.length = c.length) : setsL c 0 vs = vs := by
  rw [setsL_eq vs 0 c (by omega)]
  simp [h]
theorem step_storeR {P : Program} {ops : Array Oper} {o : Oper} {a : Act} {w w2 : World} {K : Act → World → Prop} {Q : Exit → Act → World → Prop} {E : Prop} (hg : o.guard = none) (p x : Operand) (t : TypeId)
    (hop : o.op = Op.store t p x) {vp vx : Value} (hp : a.eval p = vp) (hx : a.eval x = vx) (hrun : (Instr.storeAt t vp vx).run P w = .ok () w2) (hK : K (a.put o.dst (.tuple #[])) w2) :
    if Region.wanted o (yielded ops a.tmps) = true then Oper.wp P o a w K Q else E := by
  have hw : Region.wanted o (yielded ops a.tmps) = true := by simp [Region.wanted, hg]
  rw [if_pos hw]
  unfold Oper.wp
  simp [execOp, hop, hp, hx, hrun, Result.andThen]
  exact hK
theorem below_alloc1 {w0 W : World} (h : Below w0.heap.size w0 W) (o : Obj) : Below w0.heap.size w0 (W.alloc o) := h.alloc h.size o
theorem res3t {P : Program} {fn : Func} {a b c : Tmp} {t : TypeId} (h : fn.results = #[.cell a t, .tmp b, .tmp c]) {tmps : Array Value} {R : Addr} (hp : tmps.getD a undef = .pointer (some R)) {v : Value} {w : World} (hl : (loadVar t R).run P w = .ok v w) :
    (results fn tmps).run P w = .ok (.tuple #[v, tmps.getD b undef, tmps.getD c undef]) w := by
  rw [Array.getD_eq_getD_getElem?] at hp
  simp [results, h, hp, asAddr, hl]
/-- Of the sum of words: it is 65535 where it is a multiple and not 0. -/
theorem sumW_pos : ∀ (xs : List Int) (s : Int), Words xs → 0 < s → 0 < sumW s xs
  | [], s, _, h => h
  | x :: r, s, hw, h => by
    have hx := hw x (by simp)
    refine sumW_pos r (addW s x) (fun z hz => hw z (by simp [hz])) ?_
    unfold addW
    split <;> omega
/-- A row of one's own, as bytes to be read. -/
theorem OwnG.row {w : World} {g : Nat} {zs : List Int} (h : OwnG w g zs) (hf : Fit zs) (hl : zs.length ≤ 65535) (n cap : Nat) (hn : n ≤ zs.length) (hc : n ≤ cap) : RowC w (.slice (some ⟨g, 0, none⟩) n cap) (zs.take n) := by
  have e : (zs.take n).length = n := by simp; omega
  refine ⟨fun z hz => hf z (List.mem_of_mem_take hz), by omega, _, cap, by rw [e], by omega, .inr ⟨g, 0, rfl, h.lt, fun j hj => ?_⟩⟩
  rw [e] at hj
  rw [Nat.zero_add, h.cell j (by omega), List.getElem?_take, if_pos hj]
theorem BytesAt.front {n₀ : Nat} {W : World} {a : Option Addr} {m k : Nat} {zs : List Int} (h : BytesAt n₀ W (.slice a m k) zs) (N : Nat) (hN : N ≤ zs.length) : BytesAt n₀ W (.slice a N k) (zs.take N) := by
  obtain ⟨hf, hl, a', k', e, hz⟩ := h
  cases e
  have e : (zs.take N).length = N := by rw [List.length_take]; omega
  refine ⟨fun z hz => hf z (List.mem_of_mem_take hz), by omega, a, k, by rw [e], ?_⟩
  rcases hz with hz | ⟨b, off, rfl, hlt, hc⟩
  · left; omega
  · right
    refine ⟨b, off, rfl, hlt, fun j hj => ?_⟩
    rw [e] at hj
    rw [hc j (by omega), List.getElem?_take, if_pos hj]
theorem wpQuiet_mono {P : Program} {ops : Array Oper} {C : World → Prop} {K K' : Act → Prop} (h : ∀ a, K a → K' a) : ∀ (l : List Oper) (a : Act), wpQuiet P ops C K l a → wpQuiet P ops C K' l a
  | [], a, hh => h a hh
  | o :: l, a, hh => by
    unfold wpQuiet at hh ⊢
    split
    · next hw => rw [if_pos hw] at hh; exact Oper.quiet_mono (fun a' => wpQuiet_mono h l a') hh
    · next hw => rw [if_neg hw] at hh; exact wpQuiet_mono h l _ hh
def plainOp : Op → Bool
  | .move _ | .load _ _ | .indexAddr _ _ _ | .convert _ _ _ | .binOp _ _ _ _ _ | .build _ _ => true
  | _ => false
theorem plain_value {P : Program} {o : Oper} {a : Act} {w w' : World} {n : Next} (hp : plainOp o.op = true) (h : (execOp a.eval o).run P w = .ok n w') : ∃ x, n = .value x := by
  obtain ⟨dst, op, ty, pos, aft, gd⟩ := o
  simp only at hp
  unfold plainOp at hp
  split at hp
  all_goals first
    | (simp only [execOp, Sem.run_bind] at h
       revert h
       generalize (Sem.run P _ w) = r
       intro h
       cases r with
       | ok x w1 => simp [Result.andThen] at h; exact ⟨_, h.1.symm⟩
       | halt x w1 => simp [Result.andThen] at h)
    | (simp [execOp] at h; exact ⟨_, h.1.symm⟩)
    | (simp only [execOp, Sem.run_bind] at h
       revert h
       generalize (Sem.run P (eqGuard _ _ _ _ _ _) w) = r
       intro h
       cases r with
       | ok x w1 =>
         simp only [Result.andThen] at h
         revert h
         generalize (Sem.run P (binOp _ _ _ _) w1) = r2
         intro h
         cases r2 with
         | ok x2 w2 => simp [Result.andThen] at h; exact ⟨_, h.1.symm⟩
         | halt x2 w2 => simp [Result.andThen] at h
       | halt x w1 => simp [Result.andThen] at h)
    | cases hp
theorem quiet_run {P : Program} {o : Oper} {a : Act} {S : World → Prop} {w : World} {v : Value} (hp : plainOp o.op = true) (h : o.quietAt P a S w v) : (execOp a.eval o).run P w = .ok (.value v) w := by
  unfold Oper.quietAt at h
  generalize hr : (execOp a.eval o).run P w = r at h
  cases r with
  | ok n w' =>
    obtain ⟨x, rfl⟩ := plain_value hp hr
    simp only [Oper.quietUpon] at h
    obtain ⟨rfl, rfl⟩ := h
    rfl
  | halt x w' => simp only [Oper.quietUpon] at h
def headB (md : Region.Mode) (ops : Array Oper) : Nat → Nat → Array Bool → Bool
  | 0, _, _ => true
  | f + 1, k, listed => (Region.ready md ops listed).contains k && Region.free md ops listed k && headB md ops f (k + 1) (listed.setIfInBounds k true)
def markF (listed : Array Bool) (k : Nat) : Nat → Array Bool
  | 0 => listed
  | n + 1 => markF (listed.setIfInBounds k true) (k + 1) n
theorem held_of_quiet {P : Program} {ops : Array Oper} {Q : Exit → Act → World → Prop} {S : World → Prop} {md : Region.Mode} {fuel : Nat} {w : World} (hs : Region.noSelect ops = true) (hQ : ∀ c (a : Act) d v w, Q (.panic c) (a.put d v) w → Q (.panic c) a w) (hS : S w) :
    ∀ (l : List Oper) (k : Nat) (listed : Array Bool) (a : Act), (∀ j, j < l.length → l[j]? = ops[k + j]?) → headB md ops l.length k listed = true → (l.all fun o => plainOp o.op) = true →
      wpQuiet P ops S (fun a' => wpAnyH P md ops Q S fuel (markF listed k l.length) a' w) l a → wpAnyH P md ops Q S (fuel + l.length) listed a w
  | [], k, listed, a, _, _, _, h => h
  | o :: l, k, listed, a, hl, hB, hp, h => by
    have h0 : ops[k]? = some o := by simpa using (hl 0 (by simp)).symm
    simp only [List.length_cons, headB, Bool.and_eq_true] at hB
    obtain ⟨⟨hr, hf⟩, hB'⟩ := hB
    simp only [List.all_cons, Bool.and_eq_true] at hp
    have hl' : ∀ j, j < l.length → l[j]? = ops[k + 1 + j]? := fun j hj => by have := hl (j + 1) (by simp; omega); simpa [Nat.add_assoc, Nat.add_comm 1 j] using this
    have ih := fun a' => held_of_quiet (P := P) (fuel := fuel) hs hQ hS l (k + 1) (listed.setIfInBounds k true) a' hl' hB' hp.2
    show wpAnyH P md ops Q S ((fuel + l.length) + 1) listed a w
    unfold wpQuiet at h
    by_cases hw : Region.wanted o (yielded ops a.tmps) = true
    · rw [if_pos hw] at h
      obtain ⟨v, h1, h2⟩ := h
      exact wpAnyH_take h0 hs hf hr (fun c a w q => hQ c a _ _ w q) (.inl ⟨hw, fun u hu => quiet_run hp.1 (h1 u hu)⟩) hS (ih _ h2)
    · rw [if_neg hw] at h
      exact wpAnyH_take h0 hs hf hr (fun c a w q => hQ c a _ _ w q) (.inr ⟨by simpa using hw, rfl⟩) hS (ih _ h)
/-- The region, its last two operations by themselves. -/
theorem wp_region_box {P : Program} {id : Nat} {Q : Exit → Act → World → Prop} {a : Act} {w : World} {l : List Oper} (n : Nat) {oA oS : Oper} (S : World → Prop) (hm : P.follows .mixedOrders = true) (hs : Region.noSelect l.toArray = true) (hQ : ∀ c (a : Act) d v w, Q (.panic c) (a.put d v) w → Q (.panic c) a w)
    (hS : S w.drew) (hn : l.length = n + 2) (hB : headB .any l.toArray n 0 (Array.replicate l.toArray.size false) = true) (hp : ((l.take n).all fun o => plainOp o.op) = true)
    (r1 : Region.ready .any l.toArray (markF (Array.replicate l.toArray.size false) 0 n) = [n]) (r2 : Region.ready .any l.toArray ((markF (Array.replicate l.toArray.size false) 0 n).setIfInBounds n true) = [n + 1])
    (r3 : Region.ready .any l.toArray (((markF (Array.replicate l.toArray.size false) 0 n).setIfInBounds n true).setIfInBounds (n + 1) true) = [])
    (hA : l[n]? = some oA) (hS' : l[n + 1]? = some oS) (gA : oA.guard = none) (gS : oS.guard = none)
    (h : wpQuiet P l.toArray S (fun a' => oA.wp P a' w.drew (fun a2 w2 => S w2 ∧ oS.wp P a2 w2 (fun a3 w3 => S w3 ∧ Q .normal a3 w3) Q) Q) (l.take n) a) : (Code.region id l.toArray true).wp P Q a w := by
  refine wp_region_held (S := S) hm ?_
  have hsz : l.toArray.size = 2 + (l.take n).length := by simp; omega
  have htl : (l.take n).length = n := by simp; omega
  show wpAnyH P .any l.toArray Q S l.toArray.size (Array.replicate l.toArray.size false) a w.drew
  have key := held_of_quiet (P := P) (ops := l.toArray) (Q := Q) (S := S) (md := .any) (fuel := 2) (w := w.drew) hs hQ hS (l.take n) 0 (Array.replicate l.toArray.size false) a (fun j hj => by rw [htl] at hj; simp [List.getElem?_take, hj]) (by rw [htl]; exact hB) hp
  rw [htl] at key
  rw [show l.toArray.size = 2 + n by simp; omega] at *
  refine key ?_
  refine wpQuiet_mono (fun a' ha => ?_) _ _ h
  refine wpAnyH_all (rs := [n]) r1 (by simp) ?_
  intro i hi
  obtain rfl : i = n := by simpa using hi
  unfold wpOp
  rw [show l.toArray[i]? = some oA by simpa using hA]
  simp only
  rw [if_pos (by simp [Region.wanted, gA])]
  refine .inl (Oper.wp_mono (fun a2 w2 h2 => ⟨h2.1, ?_⟩) ha)
  refine wpAnyH_all (rs := [i + 1]) r2 (by simp) ?_
  intro j hj
  obtain rfl : j = i + 1 := by simpa using hj
  unfold wpOp
  rw [show l.toArray[i + 1]? = some oS by simpa using hS']
  simp only
  rw [if_pos (by simp [Region.wanted, gS])]
  refine .inl (Oper.wp_mono (fun a3 w3 h3 => ⟨h3.1, ?_⟩) h2.2)
  exact wpAnyH_done r3 h3.2 _
theorem RowC.of_bytes {w : World} {a : Option Addr} {n cap : Nat} {zs : List Int} (h : BytesAt w.heap.size w (.slice a n cap) zs) (hc : n ≤ cap) : RowC w (.slice a n cap) zs := by
  obtain ⟨hf, hl, a', cap', e, hz⟩ := h
  cases e
  exact ⟨hf, hl, _, _, rfl, hc, hz⟩
set_option maxRecDepth 100000 in
theorem open_row {H : Type} {enc : TypeId × Value → H} {W : World} {base : Nat} {v : Value} {d : DataW H} {p : List MemPlace} (hval : Value.okWide Tryz.prog W .any base 25 v)
    (h : DataW.Trod enc Tryz.prog W 0 (fun _ => true) true 25 v d p) (hz : ∀ k ∈ d.weights Tryz.prog 25, k ≤ reachBytes) : ∃ zs, RowC W v zs := by
  obtain ⟨a, len, cap, rfl⟩ := okWide_slice Tryz.underlying25 hval
  obtain ⟨fuel, hf⟩ := h
  obtain ⟨v', zs, hcs, hb⟩ := open_bytes1 hf hz
  simp [Value.cells] at hcs
  subst hcs
  refine ⟨zs, .of_bytes hb ?_⟩
  rcases open_ints Tryz.underlying25 Tryz.underlying5 (by kernel_rfl) hf with ⟨hcs, _⟩ | ⟨x, l, c, zs, hcs, _, hl, hm, hz, _, hcell, hwz⟩
  · simp [Value.cells] at hcs
    omega
  · simp [Value.cells] at hcs
    omega
/-- 'append([]byte{}, v...)': a copy of its own, where it lies, and that it is open. -/
theorem bytes_copied3 {w : World} {v : Value} {zs : List Int} (h : BytesAt w.heap.size w v zs) (B : Nat) (ty : TypeId) :
    ∃ b cap w2, (Builtin.append_ #[25, 25] ty #[.slice (some ⟨B, 0, none⟩) 0 0, v]).run Tryz.prog w = .ok (.slice (some ⟨b, 0, none⟩) zs.length cap) w2 ∧ zs.length ≤ cap ∧ Below w.heap.size w w2 ∧ ((zs = [] ∧ b = B) ∨ (w.heap.size ≤ b ∧ OwnG w2 b zs)) := by
  obtain ⟨i, hi, hz, hs, hb⟩ := info_parts info_u8
  obtain ⟨hf, hl, a, cap, rfl, hv⟩ := h
  have src : ∃ news : List Value, news = zs.map (fun z => Value.int .u8 z) ∧ Src Tryz.prog i.size 25 (.slice a zs.length cap) zs.length news w := by
    refine ⟨_, rfl, ?_⟩
    rw [hs]
    rcases hv with hv | ⟨b, off, rfl, hlt, hc⟩
    · obtain rfl : zs = [] := List.length_eq_zero_iff.1 hv
      cases a with
      | none => exact Src.ofNil w Tryz.underlying25 cap
      | some x => exact Src.ofSlice w Tryz.underlying25 x 0 cap [] rfl (fun j u hj => by simp at hj) (fun u hu => by cases hu)
    · refine Src.ofSlice w Tryz.underlying25 _ _ cap _ (by simp) (fun j u hj => ?_) (fun u hu => ?_)
      · rw [List.getElem?_map] at hj
        obtain ⟨z, hz, rfl⟩ := Option.map_eq_some_iff.1 hj
        have hjl := (List.getElem?_eq_some_iff.1 hz).1
        have := hc j hjl
        rw [hz] at this
        rw [Go.WideShapes.add_plain]
        exact this
      · obtain ⟨z, _, rfl⟩ := List.mem_map.1 hu
        rfl
  obtain ⟨news, hnews, hsrc⟩ := src
  by_cases h0 : zs.length = 0
  · obtain rfl : zs = [] := List.length_eq_zero_iff.1 h0
    have hr := run_append_room_src w 25 25 ty 5 i Tryz.underlying25 hi B 0 0 0 _ 0 news hsrc (Nat.le_refl _) (fun j hj => by rw [hnews] at hj; simp at hj) (fun j hj => by rw [hnews] at hj; simp at hj)
    subst hnews
    exact ⟨_, _, _, hr, Nat.le_refl _, Below.refl _ _, .inl ⟨rfl, rfl⟩⟩
  · have hold : (Builtin.firstCells i.size 0 (.slice (some ⟨B, 0, none⟩) 0 0)).run Tryz.prog w.drew = .ok ([] : List Value).toArray w.drew := by
      exact run_firstCells_some w.drew i.size 0 ⟨B, 0, none⟩ 0 0 [] (by simp) (fun j u hj => by simp at hj)
    have hr := run_append_grow_src w 25 25 ty 5 i (.int .u8 0) Tryz.underlying25 hi hz (some ⟨B, 0, none⟩) 0 0 [] hold _ zs.length news hsrc (by omega) (by omega) (by
      rw [hb]
      have : Builtin.nextslicecap (0 + zs.length) 0 = zs.length := by
        unfold Builtin.nextslicecap
        simp
        intro e
        rw [e]; rfl
      omega)
    simp only [Nat.zero_add, List.nil_append] at hr
    refine ⟨_, _, _, hr, grownCap_ge _ _ _ _, ((Below.refl _ w).drew).alloc (Nat.le_refl _) _, .inr ⟨Nat.le_refl _, ⟨⟨_, _, blk_new w.drew _⟩, fun j hj => ?_⟩⟩⟩
    have hn := World.alloc_heap_new w.drew (.cells ((news.toArray ++ Builtin.zeroCells (Value.int .u8 0).cells (grownCap w zs.length 0 5 - zs.length))) 5)
    simp only [World.cell?]
    rw [show w.heap.size = w.drew.heap.size from rfl, hn, hnews]
    simp [Array.getElem?_append, hj]
theorem ev_same (a : Act) (k : Nat) (v : Value) (h : k < a.tmps.size) : (a.put (some k) v).eval (.tmp k) = v := by
  simp [Act.put, Act.eval, h]
theorem ev_other (a : Act) (k j : Nat) (v : Value) (h : k ≠ j) : (a.put (some k) v).eval (.tmp j) = a.eval (.tmp j) := by
  simp [Act.put, Act.eval, Array.getElem?_setIfInBounds, h]
theorem sz_put (a : Act) (d : Option Nat) (v : Value) : (a.put d v).tmps.size = a.tmps.size := by
  cases d <;> simp [Act.put]
theorem wp_build {o : Oper} {a : Act} {d : Option Nat} {w : World} {K : Act → World → Prop} {Q : Exit → Act → World → Prop} (hop : o.op = Op.buildSlice 25 0 #[]) (hd : o.dst = d) (hK : K (a.put d (.slice (some ⟨w.heap.size, 0, none⟩) 0 0)) (w.alloc (.cells #[] 5))) : o.wp Tryz.prog a w K Q := by
  subst hd
  unfold Oper.wp
  simp [execOp, hop, go_sem]
  exact hK
theorem wp_append {o : Oper} {a : Act} {d : Option Nat} {w w2 : World} {K : Act → World → Prop} {Q : Exit → Act → World → Prop} (s x : Operand) (t : TypeId) (hop : o.op = Op.call { callee := Callee.builtin Builtin.append, args := #[s, x], argTypes := #[t, t] }) (hd : o.dst = d) {vs vx v : Value} (hs : a.eval s = vs) (hx : a.eval x = vx) (hrun : (Builtin.append_ #[t, t] o.type #[vs, vx]).run Tryz.prog w = .ok v w2) (hK : K (a.put d v) w2) : o.wp Tryz.prog a w K Q := by
  subst hd
  unfold Oper.wp
  simp [execOp, hop, resolve, invoke, builtin, hs, hx, hrun, Result.andThen]
  exact hK
theorem wpOp_none {P : Program} {ops : Array Oper} {i : Nat} {o : Oper} {K : Act → World → Prop} {Q : Exit → Act → World → Prop} {a : Act} {w : World} (hi : ops[i]? = some o) (hg : o.guard = none) (h : o.wp P a w K Q) : wpOp P ops Q i K a w := by
  unfold wpOp
  rw [hi]
  simp only
  rw [if_pos (by simp [Region.wanted, hg])]
  exact .inl h
theorem all_one {P : Program} {ops : Array Oper} {Q : Exit → Act → World → Prop} {md : Region.Mode} {S : World → Prop} {i : Nat} {o : Oper} {fuel : Nat} {listed : Array Bool} {a : Act} {w : World} (hr : Region.ready md ops listed = [i]) (hi : ops[i]? = some o) (hg : o.guard = none)
    (h : o.wp P a w (fun a' w' => S w' ∧ wpAnyH P md ops Q S fuel (listed.setIfInBounds i true) a' w') Q) : wpAnyH P md ops Q S (fuel + 1) listed a w := by
  refine wpAnyH_all (rs := [i]) hr (by simp) ?_
  intro j hj
  obtain rfl : j = i := by simpa using hj
  exact wpOp_none hi hg h
theorem all_two {P : Program} {ops : Array Oper} {Q : Exit → Act → World → Prop} {md : Region.Mode} {S : World → Prop} {i1 i2 : Nat} {o1 o2 : Oper} {fuel : Nat} {listed : Array Bool} {a : Act} {w : World} (hr : Region.ready md ops listed = [i1, i2]) (h1 : ops[i1]? = some o1) (g1 : o1.guard = none) (h2 : ops[i2]? = some o2) (g2 : o2.guard = none)
    (k1 : o1.wp P a w (fun a' w' => S w' ∧ wpAnyH P md ops Q S fuel (listed.setIfInBounds i1 true) a' w') Q) (k2 : o2.wp P a w (fun a' w' => S w' ∧ wpAnyH P md ops Q S fuel (listed.setIfInBounds i2 true) a' w') Q) : wpAnyH P md ops Q S (fuel + 1) listed a w := by
  refine wpAnyH_all (rs := [i1, i2]) hr (by simp) ?_
  intro j hj
  simp at hj
  rcases hj with rfl | rfl
  · exact wpOp_none h1 g1 k1
  · exact wpOp_none h2 g2 k2
theorem take_one {d : Option Nat} {P : Program} {ops : Array Oper} {Q : Exit → Act → World → Prop} {md : Region.Mode} {S : World → Prop} {i : Nat} {o : Oper} {v : Value} {fuel : Nat} {listed : Array Bool} {a : Act} {w : World} (hi : ops[i]? = some o) (hg : o.guard = none) (hd : o.dst = d)
    (hs : Region.noSelect ops = true) (hf : Region.free md ops listed i = true) (hr : (Region.ready md ops listed).contains i = true) (hQ : ∀ c (a : Act) d v w, Q (.panic c) (a.put d v) w → Q (.panic c) a w)
    (hy : ∀ w, S w → (execOp a.eval o).run P w = .ok (.value v) w) (hS : S w) (h : wpAnyH P md ops Q S fuel (listed.setIfInBounds i true) (a.put d v) w) : wpAnyH P md ops Q S (fuel + 1) listed a w :=
  wpAnyH_take hi hs hf hr (fun c a w q => hQ c a _ _ w q) (.inl ⟨by simp [Region.wanted, hg], hy⟩) hS (hd ▸ h)
theorem ex_load {o : Oper} {a : Act} {W : World} (k : Nat) {p : Addr} {v : Value} (hop : o.op = Op.load 25 (.tmp k)) (hk : a.eval (.tmp k) = .pointer (some p)) (hc : W.cell? p = some v) (hv : ∃ x n m, v = .slice x n m) :
    (execOp a.eval o).run Tryz.prog W = .ok (.value v) W := by
  obtain ⟨x, n, m, rfl⟩ := hv
  generalize a.eval = ev at *
  simp [execOp, hop, hk, hc, go_sem]
theorem wp_store {o : Oper} {a : Act} {w : World} {K : Act → World → Prop} {Q : Exit → Act → World → Prop} (k j : Nat) {p : Addr} {v : Value} (hop : o.op = Op.store 25 (.tmp k) (.tmp j)) (hd : o.dst = none) (hk : a.eval (.tmp k) = .pointer (some p)) (hj : a.eval (.tmp j) = v) (hv : ∃ x n m, v = .slice x n m) (hc : (w.cell? p).isSome = true) (hf : w.frozen? p = false) (hK : K a (w.setCell p v)) : o.wp Tryz.prog a w K Q := by
  obtain ⟨x, n, m, rfl⟩ := hv
  obtain ⟨y, hy⟩ := Option.isSome_iff_exists.1 hc
  unfold Oper.wp
  generalize a.eval = ev at *
  simp [execOp, hop, hk, hj, hy, hf, hd, go_sem]
  exact hK
/-- A copy of bytes that lies above an old world. -/
structure CopyAt (B : Nat) (W : World) (b k : Nat) (zs : List Int) : Prop where
  lo : B ≤ b
  lt : b < W.heap.size
  cap : zs.length ≤ k
  own : zs = [] ∨ OwnG W b zs
theorem CopyAt.on {B b k : Nat} {W W' : World} {zs : List Int} (h : CopyAt B W b k zs) (hb : Below W.heap.size W W') : CopyAt B W' b k zs := ⟨h.lo, Nat.lt_of_lt_of_le h.lt hb.size, h.cap, h.own.imp (fun h => h) (fun h => h.kept h.lt hb)⟩
theorem copy_run {w W : World} {v : Value} {zs : List Int} (h : BytesAt w.heap.size w v zs) (hB : Below w.heap.size w W) {B : Nat} (hlo : w.heap.size ≤ B) (hlt : B < W.heap.size) (ty : TypeId) :
    ∃ b k W2, (Builtin.append_ #[25, 25] ty #[.slice (some ⟨B, 0, none⟩) 0 0, v]).run Tryz.prog W = .ok (.slice (some ⟨b, 0, none⟩) zs.length k) W2 ∧ Below W.heap.size W W2 ∧ CopyAt w.heap.size W2 b k zs := by
  obtain ⟨b, k, W2, hrun, hk, hb, hown⟩ := bytes_copied3 (h.later hB) B ty
  refine ⟨b, k, W2, hrun, hb, ?_, ?_, hk, ?_⟩
  · rcases hown with ⟨_, rfl⟩ | ⟨h1, _⟩
    · exact hlo
    · exact Nat.le_trans hB.size h1
  · rcases hown with ⟨_, rfl⟩ | ⟨_, h1⟩
    · exact Nat.lt_of_lt_of_le hlt hb.size
    · exact h1.lt
  · exact hown.imp (fun h => h.1) (fun h => h.2)
theorem put_swap (a : Act) (j k : Nat) (v u : Value) (h : j ≠ k) : (a.put (some j) v).put (some k) u = (a.put (some k) u).put (some j) v :=
  Act.put_comm a v u (fun d e e' => by cases e; cases e'; exact h rfl)
theorem CopyAt.bytes {B b k : Nat} {W : World} {zs : List Int} (h : CopyAt B W b k zs) (hf : Fit zs) (hl : zs.length ≤ 140737488351232) : BytesAt W.heap.size W (.slice (some ⟨b, 0, none⟩) zs.length k) zs := by
  rcases h.own with rfl | ho
  · exact ⟨hf, hl, _, _, rfl, .inl rfl⟩
  · have := ho.bytes hf hl 0 zs.length k (by simp)
    simpa using this
theorem OwnG.off {W W' : World} {b g : Nat} {zs : List Int} (h : OwnG W b zs) (ho : Only g W W') (hne : b ≠ g) : OwnG W' b zs := by
  obtain ⟨cs, t, hc⟩ := h.typed
  have := ho.other b hne
  refine ⟨⟨cs, t, this.trans hc⟩, fun j hj => ?_⟩
  rw [← h.cell j hj]
  simp [World.cell?, this]
theorem CopyAt.off {B b k g : Nat} {W W' : World} {zs : List Int} (h : CopyAt B W b k zs) (ho : Only g W W') (hne : g < B) : CopyAt B W' b k zs :=
  ⟨h.lo, by rw [ho.size]; exact h.lt, h.cap, h.own.imp (fun h => h) (fun o => o.off ho (by have := h.lo; omega))⟩
theorem store_wp {P : Program} {o : Oper} {a : Act} {w w2 : World} {K : Act → World → Prop} {Q : Exit → Act → World → Prop} (p x : Operand) (t : TypeId) (hop : o.op = Op.store t p x) {vp vx : Value} (hp : a.eval p = vp) (hx : a.eval x = vx) (hrun : (Instr.storeAt t vp vx).run P w = .ok () w2) (hK : K (a.put o.dst (.tuple #[])) w2) : o.wp P a w K Q := by
  unfold Oper.wp
  simp [execOp, hop, hp, hx, hrun, Result.andThen]
  exact hK
theorem arm_slice {P : Program} {w : World} {ops : Array Oper} {rest : List Oper} {o : Oper} {a : Act} {Q : Exit → Act → World → Prop} (hg : Region.wanted o (yielded ops a.tmps) = true) (t : TypeId) (x : Operand) (lo hi : Option Operand)
    (hop : o.op = Op.slice t x lo hi none) {vx : Value} {vlo vhi : Option Value} (hx : a.eval x = vx) (hlo : lo.map a.eval = vlo) (hhi : hi.map a.eval = vhi) {v : Value} (hrun : (Instr.sliceAt t vx vlo vhi none).run P w = .ok v w) (hK : wpList P ops Q rest (a.put o.dst v) w) : wpList P ops Q (o :: rest) a w := by
  refine BigFrame.wpList_want hg fun K hK' => ?_
  unfold Oper.wp
  simp [execOp, hop, hx, hlo, hhi, hrun, Result.andThen]
  exact hK' _ _ hK
/-- Bytes that are left, in a block of an older world. -/
structure RowS (w : World) (s : Value) (ys : List Int) (b off cap : Nat) : Prop where
  val : s = .slice (some ⟨b, off, none⟩) ys.length cap
  room : ys.length ≤ cap
  lt : b < w.heap.size
  cell : ∀ j, j < ys.length → w.cell? ⟨b, off + j, none⟩ = some (.int .u8 (gz ys j))
  fit : Fit ys
  len : ys.length ≤ 140737488351232
theorem RowS.row {w : World} {s : Value} {ys : List Int} {b off cap : Nat} (h : RowS w s ys b off cap) : RowC w s ys :=
  ⟨h.fit, h.len, _, _, h.val, h.room, .inr ⟨b, off, rfl, h.lt, h.cell⟩⟩
theorem RowC.rowS {w : World} {s : Value} {ys : List Int} (h : RowC w s ys) (h0 : 0 < ys.length) : ∃ b off cap, RowS w s ys b off cap := by
  obtain ⟨b, off, cap, e, h1, h2, h3⟩ := h.some h0
  exact ⟨b, off, cap, e, h1, h2, h3, h.fit, h.len⟩
theorem gz_drop (ys : List Int) (n j : Nat) : gz (ys.drop n) j = gz ys (n + j) := by simp [gz]
theorem RowS.rest {w : World} {s : Value} {ys : List Int} {b off cap : Nat} (h : RowS w s ys b off cap) (n : Nat) (hn : n ≤ ys.length) : RowS w (restV b off ys.length cap n) (ys.drop n) b (nxt off cap n) (cap - n) := by
  have hr := h.room
  refine ⟨by rw [restV_eq]; simp, by simp; omega, h.lt, fun j hj => ?_, fun z hz => h.fit z (List.mem_of_mem_drop hz), by have := h.len; simp; omega⟩
  simp only [List.length_drop] at hj
  rw [gz_drop, ← h.cell (n + j) (by omega)]
  unfold nxt
  rw [if_neg (by omega), Nat.add_assoc]
/-- Nothing old but one block is turned. -/
structure But (R : Nat) (w w' : World) : Prop where
  os : w'.os = w.os
  tape : w'.tape = w.tape
  output : w'.output = w.output
  size : w.heap.size ≤ w'.heap.size
  other : ∀ j, j < w.heap.size → j ≠ R → w'.heap[j]? = w.heap[j]?
section
variable {R : Nat} {u v w : World}
theorem But.refl (R : Nat) (w : World) : But R w w := ⟨rfl, rfl, rfl, Nat.le_refl _, fun _ _ _ => rfl⟩
theorem But.trans (h : But R u v) (g : But R v w) : But R u w :=
  ⟨g.os.trans h.os, g.tape.trans h.tape, g.output.trans h.output, Nat.le_trans h.size g.size, fun j hj hn => (g.other j (Nat.lt_of_lt_of_le hj h.size) hn).trans (h.other j hj hn)⟩
theorem But.of_only (h : Only R u v) : But R u v := ⟨h.os, h.tape, h.output, by rw [h.size]; exact Nat.le_refl _, fun j _ hn => h.other j hn⟩
theorem But.of_below (h : Below u.heap.size u v) : But R u v := ⟨h.os, h.tape, h.output, h.size, fun j hj _ => h.block j hj⟩
theorem But.drew (h : But R u v) : But R u v.drew := ⟨h.os, h.tape, h.output, h.size, h.other⟩
theorem But.alloc (h : But R u v) (o : Obj) : But R u (v.alloc o) := h.trans (.of_below ((Below.refl _ v).alloc (Nat.le_refl _) o))
theorem But.blk (h : But R u v) {j : Nat} {o : Obj} (hj : u.heap[j]? = some o) (hn : j ≠ R) : v.heap[j]? = some o := (h.other j (Array.getElem?_eq_some_iff.1 hj).1 hn).trans hj
theorem But.off (h : But R u v) {g : Nat} (ho : Only g v w) (hg : u.heap.size ≤ g) : But R u w := ⟨ho.os.trans h.os, ho.tape.trans h.tape, ho.output.trans h.output, by rw [ho.size]; exact h.size, fun j hj hn => (ho.other j (by omega)).trans (h.other j hj hn)⟩
theorem But.below (h : But R u v) {B : Nat} (hB : B ≤ R) (hu : B ≤ u.heap.size) : Below B u v := ⟨h.os, h.tape, h.output, h.size, fun j hj => h.other j (by omega) (by omega)⟩
end
theorem res1t {P : Program} {fn : Func} {a : Tmp} {t : TypeId} (h : fn.results = #[.cell a t]) {tmps : Array Value} {R : Addr} (hp : tmps.getD a undef = .pointer (some R)) {v : Value} {w : World} (hl : (loadVar t R).run P w = .ok v w) :
    (results fn tmps).run P w = .ok v w := by
  rw [Array.getD_eq_getD_getElem?] at hp
  simp [results, h, hp, asAddr, hl]
theorem res2t {P : Program} {fn : Func} {a b : Tmp} {t : TypeId} (h : fn.results = #[.cell a t, .tmp b]) {tmps : Array Value} {R : Addr} (hp : tmps.getD a undef = .pointer (some R)) {v : Value} {w : World} (hl : (loadVar t R).run P w = .ok v w) :
    (results fn tmps).run P w = .ok (.tuple #[v, tmps.getD b undef]) w := by
  rw [Array.getD_eq_getD_getElem?] at hp
  simp [results, h, hp, asAddr, hl]
def leftLen (W : World) (R : Nat) : Nat := match W.cell? ⟨R, 0, none⟩ with | some (.slice _ n _) => n | _ => 0
theorem bytes_keep {W W' : World} {v : Value} {zs : List Int} (h : BytesAt W.heap.size W v zs) (hl : zs.length = 0 ∨ ∃ b off n k, v = .slice (some ⟨b, off, none⟩) n k ∧ b < W'.heap.size ∧ W'.heap[b]? = W.heap[b]?) : BytesAt W'.heap.size W' v zs := by
  obtain ⟨hf, hle, a, cap, rfl, hz⟩ := h
  refine ⟨hf, hle, a, cap, rfl, ?_⟩
  rcases hz with hz | ⟨b, off, rfl, hlt, hc⟩
  · exact .inl hz
  · rcases hl with hl | ⟨b', off', n, k, e, hs, hb⟩
    · exact .inl hl
    · cases e
      refine .inr ⟨b, off, rfl, hs, fun j hj => ?_⟩
      rw [← hc j hj]
      simp [World.cell?, hb]
theorem loc_both {W : World} {u : Value} {D : List Int} {s : Nat} (h : BytesAt W.heap.size W u D) (hl : D.length = 0 ∨ ∃ b off n k, u = .slice (some ⟨b, off, none⟩) n k ∧ s ≤ b) : D.length = 0 ∨ ∃ b off n k, u = .slice (some ⟨b, off, none⟩) n k ∧ s ≤ b ∧ b < W.heap.size := by
  rcases hl with hl | ⟨b, off, n, k, rfl, hs⟩
  · exact .inl hl
  · obtain ⟨_, _, a, cap, e, hz⟩ := h
    rcases hz with hz | ⟨b', off', rfl, hlt, _⟩
    · exact .inl hz
    · cases e
      exact .inr ⟨_, _, _, _, rfl, hs, hlt⟩
theorem weights_mem_all {H : Type} {P : Program} {e : TypeId} : ∀ {l : List (DataW H)} {d : DataW H}, d ∈ l → ∀ n ∈ d.weights P e, n ∈ DataW.weightsAll P e l
  | x :: l, d, hd, n, hn => by
    simp only [DataW.weightsAll, List.mem_append]
    rcases List.mem_cons.1 hd with rfl | h
    · exact Or.inl hn
    · exact Or.inr (weights_mem_all h n hn)
/-- A row of bytes of one's own at or above base, in a world over w. -/
structure OB (base : Nat) (w wx : World) (v : Value) (zs : List Int) : Prop where
  own : wx.ownsRow base 5 1 v zs.length (bytesV zs)
  bel : Below base w wx
theorem OB.below {base : Nat} {w wx wy : World} {v : Value} {zs : List Int} (h : OB base w wx v zs) (hs : base ≤ wx.heap.size) (hb : Below wx.heap.size wx wy) : OB base w wy v zs :=
  ⟨own_below h.own hb, h.bel.trans (hb.mono hs)⟩
/-- Every block of cells that are no bytes stays. -/
def Keep (w w' : World) : Prop := ∀ (k : Nat) (cs : Array Value) (t : TypeId) (f : Nat × Nat), t ≠ 5 → w.heap[k]? = some (.cells cs t f) → w'.heap[k]? = some (.cells cs t f)
theorem Keep.refl (w : World) : Keep w w := fun _ _ _ _ _ h => h
theorem Keep.trans {a b c : World} (h : Keep a b) (g : Keep b c) : Keep a c := fun k cs t f ht e => g k cs t f ht (h k cs t f ht e)
theorem Keep.below {w w' : World} (h : Below w.heap.size w w') : Keep w w' := fun k cs t f _ e => (h.block k (Array.getElem?_eq_some_iff.1 e).1).trans e
theorem Keep.grown {w w' : World} {base n : Nat} {v : Value} {xs : List Value} (hown : w.ownsRow base 5 1 v n xs) (h : w.grownBy w' v.ownBlock) : Keep w w' := fun k cs t f ht e => by
  refine (h.block k (Array.getElem?_eq_some_iff.1 e).1 (fun hk => ?_)).trans e
  rcases hown.2 with ⟨rfl, _⟩ | ⟨g, cap, cur, rfl, _, hg, _⟩
  · simp [Value.ownBlock] at hk
  · simp [Value.ownBlock] at hk
    subst hk
    rw [e] at hg
    simp at hg
    exact ht hg.2.1
theorem OB.app {base : Nat} {w wx : World} {v u : Value} {zs ys : List Int} (h : OB base w wx v zs) (hs : base ≤ wx.heap.size) (hb : BytesAt wx.heap.size wx u ys) (hl : zs.length + ys.length ≤ 1000000) (ty : TypeId) :
    ∃ v' wy, (Builtin.append_ #[25, 25] ty #[v, u]).run Tryz.prog wx = .ok v' wy ∧ OB base w wy v' (zs ++ ys) ∧ base ≤ wy.heap.size ∧ Keep wx wy := by
  obtain ⟨a, cap, rfl, _⟩ := hb.val
  obtain ⟨v', wy, hrun, hown, hgr⟩ := own_bytes_more (w0 := wx) h.own hs hb hl ty
  have hB : Below base wx wy := (Below.refl _ wx).grown hgr hs (fun j hj => (h.own.lt j hj).1)
  refine ⟨v', wy, hrun, ⟨?_, h.bel.trans hB⟩, Nat.le_trans hs hB.size, Keep.grown h.own hgr⟩
  rw [List.length_append]
  have e : bytesV (zs ++ ys) = bytesV zs ++ bytesV ys := by simp [bytesV]
  rw [e]
  exact hown
theorem OB.lit {base : Nat} {w wx : World} {v : Value} {zs : List Int} (h : OB base w wx v zs) (hs : base ≤ wx.heap.size) (ys : List Int) (us : Array Value) (hu : us = (ys.map (fun z => Value.int .u8 z)).toArray) (hf : Fit ys) (hl : zs.length + ys.length ≤ 1000000) (n : Nat) (hn : n = ys.length) (ty : TypeId) :
    ∃ v' wy, (Builtin.append_ #[25, 25] ty #[v, .slice (some ⟨wx.heap.size, 0, none⟩) n n]).run Tryz.prog (wx.alloc (.cells us 5)) = .ok v' wy ∧ OB base w wy v' (zs ++ ys) ∧ base ≤ wy.heap.size ∧ Keep wx wy := by
  have hb := (Below.refl wx.heap.size wx).alloc (Nat.le_refl _) (.cells us 5)
  obtain ⟨v', wy, h1, h2, h3, h4⟩ := (h.below hs hb).app (Nat.le_trans hs hb.size) (bytes_new wx 5 ys us n n (bytes_lit ys us hu) hn (by omega) hf) hl ty
  exact ⟨v', wy, h1, h2, h3, (Keep.below hb).trans h4⟩
end Go.Proofs.YtpgnnplpcalbbaaGreat
namespace Go.Proofs.YtpgnnplpcalbbaaGreat
open Go Go.RowKit Go.ChangeShapes Go.WideShapes Go.ChangeAt
set_option maxHeartbeats 1000000 in
set_option maxRecDepth 100000 in
theorem ROf_calls (a : Option Addr) (n cap : Nat) (ps : List (List Int)) (w : World) (hp : PartsAt w.heap.size w (.slice a n cap) ps) (hl : ps.flatten.length ≤ 100000) :
    Calls Tryz.prog 114 #[.slice a n cap] w fun e w' => e = .returned (.int .u16 (65535 - sumW 0 (wordsL ps.flatten))) ∧ Below w.heap.size w w' := by
  have hf := fold_ref a n cap ps w hp hl
  have hr := sumW_range (wordsL ps.flatten) 0 (by decide) (wordsL_words hp.fit)
  have HF : Hid _ := hf
  clear hf hp
  generalize sumW 0 (wordsL ps.flatten) = s at *
  go_enter Tryz.func114, Tryz.ntmps114
  go_wp2_with fail
  refine Calls.mono HF.out ?_
  rintro e w1 ⟨rfl, hb⟩
  have h1 : (65535 - s) % 65536 = 65535 - s := by omega
  go_wp2
  go_ret
  exact ⟨rfl, hb⟩
theorem cells_arr4 {H : Type} {enc : TypeId × Value → H} {w : World} {base : Nat} {spare : Nat → Bool} {held : Bool} {fuel : Nat} {cs : List Value} {x : DataW H × List MemPlace}
    (h : DataW.trod enc Tryz.prog w base spare held fuel 24 cs = some x) : ∃ s0 s1 s2 s3 : Int, cs = [.int .u8 s0, .int .u8 s1, .int .u8 s2, .int .u8 s3] ∧ Fit [s0, s1, s2, s3] := by
  obtain ⟨xs, m, _, _, hl, hx, hi⟩ := DataW.trod_array Tryz.underlying24 h
  have ct : Tryz.prog.cellsOf 24 = 4 := by kernel_rfl
  have ce : Tryz.prog.cellsOf 5 = 1 := by kernel_rfl
  rw [ct] at hl
  have each : ∀ i, i < 4 → ∃ z : Int, cs[i]? = some (.int .u8 z) ∧ 0 ≤ z ∧ z < 256 := by
    intro i hin
    have h1 := hi i hin
    rw [ce, Nat.mul_one, List.getElem?_eq_getElem (by omega)] at h1
    obtain ⟨z, e, _, wf⟩ := DataW.trod_int Tryz.underlying5 h1
    have hb := bounds_u8 wf
    refine ⟨z, ?_, by omega, by omega⟩
    have e2 := congrArg (fun l : List Value => l[0]?) e
    simpa [List.getElem?_take, List.getElem?_drop] using e2
  obtain ⟨a, ha, fa⟩ := each 0 (by decide)
  obtain ⟨b, hb, fb⟩ := each 1 (by decide)
  obtain ⟨c, hc, fc⟩ := each 2 (by decide)
  obtain ⟨d, hd, fd⟩ := each 3 (by decide)
  obtain ⟨x0, x1, x2, x3, rfl⟩ := listV4 hl
  simp at ha hb hc hd
  subst ha hb hc hd
  refine ⟨a, b, c, d, rfl, fun z hz => ?_⟩
  simp at hz
  rcases hz with rfl | rfl | rfl | rfl <;> assumption
theorem eq_arr4 (d : Nat) (zs ys : List Int) (h : Fit zs) (g : Fit ys) (hl : zs.length = 4) (gl : ys.length = 4) (W : World) :
    (Op.equalIn (d + 2) 24 (.agg (zs.map (fun z => Value.int .u8 z)).toArray) (.agg (ys.map (fun z => Value.int .u8 z)).toArray)).run Tryz.prog W = .ok (decide (zs = ys)) W := by
  have := run_equalIn_bytes (P := Tryz.prog) W d 24 5 4 Tryz.underlying24 Tryz.underlying5 (fun w => by simp [go_sem]) (zs.map (fun z => UInt8.ofNat z.toNat)) (ys.map (fun z => UInt8.ofNat z.toNat)) (by simpa using hl) (by simpa using gl)
  rw [bytes_inj zs ys h g] at this
  have e1 := cells_back zs h
  have e2 := cells_back ys g
  rw [← e1, ← e2]
  exact this
set_option maxHeartbeats 1000000 in
set_option maxRecDepth 100000 in
theorem Clone_calls (v : Value) (zs : List Int) (w : World) (h : BytesAt w.heap.size w v zs) :
    Calls Tryz.prog 129 #[v] w fun e w' => ∃ u, e = .returned u ∧ BytesAt w'.heap.size w' u zs ∧ Below w.heap.size w w' ∧ (zs.length = 0 ∨ ∃ b off n k, u = .slice (some ⟨b, off, none⟩) n k ∧ w.heap.size ≤ b) := by
  obtain ⟨hf, hl, a, cap, rfl, hv⟩ := id h
  cases a with
  | none =>
    have h0 : zs = [] := by
      rcases hv with hv | ⟨b, off, e, _⟩
      · exact List.length_eq_zero_iff.1 hv
      · cases e
    subst h0
    have hB := Below.refl w.heap.size w
    have hN := BytesAt.none w
    have hq := Go.Lib.run_eql_slice_nil (P := Tryz.prog) w 25 5 none 0 cap 0 0 Tryz.underlying25
    clear h hf hl hv
    go_enter Tryz.func129, Tryz.ntmps129
    go_wp2
    go_ret
    exact ⟨_, rfl, hN, hB, by simp⟩
  | some x =>
    have hB0 := (Below.refl w.heap.size w).alloc (Nat.le_refl _) (.cells #[] 5)
    obtain ⟨a2, cap2, w2, hrun, hg, hb2, hloc⟩ := bytes_copied2 (h.later hB0) w.heap.size 25
    have hbl := hB0.trans (hb2.mono hB0.size)
    have H0 : Hid _ := hrun
    have hq := Go.Lib.run_eql_slice_nil (P := Tryz.prog) w 25 5 (some x) zs.length cap 0 0 Tryz.underlying25
    clear h hf hl hv hrun hb2 hB0
    go_enter Tryz.func129, Tryz.ntmps129
    go_wp2_with (at_builtin; refine wpList_append_run rfl _ _ _ _ rfl rfl rfl H0.out ?_; clear H0)
    go_ret
    refine ⟨_, rfl, hg, hbl, hloc.imp id ?_⟩
    rintro ⟨g, off, rfl, hle⟩
    exact ⟨g, off, _, _, rfl, Nat.le_trans (by simp) hle⟩
end Go.Proofs.YtpgnnplpcalbbaaGreat
