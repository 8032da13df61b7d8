/-
  Split of the program.
-/
import Derived.Test.YtcllcinekohklaaXd1
import Derived.Test.YtcllcinekohklaaXb5
import Derived.Great.BuildSlice
namespace Go.Proofs.Ytcllcinekohklaa
open Go Go.RowKit Go.Shelf
set_option linter.unusedVariables false
set_option linter.unusedSimpArgs false
attribute [local go_sem] Oper.semAt_some

theorem enters_frags : ∀ args w, (callFunc 44 args).run Try.prog w = .ok (.enter 44 args) w := enters_of Try.func44 (by kernel_rfl) rfl
theorem bs_run (W : World) (f : F6) (g : G6) (vh vb : Value) : (Instr.buildSlice 29 1 #[(0, VV f g vh vb)]).run Try.prog W = .ok (.slice (some ⟨W.heap.size, 0, none⟩) 1 1) (W.alloc (BV f g vh vb)) := by
  obtain ⟨i, hi, hz, hsz, hby⟩ := infoV
  refine run_buildSlice W 29 28 1 #[(0, VV f g vh vb)] (vC f g vh vb).toArray i (.agg zeroV.toArray) Try.underlying29 hi hz (by rw [hsz]; omega) (by rw [hsz]; omega) ?_
  have := Go.Great.fill_whole (s := 42) (by omega) [VV f g vh vb] ((Array.range (1 * i.size)).map ((Value.agg zeroV.toArray).cells[· % (Value.agg zeroV.toArray).cells.size]!)) (fun v hv => by simp at hv; rw [hv]; simp [Value.cells, vC_len]) (by simp [hsz])
  rw [hsz] at this ⊢
  simpa [Value.cells] using this
theorem wp_buildA {P : Program} {o : Oper} {a : Act} {d : Option Nat} {w w2 : World} {K : Act → World → Prop} {Q : Exit → Act → World → Prop} (x : Operand) (t : TypeId) (hop : o.op = Op.buildSlice t 1 #[(0, x)]) (hd : o.dst = d) {vx v : Value} (hx : a.eval x = vx) (hrun : (Instr.buildSlice t 1 #[(0, vx)]).run P w = .ok v w2) (hK : K (a.put d v) w2) : o.wp P a w K Q := by
  subst hd
  unfold Oper.wp
  simp [execOp, hop, hx, hrun, Result.andThen]
  exact hK
/-- What lies in a row's box. -/
def rowBox (v : Value) : Obj := .cells [v].toArray 29
theorem st_rows {W : World} {b : Nat} {v0 v : Value} (h : W.heap[b]? = some (rowBox v0)) (hv : ∃ x n m, v = .slice x n m) : (Instr.storeAt 29 (.pointer (some ⟨b, 0, none⟩)) v).run Try.prog W = .ok () (W.setCell ⟨b, 0, none⟩ v) := by
  obtain ⟨x, n, m, rfl⟩ := hv
  have h1 : W.cell? ⟨b, 0, none⟩ = some v0 := blk_cell h rfl
  have h2 := blk_open h 0
  simp [Instr.storeAt, go_sem, h1, h2]
theorem ld_rows {W : World} {p : Addr} {v : Value} (h : W.cell? p = some v) (hv : ∃ x n m, v = .slice x n m) : (Instr.loadAt 29 (.pointer (some p))).run Try.prog W = .ok v W := by
  obtain ⟨x, n, m, rfl⟩ := hv
  simp [Instr.loadAt, go_sem, h]
theorem take_at' {α : Type} (L : List α) (k : Nat) {x : α} (h : L[k]? = some x) : L.take (k + 1) = L.take k ++ [x] := by
  obtain ⟨hlt, e⟩ := List.getElem?_eq_some_iff.1 h
  rw [List.take_succ_eq_append_getElem hlt, e]
theorem frs_len (sp nn : Nat) (g : G6) : ∀ (n : Nat) (off : Int) (b : List Int), (frs sp nn g n off b).1.length ≤ n + 1
  | 0, off, b => by simp [frs]
  | n + 1, off, b => by
    rw [frs]
    split
    · simp
    · split
      · simp only [List.length_cons]
        have := frs_len sp nn g n (off + (nn / 8 : Nat)) (b.drop nn)
        omega
      · simp
theorem fragP_ok {f : F6} {hs : Opts} {g : G6} {body : List Int} {mtu id : Int} (h : (fragP f hs g body mtu id).1 ≠ []) : fitE f hs g body.length mtu = 0 := by
  unfold fragP at h
  by_cases c : fitE f hs g body.length mtu = 0
  · exact c
  · rw [if_pos c] at h; exact absurd rfl h
theorem fragP_len (f : F6) (hs : Opts) (g : G6) (body : List Int) (mtu id : Int) : (fragP f hs g body mtu id).1.length ≤ 70001 := by
  by_cases c : (fragP f hs g body mtu id).1 = []
  · rw [c]; simp
  · have hb : body.length ≤ 70000 := by have := (ck_zero (fitE_zero (fragP_ok c)).1).2; omega
    unfold fragP
    repeat' split
    all_goals first
      | (simp; done)
      | (have := frs_len (spN hs mtu) (spN hs mtu / 8 * 8) (hdG g id) body.length (hdG g id).off body
         omega)
/-- What Split's rounds keep: the row so far, in blocks of O. -/
structure SpI (f : F6) (hs : Opts) (w : World) (ab : Nat) (L : List FG) (k : Nat) (O : Nat → Prop) (A : World) (v : Value) : Prop where
  ob : O ab
  box : A.heap[ab]? = some (rowBox v)
  row : RowV f hs w.heap.size (fun b => O b ∧ b ≠ ab ∧ v.ownBlock ≠ some b) A v (L.take k)
  vb : ∀ b, v.ownBlock = some b → O b ∧ b ≠ ab
  lo : ∀ b, O b → w.heap.size ≤ b
  bel : Below w.heap.size w A
theorem SpI.stable {f : F6} {hs : Opts} {w : World} {ab : Nat} {L : List FG} {k : Nat} {O : Nat → Prop} {A B : World} {v : Value} {s : Nat} (h : SpI f hs w ab L k O A v) (hw : w.heap.size ≤ s) (hs' : Sep (fun b => s ≤ b ∧ ¬ O b) A B) : SpI f hs w ab L k O B v :=
  ⟨h.ob, hs'.blk h.box (fun hb => hb.2 h.ob), h.row.sep hs' (fun b hb hh => hh.2 hb.1) (fun b hb hh => hh.2 (h.vb b hb).1), h.vb, h.lo, h.bel.trans (hs'.below h.bel.size (fun b hb hh => by have := hh.1; omega))⟩

/-- One round: the copy is pushed, and the row is laid back. -/
theorem sp_round {f : F6} {hs : Opts} {w : World} {ab : Nat} {L : List FG} {k : Nat} {O : Nat → Prop} {W W2 X X' : World} {v v' : Value} {fg : FG}
    (hg : L[k]? = some fg) (hI2 : SpI f hs w ab L k O W2 v) (hOl : ∀ b, O b → b < W.heap.size) (hWW : W.heap.size ≤ W2.heap.size) (hX : Below W2.heap.size W2 X)
    (hrow' : RowV f hs w.heap.size (fun b => (O b ∧ b ≠ ab ∧ v.ownBlock ≠ some b) ∨ (W2.heap.size ≤ b ∧ b < X.heap.size)) X' v' (L.take k ++ [fg])) (hsX' : Sep (fun b => v.ownBlock = some b) X X') (hat : v'.ownBlock = v.ownBlock ∨ v'.ownBlock = some (X.heap.size + 1)) :
    X'.heap[ab]? = some (rowBox v) ∧ (∃ x n m, v' = .slice x n m) ∧ RoundP (fun k O A => ∃ v, SpI f hs w ab L k O A v) k O W.heap.size W2 .normal (X'.setCell ⟨ab, 0, none⟩ v') := by
  have hI3 : SpI f hs w ab L k O X v := hI2.stable (s := w.heap.size) (Nat.le_refl _) (Sep.of_below hX)
  have hXs := hX.size
  have hX's := hsX'.size
  have habX : ab < W.heap.size := hOl ab hI2.ob
  have hbx' : X'.heap[ab]? = some (rowBox v) := hsX'.blk hI3.box (fun e => (hI3.vb _ e).2 rfl)
  have hvs' : ∃ x n m, v' = .slice x n m := by obtain ⟨a, c, e⟩ := hrow'.slc; exact ⟨_, _, _, e⟩
  have hon : Only ab X' (X'.setCell ⟨ab, 0, none⟩ v') := (Only.refl ab X').set 0 v'
  have hYs : (X'.setCell ⟨ab, 0, none⟩ v').heap.size = X'.heap.size := hon.size
  have hsY : Sep (fun b => b = ab) X' (X'.setCell ⟨ab, 0, none⟩ v') := Sep.of_only hon rfl
  have hvo : ∀ b, v'.ownBlock = some b → (O b ∨ X.heap.size + 1 ≤ b) ∧ b ≠ ab := fun b hb => by
    rcases hat with hat | hat
    · rw [hat] at hb
      exact ⟨.inl (hI3.vb b hb).1, (hI3.vb b hb).2⟩
    · rw [hat] at hb
      cases hb
      exact ⟨.inr (Nat.le_refl _), by omega⟩
  have hvne : ∀ b, b < X.heap.size → v.ownBlock ≠ some b → v'.ownBlock ≠ some b := fun b hb hn e => by
    rcases hat with hat | hat
    · exact hn (hat ▸ e)
    · rw [hat] at e
      cases e
      omega
  refine ⟨hbx', hvs', fun b => O b ∨ (W.heap.size ≤ b ∧ b < X'.heap.size), ?_, fun b hb => ?_, rfl, v', ?_⟩
  · refine (((Sep.of_below hX).mono fun b _ hb => .inr (by omega)).trans (hsX'.mono fun b _ hb => .inl (hI3.vb b hb).1)).trans (hsY.mono fun b _ hb => .inl (by rw [hb]; exact hI3.ob))
  · rcases hb with hb | hb
    · exact ⟨by rw [hYs]; have := hOl b hb; omega, .inl hb⟩
    · exact ⟨by rw [hYs]; exact hb.2, .inr hb.1⟩
  · refine ⟨.inl hI3.ob, blk_set hbx' 0 v', ?_, fun b hb => ⟨?_, (hvo b hb).2⟩, fun b hb => ?_, ?_⟩
    · rw [take_at' L k hg]
      refine (hrow'.sep hsY (fun b hb e => ?_) (fun b hb e => (hvo b hb).2 e)).mono (fun b _ hb => ?_)
      · rcases hb with hb | hb
        · exact hb.2.1 e
        · omega
      · rcases hb with hb | hb
        · have h1 := hOl b hb.1
          exact ⟨.inl hb.1, hb.2.1, hvne b (by omega) hb.2.2⟩
        · refine ⟨.inr ⟨by omega, by omega⟩, by omega, hvne b hb.2 (fun e => ?_)⟩
          have := hOl b (hI3.vb b e).1
          omega
    · rcases (hvo b hb).1 with h | h
      · exact .inl h
      · exact .inr ⟨by omega, (hrow'.lt hb).2⟩
    · rcases hb with hb | hb
      · exact hI3.lo b hb
      · have := hI3.lo _ hI3.ob; omega
    · have h1 := hI3.bel
      have h2 : Below w.heap.size X X' := hsX'.below h1.size (fun b hb e => by have := hI3.lo b (hI3.vb b e).1; omega)
      exact (h1.trans h2).trans (hon.below (by have := hI3.lo _ hI3.ob; omega))
/-- What Split's closure answers. -/
def SplitE (f : F6) (hs : Opts) (L : List FG) (w : World) (en : Option Int) (e : Ending) (w' : World) : Prop :=
  match en with
  | none => ∃ v, e = .returned v ∧ RowV f hs w.heap.size (fun b => w.heap.size ≤ b) w' v L ∧ Below w.heap.size w w'
  | some er => e = .panicked [guP er] ∧ Below w.heap.size w w'

set_option maxHeartbeats 8000000 in
set_option maxRecDepth 100000 in
theorem split1_calls {f : F6} {g : G6} {vh vb : Value} {hs : Opts} {body : List Int} {mtu id : Int} {pv pm pi : Nat} {R : Nat → Prop} {w : World} (h : ItW f g vh vb hs body mtu id pv pm pi R w) :
    Calls Try.prog 23 #[.pointer (some ⟨pv, 0, none⟩), .pointer (some ⟨pm, 0, none⟩), .pointer (some ⟨pi, 0, none⟩)] w fun e w' => SplitE f hs (fragP f hs g body mtu id).1 w (fragP f hs g body mtu id).2 e w' := by
  have hba := (Below.refl w.heap.size w).alloc (Nat.le_refl _) (rowBox (.slice none 0 0))
  have hWa := h.up hba
  have HLV : Hid _ := vb_load hWa.v
  have km := blk_cell hWa.m (j := 0) rfl
  have ki := blk_cell hWa.i (j := 0) rfl
  have hab := blk_new w (rowBox (.slice none 0 0))
  have hsa : (w.alloc (rowBox (.slice none 0 0))).heap.size = w.heap.size + 1 := by simp
  have HFR : Hid _ := fragments_calls f g vh vb mtu id (w.alloc (rowBox (.slice none 0 0)))
  have HG : Hid (∀ w3, Below (w.alloc (rowBox (.slice none 0 0))).heap.size (w.alloc (rowBox (.slice none 0 0))) w3 → w3.heap.size = w.heap.size + 4 → w3.heap[w.heap.size + 1]? = some (BV f g vh vb) → w3.heap[w.heap.size + 1 + 1]? = some (.cells [.int .i64 mtu].toArray 3) → w3.heap[w.heap.size + 1 + 1 + 1]? = some (.cells [.int .u32 id].toArray 22) →
      GivesP Try.prog 44 #[.pointer (some ⟨w.heap.size + 1, 0, none⟩), .pointer (some ⟨w.heap.size + 1 + 1, 0, none⟩), .pointer (some ⟨w.heap.size + 1 + 1 + 1, 0, none⟩)] (fragP f hs g body mtu id).1.length (FragX f vh hs (fragP f hs g body mtu id).1) (fun b => b < w3.heap.size ∧ ¬ b = w.heap.size) w3 (fragP f hs g body mtu id).2) := fun w3 hB3 hs3 h1 h2 h3 => by
    refine gives_any ⟨h1, h2, h3, fun c hc => hc.1, ⟨by omega, by omega⟩, ⟨by omega, by omega⟩, ⟨by omega, by omega⟩, ?_⟩
    have hd := (h.dd.mono (S' := fun c => c < w.heap.size) (fun c hc _ => hc)).on hba
    exact (hd.on hB3).mono (fun c _ hc => ⟨by omega, by omega⟩)
  have HOK : Hid ((fragP f hs g body mtu id).1 ≠ [] → hs.length ≤ 8) := fun hne => (ck_zero (fitE_zero (fragP_ok hne)).1).1.2.1.1
  have hLl := fragP_len f hs g body mtu id
  have HAB : Hid ((w.alloc (rowBox (.slice none 0 0))).heap[w.heap.size]? = some (rowBox (.slice none 0 0))) := hab
  have HBA : Hid (Below w.heap.size w (w.alloc (rowBox (.slice none 0 0)))) := hba
  clear hab hba hWa h
  generalize hLL : (fragP f hs g body mtu id).1 = L at *
  generalize hEN : (fragP f hs g body mtu id).2 = en at *
  clear hLL hEN
  generalize hW0 : w.alloc (rowBox (.slice none 0 0)) = W0 at *
  have HSA : Hid (W0.heap.size = w.heap.size + 1) := hsa
  rw [hsa] at HFR
  clear hsa
  unfold rowBox at hW0
  refine (callsIn_wide (n := 9)).1 ?_
  refine callsIn_of_wp_marks Try.func23 rfl trivial ?_ rfl
  simp only [Try.ntmps23, List.size_toArray, List.length_cons, List.length_nil, Nat.reduceAdd, Nat.reduceSub, Array.replicate_succ, Array.replicate_zero, List.push_toArray, List.append_toArray, List.nil_append, List.cons_append]
  gi_wp2_with ((with_reducible show wpListIn _ _ _ _ _ _ _ _); refine armLI (.tmp 0) 28 rfl rfl rfl HLV.out ?_)
  refine ⟨trivial, (callsIn_wide.2 HFR.out).mono ?_⟩
  rintro e w3 ⟨rfl, hb3, hB3, hs3⟩
  have hs3' : w3.heap.size = w.heap.size + 4 := by omega
  have hA3 : Hid (w3.heap[w.heap.size]? = some (rowBox (.slice none 0 0))) := blk_on HAB.out (by rw [HSA.out]; exact hB3)
  have HB3 : Hid (Below w.heap.size w w3) := HBA.out.trans (hB3.mono (by omega))
  have HGI : Hid (GivesP Try.prog 44 #[.pointer (some ⟨w.heap.size + 1, 0, none⟩), .pointer (some ⟨w.heap.size + 1 + 1, 0, none⟩), .pointer (some ⟨w.heap.size + 1 + 1 + 1, 0, none⟩)] L.length (FragX f vh hs L) (fun b => b < w3.heap.size ∧ ¬ b = w.heap.size) w3 en) := HG.out w3 (by rw [HSA.out]; exact hB3) hs3' hb3.1 hb3.2.1 hb3.2.2
  have hsz3 : w.heap.size + 4 ≤ w3.heap.size := by omega
  clear hb3 hB3 hs3 hs3' HG HFR HLV HAB HBA HSA km ki
  gi_wp2_with fail
  refine wpIn_rangeP (gf := 44) rfl enters_frags HGI.out (Nat.le_refl _) (fun b hb => ⟨hb.1, rfl⟩) rfl
    (fun k O A => ∃ v, SpI f hs w w.heap.size L k O A v)
    (fun b => b = w.heap.size) (fun b hb => ⟨fun h => h.2 hb, by omega⟩) ?stable
    ⟨.slice none 0 0, rfl, hA3.out, RowV.nil _ _ _ _ _, fun b hb => by simp [Value.ownBlock] at hb, fun b hb => by omega, HB3.out⟩ ?round ?done
  case stable =>
    rintro k O A B ⟨v, h⟩ hs
    exact ⟨v, h.stable (s := w3.heap.size) (by omega) hs⟩
  case round =>
    rintro m k x W O hk hsz hO ⟨fg, sb, hg, rfl, hdd⟩ ⟨v, hI⟩
    obtain ⟨W1, hst, hbx, hBn, hsn⟩ := vb_new W f fg.g (vh := vh) (vb := sb) hdd.hd.one hdd.bd.one
    unfold zeroV at hst
    have HST : Hid _ := hst
    have HBX : Hid _ := hbx
    have HBN : Hid _ := hBn
    have HI : Hid (SpI f hs w w.heap.size L k O W v) := hI
    have HDD : Hid _ := hdd
    have h8 : hs.length ≤ 8 := HOK.out (fun e => by rw [e] at hk; simp at hk)
    clear hst hbx hBn hdd hI
    gi_wp2_with ((with_reducible show wpListIn _ _ _ _ _ _ _ _); refine armSI (.tmp 5) (.tmp 10) 28 rfl rfl rfl rfl HST.out ?_)
    refine ⟨Sep.of_below HBN.out, ?_⟩
    intro W2 hon
    have hLO : ¬ (O (w3.heap.size + 1)) := fun h => (hO _ h).2.2.2 rfl
    have hSL : Sep (fun b => w3.heap.size ≤ b ∧ ¬ O b) W W2 := (Sep.of_below HBN.out).trans (Sep.of_only hon ⟨by omega, hLO⟩)
    have hI2 : SpI f hs w w.heap.size L k O W2 v := HI.out.stable (s := w3.heap.size) (by omega) hSL
    have hb2 : W2.heap[W.heap.size]? = some (BV f fg.g vh sb) := (hon.other _ (by omega)).trans HBX.out
    have hsW : Sep (fun b => b = w3.heap.size + 1) W W2 := (Sep.of_below HBN.out).trans (Sep.of_only hon rfl)
    have hdd2 := HDD.out.sep hsW (fun b hb e => hb (.inr (.inr e)))
    have hsz2 : W2.heap.size = W.heap.size + 1 := by rw [hon.size, hsn]
    have hOl : ∀ b, O b → b < W.heap.size := fun b hb => (hO b hb).2.1
    have HOW : Hid (∀ X, Below W2.heap.size W2 X → Calls Try.prog 25 #[VV f fg.g vh sb] X fun e w' => ∃ v, e = .returned v ∧ (∃ vh' vb', v = VV f fg.g vh' vb' ∧ D6 (fun b => X.heap.size ≤ b) w' f vh' vb' hs fg.body ∧ Below X.heap.size X w')) := fun X hX => (own_calls fg.g (hdd2.on hX) h8).mono (fun e w' ⟨a, c, h1, h2, h3⟩ => ⟨_, h1, a, c, rfl, h2, h3⟩)
    have hvs : ∃ x n m, v = .slice x n m := by obtain ⟨a, c, e⟩ := hI2.row.slc; exact ⟨_, _, _, e⟩
    have HPUSH : Hid (∀ X vh1 vb1, Below W2.heap.size W2 X → D6 (fun b => W2.heap.size ≤ b) X f vh1 vb1 hs fg.body → ∃ v' w', (Builtin.append_ #[29, 29] 29 #[v, .slice (some ⟨X.heap.size, 0, none⟩) 1 1]).run Try.prog (X.alloc (BV f fg.g vh1 vb1)) = .ok v' w' ∧ RowV f hs w.heap.size (fun b => (O b ∧ b ≠ w.heap.size ∧ v.ownBlock ≠ some b) ∨ (W2.heap.size ≤ b ∧ b < X.heap.size)) w' v' (L.take k ++ [fg]) ∧ Sep (fun b => v.ownBlock = some b) X w' ∧ (v'.ownBlock = v.ownBlock ∨ v'.ownBlock = some (X.heap.size + 1))) := fun X vh1 vb1 hX hd => by
      have hrow : RowV f hs w.heap.size (fun b => (O b ∧ b ≠ w.heap.size ∧ v.ownBlock ≠ some b) ∨ (W2.heap.size ≤ b ∧ b < X.heap.size)) X v (L.take k) := (hI2.row.on hX).mono (fun b _ hb => .inl hb)
      refine hrow.push (fun b hb e => ?_) (Nat.le_trans hI2.bel.size hX.size) (by rw [List.length_take]; omega) fg (hd.mono (fun b hb h => .inr ⟨h, hb⟩)) 29
      rcases hb with hb | hb
      · exact hb.2.2 e
      · have := hOl b (hI2.vb b e).1; omega
    have HBOX : Hid (W2.heap[w.heap.size]? = some (rowBox v)) := hI2.box
    have HS6 : Hid (∀ X, Below W2.heap.size W2 X → X.heap[W.heap.size]? = some (BV f fg.g vh sb)) := fun X hX => blk_on hb2 hX
    have hWl : ∀ b, v.ownBlock = some b → b ≠ W.heap.size := fun b hb e => by have := hOl b (hI2.vb b hb).1; omega
    have habW : w.heap.size ≠ W.heap.size := by have := hOl _ hI2.ob; omega
    have HFB : Hid (∀ (X X' : World) (v' : Value), Below W2.heap.size W2 X → RowV f hs w.heap.size (fun b => (O b ∧ b ≠ w.heap.size ∧ v.ownBlock ≠ some b) ∨ (W2.heap.size ≤ b ∧ b < X.heap.size)) X' v' (L.take k ++ [fg]) → Sep (fun b => v.ownBlock = some b) X X' → (v'.ownBlock = v.ownBlock ∨ v'.ownBlock = some (X.heap.size + 1)) → X'.heap[W.heap.size]? = some (BV f fg.g vh sb)) := fun X X' v' hX _ hs' _ => hs'.blk (blk_on hb2 hX) (fun e => hWl _ e rfl)
    have HFIN : Hid (∀ (X X' : World) (v' : Value), Below W2.heap.size W2 X → RowV f hs w.heap.size (fun b => (O b ∧ b ≠ w.heap.size ∧ v.ownBlock ≠ some b) ∨ (W2.heap.size ≤ b ∧ b < X.heap.size)) X' v' (L.take k ++ [fg]) → Sep (fun b => v.ownBlock = some b) X X' → (v'.ownBlock = v.ownBlock ∨ v'.ownBlock = some (X.heap.size + 1)) →
        X'.heap[w.heap.size]? = some (rowBox v) ∧ (∃ x n m, v' = .slice x n m) ∧ (X'.setCell ⟨w.heap.size, 0, none⟩ v').heap[W.heap.size]? = some (BV f fg.g vh sb) ∧ RoundP (fun k O A => ∃ v, SpI f hs w w.heap.size L k O A v) k O W.heap.size W2 .normal (X'.setCell ⟨w.heap.size, 0, none⟩ v')) := fun X X' v' hX hr hs' ha => by
      obtain ⟨h1, h2, h3⟩ := sp_round hg hI2 hOl (by omega) hX hr hs' ha
      exact ⟨h1, h2, blk_set_other (HFB.out X X' v' hX hr hs' ha) (fun e => habW e.symm) _ _, h3⟩
    try simp only [Act.put]
    clear hb2 hon HBX HBN HST hsz2 hsn hdd2 HDD hI2 HI hSL hsW
    gi_wp2_with fail
    refine region_round (fun a0 a' w' => RoundP (fun k O A => ∃ v, SpI f hs w w.heap.size L k O A v) k O W.heap.size W2 .normal w') (fun X => X.heap[W.heap.size]? = some (BV f fg.g vh sb)) (by kernel_rfl) (by intro o ho c e; simp only [List.mem_cons, List.not_mem_nil, or_false] at ho; rcases ho with rfl | rfl | rfl | rfl | rfl | rfl <;> cases e) ?_ ?_
    · skip
      show wpAnyH _ _ _ _ _ 6 (Array.replicate 6 false) _ _
      have hX0 : Below W2.heap.size W2 W2.drew := (Below.refl _ W2).drew
      refine take_one (i := 1) (d := some 12) (v := VV f fg.g vh sb) rfl rfl rfl (by kernel_rfl) (by kernel_rfl) (by kernel_rfl) (fun _ _ _ _ _ h => h.elim) (fun W hS => ex_loadA (.tmp 5) 28 rfl rfl (vb_load hS)) (HS6.out _ hX0) ?_
      simp only [Act.put, List.setIfInBounds_toArray, List.set_cons_zero, List.set_cons_succ]
      refine all_two (i1 := 0) (i2 := 2) (by kernel_rfl) rfl rfl rfl rfl ?_ ?_
      · refine wp_loadA (d := some 11) (.tmp 4) 29 rfl rfl rfl (ld_rows (blk_cell (blk_on HBOX.out hX0) rfl) hvs) ⟨HS6.out _ hX0, ?_⟩
        simp only [Act.put, List.setIfInBounds_toArray, List.set_cons_zero, List.set_cons_succ]
        refine all_one (i := 2) (by kernel_rfl) rfl rfl ?_
        refine wp_call (d := some 13) 25 _ rfl (by kernel_rfl) (HOW.out _ hX0) ?_
        rintro u X1 ⟨vh1, vb1, rfl, hd1, hB1⟩
        have hX1 : Below W2.heap.size W2 X1 := hX0.trans (hB1.mono hX0.size)
        refine ⟨HS6.out _ hX1, ?_⟩
        simp only [Act.put, List.setIfInBounds_toArray, List.set_cons_zero, List.set_cons_succ]
        obtain ⟨v', X', hrun, hrow', hsX', hat⟩ := HPUSH.out X1 vh1 vb1 hX1 (hd1.mono (fun b _ hb => Nat.le_trans hX0.size hb))
        refine all_one (i := 3) (by kernel_rfl) rfl rfl ?_
        refine wp_buildA (d := some 14) (.tmp 13) 29 rfl rfl rfl (bs_run X1 f fg.g vh1 vb1) ⟨HS6.out _ (hX1.alloc hX1.size _), ?_⟩
        simp only [Act.put, List.setIfInBounds_toArray, List.set_cons_zero, List.set_cons_succ]
        refine all_one (i := 4) (by kernel_rfl) rfl rfl ?_
        refine wp_append (d := some 15) (.tmp 11) (.tmp 14) 29 rfl rfl rfl rfl hrun ⟨HFB.out X1 X' v' hX1 hrow' hsX' hat, ?_⟩
        simp only [Act.put, List.setIfInBounds_toArray, List.set_cons_zero, List.set_cons_succ]
        have hfin := HFIN.out X1 X' v' hX1 hrow' hsX' hat
        refine all_one (i := 5) (by kernel_rfl) rfl rfl ?_
        refine wp_storeA (.tmp 4) (.tmp 15) 29 rfl rfl rfl rfl (st_rows hfin.1 hfin.2.1) ⟨hfin.2.2.1, ?_⟩
        refine wpAnyH_done (by kernel_rfl) ?_ _
        exact hfin.2.2.2
      · refine wp_call (d := some 13) 25 _ rfl (by kernel_rfl) (HOW.out _ hX0) ?_
        rintro u X1 ⟨vh1, vb1, rfl, hd1, hB1⟩
        have hX1 : Below W2.heap.size W2 X1 := hX0.trans (hB1.mono hX0.size)
        refine ⟨HS6.out _ hX1, ?_⟩
        simp only [Act.put, List.setIfInBounds_toArray, List.set_cons_zero, List.set_cons_succ]
        obtain ⟨v', X', hrun, hrow', hsX', hat⟩ := HPUSH.out X1 vh1 vb1 hX1 (hd1.mono (fun b _ hb => Nat.le_trans hX0.size hb))
        refine all_two (i1 := 0) (i2 := 3) (by kernel_rfl) rfl rfl rfl rfl ?_ ?_
        · refine wp_loadA (d := some 11) (.tmp 4) 29 rfl rfl rfl (ld_rows (blk_cell (blk_on HBOX.out hX1) rfl) hvs) ⟨HS6.out _ hX1, ?_⟩
          simp only [Act.put, List.setIfInBounds_toArray, List.set_cons_zero, List.set_cons_succ]
          refine all_one (i := 3) (by kernel_rfl) rfl rfl ?_
          refine wp_buildA (d := some 14) (.tmp 13) 29 rfl rfl rfl (bs_run X1 f fg.g vh1 vb1) ⟨HS6.out _ (hX1.alloc hX1.size _), ?_⟩
          simp only [Act.put, List.setIfInBounds_toArray, List.set_cons_zero, List.set_cons_succ]
          refine all_one (i := 4) (by kernel_rfl) rfl rfl ?_
          refine wp_append (d := some 15) (.tmp 11) (.tmp 14) 29 rfl rfl rfl rfl hrun ⟨HFB.out X1 X' v' hX1 hrow' hsX' hat, ?_⟩
          simp only [Act.put, List.setIfInBounds_toArray, List.set_cons_zero, List.set_cons_succ]
          have hfin := HFIN.out X1 X' v' hX1 hrow' hsX' hat
          refine all_one (i := 5) (by kernel_rfl) rfl rfl ?_
          refine wp_storeA (.tmp 4) (.tmp 15) 29 rfl rfl rfl rfl (st_rows hfin.1 hfin.2.1) ⟨hfin.2.2.1, ?_⟩
          refine wpAnyH_done (by kernel_rfl) ?_ _
          exact hfin.2.2.2
        · refine wp_buildA (d := some 14) (.tmp 13) 29 rfl rfl rfl (bs_run X1 f fg.g vh1 vb1) ⟨HS6.out _ (hX1.alloc hX1.size _), ?_⟩
          simp only [Act.put, List.setIfInBounds_toArray, List.set_cons_zero, List.set_cons_succ]
          refine all_one (i := 0) (by kernel_rfl) rfl rfl ?_
          refine wp_loadA (d := some 11) (.tmp 4) 29 rfl rfl rfl (ld_rows (blk_cell (blk_on HBOX.out (hX1.alloc hX1.size (BV f fg.g vh1 vb1))) rfl) hvs) ⟨HS6.out _ (hX1.alloc hX1.size _), ?_⟩
          simp only [Act.put, List.setIfInBounds_toArray, List.set_cons_zero, List.set_cons_succ]
          refine all_one (i := 4) (by kernel_rfl) rfl rfl ?_
          refine wp_append (d := some 15) (.tmp 11) (.tmp 14) 29 rfl rfl rfl rfl hrun ⟨HFB.out X1 X' v' hX1 hrow' hsX' hat, ?_⟩
          simp only [Act.put, List.setIfInBounds_toArray, List.set_cons_zero, List.set_cons_succ]
          have hfin := HFIN.out X1 X' v' hX1 hrow' hsX' hat
          refine all_one (i := 5) (by kernel_rfl) rfl rfl ?_
          refine wp_storeA (.tmp 4) (.tmp 15) 29 rfl rfl rfl rfl (st_rows hfin.1 hfin.2.1) ⟨hfin.2.2.1, ?_⟩
          refine wpAnyH_done (by kernel_rfl) ?_ _
          exact hfin.2.2.2
    · intro a' w' hm
      exact hm
  case done =>
    rintro O X ⟨v, hI⟩ hK hne
    have hon : Only w3.heap.size X (X.putObj w3.heap.size (.deferred none)) := Only.putObj _
    cases en with
    | some er =>
      refine ⟨by simp, .inl ⟨_, _, rfl, run_takeDeferred hK, ?_⟩⟩
      exact ⟨rfl, hI.bel.trans (hon.below (by omega))⟩
    | none =>
      have hvs : ∃ x n m, v = .slice x n m := by obtain ⟨a, c, e⟩ := hI.row.slc; exact ⟨_, _, _, e⟩
      have HL7 : Hid _ := ld_rows (W := X) (p := ⟨w.heap.size, 0, none⟩) (blk_cell hI.box rfl) hvs
      have HI : Hid (SpI f hs w w.heap.size L L.length O X v) := hI
      unfold exitP
      clear hI hvs
      gi_wp2_with ((with_reducible show wpListIn _ _ _ _ _ _ _ _); refine armLI (.tmp 4) 29 rfl rfl rfl HL7.out ?_)
      have hI := HI.out
      have hrow := hI.row
      rw [List.take_length] at hrow
      refine ⟨by simp, .inl ⟨_, _, rfl, run_takeDeferred hK, ?_⟩⟩
      exact ⟨_, results_tmp rfl _ _ _, v, rfl, (hrow.sep (Sep.of_only (O := fun b => b = w3.heap.size) hon rfl) (fun b hb e => hne b hb.1 e) (fun b hb e => hne b (hI.vb b hb).1 e)).mono (fun b _ hb => hI.lo b hb.1), hI.bel.trans (hon.below (by omega))⟩

end Go.Proofs.Ytcllcinekohklaa
