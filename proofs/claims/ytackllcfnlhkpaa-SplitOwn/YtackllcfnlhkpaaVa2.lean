/-
  Bytes in blocks of a set; worlds that part in a set of blocks alone; Copied of the program.
-/
import Derived.Test.YtackllcfnlhkpaaVa1
namespace Go.Proofs.Ytackllcfnlhkpaa
open Go Go.RowKit
set_option linter.unusedVariables false
set_option linter.unusedSimpArgs false

/-- Bytes, with room, in a block of S. -/
structure BS (S : Nat → Prop) (w : World) (v : Value) (zs : List Int) : Prop where
  row : RowC w v zs
  loc : zs.length = 0 ∨ ∃ b off n k, v = .slice (some ⟨b, off, none⟩) n k ∧ S b
/-- From A to B nothing is turned but blocks of O; there may be new ones. -/
structure Sep (O : Nat → Prop) (A B : World) : Prop where
  os : B.os = A.os
  tape : B.tape = A.tape
  output : B.output = A.output
  size : A.heap.size ≤ B.heap.size
  same : ∀ b, b < A.heap.size → ¬ O b → B.heap[b]? = A.heap[b]?

theorem Sep.refl (O : Nat → Prop) (A : World) : Sep O A A := ⟨rfl, rfl, rfl, Nat.le_refl _, fun _ _ _ => rfl⟩
theorem Sep.trans {O : Nat → Prop} {A B C : World} (h : Sep O A B) (g : Sep O B C) : Sep O A C :=
  ⟨g.os.trans h.os, g.tape.trans h.tape, g.output.trans h.output, Nat.le_trans h.size g.size, fun b hb hO => (g.same b (Nat.lt_of_lt_of_le hb h.size) hO).trans (h.same b hb hO)⟩
theorem Sep.mono {O O' : Nat → Prop} {A B : World} (h : Sep O A B) (hO : ∀ b, b < A.heap.size → O b → O' b) : Sep O' A B :=
  ⟨h.os, h.tape, h.output, h.size, fun b hb hn => h.same b hb (fun ho => hn (hO b hb ho))⟩
theorem Sep.of_below {O : Nat → Prop} {A B : World} (h : Below A.heap.size A B) : Sep O A B := ⟨h.os, h.tape, h.output, h.size, fun b hb _ => h.block b hb⟩
theorem Sep.of_below' {n : Nat} {A B : World} (h : Below n A B) : Sep (fun b => n ≤ b) A B := ⟨h.os, h.tape, h.output, h.size, fun b hb hn => h.block b (by omega)⟩
theorem Sep.of_only {g : Nat} {O : Nat → Prop} {A B : World} (h : Only g A B) (hg : O g) : Sep O A B :=
  ⟨h.os, h.tape, h.output, by rw [h.size]; exact Nat.le_refl _, fun b hb hn => h.other b (fun e => hn (e ▸ hg))⟩
theorem Sep.drew {O : Nat → Prop} {A B : World} (h : Sep O A B) : Sep O A B.drew := ⟨h.os, h.tape, h.output, h.size, h.same⟩
theorem Sep.alloc {O : Nat → Prop} {A B : World} (h : Sep O A B) (o : Obj) : Sep O A (B.alloc o) := h.trans (.of_below ((Below.refl _ B).alloc (Nat.le_refl _) o))
theorem Sep.below {O : Nat → Prop} {A B : World} (h : Sep O A B) {n : Nat} (hn : n ≤ A.heap.size) (hO : ∀ b, b < n → ¬ O b) : Below n A B :=
  ⟨h.os, h.tape, h.output, h.size, fun b hb => h.same b (by omega) (hO b hb)⟩
theorem Sep.blk {O : Nat → Prop} {A B : World} (h : Sep O A B) {b : Nat} {o : Obj} (hb : A.heap[b]? = some o) (hO : ¬ O b) : B.heap[b]? = some o :=
  (h.same b (Array.getElem?_eq_some_iff.1 hb).1 hO).trans hb
/-- Over two steps: what the second one turns is O's or new. -/
theorem Sep.then {O O' : Nat → Prop} {A B C : World} (h : Sep O A B) (g : Sep O' B C) (hO : ∀ b, O' b → O b ∨ A.heap.size ≤ b) : Sep O A C :=
  ⟨g.os.trans h.os, g.tape.trans h.tape, g.output.trans h.output, Nat.le_trans h.size g.size, fun b hb hn => (g.same b (Nat.lt_of_lt_of_le hb h.size) (fun ho => by rcases hO b ho with h1 | h1; exact hn h1; omega)).trans (h.same b hb hn)⟩
theorem Sep.up {O : Nat → Prop} {A B C : World} (h : Sep O A B) (g : Below B.heap.size B C) : Sep O A C := h.trans (.of_below g)

theorem row_of_sep {S O : Nat → Prop} {A B : World} {v : Value} {zs : List Int} (h : RowC A v zs) (hl : zs.length = 0 ∨ ∃ b off n k, v = .slice (some ⟨b, off, none⟩) n k ∧ S b) (hs : Sep O A B) (hO : ∀ b, S b → ¬ O b) : RowC B v zs := by
  obtain ⟨hf, hle, a, cap, rfl, hc, hz⟩ := h
  refine ⟨hf, hle, a, cap, rfl, hc, ?_⟩
  rcases hz with hz | ⟨b, off, rfl, hlt, hcell⟩
  · exact .inl hz
  · rcases hl with hl | ⟨b', off', n, k, e, hS⟩
    · exact .inl hl
    · cases e
      have hb := hs.same b hlt (hO b hS)
      exact .inr ⟨b, off, rfl, Nat.lt_of_lt_of_le hlt hs.size, fun j hj => by rw [← hcell j hj]; simp [World.cell?, hb]⟩
theorem BS.sep {S O : Nat → Prop} {A B : World} {v : Value} {zs : List Int} (h : BS S A v zs) (hs : Sep O A B) (hO : ∀ b, S b → ¬ O b) : BS S B v zs := ⟨row_of_sep h.row h.loc hs hO, h.loc⟩
theorem BS.mono {S S' : Nat → Prop} {A : World} {v : Value} {zs : List Int} (h : BS S A v zs) (hS : ∀ b, b < A.heap.size → S b → S' b) : BS S' A v zs := by
  refine ⟨h.row, ?_⟩
  rcases h.loc with hl | ⟨b, off, n, k, rfl, hs⟩
  · exact .inl hl
  · obtain ⟨_, _, a, cap, e, _, hz⟩ := h.row
    cases e
    rcases hz with hz | ⟨b', off', e, hlt, _⟩
    · exact .inl hz
    · cases e
      exact .inr ⟨b, off, _, _, rfl, hS b hlt hs⟩
theorem BS.on {S : Nat → Prop} {A B : World} {v : Value} {zs : List Int} (h : BS S A v zs) (hb : Below A.heap.size A B) : BS S B v zs := ⟨h.row.on hb, h.loc⟩
theorem BS.bytes {S : Nat → Prop} {A : World} {v : Value} {zs : List Int} (h : BS S A v zs) : BytesAt A.heap.size A v zs := h.row.bytes
theorem BS.of_row {w : World} {v : Value} {zs : List Int} (h : RowC w v zs) : BS (fun b => b < w.heap.size) w v zs := by
  refine ⟨h, ?_⟩
  obtain ⟨_, _, a, cap, rfl, _, hz⟩ := h
  rcases hz with hz | ⟨b, off, rfl, hlt, _⟩
  · exact .inl hz
  · exact .inr ⟨b, off, _, _, rfl, hlt⟩
theorem RowC.empty (w : World) : RowC w (.slice none 0 0) [] := ⟨fun z hz => by simp at hz, by simp, _, _, rfl, Nat.le_refl _, .inl rfl⟩
theorem OB.row {base : Nat} {w wx : World} {v : Value} {zs : List Int} (h : OB base w wx v zs) (hf : Fit zs) (hl : zs.length ≤ 140737488351232) : BS (fun b => base ≤ b) wx v zs := by
  have hbv : bytesV zs = zs.map (fun z => Value.int .u8 z) := rfl
  rcases h.own.2 with ⟨rfl, h0⟩ | ⟨g, cap, cur, rfl, hb, hg, hn, _⟩
  · obtain rfl : zs = [] := List.length_eq_zero_iff.1 h0
    exact ⟨.empty _, .inl rfl⟩
  · refine ⟨⟨hf, hl, _, cap, rfl, hn, .inr ⟨g, 0, rfl, (Array.getElem?_eq_some_iff.1 hg).1, fun j hj => ?_⟩⟩, .inr ⟨g, 0, _, _, rfl, hb⟩⟩
    have := h.own.cells (g := g) rfl j (.int .u8 (zs[j]?.getD 0)) (by rw [hbv, List.getElem?_map]; simp [hj])
    rw [Go.WideShapes.add_plain] at this
    exact this
theorem OB.nil (w : World) (base : Nat) : OB base w w (.slice none 0 0) [] := ⟨⟨rfl, .inl ⟨rfl, rfl⟩⟩, Below.refl _ _⟩
def lenV : Value → Nat
  | .slice _ n _ => n
  | _ => 0
theorem RowC.lenV {w : World} {v : Value} {zs : List Int} (h : RowC w v zs) : lenV v = zs.length := by
  obtain ⟨_, _, a, cap, rfl, _⟩ := h
  rfl
theorem OB.slc {base : Nat} {w wx : World} {v : Value} {zs : List Int} (h : OB base w wx v zs) : ∃ a cap, v = .slice a zs.length cap := by
  rcases h.own.2 with ⟨rfl, h0⟩ | ⟨g, cap, cur, rfl, _⟩
  · rw [h0]; exact ⟨_, _, rfl⟩
  · exact ⟨_, _, rfl⟩

theorem cut_front {S : Nat → Prop} {w : World} {v : Value} {zs : List Int} (h : BS S w v zs) (h0 : 0 < zs.length) (n : Nat) (hn : n ≤ zs.length) :
    ∃ u, (∀ W, (Instr.sliceAt 25 v none (some (.int .i64 n)) none).run Try.prog W = .ok u W) ∧ BS S w u (zs.take n) := by
  obtain ⟨b, off, cap, rfl, hc, hlt, hcell⟩ := h.row.some h0
  have hlen := h.row.len
  have e : (zs.take n).length = n := by rw [List.length_take]; omega
  refine ⟨.slice (some ⟨b, off, none⟩) n cap, fun W => ?_, ⟨⟨fun z hz => h.row.fit z (List.mem_of_mem_take hz), by omega, _, cap, by rw [e], by omega, .inr ⟨b, off, rfl, hlt, fun j hj => ?_⟩⟩, ?_⟩⟩
  · have i1 : n ≤ cap := by omega
    simp [Instr.sliceAt, go_sem, i1]
  · rw [e] at hj
    rw [hcell j (by omega), gz, List.getElem?_take, if_pos hj]
  · rcases h.loc with hl | ⟨b', off', n', k', e', hS⟩
    · omega
    · cases e'
      exact .inr ⟨b, off, _, _, rfl, hS⟩
theorem cut_rest {S : Nat → Prop} {w : World} {v : Value} {zs : List Int} (h : BS S w v zs) (h0 : 0 < zs.length) (n : Nat) (hn : n ≤ zs.length) :
    ∃ u, (∀ W, (Instr.sliceAt 25 v (some (.int .i64 n)) none none).run Try.prog W = .ok u W) ∧ BS S w u (zs.drop n) := by
  obtain ⟨b, off, cap, rfl, hc, hlt, hcell⟩ := h.row.some h0
  have hlen := h.row.len
  have hS : S b := by
    rcases h.loc with hl | ⟨b', off', n', k', e', hS⟩
    · omega
    · cases e'
      exact hS
  have hr : RowS w (.slice (some ⟨b, off, none⟩) zs.length cap) zs b off cap := ⟨rfl, hc, hlt, hcell, h.row.fit, hlen⟩
  refine ⟨restV b off zs.length cap n, fun W => ?_, ⟨(hr.rest n hn).row, .inr ⟨b, nxt off cap n, _, _, restV_eq .., hS⟩⟩⟩
  unfold restV
  by_cases e : cap = n
  · subst e
    have e2 : zs.length = cap := by omega
    simp [Instr.sliceAt, go_sem, e2]
  · have i1 : n ≤ zs.length := hn
    have i2 : zs.length ≤ cap := hc
    have i3 : n < cap := by omega
    rw [if_neg e]
    simp [Instr.sliceAt, go_sem, i1, i2, i3, e]

theorem pad4_ge (l m : List Int) (h : pad4 l = m) : l.length ≤ m.length := by rw [← h, pad4]; simp
theorem RowC.cons {w : World} {v : Value} {zs : List Int} (h : RowC w v zs) : BS (fun b => b < w.heap.size) w v zs := BS.of_row h

set_option maxHeartbeats 1000000 in
set_option maxRecDepth 100000 in
theorem Copied_calls (v : Value) (zs : List Int) (w : World) (h : RowC w v zs) (hl : zs.length ≤ 100000) :
    Calls Try.prog 17 #[v] w fun e w' => ∃ u, e = .returned u ∧ BS (fun b => w.heap.size ≤ b) w' u (copiedL zs) ∧ Below w.heap.size w w' := by
  have HF : Hid _ := first_calls v zs w h
  have HFA : Hid (Fit (optsC zs)) := optsN_fit zs.length zs h.fit
  have HCF : Hid (Fit (copiedL zs)) := copiedL_fit zs h.fit
  have HOL : Hid _ := optsC_length zs
  have HH : Hid (RowC w v zs) := h
  have HCL : Hid ((copiedL zs).length ≤ 100003) := by show (copiedL zs).length ≤ 100003; have h1 := optsC_length zs; have h2 := pad4_length (optsC zs); unfold copiedL; omega
  clear h
  go_enter Try.func17, Try.ntmps17
  go_wp2_with fail
  refine Calls.mono HF.out ?_
  rintro e w1 ⟨rfl, hb1⟩
  clear HF
  go_wp2_with fail
  go_loopw [0, 3, 4] (fun o a n wr => ∃ rest acc, acc ++ optsC rest = optsC zs ∧ rest.length ≤ zs.length ∧ n = .int .i64 (firstN rest : Nat) ∧ RowC w o rest ∧ OB w.heap.size w wr a acc ∧ w.heap.size ≤ wr.heap.size) (fun o _ _ _ => lenV o)
  case atStart => exact ⟨zs, [], rfl, Nat.le_refl _, rfl, HH.out, ⟨⟨rfl, .inl ⟨rfl, rfl⟩⟩, hb1⟩, hb1.size⟩
  case round =>
    obtain ⟨rest, acc, hacc, hrl, rfl, hrow, hob, hsz⟩ := hrel
    by_cases hn : firstN rest = 0
    · rw [optsC_end rest hn, List.append_nil] at hacc
      have q0 : ¬ 0 < firstN rest := by omega
      have HACC : Hid _ := hacc
      clear hrow hrl hn hacc
      generalize firstN rest = fr at *
      go_wp2_with fail
      go_loopw [3] (fun a wr => ∃ acc, pad4 acc = copiedL zs ∧ acc.length ≤ 100003 ∧ OB w.heap.size w wr a acc ∧ w.heap.size ≤ wr.heap.size) (fun a _ => (4 - lenV a % 4) % 4)
      case atStart => exact ⟨acc, by rw [HACC.out]; rfl, by rw [HACC.out]; have := HOL.out; omega, hob, hsz⟩
      case round =>
        rename_i wq _
        obtain ⟨bcc, hpad, hbl, hob2, hsz2⟩ := hrel
        obtain ⟨a, cap, rfl⟩ := hob2.slc
        have e2 : (((bcc.length : Nat) : Int) % 4 != 0) = decide (bcc.length % 4 ≠ 0) := by
          by_cases h : bcc.length % 4 = 0
          · have : ((bcc.length : Nat) : Int) % 4 = 0 := by omega
            simp [h, this]
          · have : ((bcc.length : Nat) : Int) % 4 ≠ 0 := by omega
            simp [h, this]
        by_cases h4 : bcc.length % 4 = 0
        · rw [pad4_done bcc h4] at hpad
          have q1 : decide (bcc.length % 4 ≠ 0) = false := by simp [h4]
          rw [q1] at e2
          have HP : Hid _ := hpad
          have HOB : Hid (OB w.heap.size w _ (.slice a bcc.length cap) bcc) := hob2
          have hbl' : bcc.length ≤ 140737488351232 := by omega
          clear hpad hob2 h4 q1
          generalize hN : bcc.length = N at *
          have HN : Hid _ := hN
          clear hN
          go_wp2
          go_ret
          exact ⟨_, rfl, by rw [← HP.out]; have := HOB.out.row (by rw [HP.out]; exact HCF.out) (by rw [HN.out]; exact hbl'); exact this, HOB.out.bel⟩
        · have hp4 := pad4_step bcc h4
          have q1 : decide (bcc.length % 4 ≠ 0) = true := by simp [h4]
          rw [q1] at e2
          obtain ⟨v', wy, hrun, hob3, hs3, _⟩ := hob2.lit hsz2 [0] #[.int .u8 0] rfl (fun z hz => by simp at hz; omega) (by simp; omega) 1 rfl 25
          have HR : Hid _ := hrun
          have HP : Hid _ := hp4.trans hpad
          have HOB : Hid (OB w.heap.size w wy v' (bcc ++ [0])) := hob3
          have HL4 : Hid (¬ bcc.length % 4 = 0) := h4
          clear hrun hob3 hob2 hpad hp4 h4 q1
          generalize hN : bcc.length = N at *
          have HN : Hid _ := hN
          clear hN
          go_wp2_with (at_builtin; refine wpList_append_run rfl _ _ _ _ rfl rfl rfl HR.out ?_; clear HR)
          refine ⟨⟨_, HP.out, Nat.le_trans (pad4_ge _ _ HP.out) HCL.out, HOB.out, hs3⟩, ?_⟩
          obtain ⟨a3, cap3, e3⟩ := HOB.out.slc
          rw [e3]
          simp [lenV, HN.out]
          have := HL4.out
          omega
    · have hst := optsC_step rest hn
      have hfl := firstN_le rest
      have hpos : 0 < rest.length := by omega
      have hbs := hrow.cons
      obtain ⟨u1, hu1, hb1'⟩ := cut_front hbs hpos (firstN rest) hfl
      obtain ⟨u2, hu2, hb2'⟩ := cut_rest hbs hpos (firstN rest) hfl
      obtain ⟨b, off, cap, rfl, hcap, hlt, hc⟩ := hrow.some hpos
      have c0 := (hob.bel.cell (p := ⟨b, off + 0, none⟩) hlt).trans (hc 0 hpos)
      rw [Nat.add_zero] at c0
      have q0 : 0 < firstN rest := by omega
      have hrl2 : rest.length ≤ 140737488351232 := hrow.len
      have HF2 : Hid (∀ W, Below w.heap.size w W → Calls Try.prog 28 #[u2] W fun e w' => e = .returned (.int .i64 (firstN (rest.drop (firstN rest)) : Nat)) ∧ Below W.heap.size W w') := fun W hW => first_calls _ _ _ (hb2'.row.on hW)
      have HU1 : Hid _ := hu1
      have HU2 : Hid _ := hu2
      have HB1 : Hid (BS (fun b => b < w.heap.size) w u1 (rest.take (firstN rest))) := hb1'
      have HB2 : Hid (BS (fun b => b < w.heap.size) w u2 (rest.drop (firstN rest))) := hb2'
      have HM : Hid (lenV u2 < rest.length) := by show lenV u2 < rest.length; rw [hb2'.row.lenV, List.length_drop]; omega
      have HACC : Hid _ := hacc
      have HST : Hid _ := hst
      have hLL : acc.length + (rest.take (firstN rest)).length ≤ 1000000 := by
        have h1 := congrArg List.length hacc
        have h2 := HOL.out
        simp only [List.length_append, List.length_take] at *
        omega
      have hDD : (rest.drop (firstN rest)).length ≤ zs.length := by rw [List.length_drop]; omega
      have HOB : Hid (OB w.heap.size w wr _ acc) := hob
      clear hst hu1 hu2 hb1' hb2' hacc hrow hbs hc hb1 hob hn
      generalize rest.drop (firstN rest) = rest2 at *
      generalize hT : rest.take (firstN rest) = tk at *
      clear hT
      generalize firstN rest = fr at *
      generalize gz rest 0 = g0 at *
      generalize rest.length = RL at *
      by_cases h128 : 128 ≤ g0
      · have q1 : decide ((128 : Int) ≤ g0) = true := by simpa using h128
        simp only [if_pos h128] at HST
        obtain ⟨v', wy, hrun, hob3, hs3, _⟩ := HOB.out.app hsz (HB1.out.row.on HOB.out.bel).bytes hLL 25
        have HR : Hid _ := hrun
        have HOB3 : Hid (OB w.heap.size w wy v' (acc ++ tk)) := hob3
        clear hrun hob3
        go_wp2_with first
          | (at_builtin; refine wpList_append_run rfl _ _ _ _ rfl rfl rfl HR.out ?_; clear HR)
          | ((with_reducible show wpList _ _ _ _ _ _); refine arm_slice rfl 25 (.tmp 16) none (some (.tmp 17)) rfl rfl rfl rfl (HU1.out _) ?_)
          | ((with_reducible show wpList _ _ _ _ _ _); refine arm_slice rfl 25 (.tmp 20) (some (.tmp 21)) none rfl rfl rfl rfl (HU2.out _) ?_)
        refine Calls.mono (HF2.out _ HOB3.out.bel) ?_
        rintro e w5 ⟨rfl, hb5⟩
        go_wp2_with fail
        refine ⟨⟨rest2, acc ++ tk, ?_, hDD, rfl, HB2.out.row, HOB3.out.below hs3 hb5, Nat.le_trans hs3 hb5.size⟩, ?_⟩
        · rw [List.append_assoc, ← HST.out]; exact HACC.out
        · exact HM.out
      · have q1 : decide ((128 : Int) ≤ g0) = false := by simpa using h128
        simp only [if_neg h128, List.nil_append] at HST
        go_wp2_with first
          | ((with_reducible show wpList _ _ _ _ _ _); refine arm_slice rfl 25 (.tmp 20) (some (.tmp 21)) none rfl rfl rfl rfl (HU2.out _) ?_)
        refine Calls.mono (HF2.out _ HOB.out.bel) ?_
        rintro e w5 ⟨rfl, hb5⟩
        go_wp2_with fail
        refine ⟨⟨rest2, acc, ?_, hDD, rfl, HB2.out.row, HOB.out.below hsz hb5, Nat.le_trans hsz hb5.size⟩, ?_⟩
        · rw [← HST.out]; exact HACC.out
        · exact HM.out

end Go.Proofs.Ytackllcfnlhkpaa
