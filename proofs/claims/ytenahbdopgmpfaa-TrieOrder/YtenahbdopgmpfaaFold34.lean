/-
  Put of the document's table.
  Put6 of the document's table.
-/
import Derived.Test.YtenahbdopgmpfaaFold33
namespace Go.Proofs.Ytenahbdopgmpfaa
open Go Go.RowKit Go.Shelf
set_option linter.unusedVariables false
set_option linter.unusedSimpArgs false

/-- What a Put comes to. -/
def docP (l : List Ent) (k : Bs) (lim cnt v : Int) : Bool × Int × List Ent := if (lookN k l).2 then (true, 0, ins k v l) else if lim ≤ cnt then (false, 3, l) else (false, 0, ins k v l)
theorem docP_was {l : List Ent} {k : Bs} {lim cnt v : Int} (h : (lookN k l).2 = true) : docP l k lim cnt v = (true, 0, ins k v l) := by unfold docP; rw [if_pos h]
theorem docP_full {l : List Ent} {k : Bs} {lim cnt v : Int} (h : (lookN k l).2 = false) (hq : lim ≤ cnt) : docP l k lim cnt v = (false, 3, l) := by unfold docP; rw [h, if_neg (by simp), if_pos hq]
theorem docP_new {l : List Ent} {k : Bs} {lim cnt v : Int} (h : (lookN k l).2 = false) (hq : ¬ lim ≤ cnt) : docP l k lim cnt v = (false, 0, ins k v l) := by unfold docP; rw [h, if_neg (by simp), if_neg hq]
theorem cuts4 {W : World} {base : Nat} {l : List Ent} {a : Option Addr} {c n : Nat} (h : W.ownsRow base 47 6 (.slice a l.length c) l.length (l.flatMap ec4)) (hn : n ≤ l.length) :
    ∃ S1 S2, (∀ w : World, (Instr.sliceAt 54 (.slice a l.length c) none (some (.int .i64 n)) none).run Try.prog w = .ok S1 w) ∧ SrcR 6 ec4 W S1 (l.take n) ∧ (∀ w : World, (Instr.sliceAt 54 (.slice a l.length c) (some (.int .i64 n)) none none).run Try.prog w = .ok S2 w) ∧ SrcR 6 ec4 W S2 (l.drop n) := by
  rcases id h.2 with ⟨e, h0⟩ | ⟨g, c', cur, e, h1, h2, h3, h4, h5⟩
  · injection e with e1 e2 e3
    subst e1
    subst e3
    have hl : l = [] := List.length_eq_zero_iff.1 h0
    subst hl
    obtain rfl : n = 0 := by simpa using hn
    exact ⟨.slice none 0 0, .slice none 0 0, fun w => by simp [Instr.sliceAt, go_sem], .inl ⟨rfl, rfl⟩, fun w => by simp [Instr.sliceAt, go_sem], .inl ⟨rfl, rfl⟩⟩
  · injection e with e1 e2 e3
    subst e1
    subst e3
    obtain ⟨a2, hr, ha⟩ := sl_lo4 g n l.length c hn h3 h4
    exact ⟨_, .slice (some a2) (l.length - n) (c - n), fun w => sl_hi4 g n l.length c w (Nat.le_trans hn h3) h4, srcR_take ec4_len h hn, hr, srcR_drop ec4_len h hn ha⟩
theorem cuts6 {W : World} {base : Nat} {l : List Ent} {a : Option Addr} {c n : Nat} (h : W.ownsRow base 51 18 (.slice a l.length c) l.length (l.flatMap ec6)) (hn : n ≤ l.length) :
    ∃ S1 S2, (∀ w : World, (Instr.sliceAt 56 (.slice a l.length c) none (some (.int .i64 n)) none).run Try.prog w = .ok S1 w) ∧ SrcR 18 ec6 W S1 (l.take n) ∧ (∀ w : World, (Instr.sliceAt 56 (.slice a l.length c) (some (.int .i64 n)) none none).run Try.prog w = .ok S2 w) ∧ SrcR 18 ec6 W S2 (l.drop n) := by
  rcases id h.2 with ⟨e, h0⟩ | ⟨g, c', cur, e, h1, h2, h3, h4, h5⟩
  · injection e with e1 e2 e3
    subst e1
    subst e3
    have hl : l = [] := List.length_eq_zero_iff.1 h0
    subst hl
    obtain rfl : n = 0 := by simpa using hn
    exact ⟨.slice none 0 0, .slice none 0 0, fun w => by simp [Instr.sliceAt, go_sem], .inl ⟨rfl, rfl⟩, fun w => by simp [Instr.sliceAt, go_sem], .inl ⟨rfl, rfl⟩⟩
  · injection e with e1 e2 e3
    subst e1
    subst e3
    obtain ⟨a2, hr, ha⟩ := sl_lo6 g n l.length c hn h3 h4
    exact ⟨_, .slice (some a2) (l.length - n) (c - n), fun w => sl_hi6 g n l.length c w (Nat.le_trans hn h3) h4, srcR_take ec6_len h hn, hr, srcR_drop ec6_len h hn ha⟩
set_option maxHeartbeats 2000000 in
set_option maxRecDepth 100000 in
theorem RLen_any {W : World} {b : Nat} {lim : Int} {l4 l6 : List Ent} {v4 v6 : Value} (h : Doc b lim l4 l6 v4 v6 W) (hlen : l4.length + l6.length ≤ 200000) :
    Calls Try.prog 40 #[.pointer (some ⟨b, 0, none⟩)] W fun e w' => e = .returned (.int .i64 ((l4.length + l6.length : Nat) : Int)) ∧ Below W.heap.size W w' := by
  generalize hQ : (fun (e : Ending) (w' : World) => e = .returned (.int .i64 ((l4.length + l6.length : Nat) : Int)) ∧ Below W.heap.size W w') = Q
  have HQ : Hid (∀ e w', (e = .returned (.int .i64 ((l4.length + l6.length : Nat) : Int)) ∧ Below W.heap.size W w') → Q e w') := fun e w' hh => by rw [← hQ]; exact hh
  clear hQ
  obtain ⟨a4, c4, e4⟩ := own_slcT h.r4
  obtain ⟨a6, c6, e6⟩ := own_slcT h.r6
  have hbx := h.box
  rw [e4, e6] at hbx
  have c1 : ∀ x : Hi W, x.W.cell? ⟨b, 1, none⟩ = some (.slice a4 l4.length c4) := fun x => blk_cell (Hi.blk hbx x) rfl
  have c2 : ∀ x : Hi W, x.W.cell? ⟨b, 2, none⟩ = some (.slice a6 l6.length c6) := fun x => blk_cell (Hi.blk hbx x) rfl
  have w9 : IntKind.i64.wrap ((l4.length : Int) + l6.length) = ((l4.length + l6.length : Nat) : Int) := by rw [wrap_i64 _ ⟨by omega, by omega⟩]; simp
  clear h hbx e4 e6
  generalize ((l4.length + l6.length : Nat) : Int) = N at *
  go_enter Try.func40, Try.ntmps40
  go_wp2_with fail
  refine wp_region_hi (by kernel_rfl) (by kernel_rfl) ?_
  repeat (first | go_big_quiet_skip | (go_big_quiet_want; go_big_quiet_op; first | go_big_quiet_on | go_big_quiet_call (fail)))
  refine wpQuiet_nil ?_
  intro _ hw
  obtain ⟨yy, rfl⟩ := hw
  go_wp2
  try go_ret2
  exact HQ.out _ _ ⟨rfl, yy.below⟩
set_option maxHeartbeats 8000000 in
set_option maxRecDepth 100000 in
theorem RPut4_key {W : World} {b : Nat} {lim : Int} {l4 l6 : List Ent} {v4 v6 : Value} (h : Doc b lim l4 l6 v4 v6 W) (hsrt : Srt l4) (k : Bs) (hk : k.length ≤ 32) (hkey : ∀ e ∈ l4, e.1.length ≤ 32) (hlen : l4.length + l6.length ≤ 70000) (v : Int) :
    Calls Try.prog 31 #[.pointer (some ⟨b, 0, none⟩), PK4 k, .int .i64 v] W fun e w' => ∃ u, e = .returned (.tuple #[.bool (docP l4 k lim ((l4.length + l6.length : Nat) : Int) v).1, .int .i64 (docP l4 k lim ((l4.length + l6.length : Nat) : Int) v).2.1]) ∧ Doc b lim (docP l4 k lim ((l4.length + l6.length : Nat) : Int) v).2.2 l6 u v6 w' ∧ Below b W w' := by
  have hcn := RLen_any (W := W) h
  obtain ⟨cnt, hcnt⟩ : ∃ cnt : Int, cnt = ((l4.length + l6.length : Nat) : Int) := ⟨_, rfl⟩
  have HLEN0 : Hid (∀ X : World, Doc b lim l4 l6 v4 v6 X → Calls Try.prog 40 #[.pointer (some ⟨b, 0, none⟩)] X fun e w' => e = .returned (.int .i64 cnt) ∧ Below X.heap.size X w') := fun X hX => by rw [hcnt]; exact RLen_any hX (by omega)
  rw [← hcnt]
  clear hcn hcnt
  generalize hQ : (fun (e : Ending) (w' : World) => ∃ u, e = .returned (.tuple #[.bool (docP l4 k lim cnt v).1, .int .i64 (docP l4 k lim cnt v).2.1]) ∧ Doc b lim (docP l4 k lim cnt v).2.2 l6 u v6 w' ∧ Below b W w') = Q
  have HQ : Hid (∀ e w', (∃ u, e = .returned (.tuple #[.bool (docP l4 k lim cnt v).1, .int .i64 (docP l4 k lim cnt v).2.1]) ∧ Doc b lim (docP l4 k lim cnt v).2.2 l6 u v6 w' ∧ Below b W w') → Q e w') := fun e w' hh => by rw [← hQ]; exact hh
  clear hQ
  obtain ⟨W0, hW0⟩ : ∃ W0, W0 = W.alloc (.cells (cp6 (bytN 4 k) k.length).toArray 35) := ⟨_, rfl⟩
  have hB0 : Below W.heap.size W W0 := by rw [hW0]; exact (Below.refl W.heap.size W).alloc (Nat.le_refl _) _
  have hx0 : W0.heap[W.heap.size]? = some (.cells (cp6 (bytN 4 k) k.length).toArray 35) := by rw [hW0]; exact blk_new W _
  have hd0 := h.on hB0
  obtain ⟨ad, c, hv⟩ := own_slcT h.r4
  have HV : Hid (v4 = .slice ad l4.length c) := hv
  have HD0 : Hid (Doc b lim l4 l6 v4 v6 W0) := hd0
  have HX0 : Hid (W0.heap[W.heap.size]? = some (.cells (cp6 (bytN 4 k) k.length).toArray 35)) := hx0
  have HB0 : Hid (Below W.heap.size W W0) := hB0
  have HLT : Hid (b < W.heap.size) := h.lt
  have HSRT : Hid (Srt l4) := hsrt
  have HSZ : Hid (l4.length ≤ 70000) := by
    have : l4.length ≤ 70000 := by omega
    exact this
  have HCK : Hid (∀ X : World, Calls Try.prog 48 #[PK4 k] X fun e w' => e = .returned (.int .i64 0) ∧ Below X.heap.size X w') := fun X => RCheck4_key hk X
  have HL0 : Hid ((Instr.loadAt 35 (.pointer (some ⟨W.heap.size, 0, none⟩))).run Try.prog W0 = .ok (PK4 k) W0) := ld_bx4 hx0
  have HKEY : Hid (∀ e ∈ l4, e.1.length ≤ 32) := hkey
  have HK : Hid (k.length ≤ 32) := hk
  have hln : l4.length ≤ 70000 := HSZ.out
  have hW := hW0.symm
  clear hW0 hB0 hx0 hd0 hv h hkey hk hsrt hlen
  go_enter Try.func31, Try.ntmps31
  go_wp2_with first
    | ((with_reducible show wpList _ _ _ ({ dst := _, op := Op.load 35 (Operand.tmp 4), type := _, pos := _, after := _, guard := _ } :: _) _ _); refine armLv (.tmp 4) 35 rfl rfl rfl HL0.out ?_)
  refine Calls.mono (HCK.out _) ?_
  rintro e w1 ⟨rfl, hb1⟩
  have HD1 : Hid (Doc b lim l4 l6 v4 v6 w1) := HD0.out.on hb1
  have HX1 : Hid (w1.heap[W.heap.size]? = some (.cells (cp6 (bytN 4 k) k.length).toArray 35)) := blk_on HX0.out hb1
  have HB1 : Hid (Below W.heap.size W w1) := HB0.out.trans (hb1.mono HB0.out.size)
  clear hb1 HL0 HCK HB0 HX0 HD0 hW
  go_wp2
  go_loopw [8] (fun i wr => ∃ n : Nat, n ≤ l4.length ∧ i = .int .i64 n ∧ (∀ j e, j < n → l4[j]? = some e → ltB e.1 k = true) ∧ Below w1.heap.size w1 wr) (fun i _ => l4.length - (intOf i).toNat)
  case atStart => exact ⟨0, Nat.zero_le _, rfl, fun j e h => absurd h (Nat.not_lt_zero _), Below.refl _ _⟩
  case round =>
    obtain ⟨n, hn, rfl, hne, hBk⟩ := hrel
    have HNE : Hid (∀ j e, j < n → l4[j]? = some e → ltB e.1 k = true) := hne
    have hdk := HD1.out.on hBk
    have HDK : Hid (Doc b lim l4 l6 v4 v6 wr) := hdk
    have HXK : Hid (wr.heap[W.heap.size]? = some (.cells (cp6 (bytN 4 k) k.length).toArray 35)) := blk_on HX1.out hBk
    have c1 : ∀ x : Hi wr, x.W.cell? ⟨b, 1, none⟩ = some (.slice ad l4.length c) := fun x => by rw [← HV.out]; exact blk_cell (hdk.on x.below).box rfl
    have c0 : ∀ x : Hi wr, x.W.cell? ⟨b, 0, none⟩ = some (.int .i64 lim) := fun x => blk_cell (hdk.on x.below).box rfl
    have HLEN : Hid (∀ x : Hi wr, Calls Try.prog 40 #[.pointer (some ⟨b, 0, none⟩)] x.W fun e w' => e = .returned (.int .i64 cnt) ∧ Below x.W.heap.size x.W w') := fun x => HLEN0.out _ (HDK.out.on x.below)
    have HBK : Hid (Below W.heap.size W wr) := HB1.out.trans (hBk.mono HB1.out.size)
    have HBR : Hid (Below w1.heap.size w1 wr) := hBk
    have HLE : Hid (n ≤ l4.length) := hn
    by_cases hlt : n < l4.length
    · obtain ⟨e0, he0⟩ : ∃ e0, l4[n]? = some e0 := ⟨_, List.getElem?_eq_getElem hlt⟩
      obtain ⟨g, c', hv', hg, hbg, hcx⟩ := own_atT ec4_len hdk.r4 he0
      rw [HV.out] at hv'
      obtain ⟨rfl, rfl⟩ : ad = some ⟨g, 0, none⟩ ∧ c = c' := by injection hv' with h1 _ h3; exact ⟨h1, h3⟩
      have hcu : ∀ x : Hi wr, CellsAt x.W g (n * 6) (ec4 e0) := fun x i u hi => (x.below.cell (p := ⟨g, _, none⟩) hg).trans (hcx i u hi)
      have HL1 : Hid (∀ x : Hi wr, (Instr.loadAt 35 (.pointer (some ⟨g, n * 6, none⟩))).run Try.prog x.W = .ok (PK4 e0.1) x.W) := fun x => ld_pk4 (hcu x)
      have HL2 : Hid (∀ x : Hi wr, (Instr.loadAt 35 (.pointer (some ⟨W.heap.size, 0, none⟩))).run Try.prog x.W = .ok (PK4 k) x.W) := fun x => ld_bx4 (Hi.blk HXK.out x)
      have HEQ : Hid (∀ X : World, (binOp .eql 35 (PK4 e0.1) (PK4 k)).run Try.prog X = .ok (.bool (decide (e0.1 = k))) X) := fun X => eqlK4 (HKEY.out e0 (List.mem_of_getElem? he0)) X
      have HAH : Hid (∀ x : Hi wr, Calls Try.prog 59 #[PK4 e0.1, PK4 k] x.W fun e w' => e = .returned (.bool (ltB e0.1 k)) ∧ Below x.W.heap.size x.W w') := fun x => ahead4_key e0.1 k (HKEY.out e0 (List.mem_of_getElem? he0)) HK.out x.W
      have dv : ∀ x : Hi wr, x.W.cell? ⟨g, n * 6 + 5, none⟩ = some (.int .i64 e0.2) := fun x => hcu x 5 _ (ec4_v e0)
      have df : ∀ x : Hi wr, x.W.frozen? ⟨g, n * 6 + 5, none⟩ = false := fun x => by
        have := (hdk.on x.below).r4
        rw [HV.out] at this
        exact this.frozenAt _
      have q1 : decide ((n : Int) < l4.length) = true := by simpa using hlt
      have w9 : IntKind.i64.wrap ((n : Int) + 1) = (n : Int) + 1 := wrap_i64 _ ⟨by omega, by omega⟩
      have HE0 : Hid (l4[n]? = some e0) := he0
      have HN : Hid (n < l4.length) := hlt
      have HGB : Hid (b < g) := hbg
      clear hcx hcu hdk hv' hne hBk he0
      cases hlb : ltB e0.1 k with
      | true =>
        rw [hlb] at HAH
        have HLB : Hid (ltB e0.1 k = true) := hlb
        clear hlb dv df HEQ
        go_wp2_with fail
        refine wp_region_hi (by kernel_rfl) (by kernel_rfl) ?_
        repeat (first | go_big_quiet_skip | (go_big_quiet_want; refine hi_load (.tmp 27) 35 rfl rfl HL1.out ?_; simp only [Act.put, List.setIfInBounds_toArray, List.set_cons_zero, List.set_cons_succ]; go_big_quiet_on) | (go_big_quiet_want; refine hi_load (.tmp 4) 35 rfl rfl HL2.out ?_; simp only [Act.put, List.setIfInBounds_toArray, List.set_cons_zero, List.set_cons_succ]; go_big_quiet_on) | (go_big_quiet_want; go_big_quiet_op; first | go_big_quiet_on | go_big_quiet_call (first | (go_at_call 59; with_reducible exact Hi.calls (HAH.out _)))))
        refine wpQuiet_nil ?_
        intro _ hw
        obtain ⟨yy, rfl⟩ := hw
        go_wp2
        go_roundw
        case rel => exact ⟨n + 1, HN.out, rfl, fun j e hj he => (by
          rcases Nat.lt_succ_iff_lt_or_eq.1 hj with hj | rfl
          · exact HNE.out j e hj he
          · rw [HE0.out] at he; injection he with he; rw [← he]; exact HLB.out), HBR.out.trans (yy.below.mono HBR.out.size)⟩
        case measure => show l4.length - (n + 1) < l4.length - n; have := HN.out; omega
      | false =>
        rw [hlb] at HAH
        have h2 : ∀ e, l4[n]? = some e → ltB e.1 k = false := fun e he => by rw [HE0.out] at he; injection he with he; rw [← he]; exact hlb
        have hla := look_at HSRT.out HNE.out h2
        have hia := ins_at (v := v) HLE.out HNE.out h2
        rw [HE0.out] at hla hia
        simp only at hla hia
        clear hlb h2 w9
        cases hh : decide (e0.1 = k) with
        | true =>
          rw [hh] at HEQ
          have hek : e0.1 = k := of_decide_eq_true hh
          rw [if_pos hek] at hla hia
          have HD : Hid _ := docP_was (l := l4) (k := k) (lim := lim) (cnt := cnt) (v := v) (by rw [hla])
          have hset : l4.set n (e0.1, v) = ins k v l4 := by rw [hia, List.set_eq_take_append_cons_drop, if_pos HN.out, hek]
          have HSET : Hid (l4.set n (e0.1, v) = ins k v l4) := hset
          clear hh hek hla hia hset HLEN HLEN0
          go_wp2_with fail
          refine wp_region_hi (by kernel_rfl) (by kernel_rfl) ?_
          repeat (first | go_big_quiet_skip | (go_big_quiet_want; refine hi_load (.tmp 27) 35 rfl rfl HL1.out ?_; simp only [Act.put, List.setIfInBounds_toArray, List.set_cons_zero, List.set_cons_succ]; go_big_quiet_on) | (go_big_quiet_want; refine hi_load (.tmp 4) 35 rfl rfl HL2.out ?_; simp only [Act.put, List.setIfInBounds_toArray, List.set_cons_zero, List.set_cons_succ]; go_big_quiet_on) | (go_big_quiet_want; go_big_quiet_op; first | go_big_quiet_on | go_big_quiet_call (first | (go_at_call 59; with_reducible exact Hi.calls (HAH.out _)))))
          refine wpQuiet_nil ?_
          intro _ hw
          obtain ⟨yy, rfl⟩ := hw
          go_wp2_with fail
          refine wp_region_up (by kernel_rfl) (by kernel_rfl) ?_
          repeat (first | go_big_quiet_skip | (go_big_quiet_want; refine hi_load (.tmp 48) 35 rfl rfl HL1.out ?_; simp only [Act.put, List.setIfInBounds_toArray, List.set_cons_zero, List.set_cons_succ]; go_big_quiet_on) | (go_big_quiet_want; refine hi_load (.tmp 4) 35 rfl rfl HL2.out ?_; simp only [Act.put, List.setIfInBounds_toArray, List.set_cons_zero, List.set_cons_succ]; go_big_quiet_on) | (go_big_quiet_want; refine hi_binT .eql 35 35 (.tmp 49) (.tmp 50) rfl rfl rfl (fun W => gdP4T _ _ _ _ _ W) HEQ.out ?_; simp only [Act.put, List.setIfInBounds_toArray, List.set_cons_zero, List.set_cons_succ]; go_big_quiet_on) | (go_big_quiet_want; go_big_quiet_op; first | go_big_quiet_on | go_big_quiet_call (fail)))
          refine wpQuiet_nil ?_
          intro _ hw
          obtain ⟨z, rfl⟩ := hw
          have hdz := HDK.out.on z.below
          have hrz := hdz.r4
          rw [HV.out] at hrz
          have hown := own_put4 hrz HE0.out v
          rw [HSET.out] at hown
          have hb4 : (z.W.setCell ⟨g, n * 6 + 5, none⟩ (.int .i64 v)).heap[b]? = some (.cells [.int .i64 lim, v4, v6].toArray 63) := blk_set_other hdz.box (by have := HGB.out; omega) _ _
          have on4 : Only g z.W (z.W.setCell ⟨g, n * 6 + 5, none⟩ (.int .i64 v)) := (Only.refl g z.W).set _ _
          have HDF : Hid (Doc b lim (ins k v l4) l6 v4 v6 (z.W.setCell ⟨g, n * 6 + 5, none⟩ (.int .i64 v))) := ⟨hb4, (by rw [HV.out]; rw [HSET.out.symm, List.length_set] at hown ⊢; exact hown), own_sameT hdz.r6 (fun q hq => on4.other q (fun e => hdz.ne g (by rw [HV.out]; rfl) (e ▸ hq))), hdz.ne⟩
          have HBF : Hid (Below b W (z.W.setCell ⟨g, n * 6 + 5, none⟩ (.int .i64 v))) := ((HBK.out.trans (z.below.mono HBK.out.size)).mono (Nat.le_of_lt HLT.out)).trans (on4.below (Nat.le_of_lt HGB.out))
          clear hdz hrz hown hb4 on4
          go_wp2
          try go_ret2
          refine HQ.out _ _ ⟨v4, ?_, ?_, HBF.out⟩
          · (rw [HD.out]) <;> rfl
          · rw [HD.out]
            exact HDF.out
        | false =>
          rw [hh] at HEQ
          have hek : e0.1 ≠ k := of_decide_eq_false hh
          rw [if_neg hek] at hla hia
          have HIN : Hid (ins k v l4 = l4.take n ++ (k, v) :: l4.drop n) := hia
          have HLK : Hid ((lookN k l4).2 = false) := (congrArg Prod.snd hla)
          clear hh hek hla hia dv df
          go_wp2_with fail
          refine wp_region_hi (by kernel_rfl) (by kernel_rfl) ?_
          repeat (first | go_big_quiet_skip | (go_big_quiet_want; refine hi_load (.tmp 27) 35 rfl rfl HL1.out ?_; simp only [Act.put, List.setIfInBounds_toArray, List.set_cons_zero, List.set_cons_succ]; go_big_quiet_on) | (go_big_quiet_want; refine hi_load (.tmp 4) 35 rfl rfl HL2.out ?_; simp only [Act.put, List.setIfInBounds_toArray, List.set_cons_zero, List.set_cons_succ]; go_big_quiet_on) | (go_big_quiet_want; go_big_quiet_op; first | go_big_quiet_on | go_big_quiet_call (first | (go_at_call 59; with_reducible exact Hi.calls (HAH.out _)))))
          refine wpQuiet_nil ?_
          intro _ hw
          obtain ⟨yy, rfl⟩ := hw
          go_wp2_with fail
          refine wp_region_up (by kernel_rfl) (by kernel_rfl) ?_
          repeat (first | go_big_quiet_skip | (go_big_quiet_want; refine hi_load (.tmp 48) 35 rfl rfl HL1.out ?_; simp only [Act.put, List.setIfInBounds_toArray, List.set_cons_zero, List.set_cons_succ]; go_big_quiet_on) | (go_big_quiet_want; refine hi_load (.tmp 4) 35 rfl rfl HL2.out ?_; simp only [Act.put, List.setIfInBounds_toArray, List.set_cons_zero, List.set_cons_succ]; go_big_quiet_on) | (go_big_quiet_want; refine hi_binT .eql 35 35 (.tmp 49) (.tmp 50) rfl rfl rfl (fun W => gdP4T _ _ _ _ _ W) HEQ.out ?_; simp only [Act.put, List.setIfInBounds_toArray, List.set_cons_zero, List.set_cons_succ]; go_big_quiet_on) | (go_big_quiet_want; go_big_quiet_op; first | go_big_quiet_on | go_big_quiet_call (fail)))
          refine wpQuiet_nil ?_
          intro _ hw
          obtain ⟨z, rfl⟩ := hw
          by_cases hq : lim ≤ cnt
          · have HD : Hid _ := docP_full (v := v) HLK.out hq
            have q5 : decide (lim ≤ cnt) = true := decide_eq_true hq
            clear hq
            go_wp2_with fail
            refine wp_region_up (by kernel_rfl) (by kernel_rfl) ?_
            repeat (first | go_big_quiet_skip | (go_big_quiet_want; go_big_quiet_op; first | go_big_quiet_on | go_big_quiet_call (first | (go_at_call 40; with_reducible exact Hi.calls (HLEN.out _)))))
            refine wpQuiet_nil ?_
            intro _ hw
            obtain ⟨u, rfl⟩ := hw
            clear HLEN
            go_wp2
            try go_ret2
            refine HQ.out _ _ ⟨v4, ?_, ?_, (HBK.out.trans (u.below.mono HBK.out.size)).mono (Nat.le_of_lt HLT.out)⟩
            · (rw [HD.out]) <;> rfl
            · rw [HD.out]
              exact HDK.out.on u.below
          · have HD : Hid _ := docP_new (v := v) HLK.out hq
            have q5 : decide (lim ≤ cnt) = false := decide_eq_false hq
            clear hq
            go_wp2_with fail
            refine wp_region_up (by kernel_rfl) (by kernel_rfl) ?_
            repeat (first | go_big_quiet_skip | (go_big_quiet_want; go_big_quiet_op; first | go_big_quiet_on | go_big_quiet_call (first | (go_at_call 40; with_reducible exact Hi.calls (HLEN.out _)))))
            refine wpQuiet_nil ?_
            intro _ hw
            obtain ⟨u, rfl⟩ := hw
            clear HLEN
            have hdu := HDK.out.on u.below
            have hru := hdu.r4
            rw [HV.out] at hru
            obtain ⟨S1, S2, hs1, hr1, hs2, hr2⟩ := cuts4 hru HLE.out
            have hA := (Below.refl u.W.heap.size u.W).alloc (Nat.le_refl _) (.cells #[] 47)
            have ho0 : (u.W.alloc (.cells #[] 47)).ownsRow u.W.heap.size 47 6 (.slice (some ⟨u.W.heap.size, 0, none⟩) 0 0) ([] : List Ent).length (([] : List Ent).flatMap ec4) := World.ownsRow_lit (base := u.W.heap.size) (size := 6) (e := 47) u.W #[] 0 (Nat.le_refl _) (Nat.zero_le _) rfl
            obtain ⟨x1, X1, hap1, hown1, hb1⟩ := appE4 ho0 hA.size (L2 := l4.take n) (by have := HSZ.out; rw [List.length_take]; simp; omega) (hr1.on hA) 54
            rw [List.nil_append] at hown1
            have hB1 := hA.trans hb1
            obtain ⟨x2, X2, hap2, hown2, hb2, _⟩ := pushE4 hown1 hB1.size (by have := HSZ.out; rw [List.length_take]; omega) (k, v) 54
            have hB2 := hB1.trans hb2
            obtain ⟨x3, X3, hap3, hown3, hb3⟩ := appE4 hown2 hB2.size (L2 := l4.drop n) (by have := HSZ.out; simp; omega) (hr2.on hB2) 54
            have hB3 := hB2.trans hb3
            have hbu : b < u.W.heap.size := hdu.lt
            have hbx1 := blk_on hdu.box hA
            have hbx2 := blk_on hdu.box hB1
            have hbx3 := blk_on hdu.box hB2
            have hbx4 := blk_on hdu.box hB3
            have hst := st_fld4 hbx4 (by obtain ⟨a, c, e⟩ := own_slcT hown3; exact ⟨_, _, _, e⟩ : ∃ x n m, x3 = .slice x n m)
            have on4 : Only b X3 (X3.setCell ⟨b, 1, none⟩ x3) := (Only.refl b X3).set 1 _
            have hrow : ((l4.take n ++ [(k, v)]) ++ l4.drop n) = ins k v l4 := by rw [HIN.out, List.append_assoc]; rfl
            rw [hrow] at hown3
            have hbox' := blk_set hbx4 1 x3
            have HDF : Hid (Doc b lim (ins k v l4) l6 x3 v6 (X3.setCell ⟨b, 1, none⟩ x3)) := ⟨hbox', own_baseT (own_sameT hown3 (fun q hq => on4.other q (by have := (own_ltT hown3 hq).1; omega))) hbu, own_sameT hdu.r6 (fun q hq => (on4.other q (by have := (own_ltT hdu.r6 hq).1; omega)).trans (hB3.block q (own_ltT hdu.r6 hq).2)), fun g hg => (fun e => by have := (own_ltT hown3 hg).1; have := (own_ltT hdu.r6 e).2; omega)⟩
            have HBF : Hid (Below b W (X3.setCell ⟨b, 1, none⟩ x3)) := ((HBK.out.trans (u.below.mono HBK.out.size)).mono (Nat.le_of_lt HLT.out)).trans ((hB3.mono (Nat.le_of_lt hbu)).trans (on4.below (Nat.le_refl _)))
            have ca1 : (u.W.alloc (.cells #[] 47)).cell? ⟨b, 1, none⟩ = some (.slice (some ⟨g, 0, none⟩) l4.length c) := by rw [← HV.out]; exact blk_cell hbx1 rfl
            have ca3 : X2.cell? ⟨b, 1, none⟩ = some (.slice (some ⟨g, 0, none⟩) l4.length c) := by rw [← HV.out]; exact blk_cell hbx3 rfl
            have hxp : X1.heap[W.heap.size]? = some (.cells (cp6 (bytN 4 k) k.length).toArray 35) := blk_on (Hi.blk HXK.out u) hB1
            have HLP : Hid _ := ld_bx4 hxp
            have HX3 : Hid (∃ z1 z2 z3, x3 = .slice z1 z2 z3) := (by obtain ⟨a, c, e⟩ := own_slcT hown3; exact ⟨_, _, _, e⟩)
            have HS1 : Hid _ := hs1
            have HS2 : Hid _ := hs2
            have HAP1 : Hid _ := hap1
            have HAP2 : Hid _ := hap2
            have HAP3 : Hid _ := hap3
            have HST : Hid _ := hst
            have HBD : Hid _ := bld_e4 k v X1
            have HBS : Hid _ := bsE4 X1 (k, v)
            clear hs1 hs2 hr1 hr2 hA ho0 hap1 hown1 hb1 hB1 hap2 hown2 hb2 hB2 hap3 hown3 hb3 hB3 hbx1 hbx2 hbx3 hbx4 hst on4 hrow hbox' hxp hdu hru
            generalize X3.setCell ⟨b, 1, none⟩ x3 = V at *
            obtain ⟨z1, z2, z3, rfl⟩ : ∃ z1 z2 z3, x3 = .slice z1 z2 z3 := HX3.out
            go_wp2_with first
              | ((with_reducible show wpList _ _ _ ({ dst := _, op := Op.slice 54 (Operand.tmp 72) none (some (Operand.tmp 73)) none, type := _, pos := _, after := _, guard := _ } :: _) _ _); refine arm_slT (.tmp 72) none (some (.tmp 73)) 54 rfl rfl rfl rfl rfl (HS1.out _) ?_)
              | ((with_reducible show wpList _ _ _ ({ dst := _, op := Op.call { callee := Callee.builtin Builtin.append, args := #[(Operand.tmp 68), (Operand.tmp 74)], argTypes := #[54, 54] }, type := _, pos := _, after := _, guard := _ } :: _) _ _); refine arm_apT (.tmp 68) (.tmp 74) 54 rfl rfl rfl rfl HAP1.out ?_)
              | ((with_reducible show wpList _ _ _ ({ dst := _, op := Op.load 35 (Operand.tmp 4), type := _, pos := _, after := _, guard := _ } :: _) _ _); refine armLv (.tmp 4) 35 rfl rfl rfl HLP.out ?_)
              | ((with_reducible show wpList _ _ _ ({ dst := _, op := Op.build 47 _, type := _, pos := _, after := _, guard := _ } :: _) _ _); refine arm_build rfl 47 [(0, .tmp 77), (1, .tmp 78)] rfl rfl HBD.out ?_)
              | ((with_reducible show wpList _ _ _ ({ dst := _, op := Op.buildSlice 54 1 #[(0, (Operand.tmp 79))], type := _, pos := _, after := _, guard := _ } :: _) _ _); refine arm_bsT (.tmp 79) 54 rfl rfl rfl HBS.out ?_)
              | ((with_reducible show wpList _ _ _ ({ dst := _, op := Op.call { callee := Callee.builtin Builtin.append, args := #[(Operand.tmp 76), (Operand.tmp 80)], argTypes := #[54, 54] }, type := _, pos := _, after := _, guard := _ } :: _) _ _); refine arm_apT (.tmp 76) (.tmp 80) 54 rfl rfl rfl rfl HAP2.out ?_)
              | ((with_reducible show wpList _ _ _ ({ dst := _, op := Op.slice 54 (Operand.tmp 87) (some (Operand.tmp 88)) none none, type := _, pos := _, after := _, guard := _ } :: _) _ _); refine arm_slT (.tmp 87) (some (.tmp 88)) none 54 rfl rfl rfl rfl rfl (HS2.out _) ?_)
              | ((with_reducible show wpList _ _ _ ({ dst := _, op := Op.call { callee := Callee.builtin Builtin.append, args := #[(Operand.tmp 83), (Operand.tmp 89)], argTypes := #[54, 54] }, type := _, pos := _, after := _, guard := _ } :: _) _ _); refine arm_apT (.tmp 83) (.tmp 89) 54 rfl rfl rfl rfl HAP3.out ?_)
              | ((with_reducible show wpList _ _ _ ({ dst := _, op := Op.store 54 (Operand.tmp 92) (Operand.tmp 90), type := _, pos := _, after := _, guard := _ } :: _) _ _); refine armS (.tmp 92) (.tmp 90) 54 rfl rfl rfl rfl HST.out ?_)
            try go_ret2
            refine HQ.out _ _ ⟨.slice z1 z2 z3, ?_, ?_, HBF.out⟩
            · (rw [HD.out]) <;> rfl
            · rw [HD.out]
              exact HDF.out
    · obtain rfl : n = l4.length := by omega
      have h2 : ∀ e, l4[l4.length]? = some e → ltB e.1 k = false := fun e he => by simp at he
      have hla := look_at HSRT.out HNE.out h2
      have hia := ins_at (v := v) HLE.out HNE.out h2
      simp only [List.getElem?_eq_none (Nat.le_refl _)] at hla hia
      have HIN : Hid (ins k v l4 = l4.take l4.length ++ (k, v) :: l4.drop l4.length) := by
        have : ins k v l4 = l4.take l4.length ++ (k, v) :: l4.drop l4.length := by rw [hia, List.drop_length]
        exact this
      have HLK : Hid ((lookN k l4).2 = false) := (congrArg Prod.snd hla)
      clear hdk hne hBk hla hia h2 hlt
      go_wp2_with fail
      refine wp_region_hi (by kernel_rfl) (by kernel_rfl) ?_
      repeat (first | go_big_quiet_skip | (go_big_quiet_want; go_big_quiet_op; first | go_big_quiet_on | go_big_quiet_call (fail)))
      refine wpQuiet_nil ?_
      intro _ hw
      obtain ⟨yy, rfl⟩ := hw
      go_wp2_with fail
      refine wp_region_up (by kernel_rfl) (by kernel_rfl) ?_
      repeat (first | go_big_quiet_skip | (go_big_quiet_want; go_big_quiet_op; first | go_big_quiet_on | go_big_quiet_call (fail)))
      refine wpQuiet_nil ?_
      intro _ hw
      obtain ⟨z, rfl⟩ := hw
      by_cases hq : lim ≤ cnt
      · have HD : Hid _ := docP_full (v := v) HLK.out hq
        have q5 : decide (lim ≤ cnt) = true := decide_eq_true hq
        clear hq
        go_wp2_with fail
        refine wp_region_up (by kernel_rfl) (by kernel_rfl) ?_
        repeat (first | go_big_quiet_skip | (go_big_quiet_want; go_big_quiet_op; first | go_big_quiet_on | go_big_quiet_call (first | (go_at_call 40; with_reducible exact Hi.calls (HLEN.out _)))))
        refine wpQuiet_nil ?_
        intro _ hw
        obtain ⟨u, rfl⟩ := hw
        clear HLEN
        go_wp2
        try go_ret2
        refine HQ.out _ _ ⟨v4, ?_, ?_, (HBK.out.trans (u.below.mono HBK.out.size)).mono (Nat.le_of_lt HLT.out)⟩
        · (rw [HD.out]) <;> rfl
        · rw [HD.out]
          exact HDK.out.on u.below
      · have HD : Hid _ := docP_new (v := v) HLK.out hq
        have q5 : decide (lim ≤ cnt) = false := decide_eq_false hq
        clear hq
        go_wp2_with fail
        refine wp_region_up (by kernel_rfl) (by kernel_rfl) ?_
        repeat (first | go_big_quiet_skip | (go_big_quiet_want; go_big_quiet_op; first | go_big_quiet_on | go_big_quiet_call (first | (go_at_call 40; with_reducible exact Hi.calls (HLEN.out _)))))
        refine wpQuiet_nil ?_
        intro _ hw
        obtain ⟨u, rfl⟩ := hw
        clear HLEN
        have hdu := HDK.out.on u.below
        have hru := hdu.r4
        rw [HV.out] at hru
        obtain ⟨S1, S2, hs1, hr1, hs2, hr2⟩ := cuts4 hru HLE.out
        have hA := (Below.refl u.W.heap.size u.W).alloc (Nat.le_refl _) (.cells #[] 47)
        have ho0 : (u.W.alloc (.cells #[] 47)).ownsRow u.W.heap.size 47 6 (.slice (some ⟨u.W.heap.size, 0, none⟩) 0 0) ([] : List Ent).length (([] : List Ent).flatMap ec4) := World.ownsRow_lit (base := u.W.heap.size) (size := 6) (e := 47) u.W #[] 0 (Nat.le_refl _) (Nat.zero_le _) rfl
        obtain ⟨x1, X1, hap1, hown1, hb1⟩ := appE4 ho0 hA.size (L2 := l4.take l4.length) (by have := HSZ.out; rw [List.length_take]; simp; omega) (hr1.on hA) 54
        rw [List.nil_append] at hown1
        have hB1 := hA.trans hb1
        obtain ⟨x2, X2, hap2, hown2, hb2, _⟩ := pushE4 hown1 hB1.size (by have := HSZ.out; rw [List.length_take]; omega) (k, v) 54
        have hB2 := hB1.trans hb2
        obtain ⟨x3, X3, hap3, hown3, hb3⟩ := appE4 hown2 hB2.size (L2 := l4.drop l4.length) (by have := HSZ.out; simp; omega) (hr2.on hB2) 54
        have hB3 := hB2.trans hb3
        have hbu : b < u.W.heap.size := hdu.lt
        have hbx1 := blk_on hdu.box hA
        have hbx2 := blk_on hdu.box hB1
        have hbx3 := blk_on hdu.box hB2
        have hbx4 := blk_on hdu.box hB3
        have hst := st_fld4 hbx4 (by obtain ⟨a, c, e⟩ := own_slcT hown3; exact ⟨_, _, _, e⟩ : ∃ x n m, x3 = .slice x n m)
        have on4 : Only b X3 (X3.setCell ⟨b, 1, none⟩ x3) := (Only.refl b X3).set 1 _
        have hrow : ((l4.take l4.length ++ [(k, v)]) ++ l4.drop l4.length) = ins k v l4 := by rw [HIN.out, List.append_assoc]; rfl
        rw [hrow] at hown3
        have hbox' := blk_set hbx4 1 x3
        have HDF : Hid (Doc b lim (ins k v l4) l6 x3 v6 (X3.setCell ⟨b, 1, none⟩ x3)) := ⟨hbox', own_baseT (own_sameT hown3 (fun q hq => on4.other q (by have := (own_ltT hown3 hq).1; omega))) hbu, own_sameT hdu.r6 (fun q hq => (on4.other q (by have := (own_ltT hdu.r6 hq).1; omega)).trans (hB3.block q (own_ltT hdu.r6 hq).2)), fun g hg => (fun e => by have := (own_ltT hown3 hg).1; have := (own_ltT hdu.r6 e).2; omega)⟩
        have HBF : Hid (Below b W (X3.setCell ⟨b, 1, none⟩ x3)) := ((HBK.out.trans (u.below.mono HBK.out.size)).mono (Nat.le_of_lt HLT.out)).trans ((hB3.mono (Nat.le_of_lt hbu)).trans (on4.below (Nat.le_refl _)))
        have ca1 : (u.W.alloc (.cells #[] 47)).cell? ⟨b, 1, none⟩ = some (.slice ad l4.length c) := by rw [← HV.out]; exact blk_cell hbx1 rfl
        have ca3 : X2.cell? ⟨b, 1, none⟩ = some (.slice ad l4.length c) := by rw [← HV.out]; exact blk_cell hbx3 rfl
        have hxp : X1.heap[W.heap.size]? = some (.cells (cp6 (bytN 4 k) k.length).toArray 35) := blk_on (Hi.blk HXK.out u) hB1
        have HLP : Hid _ := ld_bx4 hxp
        have HX3 : Hid (∃ z1 z2 z3, x3 = .slice z1 z2 z3) := (by obtain ⟨a, c, e⟩ := own_slcT hown3; exact ⟨_, _, _, e⟩)
        have HS1 : Hid _ := hs1
        have HS2 : Hid _ := hs2
        have HAP1 : Hid _ := hap1
        have HAP2 : Hid _ := hap2
        have HAP3 : Hid _ := hap3
        have HST : Hid _ := hst
        have HBD : Hid _ := bld_e4 k v X1
        have HBS : Hid _ := bsE4 X1 (k, v)
        clear hs1 hs2 hr1 hr2 hA ho0 hap1 hown1 hb1 hB1 hap2 hown2 hb2 hB2 hap3 hown3 hb3 hB3 hbx1 hbx2 hbx3 hbx4 hst on4 hrow hbox' hxp hdu hru
        generalize X3.setCell ⟨b, 1, none⟩ x3 = V at *
        obtain ⟨z1, z2, z3, rfl⟩ : ∃ z1 z2 z3, x3 = .slice z1 z2 z3 := HX3.out
        go_wp2_with first
          | ((with_reducible show wpList _ _ _ ({ dst := _, op := Op.slice 54 (Operand.tmp 72) none (some (Operand.tmp 73)) none, type := _, pos := _, after := _, guard := _ } :: _) _ _); refine arm_slT (.tmp 72) none (some (.tmp 73)) 54 rfl rfl rfl rfl rfl (HS1.out _) ?_)
          | ((with_reducible show wpList _ _ _ ({ dst := _, op := Op.call { callee := Callee.builtin Builtin.append, args := #[(Operand.tmp 68), (Operand.tmp 74)], argTypes := #[54, 54] }, type := _, pos := _, after := _, guard := _ } :: _) _ _); refine arm_apT (.tmp 68) (.tmp 74) 54 rfl rfl rfl rfl HAP1.out ?_)
          | ((with_reducible show wpList _ _ _ ({ dst := _, op := Op.load 35 (Operand.tmp 4), type := _, pos := _, after := _, guard := _ } :: _) _ _); refine armLv (.tmp 4) 35 rfl rfl rfl HLP.out ?_)
          | ((with_reducible show wpList _ _ _ ({ dst := _, op := Op.build 47 _, type := _, pos := _, after := _, guard := _ } :: _) _ _); refine arm_build rfl 47 [(0, .tmp 77), (1, .tmp 78)] rfl rfl HBD.out ?_)
          | ((with_reducible show wpList _ _ _ ({ dst := _, op := Op.buildSlice 54 1 #[(0, (Operand.tmp 79))], type := _, pos := _, after := _, guard := _ } :: _) _ _); refine arm_bsT (.tmp 79) 54 rfl rfl rfl HBS.out ?_)
          | ((with_reducible show wpList _ _ _ ({ dst := _, op := Op.call { callee := Callee.builtin Builtin.append, args := #[(Operand.tmp 76), (Operand.tmp 80)], argTypes := #[54, 54] }, type := _, pos := _, after := _, guard := _ } :: _) _ _); refine arm_apT (.tmp 76) (.tmp 80) 54 rfl rfl rfl rfl HAP2.out ?_)
          | ((with_reducible show wpList _ _ _ ({ dst := _, op := Op.slice 54 (Operand.tmp 87) (some (Operand.tmp 88)) none none, type := _, pos := _, after := _, guard := _ } :: _) _ _); refine arm_slT (.tmp 87) (some (.tmp 88)) none 54 rfl rfl rfl rfl rfl (HS2.out _) ?_)
          | ((with_reducible show wpList _ _ _ ({ dst := _, op := Op.call { callee := Callee.builtin Builtin.append, args := #[(Operand.tmp 83), (Operand.tmp 89)], argTypes := #[54, 54] }, type := _, pos := _, after := _, guard := _ } :: _) _ _); refine arm_apT (.tmp 83) (.tmp 89) 54 rfl rfl rfl rfl HAP3.out ?_)
          | ((with_reducible show wpList _ _ _ ({ dst := _, op := Op.store 54 (Operand.tmp 92) (Operand.tmp 90), type := _, pos := _, after := _, guard := _ } :: _) _ _); refine armS (.tmp 92) (.tmp 90) 54 rfl rfl rfl rfl HST.out ?_)
        try go_ret2
        refine HQ.out _ _ ⟨.slice z1 z2 z3, ?_, ?_, HBF.out⟩
        · (rw [HD.out]) <;> rfl
        · rw [HD.out]
          exact HDF.out
end Go.Proofs.Ytenahbdopgmpfaa

namespace Go.Proofs.Ytenahbdopgmpfaa
open Go Go.RowKit Go.Shelf
set_option linter.unusedVariables false
set_option linter.unusedSimpArgs false

set_option maxHeartbeats 8000000 in
set_option maxRecDepth 100000 in
theorem RPut6_key {W : World} {b : Nat} {lim : Int} {l4 l6 : List Ent} {v4 v6 : Value} (h : Doc b lim l4 l6 v4 v6 W) (hsrt : Srt l6) (k : Bs) (hk : k.length ≤ 128) (hkey : ∀ e ∈ l6, e.1.length ≤ 128) (hlen : l4.length + l6.length ≤ 70000) (v : Int) :
    Calls Try.prog 32 #[.pointer (some ⟨b, 0, none⟩), PK6 k, .int .i64 v] W fun e w' => ∃ u, e = .returned (.tuple #[.bool (docP l6 k lim ((l4.length + l6.length : Nat) : Int) v).1, .int .i64 (docP l6 k lim ((l4.length + l6.length : Nat) : Int) v).2.1]) ∧ Doc b lim l4 (docP l6 k lim ((l4.length + l6.length : Nat) : Int) v).2.2 v4 u w' ∧ Below b W w' := by
  have hcn := RLen_any (W := W) h
  obtain ⟨cnt, hcnt⟩ : ∃ cnt : Int, cnt = ((l4.length + l6.length : Nat) : Int) := ⟨_, rfl⟩
  have HLEN0 : Hid (∀ X : World, Doc b lim l4 l6 v4 v6 X → Calls Try.prog 40 #[.pointer (some ⟨b, 0, none⟩)] X fun e w' => e = .returned (.int .i64 cnt) ∧ Below X.heap.size X w') := fun X hX => by rw [hcnt]; exact RLen_any hX (by omega)
  rw [← hcnt]
  clear hcn hcnt
  generalize hQ : (fun (e : Ending) (w' : World) => ∃ u, e = .returned (.tuple #[.bool (docP l6 k lim cnt v).1, .int .i64 (docP l6 k lim cnt v).2.1]) ∧ Doc b lim l4 (docP l6 k lim cnt v).2.2 v4 u w' ∧ Below b W w') = Q
  have HQ : Hid (∀ e w', (∃ u, e = .returned (.tuple #[.bool (docP l6 k lim cnt v).1, .int .i64 (docP l6 k lim cnt v).2.1]) ∧ Doc b lim l4 (docP l6 k lim cnt v).2.2 v4 u w' ∧ Below b W w') → Q e w') := fun e w' hh => by rw [← hQ]; exact hh
  clear hQ
  obtain ⟨W0, hW0⟩ : ∃ W0, W0 = W.alloc (.cells (cp6 (bytN 16 k) k.length).toArray 39) := ⟨_, rfl⟩
  have hB0 : Below W.heap.size W W0 := by rw [hW0]; exact (Below.refl W.heap.size W).alloc (Nat.le_refl _) _
  have hx0 : W0.heap[W.heap.size]? = some (.cells (cp6 (bytN 16 k) k.length).toArray 39) := by rw [hW0]; exact blk_new W _
  have hd0 := h.on hB0
  obtain ⟨ad, c, hv⟩ := own_slcT h.r6
  have HV : Hid (v6 = .slice ad l6.length c) := hv
  have HD0 : Hid (Doc b lim l4 l6 v4 v6 W0) := hd0
  have HX0 : Hid (W0.heap[W.heap.size]? = some (.cells (cp6 (bytN 16 k) k.length).toArray 39)) := hx0
  have HB0 : Hid (Below W.heap.size W W0) := hB0
  have HLT : Hid (b < W.heap.size) := h.lt
  have HSRT : Hid (Srt l6) := hsrt
  have HSZ : Hid (l6.length ≤ 70000) := by
    have : l6.length ≤ 70000 := by omega
    exact this
  have HCK : Hid (∀ X : World, Calls Try.prog 50 #[PK6 k] X fun e w' => e = .returned (.int .i64 0) ∧ Below X.heap.size X w') := fun X => RCheck6_key hk X
  have HL0 : Hid ((Instr.loadAt 39 (.pointer (some ⟨W.heap.size, 0, none⟩))).run Try.prog W0 = .ok (PK6 k) W0) := ld_bx6 hx0
  have HKEY : Hid (∀ e ∈ l6, e.1.length ≤ 128) := hkey
  have HK : Hid (k.length ≤ 128) := hk
  have hln : l6.length ≤ 70000 := HSZ.out
  have hW := hW0.symm
  clear hW0 hB0 hx0 hd0 hv h hkey hk hsrt hlen
  go_enter Try.func32, Try.ntmps32
  go_wp2_with first
    | ((with_reducible show wpList _ _ _ ({ dst := _, op := Op.load 39 (Operand.tmp 4), type := _, pos := _, after := _, guard := _ } :: _) _ _); refine armLv (.tmp 4) 39 rfl rfl rfl HL0.out ?_)
  refine Calls.mono (HCK.out _) ?_
  rintro e w1 ⟨rfl, hb1⟩
  have HD1 : Hid (Doc b lim l4 l6 v4 v6 w1) := HD0.out.on hb1
  have HX1 : Hid (w1.heap[W.heap.size]? = some (.cells (cp6 (bytN 16 k) k.length).toArray 39)) := blk_on HX0.out hb1
  have HB1 : Hid (Below W.heap.size W w1) := HB0.out.trans (hb1.mono HB0.out.size)
  clear hb1 HL0 HCK HB0 HX0 HD0 hW
  go_wp2
  go_loopw [8] (fun i wr => ∃ n : Nat, n ≤ l6.length ∧ i = .int .i64 n ∧ (∀ j e, j < n → l6[j]? = some e → ltB e.1 k = true) ∧ Below w1.heap.size w1 wr) (fun i _ => l6.length - (intOf i).toNat)
  case atStart => exact ⟨0, Nat.zero_le _, rfl, fun j e h => absurd h (Nat.not_lt_zero _), Below.refl _ _⟩
  case round =>
    obtain ⟨n, hn, rfl, hne, hBk⟩ := hrel
    have HNE : Hid (∀ j e, j < n → l6[j]? = some e → ltB e.1 k = true) := hne
    have hdk := HD1.out.on hBk
    have HDK : Hid (Doc b lim l4 l6 v4 v6 wr) := hdk
    have HXK : Hid (wr.heap[W.heap.size]? = some (.cells (cp6 (bytN 16 k) k.length).toArray 39)) := blk_on HX1.out hBk
    have c1 : ∀ x : Hi wr, x.W.cell? ⟨b, 2, none⟩ = some (.slice ad l6.length c) := fun x => by rw [← HV.out]; exact blk_cell (hdk.on x.below).box rfl
    have c0 : ∀ x : Hi wr, x.W.cell? ⟨b, 0, none⟩ = some (.int .i64 lim) := fun x => blk_cell (hdk.on x.below).box rfl
    have HLEN : Hid (∀ x : Hi wr, Calls Try.prog 40 #[.pointer (some ⟨b, 0, none⟩)] x.W fun e w' => e = .returned (.int .i64 cnt) ∧ Below x.W.heap.size x.W w') := fun x => HLEN0.out _ (HDK.out.on x.below)
    have HBK : Hid (Below W.heap.size W wr) := HB1.out.trans (hBk.mono HB1.out.size)
    have HBR : Hid (Below w1.heap.size w1 wr) := hBk
    have HLE : Hid (n ≤ l6.length) := hn
    by_cases hlt : n < l6.length
    · obtain ⟨e0, he0⟩ : ∃ e0, l6[n]? = some e0 := ⟨_, List.getElem?_eq_getElem hlt⟩
      obtain ⟨g, c', hv', hg, hbg, hcx⟩ := own_atT ec6_len hdk.r6 he0
      rw [HV.out] at hv'
      obtain ⟨rfl, rfl⟩ : ad = some ⟨g, 0, none⟩ ∧ c = c' := by injection hv' with h1 _ h3; exact ⟨h1, h3⟩
      have hcu : ∀ x : Hi wr, CellsAt x.W g (n * 18) (ec6 e0) := fun x i u hi => (x.below.cell (p := ⟨g, _, none⟩) hg).trans (hcx i u hi)
      have HL1 : Hid (∀ x : Hi wr, (Instr.loadAt 39 (.pointer (some ⟨g, n * 18, none⟩))).run Try.prog x.W = .ok (PK6 e0.1) x.W) := fun x => ld_pk6 (hcu x)
      have HL2 : Hid (∀ x : Hi wr, (Instr.loadAt 39 (.pointer (some ⟨W.heap.size, 0, none⟩))).run Try.prog x.W = .ok (PK6 k) x.W) := fun x => ld_bx6 (Hi.blk HXK.out x)
      have HEQ : Hid (∀ X : World, (binOp .eql 39 (PK6 e0.1) (PK6 k)).run Try.prog X = .ok (.bool (decide (e0.1 = k))) X) := fun X => eqlK6 (HKEY.out e0 (List.mem_of_getElem? he0)) X
      have HAH : Hid (∀ x : Hi wr, Calls Try.prog 60 #[PK6 e0.1, PK6 k] x.W fun e w' => e = .returned (.bool (ltB e0.1 k)) ∧ Below x.W.heap.size x.W w') := fun x => ahead6_key e0.1 k (HKEY.out e0 (List.mem_of_getElem? he0)) HK.out x.W
      have dv : ∀ x : Hi wr, x.W.cell? ⟨g, n * 18 + 17, none⟩ = some (.int .i64 e0.2) := fun x => hcu x 17 _ (ec6_v e0)
      have df : ∀ x : Hi wr, x.W.frozen? ⟨g, n * 18 + 17, none⟩ = false := fun x => by
        have := (hdk.on x.below).r6
        rw [HV.out] at this
        exact this.frozenAt _
      have q1 : decide ((n : Int) < l6.length) = true := by simpa using hlt
      have w9 : IntKind.i64.wrap ((n : Int) + 1) = (n : Int) + 1 := wrap_i64 _ ⟨by omega, by omega⟩
      have HE0 : Hid (l6[n]? = some e0) := he0
      have HN : Hid (n < l6.length) := hlt
      have HGB : Hid (b < g) := hbg
      clear hcx hcu hdk hv' hne hBk he0
      cases hlb : ltB e0.1 k with
      | true =>
        rw [hlb] at HAH
        have HLB : Hid (ltB e0.1 k = true) := hlb
        clear hlb dv df HEQ
        go_wp2_with fail
        refine wp_region_hi (by kernel_rfl) (by kernel_rfl) ?_
        repeat (first | go_big_quiet_skip | (go_big_quiet_want; refine hi_load (.tmp 27) 39 rfl rfl HL1.out ?_; simp only [Act.put, List.setIfInBounds_toArray, List.set_cons_zero, List.set_cons_succ]; go_big_quiet_on) | (go_big_quiet_want; refine hi_load (.tmp 4) 39 rfl rfl HL2.out ?_; simp only [Act.put, List.setIfInBounds_toArray, List.set_cons_zero, List.set_cons_succ]; go_big_quiet_on) | (go_big_quiet_want; go_big_quiet_op; first | go_big_quiet_on | go_big_quiet_call (first | (go_at_call 60; with_reducible exact Hi.calls (HAH.out _)))))
        refine wpQuiet_nil ?_
        intro _ hw
        obtain ⟨yy, rfl⟩ := hw
        go_wp2
        go_roundw
        case rel => exact ⟨n + 1, HN.out, rfl, fun j e hj he => (by
          rcases Nat.lt_succ_iff_lt_or_eq.1 hj with hj | rfl
          · exact HNE.out j e hj he
          · rw [HE0.out] at he; injection he with he; rw [← he]; exact HLB.out), HBR.out.trans (yy.below.mono HBR.out.size)⟩
        case measure => show l6.length - (n + 1) < l6.length - n; have := HN.out; omega
      | false =>
        rw [hlb] at HAH
        have h2 : ∀ e, l6[n]? = some e → ltB e.1 k = false := fun e he => by rw [HE0.out] at he; injection he with he; rw [← he]; exact hlb
        have hla := look_at HSRT.out HNE.out h2
        have hia := ins_at (v := v) HLE.out HNE.out h2
        rw [HE0.out] at hla hia
        simp only at hla hia
        clear hlb h2 w9
        cases hh : decide (e0.1 = k) with
        | true =>
          rw [hh] at HEQ
          have hek : e0.1 = k := of_decide_eq_true hh
          rw [if_pos hek] at hla hia
          have HD : Hid _ := docP_was (l := l6) (k := k) (lim := lim) (cnt := cnt) (v := v) (by rw [hla])
          have hset : l6.set n (e0.1, v) = ins k v l6 := by rw [hia, List.set_eq_take_append_cons_drop, if_pos HN.out, hek]
          have HSET : Hid (l6.set n (e0.1, v) = ins k v l6) := hset
          clear hh hek hla hia hset HLEN HLEN0
          go_wp2_with fail
          refine wp_region_hi (by kernel_rfl) (by kernel_rfl) ?_
          repeat (first | go_big_quiet_skip | (go_big_quiet_want; refine hi_load (.tmp 27) 39 rfl rfl HL1.out ?_; simp only [Act.put, List.setIfInBounds_toArray, List.set_cons_zero, List.set_cons_succ]; go_big_quiet_on) | (go_big_quiet_want; refine hi_load (.tmp 4) 39 rfl rfl HL2.out ?_; simp only [Act.put, List.setIfInBounds_toArray, List.set_cons_zero, List.set_cons_succ]; go_big_quiet_on) | (go_big_quiet_want; go_big_quiet_op; first | go_big_quiet_on | go_big_quiet_call (first | (go_at_call 60; with_reducible exact Hi.calls (HAH.out _)))))
          refine wpQuiet_nil ?_
          intro _ hw
          obtain ⟨yy, rfl⟩ := hw
          go_wp2_with fail
          refine wp_region_up (by kernel_rfl) (by kernel_rfl) ?_
          repeat (first | go_big_quiet_skip | (go_big_quiet_want; refine hi_load (.tmp 48) 39 rfl rfl HL1.out ?_; simp only [Act.put, List.setIfInBounds_toArray, List.set_cons_zero, List.set_cons_succ]; go_big_quiet_on) | (go_big_quiet_want; refine hi_load (.tmp 4) 39 rfl rfl HL2.out ?_; simp only [Act.put, List.setIfInBounds_toArray, List.set_cons_zero, List.set_cons_succ]; go_big_quiet_on) | (go_big_quiet_want; refine hi_binT .eql 39 39 (.tmp 49) (.tmp 50) rfl rfl rfl (fun W => gdP6 _ _ _ _ _ W) HEQ.out ?_; simp only [Act.put, List.setIfInBounds_toArray, List.set_cons_zero, List.set_cons_succ]; go_big_quiet_on) | (go_big_quiet_want; go_big_quiet_op; first | go_big_quiet_on | go_big_quiet_call (fail)))
          refine wpQuiet_nil ?_
          intro _ hw
          obtain ⟨z, rfl⟩ := hw
          have hdz := HDK.out.on z.below
          have hrz := hdz.r6
          rw [HV.out] at hrz
          have hown := own_put6 hrz HE0.out v
          rw [HSET.out] at hown
          have hb4 : (z.W.setCell ⟨g, n * 18 + 17, none⟩ (.int .i64 v)).heap[b]? = some (.cells [.int .i64 lim, v4, v6].toArray 63) := blk_set_other hdz.box (by have := HGB.out; omega) _ _
          have on4 : Only g z.W (z.W.setCell ⟨g, n * 18 + 17, none⟩ (.int .i64 v)) := (Only.refl g z.W).set _ _
          have HDF : Hid (Doc b lim l4 (ins k v l6) v4 v6 (z.W.setCell ⟨g, n * 18 + 17, none⟩ (.int .i64 v))) := ⟨hb4, own_sameT hdz.r4 (fun q hq => on4.other q (fun e => hdz.ne q hq (by rw [HV.out, e]; rfl))), (by rw [HV.out]; rw [HSET.out.symm, List.length_set] at hown ⊢; exact hown), hdz.ne⟩
          have HBF : Hid (Below b W (z.W.setCell ⟨g, n * 18 + 17, none⟩ (.int .i64 v))) := ((HBK.out.trans (z.below.mono HBK.out.size)).mono (Nat.le_of_lt HLT.out)).trans (on4.below (Nat.le_of_lt HGB.out))
          clear hdz hrz hown hb4 on4
          go_wp2
          try go_ret2
          refine HQ.out _ _ ⟨v6, ?_, ?_, HBF.out⟩
          · (rw [HD.out]) <;> rfl
          · rw [HD.out]
            exact HDF.out
        | false =>
          rw [hh] at HEQ
          have hek : e0.1 ≠ k := of_decide_eq_false hh
          rw [if_neg hek] at hla hia
          have HIN : Hid (ins k v l6 = l6.take n ++ (k, v) :: l6.drop n) := hia
          have HLK : Hid ((lookN k l6).2 = false) := (congrArg Prod.snd hla)
          clear hh hek hla hia dv df
          go_wp2_with fail
          refine wp_region_hi (by kernel_rfl) (by kernel_rfl) ?_
          repeat (first | go_big_quiet_skip | (go_big_quiet_want; refine hi_load (.tmp 27) 39 rfl rfl HL1.out ?_; simp only [Act.put, List.setIfInBounds_toArray, List.set_cons_zero, List.set_cons_succ]; go_big_quiet_on) | (go_big_quiet_want; refine hi_load (.tmp 4) 39 rfl rfl HL2.out ?_; simp only [Act.put, List.setIfInBounds_toArray, List.set_cons_zero, List.set_cons_succ]; go_big_quiet_on) | (go_big_quiet_want; go_big_quiet_op; first | go_big_quiet_on | go_big_quiet_call (first | (go_at_call 60; with_reducible exact Hi.calls (HAH.out _)))))
          refine wpQuiet_nil ?_
          intro _ hw
          obtain ⟨yy, rfl⟩ := hw
          go_wp2_with fail
          refine wp_region_up (by kernel_rfl) (by kernel_rfl) ?_
          repeat (first | go_big_quiet_skip | (go_big_quiet_want; refine hi_load (.tmp 48) 39 rfl rfl HL1.out ?_; simp only [Act.put, List.setIfInBounds_toArray, List.set_cons_zero, List.set_cons_succ]; go_big_quiet_on) | (go_big_quiet_want; refine hi_load (.tmp 4) 39 rfl rfl HL2.out ?_; simp only [Act.put, List.setIfInBounds_toArray, List.set_cons_zero, List.set_cons_succ]; go_big_quiet_on) | (go_big_quiet_want; refine hi_binT .eql 39 39 (.tmp 49) (.tmp 50) rfl rfl rfl (fun W => gdP6 _ _ _ _ _ W) HEQ.out ?_; simp only [Act.put, List.setIfInBounds_toArray, List.set_cons_zero, List.set_cons_succ]; go_big_quiet_on) | (go_big_quiet_want; go_big_quiet_op; first | go_big_quiet_on | go_big_quiet_call (fail)))
          refine wpQuiet_nil ?_
          intro _ hw
          obtain ⟨z, rfl⟩ := hw
          by_cases hq : lim ≤ cnt
          · have HD : Hid _ := docP_full (v := v) HLK.out hq
            have q5 : decide (lim ≤ cnt) = true := decide_eq_true hq
            clear hq
            go_wp2_with fail
            refine wp_region_up (by kernel_rfl) (by kernel_rfl) ?_
            repeat (first | go_big_quiet_skip | (go_big_quiet_want; go_big_quiet_op; first | go_big_quiet_on | go_big_quiet_call (first | (go_at_call 40; with_reducible exact Hi.calls (HLEN.out _)))))
            refine wpQuiet_nil ?_
            intro _ hw
            obtain ⟨u, rfl⟩ := hw
            clear HLEN
            go_wp2
            try go_ret2
            refine HQ.out _ _ ⟨v6, ?_, ?_, (HBK.out.trans (u.below.mono HBK.out.size)).mono (Nat.le_of_lt HLT.out)⟩
            · (rw [HD.out]) <;> rfl
            · rw [HD.out]
              exact HDK.out.on u.below
          · have HD : Hid _ := docP_new (v := v) HLK.out hq
            have q5 : decide (lim ≤ cnt) = false := decide_eq_false hq
            clear hq
            go_wp2_with fail
            refine wp_region_up (by kernel_rfl) (by kernel_rfl) ?_
            repeat (first | go_big_quiet_skip | (go_big_quiet_want; go_big_quiet_op; first | go_big_quiet_on | go_big_quiet_call (first | (go_at_call 40; with_reducible exact Hi.calls (HLEN.out _)))))
            refine wpQuiet_nil ?_
            intro _ hw
            obtain ⟨u, rfl⟩ := hw
            clear HLEN
            have hdu := HDK.out.on u.below
            have hru := hdu.r6
            rw [HV.out] at hru
            obtain ⟨S1, S2, hs1, hr1, hs2, hr2⟩ := cuts6 hru HLE.out
            have hA := (Below.refl u.W.heap.size u.W).alloc (Nat.le_refl _) (.cells #[] 51)
            have ho0 : (u.W.alloc (.cells #[] 51)).ownsRow u.W.heap.size 51 18 (.slice (some ⟨u.W.heap.size, 0, none⟩) 0 0) ([] : List Ent).length (([] : List Ent).flatMap ec6) := World.ownsRow_lit (base := u.W.heap.size) (size := 18) (e := 51) u.W #[] 0 (Nat.le_refl _) (Nat.zero_le _) rfl
            obtain ⟨x1, X1, hap1, hown1, hb1⟩ := appE6 ho0 hA.size (L2 := l6.take n) (by have := HSZ.out; rw [List.length_take]; simp; omega) (hr1.on hA) 56
            rw [List.nil_append] at hown1
            have hB1 := hA.trans hb1
            obtain ⟨x2, X2, hap2, hown2, hb2, _⟩ := pushE6 hown1 hB1.size (by have := HSZ.out; rw [List.length_take]; omega) (k, v) 56
            have hB2 := hB1.trans hb2
            obtain ⟨x3, X3, hap3, hown3, hb3⟩ := appE6 hown2 hB2.size (L2 := l6.drop n) (by have := HSZ.out; simp; omega) (hr2.on hB2) 56
            have hB3 := hB2.trans hb3
            have hbu : b < u.W.heap.size := hdu.lt
            have hbx1 := blk_on hdu.box hA
            have hbx2 := blk_on hdu.box hB1
            have hbx3 := blk_on hdu.box hB2
            have hbx4 := blk_on hdu.box hB3
            have hst := st_fld6 hbx4 (by obtain ⟨a, c, e⟩ := own_slcT hown3; exact ⟨_, _, _, e⟩ : ∃ x n m, x3 = .slice x n m)
            have on4 : Only b X3 (X3.setCell ⟨b, 2, none⟩ x3) := (Only.refl b X3).set 2 _
            have hrow : ((l6.take n ++ [(k, v)]) ++ l6.drop n) = ins k v l6 := by rw [HIN.out, List.append_assoc]; rfl
            rw [hrow] at hown3
            have hbox' := blk_set hbx4 2 x3
            have HDF : Hid (Doc b lim l4 (ins k v l6) v4 x3 (X3.setCell ⟨b, 2, none⟩ x3)) := ⟨hbox', own_sameT hdu.r4 (fun q hq => (on4.other q (by have := (own_ltT hdu.r4 hq).1; omega)).trans (hB3.block q (own_ltT hdu.r4 hq).2)), own_baseT (own_sameT hown3 (fun q hq => on4.other q (by have := (own_ltT hown3 hq).1; omega))) hbu, fun g hg => (fun e => by have := (own_ltT hown3 e).1; have := (own_ltT hdu.r4 hg).2; omega)⟩
            have HBF : Hid (Below b W (X3.setCell ⟨b, 2, none⟩ x3)) := ((HBK.out.trans (u.below.mono HBK.out.size)).mono (Nat.le_of_lt HLT.out)).trans ((hB3.mono (Nat.le_of_lt hbu)).trans (on4.below (Nat.le_refl _)))
            have ca1 : (u.W.alloc (.cells #[] 51)).cell? ⟨b, 2, none⟩ = some (.slice (some ⟨g, 0, none⟩) l6.length c) := by rw [← HV.out]; exact blk_cell hbx1 rfl
            have ca3 : X2.cell? ⟨b, 2, none⟩ = some (.slice (some ⟨g, 0, none⟩) l6.length c) := by rw [← HV.out]; exact blk_cell hbx3 rfl
            have hxp : X1.heap[W.heap.size]? = some (.cells (cp6 (bytN 16 k) k.length).toArray 39) := blk_on (Hi.blk HXK.out u) hB1
            have HLP : Hid _ := ld_bx6 hxp
            have HX3 : Hid (∃ z1 z2 z3, x3 = .slice z1 z2 z3) := (by obtain ⟨a, c, e⟩ := own_slcT hown3; exact ⟨_, _, _, e⟩)
            have HS1 : Hid _ := hs1
            have HS2 : Hid _ := hs2
            have HAP1 : Hid _ := hap1
            have HAP2 : Hid _ := hap2
            have HAP3 : Hid _ := hap3
            have HST : Hid _ := hst
            have HBD : Hid _ := bld_e6 k v X1
            have HBS : Hid _ := bsE6 X1 (k, v)
            clear hs1 hs2 hr1 hr2 hA ho0 hap1 hown1 hb1 hB1 hap2 hown2 hb2 hB2 hap3 hown3 hb3 hB3 hbx1 hbx2 hbx3 hbx4 hst on4 hrow hbox' hxp hdu hru
            generalize X3.setCell ⟨b, 2, none⟩ x3 = V at *
            obtain ⟨z1, z2, z3, rfl⟩ : ∃ z1 z2 z3, x3 = .slice z1 z2 z3 := HX3.out
            go_wp2_with first
              | ((with_reducible show wpList _ _ _ ({ dst := _, op := Op.slice 56 (Operand.tmp 72) none (some (Operand.tmp 73)) none, type := _, pos := _, after := _, guard := _ } :: _) _ _); refine arm_slT (.tmp 72) none (some (.tmp 73)) 56 rfl rfl rfl rfl rfl (HS1.out _) ?_)
              | ((with_reducible show wpList _ _ _ ({ dst := _, op := Op.call { callee := Callee.builtin Builtin.append, args := #[(Operand.tmp 68), (Operand.tmp 74)], argTypes := #[56, 56] }, type := _, pos := _, after := _, guard := _ } :: _) _ _); refine arm_apT (.tmp 68) (.tmp 74) 56 rfl rfl rfl rfl HAP1.out ?_)
              | ((with_reducible show wpList _ _ _ ({ dst := _, op := Op.load 39 (Operand.tmp 4), type := _, pos := _, after := _, guard := _ } :: _) _ _); refine armLv (.tmp 4) 39 rfl rfl rfl HLP.out ?_)
              | ((with_reducible show wpList _ _ _ ({ dst := _, op := Op.build 51 _, type := _, pos := _, after := _, guard := _ } :: _) _ _); refine arm_build rfl 51 [(0, .tmp 77), (1, .tmp 78)] rfl rfl HBD.out ?_)
              | ((with_reducible show wpList _ _ _ ({ dst := _, op := Op.buildSlice 56 1 #[(0, (Operand.tmp 79))], type := _, pos := _, after := _, guard := _ } :: _) _ _); refine arm_bsT (.tmp 79) 56 rfl rfl rfl HBS.out ?_)
              | ((with_reducible show wpList _ _ _ ({ dst := _, op := Op.call { callee := Callee.builtin Builtin.append, args := #[(Operand.tmp 76), (Operand.tmp 80)], argTypes := #[56, 56] }, type := _, pos := _, after := _, guard := _ } :: _) _ _); refine arm_apT (.tmp 76) (.tmp 80) 56 rfl rfl rfl rfl HAP2.out ?_)
              | ((with_reducible show wpList _ _ _ ({ dst := _, op := Op.slice 56 (Operand.tmp 87) (some (Operand.tmp 88)) none none, type := _, pos := _, after := _, guard := _ } :: _) _ _); refine arm_slT (.tmp 87) (some (.tmp 88)) none 56 rfl rfl rfl rfl rfl (HS2.out _) ?_)
              | ((with_reducible show wpList _ _ _ ({ dst := _, op := Op.call { callee := Callee.builtin Builtin.append, args := #[(Operand.tmp 83), (Operand.tmp 89)], argTypes := #[56, 56] }, type := _, pos := _, after := _, guard := _ } :: _) _ _); refine arm_apT (.tmp 83) (.tmp 89) 56 rfl rfl rfl rfl HAP3.out ?_)
              | ((with_reducible show wpList _ _ _ ({ dst := _, op := Op.store 56 (Operand.tmp 92) (Operand.tmp 90), type := _, pos := _, after := _, guard := _ } :: _) _ _); refine armS (.tmp 92) (.tmp 90) 56 rfl rfl rfl rfl HST.out ?_)
            try go_ret2
            refine HQ.out _ _ ⟨.slice z1 z2 z3, ?_, ?_, HBF.out⟩
            · (rw [HD.out]) <;> rfl
            · rw [HD.out]
              exact HDF.out
    · obtain rfl : n = l6.length := by omega
      have h2 : ∀ e, l6[l6.length]? = some e → ltB e.1 k = false := fun e he => by simp at he
      have hla := look_at HSRT.out HNE.out h2
      have hia := ins_at (v := v) HLE.out HNE.out h2
      simp only [List.getElem?_eq_none (Nat.le_refl _)] at hla hia
      have HIN : Hid (ins k v l6 = l6.take l6.length ++ (k, v) :: l6.drop l6.length) := by
        have : ins k v l6 = l6.take l6.length ++ (k, v) :: l6.drop l6.length := by rw [hia, List.drop_length]
        exact this
      have HLK : Hid ((lookN k l6).2 = false) := (congrArg Prod.snd hla)
      clear hdk hne hBk hla hia h2 hlt
      go_wp2_with fail
      refine wp_region_hi (by kernel_rfl) (by kernel_rfl) ?_
      repeat (first | go_big_quiet_skip | (go_big_quiet_want; go_big_quiet_op; first | go_big_quiet_on | go_big_quiet_call (fail)))
      refine wpQuiet_nil ?_
      intro _ hw
      obtain ⟨yy, rfl⟩ := hw
      go_wp2_with fail
      refine wp_region_up (by kernel_rfl) (by kernel_rfl) ?_
      repeat (first | go_big_quiet_skip | (go_big_quiet_want; go_big_quiet_op; first | go_big_quiet_on | go_big_quiet_call (fail)))
      refine wpQuiet_nil ?_
      intro _ hw
      obtain ⟨z, rfl⟩ := hw
      by_cases hq : lim ≤ cnt
      · have HD : Hid _ := docP_full (v := v) HLK.out hq
        have q5 : decide (lim ≤ cnt) = true := decide_eq_true hq
        clear hq
        go_wp2_with fail
        refine wp_region_up (by kernel_rfl) (by kernel_rfl) ?_
        repeat (first | go_big_quiet_skip | (go_big_quiet_want; go_big_quiet_op; first | go_big_quiet_on | go_big_quiet_call (first | (go_at_call 40; with_reducible exact Hi.calls (HLEN.out _)))))
        refine wpQuiet_nil ?_
        intro _ hw
        obtain ⟨u, rfl⟩ := hw
        clear HLEN
        go_wp2
        try go_ret2
        refine HQ.out _ _ ⟨v6, ?_, ?_, (HBK.out.trans (u.below.mono HBK.out.size)).mono (Nat.le_of_lt HLT.out)⟩
        · (rw [HD.out]) <;> rfl
        · rw [HD.out]
          exact HDK.out.on u.below
      · have HD : Hid _ := docP_new (v := v) HLK.out hq
        have q5 : decide (lim ≤ cnt) = false := decide_eq_false hq
        clear hq
        go_wp2_with fail
        refine wp_region_up (by kernel_rfl) (by kernel_rfl) ?_
        repeat (first | go_big_quiet_skip | (go_big_quiet_want; go_big_quiet_op; first | go_big_quiet_on | go_big_quiet_call (first | (go_at_call 40; with_reducible exact Hi.calls (HLEN.out _)))))
        refine wpQuiet_nil ?_
        intro _ hw
        obtain ⟨u, rfl⟩ := hw
        clear HLEN
        have hdu := HDK.out.on u.below
        have hru := hdu.r6
        rw [HV.out] at hru
        obtain ⟨S1, S2, hs1, hr1, hs2, hr2⟩ := cuts6 hru HLE.out
        have hA := (Below.refl u.W.heap.size u.W).alloc (Nat.le_refl _) (.cells #[] 51)
        have ho0 : (u.W.alloc (.cells #[] 51)).ownsRow u.W.heap.size 51 18 (.slice (some ⟨u.W.heap.size, 0, none⟩) 0 0) ([] : List Ent).length (([] : List Ent).flatMap ec6) := World.ownsRow_lit (base := u.W.heap.size) (size := 18) (e := 51) u.W #[] 0 (Nat.le_refl _) (Nat.zero_le _) rfl
        obtain ⟨x1, X1, hap1, hown1, hb1⟩ := appE6 ho0 hA.size (L2 := l6.take l6.length) (by have := HSZ.out; rw [List.length_take]; simp; omega) (hr1.on hA) 56
        rw [List.nil_append] at hown1
        have hB1 := hA.trans hb1
        obtain ⟨x2, X2, hap2, hown2, hb2, _⟩ := pushE6 hown1 hB1.size (by have := HSZ.out; rw [List.length_take]; omega) (k, v) 56
        have hB2 := hB1.trans hb2
        obtain ⟨x3, X3, hap3, hown3, hb3⟩ := appE6 hown2 hB2.size (L2 := l6.drop l6.length) (by have := HSZ.out; simp; omega) (hr2.on hB2) 56
        have hB3 := hB2.trans hb3
        have hbu : b < u.W.heap.size := hdu.lt
        have hbx1 := blk_on hdu.box hA
        have hbx2 := blk_on hdu.box hB1
        have hbx3 := blk_on hdu.box hB2
        have hbx4 := blk_on hdu.box hB3
        have hst := st_fld6 hbx4 (by obtain ⟨a, c, e⟩ := own_slcT hown3; exact ⟨_, _, _, e⟩ : ∃ x n m, x3 = .slice x n m)
        have on4 : Only b X3 (X3.setCell ⟨b, 2, none⟩ x3) := (Only.refl b X3).set 2 _
        have hrow : ((l6.take l6.length ++ [(k, v)]) ++ l6.drop l6.length) = ins k v l6 := by rw [HIN.out, List.append_assoc]; rfl
        rw [hrow] at hown3
        have hbox' := blk_set hbx4 2 x3
        have HDF : Hid (Doc b lim l4 (ins k v l6) v4 x3 (X3.setCell ⟨b, 2, none⟩ x3)) := ⟨hbox', own_sameT hdu.r4 (fun q hq => (on4.other q (by have := (own_ltT hdu.r4 hq).1; omega)).trans (hB3.block q (own_ltT hdu.r4 hq).2)), own_baseT (own_sameT hown3 (fun q hq => on4.other q (by have := (own_ltT hown3 hq).1; omega))) hbu, fun g hg => (fun e => by have := (own_ltT hown3 e).1; have := (own_ltT hdu.r4 hg).2; omega)⟩
        have HBF : Hid (Below b W (X3.setCell ⟨b, 2, none⟩ x3)) := ((HBK.out.trans (u.below.mono HBK.out.size)).mono (Nat.le_of_lt HLT.out)).trans ((hB3.mono (Nat.le_of_lt hbu)).trans (on4.below (Nat.le_refl _)))
        have ca1 : (u.W.alloc (.cells #[] 51)).cell? ⟨b, 2, none⟩ = some (.slice ad l6.length c) := by rw [← HV.out]; exact blk_cell hbx1 rfl
        have ca3 : X2.cell? ⟨b, 2, none⟩ = some (.slice ad l6.length c) := by rw [← HV.out]; exact blk_cell hbx3 rfl
        have hxp : X1.heap[W.heap.size]? = some (.cells (cp6 (bytN 16 k) k.length).toArray 39) := blk_on (Hi.blk HXK.out u) hB1
        have HLP : Hid _ := ld_bx6 hxp
        have HX3 : Hid (∃ z1 z2 z3, x3 = .slice z1 z2 z3) := (by obtain ⟨a, c, e⟩ := own_slcT hown3; exact ⟨_, _, _, e⟩)
        have HS1 : Hid _ := hs1
        have HS2 : Hid _ := hs2
        have HAP1 : Hid _ := hap1
        have HAP2 : Hid _ := hap2
        have HAP3 : Hid _ := hap3
        have HST : Hid _ := hst
        have HBD : Hid _ := bld_e6 k v X1
        have HBS : Hid _ := bsE6 X1 (k, v)
        clear hs1 hs2 hr1 hr2 hA ho0 hap1 hown1 hb1 hB1 hap2 hown2 hb2 hB2 hap3 hown3 hb3 hB3 hbx1 hbx2 hbx3 hbx4 hst on4 hrow hbox' hxp hdu hru
        generalize X3.setCell ⟨b, 2, none⟩ x3 = V at *
        obtain ⟨z1, z2, z3, rfl⟩ : ∃ z1 z2 z3, x3 = .slice z1 z2 z3 := HX3.out
        go_wp2_with first
          | ((with_reducible show wpList _ _ _ ({ dst := _, op := Op.slice 56 (Operand.tmp 72) none (some (Operand.tmp 73)) none, type := _, pos := _, after := _, guard := _ } :: _) _ _); refine arm_slT (.tmp 72) none (some (.tmp 73)) 56 rfl rfl rfl rfl rfl (HS1.out _) ?_)
          | ((with_reducible show wpList _ _ _ ({ dst := _, op := Op.call { callee := Callee.builtin Builtin.append, args := #[(Operand.tmp 68), (Operand.tmp 74)], argTypes := #[56, 56] }, type := _, pos := _, after := _, guard := _ } :: _) _ _); refine arm_apT (.tmp 68) (.tmp 74) 56 rfl rfl rfl rfl HAP1.out ?_)
          | ((with_reducible show wpList _ _ _ ({ dst := _, op := Op.load 39 (Operand.tmp 4), type := _, pos := _, after := _, guard := _ } :: _) _ _); refine armLv (.tmp 4) 39 rfl rfl rfl HLP.out ?_)
          | ((with_reducible show wpList _ _ _ ({ dst := _, op := Op.build 51 _, type := _, pos := _, after := _, guard := _ } :: _) _ _); refine arm_build rfl 51 [(0, .tmp 77), (1, .tmp 78)] rfl rfl HBD.out ?_)
          | ((with_reducible show wpList _ _ _ ({ dst := _, op := Op.buildSlice 56 1 #[(0, (Operand.tmp 79))], type := _, pos := _, after := _, guard := _ } :: _) _ _); refine arm_bsT (.tmp 79) 56 rfl rfl rfl HBS.out ?_)
          | ((with_reducible show wpList _ _ _ ({ dst := _, op := Op.call { callee := Callee.builtin Builtin.append, args := #[(Operand.tmp 76), (Operand.tmp 80)], argTypes := #[56, 56] }, type := _, pos := _, after := _, guard := _ } :: _) _ _); refine arm_apT (.tmp 76) (.tmp 80) 56 rfl rfl rfl rfl HAP2.out ?_)
          | ((with_reducible show wpList _ _ _ ({ dst := _, op := Op.slice 56 (Operand.tmp 87) (some (Operand.tmp 88)) none none, type := _, pos := _, after := _, guard := _ } :: _) _ _); refine arm_slT (.tmp 87) (some (.tmp 88)) none 56 rfl rfl rfl rfl rfl (HS2.out _) ?_)
          | ((with_reducible show wpList _ _ _ ({ dst := _, op := Op.call { callee := Callee.builtin Builtin.append, args := #[(Operand.tmp 83), (Operand.tmp 89)], argTypes := #[56, 56] }, type := _, pos := _, after := _, guard := _ } :: _) _ _); refine arm_apT (.tmp 83) (.tmp 89) 56 rfl rfl rfl rfl HAP3.out ?_)
          | ((with_reducible show wpList _ _ _ ({ dst := _, op := Op.store 56 (Operand.tmp 92) (Operand.tmp 90), type := _, pos := _, after := _, guard := _ } :: _) _ _); refine armS (.tmp 92) (.tmp 90) 56 rfl rfl rfl rfl HST.out ?_)
        try go_ret2
        refine HQ.out _ _ ⟨.slice z1 z2 z3, ?_, ?_, HBF.out⟩
        · (rw [HD.out]) <;> rfl
        · rw [HD.out]
          exact HDF.out
end Go.Proofs.Ytenahbdopgmpfaa
