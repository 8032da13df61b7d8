/-
  Parse and Part of the document's answer, of any bytes; both sides have the same answers.
  The statement Ipv6Parses.
-/
import Derived.Test.YtbaeogoojpngbaaYp7
namespace Go.Proofs.Ytbaeogoojpngbaa
open Go Go.RowKit
set_option linter.unusedVariables false
set_option linter.unusedSimpArgs false

section
variable {w : World} {v : Value} {zs : List Int}
/-- What an answer is: as the bytes say. -/
def AnsP (whole : Bool) (zs : List Int) (base : Nat) (e : Ending) (w' : World) : Prop :=
  (∃ (at' : Nat) (er : Int), parR whole zs = .bad at' er ∧ e = .returned (.tuple #[.agg zeroV.toArray, .int .i64 at', .int .i64 er])) ∨
  (∃ hs g proto body vh vb, ∃ hA : ((zs.drop 8).take 32).length = 32, parR whole zs = .ok hs g proto body ∧ e = .returned (.tuple #[VV (finF (clsN zs) (labN zs) (gz zs 7) proto ((zs.drop 8).take 32) hA) g vh vb, .int .i64 0, .int .i64 0]) ∧ D6 (fun b => base ≤ b) w' (finF (clsN zs) (labN zs) (gz zs 7) proto ((zs.drop 8).take 32) hA) vh vb hs body)
theorem parse_any (whole : Bool) (h : BS (fun b => b < w.heap.size) w v zs) :
    Calls Try.prog 34 #[v, .bool whole] w fun e w' => AnsP whole zs w.heap.size e w' ∧ Below w.heap.size w w' := by
  by_cases c1 : zs.length < 40
  · exact parse_short whole h c1 _ (fun w' hb => ⟨.inl ⟨0, 50, by unfold parR; rw [if_pos c1], rfl⟩, hb⟩)
  by_cases c2 : gz zs 0 / 16 = 6
  · by_cases c3 : badN whole zs
    · exact parse_len whole h (by omega) c2 c3 _ (fun w' hb => ⟨.inl ⟨4, 52, by unfold parR; rw [if_neg c1, if_neg (by simp [c2]), if_pos c3], rfl⟩, hb⟩)
    · have hp : parR whole zs = endR (rdH 9 (zs.drop 40) 40 (gz zs 6) []) := by unfold parR; rw [if_neg c1, if_neg (by simp [c2]), if_neg c3]
      have hA : ((zs.drop 8).take 32).length = 32 := by rw [List.length_take, List.length_drop]; omega
      exact parse_good whole h (by omega) c2 c3 hA _ (fun at' er he w' hb => ⟨.inl ⟨at', er, hp.trans he, rfl⟩, hb⟩) (fun hs g proto body he w' vh vb hd hb => ⟨.inr ⟨hs, g, proto, body, vh, vb, hA, hp.trans he, rfl, hd⟩, hb⟩)
  · exact parse_ver whole h (by omega) c2 _ (fun w' hb => ⟨.inl ⟨0, 51, by unfold parR; rw [if_neg c1, if_pos c2], rfl⟩, hb⟩)
set_option maxHeartbeats 4000000 in
set_option maxRecDepth 100000 in
theorem RParse_any (h : BS (fun b => b < w.heap.size) w v zs) :
    Calls Try.prog 16 #[v] w fun e w' => AnsP true zs w.heap.size e w' ∧ Below w.heap.size w w' := by
  obtain ⟨W0, hW0⟩ : ∃ W0, W0 = w.alloc (.cells zeroV.toArray 28) := ⟨_, rfl⟩
  have hB0 : Below w.heap.size w W0 := by rw [hW0]; exact (Below.refl w.heap.size w).alloc (Nat.le_refl _) _
  have hz0 : W0.heap[w.heap.size]? = some (.cells zeroV.toArray 28) := by rw [hW0]; exact blk_new w _
  have hsz0 : W0.heap.size = w.heap.size + 1 := by rw [hW0]; simp
  have HP : Hid _ := parse_any true ((h.on hB0).mono (S' := fun b => b < W0.heap.size) (fun b hb _ => hb))
  have HZ0 : Hid (W0.heap[w.heap.size]? = some (.cells zeroV.toArray 28)) := hz0
  have HB0 : Hid (Below w.heap.size w W0) := hB0
  have HSZ : Hid (W0.heap.size = w.heap.size + 1) := hsz0
  have hW := hW0.symm
  unfold zeroV at hW
  clear hB0 hz0 hsz0 hW0 h
  generalize hX : (fun e w' => AnsP true zs w.heap.size e w' ∧ Below w.heap.size w w') = X
  have HX : Hid (∀ e w', AnsP true zs w.heap.size e w' ∧ Below w.heap.size w w' → X e w') := fun e w' hh => by rw [← hX]; exact hh
  clear hX
  refine Calls.mono (R := fun e w' => Hid (X e w')) ?_ (fun e w' hx => hx.out)
  go_enter Try.func16, Try.ntmps16
  go_wp2_with fail
  refine Calls.mono HP.out ?_
  rintro e1 w1 ⟨⟨at', er, hp, rfl⟩ | ⟨hs, g, proto, body, vh, vb, hA, hp, rfl, hd⟩, hb1⟩
  · have hz1 := blk_on HZ0.out hb1
    obtain ⟨w2, hst, hb2, ho2⟩ := box_store Try.sizeOf28 hz1 (by rfl) (vC zF zG (.slice none 0 0) (.slice none 0 0)) vC_len (vC_one rfl rfl)
    rw [show (.agg (vC zF zG (.slice none 0 0) (.slice none 0 0)).toArray : Value) = .agg zeroV.toArray from rfl] at hst
    have hvl := vb_var hb2
    rw [show VV zF zG (.slice none 0 0) (.slice none 0 0) = .agg zeroV.toArray from rfl] at hvl
    have HVL : Hid _ := hvl
    have HST : Hid _ := hst
    have HXX : Hid (X (.returned (.tuple #[.agg zeroV.toArray, .int .i64 at', .int .i64 er])) w2) := HX.out _ _ ⟨.inl ⟨at', er, hp, rfl⟩, (HB0.out.trans (hb1.mono HB0.out.size)).trans (ho2.below (Nat.le_refl _))⟩
    clear hz1 hst hb2 ho2 hvl hb1 HP HX HZ0 HB0 HSZ hW hp
    go_wp2_with ((with_reducible show wpList _ _ _ ({ dst := _, op := Op.store 28 (Operand.tmp 2) _, type := _, pos := _, after := _, guard := _ } :: _) _ _); refine armS (.tmp 2) (.tmp 7) 28 rfl rfl rfl rfl HST.out ?_; try simp only [Act.put])
    exact bodyPost_ret (res3d (a := 2) (b := 3) (c := 4) rfl rfl rfl rfl HVL.out) rfl HXX
  · have hz1 := blk_on HZ0.out hb1
    obtain ⟨FF, hFF⟩ : ∃ FF, finF (clsN zs) (labN zs) (gz zs 7) proto ((zs.drop 8).take 32) hA = FF := ⟨_, rfl⟩
    obtain ⟨w2, hst, hb2, ho2⟩ := box_store Try.sizeOf28 hz1 (by rfl) (vC FF g vh vb) vC_len (vC_one hd.hd.one hd.bd.one)
    have HVL : Hid _ := vb_var hb2
    have HST : Hid _ := hst
    have hd2 := (hd.sep (Sep.of_only (O := fun b => b = w.heap.size) ho2 rfl) (fun b hb e => by have := HSZ.out; omega)).mono (S' := fun b => w.heap.size ≤ b) (fun b _ hb => by have := HSZ.out; omega)
    have HXX : Hid (X (.returned (.tuple #[VV FF g vh vb, .int .i64 0, .int .i64 0])) w2) := HX.out _ _ ⟨.inr ⟨hs, g, proto, body, vh, vb, hA, hp, by rw [hFF], hd2⟩, (HB0.out.trans (hb1.mono HB0.out.size)).trans (ho2.below (Nat.le_refl _))⟩
    rw [hFF]
    clear hz1 hst hb2 ho2 hb1 HP HX HZ0 HB0 HSZ hW hp hd hd2 hFF
    go_wp2_with ((with_reducible show wpList _ _ _ ({ dst := _, op := Op.store 28 (Operand.tmp 2) _, type := _, pos := _, after := _, guard := _ } :: _) _ _); refine armS (.tmp 2) (.tmp 7) 28 rfl rfl rfl rfl HST.out ?_; try simp only [Act.put])
    exact bodyPost_ret (res3d (a := 2) (b := 3) (c := 4) rfl rfl rfl rfl HVL.out) rfl HXX
set_option maxHeartbeats 4000000 in
set_option maxRecDepth 100000 in
theorem RPart_any (h : BS (fun b => b < w.heap.size) w v zs) :
    Calls Try.prog 18 #[v] w fun e w' => AnsP false zs w.heap.size e w' ∧ Below w.heap.size w w' := by
  obtain ⟨W0, hW0⟩ : ∃ W0, W0 = w.alloc (.cells zeroV.toArray 28) := ⟨_, rfl⟩
  have hB0 : Below w.heap.size w W0 := by rw [hW0]; exact (Below.refl w.heap.size w).alloc (Nat.le_refl _) _
  have hz0 : W0.heap[w.heap.size]? = some (.cells zeroV.toArray 28) := by rw [hW0]; exact blk_new w _
  have hsz0 : W0.heap.size = w.heap.size + 1 := by rw [hW0]; simp
  have HP : Hid _ := parse_any false ((h.on hB0).mono (S' := fun b => b < W0.heap.size) (fun b hb _ => hb))
  have HZ0 : Hid (W0.heap[w.heap.size]? = some (.cells zeroV.toArray 28)) := hz0
  have HB0 : Hid (Below w.heap.size w W0) := hB0
  have HSZ : Hid (W0.heap.size = w.heap.size + 1) := hsz0
  have hW := hW0.symm
  unfold zeroV at hW
  clear hB0 hz0 hsz0 hW0 h
  generalize hX : (fun e w' => AnsP false zs w.heap.size e w' ∧ Below w.heap.size w w') = X
  have HX : Hid (∀ e w', AnsP false zs w.heap.size e w' ∧ Below w.heap.size w w' → X e w') := fun e w' hh => by rw [← hX]; exact hh
  clear hX
  refine Calls.mono (R := fun e w' => Hid (X e w')) ?_ (fun e w' hx => hx.out)
  go_enter Try.func18, Try.ntmps18
  go_wp2_with fail
  refine Calls.mono HP.out ?_
  rintro e1 w1 ⟨⟨at', er, hp, rfl⟩ | ⟨hs, g, proto, body, vh, vb, hA, hp, rfl, hd⟩, hb1⟩
  · have hz1 := blk_on HZ0.out hb1
    obtain ⟨w2, hst, hb2, ho2⟩ := box_store Try.sizeOf28 hz1 (by rfl) (vC zF zG (.slice none 0 0) (.slice none 0 0)) vC_len (vC_one rfl rfl)
    rw [show (.agg (vC zF zG (.slice none 0 0) (.slice none 0 0)).toArray : Value) = .agg zeroV.toArray from rfl] at hst
    have hvl := vb_var hb2
    rw [show VV zF zG (.slice none 0 0) (.slice none 0 0) = .agg zeroV.toArray from rfl] at hvl
    have HVL : Hid _ := hvl
    have HST : Hid _ := hst
    have HXX : Hid (X (.returned (.tuple #[.agg zeroV.toArray, .int .i64 at', .int .i64 er])) w2) := HX.out _ _ ⟨.inl ⟨at', er, hp, rfl⟩, (HB0.out.trans (hb1.mono HB0.out.size)).trans (ho2.below (Nat.le_refl _))⟩
    clear hz1 hst hb2 ho2 hvl hb1 HP HX HZ0 HB0 HSZ hW hp
    go_wp2_with ((with_reducible show wpList _ _ _ ({ dst := _, op := Op.store 28 (Operand.tmp 2) _, type := _, pos := _, after := _, guard := _ } :: _) _ _); refine armS (.tmp 2) (.tmp 7) 28 rfl rfl rfl rfl HST.out ?_; try simp only [Act.put])
    exact bodyPost_ret (res3d (a := 2) (b := 3) (c := 4) rfl rfl rfl rfl HVL.out) rfl HXX
  · have hz1 := blk_on HZ0.out hb1
    obtain ⟨FF, hFF⟩ : ∃ FF, finF (clsN zs) (labN zs) (gz zs 7) proto ((zs.drop 8).take 32) hA = FF := ⟨_, rfl⟩
    obtain ⟨w2, hst, hb2, ho2⟩ := box_store Try.sizeOf28 hz1 (by rfl) (vC FF g vh vb) vC_len (vC_one hd.hd.one hd.bd.one)
    have HVL : Hid _ := vb_var hb2
    have HST : Hid _ := hst
    have hd2 := (hd.sep (Sep.of_only (O := fun b => b = w.heap.size) ho2 rfl) (fun b hb e => by have := HSZ.out; omega)).mono (S' := fun b => w.heap.size ≤ b) (fun b _ hb => by have := HSZ.out; omega)
    have HXX : Hid (X (.returned (.tuple #[VV FF g vh vb, .int .i64 0, .int .i64 0])) w2) := HX.out _ _ ⟨.inr ⟨hs, g, proto, body, vh, vb, hA, hp, by rw [hFF], hd2⟩, (HB0.out.trans (hb1.mono HB0.out.size)).trans (ho2.below (Nat.le_refl _))⟩
    rw [hFF]
    clear hz1 hst hb2 ho2 hb1 HP HX HZ0 HB0 HSZ hW hp hd hd2 hFF
    go_wp2_with ((with_reducible show wpList _ _ _ ({ dst := _, op := Op.store 28 (Operand.tmp 2) _, type := _, pos := _, after := _, guard := _ } :: _) _ _); refine armS (.tmp 2) (.tmp 7) 28 rfl rfl rfl rfl HST.out ?_; try simp only [Act.put])
    exact bodyPost_ret (res3d (a := 2) (b := 3) (c := 4) rfl rfl rfl rfl HVL.out) rfl HXX
/-- Both sides answer the same. -/
structure BothP (w : World) (v : Value) (F G : FuncId) (f : F6) (g : G6) (hs : Opts) (body : List Int) (at' er : Int) : Prop where
  ad : AdOk f
  one : ∀ x : Hi w, Calls Try.prog F #[v] x.W fun e w' => ∃ vh vb, e = .returned (.tuple #[VV f g vh vb, .int .i64 at', .int .i64 er]) ∧ D6 (fun b => x.W.heap.size ≤ b) w' f vh vb hs body ∧ Below x.W.heap.size x.W w'
  two : ∀ x : Hi w, Calls Try.prog G #[v] x.W fun e w' => ∃ vh vb, e = .returned (.tuple #[VV f g vh vb, .int .i64 at', .int .i64 er]) ∧ D6 (fun b => x.W.heap.size ≤ b) w' f vh vb hs body ∧ Below x.W.heap.size x.W w'
theorem zF_ad : AdOk zF := ⟨List.replicate 32 0, rfl, fun z hz => by rw [(List.mem_replicate.1 hz).2]; omega⟩
theorem fin_ad {a b c d : Int} {L : List Int} (h : L.length = 32) (hf : Fit L) : AdOk (finF a b c d L h) := ⟨L, rfl, hf⟩
theorem zero_d6 (S : Nat → Prop) (w : World) : D6 S w zF (.slice none 0 0) (.slice none 0 0) [] [] := ⟨HS.nil _ _, BS.nil _ _, by show (0 : Int) ≤ 0 ∧ (0 : Int) ≤ 4294967295; omega⟩
theorem both_of {whole : Bool} {F G : FuncId} (h : BS (fun b => b < w.heap.size) w v zs) (h1 : ∀ x : Hi w, Calls Try.prog F #[v] x.W fun e w' => AnsP whole zs x.W.heap.size e w' ∧ Below x.W.heap.size x.W w') (h2 : ∀ x : Hi w, Calls Try.prog G #[v] x.W fun e w' => AnsP whole zs x.W.heap.size e w' ∧ Below x.W.heap.size x.W w') :
    ∃ f g hs body at' er, BothP w v F G f g hs body at' er := by
  cases hp : parR whole zs with
  | bad at' er =>
    refine ⟨zF, zG, [], [], at', er, zF_ad, fun x => (h1 x).mono ?_, fun x => (h2 x).mono ?_⟩
    all_goals
      rintro e w' ⟨⟨a2, e2, hp2, rfl⟩ | ⟨hs, g, proto, body, vh, vb, hA, hp2, rfl, hd⟩, hb⟩
      · rw [hp] at hp2
        cases hp2
        exact ⟨.slice none 0 0, .slice none 0 0, rfl, zero_d6 _ _, hb⟩
      · rw [hp] at hp2; cases hp2
  | ok hs g proto body =>
    by_cases hA : ((zs.drop 8).take 32).length = 32
    · refine ⟨finF (clsN zs) (labN zs) (gz zs 7) proto ((zs.drop 8).take 32) hA, g, hs, body, 0, 0, fin_ad hA (fun z hz => h.row.fit z (List.mem_of_mem_drop (List.mem_of_mem_take hz))), fun x => (h1 x).mono ?_, fun x => (h2 x).mono ?_⟩
      all_goals
        rintro e w' ⟨⟨a2, e2, hp2, rfl⟩ | ⟨hs, g, proto, body, vh, vb, hA, hp2, rfl, hd⟩, hb⟩
        · rw [hp] at hp2; cases hp2
        · rw [hp] at hp2
          cases hp2
          exact ⟨vh, vb, rfl, hd, hb⟩
    · exfalso
      apply hA
      unfold parR at hp
      by_cases c1 : zs.length < 40
      · rw [if_pos c1] at hp; cases hp
      · rw [List.length_take, List.length_drop]; omega
theorem parse_both (h : BS (fun b => b < w.heap.size) w v zs) : ∃ f g hs body at' er, BothP w v 15 16 f g hs body at' er := by
  have hx : ∀ x : Hi w, BS (fun b => b < x.W.heap.size) x.W v zs := fun x => (h.on x.below).mono (fun b hb _ => hb)
  refine both_of (whole := true) h (fun x => Parse_X (hx x) _ (fun at' er he w' hb => ⟨.inl ⟨at', er, he, rfl⟩, hb⟩) (fun hs g proto body hA he w' vh vb hd hb => ⟨.inr ⟨hs, g, proto, body, vh, vb, hA, he, rfl, hd⟩, hb⟩)) (fun x => RParse_any (hx x))
theorem part_both (h : BS (fun b => b < w.heap.size) w v zs) : ∃ f g hs body at' er, BothP w v 17 18 f g hs body at' er := by
  have hx : ∀ x : Hi w, BS (fun b => b < x.W.heap.size) x.W v zs := fun x => (h.on x.below).mono (fun b hb _ => hb)
  refine both_of (whole := false) h (fun x => Part_X (hx x) _ (fun at' er he w' hb => ⟨.inl ⟨at', er, he, rfl⟩, hb⟩) (fun hs g proto body hA he w' vh vb hd hb => ⟨.inr ⟨hs, g, proto, body, vh, vb, hA, he, rfl, hd⟩, hb⟩)) (fun x => RPart_any (hx x))
end

end Go.Proofs.Ytbaeogoojpngbaa

namespace Go.Proofs.Ytbaeogoojpngbaa
open Go Go.RowKit
set_option linter.unusedVariables false
set_option linter.unusedSimpArgs false

section
variable {w : World} {v : Value} {zs : List Int}
set_option maxHeartbeats 8000000 in
set_option maxRecDepth 100000 in
theorem ipv6Parses_walk (h : BS (fun b => b < w.heap.size) w v zs) : Calls Try.prog 4 #[v] w fun e w' => e = .returned (.bool true) ∧ Below w.heap.size w w' := by
  obtain ⟨f, g, hs, body, at1, er1, hp⟩ := parse_both h
  obtain ⟨f2, g2, hs2, body2, at2, er2, hq⟩ := part_both h
  have HP : Hid (BothP w v 15 16 f g hs body at1 er1) := hp
  have HQ : Hid (BothP w v 17 18 f2 g2 hs2 body2 at2 er2) := hq
  obtain ⟨a, n, m, rfl⟩ := h.slc
  clear h hp hq
  have HC : Hid _ := HP.out.one (Hi.refl _)
  go_enter Try.func4, Try.ntmps4
  go_wp2_with fail
  refine Calls.mono HC.out ?_
  rintro ea wa ⟨vha, vba, rfl, hda, hba⟩
  obtain ⟨Wa, hWa⟩ : ∃ W, W = wa.alloc (.cells zeroV.toArray 28) := ⟨_, rfl⟩
  obtain ⟨ua, hsta, hva, hBa, hsa⟩ := vb_new wa f g hda.hd.one hda.bd.one
  rw [← hWa] at hsta
  have HSa : Hid _ := hsta
  have hbua := hba.trans (hBa.mono hba.size)
  have HBa : Hid (Below w.heap.size w ua) := hbua
  have HVa : Hid (ua.heap[wa.heap.size]? = some (BV f g vha vba)) := hva
  have HDa : Hid (D6 (fun _ => True) ua f vha vba hs body) := (hda.on hBa).mono (fun _ _ _ => trivial)
  have HC : Hid _ := HP.out.two ⟨ua, HBa.out⟩
  have hWW := hWa.symm
  unfold zeroV at hWW
  clear hsta hva hBa hsa hba hda hbua hWa
  go_wp2_with ((with_reducible show wpList _ _ _ ({ dst := _, op := Op.store 28 (Operand.tmp 3) _, type := _, pos := _, after := _, guard := _ } :: _) _ _); refine armS (.tmp 3) (.tmp 18) 28 rfl rfl rfl rfl HSa.out ?_; try simp only [Act.put])
  clear hWW HSa
  refine Calls.mono HC.out ?_
  rintro eb wb ⟨vhb, vbb, rfl, hdb, hbb⟩
  obtain ⟨Wb, hWb⟩ : ∃ W, W = wb.alloc (.cells zeroV.toArray 28) := ⟨_, rfl⟩
  obtain ⟨ub, hstb, hvb, hBb, hsb⟩ := vb_new wb f g hdb.hd.one hdb.bd.one
  rw [← hWb] at hstb
  have HSb : Hid _ := hstb
  have hbub := hbb.trans (hBb.mono hbb.size)
  have HBb : Hid (Below w.heap.size w ub) := HBa.out.trans (hbub.mono HBa.out.size)
  have HVb : Hid (ub.heap[wb.heap.size]? = some (BV f g vhb vbb)) := hvb
  have HDb : Hid (D6 (fun _ => True) ub f vhb vbb hs body) := (hdb.on hBb).mono (fun _ _ _ => trivial)
  have HVa : Hid (ub.heap[wa.heap.size]? = some (BV f g vha vba)) := blk_on HVa.out hbub
  have HDa : Hid (D6 (fun _ => True) ub f vha vba hs body) := HDa.out.on hbub
  have HC : Hid _ := HQ.out.one ⟨ub, HBb.out⟩
  have hWW := hWb.symm
  unfold zeroV at hWW
  clear hstb hvb hBb hsb hbb hdb hbub hWb
  go_wp2_with ((with_reducible show wpList _ _ _ ({ dst := _, op := Op.store 28 (Operand.tmp 6) _, type := _, pos := _, after := _, guard := _ } :: _) _ _); refine armS (.tmp 6) (.tmp 24) 28 rfl rfl rfl rfl HSb.out ?_; try simp only [Act.put])
  clear hWW HSb
  refine Calls.mono HC.out ?_
  rintro ec wc ⟨vhc, vbc, rfl, hdc, hbc⟩
  obtain ⟨Wc, hWc⟩ : ∃ W, W = wc.alloc (.cells zeroV.toArray 28) := ⟨_, rfl⟩
  obtain ⟨uc, hstc, hvc, hBc, hsc⟩ := vb_new wc f2 g2 hdc.hd.one hdc.bd.one
  rw [← hWc] at hstc
  have HSc : Hid _ := hstc
  have hbuc := hbc.trans (hBc.mono hbc.size)
  have HBc : Hid (Below w.heap.size w uc) := HBb.out.trans (hbuc.mono HBb.out.size)
  have HVc : Hid (uc.heap[wc.heap.size]? = some (BV f2 g2 vhc vbc)) := hvc
  have HDc : Hid (D6 (fun _ => True) uc f2 vhc vbc hs2 body2) := (hdc.on hBc).mono (fun _ _ _ => trivial)
  have HVa : Hid (uc.heap[wa.heap.size]? = some (BV f g vha vba)) := blk_on HVa.out hbuc
  have HDa : Hid (D6 (fun _ => True) uc f vha vba hs body) := HDa.out.on hbuc
  have HVb : Hid (uc.heap[wb.heap.size]? = some (BV f g vhb vbb)) := blk_on HVb.out hbuc
  have HDb : Hid (D6 (fun _ => True) uc f vhb vbb hs body) := HDb.out.on hbuc
  have HC : Hid _ := HQ.out.two ⟨uc, HBc.out⟩
  have hWW := hWc.symm
  unfold zeroV at hWW
  clear hstc hvc hBc hsc hbc hdc hbuc hWc
  go_wp2_with ((with_reducible show wpList _ _ _ ({ dst := _, op := Op.store 28 (Operand.tmp 9) _, type := _, pos := _, after := _, guard := _ } :: _) _ _); refine armS (.tmp 9) (.tmp 30) 28 rfl rfl rfl rfl HSc.out ?_; try simp only [Act.put])
  clear hWW HSc
  refine Calls.mono HC.out ?_
  rintro ed wd ⟨vhd, vbd, rfl, hdd, hbd⟩
  obtain ⟨Wd, hWd⟩ : ∃ W, W = wd.alloc (.cells zeroV.toArray 28) := ⟨_, rfl⟩
  obtain ⟨ud, hstd, hvd, hBd, hsd⟩ := vb_new wd f2 g2 hdd.hd.one hdd.bd.one
  rw [← hWd] at hstd
  have HSd : Hid _ := hstd
  have hbud := hbd.trans (hBd.mono hbd.size)
  have HBd : Hid (Below w.heap.size w ud) := HBc.out.trans (hbud.mono HBc.out.size)
  have HVd : Hid (ud.heap[wd.heap.size]? = some (BV f2 g2 vhd vbd)) := hvd
  have HDd : Hid (D6 (fun _ => True) ud f2 vhd vbd hs2 body2) := (hdd.on hBd).mono (fun _ _ _ => trivial)
  have HVa : Hid (ud.heap[wa.heap.size]? = some (BV f g vha vba)) := blk_on HVa.out hbud
  have HDa : Hid (D6 (fun _ => True) ud f vha vba hs body) := HDa.out.on hbud
  have HVb : Hid (ud.heap[wb.heap.size]? = some (BV f g vhb vbb)) := blk_on HVb.out hbud
  have HDb : Hid (D6 (fun _ => True) ud f vhb vbb hs body) := HDb.out.on hbud
  have HVc : Hid (ud.heap[wc.heap.size]? = some (BV f2 g2 vhc vbc)) := blk_on HVc.out hbud
  have HDc : Hid (D6 (fun _ => True) ud f2 vhc vbc hs2 body2) := HDc.out.on hbud
  have hWW := hWd.symm
  unfold zeroV at hWW
  clear hstd hvd hBd hsd hbd hdd hbud hWd
  have HSM1 : Hid _ := RSame_eq (g := g) HP.out.ad HDa.out HDb.out
  have HLa : Hid _ := vb_load HVa.out
  have HLb : Hid _ := vb_load HVb.out
  go_wp2_with first
    | ((with_reducible show wpList _ _ _ ({ dst := _, op := Op.store 28 (Operand.tmp 12) _, type := _, pos := _, after := _, guard := _ } :: _) _ _); refine armS (.tmp 12) (.tmp 36) 28 rfl rfl rfl rfl HSd.out ?_; try simp only [Act.put])
    | ((with_reducible show wpList _ _ _ ({ dst := _, op := Op.load 28 (Operand.tmp 3), type := _, pos := _, after := _, guard := _ } :: _) _ _); refine armLg (.tmp 3) 28 rfl rfl rfl HLa.out ?_)
    | ((with_reducible show wpList _ _ _ ({ dst := _, op := Op.load 28 (Operand.tmp 6), type := _, pos := _, after := _, guard := _ } :: _) _ _); refine armLg (.tmp 6) 28 rfl rfl rfl HLb.out ?_)
  refine Calls.mono HSM1.out ?_
  rintro e5 w5 ⟨rfl, hb5⟩
  have HLc : Hid _ := vb_load (blk_on HVc.out hb5)
  have HLd : Hid _ := vb_load (blk_on HVd.out hb5)
  have HSM2 : Hid _ := RSame_eq (g := g2) HQ.out.ad (HDc.out.on hb5) (HDd.out.on hb5)
  have HB5 : Hid (Below w.heap.size w w5) := HBd.out.trans (hb5.mono HBd.out.size)
  clear hb5 HSM1 HLa HLb HVa HVb HVc HVd HDa HDb HDc HDd HSd hWW HC
  go_wp2_with first
    | ((with_reducible show wpList _ _ _ ({ dst := _, op := Op.load 28 (Operand.tmp 9), type := _, pos := _, after := _, guard := _ } :: _) _ _); refine armLg (.tmp 9) 28 rfl rfl rfl HLc.out ?_)
    | ((with_reducible show wpList _ _ _ ({ dst := _, op := Op.load 28 (Operand.tmp 12), type := _, pos := _, after := _, guard := _ } :: _) _ _); refine armLg (.tmp 12) 28 rfl rfl rfl HLd.out ?_)
  refine Calls.mono HSM2.out ?_
  rintro e6 w6 ⟨rfl, hb6⟩
  have HB6 : Hid (Below w.heap.size w w6) := HB5.out.trans (hb6.mono HB5.out.size)
  clear hb6 HSM2 HLc HLd
  go_wp2_with fail
  refine (alive_calls _).mono ?_
  rintro e7 w7 ⟨rfl, hb7⟩
  have HF : Hid (Below w.heap.size w w7) := HB6.out.trans (hb7.mono HB6.out.size)
  clear hb7 HB6
  go_wp2
  go_ret
  exact ⟨rfl, HF.out⟩
end
theorem ipv6Parses_open {H : Type} {enc : TypeId × Value → H} {W : World} {base : Nat} (v0 : Value) {d0 : DataW H} {p0 : List MemPlace}
    (o0 : Value.okWide Try.prog W .any base 26 v0) (h0 : DataW.Trod enc Try.prog W 0 (fun _ => true) true 26 v0 d0 p0) (z0 : ∀ k ∈ d0.weights Try.prog 26, k ≤ reachBytes) :
    Calls Try.prog 4 #[v0] W fun e w' => e = .returned (.bool true) ∧ Below W.heap.size W w' := by
  obtain ⟨zs, hr⟩ := open_row o0 h0 z0
  exact ipv6Parses_walk (BS.of_row hr)

end Go.Proofs.Ytbaeogoojpngbaa
