/-
  Parse and Part of the document's answer, of any bytes; both sides have the same answers.
-/
import Derived.Test.YtbaeogoojpngbaaYp7
namespace Go.Proofs.Ytbaeogoojpngbaa
open Go Go.RowKit
set_option linter.unusedVariables false
set_option linter.unusedSimpArgs false

section
variable {w : World} {v : Value} {zs : List Int}
/-- What an answer is: as the bytes say. -/
def AnsP (whole : Bool) (zs : List Int) (base : Nat) (e : Ending) (w' : World) : Prop :=
  (∃ (at' : Nat) (er : Int), parR whole zs = .bad at' er ∧ e = .returned (.tuple #[.agg zeroV.toArray, .int .i64 at', .int .i64 er])) ∨
  (∃ hs g proto body vh vb, ∃ hA : ((zs.drop 8).take 32).length = 32, parR whole zs = .ok hs g proto body ∧ e = .returned (.tuple #[VV (finF (clsN zs) (labN zs) (gz zs 7) proto ((zs.drop 8).take 32) hA) g vh vb, .int .i64 0, .int .i64 0]) ∧ D6 (fun b => base ≤ b) w' (finF (clsN zs) (labN zs) (gz zs 7) proto ((zs.drop 8).take 32) hA) vh vb hs body)
theorem parse_any (whole : Bool) (h : BS (fun b => b < w.heap.size) w v zs) :
    Calls Try.prog 34 #[v, .bool whole] w fun e w' => AnsP whole zs w.heap.size e w' ∧ Below w.heap.size w w' := by
  by_cases c1 : zs.length < 40
  · exact parse_short whole h c1 _ (fun w' hb => ⟨.inl ⟨0, 50, by unfold parR; rw [if_pos c1], rfl⟩, hb⟩)
  by_cases c2 : gz zs 0 / 16 = 6
  · by_cases c3 : badN whole zs
    · exact parse_len whole h (by omega) c2 c3 _ (fun w' hb => ⟨.inl ⟨4, 52, by unfold parR; rw [if_neg c1, if_neg (by simp [c2]), if_pos c3], rfl⟩, hb⟩)
    · have hp : parR whole zs = endR (rdH 9 (zs.drop 40) 40 (gz zs 6) []) := by unfold parR; rw [if_neg c1, if_neg (by simp [c2]), if_neg c3]
      have hA : ((zs.drop 8).take 32).length = 32 := by rw [List.length_take, List.length_drop]; omega
      exact parse_good whole h (by omega) c2 c3 hA _ (fun at' er he w' hb => ⟨.inl ⟨at', er, hp.trans he, rfl⟩, hb⟩) (fun hs g proto body he w' vh vb hd hb => ⟨.inr ⟨hs, g, proto, body, vh, vb, hA, hp.trans he, rfl, hd⟩, hb⟩)
  · exact parse_ver whole h (by omega) c2 _ (fun w' hb => ⟨.inl ⟨0, 51, by unfold parR; rw [if_neg c1, if_pos c2], rfl⟩, hb⟩)
set_option maxHeartbeats 4000000 in
set_option maxRecDepth 100000 in
theorem RParse_any (h : BS (fun b => b < w.heap.size) w v zs) :
    Calls Try.prog 16 #[v] w fun e w' => AnsP true zs w.heap.size e w' ∧ Below w.heap.size w w' := by
  obtain ⟨W0, hW0⟩ : ∃ W0, W0 = w.alloc (.cells zeroV.toArray 28) := ⟨_, rfl⟩
  have hB0 : Below w.heap.size w W0 := by rw [hW0]; exact (Below.refl w.heap.size w).alloc (Nat.le_refl _) _
  have hz0 : W0.heap[w.heap.size]? = some (.cells zeroV.toArray 28) := by rw [hW0]; exact blk_new w _
  have hsz0 : W0.heap.size = w.heap.size + 1 := by rw [hW0]; simp
  have HP : Hid _ := parse_any true ((h.on hB0).mono (S' := fun b => b < W0.heap.size) (fun b hb _ => hb))
  have HZ0 : Hid (W0.heap[w.heap.size]? = some (.cells zeroV.toArray 28)) := hz0
  have HB0 : Hid (Below w.heap.size w W0) := hB0
  have HSZ : Hid (W0.heap.size = w.heap.size + 1) := hsz0
  have hW := hW0.symm
  unfold zeroV at hW
  clear hB0 hz0 hsz0 hW0 h
  generalize hX : (fun e w' => AnsP true zs w.heap.size e w' ∧ Below w.heap.size w w') = X
  have HX : Hid (∀ e w', AnsP true zs w.heap.size e w' ∧ Below w.heap.size w w' → X e w') := fun e w' hh => by rw [← hX]; exact hh
  clear hX
  refine Calls.mono (R := fun e w' => Hid (X e w')) ?_ (fun e w' hx => hx.out)
  go_enter Try.func16, Try.ntmps16
  go_wp2_with fail
  refine Calls.mono HP.out ?_
  rintro e1 w1 ⟨⟨at', er, hp, rfl⟩ | ⟨hs, g, proto, body, vh, vb, hA, hp, rfl, hd⟩, hb1⟩
  · have hz1 := blk_on HZ0.out hb1
    obtain ⟨w2, hst, hb2, ho2⟩ := box_store Try.sizeOf28 hz1 (by rfl) (vC zF zG (.slice none 0 0) (.slice none 0 0)) vC_len (vC_one rfl rfl)
    rw [show (.agg (vC zF zG (.slice none 0 0) (.slice none 0 0)).toArray : Value) = .agg zeroV.toArray from rfl] at hst
    have hvl := vb_var hb2
    rw [show VV zF zG (.slice none 0 0) (.slice none 0 0) = .agg zeroV.toArray from rfl] at hvl
    have HVL : Hid _ := hvl
    have HST : Hid _ := hst
    have HXX : Hid (X (.returned (.tuple #[.agg zeroV.toArray, .int .i64 at', .int .i64 er])) w2) := HX.out _ _ ⟨.inl ⟨at', er, hp, rfl⟩, (HB0.out.trans (hb1.mono HB0.out.size)).trans (ho2.below (Nat.le_refl _))⟩
    clear hz1 hst hb2 ho2 hvl hb1 HP HX HZ0 HB0 HSZ hW hp
    go_wp2_with ((with_reducible show wpList _ _ _ ({ dst := _, op := Op.store 28 (Operand.tmp 2) _, type := _, pos := _, after := _, guard := _ } :: _) _ _); refine armS (.tmp 2) (.tmp 7) 28 rfl rfl rfl rfl HST.out ?_; try simp only [Act.put])
    exact bodyPost_ret (res3d (a := 2) (b := 3) (c := 4) rfl rfl rfl rfl HVL.out) rfl HXX
  · have hz1 := blk_on HZ0.out hb1
    obtain ⟨FF, hFF⟩ : ∃ FF, finF (clsN zs) (labN zs) (gz zs 7) proto ((zs.drop 8).take 32) hA = FF := ⟨_, rfl⟩
    obtain ⟨w2, hst, hb2, ho2⟩ := box_store Try.sizeOf28 hz1 (by rfl) (vC FF g vh vb) vC_len (vC_one hd.hd.one hd.bd.one)
    have HVL : Hid _ := vb_var hb2
    have HST : Hid _ := hst
    have hd2 := (hd.sep (Sep.of_only (O := fun b => b = w.heap.size) ho2 rfl) (fun b hb e => by have := HSZ.out; omega)).mono (S' := fun b => w.heap.size ≤ b) (fun b _ hb => by have := HSZ.out; omega)
    have HXX : Hid (X (.returned (.tuple #[VV FF g vh vb, .int .i64 0, .int .i64 0])) w2) := HX.out _ _ ⟨.inr ⟨hs, g, proto, body, vh, vb, hA, hp, by rw [hFF], hd2⟩, (HB0.out.trans (hb1.mono HB0.out.size)).trans (ho2.below (Nat.le_refl _))⟩
    rw [hFF]
    clear hz1 hst hb2 ho2 hb1 HP HX HZ0 HB0 HSZ hW hp hd hd2 hFF
    go_wp2_with ((with_reducible show wpList _ _ _ ({ dst := _, op := Op.store 28 (Operand.tmp 2) _, type := _, pos := _, after := _, guard := _ } :: _) _ _); refine armS (.tmp 2) (.tmp 7) 28 rfl rfl rfl rfl HST.out ?_; try simp only [Act.put])
    exact bodyPost_ret (res3d (a := 2) (b := 3) (c := 4) rfl rfl rfl rfl HVL.out) rfl HXX
set_option maxHeartbeats 4000000 in
set_option maxRecDepth 100000 in
theorem RPart_any (h : BS (fun b => b < w.heap.size) w v zs) :
    Calls Try.prog 18 #[v] w fun e w' => AnsP false zs w.heap.size e w' ∧ Below w.heap.size w w' := by
  obtain ⟨W0, hW0⟩ : ∃ W0, W0 = w.alloc (.cells zeroV.toArray 28) := ⟨_, rfl⟩
  have hB0 : Below w.heap.size w W0 := by rw [hW0]; exact (Below.refl w.heap.size w).alloc (Nat.le_refl _) _
  have hz0 : W0.heap[w.heap.size]? = some (.cells zeroV.toArray 28) := by rw [hW0]; exact blk_new w _
  have hsz0 : W0.heap.size = w.heap.size + 1 := by rw [hW0]; simp
  have HP : Hid _ := parse_any false ((h.on hB0).mono (S' := fun b => b < W0.heap.size) (fun b hb _ => hb))
  have HZ0 : Hid (W0.heap[w.heap.size]? = some (.cells zeroV.toArray 28)) := hz0
  have HB0 : Hid (Below w.heap.size w W0) := hB0
  have HSZ : Hid (W0.heap.size = w.heap.size + 1) := hsz0
  have hW := hW0.symm
  unfold zeroV at hW
  clear hB0 hz0 hsz0 hW0 h
  generalize hX : (fun e w' => AnsP false zs w.heap.size e w' ∧ Below w.heap.size w w') = X
  have HX : Hid (∀ e w', AnsP false zs w.heap.size e w' ∧ Below w.heap.size w w' → X e w') := fun e w' hh => by rw [← hX]; exact hh
  clear hX
  refine Calls.mono (R := fun e w' => Hid (X e w')) ?_ (fun e w' hx => hx.out)
  go_enter Try.func18, Try.ntmps18
  go_wp2_with fail
  refine Calls.mono HP.out ?_
  rintro e1 w1 ⟨⟨at', er, hp, rfl⟩ | ⟨hs, g, proto, body, vh, vb, hA, hp, rfl, hd⟩, hb1⟩
  · have hz1 := blk_on HZ0.out hb1
    obtain ⟨w2, hst, hb2, ho2⟩ := box_store Try.sizeOf28 hz1 (by rfl) (vC zF zG (.slice none 0 0) (.slice none 0 0)) vC_len (vC_one rfl rfl)
    rw [show (.agg (vC zF zG (.slice none 0 0) (.slice none 0 0)).toArray : Value) = .agg zeroV.toArray from rfl] at hst
    have hvl := vb_var hb2
    rw [show VV zF zG (.slice none 0 0) (.slice none 0 0) = .agg zeroV.toArray from rfl] at hvl
    have HVL : Hid _ := hvl
    have HST : Hid _ := hst
    have HXX : Hid (X (.returned (.tuple #[.agg zeroV.toArray, .int .i64 at', .int .i64 er])) w2) := HX.out _ _ ⟨.inl ⟨at', er, hp, rfl⟩, (HB0.out.trans (hb1.mono HB0.out.size)).trans (ho2.below (Nat.le_refl _))⟩
    clear hz1 hst hb2 ho2 hvl hb1 HP HX HZ0 HB0 HSZ hW hp
    go_wp2_with ((with_reducible show wpList _ _ _ ({ dst := _, op := Op.store 28 (Operand.tmp 2) _, type := _, pos := _, after := _, guard := _ } :: _) _ _); refine armS (.tmp 2) (.tmp 7) 28 rfl rfl rfl rfl HST.out ?_; try simp only [Act.put])
    exact bodyPost_ret (res3d (a := 2) (b := 3) (c := 4) rfl rfl rfl rfl HVL.out) rfl HXX
  · have hz1 := blk_on HZ0.out hb1
    obtain ⟨FF, hFF⟩ : ∃ FF, finF (clsN zs) (labN zs) (gz zs 7) proto ((zs.drop 8).take 32) hA = FF := ⟨_, rfl⟩
    obtain ⟨w2, hst, hb2, ho2⟩ := box_store Try.sizeOf28 hz1 (by rfl) (vC FF g vh vb) vC_len (vC_one hd.hd.one hd.bd.one)
    have HVL : Hid _ := vb_var hb2
    have HST : Hid _ := hst
    have hd2 := (hd.sep (Sep.of_only (O := fun b => b = w.heap.size) ho2 rfl) (fun b hb e => by have := HSZ.out; omega)).mono (S' := fun b => w.heap.size ≤ b) (fun b _ hb => by have := HSZ.out; omega)
    have HXX : Hid (X (.returned (.tuple #[VV FF g vh vb, .int .i64 0, .int .i64 0])) w2) := HX.out _ _ ⟨.inr ⟨hs, g, proto, body, vh, vb, hA, hp, by rw [hFF], hd2⟩, (HB0.out.trans (hb1.mono HB0.out.size)).trans (ho2.below (Nat.le_refl _))⟩
    rw [hFF]
    clear hz1 hst hb2 ho2 hb1 HP HX HZ0 HB0 HSZ hW hp hd hd2 hFF
    go_wp2_with ((with_reducible show wpList _ _ _ ({ dst := _, op := Op.store 28 (Operand.tmp 2) _, type := _, pos := _, after := _, guard := _ } :: _) _ _); refine armS (.tmp 2) (.tmp 7) 28 rfl rfl rfl rfl HST.out ?_; try simp only [Act.put])
    exact bodyPost_ret (res3d (a := 2) (b := 3) (c := 4) rfl rfl rfl rfl HVL.out) rfl HXX
/-- Both sides answer the same. -/
structure BothP (w : World) (v : Value) (F G : FuncId) (f : F6) (g : G6) (hs : Opts) (body : List Int) (at' er : Int) : Prop where
  ad : AdOk f
  one : ∀ x : Hi w, Calls Try.prog F #[v] x.W fun e w' => ∃ vh vb, e = .returned (.tuple #[VV f g vh vb, .int .i64 at', .int .i64 er]) ∧ D6 (fun b => x.W.heap.size ≤ b) w' f vh vb hs body ∧ Below x.W.heap.size x.W w'
  two : ∀ x : Hi w, Calls Try.prog G #[v] x.W fun e w' => ∃ vh vb, e = .returned (.tuple #[VV f g vh vb, .int .i64 at', .int .i64 er]) ∧ D6 (fun b => x.W.heap.size ≤ b) w' f vh vb hs body ∧ Below x.W.heap.size x.W w'
theorem zF_ad : AdOk zF := ⟨List.replicate 32 0, rfl, fun z hz => by rw [(List.mem_replicate.1 hz).2]; omega⟩
theorem fin_ad {a b c d : Int} {L : List Int} (h : L.length = 32) (hf : Fit L) : AdOk (finF a b c d L h) := ⟨L, rfl, hf⟩
theorem zero_d6 (S : Nat → Prop) (w : World) : D6 S w zF (.slice none 0 0) (.slice none 0 0) [] [] := ⟨HS.nil _ _, BS.nil _ _, by show (0 : Int) ≤ 0 ∧ (0 : Int) ≤ 4294967295; omega⟩
theorem both_of {whole : Bool} {F G : FuncId} (h : BS (fun b => b < w.heap.size) w v zs) (h1 : ∀ x : Hi w, Calls Try.prog F #[v] x.W fun e w' => AnsP whole zs x.W.heap.size e w' ∧ Below x.W.heap.size x.W w') (h2 : ∀ x : Hi w, Calls Try.prog G #[v] x.W fun e w' => AnsP whole zs x.W.heap.size e w' ∧ Below x.W.heap.size x.W w') :
    ∃ f g hs body at' er, BothP w v F G f g hs body at' er := by
  cases hp : parR whole zs with
  | bad at' er =>
    refine ⟨zF, zG, [], [], at', er, zF_ad, fun x => (h1 x).mono ?_, fun x => (h2 x).mono ?_⟩
    all_goals
      rintro e w' ⟨⟨a2, e2, hp2, rfl⟩ | ⟨hs, g, proto, body, vh, vb, hA, hp2, rfl, hd⟩, hb⟩
      · rw [hp] at hp2
        cases hp2
        exact ⟨.slice none 0 0, .slice none 0 0, rfl, zero_d6 _ _, hb⟩
      · rw [hp] at hp2; cases hp2
  | ok hs g proto body =>
    by_cases hA : ((zs.drop 8).take 32).length = 32
    · refine ⟨finF (clsN zs) (labN zs) (gz zs 7) proto ((zs.drop 8).take 32) hA, g, hs, body, 0, 0, fin_ad hA (fun z hz => h.row.fit z (List.mem_of_mem_drop (List.mem_of_mem_take hz))), fun x => (h1 x).mono ?_, fun x => (h2 x).mono ?_⟩
      all_goals
        rintro e w' ⟨⟨a2, e2, hp2, rfl⟩ | ⟨hs, g, proto, body, vh, vb, hA, hp2, rfl, hd⟩, hb⟩
        · rw [hp] at hp2; cases hp2
        · rw [hp] at hp2
          cases hp2
          exact ⟨vh, vb, rfl, hd, hb⟩
    · exfalso
      apply hA
      unfold parR at hp
      by_cases c1 : zs.length < 40
      · rw [if_pos c1] at hp; cases hp
      · rw [List.length_take, List.length_drop]; omega
theorem parse_both (h : BS (fun b => b < w.heap.size) w v zs) : ∃ f g hs body at' er, BothP w v 15 16 f g hs body at' er := by
  have hx : ∀ x : Hi w, BS (fun b => b < x.W.heap.size) x.W v zs := fun x => (h.on x.below).mono (fun b hb _ => hb)
  refine both_of (whole := true) h (fun x => Parse_X (hx x) _ (fun at' er he w' hb => ⟨.inl ⟨at', er, he, rfl⟩, hb⟩) (fun hs g proto body hA he w' vh vb hd hb => ⟨.inr ⟨hs, g, proto, body, vh, vb, hA, he, rfl, hd⟩, hb⟩)) (fun x => RParse_any (hx x))
theorem part_both (h : BS (fun b => b < w.heap.size) w v zs) : ∃ f g hs body at' er, BothP w v 17 18 f g hs body at' er := by
  have hx : ∀ x : Hi w, BS (fun b => b < x.W.heap.size) x.W v zs := fun x => (h.on x.below).mono (fun b hb _ => hb)
  refine both_of (whole := false) h (fun x => Part_X (hx x) _ (fun at' er he w' hb => ⟨.inl ⟨at', er, he, rfl⟩, hb⟩) (fun hs g proto body hA he w' vh vb hd hb => ⟨.inr ⟨hs, g, proto, body, vh, vb, hA, he, rfl, hd⟩, hb⟩)) (fun x => RPart_any (hx x))
end

end Go.Proofs.Ytbaeogoojpngbaa
