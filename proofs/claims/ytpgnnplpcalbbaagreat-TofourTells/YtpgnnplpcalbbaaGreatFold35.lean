/-
  Parse and Part of the document's answer, of any bytes; both sides have the same answers. The statement Ipv6Parses.
  What Tells of package tofour reads; fragment and isError.
  Tells of package tofour, of any datagram.
-/
import Derived.Test.YtpgnnplpcalbbaaGreatKYp7
import Derived.Test.YtpgnnplpcalbbaaGreatFold26
import Derived.Test.YtpgnnplpcalbbaaGreatFold24
import Derived.Test.YtpgnnplpcalbbaaGreatFold31
import Derived.Test.YtpgnnplpcalbbaaGreatFold00
set_option linter.unusedVariables false
set_option linter.unusedSimpArgs false
namespace Go.Proofs.YtpgnnplpcalbbaaGreat.V6
open Go Go.RowKit
section
variable {w : World} {v : Value} {zs : List Int}
/-- What an answer is: as the bytes say. -/
def AnsP (whole : Bool) (zs : List Int) (base : Nat) (e : Ending) (w' : World) : Prop :=
  (∃ (at' : Nat) (er : Int), parR whole zs = .bad at' er ∧ e = .returned (.tuple #[.agg zeroV.toArray, .int .i64 at', .int .i64 er])) ∨
  (∃ hs g proto body vh vb, ∃ hA : ((zs.drop 8).take 32).length = 32, parR whole zs = .ok hs g proto body ∧ e = .returned (.tuple #[VV (finF (clsN zs) (labN zs) (gz zs 7) proto ((zs.drop 8).take 32) hA) g vh vb, .int .i64 0, .int .i64 0]) ∧ D6 (fun b => base ≤ b) w' (finF (clsN zs) (labN zs) (gz zs 7) proto ((zs.drop 8).take 32) hA) vh vb hs body)
theorem parse_any (whole : Bool) (h : BS (fun b => b < w.heap.size) w v zs) :
    Calls Tryz.prog 186 #[v, .bool whole] w fun e w' => AnsP whole zs w.heap.size e w' ∧ Below w.heap.size w w' := by
  by_cases c1 : zs.length < 40
  · exact parse_short whole h c1 _ (fun w' hb => ⟨.inl ⟨0, 50, by unfold parR; rw [if_pos c1], rfl⟩, hb⟩)
  by_cases c2 : gz zs 0 / 16 = 6
  · by_cases c3 : badN whole zs
    · exact parse_len whole h (by omega) c2 c3 _ (fun w' hb => ⟨.inl ⟨4, 52, by unfold parR; rw [if_neg c1, if_neg (by simp [c2]), if_pos c3], rfl⟩, hb⟩)
    · have hp : parR whole zs = endR (rdH 9 (zs.drop 40) 40 (gz zs 6) []) := by unfold parR; rw [if_neg c1, if_neg (by simp [c2]), if_neg c3]
      have hA : ((zs.drop 8).take 32).length = 32 := by rw [List.length_take, List.length_drop]; omega
      exact parse_good whole h (by omega) c2 c3 hA _ (fun at' er he w' hb => ⟨.inl ⟨at', er, hp.trans he, rfl⟩, hb⟩) (fun hs g proto body he w' vh vb hd hb => ⟨.inr ⟨hs, g, proto, body, vh, vb, hA, hp.trans he, rfl, hd⟩, hb⟩)
  · exact parse_ver whole h (by omega) c2 _ (fun w' hb => ⟨.inl ⟨0, 51, by unfold parR; rw [if_neg c1, if_pos c2], rfl⟩, hb⟩)
set_option maxHeartbeats 4000000 in
set_option maxRecDepth 100000 in
theorem RPart_any (h : BS (fun b => b < w.heap.size) w v zs) :
    Calls Tryz.prog 112 #[v] w fun e w' => AnsP false zs w.heap.size e w' ∧ Below w.heap.size w w' := by
  obtain ⟨W0, hW0⟩ : ∃ W0, W0 = w.alloc (.cells zeroV.toArray 36) := ⟨_, rfl⟩
  have hB0 : Below w.heap.size w W0 := by rw [hW0]; exact (Below.refl w.heap.size w).alloc (Nat.le_refl _) _
  have hz0 : W0.heap[w.heap.size]? = some (.cells zeroV.toArray 36) := by rw [hW0]; exact blk_new w _
  have hsz0 : W0.heap.size = w.heap.size + 1 := by rw [hW0]; simp
  have HP : Hid _ := parse_any false ((h.on hB0).mono (S' := fun b => b < W0.heap.size) (fun b hb _ => hb))
  have HZ0 : Hid (W0.heap[w.heap.size]? = some (.cells zeroV.toArray 36)) := hz0
  have HB0 : Hid (Below w.heap.size w W0) := hB0
  have HSZ : Hid (W0.heap.size = w.heap.size + 1) := hsz0
  have hW := hW0.symm
  unfold zeroV at hW
  clear hB0 hz0 hsz0 hW0 h
  generalize hX : (fun e w' => AnsP false zs w.heap.size e w' ∧ Below w.heap.size w w') = X
  have HX : Hid (∀ e w', AnsP false zs w.heap.size e w' ∧ Below w.heap.size w w' → X e w') := fun e w' hh => by rw [← hX]; exact hh
  clear hX
  refine Calls.mono (R := fun e w' => Hid (X e w')) ?_ (fun e w' hx => hx.out)
  go_enter Tryz.func112, Tryz.ntmps112
  go_wp2_with fail
  refine Calls.mono HP.out ?_
  rintro e1 w1 ⟨⟨at', er, hp, rfl⟩ | ⟨hs, g, proto, body, vh, vb, hA, hp, rfl, hd⟩, hb1⟩
  · have hz1 := blk_on HZ0.out hb1
    obtain ⟨w2, hst, hb2, ho2⟩ := box_store Tryz.sizeOf36 hz1 (by rfl) (vC zF zG (.slice none 0 0) (.slice none 0 0)) vC_len (vC_one rfl rfl)
    rw [show (.agg (vC zF zG (.slice none 0 0) (.slice none 0 0)).toArray : Value) = .agg zeroV.toArray from rfl] at hst
    have hvl := vb_var hb2
    rw [show VV zF zG (.slice none 0 0) (.slice none 0 0) = .agg zeroV.toArray from rfl] at hvl
    have HVL : Hid _ := hvl
    have HST : Hid _ := hst
    have HXX : Hid (X (.returned (.tuple #[.agg zeroV.toArray, .int .i64 at', .int .i64 er])) w2) := HX.out _ _ ⟨.inl ⟨at', er, hp, rfl⟩, (HB0.out.trans (hb1.mono HB0.out.size)).trans (ho2.below (Nat.le_refl _))⟩
    clear hz1 hst hb2 ho2 hvl hb1 HP HX HZ0 HB0 HSZ hW hp
    go_wp2_with ((with_reducible show wpList _ _ _ ({ dst := _, op := Op.store 36 (Operand.tmp 2) _, type := _, pos := _, after := _, guard := _ } :: _) _ _); refine armS (.tmp 2) (.tmp 7) 36 rfl rfl rfl rfl HST.out ?_; try simp only [Act.put])
    exact bodyPost_ret (res3d (a := 2) (b := 3) (c := 4) rfl rfl rfl rfl HVL.out) rfl HXX
  · have hz1 := blk_on HZ0.out hb1
    obtain ⟨FF, hFF⟩ : ∃ FF, finF (clsN zs) (labN zs) (gz zs 7) proto ((zs.drop 8).take 32) hA = FF := ⟨_, rfl⟩
    obtain ⟨w2, hst, hb2, ho2⟩ := box_store Tryz.sizeOf36 hz1 (by rfl) (vC FF g vh vb) vC_len (vC_one hd.hd.one hd.bd.one)
    have HVL : Hid _ := vb_var hb2
    have HST : Hid _ := hst
    have hd2 := (hd.sep (Sep.of_only (O := fun b => b = w.heap.size) ho2 rfl) (fun b hb e => by have := HSZ.out; omega)).mono (S' := fun b => w.heap.size ≤ b) (fun b _ hb => by have := HSZ.out; omega)
    have HXX : Hid (X (.returned (.tuple #[VV FF g vh vb, .int .i64 0, .int .i64 0])) w2) := HX.out _ _ ⟨.inr ⟨hs, g, proto, body, vh, vb, hA, hp, by rw [hFF], hd2⟩, (HB0.out.trans (hb1.mono HB0.out.size)).trans (ho2.below (Nat.le_refl _))⟩
    rw [hFF]
    clear hz1 hst hb2 ho2 hb1 HP HX HZ0 HB0 HSZ hW hp hd hd2 hFF
    go_wp2_with ((with_reducible show wpList _ _ _ ({ dst := _, op := Op.store 36 (Operand.tmp 2) _, type := _, pos := _, after := _, guard := _ } :: _) _ _); refine armS (.tmp 2) (.tmp 7) 36 rfl rfl rfl rfl HST.out ?_; try simp only [Act.put])
    exact bodyPost_ret (res3d (a := 2) (b := 3) (c := 4) rfl rfl rfl rfl HVL.out) rfl HXX
/-- Both sides answer the same. -/
structure BothP (w : World) (v : Value) (F G : FuncId) (f : F6) (g : G6) (hs : Opts) (body : List Int) (at' er : Int) : Prop where
  ad : AdOk f
  one : ∀ x : Hi w, Calls Tryz.prog F #[v] x.W fun e w' => ∃ vh vb, e = .returned (.tuple #[VV f g vh vb, .int .i64 at', .int .i64 er]) ∧ D6 (fun b => x.W.heap.size ≤ b) w' f vh vb hs body ∧ Below x.W.heap.size x.W w'
  two : ∀ x : Hi w, Calls Tryz.prog G #[v] x.W fun e w' => ∃ vh vb, e = .returned (.tuple #[VV f g vh vb, .int .i64 at', .int .i64 er]) ∧ D6 (fun b => x.W.heap.size ≤ b) w' f vh vb hs body ∧ Below x.W.heap.size x.W w'
theorem zF_ad : AdOk zF := ⟨List.replicate 32 0, rfl, fun z hz => by rw [(List.mem_replicate.1 hz).2]; omega⟩
theorem fin_ad {a b c d : Int} {L : List Int} (h : L.length = 32) (hf : Fit L) : AdOk (finF a b c d L h) := ⟨L, rfl, hf⟩
theorem zero_d6 (S : Nat → Prop) (w : World) : D6 S w zF (.slice none 0 0) (.slice none 0 0) [] [] := ⟨HS.nil _ _, BS.nil _ _, by show (0 : Int) ≤ 0 ∧ (0 : Int) ≤ 4294967295; omega⟩
theorem both_of {whole : Bool} {F G : FuncId} (h : BS (fun b => b < w.heap.size) w v zs) (h1 : ∀ x : Hi w, Calls Tryz.prog F #[v] x.W fun e w' => AnsP whole zs x.W.heap.size e w' ∧ Below x.W.heap.size x.W w') (h2 : ∀ x : Hi w, Calls Tryz.prog G #[v] x.W fun e w' => AnsP whole zs x.W.heap.size e w' ∧ Below x.W.heap.size x.W w') :
    ∃ f g hs body at' er, BothP w v F G f g hs body at' er := by
  cases hp : parR whole zs with
  | bad at' er =>
    refine ⟨zF, zG, [], [], at', er, zF_ad, fun x => (h1 x).mono ?_, fun x => (h2 x).mono ?_⟩
    all_goals
      rintro e w' ⟨⟨a2, e2, hp2, rfl⟩ | ⟨hs, g, proto, body, vh, vb, hA, hp2, rfl, hd⟩, hb⟩
      · rw [hp] at hp2
        cases hp2
        exact ⟨.slice none 0 0, .slice none 0 0, rfl, zero_d6 _ _, hb⟩
      · rw [hp] at hp2; cases hp2
  | ok hs g proto body =>
    by_cases hA : ((zs.drop 8).take 32).length = 32
    · refine ⟨finF (clsN zs) (labN zs) (gz zs 7) proto ((zs.drop 8).take 32) hA, g, hs, body, 0, 0, fin_ad hA (fun z hz => h.row.fit z (List.mem_of_mem_drop (List.mem_of_mem_take hz))), fun x => (h1 x).mono ?_, fun x => (h2 x).mono ?_⟩
      all_goals
        rintro e w' ⟨⟨a2, e2, hp2, rfl⟩ | ⟨hs, g, proto, body, vh, vb, hA, hp2, rfl, hd⟩, hb⟩
        · rw [hp] at hp2; cases hp2
        · rw [hp] at hp2
          cases hp2
          exact ⟨vh, vb, rfl, hd, hb⟩
    · exfalso
      apply hA
      unfold parR at hp
      by_cases c1 : zs.length < 40
      · rw [if_pos c1] at hp; cases hp
      · rw [List.length_take, List.length_drop]; omega
theorem part_both (h : BS (fun b => b < w.heap.size) w v zs) : ∃ f g hs body at' er, BothP w v 119 112 f g hs body at' er := by
  have hx : ∀ x : Hi w, BS (fun b => b < x.W.heap.size) x.W v zs := fun x => (h.on x.below).mono (fun b hb _ => hb)
  refine both_of (whole := false) h (fun x => Part_X (hx x) _ (fun at' er he w' hb => ⟨.inl ⟨at', er, he, rfl⟩, hb⟩) (fun hs g proto body hA he w' vh vb hd hb => ⟨.inr ⟨hs, g, proto, body, vh, vb, hA, he, rfl, hd⟩, hb⟩)) (fun x => RPart_any (hx x))
end
end Go.Proofs.YtpgnnplpcalbbaaGreat.V6
namespace Go.Proofs.YtpgnnplpcalbbaaGreat.V6
open Go Go.RowKit
section
variable {w : World} {v : Value} {zs : List Int}
end
end Go.Proofs.YtpgnnplpcalbbaaGreat.V6
namespace Go.Proofs.YtpgnnplpcalbbaaGreat.V6
open Go Go.RowKit
theorem rdH_bad : ∀ (n : Nat) (rest : List Int) (at' : Nat) (kind : Int) (acc : Opts) (a2 : Nat) (e : Int), acc.length ≤ 8 → 9 ≤ n + acc.length → rdH n rest at' kind acc = .bad a2 e → e = 50 ∨ e = 53
  | 0, _, _, _, acc, _, _, h8, h9, _ => by omega
  | n + 1, rest, at', kind, acc, a2, e, h8, h9, h => by
    rw [rdH] at h
    by_cases c : isH kind = true
    · rw [if_pos c] at h
      by_cases c1 : rest.length < 8
      · rw [if_pos c1] at h; cases h; exact .inl rfl
      rw [if_neg c1] at h
      by_cases c2 : rest.length < szH rest
      · rw [if_pos c2] at h; cases h; exact .inl rfl
      rw [if_neg c2] at h
      by_cases c3 : acc.length < 8 ∧ kindB kind acc.length = true
      · rw [if_pos c3] at h
        exact rdH_bad n _ _ _ _ a2 e (by rw [List.length_append, List.length_singleton]; omega) (by rw [List.length_append, List.length_singleton]; omega) h
      · rw [if_neg c3] at h; cases h; exact .inr rfl
    · rw [if_neg c] at h; cases h
theorem par_bad {whole : Bool} {zs : List Int} {at' : Nat} {e : Int} (h : parR whole zs = .bad at' e) : (e == 0) = false ∧ (e != 0) = true := by
  have key : e = 50 ∨ e = 51 ∨ e = 52 ∨ e = 53 := by
    unfold parR at h
    by_cases c1 : zs.length < 40
    · rw [if_pos c1] at h; cases h; simp
    rw [if_neg c1] at h
    by_cases c2 : gz zs 0 / 16 ≠ 6
    · rw [if_pos c2] at h; cases h; simp
    rw [if_neg c2] at h
    by_cases c3 : badN whole zs
    · rw [if_pos c3] at h; cases h; simp
    rw [if_neg c3] at h
    cases hr : rdH 9 (zs.drop 40) 40 (gz zs 6) [] with
    | bad a e' =>
      rw [hr, endR] at h
      cases h
      rcases rdH_bad _ _ _ _ _ _ _ (by simp) (by simp) hr with h | h <;> simp [h]
    | ok hs k rest a =>
      rw [hr, endR] at h
      by_cases c4 : k = 44
      · rw [if_pos c4] at h
        by_cases c5 : rest.length < 8
        · rw [if_pos c5] at h; cases h; simp
        · rw [if_neg c5] at h; cases h
      · rw [if_neg c4] at h; cases h
  rcases key with rfl | rfl | rfl | rfl <;> simp
end Go.Proofs.YtpgnnplpcalbbaaGreat.V6
namespace Go.Proofs.YtpgnnplpcalbbaaGreat
open Go Go.RowKit Go.Shelf
theorem list16 {l : List Int} (h : l.length = 16) : ∃ x0 x1 x2 x3 x4 x5 x6 x7 x8 x9 x10 x11 x12 x13 x14 x15, l = [x0, x1, x2, x3, x4, x5, x6, x7, x8, x9, x10, x11, x12, x13, x14, x15] := by
  match l, h with
  | [x0, x1, x2, x3, x4, x5, x6, x7, x8, x9, x10, x11, x12, x13, x14, x15], _ => exact ⟨x0, x1, x2, x3, x4, x5, x6, x7, x8, x9, x10, x11, x12, x13, x14, x15, rfl⟩
def errS (ty : Int) : Bool := decide (Icm.k6 ty = 3) || decide (Icm.k6 ty = 4) || decide (Icm.k6 ty = 5) || decide (Icm.k6 ty = 6)
theorem errS_iff (ty : Int) : errS ty = true ↔ 1 ≤ ty ∧ ty ≤ 4 := by
  unfold errS Icm.k6
  by_cases h1 : ty = 128
  · subst h1; decide
  · by_cases h2 : ty = 129
    · subst h2; decide
    · by_cases h3 : ty = 1
      · subst h3; decide
      · by_cases h4 : ty = 2
        · subst h4; decide
        · by_cases h5 : ty = 3
          · subst h5; decide
          · by_cases h6 : ty = 4
            · subst h6; decide
            · simp only [h1, h2, h3, h4, h5, h6, if_false]
              simp
              omega
def mS (A B body : List Int) : Icm.Msg := Icm.pM (Icm.ph6I A B) body
def parOk (zs : List Int) : Bool := match V6.parR false zs with
  | .ok _ _ _ _ => true
  | .bad _ _ => false
/-- Does it tell of a packet? -/
def telS (ck : Int) (g : V6.G6) (proto : Int) (A B body : List Int) : Bool :=
  decide (ck = 0) && (decide (proto = 58) && !(g.fr && (g.more || decide (0 < g.off)))) && decide (Icm.pE (Icm.ph6I A B) body = 0) && errS (mS A B body).ty && parOk (mS A B body).body
def z32 : List Int := [0, 0, 0, 0, 0, 0, 0, 0, 0, 0, 0, 0, 0, 0, 0, 0, 0, 0, 0, 0, 0, 0, 0, 0, 0, 0, 0, 0, 0, 0, 0, 0]
def vaS (ck : Int) (g : V6.G6) (proto : Int) (A B body : List Int) : List Int :=
  if telS ck g proto A B body then ((mS A B body).body.drop 8).take 32 else z32
def SOut (ck : Int) (g : V6.G6) (proto : Int) (A B body : List Int) (w : World) (e : Ending) (w' : World) : Prop :=
  e = .returned (.tuple #[.agg (u8L (vaS ck g proto A B body)).toArray, .bool (telS ck g proto A B body), .int .i64 ck]) ∧ Below w.heap.size w w'
theorem SOut.no {ck : Int} {g : V6.G6} {proto : Int} {A B body : List Int} {w w' : World} {e : Ending} {k : Int} (h : telS ck g proto A B body = false) (hk : k = ck) (he : e = .returned (.tuple #[.agg (u8L z32).toArray, .bool false, .int .i64 k])) (hb : Below w.heap.size w w') : SOut ck g proto A B body w e w' := by
  refine ⟨?_, hb⟩
  rw [he, hk, h]
  unfold vaS
  rw [h]
  rfl
theorem SOut.yes {g : V6.G6} {proto : Int} {A B body : List Int} {w w' : World} {e : Ending} (h : telS 0 g proto A B body = true) (he : e = .returned (.tuple #[.agg (u8L (((mS A B body).body.drop 8).take 32)).toArray, .bool true, .int .i64 0])) (hb : Below w.heap.size w w') : SOut 0 g proto A B body w e w' := by
  refine ⟨?_, hb⟩
  rw [he, h]
  unfold vaS
  rw [if_pos h]
/-- A datagram of IPv6 as it is handed in. -/
structure SIn (w : World) (f : V6.F6) (vh vb : Value) (hs : V6.Opts) (A B body : List Int) : Prop where
  d6 : V6.D6 (fun b => b < w.heap.size) w f vh vb hs body
  ad : f.ad = u8L A ++ u8L B
  lA : A.length = 16
  lB : B.length = 16
  fA : Fit A
  fB : Fit B
theorem SIn.on {w W : World} {f : V6.F6} {vh vb : Value} {hs : V6.Opts} {A B body : List Int} (h : SIn w f vh vb hs A B body) (hb : Below w.heap.size w W) : SIn W f vh vb hs A B body :=
  ⟨(h.d6.on hb).mono (fun b k _ => k), h.ad, h.lA, h.lB, h.fA, h.fB⟩
section
variable {W : World} {b : Nat} {f : V6.F6} {g : V6.G6} {vh vb : Value} {A B : List Int}
theorem u8L_len (zs : List Int) : (u8L zs).length = zs.length := by simp [u8L]
theorem vC_ads (g : V6.G6) (vh vb : Value) (had : f.ad = u8L A ++ u8L B) : V6.vC f g vh vb = [.int .u8 f.cls, .int .u32 f.lab, .int .u8 f.hop] ++ u8L A ++ (u8L B ++ [vh, .bool g.fr, .int .u32 g.id, .int .i64 g.off, .bool g.more, .int .u8 f.proto, vb]) := by
  unfold V6.vC
  rw [had]
  simp
theorem vl_src (h : W.heap[b]? = some (V6.BV f g vh vb)) (had : f.ad = u8L A ++ u8L B) (hA : A.length = 16) : (Instr.loadAt 29 (.pointer (some ⟨b, 3, none⟩))).run Tryz.prog W = .ok (.agg (u8L A).toArray) W := by
  have h1 := CellsAt.of_blk h
  rw [vC_ads g vh vb had, List.append_assoc] at h1
  exact agg_load Tryz.isAgg29 Tryz.sizeOf29 (by rw [u8L_len, hA]) (CellsAt.part (o := 0) (xs := [.int .u8 f.cls, .int .u32 f.lab, .int .u8 f.hop]) (ys := u8L A) h1)
theorem vl_dst (h : W.heap[b]? = some (V6.BV f g vh vb)) (had : f.ad = u8L A ++ u8L B) (hA : A.length = 16) (hB : B.length = 16) : (Instr.loadAt 29 (.pointer (some ⟨b, 19, none⟩))).run Tryz.prog W = .ok (.agg (u8L B).toArray) W := by
  have h1 := CellsAt.of_blk h
  rw [vC_ads g vh vb had] at h1
  have e : ([.int .u8 f.cls, .int .u32 f.lab, .int .u8 f.hop] ++ u8L A : List Value).length = 19 := by simp [u8L_len, hA]
  have h2 := CellsAt.part (o := 0) (xs := [.int .u8 f.cls, .int .u32 f.lab, .int .u8 f.hop] ++ u8L A) (ys := u8L B) h1
  rw [e] at h2
  exact agg_load Tryz.isAgg29 Tryz.sizeOf29 (by rw [u8L_len, hB]) h2
theorem vb40 (h : W.heap[b]? = some (V6.BV f g vh vb)) : W.cell? ⟨b, 40, none⟩ = some (.int .u8 f.proto) := blk_cell h (V6.vC_at 5)
end
/-- A new box of a datagram, its zero cells spelt out. -/
theorem vz_new (W : World) (f : V6.F6) (g : V6.G6) {vh vb : Value} (h1 : vh.oneCell' = true) (h2 : vb.oneCell' = true) :
    ∃ W', (Instr.storeAt 36 (.pointer (some ⟨W.heap.size, 0, none⟩)) (V6.VV f g vh vb)).run Tryz.prog (W.alloc (.cells [.int .u8 0, .int .u32 0, .int .u8 0, .int .u8 0, .int .u8 0, .int .u8 0, .int .u8 0, .int .u8 0, .int .u8 0, .int .u8 0, .int .u8 0, .int .u8 0, .int .u8 0, .int .u8 0, .int .u8 0, .int .u8 0, .int .u8 0, .int .u8 0, .int .u8 0, .int .u8 0, .int .u8 0, .int .u8 0, .int .u8 0, .int .u8 0, .int .u8 0, .int .u8 0, .int .u8 0, .int .u8 0, .int .u8 0, .int .u8 0, .int .u8 0, .int .u8 0, .int .u8 0, .int .u8 0, .int .u8 0, .slice none 0 0, .bool false, .int .u32 0, .int .i64 0, .bool false, .int .u8 0, .slice none 0 0].toArray 36)) = .ok () W' ∧ W'.heap[W.heap.size]? = some (V6.BV f g vh vb) ∧ Below W.heap.size W W' := by
  obtain ⟨W', k1, k2, k3, _⟩ := V6.vb_new W f g h1 h2
  unfold V6.zeroV at k1
  exact ⟨W', k1, k2, k3⟩
theorem vz_zero (W : World) :
    ∃ W', (Instr.storeAt 36 (.pointer (some ⟨W.heap.size, 0, none⟩)) (.agg V6.zeroV.toArray)).run Tryz.prog (W.alloc (.cells [.int .u8 0, .int .u32 0, .int .u8 0, .int .u8 0, .int .u8 0, .int .u8 0, .int .u8 0, .int .u8 0, .int .u8 0, .int .u8 0, .int .u8 0, .int .u8 0, .int .u8 0, .int .u8 0, .int .u8 0, .int .u8 0, .int .u8 0, .int .u8 0, .int .u8 0, .int .u8 0, .int .u8 0, .int .u8 0, .int .u8 0, .int .u8 0, .int .u8 0, .int .u8 0, .int .u8 0, .int .u8 0, .int .u8 0, .int .u8 0, .int .u8 0, .int .u8 0, .int .u8 0, .int .u8 0, .int .u8 0, .slice none 0 0, .bool false, .int .u32 0, .int .i64 0, .bool false, .int .u8 0, .slice none 0 0].toArray 36)) = .ok () W' ∧ Below W.heap.size W W' := by
  obtain ⟨W', k1, _, k3⟩ := vz_new W V6.zF V6.zG (vh := .slice none 0 0) (vb := .slice none 0 0) rfl rfl
  rw [V6.zeroV_vC]
  exact ⟨W', k1, k3⟩
theorem Part_ans {w : World} {v : Value} {zs : List Int} (h : RowC w v zs) : Calls Tryz.prog 119 #[v] w fun e w' => V6.AnsP false zs w.heap.size e w' ∧ Below w.heap.size w w' :=
  V6.Part_X (BS.of_row h) _ (fun at' er hb w' hw => ⟨.inl ⟨at', er, hb, rfl⟩, hw⟩) (fun hs g proto body hA hk w' vh vb hd hw => ⟨.inr ⟨hs, g, proto, body, vh, vb, hA, hk, rfl, hd⟩, hw⟩)
/-- Two addresses as ends. -/
theorem build_ends (X Y : List Int) (hX : X.length = 16) (hY : Y.length = 16) (w : World) : (Instr.build 31 #[(0, .agg (u8L X).toArray), (1, .agg (u8L Y).toArray)]).run Tryz.prog w = .ok (.agg (u8L (X ++ Y)).toArray) w := by
  obtain ⟨x0, x1, x2, x3, x4, x5, x6, x7, x8, x9, x10, x11, x12, x13, x14, x15, rfl⟩ := list16 hX
  obtain ⟨y0, y1, y2, y3, y4, y5, y6, y7, y8, y9, y10, y11, y12, y13, y14, y15, rfl⟩ := list16 hY
  exact run_build w _ _ _ (by kernel_rfl)
set_option maxHeartbeats 1000000 in
set_option maxRecDepth 100000 in
theorem fragment6_calls (f : V6.F6) (g : V6.G6) (vh vb : Value) (w : World) :
    Calls Tryz.prog 116 #[V6.VV f g vh vb] w fun e w' => e = .returned (.bool (g.fr && (g.more || decide (0 < g.off)))) ∧ Below w.heap.size w w' := by
  obtain ⟨W0, hW0⟩ : ∃ W0, w.alloc (V6.BV f g vh vb) = W0 := ⟨_, rfl⟩
  have b0 := blk_new w (V6.BV f g vh vb)
  have hB := (Below.refl w.heap.size w).alloc (Nat.le_refl _) (V6.BV f g vh vb)
  rw [hW0] at b0 hB
  have c36 := V6.vb36 b0
  have c38 := V6.vb38 b0
  have c39 := V6.vb39 b0
  clear b0
  generalize hx : decide (0 < g.off) = x
  obtain ⟨fr, id, off, more⟩ := g
  dsimp only at c36 c38 c39 hx ⊢
  go_enter Tryz.func116, Tryz.ntmps116
  cases fr
  · go_wp2
    go_ret
    exact ⟨rfl, hB⟩
  · cases more
    · go_wp2
      go_ret
      exact ⟨rfl, hB⟩
    · go_wp2
      go_ret
      exact ⟨rfl, hB⟩
set_option maxHeartbeats 1000000 in
set_option maxRecDepth 100000 in
theorem Rfragment6_calls (f : V6.F6) (g : V6.G6) (vh vb : Value) (w : World) :
    Calls Tryz.prog 120 #[V6.VV f g vh vb] w fun e w' => e = .returned (.bool (g.fr && (g.more || decide (0 < g.off)))) ∧ Below w.heap.size w w' := by
  obtain ⟨W0, hW0⟩ : ∃ W0, w.alloc (V6.BV f g vh vb) = W0 := ⟨_, rfl⟩
  have b0 := blk_new w (V6.BV f g vh vb)
  have hB := (Below.refl w.heap.size w).alloc (Nat.le_refl _) (V6.BV f g vh vb)
  rw [hW0] at b0 hB
  have c36 := V6.vb36 b0
  have c38 := V6.vb38 b0
  have c39 := V6.vb39 b0
  clear b0
  generalize hx : decide (0 < g.off) = x
  obtain ⟨fr, id, off, more⟩ := g
  dsimp only at c36 c38 c39 hx ⊢
  go_enter Tryz.func120, Tryz.ntmps120
  cases fr
  · go_wp2
    go_ret
    exact ⟨rfl, hB⟩
  · cases more
    · go_wp2
      go_ret
      exact ⟨rfl, hB⟩
    · go_wp2
      go_ret
      exact ⟨rfl, hB⟩
set_option maxHeartbeats 1000000 in
set_option maxRecDepth 100000 in
theorem isError6_calls {c : List Value} {m : Icm.Msg} (w : World) (h : Icm.MsgC w c m) :
    Calls Tryz.prog 118 #[.agg c.toArray] w fun e w' => e = .returned (.bool (errS m.ty)) ∧ Below w.heap.size w w' := by
  obtain ⟨W0, hW0⟩ : ∃ W0, w.alloc (.cells c.toArray 46) = W0 := ⟨_, rfl⟩
  have b0 := blk_new w (.cells c.toArray 46)
  have hB0 := (Below.refl w.heap.size w).alloc (Nat.le_refl _) (.cells c.toArray 46)
  rw [hW0] at b0 hB0
  have HK : Hid _ := Icm.Kind6_calls W0 (h.on hB0)
  have HL : Hid ((Instr.loadAt 46 (.pointer (some ⟨w.heap.size, 0, none⟩))).run Tryz.prog W0 = .ok (.agg c.toArray) W0) := agg_load Tryz.isAgg46 Tryz.sizeOf46 h.len (CellsAt.of_blk b0)
  have HB : Hid _ := hB0
  have hE : Hid (∀ b : Bool, (decide (Icm.k6 m.ty = 3) || decide (Icm.k6 m.ty = 4) || decide (Icm.k6 m.ty = 5) || decide (Icm.k6 m.ty = 6)) = b → b = errS m.ty) := by
    intro b hb
    rw [← hb]
    rfl
  clear h b0 hB0
  generalize Icm.k6 m.ty = k at *
  generalize errS m.ty = r at *
  go_enter Tryz.func118, Tryz.ntmps118
  go_wp2_with ((with_reducible show wpList _ _ _ _ _ _); refine arm_load rfl (.tmp 1) 46 rfl rfl HL.out ?_)
  refine Calls.mono HK.out ?_
  rintro _ w2 ⟨rfl, hb2⟩
  have HX : Hid (Below w.heap.size w w2) := HB.out.trans (hb2.mono HB.out.size)
  clear hb2 HK HL HB
  go_wp2
  all_goals (go_ret; refine ⟨congrArg (fun b => Ending.returned (.bool b)) (hE.out _ ?_), HX.out⟩; simp_all)
end Go.Proofs.YtpgnnplpcalbbaaGreat
namespace Go.Proofs.YtpgnnplpcalbbaaGreat
open Go Go.RowKit Go.Shelf
set_option maxHeartbeats 4000000 in
set_option maxRecDepth 100000 in
theorem Tells6_calls (f : V6.F6) (g : V6.G6) (vh vb : Value) (hs : V6.Opts) (A B body : List Int) (w : World) (h : SIn w f vh vb hs A B body) (hoff : -9223372036854775808 ≤ g.off ∧ g.off ≤ 9223372036854775807) :
    Calls Tryz.prog 45 #[V6.VV f g vh vb] w (SOut (V6.ckE f hs g body.length) g f.proto A B body w) := by
  obtain ⟨W0, hW0⟩ : ∃ W0, w.alloc (V6.BV f g vh vb) = W0 := ⟨_, rfl⟩
  obtain ⟨W1, hW1⟩ : ∃ W1, W0.alloc (.cells [.int .u8 0, .int .u8 0, .int .u8 0, .int .u8 0, .int .u8 0, .int .u8 0, .int .u8 0, .int .u8 0, .int .u8 0, .int .u8 0, .int .u8 0, .int .u8 0, .int .u8 0, .int .u8 0, .int .u8 0, .int .u8 0, .int .u8 0, .int .u8 0, .int .u8 0, .int .u8 0, .int .u8 0, .int .u8 0, .int .u8 0, .int .u8 0, .int .u8 0, .int .u8 0, .int .u8 0, .int .u8 0, .int .u8 0, .int .u8 0, .int .u8 0, .int .u8 0].toArray 31) = W1 := ⟨_, rfl⟩
  have b0 := blk_new w (V6.BV f g vh vb)
  have hB0 := (Below.refl w.heap.size w).alloc (Nat.le_refl _) (V6.BV f g vh vb)
  rw [hW0] at b0 hB0
  have b1 := blk_new W0 (.cells [.int .u8 0, .int .u8 0, .int .u8 0, .int .u8 0, .int .u8 0, .int .u8 0, .int .u8 0, .int .u8 0, .int .u8 0, .int .u8 0, .int .u8 0, .int .u8 0, .int .u8 0, .int .u8 0, .int .u8 0, .int .u8 0, .int .u8 0, .int .u8 0, .int .u8 0, .int .u8 0, .int .u8 0, .int .u8 0, .int .u8 0, .int .u8 0, .int .u8 0, .int .u8 0, .int .u8 0, .int .u8 0, .int .u8 0, .int .u8 0, .int .u8 0, .int .u8 0].toArray 31)
  have hB1 := (Below.refl W0.heap.size W0).alloc (Nat.le_refl _) (.cells [.int .u8 0, .int .u8 0, .int .u8 0, .int .u8 0, .int .u8 0, .int .u8 0, .int .u8 0, .int .u8 0, .int .u8 0, .int .u8 0, .int .u8 0, .int .u8 0, .int .u8 0, .int .u8 0, .int .u8 0, .int .u8 0, .int .u8 0, .int .u8 0, .int .u8 0, .int .u8 0, .int .u8 0, .int .u8 0, .int .u8 0, .int .u8 0, .int .u8 0, .int .u8 0, .int .u8 0, .int .u8 0, .int .u8 0, .int .u8 0, .int .u8 0, .int .u8 0].toArray 31)
  have b01 := blk_alloc b0 (.cells [.int .u8 0, .int .u8 0, .int .u8 0, .int .u8 0, .int .u8 0, .int .u8 0, .int .u8 0, .int .u8 0, .int .u8 0, .int .u8 0, .int .u8 0, .int .u8 0, .int .u8 0, .int .u8 0, .int .u8 0, .int .u8 0, .int .u8 0, .int .u8 0, .int .u8 0, .int .u8 0, .int .u8 0, .int .u8 0, .int .u8 0, .int .u8 0, .int .u8 0, .int .u8 0, .int .u8 0, .int .u8 0, .int .u8 0, .int .u8 0, .int .u8 0, .int .u8 0].toArray 31)
  rw [hW1] at b1 hB1 b01
  have hle := hB0.size
  have hX1 := hB0.trans (hB1.mono hle)
  have HL : Hid (∀ W, Below W1.heap.size W1 W → (Instr.loadAt 36 (.pointer (some ⟨w.heap.size, 0, none⟩))).run Tryz.prog W = .ok (V6.VV f g vh vb) W) := fun W hW => V6.vb_load (blk_on b01 hW)
  have HC : Hid (∀ W, Below W1.heap.size W1 W → W.cell? ⟨w.heap.size, 40, none⟩ = some (.int .u8 f.proto) ∧ W.cell? ⟨w.heap.size, 41, none⟩ = some vb) := fun W hW => ⟨vb40 (blk_on b01 hW), V6.vb41 (blk_on b01 hW)⟩
  have HLA : Hid (∀ W, Below W1.heap.size W1 W → (Instr.loadAt 29 (.pointer (some ⟨w.heap.size, 3, none⟩))).run Tryz.prog W = .ok (.agg (u8L A).toArray) W) := fun W hW => vl_src (blk_on b01 hW) h.ad h.lA
  have HLB : Hid (∀ W, Below W1.heap.size W1 W → (Instr.loadAt 29 (.pointer (some ⟨w.heap.size, 19, none⟩))).run Tryz.prog W = .ok (.agg (u8L B).toArray) W) := fun W hW => vl_dst (blk_on b01 hW) h.ad h.lA h.lB
  have HCK : Hid (∀ W, Below w.heap.size w W → Calls Tryz.prog 63 #[V6.VV f g vh vb] W fun e w' => e = .returned (.int .i64 (V6.ckE f hs g body.length)) ∧ Below W.heap.size W w') := fun W hW => by
    have h := h.on hW
    exact V6.Check_any g h.d6
  have HFR : Hid (∀ W, Calls Tryz.prog 116 #[V6.VV f g vh vb] W fun e w' => e = .returned (.bool (g.fr && (g.more || decide (0 < g.off)))) ∧ Below W.heap.size W w') := fun W => fragment6_calls f g vh vb W
  have HP : Hid (∀ W, Below w.heap.size w W → Calls Tryz.prog 117 #[.agg (u8L A).toArray, .agg (u8L B).toArray, vb] W (Icm.ParI (Icm.ph6I A B) body W)) := fun W hW => Icm.Parse6_any A B h.lA h.lB h.fA h.fB vb body W (h.on hW).d6.bd.row
  have HST : Hid (∀ W, Below W1.heap.size W1 W → ∀ V : List Int, V.length = 32 → ∃ w', (Instr.storeAt 31 (.pointer (some ⟨W0.heap.size, 0, none⟩)) (.agg (u8L V).toArray)).run Tryz.prog W = .ok () w' ∧ w'.heap[W0.heap.size]? = some (.cells (u8L V).toArray 31) ∧ Below w.heap.size w w') := fun W hW V hV => by
    obtain ⟨w', k1, k2, k3⟩ := box_store Tryz.sizeOf31 (blk_on b1 hW) (by rfl) (u8L V) (by simp [u8L, hV]) (by intro v hv; obtain ⟨z, _, rfl⟩ := List.mem_map.1 hv; rfl)
    exact ⟨w', k1, k2, (hX1.trans (hW.mono hX1.size)).trans (k3.below (by omega))⟩
  have HX1 : Hid (Below w.heap.size w W1) := hX1
  obtain ⟨avb, cvb, rfl, _⟩ := h.d6.bd.row.val
  obtain ⟨pr, hpr⟩ : ∃ pr, f.proto = pr := ⟨_, rfl⟩
  clear b0 hB0 b1 hB1 b01 hle hX1 h
  obtain ⟨vv, hvv⟩ : ∃ vv, V6.VV f g vh (.slice avb body.length cvb) = vv := ⟨_, rfl⟩
  rw [hpr] at HC ⊢
  rw [hvv] at HL HCK HFR ⊢
  have hW0' : w.alloc (V6.BV f g vh (.slice avb body.length cvb)) = W0 := hW0
  generalize hck : V6.ckE f hs g body.length = ck at *
  generalize hfg : (g.fr && (g.more || decide (0 < g.off))) = fg at *
  have hy0 : Below W1.heap.size W1 W1 := Below.refl _ _
  generalize hmm : mS A B body = m at *
  have HM : Hid _ := hmm
  clear hmm hck hpr
  subst hvv
  unfold V6.VV V6.BV at *
  generalize hvc : (V6.vC f g vh (.slice avb body.length cvb)).toArray = vc at *
  clear hvc
  go_enter Tryz.func45, Tryz.ntmps45
  go_wp2_with (((with_reducible show wpList _ _ _ ({ dst := _, op := Op.load 36 (Operand.tmp 1), type := _, pos := _, after := _, guard := _ } :: _) _ _); refine arm_load rfl (.tmp 1) 36 rfl rfl (HL.out _ hy0) ?_))
  refine Calls.mono (HCK.out _ HX1.out) ?_
  rintro _ w2 ⟨rfl, hb2⟩
  have hy2 := hy0.trans (hb2.mono hy0.size)
  clear hb2 HCK hy0
  by_cases hk : ck = 0
  rotate_left
  · have q0 : (ck != 0) = true := by simpa using hk
    obtain ⟨wz, stz, bz, xz⟩ := HST.out w2 hy2 z32 rfl
    have HS : Hid _ := stz
    have BZ : Hid _ := bz
    have XZ : Hid _ := xz
    have HF : Hid (telS ck g pr A B body = false) := by
      have : telS ck g pr A B body = false := by simp [telS, hk]
      exact this
    clear stz bz xz hk HL HC HLA HLB HP HFR
    go_wp2_with first
      | ((with_reducible show wpList _ _ _ ({ dst := _, op := Op.store 31 (Operand.tmp 2) (Operand.tmp 14), type := _, pos := _, after := _, guard := _ } :: _) _ _); refine arm_store rfl (.tmp 2) (.tmp 14) 31 rfl rfl rfl HS.out ?_)
    exact bodyPost_ret (res3t rfl rfl (agg_loadVar Tryz.isAgg31 Tryz.sizeOf31 rfl (CellsAt.of_blk BZ.out))) rfl (.no HF.out rfl rfl XZ.out)
  subst hk
  obtain ⟨k40, k41⟩ := HC.out w2 hy2
  by_cases h58 : pr = 58
  rotate_left
  · have q58 : (pr != 58) = true := by simpa using h58
    obtain ⟨wz, stz, bz, xz⟩ := HST.out w2 hy2 z32 rfl
    have HS : Hid _ := stz
    have BZ : Hid _ := bz
    have XZ : Hid _ := xz
    have HF : Hid (telS 0 g pr A B body = false) := by
      have : telS 0 g pr A B body = false := by simp [telS, h58]
      exact this
    clear stz bz xz h58 HL HC HLA HLB HP HFR
    go_wp2_with first
      | ((with_reducible show wpList _ _ _ ({ dst := _, op := Op.store 31 (Operand.tmp 2) (Operand.tmp 23), type := _, pos := _, after := _, guard := _ } :: _) _ _); refine arm_store rfl (.tmp 2) (.tmp 23) 31 rfl rfl rfl HS.out ?_)
    exact bodyPost_ret (res3t rfl rfl (agg_loadVar Tryz.isAgg31 Tryz.sizeOf31 rfl (CellsAt.of_blk BZ.out))) rfl (.no HF.out rfl rfl XZ.out)
  have q58 : (pr != 58) = false := by simpa using h58
  go_wp2_with (((with_reducible show wpList _ _ _ ({ dst := _, op := Op.load 36 (Operand.tmp 1), type := _, pos := _, after := _, guard := _ } :: _) _ _); refine arm_load rfl (.tmp 1) 36 rfl rfl (HL.out _ hy2) ?_))
  refine Calls.mono (HFR.out _) ?_
  rintro _ w3 ⟨rfl, hb3⟩
  have hy3 := hy2.trans (hb3.mono hy2.size)
  clear hb3 hy2 k40 k41 HFR
  cases fg with
  | true =>
    obtain ⟨wz, stz, bz, xz⟩ := HST.out w3 hy3 z32 rfl
    have HS : Hid _ := stz
    have BZ : Hid _ := bz
    have XZ : Hid _ := xz
    have HF : Hid (telS 0 g pr A B body = false) := by
      have : telS 0 g pr A B body = false := by simp [telS, hfg]
      exact this
    clear stz bz xz hfg HL HC HLA HLB HP
    go_wp2_with first
      | ((with_reducible show wpList _ _ _ ({ dst := _, op := Op.store 31 (Operand.tmp 2) (Operand.tmp 23), type := _, pos := _, after := _, guard := _ } :: _) _ _); refine arm_store rfl (.tmp 2) (.tmp 23) 31 rfl rfl rfl HS.out ?_)
    exact bodyPost_ret (res3t rfl rfl (agg_loadVar Tryz.isAgg31 Tryz.sizeOf31 rfl (CellsAt.of_blk BZ.out))) rfl (.no HF.out rfl rfl XZ.out)
  | false => ?_
  obtain ⟨k40, k41⟩ := HC.out w3 hy3
  go_wp2_with first
    | ((with_reducible show wpList _ _ _ ({ dst := _, op := Op.load 29 (Operand.tmp 25), type := _, pos := _, after := _, guard := _ } :: _) _ _); refine arm_load rfl (.tmp 25) 29 rfl rfl (HLA.out _ hy3) ?_)
    | ((with_reducible show wpList _ _ _ ({ dst := _, op := Op.load 29 (Operand.tmp 27), type := _, pos := _, after := _, guard := _ } :: _) _ _); refine arm_load rfl (.tmp 27) 29 rfl rfl (HLB.out _ hy3) ?_)
  refine Calls.mono (HP.out _ (HX1.out.trans (hy3.mono HX1.out.size))) ?_
  rintro _ w4 ⟨cm, rfl, hm, hb4⟩
  have hy4 := hy3.trans (hb4.mono hy3.size)
  have hmS : mS A B body = m := HM.out
  unfold mS at hmS
  rw [hmS] at hm
  obtain ⟨w5, st5, b5, hb5⟩ := box_new Tryz.sizeOf46 w4 [.int .u8 0, .int .u8 0, .int .u32 0, .slice none 0 0] rfl cm hm.1.len hm.1.one
  have hy5 := hy4.trans (hb5.mono hy4.size)
  have HS5 : Hid _ := st5
  have hlen4 : cm.length = 4 := hm.1.len
  have HLM : Hid (∀ W, Below w5.heap.size w5 W → (Instr.loadAt 46 (.pointer (some ⟨w4.heap.size, 0, none⟩))).run Tryz.prog W = .ok (.agg cm.toArray) W) := fun W hW => agg_load Tryz.isAgg46 Tryz.sizeOf46 hlen4 (CellsAt.of_blk (blk_on b5 hW))
  have hmn := hm.1.on hb5
  obtain ⟨vm, hvm, hnew⟩ := hm.2
  have HMN : Hid _ := hmn
  have hmb : BytesAt w5.heap.size w5 vm m.body := by
    obtain ⟨vm', h1, h2⟩ := hmn.val
    rw [hvm] at h1
    simp only [List.cons.injEq, and_true, true_and] at h1
    rw [h1]
    exact h2
  have hrow : RowC w5 vm m.body := hnew.rowC hmb
  have HROW : Hid _ := hrow
  have HCM : Hid (∀ W, Below w5.heap.size w5 W → W.cell? ⟨w4.heap.size, 0, none⟩ = some (.int .u8 m.ty) ∧ W.cell? ⟨w4.heap.size, 3, none⟩ = some vm) := fun W hW => ⟨blk_cell (blk_on b5 hW) (by rw [hvm]; rfl), blk_cell (blk_on b5 hW) (by rw [hvm]; rfl)⟩
  have hz5 : Below w5.heap.size w5 w5 := Below.refl _ _
  obtain ⟨km0, km3⟩ := HCM.out w5 hz5
  obtain ⟨avm, cvm, rfl, _⟩ := hrow.val
  have hft := hmn.ft
  clear st5 b5 hb5 hb4 hm hvm hnew hmn hlen4 hmb hrow k40 k41 HP hy3 hmS
  generalize hpe : Icm.pE (Icm.ph6I A B) body = pe at *
  by_cases hp0 : pe = 0
  rotate_left
  · have q0 : (pe != 0) = true := by simpa using hp0
    obtain ⟨wz, stz, bz, xz⟩ := HST.out w5 hy5 z32 rfl
    have HS : Hid _ := stz
    have BZ : Hid _ := bz
    have XZ : Hid _ := xz
    have HF : Hid (telS 0 g pr A B body = false) := by
      have : telS 0 g pr A B body = false := by simp [telS, hpe, hp0]
      exact this
    clear stz bz xz hp0 hpe HMN HROW HCM HLM
    go_wp2_with first
      | ((with_reducible show wpList _ _ _ ({ dst := _, op := Op.store 46 (Operand.tmp 6) (Operand.tmp 32), type := _, pos := _, after := _, guard := _ } :: _) _ _); refine arm_store rfl (.tmp 6) (.tmp 32) 46 rfl rfl rfl HS5.out ?_)
      | ((with_reducible show wpList _ _ _ ({ dst := _, op := Op.store 31 (Operand.tmp 2) (Operand.tmp 41), type := _, pos := _, after := _, guard := _ } :: _) _ _); refine arm_store rfl (.tmp 2) (.tmp 41) 31 rfl rfl rfl HS.out ?_)
    exact bodyPost_ret (res3t rfl rfl (agg_loadVar Tryz.isAgg31 Tryz.sizeOf31 rfl (CellsAt.of_blk BZ.out))) rfl (.no HF.out rfl rfl XZ.out)
  subst hp0
  go_wp2_with first
    | ((with_reducible show wpList _ _ _ ({ dst := _, op := Op.store 46 (Operand.tmp 6) (Operand.tmp 32), type := _, pos := _, after := _, guard := _ } :: _) _ _); refine arm_store rfl (.tmp 6) (.tmp 32) 46 rfl rfl rfl HS5.out ?_)
    | ((with_reducible show wpList _ _ _ ({ dst := _, op := Op.load 46 (Operand.tmp 6), type := _, pos := _, after := _, guard := _ } :: _) _ _); refine arm_load rfl (.tmp 6) 46 rfl rfl (HLM.out _ hz5) ?_)
  have HIE : Hid (Calls Tryz.prog 118 #[.agg cm.toArray] w5 fun e w' => e = .returned (.bool (errS m.ty)) ∧ Below w5.heap.size w5 w') := isError6_calls _ HMN.out
  refine Calls.mono HIE.out ?_
  rintro _ w6 ⟨rfl, hb6⟩
  have hy6 := hy5.trans (hb6.mono hy5.size)
  have hz6 := hz5.trans (hb6.mono hz5.size)
  clear km0 km3 hz5 hb6 hy5
  obtain ⟨km0, km3⟩ := HCM.out w6 hz6
  clear HIE km0
  have hers : errS (mS A B body).ty = errS m.ty := by rw [HM.out]
  generalize her : errS m.ty = er at *
  cases er with
  | false =>
    obtain ⟨wz, stz, bz, xz⟩ := HST.out w6 hy6 z32 rfl
    have HS : Hid _ := stz
    have BZ : Hid _ := bz
    have XZ : Hid _ := xz
    have HF : Hid (telS 0 g pr A B body = false) := by
      have : telS 0 g pr A B body = false := by simp [telS, hers]
      exact this
    clear stz bz xz hers her HMN HROW HCM HLM
    go_wp2_with first
      | ((with_reducible show wpList _ _ _ ({ dst := _, op := Op.store 31 (Operand.tmp 2) (Operand.tmp 41), type := _, pos := _, after := _, guard := _ } :: _) _ _); refine arm_store rfl (.tmp 2) (.tmp 41) 31 rfl rfl rfl HS.out ?_)
    exact bodyPost_ret (res3t rfl rfl (agg_loadVar Tryz.isAgg31 Tryz.sizeOf31 rfl (CellsAt.of_blk BZ.out))) rfl (.no HF.out rfl rfl XZ.out)
  | true => ?_
  have HMX := HM.out
  generalize hmb : m.body = mb at *
  have hMB : (mS A B body).body = mb := by rw [HMX]; exact hmb
  have HMB : Hid _ := hMB
  have hrw := HROW.out.on hz6
  have HPT : Hid (Calls Tryz.prog 119 #[.slice avm mb.length cvm] w6 fun e w' => V6.AnsP false mb w6.heap.size e w' ∧ Below w6.heap.size w6 w') := Part_ans hrw
  have hpe0 := hpe
  have hers0 : Hid (errS (mS A B body).ty = true) := hers
  clear HROW hrw hMB HMX hmb hers HMN HCM HLM
  go_wp2_with fail
  refine Calls.mono HPT.out ?_
  rintro _ w7 ⟨⟨at', er, hbad, rfl⟩ | ⟨hs7, g7, p7, bo, vh7, vb7, hA, hok, rfl, hd7⟩, hb7⟩
  · obtain ⟨q1, q2⟩ := V6.par_bad hbad
    have hy7 := hy6.trans (hb7.mono hy6.size)
    obtain ⟨w8, st8, hb8⟩ := vz_zero w7
    generalize V6.zeroV.toArray = zc at *
    have hy8 := hy7.trans (hb8.mono hy7.size)
    have S8 : Hid _ := st8
    have hpk : parOk (mS A B body).body = false := by rw [HMB.out]; unfold parOk; rw [hbad]
    clear st8 hb8 hb7 hy7 HPT hbad
    obtain ⟨wz, stz, bz, xz⟩ := HST.out w8 hy8 z32 rfl
    have HS : Hid _ := stz
    have BZ : Hid _ := bz
    have XZ : Hid _ := xz
    have HF : Hid (telS 0 g pr A B body = false) := by
      have : telS 0 g pr A B body = false := by simp [telS, hpk]
      exact this
    clear stz bz xz hpk
    go_wp2_with first
      | ((with_reducible show wpList _ _ _ ({ dst := _, op := Op.store 36 (Operand.tmp 8) (Operand.tmp 46), type := _, pos := _, after := _, guard := _ } :: _) _ _); refine arm_store rfl (.tmp 8) (.tmp 46) 36 rfl rfl rfl S8.out ?_)
      | ((with_reducible show wpList _ _ _ ({ dst := _, op := Op.store 31 (Operand.tmp 2) (Operand.tmp 51), type := _, pos := _, after := _, guard := _ } :: _) _ _); refine arm_store rfl (.tmp 2) (.tmp 51) 31 rfl rfl rfl HS.out ?_)
    exact bodyPost_ret (res3t rfl rfl (agg_loadVar Tryz.isAgg31 Tryz.sizeOf31 rfl (CellsAt.of_blk BZ.out))) rfl (.no HF.out rfl rfl XZ.out)
  · have hy7 := hy6.trans (hb7.mono hy6.size)
    have hpk : parOk (mS A B body).body = true := by rw [HMB.out]; unfold parOk; rw [hok]
    obtain ⟨w8, st8, b8, hb8⟩ := vz_new w7 (V6.finF (V6.clsN mb) (V6.labN mb) (gz mb 7) p7 ((mb.drop 8).take 32) hA) g7 hd7.hd.one hd7.bd.one
    have hy8 := hy7.trans (hb8.mono hy7.size)
    have S8 : Hid _ := st8
    have hl1 : (((mb.drop 8).take 32).take 16).length = 16 := by rw [List.length_take, hA]; rfl
    have hl2 : (((mb.drop 8).take 32).drop 16).length = 16 := by rw [List.length_drop, hA]
    have had : (V6.finF (V6.clsN mb) (V6.labN mb) (gz mb 7) p7 ((mb.drop 8).take 32) hA).ad = u8L (((mb.drop 8).take 32).take 16) ++ u8L (((mb.drop 8).take 32).drop 16) := by
      show u8L ((mb.drop 8).take 32) = _
      unfold u8L
      rw [← List.map_append, List.take_append_drop]
    have LA8 : Hid _ := vl_src b8 had hl1
    have LB8 : Hid _ := vl_dst b8 had hl1 hl2
    have HBU : Hid (∀ W, (Instr.build 31 #[(0, .agg (u8L (((mb.drop 8).take 32).take 16)).toArray), (1, .agg (u8L (((mb.drop 8).take 32).drop 16)).toArray)]).run Tryz.prog W = .ok (.agg (u8L ((mb.drop 8).take 32)).toArray) W) := fun W => by
      have := build_ends _ _ hl1 hl2 W
      rw [List.take_append_drop] at this
      exact this
    have HTB : Hid (telS 0 g pr A B body = true) := by
      have : telS 0 g pr A B body = true := by simp [telS, h58, hpe0, hers0.out, hpk, hfg]
      exact this
    obtain ⟨wz, stz, bz, xz⟩ := HST.out w8 hy8 ((mb.drop 8).take 32) hA
    have HS : Hid _ := stz
    have BZ : Hid _ := bz
    have XZ : Hid _ := xz
    clear st8 b8 hb8 hb7 hy7 hy8 HPT stz bz xz had hok hpk
    obtain ⟨xh, nh, mh, ehh⟩ := hd7.hd.slc
    obtain ⟨xb, nb, mb', ebb⟩ := hd7.bd.slc
    clear hd7
    generalize V6.finF (V6.clsN mb) (V6.labN mb) (gz mb 7) p7 ((mb.drop 8).take 32) hA = FF at *
    unfold V6.VV at *
    generalize (V6.vC FF g7 vh7 vb7).toArray = vc7 at *
    clear ehh ebb
    go_wp2_with first
      | ((with_reducible show wpList _ _ _ ({ dst := _, op := Op.store 36 (Operand.tmp 8) (Operand.tmp 46), type := _, pos := _, after := _, guard := _ } :: _) _ _); refine arm_store rfl (.tmp 8) (.tmp 46) 36 rfl rfl rfl S8.out ?_)
      | ((with_reducible show wpList _ _ _ ({ dst := _, op := Op.load 29 (Operand.tmp 52), type := _, pos := _, after := _, guard := _ } :: _) _ _); refine arm_load rfl (.tmp 52) 29 rfl rfl LA8.out ?_)
      | ((with_reducible show wpList _ _ _ ({ dst := _, op := Op.load 29 (Operand.tmp 54), type := _, pos := _, after := _, guard := _ } :: _) _ _); refine arm_load rfl (.tmp 54) 29 rfl rfl LB8.out ?_)
      | ((with_reducible show wpList _ _ _ ({ dst := _, op := Op.build 31 _, type := _, pos := _, after := _, guard := _ } :: _) _ _); refine arm_build rfl 31 [(0, .tmp 53), (1, .tmp 55)] rfl rfl (HBU.out _) ?_)
      | ((with_reducible show wpList _ _ _ ({ dst := _, op := Op.store 31 (Operand.tmp 2) (Operand.tmp 56), type := _, pos := _, after := _, guard := _ } :: _) _ _); refine arm_store rfl (.tmp 2) (.tmp 56) 31 rfl rfl rfl HS.out ?_)
    refine bodyPost_ret (res3t rfl rfl (agg_loadVar Tryz.isAgg31 Tryz.sizeOf31 (by rw [u8L_len, hA]) (CellsAt.of_blk BZ.out))) rfl ?_
    exact .yes HTB.out (by rw [HMB.out]; rfl) XZ.out
end Go.Proofs.YtpgnnplpcalbbaaGreat
