/-
  ParseUDP6 of package segment.
  What a parsed datagram tells, one word for the code's two and the document's.
  readTCP of package segment.
-/
import Derived.Test.YtpgnnplpcalbbaaGreatFold30
import Derived.Test.YtpgnnplpcalbbaaGreatFold21
set_option linter.unusedVariables false
set_option linter.unusedSimpArgs false
namespace Go.Proofs.YtpgnnplpcalbbaaGreat
open Go Go.RowKit Go.Shelf
end Go.Proofs.YtpgnnplpcalbbaaGreat
namespace Go.Proofs.YtpgnnplpcalbbaaGreat
open Go Go.RowKit Go.Shelf
def uE (N : Nat) (ph : Int → Int → List Int) (zs : List Int) : Int := if zs.length < 8 then 60 else if wd2 zs 4 ≠ zs.length then 61 else if (wd2 zs 6 = 0 ∧ N = 16) ∨ (wd2 zs 6 ≠ 0 ∧ sumW 0 (wordsL (ph 17 zs.length ++ zs)) ≠ 65535) then 62 else 0
def uS (N : Nat) (ph : Int → Int → List Int) (zs : List Int) : Int := if uE N ph zs = 0 then wd2 zs 0 else 0
def uD (N : Nat) (ph : Int → Int → List Int) (zs : List Int) : Int := if uE N ph zs = 0 then wd2 zs 2 else 0
def uX (N : Nat) (ph : Int → Int → List Int) (zs : List Int) : List Int := if uE N ph zs = 0 then zs.drop 8 else []
def uB (N : Nat) (ph : Int → Int → List Int) (zs : List Int) : Bool := if uE N ph zs = 0 then wd2 zs 6 == 0 else false
def ParU (N : Nat) (ph : Int → Int → List Int) (zs : List Int) (w : World) (e : Ending) (w' : World) : Prop :=
  ∃ c, e = .returned (.tuple #[.agg c.toArray, .bool (uB N ph zs), .int .i64 (uE N ph zs)]) ∧ UdpC w' c (uS N ph zs) (uD N ph zs) (uX N ph zs) ∧ Below w.heap.size w w'
def ParV (N : Nat) (ph : Int → Int → List Int) (zs : List Int) (w : World) (e : Ending) (w' : World) : Prop :=
  ∃ c, e = .returned (.tuple #[.agg c.toArray, .int .i64 (uE N ph zs)]) ∧ UdpC w' c (uS N ph zs) (uD N ph zs) (uX N ph zs) ∧ Below w.heap.size w w'
theorem udpC_zero (w : World) : UdpC w [.int .u16 0, .int .u16 0, .slice none 0 0] 0 0 [] := ⟨⟨_, rfl, BytesAt.none w⟩, by decide, by decide⟩
theorem uE_short {N : Nat} {ph : Int → Int → List Int} {zs : List Int} (h : zs.length < 8) : uE N ph zs = 60 := if_pos h
theorem uE_length {N : Nat} {ph : Int → Int → List Int} {zs : List Int} (h : 8 ≤ zs.length) (h4 : wd2 zs 4 ≠ zs.length) : uE N ph zs = 61 := by
  unfold uE
  rw [if_neg (by omega), if_pos h4]
theorem uE_more {N : Nat} {ph : Int → Int → List Int} {zs : List Int} (h : 8 ≤ zs.length) (h4 : wd2 zs 4 = zs.length) : uE N ph zs = if (wd2 zs 6 = 0 ∧ N = 16) ∨ (wd2 zs 6 ≠ 0 ∧ sumW 0 (wordsL (ph 17 zs.length ++ zs)) ≠ 65535) then 62 else 0 := by
  unfold uE
  rw [if_neg (by omega), if_neg (by simp [h4])]
theorem ParU.bad {N : Nat} {ph : Int → Int → List Int} {zs : List Int} {w w' : World} {e : Ending} {er : Int} (hu : uE N ph zs = er) (hne : er ≠ 0) (h : e = .returned (.tuple #[.agg #[.int .u16 0, .int .u16 0, .slice none 0 0], .bool false, .int .i64 er])) (hb : Below w.heap.size w w') : ParU N ph zs w e w' := by
  have h0 : ¬ uE N ph zs = 0 := by rw [hu]; exact hne
  refine ⟨[.int .u16 0, .int .u16 0, .slice none 0 0], ?_, ?_, hb⟩
  · rw [h]
    unfold uB
    rw [if_neg h0, hu]
  · unfold uS uD uX
    rw [if_neg h0, if_neg h0, if_neg h0]
    exact udpC_zero w'
theorem ParV.bad {N : Nat} {ph : Int → Int → List Int} {zs : List Int} {w w' : World} {e : Ending} {er : Int} (hu : uE N ph zs = er) (hne : er ≠ 0) (h : e = .returned (.tuple #[.agg #[.int .u16 0, .int .u16 0, .slice none 0 0], .int .i64 er])) (hb : Below w.heap.size w w') : ParV N ph zs w e w' := by
  have h0 : ¬ uE N ph zs = 0 := by rw [hu]; exact hne
  refine ⟨[.int .u16 0, .int .u16 0, .slice none 0 0], ?_, ?_, hb⟩
  · rw [h, hu]
  · unfold uS uD uX
    rw [if_neg h0, if_neg h0, if_neg h0]
    exact udpC_zero w'
theorem ParU.good {N : Nat} {ph : Int → Int → List Int} {zs : List Int} {w w' : World} {e : Ending} {vd : Value} (hf : Fit zs) (hu : uE N ph zs = 0) (h : e = .returned (.tuple #[.agg #[.int .u16 (wd2 zs 0), .int .u16 (wd2 zs 2), vd], .bool (wd2 zs 6 == 0), .int .i64 0])) (hv : BytesAt w'.heap.size w' vd (zs.drop 8)) (hb : Below w.heap.size w w') : ParU N ph zs w e w' := by
  refine ⟨[.int .u16 (wd2 zs 0), .int .u16 (wd2 zs 2), vd], ?_, ?_, hb⟩
  · rw [h]
    unfold uB
    rw [if_pos hu, hu]
  · unfold uS uD uX
    rw [if_pos hu, if_pos hu, if_pos hu]
    exact ⟨⟨vd, rfl, hv⟩, wd2_range hf 0, wd2_range hf 2⟩
theorem ParV.good {N : Nat} {ph : Int → Int → List Int} {zs : List Int} {w w' : World} {e : Ending} {vd : Value} (hf : Fit zs) (hu : uE N ph zs = 0) (h : e = .returned (.tuple #[.agg #[.int .u16 (wd2 zs 0), .int .u16 (wd2 zs 2), vd], .int .i64 0])) (hv : BytesAt w'.heap.size w' vd (zs.drop 8)) (hb : Below w.heap.size w w') : ParV N ph zs w e w' := by
  refine ⟨[.int .u16 (wd2 zs 0), .int .u16 (wd2 zs 2), vd], ?_, ?_, hb⟩
  · rw [h, hu]
  · unfold uS uD uX
    rw [if_pos hu, if_pos hu, if_pos hu]
    exact ⟨⟨vd, rfl, hv⟩, wd2_range hf 0, wd2_range hf 2⟩
theorem ParseUDP4_any (A B : List Int) (hA : A.length = 4) (hB : B.length = 4) (fa : Fit A) (fb : Fit B) (v : Value) (zs : List Int) (w : World) (h : RowC w v zs) :
    Calls Tryz.prog 198 #[.agg (u8L A).toArray, .agg (u8L B).toArray, v] w fun e w' => ParU 4 (ph4 A B) zs w e w' := by
  by_cases hn : zs.length < 8
  · exact (ParseUDP4_bad A B hA hB v zs w h 60 (by decide) (fun W hW => readUDP_short v zs W (h.on hW) hn)).mono (fun e w' k => .bad (uE_short hn) (by decide) k.1 k.2)
  · have hn : 8 ≤ zs.length := by omega
    by_cases hL : wd2 zs 4 = zs.length
    · refine (ParseUDP4_good A B hA hB fa fb v zs w h hn hL _ rfl).mono ?_
      rintro e w' ⟨hb, hbad, hgood⟩
      have hu : uE 4 (ph4 A B) zs = if wd2 zs 6 ≠ 0 ∧ sumW 0 (wordsL (ph4 A B 17 zs.length ++ zs)) ≠ 65535 then 62 else 0 := by
        rw [uE_more hn hL]
        simp
      by_cases h0 : (if wd2 zs 6 ≠ 0 ∧ sumW 0 (wordsL (ph4 A B 17 zs.length ++ zs)) ≠ 65535 then (62 : Int) else 0) = 0
      · obtain ⟨vd, he, hv⟩ := hgood h0
        exact .good h.fit (hu.trans h0) he hv hb
      · exact .bad hu h0 (hbad h0) hb
    · exact (ParseUDP4_bad A B hA hB v zs w h 61 (by decide) (fun W hW => (readUDP_more v zs W (h.on hW) hn).mono (fun e w' k => ⟨k.2.1 hL, k.1⟩))).mono (fun e w' k => .bad (uE_length hn hL) (by decide) k.1 k.2)
theorem RParseUDP_any (sv dv : Value) (N : Nat) (ph : Int → Int → List Int) (hN : N ≤ 1000) (v : Value) (zs : List Int) (w : World) (he : EndV w sv dv N ph) (h : RowC w v zs) :
    Calls Tryz.prog 104 #[sv, dv, v] w fun e w' => ParU N ph zs w e w' := by
  by_cases hn : zs.length < 8
  · exact (RParseUDP_short sv dv N ph v zs w he h hn).mono (fun e w' k => .bad (uE_short hn) (by decide) k.1 k.2)
  · have hn : 8 ≤ zs.length := by omega
    by_cases hL : wd2 zs 4 = zs.length
    · refine (RParseUDP_good sv dv N ph hN v zs w he h hn hL _ rfl).mono ?_
      rintro e w' ⟨hb, hbad, hgood⟩
      have hu := uE_more (N := N) (ph := ph) hn hL
      by_cases h0 : (if (wd2 zs 6 = 0 ∧ N = 16) ∨ (wd2 zs 6 ≠ 0 ∧ sumW 0 (wordsL (ph 17 zs.length ++ zs)) ≠ 65535) then (62 : Int) else 0) = 0
      · obtain ⟨vd, he, hv⟩ := hgood h0
        exact .good h.fit (hu.trans h0) he hv hb
      · exact .bad hu h0 (hbad h0) hb
    · exact (RParseUDP_length sv dv N ph v zs w he h hn hL).mono (fun e w' k => .bad (uE_length hn hL) (by decide) k.1 k.2)
/-- A new box is given its cells. -/
theorem box_new {ty : TypeId} {n : Nat} (hs : ∀ w, (Go.sizeOf ty).run Tryz.prog w = .ok n w) (w : World) (c : List Value) (hl : c.length = n) (V : List Value) (hV : V.length = n) (h1 : ∀ v ∈ V, v.oneCell' = true) :
    ∃ w', (Instr.storeAt ty (.pointer (some ⟨w.heap.size, 0, none⟩)) (.agg V.toArray)).run Tryz.prog (w.alloc (.cells c.toArray ty)) = .ok () w' ∧ w'.heap[w.heap.size]? = some (.cells V.toArray ty) ∧ Below w.heap.size w w' := by
  obtain ⟨w', h, hb, ho⟩ := box_store hs (blk_new w (.cells c.toArray ty)) hl V hV h1
  exact ⟨w', h, hb, ((Below.refl _ w).alloc (Nat.le_refl _) _).trans (ho.below (Nat.le_refl _))⟩
end Go.Proofs.YtpgnnplpcalbbaaGreat
namespace Go.Proofs.YtpgnnplpcalbbaaGreat
open Go Go.RowKit Go.Shelf
def lg (zs : List Int) (k : Nat) : Int := wd2 zs k * 65536 + wd2 zs (k + 2)
def hdL (zs : List Int) : Int := gz zs 12 / 16 * 4
def flg (zs : List Int) : Int := gz zs 13 % 64
theorem lg_drop (zs : List Int) (n k : Nat) : lg (zs.drop n) k = lg zs (n + k) := by simp only [lg, wd2_drop, Nat.add_assoc]
theorem lg_range {zs : List Int} (h : Fit zs) (k : Nat) : 0 ≤ lg zs k ∧ lg zs k ≤ 4294967295 := by
  have h1 := wd2_range h k
  have h2 := wd2_range h (k + 2)
  unfold lg
  omega
theorem hdL_eq {zs : List Int} (h : Fit zs) : wd2 zs 12 / 4096 * 4 = hdL zs := by
  have h1 := h.gz 12
  have h2 := h.gz 13
  unfold hdL wd2
  simp only [Nat.reduceAdd]
  omega
theorem hdL_range {zs : List Int} (h : Fit zs) : 0 ≤ hdL zs ∧ hdL zs ≤ 60 := by
  have h1 := h.gz 12
  unfold hdL
  omega
theorem flg_eq {zs : List Int} (h : Fit zs) : wd2 zs 12 % 64 = flg zs := by
  have h1 := h.gz 12
  have h2 := h.gz 13
  unfold flg wd2
  simp only [Nat.reduceAdd]
  omega
theorem flg_range {zs : List Int} (h : Fit zs) : 0 ≤ flg zs ∧ flg zs ≤ 63 := by unfold flg; omega
theorem and63 (x : Int) (h : 0 ≤ x ∧ x ≤ 65535) : bits .and .u16 x 63 = x % 64 := by
  obtain ⟨n, rfl⟩ := Int.eq_ofNat_of_zero_le h.1
  have e := u16_and_nat n 63 (by omega) (by omega)
  rw [show ((63 : Nat) : Int) = 63 from rfl] at e
  rw [e, show (63 : Nat) = 2 ^ 6 - 1 from rfl, Nat.and_two_pow_sub_one_eq_mod]
  omega
end Go.Proofs.YtpgnnplpcalbbaaGreat
