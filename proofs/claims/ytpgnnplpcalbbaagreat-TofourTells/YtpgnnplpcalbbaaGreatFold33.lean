/-
  Where a segment's maximum segment size stands: the options' bytes. size and mssPlace of package segment. MSS of package segment; place and MSS of the document. MSS of the document; Clamp of package segment.
  What is written is read: the fields of what WriteUDP and WriteTCP tell.
  checkAt, wordAt, putCheck and Ports of package segment. updated of package segment. Rewrite of package segment. Rewrite of package segment: bytes that have ports. What is rewritten holds its checksum: the bytes. What is rewritten is read as asked: the bytes. sixteen; two addresses behind each other. SegmentNAT: the walk. SegmentNAT: what is written is rewritten, and read.
-/
import Derived.Test.YtpgnnplpcalbbaaGreatFold32
import Derived.Test.YtpgnnplpcalbbaaGreatFold30
import Derived.Test.YtpgnnplpcalbbaaGreatFold31
import Derived.Test.YtpgnnplpcalbbaaGreatFold27
import Derived.Test.YtpgnnplpcalbbaaGreatFold29
set_option linter.unusedVariables false
set_option linter.unusedSimpArgs false
namespace Go.Proofs.YtpgnnplpcalbbaaGreat
open Go Go.RowKit Go.Shelf
def szO (zs : List Int) (i : Nat) : Nat := if i + 1 < zs.length ∧ 2 ≤ gz zs (i + 1) ∧ i + (gz zs (i + 1)).toNat ≤ zs.length then (gz zs (i + 1)).toNat else 0
def plc (zs : List Int) : Nat → Nat → Option Nat
  | 0, _ => none
  | f + 1, i => if zs.length ≤ i ∨ gz zs i = 0 then none else if gz zs i = 1 then plc zs f (i + 1) else if szO zs i = 0 then none else if gz zs i = 2 ∧ szO zs i = 4 then some (i + 2) else plc zs f (i + szO zs i)
theorem plc_any (zs : List Int) : ∀ f g i, zs.length < f + i → zs.length < g + i → plc zs f i = plc zs g i
  | 0, 0, i, h, k => rfl
  | 0, g + 1, i, h, k => by
    unfold plc
    rw [if_pos (.inl (by omega))]
  | f + 1, 0, i, h, k => by
    unfold plc
    rw [if_pos (.inl (by omega))]
  | f + 1, g + 1, i, h, k => by
    unfold plc
    by_cases h1 : zs.length ≤ i ∨ gz zs i = 0
    · rw [if_pos h1, if_pos h1]
    · rw [if_neg h1, if_neg h1]
      by_cases h2 : gz zs i = 1
      · rw [if_pos h2, if_pos h2]
        exact plc_any zs f g (i + 1) (by omega) (by omega)
      · rw [if_neg h2, if_neg h2]
        by_cases h3 : szO zs i = 0
        · rw [if_pos h3, if_pos h3]
        · rw [if_neg h3, if_neg h3]
          by_cases h4 : gz zs i = 2 ∧ szO zs i = 4
          · rw [if_pos h4, if_pos h4]
          · rw [if_neg h4, if_neg h4]
            exact plc_any zs f g (i + szO zs i) (by omega) (by omega)
def pl (zs : List Int) (i : Nat) : Option Nat := plc zs (zs.length + 1 - i) i
section
variable {zs : List Int} {i : Nat}
theorem pl_unf (hi : i ≤ zs.length) : pl zs i = if zs.length ≤ i ∨ gz zs i = 0 then none else if gz zs i = 1 then pl zs (i + 1) else if szO zs i = 0 then none else if gz zs i = 2 ∧ szO zs i = 4 then some (i + 2) else pl zs (i + szO zs i) := by
  unfold pl
  rw [show zs.length + 1 - i = (zs.length - i) + 1 by omega]
  show plc zs ((zs.length - i) + 1) i = _
  rw [plc]
  by_cases h1 : zs.length ≤ i ∨ gz zs i = 0
  · rw [if_pos h1, if_pos h1]
  · rw [if_neg h1, if_neg h1]
    have hlt : i < zs.length := by omega
    by_cases h2 : gz zs i = 1
    · rw [if_pos h2, if_pos h2]
      exact plc_any zs _ _ (i + 1) (by omega) (by omega)
    · rw [if_neg h2, if_neg h2]
      by_cases h3 : szO zs i = 0
      · rw [if_pos h3, if_pos h3]
      · rw [if_neg h3, if_neg h3]
        by_cases h4 : gz zs i = 2 ∧ szO zs i = 4
        · rw [if_pos h4, if_pos h4]
        · rw [if_neg h4, if_neg h4]
          have hs : i + szO zs i ≤ zs.length := by
            unfold szO at h3 ⊢
            split
            · omega
            · omega
          exact plc_any zs _ _ (i + szO zs i) (by omega) (by omega)
theorem pl_end (h : i = zs.length) : pl zs i = none := by rw [pl_unf (by omega), if_pos (.inl (by omega))]
theorem pl_zero (hi : i < zs.length) (h : gz zs i = 0) : pl zs i = none := by rw [pl_unf (by omega), if_pos (.inr h)]
theorem pl_one (hi : i < zs.length) (h : gz zs i = 1) : pl zs i = pl zs (i + 1) := by rw [pl_unf (by omega), if_neg (by omega), if_pos h]
theorem pl_bad (hi : i < zs.length) (h0 : gz zs i ≠ 0) (h1 : gz zs i ≠ 1) (h : szO zs i = 0) : pl zs i = none := by rw [pl_unf (by omega), if_neg (by omega), if_neg h1, if_pos h]
theorem pl_mss (hi : i < zs.length) (h2 : gz zs i = 2) (h : szO zs i = 4) : pl zs i = some (i + 2) := by rw [pl_unf (by omega), if_neg (by omega), if_neg (by omega), if_neg (by omega), if_pos ⟨h2, h⟩]
theorem pl_go (hi : i < zs.length) (h0 : gz zs i ≠ 0) (h1 : gz zs i ≠ 1) (h : szO zs i ≠ 0) (h4 : ¬ (gz zs i = 2 ∧ szO zs i = 4)) : pl zs i = pl zs (i + szO zs i) := by rw [pl_unf (by omega), if_neg (by omega), if_neg h1, if_neg h, if_neg h4]
theorem szO_le : szO zs i ≠ 0 → 2 ≤ szO zs i ∧ i + szO zs i ≤ zs.length := by
  unfold szO
  split
  · omega
  · omega
theorem szO_eq (h : szO zs i ≠ 0) : i + 1 < zs.length ∧ gz zs (i + 1) = (szO zs i : Int) := by
  unfold szO at h ⊢
  split at h
  · next hc => rw [if_pos hc]; exact ⟨hc.1, by omega⟩
  · exact absurd rfl h
end
theorem pl_bound {zs : List Int} : ∀ (i k : Nat), i ≤ zs.length → pl zs i = some k → k + 2 ≤ zs.length := by
  have key : ∀ f i k, plc zs f i = some k → k + 2 ≤ zs.length := by
    intro f
    induction f with
    | zero => intro i k h; simp [plc] at h
    | succ f ih =>
      intro i k h
      unfold plc at h
      by_cases h1 : zs.length ≤ i ∨ gz zs i = 0
      · rw [if_pos h1] at h
        cases h
      · rw [if_neg h1] at h
        by_cases h2 : gz zs i = 1
        · rw [if_pos h2] at h
          exact ih _ _ h
        · rw [if_neg h2] at h
          by_cases h3 : szO zs i = 0
          · rw [if_pos h3] at h
            cases h
          · rw [if_neg h3] at h
            by_cases h4 : gz zs i = 2 ∧ szO zs i = 4
            · rw [if_pos h4] at h
              cases h
              have := szO_le h3
              omega
            · rw [if_neg h4] at h
              exact ih _ _ h
  intro i k _ h
  exact key _ _ _ h
/-- Where a segment's size stands. -/
def mssO (t : Seg) : Option Nat := if t.fl / 2 % 2 = 0 then none else pl t.opts 0
theorem and_two : ∀ x, x < 256 → x &&& 2 = x / 2 % 2 * 2 := by decide +kernel
theorem and_syn (x : Int) (h : 0 ≤ x ∧ x ≤ 255) : bits .and .u8 x 2 = x / 2 % 2 * 2 := by
  obtain ⟨n, rfl⟩ := Int.eq_ofNat_of_zero_le h.1
  rw [show (2 : Int) = ((2 : Nat) : Int) from rfl, u8_and_nat n 2 (by omega) (by omega), and_two n (by omega)]
  omega
end Go.Proofs.YtpgnnplpcalbbaaGreat
namespace Go.Proofs.YtpgnnplpcalbbaaGreat
open Go Go.RowKit Go.Shelf
theorem szO_drop (zs : List Int) (i : Nat) (hi : i < zs.length) : (if 1 < (zs.drop i).length ∧ 2 ≤ gz (zs.drop i) 1 ∧ gz (zs.drop i) 1 ≤ (zs.drop i).length then gz (zs.drop i) 1 else 0) = (szO zs i : Int) := by
  unfold szO
  rw [gz_drop, List.length_drop]
  by_cases h : i + 1 < zs.length ∧ 2 ≤ gz zs (i + 1) ∧ i + (gz zs (i + 1)).toNat ≤ zs.length
  · rw [if_pos h, if_pos (by omega)]
    omega
  · rw [if_neg h, if_neg (by omega)]
    rfl
/-- How many bytes are left in a box. -/
def lenAt (R : Nat) (w : World) : Nat := match w.cell? ⟨R, 0, none⟩ with
  | some (.slice _ n _) => n
  | _ => 0
theorem RdW.lenAt {w W : World} {R b off cap : Nat} {ty : TypeId} {ys : List Int} {cs : List Value} (h : RdW w W R ty ys b off cap cs) : lenAt R W = ys.length := by
  unfold Go.Proofs.YtpgnnplpcalbbaaGreat.lenAt
  rw [h.c0]
/-- What mssPlace tells. -/
def PlaceIs (vo : Value) (zs : List Int) (o : Option Nat) (e : Ending) : Prop :=
  match o with
  | none => e = .returned (.slice none 0 0)
  | some i => ∃ b off cap, vo = .slice (some ⟨b, off, none⟩) zs.length cap ∧ zs.length ≤ cap ∧ i + 2 ≤ zs.length ∧ 2 ≤ i ∧ e = .returned (.slice (some ⟨b, off + i, none⟩) 2 (cap - i))
end Go.Proofs.YtpgnnplpcalbbaaGreat
namespace Go.Proofs.YtpgnnplpcalbbaaGreat
open Go Go.RowKit Go.Shelf
def mssN (t : Seg) : Int := match mssO t with
  | none => 0
  | some i => wd2 t.opts i
def mssB (t : Seg) : Bool := (mssO t).isSome
/-- A segment's cells, its options a row. -/
structure TcpA (w : World) (c : List Value) (t : Seg) : Prop where
  val : ∃ vo vd, c = [.int .u16 t.src, .int .u16 t.dst, .int .u32 t.seq, .int .u32 t.ack, .int .u8 t.fl, .int .u16 t.win, .int .u16 t.urg, vo, vd] ∧ RowC w vo t.opts ∧ BytesAt w.heap.size w vd t.data
  all : TcpC w c t
theorem TcpA.on {w W : World} {c : List Value} {t : Seg} (h : TcpA w c t) (hb : Below w.heap.size w W) : TcpA W c t := by
  obtain ⟨⟨vo, vd, h1, h2, h3⟩, h4⟩ := h
  exact ⟨⟨vo, vd, h1, h2.on hb, h3.later hb⟩, h4.on hb⟩
/-- place of the document. -/
def plI (o : Option Nat) : Int := match o with
  | none => -1
  | some i => (i : Int)
end Go.Proofs.YtpgnnplpcalbbaaGreat
namespace Go.Proofs.YtpgnnplpcalbbaaGreat
open Go Go.RowKit Go.Shelf
/-- A copy in memory of its own, or nothing. -/
def CpV (B : Nat) (W : World) (u : Value) (zs : List Int) : Prop := (zs = [] ∧ ∃ a k, u = .slice a 0 k) ∨ ∃ g k, u = .slice (some ⟨g, 0, none⟩) zs.length k ∧ zs.length ≤ k ∧ B ≤ g ∧ OwnG W g zs
theorem CpV.slc {B : Nat} {W : World} {u : Value} {zs : List Int} (h : CpV B W u zs) : ∃ a k, u = .slice a zs.length k := by
  rcases h with ⟨rfl, a, k, e⟩ | ⟨g, k, e, _⟩
  · exact ⟨a, k, e⟩
  · exact ⟨_, k, e⟩
theorem CpV.on {B : Nat} {W W' : World} {u : Value} {zs : List Int} (h : CpV B W u zs) (hb : Below W.heap.size W W') : CpV B W' u zs := h.imp (fun h => h) (fun ⟨g, k, e, h1, h2, h3⟩ => ⟨g, k, e, h1, h2, h3.kept h3.lt hb⟩)
theorem CpV.off {B g : Nat} {W W' : World} {u : Value} {zs : List Int} (h : CpV B W u zs) (hg : g < B) (ho : Only g W W') : CpV B W' u zs := h.imp (fun h => h) (fun ⟨g', k, e, h1, h2, h3⟩ => ⟨g', k, e, h1, h2, h3.off ho (by omega)⟩)
theorem CpV.old {B B' : Nat} {W : World} {u : Value} {zs : List Int} (h : CpV B W u zs) (hB : B' ≤ B) : CpV B' W u zs := h.imp (fun h => h) (fun ⟨g', k, e, h1, h2, h3⟩ => ⟨g', k, e, h1, Nat.le_trans hB h2, h3⟩)
theorem CpV.row {B : Nat} {W : World} {u : Value} {zs : List Int} (h : CpV B W u zs) (hf : Fit zs) (hl : zs.length ≤ 140737488351232) : RowC W u zs := by
  rcases h with ⟨rfl, a, k, rfl⟩ | ⟨g, k, rfl, h1, h2, h3⟩
  · exact ⟨hf, hl, a, k, rfl, Nat.zero_le _, .inl rfl⟩
  · exact .of_bytes (h3.all hf hl zs.length k rfl) h1
set_option maxHeartbeats 1000000 in
set_option maxRecDepth 100000 in
theorem Clone_cp (v : Value) (zs : List Int) (w : World) (h : BytesAt w.heap.size w v zs) :
    Calls Tryz.prog 129 #[v] w fun e w' => ∃ u, e = .returned u ∧ (CpV w.heap.size w' u zs ∧ Below w.heap.size w w') := by
  obtain ⟨hf, hl, a, cap, rfl, hv⟩ := id h
  cases a with
  | none =>
    have h0 : zs = [] := by
      rcases hv with hv | ⟨b, off, e, _⟩
      · exact List.length_eq_zero_iff.1 hv
      · cases e
    subst h0
    have hB := Below.refl w.heap.size w
    have hN : CpV w.heap.size w (.slice none 0 0) [] := .inl ⟨rfl, _, _, rfl⟩
    have HN : Hid (CpV w.heap.size w (.slice none 0 0) []) := hN
    have hq := Go.Lib.run_eql_slice_nil (P := Tryz.prog) w 25 5 none 0 cap 0 0 Tryz.underlying25
    clear h hf hl hv hN
    go_enter Tryz.func129, Tryz.ntmps129
    go_wp2
    go_ret
    exact ⟨_, rfl, HN.out, hB⟩
  | some x =>
    have hB0 := (Below.refl w.heap.size w).alloc (Nat.le_refl _) (.cells #[] 5)
    obtain ⟨b, cap2, w2, hrun, hc, hb2, hown⟩ := bytes_copied3 (h.later hB0) w.heap.size 25
    have hbl := hB0.trans (hb2.mono hB0.size)
    have hcp : CpV w.heap.size w2 (.slice (some ⟨b, 0, none⟩) zs.length cap2) zs := by
      rcases hown with ⟨rfl, _⟩ | ⟨h1, h2⟩
      · exact .inl ⟨rfl, _, _, rfl⟩
      · exact .inr ⟨b, cap2, rfl, hc, Nat.le_trans hB0.size h1, h2⟩
    have HCP : Hid (CpV w.heap.size w2 (.slice (some ⟨b, 0, none⟩) zs.length cap2) zs) := hcp
    have H0 : Hid _ := hrun
    have hq := Go.Lib.run_eql_slice_nil (P := Tryz.prog) w 25 5 (some x) zs.length cap 0 0 Tryz.underlying25
    clear h hf hl hv hrun hb2 hB0 hown hcp
    go_enter Tryz.func129, Tryz.ntmps129
    go_wp2_with (at_builtin; refine wpList_append_run rfl _ _ _ _ rfl rfl rfl H0.out ?_; clear H0)
    go_ret
    exact ⟨_, rfl, HCP.out, hbl⟩
/-- Where Clamp writes. -/
def clO (t : Seg) (most : Int) : Option Nat := match mssO t with
  | none => none
  | some i => if wd2 t.opts i ≤ most then none else some i
def clT (t : Seg) (most : Int) : Seg := match clO t most with
  | none => t
  | some i => ⟨t.src, t.dst, t.seq, t.ack, t.fl, t.win, t.urg, laid t.opts i (w2 (max most 0)), t.data⟩
def clB (t : Seg) (most : Int) : Bool := (clO t most).isSome
end Go.Proofs.YtpgnnplpcalbbaaGreat
namespace Go.Proofs.YtpgnnplpcalbbaaGreat
open Go Go.RowKit Go.Shelf
theorem wd2_wb : ∀ (ws xs : List Int) (k : Nat), k < ws.length → wd2 (wbL ws ++ xs) (2 * k) = ws[k]?.getD 0
  | [], xs, k, h => by simp at h
  | y :: ys, xs, 0, h => by
    show gz (y / 256 :: y % 256 :: (wbL ys ++ xs)) 0 * 256 + gz (y / 256 :: y % 256 :: (wbL ys ++ xs)) 1 = _
    simp [gz]
    omega
  | y :: ys, xs, k + 1, h => by
    have h1 := wd2_wb ys xs k (by simpa using h)
    have e : wd2 (wbL (y :: ys) ++ xs) (2 * (k + 1)) = wd2 (wbL ys ++ xs) (2 * k) := by
      have := wd2_drop (wbL (y :: ys) ++ xs) 2 (2 * k)
      rw [show 2 * (k + 1) = 2 + 2 * k by omega, ← this]
      rfl
    rw [e, h1]
    simp
theorem udpL_fields {ph : Int → Int → List Int} {s d : Int} {x : List Int} : wd2 (udpL ph s d x) 0 = s ∧ wd2 (udpL ph s d x) 2 = d ∧ wd2 (udpL ph s d x) 4 = 8 + (x.length : Int) ∧ (udpL ph s d x).drop 8 = x ∧ wd2 (udpL ph s d x) 6 ≠ 0 := by
  unfold udpL
  generalize hk : ckS ph 17 (wbL [s, d, 8 + (x.length : Int), 0] ++ x) = k
  refine ⟨wd2_wb _ _ 0 (by simp), wd2_wb _ _ 1 (by simp), wd2_wb _ _ 2 (by simp), rfl, ?_⟩
  rw [show (6 : Nat) = 2 * 3 from rfl, wd2_wb _ _ 3 (by simp)]
  show nz k ≠ 0
  unfold nz
  split
  · decide
  · assumption
theorem udp_back {ph : Int → Int → List Int} (N : Nat) (h : PhOK ph) {s d : Int} {x : List Int} (hs : 0 ≤ s ∧ s ≤ 65535) (hd : 0 ≤ d ∧ d ≤ 65535) (hf : Fit x) (hn : 8 + x.length ≤ 65535) :
    uE N ph (udpL ph s d x) = 0 ∧ uS N ph (udpL ph s d x) = s ∧ uD N ph (udpL ph s d x) = d ∧ uX N ph (udpL ph s d x) = x ∧ uB N ph (udpL ph s d x) = false := by
  obtain ⟨h0, h2, h4, h8, h6⟩ := udpL_fields (ph := ph) (s := s) (d := d) (x := x)
  have hl := udpL_length ph s d x
  have hsum := udp_sum h hs hd hf hn
  have hE : uE N ph (udpL ph s d x) = 0 := by
    rw [uE_more (by omega) (by rw [h4, hl]; omega), if_neg]
    rintro (⟨k, _⟩ | ⟨_, k⟩)
    · exact h6 k
    · exact k hsum
  refine ⟨hE, ?_, ?_, ?_, ?_⟩
  · unfold uS; rw [if_pos hE, h0]
  · unfold uD; rw [if_pos hE, h2]
  · unfold uX; rw [if_pos hE, h8]
  · unfold uB; rw [if_pos hE]; simp [h6]
theorem gz_of_wd2 {zs : List Int} (hf : Fit zs) (k : Nat) (v : Int) (h : wd2 zs k = v) : gz zs k = v / 256 ∧ gz zs (k + 1) = v % 256 := by
  have h1 := hf.gz k
  have h2 := hf.gz (k + 1)
  unfold wd2 at h
  omega
theorem tcp_back {ph : Int → Int → List Int} (h : PhOK ph) {w : World} {c : List Value} {t : Seg} (ht : TcpC w c t) (hn : tcpE t = 0) (hfl : Fit (tcpL ph t)) :
    tE ph (tcpL ph t) = 0 ∧ tT ph (tcpL ph t) = t := by
  obtain ⟨hb, ha⟩ := tcpE_zero hn
  have hsum := tcp_sum h ht hn
  have hl := tcpL_length ph t
  have hA : tcpAll t = 20 + t.opts.length + t.data.length := rfl
  have hb' : t.fl ≤ 63 ∧ t.opts.length ≤ 40 ∧ t.opts.length % 4 = 0 := by
    unfold tcpBad at hb
    simp at hb
    omega
  have ff := ht.ff
  have fd := fun k (hk : k < 10) => wd2_wb (tcpW t (ckS ph 6 (wbL (tcpW t 0) ++ (t.opts ++ t.data)))) (t.opts ++ t.data) k (by simpa [tcpW] using hk)
  have q0 : wd2 (tcpL ph t) 0 = t.src := fd 0 (by decide)
  have q1 : wd2 (tcpL ph t) 2 = t.dst := fd 1 (by decide)
  have q2 : wd2 (tcpL ph t) 4 = t.seq / 65536 := fd 2 (by decide)
  have q3 : wd2 (tcpL ph t) 6 = t.seq % 65536 := fd 3 (by decide)
  have q4 : wd2 (tcpL ph t) 8 = t.ack / 65536 := fd 4 (by decide)
  have q5 : wd2 (tcpL ph t) 10 = t.ack % 65536 := fd 5 (by decide)
  have q6 : wd2 (tcpL ph t) 12 = (20 + (t.opts.length : Int)) / 4 * 4096 + t.fl := fd 6 (by decide)
  have q7 : wd2 (tcpL ph t) 14 = t.win := fd 7 (by decide)
  have q9 : wd2 (tcpL ph t) 18 = t.urg := fd 9 (by decide)
  obtain ⟨g0, g1⟩ := gz_of_wd2 hfl 12 _ q6
  have hH : hdL (tcpL ph t) = 20 + (t.opts.length : Int) := by
    unfold hdL
    rw [g0]
    omega
  have hF : flg (tcpL ph t) = t.fl := by
    unfold flg
    rw [g1]
    omega
  have hE : tE ph (tcpL ph t) = 0 := by
    rw [tE_more (by omega) (by rw [hH, hl]; omega), if_neg (by omega), if_pos hsum]
  refine ⟨hE, ?_⟩
  have hd : (tcpL ph t).drop 20 = t.opts ++ t.data := by
    unfold tcpL
    exact List.drop_left' (by rw [wbL_length]; rfl)
  have hk : (hdL (tcpL ph t) - 20).toNat = t.opts.length := by omega
  unfold tT lg
  rw [if_pos hE, hd, hk, List.take_left, List.drop_left, q0, q1, q2, q3, q4, q5, hF, q7, q9]
  have e1 : t.seq / 65536 * 65536 + t.seq % 65536 = t.seq := by omega
  have e2 : t.ack / 65536 * 65536 + t.ack % 65536 = t.ack := by omega
  rw [e1, e2]
end Go.Proofs.YtpgnnplpcalbbaaGreat
namespace Go.Proofs.YtpgnnplpcalbbaaGreat
open Go Go.RowKit Go.Shelf
/-- Where a protocol's checksum stands. -/
def kAt (p : Int) : Nat := if p = 6 then 16 else if p = 17 then 6 else 0
def kIs (p : Int) : Bool := p == 6 || p == 17
theorem checkAt_calls (p : Int) (w : World) : Calls Tryz.prog 245 #[.int .u8 p] w fun e w' => e = .returned (.tuple #[.int .i64 (kAt p : Int), .bool (kIs p)]) ∧ w' = w := by
  by_cases h6 : p = 6
  · subst h6
    go_enter Tryz.func245, Tryz.ntmps245
    go_wp2
    go_ret2
    exact ⟨rfl, rfl⟩
  · by_cases h17 : p = 17
    · subst h17
      go_enter Tryz.func245, Tryz.ntmps245
      go_wp2
      go_ret2
      exact ⟨rfl, rfl⟩
    · have q1 : (p == 6) = false := by simpa using h6
      have q2 : (p == 17) = false := by simpa using h17
      have HE : Hid (kAt p = 0 ∧ kIs p = false) := by
        have : kAt p = 0 ∧ kIs p = false := by simp [kAt, kIs, h6, h17]
        exact this
      clear h6 h17
      go_enter Tryz.func245, Tryz.ntmps245
      go_wp2
      go_ret2
      exact ⟨by rw [HE.out.1, HE.out.2]; rfl, rfl⟩
theorem slice_from (b off len cap n : Nat) (w : World) (h1 : n ≤ len) (h2 : len ≤ cap) :
    (Instr.sliceAt 25 (.slice (some ⟨b, off, none⟩) len cap) (some (.int .i64 (n : Int))) none none).run Tryz.prog w = .ok (restV b off len cap n) w := by
  unfold restV
  have h3 : (n : Int) ≤ (len : Int) := by omega
  by_cases h : cap = n
  · subst h
    obtain rfl : len = cap := by omega
    go_simp
  · go_simp
set_option maxHeartbeats 1000000 in
set_option maxRecDepth 100000 in
theorem wordAt_calls (v : Value) (zs : List Int) (at' : Nat) (w : World) (h : RowC w v zs) (ha : at' ≤ 16) :
    Calls Tryz.prog 249 #[v, .int .i64 (at' : Int)] w fun e w' => e = .returned (.tuple #[.int .u16 (if zs.length < at' + 2 then 0 else wd2 zs at'), .bool (decide (at' + 2 ≤ zs.length))]) ∧ (w' = w ∨ w' = w.drew) := by
  have hl := h.len
  by_cases hn : zs.length < at' + 2
  · rw [if_pos hn, decide_eq_false (by omega)]
    obtain ⟨a, cap, rfl, _⟩ := h.val
    clear h
    go_enter Tryz.func249, Tryz.ntmps249
    go_wp2
    go_ret2
    exact ⟨rfl, .inl rfl⟩
  · rw [if_neg hn, decide_eq_true (by omega)]
    obtain ⟨b, off, cap, hS⟩ := h.rowS (by omega)
    have hv := hS.val
    subst hv
    have hn' : at' + 2 ≤ zs.length := by omega
    have hSL : Hid _ := slice_from b off zs.length cap at' w (by omega) hS.room
    rw [restV_eq] at hSL
    have hoff : nxt off cap at' = off + at' := by
      unfold nxt
      rw [if_neg (by have := hS.room; omega)]
    rw [hoff] at hSL
    have HW : Hid _ := wordOf_calls b (off + at') (zs.length - at') (cap - at') (gz zs at') (gz zs (at' + 1)) w (by omega) (hS.cell at' (by omega)) (by rw [Nat.add_assoc]; exact hS.cell (at' + 1) (by omega)) (hS.fit.gz at') (hS.fit.gz (at' + 1))
    have hwe : gz zs at' * 256 + gz zs (at' + 1) = wd2 zs at' := rfl
    rw [hwe] at HW
    obtain ⟨x, hx⟩ : ∃ x, wd2 zs at' = x := ⟨_, rfl⟩
    rw [hx] at HW ⊢
    clear h hS hn hoff hwe hx
    go_enter Tryz.func249, Tryz.ntmps249
    go_wp2_with ((with_reducible show wpList _ _ _ ({ dst := _, op := Op.slice _ _ _ _ _, type := _, pos := _, after := _, guard := _ } :: _) _ _); refine arm_slice rfl 25 (.tmp 11) (some (.tmp 12)) none rfl rfl rfl rfl hSL.out ?_)
    refine Calls.mono HW.out ?_
    rintro _ w2' ⟨rfl, rfl⟩
    go_wp2
    go_ret2
    exact ⟨rfl, .inr rfl⟩
/-- What putCheck writes. -/
def ckP (p was ck : Int) : Option Int := if p = 17 then (if was = 0 then none else some (nz ck)) else some ck
def layO (zs : List Int) (o : Nat) (x : Option Int) : List Int := match x with
  | none => zs
  | some x => laid zs o (w2 x)
set_option maxHeartbeats 1000000 in
set_option maxRecDepth 100000 in
theorem putCheck_calls (p was ck : Int) (hp : p = 6 ∨ p = 17) (hck : 0 ≤ ck ∧ ck ≤ 65535) (g o n cap : Nat) (zs : List Int) (w : World) (h : OwnG w g zs) (hn : 2 ≤ n) (ho : o + n ≤ zs.length) (hs : zs.length ≤ 140737488351232) :
    Calls Tryz.prog 251 #[.int .u8 p, .slice (some ⟨g, o, none⟩) n cap, .int .u16 was, .int .u16 ck] w fun e w' => e = .returned (.tuple #[]) ∧ OwnG w' g (layO zs o (ckP p was ck)) ∧ But g w w' := by
  rcases hp with rfl | rfl
  · have HP : Hid _ := putWord_calls6 g o n cap zs ck w h hn ho hck hs
    have e : ckP 6 was ck = some ck := rfl
    rw [e]
    clear h e
    go_enter Tryz.func251, Tryz.ntmps251
    go_wp2_with fail
    refine Calls.mono HP.out ?_
    rintro _ w1 ⟨rfl, h1, h2⟩
    have H1 : Hid _ := h1
    have H2 : Hid _ := h2
    clear h1 h2
    go_wp2
    go_end0
    exact ⟨rfl, H1.out, H2.out⟩
  · by_cases h0 : was = 0
    · subst h0
      have H : Hid _ := h
      clear h
      go_enter Tryz.func251, Tryz.ntmps251
      go_wp2
      exact bodyPost_ret (results_none rfl _ _ _) rfl ⟨rfl, H.out, But.refl _ _⟩
    · have q : (was == 0) = false := by simpa using h0
      have HP : Hid _ := putWord_calls6 g o n cap zs (nz ck) w h hn ho (nz_range hck) hs
      have e : ckP 17 was ck = some (nz ck) := by simp [ckP, h0]
      rw [e]
      have HN : Hid (Calls Tryz.prog 269 #[.int .u16 ck] w fun e w' => e = .returned (.int .u16 (nz ck)) ∧ w' = w) := neverZero_calls ck w
      clear h e h0
      generalize nz ck = x at *
      go_enter Tryz.func251, Tryz.ntmps251
      go_wp2_with fail
      refine Calls.mono HN.out ?_
      rintro _ w1 ⟨rfl, hw1⟩
      obtain rfl : w = w1 := hw1.symm
      clear hw1
      go_wp2_with fail
      refine Calls.mono HP.out ?_
      rintro _ w1 ⟨rfl, h1, h2⟩
      have H1 : Hid _ := h1
      have H2 : Hid _ := h2
      clear h1 h2
      go_wp2
      go_end0
      exact ⟨rfl, H1.out, H2.out⟩
end Go.Proofs.YtpgnnplpcalbbaaGreat
namespace Go.Proofs.YtpgnnplpcalbbaaGreat
open Go Go.RowKit Go.Shelf
/-- A checksum behind a change. -/
def upd (was : Int) (zs ys : List Int) : Int := 65535 - sumW (sumW (65535 - was) ((wordsL zs).map (fun z => 65535 - z))) (wordsL ys)
theorem upd_range {was : Int} (hw : 0 ≤ was ∧ was ≤ 65535) {zs ys : List Int} (fz : Fit zs) (fy : Fit ys) : 0 ≤ upd was zs ys ∧ upd was zs ys ≤ 65535 := by
  have w1 : Words ((wordsL zs).map (fun z => 65535 - z)) := fun z hz => by
    obtain ⟨x, hx, rfl⟩ := List.mem_map.1 hz
    have := wordsL_words fz x hx
    omega
  have r1 := sumW_range _ (65535 - was) (by omega) w1
  have r2 := sumW_range (wordsL ys) _ r1 (wordsL_words fy)
  unfold upd
  omega
theorem update_any (was : Int) (hwas : 0 ≤ was ∧ was ≤ 65535) (v u : Value) (zs ys : List Int) (w : World) (hz : BytesAt w.heap.size w v zs) (hy : BytesAt w.heap.size w u ys) :
    Calls Tryz.prog 222 #[.int .u16 was, v, u] w fun e w' => e = .returned (if zs.length = ys.length ∧ zs.length % 2 = 0 then .tuple #[.int .u16 (upd was zs ys), .int .i64 0] else .tuple #[.int .u16 0, .int .i64 10]) ∧ Below w.heap.size w w' := by
  obtain ⟨a, cap, rfl, _⟩ := hz.val
  obtain ⟨a', cap', rfl, _⟩ := hy.val
  have l1 := hz.len
  have l2 := hy.len
  by_cases h : zs.length = ys.length ∧ zs.length % 2 = 0
  · rw [if_pos h]
    have hy' := hy
    rw [← h.1] at hy'
    have k := update_some was hwas a a' zs.length cap cap' zs ys w hz hy' h.2
    rw [h.1] at k
    rw [h.1]
    exact k
  · rw [if_neg h]
    exact (update_none was a a' zs.length ys.length cap cap' w l1 l2 h).mono (fun e w' k => ⟨k.1, by rw [k.2]; exact Below.refl _ _⟩)
set_option maxHeartbeats 4000000 in
set_option maxRecDepth 100000 in
theorem updated_two (was : Int) (hwas : 0 ≤ was ∧ was ≤ 65535) (f t f2 t2 : Value) (zs ys z2 y2 : List Int) (w : World) (hf : BytesAt w.heap.size w f zs) (ht : BytesAt w.heap.size w t ys) (hf2 : BytesAt w.heap.size w f2 z2) (ht2 : BytesAt w.heap.size w t2 y2) (h2 : z2.length = y2.length ∧ z2.length % 2 = 0) (R : Nat)
    (hR : w.heap[R]? = some (.cells #[f, t, f2, t2] 286)) :
    Calls Tryz.prog 250 #[.int .u16 was, .slice (some ⟨R, 0, none⟩) 2 2] w fun e w' => e = .returned (if zs.length = ys.length ∧ zs.length % 2 = 0 then .tuple #[.int .u16 (upd (upd was zs ys) z2 y2), .int .i64 0] else .tuple #[.int .u16 0, .int .i64 10]) ∧ Below w.heap.size w w' := by
  have U1 : Hid (∀ W, Below w.heap.size w W → Calls Tryz.prog 222 #[.int .u16 was, f, t] W fun e w' => e = .returned (if zs.length = ys.length ∧ zs.length % 2 = 0 then .tuple #[.int .u16 (upd was zs ys), .int .i64 0] else .tuple #[.int .u16 0, .int .i64 10]) ∧ Below W.heap.size W w') := fun W hW => update_any was hwas f t zs ys W (hf.later hW) (ht.later hW)
  have hr1 := upd_range hwas hf.fit ht.fit
  have U2 : Hid (∀ W, Below w.heap.size w W → Calls Tryz.prog 222 #[.int .u16 (upd was zs ys), f2, t2] W fun e w' => e = .returned (.tuple #[.int .u16 (upd (upd was zs ys) z2 y2), .int .i64 0]) ∧ Below W.heap.size W w') := fun W hW => by
    have k := update_any (upd was zs ys) hr1 f2 t2 z2 y2 W (hf2.later hW) (ht2.later hW)
    rw [if_pos h2] at k
    exact k
  have C0 : Hid (∀ W, Below w.heap.size w W → (Instr.loadAt 286 (.pointer (some ⟨R, 0, none⟩))).run Tryz.prog W = .ok (.agg #[f, t]) W) := fun W hW => agg_load (vs := [f, t]) Tryz.isAgg286 Tryz.sizeOf286 rfl (CellsAt.fst (xs := [f, t]) (ys := [f2, t2]) (CellsAt.of_blk (blk_on hR hW)))
  have C1 : Hid (∀ W, Below w.heap.size w W → (Instr.loadAt 286 (.pointer (some ⟨R, 2, none⟩))).run Tryz.prog W = .ok (.agg #[f2, t2]) W) := fun W hW => agg_load (vs := [f2, t2]) Tryz.isAgg286 Tryz.sizeOf286 rfl (CellsAt.part (o := 0) (xs := [f, t]) (ys := [f2, t2]) (zs := []) (CellsAt.of_blk (blk_on hR hW)))
  obtain ⟨af, kf, rfl, _⟩ := hf.val
  obtain ⟨at', kt, rfl, _⟩ := ht.val
  obtain ⟨af2, kf2, rfl, _⟩ := hf2.val
  obtain ⟨at2, kt2, rfl, _⟩ := ht2.val
  have hx0 : Below w.heap.size w w := Below.refl _ _
  clear hf ht hf2 ht2 hR h2
  by_cases hc : zs.length = ys.length ∧ zs.length % 2 = 0
  · rw [if_pos hc] at U1 ⊢
    clear hc hwas
    generalize upd (upd was zs ys) z2 y2 = x2 at *
    generalize upd was zs ys = x1 at *
    go_enter Tryz.func250, Tryz.ntmps250
    go_wp2
    go_loopw [0, 11] (fun x i wr => ((i = .int .i64 0 ∧ x = .int .u16 was) ∨ (i = .int .i64 1 ∧ x = .int .u16 x1) ∨ (i = .int .i64 2 ∧ x = .int .u16 x2)) ∧ Below w.heap.size w wr) (fun _ i _ => 2 - (intOf i).toNat)
    case atStart => exact ⟨.inl ⟨rfl, rfl⟩, Below.refl _ _⟩
    case round =>
      obtain ⟨hk, hbr⟩ := hrel
      rcases hk with ⟨rfl, rfl⟩ | ⟨rfl, rfl⟩ | ⟨rfl, rfl⟩
      · obtain ⟨w3, hst3, b3, hb3⟩ := box_new Tryz.sizeOf286 wr [.slice none 0 0, .slice none 0 0] rfl [.slice af zs.length kf, .slice at' ys.length kt] rfl (by simp [Value.oneCell'])
        have hx3 := hbr.trans (hb3.mono hbr.size)
        have q0 := blk_cell (j := 0) b3 rfl
        have q1 := blk_cell (j := 1) b3 rfl
        have HST : Hid _ := hst3
        clear hst3 b3 hb3
        go_wp2_with first
          | ((with_reducible show wpList _ _ _ _ _ _); refine arm_load rfl (.tmp 13) 286 rfl rfl (C0.out _ hbr) ?_)
          | ((with_reducible show wpList _ _ _ _ _ _); refine arm_store rfl (.tmp 7) (.tmp 14) 286 rfl rfl rfl HST.out ?_)
        refine Calls.mono (U1.out _ hx3) ?_
        rintro _ w4 ⟨rfl, hb4⟩
        have HX : Hid _ := hx3.trans (hb4.mono hx3.size)
        clear hb4
        go_wp2
        exact ⟨⟨.inr (.inl ⟨rfl, rfl⟩), HX.out⟩, by simp [intOf]⟩
      · obtain ⟨w3, hst3, b3, hb3⟩ := box_new Tryz.sizeOf286 wr [.slice none 0 0, .slice none 0 0] rfl [.slice af2 z2.length kf2, .slice at2 y2.length kt2] rfl (by simp [Value.oneCell'])
        have hx3 := hbr.trans (hb3.mono hbr.size)
        have q0 := blk_cell (j := 0) b3 rfl
        have q1 := blk_cell (j := 1) b3 rfl
        have HST : Hid _ := hst3
        clear hst3 b3 hb3
        go_wp2_with first
          | ((with_reducible show wpList _ _ _ _ _ _); refine arm_load rfl (.tmp 13) 286 rfl rfl (C1.out _ hbr) ?_)
          | ((with_reducible show wpList _ _ _ _ _ _); refine arm_store rfl (.tmp 7) (.tmp 14) 286 rfl rfl rfl HST.out ?_)
        refine Calls.mono (U2.out _ hx3) ?_
        rintro _ w4 ⟨rfl, hb4⟩
        have HX : Hid _ := hx3.trans (hb4.mono hx3.size)
        clear hb4
        go_wp2
        exact ⟨⟨.inr (.inr ⟨rfl, rfl⟩), HX.out⟩, by simp [intOf]⟩
      · go_wp2
        go_ret2
        exact ⟨rfl, hbr⟩
  · rw [if_neg hc] at U1 ⊢
    clear hc hwas U2 C1
    go_enter Tryz.func250, Tryz.ntmps250
    go_wp2
    go_loopw [0, 11] (fun x i wr => i = .int .i64 0 ∧ x = .int .u16 was ∧ Below w.heap.size w wr) (fun _ i _ => 2 - (intOf i).toNat)
    case atStart => exact ⟨rfl, rfl, Below.refl _ _⟩
    case round =>
      obtain ⟨rfl, rfl, hbr⟩ := hrel
      obtain ⟨w3, hst3, b3, hb3⟩ := box_new Tryz.sizeOf286 wr [.slice none 0 0, .slice none 0 0] rfl [.slice af zs.length kf, .slice at' ys.length kt] rfl (by simp [Value.oneCell'])
      have hx3 := hbr.trans (hb3.mono hbr.size)
      have q0 := blk_cell (j := 0) b3 rfl
      have q1 := blk_cell (j := 1) b3 rfl
      have HST : Hid _ := hst3
      clear hst3 b3 hb3
      go_wp2_with first
        | ((with_reducible show wpList _ _ _ _ _ _); refine arm_load rfl (.tmp 13) 286 rfl rfl (C0.out _ hbr) ?_)
        | ((with_reducible show wpList _ _ _ _ _ _); refine arm_store rfl (.tmp 7) (.tmp 14) 286 rfl rfl rfl HST.out ?_)
      refine Calls.mono (U1.out _ hx3) ?_
      rintro _ w4 ⟨rfl, hb4⟩
      have HX : Hid _ := hx3.trans (hb4.mono hx3.size)
      clear hb4
      go_wp2
      go_ret2
      exact ⟨rfl, HX.out⟩
end Go.Proofs.YtpgnnplpcalbbaaGreat
namespace Go.Proofs.YtpgnnplpcalbbaaGreat
open Go Go.RowKit Go.Shelf
theorem ex_moveR {P : Program} {o : Oper} {a : Act} {W : World} (p : Operand) (hop : o.op = Op.move p) {v : Value} (hp : a.eval p = v) : (execOp a.eval o).run P W = .ok (.value v) W := by
  generalize a.eval = ev at *
  simp [execOp, hop, hp, go_sem]
theorem ex_buildC {o : Oper} {a : Act} {W : World} (p q : Operand) {s s' : Option Addr} {n m n' m' : Nat} (hop : o.op = Op.build 286 #[(0, p), (1, q)]) (hp : a.eval p = .slice s n m) (hq : a.eval q = .slice s' n' m') :
    (execOp a.eval o).run Tryz.prog W = .ok (.value (.agg #[.slice s n m, .slice s' n' m'])) W := by
  generalize a.eval = ev at *
  simp [execOp, hop, hp, hq, go_sem]
theorem ex_first4 {o : Oper} {a : Act} {W : World} (k : Nat) {b off len cap : Nat} (hop : o.op = Op.slice 25 (.tmp k) none (some (.const (.int .i64 4))) none) (hk : a.eval (.tmp k) = .slice (some ⟨b, off, none⟩) len cap) (h4 : 4 ≤ cap) :
    (execOp a.eval o).run Tryz.prog W = .ok (.value (.slice (some ⟨b, off, none⟩) 4 cap)) W := by
  have hcst : a.eval (.const (.int .i64 4)) = .int .i64 4 := rfl
  have h1 : (4 : Int) ≤ (cap : Int) := by omega
  generalize a.eval = ev at *
  simp [execOp, hop, hk, hcst, go_sem, h4, h1]
  try omega
theorem wp_changes2 {o : Oper} {a : Act} {d : Option Nat} {w : World} {K : Act → World → Prop} {Q : Exit → Act → World → Prop} (p0 p1 : Operand) (hop : o.op = Op.buildSlice 306 2 #[(0, p0), (1, p1)]) (hd : o.dst = d) {s0 s1 s2 s3 : Option Addr} {n0 n1 n2 n3 m0 m1 m2 m3 : Nat} (h0 : a.eval p0 = .agg #[.slice s0 n0 m0, .slice s1 n1 m1]) (h1 : a.eval p1 = .agg #[.slice s2 n2 m2, .slice s3 n3 m3])
    (hK : K (a.put d (.slice (some ⟨w.heap.size, 0, none⟩) 2 2)) (w.alloc (.cells #[.slice s0 n0 m0, .slice s1 n1 m1, .slice s2 n2 m2, .slice s3 n3 m3] 286))) : o.wp Tryz.prog a w K Q := by
  subst hd
  unfold Oper.wp
  generalize hev : a.eval = ev at *
  simp [execOp, hop, h0, h1, go_sem]
  exact hK
/-- What Rewrite tells. -/
def rwE (p : Int) (b zs ys : List Int) : Int := if kIs p = false then 64 else if b.length < 4 then 60 else if zs.length = ys.length ∧ zs.length % 2 = 0 then 0 else 10
def rw0 (b : List Int) (s d : Int) : List Int := wbL [s, d] ++ b.drop 4
def rwC (p : Int) (b zs ys : List Int) (s d : Int) : Int := upd (upd (if b.length < kAt p + 2 then 0 else wd2 b (kAt p)) zs ys) (b.take 4) (wbL [s, d])
def rwL (p : Int) (b zs ys : List Int) (s d : Int) : List Int := if b.length < kAt p + 2 then rw0 b s d else layO (rw0 b s d) (kAt p) (ckP p (wd2 b (kAt p)) (rwC p b zs ys s d))
theorem rw0_length {b : List Int} (h : 4 ≤ b.length) (s d : Int) : (rw0 b s d).length = b.length := by
  unfold rw0
  rw [List.length_append, wbL_length, List.length_drop]
  simp
  omega
set_option maxHeartbeats 4000000 in
set_option maxRecDepth 100000 in
theorem Rewrite_bad (p : Int) (v f t : Value) (b zs ys : List Int) (s d : Int) (w : World) (hv : RowC w v b) (hf : BytesAt w.heap.size w f zs) (ht : BytesAt w.heap.size w t ys) (h : kIs p = false ∨ b.length < 4) :
    Calls Tryz.prog 202 #[.int .u8 p, v, f, t, .int .u16 s, .int .u16 d] w fun e w' => e = .returned (.tuple #[.slice none 0 0, .int .i64 (rwE p b zs ys)]) ∧ w' = w := by
  have HC : Hid _ := checkAt_calls p w
  obtain ⟨av, kv, rfl, _⟩ := hv.val
  obtain ⟨af, kf, rfl, _⟩ := hf.val
  obtain ⟨at', kt, rfl, _⟩ := ht.val
  by_cases hk : kIs p = false
  · have e : rwE p b zs ys = 64 := if_pos hk
    rw [e]
    rw [hk] at HC
    clear e hk h hv hf ht
    go_enter Tryz.func202, Tryz.ntmps202
    go_wp2_with fail
    refine Calls.mono HC.out ?_
    rintro _ w1 ⟨rfl, hw1⟩
    obtain rfl : w = w1 := hw1.symm
    clear hw1
    go_wp2
    go_ret2
    exact ⟨rfl, rfl⟩
  · have hb : b.length < 4 := by rcases h with h | h; exact absurd h hk; exact h
    have e : rwE p b zs ys = 60 := by unfold rwE; rw [if_neg hk, if_pos hb]
    rw [e]
    have hk' : kIs p = true := by simpa using hk
    rw [hk'] at HC
    clear e hk h hv hf ht hk'
    go_enter Tryz.func202, Tryz.ntmps202
    go_wp2_with fail
    refine Calls.mono HC.out ?_
    rintro _ w1 ⟨rfl, hw1⟩
    obtain rfl : w = w1 := hw1.symm
    clear hw1
    go_wp2
    go_ret2
    exact ⟨rfl, rfl⟩
end Go.Proofs.YtpgnnplpcalbbaaGreat
namespace Go.Proofs.YtpgnnplpcalbbaaGreat
open Go Go.RowKit Go.Shelf
theorem kIs_cases {p : Int} (h : kIs p = true) : (p = 6 ∧ kAt p = 16) ∨ (p = 17 ∧ kAt p = 6) := by
  unfold kIs at h
  simp at h
  rcases h with rfl | rfl
  · exact .inl ⟨rfl, rfl⟩
  · exact .inr ⟨rfl, rfl⟩
theorem first_bytes {w : World} {b off n cap : Nat} {zs : List Int} (h : BytesAt w.heap.size w (.slice (some ⟨b, off, none⟩) n cap) zs) (k : Nat) (hk : k ≤ zs.length) : BytesAt w.heap.size w (.slice (some ⟨b, off, none⟩) k cap) (zs.take k) := by
  obtain ⟨hf, hl, a, cap', e, hz⟩ := h
  simp at e
  obtain ⟨rfl, rfl, rfl⟩ := e
  have hlt : (zs.take k).length = k := by simp; omega
  refine ⟨fun z hz => hf z (List.mem_of_mem_take hz), by rw [hlt]; omega, some ⟨b, off, none⟩, cap, by rw [hlt], ?_⟩
  rcases hz with hz | ⟨b', off', e1, e2, e3⟩
  · exact .inl (by rw [hlt]; omega)
  · refine .inr ⟨b', off', e1, e2, fun j hj => ?_⟩
    rw [hlt] at hj
    rw [e3 j (by omega), List.getElem?_take_of_lt hj]
/-- What Rewrite leaves. -/
def RwP (w : World) (n : Nat) (er : Int) (zs : List Int) (e : Ending) (w' : World) : Prop :=
  (er ≠ 0 → e = .returned (.tuple #[.slice none 0 0, .int .i64 er])) ∧ (er = 0 → ∃ g k, e = .returned (.tuple #[.slice (some ⟨g, 0, none⟩) n k, .int .i64 0]) ∧ n ≤ k ∧ w.heap.size ≤ g ∧ OwnG w' g zs) ∧ Below w.heap.size w w'
set_option maxHeartbeats 8000000 in
set_option maxRecDepth 100000 in
theorem Rewrite_good (p : Int) (v f t : Value) (b zs ys : List Int) (s d : Int) (hs : 0 ≤ s ∧ s ≤ 65535) (hd : 0 ≤ d ∧ d ≤ 65535) (w : World) (hv : RowC w v b) (hf : BytesAt w.heap.size w f zs) (ht : BytesAt w.heap.size w t ys) (hk : kIs p = true) (hb : 4 ≤ b.length) :
    Calls Tryz.prog 202 #[.int .u8 p, v, f, t, .int .u16 s, .int .u16 d] w fun e w' => RwP w b.length (rwE p b zs ys) (rwL p b zs ys s d) e w' := by
  have hkc := kIs_cases hk
  have HC : Hid _ := checkAt_calls p w
  rw [hk] at HC
  obtain ⟨ka, hka⟩ : ∃ ka, kAt p = ka := ⟨_, rfl⟩
  rw [hka] at HC hkc
  have hka16 : ka ≤ 16 := by omega
  have hpp : p = 6 ∨ p = 17 := by omega
  have hE : rwE p b zs ys = if zs.length = ys.length ∧ zs.length % 2 = 0 then 0 else 10 := by
    unfold rwE
    rw [if_neg (by rw [hk]; decide), if_neg (by omega)]
  have hLd : rwL p b zs ys s d = if b.length < ka + 2 then rw0 b s d else layO (rw0 b s d) ka (ckP p (wd2 b ka) (upd (upd (wd2 b ka) zs ys) (b.take 4) (wbL [s, d]))) := by
    unfold rwL rwC
    rw [hka]
    by_cases hq : b.length < ka + 2
    · rw [if_pos hq, if_pos hq]
    · rw [if_neg hq, if_neg hq, if_neg hq]
  obtain ⟨ab, ob, cb, hS⟩ := hv.rowS (by omega)
  have hval := hS.val
  subst hval
  have hcap := hS.room
  have hbl := hv.len
  have HV : Hid _ := hv
  have HF : Hid _ := hf
  have HT : Hid _ := ht
  have hfb := hv.fit
  have HFB : Hid (Fit b) := hfb
  have hCP : Hid (∀ W, Below w.heap.size w W → Calls Tryz.prog 129 #[.slice (some ⟨ab, ob, none⟩) b.length cb] W fun e w' => ∃ u, e = .returned u ∧ (CpV W.heap.size w' u b ∧ Below W.heap.size W w')) := fun W hW => Clone_cp _ b W (hv.on hW).bytes
  obtain ⟨af, kf, rfl, _⟩ := hf.val
  obtain ⟨at', kt, rfl, _⟩ := ht.val
  have hws : Words [s, d] := fun z hz => by simp at hz; rcases hz with rfl | rfl <;> assumption
  have HWS : Hid (Words [s, d]) := hws
  have hr0 : 0 ≤ (if b.length < ka + 2 then 0 else wd2 b ka) ∧ (if b.length < ka + 2 then 0 else wd2 b ka) ≤ 65535 := by
    split
    · decide
    · exact wd2_range hfb ka
  obtain ⟨er, her⟩ : ∃ er, rwE p b zs ys = er := ⟨_, rfl⟩
  obtain ⟨ZL, hZL⟩ : ∃ ZL, rwL p b zs ys s d = ZL := ⟨_, rfl⟩
  rw [her] at hE
  rw [hZL] at hLd
  rw [her, hZL]
  have HER : Hid ((zs.length = ys.length ∧ zs.length % 2 = 0 → er = 0) ∧ (¬ (zs.length = ys.length ∧ zs.length % 2 = 0) → er = 10)) := by
    have : (zs.length = ys.length ∧ zs.length % 2 = 0 → er = 0) ∧ (¬ (zs.length = ys.length ∧ zs.length % 2 = 0) → er = 10) := ⟨fun h => by rw [hE, if_pos h], fun h => by rw [hE, if_neg h]⟩
    exact this
  have HZL : Hid ((b.length < ka + 2 → ZL = rw0 b s d) ∧ (¬ b.length < ka + 2 → ZL = layO (rw0 b s d) ka (ckP p (wd2 b ka) (upd (upd (wd2 b ka) zs ys) (b.take 4) (wbL [s, d]))))) := by
    have : (b.length < ka + 2 → ZL = rw0 b s d) ∧ (¬ b.length < ka + 2 → ZL = layO (rw0 b s d) ka (ckP p (wd2 b ka) (upd (upd (wd2 b ka) zs ys) (b.take 4) (wbL [s, d])))) := ⟨fun h => by rw [hLd, if_pos h], fun h => by rw [hLd, if_neg h]⟩
    exact this
  clear hE hLd hf ht hv hfb hws hk hka hS her hZL
  go_enter Tryz.func202, Tryz.ntmps202
  go_wp2_with fail
  refine Calls.mono HC.out ?_
  rintro _ w0 ⟨rfl, hw0⟩
  obtain rfl : w = w0 := hw0.symm
  clear hw0 HC
  go_wp2_with fail
  refine Calls.mono (hCP.out _ (Below.refl _ _)) ?_
  rintro _ w1 ⟨u, rfl, hcp, hb1⟩
  obtain ⟨g, k, rfl, hk1, hk2, own1⟩ : ∃ g k, u = .slice (some ⟨g, 0, none⟩) b.length k ∧ b.length ≤ k ∧ w.heap.size ≤ g ∧ OwnG w1 g b := by
    rcases hcp with ⟨q, _⟩ | q
    · rw [q] at hb
      simp at hb
    · exact q
  have hnew := words_new w1 [s, d] #[.int .u16 s, .int .u16 d] 22 2 rfl rfl HWS.out
  have hB2 := (Below.refl w1.heap.size w1).alloc (Nat.le_refl _) (.cells #[.int .u16 s, .int .u16 d] 22)
  have HWB : Hid _ := wordBytes_calls _ _ _ hnew (by simp) (by simp)
  have HB2 : Hid _ := hB2
  have OWN1 : Hid _ := own1
  have HB1 : Hid _ := hb1
  have hgl := own1.lt
  clear hnew hB2 own1 hcp hCP hb1
  go_wp2_with fail
  refine Calls.mono HWB.out ?_
  rintro _ w3 ⟨g3, k3, rfl, q1, q2, q3, own3, hb3⟩
  have hx13 := HB2.out.trans (hb3.mono HB2.out.size)
  have own13 := OWN1.out.kept hgl hx13
  have hwl : (wbL [s, d]).length = 4 := by rw [wbL_length]; rfl
  have hsrc := own3.all (wbL_fit HWS.out) (by rw [hwl]; decide) 4 k3 (by rw [hwl])
  have hcop := fun ty => OwnG.copy own13 hsrc 0 b.length k (by omega) (by rw [hwl]; exact hb) ty
  have e0 : b.take 0 ++ wbL [s, d] ++ b.drop (0 + (wbL [s, d]).length) = rw0 b s d := by
    rw [hwl]
    rfl
  rw [e0] at hcop
  have HCOP : Hid _ := hcop
  have HX13 : Hid _ := hx13
  clear hb3 own3 own13 hsrc hcop hwl e0 hx13 HWB q1 q2
  go_wp2_with first
    | ((with_reducible show wpList _ _ _ ({ dst := _, op := Op.call { callee := Callee.builtin Builtin.copy, args := _, argTypes := _ }, type := _, pos := _, after := _, guard := _ } :: _) _ _); refine arm_copy rfl (.tmp 33) (.tmp 37) _ _ rfl rfl rfl (HCOP.out _) ?_; rintro v5 w5 ⟨own5, only5⟩)
  have hbw5 := (HB1.out.trans (HX13.out.mono HB1.out.size)).trans (only5.below hk2)
  have HWA : Hid _ := wordAt_calls _ b ka w5 (HV.out.on hbw5) hka16
  have OWN5 : Hid _ := own5
  have HBW5 : Hid _ := hbw5
  clear own5 only5 hbw5 HCOP HX13 HB1 HB2 OWN1 hgl
  obtain ⟨x0, hx0⟩ : ∃ x0, (if b.length < ka + 2 then 0 else wd2 b ka) = x0 := ⟨_, rfl⟩
  rw [hx0] at HWA hr0
  have HX0 : Hid _ := hx0
  clear hx0
  refine Calls.mono HWA.out ?_
  rintro _ w6 ⟨rfl, hw6⟩
  have hb56 : Below w5.heap.size w5 w6 := by
    rcases hw6 with rfl | rfl
    · exact Below.refl _ _
    · exact (Below.refl _ _).drew
  have own6 := OWN5.out.kept OWN5.out.lt hb56
  have hbw6 := HBW5.out.trans (hb56.mono HBW5.out.size)
  clear hw6 hb56 HWA OWN5 HBW5
  have h4k : 4 ≤ k := by omega
  have h4c : 4 ≤ cb := by omega
  have hrl := rw0_length hb s d
  have hrf : Fit (rw0 b s d) := (wbL_fit HWS.out).append (fun z hz => HFB.out z (List.mem_of_mem_drop hz))
  have hwl : (wbL [s, d]).length = 4 := by rw [wbL_length]; rfl
  have hrt : (rw0 b s d).take 4 = wbL [s, d] := by
    unfold rw0
    exact List.take_left' hwl
  have HUP : Hid (∀ W, Below w6.heap.size w6 W → Calls Tryz.prog 250 #[.int .u16 x0, .slice (some ⟨W.heap.size, 0, none⟩) 2 2] (W.alloc (.cells #[.slice af zs.length kf, .slice at' ys.length kt, .slice (some ⟨ab, ob, none⟩) 4 cb, .slice (some ⟨g, 0, none⟩) 4 k] 286)) fun e w' => ∃ q, e = .returned q ∧ (q = (if zs.length = ys.length ∧ zs.length % 2 = 0 then .tuple #[.int .u16 (upd (upd x0 zs ys) (b.take 4) (wbL [s, d])), .int .i64 0] else .tuple #[.int .u16 0, .int .i64 10]) ∧ Below W.heap.size W w')) := fun W hW => by
    have hba := (Below.refl W.heap.size W).alloc (Nat.le_refl _) (.cells #[.slice af zs.length kf, .slice at' ys.length kt, .slice (some ⟨ab, ob, none⟩) 4 cb, .slice (some ⟨g, 0, none⟩) 4 k] 286)
    have hbW := hbw6.trans (hW.mono hbw6.size)
    have hbA := hbW.trans (hba.mono hbW.size)
    have hq6 := hW.trans (hba.mono hW.size)
    have hob := (own6.kept own6.lt hq6).all hrf (by rw [hrl]; exact hbl) b.length k hrl.symm
    have ho4 := first_bytes hob 4 (by rw [hrl]; exact hb)
    rw [hrt] at ho4
    have hb4 := first_bytes (HV.out.on hbA).bytes 4 hb
    exact (updated_two x0 hr0 _ _ _ _ zs ys (b.take 4) (wbL [s, d]) _ (HF.out.later hbA) (HT.out.later hbA) hb4 ho4 (by rw [hwl]; simp; omega) W.heap.size (blk_new W _)).mono (fun e w' kk => ⟨_, kk.1, rfl, hba.trans (kk.2.mono hba.size)⟩)
  have hUr : 0 ≤ upd (upd x0 zs ys) (b.take 4) (wbL [s, d]) ∧ upd (upd x0 zs ys) (b.take 4) (wbL [s, d]) ≤ 65535 := upd_range (upd_range hr0 HF.out.fit HT.out.fit) (fun z hz => HFB.out z (List.mem_of_mem_take hz)) (wbL_fit HWS.out)
  have HUE : Hid (¬ b.length < ka + 2 → x0 = wd2 b ka) := fun hq => by rw [← HX0.out, if_neg hq]
  have OWN6 : Hid _ := own6
  have HBW6 : Hid _ := hbw6
  clear own6 hbw6 hrf hwl hrt HV HF HT HX0
  generalize hU : upd (upd x0 zs ys) (b.take 4) (wbL [s, d]) = U at *
  have HU : Hid _ := hU
  clear hU
  go_wp2_with fail
  have hd6 : Below w6.heap.size w6 w6.drew := (Below.refl _ w6).drew
  by_cases hc : zs.length = ys.length ∧ zs.length % 2 = 0
  · rw [if_pos hc] at HUP
    have E0 : Hid (er = 0) := HER.out.1 hc
    clear hc HER
    refine wp_region_held (S := fun W => Below w6.heap.size w6 W) (by kernel_rfl) ?_
    show wpAnyH _ _ _ _ _ 16 (Array.replicate 16 false) _ w6.drew
    refine take_one (i := 0) (d := some 46) (v := .int .u16 x0) rfl rfl rfl (by kernel_rfl) (by kernel_rfl) (by kernel_rfl) (fun _ _ d _ _ h => by cases d <;> exact h) (fun W hS => ex_moveR (.tmp 17) rfl rfl) hd6 ?_
    simp only [Act.put, List.setIfInBounds_toArray, List.set_cons_zero, List.set_cons_succ]
    refine take_one (i := 1) (d := some 47) (v := .slice af zs.length kf) rfl rfl rfl (by kernel_rfl) (by kernel_rfl) (by kernel_rfl) (fun _ _ d _ _ h => by cases d <;> exact h) (fun W hS => ex_moveR (.tmp 2) rfl rfl) hd6 ?_
    simp only [Act.put, List.setIfInBounds_toArray, List.set_cons_zero, List.set_cons_succ]
    refine take_one (i := 2) (d := some 48) (v := .slice at' ys.length kt) rfl rfl rfl (by kernel_rfl) (by kernel_rfl) (by kernel_rfl) (fun _ _ d _ _ h => by cases d <;> exact h) (fun W hS => ex_moveR (.tmp 3) rfl rfl) hd6 ?_
    simp only [Act.put, List.setIfInBounds_toArray, List.set_cons_zero, List.set_cons_succ]
    refine take_one (i := 3) (d := some 49) (v := .agg #[.slice af zs.length kf, .slice at' ys.length kt]) rfl rfl rfl (by kernel_rfl) (by kernel_rfl) (by kernel_rfl) (fun _ _ d _ _ h => by cases d <;> exact h) (fun W hS => ex_buildC (.tmp 47) (.tmp 48) rfl rfl rfl) hd6 ?_
    simp only [Act.put, List.setIfInBounds_toArray, List.set_cons_zero, List.set_cons_succ]
    refine take_one (i := 4) (d := some 50) (v := .slice (some ⟨ab, ob, none⟩) b.length cb) rfl rfl rfl (by kernel_rfl) (by kernel_rfl) (by kernel_rfl) (fun _ _ d _ _ h => by cases d <;> exact h) (fun W hS => ex_moveR (.tmp 1) rfl rfl) hd6 ?_
    simp only [Act.put, List.setIfInBounds_toArray, List.set_cons_zero, List.set_cons_succ]
    refine take_one (i := 5) (d := some 51) (v := .slice (some ⟨ab, ob, none⟩) 4 cb) rfl rfl rfl (by kernel_rfl) (by kernel_rfl) (by kernel_rfl) (fun _ _ d _ _ h => by cases d <;> exact h) (fun W hS => ex_first4 50 rfl rfl h4c) hd6 ?_
    simp only [Act.put, List.setIfInBounds_toArray, List.set_cons_zero, List.set_cons_succ]
    refine take_one (i := 6) (d := some 52) (v := .slice (some ⟨g, 0, none⟩) b.length k) rfl rfl rfl (by kernel_rfl) (by kernel_rfl) (by kernel_rfl) (fun _ _ d _ _ h => by cases d <;> exact h) (fun W hS => ex_moveR (.tmp 16) rfl rfl) hd6 ?_
    simp only [Act.put, List.setIfInBounds_toArray, List.set_cons_zero, List.set_cons_succ]
    refine take_one (i := 7) (d := some 53) (v := .slice (some ⟨g, 0, none⟩) 4 k) rfl rfl rfl (by kernel_rfl) (by kernel_rfl) (by kernel_rfl) (fun _ _ d _ _ h => by cases d <;> exact h) (fun W hS => ex_first4 52 rfl rfl h4k) hd6 ?_
    simp only [Act.put, List.setIfInBounds_toArray, List.set_cons_zero, List.set_cons_succ]
    refine take_one (i := 8) (d := some 54) (v := .agg #[.slice (some ⟨ab, ob, none⟩) 4 cb, .slice (some ⟨g, 0, none⟩) 4 k]) rfl rfl rfl (by kernel_rfl) (by kernel_rfl) (by kernel_rfl) (fun _ _ d _ _ h => by cases d <;> exact h) (fun W hS => ex_buildC (.tmp 51) (.tmp 53) rfl rfl rfl) hd6 ?_
    simp only [Act.put, List.setIfInBounds_toArray, List.set_cons_zero, List.set_cons_succ]
    refine all_one (i := 9) (by kernel_rfl) rfl rfl ?_
    refine wp_changes2 (d := some 55) (.tmp 49) (.tmp 54) rfl rfl rfl rfl ⟨hd6.alloc hd6.size _, ?_⟩
    simp only [Act.put, List.setIfInBounds_toArray, List.set_cons_zero, List.set_cons_succ]
    refine all_one (i := 10) (by kernel_rfl) rfl rfl ?_
    refine wp_call (d := some 56) 250 _ rfl (by kernel_rfl) (HUP.out _ hd6) ?_
    rintro _ w8 ⟨rfl, hb8⟩
    have hx8 := hd6.trans (hb8.mono hd6.size)
    refine ⟨hx8, ?_⟩
    simp only [Act.put, List.setIfInBounds_toArray, List.set_cons_zero, List.set_cons_succ]
    refine take_one (i := 11) (d := some 45) (v := .tuple #[.int .u16 U, .int .i64 0]) rfl rfl rfl (by kernel_rfl) (by kernel_rfl) (by kernel_rfl) (fun _ _ d _ _ h => by cases d <;> exact h) (fun W hS => ex_moveR (.tmp 56) rfl rfl) hx8 ?_
    simp only [Act.put, List.setIfInBounds_toArray, List.set_cons_zero, List.set_cons_succ]
    refine take_one (i := 12) (d := some 57) (v := .int .u16 U) rfl rfl rfl (by kernel_rfl) (by kernel_rfl) (by kernel_rfl) (fun _ _ d _ _ h => by cases d <;> exact h) (fun W hS => ex_extract (.tmp 45) 0 rfl rfl rfl) hx8 ?_
    simp only [Act.put, List.setIfInBounds_toArray, List.set_cons_zero, List.set_cons_succ]
    refine take_one (i := 13) (d := some 58) (v := .int .i64 0) rfl rfl rfl (by kernel_rfl) (by kernel_rfl) (by kernel_rfl) (fun _ _ d _ _ h => by cases d <;> exact h) (fun W hS => ex_extract (.tmp 45) 1 rfl rfl rfl) hx8 ?_
    simp only [Act.put, List.setIfInBounds_toArray, List.set_cons_zero, List.set_cons_succ]
    refine take_one (i := 14) (d := some 19) (v := .int .u16 U) rfl rfl rfl (by kernel_rfl) (by kernel_rfl) (by kernel_rfl) (fun _ _ d _ _ h => by cases d <;> exact h) (fun W hS => ex_assign (.tmp 57) rfl rfl) hx8 ?_
    simp only [Act.put, List.setIfInBounds_toArray, List.set_cons_zero, List.set_cons_succ]
    refine take_one (i := 15) (d := some 20) (v := .int .i64 0) rfl rfl rfl (by kernel_rfl) (by kernel_rfl) (by kernel_rfl) (fun _ _ d _ _ h => by cases d <;> exact h) (fun W hS => ex_assign (.tmp 58) rfl rfl) hx8 ?_
    simp only [Act.put, List.setIfInBounds_toArray, List.set_cons_zero, List.set_cons_succ]
    refine wpAnyH_done (by kernel_rfl) ?_ _
    have own8 := OWN6.out.kept OWN6.out.lt hx8
    have HB8 : Hid _ := HBW6.out.trans (hx8.mono HBW6.out.size)
    have OWN8 : Hid _ := own8
    by_cases hth : b.length < ka + 2
    · have Z0 : Hid (ZL = rw0 b s d) := HZL.out.1 hth
      have q : decide (ka + 2 ≤ b.length) = false := decide_eq_false (by omega)
      try rw [q]
      have HEND : Hid (RwP w b.length 0 (rw0 b s d) (.returned (.tuple #[.slice (some ⟨g, 0, none⟩) b.length k, .int .i64 0])) w8) := ⟨fun h => absurd rfl h, fun _ => ⟨g, k, rfl, hk1, hk2, OWN8.out⟩, HB8.out⟩
      clear own8 hx8 hb8 HZL
      go_wp2
      go_ret2
      rw [E0.out, Z0.out]
      exact HEND.out
    · have Z0 : Hid (ZL = layO (rw0 b s d) ka (ckP p (wd2 b ka) (upd (upd (wd2 b ka) zs ys) (b.take 4) (wbL [s, d])))) := HZL.out.2 hth
      have q : decide (ka + 2 ≤ b.length) = true := decide_eq_true (by omega)
      try rw [q]
      have hUE := HUE.out hth
      have HSL : Hid _ := slice_from g 0 b.length k ka w8 (by omega) hk1
      rw [restV_eq] at HSL
      have hof : nxt 0 k ka = 0 + ka := by
        unfold nxt
        rw [if_neg (by omega)]
      rw [hof, Nat.zero_add] at HSL
      have HPC : Hid _ := putCheck_calls p x0 U hpp hUr g ka (b.length - ka) (k - ka) (rw0 b s d) w8 own8 (by omega) (by rw [hrl]; omega) (by rw [hrl]; exact hbl)
      have HEND : Hid (∀ w9, OwnG w9 g (layO (rw0 b s d) ka (ckP p x0 U)) → But g w8 w9 → RwP w b.length 0 (layO (rw0 b s d) ka (ckP p (wd2 b ka) (upd (upd (wd2 b ka) zs ys) (b.take 4) (wbL [s, d])))) (.returned (.tuple #[.slice (some ⟨g, 0, none⟩) b.length k, .int .i64 0])) w9) := fun w9 o9 b9 => by
        have hu := HU.out
        rw [hUE] at hu o9
        rw [hu]
        exact ⟨fun h => absurd rfl h, fun _ => ⟨g, k, rfl, hk1, hk2, o9⟩, HB8.out.trans (b9.below hk2 HB8.out.size)⟩
      clear own8 hx8 hb8 hof hUE HZL
      go_wp2_with ((with_reducible show wpList _ _ _ ({ dst := _, op := Op.slice _ _ _ _ _, type := _, pos := _, after := _, guard := _ } :: _) _ _); refine arm_slice rfl 25 (.tmp 64) (some (.tmp 65)) none rfl rfl rfl rfl HSL.out ?_)
      refine Calls.mono HPC.out ?_
      rintro _ w9 ⟨rfl, o9, b9⟩
      have HE9 : Hid (RwP w b.length 0 (layO (rw0 b s d) ka (ckP p (wd2 b ka) (upd (upd (wd2 b ka) zs ys) (b.take 4) (wbL [s, d])))) (.returned (.tuple #[.slice (some ⟨g, 0, none⟩) b.length k, .int .i64 0])) w9) := HEND.out w9 o9 b9
      clear o9 b9 HEND
      go_wp2
      go_ret2
      rw [E0.out, Z0.out]
      exact HE9.out
  · rw [if_neg hc] at HUP
    have E0 : Hid (er = 10) := HER.out.2 hc
    clear hc HER HZL
    refine wp_region_held (S := fun W => Below w6.heap.size w6 W) (by kernel_rfl) ?_
    show wpAnyH _ _ _ _ _ 16 (Array.replicate 16 false) _ w6.drew
    refine take_one (i := 0) (d := some 46) (v := .int .u16 x0) rfl rfl rfl (by kernel_rfl) (by kernel_rfl) (by kernel_rfl) (fun _ _ d _ _ h => by cases d <;> exact h) (fun W hS => ex_moveR (.tmp 17) rfl rfl) hd6 ?_
    simp only [Act.put, List.setIfInBounds_toArray, List.set_cons_zero, List.set_cons_succ]
    refine take_one (i := 1) (d := some 47) (v := .slice af zs.length kf) rfl rfl rfl (by kernel_rfl) (by kernel_rfl) (by kernel_rfl) (fun _ _ d _ _ h => by cases d <;> exact h) (fun W hS => ex_moveR (.tmp 2) rfl rfl) hd6 ?_
    simp only [Act.put, List.setIfInBounds_toArray, List.set_cons_zero, List.set_cons_succ]
    refine take_one (i := 2) (d := some 48) (v := .slice at' ys.length kt) rfl rfl rfl (by kernel_rfl) (by kernel_rfl) (by kernel_rfl) (fun _ _ d _ _ h => by cases d <;> exact h) (fun W hS => ex_moveR (.tmp 3) rfl rfl) hd6 ?_
    simp only [Act.put, List.setIfInBounds_toArray, List.set_cons_zero, List.set_cons_succ]
    refine take_one (i := 3) (d := some 49) (v := .agg #[.slice af zs.length kf, .slice at' ys.length kt]) rfl rfl rfl (by kernel_rfl) (by kernel_rfl) (by kernel_rfl) (fun _ _ d _ _ h => by cases d <;> exact h) (fun W hS => ex_buildC (.tmp 47) (.tmp 48) rfl rfl rfl) hd6 ?_
    simp only [Act.put, List.setIfInBounds_toArray, List.set_cons_zero, List.set_cons_succ]
    refine take_one (i := 4) (d := some 50) (v := .slice (some ⟨ab, ob, none⟩) b.length cb) rfl rfl rfl (by kernel_rfl) (by kernel_rfl) (by kernel_rfl) (fun _ _ d _ _ h => by cases d <;> exact h) (fun W hS => ex_moveR (.tmp 1) rfl rfl) hd6 ?_
    simp only [Act.put, List.setIfInBounds_toArray, List.set_cons_zero, List.set_cons_succ]
    refine take_one (i := 5) (d := some 51) (v := .slice (some ⟨ab, ob, none⟩) 4 cb) rfl rfl rfl (by kernel_rfl) (by kernel_rfl) (by kernel_rfl) (fun _ _ d _ _ h => by cases d <;> exact h) (fun W hS => ex_first4 50 rfl rfl h4c) hd6 ?_
    simp only [Act.put, List.setIfInBounds_toArray, List.set_cons_zero, List.set_cons_succ]
    refine take_one (i := 6) (d := some 52) (v := .slice (some ⟨g, 0, none⟩) b.length k) rfl rfl rfl (by kernel_rfl) (by kernel_rfl) (by kernel_rfl) (fun _ _ d _ _ h => by cases d <;> exact h) (fun W hS => ex_moveR (.tmp 16) rfl rfl) hd6 ?_
    simp only [Act.put, List.setIfInBounds_toArray, List.set_cons_zero, List.set_cons_succ]
    refine take_one (i := 7) (d := some 53) (v := .slice (some ⟨g, 0, none⟩) 4 k) rfl rfl rfl (by kernel_rfl) (by kernel_rfl) (by kernel_rfl) (fun _ _ d _ _ h => by cases d <;> exact h) (fun W hS => ex_first4 52 rfl rfl h4k) hd6 ?_
    simp only [Act.put, List.setIfInBounds_toArray, List.set_cons_zero, List.set_cons_succ]
    refine take_one (i := 8) (d := some 54) (v := .agg #[.slice (some ⟨ab, ob, none⟩) 4 cb, .slice (some ⟨g, 0, none⟩) 4 k]) rfl rfl rfl (by kernel_rfl) (by kernel_rfl) (by kernel_rfl) (fun _ _ d _ _ h => by cases d <;> exact h) (fun W hS => ex_buildC (.tmp 51) (.tmp 53) rfl rfl rfl) hd6 ?_
    simp only [Act.put, List.setIfInBounds_toArray, List.set_cons_zero, List.set_cons_succ]
    refine all_one (i := 9) (by kernel_rfl) rfl rfl ?_
    refine wp_changes2 (d := some 55) (.tmp 49) (.tmp 54) rfl rfl rfl rfl ⟨hd6.alloc hd6.size _, ?_⟩
    simp only [Act.put, List.setIfInBounds_toArray, List.set_cons_zero, List.set_cons_succ]
    refine all_one (i := 10) (by kernel_rfl) rfl rfl ?_
    refine wp_call (d := some 56) 250 _ rfl (by kernel_rfl) (HUP.out _ hd6) ?_
    rintro _ w8 ⟨rfl, hb8⟩
    have hx8 := hd6.trans (hb8.mono hd6.size)
    refine ⟨hx8, ?_⟩
    simp only [Act.put, List.setIfInBounds_toArray, List.set_cons_zero, List.set_cons_succ]
    refine take_one (i := 11) (d := some 45) (v := .tuple #[.int .u16 0, .int .i64 10]) rfl rfl rfl (by kernel_rfl) (by kernel_rfl) (by kernel_rfl) (fun _ _ d _ _ h => by cases d <;> exact h) (fun W hS => ex_moveR (.tmp 56) rfl rfl) hx8 ?_
    simp only [Act.put, List.setIfInBounds_toArray, List.set_cons_zero, List.set_cons_succ]
    refine take_one (i := 12) (d := some 57) (v := .int .u16 0) rfl rfl rfl (by kernel_rfl) (by kernel_rfl) (by kernel_rfl) (fun _ _ d _ _ h => by cases d <;> exact h) (fun W hS => ex_extract (.tmp 45) 0 rfl rfl rfl) hx8 ?_
    simp only [Act.put, List.setIfInBounds_toArray, List.set_cons_zero, List.set_cons_succ]
    refine take_one (i := 13) (d := some 58) (v := .int .i64 10) rfl rfl rfl (by kernel_rfl) (by kernel_rfl) (by kernel_rfl) (fun _ _ d _ _ h => by cases d <;> exact h) (fun W hS => ex_extract (.tmp 45) 1 rfl rfl rfl) hx8 ?_
    simp only [Act.put, List.setIfInBounds_toArray, List.set_cons_zero, List.set_cons_succ]
    refine take_one (i := 14) (d := some 19) (v := .int .u16 0) rfl rfl rfl (by kernel_rfl) (by kernel_rfl) (by kernel_rfl) (fun _ _ d _ _ h => by cases d <;> exact h) (fun W hS => ex_assign (.tmp 57) rfl rfl) hx8 ?_
    simp only [Act.put, List.setIfInBounds_toArray, List.set_cons_zero, List.set_cons_succ]
    refine take_one (i := 15) (d := some 20) (v := .int .i64 10) rfl rfl rfl (by kernel_rfl) (by kernel_rfl) (by kernel_rfl) (fun _ _ d _ _ h => by cases d <;> exact h) (fun W hS => ex_assign (.tmp 58) rfl rfl) hx8 ?_
    simp only [Act.put, List.setIfInBounds_toArray, List.set_cons_zero, List.set_cons_succ]
    refine wpAnyH_done (by kernel_rfl) ?_ _
    have HB8 : Hid _ := HBW6.out.trans (hx8.mono HBW6.out.size)
    clear hx8 hb8
    go_wp2
    go_ret2
    rw [E0.out]
    exact ⟨fun _ => rfl, fun h => absurd h (by decide), HB8.out⟩
end Go.Proofs.YtpgnnplpcalbbaaGreat
namespace Go.Proofs.YtpgnnplpcalbbaaGreat
open Go Go.RowKit Go.Shelf
theorem sum_turned : ∀ xs : List Int, (xs.map (fun z => 65535 - z)).sum % 65535 = (- xs.sum) % 65535
  | [] => rfl
  | x :: xs => by
    have ih := sum_turned xs
    simp only [List.map_cons, List.sum_cons]
    omega
/-- A checksum behind a change, but for multiples of 65535. -/
theorem upd_mod (was : Int) (zs ys : List Int) : upd was zs ys % 65535 = (was + (wordsL zs).sum - (wordsL ys).sum) % 65535 := by
  have h1 := sumW_mod ((wordsL zs).map (fun z => 65535 - z)) (65535 - was)
  have h2 := sumW_mod (wordsL ys) (sumW (65535 - was) ((wordsL zs).map (fun z => 65535 - z)))
  have h3 := sum_turned (wordsL zs)
  unfold upd
  generalize sumW (sumW (65535 - was) ((wordsL zs).map (fun z => 65535 - z))) (wordsL ys) = a at *
  generalize sumW (65535 - was) ((wordsL zs).map (fun z => 65535 - z)) = c at *
  generalize ((wordsL zs).map (fun z => 65535 - z)).sum = e at *
  generalize (wordsL zs).sum = u at *
  generalize (wordsL ys).sum = v at *
  omega
theorem wordsL_wb : ∀ xs ys : List Int, wordsL (wbL xs ++ ys) = xs ++ wordsL ys
  | [], ys => rfl
  | x :: xs, ys => by
    show wordsL (x / 256 :: x % 256 :: (wbL xs ++ ys)) = _
    rw [wordsL_two, word_back, wordsL_wb xs ys]
    rfl
theorem udpL_fit2' {ph : Int → Int → List Int} (h : PhOK ph) {s d : Int} {x : List Int} (hs : 0 ≤ s ∧ s ≤ 65535) (hd : 0 ≤ d ∧ d ≤ 65535) (hf : Fit x) (hn : 8 + x.length ≤ 65535) : Fit (udpL ph s d x) := by
  have := udpB_fit (ph := ph) hs hd hf h.fit
  unfold udpB at this
  rw [if_pos hn] at this
  exact this.1
theorem layO_none (zs : List Int) (o : Nat) : layO zs o none = zs := rfl
/-- UDP: the datagram's bytes, rewritten. -/
theorem udp_rewritten {ph ph' : Int → Int → List Int} (h : PhOK ph) (h' : PhOK ph') {s d src dst : Int} {x zs ys : List Int} (hs : 0 ≤ s ∧ s ≤ 65535) (hd : 0 ≤ d ∧ d ≤ 65535) (hs' : 0 ≤ src ∧ src ≤ 65535) (hd' : 0 ≤ dst ∧ dst ≤ 65535) (hf : Fit x) (hn : 8 + x.length ≤ 65535) (fz : Fit zs) (fy : Fit ys)
    (hsum : ∀ n : Int, ((wordsL (ph 17 n)).sum - (wordsL zs).sum) % 65535 = ((wordsL (ph' 17 n)).sum - (wordsL ys).sum) % 65535) :
    ∃ ck, 0 < ck ∧ ck ≤ 65535 ∧ rwL 17 (udpL ph s d x) zs ys src dst = wbL [src, dst, 8 + (x.length : Int), ck] ++ x ∧ sumW 0 (wordsL (ph' 17 (8 + (x.length : Int)) ++ (wbL [src, dst, 8 + (x.length : Int), ck] ++ x))) = 65535 := by
  have hl := udpL_length ph s d x
  obtain ⟨f0, f2, f4, f8, f6⟩ := udpL_fields (ph := ph) (s := s) (d := d) (x := x)
  have hw6 : wd2 (udpL ph s d x) 6 = nz (ckS ph 17 (wbL [s, d, 8 + (x.length : Int), 0] ++ x)) := by
    unfold udpL
    exact wd2_wb _ _ 3 (by simp)
  have hsu := udp_sum h hs hd hf hn
  have hfl := udpL_fit2' h hs hd hf hn
  generalize hc0 : nz (ckS ph 17 (wbL [s, d, 8 + (x.length : Int), 0] ++ x)) = c0 at *
  have hU : udpL ph s d x = wbL [s, d, 8 + (x.length : Int), c0] ++ x := by
    unfold udpL
    rw [hc0]
  have hr6 := wd2_range hfl 6
  rw [hw6] at hr6 f6
  obtain ⟨U, hUd⟩ : ∃ U, upd (upd c0 zs ys) ((udpL ph s d x).take 4) (wbL [src, dst]) = U := ⟨_, rfl⟩
  have hUr : 0 ≤ U ∧ U ≤ 65535 := by
    rw [← hUd]
    exact upd_range (upd_range hr6 fz fy) (fun z hz => hfl z (List.mem_of_mem_take hz)) (wbL_fit (fun z hz => by simp at hz; rcases hz with rfl | rfl <;> assumption))
  have ht4 : (udpL ph s d x).take 4 = wbL [s, d] := by
    rw [hU]
    rfl
  have hm1 := upd_mod c0 zs ys
  have hm2 := upd_mod (upd c0 zs ys) (wbL [s, d]) (wbL [src, dst])
  rw [ht4] at hUd
  rw [hUd] at hm2
  have w1 : wordsL (wbL [s, d]) = [s, d] := by
    have := wordsL_wb [s, d] []
    rw [List.append_nil] at this
    exact this
  have w2' : wordsL (wbL [src, dst]) = [src, dst] := by
    have := wordsL_wb [src, dst] []
    rw [List.append_nil] at this
    exact this
  rw [w1, w2'] at hm2
  refine ⟨nz U, ?_, ?_, ?_, ?_⟩
  · unfold nz
    split <;> omega
  · unfold nz
    split <;> omega
  · unfold rwL rwC
    have hk : kAt 17 = 6 := rfl
    rw [hk, if_neg (by omega), if_neg (by omega), hw6, ht4, hUd]
    have e1 : ckP 17 c0 U = some (nz U) := by simp [ckP, f6]
    rw [e1]
    show laid (rw0 (udpL ph s d x) src dst) 6 (w2 (nz U)) = _
    unfold rw0
    rw [hU]
    show laid (wbL [src, dst] ++ (w2 (8 + (x.length : Int)) ++ (w2 c0 ++ x))) 6 (w2 (nz U)) = _
    simp [laid, wbL, w2]
  · have hn' : (0 : Int) ≤ 8 + (x.length : Int) ∧ 8 + (x.length : Int) ≤ 65535 := by omega
    have hnz : 0 ≤ nz U ∧ nz U ≤ 65535 := nz_range hUr
    have hev := h'.even 17 (8 + (x.length : Int))
    have hfp := h'.fit 17 (8 + (x.length : Int)) (by decide) hn'
    have hww : Words [src, dst, 8 + (x.length : Int), nz U] := fun z hz => by simp at hz; rcases hz with rfl | rfl | rfl | rfl <;> omega
    have hwW : Words (wordsL (ph' 17 (8 + (x.length : Int)) ++ (wbL [src, dst, 8 + (x.length : Int), nz U] ++ x))) := wordsL_words (hfp.append ((wbL_fit hww).append hf))
    have hrg := sumW_range _ 0 (by decide) hwW
    have hmod := sumW_mod (wordsL (ph' 17 (8 + (x.length : Int)) ++ (wbL [src, dst, 8 + (x.length : Int), nz U] ++ x))) 0
    have hpos : 0 < sumW 0 (wordsL (ph' 17 (8 + (x.length : Int)) ++ (wbL [src, dst, 8 + (x.length : Int), nz U] ++ x))) := by
      rw [wordsL_append _ _ hev, sumW_append]
      exact sumW_pos _ _ (wordsL_words ((wbL_fit hww).append hf)) (h'.pos 17 _ (by decide) hn')
    have hl' : ((udpL ph s d x).length : Int) = 8 + (x.length : Int) := by omega
    rw [hl', hU] at hsu
    have hmod0 := sumW_mod (wordsL (ph 17 (8 + (x.length : Int)) ++ (wbL [s, d, 8 + (x.length : Int), c0] ++ x))) 0
    rw [hsu, wordsL_append _ _ (h.even 17 _), wordsL_wb] at hmod0
    rw [wordsL_append _ _ hev, wordsL_wb] at hmod hpos hrg ⊢
    have hss := hsum (8 + (x.length : Int))
    simp only [List.sum_append, List.sum_cons, List.sum_nil] at hmod hmod0 hm2
    have hnzm : nz U % 65535 = U % 65535 := by
      unfold nz
      split
      · next q => rw [q]; decide
      · rfl
    generalize sumW 0 (wordsL (ph' 17 (8 + (x.length : Int))) ++ ([src, dst, 8 + (x.length : Int), nz U] ++ wordsL x)) = T at *
    generalize (wordsL (ph' 17 (8 + (x.length : Int)))).sum = P' at *
    generalize (wordsL (ph 17 (8 + (x.length : Int)))).sum = P at *
    generalize (wordsL zs).sum = Z at *
    generalize (wordsL ys).sum = Y at *
    generalize (wordsL x).sum = X at *
    generalize upd c0 zs ys = V at *
    generalize nz U = N at *
    generalize (x.length : Int) = xl at *
    clear hww hwW hfp hev hsu hU hUd ht4 w1 w2' f0 f2 f4 f8 f6 hw6 hfl hc0
    omega
end Go.Proofs.YtpgnnplpcalbbaaGreat
namespace Go.Proofs.YtpgnnplpcalbbaaGreat
open Go Go.RowKit Go.Shelf
theorem udp_read {N : Nat} {ph : Int → Int → List Int} {s d ck : Int} {x : List Int} (hn : 8 + x.length ≤ 65535) (hck : 0 < ck) (hsum : sumW 0 (wordsL (ph 17 (8 + (x.length : Int)) ++ (wbL [s, d, 8 + (x.length : Int), ck] ++ x))) = 65535) :
    uE N ph (wbL [s, d, 8 + (x.length : Int), ck] ++ x) = 0 ∧ uS N ph (wbL [s, d, 8 + (x.length : Int), ck] ++ x) = s ∧ uD N ph (wbL [s, d, 8 + (x.length : Int), ck] ++ x) = d ∧ uX N ph (wbL [s, d, 8 + (x.length : Int), ck] ++ x) = x := by
  have hl : (wbL [s, d, 8 + (x.length : Int), ck] ++ x).length = 8 + x.length := by rw [List.length_append, wbL_length]; rfl
  have h0 : wd2 (wbL [s, d, 8 + (x.length : Int), ck] ++ x) 0 = s := wd2_wb _ _ 0 (by simp)
  have h2 : wd2 (wbL [s, d, 8 + (x.length : Int), ck] ++ x) 2 = d := wd2_wb _ _ 1 (by simp)
  have h4 : wd2 (wbL [s, d, 8 + (x.length : Int), ck] ++ x) 4 = 8 + (x.length : Int) := wd2_wb _ _ 2 (by simp)
  have h6 : wd2 (wbL [s, d, 8 + (x.length : Int), ck] ++ x) 6 = ck := wd2_wb _ _ 3 (by simp)
  have hE : uE N ph (wbL [s, d, 8 + (x.length : Int), ck] ++ x) = 0 := by
    rw [uE_more (by omega) (by rw [h4, hl]; omega), if_neg]
    have hl' : ((wbL [s, d, 8 + (x.length : Int), ck] ++ x).length : Int) = 8 + (x.length : Int) := by omega
    rw [h6, hl']
    rintro (⟨k, _⟩ | ⟨_, k⟩)
    · omega
    · exact k hsum
  refine ⟨hE, ?_, ?_, ?_⟩
  · unfold uS; rw [if_pos hE, h0]
  · unfold uD; rw [if_pos hE, h2]
  · unfold uX; rw [if_pos hE]; rfl
theorem tcp_read {ph : Int → Int → List Int} {t : Seg} {ck : Int} (hb : tcpBad t = false) (ha : tcpAll t ≤ 65535) (ff : 0 ≤ t.fl ∧ t.fl < 256) (hfl : Fit (wbL (tcpW t ck) ++ (t.opts ++ t.data))) (hsum : sumW 0 (wordsL (ph 6 (tcpAll t : Int) ++ (wbL (tcpW t ck) ++ (t.opts ++ t.data)))) = 65535) :
    tE ph (wbL (tcpW t ck) ++ (t.opts ++ t.data)) = 0 ∧ tT ph (wbL (tcpW t ck) ++ (t.opts ++ t.data)) = t := by
  have hl : (wbL (tcpW t ck) ++ (t.opts ++ t.data)).length = tcpAll t := by
    unfold tcpAll
    rw [List.length_append, wbL_length, List.length_append]
    simp [tcpW]
    omega
  rw [← hl] at hsum
  have hA : tcpAll t = 20 + t.opts.length + t.data.length := rfl
  have hb' : t.fl ≤ 63 ∧ t.opts.length ≤ 40 ∧ t.opts.length % 4 = 0 := by
    unfold tcpBad at hb
    simp at hb
    omega
  have fd := fun k (hk : k < 10) => wd2_wb (tcpW t ck) (t.opts ++ t.data) k (by simpa [tcpW] using hk)
  have q0 : wd2 (wbL (tcpW t ck) ++ (t.opts ++ t.data)) 0 = t.src := fd 0 (by decide)
  have q1 : wd2 (wbL (tcpW t ck) ++ (t.opts ++ t.data)) 2 = t.dst := fd 1 (by decide)
  have q2 : wd2 (wbL (tcpW t ck) ++ (t.opts ++ t.data)) 4 = t.seq / 65536 := fd 2 (by decide)
  have q3 : wd2 (wbL (tcpW t ck) ++ (t.opts ++ t.data)) 6 = t.seq % 65536 := fd 3 (by decide)
  have q4 : wd2 (wbL (tcpW t ck) ++ (t.opts ++ t.data)) 8 = t.ack / 65536 := fd 4 (by decide)
  have q5 : wd2 (wbL (tcpW t ck) ++ (t.opts ++ t.data)) 10 = t.ack % 65536 := fd 5 (by decide)
  have q6 : wd2 (wbL (tcpW t ck) ++ (t.opts ++ t.data)) 12 = (20 + (t.opts.length : Int)) / 4 * 4096 + t.fl := fd 6 (by decide)
  have q7 : wd2 (wbL (tcpW t ck) ++ (t.opts ++ t.data)) 14 = t.win := fd 7 (by decide)
  have q9 : wd2 (wbL (tcpW t ck) ++ (t.opts ++ t.data)) 18 = t.urg := fd 9 (by decide)
  obtain ⟨g0, g1⟩ := gz_of_wd2 hfl 12 _ q6
  have hH : hdL (wbL (tcpW t ck) ++ (t.opts ++ t.data)) = 20 + (t.opts.length : Int) := by
    unfold hdL
    rw [g0]
    omega
  have hF : flg (wbL (tcpW t ck) ++ (t.opts ++ t.data)) = t.fl := by
    unfold flg
    rw [g1]
    omega
  have hE : tE ph (wbL (tcpW t ck) ++ (t.opts ++ t.data)) = 0 := by
    rw [tE_more (by omega) (by rw [hH, hl]; omega), if_neg (by omega), if_pos hsum]
  refine ⟨hE, ?_⟩
  have hd : (wbL (tcpW t ck) ++ (t.opts ++ t.data)).drop 20 = t.opts ++ t.data := by
    exact List.drop_left' (by rw [wbL_length]; rfl)
  have hk : (hdL (wbL (tcpW t ck) ++ (t.opts ++ t.data)) - 20).toNat = t.opts.length := by omega
  unfold tT lg
  rw [if_pos hE, hd, hk, List.take_left, List.drop_left, q0, q1, q2, q3, q4, q5, hF, q7, q9]
  have e1 : t.seq / 65536 * 65536 + t.seq % 65536 = t.seq := by omega
  have e2 : t.ack / 65536 * 65536 + t.ack % 65536 = t.ack := by omega
  rw [e1, e2]
/-- TCP: the segment's bytes, rewritten. -/
theorem tcp_rewritten {ph ph' : Int → Int → List Int} (h : PhOK ph) (h' : PhOK ph') {w : World} {c : List Value} {t : Seg} (ht : TcpC w c t) (hn : tcpE t = 0) {src dst : Int} {zs ys : List Int} (hs' : 0 ≤ src ∧ src ≤ 65535) (hd' : 0 ≤ dst ∧ dst ≤ 65535) (fz : Fit zs) (fy : Fit ys)
    (hsum : ∀ n : Int, ((wordsL (ph 6 n)).sum - (wordsL zs).sum) % 65535 = ((wordsL (ph' 6 n)).sum - (wordsL ys).sum) % 65535) :
    ∃ ck, 0 ≤ ck ∧ ck ≤ 65535 ∧ rwL 6 (tcpL ph t) zs ys src dst = wbL (tcpW ⟨src, dst, t.seq, t.ack, t.fl, t.win, t.urg, t.opts, t.data⟩ ck) ++ (t.opts ++ t.data) ∧ sumW 0 (wordsL (ph' 6 (tcpAll t : Int) ++ (wbL (tcpW ⟨src, dst, t.seq, t.ack, t.fl, t.win, t.urg, t.opts, t.data⟩ ck) ++ (t.opts ++ t.data)))) = 65535 := by
  obtain ⟨hb, ha⟩ := tcpE_zero hn
  have hl := tcpL_length ph t
  have hA : tcpAll t = 20 + t.opts.length + t.data.length := rfl
  have hsu := tcp_sum h ht hn
  have hfl : Fit (tcpL ph t) := by
    have := tcpB_fit (ph := ph) ht h.fit
    unfold tcpB at this
    rw [if_pos hn] at this
    exact this.1
  obtain ⟨vo, vd, _, hvo, hvd⟩ := ht.val
  have hfo := hvo.fit.append hvd.fit
  obtain ⟨c0, hc0⟩ : ∃ c0, ckS ph 6 (wbL (tcpW t 0) ++ (t.opts ++ t.data)) = c0 := ⟨_, rfl⟩
  have hU : tcpL ph t = wbL (tcpW t c0) ++ (t.opts ++ t.data) := by
    unfold tcpL
    rw [hc0]
  have hw16 : wd2 (tcpL ph t) 16 = c0 := by
    rw [hU]
    exact wd2_wb (tcpW t c0) _ 8 (by simp [tcpW])
  have hr := wd2_range hfl 16
  rw [hw16] at hr
  have ht4 : (tcpL ph t).take 4 = wbL [t.src, t.dst] := by
    rw [hU]
    rfl
  obtain ⟨U, hUd⟩ : ∃ U, upd (upd c0 zs ys) (wbL [t.src, t.dst]) (wbL [src, dst]) = U := ⟨_, rfl⟩
  have hf4 : Fit (wbL [t.src, t.dst]) := by
    rw [← ht4]
    exact fun z hz => hfl z (List.mem_of_mem_take hz)
  have hUr : 0 ≤ U ∧ U ≤ 65535 := by
    rw [← hUd]
    exact upd_range (upd_range hr fz fy) hf4 (wbL_fit (fun z hz => by simp at hz; rcases hz with rfl | rfl <;> assumption))
  have hm1 := upd_mod c0 zs ys
  have hm2 := upd_mod (upd c0 zs ys) (wbL [t.src, t.dst]) (wbL [src, dst])
  rw [hUd] at hm2
  have w1 : wordsL (wbL [t.src, t.dst]) = [t.src, t.dst] := by
    have := wordsL_wb [t.src, t.dst] []
    rw [List.append_nil] at this
    exact this
  have w2' : wordsL (wbL [src, dst]) = [src, dst] := by
    have := wordsL_wb [src, dst] []
    rw [List.append_nil] at this
    exact this
  rw [w1, w2'] at hm2
  refine ⟨U, hUr.1, hUr.2, ?_, ?_⟩
  · unfold rwL rwC
    have hk : kAt 6 = 16 := rfl
    rw [hk, if_neg (by omega), if_neg (by omega), hw16, ht4, hUd]
    have e1 : ckP 6 c0 U = some U := rfl
    rw [e1]
    show laid (rw0 (tcpL ph t) src dst) 16 (w2 U) = _
    unfold rw0
    rw [hU]
    simp [laid, wbL, w2, tcpW]
  · have hn' : (0 : Int) ≤ (tcpAll t : Int) ∧ (tcpAll t : Int) ≤ 65535 := by omega
    have hev := h'.even 6 (tcpAll t : Int)
    have hfp := h'.fit 6 (tcpAll t : Int) (by decide) hn'
    have hww0 := tcpW_words ht hb hr
    have hww : Words (tcpW ⟨src, dst, t.seq, t.ack, t.fl, t.win, t.urg, t.opts, t.data⟩ U) := fun z hz => by
      simp only [tcpW, List.mem_cons, List.not_mem_nil, or_false] at hz
      have q := fun z hz => hww0 z hz
      rcases hz with rfl | rfl | rfl | rfl | rfl | rfl | rfl | rfl | rfl | rfl
      · exact hs'
      · exact hd'
      · exact q _ (by simp [tcpW])
      · exact q _ (by simp [tcpW])
      · exact q _ (by simp [tcpW])
      · exact q _ (by simp [tcpW])
      · exact q _ (by simp [tcpW])
      · exact q _ (by simp [tcpW])
      · exact hUr
      · exact q _ (by simp [tcpW])
    have hwW := wordsL_words (hfp.append ((wbL_fit hww).append hfo))
    have hrg := sumW_range _ 0 (by decide) hwW
    have hmod := sumW_mod (wordsL (ph' 6 (tcpAll t : Int) ++ (wbL (tcpW ⟨src, dst, t.seq, t.ack, t.fl, t.win, t.urg, t.opts, t.data⟩ U) ++ (t.opts ++ t.data)))) 0
    have hpos : 0 < sumW 0 (wordsL (ph' 6 (tcpAll t : Int) ++ (wbL (tcpW ⟨src, dst, t.seq, t.ack, t.fl, t.win, t.urg, t.opts, t.data⟩ U) ++ (t.opts ++ t.data)))) := by
      rw [wordsL_append _ _ hev, sumW_append]
      exact sumW_pos _ _ (wordsL_words ((wbL_fit hww).append hfo)) (h'.pos 6 _ (by decide) hn')
    rw [hl, hU] at hsu
    have hmod0 := sumW_mod (wordsL (ph 6 (tcpAll t : Int) ++ (wbL (tcpW t c0) ++ (t.opts ++ t.data)))) 0
    rw [hsu, wordsL_append _ _ (h.even 6 _), wordsL_wb] at hmod0
    rw [wordsL_append _ _ hev, wordsL_wb] at hmod hpos hrg ⊢
    have hss := hsum (tcpAll t : Int)
    generalize sumW 0 (wordsL (ph' 6 (tcpAll t : Int)) ++ (tcpW ⟨src, dst, t.seq, t.ack, t.fl, t.win, t.urg, t.opts, t.data⟩ U ++ wordsL (t.opts ++ t.data))) = T at *
    simp only [tcpW, List.sum_append, List.sum_cons, List.sum_nil] at hmod hmod0 hm2
    generalize (wordsL (ph' 6 (tcpAll t : Int))).sum = P' at *
    generalize (wordsL (ph 6 (tcpAll t : Int))).sum = P at *
    generalize (wordsL zs).sum = Z at *
    generalize (wordsL ys).sum = Y at *
    generalize (wordsL (t.opts ++ t.data)).sum = X at *
    generalize upd c0 zs ys = V at *
    generalize (20 + (t.opts.length : Int)) / 4 * 4096 = q1 at *
    generalize t.seq / 65536 = q2 at *
    generalize t.seq % 65536 = q3 at *
    generalize t.ack / 65536 = q4 at *
    generalize t.ack % 65536 = q5 at *
    clear hww hwW hfp hev hsu hU hUd ht4 w1 w2' hw16 hfl hc0 hww0 hf4 hfo hn' hn ha hA hl
    omega
theorem sum44 {A B A' B' : List Int} (la : A.length = 4) (lb : B.length = 4) (la' : A'.length = 4) (lb' : B'.length = 4) (p n : Int) : ((wordsL (ph4 A B p n)).sum - (wordsL (A ++ B)).sum) % 65535 = ((wordsL (ph4 A' B' p n)).sum - (wordsL (A' ++ B')).sum) % 65535 := by
  unfold ph4
  rw [wordsL_append _ _ (by omega), wordsL_append _ _ (by omega), wordsL_append _ _ (by omega), wordsL_append _ _ (by omega), wordsL_append _ _ (by omega), wordsL_append _ _ (by omega)]
  simp only [List.sum_append]
  omega
theorem sum46 {A B C D : List Int} (la : A.length = 4) (lb : B.length = 4) (lc : C.length = 16) (ld : D.length = 16) (p n : Int) : ((wordsL (ph4 A B p n)).sum - (wordsL (List.replicate 24 0 ++ (A ++ B))).sum) % 65535 = ((wordsL (ph6 C D p n)).sum - (wordsL (C ++ D)).sum) % 65535 := by
  unfold ph4 ph6
  have hz : (wordsL (List.replicate 24 (0 : Int))).sum = 0 := by decide
  have h1 : (wordsL [0, p, n / 256, n % 256]).sum = (wordsL [0, 0, n / 256, n % 256, 0, 0, 0, p]).sum := by
    rw [wordsL_two, wordsL_two, wordsL_two, wordsL_two, wordsL_two, wordsL_two]
    simp
    omega
  rw [wordsL_append A _ (by omega), wordsL_append B _ (by omega), wordsL_append (List.replicate 24 0) _ (by simp), wordsL_append A B (by omega), wordsL_append C _ (by omega), wordsL_append D _ (by omega), wordsL_append C D (by omega)]
  simp only [List.sum_append, hz, h1]
  omega
end Go.Proofs.YtpgnnplpcalbbaaGreat
namespace Go.Proofs.YtpgnnplpcalbbaaGreat
open Go Go.RowKit Go.Shelf
theorem ob_empty (W : World) : OB W.heap.size W (W.alloc (.cells #[] 5)) (.slice (some ⟨W.heap.size, 0, none⟩) 0 0) [] := ⟨⟨rfl, .inr ⟨W.heap.size, 0, _, rfl, Nat.le_refl _, World.alloc_heap_new W _, Nat.le_refl _, by decide, rfl, rfl⟩⟩, (Below.refl _ W).alloc (Nat.le_refl _) _⟩
theorem made_n (n : Nat) : (madeCells (Value.int .u8 0).cells (n * 1)).toList = bytesV (List.replicate n 0) := by
  simp only [madeCells, bytesV, Nat.mul_one, Array.toList_map, Array.toList_range]
  apply List.ext_getElem?
  intro j
  by_cases hj : j < n
  · simp [List.getElem?_replicate, hj, Value.cells, Nat.mod_one]
  · simp [List.getElem?_replicate, hj]
theorem ob_made {w X : World} (hown : X.ownsRow w.heap.size 5 1 (.slice (some ⟨w.heap.size, 0, none⟩) 24 24) 24 (madeCells (Value.int .u8 0).cells (24 * 1)).toList) (hgr : w.grownBy X none) : OB w.heap.size w X (.slice (some ⟨w.heap.size, 0, none⟩) 24 24) (List.replicate 24 0) := by
  rw [made_n 24] at hown
  exact ⟨hown, (Below.refl _ w).grown hgr (Nat.le_refl _) (fun k hk => by cases hk)⟩
end Go.Proofs.YtpgnnplpcalbbaaGreat
namespace Go.Proofs.YtpgnnplpcalbbaaGreat
open Go Go.RowKit Go.Shelf
theorem OB.rowC {base : Nat} {w wx : World} {v : Value} {zs : List Int} (h : OB base w wx v zs) (hf : Fit zs) (hl : zs.length ≤ 140737488351232) : RowC wx v zs := by
  have hb := h.bytes hf hl
  by_cases h0 : zs.length = 0
  · obtain ⟨a, cap, e, _⟩ := hb.val
    subst e
    exact .of_bytes hb (by omega)
  · obtain ⟨g, cap, e, hc, _⟩ := own_G h.own (by omega)
    subst e
    exact .of_bytes hb hc
theorem OB.slcM {base : Nat} {w wx : World} {v : Value} {zs : List Int} (h : OB base w wx v zs) : ∃ a n cp, v = .slice a n cp := by
  obtain ⟨a, cap, e, _⟩ := own_form h.own
  exact ⟨_, _, _, e⟩
theorem UdpC.one' {w : World} {c : List Value} {s d : Int} {x : List Int} (h : UdpC w c s d x) : ∀ v ∈ c, v.oneCell' = true := by
  obtain ⟨⟨vd, rfl, hd⟩, _⟩ := h
  obtain ⟨a, k, rfl, _⟩ := hd.val
  simp [Value.oneCell']
/-- Two rows of bytes behind each other, in memory of their own. -/
theorem joined {W : World} {va vb : Value} {As Bs : List Int} (ha : BytesAt W.heap.size W va As) (hb : BytesAt W.heap.size W vb Bs) (la : As.length ≤ 16) (lb : Bs.length ≤ 16) :
    ∃ v1 w1 v2 w2, (Builtin.append_ #[25, 25] 25 #[.slice (some ⟨W.heap.size, 0, none⟩) 0 0, va]).run Tryz.prog (W.alloc (.cells #[] 5)) = .ok v1 w1 ∧ (Builtin.append_ #[25, 25] 25 #[v1, vb]).run Tryz.prog w1 = .ok v2 w2 ∧ Below W.heap.size W w1 ∧ Below W.heap.size W w2 ∧ BytesAt w2.heap.size w2 v2 (As ++ Bs) := by
  have h0 := ob_empty W
  obtain ⟨v1, w1, r1, o1, s1, _⟩ := h0.app h0.bel.size (ha.later h0.bel) (by simp; omega) 25
  obtain ⟨v2, w2, r2, o2, s2, _⟩ := o1.app s1 (hb.later o1.bel) (by simp; omega) 25
  exact ⟨v1, w1, v2, w2, r1, r2, o1.bel, o2.bel, own_bytes o2.own (by simpa using ha.fit.append hb.fit) (by simp; omega)⟩
theorem rewrite_ok (p : Int) (hp : kIs p = true) (v f t : Value) (b zs ys : List Int) (src dst : Int) (hs : 0 ≤ src ∧ src ≤ 65535) (hd : 0 ≤ dst ∧ dst ≤ 65535) (W : World) (hv : RowC W v b) (hf : BytesAt W.heap.size W f zs) (ht : BytesAt W.heap.size W t ys) (hb : 4 ≤ b.length) (hl : zs.length = ys.length ∧ zs.length % 2 = 0) (Lz : List Int) (hL : rwL p b zs ys src dst = Lz) (fL : Fit Lz) (lL : Lz.length = b.length) :
    Calls Tryz.prog 202 #[.int .u8 p, v, f, t, .int .u16 src, .int .u16 dst] W fun e w' => ∃ g k, e = .returned (.tuple #[.slice (some ⟨g, 0, none⟩) b.length k, .int .i64 0]) ∧ RowC w' (.slice (some ⟨g, 0, none⟩) b.length k) Lz ∧ Below W.heap.size W w' := by
  refine (Rewrite_good p v f t b zs ys src dst hs hd W hv hf ht hp hb).mono ?_
  rintro e w' ⟨_, h2, h3⟩
  have hE : rwE p b zs ys = 0 := by
    unfold rwE
    rw [if_neg (by rw [hp]; decide), if_neg (by omega), if_pos hl]
  obtain ⟨g, k, e1, e2, _, e4⟩ := h2 hE
  rw [hL] at e4
  have hbl := hv.len
  exact ⟨g, k, e1, .of_bytes (e4.all fL (by rw [lL]; exact hbl) b.length k lL.symm) e2, h3⟩
end Go.Proofs.YtpgnnplpcalbbaaGreat
namespace Go.Proofs.YtpgnnplpcalbbaaGreat
open Go Go.RowKit Go.Shelf
def RwC (p : Int) (L zs ys : List Int) (src dst : Int) (Z : List Int) : Prop := ∀ W v f t, RowC W v L → BytesAt W.heap.size W f zs → BytesAt W.heap.size W t ys →
    Calls Tryz.prog 202 #[.int .u8 p, v, f, t, .int .u16 src, .int .u16 dst] W fun e w' => ∃ v', e = .returned (.tuple #[v', .int .i64 0]) ∧ RowC w' v' Z ∧ Below W.heap.size W w'
theorem rwC_of (p : Int) (hp : kIs p = true) (L zs ys : List Int) (src dst : Int) (hs : 0 ≤ src ∧ src ≤ 65535) (hd : 0 ≤ dst ∧ dst ≤ 65535) (Z : List Int) (hL : rwL p L zs ys src dst = Z) (h4 : 4 ≤ L.length) (hl : zs.length = ys.length ∧ zs.length % 2 = 0) (fZ : Fit Z) (lZ : Z.length = L.length) : RwC p L zs ys src dst Z := by
  intro W v f t hv hf ht
  refine (rewrite_ok p hp v f t L zs ys src dst hs hd W hv hf ht h4 hl Z hL fZ lZ).mono ?_
  rintro e w' ⟨g, k, h1, h2, h3⟩
  exact ⟨_, h1, h2, h3⟩
def PaU (f : Nat) (A B : List Int) (Z : List Int) (tl : List Value) (src dst : Int) (x : List Int) : Prop := ∀ W v, RowC W v Z → Calls Tryz.prog f #[.agg (u8L A).toArray, .agg (u8L B).toArray, v] W fun e w' => ∃ c : List Value, e = .returned (.tuple (.agg c.toArray :: tl).toArray) ∧ UdpC w' c src dst x ∧ Below W.heap.size W w'
def PaT (f : Nat) (A B : List Int) (Z : List Int) (t : Seg) : Prop := ∀ W v, RowC W v Z → Calls Tryz.prog f #[.agg (u8L A).toArray, .agg (u8L B).toArray, v] W fun e w' => ∃ c : List Value, e = .returned (.tuple #[.agg c.toArray, .int .i64 0]) ∧ TcpN W w' c t ∧ Below W.heap.size W w'
end Go.Proofs.YtpgnnplpcalbbaaGreat
