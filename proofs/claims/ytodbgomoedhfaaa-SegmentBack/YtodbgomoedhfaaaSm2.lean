/-
  SegmentBack: the walk.
-/
import Derived.Test.YtodbgomoedhfaaaSm1
import Derived.Test.YtodbgomoedhfaaaSg8
import Derived.Test.YtodbgomoedhfaaaSg9
import Derived.Test.YtodbgomoedhfaaaSj2
namespace Go.Proofs.Ytodbgomoedhfaaa
open Go Go.RowKit Go.Shelf
set_option linter.unusedVariables false
set_option linter.unusedSimpArgs false

theorem OB.rowC {base : Nat} {w wx : World} {v : Value} {zs : List Int} (h : OB base w wx v zs) (hf : Fit zs) (hl : zs.length ≤ 140737488351232) : RowC wx v zs := by
  have hb := h.bytes hf hl
  by_cases h0 : zs.length = 0
  · obtain ⟨a, cap, e, _⟩ := hb.val
    subst e
    exact .of_bytes hb (by omega)
  · obtain ⟨g, cap, e, hc, _⟩ := own_G h.own (by omega)
    subst e
    exact .of_bytes hb hc
theorem OB.slc {base : Nat} {w wx : World} {v : Value} {zs : List Int} (h : OB base w wx v zs) : ∃ a n cp, v = .slice a n cp := by
  obtain ⟨a, cap, e, _⟩ := own_form h.own
  exact ⟨_, _, _, e⟩
theorem UdpC.one' {w : World} {c : List Value} {s d : Int} {x : List Int} (h : UdpC w c s d x) : ∀ v ∈ c, v.oneCell' = true := by
  obtain ⟨⟨vd, rfl, hd⟩, _⟩ := h
  obtain ⟨a, k, rfl, _⟩ := hd.val
  simp [Value.oneCell']
theorem udpL_fit2 {ph : Int → Int → List Int} (h : PhOK ph) {s d : Int} {x : List Int} (hs : 0 ≤ s ∧ s ≤ 65535) (hd : 0 ≤ d ∧ d ≤ 65535) (hf : Fit x) (hn : 8 + x.length ≤ 65535) : Fit (udpL ph s d x) := by
  have := udpB_fit (ph := ph) hs hd hf h.fit
  unfold udpB at this
  rw [if_pos hn] at this
  exact this.1
theorem tcpL_fit2 {ph : Int → Int → List Int} (h : PhOK ph) {w : World} {c : List Value} {t : Seg} (ht : TcpC w c t) (hn : tcpE t = 0) : Fit (tcpL ph t) := by
  have := tcpB_fit (ph := ph) ht h.fit
  unfold tcpB at this
  rw [if_pos hn] at this
  exact this.1

set_option maxHeartbeats 8000000 in
set_option maxRecDepth 100000 in
theorem segmentBack_walk (A B C D : List Int) (la : A.length = 4) (lb : B.length = 4) (lc : C.length = 16) (ld : D.length = 16) (fa : Fit A) (fb : Fit B) (fc : Fit C) (fd : Fit D) (u c : List Value) (s d : Int) (x : List Int) (t : Seg) (w : World) (hu : UdpC w u s d x) (ht : TcpC w c t) :
    Calls Try.prog 9 #[.agg (endsC A B C D).toArray, .agg u.toArray, .agg c.toArray] w fun e w' => e = .returned (.bool true) ∧ Below w.heap.size w w' := by
  obtain ⟨W0, hW0⟩ : ∃ W0, ((w.alloc (.cells (endsC A B C D).toArray 27)).alloc (.cells u.toArray 31)).alloc (.cells c.toArray 34) = W0 := ⟨_, rfl⟩
  have b1 := blk_alloc (blk_new (w.alloc (.cells (endsC A B C D).toArray 27)) (.cells u.toArray 31)) (.cells c.toArray 34)
  have b2 := blk_new ((w.alloc (.cells (endsC A B C D).toArray 27)).alloc (.cells u.toArray 31)) (.cells c.toArray 34)
  have hB : Below w.heap.size w (((w.alloc (.cells (endsC A B C D).toArray 27)).alloc (.cells u.toArray 31)).alloc (.cells c.toArray 34)) := (((Below.refl _ w).alloc (Nat.le_refl _) _).alloc (by simp) _).alloc (by simp <;> omega) _
  have hE0 : EndsBox (((w.alloc (.cells (endsC A B C D).toArray 27)).alloc (.cells u.toArray 31)).alloc (.cells c.toArray 34)) w.heap.size A B C D := (ends_new w la lb lc ld fa fb fc fd).on (((Below.refl _ _).alloc (Nat.le_refl _) _).alloc (by simp) _)
  rw [hW0] at b1 b2 hB hE0
  have s1 : (w.alloc (.cells (endsC A B C D).toArray 27)).heap.size = w.heap.size + 1 := by simp
  have s2 : ((w.alloc (.cells (endsC A B C D).toArray 27)).alloc (.cells u.toArray 31)).heap.size = w.heap.size + 1 + 1 := by simp
  rw [s1] at b1
  rw [s2] at b2
  have hUt : ∀ W, Below W0.heap.size W0 W → UdpC W u s d x := fun W hW => hu.on (hB.trans (hW.mono hB.size))
  have hTt : ∀ W, Below W0.heap.size W0 W → TcpC W c t := fun W hW => ht.on (hB.trans (hW.mono hB.size))
  have HE : Hid (∀ W, Below W0.heap.size W0 W → EndsBox W w.heap.size A B C D) := fun W hW => hE0.on hW
  have HU : Hid (∀ W, Below W0.heap.size W0 W → (Instr.loadAt 31 (.pointer (some ⟨w.heap.size + 1, 0, none⟩))).run Try.prog W = .ok (.agg u.toArray) W) := fun W hW => agg_load Try.isAgg31 Try.sizeOf31 hu.len (CellsAt.of_blk (blk_on b1 hW))
  have HT : Hid (∀ W, Below W0.heap.size W0 W → (Instr.loadAt 34 (.pointer (some ⟨w.heap.size + 1 + 1, 0, none⟩))).run Try.prog W = .ok (.agg c.toArray) W) := fun W hW => agg_load Try.isAgg34 Try.sizeOf34 ht.len (CellsAt.of_blk (blk_on b2 hW))
  have o4 := ph4_ok la lb fa fb
  have o6 := ph6_ok lc ld fc fd
  obtain ⟨vd, -, hvd⟩ := hu.val
  have M1 : Hid (∀ W, Below W0.heap.size W0 W → Calls Try.prog 13 #[.agg (u8L A).toArray, .agg (u8L B).toArray, .agg u.toArray] W (Wrote2 W (udpB (ph4 A B) s d x) (udpE x))) := fun W hW => WriteUDP4_any A B la lb fa fb u s d x W (hUt W hW)
  have M3 : Hid (∀ W, Below W0.heap.size W0 W → Calls Try.prog 15 #[.agg (u8L C).toArray, .agg (u8L D).toArray, .agg u.toArray] W (Wrote2 W (udpB (ph6 C D) s d x) (udpE x))) := fun W hW => WriteUDP6_any C D lc ld fc fd u s d x W (hUt W hW)
  have M5 : Hid (∀ W, Below W0.heap.size W0 W → Calls Try.prog 16 #[.agg (u8L A).toArray, .agg (u8L B).toArray, .agg c.toArray] W (Wrote2 W (tcpB (ph4 A B) t) (tcpE t))) := fun W hW => WriteTCP4_any A B la lb fa fb c t W (hTt W hW)
  have M7 : Hid (∀ W, Below W0.heap.size W0 W → Calls Try.prog 18 #[.agg (u8L C).toArray, .agg (u8L D).toArray, .agg c.toArray] W (Wrote2 W (tcpB (ph6 C D) t) (tcpE t))) := fun W hW => WriteTCP6_any C D lc ld fc fd c t W (hTt W hW)
  have UOK : Hid (udpE x = 0 → udpB (ph4 A B) s d x = udpL (ph4 A B) s d x ∧ udpB (ph6 C D) s d x = udpL (ph6 C D) s d x ∧ (∀ W v base w0, OB base w0 W v (udpL (ph4 A B) s d x) → RowC W v (udpL (ph4 A B) s d x)) ∧ (∀ W v base w0, OB base w0 W v (udpL (ph6 C D) s d x) → RowC W v (udpL (ph6 C D) s d x)) ∧ (∀ W v, RowC W v (udpL (ph4 A B) s d x) → Calls Try.prog 20 #[.agg (u8L A).toArray, .agg (u8L B).toArray, v] W fun e w' => ∃ c : List Value, e = .returned (.tuple #[.agg c.toArray, .bool false, .int .i64 0]) ∧ UdpC w' c s d x ∧ Below W.heap.size W w') ∧ (∀ W v, RowC W v (udpL (ph6 C D) s d x) → Calls Try.prog 22 #[.agg (u8L C).toArray, .agg (u8L D).toArray, v] W fun e w' => ∃ c : List Value, e = .returned (.tuple #[.agg c.toArray, .int .i64 0]) ∧ UdpC w' c s d x ∧ Below W.heap.size W w')) := fun h0 => by
    have hn : 8 + x.length ≤ 65535 := by
      unfold udpE at h0
      split at h0
      · assumption
      · omega
    have f4 := udpL_fit2 o4 hu.fs hu.fd hvd.fit hn
    have f6 := udpL_fit2 o6 hu.fs hu.fd hvd.fit hn
    refine ⟨if_pos hn, if_pos hn, fun W v base w0 h => h.rowC f4 (by rw [udpL_length]; omega), fun W v base w0 h => h.rowC f6 (by rw [udpL_length]; omega), fun W v h => ?_, fun W v h => ?_⟩
    · obtain ⟨q1, q2, q3, q4, q5⟩ := udp_back 4 o4 hu.fs hu.fd hvd.fit hn
      have k := ParseUDP4_any A B la lb fa fb v _ W h
      unfold ParU at k
      rw [q1, q2, q3, q4, q5] at k
      exact k
    · obtain ⟨q1, q2, q3, q4, q5⟩ := udp_back 16 o6 hu.fs hu.fd hvd.fit hn
      have k := ParseUDP6_any C D lc ld fc fd v _ W h
      unfold ParV at k
      rw [q1, q2, q3, q4] at k
      exact k
  have TOK : Hid (tcpE t = 0 → tcpB (ph4 A B) t = tcpL (ph4 A B) t ∧ tcpB (ph6 C D) t = tcpL (ph6 C D) t ∧ (∀ W v base w0, OB base w0 W v (tcpL (ph4 A B) t) → RowC W v (tcpL (ph4 A B) t)) ∧ (∀ W v base w0, OB base w0 W v (tcpL (ph6 C D) t) → RowC W v (tcpL (ph6 C D) t)) ∧ (∀ W v, RowC W v (tcpL (ph4 A B) t) → Calls Try.prog 24 #[.agg (u8L A).toArray, .agg (u8L B).toArray, v] W fun e w' => ∃ c : List Value, e = .returned (.tuple #[.agg c.toArray, .int .i64 0]) ∧ TcpC w' c t ∧ Below W.heap.size W w') ∧ (∀ W v, RowC W v (tcpL (ph6 C D) t) → Calls Try.prog 26 #[.agg (u8L C).toArray, .agg (u8L D).toArray, v] W fun e w' => ∃ c : List Value, e = .returned (.tuple #[.agg c.toArray, .int .i64 0]) ∧ TcpC w' c t ∧ Below W.heap.size W w')) := fun h0 => by
    have f4 := tcpL_fit2 o4 ht h0
    have f6 := tcpL_fit2 o6 ht h0
    have hn := (tcpE_zero h0).2
    refine ⟨if_pos h0, if_pos h0, fun W v base w0 h => h.rowC f4 (by rw [tcpL_length]; omega), fun W v base w0 h => h.rowC f6 (by rw [tcpL_length]; omega), fun W v h => ?_, fun W v h => ?_⟩
    · obtain ⟨q1, q2⟩ := tcp_back o4 ht h0 f4
      refine (ParseTCP4_any A B la lb fa fb v _ W h).mono ?_
      rintro e w' ⟨c', k1, k2, k3⟩
      rw [q1] at k1
      rw [q2] at k2
      exact ⟨c', k1, k2.1, k3⟩
    · obtain ⟨q1, q2⟩ := tcp_back o6 ht h0 f6
      refine (ParseTCP6_any C D lc ld fc fd v _ W h).mono ?_
      rintro e w' ⟨c', k1, k2, k3⟩
      rw [q1] at k1
      rw [q2] at k2
      exact ⟨c', k1, k2.1, k3⟩
  have TNO : Hid (¬ tcpE t = 0 → tcpB (ph4 A B) t = [] ∧ ∀ W v base w0, OB base w0 W v [] → ∃ a cp, v = .slice a 0 cp) := fun h0 => ⟨if_neg h0, fun W v base w0 h => by
    obtain ⟨a, cp, e, _⟩ := (h.bytes (fit_of _ rfl) (by simp)).val
    exact ⟨a, cp, e⟩⟩
  have SU : Hid (∀ W c2, Below W0.heap.size W0 W → UdpC W c2 s d x → Calls Try.prog 23 #[.agg u.toArray, .agg c2.toArray] W fun e w' => e = .returned (.bool true) ∧ Below W.heap.size W w') := fun W c2 hW h2 => by
    have k := RSameUDP_calls W (hUt W hW) h2
    rw [sameU_self] at k
    exact k
  have ST : Hid (∀ W c2, Below W0.heap.size W0 W → TcpC W c2 t → Calls Try.prog 27 #[.agg c.toArray, .agg c2.toArray] W fun e w' => e = .returned (.bool true) ∧ Below W.heap.size W w') := fun W c2 hW h2 => by
    have k := RSameTCP_calls W (hTt W hW) h2
    rw [sameT_self] at k
    exact k
  have HB : Hid _ := hB
  have hx0 : Below W0.heap.size W0 W0 := Below.refl _ _
  have HLA : Hid (∀ W, Below W0.heap.size W0 W → (Instr.loadAt 23 (.pointer (some ⟨w.heap.size, 0, none⟩))).run Try.prog W = .ok (.agg (u8L A).toArray) W) := fun W hW => (hE0.on hW).lA
  have HLB : Hid (∀ W, Below W0.heap.size W0 W → (Instr.loadAt 23 (.pointer (some ⟨w.heap.size, 4, none⟩))).run Try.prog W = .ok (.agg (u8L B).toArray) W) := fun W hW => (hE0.on hW).lB
  have HLC : Hid (∀ W, Below W0.heap.size W0 W → (Instr.loadAt 25 (.pointer (some ⟨w.heap.size, 8, none⟩))).run Try.prog W = .ok (.agg (u8L C).toArray) W) := fun W hW => (hE0.on hW).lC
  have HLD : Hid (∀ W, Below W0.heap.size W0 W → (Instr.loadAt 25 (.pointer (some ⟨w.heap.size, 24, none⟩))).run Try.prog W = .ok (.agg (u8L D).toArray) W) := fun W hW => (hE0.on hW).lD
  clear b1 b2 hB hE0 s1 s2 hUt hTt hu ht hvd fa fb fc fd la lb lc ld HE o4 o6
  generalize udpB (ph4 A B) s d x = U4 at *
  generalize udpB (ph6 C D) s d x = U6 at *
  generalize tcpB (ph4 A B) t = T4 at *
  generalize tcpB (ph6 C D) t = T6 at *
  generalize udpL (ph4 A B) s d x = V4 at *
  generalize udpL (ph6 C D) s d x = V6 at *
  generalize tcpL (ph4 A B) t = X4 at *
  generalize tcpL (ph6 C D) t = X6 at *
  generalize udpE x = ue at *
  generalize tcpE t = te at *
  generalize endsC A B C D = xE at *
  generalize u8L A = xA at *
  generalize u8L B = xB at *
  generalize u8L C = xC at *
  generalize u8L D = xD at *
  by_cases hu0 : ue = 0
  · by_cases ht0 : te = 0
    · skip
      obtain ⟨u4e, u6e, ur4, ur6, up4, up6⟩ := UOK.out hu0
      have UR4 : Hid _ := ur4
      have UR6 : Hid _ := ur6
      have UP4 : Hid _ := up4
      have UP6 : Hid _ := up6
      rw [u4e, hu0] at M1
      rw [u6e, hu0] at M3
      clear u4e u6e ur4 ur6 up4 up6 UOK
      obtain ⟨t4e, t6e, tr4, tr6, tp4, tp6⟩ := TOK.out ht0
      have TR4 : Hid _ := tr4
      have TR6 : Hid _ := tr6
      have TP4 : Hid _ := tp4
      have TP6 : Hid _ := tp6
      rw [t4e, ht0] at M5
      rw [t6e, ht0] at M7
      clear t4e t6e tr4 tr6 tp4 tp6 TOK TNO
      go_enter Try.func9, Try.ntmps9
      go_wp2_with fail
      refine Calls.mono (awake_calls6 _) ?_
      rintro _ w1 ⟨rfl, hx1⟩
      go_wp2_with first
        | ((with_reducible show wpList _ _ _ _ _ _); refine arm_load rfl (.tmp 26) 23 rfl rfl (HLA.out _ hx1) ?_)
        | ((with_reducible show wpList _ _ _ _ _ _); refine arm_load rfl (.tmp 28) 23 rfl rfl (HLB.out _ hx1) ?_)
        | ((with_reducible show wpList _ _ _ _ _ _); refine arm_load rfl (.tmp 4) 31 rfl rfl (HU.out _ hx1) ?_)
      refine Calls.mono (M1.out _ hx1) ?_
      rintro _ w2 ⟨v2, rfl, h2⟩
      have hx2 := hx1.trans (h2.bel.mono hx1.size)
      have hr2 := UR4.out _ _ _ _ h2
      have HP2 : Hid _ := UP4.out _ _ hr2
      obtain ⟨a2, c2, rfl, _⟩ := hr2.val
      clear h2 hr2
      go_wp2_with first
        | ((with_reducible show wpList _ _ _ _ _ _); refine arm_load rfl (.tmp 37) 23 rfl rfl (HLA.out _ hx2) ?_)
        | ((with_reducible show wpList _ _ _ _ _ _); refine arm_load rfl (.tmp 39) 23 rfl rfl (HLB.out _ hx2) ?_)
      refine Calls.mono HP2.out ?_
      rintro _ w3 ⟨d3, rfl, hd3, hb3⟩
      obtain ⟨w4, hst4, b4, hb4⟩ := box_new Try.sizeOf31 w3 [.int .u16 0, .int .u16 0, .slice none 0 0] rfl d3 hd3.len hd3.one'
      have hx3 := hx2.trans (hb3.mono hx2.size)
      have hx4 := hx3.trans (hb4.mono hx3.size)
      have HST4 : Hid _ := hst4
      have D3 : Hid (UdpC w4 d3 s d x) := hd3.on hb4
      have B4 : Hid _ := b4
      have N3 : Hid _ := hd3.len
      clear hd3 hb3 hb4 hst4 b4 hx3 HP2 hx2
      go_wp2_with first
        | ((with_reducible show wpList _ _ _ _ _ _); refine arm_store rfl (.tmp 9) (.tmp 43) 31 rfl rfl rfl HST4.out ?_)
        | ((with_reducible show wpList _ _ _ _ _ _); refine arm_load rfl (.tmp 47) 25 rfl rfl (HLC.out _ hx4) ?_)
        | ((with_reducible show wpList _ _ _ _ _ _); refine arm_load rfl (.tmp 49) 25 rfl rfl (HLD.out _ hx4) ?_)
        | ((with_reducible show wpList _ _ _ _ _ _); refine arm_load rfl (.tmp 4) 31 rfl rfl (HU.out _ hx4) ?_)
      refine Calls.mono (M3.out _ hx4) ?_
      rintro _ w5 ⟨v5, rfl, h5⟩
      have hx5 := hx4.trans (h5.bel.mono hx4.size)
      have hr5 := UR6.out _ _ _ _ h5
      have HP5 : Hid _ := UP6.out _ _ hr5
      have Y5 : Hid _ := h5.bel
      obtain ⟨a5, c5, rfl, _⟩ := hr5.val
      clear h5 hr5
      go_wp2_with first
        | ((with_reducible show wpList _ _ _ _ _ _); refine arm_load rfl (.tmp 56) 25 rfl rfl (HLC.out _ hx5) ?_)
        | ((with_reducible show wpList _ _ _ _ _ _); refine arm_load rfl (.tmp 58) 25 rfl rfl (HLD.out _ hx5) ?_)
      refine Calls.mono HP5.out ?_
      rintro _ w6 ⟨d6, rfl, hd6, hb6⟩
      obtain ⟨w7, hst7, b7, hb7⟩ := box_new Try.sizeOf31 w6 [.int .u16 0, .int .u16 0, .slice none 0 0] rfl d6 hd6.len hd6.one'
      have hx6 := hx5.trans (hb6.mono hx5.size)
      have hx7 := hx6.trans (hb7.mono hx6.size)
      have y67 := hb6.trans (hb7.mono hb6.size)
      have y47 := Y5.out.trans (y67.mono Y5.out.size)
      have L3 : Hid (∀ W, Below w7.heap.size w7 W → (Instr.loadAt 31 (.pointer (some ⟨w3.heap.size, 0, none⟩))).run Try.prog W = .ok (.agg d3.toArray) W) := fun W hW => agg_load Try.isAgg31 Try.sizeOf31 N3.out (CellsAt.of_blk (blk_on (blk_on B4.out y47) hW))
      have L6 : Hid (∀ W, Below w7.heap.size w7 W → (Instr.loadAt 31 (.pointer (some ⟨w6.heap.size, 0, none⟩))).run Try.prog W = .ok (.agg d6.toArray) W) := fun W hW => agg_load Try.isAgg31 Try.sizeOf31 hd6.len (CellsAt.of_blk (blk_on b7 hW))
      have S3 : Hid _ := SU.out w7 d3 hx7 (D3.out.on y47)
      have S6 : Hid (∀ W, Below w7.heap.size w7 W → Calls Try.prog 23 #[.agg u.toArray, .agg d6.toArray] W fun e w' => e = .returned (.bool true) ∧ Below W.heap.size W w') := fun W hW => SU.out W d6 (hx7.trans (hW.mono hx7.size)) ((hd6.on hb7).on hW)
      have HST7 : Hid _ := hst7
      have hv0 : Below w7.heap.size w7 w7 := Below.refl _ _
      clear hd6 hb6 hb7 hst7 b7 hx6 y67 y47 hx5 hx4 D3 B4 N3 Y5 HP5 HST4
      go_wp2_with first
        | ((with_reducible show wpList _ _ _ _ _ _); refine arm_store rfl (.tmp 14) (.tmp 62) 31 rfl rfl rfl HST7.out ?_)
        | ((with_reducible show wpList _ _ _ _ _ _); refine arm_load rfl (.tmp 4) 31 rfl rfl (HU.out _ hx7) ?_)
        | ((with_reducible show wpList _ _ _ _ _ _); refine arm_load rfl (.tmp 9) 31 rfl rfl (L3.out _ hv0) ?_)
      refine Calls.mono S3.out ?_
      rintro _ w8 ⟨rfl, hv8⟩
      have hx8 := hx7.trans (hv8.mono hx7.size)
      go_wp2_with first
        | ((with_reducible show wpList _ _ _ _ _ _); refine arm_load rfl (.tmp 4) 31 rfl rfl (HU.out _ hx8) ?_)
        | ((with_reducible show wpList _ _ _ _ _ _); refine arm_load rfl (.tmp 14) 31 rfl rfl (L6.out _ hv8) ?_)
      refine Calls.mono (S6.out _ hv8) ?_
      rintro _ w9 ⟨rfl, hv9⟩
      have hx9 := hx8.trans (hv9.mono hx8.size)
      clear S3 S6 L3 L6 HST7 hv0 hv8 hv9 hx7 hx8
      go_wp2_with first
        | ((with_reducible show wpList _ _ _ _ _ _); refine arm_load rfl (.tmp 90) 23 rfl rfl (HLA.out _ hx9) ?_)
        | ((with_reducible show wpList _ _ _ _ _ _); refine arm_load rfl (.tmp 92) 23 rfl rfl (HLB.out _ hx9) ?_)
        | ((with_reducible show wpList _ _ _ _ _ _); refine arm_load rfl (.tmp 5) 34 rfl rfl (HT.out _ hx9) ?_)
      refine Calls.mono (M5.out _ hx9) ?_
      rintro _ wa ⟨va, rfl, ha⟩
      have hxa := hx9.trans (ha.bel.mono hx9.size)
      have hra := TR4.out _ _ _ _ ha
      have HPa : Hid _ := TP4.out _ _ hra
      obtain ⟨aa, ca, rfl, _⟩ := hra.val
      clear ha hra
      go_wp2_with first
        | ((with_reducible show wpList _ _ _ _ _ _); refine arm_load rfl (.tmp 104) 23 rfl rfl (HLA.out _ hxa) ?_)
        | ((with_reducible show wpList _ _ _ _ _ _); refine arm_load rfl (.tmp 106) 23 rfl rfl (HLB.out _ hxa) ?_)
      refine Calls.mono HPa.out ?_
      rintro _ wb ⟨db, rfl, hdb, hbb⟩
      obtain ⟨wc, hstc, bc, hbc⟩ := box_new Try.sizeOf34 wb [.int .u16 0, .int .u16 0, .int .u32 0, .int .u32 0, .int .u8 0, .int .u16 0, .int .u16 0, .slice none 0 0, .slice none 0 0] rfl db hdb.len hdb.one
      have hxb := hxa.trans (hbb.mono hxa.size)
      have hxc := hxb.trans (hbc.mono hxb.size)
      have HSTC : Hid _ := hstc
      have DB : Hid (TcpC wc db t) := hdb.on hbc
      have BC : Hid _ := bc
      have NB : Hid _ := hdb.len
      clear hdb hbb hbc hstc bc hxb HPa hxa
      go_wp2_with first
        | ((with_reducible show wpList _ _ _ _ _ _); refine arm_store rfl (.tmp 17) (.tmp 110) 34 rfl rfl rfl HSTC.out ?_)
        | ((with_reducible show wpList _ _ _ _ _ _); refine arm_load rfl (.tmp 113) 25 rfl rfl (HLC.out _ hxc) ?_)
        | ((with_reducible show wpList _ _ _ _ _ _); refine arm_load rfl (.tmp 115) 25 rfl rfl (HLD.out _ hxc) ?_)
        | ((with_reducible show wpList _ _ _ _ _ _); refine arm_load rfl (.tmp 5) 34 rfl rfl (HT.out _ hxc) ?_)
      refine Calls.mono (M7.out _ hxc) ?_
      rintro _ wd ⟨vd2, rfl, hd2⟩
      have hxd := hxc.trans (hd2.bel.mono hxc.size)
      have hrd := TR6.out _ _ _ _ hd2
      have HPd : Hid _ := TP6.out _ _ hrd
      have Yd : Hid _ := hd2.bel
      obtain ⟨ad, cd, rfl, _⟩ := hrd.val
      clear hd2 hrd
      go_wp2_with first
        | ((with_reducible show wpList _ _ _ _ _ _); refine arm_load rfl (.tmp 122) 25 rfl rfl (HLC.out _ hxd) ?_)
        | ((with_reducible show wpList _ _ _ _ _ _); refine arm_load rfl (.tmp 124) 25 rfl rfl (HLD.out _ hxd) ?_)
      refine Calls.mono HPd.out ?_
      rintro _ we ⟨de, rfl, hde, hbe⟩
      obtain ⟨wf, hstf, bf, hbf⟩ := box_new Try.sizeOf34 we [.int .u16 0, .int .u16 0, .int .u32 0, .int .u32 0, .int .u8 0, .int .u16 0, .int .u16 0, .slice none 0 0, .slice none 0 0] rfl de hde.len hde.one
      have hxe := hxd.trans (hbe.mono hxd.size)
      have hxf := hxe.trans (hbf.mono hxe.size)
      have yef := hbe.trans (hbf.mono hbe.size)
      have ycf := Yd.out.trans (yef.mono Yd.out.size)
      have LB2 : Hid (∀ W, Below wf.heap.size wf W → (Instr.loadAt 34 (.pointer (some ⟨wb.heap.size, 0, none⟩))).run Try.prog W = .ok (.agg db.toArray) W) := fun W hW => agg_load Try.isAgg34 Try.sizeOf34 NB.out (CellsAt.of_blk (blk_on (blk_on BC.out ycf) hW))
      have LE2 : Hid (∀ W, Below wf.heap.size wf W → (Instr.loadAt 34 (.pointer (some ⟨we.heap.size, 0, none⟩))).run Try.prog W = .ok (.agg de.toArray) W) := fun W hW => agg_load Try.isAgg34 Try.sizeOf34 hde.len (CellsAt.of_blk (blk_on bf hW))
      have LT2 : Hid (∀ W, Below wf.heap.size wf W → (Instr.loadAt 34 (.pointer (some ⟨w.heap.size + 1 + 1, 0, none⟩))).run Try.prog W = .ok (.agg c.toArray) W) := fun W hW => HT.out W (hxf.trans (hW.mono hxf.size))
      have SB : Hid _ := ST.out wf db hxf (DB.out.on ycf)
      have SE : Hid (∀ W, Below wf.heap.size wf W → Calls Try.prog 27 #[.agg c.toArray, .agg de.toArray] W fun e w' => e = .returned (.bool true) ∧ Below W.heap.size W w') := fun W hW => ST.out W de (hxf.trans (hW.mono hxf.size)) ((hde.on hbf).on hW)
      have HSTF : Hid _ := hstf
      have HF : Hid (Below w.heap.size w wf) := HB.out.trans (hxf.mono HB.out.size)
      have hz0 : Below wf.heap.size wf wf := Below.refl _ _
      clear hde hbe hbf hstf bf hxe hxf yef ycf hxd hxc DB BC NB Yd HPd HSTC HLA HLB HLC HLD HT HU ST SU
      go_wp2_with first
        | ((with_reducible show wpList _ _ _ _ _ _); refine arm_store rfl (.tmp 21) (.tmp 128) 34 rfl rfl rfl HSTF.out ?_)
        | ((with_reducible show wpList _ _ _ _ _ _); refine arm_load rfl (.tmp 5) 34 rfl rfl (LT2.out _ hz0) ?_)
        | ((with_reducible show wpList _ _ _ _ _ _); refine arm_load rfl (.tmp 17) 34 rfl rfl (LB2.out _ hz0) ?_)
      refine Calls.mono SB.out ?_
      rintro _ wg ⟨rfl, hzg⟩
      go_wp2_with first
        | ((with_reducible show wpList _ _ _ _ _ _); refine arm_load rfl (.tmp 5) 34 rfl rfl (LT2.out _ hzg) ?_)
        | ((with_reducible show wpList _ _ _ _ _ _); refine arm_load rfl (.tmp 21) 34 rfl rfl (LE2.out _ hzg) ?_)
      refine Calls.mono (SE.out _ hzg) ?_
      rintro _ wh ⟨rfl, hzh⟩
      have HZ : Hid _ := hzg.trans (hzh.mono hzg.size)
      clear hzh
      go_wp2
      go_ret
      exact ⟨rfl, HF.out.trans (HZ.out.mono HF.out.size)⟩
    · skip
      obtain ⟨u4e, u6e, ur4, ur6, up4, up6⟩ := UOK.out hu0
      have UR4 : Hid _ := ur4
      have UR6 : Hid _ := ur6
      have UP4 : Hid _ := up4
      have UP6 : Hid _ := up6
      rw [u4e, hu0] at M1
      rw [u6e, hu0] at M3
      clear u4e u6e ur4 ur6 up4 up6 UOK
      obtain ⟨t4e, tn⟩ := TNO.out ht0
      have TN2 : Hid _ := tn
      rw [t4e] at M5
      have qt : (te != 0) = true := by simpa using ht0
      clear t4e tn TOK TNO ht0 M7
      go_enter Try.func9, Try.ntmps9
      go_wp2_with fail
      refine Calls.mono (awake_calls6 _) ?_
      rintro _ w1 ⟨rfl, hx1⟩
      go_wp2_with first
        | ((with_reducible show wpList _ _ _ _ _ _); refine arm_load rfl (.tmp 26) 23 rfl rfl (HLA.out _ hx1) ?_)
        | ((with_reducible show wpList _ _ _ _ _ _); refine arm_load rfl (.tmp 28) 23 rfl rfl (HLB.out _ hx1) ?_)
        | ((with_reducible show wpList _ _ _ _ _ _); refine arm_load rfl (.tmp 4) 31 rfl rfl (HU.out _ hx1) ?_)
      refine Calls.mono (M1.out _ hx1) ?_
      rintro _ w2 ⟨v2, rfl, h2⟩
      have hx2 := hx1.trans (h2.bel.mono hx1.size)
      have hr2 := UR4.out _ _ _ _ h2
      have HP2 : Hid _ := UP4.out _ _ hr2
      obtain ⟨a2, c2, rfl, _⟩ := hr2.val
      clear h2 hr2
      go_wp2_with first
        | ((with_reducible show wpList _ _ _ _ _ _); refine arm_load rfl (.tmp 37) 23 rfl rfl (HLA.out _ hx2) ?_)
        | ((with_reducible show wpList _ _ _ _ _ _); refine arm_load rfl (.tmp 39) 23 rfl rfl (HLB.out _ hx2) ?_)
      refine Calls.mono HP2.out ?_
      rintro _ w3 ⟨d3, rfl, hd3, hb3⟩
      obtain ⟨w4, hst4, b4, hb4⟩ := box_new Try.sizeOf31 w3 [.int .u16 0, .int .u16 0, .slice none 0 0] rfl d3 hd3.len hd3.one'
      have hx3 := hx2.trans (hb3.mono hx2.size)
      have hx4 := hx3.trans (hb4.mono hx3.size)
      have HST4 : Hid _ := hst4
      have D3 : Hid (UdpC w4 d3 s d x) := hd3.on hb4
      have B4 : Hid _ := b4
      have N3 : Hid _ := hd3.len
      clear hd3 hb3 hb4 hst4 b4 hx3 HP2 hx2
      go_wp2_with first
        | ((with_reducible show wpList _ _ _ _ _ _); refine arm_store rfl (.tmp 9) (.tmp 43) 31 rfl rfl rfl HST4.out ?_)
        | ((with_reducible show wpList _ _ _ _ _ _); refine arm_load rfl (.tmp 47) 25 rfl rfl (HLC.out _ hx4) ?_)
        | ((with_reducible show wpList _ _ _ _ _ _); refine arm_load rfl (.tmp 49) 25 rfl rfl (HLD.out _ hx4) ?_)
        | ((with_reducible show wpList _ _ _ _ _ _); refine arm_load rfl (.tmp 4) 31 rfl rfl (HU.out _ hx4) ?_)
      refine Calls.mono (M3.out _ hx4) ?_
      rintro _ w5 ⟨v5, rfl, h5⟩
      have hx5 := hx4.trans (h5.bel.mono hx4.size)
      have hr5 := UR6.out _ _ _ _ h5
      have HP5 : Hid _ := UP6.out _ _ hr5
      have Y5 : Hid _ := h5.bel
      obtain ⟨a5, c5, rfl, _⟩ := hr5.val
      clear h5 hr5
      go_wp2_with first
        | ((with_reducible show wpList _ _ _ _ _ _); refine arm_load rfl (.tmp 56) 25 rfl rfl (HLC.out _ hx5) ?_)
        | ((with_reducible show wpList _ _ _ _ _ _); refine arm_load rfl (.tmp 58) 25 rfl rfl (HLD.out _ hx5) ?_)
      refine Calls.mono HP5.out ?_
      rintro _ w6 ⟨d6, rfl, hd6, hb6⟩
      obtain ⟨w7, hst7, b7, hb7⟩ := box_new Try.sizeOf31 w6 [.int .u16 0, .int .u16 0, .slice none 0 0] rfl d6 hd6.len hd6.one'
      have hx6 := hx5.trans (hb6.mono hx5.size)
      have hx7 := hx6.trans (hb7.mono hx6.size)
      have y67 := hb6.trans (hb7.mono hb6.size)
      have y47 := Y5.out.trans (y67.mono Y5.out.size)
      have L3 : Hid (∀ W, Below w7.heap.size w7 W → (Instr.loadAt 31 (.pointer (some ⟨w3.heap.size, 0, none⟩))).run Try.prog W = .ok (.agg d3.toArray) W) := fun W hW => agg_load Try.isAgg31 Try.sizeOf31 N3.out (CellsAt.of_blk (blk_on (blk_on B4.out y47) hW))
      have L6 : Hid (∀ W, Below w7.heap.size w7 W → (Instr.loadAt 31 (.pointer (some ⟨w6.heap.size, 0, none⟩))).run Try.prog W = .ok (.agg d6.toArray) W) := fun W hW => agg_load Try.isAgg31 Try.sizeOf31 hd6.len (CellsAt.of_blk (blk_on b7 hW))
      have S3 : Hid _ := SU.out w7 d3 hx7 (D3.out.on y47)
      have S6 : Hid (∀ W, Below w7.heap.size w7 W → Calls Try.prog 23 #[.agg u.toArray, .agg d6.toArray] W fun e w' => e = .returned (.bool true) ∧ Below W.heap.size W w') := fun W hW => SU.out W d6 (hx7.trans (hW.mono hx7.size)) ((hd6.on hb7).on hW)
      have HST7 : Hid _ := hst7
      have hv0 : Below w7.heap.size w7 w7 := Below.refl _ _
      clear hd6 hb6 hb7 hst7 b7 hx6 y67 y47 hx5 hx4 D3 B4 N3 Y5 HP5 HST4
      go_wp2_with first
        | ((with_reducible show wpList _ _ _ _ _ _); refine arm_store rfl (.tmp 14) (.tmp 62) 31 rfl rfl rfl HST7.out ?_)
        | ((with_reducible show wpList _ _ _ _ _ _); refine arm_load rfl (.tmp 4) 31 rfl rfl (HU.out _ hx7) ?_)
        | ((with_reducible show wpList _ _ _ _ _ _); refine arm_load rfl (.tmp 9) 31 rfl rfl (L3.out _ hv0) ?_)
      refine Calls.mono S3.out ?_
      rintro _ w8 ⟨rfl, hv8⟩
      have hx8 := hx7.trans (hv8.mono hx7.size)
      go_wp2_with first
        | ((with_reducible show wpList _ _ _ _ _ _); refine arm_load rfl (.tmp 4) 31 rfl rfl (HU.out _ hx8) ?_)
        | ((with_reducible show wpList _ _ _ _ _ _); refine arm_load rfl (.tmp 14) 31 rfl rfl (L6.out _ hv8) ?_)
      refine Calls.mono (S6.out _ hv8) ?_
      rintro _ w9 ⟨rfl, hv9⟩
      have hx9 := hx8.trans (hv9.mono hx8.size)
      clear S3 S6 L3 L6 HST7 hv0 hv8 hv9 hx7 hx8
      go_wp2_with first
        | ((with_reducible show wpList _ _ _ _ _ _); refine arm_load rfl (.tmp 90) 23 rfl rfl (HLA.out _ hx9) ?_)
        | ((with_reducible show wpList _ _ _ _ _ _); refine arm_load rfl (.tmp 92) 23 rfl rfl (HLB.out _ hx9) ?_)
        | ((with_reducible show wpList _ _ _ _ _ _); refine arm_load rfl (.tmp 5) 34 rfl rfl (HT.out _ hx9) ?_)
      refine Calls.mono (M5.out _ hx9) ?_
      rintro _ wa ⟨va, rfl, ha⟩
      have hxa := hx9.trans (ha.bel.mono hx9.size)
      obtain ⟨aa, ca, rfl⟩ := TN2.out _ _ _ _ ha
      have HF : Hid (Below w.heap.size w wa) := HB.out.trans (hxa.mono HB.out.size)
      clear ha hxa
      go_wp2
      go_ret
      exact ⟨rfl, HF.out⟩
  · by_cases ht0 : te = 0
    · skip
      have qu : (ue == 0) = false := by simpa using hu0
      clear UOK hu0 M3
      obtain ⟨t4e, t6e, tr4, tr6, tp4, tp6⟩ := TOK.out ht0
      have TR4 : Hid _ := tr4
      have TR6 : Hid _ := tr6
      have TP4 : Hid _ := tp4
      have TP6 : Hid _ := tp6
      rw [t4e, ht0] at M5
      rw [t6e, ht0] at M7
      clear t4e t6e tr4 tr6 tp4 tp6 TOK TNO
      go_enter Try.func9, Try.ntmps9
      go_wp2_with fail
      refine Calls.mono (awake_calls6 _) ?_
      rintro _ w1 ⟨rfl, hx1⟩
      go_wp2_with first
        | ((with_reducible show wpList _ _ _ _ _ _); refine arm_load rfl (.tmp 26) 23 rfl rfl (HLA.out _ hx1) ?_)
        | ((with_reducible show wpList _ _ _ _ _ _); refine arm_load rfl (.tmp 28) 23 rfl rfl (HLB.out _ hx1) ?_)
        | ((with_reducible show wpList _ _ _ _ _ _); refine arm_load rfl (.tmp 4) 31 rfl rfl (HU.out _ hx1) ?_)
      refine Calls.mono (M1.out _ hx1) ?_
      rintro _ w2 ⟨v2, rfl, h2⟩
      have hx2 := hx1.trans (h2.bel.mono hx1.size)
      obtain ⟨a2, n2, c2, rfl⟩ := OB.slc h2
      clear h2
      go_wp2_with first
        | ((with_reducible show wpList _ _ _ _ _ _); refine arm_load rfl (.tmp 90) 23 rfl rfl (HLA.out _ hx2) ?_)
        | ((with_reducible show wpList _ _ _ _ _ _); refine arm_load rfl (.tmp 92) 23 rfl rfl (HLB.out _ hx2) ?_)
        | ((with_reducible show wpList _ _ _ _ _ _); refine arm_load rfl (.tmp 5) 34 rfl rfl (HT.out _ hx2) ?_)
      refine Calls.mono (M5.out _ hx2) ?_
      rintro _ wa ⟨va, rfl, ha⟩
      have hxa := hx2.trans (ha.bel.mono hx2.size)
      have hra := TR4.out _ _ _ _ ha
      have HPa : Hid _ := TP4.out _ _ hra
      obtain ⟨aa, ca, rfl, _⟩ := hra.val
      clear ha hra
      go_wp2_with first
        | ((with_reducible show wpList _ _ _ _ _ _); refine arm_load rfl (.tmp 104) 23 rfl rfl (HLA.out _ hxa) ?_)
        | ((with_reducible show wpList _ _ _ _ _ _); refine arm_load rfl (.tmp 106) 23 rfl rfl (HLB.out _ hxa) ?_)
      refine Calls.mono HPa.out ?_
      rintro _ wb ⟨db, rfl, hdb, hbb⟩
      obtain ⟨wc, hstc, bc, hbc⟩ := box_new Try.sizeOf34 wb [.int .u16 0, .int .u16 0, .int .u32 0, .int .u32 0, .int .u8 0, .int .u16 0, .int .u16 0, .slice none 0 0, .slice none 0 0] rfl db hdb.len hdb.one
      have hxb := hxa.trans (hbb.mono hxa.size)
      have hxc := hxb.trans (hbc.mono hxb.size)
      have HSTC : Hid _ := hstc
      have DB : Hid (TcpC wc db t) := hdb.on hbc
      have BC : Hid _ := bc
      have NB : Hid _ := hdb.len
      clear hdb hbb hbc hstc bc hxb HPa hxa
      go_wp2_with first
        | ((with_reducible show wpList _ _ _ _ _ _); refine arm_store rfl (.tmp 17) (.tmp 110) 34 rfl rfl rfl HSTC.out ?_)
        | ((with_reducible show wpList _ _ _ _ _ _); refine arm_load rfl (.tmp 113) 25 rfl rfl (HLC.out _ hxc) ?_)
        | ((with_reducible show wpList _ _ _ _ _ _); refine arm_load rfl (.tmp 115) 25 rfl rfl (HLD.out _ hxc) ?_)
        | ((with_reducible show wpList _ _ _ _ _ _); refine arm_load rfl (.tmp 5) 34 rfl rfl (HT.out _ hxc) ?_)
      refine Calls.mono (M7.out _ hxc) ?_
      rintro _ wd ⟨vd2, rfl, hd2⟩
      have hxd := hxc.trans (hd2.bel.mono hxc.size)
      have hrd := TR6.out _ _ _ _ hd2
      have HPd : Hid _ := TP6.out _ _ hrd
      have Yd : Hid _ := hd2.bel
      obtain ⟨ad, cd, rfl, _⟩ := hrd.val
      clear hd2 hrd
      go_wp2_with first
        | ((with_reducible show wpList _ _ _ _ _ _); refine arm_load rfl (.tmp 122) 25 rfl rfl (HLC.out _ hxd) ?_)
        | ((with_reducible show wpList _ _ _ _ _ _); refine arm_load rfl (.tmp 124) 25 rfl rfl (HLD.out _ hxd) ?_)
      refine Calls.mono HPd.out ?_
      rintro _ we ⟨de, rfl, hde, hbe⟩
      obtain ⟨wf, hstf, bf, hbf⟩ := box_new Try.sizeOf34 we [.int .u16 0, .int .u16 0, .int .u32 0, .int .u32 0, .int .u8 0, .int .u16 0, .int .u16 0, .slice none 0 0, .slice none 0 0] rfl de hde.len hde.one
      have hxe := hxd.trans (hbe.mono hxd.size)
      have hxf := hxe.trans (hbf.mono hxe.size)
      have yef := hbe.trans (hbf.mono hbe.size)
      have ycf := Yd.out.trans (yef.mono Yd.out.size)
      have LB2 : Hid (∀ W, Below wf.heap.size wf W → (Instr.loadAt 34 (.pointer (some ⟨wb.heap.size, 0, none⟩))).run Try.prog W = .ok (.agg db.toArray) W) := fun W hW => agg_load Try.isAgg34 Try.sizeOf34 NB.out (CellsAt.of_blk (blk_on (blk_on BC.out ycf) hW))
      have LE2 : Hid (∀ W, Below wf.heap.size wf W → (Instr.loadAt 34 (.pointer (some ⟨we.heap.size, 0, none⟩))).run Try.prog W = .ok (.agg de.toArray) W) := fun W hW => agg_load Try.isAgg34 Try.sizeOf34 hde.len (CellsAt.of_blk (blk_on bf hW))
      have LT2 : Hid (∀ W, Below wf.heap.size wf W → (Instr.loadAt 34 (.pointer (some ⟨w.heap.size + 1 + 1, 0, none⟩))).run Try.prog W = .ok (.agg c.toArray) W) := fun W hW => HT.out W (hxf.trans (hW.mono hxf.size))
      have SB : Hid _ := ST.out wf db hxf (DB.out.on ycf)
      have SE : Hid (∀ W, Below wf.heap.size wf W → Calls Try.prog 27 #[.agg c.toArray, .agg de.toArray] W fun e w' => e = .returned (.bool true) ∧ Below W.heap.size W w') := fun W hW => ST.out W de (hxf.trans (hW.mono hxf.size)) ((hde.on hbf).on hW)
      have HSTF : Hid _ := hstf
      have HF : Hid (Below w.heap.size w wf) := HB.out.trans (hxf.mono HB.out.size)
      have hz0 : Below wf.heap.size wf wf := Below.refl _ _
      clear hde hbe hbf hstf bf hxe hxf yef ycf hxd hxc DB BC NB Yd HPd HSTC HLA HLB HLC HLD HT HU ST SU
      go_wp2_with first
        | ((with_reducible show wpList _ _ _ _ _ _); refine arm_store rfl (.tmp 21) (.tmp 128) 34 rfl rfl rfl HSTF.out ?_)
        | ((with_reducible show wpList _ _ _ _ _ _); refine arm_load rfl (.tmp 5) 34 rfl rfl (LT2.out _ hz0) ?_)
        | ((with_reducible show wpList _ _ _ _ _ _); refine arm_load rfl (.tmp 17) 34 rfl rfl (LB2.out _ hz0) ?_)
      refine Calls.mono SB.out ?_
      rintro _ wg ⟨rfl, hzg⟩
      go_wp2_with first
        | ((with_reducible show wpList _ _ _ _ _ _); refine arm_load rfl (.tmp 5) 34 rfl rfl (LT2.out _ hzg) ?_)
        | ((with_reducible show wpList _ _ _ _ _ _); refine arm_load rfl (.tmp 21) 34 rfl rfl (LE2.out _ hzg) ?_)
      refine Calls.mono (SE.out _ hzg) ?_
      rintro _ wh ⟨rfl, hzh⟩
      have HZ : Hid _ := hzg.trans (hzh.mono hzg.size)
      clear hzh
      go_wp2
      go_ret
      exact ⟨rfl, HF.out.trans (HZ.out.mono HF.out.size)⟩
    · skip
      have qu : (ue == 0) = false := by simpa using hu0
      clear UOK hu0 M3
      obtain ⟨t4e, tn⟩ := TNO.out ht0
      have TN2 : Hid _ := tn
      rw [t4e] at M5
      have qt : (te != 0) = true := by simpa using ht0
      clear t4e tn TOK TNO ht0 M7
      go_enter Try.func9, Try.ntmps9
      go_wp2_with fail
      refine Calls.mono (awake_calls6 _) ?_
      rintro _ w1 ⟨rfl, hx1⟩
      go_wp2_with first
        | ((with_reducible show wpList _ _ _ _ _ _); refine arm_load rfl (.tmp 26) 23 rfl rfl (HLA.out _ hx1) ?_)
        | ((with_reducible show wpList _ _ _ _ _ _); refine arm_load rfl (.tmp 28) 23 rfl rfl (HLB.out _ hx1) ?_)
        | ((with_reducible show wpList _ _ _ _ _ _); refine arm_load rfl (.tmp 4) 31 rfl rfl (HU.out _ hx1) ?_)
      refine Calls.mono (M1.out _ hx1) ?_
      rintro _ w2 ⟨v2, rfl, h2⟩
      have hx2 := hx1.trans (h2.bel.mono hx1.size)
      obtain ⟨a2, n2, c2, rfl⟩ := OB.slc h2
      clear h2
      go_wp2_with first
        | ((with_reducible show wpList _ _ _ _ _ _); refine arm_load rfl (.tmp 90) 23 rfl rfl (HLA.out _ hx2) ?_)
        | ((with_reducible show wpList _ _ _ _ _ _); refine arm_load rfl (.tmp 92) 23 rfl rfl (HLB.out _ hx2) ?_)
        | ((with_reducible show wpList _ _ _ _ _ _); refine arm_load rfl (.tmp 5) 34 rfl rfl (HT.out _ hx2) ?_)
      refine Calls.mono (M5.out _ hx2) ?_
      rintro _ wa ⟨va, rfl, ha⟩
      have hxa := hx2.trans (ha.bel.mono hx2.size)
      obtain ⟨aa, ca, rfl⟩ := TN2.out _ _ _ _ ha
      have HF : Hid (Below w.heap.size w wa) := HB.out.trans (hxa.mono HB.out.size)
      clear ha hxa
      go_wp2
      go_ret
      exact ⟨rfl, HF.out⟩

set_option maxRecDepth 100000 in
theorem segmentBack_open {H : Type} {enc : TypeId × Value → H} {W : World} {base : Nat} (v0 v1 v2 : Value) {d0 d1 d2 : DataW H} {p0 p1 p2 : List MemPlace}
    (o0 : Value.okWide Try.prog W .any base 27 v0) (h0 : DataW.Trod enc Try.prog W 0 (fun _ => true) true 27 v0 d0 p0) (z0 : ∀ k ∈ d0.weights Try.prog 27, k ≤ reachBytes)
    (o1 : Value.okWide Try.prog W .any base 31 v1) (h1 : DataW.Trod enc Try.prog W 0 (fun _ => true) true 31 v1 d1 p1) (z1 : ∀ k ∈ d1.weights Try.prog 31, k ≤ reachBytes)
    (o2 : Value.okWide Try.prog W .any base 34 v2) (h2 : DataW.Trod enc Try.prog W 0 (fun _ => true) true 34 v2 d2 p2) (z2 : ∀ k ∈ d2.weights Try.prog 34, k ≤ reachBytes) :
    Calls Try.prog 9 #[v0, v1, v2] W fun e w' => e = .returned (.bool true) ∧ Below W.heap.size W w' := by
  obtain ⟨A, B, C, D, rfl, la, lb, lc, ld, fa, fb, fc, fd⟩ := open_ends h0 z0
  obtain ⟨u, s, d, x, rfl, hu⟩ := open_udp h1 z1
  obtain ⟨c, t, rfl, ht⟩ := open_tcp h2 z2
  exact segmentBack_walk A B C D la lb lc ld fa fb fc fd u c s d x t W hu ht

end Go.Proofs.Ytodbgomoedhfaaa
