/-
  SegmentNAT: the walk.
-/
import Derived.Test.YtnlaomjhnndblaaSoM
import Derived.Test.YtnlaomjhnndblaaSg8
namespace Go.Proofs.Ytnlaomjhnndblaa
open Go Go.RowKit Go.Shelf
set_option linter.unusedVariables false
set_option linter.unusedSimpArgs false

set_option maxHeartbeats 16000000 in
set_option maxRecDepth 100000 in
theorem segmentNAT_walk (A B C D A' B' C' D' : List Int) (la : A.length = 4) (lb : B.length = 4) (lc : C.length = 16) (ld : D.length = 16) (fa : Fit A) (fb : Fit B) (fc : Fit C) (fd : Fit D) (la' : A'.length = 4) (lb' : B'.length = 4) (lc' : C'.length = 16) (ld' : D'.length = 16) (fa' : Fit A') (fb' : Fit B') (fc' : Fit C') (fd' : Fit D') (u c : List Value) (s d : Int) (x : List Int) (t : Seg) (src dst : Int) (hsrc : 0 ≤ src ∧ src ≤ 65535) (hdst : 0 ≤ dst ∧ dst ≤ 65535) (w : World) (hu : UdpC w u s d x) (ht : TcpC w c t) :
    Calls Try.prog 10 #[.agg (endsC A B C D).toArray, .agg (endsC A' B' C' D').toArray, .agg u.toArray, .agg c.toArray, .int .u16 src, .int .u16 dst] w fun e w' => e = .returned (.bool true) ∧ Below w.heap.size w w' := by
  obtain ⟨Wa, hWa⟩ : ∃ Wa, w.alloc (.cells (endsC A B C D).toArray 27) = Wa := ⟨_, rfl⟩
  obtain ⟨Wb, hWb⟩ : ∃ Wb, Wa.alloc (.cells (endsC A' B' C' D').toArray 27) = Wb := ⟨_, rfl⟩
  obtain ⟨Wc, hWc⟩ : ∃ Wc, Wb.alloc (.cells u.toArray 31) = Wc := ⟨_, rfl⟩
  obtain ⟨W0, hW0⟩ : ∃ W0, Wc.alloc (.cells c.toArray 34) = W0 := ⟨_, rfl⟩
  have sa : Wa.heap.size = w.heap.size + 1 := by rw [← hWa]; simp
  have sb : Wb.heap.size = w.heap.size + 1 + 1 := by rw [← hWb, ← sa]; simp
  have sc : Wc.heap.size = w.heap.size + 1 + 1 + 1 := by rw [← hWc, ← sb]; simp
  have ba : Below w.heap.size w Wa := by rw [← hWa]; exact (Below.refl _ w).alloc (Nat.le_refl _) _
  have bb : Below Wa.heap.size Wa Wb := by rw [← hWb]; exact (Below.refl _ Wa).alloc (Nat.le_refl _) _
  have bc : Below Wb.heap.size Wb Wc := by rw [← hWc]; exact (Below.refl _ Wb).alloc (Nat.le_refl _) _
  have bd : Below Wc.heap.size Wc W0 := by rw [← hW0]; exact (Below.refl _ Wc).alloc (Nat.le_refl _) _
  have hbd := bc.trans (bd.mono bc.size)
  have hbb := bb.trans (hbd.mono bb.size)
  have hB := ba.trans (hbb.mono ba.size)
  have hE : EndsBox W0 w.heap.size A B C D := by
    have q := ends_new w la lb lc ld fa fb fc fd
    rw [hWa] at q
    exact q.on hbb
  have hE' : EndsBox W0 (w.heap.size + 1) A' B' C' D' := by
    have q := ends_new Wa la' lb' lc' ld' fa' fb' fc' fd'
    rw [hWb, sa] at q
    exact q.on hbd
  have b8 : W0.heap[w.heap.size + 1 + 1]? = some (.cells u.toArray 31) := by
    have q := blk_new Wb (.cells u.toArray 31)
    rw [hWc, sb] at q
    exact blk_on q bd
  have b9 : W0.heap[w.heap.size + 1 + 1 + 1]? = some (.cells c.toArray 34) := by
    have q := blk_new Wc (.cells c.toArray 34)
    rw [hW0, sc] at q
    exact q
  have hlt9 : w.heap.size + 1 + 1 + 1 < W0.heap.size := (Array.getElem?_eq_some_iff.1 b9).1
  subst hWa hWb hWc
  have hUt : ∀ W, Below W0.heap.size W0 W → UdpC W u s d x := fun W hW => hu.on (hB.trans (hW.mono hB.size))
  have hTt : ∀ W, Below W0.heap.size W0 W → TcpC W c t := fun W hW => ht.on (hB.trans (hW.mono hB.size))
  obtain ⟨vx, hcu, hvx⟩ := hu.val
  obtain ⟨vo, vd, hcc, hvo, hvd⟩ := ht.val
  obtain ⟨t', ht'⟩ : ∃ t' : Seg, t' = ⟨src, dst, t.seq, t.ack, t.fl, t.win, t.urg, t.opts, t.data⟩ := ⟨_, rfl⟩
  have M1 : Hid (∀ W, Below W0.heap.size W0 W → Calls Try.prog 13 #[.agg (u8L A).toArray, .agg (u8L B).toArray, .agg u.toArray] W (Wrote2 W (udpB (ph4 A B) s d x) (udpE x))) := fun W hW => WriteUDP4_any A B la lb fa fb u s d x W (hUt W hW)
  have M5 : Hid (∀ W, Below W0.heap.size W0 W → Calls Try.prog 16 #[.agg (u8L A).toArray, .agg (u8L B).toArray, .agg c.toArray] W (Wrote2 W (tcpB (ph4 A B) t) (tcpE t))) := fun W hW => WriteTCP4_any A B la lb fa fb c t W (hTt W hW)
  have UOK : Hid _ := nat_udp la lb fa fb la' lb' lc' ld' fa' fb' fc' fd' hu.fs hu.fd hvx.fit hsrc hdst
  have TOK : Hid _ := nat_tcp la lb fa fb la' lb' lc' ld' fa' fb' fc' fd' ht hsrc hdst
  rw [← ht'] at TOK
  have TNO : Hid (¬ tcpE t = 0 → tcpB (ph4 A B) t = [] ∧ ∀ W v base w0, OB base w0 W v [] → ∃ a cp, v = .slice a 0 cp) := fun h0 => ⟨if_neg h0, fun W v base w0 h => by
    obtain ⟨a, cp, e, _⟩ := (h.bytes (fit_of _ rfl) (by simp)).val
    exact ⟨a, cp, e⟩⟩
  have SU : Hid (∀ W c1 c2, UdpC W c1 src dst x → UdpC W c2 src dst x → Calls Try.prog 23 #[.agg c1.toArray, .agg c2.toArray] W fun e w' => e = .returned (.bool true) ∧ Below W.heap.size W w') := fun W c1 c2 h1 h2 => by
    have k := RSameUDP_calls W h1 h2
    rw [sameU_self] at k
    exact k
  have ST : Hid (∀ W c1 c2, TcpC W c1 t' → TcpC W c2 t' → Calls Try.prog 27 #[.agg c1.toArray, .agg c2.toArray] W fun e w' => e = .returned (.bool true) ∧ Below W.heap.size W w') := fun W c1 c2 h1 h2 => by
    have k := RSameTCP_calls W h1 h2
    rw [sameT_self] at k
    exact k
  have SX : Hid (∀ W v, BytesAt W.heap.size W v (A ++ B) → Calls Try.prog 38 #[v] W fun e w' => ∃ a n k, e = .returned (.slice a n k) ∧ BytesAt w'.heap.size w' (.slice a n k) (List.replicate 24 0 ++ (A ++ B)) ∧ Below W.heap.size W w') := fun W v h => by
    refine (sixteen_calls v (A ++ B) W h (by rw [List.length_append, la, lb])).mono ?_
    rintro e w' ⟨v', e1, o⟩
    have hb := o.bytes (Fit.append (fit_of _ rfl) (fa.append fb)) (by simp; omega)
    have hbel := o.bel
    obtain ⟨a, k, e2, _⟩ := hb.val
    subst e2
    exact ⟨_, _, _, e1, hb, hbel⟩
  have WU : Hid (∀ W, Below W0.heap.size W0 W → UdpC W [.int .u16 src, .int .u16 dst, vx] src dst x) := fun W hW => ⟨⟨vx, rfl, hvx.later (hB.trans (hW.mono hB.size))⟩, hsrc, hdst⟩
  have WT : Hid (∀ W, Below w.heap.size w W → TcpC W [.int .u16 src, .int .u16 dst, .int .u32 t.seq, .int .u32 t.ack, .int .u8 t.fl, .int .u16 t.win, .int .u16 t.urg, vo, vd] t') := fun W hW => by
    subst ht'
    exact ⟨⟨vo, vd, rfl, hvo.later hW, hvd.later hW⟩, hsrc, hdst, ht.fq, ht.fa, ht.ff, ht.fw, ht.fu⟩
  obtain ⟨ax, kx, evx, _⟩ := hvx.val
  obtain ⟨ao, ko, evo, _⟩ := hvo.val
  obtain ⟨ad, kd, evd, _⟩ := hvd.val
  have K2 : Hid (∀ W, Below W0.heap.size W0 W → W.cell? ⟨w.heap.size + 1 + 1, 2, none⟩ = some vx) := fun W hW => blk_cell (j := 2) (blk_on b8 hW) (by rw [hcu]; rfl)
  have HU : Hid (∀ W, Below W0.heap.size W0 W → (Instr.loadAt 31 (.pointer (some ⟨w.heap.size + 1 + 1, 0, none⟩))).run Try.prog W = .ok (.agg u.toArray) W) := fun W hW => agg_load Try.isAgg31 Try.sizeOf31 hu.len (CellsAt.of_blk (blk_on b8 hW))
  have HT : Hid (∀ W, Below W0.heap.size W0 W → (Instr.loadAt 34 (.pointer (some ⟨w.heap.size + 1 + 1 + 1, 0, none⟩))).run Try.prog W = .ok (.agg c.toArray) W) := fun W hW => agg_load Try.isAgg34 Try.sizeOf34 ht.len (CellsAt.of_blk (blk_on b9 hW))
  have B9 : Hid (∀ W, Below W0.heap.size W0 W → W.heap[w.heap.size + 1 + 1 + 1]? = some (.cells [.int .u16 t.src, .int .u16 t.dst, .int .u32 t.seq, .int .u32 t.ack, .int .u8 t.fl, .int .u16 t.win, .int .u16 t.urg, vo, vd].toArray 34)) := fun W hW => by
    rw [← hcc]
    exact blk_on b9 hW
  have HLA : Hid (∀ W, Below W0.heap.size W0 W → (Instr.loadAt 23 (.pointer (some ⟨w.heap.size, 0, none⟩))).run Try.prog W = .ok (.agg (u8L A).toArray) W) := fun W hW => (hE.on hW).lA
  have HLB : Hid (∀ W, Below W0.heap.size W0 W → (Instr.loadAt 23 (.pointer (some ⟨w.heap.size, 4, none⟩))).run Try.prog W = .ok (.agg (u8L B).toArray) W) := fun W hW => (hE.on hW).lB
  have HMA : Hid (∀ W, Below W0.heap.size W0 W → (Instr.loadAt 23 (.pointer (some ⟨w.heap.size + 1, 0, none⟩))).run Try.prog W = .ok (.agg (u8L A').toArray) W) := fun W hW => (hE'.on hW).lA
  have HMB : Hid (∀ W, Below W0.heap.size W0 W → (Instr.loadAt 23 (.pointer (some ⟨w.heap.size + 1, 4, none⟩))).run Try.prog W = .ok (.agg (u8L B').toArray) W) := fun W hW => (hE'.on hW).lB
  have HMC : Hid (∀ W, Below W0.heap.size W0 W → (Instr.loadAt 25 (.pointer (some ⟨w.heap.size + 1, 8, none⟩))).run Try.prog W = .ok (.agg (u8L C').toArray) W) := fun W hW => (hE'.on hW).lC
  have HMD : Hid (∀ W, Below W0.heap.size W0 W → (Instr.loadAt 25 (.pointer (some ⟨w.heap.size + 1, 24, none⟩))).run Try.prog W = .ok (.agg (u8L D').toArray) W) := fun W hW => (hE'.on hW).lD
  have J3 : Hid (∀ W, Below W0.heap.size W0 W → _) := fun W hW => joined (hE.on hW).bA (hE.on hW).bB (by omega) (by omega)
  have J4 : Hid (∀ W, Below W0.heap.size W0 W → _) := fun W hW => joined (hE'.on hW).bA (hE'.on hW).bB (by omega) (by omega)
  have J5 : Hid (∀ W, Below W0.heap.size W0 W → _) := fun W hW => joined (hE'.on hW).bC (hE'.on hW).bD (by omega) (by omega)
  have HB : Hid _ := hB
  have hx0 : Below W0.heap.size W0 W0 := Below.refl _ _
  subst evx evo evd
  have HG : Hid _ := hlt9
  clear ba bb bc bd hbd hbb b8 b9 hB hE hE' hUt hTt hu ht hvx hvo hvd fa fb fc fd la lb lc ld fa' fb' fc' fd' la' lb' lc' ld' sa sb sc hlt9 hcc hcu ht' hsrc hdst
  generalize udpB (ph4 A B) s d x = U4 at *
  generalize tcpB (ph4 A B) t = T4x at *
  generalize udpL (ph4 A B) s d x = V4 at *
  generalize tcpL (ph4 A B) t = X4 at *
  generalize udpE x = ue at *
  generalize tcpE t = te at *
  generalize endsC A B C D = xE at *
  generalize endsC A' B' C' D' = xE' at *
  generalize A ++ B = AB at *
  generalize A' ++ B' = AB' at *
  generalize C' ++ D' = CD' at *
  generalize List.replicate 24 (0 : Int) ++ AB = ZAB at *
  go_enter Try.func10, Try.ntmps10
  go_wp2_with fail
  refine Calls.mono (awake_calls6 _) ?_
  rintro _ w1 ⟨rfl, hx1⟩
  go_wp2_with fail
  have hd3 : Below W0.heap.size W0 w1.drew := hx1.drew
  obtain ⟨va3, wa3, vb3, w3, ra3, rb3, ha3, hb3, hv3⟩ := J3.out _ hd3
  have hz3 := hd3.trans (ha3.mono hd3.size)
  have hx3 := hd3.trans (hb3.mono hd3.size)
  refine wp_region_held (S := fun W => Below W0.heap.size W0 W) (by kernel_rfl) ?_
  show wpAnyH _ _ _ _ _ 8 (Array.replicate 8 false) _ w1.drew
  refine take_one (i := 1) (d := some 40) (v := .pointer (some ⟨w.heap.size, 0, none⟩)) rfl rfl rfl (by kernel_rfl) (by kernel_rfl) (by kernel_rfl) (fun _ _ d _ _ h => by cases d <;> exact h) (fun W hS => ex_fieldE 6 0 0 rfl rfl (.inl ⟨rfl, rfl⟩)) hd3 ?_
  simp only [Act.put, List.setIfInBounds_toArray, List.set_cons_zero, List.set_cons_succ]
  refine take_one (i := 2) (d := some 41) (v := .slice (some ⟨w.heap.size, 0, none⟩) 4 4) rfl rfl rfl (by kernel_rfl) (by kernel_rfl) (by kernel_rfl) (fun _ _ d _ _ h => by cases d <;> exact h) (fun W hS => ex_slice4 40 rfl rfl) hd3 ?_
  simp only [Act.put, List.setIfInBounds_toArray, List.set_cons_zero, List.set_cons_succ]
  refine take_one (i := 4) (d := some 43) (v := .pointer (some ⟨w.heap.size, 4, none⟩)) rfl rfl rfl (by kernel_rfl) (by kernel_rfl) (by kernel_rfl) (fun _ _ d _ _ h => by cases d <;> exact h) (fun W hS => ex_fieldE 6 1 4 rfl rfl (.inr (.inl ⟨rfl, rfl⟩))) hd3 ?_
  simp only [Act.put, List.setIfInBounds_toArray, List.set_cons_zero, List.set_cons_succ]
  refine take_one (i := 5) (d := some 44) (v := .slice (some ⟨w.heap.size, 4, none⟩) 4 4) rfl rfl rfl (by kernel_rfl) (by kernel_rfl) (by kernel_rfl) (fun _ _ d _ _ h => by cases d <;> exact h) (fun W hS => ex_slice4 43 rfl rfl) hd3 ?_
  simp only [Act.put, List.setIfInBounds_toArray, List.set_cons_zero, List.set_cons_succ]
  refine all_one (i := 0) (by kernel_rfl) rfl rfl ?_
  refine wp_build (d := some 39) rfl rfl ⟨hd3.alloc hd3.size _, ?_⟩
  simp only [Act.put, List.setIfInBounds_toArray, List.set_cons_zero, List.set_cons_succ]
  refine all_one (i := 3) (by kernel_rfl) rfl rfl ?_
  refine wp_append (d := some 42) (.tmp 39) (.tmp 41) 29 rfl rfl rfl rfl ra3 ⟨hz3, ?_⟩
  simp only [Act.put, List.setIfInBounds_toArray, List.set_cons_zero, List.set_cons_succ]
  refine all_one (i := 6) (by kernel_rfl) rfl rfl ?_
  refine wp_append (d := some 45) (.tmp 42) (.tmp 44) 29 rfl rfl rfl rfl rb3 ⟨hx3, ?_⟩
  simp only [Act.put, List.setIfInBounds_toArray, List.set_cons_zero, List.set_cons_succ]
  refine take_one (i := 7) (d := some 13) (v := vb3) rfl rfl rfl (by kernel_rfl) (by kernel_rfl) (by kernel_rfl) (fun _ _ d _ _ h => by cases d <;> exact h) (fun W hS => ex_assign (.tmp 45) rfl rfl) hx3 ?_
  simp only [Act.put, List.setIfInBounds_toArray, List.set_cons_zero, List.set_cons_succ]
  refine wpAnyH_done (by kernel_rfl) ?_ _
  obtain ⟨am3, km3, rfl, -⟩ := hv3.val
  have hy3 : Below w1.heap.size w1 w3 := ((Below.refl _ _).drew).trans (hb3.mono (Nat.le_refl _))
  have HV3 : Hid _ := hv3
  clear ra3 rb3 ha3 hb3 hz3 hd3 hv3
  go_wp2_with fail
  have hd4 : Below W0.heap.size W0 w3.drew := hx3.drew
  obtain ⟨va4, wa4, vb4, w4, ra4, rb4, ha4, hb4, hv4⟩ := J4.out _ hd4
  have hz4 := hd4.trans (ha4.mono hd4.size)
  have hx4 := hd4.trans (hb4.mono hd4.size)
  refine wp_region_held (S := fun W => Below W0.heap.size W0 W) (by kernel_rfl) ?_
  show wpAnyH _ _ _ _ _ 8 (Array.replicate 8 false) _ w3.drew
  refine take_one (i := 1) (d := some 47) (v := .pointer (some ⟨w.heap.size + 1, 0, none⟩)) rfl rfl rfl (by kernel_rfl) (by kernel_rfl) (by kernel_rfl) (fun _ _ d _ _ h => by cases d <;> exact h) (fun W hS => ex_fieldE 7 0 0 rfl rfl (.inl ⟨rfl, rfl⟩)) hd4 ?_
  simp only [Act.put, List.setIfInBounds_toArray, List.set_cons_zero, List.set_cons_succ]
  refine take_one (i := 2) (d := some 48) (v := .slice (some ⟨w.heap.size + 1, 0, none⟩) 4 4) rfl rfl rfl (by kernel_rfl) (by kernel_rfl) (by kernel_rfl) (fun _ _ d _ _ h => by cases d <;> exact h) (fun W hS => ex_slice4 47 rfl rfl) hd4 ?_
  simp only [Act.put, List.setIfInBounds_toArray, List.set_cons_zero, List.set_cons_succ]
  refine take_one (i := 4) (d := some 50) (v := .pointer (some ⟨w.heap.size + 1, 4, none⟩)) rfl rfl rfl (by kernel_rfl) (by kernel_rfl) (by kernel_rfl) (fun _ _ d _ _ h => by cases d <;> exact h) (fun W hS => ex_fieldE 7 1 4 rfl rfl (.inr (.inl ⟨rfl, rfl⟩))) hd4 ?_
  simp only [Act.put, List.setIfInBounds_toArray, List.set_cons_zero, List.set_cons_succ]
  refine take_one (i := 5) (d := some 51) (v := .slice (some ⟨w.heap.size + 1, 4, none⟩) 4 4) rfl rfl rfl (by kernel_rfl) (by kernel_rfl) (by kernel_rfl) (fun _ _ d _ _ h => by cases d <;> exact h) (fun W hS => ex_slice4 50 rfl rfl) hd4 ?_
  simp only [Act.put, List.setIfInBounds_toArray, List.set_cons_zero, List.set_cons_succ]
  refine all_one (i := 0) (by kernel_rfl) rfl rfl ?_
  refine wp_build (d := some 46) rfl rfl ⟨hd4.alloc hd4.size _, ?_⟩
  simp only [Act.put, List.setIfInBounds_toArray, List.set_cons_zero, List.set_cons_succ]
  refine all_one (i := 3) (by kernel_rfl) rfl rfl ?_
  refine wp_append (d := some 49) (.tmp 46) (.tmp 48) 29 rfl rfl rfl rfl ra4 ⟨hz4, ?_⟩
  simp only [Act.put, List.setIfInBounds_toArray, List.set_cons_zero, List.set_cons_succ]
  refine all_one (i := 6) (by kernel_rfl) rfl rfl ?_
  refine wp_append (d := some 52) (.tmp 49) (.tmp 51) 29 rfl rfl rfl rfl rb4 ⟨hx4, ?_⟩
  simp only [Act.put, List.setIfInBounds_toArray, List.set_cons_zero, List.set_cons_succ]
  refine take_one (i := 7) (d := some 14) (v := vb4) rfl rfl rfl (by kernel_rfl) (by kernel_rfl) (by kernel_rfl) (fun _ _ d _ _ h => by cases d <;> exact h) (fun W hS => ex_assign (.tmp 52) rfl rfl) hx4 ?_
  simp only [Act.put, List.setIfInBounds_toArray, List.set_cons_zero, List.set_cons_succ]
  refine wpAnyH_done (by kernel_rfl) ?_ _
  obtain ⟨am4, km4, rfl, -⟩ := hv4.val
  have hy4 : Below w3.heap.size w3 w4 := ((Below.refl _ _).drew).trans (hb4.mono (Nat.le_refl _))
  have HV4 : Hid _ := hv4
  clear ra4 rb4 ha4 hb4 hz4 hd4 hv4
  go_wp2_with fail
  have hd5 : Below W0.heap.size W0 w4.drew := hx4.drew
  obtain ⟨va5, wa5, vb5, w5, ra5, rb5, ha5, hb5, hv5⟩ := J5.out _ hd5
  have hz5 := hd5.trans (ha5.mono hd5.size)
  have hx5 := hd5.trans (hb5.mono hd5.size)
  refine wp_region_held (S := fun W => Below W0.heap.size W0 W) (by kernel_rfl) ?_
  show wpAnyH _ _ _ _ _ 8 (Array.replicate 8 false) _ w4.drew
  refine take_one (i := 1) (d := some 54) (v := .pointer (some ⟨w.heap.size + 1, 8, none⟩)) rfl rfl rfl (by kernel_rfl) (by kernel_rfl) (by kernel_rfl) (fun _ _ d _ _ h => by cases d <;> exact h) (fun W hS => ex_fieldE 7 2 8 rfl rfl (.inr (.inr (.inl ⟨rfl, rfl⟩)))) hd5 ?_
  simp only [Act.put, List.setIfInBounds_toArray, List.set_cons_zero, List.set_cons_succ]
  refine take_one (i := 2) (d := some 55) (v := .slice (some ⟨w.heap.size + 1, 8, none⟩) 16 16) rfl rfl rfl (by kernel_rfl) (by kernel_rfl) (by kernel_rfl) (fun _ _ d _ _ h => by cases d <;> exact h) (fun W hS => ex_slice6 54 rfl rfl) hd5 ?_
  simp only [Act.put, List.setIfInBounds_toArray, List.set_cons_zero, List.set_cons_succ]
  refine take_one (i := 4) (d := some 57) (v := .pointer (some ⟨w.heap.size + 1, 24, none⟩)) rfl rfl rfl (by kernel_rfl) (by kernel_rfl) (by kernel_rfl) (fun _ _ d _ _ h => by cases d <;> exact h) (fun W hS => ex_fieldE 7 3 24 rfl rfl (.inr (.inr (.inr ⟨rfl, rfl⟩)))) hd5 ?_
  simp only [Act.put, List.setIfInBounds_toArray, List.set_cons_zero, List.set_cons_succ]
  refine take_one (i := 5) (d := some 58) (v := .slice (some ⟨w.heap.size + 1, 24, none⟩) 16 16) rfl rfl rfl (by kernel_rfl) (by kernel_rfl) (by kernel_rfl) (fun _ _ d _ _ h => by cases d <;> exact h) (fun W hS => ex_slice6 57 rfl rfl) hd5 ?_
  simp only [Act.put, List.setIfInBounds_toArray, List.set_cons_zero, List.set_cons_succ]
  refine all_one (i := 0) (by kernel_rfl) rfl rfl ?_
  refine wp_build (d := some 53) rfl rfl ⟨hd5.alloc hd5.size _, ?_⟩
  simp only [Act.put, List.setIfInBounds_toArray, List.set_cons_zero, List.set_cons_succ]
  refine all_one (i := 3) (by kernel_rfl) rfl rfl ?_
  refine wp_append (d := some 56) (.tmp 53) (.tmp 55) 29 rfl rfl rfl rfl ra5 ⟨hz5, ?_⟩
  simp only [Act.put, List.setIfInBounds_toArray, List.set_cons_zero, List.set_cons_succ]
  refine all_one (i := 6) (by kernel_rfl) rfl rfl ?_
  refine wp_append (d := some 59) (.tmp 56) (.tmp 58) 29 rfl rfl rfl rfl rb5 ⟨hx5, ?_⟩
  simp only [Act.put, List.setIfInBounds_toArray, List.set_cons_zero, List.set_cons_succ]
  refine take_one (i := 7) (d := some 15) (v := vb5) rfl rfl rfl (by kernel_rfl) (by kernel_rfl) (by kernel_rfl) (fun _ _ d _ _ h => by cases d <;> exact h) (fun W hS => ex_assign (.tmp 59) rfl rfl) hx5 ?_
  simp only [Act.put, List.setIfInBounds_toArray, List.set_cons_zero, List.set_cons_succ]
  refine wpAnyH_done (by kernel_rfl) ?_ _
  obtain ⟨am5, km5, rfl, -⟩ := hv5.val
  have hy5 : Below w4.heap.size w4 w5 := ((Below.refl _ _).drew).trans (hb5.mono (Nat.le_refl _))
  have HV5 : Hid _ := hv5
  clear ra5 rb5 ha5 hb5 hz5 hd5 hv5
  have F13 : Hid (∀ W, Below w5.heap.size w5 W → BytesAt W.heap.size W (.slice am3 AB.length km3) AB) := fun W hW => ((HV3.out.later hy4).later hy5).later hW
  have F14 : Hid (∀ W, Below w5.heap.size w5 W → BytesAt W.heap.size W (.slice am4 AB'.length km4) AB') := fun W hW => (HV4.out.later hy5).later hW
  have F15 : Hid (∀ W, Below w5.heap.size w5 W → BytesAt W.heap.size W (.slice am5 CD'.length km5) CD') := fun W hW => HV5.out.later hW
  have HX5 : Hid _ := hx5
  have UP : Hid (∀ W, Below w5.heap.size w5 W → Below W0.heap.size W0 W) := fun W hW => HX5.out.trans (hW.mono HX5.out.size)
  have hv5 : Below w5.heap.size w5 w5 := Below.refl _ _
  clear HV3 HV4 HV5 hy3 hy4 hy5 hx0 hx1 hx3 hx4 hx5 J3 J4 J5
  go_wp2_with first
    | ((with_reducible show wpList _ _ _ _ _ _); refine arm_load rfl (.tmp 61) 23 rfl rfl (HLA.out _ (UP.out _ hv5)) ?_)
    | ((with_reducible show wpList _ _ _ _ _ _); refine arm_load rfl (.tmp 63) 23 rfl rfl (HLB.out _ (UP.out _ hv5)) ?_)
    | ((with_reducible show wpList _ _ _ _ _ _); refine arm_load rfl (.tmp 8) 31 rfl rfl (HU.out _ (UP.out _ hv5)) ?_)
  by_cases hu0 : ue = 0
  · skip
    obtain ⟨Z4u, Z6u, bu, u4e, ur4, rw4, rw6, pa4, pa6⟩ := UOK.out hu0
    have UR4 : Hid _ := ur4
    have RW4 : Hid _ := rw4
    have RW6 : Hid _ := rw6
    have PA4 : Hid (∀ W v, RowC W v Z4u → Calls Try.prog 20 #[.agg (u8L A').toArray, .agg (u8L B').toArray, v] W fun e w' => ∃ c : List Value, e = .returned (.tuple #[.agg c.toArray, .bool bu, .int .i64 0]) ∧ UdpC w' c src dst x ∧ Below W.heap.size W w') := pa4
    have PA6 : Hid (∀ W v, RowC W v Z6u → Calls Try.prog 22 #[.agg (u8L C').toArray, .agg (u8L D').toArray, v] W fun e w' => ∃ c : List Value, e = .returned (.tuple #[.agg c.toArray, .int .i64 0]) ∧ UdpC w' c src dst x ∧ Below W.heap.size W w') := pa6
    rw [u4e, hu0] at M1
    subst hu0
    clear u4e ur4 rw4 rw6 pa4 pa6 UOK
    refine Calls.mono (M1.out _ (UP.out _ hv5)) ?_
    rintro _ w6 ⟨v6, rfl, h6⟩
    have hv6 := hv5.trans (h6.bel.mono hv5.size)
    have hr6 := UR4.out _ _ _ _ h6
    have HR6 : Hid _ := hr6
    have HRW : Hid _ := RW4.out _ _ _ _ hr6 (F13.out _ hv6) (F14.out _ hv6)
    obtain ⟨a6, k6, rfl, _⟩ := hr6.val
    clear h6 hr6
    go_wp2_with fail
    refine Calls.mono HRW.out ?_
    rintro _ w7 ⟨v7, rfl, hr7, hb7⟩
    have hv7 := hv6.trans (hb7.mono hv6.size)
    have HP7 : Hid _ := PA4.out _ _ hr7
    have HR7 : Hid _ := HR6.out.on hb7
    obtain ⟨a7, k7, rfl, _⟩ := hr7.val
    clear hr7 hb7 HR6 HRW
    go_wp2_with first
      | ((with_reducible show wpList _ _ _ _ _ _); refine arm_load rfl (.tmp 81) 23 rfl rfl (HMA.out _ (UP.out _ hv7)) ?_)
      | ((with_reducible show wpList _ _ _ _ _ _); refine arm_load rfl (.tmp 83) 23 rfl rfl (HMB.out _ (UP.out _ hv7)) ?_)
    refine Calls.mono HP7.out ?_
    rintro _ w8 ⟨d8, rfl, hd8, hb8⟩
    obtain ⟨w9, hst9, b9, hb9⟩ := box_new Try.sizeOf31 w8 [.int .u16 0, .int .u16 0, .slice none 0 0] rfl d8 hd8.len hd8.one'
    have y79 := hb8.trans (hb9.mono hb8.size)
    have hv9 := hv7.trans (y79.mono hv7.size)
    have HST9 : Hid _ := hst9
    have D9 : Hid (UdpC w9 d8 src dst x) := hd8.on hb9
    have B9u : Hid _ := b9
    have N8 : Hid _ := hd8.len
    have HR9 : Hid _ := HR7.out.on y79
    have HSX : Hid _ := SX.out _ _ (F13.out _ hv9)
    clear hd8 hb8 hb9 hst9 b9 y79 HP7 HR7 hv7 hv6
    go_wp2_with ((with_reducible show wpList _ _ _ _ _ _); refine arm_store rfl (.tmp 20) (.tmp 87) 31 rfl rfl rfl HST9.out ?_)
    refine Calls.mono HSX.out ?_
    rintro _ w10 ⟨a10, n10, k10, rfl, hs10, hb10⟩
    have hv10 := hv9.trans (hb10.mono hv9.size)
    have HRW : Hid _ := RW6.out _ _ _ _ (HR9.out.on hb10) hs10 (F15.out _ hv10)
    have Y10 : Hid _ := hb10
    clear hs10 hb10 HSX HST9 HR9
    go_wp2_with fail
    refine Calls.mono HRW.out ?_
    rintro _ w11 ⟨v11, rfl, hr11, hb11⟩
    have hv11 := hv10.trans (hb11.mono hv10.size)
    have HP11 : Hid _ := PA6.out _ _ hr11
    have Y11 : Hid _ := Y10.out.trans (hb11.mono Y10.out.size)
    obtain ⟨a11, k11, rfl, _⟩ := hr11.val
    clear hr11 hb11 HRW Y10 hv10
    go_wp2_with first
      | ((with_reducible show wpList _ _ _ _ _ _); refine arm_load rfl (.tmp 101) 25 rfl rfl (HMC.out _ (UP.out _ hv11)) ?_)
      | ((with_reducible show wpList _ _ _ _ _ _); refine arm_load rfl (.tmp 103) 25 rfl rfl (HMD.out _ (UP.out _ hv11)) ?_)
    refine Calls.mono HP11.out ?_
    rintro _ w12 ⟨d12, rfl, hd12, hb12⟩
    obtain ⟨w13, hst13, b13, hb13⟩ := box_new Try.sizeOf31 w12 [.int .u16 0, .int .u16 0, .slice none 0 0] rfl d12 hd12.len hd12.one'
    obtain ⟨w14, hst14, b14, hb14⟩ := box_new Try.sizeOf31 w13 [.int .u16 0, .int .u16 0, .slice none 0 0] rfl [.int .u16 src, .int .u16 dst, .slice ax x.length kx] rfl (by simp [Value.oneCell'])
    have y13 := hb12.trans (hb13.mono hb12.size)
    have y34 := hb13.trans (hb14.mono hb13.size)
    have y14 := y13.trans (hb14.mono y13.size)
    have hv13 := hv11.trans (y13.mono hv11.size)
    have hv14 := hv13.trans (hb14.mono hv13.size)
    have y9 := Y11.out.trans (y14.mono Y11.out.size)
    have LD : Hid (∀ W, Below w14.heap.size w14 W → (Instr.loadAt 31 (.pointer (some ⟨w8.heap.size, 0, none⟩))).run Try.prog W = .ok (.agg d8.toArray) W) := fun W hW => agg_load Try.isAgg31 Try.sizeOf31 N8.out (CellsAt.of_blk (blk_on (blk_on B9u.out y9) hW))
    have LE : Hid (∀ W, Below w14.heap.size w14 W → (Instr.loadAt 31 (.pointer (some ⟨w12.heap.size, 0, none⟩))).run Try.prog W = .ok (.agg d12.toArray) W) := fun W hW => agg_load Try.isAgg31 Try.sizeOf31 hd12.len (CellsAt.of_blk (blk_on (blk_on b13 hb14) hW))
    have LW : Hid (∀ W, Below w14.heap.size w14 W → (Instr.loadAt 31 (.pointer (some ⟨w13.heap.size, 0, none⟩))).run Try.prog W = .ok (.agg [.int .u16 src, .int .u16 dst, .slice ax x.length kx].toArray) W) := fun W hW => agg_load Try.isAgg31 Try.sizeOf31 rfl (CellsAt.of_blk (blk_on b14 hW))
    have k2 := K2.out w13 (UP.out _ hv13)
    have SD : Hid _ := SU.out w14 d8 _ (D9.out.on y9) (WU.out w14 (UP.out _ hv14))
    have SE : Hid (∀ W, Below w14.heap.size w14 W → _) := fun W hW => SU.out W d12 _ ((hd12.on y34).on hW) (WU.out W (UP.out _ (hv14.trans (hW.mono hv14.size))))
    have HST13 : Hid _ := hst13
    have HST14 : Hid _ := hst14
    have hu14 : Below w14.heap.size w14 w14 := Below.refl _ _
    clear hd12 hb12 hb13 hb14 hst13 hst14 b13 b14 y13 y34 y14 y9 hv13 hv11 hv9 D9 B9u N8 Y11 HP11
    go_wp2_with first
      | ((with_reducible show wpList _ _ _ _ _ _); refine arm_store rfl (.tmp 25) (.tmp 107) 31 rfl rfl rfl HST13.out ?_)
      | ((with_reducible show wpList _ _ _ _ _ _); refine arm_store rfl (.tmp 27) (.tmp 113) 31 rfl rfl rfl HST14.out ?_)
      | ((with_reducible show wpList _ _ _ _ _ _); refine arm_load rfl (.tmp 20) 31 rfl rfl (LD.out _ hu14) ?_)
      | ((with_reducible show wpList _ _ _ _ _ _); refine arm_load rfl (.tmp 27) 31 rfl rfl (LW.out _ hu14) ?_)
    refine Calls.mono SD.out ?_
    rintro _ w15 ⟨rfl, hu15⟩
    have hv15 := hv14.trans (hu15.mono hv14.size)
    go_wp2_with first
      | ((with_reducible show wpList _ _ _ _ _ _); refine arm_load rfl (.tmp 25) 31 rfl rfl (LE.out _ hu15) ?_)
      | ((with_reducible show wpList _ _ _ _ _ _); refine arm_load rfl (.tmp 27) 31 rfl rfl (LW.out _ hu15) ?_)
    refine Calls.mono (SE.out _ hu15) ?_
    rintro _ w16 ⟨rfl, hu16⟩
    have hv16 := hv15.trans (hu16.mono hv15.size)
    clear k2 LD LE LW SD SE HST13 HST14 hu14 hu15 hu16 hv14 hv15
    by_cases ht0 : te = 0
    · skip
      obtain ⟨Z4t, Z6t, t4e, tr4, tw4, tw6, tp4, tp6⟩ := TOK.out ht0
      have TR4 : Hid _ := tr4
      have TW4 : Hid _ := tw4
      have TW6 : Hid _ := tw6
      have TP4 : Hid _ := tp4
      have TP6 : Hid _ := tp6
      rw [t4e, ht0] at M5
      clear t4e tr4 tw4 tw6 tp4 tp6 TOK TNO
      go_wp2_with first
        | ((with_reducible show wpList _ _ _ _ _ _); refine arm_load rfl (.tmp 141) 23 rfl rfl (HLA.out _ (UP.out _ hv16)) ?_)
        | ((with_reducible show wpList _ _ _ _ _ _); refine arm_load rfl (.tmp 143) 23 rfl rfl (HLB.out _ (UP.out _ hv16)) ?_)
        | ((with_reducible show wpList _ _ _ _ _ _); refine arm_load rfl (.tmp 9) 34 rfl rfl (HT.out _ (UP.out _ hv16)) ?_)
      refine Calls.mono (M5.out _ (UP.out _ hv16)) ?_
      rintro _ wa ⟨va, rfl, ha⟩
      have hva := hv16.trans (ha.bel.mono hv16.size)
      have hra := TR4.out _ _ _ _ ha
      have HRa : Hid _ := hra
      have HRW : Hid _ := TW4.out _ _ _ _ hra (F13.out _ hva) (F14.out _ hva)
      obtain ⟨aa, ka, rfl, _⟩ := hra.val
      clear ha hra
      go_wp2_with fail
      refine Calls.mono HRW.out ?_
      rintro _ wb ⟨vb, rfl, hrb, hbb⟩
      have hvb := hva.trans (hbb.mono hva.size)
      have HPb : Hid _ := TP4.out _ _ hrb
      have HRb : Hid _ := HRa.out.on hbb
      obtain ⟨ab, kb, rfl, _⟩ := hrb.val
      clear hrb hbb HRa HRW hva
      go_wp2_with first
        | ((with_reducible show wpList _ _ _ _ _ _); refine arm_load rfl (.tmp 164) 23 rfl rfl (HMA.out _ (UP.out _ hvb)) ?_)
        | ((with_reducible show wpList _ _ _ _ _ _); refine arm_load rfl (.tmp 166) 23 rfl rfl (HMB.out _ (UP.out _ hvb)) ?_)
      refine Calls.mono HPb.out ?_
      rintro _ wc ⟨dc, rfl, hdc, hbc⟩
      obtain ⟨wd, hstd, bd, hbd⟩ := box_new Try.sizeOf34 wc [.int .u16 0, .int .u16 0, .int .u32 0, .int .u32 0, .int .u8 0, .int .u16 0, .int .u16 0, .slice none 0 0, .slice none 0 0] rfl dc hdc.1.len hdc.1.one
      have ybd := hbc.trans (hbd.mono hbc.size)
      have hvd := hvb.trans (ybd.mono hvb.size)
      have hgb : w.heap.size + 1 + 1 + 1 < wb.heap.size := Nat.lt_of_lt_of_le HG.out (UP.out _ hvb).size
      have HSTd : Hid _ := hstd
      have Dd : Hid (TcpN wb wd dc t') := ⟨hdc.1.on hbd, hdc.2⟩
      have Bd : Hid _ := bd
      have Gc : Hid (w.heap.size + 1 + 1 + 1 < wc.heap.size) := Nat.lt_of_lt_of_le hgb hbc.size
      have Gb : Hid _ := hgb
      have Nd : Hid _ := hdc.1.len
      have HRd : Hid _ := HRb.out.on ybd
      have HSX : Hid _ := SX.out _ _ (F13.out _ hvd)
      clear hdc hbc hbd hstd bd ybd HPb HRb hgb hvb
      go_wp2_with ((with_reducible show wpList _ _ _ _ _ _); refine arm_store rfl (.tmp 31) (.tmp 170) 34 rfl rfl rfl HSTd.out ?_)
      refine Calls.mono HSX.out ?_
      rintro _ we ⟨ae, ne, ke, rfl, hse, hbe⟩
      have hve := hvd.trans (hbe.mono hvd.size)
      have HRW : Hid _ := TW6.out _ _ _ _ (HRd.out.on hbe) hse (F15.out _ hve)
      have Ye : Hid _ := hbe
      clear hse hbe HSX HSTd HRd
      go_wp2_with fail
      refine Calls.mono HRW.out ?_
      rintro _ wf ⟨vf, rfl, hrf, hbf⟩
      have hvf := hve.trans (hbf.mono hve.size)
      have HPf : Hid _ := TP6.out _ _ hrf
      have Yf : Hid _ := Ye.out.trans (hbf.mono Ye.out.size)
      obtain ⟨af, kf, rfl, _⟩ := hrf.val
      clear hrf hbf HRW Ye hve
      go_wp2_with first
        | ((with_reducible show wpList _ _ _ _ _ _); refine arm_load rfl (.tmp 183) 25 rfl rfl (HMC.out _ (UP.out _ hvf)) ?_)
        | ((with_reducible show wpList _ _ _ _ _ _); refine arm_load rfl (.tmp 185) 25 rfl rfl (HMD.out _ (UP.out _ hvf)) ?_)
      refine Calls.mono HPf.out ?_
      rintro _ wg ⟨dg, rfl, hdg, hbg⟩
      obtain ⟨wh, hsth, bh, hbh⟩ := box_new Try.sizeOf34 wg [.int .u16 0, .int .u16 0, .int .u32 0, .int .u32 0, .int .u8 0, .int .u16 0, .int .u16 0, .slice none 0 0, .slice none 0 0] rfl dg hdg.1.len hdg.1.one
      have yfh := hbg.trans (hbh.mono hbg.size)
      have hvh := hvf.trans (yfh.mono hvf.size)
      have ydh := Yf.out.trans (yfh.mono Yf.out.size)
      have hgf : w.heap.size + 1 + 1 + 1 < wf.heap.size := Nat.lt_of_lt_of_le HG.out (UP.out _ hvf).size
      have hgg : w.heap.size + 1 + 1 + 1 < wg.heap.size := Nat.lt_of_lt_of_le hgf hbg.size
      have bR := B9.out _ (UP.out _ hvh)
      have k0 : wh.cell? ⟨w.heap.size + 1 + 1 + 1, 0, none⟩ = some (.int .u16 t.src) := blk_cell (j := 0) bR rfl
      have f0 := blk_open bR 0
      have d0 := blk_set bR 0 (.int .u16 src)
      have o0 := (Only.refl (w.heap.size + 1 + 1 + 1) wh).set 0 (.int .u16 src)
      obtain ⟨wm, hwm⟩ : ∃ wm, wh.setCell ⟨w.heap.size + 1 + 1 + 1, 0, none⟩ (.int .u16 src) = wm := ⟨_, rfl⟩
      rw [hwm] at d0 o0
      have k1 : wm.cell? ⟨w.heap.size + 1 + 1 + 1, 1, none⟩ = some (.int .u16 t.dst) := blk_cell (j := 1) d0 rfl
      have f1 := blk_open d0 1
      have d1 := blk_set d0 1 (.int .u16 dst)
      have o1 := o0.set 1 (.int .u16 dst)
      obtain ⟨wn, hwn⟩ : ∃ wn, wm.setCell ⟨w.heap.size + 1 + 1 + 1, 1, none⟩ (.int .u16 dst) = wn := ⟨_, rfl⟩
      rw [hwn] at d1 o1
      have hWn : Below w.heap.size w wn := (HB.out.trans ((UP.out _ hvh).mono HB.out.size)).trans (o1.below (by omega))
      have bc1 := (o1.other wc.heap.size (by have := Gc.out; omega)).trans (blk_on Bd.out ydh)
      have bg1 := (o1.other wg.heap.size (by omega)).trans bh
      have LC : Hid (∀ W, Below wn.heap.size wn W → (Instr.loadAt 34 (.pointer (some ⟨wc.heap.size, 0, none⟩))).run Try.prog W = .ok (.agg dc.toArray) W) := fun W hW => agg_load Try.isAgg34 Try.sizeOf34 Nd.out (CellsAt.of_blk (blk_on bc1 hW))
      have LG : Hid (∀ W, Below wn.heap.size wn W → (Instr.loadAt 34 (.pointer (some ⟨wg.heap.size, 0, none⟩))).run Try.prog W = .ok (.agg dg.toArray) W) := fun W hW => agg_load Try.isAgg34 Try.sizeOf34 hdg.1.len (CellsAt.of_blk (blk_on bg1 hW))
      have LN : Hid (∀ W, Below wn.heap.size wn W → (Instr.loadAt 34 (.pointer (some ⟨w.heap.size + 1 + 1 + 1, 0, none⟩))).run Try.prog W = .ok (.agg [.int .u16 src, .int .u16 dst, .int .u32 t.seq, .int .u32 t.ack, .int .u8 t.fl, .int .u16 t.win, .int .u16 t.urg, .slice ao t.opts.length ko, .slice ad t.data.length kd].toArray) W) := fun W hW => agg_load Try.isAgg34 Try.sizeOf34 rfl (CellsAt.of_blk (blk_on d1 hW))
      have Dc1 : TcpN wb wh dc t' := ⟨Dd.out.1.on ydh, Dd.out.2⟩
      have Dc2 := (Dc1.only Gb.out o1).1
      have Dg1 : TcpN wf wh dg t' := ⟨hdg.1.on hbh, hdg.2⟩
      have Dg2 := (Dg1.only hgf o1).1
      have SC : Hid _ := ST.out wn dc _ Dc2 (WT.out wn hWn)
      have SG : Hid (∀ W, Below wn.heap.size wn W → _) := fun W hW => ST.out W dg _ (Dg2.on hW) (WT.out W (hWn.trans (hW.mono hWn.size)))
      have HSTH : Hid _ := hsth
      have HF : Hid _ := hWn
      have hz0 : Below wn.heap.size wn wn := Below.refl _ _
      clear hdg hbg hbh hsth bh yfh hvh ydh hgf hgg bR d0 o0 d1 o1 hWn bc1 bg1 Dc1 Dc2 Dg1 Dg2 hvf Dd Bd Gc Gb Nd Yf HPf hvd
      go_wp2_with first
        | ((with_reducible show wpList _ _ _ _ _ _); refine arm_store rfl (.tmp 35) (.tmp 189) 34 rfl rfl rfl HSTH.out ?_)
        | ((with_reducible show wpList _ _ _ _ _ _); refine arm_load rfl (.tmp 31) 34 rfl rfl (LC.out _ hz0) ?_)
        | ((with_reducible show wpList _ _ _ _ _ _); refine arm_load rfl (.tmp 9) 34 rfl rfl (LN.out _ hz0) ?_)
      refine Calls.mono SC.out ?_
      rintro _ wo ⟨rfl, hzo⟩
      go_wp2_with first
        | ((with_reducible show wpList _ _ _ _ _ _); refine arm_load rfl (.tmp 35) 34 rfl rfl (LG.out _ hzo) ?_)
        | ((with_reducible show wpList _ _ _ _ _ _); refine arm_load rfl (.tmp 9) 34 rfl rfl (LN.out _ hzo) ?_)
      refine Calls.mono (SG.out _ hzo) ?_
      rintro _ wp ⟨rfl, hzp⟩
      have HZ : Hid _ := HF.out.trans ((hzo.trans (hzp.mono hzo.size)).mono HF.out.size)
      clear hzo hzp
      go_wp2
      go_ret
      exact ⟨rfl, HZ.out⟩
    · skip
      obtain ⟨t4e, tn⟩ := TNO.out ht0
      have TN2 : Hid _ := tn
      rw [t4e] at M5
      have qt : (te != 0) = true := by simpa using ht0
      clear t4e tn TOK TNO ht0
      go_wp2_with first
        | ((with_reducible show wpList _ _ _ _ _ _); refine arm_load rfl (.tmp 141) 23 rfl rfl (HLA.out _ (UP.out _ hv16)) ?_)
        | ((with_reducible show wpList _ _ _ _ _ _); refine arm_load rfl (.tmp 143) 23 rfl rfl (HLB.out _ (UP.out _ hv16)) ?_)
        | ((with_reducible show wpList _ _ _ _ _ _); refine arm_load rfl (.tmp 9) 34 rfl rfl (HT.out _ (UP.out _ hv16)) ?_)
      refine Calls.mono (M5.out _ (UP.out _ hv16)) ?_
      rintro _ wa ⟨va, rfl, ha⟩
      have hva := hv16.trans (ha.bel.mono hv16.size)
      obtain ⟨aa, ca, rfl⟩ := TN2.out _ _ _ _ ha
      have HF : Hid (Below w.heap.size w wa) := HB.out.trans ((UP.out _ hva).mono HB.out.size)
      clear ha hva
      go_wp2
      go_ret
      exact ⟨rfl, HF.out⟩
  · skip
    have qu : (ue == 0) = false := by simpa using hu0
    clear UOK hu0
    refine Calls.mono (M1.out _ (UP.out _ hv5)) ?_
    rintro _ w6 ⟨v6, rfl, h6⟩
    have hv6 := hv5.trans (h6.bel.mono hv5.size)
    obtain ⟨a6, n6, k6, rfl⟩ := OB.slc h6
    clear h6
    by_cases ht0 : te = 0
    · skip
      obtain ⟨Z4t, Z6t, t4e, tr4, tw4, tw6, tp4, tp6⟩ := TOK.out ht0
      have TR4 : Hid _ := tr4
      have TW4 : Hid _ := tw4
      have TW6 : Hid _ := tw6
      have TP4 : Hid _ := tp4
      have TP6 : Hid _ := tp6
      rw [t4e, ht0] at M5
      clear t4e tr4 tw4 tw6 tp4 tp6 TOK TNO
      go_wp2_with first
        | ((with_reducible show wpList _ _ _ _ _ _); refine arm_load rfl (.tmp 141) 23 rfl rfl (HLA.out _ (UP.out _ hv6)) ?_)
        | ((with_reducible show wpList _ _ _ _ _ _); refine arm_load rfl (.tmp 143) 23 rfl rfl (HLB.out _ (UP.out _ hv6)) ?_)
        | ((with_reducible show wpList _ _ _ _ _ _); refine arm_load rfl (.tmp 9) 34 rfl rfl (HT.out _ (UP.out _ hv6)) ?_)
      refine Calls.mono (M5.out _ (UP.out _ hv6)) ?_
      rintro _ wa ⟨va, rfl, ha⟩
      have hva := hv6.trans (ha.bel.mono hv6.size)
      have hra := TR4.out _ _ _ _ ha
      have HRa : Hid _ := hra
      have HRW : Hid _ := TW4.out _ _ _ _ hra (F13.out _ hva) (F14.out _ hva)
      obtain ⟨aa, ka, rfl, _⟩ := hra.val
      clear ha hra
      go_wp2_with fail
      refine Calls.mono HRW.out ?_
      rintro _ wb ⟨vb, rfl, hrb, hbb⟩
      have hvb := hva.trans (hbb.mono hva.size)
      have HPb : Hid _ := TP4.out _ _ hrb
      have HRb : Hid _ := HRa.out.on hbb
      obtain ⟨ab, kb, rfl, _⟩ := hrb.val
      clear hrb hbb HRa HRW hva
      go_wp2_with first
        | ((with_reducible show wpList _ _ _ _ _ _); refine arm_load rfl (.tmp 164) 23 rfl rfl (HMA.out _ (UP.out _ hvb)) ?_)
        | ((with_reducible show wpList _ _ _ _ _ _); refine arm_load rfl (.tmp 166) 23 rfl rfl (HMB.out _ (UP.out _ hvb)) ?_)
      refine Calls.mono HPb.out ?_
      rintro _ wc ⟨dc, rfl, hdc, hbc⟩
      obtain ⟨wd, hstd, bd, hbd⟩ := box_new Try.sizeOf34 wc [.int .u16 0, .int .u16 0, .int .u32 0, .int .u32 0, .int .u8 0, .int .u16 0, .int .u16 0, .slice none 0 0, .slice none 0 0] rfl dc hdc.1.len hdc.1.one
      have ybd := hbc.trans (hbd.mono hbc.size)
      have hvd := hvb.trans (ybd.mono hvb.size)
      have hgb : w.heap.size + 1 + 1 + 1 < wb.heap.size := Nat.lt_of_lt_of_le HG.out (UP.out _ hvb).size
      have HSTd : Hid _ := hstd
      have Dd : Hid (TcpN wb wd dc t') := ⟨hdc.1.on hbd, hdc.2⟩
      have Bd : Hid _ := bd
      have Gc : Hid (w.heap.size + 1 + 1 + 1 < wc.heap.size) := Nat.lt_of_lt_of_le hgb hbc.size
      have Gb : Hid _ := hgb
      have Nd : Hid _ := hdc.1.len
      have HRd : Hid _ := HRb.out.on ybd
      have HSX : Hid _ := SX.out _ _ (F13.out _ hvd)
      clear hdc hbc hbd hstd bd ybd HPb HRb hgb hvb
      go_wp2_with ((with_reducible show wpList _ _ _ _ _ _); refine arm_store rfl (.tmp 31) (.tmp 170) 34 rfl rfl rfl HSTd.out ?_)
      refine Calls.mono HSX.out ?_
      rintro _ we ⟨ae, ne, ke, rfl, hse, hbe⟩
      have hve := hvd.trans (hbe.mono hvd.size)
      have HRW : Hid _ := TW6.out _ _ _ _ (HRd.out.on hbe) hse (F15.out _ hve)
      have Ye : Hid _ := hbe
      clear hse hbe HSX HSTd HRd
      go_wp2_with fail
      refine Calls.mono HRW.out ?_
      rintro _ wf ⟨vf, rfl, hrf, hbf⟩
      have hvf := hve.trans (hbf.mono hve.size)
      have HPf : Hid _ := TP6.out _ _ hrf
      have Yf : Hid _ := Ye.out.trans (hbf.mono Ye.out.size)
      obtain ⟨af, kf, rfl, _⟩ := hrf.val
      clear hrf hbf HRW Ye hve
      go_wp2_with first
        | ((with_reducible show wpList _ _ _ _ _ _); refine arm_load rfl (.tmp 183) 25 rfl rfl (HMC.out _ (UP.out _ hvf)) ?_)
        | ((with_reducible show wpList _ _ _ _ _ _); refine arm_load rfl (.tmp 185) 25 rfl rfl (HMD.out _ (UP.out _ hvf)) ?_)
      refine Calls.mono HPf.out ?_
      rintro _ wg ⟨dg, rfl, hdg, hbg⟩
      obtain ⟨wh, hsth, bh, hbh⟩ := box_new Try.sizeOf34 wg [.int .u16 0, .int .u16 0, .int .u32 0, .int .u32 0, .int .u8 0, .int .u16 0, .int .u16 0, .slice none 0 0, .slice none 0 0] rfl dg hdg.1.len hdg.1.one
      have yfh := hbg.trans (hbh.mono hbg.size)
      have hvh := hvf.trans (yfh.mono hvf.size)
      have ydh := Yf.out.trans (yfh.mono Yf.out.size)
      have hgf : w.heap.size + 1 + 1 + 1 < wf.heap.size := Nat.lt_of_lt_of_le HG.out (UP.out _ hvf).size
      have hgg : w.heap.size + 1 + 1 + 1 < wg.heap.size := Nat.lt_of_lt_of_le hgf hbg.size
      have bR := B9.out _ (UP.out _ hvh)
      have k0 : wh.cell? ⟨w.heap.size + 1 + 1 + 1, 0, none⟩ = some (.int .u16 t.src) := blk_cell (j := 0) bR rfl
      have f0 := blk_open bR 0
      have d0 := blk_set bR 0 (.int .u16 src)
      have o0 := (Only.refl (w.heap.size + 1 + 1 + 1) wh).set 0 (.int .u16 src)
      obtain ⟨wm, hwm⟩ : ∃ wm, wh.setCell ⟨w.heap.size + 1 + 1 + 1, 0, none⟩ (.int .u16 src) = wm := ⟨_, rfl⟩
      rw [hwm] at d0 o0
      have k1 : wm.cell? ⟨w.heap.size + 1 + 1 + 1, 1, none⟩ = some (.int .u16 t.dst) := blk_cell (j := 1) d0 rfl
      have f1 := blk_open d0 1
      have d1 := blk_set d0 1 (.int .u16 dst)
      have o1 := o0.set 1 (.int .u16 dst)
      obtain ⟨wn, hwn⟩ : ∃ wn, wm.setCell ⟨w.heap.size + 1 + 1 + 1, 1, none⟩ (.int .u16 dst) = wn := ⟨_, rfl⟩
      rw [hwn] at d1 o1
      have hWn : Below w.heap.size w wn := (HB.out.trans ((UP.out _ hvh).mono HB.out.size)).trans (o1.below (by omega))
      have bc1 := (o1.other wc.heap.size (by have := Gc.out; omega)).trans (blk_on Bd.out ydh)
      have bg1 := (o1.other wg.heap.size (by omega)).trans bh
      have LC : Hid (∀ W, Below wn.heap.size wn W → (Instr.loadAt 34 (.pointer (some ⟨wc.heap.size, 0, none⟩))).run Try.prog W = .ok (.agg dc.toArray) W) := fun W hW => agg_load Try.isAgg34 Try.sizeOf34 Nd.out (CellsAt.of_blk (blk_on bc1 hW))
      have LG : Hid (∀ W, Below wn.heap.size wn W → (Instr.loadAt 34 (.pointer (some ⟨wg.heap.size, 0, none⟩))).run Try.prog W = .ok (.agg dg.toArray) W) := fun W hW => agg_load Try.isAgg34 Try.sizeOf34 hdg.1.len (CellsAt.of_blk (blk_on bg1 hW))
      have LN : Hid (∀ W, Below wn.heap.size wn W → (Instr.loadAt 34 (.pointer (some ⟨w.heap.size + 1 + 1 + 1, 0, none⟩))).run Try.prog W = .ok (.agg [.int .u16 src, .int .u16 dst, .int .u32 t.seq, .int .u32 t.ack, .int .u8 t.fl, .int .u16 t.win, .int .u16 t.urg, .slice ao t.opts.length ko, .slice ad t.data.length kd].toArray) W) := fun W hW => agg_load Try.isAgg34 Try.sizeOf34 rfl (CellsAt.of_blk (blk_on d1 hW))
      have Dc1 : TcpN wb wh dc t' := ⟨Dd.out.1.on ydh, Dd.out.2⟩
      have Dc2 := (Dc1.only Gb.out o1).1
      have Dg1 : TcpN wf wh dg t' := ⟨hdg.1.on hbh, hdg.2⟩
      have Dg2 := (Dg1.only hgf o1).1
      have SC : Hid _ := ST.out wn dc _ Dc2 (WT.out wn hWn)
      have SG : Hid (∀ W, Below wn.heap.size wn W → _) := fun W hW => ST.out W dg _ (Dg2.on hW) (WT.out W (hWn.trans (hW.mono hWn.size)))
      have HSTH : Hid _ := hsth
      have HF : Hid _ := hWn
      have hz0 : Below wn.heap.size wn wn := Below.refl _ _
      clear hdg hbg hbh hsth bh yfh hvh ydh hgf hgg bR d0 o0 d1 o1 hWn bc1 bg1 Dc1 Dc2 Dg1 Dg2 hvf Dd Bd Gc Gb Nd Yf HPf hvd
      go_wp2_with first
        | ((with_reducible show wpList _ _ _ _ _ _); refine arm_store rfl (.tmp 35) (.tmp 189) 34 rfl rfl rfl HSTH.out ?_)
        | ((with_reducible show wpList _ _ _ _ _ _); refine arm_load rfl (.tmp 31) 34 rfl rfl (LC.out _ hz0) ?_)
        | ((with_reducible show wpList _ _ _ _ _ _); refine arm_load rfl (.tmp 9) 34 rfl rfl (LN.out _ hz0) ?_)
      refine Calls.mono SC.out ?_
      rintro _ wo ⟨rfl, hzo⟩
      go_wp2_with first
        | ((with_reducible show wpList _ _ _ _ _ _); refine arm_load rfl (.tmp 35) 34 rfl rfl (LG.out _ hzo) ?_)
        | ((with_reducible show wpList _ _ _ _ _ _); refine arm_load rfl (.tmp 9) 34 rfl rfl (LN.out _ hzo) ?_)
      refine Calls.mono (SG.out _ hzo) ?_
      rintro _ wp ⟨rfl, hzp⟩
      have HZ : Hid _ := HF.out.trans ((hzo.trans (hzp.mono hzo.size)).mono HF.out.size)
      clear hzo hzp
      go_wp2
      go_ret
      exact ⟨rfl, HZ.out⟩
    · skip
      obtain ⟨t4e, tn⟩ := TNO.out ht0
      have TN2 : Hid _ := tn
      rw [t4e] at M5
      have qt : (te != 0) = true := by simpa using ht0
      clear t4e tn TOK TNO ht0
      go_wp2_with first
        | ((with_reducible show wpList _ _ _ _ _ _); refine arm_load rfl (.tmp 141) 23 rfl rfl (HLA.out _ (UP.out _ hv6)) ?_)
        | ((with_reducible show wpList _ _ _ _ _ _); refine arm_load rfl (.tmp 143) 23 rfl rfl (HLB.out _ (UP.out _ hv6)) ?_)
        | ((with_reducible show wpList _ _ _ _ _ _); refine arm_load rfl (.tmp 9) 34 rfl rfl (HT.out _ (UP.out _ hv6)) ?_)
      refine Calls.mono (M5.out _ (UP.out _ hv6)) ?_
      rintro _ wa ⟨va, rfl, ha⟩
      have hva := hv6.trans (ha.bel.mono hv6.size)
      obtain ⟨aa, ca, rfl⟩ := TN2.out _ _ _ _ ha
      have HF : Hid (Below w.heap.size w wa) := HB.out.trans ((UP.out _ hva).mono HB.out.size)
      clear ha hva
      go_wp2
      go_ret
      exact ⟨rfl, HF.out⟩

set_option maxRecDepth 100000 in
theorem segmentNAT_open {H : Type} {enc : TypeId × Value → H} {W : World} {base : Nat} (v0 v1 v2 v3 v4 v5 : Value) {d0 d1 d2 d3 d4 d5 : DataW H} {p0 p1 p2 p3 p4 p5 : List MemPlace}
    (o0 : Value.okWide Try.prog W .any base 27 v0) (h0 : DataW.Trod enc Try.prog W 0 (fun _ => true) true 27 v0 d0 p0) (z0 : ∀ k ∈ d0.weights Try.prog 27, k ≤ reachBytes)
    (o1 : Value.okWide Try.prog W .any base 27 v1) (h1 : DataW.Trod enc Try.prog W 0 (fun _ => true) true 27 v1 d1 p1) (z1 : ∀ k ∈ d1.weights Try.prog 27, k ≤ reachBytes)
    (o2 : Value.okWide Try.prog W .any base 31 v2) (h2 : DataW.Trod enc Try.prog W 0 (fun _ => true) true 31 v2 d2 p2) (z2 : ∀ k ∈ d2.weights Try.prog 31, k ≤ reachBytes)
    (o3 : Value.okWide Try.prog W .any base 34 v3) (h3 : DataW.Trod enc Try.prog W 0 (fun _ => true) true 34 v3 d3 p3) (z3 : ∀ k ∈ d3.weights Try.prog 34, k ≤ reachBytes)
    (o4 : Value.okWide Try.prog W .any base 28 v4) (h4 : DataW.Trod enc Try.prog W 0 (fun _ => true) true 28 v4 d4 p4) (z4 : ∀ k ∈ d4.weights Try.prog 28, k ≤ reachBytes)
    (o5 : Value.okWide Try.prog W .any base 28 v5) (h5 : DataW.Trod enc Try.prog W 0 (fun _ => true) true 28 v5 d5 p5) (z5 : ∀ k ∈ d5.weights Try.prog 28, k ≤ reachBytes) :
    Calls Try.prog 10 #[v0, v1, v2, v3, v4, v5] W fun e w' => e = .returned (.bool true) ∧ Below W.heap.size W w' := by
  obtain ⟨A, B, C, D, rfl, la, lb, lc, ld, fa, fb, fc, fd⟩ := open_ends h0 z0
  obtain ⟨A', B', C', D', rfl, la', lb', lc', ld', fa', fb', fc', fd'⟩ := open_ends h1 z1
  obtain ⟨u, s, d, x, rfl, hu⟩ := open_udp h2 z2
  obtain ⟨c, t, rfl, ht⟩ := open_tcp h3 z3
  obtain ⟨src, rfl, _, _, ws⟩ := Go.ChangeShapes.open_int Try.underlying28 o4 h4
  obtain ⟨dst, rfl, _, _, wd⟩ := Go.ChangeShapes.open_int Try.underlying28 o5 h5
  have hsrc := bounds_u16 ws
  have hdst := bounds_u16 wd
  exact segmentNAT_walk A B C D A' B' C' D' la lb lc ld fa fb fc fd la' lb' lc' ld' fa' fb' fc' fd' u c s d x t src dst hsrc hdst W hu ht

end Go.Proofs.Ytnlaomjhnndblaa
