/-
  answer and Packet of package tofour, of a datagram of UDP without heads.
  awake of the statements of tofour.
  Ends6 that are alike; what Tells of tofour gives.
-/
import Derived.Test.YtpgnnplpcalbbaaGreatFold38
import Derived.Test.YtpgnnplpcalbbaaGreatFold29
import Derived.Test.YtpgnnplpcalbbaaGreatFold37
import Derived.Lib.SlBytesConst
import Derived.Test.YtpgnnplpcalbbaaGreatFold35
import Derived.Test.YtpgnnplpcalbbaaGreatFold10
import Derived.Stop.BytesEq
set_option linter.unusedVariables false
set_option linter.unusedSimpArgs false
namespace Go.Proofs.YtpgnnplpcalbbaaGreat
open Go Go.RowKit Go.Shelf
set_option maxHeartbeats 2000000 in
set_option maxRecDepth 100000 in
theorem ans_udpS (f : V6.F6) (g : V6.G6) (vb : Value) (hs : V6.Opts) (A B body : List Int) (c0 c1 c2 c3 d0 d1 d2 d3 : Int) (fC : Fit [c0, c1, c2, c3]) (fD : Fit [d0, d1, d2, d3]) (h17 : f.proto = 17) (hg : g.fr = false) (hoff : g.off ≤ 0) (h8 : 8 ≤ body.length) (hz : wd2 body 6 ≠ 0) (hbl : body.length ≤ 65515) (w : World) (h : SIn w f (.slice none 0 0) vb hs A B body) (hck : ∀ W, SIn W f (.slice none 0 0) vb hs A B body → Calls Tryz.prog 63 #[V6.VV f g (.slice none 0 0) vb] W fun e w' => e = .returned (.int .i64 0) ∧ Below W.heap.size W w') (p q r : Nat) (hp : w.heap[p]? = some (V6.BV f g (.slice none 0 0) vb)) (hq : w.heap[q]? = some (.cells [.int .u8 c0, .int .u8 c1, .int .u8 c2, .int .u8 c3, .int .u8 d0, .int .u8 d1, .int .u8 d2, .int .u8 d3].toArray 59)) :
    Calls Tryz.prog 90 #[.func (.func 91) #[] #[.pointer (some ⟨p, 0, none⟩), .pointer (some ⟨q, 0, none⟩), .pointer (some ⟨r, 0, none⟩)]] w fun e w' => ∃ G k, e = .returned (.tuple #[.agg [.int .u8 f.cls, .int .u16 0, .bool true, .bool false, .int .i64 0, .int .u8 f.hop, .int .u8 (17), .int .u8 c0, .int .u8 c1, .int .u8 c2, .int .u8 c3, .int .u8 d0, .int .u8 d1, .int .u8 d2, .int .u8 d3, .slice none 0 0, .slice (some ⟨G, 0, none⟩) body.length k].toArray, .int .i64 0]) ∧ body.length ≤ k ∧ w.heap.size ≤ G ∧ OwnG w' G (putL body 6 (upS 17 A B [c0, c1, c2, c3] [d0, d1, d2, d3] body)) ∧ Below w.heap.size w w' := by
  have hmf : ∀ (fn : Fn) (first cap : Array Value) (w : World), (Instr.makeFunc fn first cap).run Tryz.prog w = .ok (.func fn first cap) w := fun _ _ _ _ => rfl
  obtain ⟨W0, hW0⟩ : ∃ W0, W0 = (w.alloc (.cells [.int .u8 0, .int .u16 0, .bool false, .bool false, .int .i64 0, .int .u8 0, .int .u8 0, .int .u8 0, .int .u8 0, .int .u8 0, .int .u8 0, .int .u8 0, .int .u8 0, .int .u8 0, .int .u8 0, .slice none 0 0, .slice none 0 0].toArray 27)).alloc (eBoxS 0) := ⟨_, rfl⟩
  have hbA : W0.heap[w.heap.size]? = some (.cells [.int .u8 0, .int .u16 0, .bool false, .bool false, .int .i64 0, .int .u8 0, .int .u8 0, .int .u8 0, .int .u8 0, .int .u8 0, .int .u8 0, .int .u8 0, .int .u8 0, .int .u8 0, .int .u8 0, .slice none 0 0, .slice none 0 0].toArray 27) := by rw [hW0]; exact blk_alloc (blk_new w _) _
  have hbB : W0.heap[w.heap.size + 1]? = some (eBoxS 0) := by
    have := blk_new (w.alloc (.cells [.int .u8 0, .int .u16 0, .bool false, .bool false, .int .i64 0, .int .u8 0, .int .u8 0, .int .u8 0, .int .u8 0, .int .u8 0, .int .u8 0, .int .u8 0, .int .u8 0, .int .u8 0, .int .u8 0, .slice none 0 0, .slice none 0 0].toArray 27)) (eBoxS 0)
    rw [show (w.alloc (.cells [.int .u8 0, .int .u16 0, .bool false, .bool false, .int .i64 0, .int .u8 0, .int .u8 0, .int .u8 0, .int .u8 0, .int .u8 0, .int .u8 0, .int .u8 0, .int .u8 0, .int .u8 0, .int .u8 0, .slice none 0 0, .slice none 0 0].toArray 27)).heap.size = w.heap.size + 1 by simp] at this
    rw [hW0]; exact this
  have hB0 : Below w.heap.size w W0 := by rw [hW0]; exact ((Below.refl w.heap.size w).alloc (Nat.le_refl _) _).alloc (by simp) _
  have hs0 : W0.heap.size = w.heap.size + 2 := by rw [hW0]; simp
  have hway := way_udpS f g vb hs A B body c0 c1 c2 c3 d0 d1 d2 d3 fC fD h17 hg hoff h8 hz hbl W0 (h.on hB0) hck p q r (blk_on hp hB0) (blk_on hq hB0)
  obtain ⟨Z, hZ⟩ : ∃ Z, putL body 6 (upS 17 A B [c0, c1, c2, c3] [d0, d1, d2, d3] body) = Z := ⟨_, rfl⟩
  rw [hZ] at hway ⊢
  have HC : Hid _ := hway
  have HA0 : Hid (W0.heap[w.heap.size]? = some (.cells [.int .u8 0, .int .u16 0, .bool false, .bool false, .int .i64 0, .int .u8 0, .int .u8 0, .int .u8 0, .int .u8 0, .int .u8 0, .int .u8 0, .int .u8 0, .int .u8 0, .int .u8 0, .int .u8 0, .slice none 0 0, .slice none 0 0].toArray 27)) := hbA
  have HB0 : Hid (W0.heap[w.heap.size + 1]? = some (eBoxS 0)) := hbB
  have HBB : Hid (Below w.heap.size w W0) := hB0
  have HS0 : Hid (W0.heap.size = w.heap.size + 2) := hs0
  have hW := hW0.symm
  unfold eBoxS at hW
  clear hbA hbB hB0 hW0 hs0 hp hq hway hck h hZ hz h8 hg h17 fC fD
  go_enter_defers Tryz.func90, Tryz.ntmps90
  go_wp2_with fail
  refine Calls.mono HC.out ?_
  rintro e1 w1 ⟨G, k, rfl, hk1, hk2, own1, hb1⟩
  obtain ⟨w2, hst, hbx, ho⟩ := V6.box_store Tryz.sizeOf27 (blk_on HA0.out hb1) (by rfl) [.int .u8 f.cls, .int .u16 0, .bool true, .bool false, .int .i64 0, .int .u8 f.hop, .int .u8 (17), .int .u8 c0, .int .u8 c1, .int .u8 c2, .int .u8 c3, .int .u8 d0, .int .u8 d1, .int .u8 d2, .int .u8 d3, .slice none 0 0, .slice (some ⟨G, 0, none⟩) body.length k] rfl (by simp [Value.oneCell'])
  have hB2 : w2.heap[w.heap.size + 1]? = some (eBoxS 0) := (ho.other _ (by omega)).trans (blk_on HB0.out hb1)
  obtain ⟨w3, hst3, hA3, hB3, ho3⟩ : ∃ w3, (Instr.storeAt 37 (.pointer (some ⟨w.heap.size + 1, 0, none⟩)) (.int .i64 0)).run Tryz.prog w2 = .ok () w3 ∧ w3.heap[w.heap.size]? = some (.cells [.int .u8 f.cls, .int .u16 0, .bool true, .bool false, .int .i64 0, .int .u8 f.hop, .int .u8 (17), .int .u8 c0, .int .u8 c1, .int .u8 c2, .int .u8 c3, .int .u8 d0, .int .u8 d1, .int .u8 d2, .int .u8 d3, .slice none 0 0, .slice (some ⟨G, 0, none⟩) body.length k].toArray 27) ∧ w3.heap[w.heap.size + 1]? = some (eBoxS 0) ∧ Only (w.heap.size + 1) w2 w3 := ⟨_, st_errS (y := 0) hB2, blk_set_other hbx (by omega) _ _, blk_set hB2 0 (.int .i64 0), (Only.refl _ w2).set 0 _⟩
  have hs0 := HS0.out
  have HK : Hid _ := (own1.off ho (by omega)).off ho3 (by omega)
  have HBE : Hid (Below w.heap.size w w3) := ((HBB.out.trans (Below.mono hb1 HBB.out.size)).trans (ho.below (Nat.le_refl _))).trans (ho3.below (by omega))
  have HST : Hid _ := hst
  have HST3 : Hid _ := hst3
  have HA3 : Hid _ := hA3
  have HB3 : Hid _ := hB3
  have hkG : w.heap.size ≤ G := by omega
  clear hst hbx ho hB2 hst3 hA3 hB3 ho3 own1 hb1 HC HA0 HB0 HBB hs0 HS0
  go_wp2_with first
    | ((with_reducible show wpList _ _ _ ({ dst := _, op := Op.store 27 (Operand.tmp 2) (Operand.tmp 6), type := _, pos := _, after := _, guard := _ } :: _) _ _); refine armSS (.tmp 2) (Operand.tmp 6) 27 rfl rfl rfl rfl HST.out ?_; try simp only [])
    | ((with_reducible show wpList _ _ _ ({ dst := _, op := Op.store 37 (Operand.tmp 3) _, type := _, pos := _, after := _, guard := _ } :: _) _ _); refine armSS (.tmp 3) (.const (.int .i64 0)) 37 rfl rfl rfl rfl HST3.out ?_; try simp only [])
  refine leaves_cons (f := 166) (args := #[.pointer (some ⟨w.heap.size + 1, 0, none⟩)]) (by simp) (by simp [go_sem]) ?_
  refine (catch_idleS _ _).mono ?_
  rintro e9 u9 w9 ⟨rfl, rfl, rfl⟩
  exact ⟨_, resCCS rfl rfl rfl (agg_loadVar Tryz.isAgg27 Tryz.sizeOf27 rfl (CellsAt.of_blk HA3.out)) (loadErrS HB3.out), G, k, rfl, hk1, hkG, HK.out, HBE.out⟩
set_option maxHeartbeats 2000000 in
set_option maxRecDepth 100000 in
theorem Packet_udpS (f : V6.F6) (g : V6.G6) (vb : Value) (hs : V6.Opts) (A B body : List Int) (c0 c1 c2 c3 d0 d1 d2 d3 : Int) (fC : Fit [c0, c1, c2, c3]) (fD : Fit [d0, d1, d2, d3]) (h17 : f.proto = 17) (hg : g.fr = false) (hoff : g.off ≤ 0) (h8 : 8 ≤ body.length) (hz : wd2 body 6 ≠ 0) (hbl : body.length ≤ 65515) (w : World) (h : SIn w f (.slice none 0 0) vb hs A B body) (hck : ∀ W, SIn W f (.slice none 0 0) vb hs A B body → Calls Tryz.prog 63 #[V6.VV f g (.slice none 0 0) vb] W fun e w' => e = .returned (.int .i64 0) ∧ Below W.heap.size W w') :
    Calls Tryz.prog 37 #[V6.VV f g (.slice none 0 0) vb, .agg [.int .u8 c0, .int .u8 c1, .int .u8 c2, .int .u8 c3, .int .u8 d0, .int .u8 d1, .int .u8 d2, .int .u8 d3].toArray, .agg [.int .u8 0, .int .u8 0, .int .u8 0, .int .u8 0, .int .u8 0, .int .u8 0, .int .u8 0, .int .u8 0].toArray] w fun e w' => ∃ G k, e = .returned (.tuple #[.agg [.int .u8 f.cls, .int .u16 0, .bool true, .bool false, .int .i64 0, .int .u8 f.hop, .int .u8 (17), .int .u8 c0, .int .u8 c1, .int .u8 c2, .int .u8 c3, .int .u8 d0, .int .u8 d1, .int .u8 d2, .int .u8 d3, .slice none 0 0, .slice (some ⟨G, 0, none⟩) body.length k].toArray, .int .i64 0]) ∧ body.length ≤ k ∧ w.heap.size ≤ G ∧ OwnG w' G (putL body 6 (upS 17 A B [c0, c1, c2, c3] [d0, d1, d2, d3] body)) ∧ Below w.heap.size w w' := by
  have hmf : ∀ (fn : Fn) (first cap : Array Value) (w : World), (Instr.makeFunc fn first cap).run Tryz.prog w = .ok (.func fn first cap) w := fun _ _ _ _ => rfl
  obtain ⟨W0, hW0⟩ : ∃ W0, w.alloc (V6.BV f g (.slice none 0 0) vb) = W0 := ⟨_, rfl⟩
  obtain ⟨W1, hW1⟩ : ∃ W1, W0.alloc (.cells [.int .u8 c0, .int .u8 c1, .int .u8 c2, .int .u8 c3, .int .u8 d0, .int .u8 d1, .int .u8 d2, .int .u8 d3].toArray 59) = W1 := ⟨_, rfl⟩
  obtain ⟨W2, hW2⟩ : ∃ W2, W1.alloc (.cells [.int .u8 0, .int .u8 0, .int .u8 0, .int .u8 0, .int .u8 0, .int .u8 0, .int .u8 0, .int .u8 0].toArray 59) = W2 := ⟨_, rfl⟩
  obtain ⟨W3, hW3⟩ : ∃ W3, W2.alloc (.cells [.int .u8 0, .int .u16 0, .bool false, .bool false, .int .i64 0, .int .u8 0, .int .u8 0, .int .u8 0, .int .u8 0, .int .u8 0, .int .u8 0, .int .u8 0, .int .u8 0, .int .u8 0, .int .u8 0, .slice none 0 0, .slice none 0 0].toArray 27) = W3 := ⟨_, rfl⟩
  have b0 := blk_new w (V6.BV f g (.slice none 0 0) vb)
  have hB0 := (Below.refl w.heap.size w).alloc (Nat.le_refl _) (V6.BV f g (.slice none 0 0) vb)
  rw [hW0] at b0 hB0
  have b1 := blk_new W0 (.cells [.int .u8 c0, .int .u8 c1, .int .u8 c2, .int .u8 c3, .int .u8 d0, .int .u8 d1, .int .u8 d2, .int .u8 d3].toArray 59)
  have hB1 := (Below.refl W0.heap.size W0).alloc (Nat.le_refl _) (.cells [.int .u8 c0, .int .u8 c1, .int .u8 c2, .int .u8 c3, .int .u8 d0, .int .u8 d1, .int .u8 d2, .int .u8 d3].toArray 59)
  rw [hW1] at b1 hB1
  have hB2 := (Below.refl W1.heap.size W1).alloc (Nat.le_refl _) (.cells [.int .u8 0, .int .u8 0, .int .u8 0, .int .u8 0, .int .u8 0, .int .u8 0, .int .u8 0, .int .u8 0].toArray 59)
  rw [hW2] at hB2
  have b3 := blk_new W2 (.cells [.int .u8 0, .int .u16 0, .bool false, .bool false, .int .i64 0, .int .u8 0, .int .u8 0, .int .u8 0, .int .u8 0, .int .u8 0, .int .u8 0, .int .u8 0, .int .u8 0, .int .u8 0, .int .u8 0, .slice none 0 0, .slice none 0 0].toArray 27)
  have hB3 := (Below.refl W2.heap.size W2).alloc (Nat.le_refl _) (.cells [.int .u8 0, .int .u16 0, .bool false, .bool false, .int .i64 0, .int .u8 0, .int .u8 0, .int .u8 0, .int .u8 0, .int .u8 0, .int .u8 0, .int .u8 0, .int .u8 0, .int .u8 0, .int .u8 0, .slice none 0 0, .slice none 0 0].toArray 27)
  rw [hW3] at b3 hB3
  have hX2 := (hB0.trans (hB1.mono hB0.size)).trans (hB2.mono (hB0.trans (hB1.mono hB0.size)).size)
  have hX3 := hX2.trans (hB3.mono hX2.size)
  have h1 := hB0.size
  have h2 := hB1.size
  have h3 := hB2.size
  have h4 : W2.heap.size < W3.heap.size := (Array.getElem?_eq_some_iff.1 b3).1
  have l0 : w.heap.size < W0.heap.size := (Array.getElem?_eq_some_iff.1 b0).1
  have hans := ans_udpS f g vb hs A B body c0 c1 c2 c3 d0 d1 d2 d3 fC fD h17 hg hoff h8 hz hbl W3 (h.on hX3) hck w.heap.size W0.heap.size W1.heap.size (blk_on (blk_on (blk_on b0 hB1) hB2) hB3) (blk_on (blk_on b1 hB2) hB3)
  obtain ⟨Z, hZ⟩ : ∃ Z, putL body 6 (upS 17 A B [c0, c1, c2, c3] [d0, d1, d2, d3] body) = Z := ⟨_, rfl⟩
  rw [hZ] at hans ⊢
  have HA : Hid _ := hans
  have HLE : Hid (w.heap.size ≤ W2.heap.size) := hX2.size
  have HX3 : Hid _ := hX3
  have B3 : Hid _ := b3
  have HL4 : Hid (W2.heap.size < W3.heap.size) := h4
  clear hz h b0 hB0 b1 hB1 hB2 b3 hB3 hX2 hX3 h1 h2 h3 h4 l0 hans hck hZ h8 hg h17 fC fD
  unfold V6.VV V6.BV at *
  generalize (V6.vC f g (.slice none 0 0) vb).toArray = vc at *
  go_enter Tryz.func37, Tryz.ntmps37
  go_wp2_with fail
  refine Calls.mono HA.out ?_
  rintro _ w4 ⟨G, k, rfl, hk1, hk2, own4, hb4⟩
  obtain ⟨w5, hst, hbx, ho⟩ := V6.box_store Tryz.sizeOf27 (blk_on B3.out hb4) rfl [.int .u8 f.cls, .int .u16 0, .bool true, .bool false, .int .i64 0, .int .u8 f.hop, .int .u8 (17), .int .u8 c0, .int .u8 c1, .int .u8 c2, .int .u8 c3, .int .u8 d0, .int .u8 d1, .int .u8 d2, .int .u8 d3, .slice none 0 0, .slice (some ⟨G, 0, none⟩) body.length k] rfl (by simp [Value.oneCell'])
  have hle := HLE.out
  have h4 := HL4.out
  have HK : Hid _ := own4.off ho (by omega)
  have hkG : w.heap.size ≤ G := by omega
  have HBE : Hid (Below w.heap.size w w5) := (HX3.out.trans (hb4.mono HX3.out.size)).trans (ho.below hle)
  have HST : Hid _ := hst
  have HB5 : Hid _ := hbx
  clear hst hbx ho own4 hb4 hle h4 HA
  go_wp2_with ((with_reducible show wpList _ _ _ _ _ _); refine arm_store rfl (.tmp 6) (.tmp 10) 27 rfl rfl rfl HST.out ?_)
  exact bodyPost_ret (res2 rfl rfl (agg_loadVar Tryz.isAgg27 Tryz.sizeOf27 rfl (CellsAt.of_blk HB5.out))) rfl ⟨G, k, rfl, hk1, hkG, HK.out, HBE.out⟩
end Go.Proofs.YtpgnnplpcalbbaaGreat
namespace Go.Proofs.YtpgnnplpcalbbaaGreat
open Go Go.RowKit Go.Shelf
def kA6S : List Int := [1, 0, 0, 0, 0, 0, 0, 0, 0, 0, 0, 0, 0, 0, 0, 0]
def kB6S : List Int := [2, 0, 0, 0, 0, 0, 0, 0, 0, 0, 0, 0, 0, 0, 0, 0]
def kY : List Int := udpB (ph6 kA6S kB6S) 5 6 [120]
def kW : List Int := putL kY 6 (upS 17 kA6S kB6S [10, 0, 0, 0] [11, 0, 0, 0] kY)
theorem kY_len : kY.length = 9 := by decide +kernel
theorem kY_fit : Fit kY := by
  have : ∀ z ∈ kY, 0 ≤ z ∧ z < 256 := by decide +kernel
  exact this
theorem kY_wd : wd2 kY 6 ≠ 0 := by decide +kernel
theorem kW_len : kW.length = 9 := by decide +kernel
theorem kW_fit : Fit kW := by
  have : ∀ z ∈ kW, 0 ≤ z ∧ z < 256 := by decide +kernel
  exact this
theorem kW_E : uE 4 (ph4 [10, 0, 0, 0] [11, 0, 0, 0]) kW = 0 := by decide +kernel
theorem kW_X : uX 4 (ph4 [10, 0, 0, 0] [11, 0, 0, 0]) kW = [120] := by decide +kernel
theorem kA6S_fit : Fit kA6S := by
  have : ∀ z ∈ kA6S, 0 ≤ z ∧ z < 256 := by decide +kernel
  exact this
theorem kB6S_fit : Fit kB6S := by
  have : ∀ z ∈ kB6S, 0 ≤ z ∧ z < 256 := by decide +kernel
  exact this
def kF : V6.F6 := ⟨0, 0, 9, 17, u8L kA6S ++ u8L kB6S, rfl, by simp [kA6S, kB6S, u8L, Value.oneCell']⟩
def kG : V6.G6 := ⟨false, 0, 0, false⟩
theorem kck : V6.ckE kF [] kG 9 = 0 := by decide +kernel
theorem packet_kn (w : World) (b k : Nat) (hr : RowC w (.slice (some ⟨b, 0, none⟩) 9 k) kY) :
    Calls Tryz.prog 37 #[.agg [.int .u8 0, .int .u32 0, .int .u8 9, .int .u8 1, .int .u8 0, .int .u8 0, .int .u8 0, .int .u8 0, .int .u8 0, .int .u8 0, .int .u8 0, .int .u8 0, .int .u8 0, .int .u8 0, .int .u8 0, .int .u8 0, .int .u8 0, .int .u8 0, .int .u8 0, .int .u8 2, .int .u8 0, .int .u8 0, .int .u8 0, .int .u8 0, .int .u8 0, .int .u8 0, .int .u8 0, .int .u8 0, .int .u8 0, .int .u8 0, .int .u8 0, .int .u8 0, .int .u8 0, .int .u8 0, .int .u8 0, .slice none 0 0, .bool false, .int .u32 0, .int .i64 0, .bool false, .int .u8 17, .slice (some ⟨b, 0, none⟩) 9 k].toArray, .agg [.int .u8 10, .int .u8 0, .int .u8 0, .int .u8 0, .int .u8 11, .int .u8 0, .int .u8 0, .int .u8 0].toArray, .agg [.int .u8 0, .int .u8 0, .int .u8 0, .int .u8 0, .int .u8 0, .int .u8 0, .int .u8 0, .int .u8 0].toArray] w fun e w' => ∃ G m, e = .returned (.tuple #[.agg [.int .u8 0, .int .u16 0, .bool true, .bool false, .int .i64 0, .int .u8 9, .int .u8 17, .int .u8 10, .int .u8 0, .int .u8 0, .int .u8 0, .int .u8 11, .int .u8 0, .int .u8 0, .int .u8 0, .slice none 0 0, .slice (some ⟨G, 0, none⟩) 9 m].toArray, .int .i64 0]) ∧ 9 ≤ m ∧ w.heap.size ≤ G ∧ OwnG w' G kW ∧ Below w.heap.size w w' := by
  have h : SIn w kF (.slice none 0 0) (.slice (some ⟨b, 0, none⟩) 9 k) [] kA6S kB6S kY := ⟨⟨V6.HS.nil _ _, BS.of_row hr, by decide⟩, rfl, rfl, rfl, kA6S_fit, kB6S_fit⟩
  have := Packet_udpS kF kG (.slice (some ⟨b, 0, none⟩) 9 k) [] kA6S kB6S kY 10 0 0 0 11 0 0 0 (by intro z hz; simp at hz; omega) (by intro z hz; simp at hz; omega) rfl rfl (by decide) (by rw [kY_len]; decide) kY_wd (by rw [kY_len]; decide) w h (fun W hW => by
    have := V6.Check_any kG hW.d6
    rw [kY_len, kck] at this
    exact this)
  rw [kY_len] at this
  exact this
theorem ex_build1x {o : Oper} {a : Act} {W : World} (hop : o.op = Op.buildSlice 25 1 #[(0, .const (.int .u8 120))]) :
    (execOp a.eval o).run Tryz.prog W = .ok (.value (.slice (some ⟨W.heap.size, 0, none⟩) 1 1)) (W.alloc (.cells #[.int .u8 120] 5)) := by
  simp [execOp, hop, go_sem]
theorem ex_cvbb {o : Oper} {a : Act} {W : World} (k : Nat) {n m : Nat} {C : Array Value} (hop : o.op = Op.convert 25 25 (.tmp k)) (hk : a.eval (.tmp k) = .slice (some ⟨W.heap.size, 0, none⟩) n m) :
    (execOp a.eval o).run Tryz.prog (W.alloc (.cells C 5)) = .ok (.value (.slice (some ⟨W.heap.size, 0, none⟩) n m)) (W.alloc (.cells C 5 (C.size, C.size + 1))) := by
  generalize a.eval = ev at *
  have h := Lib.run_convert_bytes_const (P := Tryz.prog) W 25 5 C n m Tryz.underlying25 Tryz.underlying5
  simp [execOp, hop, hk, go_sem, h]
theorem ex_bU {o : Oper} {a : Act} {W : World} (k : Nat) {x : Option Addr} {n m : Nat} (hop : o.op = Op.build 140 #[(0, .const (.int .u16 5)), (1, .const (.int .u16 6)), (2, .tmp k)]) (h5 : a.eval (.const (.int .u16 5)) = .int .u16 5) (h6 : a.eval (.const (.int .u16 6)) = .int .u16 6) (hk : a.eval (.tmp k) = .slice x n m) :
    (execOp a.eval o).run Tryz.prog W = .ok (.value (.agg #[.int .u16 5, .int .u16 6, .slice x n m])) W := by
  generalize a.eval = ev at *
  simp [execOp, hop, h5, h6, hk, go_sem]
theorem ex_extractS {P : Program} {o : Oper} {a : Act} {W : World} (k i : Nat) (hop : o.op = Op.extract (.tmp k) i) {vs : Array Value} {v : Value} (hp : a.eval (.tmp k) = .tuple vs) (hv : vs[i]? = some v) : (execOp a.eval o).run P W = .ok (.value v) W := by
  generalize a.eval = ev at *
  simp [execOp, hop, hp, hv, go_sem]
theorem ex_moveS {P : Program} {o : Oper} {a : Act} {W : World} (k : Nat) (hop : o.op = Op.move (.tmp k)) {v : Value} (hp : a.eval (.tmp k) = v) : (execOp a.eval o).run P W = .ok (.value v) W := by
  generalize a.eval = ev at *
  simp [execOp, hop, hp, go_sem]
theorem ex_fV4S {o : Oper} {a : Act} {W : World} (k : Nat) (i n : Nat) {b : Nat} (hop : o.op = Op.fieldAddr 27 (.tmp k) i) (hk : a.eval (.tmp k) = .pointer (some ⟨b, 0, none⟩)) (hi : (i = 7 ∧ n = 7) ∨ (i = 8 ∧ n = 11) ∨ (i = 10 ∧ n = 16)) :
    (execOp a.eval o).run Tryz.prog W = .ok (.value (.pointer (some ⟨b, n, none⟩))) W := by
  generalize a.eval = ev at *
  rcases hi with ⟨rfl, rfl⟩ | ⟨rfl, rfl⟩ | ⟨rfl, rfl⟩ <;> simp [execOp, hop, hk, go_sem]
theorem bytes_notU {w w' : World} {U : Nat} {v : Value} {t : TypeId} (hU : w.heap[U]? = some (.cells [.int .u16 0, .int .u16 0, .slice none 0 0].toArray t)) (hb : BytesAt w.heap.size w v [120]) (ho : Only U w w') : BytesAt w'.heap.size w' v [120] := by
  obtain ⟨hf, hl, a, cap, rfl, hz⟩ := hb
  rcases hz with hz | ⟨b, off, rfl, hlt, hc⟩
  · simp at hz
  · have hne : b ≠ U := by
      rintro rfl
      have h0 := hc 0 (by simp)
      rw [Nat.add_zero] at h0
      simp only [World.cell?, hU] at h0
      rcases off with _ | _ | _ | off <;> simp at h0
    exact ⟨hf, hl, _, cap, rfl, .inr ⟨b, off, rfl, by rw [ho.size]; exact hlt, fun j hj => by
      have := hc j hj
      simp only [World.cell?] at this ⊢
      rw [ho.other b hne]
      exact this⟩⟩
set_option maxHeartbeats 4000000 in
set_option maxRecDepth 100000 in
theorem awake_calls (w : World) : Calls Tryz.prog 40 #[] w fun e w' => e = .returned (.bool true) ∧ Below w.heap.size w w' := by
  obtain ⟨W0, hW0⟩ : ∃ W0, w.alloc (.cells [.int .u8 0, .int .u8 0, .int .u8 0, .int .u8 0, .int .u8 0, .int .u8 0, .int .u8 0, .int .u8 0, .int .u8 0, .int .u8 0, .int .u8 0, .int .u8 0, .int .u8 0, .int .u8 0, .int .u8 0, .int .u8 0].toArray 29) = W0 := ⟨_, rfl⟩
  obtain ⟨W1, hW1⟩ : ∃ W1, W0.alloc (.cells [.int .u8 0, .int .u8 0, .int .u8 0, .int .u8 0, .int .u8 0, .int .u8 0, .int .u8 0, .int .u8 0, .int .u8 0, .int .u8 0, .int .u8 0, .int .u8 0, .int .u8 0, .int .u8 0, .int .u8 0, .int .u8 0].toArray 29) = W1 := ⟨_, rfl⟩
  have b0 := blk_new w (.cells [.int .u8 0, .int .u8 0, .int .u8 0, .int .u8 0, .int .u8 0, .int .u8 0, .int .u8 0, .int .u8 0, .int .u8 0, .int .u8 0, .int .u8 0, .int .u8 0, .int .u8 0, .int .u8 0, .int .u8 0, .int .u8 0].toArray 29)
  have hB0 := (Below.refl w.heap.size w).alloc (Nat.le_refl _) (.cells [.int .u8 0, .int .u8 0, .int .u8 0, .int .u8 0, .int .u8 0, .int .u8 0, .int .u8 0, .int .u8 0, .int .u8 0, .int .u8 0, .int .u8 0, .int .u8 0, .int .u8 0, .int .u8 0, .int .u8 0, .int .u8 0].toArray 29)
  rw [hW0] at b0 hB0
  have b1 := blk_new W0 (.cells [.int .u8 0, .int .u8 0, .int .u8 0, .int .u8 0, .int .u8 0, .int .u8 0, .int .u8 0, .int .u8 0, .int .u8 0, .int .u8 0, .int .u8 0, .int .u8 0, .int .u8 0, .int .u8 0, .int .u8 0, .int .u8 0].toArray 29)
  have hB1 := (Below.refl W0.heap.size W0).alloc (Nat.le_refl _) (.cells [.int .u8 0, .int .u8 0, .int .u8 0, .int .u8 0, .int .u8 0, .int .u8 0, .int .u8 0, .int .u8 0, .int .u8 0, .int .u8 0, .int .u8 0, .int .u8 0, .int .u8 0, .int .u8 0, .int .u8 0, .int .u8 0].toArray 29)
  have b01 := blk_alloc b0 (.cells [.int .u8 0, .int .u8 0, .int .u8 0, .int .u8 0, .int .u8 0, .int .u8 0, .int .u8 0, .int .u8 0, .int .u8 0, .int .u8 0, .int .u8 0, .int .u8 0, .int .u8 0, .int .u8 0, .int .u8 0, .int .u8 0].toArray 29)
  rw [hW1] at b1 hB1 b01
  have l0 : w.heap.size < W0.heap.size := (Array.getElem?_eq_some_iff.1 b0).1
  obtain ⟨w2, st2, b2, o2⟩ := V6.box_store Tryz.sizeOf29 b01 rfl [.int .u8 1, .int .u8 0, .int .u8 0, .int .u8 0, .int .u8 0, .int .u8 0, .int .u8 0, .int .u8 0, .int .u8 0, .int .u8 0, .int .u8 0, .int .u8 0, .int .u8 0, .int .u8 0, .int .u8 0, .int .u8 0] rfl (by simp [Value.oneCell'])
  have b12 : w2.heap[W0.heap.size]? = some (.cells [.int .u8 0, .int .u8 0, .int .u8 0, .int .u8 0, .int .u8 0, .int .u8 0, .int .u8 0, .int .u8 0, .int .u8 0, .int .u8 0, .int .u8 0, .int .u8 0, .int .u8 0, .int .u8 0, .int .u8 0, .int .u8 0].toArray 29) := (o2.other _ (by omega)).trans b1
  obtain ⟨w3, st3, b3, o3⟩ := V6.box_store Tryz.sizeOf29 b12 rfl [.int .u8 2, .int .u8 0, .int .u8 0, .int .u8 0, .int .u8 0, .int .u8 0, .int .u8 0, .int .u8 0, .int .u8 0, .int .u8 0, .int .u8 0, .int .u8 0, .int .u8 0, .int .u8 0, .int .u8 0, .int .u8 0] rfl (by simp [Value.oneCell'])
  have b23 : w3.heap[w.heap.size]? = some (.cells [.int .u8 1, .int .u8 0, .int .u8 0, .int .u8 0, .int .u8 0, .int .u8 0, .int .u8 0, .int .u8 0, .int .u8 0, .int .u8 0, .int .u8 0, .int .u8 0, .int .u8 0, .int .u8 0, .int .u8 0, .int .u8 0].toArray 29) := (o3.other _ (by omega)).trans b2
  have hX3 : Below w.heap.size w w3 := ((hB0.trans (hB1.mono hB0.size)).trans (o2.below (Nat.le_refl _))).trans (o3.below hB0.size)
  have HEA : Hid (∀ W, Below w3.heap.size w3 W → BytesAt W.heap.size W (.slice (some ⟨w.heap.size, 0, none⟩) 16 16) kA6S ∧ BytesAt W.heap.size W (.slice (some ⟨W0.heap.size, 0, none⟩) 16 16) kB6S) := fun W hW => by
    have k1 : CellsAt W w.heap.size 0 (u8L kA6S) := CellsAt.of_blk (blk_on b23 hW)
    have k2 : CellsAt W W0.heap.size 0 (u8L kB6S) := CellsAt.of_blk (blk_on b3 hW)
    have l1 : w.heap.size < W.heap.size := (Array.getElem?_eq_some_iff.1 (blk_on b23 hW)).1
    have l2 : W0.heap.size < W.heap.size := (Array.getElem?_eq_some_iff.1 (blk_on b3 hW)).1
    exact ⟨cells_bytes k1 l1 kA6S_fit (by decide) rfl, cells_bytes k2 l2 kB6S_fit (by decide) rfl⟩
  have HLD : Hid (∀ W, Below w3.heap.size w3 W → (Instr.loadAt 29 (.pointer (some ⟨w.heap.size, 0, none⟩))).run Tryz.prog W = .ok (.agg [.int .u8 1, .int .u8 0, .int .u8 0, .int .u8 0, .int .u8 0, .int .u8 0, .int .u8 0, .int .u8 0, .int .u8 0, .int .u8 0, .int .u8 0, .int .u8 0, .int .u8 0, .int .u8 0, .int .u8 0, .int .u8 0].toArray) W ∧ (Instr.loadAt 29 (.pointer (some ⟨W0.heap.size, 0, none⟩))).run Tryz.prog W = .ok (.agg [.int .u8 2, .int .u8 0, .int .u8 0, .int .u8 0, .int .u8 0, .int .u8 0, .int .u8 0, .int .u8 0, .int .u8 0, .int .u8 0, .int .u8 0, .int .u8 0, .int .u8 0, .int .u8 0, .int .u8 0, .int .u8 0].toArray) W) := fun W hW => ⟨agg_load Tryz.isAgg29 Tryz.sizeOf29 rfl (CellsAt.of_blk (blk_on b23 hW)), agg_load Tryz.isAgg29 Tryz.sizeOf29 rfl (CellsAt.of_blk (blk_on b3 hW))⟩
  have HS2 : Hid _ := st2
  have HS3 : Hid _ := st3
  have HX3 : Hid _ := hX3
  have HWR : Hid (∀ W, Below w3.heap.size w3 W → ∀ b, BytesAt W.heap.size W (.slice (some ⟨b, 0, none⟩) 1 1) [120] → Calls Tryz.prog 103 #[.slice (some ⟨w.heap.size, 0, none⟩) 16 16, .slice (some ⟨W0.heap.size, 0, none⟩) 16 16, .agg #[.int .u16 5, .int .u16 6, .slice (some ⟨b, 0, none⟩) 1 1]] W fun e w' => ∃ v, e = .returned v ∧ (∃ u, v = .tuple #[u, .int .i64 0] ∧ OB W.heap.size W w' u kY)) := fun W hW b hb => by
    have := RWriteUDP_any _ _ 16 (ph6 kA6S kB6S) [.int .u16 5, .int .u16 6, .slice (some ⟨b, 0, none⟩) 1 1] 5 6 [120] W (EndV.of6 (HEA.out W hW).1 (HEA.out W hW).2 rfl rfl) (fun p n hp hn => ph6_fit kA6S_fit kB6S_fit hp hn) ⟨⟨_, rfl, hb⟩, by decide, by decide⟩
    refine this.mono ?_
    rintro e w' ⟨v, h1, h2⟩
    exact ⟨_, h1, v, rfl, h2⟩
  clear st2 st3 b0 hB0 b1 hB1 b01 b2 o2 b12 b3 o3 b23 hX3 l0
  go_enter Tryz.func40, Tryz.ntmps40
  go_wp2_with first
    | ((with_reducible show wpList _ _ _ _ _ _); refine arm_store rfl (.tmp 1) (.tmp 10) 29 rfl rfl rfl HS2.out ?_)
    | ((with_reducible show wpList _ _ _ _ _ _); refine arm_store rfl (.tmp 2) (.tmp 11) 29 rfl rfl rfl HS3.out ?_)
  refine wp_region_held (S := fun _ => True) (by kernel_rfl) ?_
  show wpAnyH _ _ _ _ _ 11 (Array.replicate 11 false) _ _
  refine take_one (S := (fun _ => True)) (i := 0) (d := some 13) (v := .slice (some ⟨w.heap.size, 0, none⟩) 16 16) rfl rfl rfl (by kernel_rfl) (by kernel_rfl) (by kernel_rfl) (fun _ _ d _ _ h => by cases d <;> exact h) (fun W hS => ex_slice6 1 rfl rfl) trivial ?_
  simp only [Act.put, List.setIfInBounds_toArray, List.set_cons_zero, List.set_cons_succ]
  refine take_one (S := (fun _ => True)) (i := 1) (d := some 14) (v := .slice (some ⟨W0.heap.size, 0, none⟩) 16 16) rfl rfl rfl (by kernel_rfl) (by kernel_rfl) (by kernel_rfl) (fun _ _ d _ _ h => by cases d <;> exact h) (fun W hS => ex_slice6 2 rfl rfl) trivial ?_
  simp only [Act.put, List.setIfInBounds_toArray, List.set_cons_zero, List.set_cons_succ]
  refine all_one (i := 2) (by kernel_rfl) rfl rfl ?_
  refine wp_effS (d := some 15) rfl (ex_build1x rfl) ⟨trivial, ?_⟩
  simp only [Act.put, List.setIfInBounds_toArray, List.set_cons_zero, List.set_cons_succ]
  refine all_one (i := 3) (by kernel_rfl) rfl rfl ?_
  refine wp_effS (d := some 16) rfl (ex_cvbb 15 rfl rfl) ⟨trivial, ?_⟩
  simp only [Act.put, List.setIfInBounds_toArray, List.set_cons_zero, List.set_cons_succ]
  refine take_one (S := (fun _ => True)) (i := 4) (d := some 17) (v := .agg #[.int .u16 5, .int .u16 6, .slice (some ⟨w3.heap.size, 0, none⟩) 1 1]) rfl rfl rfl (by kernel_rfl) (by kernel_rfl) (by kernel_rfl) (fun _ _ d _ _ h => by cases d <;> exact h) (fun W hS => ex_bU 16 rfl rfl rfl rfl) trivial ?_
  simp only [Act.put, List.setIfInBounds_toArray, List.set_cons_zero, List.set_cons_succ]
  have hyA : Below w3.heap.size w3 (w3.drew.alloc (.cells #[.int .u8 120] 5 (1, 2))) := ((Below.refl _ w3).drew).alloc (by simp) _
  have hbX : BytesAt (w3.drew.alloc (.cells #[.int .u8 120] 5 (1, 2))).heap.size (w3.drew.alloc (.cells #[.int .u8 120] 5 (1, 2))) (.slice (some ⟨w3.heap.size, 0, none⟩) 1 1) [120] := by
    refine ⟨by intro z hz; simp at hz; omega, by decide, _, _, rfl, .inr ⟨w3.heap.size, 0, rfl, by simp, fun j hj => ?_⟩⟩
    have hj0 : j = 0 := by simp at hj; omega
    subst hj0
    exact World.cell?_alloc_mark w3.drew _ _ _ 0
  refine all_one (i := 5) (by kernel_rfl) rfl rfl ?_
  refine wp_call (d := some 18) 103 _ rfl (by kernel_rfl) (HWR.out _ hyA _ hbX) ?_
  rintro _ w4 ⟨u, rfl, ho⟩
  refine ⟨trivial, ?_⟩
  simp only [Act.put, List.setIfInBounds_toArray, List.set_cons_zero, List.set_cons_succ]
  refine take_one (S := (fun _ => True)) (i := 6) (d := some 12) (v := .tuple #[u, .int .i64 0]) rfl rfl rfl (by kernel_rfl) (by kernel_rfl) (by kernel_rfl) (fun _ _ d _ _ h => by cases d <;> exact h) (fun W hS => ex_moveS 18 rfl rfl) trivial ?_
  simp only [Act.put, List.setIfInBounds_toArray, List.set_cons_zero, List.set_cons_succ]
  refine take_one (S := (fun _ => True)) (i := 7) (d := some 19) (v := u) rfl rfl rfl (by kernel_rfl) (by kernel_rfl) (by kernel_rfl) (fun _ _ d _ _ h => by cases d <;> exact h) (fun W hS => ex_extractS 12 0 rfl rfl rfl) trivial ?_
  simp only [Act.put, List.setIfInBounds_toArray, List.set_cons_zero, List.set_cons_succ]
  refine take_one (S := (fun _ => True)) (i := 8) (d := some 20) (v := .int .i64 0) rfl rfl rfl (by kernel_rfl) (by kernel_rfl) (by kernel_rfl) (fun _ _ d _ _ h => by cases d <;> exact h) (fun W hS => ex_extractS 12 1 rfl rfl rfl) trivial ?_
  simp only [Act.put, List.setIfInBounds_toArray, List.set_cons_zero, List.set_cons_succ]
  refine take_one (S := (fun _ => True)) (i := 9) (d := some 3) (v := u) rfl rfl rfl (by kernel_rfl) (by kernel_rfl) (by kernel_rfl) (fun _ _ d _ _ h => by cases d <;> exact h) (fun W hS => ex_assignS 19 rfl rfl) trivial ?_
  simp only [Act.put, List.setIfInBounds_toArray, List.set_cons_zero, List.set_cons_succ]
  refine take_one (S := (fun _ => True)) (i := 10) (d := some 4) (v := .int .i64 0) rfl rfl rfl (by kernel_rfl) (by kernel_rfl) (by kernel_rfl) (fun _ _ d _ _ h => by cases d <;> exact h) (fun W hS => ex_assignS 20 rfl rfl) trivial ?_
  simp only [Act.put, List.setIfInBounds_toArray, List.set_cons_zero, List.set_cons_succ]
  refine wpAnyH_done (by kernel_rfl) ?_ _
  have hy4 : Below w3.heap.size w3 w4 := hyA.trans (ho.bel.mono hyA.size)
  obtain ⟨Gb, kb, rfl, hkb, _, hgb, ownb⟩ := own_G ho.own (by rw [kY_len]; decide)
  rw [kY_len] at hkb ⊢
  have HPK : Hid _ := packet_kn w4 Gb kb (.of_bytes (ownb.all kY_fit (by rw [kY_len]; decide) 9 kb kY_len.symm) hkb)
  have hld := HLD.out w4 hy4
  have HL1 : Hid _ := hld.1
  have HL2 : Hid _ := hld.2
  clear hld ownb ho hbX hyA
  go_wp2_with first
    | ((with_reducible show wpList _ _ _ _ _ _); refine arm_load rfl (.tmp 1) 29 rfl rfl HL1.out ?_)
    | ((with_reducible show wpList _ _ _ _ _ _); refine arm_load rfl (.tmp 2) 29 rfl rfl HL2.out ?_)
  refine Calls.mono HPK.out ?_
  rintro _ w5 ⟨G, m, rfl, hm, hG, own5, hb5⟩
  have hy5 := hy4.trans (hb5.mono hy4.size)
  obtain ⟨w6, st6, b6, hb6⟩ := V6.box_new Tryz.sizeOf27 w5 [.int .u8 0, .int .u16 0, .bool false, .bool false, .int .i64 0, .int .u8 0, .int .u8 0, .int .u8 0, .int .u8 0, .int .u8 0, .int .u8 0, .int .u8 0, .int .u8 0, .int .u8 0, .int .u8 0, .slice none 0 0, .slice none 0 0] rfl [.int .u8 0, .int .u16 0, .bool true, .bool false, .int .i64 0, .int .u8 9, .int .u8 17, .int .u8 10, .int .u8 0, .int .u8 0, .int .u8 0, .int .u8 11, .int .u8 0, .int .u8 0, .int .u8 0, .slice none 0 0, .slice (some ⟨G, 0, none⟩) 9 m] rfl (by simp [Value.oneCell'])
  have hy6 := hy5.trans (hb6.mono hy5.size)
  have own6 := own5.put hb6
  have HS6 : Hid _ := st6
  have hx6 : Below w.heap.size w w6 := HX3.out.trans (hy6.mono HX3.out.size)
  clear st6 hb6 own5 hb5 HPK HL1 HL2
  go_wp2_with ((with_reducible show wpList _ _ _ _ _ _); refine arm_store rfl (.tmp 5) (.tmp 31) 27 rfl rfl rfl HS6.out ?_)
  have b6' := b6
  have HC6 : Hid (∀ W, Below w6.heap.size w6 W → W.cell? ⟨w5.heap.size, 16, none⟩ = some (.slice (some ⟨G, 0, none⟩) 9 m) ∧ W.cell? ⟨w5.heap.size, 2, none⟩ = some (.bool true) ∧ W.cell? ⟨w5.heap.size, 5, none⟩ = some (.int .u8 9) ∧ W.cell? ⟨w5.heap.size, 11, none⟩ = some (.int .u8 11)) := fun W hW => ⟨blk_cell (blk_on b6' hW) rfl, blk_cell (blk_on b6' hW) rfl, blk_cell (blk_on b6' hW) rfl, blk_cell (blk_on b6' hW) rfl⟩
  have HPR : Hid (∀ W, Below w6.heap.size w6 W → Calls Tryz.prog 104 #[.slice (some ⟨w5.heap.size, 7, none⟩) 4 4, .slice (some ⟨w5.heap.size, 11, none⟩) 4 4, .slice (some ⟨G, 0, none⟩) 9 m] W fun e w' => ∃ v, e = .returned v ∧ (∃ s d b x n k, v = .tuple #[.agg #[.int .u16 s, .int .u16 d, .slice x n k], .bool b, .int .i64 0] ∧ BytesAt w'.heap.size w' (.slice x n k) [120] ∧ Below W.heap.size W w')) := fun W hW => by
    have k0 := CellsAt.of_blk (blk_on b6' hW)
    have l1 : w5.heap.size < W.heap.size := (Array.getElem?_eq_some_iff.1 (blk_on b6' hW)).1
    have k1 : CellsAt W w5.heap.size 7 (u8L [10, 0, 0, 0]) := CellsAt.part (o := 0) (xs := [.int .u8 0, .int .u16 0, .bool true, .bool false, .int .i64 0, .int .u8 9, .int .u8 17]) (ys := u8L [10, 0, 0, 0]) (zs := u8L [11, 0, 0, 0] ++ [.slice none 0 0, .slice (some ⟨G, 0, none⟩) 9 m]) k0
    have k2 : CellsAt W w5.heap.size 11 (u8L [11, 0, 0, 0]) := CellsAt.part (o := 0) (xs := [.int .u8 0, .int .u16 0, .bool true, .bool false, .int .i64 0, .int .u8 9, .int .u8 17] ++ u8L [10, 0, 0, 0]) (ys := u8L [11, 0, 0, 0]) (zs := [.slice none 0 0, .slice (some ⟨G, 0, none⟩) 9 m]) k0
    have y1 := cells_bytes (n := 4) (cap := 4) k1 l1 (by intro z hz; simp at hz; omega) (by decide) rfl
    have y2 := cells_bytes (n := 4) (cap := 4) k2 l1 (by intro z hz; simp at hz; omega) (by decide) rfl
    have := RParseUDP_any _ _ 4 (ph4 [10, 0, 0, 0] [11, 0, 0, 0]) (by decide) (.slice (some ⟨G, 0, none⟩) 9 m) kW W (EndV.of4 y1 y2 rfl rfl) (.of_bytes ((own6.put hW).all kW_fit (by rw [kW_len]; decide) 9 m kW_len.symm) hm)
    refine this.mono ?_
    rintro e w' ⟨c, h1, hu, hb⟩
    rw [kW_E] at h1
    rw [kW_X] at hu
    obtain ⟨⟨vd, rfl, hv⟩, -, -⟩ := hu
    obtain ⟨x, k, rfl, -⟩ := hv.val
    exact ⟨_, h1, _, _, _, _, _, _, rfl, hv, hb⟩
  have HMT : Hid (∀ W, Calls Tryz.prog 49 #[.int .u32 1280] W fun e w' => e = .returned (.int .u16 1260) ∧ w' = W) := fun W => MTU6_calls 1280 (by decide) W
  have hyd6 : Below w6.heap.size w6 w6.drew := (Below.refl _ _).drew
  have HX6 : Hid _ := hx6
  clear b6 b6' own6 hx6
  go_wp2_with fail
  refine wp_region_held (S := fun W => Below w6.heap.size w6 W) (by kernel_rfl) ?_
  show wpAnyH _ _ _ _ _ 15 (Array.replicate 15 false) _ _
  refine take_one (S := (fun W => Below w6.heap.size w6 W)) (i := 0) (d := some 34) (v := .pointer (some ⟨w5.heap.size, 7, none⟩)) rfl rfl rfl (by kernel_rfl) (by kernel_rfl) (by kernel_rfl) (fun _ _ d _ _ h => by cases d <;> exact h) (fun W hS => ex_fV4S 5 7 7 rfl rfl (by decide)) hyd6 ?_
  simp only [Act.put, List.setIfInBounds_toArray, List.set_cons_zero, List.set_cons_succ]
  refine take_one (S := (fun W => Below w6.heap.size w6 W)) (i := 1) (d := some 35) (v := .slice (some ⟨w5.heap.size, 7, none⟩) 4 4) rfl rfl rfl (by kernel_rfl) (by kernel_rfl) (by kernel_rfl) (fun _ _ d _ _ h => by cases d <;> exact h) (fun W hS => ex_slice4 34 rfl rfl) hyd6 ?_
  simp only [Act.put, List.setIfInBounds_toArray, List.set_cons_zero, List.set_cons_succ]
  refine take_one (S := (fun W => Below w6.heap.size w6 W)) (i := 2) (d := some 36) (v := .pointer (some ⟨w5.heap.size, 11, none⟩)) rfl rfl rfl (by kernel_rfl) (by kernel_rfl) (by kernel_rfl) (fun _ _ d _ _ h => by cases d <;> exact h) (fun W hS => ex_fV4S 5 8 11 rfl rfl (by decide)) hyd6 ?_
  simp only [Act.put, List.setIfInBounds_toArray, List.set_cons_zero, List.set_cons_succ]
  refine take_one (S := (fun W => Below w6.heap.size w6 W)) (i := 3) (d := some 37) (v := .slice (some ⟨w5.heap.size, 11, none⟩) 4 4) rfl rfl rfl (by kernel_rfl) (by kernel_rfl) (by kernel_rfl) (fun _ _ d _ _ h => by cases d <;> exact h) (fun W hS => ex_slice4 36 rfl rfl) hyd6 ?_
  simp only [Act.put, List.setIfInBounds_toArray, List.set_cons_zero, List.set_cons_succ]
  refine take_one (S := (fun W => Below w6.heap.size w6 W)) (i := 4) (d := some 38) (v := .pointer (some ⟨w5.heap.size, 16, none⟩)) rfl rfl rfl (by kernel_rfl) (by kernel_rfl) (by kernel_rfl) (fun _ _ d _ _ h => by cases d <;> exact h) (fun W hS => ex_fV4S 5 10 16 rfl rfl (by decide)) hyd6 ?_
  simp only [Act.put, List.setIfInBounds_toArray, List.set_cons_zero, List.set_cons_succ]
  refine take_one (S := (fun W => Below w6.heap.size w6 W)) (i := 5) (d := some 39) (v := .slice (some ⟨G, 0, none⟩) 9 m) rfl rfl rfl (by kernel_rfl) (by kernel_rfl) (by kernel_rfl) (fun _ _ d _ _ h => by cases d <;> exact h) (fun W hS => ex_ldrowS 38 rfl rfl (HC6.out W hS).1) hyd6 ?_
  simp only [Act.put, List.setIfInBounds_toArray, List.set_cons_zero, List.set_cons_succ]
  refine all_two (i1 := 6) (i2 := 11) (by kernel_rfl) rfl rfl rfl rfl ?_ ?_
  · skip
    refine wp_call (d := some 40) 104 _ rfl (by kernel_rfl) (HPR.out _ hyd6) ?_
    rintro _ w7 ⟨s, d, b, x, n, k, rfl, hv7, hb7⟩
    have hy7 : Below w6.heap.size w6 w7 := hyd6.trans (hb7.mono hyd6.size)
    refine ⟨hy7, ?_⟩
    simp only [Act.put, List.setIfInBounds_toArray, List.set_cons_zero, List.set_cons_succ]
    refine take_one (S := (fun W => Below w6.heap.size w6 W)) (i := 7) (d := some 33) (v := .tuple #[.agg #[.int .u16 s, .int .u16 d, .slice x n k], .bool b, .int .i64 0]) rfl rfl rfl (by kernel_rfl) (by kernel_rfl) (by kernel_rfl) (fun _ _ d _ _ h => by cases d <;> exact h) (fun W hS => ex_moveS 40 rfl rfl) hy7 ?_
    simp only [Act.put, List.setIfInBounds_toArray, List.set_cons_zero, List.set_cons_succ]
    refine take_one (S := (fun W => Below w6.heap.size w6 W)) (i := 8) (d := some 41) (v := .agg #[.int .u16 s, .int .u16 d, .slice x n k]) rfl rfl rfl (by kernel_rfl) (by kernel_rfl) (by kernel_rfl) (fun _ _ d _ _ h => by cases d <;> exact h) (fun W hS => ex_extractS 33 0 rfl rfl rfl) hy7 ?_
    simp only [Act.put, List.setIfInBounds_toArray, List.set_cons_zero, List.set_cons_succ]
    refine take_one (S := (fun W => Below w6.heap.size w6 W)) (i := 9) (d := some 42) (v := .bool b) rfl rfl rfl (by kernel_rfl) (by kernel_rfl) (by kernel_rfl) (fun _ _ d _ _ h => by cases d <;> exact h) (fun W hS => ex_extractS 33 1 rfl rfl rfl) hy7 ?_
    simp only [Act.put, List.setIfInBounds_toArray, List.set_cons_zero, List.set_cons_succ]
    refine take_one (S := (fun W => Below w6.heap.size w6 W)) (i := 10) (d := some 43) (v := .int .i64 0) rfl rfl rfl (by kernel_rfl) (by kernel_rfl) (by kernel_rfl) (fun _ _ d _ _ h => by cases d <;> exact h) (fun W hS => ex_extractS 33 2 rfl rfl rfl) hy7 ?_
    simp only [Act.put, List.setIfInBounds_toArray, List.set_cons_zero, List.set_cons_succ]
    refine all_one (i := 11) (by kernel_rfl) rfl rfl ?_
    have hy7a : Below w6.heap.size w6 (w7.alloc (.cells ([.int .u16 0, .int .u16 0, .slice none 0 0]).toArray 140)) := hy7.alloc hy7.size _
    refine V6.wp_allocA (d := some 7) 140 rfl rfl (v := .pointer (some ⟨w7.heap.size, 0, none⟩)) (w2 := w7.alloc (.cells ([.int .u16 0, .int .u16 0, .slice none 0 0]).toArray 140)) (by kernel_rfl) ⟨hy7a, ?_⟩
    simp only [Act.put, List.setIfInBounds_toArray, List.set_cons_zero, List.set_cons_succ]
    obtain ⟨w8, st8, b8, hb8⟩ := V6.box_new Tryz.sizeOf140 w7 [.int .u16 0, .int .u16 0, .slice none 0 0] rfl [.int .u16 s, .int .u16 d, .slice x n k] rfl (by simp [Value.oneCell'])
    have hy8 := hy7.trans (hb8.mono hy7.size)
    have hv8 := hv7.later hb8
    clear hb8 hy7a
    refine all_one (i := 12) (by kernel_rfl) rfl rfl ?_
    refine store_wp (.tmp 7) (.tmp 41) 140 rfl rfl rfl st8 ⟨hy8, ?_⟩
    simp only [Act.put, List.setIfInBounds_toArray, List.set_cons_zero, List.set_cons_succ]
    refine take_one (S := (fun W => Below w6.heap.size w6 W)) (i := 13) (d := some 8) (v := .bool b) rfl rfl rfl (by kernel_rfl) (by kernel_rfl) (by kernel_rfl) (fun _ _ d _ _ h => by cases d <;> exact h) (fun W hS => ex_assignS 42 rfl rfl) hy8 ?_
    simp only [Act.put, List.setIfInBounds_toArray, List.set_cons_zero, List.set_cons_succ]
    refine take_one (S := (fun W => Below w6.heap.size w6 W)) (i := 14) (d := some 9) (v := .int .i64 0) rfl rfl rfl (by kernel_rfl) (by kernel_rfl) (by kernel_rfl) (fun _ _ d _ _ h => by cases d <;> exact h) (fun W hS => ex_assignS 43 rfl rfl) hy8 ?_
    simp only [Act.put, List.setIfInBounds_toArray, List.set_cons_zero, List.set_cons_succ]
    refine wpAnyH_done (by kernel_rfl) ?_ _
    obtain ⟨-, c2, c5, c11⟩ := HC6.out w8 hy8
    have u2 : w8.cell? ⟨w7.heap.size, 2, none⟩ = some (.slice x n k) := blk_cell b8 rfl
    have htx := hv8.text
    have hst : strOfNums [120] = ⟨#[120]⟩ := by rfl
    rw [hst] at htx
    have HX8 : Hid (Below w.heap.size w w8) := HX6.out.trans (hy8.mono HX6.out.size)
    clear hv8 st8 b8 hy7 hy8 hv7 hb7 HPR HC6
    go_wp2_with fail
    refine Calls.mono ((HMT.out _).mono (fun e w' k => (⟨k.1, k.2.symm⟩ : _ ∧ _ = w'))) ?_
    rintro _ _ ⟨rfl, rfl⟩
    go_wp2
    go_ret
    exact ⟨rfl, HX8.out⟩
  · skip
    have hya6 : Below w6.heap.size w6 (w6.drew.alloc (.cells ([.int .u16 0, .int .u16 0, .slice none 0 0]).toArray 140)) := hyd6.alloc hyd6.size _
    have hba := blk_new w6.drew (.cells ([.int .u16 0, .int .u16 0, .slice none 0 0]).toArray 140)
    refine V6.wp_allocA (d := some 7) 140 rfl rfl (v := .pointer (some ⟨w6.heap.size, 0, none⟩)) (w2 := w6.drew.alloc (.cells ([.int .u16 0, .int .u16 0, .slice none 0 0]).toArray 140)) (by kernel_rfl) ⟨hya6, ?_⟩
    simp only [Act.put, List.setIfInBounds_toArray, List.set_cons_zero, List.set_cons_succ]
    refine all_one (i := 6) (by kernel_rfl) rfl rfl ?_
    refine wp_call (d := some 40) 104 _ rfl (by kernel_rfl) (HPR.out _ hya6) ?_
    rintro _ w7 ⟨s, d, b, x, n, k, rfl, hv7, hb7⟩
    have hy7 : Below w6.heap.size w6 w7 := hya6.trans (hb7.mono hya6.size)
    refine ⟨hy7, ?_⟩
    simp only [Act.put, List.setIfInBounds_toArray, List.set_cons_zero, List.set_cons_succ]
    refine take_one (S := (fun W => Below w6.heap.size w6 W)) (i := 7) (d := some 33) (v := .tuple #[.agg #[.int .u16 s, .int .u16 d, .slice x n k], .bool b, .int .i64 0]) rfl rfl rfl (by kernel_rfl) (by kernel_rfl) (by kernel_rfl) (fun _ _ d _ _ h => by cases d <;> exact h) (fun W hS => ex_moveS 40 rfl rfl) hy7 ?_
    simp only [Act.put, List.setIfInBounds_toArray, List.set_cons_zero, List.set_cons_succ]
    refine take_one (S := (fun W => Below w6.heap.size w6 W)) (i := 8) (d := some 41) (v := .agg #[.int .u16 s, .int .u16 d, .slice x n k]) rfl rfl rfl (by kernel_rfl) (by kernel_rfl) (by kernel_rfl) (fun _ _ d _ _ h => by cases d <;> exact h) (fun W hS => ex_extractS 33 0 rfl rfl rfl) hy7 ?_
    simp only [Act.put, List.setIfInBounds_toArray, List.set_cons_zero, List.set_cons_succ]
    refine take_one (S := (fun W => Below w6.heap.size w6 W)) (i := 9) (d := some 42) (v := .bool b) rfl rfl rfl (by kernel_rfl) (by kernel_rfl) (by kernel_rfl) (fun _ _ d _ _ h => by cases d <;> exact h) (fun W hS => ex_extractS 33 1 rfl rfl rfl) hy7 ?_
    simp only [Act.put, List.setIfInBounds_toArray, List.set_cons_zero, List.set_cons_succ]
    refine take_one (S := (fun W => Below w6.heap.size w6 W)) (i := 10) (d := some 43) (v := .int .i64 0) rfl rfl rfl (by kernel_rfl) (by kernel_rfl) (by kernel_rfl) (fun _ _ d _ _ h => by cases d <;> exact h) (fun W hS => ex_extractS 33 2 rfl rfl rfl) hy7 ?_
    simp only [Act.put, List.setIfInBounds_toArray, List.set_cons_zero, List.set_cons_succ]
    have hba7 : w7.heap[w6.heap.size]? = some (.cells ([.int .u16 0, .int .u16 0, .slice none 0 0]).toArray 140) := blk_on hba hb7
    obtain ⟨w8, st8, b8, o8⟩ := V6.box_store Tryz.sizeOf140 hba7 rfl [.int .u16 s, .int .u16 d, .slice x n k] rfl (by simp [Value.oneCell'])
    have hy8 := hy7.trans (o8.below (Nat.le_refl _))
    have hv8 := bytes_notU hba7 hv7 o8
    clear o8 hba7 hba hya6
    refine all_one (i := 12) (by kernel_rfl) rfl rfl ?_
    refine store_wp (.tmp 7) (.tmp 41) 140 rfl rfl rfl st8 ⟨hy8, ?_⟩
    simp only [Act.put, List.setIfInBounds_toArray, List.set_cons_zero, List.set_cons_succ]
    refine take_one (S := (fun W => Below w6.heap.size w6 W)) (i := 13) (d := some 8) (v := .bool b) rfl rfl rfl (by kernel_rfl) (by kernel_rfl) (by kernel_rfl) (fun _ _ d _ _ h => by cases d <;> exact h) (fun W hS => ex_assignS 42 rfl rfl) hy8 ?_
    simp only [Act.put, List.setIfInBounds_toArray, List.set_cons_zero, List.set_cons_succ]
    refine take_one (S := (fun W => Below w6.heap.size w6 W)) (i := 14) (d := some 9) (v := .int .i64 0) rfl rfl rfl (by kernel_rfl) (by kernel_rfl) (by kernel_rfl) (fun _ _ d _ _ h => by cases d <;> exact h) (fun W hS => ex_assignS 43 rfl rfl) hy8 ?_
    simp only [Act.put, List.setIfInBounds_toArray, List.set_cons_zero, List.set_cons_succ]
    refine wpAnyH_done (by kernel_rfl) ?_ _
    obtain ⟨-, c2, c5, c11⟩ := HC6.out w8 hy8
    have u2 : w8.cell? ⟨w6.heap.size, 2, none⟩ = some (.slice x n k) := blk_cell b8 rfl
    have htx := hv8.text
    have hst : strOfNums [120] = ⟨#[120]⟩ := by rfl
    rw [hst] at htx
    have HX8 : Hid (Below w.heap.size w w8) := HX6.out.trans (hy8.mono HX6.out.size)
    clear hv8 st8 b8 hy7 hy8 hv7 hb7 HPR HC6
    go_wp2_with fail
    refine Calls.mono ((HMT.out _).mono (fun e w' k => (⟨k.1, k.2.symm⟩ : _ ∧ _ = w'))) ?_
    rintro _ _ ⟨rfl, rfl⟩
    go_wp2
    go_ret
    exact ⟨rfl, HX8.out⟩
end Go.Proofs.YtpgnnplpcalbbaaGreat
namespace Go.Proofs.YtpgnnplpcalbbaaGreat
open Go Go.RowKit Go.Shelf
set_option maxHeartbeats 1000000 in
set_option maxRecDepth 100000 in
theorem eqEnds6 (d : Nat) (X Y : List Int) (fX : Fit X) (fY : Fit Y) (lX : X.length = 16) (lY : Y.length = 16) (w : World) :
    (Op.equalIn (d + 3) 31 (.agg (u8L X ++ u8L Y).toArray) (.agg (u8L X ++ u8L Y).toArray)).run Tryz.prog w = .ok true w := by
  have h1 : ∀ W, (Op.equalIn (d + 2) 29 (.agg (u8L X).toArray) (.agg (u8L X).toArray)).run Tryz.prog W = .ok true W := fun W => by
    have := V6.eq_arr16 d X X fX fX lX lX W
    rw [decide_eq_true rfl] at this
    exact this
  have h2 : ∀ W, (Op.equalIn (d + 2) 29 (.agg (u8L Y).toArray) (.agg (u8L Y).toArray)).run Tryz.prog W = .ok true W := fun W => by
    have := V6.eq_arr16 d Y Y fY fY lY lY W
    rw [decide_eq_true rfl] at this
    exact this
  have e1 : (u8L X).length = 16 := by rw [u8L_len, lX]
  have e2 : (u8L Y).length = 16 := by rw [u8L_len, lY]
  have p1 : (u8L X ++ u8L Y).toArray.extract 0 16 = (u8L X).toArray := by simp [← e1]
  have p2 : (u8L X ++ u8L Y).toArray.extract 16 32 = (u8L Y).toArray := by
    rw [List.extract_toArray, List.extract_eq_take_drop]
    rw [List.drop_append_of_le_length (by omega), List.drop_eq_nil_of_le (by omega), List.nil_append, List.take_of_length_le (by omega)]
  generalize (u8L X ++ u8L Y).toArray = x at *
  generalize (u8L X).toArray = y1 at *
  generalize (u8L Y).toArray = y2 at *
  have hstd : Tryz.prog.stoodInHeld 31 = false := by kernel_rfl
  show (Op.equalIn ((d + 2) + 1) _ _ _).run Tryz.prog w = _
  rw [Op.equalIn]
  generalize Op.equalIn (d + 2) = E at *
  simp [go_sem, hstd, p1, p2, h1, h2]
theorem eqlEnds6 (V : List Int) (h : Fit V) (hl : V.length = 32) (w : World) : (binOp .eql 31 (.agg (u8L V).toArray) (.agg (u8L V).toArray)).run Tryz.prog w = .ok (.bool true) w := by
  have hV : u8L V = u8L (V.take 16) ++ u8L (V.drop 16) := by
    unfold u8L
    rw [← List.map_append, List.take_append_drop]
  have := eqEnds6 9997 (V.take 16) (V.drop 16) (fun z hz => h z (List.mem_of_mem_take hz)) (fun z hz => h z (List.mem_of_mem_drop hz)) (by rw [List.length_take]; omega) (by rw [List.length_drop]; omega) w
  rw [← hV] at this
  simp only [binOp, Op.equal, Op.maxDepth]
  simp [this]
theorem gdEnds6 (x y : Operand) (u v : Array Value) (w : World) : (eqGuard .eql 31 x y (.agg u) (.agg v)).run Tryz.prog w = .ok () w := by
  have he : Tryz.prog.eqGuardType Tryz.prog.depth 31 = false := by kernel_rfl
  simp [eqGuard, go_sem, he]
theorem parOk_len {zs : List Int} (h : parOk zs = true) : 40 ≤ zs.length := by
  by_cases hl : zs.length < 40
  · unfold parOk V6.parR at h
    rw [if_pos hl] at h
    cases h
  · omega
theorem vaS_len (ck : Int) (g : V6.G6) (proto : Int) (A B body : List Int) : (vaS ck g proto A B body).length = 32 := by
  unfold vaS
  split
  · next h =>
    have : parOk (mS A B body).body = true := by
      unfold telS at h
      exact (Bool.and_eq_true_iff.1 h).2
    have := parOk_len this
    rw [List.length_take, List.length_drop]
    omega
  · rfl
theorem vaS_fit (ck : Int) (g : V6.G6) (proto : Int) (A B body : List Int) (h : Fit body) : Fit (vaS ck g proto A B body) := by
  have hm : Fit (mS A B body).body := by
    unfold mS Icm.pM
    split
    · exact fun z hz => h z (List.mem_of_mem_drop hz)
    · exact fun z hz => by simp at hz
  unfold vaS
  split
  · exact fun z hz => hm z (List.mem_of_mem_drop (List.mem_of_mem_take hz))
  · have : ∀ z ∈ z32, 0 ≤ z ∧ z < 256 := by decide
    exact this
end Go.Proofs.YtpgnnplpcalbbaaGreat
