/-
  What messages go over: over4, over6 and check of package icmp.
  write of package icmp.
  Write4, Write6 of package icmp.
-/
import Derived.Test.YtpgnnplpcalbbaaGreatFold18
import Derived.Test.YtpgnnplpcalbbaaGreatFold05
set_option linter.unusedVariables false
set_option linter.unusedSimpArgs false
namespace Go.Proofs.YtpgnnplpcalbbaaGreat.Icm
open Go Go.RowKit Go.Shelf
/-- What messages go over: a function that tells what stands ahead of so many bytes. -/
structure OverI (w : World) (v : Value) (ph : Int → List Int) : Prop where
  even : ∀ n, (ph n).length ≤ 40 ∧ (ph n).length % 2 = 0
  fun' : ∃ g lb, v = .func (.func g) #[] lb ∧ (∀ args w, (callFunc g args).run Tryz.prog w = .ok (.enter g args) w) ∧
    (∀ W, Below w.heap.size w W → ∀ n : Int, 0 ≤ n ∧ n ≤ 65535 → Calls Tryz.prog g (#[.int .i64 n] ++ lb) W fun e w' => ∃ u, e = .returned (.tuple #[u, .int .i64 0]) ∧ BytesAt w'.heap.size w' u (ph n) ∧ Below W.heap.size W w') ∧
    (∀ W, Below w.heap.size w W → ∀ n : Int, 65535 < n → Calls Tryz.prog g (#[.int .i64 n] ++ lb) W fun e w' => e = .returned (.tuple #[.slice none 0 0, .int .i64 2]) ∧ Below W.heap.size W w')
theorem OverI.later {w W : World} {v : Value} {ph : Int → List Int} (h : OverI w v ph) (hb : Below w.heap.size w W) : OverI W v ph := by
  obtain ⟨he, g, lb, hv, hc, h1, h2⟩ := h
  exact ⟨he, g, lb, hv, hc, fun X hX => h1 X (hb.trans (hX.mono hb.size)), fun X hX => h2 X (hb.trans (hX.mono hb.size))⟩
theorem OverI.own {w : World} {v : Value} {ph : Int → List Int} (h : OverI w v ph) : ∃ g lb, v = .func (.func g) #[] lb := by
  obtain ⟨_, g, lb, hv, _⟩ := h
  exact ⟨g, lb, hv⟩
def phN (n : Int) : List Int := []
def ph6I (A B : List Int) (n : Int) : List Int := ph6 A B 58 n
theorem eg_over4i : ∀ args w, (callFunc 157 args).run Tryz.prog w = .ok (.enter 157 args) w := enters_of Tryz.func157 (by kernel_rfl) rfl
theorem over4_yes (n : Int) (hn : 0 ≤ n ∧ n ≤ 65535) (w : World) : Calls Tryz.prog 157 #[.int .i64 n] w fun e w' => e = .returned (.tuple #[.slice none 0 0, .int .i64 0]) ∧ w' = w := by
  go_enter Tryz.func157, Tryz.ntmps157
  go_wp2
  go_ret2
  exact ⟨rfl, rfl⟩
theorem over4_no (n : Int) (hn : 65535 < n) (w : World) : Calls Tryz.prog 157 #[.int .i64 n] w fun e w' => e = .returned (.tuple #[.slice none 0 0, .int .i64 2]) ∧ w' = w := by
  go_enter Tryz.func157, Tryz.ntmps157
  go_wp2
  go_ret2
  exact ⟨rfl, rfl⟩
theorem over4_over (w : World) : OverI w (.func (.func 157) #[] #[]) phN := by
  refine ⟨fun n => by simp [phN], _, _, rfl, eg_over4i, fun W hW n hn => ?_, fun W hW n hn => ?_⟩
  · exact (over4_yes n hn W).mono (fun e w' h => ⟨_, h.1, BytesAt.none w', by rw [h.2]; exact Below.refl _ _⟩)
  · exact (over4_no n hn W).mono (fun e w' h => ⟨h.1, by rw [h.2]; exact Below.refl _ _⟩)
set_option maxHeartbeats 1000000 in
set_option maxRecDepth 100000 in
theorem over6_one (A B : List Int) (hA : A.length = 16) (hB : B.length = 16) (n : Int) (w : World) (x y : Nat) (cA : CellsAt w x 0 (u8L A)) (cB : CellsAt w y 0 (u8L B)) {R : Ending → World → Prop}
    (HC : Calls Tryz.prog 232 #[.agg (u8L A).toArray, .agg (u8L B).toArray, .int .u8 58, .int .i64 n] w R) (hR : ∀ e w', R e w' → ∃ a b, e = .returned (.tuple #[a, b])) :
    Calls Tryz.prog 231 #[.int .i64 n, .pointer (some ⟨x, 0, none⟩), .pointer (some ⟨y, 0, none⟩)] w R := by
  have HA : Hid _ := agg_load (t := 29) Tryz.isAgg29 Tryz.sizeOf29 (by simp [u8L, hA]) cA
  have HB : Hid _ := agg_load (t := 29) Tryz.isAgg29 Tryz.sizeOf29 (by simp [u8L, hB]) cB
  have HCC : Hid _ := HC
  have HR : Hid _ := hR
  clear HC cA cB hR
  generalize u8L A = xA at *
  generalize u8L B = xB at *
  clear hA hB
  go_enter Tryz.func231, Tryz.ntmps231
  go_wp2_with first
    | ((with_reducible show wpList _ _ _ _ _ _); refine arm_load rfl (.tmp 1) 29 rfl rfl HA.out ?_)
    | ((with_reducible show wpList _ _ _ _ _ _); refine arm_load rfl (.tmp 2) 29 rfl rfl HB.out ?_)
  refine Calls.mono HCC.out ?_
  intro e w' hr
  obtain ⟨a, b, rfl⟩ := HR.out e w' hr
  have H : Hid _ := hr
  clear hr
  go_wp2
  exact H.out
theorem eg_over6i : ∀ args w, (callFunc 231 args).run Tryz.prog w = .ok (.enter 231 args) w := enters_of Tryz.func231 (by kernel_rfl) rfl
set_option maxHeartbeats 1000000 in
set_option maxRecDepth 100000 in
theorem over6_calls (A B : List Int) (hA : A.length = 16) (hB : B.length = 16) (fa : Fit A) (fb : Fit B) (w : World) :
    Calls Tryz.prog 189 #[.agg (u8L A).toArray, .agg (u8L B).toArray] w fun e w' => ∃ v, e = .returned v ∧ OverI w' v (ph6I A B) ∧ Below w.heap.size w w' := by
  have hb : Below w.heap.size w ((w.alloc (.cells (u8L A).toArray 29)).alloc (.cells (u8L B).toArray 29)) := ((Below.refl _ w).alloc (Nat.le_refl _) _).alloc (by simp) _
  have b1 := blk_alloc (blk_new w (.cells (u8L A).toArray 29)) (.cells (u8L B).toArray 29)
  have b2 := blk_new (w.alloc (.cells (u8L A).toArray 29)) (.cells (u8L B).toArray 29)
  have e2 : (w.alloc (.cells (u8L A).toArray 29)).heap.size = w.heap.size + 1 := by simp
  rw [e2] at b2
  have hv : OverI ((w.alloc (.cells (u8L A).toArray 29)).alloc (.cells (u8L B).toArray 29)) (.func (.func 231) #[] #[.pointer (some ⟨w.heap.size, 0, none⟩), .pointer (some ⟨w.heap.size + 1, 0, none⟩)]) (ph6I A B) := by
    refine ⟨fun n => by simp [ph6I, ph6, hA, hB], _, _, rfl, eg_over6i, fun W hW n hn => ?_, fun W hW n hn => ?_⟩
    · refine over6_one A B hA hB n W w.heap.size (w.heap.size + 1) (CellsAt.of_blk (blk_on b1 hW)) (CellsAt.of_blk (blk_on b2 hW)) (pseudo6_list A B hA hB fa fb 58 n (by decide) hn W) ?_
      rintro e w' ⟨u, rfl, _⟩
      exact ⟨_, _, rfl⟩
    · refine over6_one A B hA hB n W w.heap.size (w.heap.size + 1) (CellsAt.of_blk (blk_on b1 hW)) (CellsAt.of_blk (blk_on b2 hW)) (pseudo6_long A B hA hB 58 n hn W) ?_
      rintro e w' ⟨rfl, _⟩
      exact ⟨_, _, rfl⟩
  have HV : Hid _ := hv
  have HB : Hid _ := hb
  clear hv hb b1 b2 e2 fa fb
  have h1 : (u8L A).length = 16 := by simp [u8L, hA]
  have h2 : (u8L B).length = 16 := by simp [u8L, hB]
  clear hA hB
  generalize u8L A = xA at *
  generalize u8L B = xB at *
  go_enter Tryz.func189, Tryz.ntmps189
  go_wp2
  go_ret
  exact ⟨_, rfl, HV.out, HB.out⟩
set_option maxHeartbeats 1000000 in
set_option maxRecDepth 100000 in
theorem check_ok (o : Value) (ph : Int → List Int) (v : Value) (ps : List (List Int)) (w : World) (ho : OverI w o ph) (hv : PartsAt w.heap.size w v ps) (hn : ps.length ≤ 100) (ht : ps.flatten.length ≤ 65535) :
    Calls Tryz.prog 217 #[o, v] w fun e w' => e = .returned (.tuple #[.int .u16 (65535 - sumW 0 (wordsL (ph ps.flatten.length ++ ps.flatten))), .int .i64 0]) ∧ Below w.heap.size w w' := by
  have hv0 := hv
  obtain ⟨hev, g, lb, rfl, eg, hyes, _⟩ := ho
  obtain ⟨hlen, a, cap, rfl, hz⟩ := hv
  have HY : Hid _ := hyes
  have HV0 : Hid _ := hv0
  have hpa := pre_all ps
  have hps := pre_succ ps
  have hpl := pre_le ps
  clear hyes hv0 hlen
  generalize hf : ps.flatten = f at *
  have HPA : Hid _ := hpa
  have HPS : Hid _ := hps
  have HPL : Hid _ := hpl
  have HF : Hid _ := hf
  generalize hN : ps.length = N at *
  have HN : Hid _ := hN
  clear hpa hps hpl hf hN
  go_enter Tryz.func217, Tryz.ntmps217
  go_wp2
  go_loopw [6, 13] (fun n i wr => ∃ k : Nat, k ≤ N ∧ i = .int .i64 k ∧ n = .int .i64 (pre ps k : Nat) ∧ wr = w) (fun _ i _ => N - (intOf i).toNat)
  case atStart => exact ⟨0, Nat.zero_le _, rfl, by simp [pre_zero], rfl⟩
  case round =>
    obtain ⟨k, hk, rfl, rfl, rfl⟩ := hrel
    have hplk := HPL.out k
    by_cases hlt : k < N
    · rcases hz with hz | ⟨b, off, rfl, hbn, hc⟩
      · omega
      obtain ⟨u, hu, hb⟩ := hc k hlt
      obtain ⟨a2, c2, rfl, _⟩ := hb.val
      have hsn := HPS.out k hlt
      have hpl2 := HPL.out (k + 1)
      generalize (ps[k]?.getD []).length = m at *
      have hb2 : pre ps k + m ≤ 65535 := by omega
      have HSN : Hid (pre ps (k + 1) = pre ps k + m) := hsn
      clear hsn hc hb hpl2
      generalize pre ps k = P0 at *
      go_wp2
      exact ⟨⟨k + 1, by omega, by simp, by have := HSN.out; simp; omega, trivial⟩, by simp [intOf]; omega⟩
    · obtain rfl : k = N := by omega
      have e1 := HPA.out
      rw [e1]
      clear hplk e1
      go_wp2_with fail
      refine Calls.mono (HY.out _ (Below.refl _ _) f.length (by omega)) ?_
      rintro _ w1 ⟨u, rfl, hu, hb1⟩
      obtain ⟨a4, c4, rfl, _⟩ := hu.val
      obtain ⟨v2, w2, hr, hP2, hb2⟩ := parts_cons hu (HV0.out.later hb1) (by omega) 127
      obtain ⟨a3, c3, rfl, _⟩ := hP2.val
      have HO : Hid _ := of_calls a3 _ c3 _ w2 hP2
      have HR : Hid _ := hr
      have HFE : Hid ((ph f.length :: ps).flatten = ph f.length ++ f) := by
        have := HF.out
        show (ph f.length :: ps).flatten = ph f.length ++ f
        rw [List.flatten_cons, this]
      have HB : Hid (Below wr.heap.size wr w2) := hb1.trans (hb2.mono hb1.size)
      rw [HFE.out] at HO
      have HBS := HB.out.size
      clear hr hP2 hu hb1 hb2
      generalize hFF : (ph f.length ++ f) = F at *
      have HFF : Hid _ := hFF
      clear hFF HFE HV0 HY HPA HPS HPL hz
      go_wp2_with (at_builtin; refine wpList_append_run rfl _ _ _ _ rfl rfl rfl HR.out ?_)
      refine Calls.mono HO.out ?_
      rintro _ w3 ⟨rfl, hb3⟩
      have HB3 : Hid _ := HB.out.trans (hb3.mono HBS)
      generalize hS : (65535 - sumW 0 (wordsL F)) = S at *
      have HS : Hid _ := hS
      clear HO hb3 HB hS
      go_wp2
      go_ret2
      exact ⟨by rw [HFF.out, HS.out]; rfl, HB3.out⟩
set_option maxHeartbeats 1000000 in
set_option maxRecDepth 100000 in
theorem check_long (o : Value) (ph : Int → List Int) (v : Value) (ps : List (List Int)) (w : World) (ho : OverI w o ph) (hv : PartsAt w.heap.size w v ps) (hn : ps.length ≤ 100) (ht : 65535 < ps.flatten.length) (ht2 : ps.flatten.length ≤ 1000000000000000000) :
    Calls Tryz.prog 217 #[o, v] w fun e w' => e = .returned (.tuple #[.int .u16 0, .int .i64 2]) ∧ Below w.heap.size w w' := by
  obtain ⟨hev, g, lb, rfl, eg, _, hno⟩ := ho
  obtain ⟨hlen, a, cap, rfl, hz⟩ := hv
  have HY : Hid _ := hno
  have hpa := pre_all ps
  have hps := pre_succ ps
  have hpl := pre_le ps
  clear hno hlen
  generalize hf : ps.flatten = f at *
  have HPA : Hid _ := hpa
  have HPS : Hid _ := hps
  have HPL : Hid _ := hpl
  have HF : Hid _ := hf
  generalize hN : ps.length = N at *
  have HN : Hid _ := hN
  clear hpa hps hpl hf hN
  go_enter Tryz.func217, Tryz.ntmps217
  go_wp2
  go_loopw [6, 13] (fun n i wr => ∃ k : Nat, k ≤ N ∧ i = .int .i64 k ∧ n = .int .i64 (pre ps k : Nat) ∧ wr = w) (fun _ i _ => N - (intOf i).toNat)
  case atStart => exact ⟨0, Nat.zero_le _, rfl, by simp [pre_zero], rfl⟩
  case round =>
    obtain ⟨k, hk, rfl, rfl, rfl⟩ := hrel
    have hplk := HPL.out k
    by_cases hlt : k < N
    · rcases hz with hz | ⟨b, off, rfl, hbn, hc⟩
      · omega
      obtain ⟨u, hu, hb⟩ := hc k hlt
      obtain ⟨a2, c2, rfl, _⟩ := hb.val
      have hsn := HPS.out k hlt
      have hpl2 := HPL.out (k + 1)
      generalize (ps[k]?.getD []).length = m at *
      have hb2 : pre ps k + m ≤ 1000000000000000000 := by omega
      have HSN : Hid (pre ps (k + 1) = pre ps k + m) := hsn
      clear hsn hc hb hpl2
      generalize pre ps k = P0 at *
      go_wp2
      exact ⟨⟨k + 1, by omega, by simp, by have := HSN.out; simp; omega, trivial⟩, by simp [intOf]; omega⟩
    · obtain rfl : k = N := by omega
      have e1 := HPA.out
      rw [e1]
      clear hplk e1
      go_wp2_with fail
      refine Calls.mono (HY.out _ (Below.refl _ _) f.length (by omega)) ?_
      rintro _ w1 ⟨rfl, hb1⟩
      go_wp2
      go_ret2
      exact ⟨rfl, hb1⟩
end Go.Proofs.YtpgnnplpcalbbaaGreat.Icm
namespace Go.Proofs.YtpgnnplpcalbbaaGreat.Icm
open Go Go.RowKit Go.Shelf
theorem UW_BytesAt {n m : Nat} {W : World} {v : Value} {zs : List Int} (h : BytesAt n W v zs) (hnm : n ≤ m) : BytesAt m W v zs := by
  obtain ⟨q1, q2, q3, q4, q5, q6⟩ := h
  refine ⟨q1, q2, q3, q4, q5, q6.imp id ?_⟩
  rintro ⟨bb, oo, e, hl, hc⟩
  exact ⟨bb, oo, e, Nat.lt_of_lt_of_le hl hnm, hc⟩
theorem _root_.Go.Proofs.YtpgnnplpcalbbaaGreat.OwnG.all {b : Nat} {w : World} {zs : List Int} (h : OwnG w b zs) (hf : Fit zs) (hl : zs.length ≤ 140737488351232) (n cap : Nat) (hn : n = zs.length) : BytesAt w.heap.size w (.slice (some ⟨b, 0, none⟩) n cap) zs := by
  have := h.bytes hf hl 0 n cap (by omega)
  simpa [hn] using this
theorem _root_.Go.Proofs.YtpgnnplpcalbbaaGreat.OB.lower {B base : Nat} {w W wx : World} {v : Value} {zs : List Int} (h : OB base W wx v zs) (hb : Below B w W) (hB : B ≤ base) : OB B w wx v zs := by
  obtain ⟨⟨h1, h2⟩, h3⟩ := h
  refine ⟨⟨h1, h2.imp id ?_⟩, hb.trans (h3.mono hB)⟩
  rintro ⟨g, cap, cur, e, hg, r⟩
  exact ⟨g, cap, cur, e, Nat.le_trans hB hg, r⟩
/-- A message. -/
structure Msg where
  ty : Int
  code : Int
  rest : Int
  body : List Int
structure MsgC (w : World) (c : List Value) (m : Msg) : Prop where
  val : ∃ vb, c = [.int .u8 m.ty, .int .u8 m.code, .int .u32 m.rest, vb] ∧ BytesAt w.heap.size w vb m.body
  ft : 0 ≤ m.ty ∧ m.ty ≤ 255
  fc : 0 ≤ m.code ∧ m.code ≤ 255
  fr : 0 ≤ m.rest ∧ m.rest ≤ 4294967295
theorem MsgC.on {w W : World} {c : List Value} {m : Msg} (h : MsgC w c m) (hb : Below w.heap.size w W) : MsgC W c m := by
  obtain ⟨⟨vd, h1, h2⟩, h3, h4, h5⟩ := h
  exact ⟨⟨vd, h1, h2.later hb⟩, h3, h4, h5⟩
theorem MsgC.len {w : World} {c : List Value} {m : Msg} (h : MsgC w c m) : c.length = 4 := by
  obtain ⟨⟨vd, rfl, _⟩, _⟩ := h
  rfl
theorem MsgC.one {w : World} {c : List Value} {m : Msg} (h : MsgC w c m) : ∀ v ∈ c, v.oneCell' = true := by
  obtain ⟨⟨vd, rfl, hd⟩, _⟩ := h
  obtain ⟨a, k, rfl, _⟩ := hd.val
  simp [Value.oneCell']
/-- A message's first bytes, with a checksum. -/
def icH (m : Msg) (ck : Int) : List Int := [m.ty, m.code, ck / 256, ck % 256, m.rest / 16777216, m.rest / 65536 % 256, m.rest / 256 % 256, m.rest % 256]
def icK (ph : Int → List Int) (m : Msg) : Int := 65535 - sumW 0 (wordsL (ph (8 + (m.body.length : Int)) ++ (icH m 0 ++ m.body)))
def icL (ph : Int → List Int) (m : Msg) : List Int := icH m (icK ph m) ++ m.body
theorem icH_fit {m : Msg} {w : World} {c : List Value} (h : MsgC w c m) {ck : Int} (hk : 0 ≤ ck ∧ ck ≤ 65535) : Fit (icH m ck) := by
  obtain ⟨_, h1, h2, h3⟩ := h
  intro z hz
  simp [icH] at hz
  rcases hz with rfl | rfl | rfl | rfl | rfl | rfl | rfl | rfl <;> omega
theorem icK_range {ph : Int → List Int} {m : Msg} {w : World} {c : List Value} (h : MsgC w c m) (hp : Fit (ph (8 + (m.body.length : Int)))) : 0 ≤ icK ph m ∧ icK ph m ≤ 65535 := by
  obtain ⟨vb, _, hb⟩ := h.val
  have hrg := sumW_range (wordsL (ph (8 + (m.body.length : Int)) ++ (icH m 0 ++ m.body))) 0 (by decide) (wordsL_words (hp.append ((icH_fit h (by decide)).append hb.fit)))
  unfold icK
  omega
set_option maxHeartbeats 2000000 in
set_option maxRecDepth 100000 in
theorem write_ok (o : Value) (ph : Int → List Int) (c : List Value) (m : Msg) (w : World) (ho : OverI w o ph) (hph : ∀ n : Int, 0 ≤ n ∧ n ≤ 65535 → Fit (ph n)) (hm : MsgC w c m) (hn : 8 + m.body.length ≤ 65535) :
    Calls Tryz.prog 197 #[o, .agg c.toArray] w fun e w' => ∃ v, e = .returned (.tuple #[v, .int .i64 0]) ∧ OB w.heap.size w w' v (icL ph m) := by
  have hm0 := hm
  obtain ⟨⟨vb, rfl, hd⟩, ft, fc, fr⟩ := hm
  obtain ⟨g0, lb, rfl⟩ := ho.own
  have hb0 := blk_new w (.cells [.int .u8 m.ty, .int .u8 m.code, .int .u32 m.rest, vb].toArray 46)
  have hB0 := (Below.refl w.heap.size w).alloc (Nat.le_refl _) (.cells [.int .u8 m.ty, .int .u8 m.code, .int .u32 m.rest, vb].toArray 46)
  obtain ⟨W0, hW0⟩ : ∃ W0, w.alloc (.cells [.int .u8 m.ty, .int .u8 m.code, .int .u32 m.rest, vb].toArray 46) = W0 := ⟨_, rfl⟩
  rw [hW0] at hb0 hB0
  have k0 := blk_cell (j := 0) hb0 rfl
  have k1 := blk_cell (j := 1) hb0 rfl
  have k2 := blk_cell (j := 2) hb0 rfl
  have hh0 := blk_new W0 (.cells (u8L (icH m 0)).toArray 5)
  have hBh := (Below.refl W0.heap.size W0).alloc (Nat.le_refl _) (.cells (u8L (icH m 0)).toArray 5)
  have eh : u8L (icH m 0) = [.int .u8 m.ty, .int .u8 m.code, .int .u8 0, .int .u8 0, .int .u8 (m.rest / 16777216), .int .u8 (m.rest / 65536 % 256), .int .u8 (m.rest / 256 % 256), .int .u8 (m.rest % 256)] := rfl
  rw [eh] at hh0 hBh
  obtain ⟨W1, hW1⟩ : ∃ W1, W0.alloc (.cells [.int .u8 m.ty, .int .u8 m.code, .int .u8 0, .int .u8 0, .int .u8 (m.rest / 16777216), .int .u8 (m.rest / 65536 % 256), .int .u8 (m.rest / 256 % 256), .int .u8 (m.rest % 256)].toArray 5) = W1 := ⟨_, rfl⟩
  rw [hW1] at hh0 hBh
  have hw1 := hB0.trans (hBh.mono hB0.size)
  have hown : OwnG W1 W0.heap.size (icH m 0) := OwnG.of_u8L (by rw [eh]; exact hh0)
  have hF0 := icH_fit hm0 (ck := 0) (by decide)
  have hhead := hown.all hF0 (by show 8 ≤ _; decide) 8 8 rfl
  have hdat := hd.later hw1
  have hP := parts_two W1 _ _ 25 _ _ hhead hdat
  have hBp := (Below.refl W1.heap.size W1).alloc (Nat.le_refl _) (.cells #[.slice (some ⟨W0.heap.size, 0, none⟩) 8 8, vb] 25)
  have hfl : [icH m 0, m.body].flatten = icH m 0 ++ m.body := by simp
  have hck := check_ok _ ph _ _ _ (ho.later (hw1.trans (hBp.mono hw1.size))) hP (by simp) (by rw [hfl, List.length_append]; exact hn)
  have hlen : ((icH m 0 ++ m.body).length : Int) = 8 + (m.body.length : Int) := by rw [List.length_append]; simp [icH]
  rw [hfl, hlen] at hck
  have hkr := icK_range hm0 (hph (8 + (m.body.length : Int)) (by omega))
  have hke : 65535 - sumW 0 (wordsL (ph (8 + (m.body.length : Int)) ++ (icH m 0 ++ m.body))) = icK ph m := rfl
  rw [hke] at hck
  have k3 := blk_cell (j := 3) (blk_on hb0 hBh) rfl
  have HCK : Hid _ := hck
  have HBP : Hid _ := hBp
  have HOWN : Hid _ := hown
  have HD : Hid _ := hd
  have HB0 : Hid _ := hB0
  have HBK : Hid _ := hb0
  have HBH : Hid _ := hBh
  have HM0 : Hid _ := hm0
  have hs1 : W0.heap.size < W1.heap.size := hown.lt
  have hL : Hid (icL ph m = icH m (icK ph m) ++ m.body) := rfl
  obtain ⟨ad, cd, rfl, _⟩ := hd.val
  obtain ⟨ty, code, rest, body⟩ := m
  dsimp only at *
  have r1 : rest / 16777216 % 256 = rest / 16777216 := by omega
  clear hck hBp hown hhead hdat hP hfl hlen hke hd hh0 eh hF0 hw1 hph ho hm0
  go_enter Tryz.func197, Tryz.ntmps197
  go_wp2_with fail
  refine Calls.mono HCK.out ?_
  rintro _ w2 ⟨rfl, hb2⟩
  have hx2 := HBP.out.trans (hb2.mono HBP.out.size)
  have own2 := HOWN.out.kept hs1 hx2
  have c2 : w2.cell? ⟨W0.heap.size, 2, none⟩ = some (.int .u8 0) := own2.cell 2 (by show 2 < 8; decide)
  have c3 : (w2.setCell ⟨W0.heap.size, 2, none⟩ (.int .u8 (icK ph ⟨ty, code, rest, body⟩ / 256))).cell? ⟨W0.heap.size, 3, none⟩ = some (.int .u8 0) := (own2.set 2 (by show 2 < 8; decide) _).cell 3 (by show 3 < 8; decide)
  have f2 : w2.frozen? ⟨W0.heap.size, 2, none⟩ = false := own2.open 2
  have f3 : (w2.setCell ⟨W0.heap.size, 2, none⟩ (.int .u8 (icK ph ⟨ty, code, rest, body⟩ / 256))).frozen? ⟨W0.heap.size, 3, none⟩ = false := (own2.set 2 (by show 2 < 8; decide) _).open 3
  have hown4 : OwnG ((w2.setCell ⟨W0.heap.size, 2, none⟩ (.int .u8 (icK ph ⟨ty, code, rest, body⟩ / 256))).setCell ⟨W0.heap.size, 3, none⟩ (.int .u8 (icK ph ⟨ty, code, rest, body⟩ % 256))) W0.heap.size (icH ⟨ty, code, rest, body⟩ (icK ph ⟨ty, code, rest, body⟩)) := (own2.set 2 (by show 2 < 8; decide) _).set 3 (by show 3 < 8; decide) _
  have honly : Only W0.heap.size w2 ((w2.setCell ⟨W0.heap.size, 2, none⟩ (.int .u8 (icK ph ⟨ty, code, rest, body⟩ / 256))).setCell ⟨W0.heap.size, 3, none⟩ (.int .u8 (icK ph ⟨ty, code, rest, body⟩ % 256))) := ((Only.refl _ _).set _ _).set _ _
  obtain ⟨W4, hW4⟩ : ∃ W4, (w2.setCell ⟨W0.heap.size, 2, none⟩ (.int .u8 (icK ph ⟨ty, code, rest, body⟩ / 256))).setCell ⟨W0.heap.size, 3, none⟩ (.int .u8 (icK ph ⟨ty, code, rest, body⟩ % 256)) = W4 := ⟨_, rfl⟩
  rw [hW4] at hown4 honly
  have hx02 := HBH.out.trans (hx2.mono HBH.out.size)
  have hx04 : Below W0.heap.size W0 W4 := hx02.trans (honly.below (Nat.le_refl _))
  have hw4 := HB0.out.trans (hx04.mono HB0.out.size)
  have hF4 := icH_fit HM0.out hkr
  have hhead4 := hown4.all hF4 (by show 8 ≤ _; decide) 8 8 rfl
  have hP4 := parts_two W4 _ _ 25 _ _ hhead4 (HD.out.later hw4)
  have hB4 := (Below.refl W4.heap.size W4).alloc (Nat.le_refl _) (.cells #[.slice (some ⟨W0.heap.size, 0, none⟩) 8 8, .slice ad body.length cd] 25)
  have hfl4 : [icH ⟨ty, code, rest, body⟩ (icK ph ⟨ty, code, rest, body⟩), body].flatten = icL ph ⟨ty, code, rest, body⟩ := by rw [hL.out]; simp
  have hcat := Concat_calls _ _ _ hP4 (by simp) (by rw [hfl4, hL.out, List.length_append]; show 8 + body.length ≤ _; omega)
  rw [hfl4] at hcat
  have HCAT : Hid _ := hcat
  have HW4 : Hid (Below w.heap.size w (W4.alloc (.cells #[.slice (some ⟨W0.heap.size, 0, none⟩) 8 8, .slice ad body.length cd] 25))) := hw4.trans (hB4.mono hw4.size)
  have k34 := blk_cell (j := 3) (blk_on HBK.out hx04) rfl
  clear hcat hP4 hhead4 hx04 hx02 hw4 hown4 honly hfl4 hB4 hx2 own2 hb2 HCK hF4 k0 k1 k2 k3 hW0 hW1 HBP HOWN HD HBH HM0
  generalize icK ph ⟨ty, code, rest, body⟩ = ck at *
  have r2 : ck / 256 % 256 = ck / 256 := by omega
  go_wp2_with fail
  refine Calls.mono HCAT.out ?_
  rintro _ w5 ⟨v5, rfl, h5⟩
  have H5 : Hid (OB w.heap.size w w5 v5 (icL ph ⟨ty, code, rest, body⟩)) := h5.lower HW4.out HW4.out.size
  clear h5 HCAT
  go_wp2
  go_ret2
  exact ⟨_, rfl, H5.out⟩
set_option maxHeartbeats 2000000 in
set_option maxRecDepth 100000 in
theorem write_long (o : Value) (ph : Int → List Int) (c : List Value) (m : Msg) (w : World) (ho : OverI w o ph) (hm : MsgC w c m) (hn : 65535 < 8 + m.body.length) :
    Calls Tryz.prog 197 #[o, .agg c.toArray] w fun e w' => e = .returned (.tuple #[.slice none 0 0, .int .i64 2]) ∧ Below w.heap.size w w' := by
  have hm0 := hm
  obtain ⟨⟨vb, rfl, hd⟩, ft, fc, fr⟩ := hm
  obtain ⟨g0, lb, rfl⟩ := ho.own
  have hb0 := blk_new w (.cells [.int .u8 m.ty, .int .u8 m.code, .int .u32 m.rest, vb].toArray 46)
  have hB0 := (Below.refl w.heap.size w).alloc (Nat.le_refl _) (.cells [.int .u8 m.ty, .int .u8 m.code, .int .u32 m.rest, vb].toArray 46)
  obtain ⟨W0, hW0⟩ : ∃ W0, w.alloc (.cells [.int .u8 m.ty, .int .u8 m.code, .int .u32 m.rest, vb].toArray 46) = W0 := ⟨_, rfl⟩
  rw [hW0] at hb0 hB0
  have k0 := blk_cell (j := 0) hb0 rfl
  have k1 := blk_cell (j := 1) hb0 rfl
  have k2 := blk_cell (j := 2) hb0 rfl
  have hh0 := blk_new W0 (.cells (u8L (icH m 0)).toArray 5)
  have hBh := (Below.refl W0.heap.size W0).alloc (Nat.le_refl _) (.cells (u8L (icH m 0)).toArray 5)
  have eh : u8L (icH m 0) = [.int .u8 m.ty, .int .u8 m.code, .int .u8 0, .int .u8 0, .int .u8 (m.rest / 16777216), .int .u8 (m.rest / 65536 % 256), .int .u8 (m.rest / 256 % 256), .int .u8 (m.rest % 256)] := rfl
  rw [eh] at hh0 hBh
  obtain ⟨W1, hW1⟩ : ∃ W1, W0.alloc (.cells [.int .u8 m.ty, .int .u8 m.code, .int .u8 0, .int .u8 0, .int .u8 (m.rest / 16777216), .int .u8 (m.rest / 65536 % 256), .int .u8 (m.rest / 256 % 256), .int .u8 (m.rest % 256)].toArray 5) = W1 := ⟨_, rfl⟩
  rw [hW1] at hh0 hBh
  have hw1 := hB0.trans (hBh.mono hB0.size)
  have hown : OwnG W1 W0.heap.size (icH m 0) := OwnG.of_u8L (by rw [eh]; exact hh0)
  have hF0 := icH_fit hm0 (ck := 0) (by decide)
  have hhead := hown.all hF0 (by show 8 ≤ _; decide) 8 8 rfl
  have hdat := hd.later hw1
  have hP := parts_two W1 _ _ 25 _ _ hhead hdat
  have hBp := (Below.refl W1.heap.size W1).alloc (Nat.le_refl _) (.cells #[.slice (some ⟨W0.heap.size, 0, none⟩) 8 8, vb] 25)
  have hfl : [icH m 0, m.body].flatten = icH m 0 ++ m.body := by simp
  have hck := check_long _ ph _ _ _ (ho.later (hw1.trans (hBp.mono hw1.size))) hP (by simp) (by rw [hfl, List.length_append]; exact hn) (by rw [hfl, List.length_append]; have := hd.len; show 8 + m.body.length ≤ _; omega)
  have hlen : ((icH m 0 ++ m.body).length : Int) = 8 + (m.body.length : Int) := by rw [List.length_append]; simp [icH]
  have k3 := blk_cell (j := 3) (blk_on hb0 hBh) rfl
  have HCK : Hid _ := hck
  have HBP : Hid _ := hBp
  have HOWN : Hid _ := hown
  have HD : Hid _ := hd
  have HB0 : Hid _ := hB0
  have HBK : Hid _ := hb0
  have HBH : Hid _ := hBh
  have HM0 : Hid _ := hm0
  have hs1 : W0.heap.size < W1.heap.size := hown.lt
  obtain ⟨ad, cd, rfl, _⟩ := hd.val
  obtain ⟨ty, code, rest, body⟩ := m
  dsimp only at *
  have r1 : rest / 16777216 % 256 = rest / 16777216 := by omega
  clear hck hBp hown hhead hdat hP hfl hlen hd hh0 eh hF0 hw1 ho hm0
  go_enter Tryz.func197, Tryz.ntmps197
  go_wp2_with fail
  refine Calls.mono HCK.out ?_
  rintro _ w2 ⟨rfl, hb2⟩
  have hx2 := HBP.out.trans (hb2.mono HBP.out.size)
  have hx02 := HBH.out.trans (hx2.mono HBH.out.size)
  have HX : Hid _ := HB0.out.trans (hx02.mono HB0.out.size)
  clear hx2 hx02 hb2
  go_wp2
  go_ret2
  exact ⟨rfl, HX.out⟩
end Go.Proofs.YtpgnnplpcalbbaaGreat.Icm
namespace Go.Proofs.YtpgnnplpcalbbaaGreat.Icm
open Go Go.RowKit Go.Shelf
theorem ex_loadv {P : Program} {o : Oper} {a : Act} {W : World} (p : Operand) (t : TypeId) (hop : o.op = Op.load t p) {vp v : Value} (hp : a.eval p = vp) (hrun : (Instr.loadAt t vp).run P W = .ok v W) : (execOp a.eval o).run P W = .ok (.value v) W := by
  simp [execOp, hop, hp, hrun]
theorem ex_extract {P : Program} {o : Oper} {a : Act} {W : World} (p : Operand) (i : Nat) (hop : o.op = Op.extract p i) {vs : Array Value} {v : Value} (hp : a.eval p = .tuple vs) (hv : vs[i]? = some v) : (execOp a.eval o).run P W = .ok (.value v) W := by
  generalize a.eval = ev at *
  simp [execOp, hop, hp, hv, go_sem]
theorem ex_assign {P : Program} {o : Oper} {a : Act} {W : World} (p : Operand) (hop : o.op = Op.assign p) {v : Value} (hp : a.eval p = v) : (execOp a.eval o).run P W = .ok (.value v) W := by
  generalize a.eval = ev at *
  simp [execOp, hop, hp, go_sem]
theorem wp_call {P : Program} {o : Oper} {a : Act} {d : Option Nat} {w : World} {K : Act → World → Prop} {Q : Exit → Act → World → Prop} {R : Value → World → Prop} (f : FuncId) (vs : Array Value) (hd : o.dst = d)
    (hrun : (execOp a.eval o).run P w = .ok (.enter f vs) w) (hc : Calls P f vs w fun e w' => ∃ v, e = .returned v ∧ R v w') (hK : ∀ v w2, R v w2 → K (a.put d v) w2) : o.wp P a w K Q := by
  subst hd
  unfold Oper.wp
  rw [hrun]
  refine hc.mono ?_
  rintro e w' ⟨v, rfl, hr⟩
  exact hK v w' hr
set_option maxHeartbeats 1000000 in
set_option maxRecDepth 100000 in
theorem Write6_walk (A B : List Int) (hA : A.length = 16) (hB : B.length = 16) (fa : Fit A) (fb : Fit B) (c : List Value) (hc : c.length = 4) (w : World) {R : Ending → World → Prop}
    (hR : ∀ e w', R e w' → ∃ x y, e = .returned (.tuple #[x, y]))
    (hw : ∀ W o, Below w.heap.size w W → OverI W o (ph6I A B) → Calls Tryz.prog 197 #[o, .agg c.toArray] W fun e w' => R e w' ∧ Below W.heap.size W w') :
    Calls Tryz.prog 128 #[.agg (u8L A).toArray, .agg (u8L B).toArray, .agg c.toArray] w R := by
  obtain ⟨W0, hW0⟩ : ∃ W0, ((w.alloc (.cells (u8L A).toArray 29)).alloc (.cells (u8L B).toArray 29)).alloc (.cells c.toArray 46) = W0 := ⟨_, rfl⟩
  have b0 := blk_new w (.cells (u8L A).toArray 29)
  have b1 := blk_new (w.alloc (.cells (u8L A).toArray 29)) (.cells (u8L B).toArray 29)
  have b2 := blk_new ((w.alloc (.cells (u8L A).toArray 29)).alloc (.cells (u8L B).toArray 29)) (.cells c.toArray 46)
  have b0' := blk_alloc (blk_alloc b0 (.cells (u8L B).toArray 29)) (.cells c.toArray 46)
  have b1' := blk_alloc b1 (.cells c.toArray 46)
  have hb : Below w.heap.size w (((w.alloc (.cells (u8L A).toArray 29)).alloc (.cells (u8L B).toArray 29)).alloc (.cells c.toArray 46)) := (((Below.refl _ w).alloc (Nat.le_refl _) _).alloc (by simp) _).alloc (by simp <;> omega) _
  rw [hW0] at b0' b1' b2 hb
  have s1 : (w.alloc (.cells (u8L A).toArray 29)).heap.size = w.heap.size + 1 := by simp
  have s2 : ((w.alloc (.cells (u8L A).toArray 29)).alloc (.cells (u8L B).toArray 29)).heap.size = w.heap.size + 1 + 1 := by simp
  rw [s1] at b1'
  rw [s2] at b2
  have HA : Hid (∀ W, Below W0.heap.size W0 W → (Instr.loadAt 29 (.pointer (some ⟨w.heap.size, 0, none⟩))).run Tryz.prog W = .ok (.agg (u8L A).toArray) W) := fun W hS => agg_load Tryz.isAgg29 Tryz.sizeOf29 (by simp [u8L, hA]) (CellsAt.of_blk (blk_on b0' hS))
  have HB : Hid (∀ W, Below W0.heap.size W0 W → (Instr.loadAt 29 (.pointer (some ⟨w.heap.size + 1, 0, none⟩))).run Tryz.prog W = .ok (.agg (u8L B).toArray) W) := fun W hS => agg_load Tryz.isAgg29 Tryz.sizeOf29 (by simp [u8L, hB]) (CellsAt.of_blk (blk_on b1' hS))
  have HC : Hid (∀ W, Below W0.heap.size W0 W → (Instr.loadAt 46 (.pointer (some ⟨w.heap.size + 1 + 1, 0, none⟩))).run Tryz.prog W = .ok (.agg c.toArray) W) := fun W hS => agg_load Tryz.isAgg46 Tryz.sizeOf46 hc (CellsAt.of_blk (blk_on b2 hS))
  have HOV : Hid (∀ W, Calls Tryz.prog 189 #[.agg (u8L A).toArray, .agg (u8L B).toArray] W fun e w' => ∃ v, e = .returned v ∧ (OverI w' v (ph6I A B) ∧ Below W.heap.size W w')) := fun W => over6_calls A B hA hB fa fb W
  have HW : Hid (∀ W o, Below W0.heap.size W0 W → OverI W o (ph6I A B) → Calls Tryz.prog 197 #[o, .agg c.toArray] W fun e w' => ∃ v, e = .returned v ∧ (R (.returned v) w' ∧ Below W.heap.size W w')) := fun W o hW ho => (hw W o (hb.trans (hW.mono hb.size)) ho).mono (fun e w' hr => by
    obtain ⟨x, y, rfl⟩ := hR e w' hr.1
    exact ⟨_, rfl, hr⟩)
  have HR : Hid _ := hR
  have hAl : (u8L A).length = 16 := by simp [u8L, hA]
  have hBl : (u8L B).length = 16 := by simp [u8L, hB]
  clear b0 b1 b2 b0' b1' hb s1 s2 hw hR fa fb hA hB
  generalize hxA : u8L A = xA at *
  generalize hxB : u8L B = xB at *
  clear hxA hxB
  go_enter Tryz.func128, Tryz.ntmps128
  go_wp2_with fail
  refine wp_region_held (S := fun W => Below W0.heap.size W0 W) (by kernel_rfl) ?_
  show wpAnyH _ _ _ _ _ 9 (Array.replicate 9 false) _ _
  refine take_one (i := 0) (d := some 8) (v := .agg xA.toArray) rfl rfl rfl (by kernel_rfl) (by kernel_rfl) (by kernel_rfl) (fun _ _ d _ _ h => by cases d <;> exact h) (fun W hS => ex_loadv (.tmp 3) 29 rfl rfl (HA.out W hS)) ((Below.refl _ _).drew) ?_
  refine take_one (i := 1) (d := some 9) (v := .agg xB.toArray) rfl rfl rfl (by kernel_rfl) (by kernel_rfl) (by kernel_rfl) (fun _ _ d _ _ h => by cases d <;> exact h) (fun W hS => ex_loadv (.tmp 4) 29 rfl rfl (HB.out W hS)) ((Below.refl _ _).drew) ?_
  refine take_one (i := 3) (d := some 11) (v := .agg c.toArray) rfl rfl rfl (by kernel_rfl) (by kernel_rfl) (by kernel_rfl) (fun _ _ d _ _ h => by cases d <;> exact h) (fun W hS => ex_loadv (.tmp 5) 46 rfl rfl (HC.out W hS)) ((Below.refl _ _).drew) ?_
  refine all_one (i := 2) (by kernel_rfl) rfl rfl ?_
  refine wp_call (d := some 10) 189 _ rfl (by kernel_rfl) (HOV.out _) ?_
  rintro o w2 ⟨ho, hb2⟩
  have hb02 := ((Below.refl W0.heap.size W0).drew).trans (hb2.mono (Nat.le_refl _))
  refine ⟨hb02, ?_⟩
  refine all_one (i := 4) (by kernel_rfl) rfl rfl ?_
  refine wp_call (d := some 12) 197 _ rfl (by kernel_rfl) (HW.out _ _ hb02 ho) ?_
  rintro v w3 ⟨hr, hb3⟩
  obtain ⟨x, y, e⟩ := HR.out _ _ hr
  cases e
  have H : Hid (R (.returned (.tuple #[x, y])) w3) := hr
  have hb03 := hb02.trans (hb3.mono hb02.size)
  clear hr ho hb2
  refine ⟨hb03, ?_⟩
  simp only [Act.put, List.setIfInBounds_toArray, List.set_cons_zero, List.set_cons_succ]
  refine take_one (i := 5) (d := some 13) (v := x) rfl rfl rfl (by kernel_rfl) (by kernel_rfl) (by kernel_rfl) (fun _ _ d _ _ h => by cases d <;> exact h) (fun W _ => ex_extract (.tmp 12) 0 rfl rfl rfl) hb03 ?_
  refine take_one (i := 6) (d := some 14) (v := y) rfl rfl rfl (by kernel_rfl) (by kernel_rfl) (by kernel_rfl) (fun _ _ d _ _ h => by cases d <;> exact h) (fun W _ => ex_extract (.tmp 12) 1 rfl rfl rfl) hb03 ?_
  refine take_one (i := 7) (d := some 6) (v := x) rfl rfl rfl (by kernel_rfl) (by kernel_rfl) (by kernel_rfl) (fun _ _ d _ _ h => by cases d <;> exact h) (fun W _ => ex_assign (.tmp 13) rfl rfl) hb03 ?_
  refine take_one (i := 8) (d := some 7) (v := y) rfl rfl rfl (by kernel_rfl) (by kernel_rfl) (by kernel_rfl) (fun _ _ d _ _ h => by cases d <;> exact h) (fun W _ => ex_assign (.tmp 14) rfl rfl) hb03 ?_
  refine wpAnyH_done (by kernel_rfl) ?_ _
  simp only [Act.put, List.setIfInBounds_toArray, List.set_cons_zero, List.set_cons_succ]
  go_wp2
  exact H.out
def icB (ph : Int → List Int) (m : Msg) : List Int := if 8 + m.body.length ≤ 65535 then icL ph m else []
def icE (m : Msg) : Int := if 8 + m.body.length ≤ 65535 then 0 else 2
/-- What a Write answers: bytes in a row of their own, and an error. -/
def Wrote2 (w : World) (zs : List Int) (er : Int) (e : Ending) (w' : World) : Prop := ∃ v, e = .returned (.tuple #[v, .int .i64 er]) ∧ OB w.heap.size w w' v zs
theorem Wrote2.lower {w W w' : World} {zs : List Int} {er : Int} {e : Ending} (h : Wrote2 W zs er e w') (hb : Below w.heap.size w W) : Wrote2 w zs er e w' := by
  obtain ⟨v, he, ho⟩ := h
  exact ⟨v, he, ho.lower hb hb.size⟩
theorem _root_.Go.Proofs.YtpgnnplpcalbbaaGreat.OB.none (w w' : World) (hb : Below w.heap.size w w') : OB w.heap.size w w' (.slice none 0 0) [] := ⟨World.ownsRow_nil _ _ _ _, hb⟩
theorem write_any (o : Value) (ph : Int → List Int) (c : List Value) (m : Msg) (w : World) (ho : OverI w o ph) (hph : ∀ n : Int, 0 ≤ n ∧ n ≤ 65535 → Fit (ph n)) (hm : MsgC w c m) :
    Calls Tryz.prog 197 #[o, .agg c.toArray] w (Wrote2 w (icB ph m) (icE m)) := by
  unfold icB icE
  by_cases hn : 8 + m.body.length ≤ 65535
  · rw [if_pos hn, if_pos hn]
    exact write_ok o ph c m w ho hph hm hn
  · rw [if_neg hn, if_neg hn]
    exact (write_long o ph c m w ho hm (by omega)).mono (fun e w' h => ⟨_, h.1, OB.none w w' h.2⟩)
theorem Wrote2.two {w w' : World} {zs : List Int} {er : Int} {e : Ending} (h : Wrote2 w zs er e w') : ∃ x y, e = .returned (.tuple #[x, y]) := by
  obtain ⟨v, he, _⟩ := h
  exact ⟨_, _, he⟩
theorem phN_fit (n : Int) : Fit (phN n) := fun z hz => by simp [phN] at hz
theorem ph6I_fit {A B : List Int} (fa : Fit A) (fb : Fit B) (n : Int) (hn : 0 ≤ n ∧ n ≤ 65535) : Fit (ph6I A B n) := ph6_fit fa fb (by decide) hn
theorem Write6_any (A B : List Int) (hA : A.length = 16) (hB : B.length = 16) (fa : Fit A) (fb : Fit B) (c : List Value) (m : Msg) (w : World) (hm : MsgC w c m) :
    Calls Tryz.prog 128 #[.agg (u8L A).toArray, .agg (u8L B).toArray, .agg c.toArray] w (Wrote2 w (icB (ph6I A B) m) (icE m)) :=
  Write6_walk A B hA hB fa fb c hm.len w (fun e w' h => h.two) (fun W o hb ho => (write_any o _ c m W ho (ph6I_fit fa fb) (hm.on hb)).mono (fun e w' h => ⟨h.lower hb, by obtain ⟨v, _, hO⟩ := h; exact hO.bel⟩))
set_option maxHeartbeats 1000000 in
set_option maxRecDepth 100000 in
theorem Write4_any (c : List Value) (m : Msg) (w : World) (hm : MsgC w c m) :
    Calls Tryz.prog 170 #[.agg c.toArray] w (Wrote2 w (icB phN m) (icE m)) := by
  have hb0 := blk_new w (.cells c.toArray 46)
  have hB0 := (Below.refl w.heap.size w).alloc (Nat.le_refl _) (.cells c.toArray 46)
  obtain ⟨W0, hW0⟩ : ∃ W0, w.alloc (.cells c.toArray 46) = W0 := ⟨_, rfl⟩
  rw [hW0] at hb0 hB0
  have HC : Hid _ := agg_load (t := 46) Tryz.isAgg46 Tryz.sizeOf46 hm.len (CellsAt.of_blk hb0)
  have HW : Hid _ := write_any _ phN c m W0 (over4_over W0) (fun n _ => phN_fit n) (hm.on hB0)
  have HB0 : Hid _ := hB0
  clear hb0 hB0 hm
  generalize icB phN m = zs at *
  generalize icE m = er at *
  go_enter Tryz.func170, Tryz.ntmps170
  go_wp2_with first
    | ((with_reducible show wpList _ _ _ _ _ _); refine arm_load rfl (.tmp 1) 46 rfl rfl HC.out ?_)
  refine Calls.mono HW.out ?_
  rintro _ w1 ⟨v, rfl, h1⟩
  have H1 : Hid (OB w.heap.size w w1 v zs) := h1.lower HB0.out HB0.out.size
  clear h1 HW
  go_wp2
  go_ret2
  exact ⟨_, rfl, H1.out⟩
end Go.Proofs.YtpgnnplpcalbbaaGreat.Icm
