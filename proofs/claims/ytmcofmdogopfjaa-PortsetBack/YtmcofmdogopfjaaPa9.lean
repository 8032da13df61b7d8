/-
  Port sets: Next of both sides; the statement PortsetAt for every argument.
-/
import Derived.Test.YtmcofmdogopfjaaPa8
namespace Go.Proofs.Ytmcofmdogopfjaa
open Go Go.RowKit Go.ChangeShapes Go.WideShapes Go.ChangeAt
set_option linter.unusedVariables false
set_option linter.unusedSimpArgs false

set_option maxHeartbeats 1000000 in
theorem Next_no (o l p : Int) (n : Nat) (w : World) (ho : In64 o) (hl : In64 l) (hp : 0 ≤ p ∧ p < 65536) (hs : ¬ setOk o l p) :
    Calls Try.prog 22 #[PS o l p, .int .u16 n] w fun e w' => e = .returned (UE 0 90) ∧ Below w.heap.size w w' := by
  have HC : Hid _ := fun W => Check_any o l p W ho hl hp
  rw [if_neg hs] at HC
  have hB := bA w (PSO o l p)
  go_enter Try.func22, Try.ntmps22
  go_wp2_with fail
  refine (HC.out _).mono ?_
  rintro e w2 ⟨rfl, hB2⟩
  go_wp2
  go_returns
  exact ⟨rfl, hB.trans (hB2.mono hB.size)⟩
set_option maxHeartbeats 1000000 in
theorem RNext_no (o l p : Int) (n : Nat) (w : World) (ho : In64 o) (hl : In64 l) (hp : 0 ≤ p ∧ p < 65536) (hs : ¬ setOk o l p) :
    Calls Try.prog 23 #[PS o l p, .int .u16 n] w fun e w' => e = .returned (UE 0 90) ∧ Below w.heap.size w w' := by
  have HC : Hid _ := fun W => Right_any o l p W ho hl hp
  rw [decide_eq_false hs] at HC
  have hB := bA w (PSO o l p)
  go_enter Try.func23, Try.ntmps23
  go_wp2_with fail
  refine (HC.out _).mono ?_
  rintro e w2 ⟨rfl, hB2⟩
  go_wp2
  go_returns
  exact ⟨rfl, hB.trans (hB2.mono hB.size)⟩

def nxt (o l p n : Nat) : Nat := atN o l p (upS o l p n % cnt o l)

set_option maxHeartbeats 1000000 in
theorem Next_yes (o l p n : Nat) (w : World) (ho : o ≤ 15) (hl : l ≤ 16 - o) (hp : p < 2 ^ l) (hn : n < 65536) :
    Calls Try.prog 22 #[PS o l p, .int .u16 n] w fun e w' => e = .returned (UE (nxt o l p n : Nat) 0) ∧ Below w.heap.size w w' := by
  obtain ⟨hs, g1, g2, g3⟩ := setIn ho hl hp
  have HC : Hid _ := fun W => Check_any o l p W g1 g2 g3
  rw [if_pos hs] at HC
  have HS : Hid _ := fun W => shapeOf_calls o l p W ho hl hp
  have HU : Hid _ := fun W => upTo_calls (fr o l p) (sz o l) (st o) (bk o) n W (sz_le o l) (st_le o) (fr_le o l p ho hl hp) hn
  have HN : Hid _ := fun W => count_calls (fr o l p) (sz o l) (st o) (bk o) W (sz_le o l).2 (bk_le o ho).2
  have e : bk o * sz o l = cnt o l := rfl
  rw [e] at HN
  have hc := cnt_pos o l ho
  have hi : upS o l p n % cnt o l < cnt o l := Nat.mod_lt _ hc
  have HA : Hid _ := fun W => at_calls (fr o l p) (sz o l) (st o) (bk o) (upS o l p n % cnt o l) W (sz_le o l) (st_le o).2 (Nat.le_trans (Nat.le_of_lt hi) (cnt_le o l ho hl)) (fr_le o l p ho hl hp)
  have e2 : (fr o l p + (upS o l p n % cnt o l) / sz o l * st o + (upS o l p n % cnt o l) % sz o l) % 65536 = nxt o l p n := Nat.mod_eq_of_lt (at_ok o l p _ ho hl hp hi).1
  rw [e2] at HA
  have h1 : ((upS o l p n : Nat) : Int).tmod (cnt o l : Nat) = ((upS o l p n % cnt o l : Nat) : Int) := by rw [← Int.ofNat_tmod]
  have h2 : (((cnt o l : Nat) : Int) == 0) = false := beq_eq_false_iff_ne.2 (by omega)
  have hB := bA w (PSO o l p)
  have hc2 := cnt_le o l ho hl
  have hu := up_le o l p n ho hl hn
  clear hs g1 g2 g3 e e2 hi
  unfold upS at h1 HA hu
  generalize nxt o l p n = R at *
  generalize upN (fr o l p) (sz o l) (st o) n % cnt o l = i at *
  generalize upN (fr o l p) (sz o l) (st o) n = u at *
  generalize cnt o l = c at *
  generalize fr o l p = f at *
  generalize sz o l = s at *
  generalize st o = t at *
  generalize bk o = b at *
  go_enter Try.func22, Try.ntmps22
  go_wp2_with fail
  refine (HC.out _).mono ?_
  rintro e w2 ⟨rfl, hB2⟩
  obtain ⟨c0, c1, c2⟩ := ps_c (ps_at hB2)
  go_wp2_with fail
  refine (HS.out _).mono ?_
  rintro e w3 ⟨rfl, hB3⟩
  have hB13 := (hB.trans (hB2.mono hB.size)).trans (hB3.mono (Nat.le_trans hB.size hB2.size))
  have hBw := hB13.trans ((bA w3 (SHO f s t b)).mono hB13.size)
  obtain ⟨d0, d1, d2, d3⟩ := Hi.cell4 (blk_new w3 (SHO f s t b))
  clear c0 c1 c2 hB2 hB3 hB13 hB HC HS
  go_wp2_with fail
  refine wp_region_hi (by kernel_rfl) (by kernel_rfl) ?_
  repeat (go_big_quiet_step (first | (go_at_call 33; exact Hi.calls (HU.out _)) | (go_at_call 30; exact Hi.calls (HN.out _)) | (go_at_call 32; exact Hi.calls (HA.out _))))
  refine wpQuiet_nil ?_
  intro _ hw
  obtain ⟨y, rfl⟩ := hw
  go_wp2
  go_returns
  exact ⟨rfl, hBw.trans (y.below.mono hBw.size)⟩

theorem wrap_u16_lt (x : Nat) (h : x < 65536) : IntKind.u16.wrap (x : Int) = (x : Int) := by rw [wrap_u16, Nat.mod_eq_of_lt h]

set_option maxHeartbeats 2000000 in
theorem RNext_yes (o l p n : Nat) (w : World) (ho : o ≤ 15) (hl : l ≤ 16 - o) (hp : p < 2 ^ l) (hn : n < 65536) :
    Calls Try.prog 23 #[PS o l p, .int .u16 n] w fun e w' => e = .returned (UE (nxt o l p n : Nat) 0) ∧ Below w.heap.size w w' := by
  obtain ⟨hs, g1, g2, g3⟩ := setIn ho hl hp
  have HC : Hid _ := fun W => Right_any o l p W g1 g2 g3
  rw [decide_eq_true hs] at HC
  have HH : Hid _ := fun (m : Nat) (hm : m < 65536) W => RHas_yes o l p m W ho hl hp hm
  have HA : Hid (∀ W, Calls Try.prog 19 #[PS o l p, .int .i64 0] W fun e w' => e = .returned (UE (atN o l p 0 : Nat) 0) ∧ Below W.heap.size W w') := fun W => RAt_in o l p 0 W ho hl hp (cnt_pos o l ho)
  have HF : Hid _ := fun j => next_found o l p n j ho hl hp hn
  have HZ : Hid ((∀ m, n < m → m < 65536 → ¬ hasN o l p m) → nxt o l p n = atN o l p 0) := fun h => by
    unfold nxt
    rw [next_none o l p n ho hl hp hn h]
  have HD : Hid (nxt o l p n = atN o l p (upS o l p n % cnt o l)) := rfl
  have hB := bA w (PSO o l p)
  have HK : Hid (∀ W, Below w.heap.size w W → Below w.heap.size w W) := fun _ h => h
  clear hs g1 g2 g3 HK
  generalize nxt o l p n = R at *
  go_enter Try.func23, Try.ntmps23
  go_wp2_with fail
  refine (HC.out _).mono ?_
  rintro e w2 ⟨rfl, hB2⟩
  clear HC
  go_wp2
  go_loopw [6] (fun i wr => ∃ j : Nat, n < j ∧ j ≤ 65536 ∧ i = .int .i64 j ∧ (∀ m, n < m → m < j → ¬ hasN o l p m) ∧ Below (w.alloc (PSO o l p)).heap.size (w.alloc (PSO o l p)) wr) (fun i _ => 65536 - (intOf i).toNat)
  case atStart => exact ⟨n + 1, by omega, by omega, by simp, fun m h1 h2 => by omega, hB2⟩
  case round =>
    obtain ⟨j, hj1, hj2, rfl, hno, hb⟩ := hrel
    obtain ⟨c0, c1, c2⟩ := ps_c (ps_at hb)
    have hBw := hB.trans (hb.mono hB.size)
    have hz := hb.size
    by_cases hlt : j < 65536
    · have hh := HH.out j hlt
      have hw := wrap_u16_lt j hlt
      have hlt2 : (j : Int) ≤ 65535 := by omega
      by_cases hb2 : hasN o l p j
      · rw [decide_eq_true hb2] at hh
        have e : R = j := by rw [HD.out]; exact (HF.out j ⟨hj1, hlt⟩ hb2 hno).symm
        have HJ : Hid _ := hh
        have HE : Hid _ := e
        clear hh e hno hb2 HF HZ HD HH HA
        go_wp2_with fail
        refine (HJ.out _).mono ?_
        rintro e w3 ⟨rfl, hB3⟩
        go_wp2
        go_returns
        exact ⟨by rw [HE.out]; rfl, hBw.trans (hB3.mono hBw.size)⟩
      · rw [decide_eq_false hb2] at hh
        have HJ : Hid _ := hh
        have HNO : Hid (∀ m, n < m → m < j + 1 → ¬ hasN o l p m) := fun m h1 h2 => by
          by_cases h3 : m < j
          · exact hno m h1 h3
          · rw [show m = j by omega]; exact hb2
        clear hh hno hb2 HF HZ HD HH HA
        go_wp2_with fail
        refine (HJ.out _).mono ?_
        rintro e w3 ⟨rfl, hB3⟩
        go_wp2
        exact ⟨⟨j + 1, by omega, by omega, by simp, HNO.out, hb.trans (hB3.mono hz)⟩, by simp [intOf]; omega⟩
    · obtain rfl : j = 65536 := by omega
      have e : R = atN o l p 0 := HZ.out hno
      rw [← e] at HA
      clear hno HF HZ HD HH e
      go_wp2_with fail
      refine (HA.out _).mono ?_
      rintro e w3 ⟨rfl, hB3⟩
      go_wp2
      go_returns
      exact ⟨rfl, hBw.trans (hB3.mono hBw.size)⟩

/-- What both sides answer. -/
theorem both4 (o l p i : Int) (n : Nat) (ho : In64 o) (hl : In64 l) (hp : 0 ≤ p ∧ p < 65536) (hn : n < 65536) :
    ∃ (a e c g x j q k : Int), ((∀ W, Calls Try.prog 16 #[PS o l p] W fun e' w' => e' = .returned (IE a e) ∧ Below W.heap.size W w') ∧ (∀ W, Calls Try.prog 17 #[PS o l p] W fun e' w' => e' = .returned (IE a e) ∧ Below W.heap.size W w')) ∧
      ((∀ W, Calls Try.prog 18 #[PS o l p, .int .i64 i] W fun e' w' => e' = .returned (UE c g) ∧ Below W.heap.size W w') ∧ (∀ W, Calls Try.prog 19 #[PS o l p, .int .i64 i] W fun e' w' => e' = .returned (UE c g) ∧ Below W.heap.size W w')) ∧
      ((∀ W, Calls Try.prog 20 #[PS o l p, .int .u16 n] W fun e' w' => e' = .returned (IE x j) ∧ Below W.heap.size W w') ∧ (∀ W, Calls Try.prog 21 #[PS o l p, .int .u16 n] W fun e' w' => e' = .returned (IE x j) ∧ Below W.heap.size W w')) ∧
      ((∀ W, Calls Try.prog 22 #[PS o l p, .int .u16 n] W fun e' w' => e' = .returned (UE q k) ∧ Below W.heap.size W w') ∧ (∀ W, Calls Try.prog 23 #[PS o l p, .int .u16 n] W fun e' w' => e' = .returned (UE q k) ∧ Below W.heap.size W w')) := by
  by_cases h : setOk o l p
  · obtain ⟨o', l', p', rfl, rfl, rfl, h1, h2, h3⟩ := nat_of h hp.1
    obtain ⟨c, g, hc⟩ : ∃ c g : Int, ((∀ W, Calls Try.prog 18 #[PS o' l' p', .int .i64 i] W fun e' w' => e' = .returned (UE c g) ∧ Below W.heap.size W w') ∧ (∀ W, Calls Try.prog 19 #[PS o' l' p', .int .i64 i] W fun e' w' => e' = .returned (UE c g) ∧ Below W.heap.size W w')) := by
      by_cases hi : 0 ≤ i ∧ i < (cnt o' l' : Int)
      · obtain ⟨i', rfl⟩ := Int.eq_ofNat_of_zero_le hi.1
        have hi' : i' < cnt o' l' := by omega
        exact ⟨_, _, fun W => At_in o' l' p' i' W h1 h2 h3 hi', fun W => RAt_in o' l' p' i' W h1 h2 h3 hi'⟩
      · have hi' : i < 0 ∨ (cnt o' l' : Int) ≤ i := by omega
        exact ⟨_, _, fun W => At_out o' l' p' i W h1 h2 h3 hi', fun W => RAt_out o' l' p' i W h1 h2 h3 hi'⟩
    obtain ⟨x, j, hx⟩ : ∃ x j : Int, ((∀ W, Calls Try.prog 20 #[PS o' l' p', .int .u16 n] W fun e' w' => e' = .returned (IE x j) ∧ Below W.heap.size W w') ∧ (∀ W, Calls Try.prog 21 #[PS o' l' p', .int .u16 n] W fun e' w' => e' = .returned (IE x j) ∧ Below W.heap.size W w')) := by
      by_cases hh : hasN o' l' p' n
      · have e : (if hasN o' l' p' n then IE (idx o' l' n : Nat) 0 else IE 0 91) = IE (idx o' l' n : Nat) 0 := if_pos hh
        exact ⟨_, _, fun W => e ▸ Index_yes o' l' p' n W h1 h2 h3 hn, fun W => e ▸ RIndex_yes o' l' p' n W h1 h2 h3 hn⟩
      · have e : (if hasN o' l' p' n then IE (idx o' l' n : Nat) 0 else IE 0 91) = IE 0 91 := if_neg hh
        exact ⟨_, _, fun W => e ▸ Index_yes o' l' p' n W h1 h2 h3 hn, fun W => e ▸ RIndex_yes o' l' p' n W h1 h2 h3 hn⟩
    exact ⟨_, _, c, g, x, j, _, _, ⟨fun W => Count_yes o' l' p' W h1 h2 h3, fun W => RCount_yes o' l' p' W h1 h2 h3⟩, hc, hx, fun W => Next_yes o' l' p' n W h1 h2 h3 hn, fun W => RNext_yes o' l' p' n W h1 h2 h3 hn⟩
  · exact ⟨_, _, _, _, _, _, _, _, ⟨fun W => Count_no o l p W ho hl hp h, fun W => RCount_no o l p W ho hl hp h⟩, ⟨fun W => At_no o l p i W ho hl hp h, fun W => RAt_no o l p i W ho hl hp h⟩, ⟨fun W => Index_no o l p n W ho hl hp h, fun W => RIndex_no o l p n W ho hl hp h⟩, fun W => Next_no o l p n W ho hl hp h, fun W => RNext_no o l p n W ho hl hp h⟩

set_option maxHeartbeats 4000000 in
set_option maxRecDepth 100000 in
theorem portsetAt_walk (o l p i : Int) (n : Nat) (w : World) (ho : In64 o) (hl : In64 l) (hp : 0 ≤ p ∧ p < 65536) (hn : n < 65536) :
    Calls Try.prog 4 #[PS o l p, .int .i64 i, .int .u16 n] w fun e w' => e = .returned (.bool true) ∧ Below w.heap.size w w' := by
  obtain ⟨a, e, c, g, x, j, q, k, ⟨h1, h2⟩, ⟨h3, h4⟩, ⟨h5, h6⟩, ⟨h7, h8⟩⟩ := both4 o l p i n ho hl hp hn
  have H1 : Hid _ := h1
  have H2 : Hid _ := h2
  have H3 : Hid _ := h3
  have H4 : Hid _ := h4
  have H5 : Hid _ := h5
  have H6 : Hid _ := h6
  have H7 : Hid _ := h7
  have H8 : Hid _ := h8
  have hB := bA w (PSO o l p)
  clear h1 h2 h3 h4 h5 h6 h7 h8
  go_enter Try.func4, Try.ntmps4
  go_wp2_with fail
  refine (H1.out _).mono ?_
  rintro e w2 ⟨rfl, hB2⟩
  obtain ⟨c0, c1, c2⟩ := ps_c (ps_at hB2)
  clear H1
  go_wp2_with fail
  refine (H2.out _).mono ?_
  rintro e w3 ⟨rfl, hB3⟩
  replace hB2 := hB2.trans (hB3.mono hB2.size)
  clear c0 c1 c2 hB3
  obtain ⟨c0, c1, c2⟩ := ps_c (ps_at hB2)
  clear H2
  go_wp2_with fail
  refine (H3.out _).mono ?_
  rintro e w3 ⟨rfl, hB3⟩
  replace hB2 := hB2.trans (hB3.mono hB2.size)
  clear c0 c1 c2 hB3
  obtain ⟨c0, c1, c2⟩ := ps_c (ps_at hB2)
  clear H3
  go_wp2_with fail
  refine (H4.out _).mono ?_
  rintro e w3 ⟨rfl, hB3⟩
  replace hB2 := hB2.trans (hB3.mono hB2.size)
  clear c0 c1 c2 hB3
  obtain ⟨c0, c1, c2⟩ := ps_c (ps_at hB2)
  clear H4
  go_wp2_with fail
  refine (H5.out _).mono ?_
  rintro e w3 ⟨rfl, hB3⟩
  replace hB2 := hB2.trans (hB3.mono hB2.size)
  clear c0 c1 c2 hB3
  obtain ⟨c0, c1, c2⟩ := ps_c (ps_at hB2)
  clear H5
  go_wp2_with fail
  refine (H6.out _).mono ?_
  rintro e w3 ⟨rfl, hB3⟩
  replace hB2 := hB2.trans (hB3.mono hB2.size)
  clear c0 c1 c2 hB3
  obtain ⟨c0, c1, c2⟩ := ps_c (ps_at hB2)
  clear H6
  go_wp2_with fail
  refine (H7.out _).mono ?_
  rintro e w3 ⟨rfl, hB3⟩
  replace hB2 := hB2.trans (hB3.mono hB2.size)
  clear c0 c1 c2 hB3
  obtain ⟨c0, c1, c2⟩ := ps_c (ps_at hB2)
  clear H7
  go_wp2_with fail
  refine (H8.out _).mono ?_
  rintro e w3 ⟨rfl, hB3⟩
  replace hB2 := hB2.trans (hB3.mono hB2.size)
  clear c0 c1 c2 hB3
  have hBw := hB.trans (hB2.mono hB.size)
  clear hB2 hB H8
  go_wp2_with fail
  refine (alive_calls _).mono ?_
  rintro e w4 ⟨rfl, hB4⟩
  go_wp2
  go_ret
  exact ⟨rfl, hBw.trans (hB4.mono hBw.size)⟩

theorem portsetAt_open {H : Type} {enc : TypeId × Value → H} {W : World} {base : Nat} (v0 v1 v2 : Value) {d0 d1 d2 : DataW H} {p0 p1 p2 : List MemPlace}
    (o0 : Value.okWide Try.prog W .any base 24 v0) (h0 : DataW.Trod enc Try.prog W 0 (fun _ => true) true 24 v0 d0 p0)
    (o1 : Value.okWide Try.prog W .any base 3 v1) (h1 : DataW.Trod enc Try.prog W 0 (fun _ => true) true 3 v1 d1 p1)
    (o2 : Value.okWide Try.prog W .any base 22 v2) (h2 : DataW.Trod enc Try.prog W 0 (fun _ => true) true 22 v2 d2 p2) :
    Calls Try.prog 4 #[v0, v1, v2] W fun e w' => e = .returned (.bool true) ∧ Below W.heap.size W w' := by
  obtain ⟨o, l, p, rfl, ho, hl, hp⟩ := open_set h0
  obtain ⟨k, rfl, _, _, wk⟩ := open_int Try.underlying3 o1 h1
  obtain ⟨m, rfl, _, _, wm⟩ := open_int Try.underlying22 o2 h2
  have hm := bounds_u16 wm
  obtain ⟨n, rfl⟩ := Int.eq_ofNat_of_zero_le hm.1
  exact portsetAt_walk o l p k n W ho hl hp (by omega)

end Go.Proofs.Ytmcofmdogopfjaa
