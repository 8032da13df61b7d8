/-
  Next, Same, New of the document's.
-/
import Derived.Test.YtgndiblonhgihaaFold28
namespace Go.Proofs.Ytgndiblonhgihaa
open Go Go.RowKit Go.Lib
set_option linter.unusedVariables false
set_option linter.unusedSimpArgs false

/-- When the first is over. -/
def NextP (D : List PE) (t : Int) (b : Bool) : Prop := (D = [] ∧ t = 0 ∧ b = false) ∨ (b = true ∧ (∃ x ∈ D, t = x.u) ∧ ∀ x ∈ D, t ≤ x.u)
set_option maxHeartbeats 8000000 in
set_option maxRecDepth 100000 in
theorem RNext {W : World} {rb : Nat} {cf : Cf} {now : Int} {D : List PE} {v : Value} (h : Doc rb cf now D v W) (hlen : D.length ≤ 100000) :
    Calls Try.prog 25 #[.pointer (some ⟨rb, 0, none⟩)] W fun e w' => ∃ t b, e = .returned (.tuple #[.int .i64 t, .bool b]) ∧ NextP D t b ∧ Below W.heap.size W w' := by
  generalize hQ : (fun (e : Ending) (w' : World) => ∃ t b, e = .returned (.tuple #[.int .i64 t, .bool b]) ∧ NextP D t b ∧ Below W.heap.size W w') = Q
  have HQ : Hid (∀ e w', (∃ t b, e = .returned (.tuple #[.int .i64 t, .bool b]) ∧ NextP D t b ∧ Below W.heap.size W w') → Q e w') := fun e w' hh => by rw [← hQ]; exact hh
  clear hQ
  obtain ⟨ad, c, hv⟩ := own_slc h.row
  have HV : Hid (v = .slice ad D.length c) := hv
  have HD : Hid (Doc rb cf now D v W) := h
  have HSZ : Hid (D.length ≤ 100000) := hlen
  have c5 : W.cell? ⟨rb, 5, none⟩ = some (.slice ad D.length c) := by rw [← hv]; exact blk_cell h.box rfl
  have c5H : Hid (∀ x : Hi W, x.W.cell? ⟨rb, 5, none⟩ = some (.slice ad D.length c)) := fun x => by rw [← hv]; exact blk_cell (h.on x.below).box rfl
  clear hv h
  go_enter Try.func25, Try.ntmps25
  go_wp2
  go_loopw [4, 5] (fun tv i wr => ∃ (n : Nat) (t : Int), n ≤ D.length ∧ i = .int .i64 n ∧ tv = .int .i64 t ∧ (n = 0 → t = 0) ∧ (0 < n → (∃ x ∈ D, t = x.u) ∧ ∀ j x, j < n → D[j]? = some x → t ≤ x.u) ∧ wr = W) (fun _ i _ => D.length - (intOf i).toNat)
  case atStart => exact ⟨0, 0, Nat.zero_le _, rfl, rfl, fun _ => rfl, fun e => by omega, rfl⟩
  case round =>
    obtain ⟨n, t, hn, rfl, rfl, hz, hp, rfl⟩ := hrel
    have HZ : Hid (n = 0 → t = 0) := hz
    have HP : Hid (0 < n → (∃ x ∈ D, t = x.u) ∧ ∀ j x, j < n → D[j]? = some x → t ≤ x.u) := hp
    clear hz hp
    by_cases hlt : n < D.length
    · obtain ⟨e0, he0⟩ : ∃ e0, D[n]? = some e0 := ⟨_, List.getElem?_eq_getElem hlt⟩
      obtain ⟨g, c', hv', hg, hbg, hcx⟩ := own_atE HD.out.row he0
      rw [HV.out] at hv'
      obtain ⟨rfl, rfl⟩ : ad = some ⟨g, 0, none⟩ ∧ c = c' := by injection hv' with h1 _ h3; exact ⟨h1, h3⟩
      have cu : wr.cell? ⟨g, n * 18 + 17, none⟩ = some (.int .i64 e0.u) := cE_u17 hcx
      have q1 : decide ((n : Int) < D.length) = true := by simpa using hlt
      have w9 : IntKind.i64.wrap ((n : Int) + 1) = (n : Int) + 1 := wrap_i64 _ ⟨by omega, by omega⟩
      have HN : Hid (n < D.length) := hlt
      have HE0 : Hid (D[n]? = some e0) := he0
      clear hcx hv' he0 hn
      by_cases h0 : n = 0
      · subst h0
        have HNX : Hid ((0 + 1 = 0 → e0.u = 0) ∧ (0 < 0 + 1 → (∃ x ∈ D, e0.u = x.u) ∧ ∀ j x, j < 0 + 1 → D[j]? = some x → e0.u ≤ x.u)) := ⟨fun e => by omega, fun _ => ⟨⟨e0, List.mem_of_getElem? HE0.out, rfl⟩, fun j x hj hx => by
          obtain rfl : j = 0 := by omega
          rw [HE0.out] at hx
          injection hx with hx
          rw [hx]
          exact Int.le_refl _⟩⟩
        go_wp2
        go_roundw
        case rel => exact ⟨1, e0.u, HN.out, rfl, rfl, HNX.out.1, HNX.out.2, trivial⟩
        case measure => show D.length - (0 + 1) < D.length - 0; have := HN.out; omega
      · have q0 : ((n : Int) == 0) = false := by simp; omega
        by_cases hh : e0.u < t
        · have q2 : decide (e0.u < t) = true := decide_eq_true hh
          have HNX : Hid ((n + 1 = 0 → e0.u = 0) ∧ (0 < n + 1 → (∃ x ∈ D, e0.u = x.u) ∧ ∀ j x, j < n + 1 → D[j]? = some x → e0.u ≤ x.u)) := ⟨fun e => by omega, fun _ => ⟨⟨e0, List.mem_of_getElem? HE0.out, rfl⟩, fun j x hj hx => by
            by_cases cj : j = n
            · subst cj
              rw [HE0.out] at hx
              injection hx with hx
              rw [hx]
              exact Int.le_refl _
            · have := (HP.out (by omega)).2 j x (by omega) hx
              omega⟩⟩
          clear hh
          go_wp2
          go_roundw
          case rel => exact ⟨n + 1, e0.u, HN.out, rfl, rfl, HNX.out.1, HNX.out.2, trivial⟩
          case measure => show D.length - (n + 1) < D.length - n; have := HN.out; omega
        · have q2 : decide (e0.u < t) = false := decide_eq_false hh
          have HNX : Hid ((n + 1 = 0 → t = 0) ∧ (0 < n + 1 → (∃ x ∈ D, t = x.u) ∧ ∀ j x, j < n + 1 → D[j]? = some x → t ≤ x.u)) := ⟨fun e => by omega, fun _ => ⟨(HP.out (by omega)).1, fun j x hj hx => by
            by_cases cj : j = n
            · subst cj
              rw [HE0.out] at hx
              injection hx with hx
              rw [← hx]
              omega
            · exact (HP.out (by omega)).2 j x (by omega) hx⟩⟩
          clear hh
          go_wp2
          go_roundw
          case rel => exact ⟨n + 1, t, HN.out, rfl, rfl, HNX.out.1, HNX.out.2, trivial⟩
          case measure => show D.length - (n + 1) < D.length - n; have := HN.out; omega
    · obtain rfl : n = D.length := by omega
      have HF : Hid (NextP D t (decide (0 < D.length))) := by
        by_cases h0 : D.length = 0
        · have hd : D = [] := List.length_eq_zero_iff.1 h0
          refine .inl ⟨hd, HZ.out h0, ?_⟩
          rw [h0]
          rfl
        · refine .inr ⟨decide_eq_true (by omega), (HP.out (by omega)).1, fun x hx => ?_⟩
          obtain ⟨j, hj⟩ := List.getElem?_of_mem hx
          exact (HP.out (by omega)).2 j x (List.getElem?_eq_some_iff.1 hj).1 hj
      have q1 : decide ((D.length : Int) < D.length) = false := decide_eq_false (by omega)
      have c1 := c5H.out
      clear hlt hn
      go_wp2_with fail
      refine wp_region_hi (by kernel_rfl) (by kernel_rfl) ?_
      repeat (first | go_big_quiet_skip | (go_big_quiet_want; go_big_quiet_op; first | go_big_quiet_on | go_big_quiet_call (fail)))
      refine wpQuiet_nil ?_
      intro _ hw
      obtain ⟨yy, rfl⟩ := hw
      go_wp2_with fail
      try go_returns
      exact HQ.out _ _ ⟨t, _, rfl, HF.out, yy.below⟩
theorem SrcE.at {W : World} {v : Value} {S : List PE} (h : SrcE W v S) {j : Nat} {x : PE} (hj : S[j]? = some x) : ∃ g off c, v = .slice (some ⟨g, off, none⟩) S.length c ∧ g < W.heap.size ∧ CellsAt W g (off + j * 18) (eE x) := by
  rcases h with ⟨_, rfl⟩ | ⟨a, c, rfl, hc⟩
  · simp at hj
  · obtain ⟨g, off, s⟩ := a
    have h0 := hc (j * 18 + 0) _ (flat_atE hj 0 _ (List.getElem?_eq_getElem (by rw [eE_len]; omega)))
    have hjl := (List.getElem?_eq_some_iff.1 hj).1
    obtain ⟨x0, hx0⟩ : ∃ x0, S[0]? = some x0 := ⟨_, List.getElem?_eq_getElem (by omega)⟩
    have h00 := hc (0 * 18 + 0) _ (flat_atE hx0 0 _ (List.getElem?_eq_getElem (by rw [eE_len]; omega)))
    have hs : s = none := by simpa [Addr.add] using World.cell?_spot h00
    subst hs
    rw [Go.WideShapes.add_plain] at h0
    refine ⟨g, off, c, rfl, World.block_lt_of_cell? W _ h0, fun i u hi => ?_⟩
    have := hc (j * 18 + i) u (flat_atE hj i u hi)
    rw [Go.WideShapes.add_plain] at this
    rw [Nat.add_assoc]
    exact this
theorem SrcE.slc {W : World} {v : Value} {S : List PE} (h : SrcE W v S) : ∃ a c, v = .slice a S.length c := by
  rcases h with ⟨rfl, rfl⟩ | ⟨a, c, rfl, _⟩
  · exact ⟨_, _, rfl⟩
  · exact ⟨_, _, rfl⟩
set_option maxHeartbeats 1000000 in
set_option maxRecDepth 100000 in
theorem eqPE (d : Nat) {x : PE} (hx : x.Ok) (w : World) : (Op.equalIn (d + 3) 72 (.agg (eE x).toArray) (.agg (eE x).toArray)).run Try.prog w = .ok true w := by
  rw [eE_ok hx]
  have h1 : ∀ W, (Op.equalIn (d + 2) 35 (.agg (u8s x.k).toArray) (.agg (u8s x.k).toArray)).run Try.prog W = .ok true W := fun W => by
    have := eq_arr16 d x.k x.k hx.1 hx.1 hx.2 hx.2 W
    simpa using this
  have hl : (u8s x.k).length = 16 := by rw [u8s_length, hx.2]
  have p1 : (eC x.k x.m x.u).toArray.extract 0 16 = (u8s x.k).toArray := by apply Array.ext'; simp [eC, hl]
  have p2 : (eC x.k x.m x.u).toArray[16]? = some (Value.int .i64 x.m) := by simp [eC, hl]
  have p3 : (eC x.k x.m x.u).toArray[17]? = some (Value.int .i64 x.u) := by simp [eC, hl]
  have h2 : ∀ (n : Int) W, (Op.equalIn (d + 2) 3 (.int .i64 n) (.int .i64 n)).run Try.prog W = .ok true W := fun n W => by simp [Op.equalIn, go_sem]
  generalize (eC x.k x.m x.u).toArray = a at *
  generalize (u8s x.k).toArray = u at *
  have hstd : Try.prog.stoodInHeld 72 = false := by kernel_rfl
  show (Op.equalIn ((d + 2) + 1) _ _ _).run Try.prog w = _
  rw [Op.equalIn]
  generalize Op.equalIn (d + 2) = E at *
  simp [go_sem, hstd, p1, p2, p3, h1, h2]
theorem neqPE {x : PE} (hx : x.Ok) (w : World) : (binOp .neq 72 (.agg (eE x).toArray) (.agg (eE x).toArray)).run Try.prog w = .ok (.bool false) w := by
  have := eqPE 9997 hx w
  simp only [binOp, Op.equal, Op.maxDepth]
  simp [this]
theorem gdPE (b : BinOp) (x y : Operand) (u v : Array Value) (w : World) : (eqGuard b 72 x y (.agg u) (.agg v)).run Try.prog w = .ok () w := by
  have he : Try.prog.eqGuardType Try.prog.depth 72 = false := by kernel_rfl
  cases b <;> simp [eqGuard, go_sem, he]
set_option maxHeartbeats 8000000 in
set_option maxRecDepth 100000 in
theorem RSame_eq {W : World} {a b : Value} {S : List PE} (ha : SrcE W a S) (hb : SrcE W b S) (hok : ∀ x ∈ S, x.Ok) (hlen : S.length ≤ 100000) :
    Calls Try.prog 24 #[a, b] W fun e w' => e = .returned (.bool true) ∧ Below W.heap.size W w' := by
  generalize hQ : (fun (e : Ending) (w' : World) => e = .returned (.bool true) ∧ Below W.heap.size W w') = Q
  have HQ : Hid (∀ e w', (e = .returned (.bool true) ∧ Below W.heap.size W w') → Q e w') := fun e w' hh => by rw [← hQ]; exact hh
  clear hQ
  have HA : Hid (SrcE W a S) := ha
  have HB : Hid (SrcE W b S) := hb
  have HOK : Hid (∀ x ∈ S, x.Ok) := hok
  have HSZ : Hid (S.length ≤ 100000) := hlen
  obtain ⟨aa, ac, hav⟩ := ha.slc
  obtain ⟨ba, bc, hbv⟩ := hb.slc
  have HAV : Hid (a = .slice aa S.length ac) := hav
  have HBV : Hid (b = .slice ba S.length bc) := hbv
  have q0 : ((S.length : Int) != S.length) = false := by simp
  rw [hav, hbv]
  clear ha hb hok hav hbv
  go_enter Try.func24, Try.ntmps24
  go_wp2
  go_loopw [5] (fun i wr => ∃ n : Nat, n ≤ S.length ∧ i = .int .i64 n ∧ Below W.heap.size W wr) (fun i _ => S.length - (intOf i).toNat)
  case atStart => exact ⟨0, Nat.zero_le _, rfl, Below.refl _ _⟩
  case round =>
    obtain ⟨n, hn, rfl, hBk⟩ := hrel
    have HBR : Hid (Below W.heap.size W wr) := hBk
    by_cases hlt : n < S.length
    · obtain ⟨e0, he0⟩ : ∃ e0, S[n]? = some e0 := ⟨_, List.getElem?_eq_getElem hlt⟩
      obtain ⟨g, off, c', hv', hg, hcx⟩ := (HA.out.on hBk).at he0
      obtain ⟨g2, off2, c2, hv2, hg2, hcx2⟩ := (HB.out.on hBk).at he0
      rw [HAV.out] at hv'
      rw [HBV.out] at hv2
      obtain ⟨rfl, rfl⟩ : aa = some ⟨g, off, none⟩ ∧ ac = c' := by injection hv' with h1 _ h3; exact ⟨h1, h3⟩
      obtain ⟨rfl, rfl⟩ : ba = some ⟨g2, off2, none⟩ ∧ bc = c2 := by injection hv2 with h1 _ h3; exact ⟨h1, h3⟩
      have HL1 : Hid (∀ x : Hi wr, (Instr.loadAt 72 (.pointer (some ⟨g, off + n * 18, none⟩))).run Try.prog x.W = .ok (.agg (eE e0).toArray) x.W) := fun x => ld_cE (fun i u hi => (x.below.cell (p := ⟨g, _, none⟩) hg).trans (hcx i u hi))
      have HL2 : Hid (∀ x : Hi wr, (Instr.loadAt 72 (.pointer (some ⟨g2, off2 + n * 18, none⟩))).run Try.prog x.W = .ok (.agg (eE e0).toArray) x.W) := fun x => ld_cE (fun i u hi => (x.below.cell (p := ⟨g2, _, none⟩) hg2).trans (hcx2 i u hi))
      have q1 : decide ((n : Int) < S.length) = true := by simpa using hlt
      have w9 : IntKind.i64.wrap ((n : Int) + 1) = (n : Int) + 1 := wrap_i64 _ ⟨by omega, by omega⟩
      have HN : Hid (n < S.length) := hlt
      have HNQ : Hid (∀ X : World, (binOp .neq 72 (.agg (eE e0).toArray) (.agg (eE e0).toArray)).run Try.prog X = .ok (.bool false) X) := fun X => neqPE (HOK.out e0 (List.mem_of_getElem? he0)) X
      clear hcx hcx2 hv' hv2 hBk he0 hn
      generalize (eE e0).toArray = ev at *
      go_wp2_with fail
      refine wp_region_hi (by kernel_rfl) (by kernel_rfl) ?_
      repeat (first | go_big_quiet_skip | (go_big_quiet_want; refine hi_load (.tmp 19) 72 rfl rfl HL1.out ?_; simp only [Act.put, List.setIfInBounds_toArray, List.set_cons_zero, List.set_cons_succ]; go_big_quiet_on) | (go_big_quiet_want; refine hi_load (.tmp 23) 72 rfl rfl HL2.out ?_; simp only [Act.put, List.setIfInBounds_toArray, List.set_cons_zero, List.set_cons_succ]; go_big_quiet_on) | (go_big_quiet_want; refine hi_binE .neq 72 72 (.tmp 20) (.tmp 24) rfl rfl rfl (fun W => gdPE _ _ _ _ _ W) HNQ.out ?_; simp only [Act.put, List.setIfInBounds_toArray, List.set_cons_zero, List.set_cons_succ]; go_big_quiet_on) | (go_big_quiet_want; go_big_quiet_op; first | go_big_quiet_on | go_big_quiet_call (fail)))
      refine wpQuiet_nil ?_
      intro _ hw
      obtain ⟨yy, rfl⟩ := hw
      go_wp2
      go_roundw
      case rel => exact ⟨n + 1, HN.out, rfl, HBR.out.trans (yy.below.mono HBR.out.size)⟩
      case measure => show S.length - (n + 1) < S.length - n; have := HN.out; omega
    · obtain rfl : n = S.length := by omega
      have q1 : decide ((S.length : Int) < S.length) = false := decide_eq_false (by omega)
      clear hBk hlt hn
      go_wp2
      try go_returns
      exact HQ.out _ _ ⟨rfl, HBR.out⟩
set_option maxHeartbeats 8000000 in
set_option maxRecDepth 100000 in
theorem RNew_good {cf : Cf} (h : cf.Ok) (W : World) : Calls Try.prog 8 #[.agg (cfC cf).toArray] W fun e w' => ∃ rb, e = .returned (.tuple #[.pointer (some ⟨rb, 0, none⟩), .int .i64 0]) ∧ Doc rb cf 0 [] (.slice none 0 0) w' ∧ Below W.heap.size W w' ∧ W.heap.size ≤ rb := by
  generalize hQ : (fun (e : Ending) (w' : World) => ∃ rb, e = .returned (.tuple #[.pointer (some ⟨rb, 0, none⟩), .int .i64 0]) ∧ Doc rb cf 0 [] (.slice none 0 0) w' ∧ Below W.heap.size W w' ∧ W.heap.size ≤ rb) = Q
  have HQ : Hid (∀ e w', (∃ rb, e = .returned (.tuple #[.pointer (some ⟨rb, 0, none⟩), .int .i64 0]) ∧ Doc rb cf 0 [] (.slice none 0 0) w' ∧ Below W.heap.size W w' ∧ W.heap.size ≤ rb) → Q e w') := fun e w' hh => by rw [← hQ]; exact hh
  clear hQ
  obtain ⟨⟨h1, h2⟩, ⟨h3, h4⟩, h5, ⟨h6, h7⟩⟩ := h
  obtain ⟨lim, link, life, least⟩ := cf
  simp only at h1 h2 h3 h4 h5 h6 h7
  have q0_0 : decide (lim < 1) = false := decide_eq_false (by omega)
  have q1_0 : decide (lim > 4096) = false := decide_eq_false (by omega)
  have q1_1 : decide (4096 < lim) = false := decide_eq_false (by omega)
  have q2_0 : decide (least < 68) = false := decide_eq_false (by omega)
  have q3_0 : decide (least > 65535) = false := decide_eq_false (by omega)
  have q3_1 : decide (65535 < least) = false := decide_eq_false (by omega)
  have q4_0 : decide (link < least) = false := decide_eq_false (by omega)
  have q5_0 : decide (link > 65535) = false := decide_eq_false (by omega)
  have q5_1 : decide (65535 < link) = false := decide_eq_false (by omega)
  have q6_0 : decide (life < 1) = false := decide_eq_false (by omega)
  have q7_0 : decide (life > 2147483648) = false := decide_eq_false (by omega)
  have q7_1 : decide (2147483648 < life) = false := decide_eq_false (by omega)
  have HB1 : Hid (Below W.heap.size W (W.alloc (.cells (cfC ⟨lim, link, life, least⟩).toArray 23))) := (Below.refl W.heap.size W).alloc (Nat.le_refl _) _
  have hx : (W.alloc (.cells (cfC ⟨lim, link, life, least⟩).toArray 23)).heap[W.heap.size]? = some (.cells (cfC ⟨lim, link, life, least⟩).toArray 23) := blk_new W _
  obtain ⟨W1, hW1⟩ : ∃ W1, W1 = W.alloc (.cells (cfC ⟨lim, link, life, least⟩).toArray 23) := ⟨_, rfl⟩
  rw [← hW1] at HB1 hx
  have hW := hW1.symm
  have c0 : W1.cell? ⟨W.heap.size, 0, none⟩ = some (.int .i64 lim) := blk_cell (j := 0) hx rfl
  have c1 : W1.cell? ⟨W.heap.size, 1, none⟩ = some (.int .i64 link) := blk_cell (j := 1) hx rfl
  have c2 : W1.cell? ⟨W.heap.size, 2, none⟩ = some (.int .i64 life) := blk_cell (j := 2) hx rfl
  have c3 : W1.cell? ⟨W.heap.size, 3, none⟩ = some (.int .i64 least) := blk_cell (j := 3) hx rfl
  have HF : Hid (Doc W1.heap.size ⟨lim, link, life, least⟩ 0 [] (.slice none 0 0) (W1.alloc (.cells #[.int .i64 lim, .int .i64 link, .int .i64 life, .int .i64 least, .int .i64 0, .slice none 0 0] 45)) ∧ Below W.heap.size W (W1.alloc (.cells #[.int .i64 lim, .int .i64 link, .int .i64 life, .int .i64 least, .int .i64 0, .slice none 0 0] 45))) := ⟨⟨blk_new W1 _, ⟨rfl, .inl ⟨rfl, rfl⟩⟩, fun x hx => by simp at hx⟩, HB1.out.alloc HB1.out.size _⟩
  unfold cfC at hW ⊢
  clear hW1 hx h1 h2 h3 h4 h5 h6 h7
  go_enter Try.func8, Try.ntmps8
  go_wp2
  all_goals (try go_returns)
  all_goals exact HQ.out _ _ ⟨W1.heap.size, rfl, HF.out.1, HF.out.2, HB1.out.size⟩
set_option maxHeartbeats 8000000 in
set_option maxRecDepth 100000 in
theorem RNew_bad {cf : Cf} (h : ¬ cf.Ok) (W : World) : Calls Try.prog 8 #[.agg (cfC cf).toArray] W fun e w' => e = .returned (.tuple #[.pointer none, .int .i64 160]) ∧ Below W.heap.size W w' := by
  obtain ⟨lim, link, life, least⟩ := cf
  have HB : Hid (Below W.heap.size W (W.alloc (.cells (cfC ⟨lim, link, life, least⟩).toArray 23))) := (Below.refl W.heap.size W).alloc (Nat.le_refl _) _
  have HH : Hid (¬ ((1 ≤ lim ∧ lim ≤ 4096) ∧ (1 ≤ life ∧ life ≤ 2147483648) ∧ 68 ≤ least ∧ least ≤ link ∧ link ≤ 65535)) := fun e => h ⟨e.1, e.2.1, e.2.2.1, e.2.2.2⟩
  clear h
  unfold cfC at *
  by_cases c0 : lim < 1
  · have z : True := trivial
    have q0_0 : decide (lim < 1) = true := decide_eq_true (by omega)
    clear c0
    go_enter Try.func8, Try.ntmps8
    go_wp2_with fail
    try go_returns
    exact ⟨rfl, HB.out⟩
  have q0_0 : decide (lim < 1) = false := decide_eq_false (by omega)
  by_cases c1 : lim > 4096
  · have z : True := trivial
    have q1_0 : decide (lim > 4096) = true := decide_eq_true (by omega)
    have q1_1 : decide (4096 < lim) = true := decide_eq_true (by omega)
    clear c0 c1
    go_enter Try.func8, Try.ntmps8
    go_wp2_with fail
    try go_returns
    exact ⟨rfl, HB.out⟩
  have q1_0 : decide (lim > 4096) = false := decide_eq_false (by omega)
  have q1_1 : decide (4096 < lim) = false := decide_eq_false (by omega)
  by_cases c2 : least < 68
  · have z : True := trivial
    have q2_0 : decide (least < 68) = true := decide_eq_true (by omega)
    clear c0 c1 c2
    go_enter Try.func8, Try.ntmps8
    go_wp2_with fail
    try go_returns
    exact ⟨rfl, HB.out⟩
  have q2_0 : decide (least < 68) = false := decide_eq_false (by omega)
  by_cases c3 : least > 65535
  · have z : True := trivial
    have q3_0 : decide (least > 65535) = true := decide_eq_true (by omega)
    have q3_1 : decide (65535 < least) = true := decide_eq_true (by omega)
    clear c0 c1 c2 c3
    go_enter Try.func8, Try.ntmps8
    go_wp2_with fail
    try go_returns
    exact ⟨rfl, HB.out⟩
  have q3_0 : decide (least > 65535) = false := decide_eq_false (by omega)
  have q3_1 : decide (65535 < least) = false := decide_eq_false (by omega)
  by_cases c4 : link < least
  · have z : True := trivial
    have q4_0 : decide (link < least) = true := decide_eq_true (by omega)
    clear c0 c1 c2 c3 c4
    go_enter Try.func8, Try.ntmps8
    go_wp2_with fail
    try go_returns
    exact ⟨rfl, HB.out⟩
  have q4_0 : decide (link < least) = false := decide_eq_false (by omega)
  by_cases c5 : link > 65535
  · have z : True := trivial
    have q5_0 : decide (link > 65535) = true := decide_eq_true (by omega)
    have q5_1 : decide (65535 < link) = true := decide_eq_true (by omega)
    clear c0 c1 c2 c3 c4 c5
    go_enter Try.func8, Try.ntmps8
    go_wp2_with fail
    try go_returns
    exact ⟨rfl, HB.out⟩
  have q5_0 : decide (link > 65535) = false := decide_eq_false (by omega)
  have q5_1 : decide (65535 < link) = false := decide_eq_false (by omega)
  by_cases c6 : life < 1
  · have z : True := trivial
    have q6_0 : decide (life < 1) = true := decide_eq_true (by omega)
    clear c0 c1 c2 c3 c4 c5 c6
    go_enter Try.func8, Try.ntmps8
    go_wp2_with fail
    try go_returns
    exact ⟨rfl, HB.out⟩
  have q6_0 : decide (life < 1) = false := decide_eq_false (by omega)
  by_cases c7 : life > 2147483648
  · have z : True := trivial
    have q7_0 : decide (life > 2147483648) = true := decide_eq_true (by omega)
    have q7_1 : decide (2147483648 < life) = true := decide_eq_true (by omega)
    clear c0 c1 c2 c3 c4 c5 c6 c7
    go_enter Try.func8, Try.ntmps8
    go_wp2_with fail
    try go_returns
    exact ⟨rfl, HB.out⟩
  have q7_0 : decide (life > 2147483648) = false := decide_eq_false (by omega)
  have q7_1 : decide (2147483648 < life) = false := decide_eq_false (by omega)
  exact absurd ⟨⟨by omega, by omega⟩, ⟨by omega, by omega⟩, by omega, by omega, by omega⟩ HH.out
end Go.Proofs.Ytgndiblonhgihaa
