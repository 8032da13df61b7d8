/-
  The statement SplitsixFew.
-/
import Derived.Test.YtcllcinekohklaaXe1
namespace Go.Proofs.Ytcllcinekohklaa
open Go Go.RowKit
set_option linter.unusedVariables false
set_option linter.unusedSimpArgs false

open Go.ChangeShapes Go.WideShapes Go.ChangeAt
section
variable {S : Nat → Prop} {w : World} {f : F6} {vh vb : Value} {hs : Opts} {body : List Int}
theorem RCheck_any (g : G6) (h : D6 S w f vh vb hs body) : Calls Try.prog 41 #[VV f g vh vb] w fun e w' => e = .returned (.int .i64 (ckE f hs g body.length)) ∧ Below w.heap.size w w' := by
  refine (RCheck_calls w (vC_l6 h.hd.one h.bd.one) hs h.hd.opts body h.bd.row.bytes).mono ?_
  rintro e w' ⟨er, rfl, hc, hb⟩
  rw [ck_eq hc]
  exact ⟨rfl, hb⟩
theorem RSize_any (g : G6) (h : D6 S w f vh vb hs body) : Calls Try.prog 21 #[VV f g vh vb] w fun e w' => e = .returned (.tuple #[.int .i64 (if ckE f hs g body.length = 0 then ahead6 hs g.fr + body.length else 0), .int .i64 (if ckE f hs g body.length = 0 then ahead6 hs g.fr else 0), .int .i64 (ckE f hs g body.length)]) ∧ Below w.heap.size w w' := by
  refine (RSize_calls w (vC_l6 h.hd.one h.bd.one) hs h.hd.opts body h.bd.row.bytes).mono ?_
  rintro e w' ⟨er, rfl, hc, hb⟩
  rw [ck_eq hc]
  exact ⟨rfl, hb⟩
end
theorem RSize_ok {S : Nat → Prop} {w : World} {f : F6} {vh vb : Value} {hs : Opts} {body : List Int} {g : G6} (h : D6 S w f vh vb hs body) (hc : ckE f hs g body.length = 0) {n : Nat} (hn : ahead6 hs g.fr + body.length = n) : Calls Try.prog 21 #[VV f g vh vb] w fun e w' => e = .returned (.tuple #[.int .i64 n, .int .i64 (ahead6 hs g.fr), .int .i64 0]) ∧ Below w.heap.size w w' := by
  have := RSize_any g h
  rw [hc, if_pos rfl, if_pos rfl] at this
  rw [show (ahead6 hs g.fr : Int) + (body.length : Int) = (n : Int) by omega] at this
  exact this
theorem fragP_err {f : F6} {hs : Opts} {g : G6} {body : List Int} {mtu id er : Int} (h : (fragP f hs g body mtu id).2 = some er) : er ≠ 0 := by
  unfold fragP at h
  by_cases h1 : fitE f hs g body.length mtu ≠ 0
  · rw [if_pos h1] at h
    injection h with h
    rw [← h]; exact h1
  rw [if_neg h1] at h
  by_cases h2 : fitB hs g body.length mtu = true
  · rw [if_pos h2] at h
    cases h
  rw [if_neg h2] at h
  by_cases h3 : g.more = true ∧ body.length % 8 ≠ 0
  · rw [if_pos h3] at h
    injection h with h
    omega
  rw [if_neg h3] at h
  by_cases h4 : mtu < (ahead6 hs true : Int) + 8
  · rw [if_pos h4] at h
    injection h with h
    omega
  rw [if_neg h4] at h
  have : ∀ (sp nn : Nat) (g : G6) (n : Nat) (off : Int) (b : List Int), (frs sp nn g n off b).2 = some er → er = 5 := by
    intro sp nn g n
    induction n with
    | zero => intro off b h; cases h
    | succ n ih =>
      intro off b h
      simp only [frs] at h
      split at h
      · cases h
      · split at h
        · exact ih _ _ h
        · injection h with h
          exact h.symm
  have := this _ _ _ _ _ _ h
  omega
/-- A fragment in its row: what lies there, in every world above. -/
theorem row_at {f : F6} {hs : Opts} {base : Nat} {S : Nat → Prop} {w : World} {a : Option Addr} {c : Nat} {L : List FG} (h : RowV f hs base S w (.slice a L.length c) L) {k : Nat} {x : FG} (hg : L[k]? = some x) :
    ∃ b vh vb a1 c1, a = some ⟨b, 0, none⟩ ∧ b < w.heap.size ∧ base ≤ b ∧ vb = .slice a1 x.body.length c1 ∧ D6 S w f vh vb hs x.body ∧ ∀ W, Below w.heap.size w W → (Instr.loadAt 28 (.pointer (some ⟨b, k * 42, none⟩))).run Try.prog W = .ok (VV f x.g vh vb) W ∧ W.cell? ⟨b, k * 42 + 37, none⟩ = some (.int .u32 x.g.id) ∧ W.cell? ⟨b, k * 42 + 38, none⟩ = some (.int .i64 x.g.off) ∧ W.cell? ⟨b, k * 42 + 39, none⟩ = some (.bool x.g.more) ∧ W.cell? ⟨b, k * 42 + 41, none⟩ = some vb := by
  obtain ⟨b, c', vh, vb, e, lt, hba, ca, hd⟩ := h.at hg
  injection e with e _ _
  obtain ⟨_, _, a1, c1, e1, _⟩ := hd.bd.row
  refine ⟨b, vh, vb, a1, c1, e, lt, hba, e1, hd, fun W hW => ?_⟩
  have ca' := CellsAt.up ca lt ⟨W, hW⟩
  exact ⟨agg_load Try.isAgg28 Try.sizeOf28 vC_len ca', ca' 37 _ (vC_at 2), ca' 38 _ (vC_at 3), ca' 39 _ (vC_at 4), ca' 41 _ (vC_at 6)⟩

section
variable (f : F6) (g : G6) (vh vb : Value) (hs : Opts) (body : List Int) (mtu id : Int) (w : World)
set_option maxHeartbeats 4000000 in
set_option maxRecDepth 100000 in
theorem splitsixFew_walk (h : D6 (fun b => b < w.heap.size) w f vh vb hs body) (hmt : -9223372036854775808 ≤ mtu ∧ mtu ≤ 9223372036854775807) :
    Calls Try.prog 6 #[VV f g vh vb, .int .i64 mtu, .int .u32 id] w fun e w' => e = .returned (.bool true) ∧ Below w.heap.size w w' := by
  obtain ⟨w0, hw0⟩ : ∃ w0, w0 = w.alloc (BV f g vh vb) := ⟨_, rfl⟩
  have hb0 : w0.heap[w.heap.size]? = some (BV f g vh vb) := by rw [hw0]; exact blk_new w (BV f g vh vb)
  have hB0 : Below w.heap.size w w0 := by rw [hw0]; exact (Below.refl w.heap.size w).alloc (Nat.le_refl _) (BV f g vh vb)
  have HB0 : Hid (w0.heap[w.heap.size]? = some (BV f g vh vb)) := hb0
  have HBB : Hid (Below w.heap.size w w0) := hB0
  have HD : Hid (D6 (fun b => b < w.heap.size) w f vh vb hs body) := h
  have HAW : Hid (∀ X, Calls Try.prog 15 #[] X fun e w' => e = .returned (.bool true) ∧ Below X.heap.size X w') := fun X => awake_calls X
  have hW := hw0.symm
  clear hb0 hB0 h hw0
  go_enter Try.func6, Try.ntmps6
  go_wp2_with fail
  refine Calls.mono (HAW.out _) ?_
  rintro e w1 ⟨rfl, hb1⟩
  have HLD : Hid _ := vb_load (blk_on HB0.out hb1)
  have hB1 : Below w.heap.size w w1 := HBB.out.trans (hb1.mono HBB.out.size)
  have HB1 : Hid (Below w.heap.size w w1) := hB1
  have hD1 := HD.out.on hB1
  clear hb1 HB0 HBB HAW hW
  cases he : (fragP f hs g body mtu id).2 with
  | none =>
    have HSP : Hid _ := Split_yes g mtu id hD1 he
    obtain ⟨HOK, hbod, hNp, hk0, hm1, hm2⟩ := fragP_all he
    have HFO : Hid _ := HOK
    have HLL : Hid _ := fragP_len f hs g body mtu id
    clear HOK hbod hk0 hD1 he hB1
    generalize (fragP f hs g body mtu id).1 = L at *
    go_wp2_with first
      | ((with_reducible show wpList _ _ _ ({ dst := _, op := Op.load 28 (Operand.tmp 3), type := _, pos := _, after := _, guard := _ } :: _) _ _); refine armL (.tmp 3) 28 rfl rfl rfl HLD.out ?_)
    refine Calls.mono HSP.out ?_
    rintro e X1 ⟨v1, rfl, hr1, hX1⟩
    obtain ⟨a1, c1, e1⟩ := hr1.slc
    subst e1
    have HR : Hid (RowV f hs w1.heap.size (fun b => w1.heap.size ≤ b) X1 (.slice a1 L.length c1) L) := hr1
    have HX1 : Hid (Below w.heap.size w X1) := HB1.out.trans (hX1.mono HB1.out.size)
    obtain ⟨N1, hN⟩ : ∃ N1, L.length = N1 + 1 := ⟨L.length - 1, by omega⟩
    have HN : Hid _ := hN
    rw [hN]
    obtain ⟨m, rfl⟩ : ∃ m : Nat, mtu = m := ⟨mtu.toNat, by omega⟩
    have hN1 : N1 ≤ 1000000000 := by have := HLL.out; omega
    clear hN hNp hr1 hX1 HSP HLD
    have w30 : IntKind.i64.wrap (((N1 + 1 : Nat) : Int) - 1) = (N1 : Int) := by rw [show ((N1 + 1 : Nat) : Int) - 1 = (N1 : Int) by omega]; exact wrapi64 _ (by omega)
    generalize hNN : N1 + 1 = N at *
    have HNN : Hid _ := hNN
    clear hNN
    go_wp2_with fail
    go_loopw [9] (fun i wr => ∃ k : Nat, k ≤ N1 ∧ i = .int .i64 k ∧ Below X1.heap.size X1 wr) (fun i _ => N1 - (intOf i).toNat)
    case atStart => exact ⟨0, Nat.zero_le _, rfl, Below.refl _ _⟩
    case round =>
      obtain ⟨k, hk, rfl, hBw⟩ := hrel
      by_cases hlt : k < N1
      · obtain ⟨x, hg⟩ : ∃ x, L[k]? = some x := ⟨L[k]'(by rw [HN.out]; have := HNN.out; omega), by simp⟩
        obtain ⟨bk, vhg, vbg, ag, cg, ea, hbk, _, esb, hd, hat⟩ := row_at HR.out hg
        subst ea
        subst esb
        have hok := HFO.out k x hg
        obtain ⟨m1, m2, m3⟩ := hok.mid (by rw [HN.out]; have := HNN.out; omega)
        have hfit := hok.fit
        have HLV : Hid _ := (hat _ hBw).1
        obtain ⟨sz, hsz⟩ : ∃ sz : Nat, ahead6 hs x.g.fr + x.body.length = sz := ⟨_, rfl⟩
        have HSZ : Hid _ := RSize_ok (hd.on hBw) hok.ck hsz
        rw [hsz] at m3 hfit
        have hki : (k : Int) < (N1 : Int) := by omega
        have hkN : k < N := by have := HNN.out; omega
        have HAT : Hid _ := hat
        have HBW : Hid (Below X1.heap.size X1 wr) := hBw
        clear hat hok hd hsz m1 hBw
        go_wp2_with first
          | ((with_reducible show wpList _ _ _ ({ dst := _, op := Op.load 28 (Operand.tmp 37), type := _, pos := _, after := _, guard := _ } :: _) _ _); refine armL (.tmp 37) 28 rfl rfl rfl HLV.out ?_)
        refine Calls.mono HSZ.out ?_
        rintro e w5 ⟨rfl, hb5⟩
        have HB5 : Hid (Below X1.heap.size X1 w5) := HBW.out.trans (hb5.mono HBW.out.size)
        have g41 := (HAT.out _ HB5.out).2.2.2.2
        have q1 : ¬ m < sz := by omega
        have q1' : decide ((m : Int) < (sz : Int)) = false := by simp; omega
        obtain ⟨qd, hqd⟩ : ∃ qd : Nat, (m : Int) - (sz : Int) = (qd : Int) := ⟨m - sz, by omega⟩
        have w53 : IntKind.i64.wrap ((m : Int) - (sz : Int)) = (qd : Int) := by rw [hqd]; exact wrapi64 _ (by omega)
        have q8n : ¬ 8 ≤ qd := by omega
        have q91e : (x.body.length : Int) % 8 = 0 := by omega
        have q91 : ((x.body.length : Int) % 8 != 0) = false := by simp [q91e]
        clear q91e
        clear hb5 HSZ HLV HAT m2 m3 hfit hqd
        generalize x.body.length = nb at *
        go_wp2
        exact ⟨⟨k + 1, by omega, by simp, HB5.out⟩, by simp [intOf]; omega⟩
      · obtain rfl : k = N1 := by omega
        have HBE : Hid (Below w.heap.size w wr) := HX1.out.trans (hBw.mono HX1.out.size)
        have hNp : 0 < N := by have := HNN.out; omega
        clear hBw
        go_wp2
        go_ret
        exact ⟨rfl, HBE.out⟩
  | some er =>
    have HSP : Hid _ := Split_no g mtu id hD1 er he
    have hne := fragP_err he
    have q1 : (er != 0) = true := by simpa using hne
    clear hne hD1 he hB1
    go_wp2_with first
      | ((with_reducible show wpList _ _ _ ({ dst := _, op := Op.load 28 (Operand.tmp 3), type := _, pos := _, after := _, guard := _ } :: _) _ _); refine armL (.tmp 3) 28 rfl rfl rfl HLD.out ?_)
    refine Calls.mono HSP.out ?_
    rintro e X1 ⟨rfl, hX1⟩
    have HX1 : Hid (Below w.heap.size w X1) := HB1.out.trans (hX1.mono HB1.out.size)
    clear hX1 HSP HLD
    go_wp2
    go_ret
    exact ⟨rfl, HX1.out⟩
end
theorem splitsixFew_open {H : Type} {enc : TypeId × Value → H} {W : World} {base : Nat} (v0 v1 v2 : Value) {d0 d1 d2 : DataW H} {p0 p1 p2 : List MemPlace}
    (o0 : Value.okWide Try.prog W .any base 28 v0) (h0 : DataW.Trod enc Try.prog W 0 (fun _ => true) true 28 v0 d0 p0) (z0 : ∀ k ∈ d0.weights Try.prog 28, k ≤ reachBytes)
    (o1 : Value.okWide Try.prog W .any base 3 v1) (h1 : DataW.Trod enc Try.prog W 0 (fun _ => true) true 3 v1 d1 p1) (z1 : ∀ k ∈ d1.weights Try.prog 3, k ≤ reachBytes)
    (o2 : Value.okWide Try.prog W .any base 22 v2) (h2 : DataW.Trod enc Try.prog W 0 (fun _ => true) true 22 v2 d2 p2) (z2 : ∀ k ∈ d2.weights Try.prog 22, k ≤ reachBytes) :
    Calls Try.prog 6 #[v0, v1, v2] W fun e w' => e = .returned (.bool true) ∧ Below W.heap.size W w' := by
  obtain ⟨f, g, vh, vb, hs, body, rfl, hd, _⟩ := open_v6 h0 z0
  obtain ⟨k, rfl, _, _, wk⟩ := open_int Try.underlying3 o1 h1
  obtain ⟨i, rfl, _, _, wi⟩ := open_int Try.underlying22 o2 h2
  exact splitsixFew_walk f g vh vb hs body k i W hd (bounds_i64 wk)

end Go.Proofs.Ytcllcinekohklaa
