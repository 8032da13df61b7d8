/-
  A cache in a world that goes on: what its calls leave.
  awake.
-/
import Derived.Test.YtgndiblonhgihaaFold21
namespace Go.Proofs.Ytgndiblonhgihaa
open Go Go.RowKit Go.Lib
set_option linter.unusedVariables false
set_option linter.unusedSimpArgs false

/-- What a call on a cache leaves of all else: blocks of other types. -/
structure TF (W W' : World) : Prop where
  size : W.heap.size ≤ W'.heap.size
  keep : ∀ (k : Nat) (c : Array Value) (ty : TypeId), W.heap[k]? = some (.cells c ty) → ty ≠ 64 → ty ≠ 74 → W'.heap[k]? = some (.cells c ty)
theorem TF.refl (W : World) : TF W W := ⟨Nat.le_refl _, fun _ _ _ h _ _ => h⟩
theorem TF.trans {A B C : World} (h : TF A B) (g : TF B C) : TF A C := ⟨Nat.le_trans h.size g.size, fun k c ty a b d => g.keep k c ty (h.keep k c ty a b d) b d⟩
theorem TF.below {W W' : World} (h : Below W.heap.size W W') : TF W W' := ⟨h.size, fun k c ty a _ _ => (h.block k (Array.getElem?_eq_some_iff.1 a).1).trans a⟩
theorem Keeps.ty {pb mb : Nat} {cf : Cf} {now : Int} {line : Value} {L : List (PE × Nat)} {W : World} (h : Keeps pb cf now mb line L W) {k : Nat} {c : Array Value} {ty : TypeId} (hk : W.heap[k]? = some (.cells c ty)) (h1 : ty ≠ 64) (h2 : ty ≠ 74) : k ≠ pb ∧ k ≠ mb ∧ line.ownBlock ≠ some k := by
  refine ⟨fun e => ?_, fun e => ?_, fun e => ?_⟩
  · have := h.p.box
    rw [← e, hk] at this
    simp at this
    exact h1 this.2
  · obtain ⟨M, ⟨es, n, g, _⟩, _⟩ := h.m
    rw [← e, hk] at g
    simp at g
  · rcases h.p.row.2 with ⟨rfl, _⟩ | ⟨g, cap, cur, rfl, _, g2, _⟩
    · simp [Value.ownBlock] at e
    · simp [Value.ownBlock] at e
      rw [e, hk] at g2
      simp at g2
      exact h2 g2.2
theorem Fr.tf {pb mb : Nat} {cf : Cf} {now : Int} {line : Value} {L : List (PE × Nat)} {W W' : World} (h : Keeps pb cf now mb line L W) (f : Fr pb mb line W W') : TF W W' :=
  ⟨f.size, fun k c ty a b d => by
    obtain ⟨n1, n2, n3⟩ := h.ty a b d
    exact (f.other k (Array.getElem?_eq_some_iff.1 a).1 n1 n2 n3).trans a⟩
theorem Fr.low {pb mb B : Nat} {line : Value} {W0 W W' : World} (f : Fr pb mb line W W') (h1 : B ≤ pb) (h2 : B ≤ mb) (h3 : ∀ g, line.ownBlock = some g → B ≤ g) (hb : Below B W0 W) (hB : B ≤ W0.heap.size) : Below B W0 W' := by
  have := hb.size
  exact ⟨f.os.trans hb.os, f.tape.trans hb.tape, f.output.trans hb.output, Nat.le_trans hb.size f.size, fun k hk => (f.other k (by omega) (by omega) (by omega) (fun e => by have := h3 k e; omega)).trans (hb.block k hk)⟩
theorem KN.live {L : List (PE × Nat)} (h : KN L) (t : Int) : KN (live L t) := h.sub (live_sub L t)
theorem room_sub (L : List (PE × Nat)) (d : List Int) (lim : Int) : (roomL L d lim).Sublist L := by
  unfold roomL
  split
  · exact List.drop_sublist _ _
  · unfold lackL; exact List.filter_sublist
theorem room_sort {L : List (PE × Nat)} (h : SortE L) (d : List Int) (lim : Int) (hn : KN L) : SortE (roomL L d lim) := by
  unfold roomL
  split
  · exact h.drop 1
  · exact h.sub d hn
theorem room_no (L : List (PE × Nat)) (d : List Int) (lim : Int) : ∀ x ∈ roomL L d lim, x.1.k ≠ d := by
  unfold roomL
  split
  · rename_i h
    intro x hx e
    have hh := h.1
    unfold hasL at hh
    rw [List.any_eq_false] at hh
    exact hh x (List.mem_of_mem_drop hx) (by simp [e])
  · intro x hx
    unfold lackL at hx
    rw [List.mem_filter] at hx
    simpa using hx.2
/-- A cache: its blocks lie above B, below which all is as in W0. -/
structure Cch (B : Nat) (W0 W : World) (p pb mb : Nat) (cf : Cf) (now : Int) (L : List (PE × Nat)) : Prop where
  bx : Box W p pb
  k : ∃ line, Keeps pb cf now mb line L W ∧ ∀ g, line.ownBlock = some g → B ≤ g
  st : SortE L
  lo : B ≤ p ∧ B ≤ pb ∧ B ≤ mb
  bl : Below B W0 W
  le : B ≤ W0.heap.size
theorem Cch.on {B : Nat} {W0 W W' : World} {p pb mb : Nat} {cf : Cf} {now : Int} {L : List (PE × Nat)} (h : Cch B W0 W p pb mb cf now L) (hb : Below W.heap.size W W') : Cch B W0 W' p pb mb cf now L := by
  obtain ⟨line, hk, hl⟩ := h.k
  have hz := h.bl.size
  have hy := h.le
  exact ⟨h.bx.on (hb.block _ h.bx.lt), ⟨line, hk.on hb, hl⟩, h.st, h.lo, h.bl.trans (hb.mono (by omega)), h.le⟩
/-- A cache, in a world that goes on below. -/
theorem Cch.get {B : Nat} {W0 V : World} {p pb mb : Nat} {cf : Cf} {now : Int} {L : List (PE × Nat)} (h : Cch B W0 V p pb mb cf now L) (hl : L.length ≤ 1000000) {t : Int} (ht : okT now t) {d : List Int} (hd : K16 d) :
    Calls Try.prog 13 #[.pointer (some ⟨p, 0, none⟩), .int .i64 t, .agg (u8s d).toArray] V fun e w' => e = .returned (.tuple #[.int .i64 (mtuL cf (live L t) d), .int .i64 0]) ∧ Cch B W0 w' p pb mb cf t (live L t) ∧ TF V w' := by
  obtain ⟨line, hk, hlb⟩ := h.k
  refine (get_yes h.bx hk h.st hl ht hd).mono ?_
  rintro e w' ⟨rfl, hx, line', k', lb', f⟩
  exact ⟨rfl, ⟨hx, ⟨line', k', by rw [lb']; exact hlb⟩, h.st.live t, h.lo, f.low h.lo.2.1 h.lo.2.2 hlb h.bl h.le, h.le⟩, f.tf hk⟩
theorem Cch.keep {B : Nat} {W0 V : World} {p pb mb : Nat} {cf : Cf} {now : Int} {L : List (PE × Nat)} (h : Cch B W0 V p pb mb cf now L) (hl : L.length ≤ 1000000) {t : Int} (ht : okT now t) {d : List Int} (hd : K16 d) {z : Int} (hz : 0 ≤ z ∧ z ≤ 65535) (hm : mtuL cf (live L t) d ≤ max z cf.least) :
    Calls Try.prog 15 #[.pointer (some ⟨p, 0, none⟩), .int .i64 t, .agg (u8s d).toArray, .int .i64 z] V fun e w' => e = .returned (.tuple #[.bool false, .int .i64 0]) ∧ Cch B W0 w' p pb mb cf t (live L t) ∧ TF V w' := by
  obtain ⟨line, hk, hlb⟩ := h.k
  refine (told_keep h.bx hk h.st hl ht hd hz hm).mono ?_
  rintro e w' ⟨rfl, hx, line', k', lb', f⟩
  exact ⟨rfl, ⟨hx, ⟨line', k', by rw [lb']; exact hlb⟩, h.st.live t, h.lo, f.low h.lo.2.1 h.lo.2.2 hlb h.bl h.le, h.le⟩, f.tf hk⟩
theorem Cch.told {B : Nat} {W0 V : World} {p pb mb : Nat} {cf : Cf} {now : Int} {L : List (PE × Nat)} (h : Cch B W0 V p pb mb cf now L) (hl : L.length ≤ 1000000) {t : Int} (ht : okT now t) {d : List Int} (hd : K16 d) {z : Int} (hz : 0 ≤ z ∧ z ≤ 65535) (hcf : cf.Ok) (hI : ∀ b k, Stands (roomL (live L t) d cf.lim) (⟨d, max z cf.least, (min (t + cf.life) 1099511627776)⟩, b) k → InsK (roomL (live L t) d cf.lim).length k) (hm : max z cf.least < mtuL cf (live L t) d) (hnow : 0 ≤ now) :
    Calls Try.prog 15 #[.pointer (some ⟨p, 0, none⟩), .int .i64 t, .agg (u8s d).toArray, .int .i64 z] V fun e w' => e = .returned (.tuple #[.bool true, .int .i64 0]) ∧ (∃ b k, Stands (roomL (live L t) d cf.lim) (⟨d, max z cf.least, (min (t + cf.life) 1099511627776)⟩, b) k ∧ Cch B W0 w' p pb mb cf t (putK (roomL (live L t) d cf.lim) k (⟨d, max z cf.least, (min (t + cf.life) 1099511627776)⟩, b))) ∧ TF V w' := by
  obtain ⟨line, hk, hlb⟩ := h.k
  have hzz := h.bl.size
  have hle := h.le
  refine (told_yes h.bx hk h.st hl ht hd hz hcf hI hm hnow).mono ?_
  rintro e w' ⟨rfl, hx, b, k, line', hs, k', lb', f⟩
  refine ⟨rfl, ⟨b, k, hs, hx, ⟨line', k', ?_⟩, ?_, h.lo, f.low h.lo.2.1 h.lo.2.2 hlb h.bl h.le, h.le⟩, f.tf hk⟩
  · rcases lb' with e | e
    · rw [e]; exact hlb
    · exact fun g hg => by have := e g hg; omega
  · exact (room_sort (h.st.live t) d cf.lim (hk.kn.live t)).put hs (room_no _ d cf.lim)
theorem New_cch {cf : Cf} (h : cf.Ok) (W : World) : Calls Try.prog 7 #[.agg (cfC cf).toArray] W fun e w' => ∃ p pb mb, e = .returned (.tuple #[.pointer (some ⟨p, 0, none⟩), .int .i64 0]) ∧ Cch W.heap.size W w' p pb mb cf 0 [] := by
  refine (New_good h W).mono ?_
  rintro e w' ⟨p, pb, mb, rfl, hbx, hk, hb, hp, hpb, hmb⟩
  exact ⟨p, pb, mb, rfl, hbx, ⟨_, hk, fun g hg => by simp [Value.ownBlock] at hg⟩, SortE.nil, ⟨hp, hpb, hmb⟩, hb, Nat.le_refl _⟩
end Go.Proofs.Ytgndiblonhgihaa

namespace Go.Proofs.Ytgndiblonhgihaa
open Go Go.RowKit Go.Lib
set_option linter.unusedVariables false
set_option linter.unusedSimpArgs false

theorem at_A {W : World} {b : Nat} {d : List Int} (hl : d.length = 16) (h : W.heap[b]? = some (.cells (u8s d).toArray 35)) : (Instr.loadAt 35 (.pointer (some ⟨b, 0, none⟩))).run Try.prog W = .ok (.agg (u8s d).toArray) W :=
  load6 hl (CellsAt.blkP (c := u8s d) (t := 35) h)
theorem TF.box {W W' : World} (f : TF W W') {b : Nat} {d : List Int} (h : W.heap[b]? = some (.cells (u8s d).toArray 35)) : W'.heap[b]? = some (.cells (u8s d).toArray 35) :=
  f.keep b _ _ h (by decide) (by decide)
theorem putK_nil (k : Nat) (y : PE × Nat) : putK [] k y = [y] := by
  unfold putK
  simp
theorem mtu_one (cf : Cf) (e : PE) (b : Nat) : mtuL cf [(e, b)] e.k = e.m := by
  unfold mtuL
  simp
set_option maxHeartbeats 4000000 in
set_option maxRecDepth 100000 in
theorem awake_any (W : World) : Calls Try.prog 9 #[] W fun e w' => e = .returned (.bool true) ∧ Below W.heap.size W w' := by
  generalize hQ : (fun (e : Ending) (w' : World) => e = .returned (.bool true) ∧ Below W.heap.size W w') = Q
  have HQ : Hid (∀ e w', (e = .returned (.bool true) ∧ Below W.heap.size W w') → Q e w') := fun e w' hh => by rw [← hQ]; exact hh
  clear hQ
  have HNEW : Hid _ := New_cch cfA_ok W
  go_enter Try.func9, Try.ntmps9
  go_wp2_with fail
  refine Calls.mono HNEW.out ?_
  rintro e w1 ⟨p, pb, mb, rfl, hc⟩
  obtain ⟨W3, hst, hx3, hb3⟩ := box_new (ty := 35) (n := 16) (fun w => by kernel_rfl) w1 (List.replicate 16 (.int .u8 0)) rfl (u8s dA) rfl (u8s_one dA)
  obtain ⟨W2, hW2⟩ : ∃ W2, W2 = w1.alloc (.cells #[.int .u8 0, .int .u8 0, .int .u8 0, .int .u8 0, .int .u8 0, .int .u8 0, .int .u8 0, .int .u8 0, .int .u8 0, .int .u8 0, .int .u8 0, .int .u8 0, .int .u8 0, .int .u8 0, .int .u8 0, .int .u8 0] 35) := ⟨_, rfl⟩
  have hst2 : (Instr.storeAt 35 (.pointer (some ⟨w1.heap.size, 0, none⟩)) (.agg (u8s dA).toArray)).run Try.prog W2 = .ok () W3 := by rw [hW2]; exact hst
  have HST : Hid _ := hst2
  have e3 := hW2.symm
  have HB : Hid (W3.heap[w1.heap.size]? = some (.cells (u8s dA).toArray 35)) := hx3
  have HX : Hid _ := at_A rfl hx3
  have HC : Hid (Cch W.heap.size W W3 p pb mb cfA 0 []) := hc.on hb3
  clear hst hst2 hx3 hb3 hc HNEW hW2
  go_wp2_with first
    | ((with_reducible show wpList _ _ _ ({ dst := _, op := Op.store 35 (Operand.tmp 3) _, type := _, pos := _, after := _, guard := _ } :: _) _ _); refine armS (.tmp 3) (.tmp 23) 35 rfl rfl rfl rfl HST.out ?_; try simp only [Act.put])
    | ((with_reducible show wpList _ _ _ ({ dst := _, op := Op.load 35 (Operand.tmp 3), type := _, pos := _, after := _, guard := _ } :: _) _ _); refine armL (.tmp 3) 35 rfl rfl rfl (HX.out) ?_)
  clear HST e3
  refine Calls.mono (HC.out.told (by decide) (t := 0) ⟨by decide, by decide⟩ dA_ok (z := 1400) ⟨by decide, by decide⟩ cfA_ok (ins_nil dA (by decide) _) (by decide) (by decide)) ?_
  rintro e w4 ⟨rfl, ⟨b, k, -, hc4⟩, tf⟩
  have HC4 : Hid (Cch W.heap.size W w4 p pb mb cfA 0 [(⟨dA, 1400, 100⟩, b)]) := by
    have := hc4
    rw [show live [] 0 = [] from rfl, room_nil dA (by decide), putK_nil] at this
    exact this
  have HB4 : Hid (w4.heap[w1.heap.size]? = some (.cells (u8s dA).toArray 35)) := tf.box HB.out
  clear HX HC HB hc4 tf
  have HX : Hid _ := at_A rfl HB4.out
  go_wp2_with first
    | ((with_reducible show wpList _ _ _ ({ dst := _, op := Op.load 35 (Operand.tmp 3), type := _, pos := _, after := _, guard := _ } :: _) _ _); refine armL (.tmp 3) 35 rfl rfl rfl (HX.out) ?_)
  refine Calls.mono (HC4.out.keep (by simp) (t := 1) ⟨by decide, by decide⟩ dA_ok (z := 1450) ⟨by decide, by decide⟩ (by rw [show live [(⟨dA, 1400, 100⟩, b)] 1 = [(⟨dA, 1400, 100⟩, b)] from rfl, show mtuL cfA [(⟨dA, 1400, 100⟩, b)] dA = 1400 from mtu_one cfA ⟨dA, 1400, 100⟩ b]; decide)) ?_
  rintro e w5 ⟨rfl, hc5, tf⟩
  have HC5 : Hid (Cch W.heap.size W w5 p pb mb cfA 1 [(⟨dA, 1400, 100⟩, b)]) := hc5
  have HB5 : Hid (w5.heap[w1.heap.size]? = some (.cells (u8s dA).toArray 35)) := tf.box HB4.out
  clear HX HC4 HB4 hc5 tf
  have HX : Hid _ := at_A rfl HB5.out
  go_wp2_with first
    | ((with_reducible show wpList _ _ _ ({ dst := _, op := Op.load 35 (Operand.tmp 3), type := _, pos := _, after := _, guard := _ } :: _) _ _); refine armL (.tmp 3) 35 rfl rfl rfl (HX.out) ?_)
  refine Calls.mono (HC5.out.get (by simp) (t := 50) ⟨by decide, by decide⟩ dA_ok) ?_
  rintro e w6 ⟨rfl, hc6, tf⟩
  have HC6 : Hid (Cch W.heap.size W w6 p pb mb cfA 50 [(⟨dA, 1400, 100⟩, b)]) := hc6
  have HB6 : Hid (w6.heap[w1.heap.size]? = some (.cells (u8s dA).toArray 35)) := tf.box HB5.out
  clear HX HC5 HB5 hc6 tf
  have HX : Hid _ := at_A rfl HB6.out
  rw [show live [(⟨dA, 1400, 100⟩, b)] 50 = [(⟨dA, 1400, 100⟩, b)] from rfl, show mtuL cfA [(⟨dA, 1400, 100⟩, b)] dA = 1400 from mtu_one cfA ⟨dA, 1400, 100⟩ b]
  go_wp2_with first
    | ((with_reducible show wpList _ _ _ ({ dst := _, op := Op.load 35 (Operand.tmp 3), type := _, pos := _, after := _, guard := _ } :: _) _ _); refine armL (.tmp 3) 35 rfl rfl rfl (HX.out) ?_)
  refine Calls.mono (HC6.out.get (by simp) (t := 100) ⟨by decide, by decide⟩ dA_ok) ?_
  rintro e w7 ⟨rfl, hc7, tf⟩
  have HC7 : Hid (Below W.heap.size W w7) := hc7.bl
  clear HX HC6 HB6 hc7 tf
  rw [show live [(⟨dA, 1400, 100⟩, b)] 100 = [] from rfl, show mtuL cfA [] dA = 1500 from rfl]
  go_wp2
  all_goals (try go_returns)
  all_goals exact HQ.out _ _ ⟨rfl, HC7.out⟩
end Go.Proofs.Ytgndiblonhgihaa
