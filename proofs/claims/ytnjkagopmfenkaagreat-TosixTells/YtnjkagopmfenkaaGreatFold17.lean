/-
  One part more ahead of parts; check and right of package segment.
  slices.Grow and slices.Concat of bytes.
-/
import Derived.Test.YtnjkagopmfenkaaGreatFold16
namespace Go.Proofs.YtnjkagopmfenkaaGreat
open Go Go.RowKit Go.Shelf
set_option linter.unusedVariables false
set_option linter.unusedSimpArgs false

theorem own_one_sl (w : World) (u : Value) : (w.alloc (.cells #[u] 25)).ownsRow w.heap.size 25 1 (.slice (some ⟨w.heap.size, 0, none⟩) 1 1) 1 [u] :=
  ⟨rfl, .inr ⟨w.heap.size, 1, _, rfl, Nat.le_refl _, World.alloc_heap_new w _, Nat.le_refl _, by decide, rfl, rfl⟩⟩
theorem parts_cons {w : World} {u : Value} {zs : List Int} {a : Option Addr} {n c : Nat} {ps : List (List Int)} (hu : BytesAt w.heap.size w u zs) (hp : PartsAt w.heap.size w (.slice a n c) ps) (hn : n ≤ 1000) (ty : TypeId) :
    ∃ v' w', (Builtin.append_ #[109, 109] ty #[.slice (some ⟨w.heap.size, 0, none⟩) 1 1, .slice a n c]).run Tryz.prog (w.alloc (.cells #[u] 25)) = .ok v' w' ∧ PartsAt w'.heap.size w' v' (zs :: ps) ∧ Below w.heap.size w w' := by
  have hb0 := (Below.refl w.heap.size w).alloc (Nat.le_refl _) (.cells #[u] 25)
  obtain ⟨hl, a', c', e, hz⟩ := hp
  cases e
  obtain ⟨us, hul, hus⟩ : ∃ us : List Value, us.length = ps.length ∧ ∀ j, j < ps.length → ∃ b off, a = some ⟨b, off, none⟩ ∧ b < w.heap.size ∧ w.cell? ⟨b, off + j, none⟩ = some (us[j]?.getD undef) ∧ BytesAt w.heap.size w (us[j]?.getD undef) (ps[j]?.getD []) := by
    rcases hz with h0 | ⟨b, off, rfl, hlt, hc⟩
    · exact ⟨[], by simp [h0], fun j hj => by omega⟩
    · refine ⟨(List.range ps.length).map (fun j => (w.cell? ⟨b, off + j, none⟩).getD undef), by simp, fun j hj => ⟨b, off, rfl, hlt, ?_⟩⟩
      obtain ⟨x, hx, hb⟩ := hc j hj
      simp [hj, hx]
      simpa [hj] using hb
  have hone : ∀ x ∈ us, x.oneCell' = true := by
    intro x hx
    obtain ⟨j, hj, rfl⟩ := List.getElem_of_mem hx
    obtain ⟨b, off, _, _, _, hb⟩ := hus j (by omega)
    obtain ⟨a2, c2, e2, _⟩ := hb.val
    simp [hj] at e2
    rw [e2]
    rfl
  obtain ⟨v', w', h1, h2, h3, h4⟩ := own_append elem_sl (c := c) (own_one_sl w u) a us hul (fun ha => by
      by_cases h0 : ps.length = 0
      · exact h0
      · obtain ⟨b, off, e, _⟩ := hus 0 (by omega)
        rw [ha] at e; cases e) (fun x hx j v hj => by
      have hjl := (List.getElem?_eq_some_iff.1 hj).1
      obtain ⟨b, off, e, hlt, hc, _⟩ := hus j (by omega)
      rw [hx] at e
      cases e
      rw [Go.WideShapes.add_plain]
      rw [hj] at hc
      exact (hb0.cell (p := ⟨b, off + j, none⟩) hlt).trans hc) hone (by unfold maxLen; omega) (by omega) (by simp) ty
  have hB : Below w.heap.size w w' := hb0.trans ((Below.refl _ _).grown h3 (by simp) (fun k hk => by simp [Value.ownBlock] at hk; omega))
  refine ⟨v', w', h1, ?_, hB⟩
  obtain ⟨a1, cap1, rfl, hn1, hz1⟩ := own_form h2
  refine ⟨by simp; omega, a1, cap1, by rw [List.length_cons, Nat.add_comm], ?_⟩
  rcases hz1 with h0 | ⟨g, rfl, hg1, hg2, hc⟩
  · omega
  · refine .inr ⟨g, 0, rfl, hg2, fun j hj => ?_⟩
    rw [Nat.zero_add]
    cases j with
    | zero => exact ⟨u, hc 0 u rfl, hu.later hB⟩
    | succ j =>
      simp only [List.length_cons] at hj
      obtain ⟨b, off, _, _, _, hb⟩ := hus j (by omega)
      refine ⟨us[j]?.getD undef, hc (j + 1) _ ?_, ?_⟩
      · simp [show j < us.length by omega]
      · simpa using hb.later hB

def tot (ps : List (List Int)) : Nat := ps.flatten.length
set_option maxHeartbeats 1000000 in
set_option maxRecDepth 100000 in
theorem check_ok (o : Value) (ph : Int → Int → List Int) (p : Int) (hp : 0 ≤ p ∧ p < 256) (v : Value) (ps : List (List Int)) (w : World) (ho : OverV w o ph) (hv : PartsAt w.heap.size w v ps) (hn : ps.length ≤ 100) (ht : ps.flatten.length ≤ 65535) :
    Calls Tryz.prog 163 #[o, .int .u8 p, v] w fun e w' => e = .returned (.tuple #[.int .u16 (65535 - sumW 0 (wordsL (ph p ps.flatten.length ++ ps.flatten))), .int .i64 0]) ∧ Below w.heap.size w w' := by
  have hv0 := hv
  obtain ⟨hev, g, lb, rfl, eg, hyes, _⟩ := ho
  obtain ⟨hlen, a, cap, rfl, hz⟩ := hv
  have HY : Hid _ := hyes
  have HV0 : Hid _ := hv0
  have hpa := pre_all ps
  have hps := pre_succ ps
  have hpl := pre_le ps
  clear hyes hv0 hlen
  generalize hf : ps.flatten = f at *
  have HPA : Hid _ := hpa
  have HPS : Hid _ := hps
  have HPL : Hid _ := hpl
  have HF : Hid _ := hf
  generalize hN : ps.length = N at *
  have HN : Hid _ := hN
  clear hpa hps hpl hf hN
  go_enter Tryz.func163, Tryz.ntmps163
  go_wp2
  go_loopw [8, 15] (fun n i wr => ∃ k : Nat, k ≤ N ∧ i = .int .i64 k ∧ n = .int .i64 (pre ps k : Nat) ∧ wr = w) (fun _ i _ => N - (intOf i).toNat)
  case atStart => exact ⟨0, Nat.zero_le _, rfl, by simp [pre_zero], rfl⟩
  case round =>
    obtain ⟨k, hk, rfl, rfl, rfl⟩ := hrel
    have hplk := HPL.out k
    by_cases hlt : k < N
    · rcases hz with hz | ⟨b, off, rfl, hbn, hc⟩
      · omega
      obtain ⟨u, hu, hb⟩ := hc k hlt
      obtain ⟨a2, c2, rfl, _⟩ := hb.val
      have hsn := HPS.out k hlt
      have hpl2 := HPL.out (k + 1)
      generalize (ps[k]?.getD []).length = m at *
      have hb2 : pre ps k + m ≤ 65535 := by omega
      have HSN : Hid (pre ps (k + 1) = pre ps k + m) := hsn
      clear hsn hc hb hpl2
      generalize pre ps k = P0 at *
      go_wp2
      exact ⟨⟨k + 1, by omega, by simp, by have := HSN.out; simp; omega, trivial⟩, by simp [intOf]; omega⟩
    · obtain rfl : k = N := by omega
      have e1 := HPA.out
      rw [e1]
      clear hplk e1
      go_wp2_with fail
      refine Calls.mono (HY.out _ (Below.refl _ _) p f.length hp (by omega)) ?_
      rintro _ w1 ⟨u, rfl, hu, hb1⟩
      obtain ⟨a4, c4, rfl, _⟩ := hu.val
      obtain ⟨v2, w2, hr, hP2, hb2⟩ := parts_cons hu (HV0.out.later hb1) (by omega) 109
      obtain ⟨a3, c3, rfl, _⟩ := hP2.val
      have HO : Hid _ := of_calls a3 _ c3 _ w2 hP2
      have HR : Hid _ := hr
      have HFE : Hid ((ph p f.length :: ps).flatten = ph p f.length ++ f) := by
        have := HF.out
        show (ph p f.length :: ps).flatten = ph p f.length ++ f
        rw [List.flatten_cons, this]
      have HB : Hid (Below wr.heap.size wr w2) := hb1.trans (hb2.mono hb1.size)
      rw [HFE.out] at HO
      have HBS := HB.out.size
      clear hr hP2 hu hb1 hb2
      generalize hFF : (ph p f.length ++ f) = F at *
      have HFF : Hid _ := hFF
      clear hFF HFE HV0 HY HPA HPS HPL hz
      go_wp2_with (at_builtin; refine wpList_append_run rfl _ _ _ _ rfl rfl rfl HR.out ?_)
      refine Calls.mono HO.out ?_
      rintro _ w3 ⟨rfl, hb3⟩
      have HB3 : Hid _ := HB.out.trans (hb3.mono HBS)
      generalize hS : (65535 - sumW 0 (wordsL F)) = S at *
      have HS : Hid _ := hS
      clear HO hb3 HB hS
      go_wp2
      go_ret2
      exact ⟨by rw [HFF.out, HS.out]; rfl, HB3.out⟩

set_option maxHeartbeats 1000000 in
set_option maxRecDepth 100000 in
theorem check_long (o : Value) (ph : Int → Int → List Int) (p : Int) (hp : 0 ≤ p ∧ p < 256) (v : Value) (ps : List (List Int)) (w : World) (ho : OverV w o ph) (hv : PartsAt w.heap.size w v ps) (hn : ps.length ≤ 100) (ht : 65535 < ps.flatten.length) (ht2 : ps.flatten.length ≤ 1000000000000000000) :
    Calls Tryz.prog 163 #[o, .int .u8 p, v] w fun e w' => e = .returned (.tuple #[.int .u16 0, .int .i64 2]) ∧ Below w.heap.size w w' := by
  obtain ⟨hev, g, lb, rfl, eg, _, hno⟩ := ho
  obtain ⟨hlen, a, cap, rfl, hz⟩ := hv
  have HY : Hid _ := hno
  have hpa := pre_all ps
  have hps := pre_succ ps
  have hpl := pre_le ps
  clear hno hlen
  generalize hf : ps.flatten = f at *
  have HPA : Hid _ := hpa
  have HPS : Hid _ := hps
  have HPL : Hid _ := hpl
  have HF : Hid _ := hf
  generalize hN : ps.length = N at *
  have HN : Hid _ := hN
  clear hpa hps hpl hf hN
  go_enter Tryz.func163, Tryz.ntmps163
  go_wp2
  go_loopw [8, 15] (fun n i wr => ∃ k : Nat, k ≤ N ∧ i = .int .i64 k ∧ n = .int .i64 (pre ps k : Nat) ∧ wr = w) (fun _ i _ => N - (intOf i).toNat)
  case atStart => exact ⟨0, Nat.zero_le _, rfl, by simp [pre_zero], rfl⟩
  case round =>
    obtain ⟨k, hk, rfl, rfl, rfl⟩ := hrel
    have hplk := HPL.out k
    by_cases hlt : k < N
    · rcases hz with hz | ⟨b, off, rfl, hbn, hc⟩
      · omega
      obtain ⟨u, hu, hb⟩ := hc k hlt
      obtain ⟨a2, c2, rfl, _⟩ := hb.val
      have hsn := HPS.out k hlt
      have hpl2 := HPL.out (k + 1)
      generalize (ps[k]?.getD []).length = m at *
      have hb2 : pre ps k + m ≤ 1000000000000000000 := by omega
      have HSN : Hid (pre ps (k + 1) = pre ps k + m) := hsn
      clear hsn hc hb hpl2
      generalize pre ps k = P0 at *
      go_wp2
      exact ⟨⟨k + 1, by omega, by simp, by have := HSN.out; simp; omega, trivial⟩, by simp [intOf]; omega⟩
    · obtain rfl : k = N := by omega
      have e1 := HPA.out
      rw [e1]
      clear hplk e1
      go_wp2_with fail
      refine Calls.mono (HY.out _ (Below.refl _ _) p f.length hp (by omega)) ?_
      rintro _ w1 ⟨rfl, hb1⟩
      go_wp2
      go_ret2
      exact ⟨rfl, hb1⟩

theorem OverV.own {w : World} {v : Value} {ph : Int → Int → List Int} (h : OverV w v ph) : ∃ g lb, v = .func (.func g) #[] lb := by
  obtain ⟨_, g, lb, hv, _⟩ := h
  exact ⟨g, lb, hv⟩
set_option maxHeartbeats 1000000 in
set_option maxRecDepth 100000 in
theorem right_ok (o : Value) (ph : Int → Int → List Int) (p : Int) (hp : 0 ≤ p ∧ p < 256) (v : Value) (zs : List Int) (w : World) (ho : OverV w o ph) (hv : BytesAt w.heap.size w v zs) (ht : zs.length ≤ 65535) :
    Calls Tryz.prog 143 #[o, .int .u8 p, v] w fun e w' => e = .returned (.int .i64 (if sumW 0 (wordsL (ph p zs.length ++ zs)) = 65535 then 0 else 62)) ∧ Below w.heap.size w w' := by
  have hP := parts_one w v 25 zs hv
  have hb0 := (Below.refl w.heap.size w).alloc (Nat.le_refl _) (.cells #[v] 25)
  have hc := check_ok o ph p hp _ _ _ (ho.later hb0) hP (by simp) (by simpa using ht)
  have e : [zs].flatten = zs := by simp
  rw [e] at hc
  obtain ⟨g, lb, rfl⟩ := ho.own
  obtain ⟨a, c, rfl, _⟩ := hv.val
  have HC : Hid _ := hc
  have HB0 : Hid _ := hb0
  generalize sumW 0 (wordsL (ph p zs.length ++ zs)) = s at *
  clear hc hb0 hP ho hv e ht
  by_cases h : s = 65535
  · subst h
    simp only [if_true]
    go_enter Tryz.func143, Tryz.ntmps143
    go_wp2_with fail
    refine Calls.mono HC.out ?_
    rintro _ w1 ⟨rfl, hb1⟩
    have HB1 : Hid _ := HB0.out.trans (hb1.mono HB0.out.size)
    clear hb1
    go_wp2
    go_ret
    exact ⟨rfl, HB1.out⟩
  · rw [if_neg h]
    have q : ((65535 - s) != 0) = true := by simp; omega
    clear h
    go_enter Tryz.func143, Tryz.ntmps143
    go_wp2_with fail
    refine Calls.mono HC.out ?_
    rintro _ w1 ⟨rfl, hb1⟩
    have HB1 : Hid _ := HB0.out.trans (hb1.mono HB0.out.size)
    clear hb1
    go_wp2
    go_ret
    exact ⟨rfl, HB1.out⟩
set_option maxHeartbeats 1000000 in
set_option maxRecDepth 100000 in
theorem right_long (o : Value) (ph : Int → Int → List Int) (p : Int) (hp : 0 ≤ p ∧ p < 256) (v : Value) (zs : List Int) (w : World) (ho : OverV w o ph) (hv : BytesAt w.heap.size w v zs) (ht : 65535 < zs.length) :
    Calls Tryz.prog 143 #[o, .int .u8 p, v] w fun e w' => e = .returned (.int .i64 2) ∧ Below w.heap.size w w' := by
  have hP := parts_one w v 25 zs hv
  have hb0 := (Below.refl w.heap.size w).alloc (Nat.le_refl _) (.cells #[v] 25)
  have hc := check_long o ph p hp _ _ _ (ho.later hb0) hP (by simp) (by simpa using ht) (by have := hv.len; simp; omega)
  obtain ⟨g, lb, rfl⟩ := ho.own
  obtain ⟨a, c, rfl, _⟩ := hv.val
  have HC : Hid _ := hc
  have HB0 : Hid _ := hb0
  clear hc hb0 hP ho hv ht
  go_enter Tryz.func143, Tryz.ntmps143
  go_wp2_with fail
  refine Calls.mono HC.out ?_
  rintro _ w1 ⟨rfl, hb1⟩
  have HB1 : Hid _ := HB0.out.trans (hb1.mono HB0.out.size)
  clear hb1
  go_wp2
  go_ret
  exact ⟨rfl, HB1.out⟩

end Go.Proofs.YtnjkagopmfenkaaGreat

namespace Go.Proofs.YtnjkagopmfenkaaGreat
open Go Go.RowKit Go.Shelf
set_option linter.unusedVariables false
set_option linter.unusedSimpArgs false

set_option maxHeartbeats 1000000 in
set_option maxRecDepth 100000 in
theorem Grow_calls (n : Nat) (hn : n ≤ 1000000) (w : World) :
    Calls Tryz.prog 149 #[.slice none 0 0, .int .i64 n] w fun e w' => ∃ v, e = .returned v ∧ OB w.heap.size w w' v [] := by
  obtain ⟨i, hi, hz, hs, hby⟩ := info_parts info_u8
  by_cases h0 : n = 0
  · subst h0
    go_enter Tryz.func149, Tryz.ntmps149
    go_wp2
    go_ret
    exact ⟨_, rfl, World.ownsRow_nil _ _ _ _, Below.refl _ _⟩
  · have hrz := fun ty => Lib.run_append_grow_zeros (P := Tryz.prog) w 25 3 ty 5 i (.int .u8 0) .i64 .i64 Tryz.underlying25 Tryz.underlying3 hi hz none 0 0 [] (run_firstCells_none w.drew i.size 0 0 0) n (by omega) (by rw [hs]; decide) (by omega) (by omega) (by rw [hby]; omega) (growslice_fits (by omega) (by rw [hby]; omega))
    simp only [Nat.zero_add] at hrz
    have hG : n ≤ grownCap w n 0 5 := grownCap_ge w _ _ _
    have hGm : grownCap w n 0 5 ≤ maxLen := grownCap_le_maxLen w n 0 5 (by unfold maxLen; omega)
    generalize grownCap w n 0 5 = G at *
    have hown : (w.drew.alloc (.cells (([] : List Value).toArray ++ Builtin.zeroCells (Value.int .u8 0).cells n ++ Builtin.zeroCells (Value.int .u8 0).cells (G - n)) 5)).ownsRow w.heap.size 5 1 (.slice (some ⟨w.heap.size, 0, none⟩) 0 G) 0 [] :=
      ⟨rfl, .inr ⟨w.heap.size, G, _, rfl, Nat.le_refl _, World.alloc_heap_new w.drew _, Nat.zero_le _, hGm, by simp [size_zeroCells, Value.cells]; omega, by simp⟩⟩
    have hbel : Below w.heap.size w (w.drew.alloc (.cells (([] : List Value).toArray ++ Builtin.zeroCells (Value.int .u8 0).cells n ++ Builtin.zeroCells (Value.int .u8 0).cells (G - n)) 5)) := ((Below.refl _ w).drew).alloc (Nat.le_refl _) _
    generalize w.drew.alloc (.cells (([] : List Value).toArray ++ Builtin.zeroCells (Value.int .u8 0).cells n ++ Builtin.zeroCells (Value.int .u8 0).cells (G - n)) 5) = W1 at *
    have HR : Hid _ := hrz
    have HO : Hid (OB w.heap.size w W1 (.slice (some ⟨w.heap.size, 0, none⟩) 0 G) []) := ⟨hown, hbel⟩
    have hGm' : G ≤ 9223372036854775807 := by unfold maxLen at hGm; omega
    clear hrz hown hbel hGm
    go_enter Tryz.func149, Tryz.ntmps149
    go_wp2_with (at_builtin; refine wpList_append_run rfl _ _ _ _ rfl rfl rfl (HR.out _) ?_)
    go_ret
    exact ⟨_, rfl, HO.out⟩

theorem flat_take (ps : List (List Int)) (k : Nat) (h : k < ps.length) : (ps.take (k + 1)).flatten = (ps.take k).flatten ++ (ps[k]?.getD []) := by
  rw [List.take_succ_eq_append_getElem h, List.flatten_append]
  simp [h]
set_option maxHeartbeats 1000000 in
set_option maxRecDepth 100000 in
theorem Concat_calls (v : Value) (ps : List (List Int)) (w : World) (hv : PartsAt w.heap.size w v ps) (hn : ps.length ≤ 100) (ht : ps.flatten.length ≤ 1000000) :
    Calls Tryz.prog 119 #[v] w fun e w' => ∃ v', e = .returned v' ∧ OB w.heap.size w w' v' ps.flatten := by
  obtain ⟨hlen, a, cap, rfl, hz⟩ := hv
  have HG : Hid _ := Grow_calls ps.flatten.length ht
  have hpa := pre_all ps
  have hps := pre_succ ps
  have hpl := pre_le ps
  have HFT : Hid _ := flat_take ps
  have HALL : Hid (ps.take ps.length = ps) := List.take_length
  have HPRE : Hid (∀ k, (ps.take k).flatten.length = pre ps k) := fun k => rfl
  clear hlen
  generalize hf : ps.flatten = f at *
  have HPA : Hid _ := hpa
  have HPS : Hid _ := hps
  have HPL : Hid _ := hpl
  have HF : Hid _ := hf
  generalize hN : ps.length = N at *
  have HN : Hid _ := hN
  clear hpa hps hpl hf hN
  go_enter Tryz.func119, Tryz.ntmps119
  go_wp2
  go_loopw [3, 11] (fun n i wr => ∃ k : Nat, k ≤ N ∧ i = .int .i64 k ∧ n = .int .i64 (pre ps k : Nat) ∧ w = wr) (fun _ i _ => N - (intOf i).toNat)
  case atStart => exact ⟨0, Nat.zero_le _, rfl, by simp [pre_zero], rfl⟩
  case round =>
    obtain ⟨k, hk, rfl, rfl, rfl⟩ := hrel
    have hplk := HPL.out k
    by_cases hlt : k < N
    · rcases hz with hz | ⟨b, off, rfl, hbn, hc⟩
      · omega
      obtain ⟨u, hu, hb⟩ := hc k hlt
      obtain ⟨a2, c2, rfl, _⟩ := hb.val
      have hsn := HPS.out k hlt
      have hpl2 := HPL.out (k + 1)
      generalize (ps[k]?.getD []).length = m at *
      have hb2 : pre ps k + m ≤ 1000000 := by omega
      have HSN : Hid (pre ps (k + 1) = pre ps k + m) := hsn
      clear hsn hc hb hpl2
      generalize pre ps k = P0 at *
      go_wp2
      exact ⟨⟨k + 1, by omega, by simp, by have := HSN.out; simp; omega, trivial⟩, by simp [intOf]; omega⟩
    · obtain rfl : k = N := by omega
      have e1 := HPA.out
      rw [e1]
      clear hplk e1
      go_wp2_with fail
      refine Calls.mono (HG.out w) ?_
      rintro _ w1 ⟨v1, rfl, h1⟩
      go_wp2
      go_loopw [6, 27] (fun v i wx => ∃ j : Nat, j ≤ k ∧ i = .int .i64 j ∧ OB w.heap.size w wx v (ps.take j).flatten) (fun _ i _ => k - (intOf i).toNat)
      case atStart => exact ⟨0, Nat.zero_le _, rfl, by simpa using h1⟩
      case round =>
        clear h1
        obtain ⟨j, hj, rfl, hO⟩ := hrel
        have hsz := hO.bel.size
        by_cases hlt2 : j < k
        · rcases hz with hz | ⟨b, off, rfl, hbn, hc⟩
          · omega
          obtain ⟨u, hu, hb⟩ := hc j hlt2
          have hu' := (hO.bel.cell (p := ⟨b, off + j, none⟩) hbn).trans hu
          have hft := HFT.out j hlt2
          have hpr := HPRE.out j
          have hsn := HPS.out j hlt2
          have hpl2 := HPL.out (j + 1)
          have hbb := hb.below hO.bel
          obtain ⟨a2, c2, rfl, hbz⟩ := hb.val
          have hbb' : BytesAt wr.heap.size wr (.slice a2 (ps[j]?.getD []).length c2) (ps[j]?.getD []) := by
            obtain ⟨q1, q2, q3, q4, q5, q6⟩ := hbb
            refine ⟨q1, q2, q3, q4, q5, q6.imp id ?_⟩
            rintro ⟨bb, oo, e, hl, hc⟩
            exact ⟨bb, oo, e, by omega, hc⟩
          obtain ⟨v2, w2, hr, h2, hs2, _⟩ := hO.app hsz hbb' (by rw [hpr]; omega) 25
          rw [← hft] at h2
          have HR : Hid _ := hr
          have H2 : Hid _ := h2
          generalize (ps[j]?.getD []).length = m at *
          clear hr h2 hO hc hbb hbb' hft hpr hsn hpl2 hb hbz hu
          go_wp2_with (at_builtin; refine wpList_append_run rfl _ _ _ _ rfl rfl rfl HR.out ?_)
          exact ⟨⟨j + 1, by omega, by simp, H2.out⟩, by simp [intOf]; omega⟩
        · obtain rfl : j = k := by omega
          rw [HALL.out, HF.out] at hO
          have H : Hid _ := hO
          clear hO
          go_wp2
          go_ret
          exact ⟨_, rfl, H.out⟩

end Go.Proofs.YtnjkagopmfenkaaGreat
