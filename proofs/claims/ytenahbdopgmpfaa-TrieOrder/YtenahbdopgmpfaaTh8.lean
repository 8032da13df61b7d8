/-
  Tables that are made.
-/
import Derived.Test.YtenahbdopgmpfaaFold38
import Derived.Test.YtenahbdopgmpfaaFold39
namespace Go.Proofs.Ytenahbdopgmpfaa
open Go Go.RowKit Go.Shelf
set_option linter.unusedVariables false
set_option linter.unusedSimpArgs false

set_option maxHeartbeats 8000000 in
set_option maxRecDepth 100000 in
theorem made_any {W : World} {v : Value} {os : List OpD} (lim : Int) (hlim : -9223372036854775808 ≤ lim ∧ lim ≤ 9223372036854775807) (ho : OpsAt W v os) (hi : ∀ o ∈ os, o.In) :
    Calls Try.prog 13 #[.int .i64 lim, v] W fun e w' => MadeP lim W e w' := by
  generalize hQ : (fun (e : Ending) (w' : World) => MadeP lim W e w') = Q
  have HQ : Hid (∀ e w', (MadeP lim W e w') → Q e w') := fun e w' hh => by rw [← hQ]; exact hh
  clear hQ
  have HO : Hid (OpsAt W v os) := ho
  have HI : Hid (∀ o ∈ os, o.In) := hi
  have hsl : ∃ x n m, v = .slice x n m := by obtain ⟨ad, cap, e, _⟩ := ho; exact ⟨_, _, _, e⟩
  have hll : os.length ≤ maxLen := by obtain ⟨ad, cap, e, h1, h2, _⟩ := ho; omega
  have hlm : (os.length : Int) ≤ 9223372036854775807 := by unfold maxLen at hll; omega
  clear ho hi hll
  by_cases hg : 0 ≤ lim ∧ lim ≤ 65536
  · go_enter Try.func13, Try.ntmps13
    go_wp2_with fail
    refine Calls.mono (New_good lim hg W) ?_
    rintro e w1 ⟨rfl, ht1, hb1, hs1⟩
    have HT1 : Hid (w1.heap[W.heap.size]? = some (.cells (tbC true lim 0 .nil .nil).toArray 76)) := ht1
    have HB1 : Hid (Below W.heap.size W w1) := hb1
    have HS1 : Hid (W.heap.size < w1.heap.size) := hs1
    clear ht1 hb1 hs1
    go_wp2_with fail
    refine Calls.mono (RNew_good lim hg w1) ?_
    rintro e w2 ⟨rfl, hd2, hb2⟩
    have HD2 : Hid (Doc w1.heap.size lim [] [] (.slice none 0 0) (.slice none 0 0) w2) := hd2
    have HT2 : Hid (TBL W.heap.size lim [] [] w2) := TBL.new ((hb2.block _ HS1.out).trans HT1.out)
    have HB2 : Hid (Below W.heap.size W w2) := HB1.out.trans (hb2.mono HB1.out.size)
    clear hd2 hb2 HT1 HB1
    have HT3 : Hid (TBL W.heap.size lim [] [] w2) := HT2.out
    have HD3 : Hid (Doc w1.heap.size lim [] [] (.slice none 0 0) (.slice none 0 0) w2) := HD2.out
    have HB3 : Hid (Below W.heap.size W w2) := HB2.out
    clear HT2 HD2 HB2
    go_wp2
    go_loopw [11] (fun i wr => ∃ k : Nat, k ≤ os.length ∧ i = .int .i64 k ∧ InvR W.heap.size w1.heap.size lim W wr) (fun i _ => os.length - (intOf i).toNat)
    case atStart => exact ⟨0, Nat.zero_le _, rfl, [], [], _, _, HT3.out, HD3.out, LC.new hg, HB3.out⟩
    case round =>
      obtain ⟨k, hk, rfl, hinv⟩ := hrel
      have HK : Hid (k ≤ os.length) := hk
      have HV : Hid (InvR W.heap.size w1.heap.size lim W wr) := hinv
      clear hinv
      by_cases hlt : k < os.length
      · by_cases h1 : k < 100
        · obtain ⟨o, ho⟩ : ∃ o, os[k]? = some o := ⟨_, List.getElem?_eq_getElem hlt⟩
          obtain ⟨l4, l6, u4, u6, ht, hd, hc, hb⟩ := HV.out
          obtain ⟨g, off, cap, rfl, hcap, hmx, hld⟩ := HO.out.load HI.out hb ho
          have HLD : Hid _ := hld
          have HST : Hid _ := step_any HS1.out ht hd hc o (HI.out o (List.mem_of_getElem? ho))
          have HB : Hid (Below W.heap.size W wr) := hb
          have q1 : decide ((k : Int) < os.length) = true := by simpa using hlt
          have q2 : decide ((k : Int) < 100) = true := decide_eq_true (by omega)
          have w9 : IntKind.i64.wrap ((k : Int) + 1) = (k : Int) + 1 := wrap_i64 _ ⟨by omega, by omega⟩
          have HLT : Hid (k < os.length) := hlt
          clear ht hd hc hb hld ho
          generalize o.c = CC at *
          go_wp2_with first
            | ((with_reducible show wpList _ _ _ ({ dst := _, op := Op.load 41 (Operand.tmp 50), type := _, pos := _, after := _, guard := _ } :: _) _ _); refine armLv (.tmp 50) 41 rfl rfl rfl HLD.out ?_)
          refine Calls.mono HST.out ?_
          rintro e w5 ⟨rfl, l4', l6', z4, z6, ht5, hd5, hc5, hb5⟩
          have HV6 : Hid (InvR W.heap.size w1.heap.size lim W w5) := ⟨l4', l6', z4, z6, ht5, hd5, hc5, HB.out.trans hb5⟩
          clear ht5 hd5 hc5 hb5 HLD HST HB
          go_wp2
          go_roundw
          case rel => exact ⟨k + 1, HLT.out, rfl, HV6.out⟩
          case measure => show os.length - (k + 1) < os.length - k; have := HLT.out; omega
        · have q2 : decide ((k : Int) < 100) = false := decide_eq_false (by omega)
          have q1 : decide ((k : Int) < os.length) = true := by simpa using hlt
          obtain ⟨ad, cap, rfl, _, _, _⟩ := HO.out
          go_wp2
          try go_ret2
          exact HQ.out _ _ (.inr ⟨hg, W.heap.size, w1.heap.size, rfl, Nat.le_refl _, HS1.out, HV.out⟩)
      · obtain rfl : k = os.length := by omega
        obtain ⟨ad, cap, rfl, _, _, _⟩ := HO.out
        go_wp2
        try go_ret2
        exact HQ.out _ _ (.inr ⟨hg, W.heap.size, w1.heap.size, rfl, Nat.le_refl _, HS1.out, HV.out⟩)
  · obtain ⟨x, n, m, rfl⟩ := hsl
    go_enter Try.func13, Try.ntmps13
    go_wp2_with fail
    refine Calls.mono (New_bad lim (by omega) hlim W) ?_
    rintro e w1 ⟨rfl, rfl⟩
    go_wp2_with fail
    refine Calls.mono (RNew_bad lim (by omega) w1) ?_
    rintro e w2 ⟨rfl, rfl⟩
    go_wp2
    go_loopw [11] (fun i wr => i = .int .i64 0 ∧ wr = w2) (fun _ _ => 0)
    case atStart => exact ⟨rfl, rfl⟩
    case round =>
      obtain ⟨rfl, rfl⟩ := hrel
      go_wp2
      try go_ret2
      exact HQ.out _ _ (.inl ⟨hg, rfl, Below.refl _ _⟩)
end Go.Proofs.Ytenahbdopgmpfaa
