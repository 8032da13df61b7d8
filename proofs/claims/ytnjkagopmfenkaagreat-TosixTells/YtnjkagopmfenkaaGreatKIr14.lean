/-
  The document's Parse and Part of whatever bytes.
-/
import Derived.Test.YtnjkagopmfenkaaGreatKIr11
import Derived.Test.YtnjkagopmfenkaaGreatKIr13e
import Derived.Test.YtnjkagopmfenkaaGreatKIr13g
import Derived.Test.YtnjkagopmfenkaaGreatFold13
namespace Go.Proofs.YtnjkagopmfenkaaGreat.V4
open Go Go.RowKit
set_option linter.unusedVariables false
set_option linter.unusedSimpArgs false

theorem read_any {w : World} {v : Value} {zs : List Int} (h : RowC w v zs) (part : Bool) : RReads 98 #[v, .bool part] zs part w := by
  by_cases h20 : zs.length < 20
  · obtain ⟨_, _, a, cap, rfl, _⟩ := h
    exact .no (pErr_short h20) (by decide) (read_short a _ cap part w h20)
  · obtain ⟨b, off, cap, rfl, hcap, hb, hc⟩ := h.some (by omega)
    by_cases hv : gz zs 0 / 16 = 4
    · by_cases h1 : gz zs 0 % 16 * 4 < 20
      · exact .no (pErr_head (by omega) hv (by unfold pHead; omega)) (by decide) (read_head_a b off cap zs part w h.fit h.len hcap hb hc (by omega) hv h1)
      · by_cases h2 : (zs.length : Int) < gz zs 0 % 16 * 4
        · exact .no (pErr_head (by omega) hv (by unfold pHead; omega)) (by decide) (read_head_b b off cap zs part w h.fit h.len hcap hb hc (by omega) hv (by omega) h2)
        · have hs : 20 ≤ pHead zs ∧ pHead zs ≤ zs.length := by unfold pHead; omega
          by_cases h3 : gz zs 2 * 256 + gz zs 3 < (zs.length : Int)
          · exact .no (pErr_length (by omega) hv hs (.inl h3)) (by decide) (read_length_a b off cap zs part w h.fit h.len hcap hb hc (by omega) hv (by omega) (by omega) h3)
          · by_cases h4 : (zs.length : Int) < gz zs 2 * 256 + gz zs 3
            · cases part
              · exact .no (pErr_length (by omega) hv hs (.inr ⟨h4, rfl⟩)) (by decide) (read_length_b b off cap zs w h.fit h.len hcap hb hc (by omega) hv (by omega) (by omega) h4)
              · exact .yes (pErr_part (by omega) hv hs (by unfold pAll; omega)) (read_ok_g b off cap zs w h.fit h.len hcap hb hc (by omega) hv (by omega) (by omega) h4)
            · cases part
              · by_cases hsum : sumW 0 (wordsL (zs.take (gz zs 0 % 16 * 4).toNat)) = 65535
                · exact .yes (pErr_ok (by omega) hv hs (by unfold pAll; omega) hsum) (read_ok_f b off cap zs w h.fit h.len hcap hb hc (by omega) hv (by omega) (by omega) (by omega) hsum)
                · exact .no (pErr_sum (by omega) hv hs (by unfold pAll; omega) hsum) (by decide) (read_sum b off cap zs w h.fit h.len hcap hb hc (by omega) hv (by omega) (by omega) (by omega) hsum)
              · exact .yes (pErr_part (by omega) hv hs (by unfold pAll; omega)) (read_ok_e b off cap zs w h.fit h.len hcap hb hc (by omega) hv (by omega) (by omega) (by omega))
    · exact .no (pErr_version (by omega) hv) (by decide) (read_version b off cap zs part w h.fit h.len hcap hb hc (by omega) hv)

set_option maxRecDepth 100000 in
theorem RPart_any {w : World} {v : Value} {zs : List Int} (h : RowC w v zs) : RReads 55 #[v] zs true w := by
  have hS := OneW.start w
  have H : Hid _ := read_any (h.on hS.bel) true
  unfold RReads at *
  have HS : Hid _ := hS
  have HON : Hid (∀ {W W' : World} {c : List Value}, ParD zs true W c → ∀ {B g : Nat}, Apart B c → g < B → Only g W W' → ParD zs true W' c) := fun h _ _ a b o => h.only a b o
  have HLN : Hid (∀ {W : World} {c : List Value}, ParD zs true W c → c.length = 17 ∧ ∀ v ∈ c, v.oneCell' = true) := fun h => h.len
  clear h hS
  generalize pErr zs true = pe at *
  generalize ParD zs true = pd at *
  unfold zeroC at H
  go_enter Tryz.func55, Tryz.ntmps55
  go_wp2_with fail
  refine Calls.mono H.out ?_
  rintro e w' ⟨c', rfl, hd, hA, hb⟩
  obtain ⟨w3, hst, hlv, hO⟩ := slot17 (blk_on HS.out.qb hb) rfl c' (HLN.out hd).1 (HLN.out hd).2
  have HST : Hid _ := hst
  have HLV : Hid _ := hlv
  have hlt : w.heap.size < (w.alloc (.cells zeroC.toArray 27)).heap.size := by simp
  have HF : Hid (pd w3 c' ∧ Apart w.heap.size c' ∧ Below w.heap.size w w3) := ⟨HON.out hd hA hlt hO, hA.mono (Nat.le_of_lt hlt), (HS.out.bel.trans (hb.mono HS.out.bel.size)).trans (hO.below (Nat.le_refl _))⟩
  clear hst hlv hO hd hA hb hlt
  go_wp2_with ((with_reducible show wpList _ _ _ _ _ _); refine arm_store rfl (.tmp 2) _ 27 rfl rfl rfl HST.out ?_)
  refine bodyPost_ret (res3t rfl rfl HLV.out) rfl ?_
  exact ⟨c', rfl, HF.out.1, HF.out.2.1, HF.out.2.2⟩

end Go.Proofs.YtnjkagopmfenkaaGreat.V4
