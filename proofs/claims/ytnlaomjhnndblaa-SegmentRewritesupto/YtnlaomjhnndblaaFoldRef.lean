/-
  The contracts of the document's answer for Fold, and of package sum's Good.
-/
import Derived.Test.YtnlaomjhnndblaaParts
namespace Go.Proofs.Ytnlaomjhnndblaa
open Go Go.RowKit Go.Shelf

def bytesV (zs : List Int) : List Value := zs.map (fun z => .int .u8 z)
theorem bytesV_one (zs : List Int) : ∀ u ∈ bytesV zs, u.oneCell' = true := by
  intro u hu
  obtain ⟨z, _, rfl⟩ := List.mem_map.1 hu
  rfl
theorem bytesV_length (zs : List Int) : (bytesV zs).length = zs.length := by simp [bytesV]

/-- A slice of bytes behind a row of bytes of the call's own. -/
theorem own_bytes_more {w w0 : World} {base n : Nat} {v : Value} {xs : List Value} (hown : w.ownsRow base 5 1 v n xs) (hbase : base ≤ w.heap.size) {a : Option Addr} {m c : Nat} {zs : List Int} (hb : BytesAt w0.heap.size w (.slice a m c) zs) (hn : n + m ≤ 1000000) (ty : TypeId) :
    ∃ v' w', (Builtin.append_ #[29, 29] ty #[v, .slice a m c]).run Try.prog w = .ok v' w' ∧ w'.ownsRow base 5 1 v' (n + m) (xs ++ bytesV zs) ∧ w.grownBy w' v.ownBlock := by
  obtain ⟨_, _, a', c', e, hz⟩ := hb
  cases e
  have hnone : a = none → zs.length = 0 := fun e => by
    rcases hz with hz | ⟨b, off, hz, _⟩
    · exact hz
    · rw [e] at hz; cases hz
  obtain ⟨v', w', h1, h2, h3, _⟩ := own_append elem_u8 (c := c) hown a (bytesV zs) (bytesV_length zs) hnone (fun x hx j u hj => by
      rcases hz with hz | ⟨b, off, hz, _, hc⟩
      · have := (List.getElem?_eq_some_iff.1 hj).1; rw [bytesV_length] at this; omega
      · rw [hx] at hz
        cases hz
        have hjl := (List.getElem?_eq_some_iff.1 hj).1
        rw [bytesV_length] at hjl
        rw [Go.WideShapes.add_plain, hc j hjl]
        rw [bytesV, List.getElem?_map] at hj
        obtain ⟨z, hz, rfl⟩ := Option.map_eq_some_iff.1 hj
        rw [hz]; rfl) (bytesV_one zs) (by unfold maxLen; omega) (by omega) hbase ty
  exact ⟨v', w', h1, h2, h3⟩

theorem pre_le (ps : List (List Int)) (k : Nat) : pre ps k ≤ ps.flatten.length := by
  have : ps.flatten = (ps.take k).flatten ++ (ps.drop k).flatten := by rw [← List.flatten_append, List.take_append_drop]
  rw [this, List.length_append]; unfold pre; omega
theorem flat_snoc (ps : List (List Int)) (k : Nat) (h : k < ps.length) : bytesV (ps.take (k + 1)).flatten = bytesV (ps.take k).flatten ++ bytesV (ps[k]?.getD []) := by
  rw [List.take_succ_eq_append_getElem h, List.flatten_append, bytesV, List.map_append]
  simp [bytesV, h]

set_option maxHeartbeats 1000000 in
theorem row_ref (a : Option Addr) (n cap : Nat) (ps : List (List Int)) (w : World) (hp : PartsAt w.heap.size w (.slice a n cap) ps) (hl : ps.flatten.length ≤ 100000) :
    Calls Try.prog 67 #[.slice a n cap] w fun e w' => ∃ v, e = .returned v ∧ w'.ownsRow w.heap.size 5 1 v ps.flatten.length (bytesV ps.flatten) ∧ Below w.heap.size w w' := by
  obtain ⟨hn, a, cap, e, hz⟩ := hp
  cases e
  go_enter Try.func67, Try.ntmps67
  go_wp2
  go_loopw [3, 4] (fun v i wr => ∃ k : Nat, k ≤ ps.length ∧ i = .int .i64 k ∧ wr.ownsRow w.heap.size 5 1 v (pre ps k) (bytesV (ps.take k).flatten) ∧ Below w.heap.size w wr) (fun _ i _ => ps.length - (intOf i).toNat)
  case atStart => exact ⟨0, Nat.zero_le _, rfl, World.ownsRow_nil _ _ _ _, Below.refl _ _⟩
  case round =>
    obtain ⟨k, hk, rfl, hown, hB⟩ := hrel
    have hsz := hB.size
    by_cases hlt : k < ps.length
    · rcases hz with hz | ⟨b, off, rfl, hb, hc⟩
      · omega
      obtain ⟨u, hu, hbu⟩ := hc k hlt
      have hu' := (hB.cell (p := ⟨b, off + k, none⟩) hb).trans hu
      have hbu' := hbu.below hB
      have hpk := pre_succ ps k hlt
      have hpl := pre_le ps (k + 1)
      have hsn := flat_snoc ps k hlt
      have hform := hbu.val
      obtain ⟨a2, cap2, rfl, _⟩ := hform
      obtain ⟨v', w1, hrun, hown', hgrow⟩ := own_bytes_more hown hsz hbu' (by omega) 29
      rw [← hpk, ← hsn] at hown'
      clear hc hu hbu hbu' hpk hpl hsn
      have H0 : Hid _ := hrun
      clear hrun
      generalize (ps[k]?.getD []).length = m at *
      go_wp2_with (at_builtin; refine wpList_append_run rfl _ _ _ _ rfl rfl rfl H0.out ?_; clear H0)
      exact ⟨⟨k + 1, by omega, by simp, hown', hB.grown hgrow hsz (fun j hj => (hown.lt j hj).1)⟩, by simp [intOf]; omega⟩
    · obtain rfl : k = ps.length := by omega
      go_wp2
      go_ret
      rw [pre_all, List.take_length] at hown
      exact ⟨_, rfl, hown, hB⟩

set_option maxHeartbeats 400000 in
theorem fold_ref (a : Option Addr) (n cap : Nat) (ps : List (List Int)) (w : World) (hp : PartsAt w.heap.size w (.slice a n cap) ps) (hl : ps.flatten.length ≤ 100000) :
    Calls Try.prog 39 #[.slice a n cap] w fun e w' => e = .returned (.int .u16 (sumW 0 (wordsL ps.flatten))) ∧ Below w.heap.size w w' := by
  have hf := hp.fit
  have hw := wordsL_words hf
  have hr := sumW_range _ 0 (by decide) hw
  have hwl : (wordsL ps.flatten).length ≤ 1000000 := by rw [wordsL_length]; omega
  have hrow := calls_hide (row_ref a n cap ps w hp hl)
  clear hp
  generalize ps.flatten = f at *
  go_enter Try.func39, Try.ntmps39
  go_wp2_with fail
  refine (calls_show hrow).mono ?_
  rintro e w1 ⟨v, rfl, hv, hB1⟩
  have hby := own_bytes hv hf (by omega)
  obtain ⟨a1, c1, rfl, _⟩ := hby.val
  go_wp2_with fail
  refine (words_ref a1 _ c1 f w1 hby (by omega)).mono ?_
  rintro e w2 ⟨v2, rfl, hv2, hB2⟩
  go_wp2_with fail
  refine (added_calls _ v2 _ hw w2 hwl hv2).mono ?_
  rintro e w3 ⟨rfl, rfl⟩
  clear hwl hw hf hl
  generalize ht : sumW 0 (wordsL f) = t at *
  have HT : Hid _ := ht
  clear ht
  go_wp2
  go_ret
  exact ⟨by rw [HT.out]; rfl, hB1.trans (hB2.mono hB1.size)⟩

theorem Held.flat {w : World} {us : List Value} {ps : List (List Int)} (h : Held w us ps) (hn : us.length ≤ 20) : ps.flatten.length ≤ 60000 := by
  have h1 : ∀ z ∈ ps, z.length ≤ 3000 := by
    intro z hz
    obtain ⟨j, hj, rfl⟩ := List.getElem_of_mem hz
    have hl := h.len
    have := (h.each j us[j] (by simp)).2
    simpa [hj] using this
  have h2 : ∀ (l : List (List Int)), (∀ z ∈ l, z.length ≤ 3000) → l.flatten.length ≤ l.length * 3000 := by
    intro l
    induction l with
    | nil => simp
    | cons z l ih =>
      intro hz
      have h3 := hz z (by simp)
      have h4 := ih (fun y hy => hz y (by simp [hy]))
      simp only [List.flatten_cons, List.length_append, List.length_cons]
      omega
  have h5 := h2 ps h1
  have h6 := h.len
  have : ps.length * 3000 ≤ 20 * 3000 := Nat.mul_le_mul_right _ (by omega)
  omega

end Go.Proofs.Ytnlaomjhnndblaa
