/-
  The document's split: a text's parts between a letter.
-/
import Derived.Test.YtlpbffcijhgelaaDoorQa1
namespace Go.Proofs.YtlpbffcijhgelaaDoor
set_option linter.unusedVariables false
set_option linter.unusedSimpArgs false
open Go Go.RowKit

def strsV (bs : List ByteArray) : List Value := bs.map (fun b => Value.string b)

theorem splitA_cons (c : Int) (cur l : List Int) (k : Nat) (x : Int) (h : l[k]? = some x) :
    splitA c cur (l.drop k) = if x = c then cur :: splitA c [] (l.drop (k + 1)) else splitA c (cur ++ [x]) (l.drop (k + 1)) := by
  obtain ⟨hk, rfl⟩ := List.getElem?_eq_some_iff.1 h
  rw [List.drop_eq_getElem_cons hk]
  rfl

theorem cur_next (l : List Int) (f k : Nat) (x : Int) (hf : f ≤ k) (h : l[k]? = some x) : (l.drop f).take (k + 1 - f) = (l.drop f).take (k - f) ++ [x] := by
  obtain ⟨hk, rfl⟩ := List.getElem?_eq_some_iff.1 h
  have e : k + 1 - f = (k - f) + 1 := by omega
  have hl : k - f < (l.drop f).length := by rw [List.length_drop]; omega
  rw [e, List.take_succ_eq_append_getElem hl]
  congr 2
  rw [List.getElem_drop]
  congr 1
  omega

theorem splitA_length (c : Int) : ∀ (l cur : List Int), (splitA c cur l).length ≤ l.length + 1 := by
  intro l
  induction l with
  | nil => intro cur; simp [splitA]
  | cons x l ih =>
    intro cur
    rw [splitA]
    split
    · have := ih []
      simp only [List.length_cons]
      omega
    · have := ih (cur ++ [x])
      simp only [List.length_cons]
      omega

structure SpAt (s : ByteArray) (c : Int) (w0 wr : World) (v : Value) (bs : List ByteArray) (f k : Nat) : Prop where
  own : wr.ownsRow w0.heap.size 9 1 v bs.length (strsV bs)
  below : Below w0.heap.size w0 wr
  few : bs.length ≤ k
  le : f ≤ k
  end_ : k ≤ s.size + 1
  now : k ≤ s.size → splitA c [] (txt s) = bs.map txt ++ splitA c (((txt s).drop f).take (k - f)) ((txt s).drop k)
  over : k = s.size + 1 → splitA c [] (txt s) = bs.map txt

/-- The parts as a new row of strings. -/
def SplitPost (s : ByteArray) (c : Int) (w : World) (e : Ending) (w' : World) : Prop := ∃ v bs, e = .returned v ∧ w'.ownsRow w.heap.size 9 1 v bs.length (strsV bs) ∧ bs.map txt = splitA c [] (txt s) ∧ Below w.heap.size w w'

set_option maxHeartbeats 2000000 in
theorem split_ref (s : ByteArray) (c : Int) (w : World) (hc : 0 ≤ c ∧ c < 256) (hs : s.size ≤ 100000) :
    Calls Tryd.prog 52 #[.string s, .int .u8 c] w fun e w' => SplitPost s c w e w' := by
  have hl := txt_length s
  go_enter Tryd.func52, Tryd.ntmps52
  go_wp2
  go_loopw [5, 6, 7] (fun v fr i wr => ∃ (bs : List ByteArray) (f k : Nat), i = .int .i64 k ∧ fr = .int .i64 f ∧ SpAt s c w wr v bs f k) (fun _ _ i _ => s.size + 2 - (intOf i).toNat)
  case atStart => exact ⟨[], 0, 0, rfl, rfl, World.ownsRow_nil _ _ _ _, Below.refl _ _, Nat.zero_le _, Nat.zero_le _, by omega, fun _ => rfl, fun h => by omega⟩
  case round =>
    obtain ⟨bs, f, k, rfl, rfl, ⟨hown, hB, hfew, hfk, hend, hnow, hover⟩⟩ := hrel
    have hsz := hB.size
    by_cases hlt : k ≤ s.size
    · have hnow' := hnow hlt
      obtain ⟨v', w1, hrun, hown', hgrow, _⟩ := own_lit elem_string hown hsz (by omega) (by decide) [.string (s.extract f k)] 1 rfl (by decide) (fun u hu => by simp at hu; subst hu; rfl) 76 #[.string (s.extract f k)] rfl
      have hB' := hB.grown hgrow hsz (fun j hj => (hown.lt j hj).1)
      have e2 : strsV bs ++ [.string (s.extract f k)] = strsV (bs ++ [s.extract f k]) := by simp [strsV]
      have e3 : bs.length + 1 = (bs ++ [s.extract f k]).length := by simp
      have e4 : (bs ++ [s.extract f k]).map txt = bs.map txt ++ [((txt s).drop f).take (k - f)] := by rw [List.map_append, List.map_cons, List.map_nil, txt_extract]
      rw [e2, e3] at hown'
      have H0 : Hid _ := hrun
      have HO : Hid _ := hown'
      have HB : Hid _ := hB'
      have HN : Hid _ := hnow'
      have H4 : Hid _ := e4
      clear hrun hown' hB' hnow' hnow hover e2 e3 e4 hgrow
      by_cases hk : k = s.size
      · subst hk
        go_wp2_with (at_builtin; refine wpList_append_run rfl _ _ _ _ rfl rfl rfl H0.out ?_; clear H0)
        refine ⟨⟨bs ++ [s.extract f s.size], s.size + 1, s.size + 1, by simp, by simp, HO.out, HB.out, by rw [List.length_append]; simp only [List.length_cons, List.length_nil]; omega, Nat.le_refl _, by omega, fun h => by omega, fun _ => ?_⟩, by simp [intOf]⟩
        have e5 : (txt s).drop s.size = [] := List.drop_eq_nil_of_le (by omega)
        rw [H4.out, HN.out, e5]
        rfl
      · have hlt' : k < s.size := by omega
        have hx := txt_at s k hlt'
        have hb := byte_at s k hlt'
        have HC : Hid _ := splitA_cons c (((txt s).drop f).take (k - f)) (txt s) k _ hx
        have HX : Hid _ := hx
        have q0 : ((k : Int) == (s.size : Int)) = false := by simp; omega
        clear hx
        by_cases hcc : (((s[k]'hlt').toNat : Nat) : Int) = c
        · have q1 : ((((s[k]'hlt').toNat : Nat) : Int) == c) = true := by simpa using hcc
          have HCC : Hid _ := hcc
          clear hcc
          go_wp2_with (at_builtin; refine wpList_append_run rfl _ _ _ _ rfl rfl rfl H0.out ?_; clear H0)
          refine ⟨⟨bs ++ [s.extract f k], k + 1, k + 1, by simp, by simp, HO.out, HB.out, by rw [List.length_append]; simp only [List.length_cons, List.length_nil]; omega, Nat.le_refl _, by omega, fun h => ?_, fun _ => by omega⟩, by simp [intOf]; omega⟩
          rw [H4.out, HN.out, HC.out, if_pos HCC.out]
          simp
        · have q1 : ((((s[k]'hlt').toNat : Nat) : Int) == c) = false := by simpa using hcc
          have HCC : Hid _ := hcc
          clear hcc H0
          go_wp2
          refine ⟨⟨bs, f, k + 1, by simp, rfl, hown, hB, by omega, by omega, by omega, fun h => ?_, fun _ => by omega⟩, by simp [intOf]; omega⟩
          rw [HN.out, HC.out, if_neg HCC.out, cur_next (txt s) f k _ hfk HX.out]
    · obtain rfl : k = s.size + 1 := by omega
      have hov := hover rfl
      clear hover hnow
      go_wp2
      go_ret
      exact ⟨_, bs, rfl, hown, hov.symm, hB⟩

end Go.Proofs.YtlpbffcijhgelaaDoor
