/-
  with of any tree.
  The value of the entry with just that prefix.
-/
import Derived.Test.YtenahbdopgmpfaaFold16
namespace Go.Proofs.Ytenahbdopgmpfaa
open Go Go.RowKit Go.Shelf
set_option linter.unusedVariables false
set_option linter.unusedSimpArgs false

theorem enc_parted (t : Tr) (k : Bs) (v : Int) : enc (Tr.parted t k v) = .iface 117 (FK (lcp t.top k)
      (if Tr.sd (lcp t.top k) k = 0 then .iface 85 (LF k v) else if Tr.sd (lcp t.top k) t.top = 0 then enc t else .nilIface) (if Tr.sd (lcp t.top k) k = 1 then .iface 85 (LF k v) else if Tr.sd (lcp t.top k) t.top = 1 then enc t else .nilIface) (if Tr.sd (lcp t.top k) k = 2 then .iface 85 (LF k v) else if Tr.sd (lcp t.top k) t.top = 2 then enc t else .nilIface)) := by
  unfold Tr.parted
  have h1 := Tr.sd_lt (lcp t.top k) t.top
  have h2 := Tr.sd_lt (lcp t.top k) k
  generalize Tr.sd (lcp t.top k) t.top = a at *
  generalize Tr.sd (lcp t.top k) k = b at *
  rcases (by omega : a = 0 ∨ a = 1 ∨ a = 2) with rfl | rfl | rfl <;> rcases (by omega : b = 0 ∨ b = 1 ∨ b = 2) with rfl | rfl | rfl <;> simp [Tr.setK, enc]
theorem parted_any (t : Tr) (hn : t.isNil = false) (hl : t.top.length ≤ 128) (k : Bs) (v : Int) (hk : k.length ≤ 128) (w : World) :
    Calls Try.prog 78 #[enc t, LF k v] w fun e w' => e = .returned (enc (Tr.parted t k v)) ∧ Below w.heap.size w w' := by
  rw [enc_parted]
  exact parted_calls (enc t) t.top (enc_node t) (top_of t hn) hl k v hk w
theorem with_any (t : Tr) (hok : t.Ok) (k : Bs) (v : Int) (hk : k.length ≤ 128) (w : World) :
    Calls Try.prog 70 #[enc t, LF k v] w fun e w' => e = .returned (enc (t.put k v)) ∧ Below w.heap.size w w' := by
  induction t generalizing w with
  | nil => exact with_nil k v w
  | leaf k' v' =>
    have h := with_leaf k' v' hok k v hk w _ (fun W => parted_any (.leaf k' v') rfl hok k v hk W)
    have e : enc ((Tr.leaf k' v').put k v) = if k' = k then .iface 85 (LF k v) else enc (Tr.parted (.leaf k' v') k v) := by
      unfold Tr.put
      split <;> rfl
    rw [e]
    exact h
  | fork f a b c iha ihb ihc =>
    obtain ⟨h0, h1, h2, h3⟩ := hok
    have hs := Tr.sd_lt f k
    have h := with_fork f (enc a) (enc b) (enc c) (enc_node a) (enc_node b) (enc_node c) (enc_one a) (enc_one b) (enc_one c) h0 k v hk w (enc ((Tr.getK a b c (Tr.sd f k)).put k v)) (enc_node _) (fun _ W => by
      rcases (by omega : Tr.sd f k = 0 ∨ Tr.sd f k = 1 ∨ Tr.sd f k = 2) with e | e | e <;> rw [e]
      · exact iha h1 W
      · exact ihb h2 W
      · exact ihc h3 W) _ (fun W => parted_any (.fork f a b c) rfl h0 k v hk W)
    have e : enc ((Tr.fork f a b c).put k v) = if pre f k = true then .iface 117 (FK f (if Tr.sd f k = 0 then enc ((Tr.getK a b c (Tr.sd f k)).put k v) else enc a) (if Tr.sd f k = 1 then enc ((Tr.getK a b c (Tr.sd f k)).put k v) else enc b) (if Tr.sd f k = 2 then enc ((Tr.getK a b c (Tr.sd f k)).put k v) else enc c)) else enc (Tr.parted (.fork f a b c) k v) := by
      rw [Tr.put]
      split
      · rcases (by omega : Tr.sd f k = 0 ∨ Tr.sd f k = 1 ∨ Tr.sd f k = 2) with e | e | e <;> rw [e] <;> rfl
      · rfl
    rw [e]
    exact h
end Go.Proofs.Ytenahbdopgmpfaa

namespace Go.Proofs.Ytenahbdopgmpfaa
open Go Go.RowKit Go.Shelf
set_option linter.unusedVariables false
set_option linter.unusedSimpArgs false

theorem walk_ok {g : Bs → Bool} : ∀ {t : Tr}, t.Ok → ∀ e ∈ t.walk g, e.1.length ≤ 128
  | .nil, _, e, he => by simp [Tr.walk] at he
  | .leaf k v, h, e, he => by
    simp only [Tr.walk] at he
    split at he
    · rw [List.mem_singleton.1 he]; exact h
    · simp at he
  | .fork k a b c, h, e, he => by
    obtain ⟨h0, h1, h2, h3⟩ := h
    simp only [Tr.walk] at he
    split at he
    · rcases List.mem_append.1 he with q | q
      · exact walk_ok h1 e q
      · rcases List.mem_append.1 q with q | q
        · exact walk_ok h2 e q
        · exact walk_ok h3 e q
    · simp at he
/-- The value of a key in a tree, and whether there is one. -/
def getN (l : List Ent) (p : Bs) : Int × Bool := match l.getLast? with
  | some e => if e.1 = p then (e.2, true) else (0, false)
  | none => (0, false)

set_option maxHeartbeats 2000000 in
set_option maxRecDepth 100000 in
theorem get_any (t : Tr) (hok : t.Ok) (p : Bs) (hp : p.length ≤ 128) (w : World) :
    Calls Try.prog 56 #[enc t, KV p] w fun e w' => e = .returned (.tuple #[.int .i64 (getN (t.walk (fun k => pre k p)) p).1, .bool (getN (t.walk (fun k => pre k p)) p).2]) ∧ Below w.heap.size w w' := by
  have hwk := walk_ok (g := fun k => pre k p) hok
  have HLG : Hid _ := fun W => longest_any t hok p hp W
  generalize enc t = T at *
  generalize t.walk (fun k => pre k p) = L at *
  generalize hQ : (fun (e : Ending) (w' : World) => e = .returned (.tuple #[.int .i64 (getN L p).1, .bool (getN L p).2]) ∧ Below w.heap.size w w') = Q
  have HQ : Hid _ := hQ
  clear hQ
  have hB : Below w.heap.size w (w.alloc (.cells (kC p).toArray 39)) := (Below.refl _ w).alloc (Nat.le_refl _) _
  have HB0 : Hid _ := blk_new w (.cells (kC p).toArray 39)
  have H3 : Hid _ := kb_key (kb0 (blk_new w (.cells (kC p).toArray 39)))
  have HB : Hid _ := hB
  clear hB hok
  go_enter Try.func56, Try.ntmps56
  go_wp2_with first
    | ((with_reducible show wpList _ _ _ _ _ _); refine armLv (.tmp 3) 39 rfl rfl rfl H3.out ?_)
  refine Calls.mono (HLG.out _) ?_
  rintro e w1 ⟨rfl, hb1⟩
  obtain ⟨w5, hst, hb5, hB5⟩ := box_new (ty := 85) (n := 18) (fun w => by kernel_rfl) w1 zL rfl (lastC L) (lastC_length L) (lastC_one L)
  have HST : Hid _ := hst
  have k1 := HB.out.trans (hb1.mono HB.out.size)
  have HK : Hid _ := k1.trans (hB5.mono k1.size)
  have H3' : Hid _ := kb_key (kb0 (blk_kept (blk_kept HB0.out hb1) hB5))
  have HB5 : Hid _ := hb5
  clear k1 hb1 hst hb5 hB5 HLG H3 HB0
  cases hlast : L.getLast? with
  | none =>
    have HV : Hid (getN L p = (0, false)) := by unfold getN; rw [hlast]; rfl
    have hbf : lastB L = false := by rw [List.getLast?_eq_none_iff.1 hlast]; rfl
    rw [hbf]
    clear hlast hbf hwk
    generalize lastC L = C at *
    go_wp2_with first
      | ((with_reducible show wpList _ _ _ _ _ _); refine armS (.tmp 6) (.tmp 12) 85 rfl rfl rfl rfl HST.out ?_)
    try go_ret2
    rw [← HQ.out, HV.out]
    exact ⟨rfl, HK.out⟩
  | some x =>
    have hC : lastC L = lfC x.1 x.2 := by unfold lastC; rw [hlast]
    have hbt : lastB L = true := by
      cases L with
      | nil => simp at hlast
      | cons _ _ => rfl
    have hx := hwk x (List.mem_of_getLast? hlast)
    have HV : Hid (getN L p = if x.1 = p then (x.2, true) else (0, false)) := by unfold getN; rw [hlast]; rfl
    rw [hbt]
    rw [hC] at HST HB5 ⊢
    have H6 : Hid _ := kb_key (r := [.int .i64 x.2]) HB5.out
    have hv := lf_val HB5.out
    have HLV : Hid ((Instr.loadAt 3 (.pointer (some ⟨w1.heap.size, 17, none⟩))).run Try.prog w5 = .ok (.int .i64 x.2) w5) := by
      show _ = _
      simp [Instr.loadAt, go_sem, hv]
    have heq : ∀ W, (binOp .neq 39 (KV x.1) (KV p)).run Try.prog W = .ok (.bool (!decide (x.1 = p))) W := fun W => by
      have h := neqP6 (bytN 16 x.1) (bytN 16 p) x.1.length p.length (bytN_fit _ _) (bytN_fit _ _) (bytN_length _ _) (bytN_length _ _) W
      rw [show ((x.1.length : Int) == (p.length : Int)) = decide ((x.1.length : Int) = p.length) from rfl, eqK hx] at h
      exact h
    have HE : Hid _ := heq
    have HG : Hid _ := fun W => gdP6 .neq (.tmp 18) (.tmp 19) (kC x.1).toArray (kC p).toArray W
    clear heq hv hx hC hbt hlast hwk HB5
    by_cases hc : x.1 = p
    · have hd := decide_eq_true hc
      rw [hd] at HE
      rw [if_pos hc] at HV
      clear hd hc
      go_wp2_with first
        | ((with_reducible show wpList _ _ _ _ _ _); refine armS (.tmp 6) (.tmp 12) 85 rfl rfl rfl rfl HST.out ?_)
        | ((with_reducible show wpList _ _ _ _ _ _); refine armLv (.tmp 17) 39 rfl rfl rfl H6.out ?_)
        | ((with_reducible show wpList _ _ _ _ _ _); refine armLv (.tmp 3) 39 rfl rfl rfl H3'.out ?_)
        | ((with_reducible show wpList _ _ _ _ _ _); refine arm_bin rfl .neq 39 39 (.tmp 18) (.tmp 19) rfl rfl rfl (HG.out _) (HE.out _) ?_)
        | ((with_reducible show wpList _ _ _ _ _ _); refine armLv (.tmp 22) 3 rfl rfl rfl HLV.out ?_)
      try go_ret2
      rw [← HQ.out, HV.out]
      exact ⟨rfl, HK.out⟩
    · have hd := decide_eq_false hc
      rw [hd] at HE
      rw [if_neg hc] at HV
      clear hd hc
      go_wp2_with first
        | ((with_reducible show wpList _ _ _ _ _ _); refine armS (.tmp 6) (.tmp 12) 85 rfl rfl rfl rfl HST.out ?_)
        | ((with_reducible show wpList _ _ _ _ _ _); refine armLv (.tmp 17) 39 rfl rfl rfl H6.out ?_)
        | ((with_reducible show wpList _ _ _ _ _ _); refine armLv (.tmp 3) 39 rfl rfl rfl H3'.out ?_)
        | ((with_reducible show wpList _ _ _ _ _ _); refine arm_bin rfl .neq 39 39 (.tmp 18) (.tmp 19) rfl rfl rfl (HG.out _) (HE.out _) ?_)
      try go_ret2
      rw [← HQ.out, HV.out]
      exact ⟨rfl, HK.out⟩
end Go.Proofs.Ytenahbdopgmpfaa
