/-
  What stands behind so many heads, of both sides; addWord, addLong, addFragHead of package ipv6.
-/
import Derived.Test.YtbaeogoojpngbaaYb1
namespace Go.Proofs.Ytbaeogoojpngbaa
open Go Go.RowKit
set_option linter.unusedVariables false
set_option linter.unusedSimpArgs false

def nx6 (hs : Opts) (fr : Bool) (proto : Int) (i : Nat) : Int := if i < hs.length then oK hs i else if fr then 44 else proto
section
variable {c : List Value} {cls lab hop : Int} {vh : Value} {fr : Bool} {id off : Int} {more : Bool} {proto : Int} {vb : Value}
set_option maxHeartbeats 1000000 in
set_option maxRecDepth 100000 in
theorem next_calls (w : World) (h : L6 c cls lab hop vh fr id off more proto vb) (hs : Opts) (hh : OptsAt w.heap.size w vh hs) (i : Nat) :
    Calls Try.prog 22 #[.agg c.toArray, .int .i64 i] w fun e w' => e = .returned (.int .u8 (nx6 hs fr proto i)) ∧ Below w.heap.size w w' := by
  have hb0 := blk_new w (.cells c.toArray 28)
  have hB0 := (Below.refl w.heap.size w).alloc (Nat.le_refl _) (.cells c.toArray 28)
  have k35 := blk_cell hb0 h.c35
  have k36 := blk_cell hb0 h.c36
  have k40 := blk_cell hb0 h.c40
  obtain ⟨hfit, hlen, a, cap, rfl, hz⟩ := hh
  clear hb0 h
  by_cases hi : i < hs.length
  · have HE : Hid (nx6 hs fr proto i = oK hs i) := if_pos hi
    rcases hz with hz | ⟨b, o0, rfl, hbn, hc⟩
    · omega
    obtain ⟨c0, s, c1, hs'⟩ := hc i hi
    have x0 := (hB0.cell (p := ⟨b, o0 + i * 2, none⟩) hbn).trans c0
    have HB : Hid _ := hB0
    clear c0 c1 hs' hc hB0
    generalize nx6 hs fr proto i = r at *
    generalize oK hs i = K at *
    generalize hW : w.alloc (.cells c.toArray 28) = W0 at *
    go_enter Try.func22, Try.ntmps22
    go_wp2
    go_ret
    exact ⟨by rw [HE.out]; rfl, HB.out⟩
  · have HE : Hid (nx6 hs fr proto i = if fr then 44 else proto) := if_neg hi
    have HB : Hid _ := hB0
    clear hz hB0
    generalize nx6 hs fr proto i = r at *
    generalize hW : w.alloc (.cells c.toArray 28) = W0 at *
    go_enter Try.func22, Try.ntmps22
    cases fr
    all_goals
      go_wp2
      go_ret
      exact ⟨by rw [HE.out]; rfl, HB.out⟩
set_option maxHeartbeats 1000000 in
set_option maxRecDepth 100000 in
theorem Rnext_calls (w : World) (h : L6 c cls lab hop vh fr id off more proto vb) (hs : Opts) (hh : OptsAt w.heap.size w vh hs) (i : Nat) :
    Calls Try.prog 25 #[.agg c.toArray, .int .i64 i] w fun e w' => e = .returned (.int .u8 (nx6 hs fr proto i)) ∧ Below w.heap.size w w' := by
  have hb0 := blk_new w (.cells c.toArray 28)
  have hB0 := (Below.refl w.heap.size w).alloc (Nat.le_refl _) (.cells c.toArray 28)
  have k35 := blk_cell hb0 h.c35
  have k36 := blk_cell hb0 h.c36
  have k40 := blk_cell hb0 h.c40
  obtain ⟨hfit, hlen, a, cap, rfl, hz⟩ := hh
  clear hb0 h
  by_cases hi : i < hs.length
  · have HE : Hid (nx6 hs fr proto i = oK hs i) := if_pos hi
    rcases hz with hz | ⟨b, o0, rfl, hbn, hc⟩
    · omega
    obtain ⟨c0, s, c1, hs'⟩ := hc i hi
    have x0 := (hB0.cell (p := ⟨b, o0 + i * 2, none⟩) hbn).trans c0
    have HB : Hid _ := hB0
    clear c0 c1 hs' hc hB0
    generalize nx6 hs fr proto i = r at *
    generalize oK hs i = K at *
    generalize hW : w.alloc (.cells c.toArray 28) = W0 at *
    go_enter Try.func25, Try.ntmps25
    go_wp2
    go_ret
    exact ⟨by rw [HE.out]; rfl, HB.out⟩
  · have HE : Hid (nx6 hs fr proto i = if fr then 44 else proto) := if_neg hi
    have HB : Hid _ := hB0
    clear hz hB0
    generalize nx6 hs fr proto i = r at *
    generalize hW : w.alloc (.cells c.toArray 28) = W0 at *
    go_enter Try.func25, Try.ntmps25
    cases fr
    all_goals
      go_wp2
      go_ret
      exact ⟨by rw [HE.out]; rfl, HB.out⟩
end


set_option maxHeartbeats 1000000 in
set_option maxRecDepth 100000 in
theorem addWord_calls {base : Nat} {w W : World} {v : Value} {zs : List Int} (h : OB base w W v zs) (hs : base ≤ W.heap.size) (n : Int) (hn : 0 ≤ n ∧ n ≤ 65535) (hl : zs.length + 2 ≤ 1000000) :
    Calls Try.prog 40 #[v, .int .u16 n] W fun e w' => ∃ v', e = .returned v' ∧ OB base w w' v' (zs ++ [n / 256, n % 256]) ∧ base ≤ w'.heap.size ∧ Keep W w' := by
  obtain ⟨v1, w1, hr, h1, hs1, hk1⟩ := h.lit hs [n / 256, n % 256] #[.int .u8 (n / 256), .int .u8 (n % 256)] rfl (fun z hz => by simp at hz; omega) hl 2 rfl 26
  have HR : Hid _ := hr
  have H1 : Hid _ := h1
  have HK : Hid _ := hk1
  clear hk1
  have q1 : n / 256 % 256 = n / 256 := by omega
  clear hr h1 h
  go_enter Try.func40, Try.ntmps40
  go_wp2_with (at_builtin; refine wpList_append_run rfl _ _ _ _ rfl rfl rfl HR.out ?_)
  go_ret
  exact ⟨_, rfl, H1.out, hs1, HK.out⟩
set_option maxHeartbeats 1000000 in
set_option maxRecDepth 100000 in
theorem addLong_calls {base : Nat} {w W : World} {v : Value} {zs : List Int} (h : OB base w W v zs) (hs : base ≤ W.heap.size) (n : Int) (hn : 0 ≤ n ∧ n ≤ 4294967295) (hl : zs.length + 4 ≤ 1000000) :
    Calls Try.prog 39 #[v, .int .u32 n] W fun e w' => ∃ v', e = .returned v' ∧ OB base w w' v' (zs ++ [n / 16777216, n / 65536 % 256, n / 256 % 256, n % 256]) ∧ base ≤ w'.heap.size ∧ Keep W w' := by
  have HA : Hid _ := addWord_calls h hs (n / 65536) (by omega) (by omega)
  have q1 : n / 65536 % 65536 = n / 65536 := by omega
  go_enter Try.func39, Try.ntmps39
  go_wp2_with fail
  refine Calls.mono HA.out ?_
  rintro _ w1 ⟨v1, rfl, h1, hs1, hk1⟩
  have HA1 : Hid _ := addWord_calls h1 hs1 (n % 65536) (by omega) (by simp; omega)
  go_wp2_with fail
  refine Calls.mono HA1.out ?_
  rintro _ w2 ⟨v2, rfl, h2, hs2, hk2⟩
  have e : zs ++ [n / 65536 / 256, n / 65536 % 256] ++ [n % 65536 / 256, n % 65536 % 256] = zs ++ [n / 16777216, n / 65536 % 256, n / 256 % 256, n % 256] := by
    rw [List.append_assoc]
    congr 1
    simp
    omega
  rw [e] at h2
  have H2 : Hid _ := h2
  have HK : Hid _ := hk1.trans hk2
  clear hk1 hk2 h2 h1 HA HA1 e
  go_wp2
  go_ret
  exact ⟨_, rfl, H2.out, hs2, HK.out⟩



theorem orD (off : Int) (h : 0 ≤ off ∧ off ≤ 8191) : bits .or .u16 (off * 8) 1 = off * 8 + 1 := by
  obtain ⟨a, rfl⟩ := Int.eq_ofNat_of_zero_le h.1
  rw [show ((a : Int) * 8) = ((a * 8 : Nat) : Int) by omega, show (1 : Int) = ((1 : Nat) : Int) from rfl, u16_or_nat (a * 8) 1 (by omega) (by omega), show a * 8 = 2 ^ 3 * a by omega, Nat.or_comm, or_hi 1 a 3 (by omega)]
  omega
def fragL (id off : Int) (more : Bool) (proto : Int) : List Int := [proto, 0, off / 32, off % 32 * 8 + (if more then 1 else 0), id / 16777216, id / 65536 % 256, id / 256 % 256, id % 256]
section
variable {c : List Value} {cls lab hop : Int} {vh : Value} {fr : Bool} {id off : Int} {more : Bool} {proto : Int} {vb : Value}
set_option maxHeartbeats 1000000 in
set_option maxRecDepth 100000 in
theorem addFragHead_calls {base : Nat} {w W : World} {v : Value} {zs : List Int} (h : OB base w W v zs) (hs : base ≤ W.heap.size) (hL : L6 c cls lab hop vh fr id off more proto vb) (ho : 0 ≤ off ∧ off ≤ 8191) (hi : 0 ≤ id ∧ id ≤ 4294967295) (hp : 0 ≤ proto ∧ proto < 256) (hl : zs.length + 8 ≤ 1000000) :
    Calls Try.prog 23 #[v, .agg c.toArray] W fun e w' => ∃ v', e = .returned v' ∧ OB base w w' v' (zs ++ fragL id off more proto) ∧ base ≤ w'.heap.size ∧ Keep W w' := by
  have hb0 := blk_new W (.cells c.toArray 28)
  have hB0 := (Below.refl W.heap.size W).alloc (Nat.le_refl _) (.cells c.toArray 28)
  have h0 := h.below hs hB0
  have hs0 := Nat.le_trans hs hB0.size
  obtain ⟨v1, w1, hr, h1, hs1, hk1⟩ := h0.lit hs0 [proto, 0] #[.int .u8 proto, .int .u8 0] rfl (fun z hz => by simp at hz; omega) (by simp; omega) 2 rfl 26
  have k38 := blk_cell hb0 hL.c38
  have k39 := blk_cell hb0 hL.c39
  have k40 := blk_cell hb0 hL.c40
  have HR : Hid _ := hr
  have HK37 : Hid (∀ w2, Keep w1 w2 → w2.cell? ⟨W.heap.size, 37, none⟩ = some (.int .u32 id)) := fun w2 hk => blk_cell (hk _ _ _ _ (by decide) (hk1 _ _ _ _ (by decide) hb0)) hL.c37
  have HKW : Hid (∀ w2, Keep w1 w2 → Keep W w2) := fun w2 hk => (Keep.below hB0).trans (hk1.trans hk)
  clear hr hk1 hb0 hL
  generalize hW : W.alloc (.cells c.toArray 28) = W0 at *
  have q1 : off % 65536 = off := by omega
  have q2 : off * 8 % 65536 = off * 8 := by omega
  cases more
  · have HA : Hid _ := addWord_calls h1 hs1 (off * 8) (by omega) (by simp; omega)
    have HEQ : Hid (zs ++ [proto, 0] ++ [off * 8 / 256, off * 8 % 256] ++ [id / 16777216, id / 65536 % 256, id / 256 % 256, id % 256] = zs ++ fragL id off false proto) := by
      show zs ++ [proto, 0] ++ [off * 8 / 256, off * 8 % 256] ++ [id / 16777216, id / 65536 % 256, id / 256 % 256, id % 256] = zs ++ fragL id off false proto
      have e1 : off * 8 / 256 = off / 32 := by omega
      have e2 : off * 8 % 256 = off % 32 * 8 := by omega
      rw [e1, e2]
      simp [fragL]
    clear h1 h0 h hB0
    go_enter Try.func23, Try.ntmps23
    go_wp2_with (at_builtin; refine wpList_append_run rfl _ _ _ _ rfl rfl rfl HR.out ?_)
    refine Calls.mono HA.out ?_
    rintro _ w2 ⟨v2, rfl, h2, hs2, hk2⟩
    have k37 : w2.cell? ⟨W.heap.size, 37, none⟩ = some (.int .u32 id) := HK37.out w2 hk2
    have HA2 : Hid _ := addLong_calls h2 hs2 id hi (by simp; omega)
    have HK2 : Hid _ := HKW.out w2 hk2
    clear h2 hk2
    go_wp2_with fail
    refine Calls.mono HA2.out ?_
    rintro _ w3 ⟨v3, rfl, h3, hs3, hk3⟩
    rw [HEQ.out] at h3
    have H3 : Hid _ := h3
    have HK3 : Hid _ := Keep.trans HK2.out hk3
    clear h3 hk3 HA2 HA HK2
    go_wp2
    go_ret
    exact ⟨_, rfl, H3.out, hs3, HK3.out⟩
  · have HA : Hid _ := addWord_calls h1 hs1 (off * 8 + 1) (by omega) (by simp; omega)
    have q3 := orD off ho
    have HEQ : Hid (zs ++ [proto, 0] ++ [(off * 8 + 1) / 256, (off * 8 + 1) % 256] ++ [id / 16777216, id / 65536 % 256, id / 256 % 256, id % 256] = zs ++ fragL id off true proto) := by
      show zs ++ [proto, 0] ++ [(off * 8 + 1) / 256, (off * 8 + 1) % 256] ++ [id / 16777216, id / 65536 % 256, id / 256 % 256, id % 256] = zs ++ fragL id off true proto
      have e1 : (off * 8 + 1) / 256 = off / 32 := by omega
      have e2 : (off * 8 + 1) % 256 = off % 32 * 8 + 1 := by omega
      rw [e1, e2]
      simp [fragL]
    clear h1 h0 h hB0
    go_enter Try.func23, Try.ntmps23
    go_wp2_with (at_builtin; refine wpList_append_run rfl _ _ _ _ rfl rfl rfl HR.out ?_)
    refine Calls.mono HA.out ?_
    rintro _ w2 ⟨v2, rfl, h2, hs2, hk2⟩
    have k37 : w2.cell? ⟨W.heap.size, 37, none⟩ = some (.int .u32 id) := HK37.out w2 hk2
    have HA2 : Hid _ := addLong_calls h2 hs2 id hi (by simp; omega)
    have HK2 : Hid _ := HKW.out w2 hk2
    clear h2 hk2
    go_wp2_with fail
    refine Calls.mono HA2.out ?_
    rintro _ w3 ⟨v3, rfl, h3, hs3, hk3⟩
    rw [HEQ.out] at h3
    have H3 : Hid _ := h3
    have HK3 : Hid _ := Keep.trans HK2.out hk3
    clear h3 hk3 HA2 HA HK2
    go_wp2
    go_ret
    exact ⟨_, rfl, H3.out, hs3, HK3.out⟩
end

end Go.Proofs.Ytbaeogoojpngbaa
