/-
  IPv6 datagrams in memory; Check and Size of package ipv6.
-/
import Derived.Test.YtbaeogoojpngbaaXa0
namespace Go.Proofs.Ytbaeogoojpngbaa
open Go Go.RowKit
set_option linter.unusedVariables false
set_option linter.unusedSimpArgs false

/-- The cells of a datagram that are looked at one by one. -/
structure L6 (c : List Value) (cls lab hop : Int) (vh : Value) (fr : Bool) (id off : Int) (more : Bool) (proto : Int) (vb : Value) : Prop where
  len : c.length = 42
  one : ∀ v ∈ c, v.oneCell' = true
  c0 : c[0]? = some (.int .u8 cls)
  c1 : c[1]? = some (.int .u32 lab)
  c2 : c[2]? = some (.int .u8 hop)
  c35 : c[35]? = some vh
  c36 : c[36]? = some (.bool fr)
  c37 : c[37]? = some (.int .u32 id)
  c38 : c[38]? = some (.int .i64 off)
  c39 : c[39]? = some (.bool more)
  c40 : c[40]? = some (.int .u8 proto)
  c41 : c[41]? = some vb

def isH (k : Int) : Bool := (k == 0) || (k == 43) || (k == 60)
set_option maxHeartbeats 400000 in
theorem isHead_calls (k : Int) (w : World) : Calls Try.prog 42 #[.int .u8 k] w fun e w' => e = .returned (.bool (isH k)) ∧ w' = w := by
  unfold isH
  go_enter Try.func42, Try.ntmps42
  go_wp2
  all_goals
    go_ret
    exact ⟨by simp_all, rfl⟩
set_option maxHeartbeats 400000 in
theorem extra_calls (k : Int) (w : World) : Calls Try.prog 43 #[.int .u8 k] w fun e w' => e = .returned (.bool (isH k)) ∧ w' = w := by
  unfold isH
  go_enter Try.func43, Try.ntmps43
  go_wp2
  all_goals
    go_ret
    exact ⟨by simp_all, rfl⟩
def kindB (k : Int) (j : Nat) : Bool := isH k && ((k != 0) || decide (j = 0))
set_option maxHeartbeats 400000 in
theorem kindMayBe_calls (k : Int) (j : Nat) (w : World) : Calls Try.prog 41 #[.int .u8 k, .int .i64 j] w fun e w' => e = .returned (.bool (kindB k j)) ∧ w' = w := by
  unfold kindB
  have hj : ((j : Int) == 0) = decide (j = 0) := by rw [Bool.eq_iff_iff]; simp
  have H : Hid _ := isHead_calls k w
  generalize isH k = b at *
  cases b
  all_goals
    go_enter Try.func41, Try.ntmps41
    go_wp2_with fail
    refine Calls.mono H.out ?_
    rintro _ w1 ⟨rfl, hw⟩
    obtain rfl := hw.symm
    clear hw
    go_wp2
    all_goals
      go_ret
      exact ⟨by simp_all, rfl⟩

def headOk (hs : Opts) (j : Nat) : Bool := kindB (oK hs j) j && decide ((2 + (oD hs j).length) % 8 = 0) && decide ((oD hs j).length ≤ 2046)
def allH (hs : Opts) (k : Nat) : Prop := ∀ j, j < k → headOk hs j = true
def headsB (hs : Opts) : Prop := hs.length ≤ 8 ∧ allH hs hs.length
theorem allH_succ {hs : Opts} {k : Nat} (h : allH hs k) (hk : headOk hs k = true) : allH hs (k + 1) := fun j hj => by
  by_cases e : j = k
  · subst e; exact hk
  · exact h j (by omega)

set_option maxHeartbeats 1000000 in
set_option maxRecDepth 100000 in
theorem headsMayBe_calls (v : Value) (hs : Opts) (w : World) (h : OptsAt w.heap.size w v hs) :
    Calls Try.prog 27 #[v] w fun e w' => ∃ b, e = .returned (.bool b) ∧ (b = true ↔ headsB hs) ∧ Below w.heap.size w w' := by
  obtain ⟨hfit, hlen, a, cap, rfl, hz⟩ := h
  by_cases h8 : 8 < hs.length
  · have q : decide ((8 : Int) < (hs.length : Int)) = true := by simp; omega
    have HN : Hid (¬ headsB hs) := fun c => by have := c.1; omega
    clear hz
    go_enter Try.func27, Try.ntmps27
    go_wp2
    go_ret
    exact ⟨_, rfl, by simp; exact HN.out, Below.refl _ _⟩
  · have q : decide ((8 : Int) < (hs.length : Int)) = false := by simp; omega
    go_enter Try.func27, Try.ntmps27
    go_wp2
    go_loopw [11] (fun i wr => ∃ k : Nat, k ≤ hs.length ∧ i = .int .i64 k ∧ allH hs k ∧ Below w.heap.size w wr) (fun i _ => hs.length - (intOf i).toNat)
    case atStart => exact ⟨0, Nat.zero_le _, rfl, fun j hj => absurd hj (by omega), Below.refl _ _⟩
    case round =>
      obtain ⟨k, hk, rfl, hall, hB⟩ := hrel
      by_cases hlt : k < hs.length
      · have hz' := hz
        rcases hz' with hz' | ⟨b, off, rfl, hbn, hc⟩
        · omega
        obtain ⟨c0, s, c1, hs'⟩ := hc k hlt
        obtain ⟨_, hdl, sa, sc, rfl, _⟩ := hs'
        have x0 := (hB.cell (p := ⟨b, off + k * 2, none⟩) hbn).trans c0
        have x1 := (hB.cell (p := ⟨b, off + k * 2 + 1, none⟩) hbn).trans c1
        have hno : headOk hs k = false → ¬ headsB hs := fun hf c => by have := c.2 k hlt; rw [hf] at this; cases this
        have hgo : headOk hs k = true → allH hs (k + 1) := fun hg => allH_succ hall hg
        have hok : headOk hs k = (kindB (oK hs k) k && decide ((2 + (oD hs k).length) % 8 = 0) && decide ((oD hs k).length ≤ 2046)) := rfl
        have HNO : Hid _ := hno
        have HGO : Hid _ := hgo
        have HOK : Hid _ := hok
        have hA := hB.alloc hB.size (.cells #[.int .u8 (oK hs k), .slice sa (oD hs k).length sc] 52)
        have HA : Hid _ := hA
        have HKB : Hid (∀ W, Calls Try.prog 41 #[.int .u8 (oK hs k), .int .i64 k] W fun e w' => e = .returned (.bool (kindB (oK hs k) k)) ∧ w' = W) := fun W => kindMayBe_calls _ k W
        have n1 : (wr.alloc (.cells #[.int .u8 (oK hs k), .slice sa (oD hs k).length sc] 52)).cell? ⟨wr.heap.size, 1, none⟩ = some (.slice sa (oD hs k).length sc) := by rw [World.cell?_alloc_new]; rfl
        have v1 : IntKind.i64.wrap (2 + ((oD hs k).length : Int)) = 2 + ((oD hs k).length : Int) := wrapi64 _ (by omega)
        clear hno hgo hok hc hz c0 c1 hB hall hA
        generalize headOk hs k = ok at *
        generalize kindB (oK hs k) k = kb at *
        generalize oK hs k = K at *
        generalize (oD hs k).length = D at *
        go_wp2_with fail
        refine Calls.mono (HKB.out _) ?_
        rintro _ w2 ⟨rfl, hw2⟩
        obtain rfl := hw2.symm
        clear hw2
        cases kb
        · have HN : Hid (¬ headsB hs) := HNO.out (by rw [HOK.out]; rfl)
          go_wp2
          go_ret
          exact ⟨_, rfl, by simp; exact HN.out, HA.out⟩
        · by_cases h1 : (2 + D) % 8 = 0
          · have q1 : ((2 + (D : Int)) % 8 != 0) = false := by simp; omega
            by_cases h2 : D ≤ 2046
            · have q2 : decide ((2048 : Int) < 2 + (D : Int)) = false := by simp; omega
              have HG : Hid (allH hs (k + 1)) := HGO.out (by rw [HOK.out]; simp [h1, h2])
              clear h1 h2
              go_wp2
              exact ⟨⟨k + 1, by omega, by simp, HG.out, HA.out⟩, by simp [intOf]; omega⟩
            · have q2 : decide ((2048 : Int) < 2 + (D : Int)) = true := by simp; omega
              have HN : Hid (¬ headsB hs) := HNO.out (by rw [HOK.out]; simp [h2])
              clear h1 h2
              go_wp2
              go_ret
              exact ⟨_, rfl, by simp; exact HN.out, HA.out⟩
          · have q1 : ((2 + (D : Int)) % 8 != 0) = true := by simp; omega
            have HN : Hid (¬ headsB hs) := HNO.out (by rw [HOK.out]; simp [h1])
            clear h1
            go_wp2
            go_ret
            exact ⟨_, rfl, by simp; exact HN.out, HA.out⟩
      · obtain rfl : k = hs.length := by omega
        have HY : Hid (headsB hs) := ⟨by omega, hall⟩
        have HB : Hid _ := hB
        clear hz hB hall
        go_wp2
        go_ret
        exact ⟨_, rfl, by simp; exact HY.out, HB.out⟩

end Go.Proofs.Ytbaeogoojpngbaa
