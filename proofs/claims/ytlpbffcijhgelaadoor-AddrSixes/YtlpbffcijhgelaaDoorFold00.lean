/-
  grouped as a kind of letters.
  Parse6.
  The document's Low4 and Check4: all bits behind the first n are 0.
-/
import Derived.Test.YtlpbffcijhgelaaDoorAddrLs
import Derived.Test.YtlpbffcijhgelaaDoorAddrGaddr
import Derived.Test.YtlpbffcijhgelaaDoorAddrGgapA
import Derived.Test.YtlpbffcijhgelaaDoorAddrGgapB
import Derived.Test.YtlpbffcijhgelaaDoorAddrGgapC
import Derived.Test.YtlpbffcijhgelaaDoorFldPure
import Derived.Test.YtlpbffcijhgelaaDoorProg
import Derived.WalkKit
import Derived.Below
import Derived.Laws.BitsAllLaws
namespace Go.Proofs.YtlpbffcijhgelaaDoor
open Go Go.RowKit
set_option linter.unusedVariables false
set_option linter.unusedSimpArgs false

/-- What is whole has all its bytes. -/
theorem Grp.whole_full {g : Grp} (hk : g.Ok) (hw : g.whole = true) (hgp : g.gapped = false) : g.given.length = 16 := by
  unfold Grp.whole at hw
  unfold Grp.given
  by_cases hd : g.dots = true
  · rw [if_pos hd]
    have := hk.full hd hgp
    simp [Dot.addr, this]
  · rw [if_neg hd] at hw ⊢
    rw [hgp] at hw
    simp at hw
    rw [if_pos hw.1]
    have := hw.2
    unfold Grp.room at this
    rw [hgp] at this
    simp at this
    simp
    omega

theorem Grp.addr_len {g : Grp} (hk : g.Ok) (hw : g.whole = true) : g.addr.length = 16 := by
  have hm := hk.most
  unfold Grp.addr
  by_cases hgp : g.gapped = true
  · rw [if_pos hgp]
    have hgl := hk.gap
    have hl : g.given.length ≤ 14 ∧ g.ended.length ≤ g.given.length := by
      unfold Grp.given
      rw [hgp, if_pos rfl] at hm
      split
      · rename_i hd
        rw [if_pos hd] at hm
        simp [Dot.addr]
        omega
      · rename_i hd
        rw [if_neg hd] at hm
        split
        · rename_i hp
          rw [if_neg (by simpa using hp)] at hm
          simp
          omega
        · omega
    simp
    omega
  · rw [if_neg hgp]
    exact Grp.whole_full hk hw (by simpa using hgp)

/-- A grouped in a block of its own. -/
structure GrpIn (B b : Nat) (g : Grp) (w : World) : Prop where
  cells : GrpAt B b g w
  ok : g.Ok

theorem GrpAt.move {B b : Nat} {g : Grp} {w w' : World} (h : GrpAt B b g w) (hb : w'.heap[b]? = w.heap[b]?) (hrow : ∀ (G : Nat) (cs : Array Value), w.heap[G]? = some (Obj.cells cs 5 (0, 0)) → w'.heap[G]? = w.heap[G]?) : GrpAt B b g w' := by
  have e := fun i => World.cell?_of_block (a := ⟨b, i, none⟩) hb
  obtain ⟨v, h0, hown⟩ := h.row
  obtain ⟨cs, hc⟩ := h.typed
  refine ⟨⟨cs, hb.trans hc⟩, h.hB, ⟨v, (e 0).trans h0, hown.1, hown.2.imp id ?_⟩, (e _).trans h.c1, (e _).trans h.c2, (e _).trans h.c3, (e _).trans h.c4, (e _).trans h.c5, (e _).trans h.c6,
    ⟨(e _).trans h.tail.c0, (e _).trans h.tail.c1, (e _).trans h.tail.c2, (e _).trans h.tail.c3, (e _).trans h.tail.c4, (e _).trans h.tail.c5⟩⟩
  rintro ⟨G, cap, cur, rfl, hB, hg, r⟩
  exact ⟨G, cap, cur, rfl, hB, (hrow G cur hg).trans hg, r⟩

theorem grp_kind {B b : Nat} : Kind grpReader B (fun j => j = b) 85 (.pointer (some ⟨b, 0, none⟩)) 123 124 (GrpIn B b) where
  findT := fun w => by kernel_rfl
  findW := fun w => by kernel_rfl
  entT := fun args w => by kernel_rfl
  entW := fun args w => by kernel_rfl
  take := fun g w r h hr => (grp_take h.cells h.ok hr).mono fun e w' hT => ⟨hT.1, hT.2.1, fun g' hg' => ⟨hT.2.2 g' hg', Grp.take_ok hg' h.ok⟩⟩
  whole := fun g w h => grp_whole h.cells h.ok.len
  step := fun g w k s pos pos' h hk => by
    obtain ⟨h1, h2⟩ := h.cells.typed.iterAt hk pos'
    refine ⟨h.cells.move (Lib.iterAt_other w k b s pos' h2) (fun G cs hG => Lib.iterAt_other w k G s pos' (fun e => ?_)), h.ok⟩
    subst e
    rw [hG] at hk
    cases hk
  alloc := fun g w o h => ⟨h.cells.move (Below.heap_alloc w o b (by obtain ⟨cs, hc⟩ := h.cells.typed; exact (Array.getElem?_eq_some_iff.1 hc).1)) (fun G cs hG => Below.heap_alloc w o G (Array.getElem?_eq_some_iff.1 hG).1), h.ok⟩

theorem read_good {σ : Type} {R : Reader σ} : ∀ (l : List UInt8) (pos : Nat) (st st' : σ), R.read l pos st = .good st' → R.whole st' = true
  | [], pos, st, st', h => by
    unfold Reader.read at h
    split at h
    · rename_i hw
      injection h with h
      rw [← h]
      exact hw
    · cases h
  | c :: l, pos, st, st', h => by
    unfold Reader.read at h
    split at h
    · cases h
    · exact read_good l _ _ _ h

end Go.Proofs.YtlpbffcijhgelaaDoor

namespace Go.Proofs.YtlpbffcijhgelaaDoor
open Go Go.RowKit
set_option linter.unusedVariables false
set_option linter.unusedSimpArgs false

theorem store_zero {w : World} {R : Nat} (hc : ∀ i, i < 16 → (w.cell? ⟨R, i, none⟩).isSome = true) (hf : ∀ i, w.frozen? ⟨R, i, none⟩ = false) :
    (Instr.storeAt 31 (.pointer (some ⟨R, 0, none⟩)) (.agg #[.int .u8 0, .int .u8 0, .int .u8 0, .int .u8 0, .int .u8 0, .int .u8 0, .int .u8 0, .int .u8 0, .int .u8 0, .int .u8 0, .int .u8 0, .int .u8 0, .int .u8 0, .int .u8 0, .int .u8 0, .int .u8 0])).run Tryd.prog w = .ok () (w.setCells R 0 ((List.replicate 16 (0 : Int)).map (fun z => Value.int .u8 z))) := store16 (List.replicate 16 0) rfl hc hf

theorem grp_addr {B b : Nat} {g : Grp} {w : World} (h : GrpAt B b g w) (hk : g.Ok) (hfull : g.gapped = false → g.given.length = 16) :
    Calls Tryd.prog 56 #[.pointer (some ⟨b, 0, none⟩)] w fun e w' => e = .returned (addrV g.addr) ∧ Below w.heap.size w w' := by
  by_cases hgp : g.gapped = true
  · by_cases hd : g.dots = true
    · exact grp_addr_gapA h hk hgp hd
    · by_cases hp : g.part = []
      · exact grp_addr_gapB h hk hgp hd hp
      · exact grp_addr_gapC h hk hgp hd hp
  · have hgp' : g.gapped = false := by simpa using hgp
    exact grp_addr_full h hk hgp' (hfull hgp')

set_option maxHeartbeats 2000000 in
set_option maxRecDepth 100000 in
theorem parse6_calls (s : ByteArray) (hs : s.size ≤ 140737488355328) (w : World) :
    Calls Tryd.prog 18 #[.string s] w fun e w' => e = .returned (.tuple #[addrV (parse6 s.data.toList).1, .int .i64 (parse6 s.data.toList).2.1, .int .i64 (parse6 s.data.toList).2.2]) ∧ Below w.heap.size w w' := by
  have hh : ((w.alloc (.cells #[.int .u8 0, .int .u8 0, .int .u8 0, .int .u8 0, .int .u8 0, .int .u8 0, .int .u8 0, .int .u8 0, .int .u8 0, .int .u8 0, .int .u8 0, .int .u8 0, .int .u8 0, .int .u8 0, .int .u8 0, .int .u8 0] 31)).alloc (.cells #[.slice none 0 0, .string ⟨#[]⟩, .int .u16 0, .int .i64 0, .bool false, .int .i64 0, .bool false, .int .u8 0, .int .u8 0, .int .u8 0, .int .i64 0, .int .i64 0, .bool false] 84)).heap[w.heap.size + 1]? = some (.cells #[.slice none 0 0, .string ⟨#[]⟩, .int .u16 0, .int .i64 0, .bool false, .int .i64 0, .bool false, .int .u8 0, .int .u8 0, .int .u8 0, .int .i64 0, .int .i64 0, .bool false] 84) := by
    have := heap_alloc_new (w.alloc (.cells #[.int .u8 0, .int .u8 0, .int .u8 0, .int .u8 0, .int .u8 0, .int .u8 0, .int .u8 0, .int .u8 0, .int .u8 0, .int .u8 0, .int .u8 0, .int .u8 0, .int .u8 0, .int .u8 0, .int .u8 0, .int .u8 0] 31)) (.cells #[.slice none 0 0, .string ⟨#[]⟩, .int .u16 0, .int .i64 0, .bool false, .int .i64 0, .bool false, .int .u8 0, .int .u8 0, .int .u8 0, .int .i64 0, .int .i64 0, .bool false] 84)
    simpa using this
  have hnew : GrpIn (w.heap.size + 1) (w.heap.size + 1) Grp.new ((w.alloc (.cells #[.int .u8 0, .int .u8 0, .int .u8 0, .int .u8 0, .int .u8 0, .int .u8 0, .int .u8 0, .int .u8 0, .int .u8 0, .int .u8 0, .int .u8 0, .int .u8 0, .int .u8 0, .int .u8 0, .int .u8 0, .int .u8 0] 31)).alloc (.cells #[.slice none 0 0, .string ⟨#[]⟩, .int .u16 0, .int .i64 0, .bool false, .int .i64 0, .bool false, .int .u8 0, .int .u8 0, .int .u8 0, .int .i64 0, .int .i64 0, .bool false] 84)) := by
    refine ⟨⟨⟨_, hh⟩, Nat.le_refl _, ⟨.slice none 0 0, ?_, World.ownsRow_nil _ _ _ _⟩, ?_, ?_, ?_, ?_, ?_, ?_, ⟨?_, ?_, ?_, ?_, ?_, ?_⟩⟩, Grp.ok_new⟩ <;> (unfold World.cell?; rw [hh]; rfl)
  have hB0 : Below w.heap.size w ((w.alloc (.cells #[.int .u8 0, .int .u8 0, .int .u8 0, .int .u8 0, .int .u8 0, .int .u8 0, .int .u8 0, .int .u8 0, .int .u8 0, .int .u8 0, .int .u8 0, .int .u8 0, .int .u8 0, .int .u8 0, .int .u8 0, .int .u8 0] 31)).alloc (.cells #[.slice none 0 0, .string ⟨#[]⟩, .int .u16 0, .int .i64 0, .bool false, .int .i64 0, .bool false, .int .u8 0, .int .u8 0, .int .u8 0, .int .i64 0, .int .i64 0, .bool false] 84)) := ((Below.refl _ w).alloc (Nat.le_refl _) _).alloc (by simp) _
  have hty : Typed ((w.alloc (.cells #[.int .u8 0, .int .u8 0, .int .u8 0, .int .u8 0, .int .u8 0, .int .u8 0, .int .u8 0, .int .u8 0, .int .u8 0, .int .u8 0, .int .u8 0, .int .u8 0, .int .u8 0, .int .u8 0, .int .u8 0, .int .u8 0] 31)).alloc (.cells #[.slice none 0 0, .string ⟨#[]⟩, .int .u16 0, .int .i64 0, .bool false, .int .i64 0, .bool false, .int .u8 0, .int .u8 0, .int .u8 0, .int .i64 0, .int .i64 0, .bool false] 84)) w.heap.size 31 := Typed.alloc ⟨_, heap_alloc_new w _⟩ _
  have harr : ∀ i, i < 16 → (((w.alloc (.cells #[.int .u8 0, .int .u8 0, .int .u8 0, .int .u8 0, .int .u8 0, .int .u8 0, .int .u8 0, .int .u8 0, .int .u8 0, .int .u8 0, .int .u8 0, .int .u8 0, .int .u8 0, .int .u8 0, .int .u8 0, .int .u8 0] 31)).alloc (.cells #[.slice none 0 0, .string ⟨#[]⟩, .int .u16 0, .int .i64 0, .bool false, .int .i64 0, .bool false, .int .u8 0, .int .u8 0, .int .u8 0, .int .i64 0, .int .i64 0, .bool false] 84)).cell? ⟨w.heap.size, i, none⟩).isSome = true := fun i hi => by
    rw [World.cell?_alloc_lt _ _ _ (by simp)]
    have := (arr_new w).cell i 0 (by rw [List.getElem?_replicate, if_pos hi])
    rw [this]
    rfl
  have hC := read_calls (grp_kind (B := w.heap.size + 1) (b := w.heap.size + 1)) s hs Grp.new _ hnew (by simp) (by simp)
  unfold parse6
  have hgood := read_good (R := grpReader) s.data.toList 0 Grp.new
  generalize grpReader.read s.data.toList 0 Grp.new = x at hC hgood
  have HG : Hid _ := hgood
  clear hgood hh
  go_enter Tryd.func18, Tryd.ntmps18
  go_wp2_with fail
  generalize (w.alloc (.cells #[.int .u8 0, .int .u8 0, .int .u8 0, .int .u8 0, .int .u8 0, .int .u8 0, .int .u8 0, .int .u8 0, .int .u8 0, .int .u8 0, .int .u8 0, .int .u8 0, .int .u8 0, .int .u8 0, .int .u8 0, .int .u8 0] 31)).alloc (.cells #[.slice none 0 0, .string ⟨#[]⟩, .int .u16 0, .int .i64 0, .bool false, .int .i64 0, .bool false, .int .u8 0, .int .u8 0, .int .u8 0, .int .i64 0, .int .i64 0, .bool false] 84) = W0 at hC hnew hB0 hty harr ⊢
  refine hC.mono ?_
  rintro e W1 ⟨hT, hx⟩
  clear hC hnew
  have hty1 : Typed W1 w.heap.size 31 := by
    obtain ⟨cs, hc⟩ := hty
    exact ⟨cs, (hT.below.block w.heap.size (Nat.lt_succ_self _)).trans hc⟩
  have harr1 : ∀ i, i < 16 → (W1.cell? ⟨w.heap.size, i, none⟩).isSome = true := fun i hi => by
    rw [hT.below.cell (p := ⟨w.heap.size, i, none⟩) (Nat.lt_succ_self _)]
    exact harr i hi
  have hB1 : Below w.heap.size w W1 := hB0.trans (hT.below.mono (Nat.le_succ _))
  clear hT hB0 hty harr
  cases x with
  | bad n =>
    subst hx
    have hfz := hty1.open
    have H1 : Hid _ := harr1
    have hst : (Instr.storeAt 31 (.pointer (some ⟨w.heap.size, 0, none⟩)) _).run Tryd.prog W1 = _ := store_zero harr1 hfz
    have HV : Hid _ := Below.setCells (Nat.le_refl _) ((List.replicate 16 (0 : Int)).map (fun z => Value.int .u8 z)) 0 W1 hB1
    have HA5 : Hid _ := arr_stored (l := List.replicate 16 0) rfl harr1 hty1
    generalize W1.setCells w.heap.size 0 ((List.replicate 16 (0 : Int)).map (fun z => Value.int .u8 z)) = V at hst HV HA5
    clear harr1 hfz
    have HST : Hid _ := hst
    clear hst
    go_wp2_with ((with_reducible show wpList _ _ _ _ _ _); refine wpList_store_run rfl (.tmp 2) (.tmp 16) 31 rfl rfl rfl HST.out ?_)
    exact bodyPost_ret (results_cell3 Tryd.results18 rfl (loadVar16 HA5.out)) rfl ⟨rfl, HV.out⟩
  | good g =>
    obtain ⟨rfl, hD⟩ := hx
    have hA := grp_addr hD.cells hD.ok (fun e => Grp.whole_full hD.ok (HG.out g rfl) e)
    go_wp2_with fail
    refine hA.mono ?_
    rintro e W2 ⟨rfl, hB2⟩
    clear hA
    have hlt : w.heap.size < W1.heap.size := by obtain ⟨cs, hc⟩ := hty1; exact (Array.getElem?_eq_some_iff.1 hc).1
    have hty2 : Typed W2 w.heap.size 31 := by
      obtain ⟨cs, hc⟩ := hty1
      exact ⟨cs, (hB2.block w.heap.size hlt).trans hc⟩
    have harr2 : ∀ i, i < 16 → (W2.cell? ⟨w.heap.size, i, none⟩).isSome = true := fun i hi => by
      rw [hB2.cell (p := ⟨w.heap.size, i, none⟩) hlt]
      exact harr1 i hi
    have hB3 : Below w.heap.size w W2 := hB1.trans (hB2.mono hB1.size)
    have hl16 : g.addr.length = 16 := Grp.addr_len hD.ok (HG.out g rfl)
    have hfz := hty2.open
    go_wp2_with (refine wpList_store_run rfl (.tmp 2) (.tmp 18) 31 rfl rfl rfl (store16 g.addr hl16 harr2 hfz) ?_)
    have hV := Below.setCells (Nat.le_refl _) (g.addr.map (fun z => Value.int .u8 z)) 0 W2 hB3
    have hA5 := arr_stored (l := g.addr) hl16 harr2 hty2
    exact bodyPost_ret (results_cell3 Tryd.results18 rfl (loadVar16 hA5)) rfl ⟨rfl, hV⟩

end Go.Proofs.YtlpbffcijhgelaaDoor

namespace Go.Proofs.YtlpbffcijhgelaaDoor
open Go Go.RowKit
set_option linter.unusedVariables false
set_option linter.unusedSimpArgs false

theorem lbit_u8 (z : Int) (k : Nat) (h0 : 0 ≤ z) (h1 : z < 256) : bits .and .u8 (z / 2 ^ k) 1 = ((bk z.toNat k : Nat) : Int) := by
  have e : z / 2 ^ k = ((z.toNat / 2 ^ k : Nat) : Int) := by
    obtain ⟨n, rfl⟩ := Int.eq_ofNat_of_zero_le h0
    simp
  have hlt : z.toNat / 2 ^ k < 256 := Nat.lt_of_le_of_lt (Nat.div_le_self _ _) (by omega)
  have h := u8_and_nat (z.toNat / 2 ^ k) 1 hlt (by decide)
  rw [e]
  rw [show ((1 : Nat) : Int) = 1 from rfl] at h
  rw [h, Nat.and_one_is_mod]
  rfl

/-- All bits from n on are 0. -/
def lowB (zs : List Int) (n : Nat) : Bool := decide (∀ i, i < 8 * zs.length → n ≤ i → bitN zs i = 0)

set_option maxHeartbeats 1000000 in
set_option maxRecDepth 100000 in
theorem Low4_calls (a0 a1 a2 a3 : Int) (n : Nat) (w : World) (hf : FitB [a0, a1, a2, a3]) (hn : n ≤ 32) :
    Calls Tryd.prog 69 #[.agg #[.int .u8 a0, .int .u8 a1, .int .u8 a2, .int .u8 a3], .int .i64 n] w fun e w' => e = .returned (.bool (lowB [a0, a1, a2, a3] n)) ∧ Below w.heap.size w w' := by
  have hB := (Below.refl w.heap.size w).alloc (Nat.le_refl _) (.cells #[.int .u8 a0, .int .u8 a1, .int .u8 a2, .int .u8 a3] 23)
  have hc : ∀ j, j < 4 → (w.alloc (.cells #[.int .u8 a0, .int .u8 a1, .int .u8 a2, .int .u8 a3] 23)).cell? ⟨w.heap.size, j, none⟩ = some (.int .u8 ([a0, a1, a2, a3][j]?.getD 0)) := by
    intro j hj
    rw [World.cell?_alloc_new]
    match j, hj with
    | 0, _ => rfl
    | 1, _ => rfl
    | 2, _ => rfl
    | 3, _ => rfl
    | n + 4, hj => omega
  have HC : Hid _ := hc
  have HB : Hid _ := hB
  clear hc hB
  go_enter Tryd.func69, Tryd.ntmps69
  go_wp2
  generalize w.alloc (.cells #[.int .u8 a0, .int .u8 a1, .int .u8 a2, .int .u8 a3] 23) = w1 at *
  go_loopw [5] (fun i wr => ∃ k : Nat, n ≤ k ∧ k ≤ 32 ∧ i = .int .i64 k ∧ (∀ i, n ≤ i → i < k → bitN [a0, a1, a2, a3] i = 0) ∧ wr = w1) (fun i _ => 32 - (intOf i).toNat)
  case atStart => exact ⟨n, Nat.le_refl _, hn, rfl, fun i h1 h2 => by omega, rfl⟩
  case round =>
    obtain ⟨k, hk1, hk2, rfl, hal, rfl⟩ := hrel
    have HA : Hid _ := hal
    clear hal
    by_cases hlt : k < 32
    · have hcc := HC.out (k / 8) (by omega)
      have hfit := fit_at hf (k / 8)
      have hbit := lbit_u8 ([a0, a1, a2, a3][k / 8]?.getD 0) (7 - k % 8) hfit.1 hfit.2
      have hbn : bitN [a0, a1, a2, a3] k = bk ([a0, a1, a2, a3][k / 8]?.getD 0).toNat (7 - k % 8) := rfl
      have hb2 := bitN_lt [a0, a1, a2, a3] k
      have hyes : bitN [a0, a1, a2, a3] k = 0 → ∀ i, n ≤ i → i < k + 1 → bitN [a0, a1, a2, a3] i = 0 := fun h0 i h1 h2 => by
        by_cases c : i = k
        · rw [c]; exact h0
        · exact HA.out i h1 (by omega)
      have hno : bitN [a0, a1, a2, a3] k ≠ 0 → lowB [a0, a1, a2, a3] n = false := fun h0 => by
        unfold lowB
        exact decide_eq_false (fun h => h0 (h k (by simp; omega) hk1))
      rw [← hbn] at hbit
      generalize [a0, a1, a2, a3][k / 8]?.getD 0 = z at *
      generalize bitN [a0, a1, a2, a3] k = bb at *
      have HY : Hid _ := hyes
      have HN : Hid _ := hno
      clear hyes hno hbn HA
      have hbb : bb = 0 ∨ bb = 1 := by omega
      rcases hbb with rfl | rfl
      · go_wp2
        exact ⟨⟨k + 1, by omega, by omega, by simp, HY.out rfl, trivial⟩, by simp [intOf]; omega⟩
      · go_wp2
        go_ret
        rw [HN.out (by decide)]
        exact ⟨rfl, HB.out⟩
    · have hlow : lowB [a0, a1, a2, a3] n = true := by
        unfold lowB
        exact decide_eq_true (fun i hi hn' => HA.out i hn' (by simp at hi; omega))
      have HL : Hid _ := hlow
      clear hlow
      go_wp2
      go_ret
      rw [HL.out]
      exact ⟨rfl, HB.out⟩

end Go.Proofs.YtlpbffcijhgelaaDoor
