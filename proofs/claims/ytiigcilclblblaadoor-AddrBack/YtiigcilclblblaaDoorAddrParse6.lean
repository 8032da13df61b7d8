/-
  Parse6.
-/
import Derived.Test.YtiigcilclblblaaDoorAddrGaddr
import Derived.Test.YtiigcilclblblaaDoorAddrGgapA
import Derived.Test.YtiigcilclblblaaDoorAddrGgapB
import Derived.Test.YtiigcilclblblaaDoorAddrGgapC
import Derived.Test.YtiigcilclblblaaDoorAddrKind6
namespace Go.Proofs.YtiigcilclblblaaDoor
open Go Go.RowKit
set_option linter.unusedVariables false
set_option linter.unusedSimpArgs false

theorem store_zero {w : World} {R : Nat} (hc : ∀ i, i < 16 → (w.cell? ⟨R, i, none⟩).isSome = true) (hf : ∀ i, w.frozen? ⟨R, i, none⟩ = false) :
    (Instr.storeAt 31 (.pointer (some ⟨R, 0, none⟩)) (.agg #[.int .u8 0, .int .u8 0, .int .u8 0, .int .u8 0, .int .u8 0, .int .u8 0, .int .u8 0, .int .u8 0, .int .u8 0, .int .u8 0, .int .u8 0, .int .u8 0, .int .u8 0, .int .u8 0, .int .u8 0, .int .u8 0])).run Tryd.prog w = .ok () (w.setCells R 0 ((List.replicate 16 (0 : Int)).map (fun z => Value.int .u8 z))) := store16 (List.replicate 16 0) rfl hc hf

theorem grp_addr {B b : Nat} {g : Grp} {w : World} (h : GrpAt B b g w) (hk : g.Ok) (hfull : g.gapped = false → g.given.length = 16) :
    Calls Tryd.prog 56 #[.pointer (some ⟨b, 0, none⟩)] w fun e w' => e = .returned (addrV g.addr) ∧ Below w.heap.size w w' := by
  by_cases hgp : g.gapped = true
  · by_cases hd : g.dots = true
    · exact grp_addr_gapA h hk hgp hd
    · by_cases hp : g.part = []
      · exact grp_addr_gapB h hk hgp hd hp
      · exact grp_addr_gapC h hk hgp hd hp
  · have hgp' : g.gapped = false := by simpa using hgp
    exact grp_addr_full h hk hgp' (hfull hgp')

set_option maxHeartbeats 2000000 in
set_option maxRecDepth 100000 in
theorem parse6_calls (s : ByteArray) (hs : s.size ≤ 140737488355328) (w : World) :
    Calls Tryd.prog 18 #[.string s] w fun e w' => e = .returned (.tuple #[addrV (parse6 s.data.toList).1, .int .i64 (parse6 s.data.toList).2.1, .int .i64 (parse6 s.data.toList).2.2]) ∧ Below w.heap.size w w' := by
  have hh : ((w.alloc (.cells #[.int .u8 0, .int .u8 0, .int .u8 0, .int .u8 0, .int .u8 0, .int .u8 0, .int .u8 0, .int .u8 0, .int .u8 0, .int .u8 0, .int .u8 0, .int .u8 0, .int .u8 0, .int .u8 0, .int .u8 0, .int .u8 0] 31)).alloc (.cells #[.slice none 0 0, .string ⟨#[]⟩, .int .u16 0, .int .i64 0, .bool false, .int .i64 0, .bool false, .int .u8 0, .int .u8 0, .int .u8 0, .int .i64 0, .int .i64 0, .bool false] 84)).heap[w.heap.size + 1]? = some (.cells #[.slice none 0 0, .string ⟨#[]⟩, .int .u16 0, .int .i64 0, .bool false, .int .i64 0, .bool false, .int .u8 0, .int .u8 0, .int .u8 0, .int .i64 0, .int .i64 0, .bool false] 84) := by
    have := heap_alloc_new (w.alloc (.cells #[.int .u8 0, .int .u8 0, .int .u8 0, .int .u8 0, .int .u8 0, .int .u8 0, .int .u8 0, .int .u8 0, .int .u8 0, .int .u8 0, .int .u8 0, .int .u8 0, .int .u8 0, .int .u8 0, .int .u8 0, .int .u8 0] 31)) (.cells #[.slice none 0 0, .string ⟨#[]⟩, .int .u16 0, .int .i64 0, .bool false, .int .i64 0, .bool false, .int .u8 0, .int .u8 0, .int .u8 0, .int .i64 0, .int .i64 0, .bool false] 84)
    simpa using this
  have hnew : GrpIn (w.heap.size + 1) (w.heap.size + 1) Grp.new ((w.alloc (.cells #[.int .u8 0, .int .u8 0, .int .u8 0, .int .u8 0, .int .u8 0, .int .u8 0, .int .u8 0, .int .u8 0, .int .u8 0, .int .u8 0, .int .u8 0, .int .u8 0, .int .u8 0, .int .u8 0, .int .u8 0, .int .u8 0] 31)).alloc (.cells #[.slice none 0 0, .string ⟨#[]⟩, .int .u16 0, .int .i64 0, .bool false, .int .i64 0, .bool false, .int .u8 0, .int .u8 0, .int .u8 0, .int .i64 0, .int .i64 0, .bool false] 84)) := by
    refine ⟨⟨⟨_, hh⟩, Nat.le_refl _, ⟨.slice none 0 0, ?_, World.ownsRow_nil _ _ _ _⟩, ?_, ?_, ?_, ?_, ?_, ?_, ⟨?_, ?_, ?_, ?_, ?_, ?_⟩⟩, Grp.ok_new⟩ <;> (unfold World.cell?; rw [hh]; rfl)
  have hB0 : Below w.heap.size w ((w.alloc (.cells #[.int .u8 0, .int .u8 0, .int .u8 0, .int .u8 0, .int .u8 0, .int .u8 0, .int .u8 0, .int .u8 0, .int .u8 0, .int .u8 0, .int .u8 0, .int .u8 0, .int .u8 0, .int .u8 0, .int .u8 0, .int .u8 0] 31)).alloc (.cells #[.slice none 0 0, .string ⟨#[]⟩, .int .u16 0, .int .i64 0, .bool false, .int .i64 0, .bool false, .int .u8 0, .int .u8 0, .int .u8 0, .int .i64 0, .int .i64 0, .bool false] 84)) := ((Below.refl _ w).alloc (Nat.le_refl _) _).alloc (by simp) _
  have hty : Typed ((w.alloc (.cells #[.int .u8 0, .int .u8 0, .int .u8 0, .int .u8 0, .int .u8 0, .int .u8 0, .int .u8 0, .int .u8 0, .int .u8 0, .int .u8 0, .int .u8 0, .int .u8 0, .int .u8 0, .int .u8 0, .int .u8 0, .int .u8 0] 31)).alloc (.cells #[.slice none 0 0, .string ⟨#[]⟩, .int .u16 0, .int .i64 0, .bool false, .int .i64 0, .bool false, .int .u8 0, .int .u8 0, .int .u8 0, .int .i64 0, .int .i64 0, .bool false] 84)) w.heap.size 31 := Typed.alloc ⟨_, heap_alloc_new w _⟩ _
  have harr : ∀ i, i < 16 → (((w.alloc (.cells #[.int .u8 0, .int .u8 0, .int .u8 0, .int .u8 0, .int .u8 0, .int .u8 0, .int .u8 0, .int .u8 0, .int .u8 0, .int .u8 0, .int .u8 0, .int .u8 0, .int .u8 0, .int .u8 0, .int .u8 0, .int .u8 0] 31)).alloc (.cells #[.slice none 0 0, .string ⟨#[]⟩, .int .u16 0, .int .i64 0, .bool false, .int .i64 0, .bool false, .int .u8 0, .int .u8 0, .int .u8 0, .int .i64 0, .int .i64 0, .bool false] 84)).cell? ⟨w.heap.size, i, none⟩).isSome = true := fun i hi => by
    rw [World.cell?_alloc_lt _ _ _ (by simp)]
    have := (arr_new w).cell i 0 (by rw [List.getElem?_replicate, if_pos hi])
    rw [this]
    rfl
  have hC := read_calls (grp_kind (B := w.heap.size + 1) (b := w.heap.size + 1)) s hs Grp.new _ hnew (by simp) (by simp)
  unfold parse6
  have hgood := read_good (R := grpReader) s.data.toList 0 Grp.new
  generalize grpReader.read s.data.toList 0 Grp.new = x at hC hgood
  have HG : Hid _ := hgood
  clear hgood hh
  go_enter Tryd.func18, Tryd.ntmps18
  go_wp2_with fail
  generalize (w.alloc (.cells #[.int .u8 0, .int .u8 0, .int .u8 0, .int .u8 0, .int .u8 0, .int .u8 0, .int .u8 0, .int .u8 0, .int .u8 0, .int .u8 0, .int .u8 0, .int .u8 0, .int .u8 0, .int .u8 0, .int .u8 0, .int .u8 0] 31)).alloc (.cells #[.slice none 0 0, .string ⟨#[]⟩, .int .u16 0, .int .i64 0, .bool false, .int .i64 0, .bool false, .int .u8 0, .int .u8 0, .int .u8 0, .int .i64 0, .int .i64 0, .bool false] 84) = W0 at hC hnew hB0 hty harr ⊢
  refine hC.mono ?_
  rintro e W1 ⟨hT, hx⟩
  clear hC hnew
  have hty1 : Typed W1 w.heap.size 31 := by
    obtain ⟨cs, hc⟩ := hty
    exact ⟨cs, (hT.below.block w.heap.size (Nat.lt_succ_self _)).trans hc⟩
  have harr1 : ∀ i, i < 16 → (W1.cell? ⟨w.heap.size, i, none⟩).isSome = true := fun i hi => by
    rw [hT.below.cell (p := ⟨w.heap.size, i, none⟩) (Nat.lt_succ_self _)]
    exact harr i hi
  have hB1 : Below w.heap.size w W1 := hB0.trans (hT.below.mono (Nat.le_succ _))
  clear hT hB0 hty harr
  cases x with
  | bad n =>
    subst hx
    have hfz := hty1.open
    have H1 : Hid _ := harr1
    have hst : (Instr.storeAt 31 (.pointer (some ⟨w.heap.size, 0, none⟩)) _).run Tryd.prog W1 = _ := store_zero harr1 hfz
    have HV : Hid _ := Below.setCells (Nat.le_refl _) ((List.replicate 16 (0 : Int)).map (fun z => Value.int .u8 z)) 0 W1 hB1
    have HA5 : Hid _ := arr_stored (l := List.replicate 16 0) rfl harr1 hty1
    generalize W1.setCells w.heap.size 0 ((List.replicate 16 (0 : Int)).map (fun z => Value.int .u8 z)) = V at hst HV HA5
    clear harr1 hfz
    have HST : Hid _ := hst
    clear hst
    go_wp2_with ((with_reducible show wpList _ _ _ _ _ _); refine wpList_store_run rfl (.tmp 2) (.tmp 16) 31 rfl rfl rfl HST.out ?_)
    exact bodyPost_ret (results_cell3 Tryd.results18 rfl (loadVar16 HA5.out)) rfl ⟨rfl, HV.out⟩
  | good g =>
    obtain ⟨rfl, hD⟩ := hx
    have hA := grp_addr hD.cells hD.ok (fun e => Grp.whole_full hD.ok (HG.out g rfl) e)
    go_wp2_with fail
    refine hA.mono ?_
    rintro e W2 ⟨rfl, hB2⟩
    clear hA
    have hlt : w.heap.size < W1.heap.size := by obtain ⟨cs, hc⟩ := hty1; exact (Array.getElem?_eq_some_iff.1 hc).1
    have hty2 : Typed W2 w.heap.size 31 := by
      obtain ⟨cs, hc⟩ := hty1
      exact ⟨cs, (hB2.block w.heap.size hlt).trans hc⟩
    have harr2 : ∀ i, i < 16 → (W2.cell? ⟨w.heap.size, i, none⟩).isSome = true := fun i hi => by
      rw [hB2.cell (p := ⟨w.heap.size, i, none⟩) hlt]
      exact harr1 i hi
    have hB3 : Below w.heap.size w W2 := hB1.trans (hB2.mono hB1.size)
    have hl16 : g.addr.length = 16 := Grp.addr_len hD.ok (HG.out g rfl)
    have hfz := hty2.open
    go_wp2_with (refine wpList_store_run rfl (.tmp 2) (.tmp 18) 31 rfl rfl rfl (store16 g.addr hl16 harr2 hfz) ?_)
    have hV := Below.setCells (Nat.le_refl _) (g.addr.map (fun z => Value.int .u8 z)) 0 W2 hB3
    have hA5 := arr_stored (l := g.addr) hl16 harr2 hty2
    exact bodyPost_ret (results_cell3 Tryd.results18 rfl (loadVar16 hA5)) rfl ⟨rfl, hV⟩

end Go.Proofs.YtiigcilclblblaaDoor
