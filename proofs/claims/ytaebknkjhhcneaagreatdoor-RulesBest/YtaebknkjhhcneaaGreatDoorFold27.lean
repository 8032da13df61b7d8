/-
  Prefix6.
  How far a text of rules is read: plainly, and in memory.
  The reader of a text in memory.
  Check of a domain of one rule.
-/
import Derived.Test.YtaebknkjhhcneaaGreatDoorFold25
import Derived.Test.YtaebknkjhhcneaaGreatDoorFold04
import Derived.Test.YtaebknkjhhcneaaGreatDoorSixM
import Derived.Test.YtaebknkjhhcneaaGreatDoorFold17
import Derived.Test.YtaebknkjhhcneaaGreatDoorShelf
import Derived.Test.YtaebknkjhhcneaaGreatDoorLa6
import Derived.Test.YtaebknkjhhcneaaGreatDoorFold13
import Derived.Test.YtaebknkjhhcneaaGreatDoorFold19
import Derived.Test.YtaebknkjhhcneaaGreatDoorRd3
import Derived.Great.BuildSlice
import Derived.Test.YtaebknkjhhcneaaGreatDoorFold26
namespace Go.Proofs.YtaebknkjhhcneaaGreatDoor
open Go Go.RowKit
set_option linter.unusedVariables false
set_option linter.unusedSimpArgs false

/-- What was read whole had a whole address ahead of its slash. -/
theorem pre_whole_addr {σ : Type} {R : Reader σ} {most : Int} : ∀ (l : List UInt8) (pos : Nat) (p p' : Pre σ), (p.slashed = true → R.whole p.addr = true) → (p.num.begun = true → p.slashed = true) → (preReader R most).read l pos p = .good p' → R.whole p'.addr = true
  | [], pos, p, p', h1, h2, h => by
    unfold Reader.read at h
    split at h
    · rename_i hw
      injection h with h
      rw [← h]
      exact h1 (h2 hw)
    · cases h
  | c :: l, pos, p, p', h1, h2, h => by
    unfold Reader.read at h
    split at h
    · cases h
    · rename_i q hq
      refine pre_whole_addr l _ q p' ?_ ?_ h
      · have hq' : preTake R most p c.toNat = some q := hq
        unfold preTake at hq'
        split at hq'
        · rename_i hs
          obtain ⟨n, _, rfl⟩ := Option.map_eq_some_iff.1 hq'
          exact h1
        · split at hq'
          · rename_i hs hc
            cases hq'
            exact fun _ => hc.2
          · rename_i hs hc
            obtain ⟨n, _, rfl⟩ := Option.map_eq_some_iff.1 hq'
            exact fun e => absurd e hs
      · have hq' : preTake R most p c.toNat = some q := hq
        unfold preTake at hq'
        split at hq'
        · rename_i hs
          obtain ⟨n, _, rfl⟩ := Option.map_eq_some_iff.1 hq'
          exact fun _ => hs
        · split at hq'
          · cases hq'
            exact fun _ => rfl
          · obtain ⟨n, _, rfl⟩ := Option.map_eq_some_iff.1 hq'
            exact h2

/-- A grouped stays where another block is written. -/
theorem grp_frame {B b c : Nat} (hne : c ≠ b) (st : Grp) (w w' : World) (o k : Nat) (ht : Typed w b 228) (h : GrpIn B c st w) (g : Wrote b o k w w') : GrpIn B c st w' :=
  ⟨h.cells.move (g.other c hne) (fun G cs hG => g.other G (fun e => by
    obtain ⟨cs', hc⟩ := ht
    rw [e, hc] at hG
    cases hG)), h.ok⟩

def PxPost (v : Value) (w : World) (e : Ending) (w' : World) : Prop := e = .returned v ∧ Below w.heap.size w w'

theorem Grp.addr_fit {g : Grp} (hk : g.Ok) : FitB g.addr := by
  have h1 : FitB g.given := by
    unfold Grp.given
    intro z hz
    have hv := hk.value
    split at hz
    · rcases List.mem_append.1 hz with h | h
      · exact ⟨(hk.bytes z h).1, by have := (hk.bytes z h).2; omega⟩
      · unfold Dot.addr at h
        have t0 := hk.tail.e0; have t1 := hk.tail.e1; have t2 := hk.tail.e2; have t3 := hk.tail.num
        simp only [List.mem_cons, List.not_mem_nil, or_false] at h
        rcases h with rfl | rfl | rfl | rfl
        · exact ⟨t0.1, by have := t0.2; omega⟩
        · exact ⟨t1.1, by have := t1.2; omega⟩
        · exact ⟨t2.1, by have := t2.2; omega⟩
        · exact ⟨t3.1, by have := t3.2; omega⟩
    · split at hz
      · rcases List.mem_append.1 hz with h | h
        · exact ⟨(hk.bytes z h).1, by have := (hk.bytes z h).2; omega⟩
        · simp only [List.mem_cons, List.not_mem_nil, or_false] at h
          rcases h with rfl | rfl <;> omega
      · exact ⟨(hk.bytes z hz).1, by have := (hk.bytes z hz).2; omega⟩
  unfold Grp.addr
  split
  · intro z hz
    rcases List.mem_append.1 hz with h | h
    · rcases List.mem_append.1 h with h | h
      · exact h1 z (List.mem_of_mem_take h)
      · rw [(List.mem_replicate.1 h).2]
        decide
    · exact h1 z (List.mem_of_mem_drop h)
  · exact h1

def Pre.new6 : Pre Grp := ⟨Grp.new, false, ⟨0, false⟩⟩

theorem pre6_kind (n : Nat) : Kind (preReader grpReader 128) (n + 1) (fun j => j = n + 1 ∨ j = n + 2) 229 (.pointer (some ⟨n + 2, 0, none⟩)) 237 238 (PreIn 223 (.pointer (some ⟨n + 1, 0, none⟩)) (GrpIn (n + 1) (n + 1)) 128 (n + 2)) :=
  pre_kind (grp_kind (B := n + 1) (b := n + 1)) (by omega) (by omega) (by decide) (grp_frame (by omega))

def prefix6E (l : List UInt8) (x : End (Pre Grp)) : Value :=
  match x with
  | .bad n => .tuple #[P6 (List.replicate 16 0) 0, .int .i64 n, .int .i64 20]
  | .good p => if okP6 p.addr.addr p.num.value then .tuple #[P6 p.addr.addr p.num.value, .int .i64 0, .int .i64 0] else .tuple #[P6 (List.replicate 16 0) 0, .int .i64 (Lib.indexByte l 47), .int .i64 21]


theorem w0_pre6 (w : World) : ∃ W0, W0 = ((w.alloc (.cells #[.int .u8 0, .int .u8 0, .int .u8 0, .int .u8 0, .int .u8 0, .int .u8 0, .int .u8 0, .int .u8 0, .int .u8 0, .int .u8 0, .int .u8 0, .int .u8 0, .int .u8 0, .int .u8 0, .int .u8 0, .int .u8 0, .int .i64 0] 26)).alloc (.cells #[.slice none 0 0, .string ⟨#[]⟩, .int .u16 0, .int .i64 0, .bool false, .int .i64 0, .bool false, .int .u8 0, .int .u8 0, .int .u8 0, .int .i64 0, .int .i64 0, .bool false] 221)).alloc (.cells #[.iface 223 (.pointer (some ⟨w.heap.size + 1, 0, none⟩)), .int .i64 128, .bool false, .int .i64 0, .bool false] 228) ∧ PreIn 223 (.pointer (some ⟨w.heap.size + 1, 0, none⟩)) (GrpIn (w.heap.size + 1) (w.heap.size + 1)) 128 (w.heap.size + 2) Pre.new6 W0 ∧ Below w.heap.size w W0 ∧ W0.heap[w.heap.size]? = some (.cells #[.int .u8 0, .int .u8 0, .int .u8 0, .int .u8 0, .int .u8 0, .int .u8 0, .int .u8 0, .int .u8 0, .int .u8 0, .int .u8 0, .int .u8 0, .int .u8 0, .int .u8 0, .int .u8 0, .int .u8 0, .int .u8 0, .int .i64 0] 26) ∧ W0.heap.size = w.heap.size + 3 := by
  refine ⟨_, rfl, ?_⟩
  have a0 : (((w.alloc (.cells #[.int .u8 0, .int .u8 0, .int .u8 0, .int .u8 0, .int .u8 0, .int .u8 0, .int .u8 0, .int .u8 0, .int .u8 0, .int .u8 0, .int .u8 0, .int .u8 0, .int .u8 0, .int .u8 0, .int .u8 0, .int .u8 0, .int .i64 0] 26)).alloc (.cells #[.slice none 0 0, .string ⟨#[]⟩, .int .u16 0, .int .i64 0, .bool false, .int .i64 0, .bool false, .int .u8 0, .int .u8 0, .int .u8 0, .int .i64 0, .int .i64 0, .bool false] 221)).alloc (.cells #[.iface 223 (.pointer (some ⟨w.heap.size + 1, 0, none⟩)), .int .i64 128, .bool false, .int .i64 0, .bool false] 228)).heap[w.heap.size]? = some (.cells #[.int .u8 0, .int .u8 0, .int .u8 0, .int .u8 0, .int .u8 0, .int .u8 0, .int .u8 0, .int .u8 0, .int .u8 0, .int .u8 0, .int .u8 0, .int .u8 0, .int .u8 0, .int .u8 0, .int .u8 0, .int .u8 0, .int .i64 0] 26) := by
    rw [Below.heap_alloc _ _ _ (by simp; omega), Below.heap_alloc _ _ _ (by simp)]
    exact alloc_new _ _
  have a1 : (((w.alloc (.cells #[.int .u8 0, .int .u8 0, .int .u8 0, .int .u8 0, .int .u8 0, .int .u8 0, .int .u8 0, .int .u8 0, .int .u8 0, .int .u8 0, .int .u8 0, .int .u8 0, .int .u8 0, .int .u8 0, .int .u8 0, .int .u8 0, .int .i64 0] 26)).alloc (.cells #[.slice none 0 0, .string ⟨#[]⟩, .int .u16 0, .int .i64 0, .bool false, .int .i64 0, .bool false, .int .u8 0, .int .u8 0, .int .u8 0, .int .i64 0, .int .i64 0, .bool false] 221)).alloc (.cells #[.iface 223 (.pointer (some ⟨w.heap.size + 1, 0, none⟩)), .int .i64 128, .bool false, .int .i64 0, .bool false] 228)).heap[w.heap.size + 1]? = some (.cells #[.slice none 0 0, .string ⟨#[]⟩, .int .u16 0, .int .i64 0, .bool false, .int .i64 0, .bool false, .int .u8 0, .int .u8 0, .int .u8 0, .int .i64 0, .int .i64 0, .bool false] 221) := by
    rw [Below.heap_alloc _ _ _ (by simp)]
    exact alloc_new2 _ _ _
  have a2 : (((w.alloc (.cells #[.int .u8 0, .int .u8 0, .int .u8 0, .int .u8 0, .int .u8 0, .int .u8 0, .int .u8 0, .int .u8 0, .int .u8 0, .int .u8 0, .int .u8 0, .int .u8 0, .int .u8 0, .int .u8 0, .int .u8 0, .int .u8 0, .int .i64 0] 26)).alloc (.cells #[.slice none 0 0, .string ⟨#[]⟩, .int .u16 0, .int .i64 0, .bool false, .int .i64 0, .bool false, .int .u8 0, .int .u8 0, .int .u8 0, .int .i64 0, .int .i64 0, .bool false] 221)).alloc (.cells #[.iface 223 (.pointer (some ⟨w.heap.size + 1, 0, none⟩)), .int .i64 128, .bool false, .int .i64 0, .bool false] 228)).heap[w.heap.size + 2]? = some (.cells #[.iface 223 (.pointer (some ⟨w.heap.size + 1, 0, none⟩)), .int .i64 128, .bool false, .int .i64 0, .bool false] 228) := by
    simpa using alloc_new ((w.alloc (.cells #[.int .u8 0, .int .u8 0, .int .u8 0, .int .u8 0, .int .u8 0, .int .u8 0, .int .u8 0, .int .u8 0, .int .u8 0, .int .u8 0, .int .u8 0, .int .u8 0, .int .u8 0, .int .u8 0, .int .u8 0, .int .u8 0, .int .i64 0] 26)).alloc (.cells #[.slice none 0 0, .string ⟨#[]⟩, .int .u16 0, .int .i64 0, .bool false, .int .i64 0, .bool false, .int .u8 0, .int .u8 0, .int .u8 0, .int .i64 0, .int .i64 0, .bool false] 221)) (.cells #[.iface 223 (.pointer (some ⟨w.heap.size + 1, 0, none⟩)), .int .i64 128, .bool false, .int .i64 0, .bool false] 228)
  refine ⟨⟨⟨⟨⟨_, a1⟩, Nat.le_refl _, ⟨.slice none 0 0, ?_, World.ownsRow_nil _ _ _ _⟩, ?_, ?_, ?_, ?_, ?_, ?_, ⟨?_, ?_, ?_, ?_, ?_, ?_⟩⟩, Grp.ok_new⟩, ?_, ?_, ?_, ?_, ?_, ⟨by decide, by decide⟩, ⟨_, a2⟩⟩, (((Below.refl _ w).alloc (Nat.le_refl _) _).alloc (by simp) _).alloc (by simp; omega) _, a0, by simp⟩
  all_goals (unfold World.cell?; first | (rw [a1]; rfl) | (rw [a2]; rfl))


set_option maxHeartbeats 8000000 in
set_option maxRecDepth 100000 in
theorem prefix6_calls (s : ByteArray) (hs : s.size ≤ 140737488355328) (w : World) :
    Calls Tryz.prog 125 #[.string s] w fun e w' => PxPost (prefix6E s.data.toList ((preReader grpReader 128).read s.data.toList 0 Pre.new6)) w e w' := by
  generalize hQ : (fun e w' => PxPost (prefix6E s.data.toList ((preReader grpReader 128).read s.data.toList 0 Pre.new6)) w e w') = Q
  have HQ : Hid _ := hQ
  clear hQ
  obtain ⟨W0, hW0, hnew, hB0, hres, hsz⟩ := w0_pre6 w
  have hC := read_calls (pre6_kind w.heap.size) s hs Pre.new6 _ hnew (by rw [hsz]; omega) (fun k hk => by rw [hsz]; omega)
  have HWH : Hid _ := fun p' => pre_whole_addr (R := grpReader) (most := 128) s.data.toList 0 Pre.new6 p' (fun e => by cases e) (fun e => by cases e)
  have HC : Hid _ := hC
  clear hC
  generalize (preReader grpReader 128).read s.data.toList 0 Pre.new6 = x at HC HWH HQ
  have HX : Hid _ := hW0
  clear hW0
  go_enter Tryz.func125, Tryz.ntmps125
  go_wp2_with fail
  rw [← HX.out]
  refine Calls.mono HC.out ?_
  rintro e W1 ⟨hT, hx⟩
  have hblk := (hT.below.block w.heap.size (Nat.lt_succ_self _)).trans hres
  have hB1 : Below w.heap.size w W1 := hB0.trans (hT.below.mono (Nat.le_succ _))
  have lR := (Array.getElem?_eq_some_iff.1 hblk).1
  clear hT hB0 hres hsz hnew HC HX
  cases x with
  | bad n =>
    subst hx
    obtain ⟨w6, hst6, hb6, ho6⟩ := box_store (ty := 26) (c := [.int .u8 0, .int .u8 0, .int .u8 0, .int .u8 0, .int .u8 0, .int .u8 0, .int .u8 0, .int .u8 0, .int .u8 0, .int .u8 0, .int .u8 0, .int .u8 0, .int .u8 0, .int .u8 0, .int .u8 0, .int .u8 0, .int .i64 0]) Tryz.sizeOf26 hblk rfl (cp6 (List.replicate 16 0) 0) rfl (cp6_one _ _)
    have HST : Hid _ := hst6
    have HB : Hid _ := buildZ6
    have HRES : Hid _ := loadVarP6 (l := List.replicate 16 0) (n := 0) rfl (CellsAt.pfx rfl hb6).1
    clear hst6
    go_wp2_with first
      | ((with_reducible show wpList _ _ _ _ _ _); refine armS (.tmp 2) (.tmp 20) 26 rfl rfl rfl rfl HST.out ?_)
    refine bodyPost_ret (res3c Tryz.results125 (R := ⟨w.heap.size, 0, none⟩) rfl HRES.out) rfl ?_
    rw [← HQ.out]
    exact ⟨rfl, hB1.trans (ho6.below (Nat.le_refl _))⟩
  | good p =>
    obtain ⟨rfl, hP⟩ := hx
    have hok := hP.inner.ok
    have hwh := HWH.out p rfl
    have hl16 : p.addr.addr.length = 16 := Grp.addr_len hok hwh
    have c3 : W1.cell? ⟨w.heap.size + 1 + 1, 3, none⟩ = some (.int .i64 p.num.value) := hP.c3
    have l3 := World.block_lt_of_cell? W1 _ c3
    have HA : Hid (∀ X, Below W1.heap.size W1 X → Calls Tryz.prog 154 #[.pointer (some ⟨w.heap.size + 1, 0, none⟩)] X fun e w' => e = .returned (addrV p.addr.addr) ∧ Below X.heap.size X w') := fun X hX => by
      refine grp_addr (B := w.heap.size + 1) (hP.inner.cells.move (hX.block _ (by
        obtain ⟨cs, hcs⟩ := hP.inner.cells.typed
        exact (Array.getElem?_eq_some_iff.1 hcs).1)) (fun G cs hG => hX.block G (Array.getElem?_eq_some_iff.1 hG).1)) hok (fun e => Grp.whole_full hok hwh e)
    have hnum := hP.ok
    have hfit : FitB p.addr.addr := Grp.addr_fit hok
    generalize hLe : p.addr.addr = L at *
    have hnv : 0 ≤ p.num.value ∧ p.num.value ≤ 128 := ⟨hnum.1, hnum.2⟩
    generalize hNe : p.num.value = N at *
    have HE : Hid _ := And.intro hLe hNe
    clear hLe hNe
    clear hP hok hwh HWH hnum
    have HCK : Hid _ := fun X => Check6_calls L N X hfit hl16 ⟨by omega, by omega⟩
    have HBL : Hid (∀ X, (Instr.build 26 #[(0, addrV L), (1, .int .i64 N)]).run Tryz.prog X = .ok (P6 L N) X) := fun X => build6 L N hl16 X
    have hd1 : Below W1.heap.size W1 W1.drew := (Below.refl _ W1).drew
    have c3d : W1.drew.cell? ⟨w.heap.size + 2, 3, none⟩ = some (.int .i64 N) := c3
    have l2 : w.heap.size + 2 < W1.heap.size := l3
    go_wp2_with fail
    refine region_midG (fun a0 a' w' => ∃ b9, a' = ((((((a0.put (some 23) (.pointer (some ⟨w.heap.size + 2, 3, none⟩))).put (some 24) (.pointer (some ⟨w.heap.size + 2, 3, none⟩))).put (some 25) (.int .i64 N)).put (some 22) (addrV L)).put (some 26) (P6 L N)).put (some 9) (.pointer (some ⟨b9, 0, none⟩))) ∧ W1.heap.size ≤ b9 ∧ w'.heap[b9]? = some (.cells (cp6 L N).toArray 26) ∧ Below W1.heap.size W1 w') ?_ ?_
    · skip

      refine wp_region_held (S := fun W => W.cell? ⟨w.heap.size + 2, 3, none⟩ = some (.int .i64 N)) (by kernel_rfl) ?_
      show wpAnyH _ _ _ _ _ 7 (Array.replicate 7 false) _ W1.drew
      refine take_one (i := 1) (d := some 23) (v := .pointer (some ⟨w.heap.size + 2, 3, none⟩)) rfl rfl rfl (by kernel_rfl) (by kernel_rfl) (by kernel_rfl) (fun _ _ _ _ _ h => h.elim) (fun W hS => by kernel_rfl) c3d ?_
      simp only [Act.put, List.setIfInBounds_toArray, List.set_cons_zero, List.set_cons_succ]
      refine take_one (i := 2) (d := some 24) (v := .pointer (some ⟨w.heap.size + 2, 3, none⟩)) rfl rfl rfl (by kernel_rfl) (by kernel_rfl) (by kernel_rfl) (fun _ _ _ _ _ h => h.elim) (fun W hS => by kernel_rfl) c3d ?_
      simp only [Act.put, List.setIfInBounds_toArray, List.set_cons_zero, List.set_cons_succ]
      refine take_one (i := 3) (d := some 25) (v := .int .i64 N) rfl rfl rfl (by kernel_rfl) (by kernel_rfl) (by kernel_rfl) (fun _ _ _ _ _ h => h.elim) (fun W hS => ex_loadG 24 rfl rfl hS) c3d ?_
      simp only [Act.put, List.setIfInBounds_toArray, List.set_cons_zero, List.set_cons_succ]
      refine all_two (i1 := 0) (i2 := 5) (by kernel_rfl) rfl rfl rfl rfl ?_ ?_
      · refine wp_call (d := some 22) 154 _ rfl (by kernel_rfl) (callG (HA.out _ hd1)) ?_
        rintro _ W2 ⟨rfl, hB2⟩
        have hB2' := hd1.trans hB2
        have c32 := (hB2'.cell (p := ⟨w.heap.size + 2, 3, none⟩) l2).trans c3
        refine ⟨c32, ?_⟩
        simp only [Act.put, List.setIfInBounds_toArray, List.set_cons_zero, List.set_cons_succ]
        refine take_one (i := 4) (d := some 26) (v := P6 L N) rfl rfl rfl (by kernel_rfl) (by kernel_rfl) (by kernel_rfl) (fun _ _ _ _ _ h => h.elim) (fun W hS => ex_buildA 26 [(0, .tmp 22), (1, .tmp 25)] rfl (vs := [(0, addrV L), (1, .int .i64 N)]) rfl (HBL.out _)) c32 ?_
        simp only [Act.put, List.setIfInBounds_toArray, List.set_cons_zero, List.set_cons_succ]
        obtain ⟨w5, hst, hb5, hB5⟩ := box_new (ty := 26) Tryz.sizeOf26 W2 [.int .u8 0, .int .u8 0, .int .u8 0, .int .u8 0, .int .u8 0, .int .u8 0, .int .u8 0, .int .u8 0, .int .u8 0, .int .u8 0, .int .u8 0, .int .u8 0, .int .u8 0, .int .u8 0, .int .u8 0, .int .u8 0, .int .i64 0] rfl (cp6 L N) (cp6_length L N hl16) (cp6_one _ _)
        have hB2a := hB2'.trans (((Below.refl _ W2).alloc (Nat.le_refl _) (.cells #[.int .u8 0, .int .u8 0, .int .u8 0, .int .u8 0, .int .u8 0, .int .u8 0, .int .u8 0, .int .u8 0, .int .u8 0, .int .u8 0, .int .u8 0, .int .u8 0, .int .u8 0, .int .u8 0, .int .u8 0, .int .u8 0, .int .i64 0] 26)).mono hB2'.size)
        have c32a := (hB2a.cell (p := ⟨w.heap.size + 2, 3, none⟩) l2).trans c3
        refine all_one (i := 5) (by kernel_rfl) rfl rfl ?_
        refine wp_allocA (d := some 9) 26 rfl rfl (v := .pointer (some ⟨W2.heap.size, 0, none⟩)) (w2 := W2.alloc (.cells #[.int .u8 0, .int .u8 0, .int .u8 0, .int .u8 0, .int .u8 0, .int .u8 0, .int .u8 0, .int .u8 0, .int .u8 0, .int .u8 0, .int .u8 0, .int .u8 0, .int .u8 0, .int .u8 0, .int .u8 0, .int .u8 0, .int .i64 0] 26)) (by simp [execOp, go_sem]) ⟨c32a, ?_⟩
        simp only [Act.put, List.setIfInBounds_toArray, List.set_cons_zero, List.set_cons_succ]
        have hB5' := hB2'.trans (hB5.mono hB2'.size)
        refine all_one (i := 6) (by kernel_rfl) rfl rfl ?_
        refine wp_storeA (.tmp 9) (.tmp 26) 26 rfl rfl rfl rfl hst ⟨(hB5'.cell (p := ⟨w.heap.size + 2, 3, none⟩) l2).trans c3, ?_⟩
        refine wpAnyH_done (by kernel_rfl) ?_ _
        exact ⟨W2.heap.size, rfl, hB2'.size, hb5, hB5'⟩
      · have hBa := hd1.trans ((Below.refl _ W1.drew).alloc (Nat.le_refl _) (.cells #[.int .u8 0, .int .u8 0, .int .u8 0, .int .u8 0, .int .u8 0, .int .u8 0, .int .u8 0, .int .u8 0, .int .u8 0, .int .u8 0, .int .u8 0, .int .u8 0, .int .u8 0, .int .u8 0, .int .u8 0, .int .u8 0, .int .i64 0] 26))
        have hk := blk_new W1.drew (.cells #[.int .u8 0, .int .u8 0, .int .u8 0, .int .u8 0, .int .u8 0, .int .u8 0, .int .u8 0, .int .u8 0, .int .u8 0, .int .u8 0, .int .u8 0, .int .u8 0, .int .u8 0, .int .u8 0, .int .u8 0, .int .u8 0, .int .i64 0] 26)
        have c3a := (hBa.cell (p := ⟨w.heap.size + 2, 3, none⟩) l2).trans c3
        refine wp_allocA (d := some 9) 26 rfl rfl (v := .pointer (some ⟨W1.heap.size, 0, none⟩)) (w2 := W1.drew.alloc (.cells #[.int .u8 0, .int .u8 0, .int .u8 0, .int .u8 0, .int .u8 0, .int .u8 0, .int .u8 0, .int .u8 0, .int .u8 0, .int .u8 0, .int .u8 0, .int .u8 0, .int .u8 0, .int .u8 0, .int .u8 0, .int .u8 0, .int .i64 0] 26)) (by simp [execOp, go_sem]) ⟨c3a, ?_⟩
        simp only [Act.put, List.setIfInBounds_toArray, List.set_cons_zero, List.set_cons_succ]
        refine all_one (i := 0) (by kernel_rfl) rfl rfl ?_
        refine wp_call (d := some 22) 154 _ rfl (by kernel_rfl) (callG (HA.out _ hBa)) ?_
        rintro _ W2 ⟨rfl, hB2⟩
        have hB2' := hBa.trans (hB2.mono hBa.size)
        have hk2 := (hB2.block W1.heap.size (by simp)).trans hk
        have c32 := (hB2'.cell (p := ⟨w.heap.size + 2, 3, none⟩) l2).trans c3
        refine ⟨c32, ?_⟩
        simp only [Act.put, List.setIfInBounds_toArray, List.set_cons_zero, List.set_cons_succ]
        refine take_one (i := 4) (d := some 26) (v := P6 L N) rfl rfl rfl (by kernel_rfl) (by kernel_rfl) (by kernel_rfl) (fun _ _ _ _ _ h => h.elim) (fun W hS => ex_buildA 26 [(0, .tmp 22), (1, .tmp 25)] rfl (vs := [(0, addrV L), (1, .int .i64 N)]) rfl (HBL.out _)) c32 ?_
        simp only [Act.put, List.setIfInBounds_toArray, List.set_cons_zero, List.set_cons_succ]
        obtain ⟨w5, hst, hb5, ho5⟩ := box_store (ty := 26) (c := [.int .u8 0, .int .u8 0, .int .u8 0, .int .u8 0, .int .u8 0, .int .u8 0, .int .u8 0, .int .u8 0, .int .u8 0, .int .u8 0, .int .u8 0, .int .u8 0, .int .u8 0, .int .u8 0, .int .u8 0, .int .u8 0, .int .i64 0]) Tryz.sizeOf26 hk2 rfl (cp6 L N) (cp6_length L N hl16) (cp6_one _ _)
        have hB5' := hB2'.trans (ho5.below (Nat.le_refl _))
        refine all_one (i := 6) (by kernel_rfl) rfl rfl ?_
        refine wp_storeA (.tmp 9) (.tmp 26) 26 rfl rfl rfl rfl hst ⟨(hB5'.cell (p := ⟨w.heap.size + 2, 3, none⟩) l2).trans c3, ?_⟩
        refine wpAnyH_done (by kernel_rfl) ?_ _
        exact ⟨W1.heap.size, rfl, Nat.le_refl _, hb5, hB5'⟩
    rintro a' V ⟨b9, rfl, hb9, hbx, hBV⟩
    simp only [Act.put, List.setIfInBounds_toArray, List.set_cons_zero, List.set_cons_succ]
    have HLD : Hid _ := loadP6 hl16 (CellsAt.pfx hl16 hbx).1
    have hrV := (hBV.block w.heap.size lR).trans hblk
    have hBV1 := hB1.trans (hBV.mono hB1.size)
    have l9 := (Array.getElem?_eq_some_iff.1 hbx).1
    have lV := hBV.size
    clear HA HBL c3 c3d hd1 hBV
    go_wp2_with first
      | ((with_reducible show wpList _ _ _ _ _ _); refine armL (.tmp 9) 26 rfl rfl rfl HLD.out ?_)
    refine Calls.mono (HCK.out _) ?_
    rintro e W4 ⟨rfl, hB4⟩
    have hr4 := (hB4.block w.heap.size (by omega)).trans hrV
    have hx4 := (hB4.block b9 l9).trans hbx
    have hBw4 := hBV1.trans (hB4.mono hBV1.size)
    clear HLD HCK hrV hbx hBV1 hB4
    cases hq : okP6 L N
    · obtain ⟨w6, hst6, hb6, ho6⟩ := box_store (ty := 26) (c := [.int .u8 0, .int .u8 0, .int .u8 0, .int .u8 0, .int .u8 0, .int .u8 0, .int .u8 0, .int .u8 0, .int .u8 0, .int .u8 0, .int .u8 0, .int .u8 0, .int .u8 0, .int .u8 0, .int .u8 0, .int .u8 0, .int .i64 0]) Tryz.sizeOf26 hr4 rfl (cp6 (List.replicate 16 0) 0) rfl (cp6_one _ _)
      have HST : Hid _ := hst6
      have HB : Hid _ := buildZ6
      have HRES : Hid _ := loadVarP6 (l := List.replicate 16 0) (n := 0) rfl (CellsAt.pfx rfl hb6).1
      have HI : Hid _ := Tryz.strings_IndexByte s 47 W4
      have hE : prefix6E s.data.toList (.good p) = .tuple #[P6 (List.replicate 16 0) 0, .int .i64 (Lib.indexByte s.data.toList 47), .int .i64 21] := by
        unfold prefix6E
        dsimp only
        rw [HE.out.1, HE.out.2, hq]
        rfl
      simp only [Bool.false_eq_true, if_false]
      clear hst6
      go_wp2_with fail
      refine Calls.mono HI.out ?_
      rintro e W5 ⟨rfl, rfl⟩
      go_wp2_with first
        | ((with_reducible show wpList _ _ _ _ _ _); refine armS (.tmp 2) (.tmp 30) 26 rfl rfl rfl rfl HST.out ?_)
      refine bodyPost_ret (res3c Tryz.results125 (R := ⟨w.heap.size, 0, none⟩) rfl HRES.out) rfl ?_
      rw [← HQ.out]
      exact ⟨by rw [hE]; rfl, hBw4.trans (ho6.below (Nat.le_refl _))⟩
    · obtain ⟨w6, hst6, hb6, ho6⟩ := box_store (ty := 26) (c := [.int .u8 0, .int .u8 0, .int .u8 0, .int .u8 0, .int .u8 0, .int .u8 0, .int .u8 0, .int .u8 0, .int .u8 0, .int .u8 0, .int .u8 0, .int .u8 0, .int .u8 0, .int .u8 0, .int .u8 0, .int .u8 0, .int .i64 0]) Tryz.sizeOf26 hr4 rfl (cp6 L N) (cp6_length L N hl16) (cp6_one _ _)
      have HST : Hid _ := hst6
      have HLD : Hid _ := loadP6 hl16 (CellsAt.pfx hl16 hx4).1
      have HRES : Hid _ := loadVarP6 hl16 (CellsAt.pfx hl16 hb6).1
      have hE : prefix6E s.data.toList (.good p) = .tuple #[P6 L N, .int .i64 0, .int .i64 0] := by
        unfold prefix6E
        dsimp only
        rw [HE.out.1, HE.out.2, hq]
        rfl
      clear hst6
      simp only [if_true]
      go_wp2_with first
        | ((with_reducible show wpList _ _ _ _ _ _); refine armL (.tmp 9) 26 rfl rfl rfl HLD.out ?_)
        | ((with_reducible show wpList _ _ _ _ _ _); refine armS (.tmp 2) (.tmp 33) 26 rfl rfl rfl rfl HST.out ?_)
      refine bodyPost_ret (res3c Tryz.results125 (R := ⟨w.heap.size, 0, none⟩) rfl HRES.out) rfl ?_
      rw [← HQ.out]
      exact ⟨by rw [hE]; rfl, hBw4.trans (ho6.below (Nat.le_refl _))⟩

end Go.Proofs.YtaebknkjhhcneaaGreatDoor

namespace Go.Proofs.YtaebknkjhhcneaaGreatDoor
open Go Go.RowKit
set_option linter.unusedVariables false
set_option linter.unusedSimpArgs false

/-- What texts say, plainly; none: they don't. -/
def num? (b : ByteArray) : Option Nat := (List.range 100).find? (fun n => Lib.decDigits n == b.data.toList)
def px6 (b : ByteArray) : Option (List Int × Int) :=
  if 1048576 < b.size then none else
  match (preReader grpReader 128).read b.data.toList 0 Pre.new6 with
  | .good p => if okP6 p.addr.addr p.num.value then some (p.addr.addr, p.num.value) else none
  | .bad _ => none
def px4 (b : ByteArray) : Option (List Int × Int) :=
  if 1048576 < b.size then none else
  match (preReader dotReader 32).read b.data.toList 0 Pre.new4 with
  | .good p => if okP4 p.addr.e0 p.addr.e1 p.addr.e2 p.addr.num.value p.num.value then some ([p.addr.e0, p.addr.e1, p.addr.e2, p.addr.num.value], p.num.value) else none
  | .bad _ => none
def ad6 (b : ByteArray) : Option (List Int) :=
  if 1048576 < b.size then none else
  match grpReader.read b.data.toList 0 .new with
  | .good g => some g.addr
  | .bad _ => none
def wMode : ByteArray := ⟨#[109, 111, 100, 101]⟩
def wRelay : ByteArray := ⟨#[114, 101, 108, 97, 121]⟩
def wPrefix : ByteArray := ⟨#[112, 114, 101, 102, 105, 120]⟩
def wRule : ByteArray := ⟨#[114, 117, 108, 101]⟩
def wEa : ByteArray := ⟨#[101, 97]⟩
def wOff : ByteArray := ⟨#[111, 102, 102, 115, 101, 116]⟩
def wFmr : ByteArray := ⟨#[102, 109, 114]⟩

structure RdS where
  mode : Int
  relay : List Int
  pl : List Int
  pn : Int
  rules : List Ru
  lines : Nat
  ats : List Int

def RdS.new : RdS := ⟨0, List.replicate 16 0, List.replicate 16 0, 0, [], 0, []⟩

def modeNo (b : ByteArray) : Option Nat := if b = modeB 1 then some 1 else if b = modeB 2 then some 2 else if b = modeB 3 then some 3 else none

def mkRu (p6 p4 : Option (List Int × Int)) (e o : Option Nat) (f : Bool) : Option Ru :=
  match p6, p4, e, o with
  | some a, some b, some e, some o => some ⟨a.1, a.2, b.1, b.2, e, o, f⟩
  | _, _, _, _ => none

def ruleOf : List (ByteArray × Int) → Option Ru
  | [a0, a1, a2, a3, a4, a5, a6] => if a0.1 = wRule ∧ a3.1 = wEa ∧ a5.1 = wOff then mkRu (px6 a1.1) (px4 a2.1) (num? a4.1) (num? a6.1) false else none
  | [a0, a1, a2, a3, a4, a5, a6, a7] => if a0.1 = wRule ∧ a3.1 = wEa ∧ a5.1 = wOff ∧ a7.1 = wFmr then mkRu (px6 a1.1) (px4 a2.1) (num? a4.1) (num? a6.1) true else none
  | _ => none

def take0 (st : RdS) : List (ByteArray × Int) → Option RdS
  | [a, b] => if a.1 = wMode then (modeNo b.1).map (fun (m : Nat) => { st with mode := (m : Int), lines := 1 }) else none
  | _ => none
def take1 (st : RdS) : List (ByteArray × Int) → Option RdS
  | [a, b] => if st.mode = 1 then (if a.1 = wRelay then (ad6 b.1).map (fun r => { st with relay := r, lines := 2 }) else none)
    else (if a.1 = wPrefix then (px6 b.1).map (fun p => { st with pl := p.1, pn := p.2, lines := 2 }) else none)
  | _ => none
def takeS (st : RdS) (ln : Ln) : Option RdS :=
  if st.lines = 0 then take0 st ln.words
  else if st.lines = 1 then take1 st ln.words
  else if 100000 < st.lines then none
  else (ruleOf ln.words).map (fun r => { st with rules := st.rules ++ [r], ats := st.ats ++ [ln.num], lines := st.lines + 1 })

theorem atoi_small : ∀ n : Fin 100, Lib.atoi (Lib.decDigits n.val) = some (n.val : Int) ∧ (Lib.decDigits n.val).length ≤ 18 := by decide +kernel

theorem num?_spec {b : ByteArray} {n : Nat} (h : num? b = some n) : n < 100 ∧ (⟨(Lib.decDigits n).toArray⟩ : ByteArray) = b ∧ b.size ≤ 18 ∧ Lib.atoi b.data.toList = some (n : Int) := by
  unfold num? at h
  have h1 := List.find?_some h
  have h2 := List.mem_range.1 (List.mem_of_find?_eq_some h)
  have e : Lib.decDigits n = b.data.toList := by simpa using h1
  have k := atoi_small ⟨n, h2⟩
  refine ⟨h2, ?_, ?_, ?_⟩
  · rw [e]
  · have := k.2
    rw [e] at this
    show b.data.size ≤ 18
    rw [← Array.length_toList]
    exact this
  · rw [← e]
    exact k.1

theorem pre_ok {σ : Type} {R : Reader σ} {most : Int} {O : σ → Prop} (hO : ∀ s r s', R.take s r = some s' → O s → O s') : ∀ (l : List UInt8) (pos : Nat) (p p' : Pre σ), O p.addr → p.num.Ok most → (preReader R most).read l pos p = .good p' → O p'.addr ∧ p'.num.Ok most
  | [], pos, p, p', h1, h2, h => by
    unfold Reader.read at h
    split at h
    · injection h with h
      rw [← h]
      exact ⟨h1, h2⟩
    · cases h
  | c :: l, pos, p, p', h1, h2, h => by
    unfold Reader.read at h
    split at h
    · cases h
    · rename_i q hq
      have hq' : preTake R most p c.toNat = some q := hq
      have k : O q.addr ∧ q.num.Ok most := by
        unfold preTake at hq'
        split at hq'
        · obtain ⟨n, hn, rfl⟩ := Option.map_eq_some_iff.1 hq'
          exact ⟨h1, Num.take_ok hn h2⟩
        · split at hq'
          · cases hq'
            exact ⟨h1, h2⟩
          · obtain ⟨n, hn, rfl⟩ := Option.map_eq_some_iff.1 hq'
            exact ⟨hO _ _ _ hn h1, h2⟩
      exact pre_ok hO l _ q p' k.1 k.2 h

theorem rd_ok {σ : Type} {R : Reader σ} {O : σ → Prop} (hO : ∀ s r s', R.take s r = some s' → O s → O s') : ∀ (l : List UInt8) (pos : Nat) (p p' : σ), O p → R.read l pos p = .good p' → O p'
  | [], pos, p, p', h1, h => by
    unfold Reader.read at h
    split at h
    · injection h with h
      rw [← h]
      exact h1
    · cases h
  | c :: l, pos, p, p', h1, h => by
    unfold Reader.read at h
    split at h
    · cases h
    · rename_i q hq
      exact rd_ok hO l _ q p' (hO _ _ _ hq h1) h

theorem px6_spec {b : ByteArray} {p : List Int × Int} (h : px6 b = some p) :
    FitB p.1 ∧ p.1.length = 16 ∧ okP6 p.1 p.2 = true ∧ (0 ≤ p.2 ∧ p.2 ≤ 128) ∧ ∀ W, Calls Tryz.prog 125 #[.string b] W fun e w' => e = .returned (.tuple #[.agg (cp6 p.1 p.2).toArray, .int .i64 0, .int .i64 0]) ∧ Below W.heap.size W w' := by
  unfold px6 at h
  have hs : b.size ≤ 140737488355328 := by
    split at h
    · cases h
    · omega
  rw [if_neg (fun k => by rw [if_pos k] at h; cases h)] at h
  have hc := fun W => prefix6_calls b hs W
  have hwh := fun p' => pre_whole_addr (R := grpReader) (most := 128) b.data.toList 0 Pre.new6 p' (fun e => by cases e) (fun e => by cases e)
  have hgo := fun p' => pre_ok (R := grpReader) (most := 128) (O := Grp.Ok) (fun s r s' h hk => Grp.take_ok h hk) b.data.toList 0 Pre.new6 p' Grp.ok_new ⟨by decide, by decide⟩
  cases hx : (preReader grpReader 128).read b.data.toList 0 Pre.new6 with
  | bad n => rw [hx] at h; cases h
  | good q =>
    rw [hx] at h
    simp only at h
    split at h
    · rename_i hok
      cases h
      obtain ⟨g1, g2⟩ := hgo q hx
      refine ⟨Grp.addr_fit g1, Grp.addr_len g1 (hwh q hx), hok, ⟨g2.1, g2.2⟩, fun W => ?_⟩
      have hw := hc W
      rw [hx] at hw
      refine Calls.mono hw ?_
      rintro e w' ⟨rfl, hb⟩
      refine ⟨?_, hb⟩
      unfold prefix6E
      simp only [hok, if_true]
    · cases h

theorem px4_spec {b : ByteArray} {p : List Int × Int} (h : px4 b = some p) :
    FitB p.1 ∧ p.1.length = 4 ∧ (0 ≤ p.2 ∧ p.2 ≤ 32) ∧ ∀ W, Calls Tryz.prog 157 #[.string b] W fun e w' => e = .returned (.tuple #[.agg (cp4 p.1 p.2).toArray, .int .i64 0, .int .i64 0]) ∧ Below W.heap.size W w' := by
  unfold px4 at h
  have hs : b.size ≤ 140737488355328 := by
    split at h
    · cases h
    · omega
  rw [if_neg (fun k => by rw [if_pos k] at h; cases h)] at h
  have hc := fun W => prefix4_calls b hs W
  have hgo := fun p' => pre_ok (R := dotReader) (most := 32) (O := Dot.Ok) (fun s r s' h hk => Dot.take_ok h hk) b.data.toList 0 Pre.new4 p' Dot.ok_new ⟨by decide, by decide⟩
  cases hx : (preReader dotReader 32).read b.data.toList 0 Pre.new4 with
  | bad n => rw [hx] at h; cases h
  | good q =>
    rw [hx] at h
    simp only at h
    split at h
    · rename_i hok
      cases h
      obtain ⟨g1, g2⟩ := hgo q hx
      refine ⟨?_, rfl, ⟨g2.1, g2.2⟩, fun W => ?_⟩
      · intro z hz
        simp only [List.mem_cons, List.not_mem_nil, or_false] at hz
        have t0 := g1.e0; have t1 := g1.e1; have t2 := g1.e2; have t3 := g1.num
        rcases hz with rfl | rfl | rfl | rfl
        · exact ⟨t0.1, by have := t0.2; omega⟩
        · exact ⟨t1.1, by have := t1.2; omega⟩
        · exact ⟨t2.1, by have := t2.2; omega⟩
        · exact ⟨t3.1, by have := t3.2; omega⟩
      · have hw := hc W
        rw [hx] at hw
        refine Calls.mono hw ?_
        rintro e w' ⟨rfl, hb⟩
        refine ⟨?_, hb⟩
        unfold prefix4E
        simp only [hok, if_true]
        rfl
    · cases h

theorem ad6_spec {b : ByteArray} {l : List Int} (h : ad6 b = some l) :
    FitB l ∧ l.length = 16 ∧ ∀ W, Calls Tryz.prog 123 #[.string b] W fun e w' => e = .returned (.tuple #[.agg (u8s l).toArray, .int .i64 0, .int .i64 0]) ∧ Below W.heap.size W w' := by
  unfold ad6 at h
  have hs : b.size ≤ 140737488355328 := by
    split at h
    · cases h
    · omega
  rw [if_neg (fun k => by rw [if_pos k] at h; cases h)] at h
  have hc := fun W => parse6_calls b hs W
  have hgo := fun p' => rd_ok (R := grpReader) (O := Grp.Ok) (fun s r s' h hk => Grp.take_ok h hk) b.data.toList 0 Grp.new p' Grp.ok_new
  have hwh := fun p' => read_good (R := grpReader) b.data.toList 0 Grp.new p'
  unfold parse6 at hc
  cases hx : grpReader.read b.data.toList 0 Grp.new with
  | bad n => rw [hx] at h; cases h
  | good q =>
    rw [hx] at h hc
    cases h
    refine ⟨Grp.addr_fit (hgo q hx), Grp.addr_len (hgo q hx) (hwh q hx), fun W => ?_⟩
    refine Calls.mono (hc W) ?_
    rintro e w' ⟨rfl, hb⟩
    exact ⟨rfl, hb⟩

end Go.Proofs.YtaebknkjhhcneaaGreatDoor

namespace Go.Proofs.YtaebknkjhhcneaaGreatDoor
open Go Go.RowKit
set_option linter.unusedVariables false
set_option linter.unusedSimpArgs false

def rdL (st : RdS) (vr va : Value) : List Value := [.int .i64 st.mode] ++ (u8s st.relay ++ (cp6 st.pl st.pn ++ [vr, .int .i64 (st.lines : Nat), va]))
def cellsR : List Ru → List Value
  | [] => []
  | r :: rs => rc r ++ cellsR rs
theorem cellsR_push (L : List Ru) (x : Ru) : cellsR (L ++ [x]) = cellsR L ++ rc x := by
  induction L with
  | nil => simp [cellsR]
  | cons y r ih => simp [cellsR, ih]
abbrev RowR (base : Nat) (W : World) (v : Value) (L : List Ru) : Prop := W.ownsRow base 65 25 v L.length (cellsR L)
abbrev RowI (base : Nat) (W : World) (v : Value) (L : List Int) : Prop := W.ownsRow base 3 1 v L.length (L.map (fun z => Value.int .i64 z))

structure RdS.In (st : RdS) : Prop where
  rf : FitB st.relay
  rl : st.relay.length = 16
  pf : FitB st.pl
  pl : st.pl.length = 16
  pn : 0 ≤ st.pn ∧ st.pn ≤ 128
  ru : ∀ r ∈ st.rules, r.In
  rn : st.rules.length ≤ st.lines
  an : st.ats.length ≤ st.lines

theorem row_move {base : Nat} {W W' : World} {e : TypeId} {size : Nat} {v : Value} {n : Nat} {xs : List Value} (h : W.ownsRow base e size v n xs) (hk : ∀ (g : Nat) (cs : Array Value), W.heap[g]? = some (.cells cs e) → W'.heap[g]? = W.heap[g]?) : W'.ownsRow base e size v n xs := by
  refine ⟨h.1, ?_⟩
  rcases h.2 with h0 | ⟨g, cap, cur, e, hb, hg, hr⟩
  · exact .inl h0
  · exact .inr ⟨g, cap, cur, e, hb, (hk g cur hg).trans hg, hr⟩
theorem rowS_form {base : Nat} {W : World} {e : TypeId} {size : Nat} {v : Value} {n : Nat} {xs : List Value} (h : W.ownsRow base e size v n xs) : ∃ a cap, v = .slice a n cap := by
  rcases h.2 with ⟨rfl, h0⟩ | ⟨g, cap, cur, rfl, _⟩
  · exact ⟨none, 0, by rw [h0]⟩
  · exact ⟨_, _, rfl⟩
theorem row_other {base : Nat} {W : World} {e : TypeId} {size : Nat} {v : Value} {n : Nat} {xs : List Value} (h : W.ownsRow base e size v n xs) {k : Nat} {o : Obj} (hk : W.heap[k]? = some o) (ho : ∀ c, o ≠ .cells c e) : some k ≠ v.ownBlock := by
  rcases h.2 with ⟨rfl, _⟩ | ⟨g, cap, cur, rfl, hb, hg, _⟩
  · intro e; cases e
  · intro e
    simp only [Value.ownBlock, Option.some.injEq] at e
    rw [e, hg] at hk
    exact ho _ (Option.some.inj hk).symm

/-- The reader's box, and its rows. -/
structure RdI (B R : Nat) (st : RdS) (W : World) : Prop where
  wf : st.In
  hB : B ≤ R
  box : ∃ vr va, W.heap[R]? = some (.cells (rdL st vr va).toArray 142) ∧ RowR B W vr st.rules ∧ RowI B W va st.ats

theorem RdI.keep {B R : Nat} {st : RdS} {w w' : World} (h : RdI B R st w) (hk : ∀ (k : Nat) (o : Obj), w.heap[k]? = some o → Fgn o → w'.heap[k]? = some o) : RdI B R st w' := by
  obtain ⟨vr, va, hb, h1, h2⟩ := h.box
  refine ⟨h.wf, h.hB, vr, va, hk _ _ hb ⟨by decide, by decide⟩, row_move h1 fun g cs hg => ?_, row_move h2 fun g cs hg => ?_⟩
  · exact (hk _ _ hg ⟨by decide, by decide⟩).trans hg.symm
  · exact (hk _ _ hg ⟨by decide, by decide⟩).trans hg.symm
theorem RdI.below {B R : Nat} {st : RdS} {w w' : World} (h : RdI B R st w) (hb : Below w.heap.size w w') : RdI B R st w' :=
  h.keep fun k o hk _ => (hb.block k (Array.getElem?_eq_some_iff.1 hk).1).trans hk

/-- The box is written. -/
theorem RdI.put {B R : Nat} {st st' : RdS} {W W' : World} {vr va : Value} (hw : st'.In) (h : RdI B R st W) (hb : W.heap[R]? = some (.cells (rdL st vr va).toArray 142)) (h1 : RowR B W vr st.rules) (h2 : RowI B W va st.ats) (hr : st'.rules = st.rules) (ha : st'.ats = st.ats) (ho : Only R W W') (hb' : W'.heap[R]? = some (.cells (rdL st' vr va).toArray 142)) : RdI B R st' W' := by
  refine ⟨hw, h.hB, vr, va, hb', ?_, ?_⟩
  · rw [hr]
    exact row_move h1 fun g cs hg => ho.other g (fun e => by rw [e, hb] at hg; cases hg)
  · rw [ha]
    exact row_move h2 fun g cs hg => ho.other g (fun e => by rw [e, hb] at hg; cases hg)

theorem rdL_length {st : RdS} (h : st.In) (vr va : Value) : (rdL st vr va).length = 37 := by simp [rdL, u8s_length, h.rl, cp6_length _ _ h.pl]
theorem rdL_set0 (st : RdS) (vr va : Value) (m : Int) : (rdL st vr va).set 0 (.int .i64 m) = rdL { st with mode := m } vr va := rfl
theorem rdL_set34 {st : RdS} (h : st.In) (vr va v : Value) : (rdL st vr va).set 34 v = rdL st v va := by
  simp [rdL, List.set_append, u8s_length, h.rl, cp6_length _ _ h.pl]
theorem rdL_set35 {st : RdS} (h : st.In) (vr va : Value) (n : Nat) : (rdL st vr va).set 35 (.int .i64 (n : Nat)) = rdL { st with lines := n } vr va := by
  simp [rdL, List.set_append, u8s_length, h.rl, cp6_length _ _ h.pl]
theorem rdL_set36 {st : RdS} (h : st.In) (vr va v : Value) : (rdL st vr va).set 36 v = rdL st vr v := by
  simp [rdL, List.set_append, u8s_length, h.rl, cp6_length _ _ h.pl]
theorem rdL_get {st : RdS} (h : st.In) (vr va : Value) : (rdL st vr va)[0]? = some (.int .i64 st.mode) ∧ (rdL st vr va)[34]? = some vr ∧ (rdL st vr va)[35]? = some (.int .i64 (st.lines : Nat)) ∧ (rdL st vr va)[36]? = some va := by
  refine ⟨rfl, ?_, ?_, ?_⟩ <;> simp [rdL, List.getElem?_append, u8s_length, h.rl, cp6_length _ _ h.pl]
theorem rdL_relay {st : RdS} (h : st.In) (vr va : Value) (l : List Int) : (rdL st vr va).take 1 ++ (u8s l ++ (rdL st vr va).drop (1 + 16)) = rdL { st with relay := l } vr va := by
  simp [rdL, List.drop_append, u8s_length, h.rl, cp6_length _ _ h.pl]
theorem rdL_prefix {st : RdS} (h : st.In) (vr va : Value) (l : List Int) (n : Int) : (rdL st vr va).take 17 ++ (cp6 l n ++ (rdL st vr va).drop (17 + 17)) = rdL { st with pl := l, pn := n } vr va := by
  simp [rdL, List.take_append, List.drop_append, u8s_length, h.rl, cp6_length _ _ h.pl]

/-- What a line that was taken leaves. -/
def TkPost (B R : Nat) (st' : RdS) (w : World) (e : Ending) (w' : World) : Prop :=
  e = .returned (.tuple #[]) ∧ RdI B R st' w' ∧ Below B w w' ∧ ∀ (k : Nat) (o : Obj), w.heap[k]? = some o → ((∃ s p, o = .stringIter s p) ∨ ∃ c, o = .cells c 170) → w'.heap[k]? = some o

theorem iter_ne_reader {w : World} {k R : Nat} {o : Obj} {c : Array Value} (hk : w.heap[k]? = some o) (ho : (∃ s p, o = .stringIter s p) ∨ ∃ c, o = .cells c 170) (hR : w.heap[R]? = some (.cells c 142)) : k ≠ R := fun e => by
  rw [e, hR] at hk
  rcases ho with ⟨s, p, rfl⟩ | ⟨c', rfl⟩ <;> cases hk

theorem LineAt.only {w w' : World} {L R : Nat} {num beh : Int} {ws : List (ByteArray × Int)} {c : Array Value} (h : LineAt w L num ws beh) (ho : Only R w w') (hR : w.heap[R]? = some (.cells c 142)) : LineAt w' L num ws beh := by
  obtain ⟨v, k1, k2⟩ := h
  refine ⟨v, (ho.other L (fun e => ?_)).trans k1, k2.keep fun g cs hg => ho.other g (fun e => ?_)⟩
  · rw [e, hR] at k1
    cases k1
  · rw [e, hR] at hg
    cases hg

end Go.Proofs.YtaebknkjhhcneaaGreatDoor

namespace Go.Proofs.YtaebknkjhhcneaaGreatDoor
open Go Go.RowKit
set_option linter.unusedVariables false
set_option linter.unusedSimpArgs false

set_option maxRecDepth 100000 in
set_option maxHeartbeats 4000000 in
theorem Check_one (d : Dom) (hd : d.In) (r : Ru) (hr : r.In) (v : Value) (w : World) (hv : RsAt w v [r]) (hm : d.mode = 1) (hok : relayOk d [r]) (hc : ckE r = 0) :
    Calls Tryz.prog 9 #[DV d v] w fun e w' => e = .returned (.tuple #[.int .i64 0, .int .i64 0]) ∧ Below w.heap.size w w' := by
  generalize hQ : (fun (e : Ending) (w' : World) => e = .returned (.tuple #[.int .i64 0, .int .i64 0]) ∧ Below w.heap.size w w') = Q
  have HQ : Hid _ := hQ
  clear hQ
  have hrs : ∀ x ∈ [r], x.In := fun x hx => by rw [List.mem_singleton.1 hx]; exact hr
  have hB0 := (Below.refl w.heap.size w).alloc (Nat.le_refl _) (DO d v)
  have hd0 := blk_new w (DO d v)
  have hv0 := hv.below hB0
  have HD : Hid _ := fun W (hW : Below w.heap.size w W) => domain_mapE d hd [r] hrs (by simp) (by simp) v W (RsAt.below hv hW) hm hok
  have HC : Hid _ := fun W => Check_any' r hr W
  rw [hc] at HC
  generalize hW0 : w.alloc (DO d v) = W0 at *
  have hW0' : w.alloc (.cells (dc d v).toArray 29) = W0 := hW0
  obtain ⟨ad, cap, rfl, k1, k2, k3⟩ := hv0
  obtain ⟨g, off, rfl, hg, hcl⟩ := k3 (by simp)
  have hc0 := hcl 0 r rfl
  rw [Nat.zero_mul, Nat.add_zero] at hc0
  have c34 := blk_cell hd0 (dc_34 hd _)
  have h1 : 1 ≤ cap := k1
  clear hW0 hok hv k3 hcl k1
  have eL : ([r] : List Ru).length = 1 := rfl
  simp only [eL] at *
  go_enter Tryz.func9, Tryz.ntmps9
  go_wp2
  go_loopw [16] (fun i wr => ∃ k : Nat, k ≤ 1 ∧ i = .int .i64 k ∧ Below W0.heap.size W0 wr) (fun i _ => 1 - (intOf i).toNat)
  case atStart => exact ⟨0, by omega, rfl, Below.refl _ _⟩
  case round =>
    obtain ⟨k, hk, rfl, hBk⟩ := hrel
    have hk2 : k = 0 ∨ k = 1 := by omega
    rcases hk2 with rfl | rfl
    · have hck : CellsAt wr g off (rc r) := fun j u hj => (hBk.cell (p := ⟨g, _, none⟩) hg).trans (hc0 j u hj)
      have HLR : Hid ((Instr.loadAt 65 (.pointer (some ⟨g, off, none⟩))).run Tryz.prog wr = .ok (RV r) wr) := agg_load (n := 25) (fun w => by kernel_rfl) (fun w => by kernel_rfl) (rc_length hr) hck
      obtain ⟨w5, hst, hb5, hB5⟩ := box_new (ty := 65) (n := 25) (fun w => by kernel_rfl) wr zRL rfl (rc r) (rc_length hr) (rc_one r)
      have HST : Hid _ := hst
      have HLB : Hid ((Instr.loadAt 65 (.pointer (some ⟨wr.heap.size, 0, none⟩))).run Tryz.prog w5 = .ok (RV r) w5) := agg_load (n := 25) (fun w => by kernel_rfl) (fun w => by kernel_rfl) (rc_length hr) (CellsAt.blk hb5)
      have hB5' := hBk.trans (hB5.mono hBk.size)
      clear hst hck hc0 hb5 hB5
      go_wp2_with first
        | ((with_reducible show wpList _ _ _ _ _ _); refine armLv (.tmp 19) 65 rfl rfl rfl HLR.out ?_)
        | ((with_reducible show wpList _ _ _ _ _ _); refine armS (.tmp 5) (.tmp 20) 65 rfl rfl rfl rfl HST.out ?_)
        | ((with_reducible show wpList _ _ _ _ _ _); refine armLv (.tmp 5) 65 rfl rfl rfl HLB.out ?_)
      refine Calls.mono (HC.out _) ?_
      rintro _ w6 ⟨rfl, hB6⟩
      have HBN : Hid _ := hB5'.trans (hB6.mono hB5'.size)
      clear hB6 hB5'
      go_wp2
      go_roundw
      case rel => exact ⟨1, by omega, rfl, HBN.out⟩
      case measure => decide
    · have hd1 := (hBk.block _ (Array.getElem?_eq_some_iff.1 hd0).1).trans hd0
      have d34 := blk_cell hd1 (dc_34 hd _)
      have HBK : Hid _ := hBk
      go_wp2
      go_loopw [31] (fun i wr2 => ∃ k : Nat, k ≤ 1 ∧ i = .int .i64 k ∧ Below W0.heap.size W0 wr2) (fun i _ => 1 - (intOf i).toNat)
      case atStart => exact ⟨0, by omega, rfl, HBK.out⟩
      case round =>
        obtain ⟨k, hk, rfl, hBk2⟩ := hrel
        have hk2 : k = 0 ∨ k = 1 := by omega
        have hd2 := (hBk2.block _ (Array.getElem?_eq_some_iff.1 hd0).1).trans hd0
        have f34 := blk_cell hd2 (dc_34 hd _)
        rcases hk2 with rfl | rfl
        · have hck : CellsAt wr g off (rc r) := fun j u hj => (hBk2.cell (p := ⟨g, _, none⟩) hg).trans (hc0 j u hj)
          have HLR : Hid ((Instr.loadAt 65 (.pointer (some ⟨g, off, none⟩))).run Tryz.prog wr = .ok (RV r) wr) := agg_load (n := 25) (fun w => by kernel_rfl) (fun w => by kernel_rfl) (rc_length hr) hck
          obtain ⟨w5, hst, hb5, hB5⟩ := box_new (ty := 65) (n := 25) (fun w => by kernel_rfl) wr zRL rfl (rc r) (rc_length hr) (rc_one r)
          have HST : Hid _ := hst
          have hd5 := (hB5.block _ (Array.getElem?_eq_some_iff.1 hd2).1).trans hd2
          have g34 := blk_cell hd5 (dc_34 hd _)
          have HB5 : Hid _ := hBk2.trans (hB5.mono hBk2.size)
          clear hst hck hc0 hb5 hB5 d34 hd1 hBk HBK hBk2 c34
          go_wp2_with first
            | ((with_reducible show wpList _ _ _ _ _ _); refine armLv (.tmp 34) 65 rfl rfl rfl HLR.out ?_)
            | ((with_reducible show wpList _ _ _ _ _ _); refine armS (.tmp 8) (.tmp 35) 65 rfl rfl rfl rfl HST.out ?_)
          refine Calls.mono (contains_nil _ _ _ _) ?_
          rintro _ w6 ⟨rfl, hw6⟩
          subst hw6
          go_wp2
          go_roundw
          case rel =>
            refine ⟨_, _, _, _, _, _, _, _, _, _, _, _, _, _, _, _, _, ?_, rfl⟩
            exact ⟨1, by omega, rfl, HB5.out⟩
          case measure => exact (by decide : (1 : Nat) - 1 < 1 - 0)
        · have HL : Hid _ := loadD hd hd2
          have HB2 : Hid (Below w.heap.size w wr) := hB0.trans (hBk2.mono hB0.size)
          clear d34 hd1 hBk HBK hBk2 c34 hc0
          go_wp2_with first
            | ((with_reducible show wpList _ _ _ _ _ _); refine armLv (.tmp 1) 29 rfl rfl rfl HL.out ?_)
          refine Calls.mono (HD.out _ HB2.out) ?_
          rintro _ w6 ⟨rfl, hB6⟩
          have HBE : Hid _ := HB2.out.trans (hB6.mono HB2.out.size)
          clear hB6
          go_wp2
          try go_ret2
          rw [← HQ.out]
          exact ⟨rfl, HBE.out⟩

end Go.Proofs.YtaebknkjhhcneaaGreatDoor
