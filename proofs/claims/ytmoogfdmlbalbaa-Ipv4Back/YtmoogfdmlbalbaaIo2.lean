/-
  Reading options: option and next of package ipv4.
-/
import Derived.Test.YtmoogfdmlbalbaaIo1
namespace Go.Proofs.Ytmoogfdmlbalbaa
open Go Go.RowKit
set_option linter.unusedVariables false
set_option linter.unusedSimpArgs false

/-- Bytes that are left, in a block of an older world. -/
structure RowS (w : World) (s : Value) (ys : List Int) (b off cap : Nat) : Prop where
  val : s = .slice (some ⟨b, off, none⟩) ys.length cap
  room : ys.length ≤ cap
  lt : b < w.heap.size
  cell : ∀ j, j < ys.length → w.cell? ⟨b, off + j, none⟩ = some (.int .u8 (gz ys j))
  fit : Fit ys
  len : ys.length ≤ 140737488351232
theorem RowS.row {w : World} {s : Value} {ys : List Int} {b off cap : Nat} (h : RowS w s ys b off cap) : RowC w s ys :=
  ⟨h.fit, h.len, _, _, h.val, h.room, .inr ⟨b, off, rfl, h.lt, h.cell⟩⟩
theorem RowC.rowS {w : World} {s : Value} {ys : List Int} (h : RowC w s ys) (h0 : 0 < ys.length) : ∃ b off cap, RowS w s ys b off cap := by
  obtain ⟨b, off, cap, e, h1, h2, h3⟩ := h.some h0
  exact ⟨b, off, cap, e, h1, h2, h3, h.fit, h.len⟩
theorem gz_drop (ys : List Int) (n j : Nat) : gz (ys.drop n) j = gz ys (n + j) := by simp [gz]
theorem RowS.rest {w : World} {s : Value} {ys : List Int} {b off cap : Nat} (h : RowS w s ys b off cap) (n : Nat) (hn : n ≤ ys.length) : RowS w (restV b off ys.length cap n) (ys.drop n) b (nxt off cap n) (cap - n) := by
  have hr := h.room
  refine ⟨by rw [restV_eq]; simp, by simp; omega, h.lt, fun j hj => ?_, fun z hz => h.fit z (List.mem_of_mem_drop hz), by have := h.len; simp; omega⟩
  simp only [List.length_drop] at hj
  rw [gz_drop, ← h.cell (n + j) (by omega)]
  unfold nxt
  rw [if_neg (by omega), Nat.add_assoc]

/-- A list in its box. -/
structure ListW (w W : World) (R : Nat) (s : Value) (N : Nat) : Prop where
  blk : W.heap[R]? = some (.cells [s, .int .i64 N].toArray 87)
  up : w.heap.size ≤ R
  bel : Below w.heap.size w W
theorem ListW.put {w W : World} {R N : Nat} {s : Value} (h : ListW w W R s N) (s' : Value) : ListW w (W.setCell ⟨R, 0, none⟩ s') R s' N :=
  ⟨by rw [blk_set h.blk]; rfl, h.up, h.bel.setCell h.up _⟩
theorem ListW.drew {w W : World} {R N : Nat} {s : Value} (h : ListW w W R s N) : ListW w W.drew R s N := ⟨h.blk, h.up, h.bel.drew⟩
theorem ListW.on {w W W' : World} {R N : Nat} {s : Value} (h : ListW w W R s N) (hb : Below W.heap.size W W') : ListW w W' R s N := ⟨blk_on h.blk hb, h.up, h.bel.trans (hb.mono h.bel.size)⟩

/-- Nothing old but one block is turned. -/
structure But (R : Nat) (w w' : World) : Prop where
  os : w'.os = w.os
  tape : w'.tape = w.tape
  output : w'.output = w.output
  size : w.heap.size ≤ w'.heap.size
  other : ∀ j, j < w.heap.size → j ≠ R → w'.heap[j]? = w.heap[j]?
section
variable {R : Nat} {u v w : World}
theorem But.refl (R : Nat) (w : World) : But R w w := ⟨rfl, rfl, rfl, Nat.le_refl _, fun _ _ _ => rfl⟩
theorem But.trans (h : But R u v) (g : But R v w) : But R u w :=
  ⟨g.os.trans h.os, g.tape.trans h.tape, g.output.trans h.output, Nat.le_trans h.size g.size, fun j hj hn => (g.other j (Nat.lt_of_lt_of_le hj h.size) hn).trans (h.other j hj hn)⟩
theorem But.of_only (h : Only R u v) : But R u v := ⟨h.os, h.tape, h.output, by rw [h.size]; exact Nat.le_refl _, fun j _ hn => h.other j hn⟩
theorem But.of_below (h : Below u.heap.size u v) : But R u v := ⟨h.os, h.tape, h.output, h.size, fun j hj _ => h.block j hj⟩
theorem But.drew (h : But R u v) : But R u v.drew := ⟨h.os, h.tape, h.output, h.size, h.other⟩
theorem But.alloc (h : But R u v) (o : Obj) : But R u (v.alloc o) := h.trans (.of_below ((Below.refl _ v).alloc (Nat.le_refl _) o))
theorem But.blk (h : But R u v) {j : Nat} {o : Obj} (hj : u.heap[j]? = some o) (hn : j ≠ R) : v.heap[j]? = some o := (h.other j (Array.getElem?_eq_some_iff.1 hj).1 hn).trans hj
theorem But.off (h : But R u v) {g : Nat} (ho : Only g v w) (hg : u.heap.size ≤ g) : But R u w := ⟨ho.os.trans h.os, ho.tape.trans h.tape, ho.output.trans h.output, by rw [ho.size]; exact h.size, fun j hj hn => (ho.other j (by omega)).trans (h.other j hj hn)⟩
theorem But.below (h : But R u v) {B : Nat} (hB : B ≤ R) (hu : B ≤ u.heap.size) : Below B u v := ⟨h.os, h.tape, h.output, h.size, fun j hj => h.other j (by omega) (by omega)⟩
end

theorem octet_row {w W : World} {R N b off cap : Nat} {s : Value} {ys : List Int} (hr : RowS w s ys b off cap) (hL : ListW w W R s N) (h1 : 1 ≤ ys.length) :
    Calls Try.prog 55 #[.pointer (some ⟨R, 0, none⟩)] W fun e w' => e = .returned (.int .u8 (gz ys 0)) ∧ ListW w w' R (restV b off ys.length cap 1) N ∧ Only R W w' := by
  have hc := blk_cell hL.blk (j := 0) rfl
  rw [hr.val] at hc
  have hlt := hr.lt
  have hup := hL.up
  refine (octet_calls R b off ys.length cap (gz ys 0) W hc (blk_open hL.blk 0) h1 hr.room (by omega) ((hL.bel.cell (p := ⟨b, off, none⟩) hlt).trans (hr.cell 0 (by omega)))).mono ?_
  rintro e w' ⟨rfl, rfl⟩
  exact ⟨rfl, hL.put _, (Only.refl _ _).set _ _⟩
theorem run_row {w W : World} {R N b off cap : Nat} {s : Value} {ys : List Int} (hr : RowS w s ys b off cap) (hL : ListW w W R s N) (n : Nat) (hn : n ≤ ys.length) :
    Calls Try.prog 58 #[.pointer (some ⟨R, 0, none⟩), .int .i64 n] W fun e w' => e = .returned (.slice (some ⟨b, off, none⟩) n cap) ∧ ListW w w' R (restV b off ys.length cap n) N ∧ Only R W w' := by
  have hc := blk_cell hL.blk (j := 0) rfl
  rw [hr.val] at hc
  refine (run_calls R b off ys.length cap n W hc (blk_open hL.blk 0) hn hr.room).mono ?_
  rintro e w' ⟨rfl, rfl⟩
  exact ⟨rfl, hL.put _, (Only.refl _ _).set _ _⟩

theorem res1t {P : Program} {fn : Func} {a : Tmp} {t : TypeId} (h : fn.results = #[.cell a t]) {tmps : Array Value} {R : Addr} (hp : tmps.getD a undef = .pointer (some R)) {v : Value} {w : World} (hl : (loadVar t R).run P w = .ok v w) :
    (results fn tmps).run P w = .ok v w := by
  rw [Array.getD_eq_getD_getElem?] at hp
  simp [results, h, hp, asAddr, hl]
theorem res2t {P : Program} {fn : Func} {a b : Tmp} {t : TypeId} (h : fn.results = #[.cell a t, .tmp b]) {tmps : Array Value} {R : Addr} (hp : tmps.getD a undef = .pointer (some R)) {v : Value} {w : World} (hl : (loadVar t R).run P w = .ok v w) :
    (results fn tmps).run P w = .ok (.tuple #[v, tmps.getD b undef]) w := by
  rw [Array.getD_eq_getD_getElem?] at hp
  simp [results, h, hp, asAddr, hl]

def badO (ys : List Int) : Prop := ys.length < 2 ∨ gz ys 1 < 2 ∨ (ys.length : Int) < gz ys 1

set_option maxHeartbeats 600000 in
set_option maxRecDepth 100000 in
theorem option_bad {w W : World} {R N : Nat} {s : Value} {ys : List Int} (hr : RowC w s ys) (hL : ListW w W R s N) (h1 : 1 ≤ ys.length) (hN : ys.length ≤ N) (hN2 : N ≤ 140737488351232) (hb : badO ys) :
    Calls Try.prog 59 #[.pointer (some ⟨R, 0, none⟩)] W fun e w' => e = .panicked [faultP ((N : Int) - ys.length) 47] ∧ Below w.heap.size w w' ∧ But R W w' := by
  obtain ⟨b, off, cap, hS⟩ := hr.rowS h1
  have hBut : But R W (W.alloc (.cells #[.int .u8 0, .slice none 0 0] 76)).drew := ((But.refl R W).alloc _).drew
  have HBUT : Hid _ := hBut
  clear hBut
  replace hL := hL.on ((Below.refl W.heap.size W).alloc (Nat.le_refl _) (.cells #[.int .u8 0, .slice none 0 0] 76))
  have c0 := blk_cell hL.blk (j := 0) rfl
  have c1 := blk_cell hL.blk (j := 1) rfl
  rw [hS.val] at c0
  have v0 : IntKind.i64.wrap ((N : Int) - (ys.length : Int)) = (N : Int) - (ys.length : Int) := wrapi64 _ (by omega)
  by_cases h2 : ys.length < 2
  · have q0 : decide ((2 : Int) ≤ (ys.length : Int)) = false := by simp; omega
    have HB : Hid _ := hL.bel.drew
    have HB2 : Hid _ := hL.bel
    clear hb hL hr hS
    generalize ys.length = L at *
    go_enter Try.func59, Try.ntmps59
    go_wp2_with fail
    go_region
    go_wp2_with fail
    refine Calls.mono (must_bad _ _ _) ?_
    rintro e1 w1 ⟨rfl, hw1⟩
    obtain rfl := hw1.symm
    exact ⟨rfl, rfl, HB.out, HBUT.out⟩
  · have q0 : decide ((2 : Int) ≤ (ys.length : Int)) = true := by simp; omega
    have hS1 := hS.rest 1 (by omega)
    have hg := hS.fit.gz 1
    have e1 : gz (ys.drop 1) 0 = gz ys 1 := by rw [gz_drop]
    have HO1 : Hid _ := octet_row hS hL.drew h1
    have HO2 : Hid (∀ W, ListW w W R (restV b off ys.length cap 1) N → Calls Try.prog 55 #[.pointer (some ⟨R, 0, none⟩)] W fun e w' => e = .returned (.int .u8 (gz ys 1)) ∧ ListW w w' R (restV b (nxt off cap 1) (ys.length - 1) (cap - 1) 1) N ∧ Only R W w') := fun W hW => by
      have := octet_row hS1 hW (by simp; omega)
      rwa [e1, List.length_drop] at this
    have hb' : gz ys 1 < 2 ∨ (ys.length : Int) < gz ys 1 := hb.resolve_left h2
    have v1 : IntKind.i64.wrap (gz ys 1 - 2) = gz ys 1 - 2 := wrapi64 _ (by omega)
    obtain ⟨L2, hLn⟩ : ∃ L2, L2 = ys.length - 1 - 1 := ⟨_, rfl⟩
    have hl2 : restV b (nxt off cap 1) (ys.length - 1) (cap - 1) 1 = .slice (some ⟨b, nxt (nxt off cap 1) (cap - 1) 1, none⟩) L2 (cap - 1 - 1) := by rw [hLn]; exact restV_eq ..
    have hq2 : (L2 : Int) = (ys.length : Int) - 2 := by omega
    have HQ2 : Hid _ := hq2
    clear hLn hq2
    have HL2 : Hid _ := hl2
    clear hb hL hr hS hS1 e1 hl2
    generalize gz ys 1 = z at *
    generalize gz ys 0 = z0 at *
    generalize restV b off ys.length cap 1 = s1 at *
    generalize restV b (nxt off cap 1) (ys.length - 1) (cap - 1) 1 = s2 at *
    go_enter Try.func59, Try.ntmps59
    go_wp2_with fail
    go_region
    go_wp2_with fail
    refine Calls.mono (must_good _ _ _) ?_
    rintro e1 w1 ⟨rfl, hw1⟩
    obtain rfl := hw1.symm
    clear hw1
    go_wp2_with fail
    refine Calls.mono HO1.out ?_
    rintro e2 w2 ⟨rfl, hL2, hO2⟩
    have HL2' : Hid _ := hL2
    have HBT2 : Hid _ := HBUT.out.trans (.of_only hO2)
    clear hO2
    clear hL2
    go_wp2_with fail
    refine Calls.mono (HO2.out _ HL2'.out) ?_
    rintro e3 w3 ⟨rfl, hL3, hO3⟩
    have HBT3 : Hid _ := HBT2.out.trans (.of_only hO3)
    clear hO3
    have d0 := blk_cell hL3.blk (j := 0) rfl
    rw [HL2.out] at d0
    have HB : Hid _ := hL3.bel
    clear hL3 c0 c1
    by_cases hz : z < 2
    · have q1 : decide ((0 : Int) ≤ z - 2) = false := by simp; omega
      go_wp2_with fail
      refine Calls.mono (must_bad _ _ _) ?_
      rintro e4 w4 ⟨rfl, hw4⟩
      obtain rfl := hw4.symm
      exact ⟨rfl, rfl, HB.out, HBT3.out⟩
    · have q1 : decide ((0 : Int) ≤ z - 2) = true := by simp; omega
      have q2 : decide (z - 2 ≤ (L2 : Int)) = false := by have := HQ2.out; simp; omega
      go_wp2_with fail
      refine Calls.mono (must_bad _ _ _) ?_
      rintro e4 w4 ⟨rfl, hw4⟩
      obtain rfl := hw4.symm
      exact ⟨rfl, rfl, HB.out, HBT3.out⟩

set_option maxHeartbeats 1000000 in
set_option maxRecDepth 100000 in
theorem option_good {w W : World} {R N : Nat} {s : Value} {ys : List Int} (hr : RowC w s ys) (hL : ListW w W R s N) (h1 : 1 ≤ ys.length) (hN : ys.length ≤ N) (hN2 : N ≤ 140737488351232) (hb : ¬ badO ys) :
    Calls Try.prog 59 #[.pointer (some ⟨R, 0, none⟩)] W fun e w' => ∃ d s', e = .returned (.agg #[.int .u8 (gz ys 0), d]) ∧ BytesAt w.heap.size w d ((ys.drop 2).take ((gz ys 1).toNat - 2)) ∧ RowC w s' (ys.drop (gz ys 1).toNat) ∧ ListW w w' R s' N ∧ But R W w' := by
  obtain ⟨b, off, cap, hS⟩ := hr.rowS h1
  have rb := blk_new W (.cells [.int .u8 0, .slice none 0 0].toArray 76)
  have hRW : R < W.heap.size := (Array.getElem?_eq_some_iff.1 hL.blk).1
  have hBut : But R W (W.alloc (.cells #[.int .u8 0, .slice none 0 0] 76)).drew := ((But.refl R W).alloc _).drew
  have HBUT : Hid _ := hBut
  have HRB : Hid _ := rb
  clear hBut rb
  replace hL := hL.on ((Below.refl W.heap.size W).alloc (Nat.le_refl _) (.cells #[.int .u8 0, .slice none 0 0] 76))
  have c0 := blk_cell hL.blk (j := 0) rfl
  have c1 := blk_cell hL.blk (j := 1) rfl
  rw [hS.val] at c0
  have v0 : IntKind.i64.wrap ((N : Int) - (ys.length : Int)) = (N : Int) - (ys.length : Int) := wrapi64 _ (by omega)
  unfold badO at hb
  have hb2 : 2 ≤ ys.length ∧ 2 ≤ gz ys 1 ∧ gz ys 1 ≤ ys.length := by omega
  have q0 : decide ((2 : Int) ≤ (ys.length : Int)) = true := by simp; omega
  have hS1 := hS.rest 1 (by omega)
  have hS2 := hS1.rest 1 (by simp; omega)
  have hg := hS.fit.gz 1
  have e1 : gz (ys.drop 1) 0 = gz ys 1 := by rw [gz_drop]
  obtain ⟨n, hn⟩ := Int.eq_ofNat_of_zero_le (show 0 ≤ gz ys 1 - 2 by omega)
  have hn2 : (gz ys 1).toNat = n + 2 := by omega
  rw [hn2]
  have HO1 : Hid _ := octet_row hS hL.drew h1
  have HO2 : Hid (∀ W, ListW w W R (restV b off ys.length cap 1) N → Calls Try.prog 55 #[.pointer (some ⟨R, 0, none⟩)] W fun e w' => e = .returned (.int .u8 (gz ys 1)) ∧ ListW w w' R (restV b (nxt off cap 1) (ys.length - 1) (cap - 1) 1) N ∧ Only R W w') := fun W hW => by
    have := octet_row hS1 hW (by simp; omega)
    rwa [e1, List.length_drop] at this
  rw [List.length_drop, List.drop_drop] at hS2
  have HO3 : Hid (∀ W, ListW w W R (restV b (nxt off cap 1) (ys.length - 1) (cap - 1) 1) N → _) := fun W hW => run_row hS2 hW n (by simp; omega)
  have hS3 := hS2.rest n (by simp; omega)
  have v1 : IntKind.i64.wrap (gz ys 1 - 2) = gz ys 1 - 2 := wrapi64 _ (by omega)
  obtain ⟨L2, hLn⟩ : ∃ L2, L2 = ys.length - 1 - 1 := ⟨_, rfl⟩
  have hl2 : restV b (nxt off cap 1) (ys.length - 1) (cap - 1) 1 = .slice (some ⟨b, nxt (nxt off cap 1) (cap - 1) 1, none⟩) L2 (cap - 1 - 1) := by rw [hLn]; exact restV_eq ..
  have q1 : decide ((0 : Int) ≤ (n : Int)) = true := by simp
  have q2 : decide (n ≤ L2) = true := by simp; omega
  have q3 : n ≤ L2 := by omega
  have HL2 : Hid _ := hl2
  have hd : BytesAt w.heap.size w (.slice (some ⟨b, nxt (nxt off cap 1) (cap - 1) 1, none⟩) n (cap - 1 - 1)) ((ys.drop 2).take n) := by
    have := piece_at (i := 0) (n := n) (k := cap - 1 - 1) (o := nxt (nxt off cap 1) (cap - 1) 1) hS2.lt hS2.fit hS2.len hS2.cell (by simp; omega) (fun _ => rfl)
    simpa using this
  have HD : Hid _ := hd
  have HS3 : Hid (RowC w (restV b (nxt (nxt off cap 1) (cap - 1) 1) (ys.drop 2).length (cap - 1 - 1) n) (ys.drop (n + 2))) := by
    have := hS3.row
    rw [List.drop_drop] at this
    rwa [Nat.add_comm n 2]
  clear hb hb2 hL hr hS hS1 hS2 hS3 e1 hl2 hd hLn hn2
  rw [hn] at v1
  generalize gz ys 1 = z at *
  generalize gz ys 0 = z0 at *
  go_enter Try.func59, Try.ntmps59
  go_wp2_with fail
  go_region
  go_wp2_with fail
  refine Calls.mono (must_good _ _ _) ?_
  rintro e1 w1 ⟨rfl, hw1⟩
  obtain rfl := hw1.symm
  clear hw1
  go_wp2_with fail
  refine Calls.mono HO1.out ?_
  rintro e2 w2 ⟨rfl, hL2, hO2⟩
  have HO2' : Hid _ := hO2
  clear hO2
  have HL2' : Hid _ := hL2
  clear hL2 c0 c1
  go_wp2_with fail
  refine Calls.mono (HO2.out _ HL2'.out) ?_
  rintro e3 w3 ⟨rfl, hL3, hO3⟩
  have HO3' : Hid _ := hO3
  clear hO3
  have d0 := blk_cell hL3.blk (j := 0) rfl
  rw [HL2.out] at d0
  have HL3 : Hid _ := hL3
  clear hL3
  go_wp2_with fail
  refine Calls.mono (must_good _ _ _) ?_
  rintro e4 w4 ⟨rfl, hw4⟩
  obtain rfl := hw4.symm
  clear hw4
  go_wp2_with fail
  refine Calls.mono (HO3.out _ HL3.out) ?_
  rintro e5 w5 ⟨rfl, hL5, hO5⟩
  have rb5 : w5.heap[W.heap.size]? = some (.cells [.int .u8 0, .slice none 0 0].toArray 76) := by
    have hne : W.heap.size ≠ R := by omega
    exact (hO5.other _ hne).trans ((HO3'.out.other _ hne).trans ((HO2'.out.other _ hne).trans HRB.out))
  have k0 := blk_cell rb5 (j := 0) rfl
  have k1 := blk_cell rb5 (j := 1) rfl
  have f0 := blk_open rb5 0
  have f1 := blk_open rb5 1
  have hBT : But R W w5 := ((HBUT.out.trans (.of_only HO2'.out)).trans (.of_only HO3'.out)).trans (.of_only hO5)
  have hO6 := ((Only.refl W.heap.size w5).set 0 (.int .u8 z0)).set 1 (.slice (some ⟨b, nxt (nxt off cap 1) (cap - 1) 1, none⟩) n (cap - 1 - 1))
  have HBT : Hid _ := hBT.off hO6 (Nat.le_refl _)
  have HL6 : Hid (ListW w ((w5.setCell ⟨W.heap.size, 0, none⟩ (.int .u8 z0)).setCell ⟨W.heap.size, 1, none⟩ (.slice (some ⟨b, nxt (nxt off cap 1) (cap - 1) 1, none⟩) n (cap - 1 - 1))) R _ N) := ⟨(hO6.other R (by omega)).trans hL5.blk, hL5.up, hL5.bel.trans (hO6.below (by have := hL5.up; omega))⟩
  have r0 : ((w5.setCell ⟨W.heap.size, 0, none⟩ (.int .u8 z0)).setCell ⟨W.heap.size, 1, none⟩ (.slice (some ⟨b, nxt (nxt off cap 1) (cap - 1) 1, none⟩) n (cap - 1 - 1))).heap[W.heap.size]? = some (.cells [.int .u8 z0, .slice (some ⟨b, nxt (nxt off cap 1) (cap - 1) 1, none⟩) n (cap - 1 - 1)].toArray 76) := by rw [blk_set (blk_set rb5 0 _) 1 _]; rfl
  have HLV : Hid _ := agg_loadVar (t := 76) Try.isAgg76 Try.sizeOf76 rfl (CellsAt.of_blk r0)
  clear hL5 hO5 hBT hO6 r0 rb5
  go_wp2
  refine bodyPost_ret (res1t rfl rfl HLV.out) rfl ?_
  exact ⟨_, _, rfl, HD.out, HS3.out, by have := HL6.out; rwa [List.length_drop] at this ⊢, HBT.out⟩

end Go.Proofs.Ytmoogfdmlbalbaa
