/-
  Parse and Part of package ipv4.
-/
import Derived.Test.YtmoogfdmlbalbaaIr6
import Derived.Defers
namespace Go.Proofs.Ytmoogfdmlbalbaa
open Go Go.RowKit
set_option linter.unusedVariables false
set_option linter.unusedSimpArgs false

theorem BoxW.start (w : World) : BoxW w (((w.alloc (.cells zeroC.toArray 27)).alloc (.cells #[.int .i64 0] 3)).alloc (.cells #[.int .i64 0] 28)) w.heap.size zeroC 0 0 := by
  have h1 := blk_new (w.alloc (.cells zeroC.toArray 27)) (.cells #[.int .i64 0] 3)
  have h2 := blk_new ((w.alloc (.cells zeroC.toArray 27)).alloc (.cells #[.int .i64 0] 3)) (.cells #[.int .i64 0] 28)
  rw [show (w.alloc (.cells zeroC.toArray 27)).heap.size = w.heap.size + 1 by simp] at h1
  rw [show ((w.alloc (.cells zeroC.toArray 27)).alloc (.cells #[.int .i64 0] 3)).heap.size = w.heap.size + 2 by simp] at h2
  exact ⟨blk_alloc (blk_alloc (blk_new w _) _) _, rfl, blk_alloc h1 _, h2, (((Below.refl w.heap.size w).alloc (Nat.le_refl _) _).alloc (by simp) _).alloc (by simp; omega) _, Nat.le_refl _⟩
theorem BoxW.load {w0 W : World} {Q : Nat} {c : List Value} {x y : Int} (h : BoxW w0 W Q c x y) : (loadVar 27 ⟨Q, 0, none⟩).run Try.prog W = .ok (.agg c.toArray) W :=
  agg_loadVar Try.isAgg27 Try.sizeOf27 h.len (CellsAt.of_blk h.vb)
theorem BoxW.loadX {w0 W : World} {Q : Nat} {c : List Value} {x y : Int} (h : BoxW w0 W Q c x y) : (loadVar 3 ⟨Q + 1, 0, none⟩).run Try.prog W = .ok (.int .i64 x) W := by
  have := blk_cell h.xb (j := 0) rfl
  simp [loadVar, go_sem, this]
theorem BoxW.loadY {w0 W : World} {Q : Nat} {c : List Value} {x y : Int} (h : BoxW w0 W Q c x y) : (loadVar 28 ⟨Q + 2, 0, none⟩).run Try.prog W = .ok (.int .i64 y) W := by
  have := blk_cell h.yb (j := 0) rfl
  simp [loadVar, go_sem, this]
theorem resC {P : Program} {fn : Func} {a b c : Tmp} {t u s : TypeId} (h : fn.results = #[.cell a t, .cell b u, .cell c s]) {tmps : Array Value} {A B C : Addr} (ha : tmps.getD a undef = .pointer (some A)) (hb : tmps.getD b undef = .pointer (some B)) (hc : tmps.getD c undef = .pointer (some C)) {x y z : Value} {w : World}
    (hx : (loadVar t A).run P w = .ok x w) (hy : (loadVar u B).run P w = .ok y w) (hz : (loadVar s C).run P w = .ok z w) :
    (results fn tmps).run P w = .ok (.tuple #[x, y, z]) w := by
  rw [Array.getD_eq_getD_getElem?] at ha hb hc
  simp [results, h, ha, hb, hc, asAddr, hx, hy, hz]

theorem ReadW.on {w W W' : World} {R b off len cap : Nat} {tos size all : Int} (h : ReadW w W R b off len cap tos size all) (hb : Below W.heap.size W W') : ReadW w W' R b off len cap tos size all :=
  ⟨blk_on h.blk hb, h.up, h.bel.trans (hb.mono h.bel.size)⟩
theorem Dgram.ones {w : World} {c : List Value} {tos id : Int} {df mf : Bool} {off ttl proto s0 s1 s2 s3 d0 d1 d2 d3 : Int} {opts body : List Int} (h : Dgram w c tos id df mf off ttl proto s0 s1 s2 s3 d0 d1 d2 d3 opts body) : ∀ v ∈ c, v.oneCell' = true := by
  obtain ⟨so, sb, hc, ho, hb⟩ := h.cells
  obtain ⟨_, lo, ao, ko, rfl, _⟩ := ho
  obtain ⟨_, lb, ab, kb, rfl, _⟩ := hb
  rw [hc.eq]
  simp [Value.oneCell']
/-- A datagram whose lists lie above a block, behind a turn of that block alone. -/
theorem Dgram.only {w w' : World} {c : List Value} {tos id : Int} {df mf : Bool} {off ttl proto s0 s1 s2 s3 d0 d1 d2 d3 : Int} {opts body : List Int} (h : Dgram w c tos id df mf off ttl proto s0 s1 s2 s3 d0 d1 d2 d3 opts body) {B g : Nat} (hA : Apart B c) (hg : g < B) (hO : Only g w w') : Dgram w' c tos id df mf off ttl proto s0 s1 s2 s3 d0 d1 d2 d3 opts body := by
  obtain ⟨so, sb, hc, ho, hb⟩ := h.cells
  have a15 := hA 15 (.inl rfl)
  have a16 := hA 16 (.inr rfl)
  rw [hc.eq] at a15 a16
  have l15 : opts.length = 0 ∨ ∃ b off n k, so = .slice (some ⟨b, off, none⟩) n k ∧ g < b := by
    rcases a15 with ⟨a, k, e⟩ | ⟨b, off, n, k, e, hs⟩
    · obtain ⟨_, _, ao, ko, rfl, _⟩ := ho
      have e' : Value.slice ao opts.length ko = .slice a 0 k := Option.some.inj e
      injection e' with _ e2
      exact .inl e2
    · exact .inr ⟨b, off, n, k, Option.some.inj e, by omega⟩
  have l16 : body.length = 0 ∨ ∃ b off n k, sb = .slice (some ⟨b, off, none⟩) n k ∧ g < b := by
    rcases a16 with ⟨a, k, e⟩ | ⟨b, off, n, k, e, hs⟩
    · obtain ⟨_, _, ao, ko, rfl, _⟩ := hb
      have e' : Value.slice ao body.length ko = .slice a 0 k := Option.some.inj e
      injection e' with _ e2
      exact .inl e2
    · exact .inr ⟨b, off, n, k, Option.some.inj e, by omega⟩
  exact ⟨⟨so, sb, hc, bytes_only ho hO l15, bytes_only hb hO l16⟩, h.hid, h.ft, h.fl, h.fp, h.fs, h.fd, h.bo⟩
theorem Apart.mono {B B' : Nat} {c : List Value} (h : Apart B c) (hB : B' ≤ B) : Apart B' c := fun j hj =>
  (h j hj).imp id (fun ⟨b, off, n, k, e, hs⟩ => ⟨b, off, n, k, e, Nat.le_trans hB hs⟩)
theorem zero_apart (B : Nat) : Apart B zeroC := fun j hj => by
  rcases hj with rfl | rfl
  · exact .inl ⟨none, 0, rfl⟩
  · exact .inl ⟨none, 0, rfl⟩

theorem below_alloc1 {w0 W : World} (h : Below w0.heap.size w0 W) (o : Obj) : Below w0.heap.size w0 (W.alloc o) := h.alloc h.size o
set_option maxHeartbeats 1000000 in
set_option maxRecDepth 100000 in
theorem Parse_no (v : Value) (at' er : Int) (w : World) (hbeg : ∀ W, Below w.heap.size w W → Calls Try.prog 37 #[v] W fun e w' => e = .panicked [faultP at' er] ∧ Below W.heap.size W w') :
    Calls Try.prog 18 #[v] w fun e w' => e = .returned (.tuple #[.agg zeroC.toArray, .int .i64 at', .int .i64 er]) ∧ Below w.heap.size w w' := by
  have hmf : ∀ (fn : Fn) (first cap : Array Value) (w : World), (Instr.makeFunc fn first cap).run Try.prog w = .ok (.func fn first cap) w := fun _ _ _ _ => rfl
  have hB := BoxW.start w
  have HC : Hid _ := hbeg _ hB.bel
  have HB : Hid _ := hB
  clear hbeg hB
  unfold zeroC at HC
  go_enter_defers Try.func18, Try.ntmps18
  go_wp2_with fail
  refine Calls.mono HC.out ?_
  rintro e1 w1 ⟨rfl, hb1⟩
  refine leaves_cons (f := 36) (args := #[.pointer (some ⟨w.heap.size, 0, none⟩), .pointer (some ⟨w.heap.size + 1, 0, none⟩), .pointer (some ⟨w.heap.size + 2, 0, none⟩)]) (by simp) (by simp [go_sem]) ?_
  refine (catch_fault w w.heap.size 0 0 at' er _ (HB.out.on hb1)).mono ?_
  rintro e9 u9 w9 ⟨rfl, rfl, h9⟩
  exact ⟨_, resC rfl rfl rfl rfl h9.load h9.loadX h9.loadY, rfl, h9.bel⟩

set_option maxHeartbeats 1000000 in
set_option maxRecDepth 100000 in
theorem Parse_length (b off cap : Nat) (zs : List Int) (w : World) (hf : Fit zs) (hm : zs.length ≤ 140737488351232) (hcap : zs.length ≤ cap) (hb : b < w.heap.size) (hc : ∀ j, j < zs.length → w.cell? ⟨b, off + j, none⟩ = some (.int .u8 (gz zs j))) (h20 : 20 ≤ zs.length) (hv : gz zs 0 / 16 = 4) (hs : 20 ≤ pHead zs ∧ pHead zs ≤ zs.length) (hlen : pAll zs ≠ zs.length) :
    Calls Try.prog 18 #[.slice (some ⟨b, off, none⟩) zs.length cap] w fun e w' => e = .returned (.tuple #[.agg zeroC.toArray, .int .i64 2, .int .i64 43]) ∧ Below w.heap.size w w' := by
  have hmf : ∀ (fn : Fn) (first cap : Array Value) (w : World), (Instr.makeFunc fn first cap).run Try.prog w = .ok (.func fn first cap) w := fun _ _ _ _ => rfl
  have hB := BoxW.start w
  have hW := begin_ok b off zs.length cap (gz zs 0) (gz zs 1) (gz zs 2) (gz zs 3) _ (Nat.lt_of_lt_of_le hb hB.bel.size) h20 hcap hm ((hB.bel.cell (p := ⟨b, off, none⟩) hb).trans (hc 0 (by omega))) ((hB.bel.cell (p := ⟨b, off + 1, none⟩) hb).trans (hc 1 (by omega))) ((hB.bel.cell (p := ⟨b, off + 2, none⟩) hb).trans (hc 2 (by omega))) ((hB.bel.cell (p := ⟨b, off + 3, none⟩) hb).trans (hc 3 (by omega))) (hf.gz 0) (hf.gz 2) (hf.gz 3) hv hs (u8_low4 _ (hf.gz 0))
  rw [show gz zs 0 % 16 * 4 = pHead zs from rfl, show gz zs 2 * 256 + gz zs 3 = pAll zs from rfl] at hW
  rw [show (((w.alloc (.cells zeroC.toArray 27)).alloc (.cells #[.int .i64 0] 3)).alloc (.cells #[.int .i64 0] 28)).heap.size = w.heap.size + 1 + 1 + 1 by simp] at hW
  have hall : 0 ≤ pAll zs ∧ pAll zs ≤ 65535 := by have := hf.gz 2; have := hf.gz 3; unfold pAll; omega
  have q : (pAll zs == (zs.length : Int)) = false := by simp; omega
  have HC : Hid _ := hW
  have HB : Hid _ := hB
  clear hW hB hc hf hv hs hall
  generalize pAll zs = al at *
  generalize pHead zs = hd at *
  unfold zeroC at HC
  go_enter_defers Try.func18, Try.ntmps18
  go_wp2_with fail
  refine Calls.mono HC.out ?_
  rintro e1 w1 ⟨rfl, hR1⟩
  have c3 := blk_cell hR1.blk (j := 3) rfl
  have HR1 : Hid _ := hR1
  have HB1 : Hid _ := HB.out.on hR1.bel
  clear hR1 HC HB
  go_wp2_with fail
  refine Calls.mono (must_bad _ _ _) ?_
  rintro e2 w2 ⟨rfl, hw2⟩
  obtain rfl := hw2.symm
  refine leaves_cons (f := 36) (args := #[.pointer (some ⟨w.heap.size, 0, none⟩), .pointer (some ⟨w.heap.size + 1, 0, none⟩), .pointer (some ⟨w.heap.size + 2, 0, none⟩)]) (by simp) (by simp [go_sem]) ?_
  refine (catch_fault w w.heap.size 0 0 2 43 _ (HB1.out)).mono ?_
  rintro e9 u9 w9 ⟨rfl, rfl, h9⟩
  exact ⟨_, resC rfl rfl rfl rfl h9.load h9.loadX h9.loadY, rfl, h9.bel⟩

set_option maxHeartbeats 1000000 in
set_option maxRecDepth 100000 in
theorem Part_no (v : Value) (at' er : Int) (w : World) (hbeg : ∀ W, Below w.heap.size w W → Calls Try.prog 37 #[v] W fun e w' => e = .panicked [faultP at' er] ∧ Below W.heap.size W w') :
    Calls Try.prog 20 #[v] w fun e w' => e = .returned (.tuple #[.agg zeroC.toArray, .int .i64 at', .int .i64 er]) ∧ Below w.heap.size w w' := by
  have hmf : ∀ (fn : Fn) (first cap : Array Value) (w : World), (Instr.makeFunc fn first cap).run Try.prog w = .ok (.func fn first cap) w := fun _ _ _ _ => rfl
  have hB := BoxW.start w
  have HC : Hid _ := hbeg _ hB.bel
  have HB : Hid _ := hB
  clear hbeg hB
  unfold zeroC at HC
  go_enter_defers Try.func20, Try.ntmps20
  go_wp2_with fail
  refine Calls.mono HC.out ?_
  rintro e1 w1 ⟨rfl, hb1⟩
  refine leaves_cons (f := 42) (args := #[.pointer (some ⟨w.heap.size, 0, none⟩), .pointer (some ⟨w.heap.size + 1, 0, none⟩), .pointer (some ⟨w.heap.size + 2, 0, none⟩)]) (by simp) (by simp [go_sem]) ?_
  refine (catch_faultP w w.heap.size 0 0 at' er _ (HB.out.on hb1)).mono ?_
  rintro e9 u9 w9 ⟨rfl, rfl, h9⟩
  exact ⟨_, resC rfl rfl rfl rfl h9.load h9.loadX h9.loadY, rfl, h9.bel⟩

set_option maxHeartbeats 1000000 in
set_option maxRecDepth 100000 in
theorem Part_length (b off cap : Nat) (zs : List Int) (w : World) (hf : Fit zs) (hm : zs.length ≤ 140737488351232) (hcap : zs.length ≤ cap) (hb : b < w.heap.size) (hc : ∀ j, j < zs.length → w.cell? ⟨b, off + j, none⟩ = some (.int .u8 (gz zs j))) (h20 : 20 ≤ zs.length) (hv : gz zs 0 / 16 = 4) (hs : 20 ≤ pHead zs ∧ pHead zs ≤ zs.length) (hlen : pAll zs < zs.length) :
    Calls Try.prog 20 #[.slice (some ⟨b, off, none⟩) zs.length cap] w fun e w' => e = .returned (.tuple #[.agg zeroC.toArray, .int .i64 2, .int .i64 43]) ∧ Below w.heap.size w w' := by
  have hmf : ∀ (fn : Fn) (first cap : Array Value) (w : World), (Instr.makeFunc fn first cap).run Try.prog w = .ok (.func fn first cap) w := fun _ _ _ _ => rfl
  have hB := BoxW.start w
  have hW := begin_ok b off zs.length cap (gz zs 0) (gz zs 1) (gz zs 2) (gz zs 3) _ (Nat.lt_of_lt_of_le hb hB.bel.size) h20 hcap hm ((hB.bel.cell (p := ⟨b, off, none⟩) hb).trans (hc 0 (by omega))) ((hB.bel.cell (p := ⟨b, off + 1, none⟩) hb).trans (hc 1 (by omega))) ((hB.bel.cell (p := ⟨b, off + 2, none⟩) hb).trans (hc 2 (by omega))) ((hB.bel.cell (p := ⟨b, off + 3, none⟩) hb).trans (hc 3 (by omega))) (hf.gz 0) (hf.gz 2) (hf.gz 3) hv hs (u8_low4 _ (hf.gz 0))
  rw [show gz zs 0 % 16 * 4 = pHead zs from rfl, show gz zs 2 * 256 + gz zs 3 = pAll zs from rfl] at hW
  rw [show (((w.alloc (.cells zeroC.toArray 27)).alloc (.cells #[.int .i64 0] 3)).alloc (.cells #[.int .i64 0] 28)).heap.size = w.heap.size + 1 + 1 + 1 by simp] at hW
  have hall : 0 ≤ pAll zs ∧ pAll zs ≤ 65535 := by have := hf.gz 2; have := hf.gz 3; unfold pAll; omega
  have q : decide ((zs.length : Int) ≤ pAll zs) = false := by simp; omega
  have HC : Hid _ := hW
  have HB : Hid _ := hB
  clear hW hB hc hf hv hs hall
  generalize pAll zs = al at *
  generalize pHead zs = hd at *
  unfold zeroC at HC
  go_enter_defers Try.func20, Try.ntmps20
  go_wp2_with fail
  refine Calls.mono HC.out ?_
  rintro e1 w1 ⟨rfl, hR1⟩
  have c3 := blk_cell hR1.blk (j := 3) rfl
  have HR1 : Hid _ := hR1
  have HB1 : Hid _ := HB.out.on hR1.bel
  clear hR1 HC HB
  go_wp2_with fail
  refine Calls.mono (must_bad _ _ _) ?_
  rintro e2 w2 ⟨rfl, hw2⟩
  obtain rfl := hw2.symm
  refine leaves_cons (f := 42) (args := #[.pointer (some ⟨w.heap.size, 0, none⟩), .pointer (some ⟨w.heap.size + 1, 0, none⟩), .pointer (some ⟨w.heap.size + 2, 0, none⟩)]) (by simp) (by simp [go_sem]) ?_
  refine (catch_faultP w w.heap.size 0 0 2 43 _ (HB1.out)).mono ?_
  rintro e9 u9 w9 ⟨rfl, rfl, h9⟩
  exact ⟨_, resC rfl rfl rfl rfl h9.load h9.loadX h9.loadY, rfl, h9.bel⟩

set_option maxHeartbeats 1000000 in
set_option maxRecDepth 100000 in
theorem Parse_sum (b off cap : Nat) (zs : List Int) (w : World) (hf : Fit zs) (hm : zs.length ≤ 140737488351232) (hcap : zs.length ≤ cap) (hb : b < w.heap.size) (hc : ∀ j, j < zs.length → w.cell? ⟨b, off + j, none⟩ = some (.int .u8 (gz zs j))) (h20 : 20 ≤ zs.length) (hv : gz zs 0 / 16 = 4) (hs : 20 ≤ pHead zs ∧ pHead zs ≤ zs.length) (hlen : pAll zs = zs.length) (hsum : sumW 0 (wordsL (zs.take (pHead zs).toNat)) ≠ 65535) :
    Calls Try.prog 18 #[.slice (some ⟨b, off, none⟩) zs.length cap] w fun e w' => e = .returned (.tuple #[.agg zeroC.toArray, .int .i64 10, .int .i64 44]) ∧ Below w.heap.size w w' := by
  have hmf : ∀ (fn : Fn) (first cap : Array Value) (w : World), (Instr.makeFunc fn first cap).run Try.prog w = .ok (.func fn first cap) w := fun _ _ _ _ => rfl
  have hB := BoxW.start w
  have hW := begin_ok b off zs.length cap (gz zs 0) (gz zs 1) (gz zs 2) (gz zs 3) _ (Nat.lt_of_lt_of_le hb hB.bel.size) h20 hcap hm ((hB.bel.cell (p := ⟨b, off, none⟩) hb).trans (hc 0 (by omega))) ((hB.bel.cell (p := ⟨b, off + 1, none⟩) hb).trans (hc 1 (by omega))) ((hB.bel.cell (p := ⟨b, off + 2, none⟩) hb).trans (hc 2 (by omega))) ((hB.bel.cell (p := ⟨b, off + 3, none⟩) hb).trans (hc 3 (by omega))) (hf.gz 0) (hf.gz 2) (hf.gz 3) hv hs (u8_low4 _ (hf.gz 0))
  rw [show gz zs 0 % 16 * 4 = pHead zs from rfl, show gz zs 2 * 256 + gz zs 3 = pAll zs from rfl] at hW
  rw [show (((w.alloc (.cells zeroC.toArray 27)).alloc (.cells #[.int .i64 0] 3)).alloc (.cells #[.int .i64 0] 28)).heap.size = w.heap.size + 1 + 1 + 1 by simp] at hW
  have hall : 0 ≤ pAll zs ∧ pAll zs ≤ 65535 := by have := hf.gz 2; have := hf.gz 3; unfold pAll; omega
  have q : (pAll zs == (zs.length : Int)) = true := by simp; omega
  have HC : Hid _ := hW
  have HB : Hid _ := hB
  have HB0 : Hid _ := hB
  have HC0 : Hid _ := hc
  have HF : Hid _ := hf
  obtain ⟨hd, hhd⟩ := Int.eq_ofNat_of_zero_le (show 0 ≤ pHead zs by omega)
  have HHD : Hid _ := hhd
  rw [hhd] at hs HC
  have hs1 : 20 ≤ hd ∧ hd ≤ zs.length := by omega
  clear hW hB hc hf hv hs hall hhd
  unfold zeroC at HC
  rw [HHD.out, show (hd : Int).toNat = hd by omega] at hsum
  have qs : (sumW 0 (wordsL (zs.take hd)) == 65535) = false := by simp [hsum]
  clear hsum
  have QS : Hid _ := qs
  clear qs hlen
  generalize pAll zs = al at *
  go_enter_defers Try.func18, Try.ntmps18
  go_wp2_with fail
  refine Calls.mono HC.out ?_
  rintro e1 w1 ⟨rfl, hR1⟩
  have c3 := blk_cell hR1.blk (j := 3) rfl
  have c2 := blk_cell hR1.blk (j := 2) rfl
  have HR1 : Hid _ := hR1
  have HB1 : Hid _ := HB.out.on hR1.bel
  clear hR1 HC HB
  go_wp2_with fail
  refine Calls.mono (must_good _ _ _) ?_
  rintro e2 w2 ⟨rfl, hw2⟩
  obtain rfl := hw2.symm
  clear hw2 c3
  have hsl := piece_at (k := cap) (i := 0) (n := hd) hb HF.out hm HC0.out (by omega) (fun _ => rfl)
  rw [List.drop_zero] at hsl
  have hpt := parts_one w1 (.slice (some ⟨b, off, none⟩) hd cap) 25 _ (hsl.later HB1.out.bel)
  have hgd := good_calls _ _ _ _ _ hpt
  rw [show ([zs.take hd] : List (List Int)).flatten = zs.take hd by simp] at hgd
  have HG : Hid _ := hgd
  have HB2 : Hid _ := HB1.out.on (((Below.refl w1.heap.size w1).alloc (Nat.le_refl _) (.cells #[.slice (some ⟨b, off, none⟩) hd cap] 25)))
  have HR2 : Hid _ := HR1.out
  clear hsl hpt hgd
  go_wp2_with fail
  refine Calls.mono HG.out ?_
  rintro e3 w3 ⟨rfl, hb3⟩
  rw [QS.out]
  go_wp2_with fail
  refine Calls.mono (must_bad _ _ _) ?_
  rintro e4 w4 ⟨rfl, hw4⟩
  obtain rfl := hw4.symm
  refine leaves_cons (f := 36) (args := #[.pointer (some ⟨w.heap.size, 0, none⟩), .pointer (some ⟨w.heap.size + 1, 0, none⟩), .pointer (some ⟨w.heap.size + 2, 0, none⟩)]) (by simp) (by simp [go_sem]) ?_
  refine (catch_fault w w.heap.size 0 0 10 44 _ (HB2.out.on hb3)).mono ?_
  rintro e9 u9 w9 ⟨rfl, rfl, h9⟩
  exact ⟨_, resC rfl rfl rfl rfl h9.load h9.loadX h9.loadY, rfl, h9.bel⟩

set_option maxHeartbeats 1000000 in
set_option maxRecDepth 100000 in
theorem Parse_ok (b off cap : Nat) (zs : List Int) (w : World) (hf : Fit zs) (hm : zs.length ≤ 140737488351232) (hcap : zs.length ≤ cap) (hb : b < w.heap.size) (hc : ∀ j, j < zs.length → w.cell? ⟨b, off + j, none⟩ = some (.int .u8 (gz zs j))) (h20 : 20 ≤ zs.length) (hv : gz zs 0 / 16 = 4) (hs : 20 ≤ pHead zs ∧ pHead zs ≤ zs.length) (hlen : pAll zs = zs.length) (hsum : sumW 0 (wordsL (zs.take (pHead zs).toNat)) = 65535) :
    Calls Try.prog 18 #[.slice (some ⟨b, off, none⟩) zs.length cap] w fun e w' => ∃ c', e = .returned (.tuple #[.agg c'.toArray, .int .i64 0, .int .i64 0]) ∧ SaysD zs w' c' ∧ Apart w.heap.size c' ∧ Below w.heap.size w w' := by
  have hmf : ∀ (fn : Fn) (first cap : Array Value) (w : World), (Instr.makeFunc fn first cap).run Try.prog w = .ok (.func fn first cap) w := fun _ _ _ _ => rfl
  have hB := BoxW.start w
  have hW := begin_ok b off zs.length cap (gz zs 0) (gz zs 1) (gz zs 2) (gz zs 3) _ (Nat.lt_of_lt_of_le hb hB.bel.size) h20 hcap hm ((hB.bel.cell (p := ⟨b, off, none⟩) hb).trans (hc 0 (by omega))) ((hB.bel.cell (p := ⟨b, off + 1, none⟩) hb).trans (hc 1 (by omega))) ((hB.bel.cell (p := ⟨b, off + 2, none⟩) hb).trans (hc 2 (by omega))) ((hB.bel.cell (p := ⟨b, off + 3, none⟩) hb).trans (hc 3 (by omega))) (hf.gz 0) (hf.gz 2) (hf.gz 3) hv hs (u8_low4 _ (hf.gz 0))
  rw [show gz zs 0 % 16 * 4 = pHead zs from rfl, show gz zs 2 * 256 + gz zs 3 = pAll zs from rfl] at hW
  rw [show (((w.alloc (.cells zeroC.toArray 27)).alloc (.cells #[.int .i64 0] 3)).alloc (.cells #[.int .i64 0] 28)).heap.size = w.heap.size + 1 + 1 + 1 by simp] at hW
  have hall : 0 ≤ pAll zs ∧ pAll zs ≤ 65535 := by have := hf.gz 2; have := hf.gz 3; unfold pAll; omega
  have q : (pAll zs == (zs.length : Int)) = true := by simp; omega
  have HC : Hid _ := hW
  have HB : Hid _ := hB
  have HB0 : Hid _ := hB
  have HC0 : Hid _ := hc
  have HF : Hid _ := hf
  obtain ⟨hd, hhd⟩ := Int.eq_ofNat_of_zero_le (show 0 ≤ pHead zs by omega)
  have HHD : Hid _ := hhd
  rw [hhd] at hs HC
  have hs1 : 20 ≤ hd ∧ hd ≤ zs.length := by omega
  clear hW hB hc hf hv hs hall hhd
  unfold zeroC at HC
  rw [HHD.out, show (hd : Int).toNat = hd by omega] at hsum
  have qs : (sumW 0 (wordsL (zs.take hd)) == 65535) = true := by simp [hsum]
  clear hsum
  have QS : Hid _ := qs
  clear qs
  clear hlen
  unfold SaysD
  rw [HHD.out, show (hd : Int).toNat = hd by omega]
  generalize pAll zs = al at *
  go_enter_defers Try.func18, Try.ntmps18
  go_wp2_with fail
  refine Calls.mono HC.out ?_
  rintro e1 w1 ⟨rfl, hR1⟩
  have c3 := blk_cell hR1.blk (j := 3) rfl
  have c2 := blk_cell hR1.blk (j := 2) rfl
  have HR1 : Hid _ := hR1
  have HB1 : Hid _ := HB.out.on hR1.bel
  clear hR1 HC HB
  go_wp2_with fail
  refine Calls.mono (must_good _ _ _) ?_
  rintro e2 w2 ⟨rfl, hw2⟩
  obtain rfl := hw2.symm
  clear hw2 c3
  have hsl := piece_at (k := cap) (i := 0) (n := hd) hb HF.out hm HC0.out (by omega) (fun _ => rfl)
  rw [List.drop_zero] at hsl
  have hpt := parts_one w1 (.slice (some ⟨b, off, none⟩) hd cap) 25 _ (hsl.later HB1.out.bel)
  have hgd := good_calls _ _ _ _ _ hpt
  rw [show ([zs.take hd] : List (List Int)).flatten = zs.take hd by simp] at hgd
  have HG : Hid _ := hgd
  have HB2 : Hid _ := HB1.out.on (((Below.refl w1.heap.size w1).alloc (Nat.le_refl _) (.cells #[.slice (some ⟨b, off, none⟩) hd cap] 25)))
  have HR2 : Hid _ := HR1.out
  clear hsl hpt hgd
  go_wp2_with fail
  refine Calls.mono HG.out ?_
  rintro e3 w3 ⟨rfl, hb3⟩
  rw [QS.out]
  go_wp2_with fail
  refine Calls.mono (must_good _ _ _) ?_
  rintro e4 w4 ⟨rfl, hw4⟩
  obtain rfl := hw4.symm
  have HW : Hid _ := HR1.out.on (((Below.refl w1.heap.size w1).alloc (Nat.le_refl _) (.cells #[.slice (some ⟨b, off, none⟩) hd cap] 25)).trans (hb3.mono (by simp)))
  have HB4 : Hid _ := HB2.out.on hb3
  clear hw4 hb3 HG HB2 HR2 c2
  go_wp2_with fail
  refine Calls.mono (datagram_calls _ _ _ b off cap hd al zs _ _ rfl rfl HF.out hm hcap (Nat.lt_of_lt_of_le hb HB0.out.bel.size) (fun j hj => (HB0.out.bel.cell (p := ⟨b, off + j, none⟩) hb).trans (HC0.out j hj)) hs1 HW.out) ?_
  rintro e5 w5 ⟨c5, rfl, hD5, hA5, hb5⟩
  have hB5 := HB0.out.on hb5
  have hsz : (((w.alloc (.cells zeroC.toArray 27)).alloc (.cells #[.int .i64 0] 3)).alloc (.cells #[.int .i64 0] 28)).heap.size = w.heap.size + 3 := by simp
  rw [hsz] at hA5
  obtain ⟨w6, hst6, hB6, hO6⟩ := hB5.sets c5 hD5.lens.len hD5.ones
  have m1 := blk_cell hB6.xb (j := 0) rfl
  have n1 := blk_open hB6.xb 0
  have m2 := blk_cell hB6.yb (j := 0) rfl
  have n2 := blk_open hB6.yb 0
  have hD6 := ((hD5.only hA5 (by omega) hO6).only hA5 (by omega) ((Only.refl (w.heap.size + 1) w6).set 0 (.int .i64 0))).only hA5 (by omega) ((Only.refl (w.heap.size + 2) _).set 0 (.int .i64 0))
  have HB7 : Hid _ := (hB6.setX 0).setY 0
  have HD7 : Hid _ := hD6
  have HST : Hid _ := hst6
  have HA7 : Hid _ := hA5.mono (show w.heap.size ≤ w.heap.size + 3 by omega)
  clear hD5 hD6 hB5 hB6 hO6 hst6 hA5 hb5 hsz HB0 HB1 HB4 HW HR1
  go_wp2_with ((with_reducible show wpList _ _ _ _ _ _); refine arm_store rfl (.tmp 2) (.tmp 27) 27 rfl rfl rfl HST.out ?_)
  refine leaves_cons (f := 36) (args := #[.pointer (some ⟨w.heap.size, 0, none⟩), .pointer (some ⟨w.heap.size + 1, 0, none⟩), .pointer (some ⟨w.heap.size + 2, 0, none⟩)]) (by simp) (by simp [go_sem]) ?_
  refine (catch_idle _ _ _ _).mono ?_
  rintro e9 u9 w9 ⟨rfl, rfl, hb9⟩
  have h9 := HB7.out.on hb9
  exact ⟨_, resC rfl rfl rfl rfl h9.load h9.loadX h9.loadY, _, rfl, HD7.out.on hb9, HA7.out, h9.bel⟩

set_option maxHeartbeats 1000000 in
set_option maxRecDepth 100000 in
theorem Part_ok (b off cap : Nat) (zs : List Int) (w : World) (hf : Fit zs) (hm : zs.length ≤ 140737488351232) (hcap : zs.length ≤ cap) (hb : b < w.heap.size) (hc : ∀ j, j < zs.length → w.cell? ⟨b, off + j, none⟩ = some (.int .u8 (gz zs j))) (h20 : 20 ≤ zs.length) (hv : gz zs 0 / 16 = 4) (hs : 20 ≤ pHead zs ∧ pHead zs ≤ zs.length) (hlen : (zs.length : Int) ≤ pAll zs) :
    Calls Try.prog 20 #[.slice (some ⟨b, off, none⟩) zs.length cap] w fun e w' => ∃ c', e = .returned (.tuple #[.agg c'.toArray, .int .i64 0, .int .i64 0]) ∧ SaysD zs w' c' ∧ Apart w.heap.size c' ∧ Below w.heap.size w w' := by
  have hmf : ∀ (fn : Fn) (first cap : Array Value) (w : World), (Instr.makeFunc fn first cap).run Try.prog w = .ok (.func fn first cap) w := fun _ _ _ _ => rfl
  have hB := BoxW.start w
  have hW := begin_ok b off zs.length cap (gz zs 0) (gz zs 1) (gz zs 2) (gz zs 3) _ (Nat.lt_of_lt_of_le hb hB.bel.size) h20 hcap hm ((hB.bel.cell (p := ⟨b, off, none⟩) hb).trans (hc 0 (by omega))) ((hB.bel.cell (p := ⟨b, off + 1, none⟩) hb).trans (hc 1 (by omega))) ((hB.bel.cell (p := ⟨b, off + 2, none⟩) hb).trans (hc 2 (by omega))) ((hB.bel.cell (p := ⟨b, off + 3, none⟩) hb).trans (hc 3 (by omega))) (hf.gz 0) (hf.gz 2) (hf.gz 3) hv hs (u8_low4 _ (hf.gz 0))
  rw [show gz zs 0 % 16 * 4 = pHead zs from rfl, show gz zs 2 * 256 + gz zs 3 = pAll zs from rfl] at hW
  rw [show (((w.alloc (.cells zeroC.toArray 27)).alloc (.cells #[.int .i64 0] 3)).alloc (.cells #[.int .i64 0] 28)).heap.size = w.heap.size + 1 + 1 + 1 by simp] at hW
  have hall : 0 ≤ pAll zs ∧ pAll zs ≤ 65535 := by have := hf.gz 2; have := hf.gz 3; unfold pAll; omega
  have q : decide ((zs.length : Int) ≤ pAll zs) = true := by simp; omega
  have HC : Hid _ := hW
  have HB : Hid _ := hB
  have HB0 : Hid _ := hB
  have HC0 : Hid _ := hc
  have HF : Hid _ := hf
  obtain ⟨hd, hhd⟩ := Int.eq_ofNat_of_zero_le (show 0 ≤ pHead zs by omega)
  have HHD : Hid _ := hhd
  rw [hhd] at hs HC
  have hs1 : 20 ≤ hd ∧ hd ≤ zs.length := by omega
  clear hW hB hc hf hv hs hall hhd
  unfold zeroC at HC
  clear hlen
  unfold SaysD
  rw [HHD.out, show (hd : Int).toNat = hd by omega]
  generalize pAll zs = al at *
  go_enter_defers Try.func20, Try.ntmps20
  go_wp2_with fail
  refine Calls.mono HC.out ?_
  rintro e1 w1 ⟨rfl, hR1⟩
  have c3 := blk_cell hR1.blk (j := 3) rfl
  have c2 := blk_cell hR1.blk (j := 2) rfl
  have HR1 : Hid _ := hR1
  have HB1 : Hid _ := HB.out.on hR1.bel
  clear hR1 HC HB
  go_wp2_with fail
  refine Calls.mono (must_good _ _ _) ?_
  rintro e2 w2 ⟨rfl, hw2⟩
  obtain rfl := hw2.symm
  clear hw2 c3
  have HW : Hid _ := HR1.out
  have HB4 : Hid _ := HB1.out
  clear c2
  go_wp2_with fail
  refine Calls.mono (datagram_calls _ _ _ b off cap hd al zs _ _ rfl rfl HF.out hm hcap (Nat.lt_of_lt_of_le hb HB0.out.bel.size) (fun j hj => (HB0.out.bel.cell (p := ⟨b, off + j, none⟩) hb).trans (HC0.out j hj)) hs1 HW.out) ?_
  rintro e5 w5 ⟨c5, rfl, hD5, hA5, hb5⟩
  have hB5 := HB0.out.on hb5
  have hsz : (((w.alloc (.cells zeroC.toArray 27)).alloc (.cells #[.int .i64 0] 3)).alloc (.cells #[.int .i64 0] 28)).heap.size = w.heap.size + 3 := by simp
  rw [hsz] at hA5
  obtain ⟨w6, hst6, hB6, hO6⟩ := hB5.sets c5 hD5.lens.len hD5.ones
  have m1 := blk_cell hB6.xb (j := 0) rfl
  have n1 := blk_open hB6.xb 0
  have m2 := blk_cell hB6.yb (j := 0) rfl
  have n2 := blk_open hB6.yb 0
  have hD6 := ((hD5.only hA5 (by omega) hO6).only hA5 (by omega) ((Only.refl (w.heap.size + 1) w6).set 0 (.int .i64 0))).only hA5 (by omega) ((Only.refl (w.heap.size + 2) _).set 0 (.int .i64 0))
  have HB7 : Hid _ := (hB6.setX 0).setY 0
  have HD7 : Hid _ := hD6
  have HST : Hid _ := hst6
  have HA7 : Hid _ := hA5.mono (show w.heap.size ≤ w.heap.size + 3 by omega)
  clear hD5 hD6 hB5 hB6 hO6 hst6 hA5 hb5 hsz HB0 HB1 HB4 HW HR1
  go_wp2_with ((with_reducible show wpList _ _ _ _ _ _); refine arm_store rfl (.tmp 2) (.tmp 18) 27 rfl rfl rfl HST.out ?_)
  refine leaves_cons (f := 42) (args := #[.pointer (some ⟨w.heap.size, 0, none⟩), .pointer (some ⟨w.heap.size + 1, 0, none⟩), .pointer (some ⟨w.heap.size + 2, 0, none⟩)]) (by simp) (by simp [go_sem]) ?_
  refine (catch_idleP _ _ _ _).mono ?_
  rintro e9 u9 w9 ⟨rfl, rfl, hb9⟩
  have h9 := HB7.out.on hb9
  exact ⟨_, resC rfl rfl rfl rfl h9.load h9.loadX h9.loadY, _, rfl, HD7.out.on hb9, HA7.out, h9.bel⟩

end Go.Proofs.Ytmoogfdmlbalbaa
