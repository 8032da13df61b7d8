/-
  Parse and Part of package ipv6, of any bytes.
-/
import Derived.Test.YtbaeogoojpngbaaYi
namespace Go.Proofs.Ytbaeogoojpngbaa
open Go Go.RowKit
set_option linter.unusedVariables false
set_option linter.unusedSimpArgs false

section
variable {w : World} {v : Value} {zs : List Int}
set_option maxHeartbeats 4000000 in
set_option maxRecDepth 100000 in
theorem Parse_X (h : BS (fun b => b < w.heap.size) w v zs) (X : Ending → World → Prop)
    (xb : ∀ (at' : Nat) (er : Int), parR true zs = .bad at' er → ∀ w', Below w.heap.size w w' → X (.returned (.tuple #[.agg zeroV.toArray, .int .i64 at', .int .i64 er])) w')
    (xo : ∀ hs g proto body (hA : ((zs.drop 8).take 32).length = 32), parR true zs = .ok hs g proto body → ∀ w' vh vb, D6 (fun b => w.heap.size ≤ b) w' (finF (clsN zs) (labN zs) (gz zs 7) proto ((zs.drop 8).take 32) hA) vh vb hs body → Below w.heap.size w w' → X (.returned (.tuple #[VV (finF (clsN zs) (labN zs) (gz zs 7) proto ((zs.drop 8).take 32) hA) g vh vb, .int .i64 0, .int .i64 0])) w') :
    Calls Try.prog 15 #[v] w X := by
  have hmf : ∀ (fn : Fn) (first cap : Array Value) (w : World), (Instr.makeFunc fn first cap).run Try.prog w = .ok (.func fn first cap) w := fun _ _ _ _ => rfl
  have hB := BoxW.start w
  obtain ⟨W0, hW0⟩ : ∃ W0, W0 = (((w.alloc (.cells zeroV.toArray 28)).alloc (.cells #[.int .i64 0] 3)).alloc (.cells #[.int .i64 0] 29)) := ⟨_, rfl⟩
  rw [← hW0] at hB
  have hsz : W0.heap.size = w.heap.size + 3 := by rw [hW0]; simp
  have h0 : BS (fun b => b < W0.heap.size) W0 v zs := (h.on hB.bel).mono (fun b hb _ => hb)
  have HBAD : Hid _ := xb
  have HXO : Hid _ := xo
  have hbeg : Calls Try.prog 31 #[v] W0 fun e w' => (∃ (at' : Nat) (er : Int), e = .panicked [fltP at' er] ∧ parR true zs = .bad at' er ∧ Below W0.heap.size W0 w') ∨ (∃ left, e = .returned (.tuple #[.pointer (some ⟨W0.heap.size, 0, none⟩), .int .i64 (lenN zs)]) ∧ RB (fun b => b < W0.heap.size) w' W0.heap.size (zs.drop 6) 6 (c0 (clsN zs) (labN zs)) 0 left ∧ Below W0.heap.size W0 w' ∧ 40 ≤ zs.length ∧ gz zs 0 / 16 = 6) := by
    by_cases hl : zs.length < 40
    · refine (begin_short h0 hl).mono ?_
      rintro e w' ⟨rfl, hb⟩
      exact .inl ⟨0, 50, rfl, by unfold parR; rw [if_pos hl], hb⟩
    · refine begin_long h0 (by omega) _ (fun hn w' hb => .inl ⟨0, 51, rfl, by unfold parR; rw [if_neg hl, if_pos hn], hb⟩) (fun hy w' left hr hb => .inr ⟨left, rfl, hr, hb, by omega, hy⟩)
  have hlnr : 0 ≤ lenN zs ∧ lenN zs < 65536 := by
    have f4 := gz_fit h.row.fit 4
    have f5 := gz_fit h.row.fit 5
    unfold lenN; omega
  have hlb : 0 ≤ labN zs ∧ labN zs ≤ 4294967295 := by
    have f1 := gz_fit h.row.fit 1
    have f2 := gz_fit h.row.fit 2
    have f3 := gz_fit h.row.fit 3
    unfold labN; omega
  have HLB : Hid _ := hlb
  have HPB : Hid (40 ≤ zs.length → gz zs 0 / 16 = 6 → badN true zs → parR true zs = .bad 4 52) := fun a b c => by unfold parR; rw [if_neg (by omega), if_neg (by omega), if_pos c]
  have HPG : Hid (40 ≤ zs.length → gz zs 0 / 16 = 6 → ¬ badN true zs → parR true zs = endR (rdH 9 (zs.drop 40) 40 (gz zs 6) [])) := fun a b c => by unfold parR; rw [if_neg (by omega), if_neg (by omega), if_neg c]
  have HC : Hid _ := hbeg
  have HB : Hid _ := hB
  have HSZ : Hid (W0.heap.size = w.heap.size + 3) := hsz
  obtain ⟨_, _, a, cap, ev, _⟩ := h.row
  subst ev
  have hm := h.row.len
  obtain ⟨zl, hzl⟩ : ∃ n, zs.length = n := ⟨_, rfl⟩
  have HZL : Hid _ := hzl
  obtain ⟨LN, hLN⟩ : ∃ L, lenN zs = L := ⟨_, rfl⟩
  have HLN : Hid _ := hLN
  rw [hLN] at HC hlnr
  rw [hzl] at hm HC ⊢
  obtain ⟨R, hR⟩ : ∃ R, W0.heap.size = R := ⟨_, rfl⟩
  have HRS : Hid _ := hR
  rw [hR] at HC HSZ
  have hW := hW0.symm
  unfold zeroV at hW
  clear hbeg hB hsz h0 h hW0 hzl hR hLN hlb xb xo
  refine Calls.mono (R := fun e w' => Hid (X e w')) ?_ (fun e w' hx => hx.out)
  go_enter_defers Try.func15, Try.ntmps15
  go_wp2_with fail
  refine Calls.mono HC.out ?_
  rintro e1 w1 (⟨at', er, rfl, hbad, hb1⟩ | ⟨left, rfl, hr1, hb1, h40, h6⟩)
  · skip
    refine leaves_cons (f := 30) (args := #[.pointer (some ⟨w.heap.size, 0, none⟩), .pointer (some ⟨w.heap.size + 1, 0, none⟩), .pointer (some ⟨w.heap.size + 2, 0, none⟩)]) (by simp) (by simp [go_sem]) ?_
    refine (catch_fault w w.heap.size _ 0 0 at' er _ (HB.out.on (by rw [HRS.out]; exact hb1))).mono ?_
    rintro e9 u9 w9 ⟨rfl, rfl, h9⟩
    exact ⟨_, resC rfl rfl rfl rfl h9.load h9.loadX h9.loadY, HBAD.out _ _ hbad _ h9.bel⟩
  · have HR1 : Hid (RB (fun b => b < W0.heap.size) w1 R (zs.drop 6) 6 (c0 (clsN zs) (labN zs)) 0 left) := by rw [HRS.out]; exact hr1
    have HB1 : Hid (Below W0.heap.size W0 w1) := by rw [HRS.out]; exact hb1
    have h40z := h40
    rw [← HZL.out] at h40
    clear hr1 hb1 HC hW
    by_cases hbd : badN true zs
    · have HBD : Hid _ := HPB.out h40 h6 hbd
      have q : (LN == (zl : Int) - 40) = false := by
        unfold badN at hbd
        rw [HLN.out, HZL.out] at hbd
        simp at hbd ⊢
        omega
      have HBW1 : Hid _ := HB.out.on HB1.out
      rw [HZL.out] at h40
      clear hbd
      go_wp2_with fail
      refine Calls.mono (must_bad _ _ _) ?_
      rintro e2 w2 ⟨rfl, hw2⟩
      obtain rfl := hw2.symm
      refine leaves_cons (f := 30) (args := #[.pointer (some ⟨w.heap.size, 0, none⟩), .pointer (some ⟨w.heap.size + 1, 0, none⟩), .pointer (some ⟨w.heap.size + 2, 0, none⟩)]) (by simp) (by simp [go_sem]) ?_
      refine (catch_fault w w.heap.size _ 0 0 4 52 _ HBW1.out).mono ?_
      rintro e9 u9 w9 ⟨rfl, rfl, h9⟩
      exact ⟨_, resC rfl rfl rfl rfl h9.load h9.loadX h9.loadY, HBAD.out _ _ HBD.out _ h9.bel⟩
    · have hpar := HPG.out h40 h6 hbd
      have q : (LN == (zl : Int) - 40) = true := by
        unfold badN at hbd
        rw [HLN.out, HZL.out] at hbd
        simp at hbd ⊢
        omega
      have hA : ((zs.drop 8).take 32).length = 32 := by rw [List.length_take, List.length_drop]; omega
      have HDG : Hid (Calls Try.prog 33 #[.pointer (some ⟨R, 0, none⟩)] w1 fun e w' => (∃ (at' : Nat) (er : Int), e = .panicked [fltP at' er] ∧ parR true zs = .bad at' er ∧ Below W0.heap.size W0 w') ∨ (∃ hs g proto body vh vb, parR true zs = .ok hs g proto body ∧ e = .returned (VV (finF (clsN zs) (labN zs) (gz zs 7) proto ((zs.drop 8).take 32) hA) g vh vb) ∧ D6 (fun b => R < b) w' (finF (clsN zs) (labN zs) (gz zs 7) proto ((zs.drop 8).take 32) hA) vh vb hs body ∧ Below W0.heap.size W0 w')) := by
        rw [hpar]
        exact datagram_any HR1.out (by rw [HRS.out]; exact Nat.le_refl _) HB1.out h40 HLB.out hA _ (fun at' er he w' hb => .inl ⟨at', er, rfl, he, hb⟩) (fun hs g proto body he w' vh vb hd hb => .inr ⟨hs, g, proto, body, vh, vb, he, rfl, hd, hb⟩)
      rw [HZL.out] at h40
      clear HR1 HB1 hpar hbd
      go_wp2_with fail
      refine Calls.mono (must_good _ _ _) ?_
      rintro e2 w2 ⟨rfl, hw2⟩
      obtain rfl := hw2.symm
      clear hw2
      go_wp2_with fail
      refine Calls.mono HDG.out ?_
      rintro e5 w5 (⟨at', er, rfl, hbad, hb5⟩ | ⟨hs, g, proto, body, vh, vb, hok, rfl, hd5, hb5⟩)
      · skip
        refine leaves_cons (f := 30) (args := #[.pointer (some ⟨w.heap.size, 0, none⟩), .pointer (some ⟨w.heap.size + 1, 0, none⟩), .pointer (some ⟨w.heap.size + 2, 0, none⟩)]) (by simp) (by simp [go_sem]) ?_
        refine (catch_fault w w.heap.size _ 0 0 at' er _ (HB.out.on hb5)).mono ?_
        rintro e9 u9 w9 ⟨rfl, rfl, h9⟩
        exact ⟨_, resC rfl rfl rfl rfl h9.load h9.loadX h9.loadY, HBAD.out _ _ hbad _ h9.bel⟩
      · have hx5 := HB.out.on hb5
        obtain ⟨FF, hFF⟩ : ∃ FF, finF (clsN zs) (labN zs) (gz zs 7) proto ((zs.drop 8).take 32) hA = FF := ⟨_, rfl⟩
        have HPR : Hid (∀ w', D6 (fun b => w.heap.size ≤ b) w' FF vh vb hs body → Below w.heap.size w w' → X (.returned (.tuple #[VV FF g vh vb, .int .i64 0, .int .i64 0])) w') := fun w' hd hb => by
          have := HXO.out hs g proto body hA hok w' vh vb
          rw [hFF] at this
          exact this hd hb
        rw [hFF] at hd5 ⊢
        obtain ⟨w6, hst6, hB6, hO6⟩ := hx5.sets (vC FF g vh vb) vC_len (vC_one hd5.hd.one hd5.bd.one)
        have m1 := blk_cell hB6.xb (j := 0) rfl
        have n1 := blk_open hB6.xb 0
        have m2 := blk_cell hB6.yb (j := 0) rfl
        have n2 := blk_open hB6.yb 0
        have hlo := HSZ.out
        have hq6 := ((hd5.sep (Sep.of_only (O := fun b => b = w.heap.size) hO6 rfl) (fun b hb e => by omega)).sep (Sep.of_only (O := fun b => b = w.heap.size + 1) ((Only.refl (w.heap.size + 1) w6).set 0 (.int .i64 0)) rfl) (fun b hb e => by omega)).sep (Sep.of_only (O := fun b => b = w.heap.size + 2) ((Only.refl (w.heap.size + 2) _).set 0 (.int .i64 0)) rfl) (fun b hb e => by omega)
        have HQ : Hid _ := hq6.mono (S' := fun b => w.heap.size ≤ b) (fun b _ hb => by omega)
        have HB7 : Hid _ := (hB6.setX 0).setY 0
        have HST : Hid _ := hst6
        clear hd5 hb5 hx5 hB6 hO6 hst6 hq6 hlo HB HDG HSZ HRS hok hFF HBAD HPB HPG HXO
        go_wp2_with ((with_reducible show wpList _ _ _ ({ dst := _, op := Op.store 28 _ _, type := _, pos := _, after := _, guard := _ } :: _) _ _); refine armS (.tmp 2) (.tmp 20) 28 rfl rfl rfl rfl HST.out ?_; try simp only [Act.put])
        refine leaves_cons (f := 30) (args := #[.pointer (some ⟨w.heap.size, 0, none⟩), .pointer (some ⟨w.heap.size + 1, 0, none⟩), .pointer (some ⟨w.heap.size + 2, 0, none⟩)]) (by simp) (by simp [go_sem]) ?_
        refine (catch_idle _ _ _ _).mono ?_
        rintro e9 u9 w9 ⟨rfl, rfl, hb9⟩
        have h9 := HB7.out.on hb9
        exact ⟨_, resC rfl rfl rfl rfl h9.load h9.loadX h9.loadY, HPR.out _ (HQ.out.on hb9) h9.bel⟩
set_option maxHeartbeats 4000000 in
set_option maxRecDepth 100000 in
theorem Part_X (h : BS (fun b => b < w.heap.size) w v zs) (X : Ending → World → Prop)
    (xb : ∀ (at' : Nat) (er : Int), parR false zs = .bad at' er → ∀ w', Below w.heap.size w w' → X (.returned (.tuple #[.agg zeroV.toArray, .int .i64 at', .int .i64 er])) w')
    (xo : ∀ hs g proto body (hA : ((zs.drop 8).take 32).length = 32), parR false zs = .ok hs g proto body → ∀ w' vh vb, D6 (fun b => w.heap.size ≤ b) w' (finF (clsN zs) (labN zs) (gz zs 7) proto ((zs.drop 8).take 32) hA) vh vb hs body → Below w.heap.size w w' → X (.returned (.tuple #[VV (finF (clsN zs) (labN zs) (gz zs 7) proto ((zs.drop 8).take 32) hA) g vh vb, .int .i64 0, .int .i64 0])) w') :
    Calls Try.prog 17 #[v] w X := by
  have hmf : ∀ (fn : Fn) (first cap : Array Value) (w : World), (Instr.makeFunc fn first cap).run Try.prog w = .ok (.func fn first cap) w := fun _ _ _ _ => rfl
  have hB := BoxW.start w
  obtain ⟨W0, hW0⟩ : ∃ W0, W0 = (((w.alloc (.cells zeroV.toArray 28)).alloc (.cells #[.int .i64 0] 3)).alloc (.cells #[.int .i64 0] 29)) := ⟨_, rfl⟩
  rw [← hW0] at hB
  have hsz : W0.heap.size = w.heap.size + 3 := by rw [hW0]; simp
  have h0 : BS (fun b => b < W0.heap.size) W0 v zs := (h.on hB.bel).mono (fun b hb _ => hb)
  have HBAD : Hid _ := xb
  have HXO : Hid _ := xo
  have hbeg : Calls Try.prog 31 #[v] W0 fun e w' => (∃ (at' : Nat) (er : Int), e = .panicked [fltP at' er] ∧ parR false zs = .bad at' er ∧ Below W0.heap.size W0 w') ∨ (∃ left, e = .returned (.tuple #[.pointer (some ⟨W0.heap.size, 0, none⟩), .int .i64 (lenN zs)]) ∧ RB (fun b => b < W0.heap.size) w' W0.heap.size (zs.drop 6) 6 (c0 (clsN zs) (labN zs)) 0 left ∧ Below W0.heap.size W0 w' ∧ 40 ≤ zs.length ∧ gz zs 0 / 16 = 6) := by
    by_cases hl : zs.length < 40
    · refine (begin_short h0 hl).mono ?_
      rintro e w' ⟨rfl, hb⟩
      exact .inl ⟨0, 50, rfl, by unfold parR; rw [if_pos hl], hb⟩
    · refine begin_long h0 (by omega) _ (fun hn w' hb => .inl ⟨0, 51, rfl, by unfold parR; rw [if_neg hl, if_pos hn], hb⟩) (fun hy w' left hr hb => .inr ⟨left, rfl, hr, hb, by omega, hy⟩)
  have hlnr : 0 ≤ lenN zs ∧ lenN zs < 65536 := by
    have f4 := gz_fit h.row.fit 4
    have f5 := gz_fit h.row.fit 5
    unfold lenN; omega
  have hlb : 0 ≤ labN zs ∧ labN zs ≤ 4294967295 := by
    have f1 := gz_fit h.row.fit 1
    have f2 := gz_fit h.row.fit 2
    have f3 := gz_fit h.row.fit 3
    unfold labN; omega
  have HLB : Hid _ := hlb
  have HPB : Hid (40 ≤ zs.length → gz zs 0 / 16 = 6 → badN false zs → parR false zs = .bad 4 52) := fun a b c => by unfold parR; rw [if_neg (by omega), if_neg (by omega), if_pos c]
  have HPG : Hid (40 ≤ zs.length → gz zs 0 / 16 = 6 → ¬ badN false zs → parR false zs = endR (rdH 9 (zs.drop 40) 40 (gz zs 6) [])) := fun a b c => by unfold parR; rw [if_neg (by omega), if_neg (by omega), if_neg c]
  have HC : Hid _ := hbeg
  have HB : Hid _ := hB
  have HSZ : Hid (W0.heap.size = w.heap.size + 3) := hsz
  obtain ⟨_, _, a, cap, ev, _⟩ := h.row
  subst ev
  have hm := h.row.len
  obtain ⟨zl, hzl⟩ : ∃ n, zs.length = n := ⟨_, rfl⟩
  have HZL : Hid _ := hzl
  obtain ⟨LN, hLN⟩ : ∃ L, lenN zs = L := ⟨_, rfl⟩
  have HLN : Hid _ := hLN
  rw [hLN] at HC hlnr
  rw [hzl] at hm HC ⊢
  obtain ⟨R, hR⟩ : ∃ R, W0.heap.size = R := ⟨_, rfl⟩
  have HRS : Hid _ := hR
  rw [hR] at HC HSZ
  have hW := hW0.symm
  unfold zeroV at hW
  clear hbeg hB hsz h0 h hW0 hzl hR hLN hlb xb xo
  refine Calls.mono (R := fun e w' => Hid (X e w')) ?_ (fun e w' hx => hx.out)
  go_enter_defers Try.func17, Try.ntmps17
  go_wp2_with fail
  refine Calls.mono HC.out ?_
  rintro e1 w1 (⟨at', er, rfl, hbad, hb1⟩ | ⟨left, rfl, hr1, hb1, h40, h6⟩)
  · skip
    refine leaves_cons (f := 35) (args := #[.pointer (some ⟨w.heap.size, 0, none⟩), .pointer (some ⟨w.heap.size + 1, 0, none⟩), .pointer (some ⟨w.heap.size + 2, 0, none⟩)]) (by simp) (by simp [go_sem]) ?_
    refine (catch_faultP w w.heap.size _ 0 0 at' er _ (HB.out.on (by rw [HRS.out]; exact hb1))).mono ?_
    rintro e9 u9 w9 ⟨rfl, rfl, h9⟩
    exact ⟨_, resC rfl rfl rfl rfl h9.load h9.loadX h9.loadY, HBAD.out _ _ hbad _ h9.bel⟩
  · have HR1 : Hid (RB (fun b => b < W0.heap.size) w1 R (zs.drop 6) 6 (c0 (clsN zs) (labN zs)) 0 left) := by rw [HRS.out]; exact hr1
    have HB1 : Hid (Below W0.heap.size W0 w1) := by rw [HRS.out]; exact hb1
    have h40z := h40
    rw [← HZL.out] at h40
    clear hr1 hb1 HC hW
    by_cases hbd : badN false zs
    · have HBD : Hid _ := HPB.out h40 h6 hbd
      have q : decide ((zl : Int) - 40 ≤ LN) = false := by
        unfold badN at hbd
        rw [HLN.out, HZL.out] at hbd
        simp at hbd ⊢
        omega
      have HBW1 : Hid _ := HB.out.on HB1.out
      rw [HZL.out] at h40
      clear hbd
      go_wp2_with fail
      refine Calls.mono (must_bad _ _ _) ?_
      rintro e2 w2 ⟨rfl, hw2⟩
      obtain rfl := hw2.symm
      refine leaves_cons (f := 35) (args := #[.pointer (some ⟨w.heap.size, 0, none⟩), .pointer (some ⟨w.heap.size + 1, 0, none⟩), .pointer (some ⟨w.heap.size + 2, 0, none⟩)]) (by simp) (by simp [go_sem]) ?_
      refine (catch_faultP w w.heap.size _ 0 0 4 52 _ HBW1.out).mono ?_
      rintro e9 u9 w9 ⟨rfl, rfl, h9⟩
      exact ⟨_, resC rfl rfl rfl rfl h9.load h9.loadX h9.loadY, HBAD.out _ _ HBD.out _ h9.bel⟩
    · have hpar := HPG.out h40 h6 hbd
      have q : decide ((zl : Int) - 40 ≤ LN) = true := by
        unfold badN at hbd
        rw [HLN.out, HZL.out] at hbd
        simp at hbd ⊢
        omega
      have hA : ((zs.drop 8).take 32).length = 32 := by rw [List.length_take, List.length_drop]; omega
      have HDG : Hid (Calls Try.prog 33 #[.pointer (some ⟨R, 0, none⟩)] w1 fun e w' => (∃ (at' : Nat) (er : Int), e = .panicked [fltP at' er] ∧ parR false zs = .bad at' er ∧ Below W0.heap.size W0 w') ∨ (∃ hs g proto body vh vb, parR false zs = .ok hs g proto body ∧ e = .returned (VV (finF (clsN zs) (labN zs) (gz zs 7) proto ((zs.drop 8).take 32) hA) g vh vb) ∧ D6 (fun b => R < b) w' (finF (clsN zs) (labN zs) (gz zs 7) proto ((zs.drop 8).take 32) hA) vh vb hs body ∧ Below W0.heap.size W0 w')) := by
        rw [hpar]
        exact datagram_any HR1.out (by rw [HRS.out]; exact Nat.le_refl _) HB1.out h40 HLB.out hA _ (fun at' er he w' hb => .inl ⟨at', er, rfl, he, hb⟩) (fun hs g proto body he w' vh vb hd hb => .inr ⟨hs, g, proto, body, vh, vb, he, rfl, hd, hb⟩)
      rw [HZL.out] at h40
      clear HR1 HB1 hpar hbd
      go_wp2_with fail
      refine Calls.mono (must_good _ _ _) ?_
      rintro e2 w2 ⟨rfl, hw2⟩
      obtain rfl := hw2.symm
      clear hw2
      go_wp2_with fail
      refine Calls.mono HDG.out ?_
      rintro e5 w5 (⟨at', er, rfl, hbad, hb5⟩ | ⟨hs, g, proto, body, vh, vb, hok, rfl, hd5, hb5⟩)
      · skip
        refine leaves_cons (f := 35) (args := #[.pointer (some ⟨w.heap.size, 0, none⟩), .pointer (some ⟨w.heap.size + 1, 0, none⟩), .pointer (some ⟨w.heap.size + 2, 0, none⟩)]) (by simp) (by simp [go_sem]) ?_
        refine (catch_faultP w w.heap.size _ 0 0 at' er _ (HB.out.on hb5)).mono ?_
        rintro e9 u9 w9 ⟨rfl, rfl, h9⟩
        exact ⟨_, resC rfl rfl rfl rfl h9.load h9.loadX h9.loadY, HBAD.out _ _ hbad _ h9.bel⟩
      · have hx5 := HB.out.on hb5
        obtain ⟨FF, hFF⟩ : ∃ FF, finF (clsN zs) (labN zs) (gz zs 7) proto ((zs.drop 8).take 32) hA = FF := ⟨_, rfl⟩
        have HPR : Hid (∀ w', D6 (fun b => w.heap.size ≤ b) w' FF vh vb hs body → Below w.heap.size w w' → X (.returned (.tuple #[VV FF g vh vb, .int .i64 0, .int .i64 0])) w') := fun w' hd hb => by
          have := HXO.out hs g proto body hA hok w' vh vb
          rw [hFF] at this
          exact this hd hb
        rw [hFF] at hd5 ⊢
        obtain ⟨w6, hst6, hB6, hO6⟩ := hx5.sets (vC FF g vh vb) vC_len (vC_one hd5.hd.one hd5.bd.one)
        have m1 := blk_cell hB6.xb (j := 0) rfl
        have n1 := blk_open hB6.xb 0
        have m2 := blk_cell hB6.yb (j := 0) rfl
        have n2 := blk_open hB6.yb 0
        have hlo := HSZ.out
        have hq6 := ((hd5.sep (Sep.of_only (O := fun b => b = w.heap.size) hO6 rfl) (fun b hb e => by omega)).sep (Sep.of_only (O := fun b => b = w.heap.size + 1) ((Only.refl (w.heap.size + 1) w6).set 0 (.int .i64 0)) rfl) (fun b hb e => by omega)).sep (Sep.of_only (O := fun b => b = w.heap.size + 2) ((Only.refl (w.heap.size + 2) _).set 0 (.int .i64 0)) rfl) (fun b hb e => by omega)
        have HQ : Hid _ := hq6.mono (S' := fun b => w.heap.size ≤ b) (fun b _ hb => by omega)
        have HB7 : Hid _ := (hB6.setX 0).setY 0
        have HST : Hid _ := hst6
        clear hd5 hb5 hx5 hB6 hO6 hst6 hq6 hlo HB HDG HSZ HRS hok hFF HBAD HPB HPG HXO
        go_wp2_with ((with_reducible show wpList _ _ _ ({ dst := _, op := Op.store 28 _ _, type := _, pos := _, after := _, guard := _ } :: _) _ _); refine armS (.tmp 2) (.tmp 20) 28 rfl rfl rfl rfl HST.out ?_; try simp only [Act.put])
        refine leaves_cons (f := 35) (args := #[.pointer (some ⟨w.heap.size, 0, none⟩), .pointer (some ⟨w.heap.size + 1, 0, none⟩), .pointer (some ⟨w.heap.size + 2, 0, none⟩)]) (by simp) (by simp [go_sem]) ?_
        refine (catch_idleP _ _ _ _).mono ?_
        rintro e9 u9 w9 ⟨rfl, rfl, hb9⟩
        have h9 := HB7.out.on hb9
        exact ⟨_, resC rfl rfl rfl rfl h9.load h9.loadX h9.loadY, HPR.out _ (HQ.out.on hb9) h9.bel⟩
end

end Go.Proofs.Ytbaeogoojpngbaa
