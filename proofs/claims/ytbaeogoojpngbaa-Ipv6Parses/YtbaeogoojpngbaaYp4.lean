/-
  The document's reader: head of a header of another kind, as it should be.
-/
import Derived.Test.YtbaeogoojpngbaaZpA
namespace Go.Proofs.Ytbaeogoojpngbaa
open Go Go.RowKit
set_option linter.unusedVariables false
set_option linter.unusedSimpArgs false

theorem mid_row {W : World} {rest : List Int} {b off cap n : Nat} (h : RowS W (.slice (some ⟨b, off, none⟩) rest.length cap) rest b off cap) (hn : n ≤ rest.length) (h2 : 2 ≤ n) :
    RowC W (.slice (some ⟨b, off + 2, none⟩) (n - 2) (cap - 2)) ((rest.take n).drop 2) ∧ ((rest.take n).drop 2).length = n - 2 := by
  have hl : ((rest.take n).drop 2).length = n - 2 := by rw [List.length_drop, List.length_take]; omega
  have hroom := h.room
  refine ⟨⟨fun z hz => h.fit z (List.mem_of_mem_take (List.mem_of_mem_drop hz)), by have := h.len; omega, _, cap - 2, by rw [hl], by omega, .inr ⟨b, off + 2, rfl, h.lt, fun j hj => ?_⟩⟩, hl⟩
  rw [hl] at hj
  have := h.cell (2 + j) (by omega)
  rw [show off + (2 + j) = off + 2 + j by omega] at this
  rw [this, List.getElem?_drop, List.getElem?_take, if_pos (by omega)]
  rfl
section
variable {W : World} {R V zb zo zl zc at' k1 bs : Nat} {bad pos kind : Int} {f : F6} {g : G6} {vh vb : Value} {rest : List Int} {hs : Opts} {ds : List Value}
set_option maxHeartbeats 8000000 in
set_option maxRecDepth 100000 in
theorem head_good (h : W.heap[R]? = some (DBox (.slice (some ⟨zb, zo, none⟩) zl zc) at' bad pos)) (hv : W.heap[V]? = some (BV f g vh vb)) (hl : at' ≤ zl) (h8 : 8 ≤ rest.length) (hrl : rest.length = zl - at') (hc : zl ≤ zc) (hz : zl ≤ 1000000000) (hkind : kind ≠ 44) (hkf : 0 ≤ kind ∧ kind < 256)
    (hrs : RowS W (.slice (some ⟨zb, zo + at', none⟩) rest.length (zc - at')) rest zb (zo + at') (zc - at')) (hsz : szH rest ≤ rest.length) (hgood : hs.length < 8 ∧ (kind = 0 → hs.length = 0))
    (hrow : HRow bs W vh hs ds) (hRV : R ≠ V) (hzR : zb ≠ R) (hzV : zb ≠ V) (hzb : zb < bs) (hRb : R < bs) (hVb : V < bs) (hbs : bs ≤ W.heap.size) :
    Calls Try.prog 51 #[.pointer (some ⟨R, 0, none⟩), .pointer (some ⟨V, 0, none⟩), .int .u8 kind] W fun e w' => e = .returned (.tuple #[.int .u8 (gz rest 0), .bool true]) ∧ w'.heap[R]? = some (DBox (.slice (some ⟨zb, zo, none⟩) zl zc) (at' + szH rest : Nat) bad pos) ∧ (∃ vh' ds', w'.heap[V]? = some (BV f g vh' vb) ∧ HRow bs w' vh' (hs ++ [(kind, (rest.take (szH rest)).drop 2)]) ds') ∧ Sep (fun b => b = R ∨ b = V ∨ bs ≤ b) W w' := by
  obtain ⟨va, vc, ev⟩ := hrow.slc
  subst ev
  obtain ⟨k1, hk1⟩ : ∃ k1 : Nat, gz rest 1 = (k1 : Int) := ⟨(gz rest 1).toNat, by have := gz_fit hrs.fit 1; omega⟩
  have hk256 : k1 < 256 := by have := gz_fit hrs.fit 1; omega
  obtain ⟨sz, hszd⟩ : ∃ sz, szH rest = sz := ⟨_, rfl⟩
  have hszk : sz = (k1 + 1) * 8 := by rw [← hszd]; unfold szH; rw [hk1]; simp
  rw [hszd] at hsz ⊢
  have hmul : 8 * ((k1 : Int) + 1) = (sz : Int) := by rw [hszk]; omega
  obtain ⟨hm1, hm2⟩ := mid_row hrs hsz (by omega)
  obtain ⟨DD, hDD⟩ : ∃ DD, (rest.take sz).drop 2 = DD := ⟨_, rfl⟩
  rw [hDD] at hm1 hm2 ⊢
  obtain ⟨Wd, hWd⟩ : ∃ Wd, Wd = W.drew.drew := ⟨_, rfl⟩
  have hbd : Below W.heap.size W Wd := by rw [hWd]; exact (Below.refl _ W).drew.drew
  have hsd : Wd.heap.size = W.heap.size := by rw [hWd]; rfl
  have hvd : Wd.heap[V]? = some (BV f g (.slice va hs.length vc) vb) := by rw [hWd]; exact hv
  have hRd : Wd.heap[R]? = some (DBox (.slice (some ⟨zb, zo, none⟩) zl zc) at' bad pos) := by rw [hWd]; exact h
  have hrd := hrow.on hbd
  have hmd := hm1.on hbd
  obtain ⟨A1, hA1⟩ : ∃ A1, A1 = Wd.drew.alloc (.cells #[] 5) := ⟨_, rfl⟩
  have hb1 : Below Wd.heap.size Wd A1 := by rw [hA1]; exact (Below.refl Wd.heap.size Wd).drew.alloc (Nat.le_refl _) _
  have hs1 : A1.heap.size = Wd.heap.size + 1 := by rw [hA1]; simp
  obtain ⟨b2, c2, W2, hrun2, hb2, hc2⟩ := copy_run (B := Wd.heap.size) hmd.bytes hb1 (Nat.le_refl _) (by omega) 26
  rw [hm2] at hrun2
  have hB2 : Below Wd.heap.size Wd W2 := hb1.trans (hb2.mono hb1.size)
  have hbs2 := hc2.bs hm1.fit hm1.len
  rw [hm2] at hbs2
  have hrow2 := hrd.on hB2
  have hob : ∀ b, Value.ownBlock (.slice va hs.length vc) = some b → b < Wd.heap.size := fun b e => (own_lt hrd.own e).2
  obtain ⟨v3, W3, hrun3, hrow3, hsep3⟩ := hrow2.push (u := .slice (some ⟨b2, 0, none⟩) (sz - 2) c2) (D := DD) (K := kind) (by have := hB2.size; omega) (by omega) hkf (hbs2.mono (fun b hb hh => ⟨by omega, fun e => by have := hob b e; omega⟩)) 25
  have hbx : hBox kind (.slice (some ⟨b2, 0, none⟩) (sz - 2) c2) = .cells #[.int .u8 kind, .slice (some ⟨b2, 0, none⟩) (sz - 2) c2] 52 := rfl
  rw [hbx] at hrun3
  have hbA := (Below.refl W2.heap.size W2).alloc (Nat.le_refl _) (.cells #[.int .u8 kind, .slice (some ⟨b2, 0, none⟩) (sz - 2) c2] 52)
  obtain ⟨va3, vc3, ev3⟩ := hrow3.slc
  rw [List.length_append, List.length_singleton] at ev3
  subst ev3
  have hv3 : W3.heap[V]? = some (BV f g (.slice va hs.length vc) vb) := hsep3.blk (blk_on hvd hB2) (by omega)
  have hR3 : W3.heap[R]? = some (DBox (.slice (some ⟨zb, zo, none⟩) zl zc) at' bad pos) := hsep3.blk (blk_on hRd hB2) (by omega)
  -- the store of the row, then of the place
  obtain ⟨W4, hW4⟩ : ∃ W4, W4 = W3.setCell ⟨V, 35, none⟩ (.slice va3 (hs.length + 1) vc3) := ⟨_, rfl⟩
  have hv4 : W4.heap[V]? = some (BV f g (.slice va3 (hs.length + 1) vc3) vb) := by rw [hW4]; exact vs35 hv3 _
  have ho4 : Only V W3 W4 := by rw [hW4]; exact (Only.refl V W3).set 35 _
  have hR4 : W4.heap[R]? = some (DBox (.slice (some ⟨zb, zo, none⟩) zl zc) at' bad pos) := (ho4.other R hRV).trans hR3
  have hrow4 := hrow3.sep (Sep.of_only (O := fun b => b = V) ho4 rfl) (fun b hb e => by omega)
  have hR5 : (W4.setCell ⟨R, 1, none⟩ (.int .i64 ((at' : Int) + (sz : Int)))).heap[R]? = some (DBox (.slice (some ⟨zb, zo, none⟩) zl zc) (at' + sz : Nat) bad pos) := by
    have := blk_set hR4 1 (.int .i64 ((at' : Int) + (sz : Int)))
    rw [show ((at' + sz : Nat) : Int) = (at' : Int) + (sz : Int) by omega]
    exact this
  have ho5 : Only R W4 (W4.setCell ⟨R, 1, none⟩ (.int .i64 ((at' : Int) + (sz : Int)))) := (Only.refl R W4).set 1 _
  have hv5 : (W4.setCell ⟨R, 1, none⟩ (.int .i64 ((at' : Int) + (sz : Int)))).heap[V]? = some (BV f g (.slice va3 (hs.length + 1) vc3) vb) := blk_set_other hv4 (fun e => hRV e.symm) 1 _
  have hrow5 := hrow4.sep (Sep.of_only (O := fun b => b = R) ho5 rfl) (fun b hb e => by omega)
  have hsep5 : Sep (fun b => b = R ∨ b = V ∨ bs ≤ b) W (W4.setCell ⟨R, 1, none⟩ (.int .i64 ((at' : Int) + (sz : Int)))) :=
    (((Sep.of_below (O := fun b => b = R ∨ b = V ∨ bs ≤ b) (hbd.trans (by rw [← hsd]; exact hB2))).trans (hsep3.mono (fun b _ hb => .inr (.inr hb)))).trans (Sep.of_only ho4 (.inr (.inl rfl)))).trans (Sep.of_only ho5 (.inl rfl))
  have HFIN : Hid (∀ w', w' = W4.setCell ⟨R, 1, none⟩ (.int .i64 ((at' : Int) + (sz : Int))) → w'.heap[R]? = some (DBox (.slice (some ⟨zb, zo, none⟩) zl zc) (at' + sz : Nat) bad pos) ∧ (∃ vh' ds', w'.heap[V]? = some (BV f g vh' vb) ∧ HRow bs w' vh' (hs ++ [(kind, DD)]) ds') ∧ Sep (fun b => b = R ∨ b = V ∨ bs ≤ b) W w') := fun w' e => by
    subst e
    exact ⟨hR5, ⟨_, _, hv5, hrow5⟩, hsep5⟩
  have m0 : W.cell? ⟨R, 0, none⟩ = some (.slice (some ⟨zb, zo, none⟩) zl zc) := blk_cell h (j := 0) rfl
  have m1 : W.cell? ⟨R, 1, none⟩ = some (.int .i64 at') := blk_cell h (j := 1) rfl
  have m0d : Wd.cell? ⟨R, 0, none⟩ = some (.slice (some ⟨zb, zo, none⟩) zl zc) := blk_cell hRd (j := 0) rfl
  have m1d : Wd.cell? ⟨R, 1, none⟩ = some (.int .i64 at') := blk_cell hRd (j := 1) rfl
  have q1 : decide ((zl : Int) - (at' : Int) < 8) = false := by simp; omega
  have i1 : at' ≤ zl := hl
  have i3 : at' < zc := by omega
  have i4 : (zc = at') = False := by simp; omega
  have q44 : (kind == 44) = false := by simp [hkind]
  have r1 : Wd.cell? ⟨zb, zo + at' + 1, none⟩ = some (.int .u8 (k1 : Int)) := by rw [← hk1]; exact (hbd.cell (p := ⟨zb, zo + at' + 1, none⟩) hrs.lt).trans (hrs.cell 1 (by omega))
  have k35 : Wd.cell? ⟨V, 35, none⟩ = some (.slice va hs.length vc) := vb35 hvd
  have k35a : A1.cell? ⟨V, 35, none⟩ = some (.slice va hs.length vc) := vb35 (blk_on hvd hb1)
  have k35b : W2.cell? ⟨V, 35, none⟩ = some (.slice va hs.length vc) := vb35 (blk_on hvd hB2)
  have k35c : (W2.alloc (.cells #[.int .u8 kind, .slice (some ⟨b2, 0, none⟩) (sz - 2) c2] 52)).cell? ⟨V, 35, none⟩ = some (.slice va hs.length vc) := vb35 (blk_on (blk_on hvd hB2) hbA)
  have k35d : W3.cell? ⟨V, 35, none⟩ = some (.slice va hs.length vc) := vb35 hv3
  have o35 := blk_open hv3 35
  have n1 : W4.cell? ⟨R, 1, none⟩ = some (.int .i64 at') := blk_cell hR4 (j := 1) rfl
  have p1 := blk_open hR4 1
  have z4 : W4.cell? ⟨zb, zo + at', none⟩ = some (.int .u8 (gz rest 0)) := by
    have e0 : Wd.cell? ⟨zb, zo + at', none⟩ = some (.int .u8 (gz rest 0)) := (hbd.cell (p := ⟨zb, zo + at', none⟩) hrs.lt).trans (hrs.cell 0 (by omega))
    have hzlt : zb < Wd.heap.size := Nat.lt_of_lt_of_le hrs.lt hbd.size
    have e2 : W2.cell? ⟨zb, zo + at', none⟩ = some (.int .u8 (gz rest 0)) := (hB2.cell (p := ⟨zb, zo + at', none⟩) hzlt).trans e0
    have e3 : W3.heap[zb]? = W2.heap[zb]? := hsep3.same zb (Nat.lt_of_lt_of_le hzlt hB2.size) (by omega)
    have e4 : W4.heap[zb]? = W2.heap[zb]? := (ho4.other zb hzV).trans e3
    rw [← e2]
    simp [World.cell?, e4]
  have z5 : (W4.setCell ⟨R, 1, none⟩ (.int .i64 ((at' : Int) + (sz : Int)))).cell? ⟨zb, zo + at', none⟩ = some (.int .u8 (gz rest 0)) := by
    rw [← z4]
    have := ho5.other zb hzR
    simp only [World.cell?, this]
  have q2 : decide (((zl - at' : Nat) : Int) < (sz : Int)) = false := by simp; omega
  have q2' : decide ((zl : Int) - (at' : Int) < (sz : Int)) = false := by simp; omega
  have q2n : decide (zl - at' < sz) = false := by simp; omega
  have q0 : (kind = 0 → decide ((0 : Int) < (hs.length : Int)) = false ∧ decide (0 < hs.length) = false) := fun e => by have := hgood.2 e; simp [this]
  have Q0 : Hid _ := q0
  have qb : decide ((8 : Int) ≤ (hs.length : Int)) = false := by simp; omega
  have qb' : decide (8 ≤ hs.length) = false := by simp; omega
  have hA1' := hA1.symm
  have hW4' := hW4.symm
  have hWd' := hWd.symm
  have t1 : 2 ≤ sz := by omega
  have t2 : sz ≤ zc - at' := by omega
  have t3 : 2 < zc - at' := by omega
  have t4 : (zc - at' = 2) = False := by simp; omega
  have t5 : (2 : Int) ≤ (sz : Int) := by omega
  have t6 : (sz : Int) ≤ ((zc - at' : Nat) : Int) := by omega
  have t8 : sz ≤ 2048 := by omega
  have t9 : at' ≤ 1000000000 := by omega
  have HR2 : Hid _ := hrun2
  have HR3 : Hid _ := hrun3
  clear q0 hrun2 hrun3 hR5 hv5 hrow5 hsep5 ho5 hrow4 hR4 ho4 hv4 hR3 hv3 hbA hbx hsep3 hrow3 hob hrow2 hbs2 hB2 hc2 hb2 hs1 hb1 hmd hrd hRd hvd hsd hbd hDD hm1 hm2 hszd hszk h hv hrow hA1 hW4 hWd hrs hsz hgood
  generalize gz rest 0 = z0 at *
  generalize hs.length = vn at *
  by_cases hk0 : kind = 0
  · have q3 := (Q0.out hk0).1
    have q3' := (Q0.out hk0).2
    subst hk0
    go_enter Try.func51, Try.ntmps51
    go_wp2_with fail
    go_region
    go_wp2_with fail
    go_region
    go_wp2_with fail
    go_region_law (first | (refine step_appendR (R := fun v w => v = .slice (some ⟨b2, 0, none⟩) (sz - 2) c2 ∧ w = W2) rfl _ _ _ _ rfl rfl rfl ⟨_, _, HR2.out, rfl, rfl⟩ ?_; rintro _ _ ⟨rfl, rfl⟩) | (refine step_appendR (R := fun v w => v = .slice va3 (vn + 1) vc3 ∧ w = W3) rfl _ _ _ _ rfl rfl rfl ⟨_, _, HR3.out, rfl, rfl⟩ ?_; rintro _ _ ⟨rfl, rfl⟩))
    all_goals
      go_wp2_with fail
      go_ret2
      exact ⟨rfl, HFIN.out _ rfl⟩
  · have q0 : (kind == 0) = false := by simp [hk0]
    clear hk0 Q0 hkind
    go_enter Try.func51, Try.ntmps51
    go_wp2_with fail
    go_region
    go_wp2_with fail
    go_region
    go_wp2_with fail
    go_region_law (first | (refine step_appendR (R := fun v w => v = .slice (some ⟨b2, 0, none⟩) (sz - 2) c2 ∧ w = W2) rfl _ _ _ _ rfl rfl rfl ⟨_, _, HR2.out, rfl, rfl⟩ ?_; rintro _ _ ⟨rfl, rfl⟩) | (refine step_appendR (R := fun v w => v = .slice va3 (vn + 1) vc3 ∧ w = W3) rfl _ _ _ _ rfl rfl rfl ⟨_, _, HR3.out, rfl, rfl⟩ ?_; rintro _ _ ⟨rfl, rfl⟩))
    all_goals
      go_wp2_with fail
      go_ret2
      exact ⟨rfl, HFIN.out _ rfl⟩
end

end Go.Proofs.Ytbaeogoojpngbaa
