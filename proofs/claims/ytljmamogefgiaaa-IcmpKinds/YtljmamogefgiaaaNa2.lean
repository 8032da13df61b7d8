/-
  write of package icmp.
-/
import Derived.Test.YtljmamogefgiaaaNa1
namespace Go.Proofs.Ytljmamogefgiaaa
open Go Go.RowKit Go.Shelf
set_option linter.unusedVariables false
set_option linter.unusedSimpArgs false

theorem UW_BytesAt {n m : Nat} {W : World} {v : Value} {zs : List Int} (h : BytesAt n W v zs) (hnm : n ≤ m) : BytesAt m W v zs := by
  obtain ⟨q1, q2, q3, q4, q5, q6⟩ := h
  refine ⟨q1, q2, q3, q4, q5, q6.imp id ?_⟩
  rintro ⟨bb, oo, e, hl, hc⟩
  exact ⟨bb, oo, e, Nat.lt_of_lt_of_le hl hnm, hc⟩
theorem OwnG.all {b : Nat} {w : World} {zs : List Int} (h : OwnG w b zs) (hf : Fit zs) (hl : zs.length ≤ 140737488351232) (n cap : Nat) (hn : n = zs.length) : BytesAt w.heap.size w (.slice (some ⟨b, 0, none⟩) n cap) zs := by
  have := h.bytes hf hl 0 n cap (by omega)
  simpa [hn] using this
theorem OB.lower {B base : Nat} {w W wx : World} {v : Value} {zs : List Int} (h : OB base W wx v zs) (hb : Below B w W) (hB : B ≤ base) : OB B w wx v zs := by
  obtain ⟨⟨h1, h2⟩, h3⟩ := h
  refine ⟨⟨h1, h2.imp id ?_⟩, hb.trans (h3.mono hB)⟩
  rintro ⟨g, cap, cur, e, hg, r⟩
  exact ⟨g, cap, cur, e, Nat.le_trans hB hg, r⟩

/-- A message. -/
structure Msg where
  ty : Int
  code : Int
  rest : Int
  body : List Int
structure MsgC (w : World) (c : List Value) (m : Msg) : Prop where
  val : ∃ vb, c = [.int .u8 m.ty, .int .u8 m.code, .int .u32 m.rest, vb] ∧ BytesAt w.heap.size w vb m.body
  ft : 0 ≤ m.ty ∧ m.ty ≤ 255
  fc : 0 ≤ m.code ∧ m.code ≤ 255
  fr : 0 ≤ m.rest ∧ m.rest ≤ 4294967295
theorem MsgC.on {w W : World} {c : List Value} {m : Msg} (h : MsgC w c m) (hb : Below w.heap.size w W) : MsgC W c m := by
  obtain ⟨⟨vd, h1, h2⟩, h3, h4, h5⟩ := h
  exact ⟨⟨vd, h1, h2.later hb⟩, h3, h4, h5⟩
theorem MsgC.len {w : World} {c : List Value} {m : Msg} (h : MsgC w c m) : c.length = 4 := by
  obtain ⟨⟨vd, rfl, _⟩, _⟩ := h
  rfl
theorem MsgC.one {w : World} {c : List Value} {m : Msg} (h : MsgC w c m) : ∀ v ∈ c, v.oneCell' = true := by
  obtain ⟨⟨vd, rfl, hd⟩, _⟩ := h
  obtain ⟨a, k, rfl, _⟩ := hd.val
  simp [Value.oneCell']
/-- A message's first bytes, with a checksum. -/
def icH (m : Msg) (ck : Int) : List Int := [m.ty, m.code, ck / 256, ck % 256, m.rest / 16777216, m.rest / 65536 % 256, m.rest / 256 % 256, m.rest % 256]
def icK (ph : Int → List Int) (m : Msg) : Int := 65535 - sumW 0 (wordsL (ph (8 + (m.body.length : Int)) ++ (icH m 0 ++ m.body)))
def icL (ph : Int → List Int) (m : Msg) : List Int := icH m (icK ph m) ++ m.body
theorem icH_fit {m : Msg} {w : World} {c : List Value} (h : MsgC w c m) {ck : Int} (hk : 0 ≤ ck ∧ ck ≤ 65535) : Fit (icH m ck) := by
  obtain ⟨_, h1, h2, h3⟩ := h
  intro z hz
  simp [icH] at hz
  rcases hz with rfl | rfl | rfl | rfl | rfl | rfl | rfl | rfl <;> omega
theorem icK_range {ph : Int → List Int} {m : Msg} {w : World} {c : List Value} (h : MsgC w c m) (hp : Fit (ph (8 + (m.body.length : Int)))) : 0 ≤ icK ph m ∧ icK ph m ≤ 65535 := by
  obtain ⟨vb, _, hb⟩ := h.val
  have hrg := sumW_range (wordsL (ph (8 + (m.body.length : Int)) ++ (icH m 0 ++ m.body))) 0 (by decide) (wordsL_words (hp.append ((icH_fit h (by decide)).append hb.fit)))
  unfold icK
  omega

set_option maxHeartbeats 2000000 in
set_option maxRecDepth 100000 in
theorem write_ok (o : Value) (ph : Int → List Int) (c : List Value) (m : Msg) (w : World) (ho : OverI w o ph) (hph : ∀ n : Int, 0 ≤ n ∧ n ≤ 65535 → Fit (ph n)) (hm : MsgC w c m) (hn : 8 + m.body.length ≤ 65535) :
    Calls Try.prog 33 #[o, .agg c.toArray] w fun e w' => ∃ v, e = .returned (.tuple #[v, .int .i64 0]) ∧ OB w.heap.size w w' v (icL ph m) := by
  have hm0 := hm
  obtain ⟨⟨vb, rfl, hd⟩, ft, fc, fr⟩ := hm
  obtain ⟨g0, lb, rfl⟩ := ho.own
  have hb0 := blk_new w (.cells [.int .u8 m.ty, .int .u8 m.code, .int .u32 m.rest, vb].toArray 26)
  have hB0 := (Below.refl w.heap.size w).alloc (Nat.le_refl _) (.cells [.int .u8 m.ty, .int .u8 m.code, .int .u32 m.rest, vb].toArray 26)
  obtain ⟨W0, hW0⟩ : ∃ W0, w.alloc (.cells [.int .u8 m.ty, .int .u8 m.code, .int .u32 m.rest, vb].toArray 26) = W0 := ⟨_, rfl⟩
  rw [hW0] at hb0 hB0
  have k0 := blk_cell (j := 0) hb0 rfl
  have k1 := blk_cell (j := 1) hb0 rfl
  have k2 := blk_cell (j := 2) hb0 rfl
  have hh0 := blk_new W0 (.cells (u8L (icH m 0)).toArray 5)
  have hBh := (Below.refl W0.heap.size W0).alloc (Nat.le_refl _) (.cells (u8L (icH m 0)).toArray 5)
  have eh : u8L (icH m 0) = [.int .u8 m.ty, .int .u8 m.code, .int .u8 0, .int .u8 0, .int .u8 (m.rest / 16777216), .int .u8 (m.rest / 65536 % 256), .int .u8 (m.rest / 256 % 256), .int .u8 (m.rest % 256)] := rfl
  rw [eh] at hh0 hBh
  obtain ⟨W1, hW1⟩ : ∃ W1, W0.alloc (.cells [.int .u8 m.ty, .int .u8 m.code, .int .u8 0, .int .u8 0, .int .u8 (m.rest / 16777216), .int .u8 (m.rest / 65536 % 256), .int .u8 (m.rest / 256 % 256), .int .u8 (m.rest % 256)].toArray 5) = W1 := ⟨_, rfl⟩
  rw [hW1] at hh0 hBh
  have hw1 := hB0.trans (hBh.mono hB0.size)
  have hown : OwnG W1 W0.heap.size (icH m 0) := OwnG.of_u8L (by rw [eh]; exact hh0)
  have hF0 := icH_fit hm0 (ck := 0) (by decide)
  have hhead := hown.all hF0 (by show 8 ≤ _; decide) 8 8 rfl
  have hdat := hd.later hw1
  have hP := parts_two W1 _ _ 24 _ _ hhead hdat
  have hBp := (Below.refl W1.heap.size W1).alloc (Nat.le_refl _) (.cells #[.slice (some ⟨W0.heap.size, 0, none⟩) 8 8, vb] 24)
  have hfl : [icH m 0, m.body].flatten = icH m 0 ++ m.body := by simp
  have hck := check_ok _ ph _ _ _ (ho.later (hw1.trans (hBp.mono hw1.size))) hP (by simp) (by rw [hfl, List.length_append]; exact hn)
  have hlen : ((icH m 0 ++ m.body).length : Int) = 8 + (m.body.length : Int) := by rw [List.length_append]; simp [icH]
  rw [hfl, hlen] at hck
  have hkr := icK_range hm0 (hph (8 + (m.body.length : Int)) (by omega))
  have hke : 65535 - sumW 0 (wordsL (ph (8 + (m.body.length : Int)) ++ (icH m 0 ++ m.body))) = icK ph m := rfl
  rw [hke] at hck
  have k3 := blk_cell (j := 3) (blk_on hb0 hBh) rfl
  have HCK : Hid _ := hck
  have HBP : Hid _ := hBp
  have HOWN : Hid _ := hown
  have HD : Hid _ := hd
  have HB0 : Hid _ := hB0
  have HBK : Hid _ := hb0
  have HBH : Hid _ := hBh
  have HM0 : Hid _ := hm0
  have hs1 : W0.heap.size < W1.heap.size := hown.lt
  have hL : Hid (icL ph m = icH m (icK ph m) ++ m.body) := rfl
  obtain ⟨ad, cd, rfl, _⟩ := hd.val
  obtain ⟨ty, code, rest, body⟩ := m
  dsimp only at *
  have r1 : rest / 16777216 % 256 = rest / 16777216 := by omega
  clear hck hBp hown hhead hdat hP hfl hlen hke hd hh0 eh hF0 hw1 hph ho hm0
  go_enter Try.func33, Try.ntmps33
  go_wp2_with fail
  refine Calls.mono HCK.out ?_
  rintro _ w2 ⟨rfl, hb2⟩
  have hx2 := HBP.out.trans (hb2.mono HBP.out.size)
  have own2 := HOWN.out.kept hs1 hx2
  have c2 : w2.cell? ⟨W0.heap.size, 2, none⟩ = some (.int .u8 0) := own2.cell 2 (by show 2 < 8; decide)
  have c3 : (w2.setCell ⟨W0.heap.size, 2, none⟩ (.int .u8 (icK ph ⟨ty, code, rest, body⟩ / 256))).cell? ⟨W0.heap.size, 3, none⟩ = some (.int .u8 0) := (own2.set 2 (by show 2 < 8; decide) _).cell 3 (by show 3 < 8; decide)
  have f2 : w2.frozen? ⟨W0.heap.size, 2, none⟩ = false := own2.open 2
  have f3 : (w2.setCell ⟨W0.heap.size, 2, none⟩ (.int .u8 (icK ph ⟨ty, code, rest, body⟩ / 256))).frozen? ⟨W0.heap.size, 3, none⟩ = false := (own2.set 2 (by show 2 < 8; decide) _).open 3
  have hown4 : OwnG ((w2.setCell ⟨W0.heap.size, 2, none⟩ (.int .u8 (icK ph ⟨ty, code, rest, body⟩ / 256))).setCell ⟨W0.heap.size, 3, none⟩ (.int .u8 (icK ph ⟨ty, code, rest, body⟩ % 256))) W0.heap.size (icH ⟨ty, code, rest, body⟩ (icK ph ⟨ty, code, rest, body⟩)) := (own2.set 2 (by show 2 < 8; decide) _).set 3 (by show 3 < 8; decide) _
  have honly : Only W0.heap.size w2 ((w2.setCell ⟨W0.heap.size, 2, none⟩ (.int .u8 (icK ph ⟨ty, code, rest, body⟩ / 256))).setCell ⟨W0.heap.size, 3, none⟩ (.int .u8 (icK ph ⟨ty, code, rest, body⟩ % 256))) := ((Only.refl _ _).set _ _).set _ _
  obtain ⟨W4, hW4⟩ : ∃ W4, (w2.setCell ⟨W0.heap.size, 2, none⟩ (.int .u8 (icK ph ⟨ty, code, rest, body⟩ / 256))).setCell ⟨W0.heap.size, 3, none⟩ (.int .u8 (icK ph ⟨ty, code, rest, body⟩ % 256)) = W4 := ⟨_, rfl⟩
  rw [hW4] at hown4 honly
  have hx02 := HBH.out.trans (hx2.mono HBH.out.size)
  have hx04 : Below W0.heap.size W0 W4 := hx02.trans (honly.below (Nat.le_refl _))
  have hw4 := HB0.out.trans (hx04.mono HB0.out.size)
  have hF4 := icH_fit HM0.out hkr
  have hhead4 := hown4.all hF4 (by show 8 ≤ _; decide) 8 8 rfl
  have hP4 := parts_two W4 _ _ 24 _ _ hhead4 (HD.out.later hw4)
  have hB4 := (Below.refl W4.heap.size W4).alloc (Nat.le_refl _) (.cells #[.slice (some ⟨W0.heap.size, 0, none⟩) 8 8, .slice ad body.length cd] 24)
  have hfl4 : [icH ⟨ty, code, rest, body⟩ (icK ph ⟨ty, code, rest, body⟩), body].flatten = icL ph ⟨ty, code, rest, body⟩ := by rw [hL.out]; simp
  have hcat := Concat_calls _ _ _ hP4 (by simp) (by rw [hfl4, hL.out, List.length_append]; show 8 + body.length ≤ _; omega)
  rw [hfl4] at hcat
  have HCAT : Hid _ := hcat
  have HW4 : Hid (Below w.heap.size w (W4.alloc (.cells #[.slice (some ⟨W0.heap.size, 0, none⟩) 8 8, .slice ad body.length cd] 24))) := hw4.trans (hB4.mono hw4.size)
  have k34 := blk_cell (j := 3) (blk_on HBK.out hx04) rfl
  clear hcat hP4 hhead4 hx04 hx02 hw4 hown4 honly hfl4 hB4 hx2 own2 hb2 HCK hF4 k0 k1 k2 k3 hW0 hW1 HBP HOWN HD HBH HM0
  generalize icK ph ⟨ty, code, rest, body⟩ = ck at *
  have r2 : ck / 256 % 256 = ck / 256 := by omega
  go_wp2_with fail
  refine Calls.mono HCAT.out ?_
  rintro _ w5 ⟨v5, rfl, h5⟩
  have H5 : Hid (OB w.heap.size w w5 v5 (icL ph ⟨ty, code, rest, body⟩)) := h5.lower HW4.out HW4.out.size
  clear h5 HCAT
  go_wp2
  go_ret2
  exact ⟨_, rfl, H5.out⟩

set_option maxHeartbeats 2000000 in
set_option maxRecDepth 100000 in
theorem write_long (o : Value) (ph : Int → List Int) (c : List Value) (m : Msg) (w : World) (ho : OverI w o ph) (hm : MsgC w c m) (hn : 65535 < 8 + m.body.length) :
    Calls Try.prog 33 #[o, .agg c.toArray] w fun e w' => e = .returned (.tuple #[.slice none 0 0, .int .i64 2]) ∧ Below w.heap.size w w' := by
  have hm0 := hm
  obtain ⟨⟨vb, rfl, hd⟩, ft, fc, fr⟩ := hm
  obtain ⟨g0, lb, rfl⟩ := ho.own
  have hb0 := blk_new w (.cells [.int .u8 m.ty, .int .u8 m.code, .int .u32 m.rest, vb].toArray 26)
  have hB0 := (Below.refl w.heap.size w).alloc (Nat.le_refl _) (.cells [.int .u8 m.ty, .int .u8 m.code, .int .u32 m.rest, vb].toArray 26)
  obtain ⟨W0, hW0⟩ : ∃ W0, w.alloc (.cells [.int .u8 m.ty, .int .u8 m.code, .int .u32 m.rest, vb].toArray 26) = W0 := ⟨_, rfl⟩
  rw [hW0] at hb0 hB0
  have k0 := blk_cell (j := 0) hb0 rfl
  have k1 := blk_cell (j := 1) hb0 rfl
  have k2 := blk_cell (j := 2) hb0 rfl
  have hh0 := blk_new W0 (.cells (u8L (icH m 0)).toArray 5)
  have hBh := (Below.refl W0.heap.size W0).alloc (Nat.le_refl _) (.cells (u8L (icH m 0)).toArray 5)
  have eh : u8L (icH m 0) = [.int .u8 m.ty, .int .u8 m.code, .int .u8 0, .int .u8 0, .int .u8 (m.rest / 16777216), .int .u8 (m.rest / 65536 % 256), .int .u8 (m.rest / 256 % 256), .int .u8 (m.rest % 256)] := rfl
  rw [eh] at hh0 hBh
  obtain ⟨W1, hW1⟩ : ∃ W1, W0.alloc (.cells [.int .u8 m.ty, .int .u8 m.code, .int .u8 0, .int .u8 0, .int .u8 (m.rest / 16777216), .int .u8 (m.rest / 65536 % 256), .int .u8 (m.rest / 256 % 256), .int .u8 (m.rest % 256)].toArray 5) = W1 := ⟨_, rfl⟩
  rw [hW1] at hh0 hBh
  have hw1 := hB0.trans (hBh.mono hB0.size)
  have hown : OwnG W1 W0.heap.size (icH m 0) := OwnG.of_u8L (by rw [eh]; exact hh0)
  have hF0 := icH_fit hm0 (ck := 0) (by decide)
  have hhead := hown.all hF0 (by show 8 ≤ _; decide) 8 8 rfl
  have hdat := hd.later hw1
  have hP := parts_two W1 _ _ 24 _ _ hhead hdat
  have hBp := (Below.refl W1.heap.size W1).alloc (Nat.le_refl _) (.cells #[.slice (some ⟨W0.heap.size, 0, none⟩) 8 8, vb] 24)
  have hfl : [icH m 0, m.body].flatten = icH m 0 ++ m.body := by simp
  have hck := check_long _ ph _ _ _ (ho.later (hw1.trans (hBp.mono hw1.size))) hP (by simp) (by rw [hfl, List.length_append]; exact hn) (by rw [hfl, List.length_append]; have := hd.len; show 8 + m.body.length ≤ _; omega)
  have hlen : ((icH m 0 ++ m.body).length : Int) = 8 + (m.body.length : Int) := by rw [List.length_append]; simp [icH]
  have k3 := blk_cell (j := 3) (blk_on hb0 hBh) rfl
  have HCK : Hid _ := hck
  have HBP : Hid _ := hBp
  have HOWN : Hid _ := hown
  have HD : Hid _ := hd
  have HB0 : Hid _ := hB0
  have HBK : Hid _ := hb0
  have HBH : Hid _ := hBh
  have HM0 : Hid _ := hm0
  have hs1 : W0.heap.size < W1.heap.size := hown.lt
  obtain ⟨ad, cd, rfl, _⟩ := hd.val
  obtain ⟨ty, code, rest, body⟩ := m
  dsimp only at *
  have r1 : rest / 16777216 % 256 = rest / 16777216 := by omega
  clear hck hBp hown hhead hdat hP hfl hlen hd hh0 eh hF0 hw1 ho hm0
  go_enter Try.func33, Try.ntmps33
  go_wp2_with fail
  refine Calls.mono HCK.out ?_
  rintro _ w2 ⟨rfl, hb2⟩
  have hx2 := HBP.out.trans (hb2.mono HBP.out.size)
  have hx02 := HBH.out.trans (hx2.mono HBH.out.size)
  have HX : Hid _ := HB0.out.trans (hx02.mono HB0.out.size)
  clear hx2 hx02 hb2
  go_wp2
  go_ret2
  exact ⟨rfl, HX.out⟩

end Go.Proofs.Ytljmamogefgiaaa
