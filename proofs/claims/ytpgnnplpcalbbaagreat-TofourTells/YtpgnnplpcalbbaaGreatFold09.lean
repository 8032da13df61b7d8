/-
  The document's Check and Size of IPv6.
  IPv6 datagrams as boxes of 42 cells; must, check, fits, heads, headed of package splitsix.
  What stands behind so many heads, of both sides; addWord, addLong, addFragHead of package ipv6.
-/
import Derived.Test.YtpgnnplpcalbbaaGreatFold08
set_option linter.unusedVariables false
set_option linter.unusedSimpArgs false
namespace Go.Proofs.YtpgnnplpcalbbaaGreat.V6
open Go Go.RowKit
section
variable {c : List Value} {cls lab hop : Int} {vh : Value} {fr : Bool} {id off : Int} {more : Bool} {proto : Int} {vb : Value}
set_option maxHeartbeats 1000000 in
set_option maxRecDepth 100000 in
theorem RCheck_calls (w : World) (h : L6 c cls lab hop vh fr id off more proto vb) (hs : Opts) (hh : OptsAt w.heap.size w vh hs) (body : List Int) (hbd : BytesAt w.heap.size w vb body) :
    Calls Tryz.prog 69 #[.agg c.toArray] w fun e w' => ∃ er, e = .returned (.int .i64 er) ∧ Chk6 lab hs fr id off more proto body.length er ∧ Below w.heap.size w w' := by
  have hb0 := blk_new w (.cells c.toArray 36)
  have hB0 := (Below.refl w.heap.size w).alloc (Nat.le_refl _) (.cells c.toArray 36)
  generalize hW0 : w.alloc (.cells c.toArray 36) = W0 at *
  have hLA : ∀ x : Hi W0, (Instr.loadAt 36 (.pointer (some ⟨w.heap.size, 0, none⟩))).run Tryz.prog x.W = .ok (.agg c.toArray) x.W := fun x => agg_load Tryz.isAgg36 Tryz.sizeOf36 h.len (CellsAt.of_blk (Hi.blk hb0 x))
  have K41 : Hid (∀ x : Hi W0, x.W.cell? ⟨w.heap.size, 41, none⟩ = some vb) := fun x => blk_cell (Hi.blk hb0 x) h.c41
  have HLA : Hid _ := hLA
  have HL0 : Hid ((Instr.loadAt 36 (.pointer (some ⟨w.heap.size, 0, none⟩))).run Tryz.prog W0 = .ok (.agg c.toArray) W0) := hLA (Hi.refl _)
  have HRT : Hid (∀ x : Hi W0, _) := fun x => right_calls x.W h hs (hh.later (hB0.trans (x.below.mono hB0.size)))
  have HAH : Hid (headsB hs → ∀ x : Hi W0, _) := fun hb x => Rheads_calls x.W h hs (hh.later (hB0.trans (x.below.mono hB0.size))) (headsB_tot hb)
  have HBW : Hid (∀ x : Hi W0, Below w.heap.size w x.W) := fun x => hB0.trans (x.below.mono hB0.size)
  obtain ⟨_, hbl, ba, bc, rfl, _⟩ := hbd
  clear hb0 hLA hh h
  have HC54 : Hid (¬ ok6 lab hs fr id off more proto → Chk6 lab hs fr id off more proto body.length 54) := fun h => .inl ⟨h, rfl⟩
  have HC2 : Hid (ok6 lab hs fr id off more proto → 65535 + 40 < ahead6 hs fr + body.length → Chk6 lab hs fr id off more proto body.length 2) := fun h h2 => .inr (.inl ⟨h, h2, rfl⟩)
  have HC0 : Hid (ok6 lab hs fr id off more proto → ¬ 65535 + 40 < ahead6 hs fr + body.length → Chk6 lab hs fr id off more proto body.length 0) := fun h h2 => .inr (.inr ⟨h, by omega, rfl⟩)
  have HOKH : Hid (ok6 lab hs fr id off more proto → headsB hs) := fun h => h.2.1
  generalize Chk6 lab hs fr id off more proto body.length = CC at *
  generalize ok6 lab hs fr id off more proto = OK at *
  go_enter Tryz.func69, Tryz.ntmps69
  go_wp2_with ((with_reducible show wpList _ _ _ _ _ _); refine arm_load rfl (.tmp 1) 36 rfl rfl HL0.out ?_)
  refine Calls.mono (HRT.out (Hi.refl _)) ?_
  rintro _ w1 ⟨⟨bb, rfl, hiff⟩, hb1⟩
  cases bb
  · go_wp2_with fail
    go_ret
    exact ⟨_, rfl, HC54.out (fun c => by have := hiff.2 c; cases this), HBW.out ((Hi.refl _).more hb1)⟩
  · have hok := hiff.1 rfl
    have hA := ahead6_le fr (HOKH.out hok)
    have ha := HAH.out (HOKH.out hok)
    rw [ahead6_int] at ha
    have HA : Hid _ := ha
    obtain ⟨x1, rfl⟩ : ∃ x : Hi W0, w1 = x.W := ⟨(Hi.refl _).more hb1, rfl⟩
    have k41 := K41.out
    have hc2 := HC2.out hok
    have hc0 := HC0.out hok
    have HC2' : Hid _ := hc2
    have HC0' : Hid _ := hc0
    clear ha hiff HAH HRT hb1 HL0 K41 HC54 HC2 HC0 HOKH hc2 hc0
    generalize ahead6 hs fr = A at *
    generalize body.length = nb at *
    have v1 : IntKind.i64.wrap ((A : Int) - 40) = A - 40 := wrapi64 _ (by omega)
    have v2 : IntKind.i64.wrap ((A : Int) - 40 + nb) = A - 40 + nb := wrapi64 _ (by omega)
    by_cases hnb : 65535 < nb
    · have q0 : decide ((65535 : Int) < (nb : Int)) = true := by simp; omega
      have HCC : Hid (CC 2) := HC2'.out (by omega)
      go_wp2_with fail
      refine wp_region_up (by kernel_rfl) (by kernel_rfl) ?_
      repeat (first
        | go_big_quiet_skip
        | (go_big_quiet_want; refine hi_load (.tmp 1) 36 rfl rfl HLA.out ?_; simp only [Act.put, List.setIfInBounds_toArray, List.set_cons_zero, List.set_cons_succ]; go_big_quiet_on)
        | (go_big_quiet_want; go_big_quiet_op; first | go_big_quiet_on | go_big_quiet_call (first | (go_at_call 89; exact Hi.calls (HA.out _)))))
      refine wpQuiet_nil ?_
      intro _ hw
      obtain ⟨y, rfl⟩ := hw
      go_wp2
      go_ret
      exact ⟨_, rfl, HCC.out, HBW.out y⟩
    · have q0 : decide ((65535 : Int) < (nb : Int)) = false := by simp; omega
      by_cases hlong : 65535 + 40 < A + nb
      · have q1 : decide ((65535 : Int) < (A : Int) - 40 + nb) = true := by simp; omega
        have HCC : Hid (CC 2) := HC2'.out hlong
        go_wp2_with fail
        refine wp_region_up (by kernel_rfl) (by kernel_rfl) ?_
        repeat (first
          | go_big_quiet_skip
          | (go_big_quiet_want; refine hi_load (.tmp 1) 36 rfl rfl HLA.out ?_; simp only [Act.put, List.setIfInBounds_toArray, List.set_cons_zero, List.set_cons_succ]; go_big_quiet_on)
          | (go_big_quiet_want; go_big_quiet_op; first | go_big_quiet_on | go_big_quiet_call (first | (go_at_call 89; exact Hi.calls (HA.out _)))))
        refine wpQuiet_nil ?_
        intro _ hw
        obtain ⟨y, rfl⟩ := hw
        go_wp2
        go_ret
        exact ⟨_, rfl, HCC.out, HBW.out y⟩
      · have q1 : decide ((65535 : Int) < (A : Int) - 40 + nb) = false := by simp; omega
        have HCC : Hid (CC 0) := HC0'.out hlong
        go_wp2_with fail
        refine wp_region_up (by kernel_rfl) (by kernel_rfl) ?_
        repeat (first
          | go_big_quiet_skip
          | (go_big_quiet_want; refine hi_load (.tmp 1) 36 rfl rfl HLA.out ?_; simp only [Act.put, List.setIfInBounds_toArray, List.set_cons_zero, List.set_cons_succ]; go_big_quiet_on)
          | (go_big_quiet_want; go_big_quiet_op; first | go_big_quiet_on | go_big_quiet_call (first | (go_at_call 89; exact Hi.calls (HA.out _)))))
        refine wpQuiet_nil ?_
        intro _ hw
        obtain ⟨y, rfl⟩ := hw
        go_wp2
        go_ret
        exact ⟨_, rfl, HCC.out, HBW.out y⟩
set_option maxHeartbeats 1000000 in
set_option maxRecDepth 100000 in
theorem RSize_calls (w : World) (h : L6 c cls lab hop vh fr id off more proto vb) (hs : Opts) (hh : OptsAt w.heap.size w vh hs) (body : List Int) (hbd : BytesAt w.heap.size w vb body) :
    Calls Tryz.prog 35 #[.agg c.toArray] w fun e w' => ∃ er, e = .returned (.tuple #[.int .i64 (if er = 0 then ahead6 hs fr + body.length else 0), .int .i64 (if er = 0 then ahead6 hs fr else 0), .int .i64 er]) ∧ Chk6 lab hs fr id off more proto body.length er ∧ Below w.heap.size w w' := by
  have hb0 := blk_new w (.cells c.toArray 36)
  have hB0 := (Below.refl w.heap.size w).alloc (Nat.le_refl _) (.cells c.toArray 36)
  generalize hW0 : w.alloc (.cells c.toArray 36) = W0 at *
  have hLA : ∀ x : Hi W0, (Instr.loadAt 36 (.pointer (some ⟨w.heap.size, 0, none⟩))).run Tryz.prog x.W = .ok (.agg c.toArray) x.W := fun x => agg_load Tryz.isAgg36 Tryz.sizeOf36 h.len (CellsAt.of_blk (Hi.blk hb0 x))
  have K41 : Hid (∀ x : Hi W0, x.W.cell? ⟨w.heap.size, 41, none⟩ = some vb) := fun x => blk_cell (Hi.blk hb0 x) h.c41
  have HLA : Hid _ := hLA
  have HL0 : Hid ((Instr.loadAt 36 (.pointer (some ⟨w.heap.size, 0, none⟩))).run Tryz.prog W0 = .ok (.agg c.toArray) W0) := hLA (Hi.refl _)
  have HCK : Hid (∀ x : Hi W0, _) := fun x => RCheck_calls x.W h hs (hh.later (hB0.trans (x.below.mono hB0.size))) body (hbd.later (hB0.trans (x.below.mono hB0.size)))
  have HAH : Hid (headsB hs → ∀ x : Hi W0, _) := fun hb x => Rheads_calls x.W h hs (hh.later (hB0.trans (x.below.mono hB0.size))) (headsB_tot hb)
  have HBW : Hid (∀ x : Hi W0, Below w.heap.size w x.W) := fun x => hB0.trans (x.below.mono hB0.size)
  obtain ⟨_, hbl, ba, bc, rfl, _⟩ := hbd
  clear hb0 hLA hh h
  go_enter Tryz.func35, Tryz.ntmps35
  go_wp2_with ((with_reducible show wpList _ _ _ _ _ _); refine arm_load rfl (.tmp 1) 36 rfl rfl HL0.out ?_)
  refine Calls.mono (HCK.out (Hi.refl _)) ?_
  rintro _ w1 ⟨er, rfl, hck, hb1⟩
  by_cases h0 : er = 0
  · subst h0
    obtain ⟨hok, hle⟩ := hck.zero
    have HCE : Hid (ok6 lab hs fr id off more proto ∧ ahead6 hs fr + body.length ≤ 65535 + 40) := ⟨hok, hle⟩
    obtain ⟨x1, rfl⟩ : ∃ x : Hi W0, w1 = x.W := ⟨(Hi.refl _).more hb1, rfl⟩
    have hA := ahead6_le fr hok.2.1
    have ha := HAH.out hok.2.1
    rw [ahead6_int] at ha
    have HA : Hid _ := ha
    have k41 := K41.out
    have v1 : IntKind.i64.wrap ((ahead6 hs fr : Int) + body.length) = ahead6 hs fr + body.length := wrapi64 _ (by omega)
    clear ha hck hok HAH HCK hb1 HL0 K41
    go_wp2_with fail
    refine wp_region_up (by kernel_rfl) (by kernel_rfl) ?_
    repeat (first
      | go_big_quiet_skip
      | (go_big_quiet_want; refine hi_load (.tmp 1) 36 rfl rfl HLA.out ?_; simp only [Act.put, List.setIfInBounds_toArray, List.set_cons_zero, List.set_cons_succ]; go_big_quiet_on)
      | (go_big_quiet_want; go_big_quiet_op; first | go_big_quiet_on | go_big_quiet_call (first | (go_at_call 89; exact Hi.calls (HA.out _)))))
    refine wpQuiet_nil ?_
    intro _ hw
    obtain ⟨y, rfl⟩ := hw
    go_wp2
    go_ret3
    exact ⟨0, by simp, .inr (.inr ⟨HCE.out.1, HCE.out.2, rfl⟩), HBW.out _⟩
  · have q : (er != 0) = true := by simp [h0]
    have HCE : Hid _ := hck
    clear hck
    go_wp2_with fail
    go_ret3
    exact ⟨er, by simp [h0], HCE.out, HBW.out ((Hi.refl _).more hb1)⟩
end
end Go.Proofs.YtpgnnplpcalbbaaGreat.V6
namespace Go.Proofs.YtpgnnplpcalbbaaGreat.V6
open Go Go.RowKit
theorem armL {P : Program} {w : World} {ops : Array Oper} {rest : List Oper} {o : Oper} {a : Act} {Q : Exit → Act → World → Prop} (p : Operand) (t : TypeId) (hop : o.op = Op.load t p) (hg : o.guard = none) {vp v : Value} (hp : a.eval p = vp) (hrun : (Instr.loadAt t vp).run P w = .ok v w) (hK : wpList P ops Q rest (a.put o.dst v) w) : wpList P ops Q (o :: rest) a w :=
  arm_load (by simp [Region.wanted, hg]) p t hop hp hrun hK
theorem armS {P : Program} {w w2 : World} {ops : Array Oper} {rest : List Oper} {o : Oper} {a : Act} {Q : Exit → Act → World → Prop} (p x : Operand) (t : TypeId) (hop : o.op = Op.store t p x) (hg : o.guard = none) {vp vx : Value} (hp : a.eval p = vp) (hx : a.eval x = vx) (hrun : (Instr.storeAt t vp vx).run P w = .ok () w2) (hK : wpList P ops Q rest (a.put o.dst (.tuple #[])) w2) : wpList P ops Q (o :: rest) a w :=
  arm_store (by simp [Region.wanted, hg]) p x t hop hp hx hrun hK
/-- A datagram but for its fragment header, Heads and Body. -/
structure F6 where
  cls : Int
  lab : Int
  hop : Int
  proto : Int
  ad : List Value
  len : ad.length = 32
  one : ∀ v ∈ ad, v.oneCell' = true
/-- A fragment header. -/
structure G6 where
  fr : Bool
  id : Int
  off : Int
  more : Bool
def vC (f : F6) (g : G6) (vh vb : Value) : List Value :=
  .int .u8 f.cls :: .int .u32 f.lab :: .int .u8 f.hop :: (f.ad ++ [vh, .bool g.fr, .int .u32 g.id, .int .i64 g.off, .bool g.more, .int .u8 f.proto, vb])
abbrev VV (f : F6) (g : G6) (vh vb : Value) : Value := .agg (vC f g vh vb).toArray
abbrev BV (f : F6) (g : G6) (vh vb : Value) : Obj := .cells (vC f g vh vb).toArray 36
section
variable {f : F6} {g : G6} {vh vb : Value}
theorem vC_len : (vC f g vh vb).length = 42 := by simp [vC, f.len]
theorem vC_at (j : Nat) : (vC f g vh vb)[35 + j]? = [vh, .bool g.fr, .int .u32 g.id, .int .i64 g.off, .bool g.more, .int .u8 f.proto, vb][j]? := by
  have e : 35 + j = (32 + j) + 1 + 1 + 1 := by omega
  rw [vC, e, List.getElem?_cons_succ, List.getElem?_cons_succ, List.getElem?_cons_succ, List.getElem?_append_right (by rw [f.len]; omega), f.len]
  congr 1
  omega
theorem vC_set (j : Nat) (x : Value) : (vC f g vh vb).set (35 + j) x = .int .u8 f.cls :: .int .u32 f.lab :: .int .u8 f.hop :: (f.ad ++ [vh, .bool g.fr, .int .u32 g.id, .int .i64 g.off, .bool g.more, .int .u8 f.proto, vb].set j x) := by
  have e : 35 + j = (32 + j) + 1 + 1 + 1 := by omega
  rw [vC, e, List.set_cons_succ, List.set_cons_succ, List.set_cons_succ, List.set_append_right _ _ (by rw [f.len]; omega), f.len]
  congr 6
  omega
theorem vC_one (h1 : vh.oneCell' = true) (h2 : vb.oneCell' = true) : ∀ v ∈ vC f g vh vb, v.oneCell' = true := by
  intro v hv
  simp only [vC, List.mem_cons, List.mem_append, List.not_mem_nil, or_false] at hv
  rcases hv with rfl | rfl | rfl | hv | rfl | rfl | rfl | rfl | rfl | rfl | rfl
  all_goals first | rfl | assumption | exact f.one _ hv
theorem vC_l6 (h1 : vh.oneCell' = true) (h2 : vb.oneCell' = true) : L6 (vC f g vh vb) f.cls f.lab f.hop vh g.fr g.id g.off g.more f.proto vb :=
  ⟨vC_len, vC_one h1 h2, rfl, rfl, rfl, vC_at 0, vC_at 1, vC_at 2, vC_at 3, vC_at 4, vC_at 5, vC_at 6⟩
variable {W : World} {b : Nat}
theorem vb_load (h : W.heap[b]? = some (BV f g vh vb)) : (Instr.loadAt 36 (.pointer (some ⟨b, 0, none⟩))).run Tryz.prog W = .ok (VV f g vh vb) W :=
  agg_load Tryz.isAgg36 Tryz.sizeOf36 vC_len (CellsAt.of_blk h)
theorem vb_var (h : W.heap[b]? = some (BV f g vh vb)) : (loadVar 36 ⟨b, 0, none⟩).run Tryz.prog W = .ok (VV f g vh vb) W :=
  agg_loadVar Tryz.isAgg36 Tryz.sizeOf36 vC_len (CellsAt.of_blk h)
theorem vb35 (h : W.heap[b]? = some (BV f g vh vb)) : W.cell? ⟨b, 35, none⟩ = some vh := blk_cell h (vC_at 0)
theorem vb36 (h : W.heap[b]? = some (BV f g vh vb)) : W.cell? ⟨b, 36, none⟩ = some (.bool g.fr) := blk_cell h (vC_at 1)
theorem vb37 (h : W.heap[b]? = some (BV f g vh vb)) : W.cell? ⟨b, 37, none⟩ = some (.int .u32 g.id) := blk_cell h (vC_at 2)
theorem vb38 (h : W.heap[b]? = some (BV f g vh vb)) : W.cell? ⟨b, 38, none⟩ = some (.int .i64 g.off) := blk_cell h (vC_at 3)
theorem vb39 (h : W.heap[b]? = some (BV f g vh vb)) : W.cell? ⟨b, 39, none⟩ = some (.bool g.more) := blk_cell h (vC_at 4)
theorem vb41 (h : W.heap[b]? = some (BV f g vh vb)) : W.cell? ⟨b, 41, none⟩ = some vb := blk_cell h (vC_at 6)
theorem vs35 (h : W.heap[b]? = some (BV f g vh vb)) (x : Value) : (W.setCell ⟨b, 35, none⟩ x).heap[b]? = some (BV f g x vb) := by
  rw [blk_set h, vC_set 0]; rfl
theorem vs36 (h : W.heap[b]? = some (BV f g vh vb)) (x : Bool) : (W.setCell ⟨b, 36, none⟩ (.bool x)).heap[b]? = some (BV f { g with fr := x } vh vb) := by
  rw [blk_set h, vC_set 1]; rfl
theorem vs37 (h : W.heap[b]? = some (BV f g vh vb)) (x : Int) : (W.setCell ⟨b, 37, none⟩ (.int .u32 x)).heap[b]? = some (BV f { g with id := x } vh vb) := by
  rw [blk_set h, vC_set 2]; rfl
theorem vs38 (h : W.heap[b]? = some (BV f g vh vb)) (x : Int) : (W.setCell ⟨b, 38, none⟩ (.int .i64 x)).heap[b]? = some (BV f { g with off := x } vh vb) := by
  rw [blk_set h, vC_set 3]; rfl
theorem vs39 (h : W.heap[b]? = some (BV f g vh vb)) (x : Bool) : (W.setCell ⟨b, 39, none⟩ (.bool x)).heap[b]? = some (BV f { g with more := x } vh vb) := by
  rw [blk_set h, vC_set 4]; rfl
theorem vs41 (h : W.heap[b]? = some (BV f g vh vb)) (x : Value) : (W.setCell ⟨b, 41, none⟩ x).heap[b]? = some (BV f g vh x) := by
  rw [blk_set h, vC_set 6]; rfl
end
theorem st_u32 {W : World} {b j : Nat} {c : List Value} {t : TypeId} (h : W.heap[b]? = some (.cells c.toArray t)) (hj : j < c.length) (x : Int) : (Instr.storeAt 33 (.pointer (some ⟨b, j, none⟩)) (.int .u32 x)).run Tryz.prog W = .ok () (W.setCell ⟨b, j, none⟩ (.int .u32 x)) := by
  have h1 : W.cell? ⟨b, j, none⟩ = some (c[j]'hj) := blk_cell h (by simp)
  have h2 := blk_open h j
  simp [Instr.storeAt, go_sem, h1, h2]
def zeroV : List Value := .int .u8 0 :: .int .u32 0 :: .int .u8 0 :: .int .u8 0 :: .int .u8 0 :: .int .u8 0 :: .int .u8 0 :: .int .u8 0 :: .int .u8 0 :: .int .u8 0 :: .int .u8 0 :: .int .u8 0 :: .int .u8 0 :: .int .u8 0 :: .int .u8 0 :: .int .u8 0 :: .int .u8 0 :: .int .u8 0 :: .int .u8 0 :: .int .u8 0 :: .int .u8 0 :: .int .u8 0 :: .int .u8 0 :: .int .u8 0 :: .int .u8 0 :: .int .u8 0 :: .int .u8 0 :: .int .u8 0 :: .int .u8 0 :: .int .u8 0 :: .int .u8 0 :: .int .u8 0 :: .int .u8 0 :: .int .u8 0 :: .int .u8 0 :: .slice none 0 0 :: .bool false :: .int .u32 0 :: .int .i64 0 :: .bool false :: .int .u8 0 :: .slice none 0 0 :: []
def zF : F6 := ⟨0, 0, 0, 0, List.replicate 32 (.int .u8 0), rfl, fun v hv => by rw [(List.mem_replicate.1 hv).2]; rfl⟩
def zG : G6 := ⟨false, 0, 0, false⟩
theorem zeroV_vC : zeroV = vC zF zG (.slice none 0 0) (.slice none 0 0) := rfl
theorem vb_new (W : World) (f : F6) (g : G6) {vh vb : Value} (h1 : vh.oneCell' = true) (h2 : vb.oneCell' = true) :
    ∃ W', (Instr.storeAt 36 (.pointer (some ⟨W.heap.size, 0, none⟩)) (VV f g vh vb)).run Tryz.prog (W.alloc (.cells zeroV.toArray 36)) = .ok () W' ∧ W'.heap[W.heap.size]? = some (BV f g vh vb) ∧ Below W.heap.size W W' ∧ W'.heap.size = W.heap.size + 1 := by
  obtain ⟨W', h, hb, ho⟩ := box_store Tryz.sizeOf36 (blk_new W (.cells zeroV.toArray 36)) (by rfl) (vC f g vh vb) vC_len (vC_one h1 h2)
  exact ⟨W', h, hb, ((Below.refl _ W).alloc (Nat.le_refl _) _).trans (ho.below (Nat.le_refl _)), by rw [ho.size]; simp⟩
/-- Heads in blocks of a set. -/
structure HS (S : Nat → Prop) (w : World) (v : Value) (hs : Opts) : Prop where
  fit : ∀ j, 0 ≤ oK hs j ∧ oK hs j < 256
  len : hs.length ≤ 140737488351232
  val : ∃ a cap, v = .slice a hs.length cap ∧ (hs.length = 0 ∨ ∃ b off, a = some ⟨b, off, none⟩ ∧ b < w.heap.size ∧ S b ∧ ∀ j, j < hs.length → w.cell? ⟨b, off + j * 2, none⟩ = some (.int .u8 (oK hs j)) ∧ ∃ s, w.cell? ⟨b, off + j * 2 + 1, none⟩ = some s ∧ BS S w s (oD hs j))
section
variable {S S' O : Nat → Prop} {w w' : World} {v : Value} {hs : Opts}
theorem HS.one (h : HS S w v hs) : v.oneCell' = true := by
  obtain ⟨_, _, a, cap, rfl, _⟩ := h
  rfl
theorem HS.slc (h : HS S w v hs) : ∃ x n m, v = .slice x n m := by
  obtain ⟨_, _, a, cap, e, _⟩ := h
  exact ⟨_, _, _, e⟩
theorem HS.opts (h : HS S w v hs) : OptsAt w.heap.size w v hs := by
  obtain ⟨h1, h2, a, cap, e, hz⟩ := h
  refine ⟨h1, h2, a, cap, e, hz.imp id ?_⟩
  rintro ⟨b, off, rfl, hlt, hS, hc⟩
  exact ⟨b, off, rfl, hlt, fun j hj => let ⟨c0, s, c1, hb⟩ := hc j hj; ⟨c0, s, c1, hb.bytes⟩⟩
theorem HS.sep (h : HS S w v hs) (hs' : Sep O w w') (hO : ∀ b, S b → ¬ O b) : HS S w' v hs := by
  obtain ⟨h1, h2, a, cap, e, hz⟩ := h
  refine ⟨h1, h2, a, cap, e, hz.imp id ?_⟩
  rintro ⟨b, off, rfl, hlt, hS, hc⟩
  have hb := hs'.same b hlt (hO b hS)
  refine ⟨b, off, rfl, Nat.lt_of_lt_of_le hlt hs'.size, hS, fun j hj => ?_⟩
  obtain ⟨c0, s, c1, hbs⟩ := hc j hj
  exact ⟨by rw [← c0]; simp [World.cell?, hb], s, by rw [← c1]; simp [World.cell?, hb], hbs.sep hs' hO⟩
theorem HS.on (h : HS S w v hs) (hb : Below w.heap.size w w') : HS S w' v hs := h.sep (O := fun _ => False) (Sep.of_below hb) (fun _ _ h => h)
theorem HS.mono (h : HS S w v hs) (hS' : ∀ b, b < w.heap.size → S b → S' b) : HS S' w v hs := by
  obtain ⟨h1, h2, a, cap, e, hz⟩ := h
  refine ⟨h1, h2, a, cap, e, hz.imp id ?_⟩
  rintro ⟨b, off, rfl, hlt, hS, hc⟩
  exact ⟨b, off, rfl, hlt, hS' b hlt hS, fun j hj => let ⟨c0, s, c1, hb⟩ := hc j hj; ⟨c0, s, c1, hb.mono hS'⟩⟩
theorem HS.same {A B : World} (h : HS S A v hs) (hs' : A.heap.size ≤ B.heap.size) (hO : ∀ b, S b → B.heap[b]? = A.heap[b]?) : HS S B v hs := by
  obtain ⟨h1, h2, a, cap, e, hz⟩ := h
  refine ⟨h1, h2, a, cap, e, hz.imp id ?_⟩
  rintro ⟨b, off, rfl, hlt, hS, hc⟩
  have hb := hO b hS
  refine ⟨b, off, rfl, Nat.lt_of_lt_of_le hlt hs', hS, fun j hj => ?_⟩
  obtain ⟨c0, s, c1, hbs⟩ := hc j hj
  exact ⟨by rw [← c0]; simp [World.cell?, hb], s, by rw [← c1]; simp [World.cell?, hb], hbs.same hs' hO⟩
end
/-- A datagram's lists in memory. -/
structure D6 (S : Nat → Prop) (w : World) (f : F6) (vh vb : Value) (hs : Opts) (body : List Int) : Prop where
  hd : HS S w vh hs
  bd : BS S w vb body
  lab : 0 ≤ f.lab ∧ f.lab ≤ 4294967295
section
variable {S S' O : Nat → Prop} {w w' : World} {f : F6} {vh vb : Value} {hs : Opts} {body : List Int}
theorem D6.on (h : D6 S w f vh vb hs body) (hb : Below w.heap.size w w') : D6 S w' f vh vb hs body := ⟨h.hd.on hb, h.bd.on hb, h.lab⟩
theorem D6.sep (h : D6 S w f vh vb hs body) (hs' : Sep O w w') (hO : ∀ b, S b → ¬ O b) : D6 S w' f vh vb hs body := ⟨h.hd.sep hs' hO, h.bd.sep hs' hO, h.lab⟩
theorem D6.mono (h : D6 S w f vh vb hs body) (hS : ∀ b, b < w.heap.size → S b → S' b) : D6 S' w f vh vb hs body := ⟨h.hd.mono hS, h.bd.mono hS, h.lab⟩
theorem D6.same {A B : World} (h : D6 S A f vh vb hs body) (hs' : A.heap.size ≤ B.heap.size) (hO : ∀ b, S b → B.heap[b]? = A.heap[b]?) : D6 S B f vh vb hs body := ⟨h.hd.same hs' hO, h.bd.same hs' hO, h.lab⟩
end
def okB (f : F6) (hs : Opts) (g : G6) : Bool := decide (f.lab ≤ 1048575) && (decide (hs.length ≤ 8) && ((List.range hs.length).all (headOk hs) && endB g.fr g.id g.off g.more f.proto))
theorem okB_iff (f : F6) (hs : Opts) (g : G6) : okB f hs g = true ↔ ok6 f.lab hs g.fr g.id g.off g.more f.proto := by
  simp [okB, ok6, headsB, allH, and_assoc]
def ckE (f : F6) (hs : Opts) (g : G6) (nb : Nat) : Int := if okB f hs g then (if ahead6 hs g.fr + nb ≤ 65535 + 40 then 0 else 2) else 54
theorem ck_eq {f : F6} {hs : Opts} {g : G6} {nb : Nat} {er : Int} (h : Chk6 f.lab hs g.fr g.id g.off g.more f.proto nb er) : er = ckE f hs g nb := by
  have hi := okB_iff f hs g
  unfold ckE
  rcases h with ⟨a, rfl⟩ | ⟨a, b, rfl⟩ | ⟨a, b, rfl⟩
  · rw [if_neg (fun c => a (hi.1 c))]
  · rw [if_pos (hi.2 a), if_neg (by omega)]
  · rw [if_pos (hi.2 a), if_pos (by omega)]
theorem ck_zero {f : F6} {hs : Opts} {g : G6} {nb : Nat} (h : ckE f hs g nb = 0) : ok6 f.lab hs g.fr g.id g.off g.more f.proto ∧ ahead6 hs g.fr + nb ≤ 65535 + 40 := by
  have hi := okB_iff f hs g
  unfold ckE at h
  by_cases c : okB f hs g = true
  · rw [if_pos c] at h
    by_cases d : ahead6 hs g.fr + nb ≤ 65535 + 40
    · exact ⟨hi.1 c, d⟩
    · rw [if_neg d] at h; omega
  · rw [if_neg c] at h; omega
section
variable {S : Nat → Prop} {w : World} {f : F6} (g : G6) {vh vb : Value} {hs : Opts} {body : List Int}
theorem Check_any (h : D6 S w f vh vb hs body) : Calls Tryz.prog 63 #[VV f g vh vb] w fun e w' => e = .returned (.int .i64 (ckE f hs g body.length)) ∧ Below w.heap.size w w' := by
  refine (Check_calls w (vC_l6 (g := g) h.hd.one h.bd.one) hs h.hd.opts body h.bd.bytes h.lab).mono ?_
  rintro e w' ⟨er, rfl, hc, hb⟩
  exact ⟨by rw [ck_eq hc], hb⟩
theorem Size_any (h : D6 S w f vh vb hs body) : Calls Tryz.prog 211 #[VV f g vh vb] w fun e w' => e = .returned (.tuple #[.int .i64 (if ckE f hs g body.length = 0 then ahead6 hs g.fr + body.length else 0), .int .i64 (if ckE f hs g body.length = 0 then ahead6 hs g.fr else 0), .int .i64 (ckE f hs g body.length)]) ∧ Below w.heap.size w w' := by
  refine (Size_calls w (vC_l6 (g := g) h.hd.one h.bd.one) hs h.hd.opts body h.bd.bytes h.lab).mono ?_
  rintro e w' ⟨er, rfl, hc, hb⟩
  exact ⟨by rw [ck_eq hc], hb⟩
end
end Go.Proofs.YtpgnnplpcalbbaaGreat.V6
namespace Go.Proofs.YtpgnnplpcalbbaaGreat.V6
open Go Go.RowKit
def nx6 (hs : Opts) (fr : Bool) (proto : Int) (i : Nat) : Int := if i < hs.length then oK hs i else if fr then 44 else proto
section
variable {c : List Value} {cls lab hop : Int} {vh : Value} {fr : Bool} {id off : Int} {more : Bool} {proto : Int} {vb : Value}
set_option maxHeartbeats 1000000 in
set_option maxRecDepth 100000 in
theorem next_calls (w : World) (h : L6 c cls lab hop vh fr id off more proto vb) (hs : Opts) (hh : OptsAt w.heap.size w vh hs) (i : Nat) :
    Calls Tryz.prog 213 #[.agg c.toArray, .int .i64 i] w fun e w' => e = .returned (.int .u8 (nx6 hs fr proto i)) ∧ Below w.heap.size w w' := by
  have hb0 := blk_new w (.cells c.toArray 36)
  have hB0 := (Below.refl w.heap.size w).alloc (Nat.le_refl _) (.cells c.toArray 36)
  have k35 := blk_cell hb0 h.c35
  have k36 := blk_cell hb0 h.c36
  have k40 := blk_cell hb0 h.c40
  obtain ⟨hfit, hlen, a, cap, rfl, hz⟩ := hh
  clear hb0 h
  by_cases hi : i < hs.length
  · have HE : Hid (nx6 hs fr proto i = oK hs i) := if_pos hi
    rcases hz with hz | ⟨b, o0, rfl, hbn, hc⟩
    · omega
    obtain ⟨c0, s, c1, hs'⟩ := hc i hi
    have x0 := (hB0.cell (p := ⟨b, o0 + i * 2, none⟩) hbn).trans c0
    have HB : Hid _ := hB0
    clear c0 c1 hs' hc hB0
    generalize nx6 hs fr proto i = r at *
    generalize oK hs i = K at *
    generalize hW : w.alloc (.cells c.toArray 36) = W0 at *
    go_enter Tryz.func213, Tryz.ntmps213
    go_wp2
    go_ret
    exact ⟨by rw [HE.out]; rfl, HB.out⟩
  · have HE : Hid (nx6 hs fr proto i = if fr then 44 else proto) := if_neg hi
    have HB : Hid _ := hB0
    clear hz hB0
    generalize nx6 hs fr proto i = r at *
    generalize hW : w.alloc (.cells c.toArray 36) = W0 at *
    go_enter Tryz.func213, Tryz.ntmps213
    cases fr
    all_goals
      go_wp2
      go_ret
      exact ⟨by rw [HE.out]; rfl, HB.out⟩
set_option maxHeartbeats 1000000 in
set_option maxRecDepth 100000 in
theorem Rnext_calls (w : World) (h : L6 c cls lab hop vh fr id off more proto vb) (hs : Opts) (hh : OptsAt w.heap.size w vh hs) (i : Nat) :
    Calls Tryz.prog 153 #[.agg c.toArray, .int .i64 i] w fun e w' => e = .returned (.int .u8 (nx6 hs fr proto i)) ∧ Below w.heap.size w w' := by
  have hb0 := blk_new w (.cells c.toArray 36)
  have hB0 := (Below.refl w.heap.size w).alloc (Nat.le_refl _) (.cells c.toArray 36)
  have k35 := blk_cell hb0 h.c35
  have k36 := blk_cell hb0 h.c36
  have k40 := blk_cell hb0 h.c40
  obtain ⟨hfit, hlen, a, cap, rfl, hz⟩ := hh
  clear hb0 h
  by_cases hi : i < hs.length
  · have HE : Hid (nx6 hs fr proto i = oK hs i) := if_pos hi
    rcases hz with hz | ⟨b, o0, rfl, hbn, hc⟩
    · omega
    obtain ⟨c0, s, c1, hs'⟩ := hc i hi
    have x0 := (hB0.cell (p := ⟨b, o0 + i * 2, none⟩) hbn).trans c0
    have HB : Hid _ := hB0
    clear c0 c1 hs' hc hB0
    generalize nx6 hs fr proto i = r at *
    generalize oK hs i = K at *
    generalize hW : w.alloc (.cells c.toArray 36) = W0 at *
    go_enter Tryz.func153, Tryz.ntmps153
    go_wp2
    go_ret
    exact ⟨by rw [HE.out]; rfl, HB.out⟩
  · have HE : Hid (nx6 hs fr proto i = if fr then 44 else proto) := if_neg hi
    have HB : Hid _ := hB0
    clear hz hB0
    generalize nx6 hs fr proto i = r at *
    generalize hW : w.alloc (.cells c.toArray 36) = W0 at *
    go_enter Tryz.func153, Tryz.ntmps153
    cases fr
    all_goals
      go_wp2
      go_ret
      exact ⟨by rw [HE.out]; rfl, HB.out⟩
end
set_option maxHeartbeats 1000000 in
set_option maxRecDepth 100000 in
theorem addWord_calls {base : Nat} {w W : World} {v : Value} {zs : List Int} (h : OB base w W v zs) (hs : base ≤ W.heap.size) (n : Int) (hn : 0 ≤ n ∧ n ≤ 65535) (hl : zs.length + 2 ≤ 1000000) :
    Calls Tryz.prog 254 #[v, .int .u16 n] W fun e w' => ∃ v', e = .returned v' ∧ OB base w w' v' (zs ++ [n / 256, n % 256]) ∧ base ≤ w'.heap.size ∧ Keep W w' := by
  obtain ⟨v1, w1, hr, h1, hs1, hk1⟩ := h.lit hs [n / 256, n % 256] #[.int .u8 (n / 256), .int .u8 (n % 256)] rfl (fun z hz => by simp at hz; omega) hl 2 rfl 25
  have HR : Hid _ := hr
  have H1 : Hid _ := h1
  have HK : Hid _ := hk1
  clear hk1
  have q1 : n / 256 % 256 = n / 256 := by omega
  clear hr h1 h
  go_enter Tryz.func254, Tryz.ntmps254
  go_wp2_with (at_builtin; refine wpList_append_run rfl _ _ _ _ rfl rfl rfl HR.out ?_)
  go_ret
  exact ⟨_, rfl, H1.out, hs1, HK.out⟩
set_option maxHeartbeats 1000000 in
set_option maxRecDepth 100000 in
theorem addLong_calls {base : Nat} {w W : World} {v : Value} {zs : List Int} (h : OB base w W v zs) (hs : base ≤ W.heap.size) (n : Int) (hn : 0 ≤ n ∧ n ≤ 4294967295) (hl : zs.length + 4 ≤ 1000000) :
    Calls Tryz.prog 253 #[v, .int .u32 n] W fun e w' => ∃ v', e = .returned v' ∧ OB base w w' v' (zs ++ [n / 16777216, n / 65536 % 256, n / 256 % 256, n % 256]) ∧ base ≤ w'.heap.size ∧ Keep W w' := by
  have HA : Hid _ := addWord_calls h hs (n / 65536) (by omega) (by omega)
  have q1 : n / 65536 % 65536 = n / 65536 := by omega
  go_enter Tryz.func253, Tryz.ntmps253
  go_wp2_with fail
  refine Calls.mono HA.out ?_
  rintro _ w1 ⟨v1, rfl, h1, hs1, hk1⟩
  have HA1 : Hid _ := addWord_calls h1 hs1 (n % 65536) (by omega) (by simp; omega)
  go_wp2_with fail
  refine Calls.mono HA1.out ?_
  rintro _ w2 ⟨v2, rfl, h2, hs2, hk2⟩
  have e : zs ++ [n / 65536 / 256, n / 65536 % 256] ++ [n % 65536 / 256, n % 65536 % 256] = zs ++ [n / 16777216, n / 65536 % 256, n / 256 % 256, n % 256] := by
    rw [List.append_assoc]
    congr 1
    simp
    omega
  rw [e] at h2
  have H2 : Hid _ := h2
  have HK : Hid _ := hk1.trans hk2
  clear hk1 hk2 h2 h1 HA HA1 e
  go_wp2
  go_ret
  exact ⟨_, rfl, H2.out, hs2, HK.out⟩
theorem orD (off : Int) (h : 0 ≤ off ∧ off ≤ 8191) : bits .or .u16 (off * 8) 1 = off * 8 + 1 := by
  obtain ⟨a, rfl⟩ := Int.eq_ofNat_of_zero_le h.1
  rw [show ((a : Int) * 8) = ((a * 8 : Nat) : Int) by omega, show (1 : Int) = ((1 : Nat) : Int) from rfl, u16_or_nat (a * 8) 1 (by omega) (by omega), show a * 8 = 2 ^ 3 * a by omega, Nat.or_comm, or_hi 1 a 3 (by omega)]
  omega
def fragL (id off : Int) (more : Bool) (proto : Int) : List Int := [proto, 0, off / 32, off % 32 * 8 + (if more then 1 else 0), id / 16777216, id / 65536 % 256, id / 256 % 256, id % 256]
section
variable {c : List Value} {cls lab hop : Int} {vh : Value} {fr : Bool} {id off : Int} {more : Bool} {proto : Int} {vb : Value}
set_option maxHeartbeats 1000000 in
set_option maxRecDepth 100000 in
theorem addFragHead_calls {base : Nat} {w W : World} {v : Value} {zs : List Int} (h : OB base w W v zs) (hs : base ≤ W.heap.size) (hL : L6 c cls lab hop vh fr id off more proto vb) (ho : 0 ≤ off ∧ off ≤ 8191) (hi : 0 ≤ id ∧ id ≤ 4294967295) (hp : 0 ≤ proto ∧ proto < 256) (hl : zs.length + 8 ≤ 1000000) :
    Calls Tryz.prog 214 #[v, .agg c.toArray] W fun e w' => ∃ v', e = .returned v' ∧ OB base w w' v' (zs ++ fragL id off more proto) ∧ base ≤ w'.heap.size ∧ Keep W w' := by
  have hb0 := blk_new W (.cells c.toArray 36)
  have hB0 := (Below.refl W.heap.size W).alloc (Nat.le_refl _) (.cells c.toArray 36)
  have h0 := h.below hs hB0
  have hs0 := Nat.le_trans hs hB0.size
  obtain ⟨v1, w1, hr, h1, hs1, hk1⟩ := h0.lit hs0 [proto, 0] #[.int .u8 proto, .int .u8 0] rfl (fun z hz => by simp at hz; omega) (by simp; omega) 2 rfl 25
  have k38 := blk_cell hb0 hL.c38
  have k39 := blk_cell hb0 hL.c39
  have k40 := blk_cell hb0 hL.c40
  have HR : Hid _ := hr
  have HK37 : Hid (∀ w2, Keep w1 w2 → w2.cell? ⟨W.heap.size, 37, none⟩ = some (.int .u32 id)) := fun w2 hk => blk_cell (hk _ _ _ _ (by decide) (hk1 _ _ _ _ (by decide) hb0)) hL.c37
  have HKW : Hid (∀ w2, Keep w1 w2 → Keep W w2) := fun w2 hk => (Keep.below hB0).trans (hk1.trans hk)
  clear hr hk1 hb0 hL
  generalize hW : W.alloc (.cells c.toArray 36) = W0 at *
  have q1 : off % 65536 = off := by omega
  have q2 : off * 8 % 65536 = off * 8 := by omega
  cases more
  · have HA : Hid _ := addWord_calls h1 hs1 (off * 8) (by omega) (by simp; omega)
    have HEQ : Hid (zs ++ [proto, 0] ++ [off * 8 / 256, off * 8 % 256] ++ [id / 16777216, id / 65536 % 256, id / 256 % 256, id % 256] = zs ++ fragL id off false proto) := by
      show zs ++ [proto, 0] ++ [off * 8 / 256, off * 8 % 256] ++ [id / 16777216, id / 65536 % 256, id / 256 % 256, id % 256] = zs ++ fragL id off false proto
      have e1 : off * 8 / 256 = off / 32 := by omega
      have e2 : off * 8 % 256 = off % 32 * 8 := by omega
      rw [e1, e2]
      simp [fragL]
    clear h1 h0 h hB0
    go_enter Tryz.func214, Tryz.ntmps214
    go_wp2_with (at_builtin; refine wpList_append_run rfl _ _ _ _ rfl rfl rfl HR.out ?_)
    refine Calls.mono HA.out ?_
    rintro _ w2 ⟨v2, rfl, h2, hs2, hk2⟩
    have k37 : w2.cell? ⟨W.heap.size, 37, none⟩ = some (.int .u32 id) := HK37.out w2 hk2
    have HA2 : Hid _ := addLong_calls h2 hs2 id hi (by simp; omega)
    have HK2 : Hid _ := HKW.out w2 hk2
    clear h2 hk2
    go_wp2_with fail
    refine Calls.mono HA2.out ?_
    rintro _ w3 ⟨v3, rfl, h3, hs3, hk3⟩
    rw [HEQ.out] at h3
    have H3 : Hid _ := h3
    have HK3 : Hid _ := Keep.trans HK2.out hk3
    clear h3 hk3 HA2 HA HK2
    go_wp2
    go_ret
    exact ⟨_, rfl, H3.out, hs3, HK3.out⟩
  · have HA : Hid _ := addWord_calls h1 hs1 (off * 8 + 1) (by omega) (by simp; omega)
    have q3 := orD off ho
    have HEQ : Hid (zs ++ [proto, 0] ++ [(off * 8 + 1) / 256, (off * 8 + 1) % 256] ++ [id / 16777216, id / 65536 % 256, id / 256 % 256, id % 256] = zs ++ fragL id off true proto) := by
      show zs ++ [proto, 0] ++ [(off * 8 + 1) / 256, (off * 8 + 1) % 256] ++ [id / 16777216, id / 65536 % 256, id / 256 % 256, id % 256] = zs ++ fragL id off true proto
      have e1 : (off * 8 + 1) / 256 = off / 32 := by omega
      have e2 : (off * 8 + 1) % 256 = off % 32 * 8 + 1 := by omega
      rw [e1, e2]
      simp [fragL]
    clear h1 h0 h hB0
    go_enter Tryz.func214, Tryz.ntmps214
    go_wp2_with (at_builtin; refine wpList_append_run rfl _ _ _ _ rfl rfl rfl HR.out ?_)
    refine Calls.mono HA.out ?_
    rintro _ w2 ⟨v2, rfl, h2, hs2, hk2⟩
    have k37 : w2.cell? ⟨W.heap.size, 37, none⟩ = some (.int .u32 id) := HK37.out w2 hk2
    have HA2 : Hid _ := addLong_calls h2 hs2 id hi (by simp; omega)
    have HK2 : Hid _ := HKW.out w2 hk2
    clear h2 hk2
    go_wp2_with fail
    refine Calls.mono HA2.out ?_
    rintro _ w3 ⟨v3, rfl, h3, hs3, hk3⟩
    rw [HEQ.out] at h3
    have H3 : Hid _ := h3
    have HK3 : Hid _ := Keep.trans HK2.out hk3
    clear h3 hk3 HA2 HA HK2
    go_wp2
    go_ret
    exact ⟨_, rfl, H3.out, hs3, HK3.out⟩
end
end Go.Proofs.YtpgnnplpcalbbaaGreat.V6
