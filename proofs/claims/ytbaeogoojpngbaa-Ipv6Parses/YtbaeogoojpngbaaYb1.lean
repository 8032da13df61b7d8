/-
  IPv6 datagrams as boxes of 42 cells; must, check, fits, heads, headed of package splitsix.
-/
import Derived.Test.YtbaeogoojpngbaaXa6
namespace Go.Proofs.Ytbaeogoojpngbaa
open Go Go.RowKit
set_option linter.unusedVariables false
set_option linter.unusedSimpArgs false

theorem armL {P : Program} {w : World} {ops : Array Oper} {rest : List Oper} {o : Oper} {a : Act} {Q : Exit → Act → World → Prop} (p : Operand) (t : TypeId) (hop : o.op = Op.load t p) (hg : o.guard = none) {vp v : Value} (hp : a.eval p = vp) (hrun : (Instr.loadAt t vp).run P w = .ok v w) (hK : wpList P ops Q rest (a.put o.dst v) w) : wpList P ops Q (o :: rest) a w :=
  arm_load (by simp [Region.wanted, hg]) p t hop hp hrun hK
theorem armS {P : Program} {w w2 : World} {ops : Array Oper} {rest : List Oper} {o : Oper} {a : Act} {Q : Exit → Act → World → Prop} (p x : Operand) (t : TypeId) (hop : o.op = Op.store t p x) (hg : o.guard = none) {vp vx : Value} (hp : a.eval p = vp) (hx : a.eval x = vx) (hrun : (Instr.storeAt t vp vx).run P w = .ok () w2) (hK : wpList P ops Q rest (a.put o.dst (.tuple #[])) w2) : wpList P ops Q (o :: rest) a w :=
  arm_store (by simp [Region.wanted, hg]) p x t hop hp hx hrun hK

/-- A datagram but for its fragment header, Heads and Body. -/
structure F6 where
  cls : Int
  lab : Int
  hop : Int
  proto : Int
  ad : List Value
  len : ad.length = 32
  one : ∀ v ∈ ad, v.oneCell' = true
/-- A fragment header. -/
structure G6 where
  fr : Bool
  id : Int
  off : Int
  more : Bool
def vC (f : F6) (g : G6) (vh vb : Value) : List Value :=
  .int .u8 f.cls :: .int .u32 f.lab :: .int .u8 f.hop :: (f.ad ++ [vh, .bool g.fr, .int .u32 g.id, .int .i64 g.off, .bool g.more, .int .u8 f.proto, vb])
abbrev VV (f : F6) (g : G6) (vh vb : Value) : Value := .agg (vC f g vh vb).toArray
abbrev BV (f : F6) (g : G6) (vh vb : Value) : Obj := .cells (vC f g vh vb).toArray 28
section
variable {f : F6} {g : G6} {vh vb : Value}
theorem vC_len : (vC f g vh vb).length = 42 := by simp [vC, f.len]
theorem vC_at (j : Nat) : (vC f g vh vb)[35 + j]? = [vh, .bool g.fr, .int .u32 g.id, .int .i64 g.off, .bool g.more, .int .u8 f.proto, vb][j]? := by
  have e : 35 + j = (32 + j) + 1 + 1 + 1 := by omega
  rw [vC, e, List.getElem?_cons_succ, List.getElem?_cons_succ, List.getElem?_cons_succ, List.getElem?_append_right (by rw [f.len]; omega), f.len]
  congr 1
  omega
theorem vC_set (j : Nat) (x : Value) : (vC f g vh vb).set (35 + j) x = .int .u8 f.cls :: .int .u32 f.lab :: .int .u8 f.hop :: (f.ad ++ [vh, .bool g.fr, .int .u32 g.id, .int .i64 g.off, .bool g.more, .int .u8 f.proto, vb].set j x) := by
  have e : 35 + j = (32 + j) + 1 + 1 + 1 := by omega
  rw [vC, e, List.set_cons_succ, List.set_cons_succ, List.set_cons_succ, List.set_append_right _ _ (by rw [f.len]; omega), f.len]
  congr 6
  omega
theorem vC_one (h1 : vh.oneCell' = true) (h2 : vb.oneCell' = true) : ∀ v ∈ vC f g vh vb, v.oneCell' = true := by
  intro v hv
  simp only [vC, List.mem_cons, List.mem_append, List.not_mem_nil, or_false] at hv
  rcases hv with rfl | rfl | rfl | hv | rfl | rfl | rfl | rfl | rfl | rfl | rfl
  all_goals first | rfl | assumption | exact f.one _ hv
theorem vC_l6 (h1 : vh.oneCell' = true) (h2 : vb.oneCell' = true) : L6 (vC f g vh vb) f.cls f.lab f.hop vh g.fr g.id g.off g.more f.proto vb :=
  ⟨vC_len, vC_one h1 h2, rfl, rfl, rfl, vC_at 0, vC_at 1, vC_at 2, vC_at 3, vC_at 4, vC_at 5, vC_at 6⟩
variable {W : World} {b : Nat}
theorem vb_load (h : W.heap[b]? = some (BV f g vh vb)) : (Instr.loadAt 28 (.pointer (some ⟨b, 0, none⟩))).run Try.prog W = .ok (VV f g vh vb) W :=
  agg_load Try.isAgg28 Try.sizeOf28 vC_len (CellsAt.of_blk h)
theorem vb_var (h : W.heap[b]? = some (BV f g vh vb)) : (loadVar 28 ⟨b, 0, none⟩).run Try.prog W = .ok (VV f g vh vb) W :=
  agg_loadVar Try.isAgg28 Try.sizeOf28 vC_len (CellsAt.of_blk h)
theorem vb35 (h : W.heap[b]? = some (BV f g vh vb)) : W.cell? ⟨b, 35, none⟩ = some vh := blk_cell h (vC_at 0)
theorem vb36 (h : W.heap[b]? = some (BV f g vh vb)) : W.cell? ⟨b, 36, none⟩ = some (.bool g.fr) := blk_cell h (vC_at 1)
theorem vb37 (h : W.heap[b]? = some (BV f g vh vb)) : W.cell? ⟨b, 37, none⟩ = some (.int .u32 g.id) := blk_cell h (vC_at 2)
theorem vb38 (h : W.heap[b]? = some (BV f g vh vb)) : W.cell? ⟨b, 38, none⟩ = some (.int .i64 g.off) := blk_cell h (vC_at 3)
theorem vb39 (h : W.heap[b]? = some (BV f g vh vb)) : W.cell? ⟨b, 39, none⟩ = some (.bool g.more) := blk_cell h (vC_at 4)
theorem vb41 (h : W.heap[b]? = some (BV f g vh vb)) : W.cell? ⟨b, 41, none⟩ = some vb := blk_cell h (vC_at 6)
theorem vs35 (h : W.heap[b]? = some (BV f g vh vb)) (x : Value) : (W.setCell ⟨b, 35, none⟩ x).heap[b]? = some (BV f g x vb) := by
  rw [blk_set h, vC_set 0]; rfl
theorem vs36 (h : W.heap[b]? = some (BV f g vh vb)) (x : Bool) : (W.setCell ⟨b, 36, none⟩ (.bool x)).heap[b]? = some (BV f { g with fr := x } vh vb) := by
  rw [blk_set h, vC_set 1]; rfl
theorem vs37 (h : W.heap[b]? = some (BV f g vh vb)) (x : Int) : (W.setCell ⟨b, 37, none⟩ (.int .u32 x)).heap[b]? = some (BV f { g with id := x } vh vb) := by
  rw [blk_set h, vC_set 2]; rfl
theorem vs38 (h : W.heap[b]? = some (BV f g vh vb)) (x : Int) : (W.setCell ⟨b, 38, none⟩ (.int .i64 x)).heap[b]? = some (BV f { g with off := x } vh vb) := by
  rw [blk_set h, vC_set 3]; rfl
theorem vs39 (h : W.heap[b]? = some (BV f g vh vb)) (x : Bool) : (W.setCell ⟨b, 39, none⟩ (.bool x)).heap[b]? = some (BV f { g with more := x } vh vb) := by
  rw [blk_set h, vC_set 4]; rfl
theorem vs41 (h : W.heap[b]? = some (BV f g vh vb)) (x : Value) : (W.setCell ⟨b, 41, none⟩ x).heap[b]? = some (BV f g vh x) := by
  rw [blk_set h, vC_set 6]; rfl
end
theorem st_u32 {W : World} {b j : Nat} {c : List Value} {t : TypeId} (h : W.heap[b]? = some (.cells c.toArray t)) (hj : j < c.length) (x : Int) : (Instr.storeAt 22 (.pointer (some ⟨b, j, none⟩)) (.int .u32 x)).run Try.prog W = .ok () (W.setCell ⟨b, j, none⟩ (.int .u32 x)) := by
  have h1 : W.cell? ⟨b, j, none⟩ = some (c[j]'hj) := blk_cell h (by simp)
  have h2 := blk_open h j
  simp [Instr.storeAt, go_sem, h1, h2]
def zeroV : List Value := .int .u8 0 :: .int .u32 0 :: .int .u8 0 :: .int .u8 0 :: .int .u8 0 :: .int .u8 0 :: .int .u8 0 :: .int .u8 0 :: .int .u8 0 :: .int .u8 0 :: .int .u8 0 :: .int .u8 0 :: .int .u8 0 :: .int .u8 0 :: .int .u8 0 :: .int .u8 0 :: .int .u8 0 :: .int .u8 0 :: .int .u8 0 :: .int .u8 0 :: .int .u8 0 :: .int .u8 0 :: .int .u8 0 :: .int .u8 0 :: .int .u8 0 :: .int .u8 0 :: .int .u8 0 :: .int .u8 0 :: .int .u8 0 :: .int .u8 0 :: .int .u8 0 :: .int .u8 0 :: .int .u8 0 :: .int .u8 0 :: .int .u8 0 :: .slice none 0 0 :: .bool false :: .int .u32 0 :: .int .i64 0 :: .bool false :: .int .u8 0 :: .slice none 0 0 :: []
def zF : F6 := ⟨0, 0, 0, 0, List.replicate 32 (.int .u8 0), rfl, fun v hv => by rw [(List.mem_replicate.1 hv).2]; rfl⟩
def zG : G6 := ⟨false, 0, 0, false⟩
theorem zeroV_vC : zeroV = vC zF zG (.slice none 0 0) (.slice none 0 0) := rfl
theorem vb_new (W : World) (f : F6) (g : G6) {vh vb : Value} (h1 : vh.oneCell' = true) (h2 : vb.oneCell' = true) :
    ∃ W', (Instr.storeAt 28 (.pointer (some ⟨W.heap.size, 0, none⟩)) (VV f g vh vb)).run Try.prog (W.alloc (.cells zeroV.toArray 28)) = .ok () W' ∧ W'.heap[W.heap.size]? = some (BV f g vh vb) ∧ Below W.heap.size W W' ∧ W'.heap.size = W.heap.size + 1 := by
  obtain ⟨W', h, hb, ho⟩ := box_store Try.sizeOf28 (blk_new W (.cells zeroV.toArray 28)) (by rfl) (vC f g vh vb) vC_len (vC_one h1 h2)
  exact ⟨W', h, hb, ((Below.refl _ W).alloc (Nat.le_refl _) _).trans (ho.below (Nat.le_refl _)), by rw [ho.size]; simp⟩

/-- Heads in blocks of a set. -/
structure HS (S : Nat → Prop) (w : World) (v : Value) (hs : Opts) : Prop where
  fit : ∀ j, 0 ≤ oK hs j ∧ oK hs j < 256
  len : hs.length ≤ 140737488351232
  val : ∃ a cap, v = .slice a hs.length cap ∧ (hs.length = 0 ∨ ∃ b off, a = some ⟨b, off, none⟩ ∧ b < w.heap.size ∧ S b ∧ ∀ j, j < hs.length → w.cell? ⟨b, off + j * 2, none⟩ = some (.int .u8 (oK hs j)) ∧ ∃ s, w.cell? ⟨b, off + j * 2 + 1, none⟩ = some s ∧ BS S w s (oD hs j))
section
variable {S S' O : Nat → Prop} {w w' : World} {v : Value} {hs : Opts}
theorem HS.one (h : HS S w v hs) : v.oneCell' = true := by
  obtain ⟨_, _, a, cap, rfl, _⟩ := h
  rfl
theorem HS.slc (h : HS S w v hs) : ∃ x n m, v = .slice x n m := by
  obtain ⟨_, _, a, cap, e, _⟩ := h
  exact ⟨_, _, _, e⟩
theorem HS.opts (h : HS S w v hs) : OptsAt w.heap.size w v hs := by
  obtain ⟨h1, h2, a, cap, e, hz⟩ := h
  refine ⟨h1, h2, a, cap, e, hz.imp id ?_⟩
  rintro ⟨b, off, rfl, hlt, hS, hc⟩
  exact ⟨b, off, rfl, hlt, fun j hj => let ⟨c0, s, c1, hb⟩ := hc j hj; ⟨c0, s, c1, hb.bytes⟩⟩
theorem HS.sep (h : HS S w v hs) (hs' : Sep O w w') (hO : ∀ b, S b → ¬ O b) : HS S w' v hs := by
  obtain ⟨h1, h2, a, cap, e, hz⟩ := h
  refine ⟨h1, h2, a, cap, e, hz.imp id ?_⟩
  rintro ⟨b, off, rfl, hlt, hS, hc⟩
  have hb := hs'.same b hlt (hO b hS)
  refine ⟨b, off, rfl, Nat.lt_of_lt_of_le hlt hs'.size, hS, fun j hj => ?_⟩
  obtain ⟨c0, s, c1, hbs⟩ := hc j hj
  exact ⟨by rw [← c0]; simp [World.cell?, hb], s, by rw [← c1]; simp [World.cell?, hb], hbs.sep hs' hO⟩
theorem HS.on (h : HS S w v hs) (hb : Below w.heap.size w w') : HS S w' v hs := h.sep (O := fun _ => False) (Sep.of_below hb) (fun _ _ h => h)
theorem HS.mono (h : HS S w v hs) (hS' : ∀ b, b < w.heap.size → S b → S' b) : HS S' w v hs := by
  obtain ⟨h1, h2, a, cap, e, hz⟩ := h
  refine ⟨h1, h2, a, cap, e, hz.imp id ?_⟩
  rintro ⟨b, off, rfl, hlt, hS, hc⟩
  exact ⟨b, off, rfl, hlt, hS' b hlt hS, fun j hj => let ⟨c0, s, c1, hb⟩ := hc j hj; ⟨c0, s, c1, hb.mono hS'⟩⟩
theorem HS.same {A B : World} (h : HS S A v hs) (hs' : A.heap.size ≤ B.heap.size) (hO : ∀ b, S b → B.heap[b]? = A.heap[b]?) : HS S B v hs := by
  obtain ⟨h1, h2, a, cap, e, hz⟩ := h
  refine ⟨h1, h2, a, cap, e, hz.imp id ?_⟩
  rintro ⟨b, off, rfl, hlt, hS, hc⟩
  have hb := hO b hS
  refine ⟨b, off, rfl, Nat.lt_of_lt_of_le hlt hs', hS, fun j hj => ?_⟩
  obtain ⟨c0, s, c1, hbs⟩ := hc j hj
  exact ⟨by rw [← c0]; simp [World.cell?, hb], s, by rw [← c1]; simp [World.cell?, hb], hbs.same hs' hO⟩
end
/-- A datagram's lists in memory. -/
structure D6 (S : Nat → Prop) (w : World) (f : F6) (vh vb : Value) (hs : Opts) (body : List Int) : Prop where
  hd : HS S w vh hs
  bd : BS S w vb body
  lab : 0 ≤ f.lab ∧ f.lab ≤ 4294967295
section
variable {S S' O : Nat → Prop} {w w' : World} {f : F6} {vh vb : Value} {hs : Opts} {body : List Int}
theorem D6.on (h : D6 S w f vh vb hs body) (hb : Below w.heap.size w w') : D6 S w' f vh vb hs body := ⟨h.hd.on hb, h.bd.on hb, h.lab⟩
theorem D6.sep (h : D6 S w f vh vb hs body) (hs' : Sep O w w') (hO : ∀ b, S b → ¬ O b) : D6 S w' f vh vb hs body := ⟨h.hd.sep hs' hO, h.bd.sep hs' hO, h.lab⟩
theorem D6.mono (h : D6 S w f vh vb hs body) (hS : ∀ b, b < w.heap.size → S b → S' b) : D6 S' w f vh vb hs body := ⟨h.hd.mono hS, h.bd.mono hS, h.lab⟩
theorem D6.same {A B : World} (h : D6 S A f vh vb hs body) (hs' : A.heap.size ≤ B.heap.size) (hO : ∀ b, S b → B.heap[b]? = A.heap[b]?) : D6 S B f vh vb hs body := ⟨h.hd.same hs' hO, h.bd.same hs' hO, h.lab⟩
end

def okB (f : F6) (hs : Opts) (g : G6) : Bool := decide (f.lab ≤ 1048575) && (decide (hs.length ≤ 8) && ((List.range hs.length).all (headOk hs) && endB g.fr g.id g.off g.more f.proto))
theorem okB_iff (f : F6) (hs : Opts) (g : G6) : okB f hs g = true ↔ ok6 f.lab hs g.fr g.id g.off g.more f.proto := by
  simp [okB, ok6, headsB, allH, and_assoc]
def ckE (f : F6) (hs : Opts) (g : G6) (nb : Nat) : Int := if okB f hs g then (if ahead6 hs g.fr + nb ≤ 65535 + 40 then 0 else 2) else 54
theorem ck_eq {f : F6} {hs : Opts} {g : G6} {nb : Nat} {er : Int} (h : Chk6 f.lab hs g.fr g.id g.off g.more f.proto nb er) : er = ckE f hs g nb := by
  have hi := okB_iff f hs g
  unfold ckE
  rcases h with ⟨a, rfl⟩ | ⟨a, b, rfl⟩ | ⟨a, b, rfl⟩
  · rw [if_neg (fun c => a (hi.1 c))]
  · rw [if_pos (hi.2 a), if_neg (by omega)]
  · rw [if_pos (hi.2 a), if_pos (by omega)]
theorem ck_zero {f : F6} {hs : Opts} {g : G6} {nb : Nat} (h : ckE f hs g nb = 0) : ok6 f.lab hs g.fr g.id g.off g.more f.proto ∧ ahead6 hs g.fr + nb ≤ 65535 + 40 := by
  have hi := okB_iff f hs g
  unfold ckE at h
  by_cases c : okB f hs g = true
  · rw [if_pos c] at h
    by_cases d : ahead6 hs g.fr + nb ≤ 65535 + 40
    · exact ⟨hi.1 c, d⟩
    · rw [if_neg d] at h; omega
  · rw [if_neg c] at h; omega
section
variable {S : Nat → Prop} {w : World} {f : F6} (g : G6) {vh vb : Value} {hs : Opts} {body : List Int}
theorem Check_any (h : D6 S w f vh vb hs body) : Calls Try.prog 12 #[VV f g vh vb] w fun e w' => e = .returned (.int .i64 (ckE f hs g body.length)) ∧ Below w.heap.size w w' := by
  refine (Check_calls w (vC_l6 (g := g) h.hd.one h.bd.one) hs h.hd.opts body h.bd.bytes h.lab).mono ?_
  rintro e w' ⟨er, rfl, hc, hb⟩
  exact ⟨by rw [ck_eq hc], hb⟩
theorem Size_any (h : D6 S w f vh vb hs body) : Calls Try.prog 10 #[VV f g vh vb] w fun e w' => e = .returned (.tuple #[.int .i64 (if ckE f hs g body.length = 0 then ahead6 hs g.fr + body.length else 0), .int .i64 (if ckE f hs g body.length = 0 then ahead6 hs g.fr else 0), .int .i64 (ckE f hs g body.length)]) ∧ Below w.heap.size w w' := by
  refine (Size_calls w (vC_l6 (g := g) h.hd.one h.bd.one) hs h.hd.opts body h.bd.bytes h.lab).mono ?_
  rintro e w' ⟨er, rfl, hc, hb⟩
  exact ⟨by rw [ck_eq hc], hb⟩
end

end Go.Proofs.Ytbaeogoojpngbaa
