/-
  whole of a segment of TCP.
  parseTCP, ParseTCP4 and ParseTCP6 of package segment.
  What a parsed segment tells; ParseTCP4 and ParseTCP6 of package segment.
-/
import Derived.Test.YtpgnnplpcalbbaaGreatFold31
import Derived.Test.YtpgnnplpcalbbaaGreatFold27
import Derived.Test.YtpgnnplpcalbbaaGreatFold20
import Derived.Test.YtpgnnplpcalbbaaGreatFold29
import Derived.Test.YtpgnnplpcalbbaaGreatFold06
set_option linter.unusedVariables false
set_option linter.unusedSimpArgs false
namespace Go.Proofs.YtpgnnplpcalbbaaGreat
open Go Go.RowKit Go.Shelf
theorem ex_nil {o : Oper} {a : Act} {W : World} (k : Nat) {p : Addr} (hop : o.op = Op.nilCheck (.tmp k)) (hk : a.eval (.tmp k) = .pointer (some p)) : (execOp a.eval o).run Tryz.prog W = .ok (.value (.pointer (some p))) W := by
  generalize a.eval = ev at *
  simp [execOp, hop, hk, go_sem]
theorem ex_loadI {o : Oper} {a : Act} {W : World} (k : Nat) {p : Addr} {x : Int} (hop : o.op = Op.load 3 (.tmp k)) (hk : a.eval (.tmp k) = .pointer (some p)) (hc : W.cell? p = some (.int .i64 x)) :
    (execOp a.eval o).run Tryz.prog W = .ok (.value (.int .i64 x)) W := by
  generalize a.eval = ev at *
  simp [execOp, hop, hk, go_sem, hc]
theorem ex_sub20 {o : Oper} {a : Act} {W : World} (k : Nat) {t : TypeId} {n : Nat} (hop : o.op = Op.binOp .sub 3 (.tmp k) (.const (.int .i64 20)) t) (hk : a.eval (.tmp k) = .int .i64 (20 + (n : Int))) (hn : n ≤ 140737488351232) :
    (execOp a.eval o).run Tryz.prog W = .ok (.value (.int .i64 (n : Int))) W := by
  have hc : a.eval (.const (.int .i64 20)) = .int .i64 20 := rfl
  have e : IntKind.i64.wrap (20 + (n : Int) - 20) = (n : Int) := by rw [IntKind.wrap_i64]; omega
  generalize a.eval = ev at *
  simp [execOp, hop, hk, hc, go_sem, e]
theorem RowS.take {w : World} {s : Value} {ys : List Int} {b off cap : Nat} (h : RowS w s ys b off cap) (n : Nat) (hn : n ≤ ys.length) : RowS w (.slice (some ⟨b, off, none⟩) n cap) (ys.take n) b off cap := by
  have hl : (ys.take n).length = n := by simp; omega
  refine ⟨by rw [hl], by rw [hl]; exact Nat.le_trans hn h.room, h.lt, fun j hj => ?_, fun z hz => h.fit z (List.mem_of_mem_take hz), by rw [hl]; exact Nat.le_trans hn h.len⟩
  rw [hl] at hj
  rw [h.cell j (by omega)]
  simp [gz, List.getElem?_take, hj]
/-- Bytes that lie in memory made behind world w. -/
def New (w : World) (v : Value) (zs : List Int) : Prop := zs.length = 0 ∨ ∃ b off n k, v = .slice (some ⟨b, off, none⟩) n k ∧ w.heap.size ≤ b
theorem New.old {w w' : World} {v : Value} {zs : List Int} (h : New w' v zs) (hs : w.heap.size ≤ w'.heap.size) : New w v zs := h.imp id (fun ⟨b, off, n, k, e, hb⟩ => ⟨b, off, n, k, e, Nat.le_trans hs hb⟩)
theorem New.only {w W W' : World} {g : Nat} {v : Value} {zs : List Int} (h : New w v zs) (hg : g < w.heap.size) (hv : BytesAt W.heap.size W v zs) (ho : Only g W W') : BytesAt W'.heap.size W' v zs :=
  bytes_only hv ho (h.imp id (fun ⟨b, off, n, k, e, hb⟩ => ⟨b, off, n, k, e, Nat.lt_of_lt_of_le hg hb⟩))
end Go.Proofs.YtpgnnplpcalbbaaGreat
namespace Go.Proofs.YtpgnnplpcalbbaaGreat
open Go Go.RowKit Go.Shelf
end Go.Proofs.YtpgnnplpcalbbaaGreat
namespace Go.Proofs.YtpgnnplpcalbbaaGreat
open Go Go.RowKit Go.Shelf
def tE (ph : Int → Int → List Int) (zs : List Int) : Int := if zs.length < 20 then 60 else if ¬ (20 ≤ hdL zs ∧ hdL zs ≤ zs.length) then 61 else if 65535 < zs.length then 2 else if sumW 0 (wordsL (ph 6 zs.length ++ zs)) = 65535 then 0 else 62
def tT (ph : Int → Int → List Int) (zs : List Int) : Seg := if tE ph zs = 0 then ⟨wd2 zs 0, wd2 zs 2, lg zs 4, lg zs 8, flg zs, wd2 zs 14, wd2 zs 18, (zs.drop 20).take (hdL zs - 20).toNat, (zs.drop 20).drop (hdL zs - 20).toNat⟩ else ⟨0, 0, 0, 0, 0, 0, 0, [], []⟩
/-- A segment whose bytes lie in memory made behind world w. -/
def TcpN (w w' : World) (c : List Value) (t : Seg) : Prop := TcpC w' c t ∧ ∃ vo vd, c = [.int .u16 t.src, .int .u16 t.dst, .int .u32 t.seq, .int .u32 t.ack, .int .u8 t.fl, .int .u16 t.win, .int .u16 t.urg, vo, vd] ∧ New w vo t.opts ∧ New w vd t.data
theorem TcpN.old {w w2 W : World} {c : List Value} {t : Seg} (h : TcpN w2 W c t) (hs : w.heap.size ≤ w2.heap.size) : TcpN w W c t := by
  obtain ⟨h1, vo, vd, h2, h3, h4⟩ := h
  exact ⟨h1, vo, vd, h2, h3.old hs, h4.old hs⟩
theorem TcpN.only {w W W' : World} {g : Nat} {c : List Value} {t : Seg} (h : TcpN w W c t) (hg : g < w.heap.size) (ho : Only g W W') : TcpN w W' c t := by
  obtain ⟨⟨⟨vo, vd, h1, h2, h3⟩, r1, r2, r3, r4, r5, r6, r7⟩, vo', vd', e, n1, n2⟩ := h
  rw [h1] at e
  simp only [List.cons.injEq, and_true, true_and] at e
  obtain ⟨e1, e2⟩ := e
  subst e1 e2
  exact ⟨⟨⟨vo, vd, h1, n1.only hg h2 ho, n2.only hg h3 ho⟩, r1, r2, r3, r4, r5, r6, r7⟩, vo, vd, h1, n1, n2⟩
theorem TcpC.one {w : World} {c : List Value} {t : Seg} (h : TcpC w c t) : ∀ v ∈ c, v.oneCell' = true := by
  obtain ⟨⟨vo, vd, rfl, ho, hd⟩, _⟩ := h
  obtain ⟨a, k, rfl, _⟩ := ho.val
  obtain ⟨a', k', rfl, _⟩ := hd.val
  simp [Value.oneCell']
def ParT (ph : Int → Int → List Int) (zs : List Int) (w : World) (e : Ending) (w' : World) : Prop :=
  ∃ c, e = .returned (.tuple #[.agg c.toArray, .int .i64 (tE ph zs)]) ∧ TcpN w w' c (tT ph zs) ∧ Below w.heap.size w w'
theorem ParT.bad {ph : Int → Int → List Int} {zs : List Int} {w w' : World} {e : Ending} {er : Int} (hu : tE ph zs = er) (hne : er ≠ 0) (h : e = .returned (.tuple #[.agg #[.int .u16 0, .int .u16 0, .int .u32 0, .int .u32 0, .int .u8 0, .int .u16 0, .int .u16 0, .slice none 0 0, .slice none 0 0], .int .i64 er])) (hb : Below w.heap.size w w') : ParT ph zs w e w' := by
  have h0 : ¬ tE ph zs = 0 := by rw [hu]; exact hne
  refine ⟨[.int .u16 0, .int .u16 0, .int .u32 0, .int .u32 0, .int .u8 0, .int .u16 0, .int .u16 0, .slice none 0 0, .slice none 0 0], ?_, ?_, hb⟩
  · rw [h, hu]
  · unfold tT
    rw [if_neg h0]
    exact ⟨⟨⟨_, _, rfl, BytesAt.none w', BytesAt.none w'⟩, by decide, by decide, by decide, by decide, by decide, by decide, by decide⟩, _, _, rfl, .inl rfl, .inl rfl⟩
theorem ParT.good {ph : Int → Int → List Int} {zs : List Int} {n : Nat} {w w' : World} {e : Ending} {vo vd : Value} (hf : Fit zs) (hH : hdL zs = 20 + (n : Int)) (hu : tE ph zs = 0) (h : e = .returned (.tuple #[.agg #[.int .u16 (wd2 zs 0), .int .u16 (wd2 zs 2), .int .u32 (lg zs 4), .int .u32 (lg zs 8), .int .u8 (flg zs), .int .u16 (wd2 zs 14), .int .u16 (wd2 zs 18), vo, vd], .int .i64 0])) (ho : BytesAt w'.heap.size w' vo ((zs.drop 20).take n)) (hv : BytesAt w'.heap.size w' vd ((zs.drop 20).drop n)) (no : New w vo ((zs.drop 20).take n)) (nd : New w vd ((zs.drop 20).drop n)) (hb : Below w.heap.size w w') : ParT ph zs w e w' := by
  have hk : (hdL zs - 20).toNat = n := by omega
  have hr := flg_range hf
  refine ⟨[.int .u16 (wd2 zs 0), .int .u16 (wd2 zs 2), .int .u32 (lg zs 4), .int .u32 (lg zs 8), .int .u8 (flg zs), .int .u16 (wd2 zs 14), .int .u16 (wd2 zs 18), vo, vd], ?_, ?_, hb⟩
  · rw [h, hu]
  · unfold tT
    rw [if_pos hu, hk]
    exact ⟨⟨⟨vo, vd, rfl, ho, hv⟩, wd2_range hf 0, wd2_range hf 2, lg_range hf 4, lg_range hf 8, ⟨hr.1, by show flg zs < 256; omega⟩, wd2_range hf 14, wd2_range hf 18⟩, vo, vd, rfl, no, nd⟩
theorem tE_short {ph : Int → Int → List Int} {zs : List Int} (h : zs.length < 20) : tE ph zs = 60 := if_pos h
theorem tE_length {ph : Int → Int → List Int} {zs : List Int} (h : 20 ≤ zs.length) (h4 : ¬ (20 ≤ hdL zs ∧ hdL zs ≤ zs.length)) : tE ph zs = 61 := by
  unfold tE
  rw [if_neg (by omega), if_pos h4]
theorem tE_more {ph : Int → Int → List Int} {zs : List Int} (h : 20 ≤ zs.length) (h4 : 20 ≤ hdL zs ∧ hdL zs ≤ zs.length) : tE ph zs = if 65535 < zs.length then 2 else if sumW 0 (wordsL (ph 6 zs.length ++ zs)) = 65535 then 0 else 62 := by
  unfold tE
  rw [if_neg (by omega), if_neg (by simpa using h4)]
end Go.Proofs.YtpgnnplpcalbbaaGreat
