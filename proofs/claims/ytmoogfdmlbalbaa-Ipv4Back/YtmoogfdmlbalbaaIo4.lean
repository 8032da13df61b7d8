/-
  Options of package ipv4.
-/
import Derived.Test.YtmoogfdmlbalbaaIo3
namespace Go.Proofs.Ytmoogfdmlbalbaa
open Go Go.RowKit
set_option linter.unusedVariables false
set_option linter.unusedSimpArgs false

instance (ys : List Int) : Decidable (badO ys) := by unfold badO; infer_instance
/-- The options of bytes, and how many bytes are left at the first that is none. -/
def optsF : Nat → List Int → Opts × Option Nat
  | 0, _ => ([], none)
  | f + 1, ys =>
    if skipL ys = [] ∨ gz (skipL ys) 0 = 0 then ([], none) else if badO (skipL ys) then ([], some (skipL ys).length)
    else ((gz (skipL ys) 0, ((skipL ys).drop 2).take ((gz (skipL ys) 1).toNat - 2)) :: (optsF f ((skipL ys).drop (gz (skipL ys) 1).toNat)).1, (optsF f ((skipL ys).drop (gz (skipL ys) 1).toNat)).2)

set_option maxHeartbeats 1000000 in
theorem listed_calls (v : Value) (ys : List Int) (w : World) (h : RowC w v ys) :
    Calls Try.prog 46 #[v] w fun e w' => e = .returned (.pointer (some ⟨w.heap.size, 0, none⟩)) ∧ ListW w w' w.heap.size v ys.length ∧ Below w.heap.size w w' := by
  obtain ⟨_, _, a, cap, rfl, _⟩ := h
  have HB : Hid _ := (Below.refl w.heap.size w).alloc (Nat.le_refl _) (.cells [.slice a ys.length cap, .int .i64 ys.length].toArray 87)
  have HN : Hid _ := blk_new w (.cells [.slice a ys.length cap, .int .i64 ys.length].toArray 87)
  go_enter Try.func46, Try.ntmps46
  go_wp2
  go_ret
  exact ⟨rfl, ⟨HN.out, Nat.le_refl _, HB.out⟩, HB.out⟩

/-- The three results' boxes of Options. -/
structure BoxO (w0 W : World) (Q : Nat) (v : Value) (x y : Int) : Prop where
  vb : W.heap[Q]? = some (.cells [v].toArray 42)
  xb : W.heap[Q + 1]? = some (.cells [.int .i64 x].toArray 3)
  yb : W.heap[Q + 2]? = some (.cells [.int .i64 y].toArray 28)
  bel : Below w0.heap.size w0 W
  up : w0.heap.size ≤ Q
theorem BoxO.on {w0 W W' : World} {Q : Nat} {v : Value} {x y : Int} (h : BoxO w0 W Q v x y) (hb : Below W.heap.size W W') : BoxO w0 W' Q v x y :=
  ⟨blk_on h.vb hb, blk_on h.xb hb, blk_on h.yb hb, h.bel.trans (hb.mono h.bel.size), h.up⟩
theorem BoxO.but {w0 W W' : World} {Q R : Nat} {v : Value} {x y : Int} (h : BoxO w0 W Q v x y) (hb : But R W W') (hR : Q + 2 < R) : BoxO w0 W' Q v x y :=
  ⟨hb.blk h.vb (by omega), hb.blk h.xb (by omega), hb.blk h.yb (by omega), h.bel.trans (hb.below (by have := h.up; omega) h.bel.size), h.up⟩
theorem BoxO.start (w : World) : BoxO w (((w.alloc (.cells #[.slice none 0 0] 42)).alloc (.cells #[.int .i64 0] 3)).alloc (.cells #[.int .i64 0] 28)) w.heap.size (.slice none 0 0) 0 0 := by
  refine ⟨blk_alloc (blk_alloc (blk_new w _) _) _, ?_, ?_, ((((Below.refl w.heap.size w).alloc (Nat.le_refl _) _).alloc (by simp) _).alloc (by simp <;> omega) _), Nat.le_refl _⟩
  · have := blk_alloc (blk_new (w.alloc (.cells #[.slice none 0 0] 42)) (.cells #[.int .i64 0] 3)) (.cells #[.int .i64 0] 28)
    rwa [show (w.alloc (.cells #[.slice none 0 0] 42)).heap.size = w.heap.size + 1 by simp] at this
  · have := blk_new ((w.alloc (.cells #[.slice none 0 0] 42)).alloc (.cells #[.int .i64 0] 3)) (.cells #[.int .i64 0] 28)
    rwa [show ((w.alloc (.cells #[.slice none 0 0] 42)).alloc (.cells #[.int .i64 0] 3)).heap.size = w.heap.size + 2 by simp] at this

/-- The cells of a row of options. -/
def cellsL : Opts → List Value → List Value
  | [], _ => []
  | o :: os, ds => .int .u8 o.1 :: ds.headD undef :: cellsL os ds.tail
theorem cellsL_length : ∀ (os : Opts) (ds : List Value), (cellsL os ds).length = os.length * 2
  | [], _ => rfl
  | o :: os, ds => by simp [cellsL, cellsL_length os ds.tail]; omega
theorem cellsL_push : ∀ (os : Opts) (ds : List Value) (K : Int) (D : List Int) (u : Value), ds.length = os.length → cellsL (os ++ [(K, D)]) (ds ++ [u]) = cellsL os ds ++ [.int .u8 K, u]
  | [], [], K, D, u, _ => rfl
  | o :: os, d :: ds, K, D, u, h => by
    have := cellsL_push os ds K D u (by simpa using h)
    simp [cellsL, this]
theorem cellsL_at : ∀ (os : Opts) (ds : List Value) (j : Nat), j < os.length → (cellsL os ds)[j * 2]? = some (.int .u8 (oK os j)) ∧ (cellsL os ds)[j * 2 + 1]? = some (ds[j]?.getD undef)
  | o :: os, ds, 0, _ => by cases ds <;> simp [cellsL, oK]
  | o :: os, ds, j + 1, h => by
    have := cellsL_at os ds.tail j (by simpa using h)
    rw [show (j + 1) * 2 = j * 2 + 1 + 1 by omega, show j * 2 + 1 + 1 + 1 = (j * 2 + 1) + 1 + 1 by omega]
    refine ⟨?_, ?_⟩
    · simp only [cellsL, List.getElem?_cons_succ]
      rw [this.1]
      simp [oK]
    · simp only [cellsL, List.getElem?_cons_succ]
      rw [this.2]
      cases ds <;> simp

/-- A row of options of one's own: its block and those of its data lie from 'base' on and below 'top'. -/
structure OptRow (base top : Nat) (W : World) (v : Value) (os : Opts) (ds : List Value) : Prop where
  own : W.ownsRow base 76 2 v os.length (cellsL os ds)
  dl : ds.length = os.length
  fit : ∀ j, 0 ≤ oK os j ∧ oK os j < 256
  gl : ∀ g, v.ownBlock = some g → g < top
  dat : ∀ j, j < os.length → BytesAt W.heap.size W (ds[j]?.getD undef) (oD os j) ∧ ((oD os j).length = 0 ∨ ∃ b off n k, ds[j]?.getD undef = .slice (some ⟨b, off, none⟩) n k ∧ base ≤ b ∧ b < top ∧ v.ownBlock ≠ some b)
theorem bytes_keep {W W' : World} {v : Value} {zs : List Int} (h : BytesAt W.heap.size W v zs) (hl : zs.length = 0 ∨ ∃ b off n k, v = .slice (some ⟨b, off, none⟩) n k ∧ b < W'.heap.size ∧ W'.heap[b]? = W.heap[b]?) : BytesAt W'.heap.size W' v zs := by
  obtain ⟨hf, hle, a, cap, rfl, hz⟩ := h
  refine ⟨hf, hle, a, cap, rfl, ?_⟩
  rcases hz with hz | ⟨b, off, rfl, hlt, hc⟩
  · exact .inl hz
  · rcases hl with hl | ⟨b', off', n, k, e, hs, hb⟩
    · exact .inl hl
    · cases e
      refine .inr ⟨b, off, rfl, hs, fun j hj => ?_⟩
      rw [← hc j hj]
      simp [World.cell?, hb]
theorem OptRow.keep {base top : Nat} {W W' : World} {v : Value} {os : Opts} {ds : List Value} (h : OptRow base top W v os ds) (ht : top ≤ W.heap.size) (hs : W.heap.size ≤ W'.heap.size) (hk : ∀ j, base ≤ j → j < top → W'.heap[j]? = W.heap[j]?) : OptRow base top W' v os ds := by
  refine ⟨⟨h.own.1, ?_⟩, h.dl, h.fit, h.gl, fun j hj => ⟨?_, (h.dat j hj).2⟩⟩
  · rcases h.own.2 with h0 | ⟨g, cap, cur, rfl, hb, hg, r⟩
    · exact .inl h0
    · exact .inr ⟨g, cap, cur, rfl, hb, (hk g hb (h.gl g rfl)).trans hg, r⟩
  · obtain ⟨h1, h2⟩ := h.dat j hj
    refine bytes_keep h1 (h2.imp id ?_)
    rintro ⟨b, off, n, k, e, hb, ht', _⟩
    exact ⟨b, off, n, k, e, by omega, hk b hb ht'⟩
theorem OptRow.top {base top top' : Nat} {W : World} {v : Value} {os : Opts} {ds : List Value} (h : OptRow base top W v os ds) (ht : top ≤ top') : OptRow base top' W v os ds :=
  ⟨h.own, h.dl, h.fit, fun g hg => Nat.lt_of_lt_of_le (h.gl g hg) ht, fun j hj => ⟨(h.dat j hj).1, (h.dat j hj).2.imp id (fun ⟨b, off, n, k, e, h1, h2, h3⟩ => ⟨b, off, n, k, e, h1, Nat.lt_of_lt_of_le h2 ht, h3⟩)⟩⟩
theorem OptRow.nil (base top : Nat) (W : World) : OptRow base top W (.slice none 0 0) [] [] :=
  ⟨World.ownsRow_nil _ _ _ _, rfl, (fun j => by simp [oK]), (fun g hg => by cases hg), (fun j hj => by simp at hj)⟩
theorem OptRow.opts {base top : Nat} {W : World} {v : Value} {os : Opts} {ds : List Value} (h : OptRow base top W v os ds) (hl : os.length ≤ 140737488351232) : OptsAt W.heap.size W v os := by
  refine ⟨h.fit, hl, ?_⟩
  rcases h.own.2 with ⟨rfl, h0⟩ | ⟨g, cap, cur, rfl, hb, hg, _⟩
  · exact ⟨none, 0, by rw [h0], .inl h0⟩
  · refine ⟨_, cap, rfl, .inr ⟨g, 0, rfl, (Array.getElem?_eq_some_iff.1 hg).1, fun j hj => ?_⟩⟩
    have hc := cellsL_at os ds j hj
    have c0 := h.own.cells (g := g) rfl _ _ hc.1
    have c1 := h.own.cells (g := g) rfl _ _ hc.2
    rw [Go.WideShapes.add_plain] at c0 c1
    exact ⟨by simpa using c0, _, by simpa [Nat.add_assoc] using c1, (h.dat j hj).1⟩

theorem opt_info : (Try.prog.info? 76).map (fun i => (i.zero, i.size, i.bytes)) = some (some (.agg #[.int .u8 0, .slice none 0 0]), 2, 32) := by kernel_rfl
theorem OptRow.push {base top : Nat} {W : World} {v : Value} {os : Opts} {ds : List Value} (h : OptRow base top W v os ds) (ht : top ≤ W.heap.size) (hbase : base ≤ W.heap.size) {X : Nat} {K : Int} {u : Value} {D : List Int} (hX0 : W.cell? ⟨X, 0, none⟩ = some (.int .u8 K)) (hX1 : W.cell? ⟨X, 1, none⟩ = some u) (hK : 0 ≤ K ∧ K < 256)
    (hu : BytesAt W.heap.size W u D) (hl : D.length = 0 ∨ ∃ b off n k, u = .slice (some ⟨b, off, none⟩) n k ∧ base ≤ b ∧ b < W.heap.size ∧ v.ownBlock ≠ some b) (hn : os.length ≤ 1048576) (c : Nat) (ty : TypeId) :
    ∃ v' W', (Builtin.append_ #[42, 42] ty #[v, .slice (some ⟨X, 0, none⟩) 1 c]).run Try.prog W = .ok v' W' ∧ OptRow base W'.heap.size W' v' (os ++ [(K, D)]) (ds ++ [u]) ∧ W.grownBy W' v.ownBlock ∧ (∃ x n k, v' = .slice x n k) := by
  obtain ⟨i, hi, hz, hs, hby⟩ := info_parts opt_info
  have hone : u.oneCell' = true := by obtain ⟨_, _, a, k, rfl, _⟩ := hu; rfl
  have hnews : ∀ j w, ([.int .u8 K, u] : List Value)[j]? = some w → W.cell? ((⟨X, 0, none⟩ : Addr).add j) = some w := by
    intro j w hj
    rw [Go.WideShapes.add_plain]
    match j, hj with
    | 0, hj => simp at hj; subst hj; exact hX0
    | 1, hj => simp at hj; subst hj; exact hX1
    | j + 2, hj => simp at hj
  have hall1 : ∀ w ∈ ([.int .u8 K, u] : List Value), w.oneCell' = true := by
    intro w hw
    simp only [List.mem_cons, List.not_mem_nil, or_false] at hw
    rcases hw with rfl | rfl
    · rfl
    · exact hone
  have h63 : os.length + 1 ≤ maxLen := by unfold maxLen; omega
  have hbb : (os.length + 1) * 32 ≤ 140737488355328 := by omega
  obtain ⟨v', W', hrun, r1, r2, _⟩ := run_append_own (P := Try.prog) W base 42 ty 76 i _ 2 32 Try.underlying42 hi hz hs hby rfl (by decide) v os.length _ h.own ⟨X, 0, none⟩ 1 c [.int .u8 K, u] rfl hnews hall1 h63 hbb hbase
  have hfresh : v'.ownBlock = v.ownBlock ∨ ∀ k, v'.ownBlock = some k → W.heap.size ≤ k := by
    rcases h.own.2 with ⟨rfl, h0⟩ | ⟨g, cap, cur, rfl, hbg, hg, hnc, hcm, hcs, htake⟩
    · have ho : W.ownsRow W.heap.size 76 2 (.slice none 0 0) os.length (cellsL os ds) := by
        have hos : os = [] := List.length_eq_zero_iff.1 h0
        rw [hos]
        exact World.ownsRow_nil _ _ _ _
      obtain ⟨v2, w2, hrun2, q1, _, _⟩ := run_append_own (P := Try.prog) W W.heap.size 42 ty 76 i _ 2 32 Try.underlying42 hi hz hs hby rfl (by decide) _ os.length _ ho ⟨X, 0, none⟩ 1 c [.int .u8 K, u] rfl hnews hall1 h63 hbb (Nat.le_refl _)
      rw [hrun] at hrun2
      cases hrun2
      exact .inr (fun k hk => (q1.lt k hk).1)
    · by_cases hroom : os.length + 1 ≤ cap
      · have hr := run_append_room (P := Try.prog) W 42 ty 76 i Try.underlying42 hi g os.length cap cur hg ⟨X, 0, none⟩ 1 c [.int .u8 K, u] (by rw [hs]; rfl) hnews hall1 hroom (by rw [hs]; simp; omega)
        rw [hrun] at hr
        cases hr
        exact .inl rfl
      · have holds : ∀ (j : Nat) u, (cellsL os ds)[j]? = some u → W.cell? ((⟨g, 0, none⟩ : Addr).add j) = some u := h.own.cells (g := g) rfl
        have hr := run_append_grow (P := Try.prog) W 42 ty 76 i _ Try.underlying42 hi hz ⟨g, 0, none⟩ os.length cap (cellsL os ds) (by rw [hs]; exact h.own.1) holds ⟨X, 0, none⟩ 1 c [.int .u8 K, u] (by rw [hs]; rfl) hnews (by omega) (by unfold maxLen at h63; omega) (growslice_fits (by omega) (by rw [hby]; exact hbb))
        rw [hrun] at hr
        cases hr
        exact .inr (fun k hk => by simp [Value.ownBlock] at hk; omega)
  have hK' : ∀ j, 0 ≤ oK (os ++ [(K, D)]) j ∧ oK (os ++ [(K, D)]) j < 256 := fun j => by
    by_cases hj : j < os.length
    · have := h.fit j
      simpa [oK, List.getElem?_append, hj] using this
    · by_cases e : j = os.length
      · subst e; simpa [oK] using hK
      · have : (os ++ [(K, D)])[j]? = none := List.getElem?_eq_none (by simp; omega)
        simp [oK, this]
  have hdat : ∀ j, j < os.length + 1 → BytesAt W.heap.size W ((ds ++ [u])[j]?.getD undef) (oD (os ++ [(K, D)]) j) ∧ ((oD (os ++ [(K, D)]) j).length = 0 ∨ ∃ b off n k, (ds ++ [u])[j]?.getD undef = .slice (some ⟨b, off, none⟩) n k ∧ base ≤ b ∧ b < W.heap.size ∧ v.ownBlock ≠ some b) := fun j hj => by
    have hdl := h.dl
    by_cases hj2 : j < os.length
    · obtain ⟨h1, h2⟩ := h.dat j hj2
      have e1 : (ds ++ [u])[j]? = ds[j]? := List.getElem?_append_left (by omega)
      have e2 : oD (os ++ [(K, D)]) j = oD os j := by simp [oD, List.getElem?_append, hj2]
      rw [e1, e2]
      exact ⟨h1, h2.imp id (fun ⟨b, off, n, k, e, q1, q2, q3⟩ => ⟨b, off, n, k, e, q1, by omega, q3⟩)⟩
    · obtain rfl : j = os.length := by omega
      have e1 : (ds ++ [u])[os.length]? = some u := by rw [← hdl]; simp
      have e2 : oD (os ++ [(K, D)]) os.length = D := by simp [oD]
      rw [e1, e2]
      exact ⟨hu, hl⟩
  refine ⟨v', W', hrun, ⟨?_, by simp [h.dl], hK', fun g hg => (r1.lt g hg).2, fun j hj => ?_⟩, r2, ?_⟩
  · rw [cellsL_push os ds K D u h.dl]
    simpa using r1
  · obtain ⟨h1, h2⟩ := hdat j (by simpa using hj)
    refine ⟨bytes_keep h1 (h2.imp id ?_), h2.imp id ?_⟩
    · rintro ⟨b, off, n, k, e, q1, q2, q3⟩
      exact ⟨b, off, n, k, e, Nat.lt_of_lt_of_le q2 r2.size, r2.block b q2 (fun e => q3 e.symm)⟩
    · rintro ⟨b, off, n, k, e, q1, q2, q3⟩
      refine ⟨b, off, n, k, e, q1, Nat.lt_of_lt_of_le q2 r2.size, ?_⟩
      rcases hfresh with hf | hf
      · rw [hf]; exact q3
      · intro e'
        have := hf b e'
        omega
  · rcases r1.2 with ⟨e, _⟩ | ⟨g, cap, cur, e, _⟩
    · exact ⟨_, _, _, e⟩
    · exact ⟨_, _, _, e⟩

end Go.Proofs.Ytmoogfdmlbalbaa
