/-
  A cache in a world that goes on: what its calls leave.
-/
import Derived.Test.YtgndiblonhgihaaPnN
namespace Go.Proofs.Ytgndiblonhgihaa
open Go Go.RowKit Go.Lib
set_option linter.unusedVariables false
set_option linter.unusedSimpArgs false

/-- What a call on a cache leaves of all else: blocks of other types. -/
structure TF (W W' : World) : Prop where
  size : W.heap.size ≤ W'.heap.size
  keep : ∀ (k : Nat) (c : Array Value) (ty : TypeId), W.heap[k]? = some (.cells c ty) → ty ≠ 64 → ty ≠ 74 → W'.heap[k]? = some (.cells c ty)
theorem TF.refl (W : World) : TF W W := ⟨Nat.le_refl _, fun _ _ _ h _ _ => h⟩
theorem TF.trans {A B C : World} (h : TF A B) (g : TF B C) : TF A C := ⟨Nat.le_trans h.size g.size, fun k c ty a b d => g.keep k c ty (h.keep k c ty a b d) b d⟩
theorem TF.below {W W' : World} (h : Below W.heap.size W W') : TF W W' := ⟨h.size, fun k c ty a _ _ => (h.block k (Array.getElem?_eq_some_iff.1 a).1).trans a⟩
theorem Keeps.ty {pb mb : Nat} {cf : Cf} {now : Int} {line : Value} {L : List (PE × Nat)} {W : World} (h : Keeps pb cf now mb line L W) {k : Nat} {c : Array Value} {ty : TypeId} (hk : W.heap[k]? = some (.cells c ty)) (h1 : ty ≠ 64) (h2 : ty ≠ 74) : k ≠ pb ∧ k ≠ mb ∧ line.ownBlock ≠ some k := by
  refine ⟨fun e => ?_, fun e => ?_, fun e => ?_⟩
  · have := h.p.box
    rw [← e, hk] at this
    simp at this
    exact h1 this.2
  · obtain ⟨M, ⟨es, n, g, _⟩, _⟩ := h.m
    rw [← e, hk] at g
    simp at g
  · rcases h.p.row.2 with ⟨rfl, _⟩ | ⟨g, cap, cur, rfl, _, g2, _⟩
    · simp [Value.ownBlock] at e
    · simp [Value.ownBlock] at e
      rw [e, hk] at g2
      simp at g2
      exact h2 g2.2
theorem Fr.tf {pb mb : Nat} {cf : Cf} {now : Int} {line : Value} {L : List (PE × Nat)} {W W' : World} (h : Keeps pb cf now mb line L W) (f : Fr pb mb line W W') : TF W W' :=
  ⟨f.size, fun k c ty a b d => by
    obtain ⟨n1, n2, n3⟩ := h.ty a b d
    exact (f.other k (Array.getElem?_eq_some_iff.1 a).1 n1 n2 n3).trans a⟩
theorem Fr.low {pb mb B : Nat} {line : Value} {W0 W W' : World} (f : Fr pb mb line W W') (h1 : B ≤ pb) (h2 : B ≤ mb) (h3 : ∀ g, line.ownBlock = some g → B ≤ g) (hb : Below B W0 W) (hB : B ≤ W0.heap.size) : Below B W0 W' := by
  have := hb.size
  exact ⟨f.os.trans hb.os, f.tape.trans hb.tape, f.output.trans hb.output, Nat.le_trans hb.size f.size, fun k hk => (f.other k (by omega) (by omega) (by omega) (fun e => by have := h3 k e; omega)).trans (hb.block k hk)⟩
theorem KN.live {L : List (PE × Nat)} (h : KN L) (t : Int) : KN (live L t) := h.sub (live_sub L t)
theorem room_sub (L : List (PE × Nat)) (d : List Int) (lim : Int) : (roomL L d lim).Sublist L := by
  unfold roomL
  split
  · exact List.drop_sublist _ _
  · unfold lackL; exact List.filter_sublist
theorem room_sort {L : List (PE × Nat)} (h : SortE L) (d : List Int) (lim : Int) (hn : KN L) : SortE (roomL L d lim) := by
  unfold roomL
  split
  · exact h.drop 1
  · exact h.sub d hn
theorem room_no (L : List (PE × Nat)) (d : List Int) (lim : Int) : ∀ x ∈ roomL L d lim, x.1.k ≠ d := by
  unfold roomL
  split
  · rename_i h
    intro x hx e
    have hh := h.1
    unfold hasL at hh
    rw [List.any_eq_false] at hh
    exact hh x (List.mem_of_mem_drop hx) (by simp [e])
  · intro x hx
    unfold lackL at hx
    rw [List.mem_filter] at hx
    simpa using hx.2
/-- A cache: its blocks lie above B, below which all is as in W0. -/
structure Cch (B : Nat) (W0 W : World) (p pb mb : Nat) (cf : Cf) (now : Int) (L : List (PE × Nat)) : Prop where
  bx : Box W p pb
  k : ∃ line, Keeps pb cf now mb line L W ∧ ∀ g, line.ownBlock = some g → B ≤ g
  st : SortE L
  lo : B ≤ p ∧ B ≤ pb ∧ B ≤ mb
  bl : Below B W0 W
  le : B ≤ W0.heap.size
theorem Cch.on {B : Nat} {W0 W W' : World} {p pb mb : Nat} {cf : Cf} {now : Int} {L : List (PE × Nat)} (h : Cch B W0 W p pb mb cf now L) (hb : Below W.heap.size W W') : Cch B W0 W' p pb mb cf now L := by
  obtain ⟨line, hk, hl⟩ := h.k
  have hz := h.bl.size
  have hy := h.le
  exact ⟨h.bx.on (hb.block _ h.bx.lt), ⟨line, hk.on hb, hl⟩, h.st, h.lo, h.bl.trans (hb.mono (by omega)), h.le⟩
/-- A cache, in a world that goes on below. -/
theorem Cch.get {B : Nat} {W0 V : World} {p pb mb : Nat} {cf : Cf} {now : Int} {L : List (PE × Nat)} (h : Cch B W0 V p pb mb cf now L) (hl : L.length ≤ 1000000) {t : Int} (ht : okT now t) {d : List Int} (hd : K16 d) :
    Calls Try.prog 13 #[.pointer (some ⟨p, 0, none⟩), .int .i64 t, .agg (u8s d).toArray] V fun e w' => e = .returned (.tuple #[.int .i64 (mtuL cf (live L t) d), .int .i64 0]) ∧ Cch B W0 w' p pb mb cf t (live L t) ∧ TF V w' := by
  obtain ⟨line, hk, hlb⟩ := h.k
  refine (get_yes h.bx hk h.st hl ht hd).mono ?_
  rintro e w' ⟨rfl, hx, line', k', lb', f⟩
  exact ⟨rfl, ⟨hx, ⟨line', k', by rw [lb']; exact hlb⟩, h.st.live t, h.lo, f.low h.lo.2.1 h.lo.2.2 hlb h.bl h.le, h.le⟩, f.tf hk⟩
theorem Cch.keep {B : Nat} {W0 V : World} {p pb mb : Nat} {cf : Cf} {now : Int} {L : List (PE × Nat)} (h : Cch B W0 V p pb mb cf now L) (hl : L.length ≤ 1000000) {t : Int} (ht : okT now t) {d : List Int} (hd : K16 d) {z : Int} (hz : 0 ≤ z ∧ z ≤ 65535) (hm : mtuL cf (live L t) d ≤ max z cf.least) :
    Calls Try.prog 15 #[.pointer (some ⟨p, 0, none⟩), .int .i64 t, .agg (u8s d).toArray, .int .i64 z] V fun e w' => e = .returned (.tuple #[.bool false, .int .i64 0]) ∧ Cch B W0 w' p pb mb cf t (live L t) ∧ TF V w' := by
  obtain ⟨line, hk, hlb⟩ := h.k
  refine (told_keep h.bx hk h.st hl ht hd hz hm).mono ?_
  rintro e w' ⟨rfl, hx, line', k', lb', f⟩
  exact ⟨rfl, ⟨hx, ⟨line', k', by rw [lb']; exact hlb⟩, h.st.live t, h.lo, f.low h.lo.2.1 h.lo.2.2 hlb h.bl h.le, h.le⟩, f.tf hk⟩
theorem Cch.told {B : Nat} {W0 V : World} {p pb mb : Nat} {cf : Cf} {now : Int} {L : List (PE × Nat)} (h : Cch B W0 V p pb mb cf now L) (hl : L.length ≤ 1000000) {t : Int} (ht : okT now t) {d : List Int} (hd : K16 d) {z : Int} (hz : 0 ≤ z ∧ z ≤ 65535) (hcf : cf.Ok) (hI : ∀ b k, Stands (roomL (live L t) d cf.lim) (⟨d, max z cf.least, (min (t + cf.life) 1099511627776)⟩, b) k → InsK (roomL (live L t) d cf.lim).length k) (hm : max z cf.least < mtuL cf (live L t) d) (hnow : 0 ≤ now) :
    Calls Try.prog 15 #[.pointer (some ⟨p, 0, none⟩), .int .i64 t, .agg (u8s d).toArray, .int .i64 z] V fun e w' => e = .returned (.tuple #[.bool true, .int .i64 0]) ∧ (∃ b k, Stands (roomL (live L t) d cf.lim) (⟨d, max z cf.least, (min (t + cf.life) 1099511627776)⟩, b) k ∧ Cch B W0 w' p pb mb cf t (putK (roomL (live L t) d cf.lim) k (⟨d, max z cf.least, (min (t + cf.life) 1099511627776)⟩, b))) ∧ TF V w' := by
  obtain ⟨line, hk, hlb⟩ := h.k
  have hzz := h.bl.size
  have hle := h.le
  refine (told_yes h.bx hk h.st hl ht hd hz hcf hI hm hnow).mono ?_
  rintro e w' ⟨rfl, hx, b, k, line', hs, k', lb', f⟩
  refine ⟨rfl, ⟨b, k, hs, hx, ⟨line', k', ?_⟩, ?_, h.lo, f.low h.lo.2.1 h.lo.2.2 hlb h.bl h.le, h.le⟩, f.tf hk⟩
  · rcases lb' with e | e
    · rw [e]; exact hlb
    · exact fun g hg => by have := e g hg; omega
  · exact (room_sort (h.st.live t) d cf.lim (hk.kn.live t)).put hs (room_no _ d cf.lim)
theorem New_cch {cf : Cf} (h : cf.Ok) (W : World) : Calls Try.prog 7 #[.agg (cfC cf).toArray] W fun e w' => ∃ p pb mb, e = .returned (.tuple #[.pointer (some ⟨p, 0, none⟩), .int .i64 0]) ∧ Cch W.heap.size W w' p pb mb cf 0 [] := by
  refine (New_good h W).mono ?_
  rintro e w' ⟨p, pb, mb, rfl, hbx, hk, hb, hp, hpb, hmb⟩
  exact ⟨p, pb, mb, rfl, hbx, ⟨_, hk, fun g hg => by simp [Value.ownBlock] at hg⟩, SortE.nil, ⟨hp, hpb, hmb⟩, hb, Nat.le_refl _⟩
end Go.Proofs.Ytgndiblonhgihaa
