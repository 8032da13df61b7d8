/-
  The fragments of any datagram; rows of datagrams of one's own.
-/
import Derived.Test.YtcllcinekohklaaXc4
namespace Go.Proofs.Ytcllcinekohklaa
open Go Go.RowKit
set_option linter.unusedVariables false
set_option linter.unusedSimpArgs false

def spN (hs : Opts) (mtu : Int) : Nat := (mtu - (ahead6 hs true : Int)).toNat
/-- The fragments of a datagram, and how they end. -/
def fragP (f : F6) (hs : Opts) (g : G6) (body : List Int) (mtu id : Int) : List FG × Option Int :=
  if fitE f hs g body.length mtu ≠ 0 then ([], some (fitE f hs g body.length mtu)) else if fitB hs g body.length mtu = true then ([⟨g, body⟩], none) else if g.more = true ∧ body.length % 8 ≠ 0 then ([], some 1) else if mtu < (ahead6 hs true : Int) + 8 then ([], some 141) else frs (spN hs mtu) (spN hs mtu / 8 * 8) (hdG g id) body.length (hdG g id).off body
theorem gives_any {f : F6} {g : G6} {vh vb : Value} {hs : Opts} {body : List Int} {mtu id : Int} {pv pm pi : Nat} {R : Nat → Prop} {w : World} (h : ItW f g vh vb hs body mtu id pv pm pi R w) :
    GivesP Try.prog 44 #[.pointer (some ⟨pv, 0, none⟩), .pointer (some ⟨pm, 0, none⟩), .pointer (some ⟨pi, 0, none⟩)] (fragP f hs g body mtu id).1.length (FragX f vh hs (fragP f hs g body mtu id).1) R w (fragP f hs g body mtu id).2 := by
  unfold fragP
  by_cases h1 : fitE f hs g body.length mtu ≠ 0
  · rw [if_pos h1]
    exact gives_no h h1 [] rfl
  rw [if_neg h1]
  have h1 : fitE f hs g body.length mtu = 0 := by simpa using h1
  by_cases h2 : fitB hs g body.length mtu = true
  · rw [if_pos h2]
    exact gives_fits h h1 h2 _ rfl
  rw [if_neg h2]
  have h2 : fitB hs g body.length mtu = false := by simpa using h2
  by_cases h3 : g.more = true ∧ body.length % 8 ≠ 0
  · rw [if_pos h3]
    exact gives_arg h h1 h2 h3.1 h3.2 [] rfl
  rw [if_neg h3]
  by_cases h4 : mtu < (ahead6 hs true : Int) + 8
  · rw [if_pos h4]
    exact gives_space h h1 h2 h3 h4 [] rfl
  rw [if_neg h4]
  exact gives_loop h h1 h2 h3 (spN hs mtu) _ (by unfold spN; omega) (by unfold spN; omega) rfl (hdG g id) rfl _ _ ⟨rfl, rfl⟩
set_option maxHeartbeats 1000000 in
set_option maxRecDepth 100000 in
theorem fragments_calls (f : F6) (g : G6) (vh vb : Value) (mtu id : Int) (w : World) :
    Calls Try.prog 24 #[VV f g vh vb, .int .i64 mtu, .int .u32 id] w fun e w' => e = .returned (.func (.func 44) #[] #[.pointer (some ⟨w.heap.size, 0, none⟩), .pointer (some ⟨w.heap.size + 1, 0, none⟩), .pointer (some ⟨w.heap.size + 1 + 1, 0, none⟩)]) ∧ (w'.heap[w.heap.size]? = some (BV f g vh vb) ∧ w'.heap[w.heap.size + 1]? = some (.cells [.int .i64 mtu].toArray 3) ∧ w'.heap[w.heap.size + 1 + 1]? = some (.cells [.int .u32 id].toArray 22)) ∧ Below w.heap.size w w' ∧ w'.heap.size = w.heap.size + 3 := by
  have h0 := blk_alloc (blk_alloc (blk_new w (BV f g vh vb)) (.cells [.int .i64 mtu].toArray 3)) (.cells [.int .u32 id].toArray 22)
  have h1 := blk_alloc (blk_new (w.alloc (BV f g vh vb)) (.cells [.int .i64 mtu].toArray 3)) (.cells [.int .u32 id].toArray 22)
  rw [show (w.alloc (BV f g vh vb)).heap.size = w.heap.size + 1 by simp] at h1
  have h2 := blk_new ((w.alloc (BV f g vh vb)).alloc (.cells [.int .i64 mtu].toArray 3)) (.cells [.int .u32 id].toArray 22)
  rw [show ((w.alloc (BV f g vh vb)).alloc (.cells [.int .i64 mtu].toArray 3)).heap.size = w.heap.size + 1 + 1 by simp] at h2
  have hB := (((Below.refl w.heap.size w).alloc (Nat.le_refl _) (BV f g vh vb)).alloc (by simp) (.cells [.int .i64 mtu].toArray 3)).alloc (by simp; omega) (.cells [.int .u32 id].toArray 22)
  have hs : (((w.alloc (BV f g vh vb)).alloc (.cells [.int .i64 mtu].toArray 3)).alloc (.cells [.int .u32 id].toArray 22)).heap.size = w.heap.size + 3 := by simp
  have H1 : Hid _ := And.intro h0 (And.intro h1 h2)
  have HB : Hid _ := hB
  have HS : Hid _ := hs
  clear h0 h1 h2 hB hs
  go_enter Try.func24, Try.ntmps24
  go_wp2
  go_ret
  exact ⟨rfl, H1.out, HB.out, HS.out⟩
def flatV (f : F6) : List FG → List (Value × Value) → List Value
  | g :: L, p :: ps => vC f g.g p.1 p.2 ++ flatV f L ps
  | _, _ => []
theorem flatV_push (f : F6) (g : FG) (p : Value × Value) : ∀ (L : List FG) (ps : List (Value × Value)), ps.length = L.length → flatV f (L ++ [g]) (ps ++ [p]) = flatV f L ps ++ vC f g.g p.1 p.2
  | [], [], _ => by simp [flatV]
  | [], _ :: _, h => by simp at h
  | _ :: _, [], h => by simp at h
  | x :: L, q :: ps, h => by
    simp only [List.cons_append, flatV, flatV_push f g p L ps (by simpa using h), List.append_assoc]
theorem flatV_at (f : F6) : ∀ (L : List FG) (ps : List (Value × Value)) (j : Nat) (g : FG) (p : Value × Value), L[j]? = some g → ps[j]? = some p → ∀ i u, (vC f g.g p.1 p.2)[i]? = some u → (flatV f L ps)[j * 42 + i]? = some u
  | [], _, j, g, p, h, _, i, u, _ => by simp at h
  | _ :: _, [], j, g, p, _, h, i, u, _ => by simp at h
  | x :: L, q :: ps, 0, g, p, hg, hp, i, u, hu => by
    simp at hg hp
    subst hg hp
    have hi := (List.getElem?_eq_some_iff.1 hu).1
    simp only [flatV, Nat.zero_mul, Nat.zero_add]
    rw [List.getElem?_append_left hi]
    exact hu
  | x :: L, q :: ps, j + 1, g, p, hg, hp, i, u, hu => by
    simp only [List.getElem?_cons_succ] at hg hp
    simp only [flatV]
    have hl : (vC f x.g q.1 q.2).length = 42 := vC_len
    rw [List.getElem?_append_right (by omega), hl, show (j + 1) * 42 + i - 42 = j * 42 + i by omega]
    exact flatV_at f L ps j g p hg hp i u hu
/-- A row of datagrams of one's own, their bytes in blocks of S. -/
structure RowV (f : F6) (hs : Opts) (base : Nat) (S : Nat → Prop) (w : World) (v : Value) (L : List FG) : Prop where
  own : ∃ ps : List (Value × Value), ps.length = L.length ∧ w.ownsRow base 28 42 v L.length (flatV f L ps) ∧ ∀ (j : Nat) (g : FG) (p : Value × Value), L[j]? = some g → ps[j]? = some p → D6 S w f p.1 p.2 hs g.body
theorem infoV : ∃ i, Try.prog.info? 28 = some i ∧ i.zero = some (.agg zeroV.toArray) ∧ i.size = 42 ∧ i.bytes = 120 := by
  have h : (Try.prog.info? 28).map (fun i => (i.zero, i.size, i.bytes)) = some (some (.agg zeroV.toArray), 42, 120) := by kernel_rfl
  obtain ⟨i, hi, e⟩ := Option.map_eq_some_iff.1 h
  simp only [Prod.mk.injEq] at e
  exact ⟨i, hi, e.1, e.2.1, e.2.2⟩
section
variable {f : F6} {hs : Opts} {base : Nat} {S S' O : Nat → Prop} {w w' : World} {v : Value} {L : List FG}
theorem RowV.lt (h : RowV f hs base S w v L) {b : Nat} (hb : v.ownBlock = some b) : base ≤ b ∧ b < w.heap.size := by
  obtain ⟨ps, _, ho, _⟩ := h
  exact own_lt ho hb
theorem RowV.slc (h : RowV f hs base S w v L) : ∃ a c, v = .slice a L.length c := by
  obtain ⟨ps, _, ho, _⟩ := h
  rcases ho.2 with ⟨rfl, h0⟩ | ⟨g, cap, cur, rfl, _⟩
  · rw [h0]; exact ⟨_, _, rfl⟩
  · exact ⟨_, _, rfl⟩
theorem RowV.sep (h : RowV f hs base S w v L) (hs' : Sep O w w') (hS : ∀ b, S b → ¬ O b) (hv : ∀ b, v.ownBlock = some b → ¬ O b) : RowV f hs base S w' v L := by
  obtain ⟨ps, hl, ho, hb⟩ := h
  exact ⟨ps, hl, own_same ho (fun b hb => hs'.same b (own_lt ho hb).2 (hv b hb)), fun j g p hg hp => (hb j g p hg hp).sep hs' hS⟩
theorem RowV.on (h : RowV f hs base S w v L) (hb : Below w.heap.size w w') : RowV f hs base S w' v L :=
  h.sep (O := fun _ => False) (Sep.of_below hb) (fun _ _ h => h) (fun _ _ h => h)
theorem RowV.mono (h : RowV f hs base S w v L) (hS : ∀ b, b < w.heap.size → S b → S' b) : RowV f hs base S' w v L := by
  obtain ⟨ps, hl, ho, hb⟩ := h
  exact ⟨ps, hl, ho, fun j g p hg hp => (hb j g p hg hp).mono hS⟩
theorem RowV.nil (f : F6) (hs : Opts) (base : Nat) (S : Nat → Prop) (w : World) : RowV f hs base S w (.slice none 0 0) [] := ⟨[], rfl, ⟨rfl, .inl ⟨rfl, rfl⟩⟩, fun j g p h => by simp at h⟩
theorem RowV.push (h : RowV f hs base S w v L) (hS : ∀ b, S b → v.ownBlock ≠ some b) (hb : base ≤ w.heap.size) (hl : L.length ≤ 100000) (g : FG) {so sb : Value} (hd : D6 S w f so sb hs g.body) (ty : TypeId) :
    ∃ v' w', (Builtin.append_ #[29, 29] ty #[v, .slice (some ⟨w.heap.size, 0, none⟩) 1 1]).run Try.prog (w.alloc (BV f g.g so sb)) = .ok v' w' ∧ RowV f hs base S w' v' (L ++ [g]) ∧ Sep (fun b => v.ownBlock = some b) w w' ∧ (v'.ownBlock = v.ownBlock ∨ v'.ownBlock = some (w.heap.size + 1)) := by
  obtain ⟨i, hi, hz, hsz, hby⟩ := infoV
  obtain ⟨ps, hpl, ho, hbs⟩ := h
  have hB1 := (Below.refl w.heap.size w).alloc (Nat.le_refl _) (BV f g.g so sb)
  have ho1 : (w.alloc (BV f g.g so sb)).ownsRow base 28 42 v L.length (flatV f L ps) := own_same ho (fun b hb' => hB1.block b (own_lt ho hb').2)
  obtain ⟨v', w', hrun, hown, hgr, _, hat⟩ := run_append_own_at (P := Try.prog) (w.alloc (BV f g.g so sb)) base 29 ty 28 i (.agg zeroV.toArray) 42 120 Try.underlying29 hi hz hsz hby rfl (by decide) v L.length (flatV f L ps) ho1 ⟨w.heap.size, 0, none⟩ 1 1 (vC f g.g so sb) (by rw [vC_len])
    (fun j u hj => by
      rw [Go.WideShapes.add_plain]
      have := CellsAt.of_blk (blk_new w (BV f g.g so sb)) j u hj
      simpa using this) (vC_one hd.hd.one hd.bd.one) (by unfold maxLen; omega) (by omega) (by simp; omega)
  have hs1 : Sep (fun b => v.ownBlock = some b) (w.alloc (BV f g.g so sb)) w' := ⟨hgr.os, hgr.tape, hgr.output, hgr.size, fun b hb' hn => hgr.block b hb' (fun e => hn e.symm)⟩
  have hsep : Sep (fun b => v.ownBlock = some b) w w' := (Sep.of_below hB1).trans hs1
  refine ⟨v', w', hrun, ⟨ps ++ [(so, sb)], by simp [hpl], ?_, fun j g' p' hg hp => ?_⟩, hsep, by rw [World.size_alloc] at hat; exact hat⟩
  · rw [flatV_push f g (so, sb) L ps hpl, List.length_append]
    exact hown
  · by_cases hj : j < L.length
    · rw [List.getElem?_append_left hj] at hg
      rw [List.getElem?_append_left (by omega)] at hp
      exact (hbs j g' p' hg hp).sep hsep (fun b hb' e => hS b hb' e)
    · have hjl := (List.getElem?_eq_some_iff.1 hg).1
      simp at hjl
      obtain rfl : j = L.length := by omega
      rw [List.getElem?_append_right (Nat.le_refl _), Nat.sub_self] at hg
      rw [List.getElem?_append_right (by omega), hpl, Nat.sub_self] at hp
      simp at hg hp
      subst hg hp
      exact hd.sep hsep (fun b hb' e => hS b hb' e)
end
/-- The datagrams of a row, cell by cell. -/
theorem RowV.at {f : F6} {hs : Opts} {base : Nat} {S : Nat → Prop} {w : World} {v : Value} {L : List FG} (h : RowV f hs base S w v L) {j : Nat} {g : FG} (hg : L[j]? = some g) :
    ∃ b c so sb, v = .slice (some ⟨b, 0, none⟩) L.length c ∧ b < w.heap.size ∧ base ≤ b ∧ CellsAt w b (j * 42) (vC f g.g so sb) ∧ D6 S w f so sb hs g.body := by
  obtain ⟨ps, hl, ho, hb⟩ := h
  have hjl := (List.getElem?_eq_some_iff.1 hg).1
  obtain ⟨p, hp⟩ : ∃ p, ps[j]? = some p := ⟨ps[j]'(by omega), by simp⟩
  rcases ho.2 with ⟨_, h0⟩ | ⟨b, c, cur, rfl, h1, h2, h3⟩
  · omega
  · refine ⟨b, c, p.1, p.2, rfl, (Array.getElem?_eq_some_iff.1 h2).1, h1, fun i u hu => ?_, hb j g p hg hp⟩
    have := ho.cells (g := b) rfl (j * 42 + i) u (flatV_at f L ps j g p hg hp i u hu)
    rw [Go.WideShapes.add_plain] at this
    simpa using this

end Go.Proofs.Ytcllcinekohklaa
