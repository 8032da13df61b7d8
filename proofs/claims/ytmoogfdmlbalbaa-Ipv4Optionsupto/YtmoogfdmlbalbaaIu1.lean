/-
  What the bytes of a written datagram say: plain.
-/
import Derived.Test.YtmoogfdmlbalbaaIr12
import Derived.Test.YtmoogfdmlbalbaaIp10
import Derived.Test.YtmoogfdmlbalbaaIp16
namespace Go.Proofs.Ytmoogfdmlbalbaa
open Go Go.RowKit Go.ChangeShapes Go.WideShapes Go.ChangeAt
set_option linter.unusedVariables false
set_option linter.unusedSimpArgs false

section
variable {tos id : Int} {df mf : Bool} {off ttl proto s0 s1 s2 s3 d0 d1 d2 d3 sm : Int} {opts body : List Int} {all : Nat}
theorem cut_df (ho : 0 ≤ off ∧ off ≤ 8191) : decide (cutW off df mf / 256 / 64 % 2 = 1) = df := by
  unfold cutW
  cases df <;> cases mf <;> simp <;> omega
theorem cut_mf (ho : 0 ≤ off ∧ off ≤ 8191) : decide (cutW off df mf / 256 / 32 % 2 = 1) = mf := by
  unfold cutW
  cases df <;> cases mf <;> simp <;> omega
theorem cut_off (ho : 0 ≤ off ∧ off ≤ 8191) : cutW off df mf / 256 % 32 * 256 + cutW off df mf % 256 = off := by
  unfold cutW
  cases df <;> cases mf <;> simp <;> omega
theorem rhd_head (hn : opts.length ≤ 40) (h4 : opts.length % 4 = 0) : pHead (rhd (20 + opts.length) all tos id (cutW off df mf) ttl proto s0 s1 s2 s3 d0 d1 d2 d3 sm opts ++ body) = ((20 + opts.length : Nat) : Int) := by
  show (64 + ((20 + opts.length : Nat) : Int) / 4) % 16 * 4 = _
  omega
theorem rhd_ver (hn : opts.length ≤ 40) : gz (rhd (20 + opts.length) all tos id (cutW off df mf) ttl proto s0 s1 s2 s3 d0 d1 d2 d3 sm opts ++ body) 0 / 16 = 4 := by
  show (64 + ((20 + opts.length : Nat) : Int) / 4) / 16 = 4
  omega
theorem rhd_all : pAll (rhd (20 + opts.length) all tos id (cutW off df mf) ttl proto s0 s1 s2 s3 d0 d1 d2 d3 sm opts ++ body) = (all : Int) := by
  show (all : Int) / 256 * 256 + (all : Int) % 256 = all
  omega
theorem rhd_opts : ((rhd (20 + opts.length) all tos id (cutW off df mf) ttl proto s0 s1 s2 s3 d0 d1 d2 d3 sm opts ++ body).drop 20).take opts.length = opts := by
  show ((opts ++ body).drop 0).take opts.length = opts
  simp
theorem rhd_body : (rhd (20 + opts.length) all tos id (cutW off df mf) ttl proto s0 s1 s2 s3 d0 d1 d2 d3 sm opts ++ body).drop (20 + opts.length) = body := by
  rw [List.drop_append_of_le_length (by rw [rhd_length]; omega), List.drop_of_length_le (by rw [rhd_length]; omega)]
  rfl
theorem rhd_says (hn : opts.length ≤ 40) (h4 : opts.length % 4 = 0) (ho : 0 ≤ off ∧ off ≤ 8191) {W : World} {c : List Value}
    (h : SaysD (rhd (20 + opts.length) all tos id (cutW off df mf) ttl proto s0 s1 s2 s3 d0 d1 d2 d3 sm opts ++ body) W c) : Dgram W c tos id df mf off ttl proto s0 s1 s2 s3 d0 d1 d2 d3 opts body := by
  unfold SaysD at h
  rw [rhd_head hn h4, show (((20 + opts.length : Nat) : Int)).toNat = 20 + opts.length by omega, show 20 + opts.length - 20 = opts.length by omega, rhd_opts, rhd_body] at h
  have e1 : id / 256 * 256 + id % 256 = id := by omega
  have e2 := cut_df (df := df) (mf := mf) ho
  have e3 := cut_mf (df := df) (mf := mf) ho
  have e4 := cut_off (df := df) (mf := mf) ho
  have h' : Dgram W c tos (id / 256 * 256 + id % 256) (decide (cutW off df mf / 256 / 64 % 2 = 1)) (decide (cutW off df mf / 256 / 32 % 2 = 1)) (cutW off df mf / 256 % 32 * 256 + cutW off df mf % 256) ttl proto s0 s1 s2 s3 d0 d1 d2 d3 opts body := h
  rwa [e1, e2, e3, e4] at h'
/-- Of the sum of words: it is 65535 where it is a multiple and not 0. -/
theorem sumW_pos : ∀ (xs : List Int) (s : Int), Words xs → 0 < s → 0 < sumW s xs
  | [], s, _, h => h
  | x :: r, s, hw, h => by
    have hx := hw x (by simp)
    refine sumW_pos r (addW s x) (fun z hz => hw z (by simp [hz])) ?_
    unfold addW
    split <;> omega
end
theorem chk_zero4 {off : Int} {no nb : Nat} (hk : chk off no nb = 0) : no % 4 = 0 := by
  unfold chk badV longV at hk
  by_cases h : no % 4 = 0
  · exact h
  · simp [h] at hk
/-- A new box with a datagram in it, its block told. -/
theorem box17k (w : World) (V : List Value) (hV : V.length = 17 ∧ ∀ v ∈ V, v.oneCell' = true) :
    ∃ w3, (Instr.storeAt 27 (.pointer (some ⟨w.heap.size, 0, none⟩)) (.agg V.toArray)).run Try.prog (w.alloc (.cells zeroC.toArray 27)) = .ok () w3 ∧ w3.heap[w.heap.size]? = some (.cells V.toArray 27) ∧ Below w.heap.size w w3 ∧ w.heap.size < w3.heap.size := by
  have hb := blk_new w (.cells zeroC.toArray 27)
  have hs : ∀ j, j < V.length → ((w.alloc (.cells zeroC.toArray 27)).cell? ⟨w.heap.size, 0 + j, none⟩).isSome = true := fun j hj => by
    have hj' : j < zeroC.length := by have := hV.1; simp only [zeroC, List.length_cons, List.length_nil]; omega
    rw [Nat.zero_add, blk_cell hb (List.getElem?_eq_getElem hj')]
    rfl
  have hO : Only w.heap.size (w.alloc (.cells zeroC.toArray 27)) ((w.alloc (.cells zeroC.toArray 27)).setCells w.heap.size 0 V) := Only.sets _ _ _ (Only.refl _ _)
  have hk := blk_sets V 0 zeroC _ hb
  rw [setsL_all zeroC V (by rw [hV.1]; rfl)] at hk
  exact ⟨_, agg_store Try.sizeOf27 hV.1 hV.2 hs (blk_open hb), hk, ((Below.refl _ w).alloc (Nat.le_refl _) _).trans ((hO.below (Nat.le_refl _)).mono (by simp)), by rw [hO.size]; simp⟩
/-- A row of one's own, as bytes to be read. -/
theorem OwnG.row {w : World} {g : Nat} {zs : List Int} (h : OwnG w g zs) (hf : Fit zs) (hl : zs.length ≤ 65535) (n cap : Nat) (hn : n ≤ zs.length) (hc : n ≤ cap) : RowC w (.slice (some ⟨g, 0, none⟩) n cap) (zs.take n) := by
  have e : (zs.take n).length = n := by simp; omega
  refine ⟨fun z hz => hf z (List.mem_of_mem_take hz), by omega, _, cap, by rw [e], by omega, .inr ⟨g, 0, rfl, h.lt, fun j hj => ?_⟩⟩
  rw [e] at hj
  rw [Nat.zero_add, h.cell j (by omega), List.getElem?_take, if_pos hj]
theorem wrL_fit {w : World} {c : List Value} {tos id : Int} {df mf : Bool} {off ttl proto s0 s1 s2 s3 d0 d1 d2 d3 : Int} {opts body : List Int} (h : Dgram w c tos id df mf off ttl proto s0 s1 s2 s3 d0 d1 d2 d3 opts body) (hk : chk off opts.length body.length = 0) :
    ∃ sm, wrL tos id df mf off ttl proto s0 s1 s2 s3 d0 d1 d2 d3 opts body = rhd (20 + opts.length) (20 + opts.length + body.length) tos id (cutW off df mf) ttl proto s0 s1 s2 s3 d0 d1 d2 d3 sm opts ++ body ∧ sm = 65535 - sumW 0 (wordsL (rhd (20 + opts.length) (20 + opts.length + body.length) tos id (cutW off df mf) ttl proto s0 s1 s2 s3 d0 d1 d2 d3 0 opts)) ∧ 0 ≤ sm ∧ sm ≤ 65535 ∧ Fit (rhd (20 + opts.length) (20 + opts.length + body.length) tos id (cutW off df mf) ttl proto s0 s1 s2 s3 d0 d1 d2 d3 sm opts ++ body) := by
  obtain ⟨hno, hnb, ho⟩ := chk_zero hk
  have hcw := cutW_range off df mf ho
  obtain ⟨so, sb, hc, hso, hsb⟩ := h.cells
  have hf0 := fun sm (hm : 0 ≤ sm ∧ sm ≤ 65535) => rhd_fit (size := 20 + opts.length) (all := 20 + opts.length + body.length) (sm := sm) (by omega) hnb h.ft h.hid hcw h.fl h.fp h.fs h.fd hso.fit hm
  have hrg := sumW_range (wordsL (rhd (20 + opts.length) (20 + opts.length + body.length) tos id (cutW off df mf) ttl proto s0 s1 s2 s3 d0 d1 d2 d3 0 opts)) 0 (by decide) (wordsL_words (hf0 0 (by decide)))
  refine ⟨_, by rw [wr_same]; rfl, rfl, by omega, by omega, ?_⟩
  intro z hz
  rcases List.mem_append.1 hz with hz | hz
  · exact hf0 _ (by omega) z hz
  · exact hsb.fit z hz

/-- Slices that come in within a datagram have room for what they hold. -/
theorem v4_room {H : Type} {enc : TypeId × Value → H} {W : World} {c : List Value} {d : DataW H} {p : List MemPlace} (h : DataW.Trod enc Try.prog W 0 (fun _ => true) true 27 (.agg c.toArray) d p) (j : Nat) (hj : j = 15 ∨ j = 16) :
    ∃ a n k, c[j]? = some (.slice a n k) ∧ n ≤ k ∧ (a = none → k = 0) := by
  obtain ⟨fuel, hf⟩ := h
  obtain ⟨xs, m, _, hx, hl, hxl, hi⟩ := DataW.trod_struct Try.underlying27 hf
  obtain ⟨x0, x1, x2, x3, x4, x5, x6, x7, x8, x9, x10, rfl⟩ := list11 hxl
  have g : ∃ x, DataW.trod enc Try.prog W 0 (fun _ => true) true m 25 ((c.drop j).take 1) = some x := by
    rcases hj with rfl | rfl
    · have e : DataW.trod enc Try.prog W 0 (fun _ => true) true m 25 ((c.drop 15).take (Try.prog.cellsOf 25)) = some x9 := hi 9 _ rfl
      rw [show Try.prog.cellsOf 25 = 1 by kernel_rfl] at e
      exact ⟨_, e⟩
    · have e : DataW.trod enc Try.prog W 0 (fun _ => true) true m 25 ((c.drop 16).take (Try.prog.cellsOf 25)) = some x10 := hi 10 _ rfl
      rw [show Try.prog.cellsOf 25 = 1 by kernel_rfl] at e
      exact ⟨_, e⟩
  obtain ⟨x, g⟩ := g
  have at1 : ∀ v, (c.drop j).take 1 = [v] → c[j]? = some v := fun v e => by
    have := congrArg (fun l => l[0]?) e
    simpa [List.getElem?_take, List.getElem?_drop] using this
  rcases open_ints Try.underlying25 Try.underlying5 (by kernel_rfl) g with ⟨e, _⟩ | ⟨a, len, cap, zs, e, _, hl, _⟩
  · exact ⟨none, 0, 0, at1 _ e, Nat.le_refl _, fun _ => rfl⟩
  · exact ⟨some a, len, cap, at1 _ e, hl, fun h => by cases h⟩
theorem BytesAt.front {n₀ : Nat} {W : World} {a : Option Addr} {m k : Nat} {zs : List Int} (h : BytesAt n₀ W (.slice a m k) zs) (N : Nat) (hN : N ≤ zs.length) : BytesAt n₀ W (.slice a N k) (zs.take N) := by
  obtain ⟨hf, hl, a', k', e, hz⟩ := h
  cases e
  have e : (zs.take N).length = N := by rw [List.length_take]; omega
  refine ⟨fun z hz => hf z (List.mem_of_mem_take hz), by omega, a, k, by rw [e], ?_⟩
  rcases hz with hz | ⟨b, off, rfl, hlt, hc⟩
  · left; omega
  · right
    refine ⟨b, off, rfl, hlt, fun j hj => ?_⟩
    rw [e] at hj
    rw [hc j (by omega), List.getElem?_take, if_pos hj]

end Go.Proofs.Ytmoogfdmlbalbaa
