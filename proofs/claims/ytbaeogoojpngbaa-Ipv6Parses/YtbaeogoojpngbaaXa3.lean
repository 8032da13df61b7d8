/-
  Size of package ipv6; the document's heads.
-/
import Derived.Test.YtbaeogoojpngbaaXa2
namespace Go.Proofs.Ytbaeogoojpngbaa
open Go Go.RowKit
set_option linter.unusedVariables false
set_option linter.unusedSimpArgs false

theorem headsB_tot {hs : Opts} (hb : headsB hs) (k : Nat) (hk : k ≤ hs.length) : oTot hs k ≤ 100000 := by
  have := allH_tot (hs := hs) (k := k) (fun j hj => hb.2 j (by omega))
  have := hb.1
  omega
theorem ahead6_int (hs : Opts) (fr : Bool) : (40 + (oTot hs hs.length : Int) + (if fr = true then 8 else 0)) = (ahead6 hs fr : Int) := by
  unfold ahead6
  split <;> simp
theorem ahead6_le {hs : Opts} (fr : Bool) (hb : headsB hs) : 40 ≤ ahead6 hs fr ∧ ahead6 hs fr ≤ 100000 := by
  have := allH_tot (hs := hs) (k := hs.length) hb.2
  have := hb.1
  unfold ahead6
  split <;> omega
theorem Chk6.zero {lab : Int} {hs : Opts} {fr : Bool} {id off : Int} {more : Bool} {proto : Int} {nb : Nat} (h : Chk6 lab hs fr id off more proto nb 0) : ok6 lab hs fr id off more proto ∧ ahead6 hs fr + nb ≤ 65535 + 40 := by
  rcases h with ⟨a, h⟩ | ⟨a, b, h⟩ | ⟨a, b, h⟩
  · omega
  · omega
  · exact ⟨a, b⟩

section
variable {c : List Value} {cls lab hop : Int} {vh : Value} {fr : Bool} {id off : Int} {more : Bool} {proto : Int} {vb : Value}
set_option maxHeartbeats 1000000 in
set_option maxRecDepth 100000 in
theorem Size_calls (w : World) (h : L6 c cls lab hop vh fr id off more proto vb) (hs : Opts) (hh : OptsAt w.heap.size w vh hs) (body : List Int) (hbd : BytesAt w.heap.size w vb body) (hlab : 0 ≤ lab ∧ lab ≤ 4294967295) :
    Calls Try.prog 10 #[.agg c.toArray] w fun e w' => ∃ er, e = .returned (.tuple #[.int .i64 (if er = 0 then ahead6 hs fr + body.length else 0), .int .i64 (if er = 0 then ahead6 hs fr else 0), .int .i64 er]) ∧ Chk6 lab hs fr id off more proto body.length er ∧ Below w.heap.size w w' := by
  have hb0 := blk_new w (.cells c.toArray 28)
  have hB0 := (Below.refl w.heap.size w).alloc (Nat.le_refl _) (.cells c.toArray 28)
  generalize hW0 : w.alloc (.cells c.toArray 28) = W0 at *
  have hLA : ∀ x : Hi W0, (Instr.loadAt 28 (.pointer (some ⟨w.heap.size, 0, none⟩))).run Try.prog x.W = .ok (.agg c.toArray) x.W := fun x => agg_load Try.isAgg28 Try.sizeOf28 h.len (CellsAt.of_blk (Hi.blk hb0 x))
  have K41 : Hid (∀ x : Hi W0, x.W.cell? ⟨w.heap.size, 41, none⟩ = some vb) := fun x => blk_cell (Hi.blk hb0 x) h.c41
  have HLA : Hid _ := hLA
  have HL0 : Hid ((Instr.loadAt 28 (.pointer (some ⟨w.heap.size, 0, none⟩))).run Try.prog W0 = .ok (.agg c.toArray) W0) := hLA (Hi.refl _)
  have HCK : Hid (∀ x : Hi W0, _) := fun x => Check_calls x.W h hs (hh.later (hB0.trans (x.below.mono hB0.size))) body (hbd.later (hB0.trans (x.below.mono hB0.size))) hlab
  have HAH : Hid (headsB hs → ∀ x : Hi W0, _) := fun hb x => ahead_calls x.W h hs (hh.later (hB0.trans (x.below.mono hB0.size))) (headsB_tot hb)
  have HBW : Hid (∀ x : Hi W0, Below w.heap.size w x.W) := fun x => hB0.trans (x.below.mono hB0.size)
  obtain ⟨_, hbl, ba, bc, rfl, _⟩ := hbd
  clear hb0 hLA hh h
  go_enter Try.func10, Try.ntmps10
  go_wp2_with ((with_reducible show wpList _ _ _ _ _ _); refine arm_load rfl (.tmp 1) 28 rfl rfl HL0.out ?_)
  refine Calls.mono (HCK.out (Hi.refl _)) ?_
  rintro _ w1 ⟨er, rfl, hck, hb1⟩
  by_cases h0 : er = 0
  · subst h0
    obtain ⟨hok, hle⟩ := hck.zero
    have HCE : Hid (ok6 lab hs fr id off more proto ∧ ahead6 hs fr + body.length ≤ 65535 + 40) := ⟨hok, hle⟩
    obtain ⟨x1, rfl⟩ : ∃ x : Hi W0, w1 = x.W := ⟨(Hi.refl _).more hb1, rfl⟩
    have hA := ahead6_le fr hok.2.1
    have ha := HAH.out hok.2.1
    rw [ahead6_int] at ha
    have HA : Hid _ := ha
    have k41 := K41.out
    have v1 : IntKind.i64.wrap ((ahead6 hs fr : Int) + body.length) = ahead6 hs fr + body.length := wrapi64 _ (by omega)
    clear ha hck hok HAH HCK hb1 HL0 K41
    go_wp2_with ((with_reducible show wpList _ _ _ _ _ _); refine arm_load rfl (.tmp 1) 28 rfl rfl (HLA.out _) ?_)
    refine Calls.mono (Hi.calls (HA.out _)) ?_
    rintro _ _ ⟨rfl, x2, rfl⟩
    go_wp2
    go_ret3
    exact ⟨0, by simp, .inr (.inr ⟨HCE.out.1, HCE.out.2, rfl⟩), HBW.out _⟩
  · have q : (er != 0) = true := by simp [h0]
    have HCE : Hid _ := hck
    clear hck
    go_wp2_with fail
    go_ret3
    exact ⟨er, by simp [h0], HCE.out, HBW.out ((Hi.refl _).more hb1)⟩
end

end Go.Proofs.Ytbaeogoojpngbaa
