/-
  What is written is read, plainly: the bytes of an IPv6 datagram come back as it.
-/
import Derived.Test.YtbaeogoojpngbaaYd
namespace Go.Proofs.Ytbaeogoojpngbaa
open Go Go.RowKit
set_option linter.unusedVariables false
set_option linter.unusedSimpArgs false

def hd1 (hs : Opts) (fr : Bool) (proto : Int) (k : Nat) : List Int := [nx6 hs fr proto (k + 1), (((2 + (oD hs k).length) / 8 - 1 : Nat) : Int)] ++ oD hs k
def hdsT (hs : Opts) (fr : Bool) (proto : Int) : Nat → Nat → List Int
  | _, 0 => []
  | j, m + 1 => hd1 hs fr proto j ++ hdsT hs fr proto (j + 1) m
theorem hdsT_eq (hs : Opts) (fr : Bool) (proto : Int) : ∀ m j, hdsL hs fr proto j ++ hdsT hs fr proto j m = hdsL hs fr proto (j + m)
  | 0, j => by simp [hdsT]
  | m + 1, j => by
    have h := hdsT_eq hs fr proto m (j + 1)
    rw [show j + (m + 1) = j + 1 + m by omega, ← h, hdsT, hdsL, hd1]
    simp
theorem hdsL_T (hs : Opts) (fr : Bool) (proto : Int) (k : Nat) : hdsL hs fr proto k = hdsT hs fr proto 0 k := by
  have h := hdsT_eq hs fr proto k 0
  rw [Nat.zero_add] at h
  rw [← h, hdsL]
  rfl
theorem gz_app0 (a b : Int) (l r : List Int) : gz (([a, b] ++ l) ++ r) 0 = a := rfl
theorem gz_app1 (a b : Int) (l r : List Int) : gz (([a, b] ++ l) ++ r) 1 = b := rfl
theorem take_snoc (hs : Opts) {j : Nat} (hj : j < hs.length) : hs.take j ++ [(oK hs j, oD hs j)] = hs.take (j + 1) := by
  rw [List.take_add_one]
  unfold oK oD
  rw [List.getElem?_eq_getElem hj]
  rfl
theorem rdH_one (hs : Opts) (fr : Bool) (proto : Int) {j n at' : Nat} (R : List Int) (hj : j < hs.length) (h8 : hs.length ≤ 8) (hk : headOk hs j = true) :
    rdH (n + 1) (hd1 hs fr proto j ++ R) at' (nx6 hs fr proto j) (hs.take j) = rdH n R (at' + (2 + (oD hs j).length)) (nx6 hs fr proto (j + 1)) (hs.take (j + 1)) := by
  unfold headOk at hk
  simp only [Bool.and_eq_true, decide_eq_true_eq] at hk
  obtain ⟨⟨hkb, hm⟩, hle⟩ := hk
  have hih : isH (oK hs j) = true := by unfold kindB at hkb; simp only [Bool.and_eq_true] at hkb; exact hkb.1
  have hnx : nx6 hs fr proto j = oK hs j := by unfold nx6; rw [if_pos hj]
  have hsz : szH (hd1 hs fr proto j ++ R) = 2 + (oD hs j).length := by
    unfold szH hd1
    rw [gz_app1]
    omega
  have hlen : (hd1 hs fr proto j ++ R).length = 2 + (oD hs j).length + R.length := by simp [hd1]; omega
  have htl : (hs.take j).length = j := by rw [List.length_take]; omega
  have hg0 : gz (hd1 hs fr proto j ++ R) 0 = nx6 hs fr proto (j + 1) := by unfold hd1; rw [gz_app0]
  have hl1 : (hd1 hs fr proto j).length = 2 + (oD hs j).length := by simp [hd1]; omega
  have hdr : (hd1 hs fr proto j ++ R).drop (2 + (oD hs j).length) = R := by rw [← hl1, List.drop_left]
  have htk : ((hd1 hs fr proto j ++ R).take (2 + (oD hs j).length)).drop 2 = oD hs j := by rw [← hl1, List.take_left]; rfl
  rw [rdH, hnx, if_pos hih, hsz, if_neg (by omega), if_neg (by omega), htl, if_pos ⟨by omega, hkb⟩, hdr, hg0, htk, take_snoc hs hj]
theorem rdH_all (hs : Opts) (fr : Bool) (proto : Int) (R : List Int) (h8 : hs.length ≤ 8) (ha : allH hs hs.length) : ∀ m j n at', j + m = hs.length → ∃ at2, rdH (n + m) (hdsT hs fr proto j m ++ R) at' (nx6 hs fr proto j) (hs.take j) = rdH n R at2 (nx6 hs fr proto hs.length) hs
  | 0, j, n, at', h => ⟨at', by
    have : j = hs.length := by omega
    subst this
    simp [hdsT]⟩
  | m + 1, j, n, at', h => by
    obtain ⟨at2, e⟩ := rdH_all hs fr proto R h8 ha m (j + 1) n (at' + (2 + (oD hs j).length)) (by omega)
    refine ⟨at2, ?_⟩
    rw [hdsT, List.append_assoc, show n + (m + 1) = n + m + 1 by omega, rdH_one hs fr proto _ (by omega) h8 (ha j (by omega)), e]
/-- The bytes with any length told. -/
def wrN (f : F6) (A : List Int) (hs : Opts) (g : G6) (N : Nat) (body : List Int) : List Int :=
  frontL f A (nx6 hs g.fr f.proto 0) (N : Int) ++ hdsL hs g.fr f.proto hs.length ++ (if g.fr then fragL g.id g.off g.more f.proto else []) ++ body
theorem wrL_N (f : F6) (A : List Int) (hs : Opts) (g : G6) (body : List Int) : wrL f A hs g body = wrN f A hs g (ahead6 hs g.fr - 40 + body.length) body := rfl
section
variable {f : F6} {A : List Int} {hs : Opts} {g : G6} {N : Nat} {body : List Int}
theorem wrN_len (hA : A.length = 32) : (wrN f A hs g N body).length = ahead6 hs g.fr + body.length := by
  unfold wrN frontL
  simp only [List.length_append, List.length_cons, List.length_nil, hdsL_len, hA]
  unfold ahead6
  split <;> simp [fragL] <;> omega
theorem wrN_gz (hA : A.length = 32) (hN : N ≤ 65535) (hcl : 0 ≤ f.cls ∧ f.cls < 256) (hlb : 0 ≤ f.lab ∧ f.lab ≤ 1048575) :
    gz (wrN f A hs g N body) 0 / 16 = 6 ∧ lenN (wrN f A hs g N body) = N ∧ clsN (wrN f A hs g N body) = f.cls ∧ labN (wrN f A hs g N body) = f.lab ∧ gz (wrN f A hs g N body) 7 = f.hop ∧ gz (wrN f A hs g N body) 6 = nx6 hs g.fr f.proto 0 ∧ ((wrN f A hs g N body).drop 8).take 32 = A ∧ (wrN f A hs g N body).drop 40 = hdsL hs g.fr f.proto hs.length ++ ((if g.fr then fragL g.id g.off g.more f.proto else []) ++ body) := by
  have e : wrN f A hs g N body = [96 + f.cls / 16, f.cls % 16 * 16 + f.lab / 65536, f.lab / 256 % 256, f.lab % 256, (N : Int) / 256, (N : Int) % 256, nx6 hs g.fr f.proto 0, f.hop] ++ (A ++ (hdsL hs g.fr f.proto hs.length ++ ((if g.fr then fragL g.id g.off g.more f.proto else []) ++ body))) := by
    unfold wrN frontL
    simp only [List.append_assoc]
  rw [e]
  generalize hdsL hs g.fr f.proto hs.length ++ ((if g.fr then fragL g.id g.off g.more f.proto else []) ++ body) = T
  have g0 : ∀ (a b c d x y z u : Int) (l : List Int), gz ([a, b, c, d, x, y, z, u] ++ l) 0 = a := fun _ _ _ _ _ _ _ _ _ => rfl
  have g1 : ∀ (a b c d x y z u : Int) (l : List Int), gz ([a, b, c, d, x, y, z, u] ++ l) 1 = b := fun _ _ _ _ _ _ _ _ _ => rfl
  have g2 : ∀ (a b c d x y z u : Int) (l : List Int), gz ([a, b, c, d, x, y, z, u] ++ l) 2 = c := fun _ _ _ _ _ _ _ _ _ => rfl
  have g3 : ∀ (a b c d x y z u : Int) (l : List Int), gz ([a, b, c, d, x, y, z, u] ++ l) 3 = d := fun _ _ _ _ _ _ _ _ _ => rfl
  have g4 : ∀ (a b c d x y z u : Int) (l : List Int), gz ([a, b, c, d, x, y, z, u] ++ l) 4 = x := fun _ _ _ _ _ _ _ _ _ => rfl
  have g5 : ∀ (a b c d x y z u : Int) (l : List Int), gz ([a, b, c, d, x, y, z, u] ++ l) 5 = y := fun _ _ _ _ _ _ _ _ _ => rfl
  have g6 : ∀ (a b c d x y z u : Int) (l : List Int), gz ([a, b, c, d, x, y, z, u] ++ l) 6 = z := fun _ _ _ _ _ _ _ _ _ => rfl
  have g7 : ∀ (a b c d x y z u : Int) (l : List Int), gz ([a, b, c, d, x, y, z, u] ++ l) 7 = u := fun _ _ _ _ _ _ _ _ _ => rfl
  have d8 : ∀ (a b c d x y z u : Int) (l : List Int), ([a, b, c, d, x, y, z, u] ++ l).drop 8 = l := fun _ _ _ _ _ _ _ _ _ => rfl
  unfold lenN clsN labN
  rw [g0, g1, g2, g3, g4, g5, g6, g7]
  refine ⟨by omega, by omega, by omega, by omega, rfl, rfl, ?_, ?_⟩
  · rw [d8, ← hA, List.take_left]
  · rw [show (40 : Nat) = 8 + 32 from rfl, ← List.drop_drop, d8, ← hA, List.drop_left]
theorem frag_back (hid : 0 ≤ g.id ∧ g.id ≤ 4294967295) (ho : 0 ≤ g.off ∧ g.off ≤ 8191) (hfr : g.fr = true) (hs : Opts) (at' : Nat) (proto : Int) (body : List Int) :
    endR (.ok hs 44 (fragL g.id g.off g.more proto ++ body) at') = .ok hs g proto body := by
  have e : fragL g.id g.off g.more proto ++ body = [proto, 0, g.off / 32, g.off % 32 * 8 + (if g.more then 1 else 0), g.id / 16777216, g.id / 65536 % 256, g.id / 256 % 256, g.id % 256] ++ body := rfl
  rw [endR, if_pos rfl, e, if_neg (by simp)]
  obtain ⟨fr, id, off, more⟩ := g
  simp only at hid ho hfr ⊢
  subst hfr
  have g0 : ∀ (a b c d x y z u : Int) (l : List Int), gz ([a, b, c, d, x, y, z, u] ++ l) 0 = a := fun _ _ _ _ _ _ _ _ _ => rfl
  have g2 : ∀ (a b c d x y z u : Int) (l : List Int), gz ([a, b, c, d, x, y, z, u] ++ l) 2 = c := fun _ _ _ _ _ _ _ _ _ => rfl
  have g3 : ∀ (a b c d x y z u : Int) (l : List Int), gz ([a, b, c, d, x, y, z, u] ++ l) 3 = d := fun _ _ _ _ _ _ _ _ _ => rfl
  have g4 : ∀ (a b c d x y z u : Int) (l : List Int), gz ([a, b, c, d, x, y, z, u] ++ l) 4 = x := fun _ _ _ _ _ _ _ _ _ => rfl
  have g5 : ∀ (a b c d x y z u : Int) (l : List Int), gz ([a, b, c, d, x, y, z, u] ++ l) 5 = y := fun _ _ _ _ _ _ _ _ _ => rfl
  have g6 : ∀ (a b c d x y z u : Int) (l : List Int), gz ([a, b, c, d, x, y, z, u] ++ l) 6 = z := fun _ _ _ _ _ _ _ _ _ => rfl
  have g7 : ∀ (a b c d x y z u : Int) (l : List Int), gz ([a, b, c, d, x, y, z, u] ++ l) 7 = u := fun _ _ _ _ _ _ _ _ _ => rfl
  have d8 : ∀ (a b c d x y z u : Int) (l : List Int), ([a, b, c, d, x, y, z, u] ++ l).drop 8 = l := fun _ _ _ _ _ _ _ _ _ => rfl
  rw [g0, g2, g3, g4, g5, g6, g7, d8]
  have h1 : id / 16777216 * 16777216 + id / 65536 % 256 * 65536 + id / 256 % 256 * 256 + id % 256 = id := by omega
  have h2 : off / 32 * 32 + (off % 32 * 8 + (if more = true then 1 else 0)) / 8 = off := by split <;> omega
  have h3 : decide ((off % 32 * 8 + (if more = true then 1 else 0)) % 2 = 1) = more := by
    cases more
    · simp; omega
    · simp; omega
  rw [h1, h2, h3]
/-- What is written is read, whole or cut off. -/
theorem par_wrN (whole : Bool) (hok : ok6 f.lab hs g.fr g.id g.off g.more f.proto) (hA : A.length = 32) (hN : N ≤ 65535) (hcl : 0 ≤ f.cls ∧ f.cls < 256) (hlb : 0 ≤ f.lab) (hid : 0 ≤ g.id ∧ g.id ≤ 4294967295) (hb : ahead6 hs g.fr - 40 + body.length ≤ N) (hw : whole = true → ahead6 hs g.fr - 40 + body.length = N) :
    parR whole (wrN f A hs g N body) = .ok hs g f.proto body := by
  obtain ⟨hlab, ⟨h8, hall⟩, hend⟩ := hok
  obtain ⟨z0, zl, -, -, -, z6, -, z40⟩ := wrN_gz (hs := hs) (g := g) (body := body) hA hN hcl ⟨hlb, hlab⟩
  have hlen : (wrN f A hs g N body).length = ahead6 hs g.fr + body.length := wrN_len hA
  have hah : 40 ≤ ahead6 hs g.fr := by unfold ahead6; omega
  unfold parR
  rw [if_neg (by omega), if_neg (by omega), if_neg (by
    unfold badN
    rw [zl, hlen]
    rintro (h | ⟨h1, h2⟩)
    · omega
    · have := hw h1
      omega), z40, z6, hdsL_T]
  obtain ⟨at2, e⟩ := rdH_all hs g.fr f.proto ((if g.fr then fragL g.id g.off g.more f.proto else []) ++ body) h8 hall hs.length 0 (9 - hs.length) 40 (by omega)
  rw [show 9 - hs.length + hs.length = 9 by omega, List.take_zero] at e
  rw [e, show 9 - hs.length = (8 - hs.length) + 1 by omega]
  have hnx : nx6 hs g.fr f.proto hs.length = if g.fr then 44 else f.proto := by unfold nx6; rw [if_neg (by omega)]
  rw [hnx]
  unfold endB at hend
  by_cases hfr : g.fr = true
  · rw [if_pos hfr, if_pos hfr]
    rw [if_pos hfr] at hend
    simp only [Bool.and_eq_true, decide_eq_true_eq] at hend
    rw [rdH, if_neg (by decide)]
    exact frag_back hid hend hfr hs at2 f.proto body
  · rw [if_neg hfr, if_neg hfr]
    rw [if_neg hfr] at hend
    simp only [Bool.and_eq_true, beq_iff_eq, bne_iff_ne, Bool.not_eq_true', ne_eq] at hend
    obtain ⟨⟨⟨⟨h1, h2⟩, h3⟩, h4⟩, h5⟩ := hend
    rw [rdH, if_neg (by rw [h4]; decide), endR, if_neg h5]
    obtain ⟨fr, id, off, more⟩ := g
    simp only at h1 h2 h3 hfr
    simp only [Bool.not_eq_true] at hfr
    rw [h1, h2, h3, hfr]
    rfl
end
theorem oK_app (a b : Opts) (j : Nat) (hj : j < a.length) : oK (a ++ b) j = oK a j ∧ oD (a ++ b) j = oD a j := by
  unfold oK oD
  rw [List.getElem?_append_left hj]
  exact ⟨rfl, rfl⟩
theorem oTot_app (a b : Opts) : ∀ k, k ≤ a.length → oTot (a ++ b) k = oTot a k
  | 0, _ => rfl
  | k + 1, h => by rw [oTot, oTot, oTot_app a b k (by omega), (oK_app a b k (by omega)).2]
theorem oTot_snoc (a : Opts) (x : Int × List Int) : oTot (a ++ [x]) (a ++ [x]).length = oTot a a.length + (2 + x.2.length) := by
  rw [List.length_append, List.length_singleton, oTot, oTot_app a [x] _ (Nat.le_refl _)]
  congr 3
  unfold oD
  simp
theorem Fit.drop {zs : List Int} (h : Fit zs) (n : Nat) : Fit (zs.drop n) := fun z hz => h z (List.mem_of_mem_drop hz)
theorem rdH_ok : ∀ (n : Nat) (rest : List Int) (at' : Nat) (kind : Int) (acc hs : Opts) (k2 : Int) (rest2 : List Int) (at2 : Nat), Fit rest → 0 ≤ kind ∧ kind < 256 → allH acc acc.length → acc.length ≤ 8 → rdH n rest at' kind acc = .ok hs k2 rest2 at2 →
    allH hs hs.length ∧ hs.length ≤ 8 ∧ isH k2 = false ∧ oTot acc acc.length + rest.length = oTot hs hs.length + rest2.length ∧ Fit rest2 ∧ 0 ≤ k2 ∧ k2 < 256
  | 0, rest, at', kind, acc, hs, k2, rest2, at2, _, _, _, _, h => by rw [rdH] at h; cases h
  | n + 1, rest, at', kind, acc, hs, k2, rest2, at2, hf, hk, ha, h8, h => by
    rw [rdH] at h
    by_cases c : isH kind = true
    · rw [if_pos c] at h
      by_cases c1 : rest.length < 8
      · rw [if_pos c1] at h; cases h
      rw [if_neg c1] at h
      by_cases c2 : rest.length < szH rest
      · rw [if_pos c2] at h; cases h
      rw [if_neg c2] at h
      by_cases c3 : acc.length < 8 ∧ kindB kind acc.length = true
      · rw [if_pos c3] at h
        have hs1 : 8 ≤ szH rest ∧ szH rest % 8 = 0 ∧ szH rest ≤ 2048 := by
          have := gz_fit hf 1
          unfold szH
          omega
        have hld : ((rest.take (szH rest)).drop 2).length = szH rest - 2 := by rw [List.length_drop, List.length_take]; omega
        obtain ⟨r1, r2, r3, r4, r5⟩ := rdH_ok n _ _ _ _ hs k2 rest2 at2 (hf.drop _) (gz_fit hf 0) (by
          intro j hj
          rw [List.length_append, List.length_singleton] at hj
          unfold headOk
          by_cases hjj : j < acc.length
          · rw [(oK_app _ _ j hjj).1, (oK_app _ _ j hjj).2]
            exact ha j hjj
          · have : j = acc.length := by omega
            subst this
            have e1 : oK (acc ++ [(kind, (rest.take (szH rest)).drop 2)]) acc.length = kind := by unfold oK; simp
            have e2 : oD (acc ++ [(kind, (rest.take (szH rest)).drop 2)]) acc.length = (rest.take (szH rest)).drop 2 := by unfold oD; simp
            rw [e1, e2, hld, c3.2]
            simp
            omega) (by rw [List.length_append, List.length_singleton]; omega) h
        refine ⟨r1, r2, r3, ?_, r5⟩
        rw [oTot_snoc, hld, List.length_drop] at r4
        omega
      · rw [if_neg c3] at h; cases h
    · rw [if_neg c] at h
      cases h
      exact ⟨ha, h8, by simpa using c, rfl, hf, hk⟩
/-- What is read may be, and is as long as its bytes. -/
theorem par_ok {zs : List Int} {hs : Opts} {g : G6} {proto : Int} {body : List Int} (hf : Fit zs) (h : parR true zs = .ok hs g proto body) (hA : ((zs.drop 8).take 32).length = 32) :
    ckE (finF (clsN zs) (labN zs) (gz zs 7) proto ((zs.drop 8).take 32) hA) hs g body.length = 0 ∧ ahead6 hs g.fr + body.length = zs.length ∧ (0 ≤ proto ∧ proto < 256) ∧ (0 ≤ g.id ∧ g.id ≤ 4294967295) := by
  unfold parR at h
  by_cases c1 : zs.length < 40
  · rw [if_pos c1] at h; cases h
  rw [if_neg c1] at h
  by_cases c2 : gz zs 0 / 16 ≠ 6
  · rw [if_pos c2] at h; cases h
  rw [if_neg c2] at h
  by_cases c3 : badN true zs
  · rw [if_pos c3] at h; cases h
  rw [if_neg c3] at h
  have hln : lenN zs ≤ 65535 := by
    have f4 := gz_fit hf 4
    have f5 := gz_fit hf 5
    unfold lenN; omega
  have hlz : zs.length ≤ 65535 + 40 := by
    unfold badN at c3
    omega
  have hlab : labN zs ≤ 1048575 := by
    have f1 := gz_fit hf 1
    have f2 := gz_fit hf 2
    have f3 := gz_fit hf 3
    unfold labN; omega
  cases hr : rdH 9 (zs.drop 40) 40 (gz zs 6) [] with
  | bad a e => rw [hr, endR] at h; cases h
  | ok hs' k2 rest2 at2 =>
    obtain ⟨r1, r2, r3, r4, r5, r6⟩ := rdH_ok _ _ _ _ _ _ _ _ _ (hf.drop _) (gz_fit hf 6) (fun j hj => absurd hj (by simp)) (by simp) hr
    rw [hr, endR] at h
    rw [List.length_drop] at r4
    simp only [List.length_nil, oTot] at r4
    have key : ∀ (F : F6), F.lab ≤ 1048575 → endB g.fr g.id g.off g.more F.proto = true → hs = hs' → ahead6 hs g.fr + body.length = zs.length → ckE F hs g body.length = 0 := by
      intro F hl he hh ht
      subst hh
      unfold ckE
      rw [if_pos ((okB_iff F hs g).2 ⟨hl, ⟨r2, r1⟩, he⟩), if_pos (by omega)]
    by_cases c4 : k2 = 44
    · rw [if_pos c4] at h
      by_cases c5 : rest2.length < 8
      · rw [if_pos c5] at h; cases h
      rw [if_neg c5] at h
      have f2 := gz_fit r5 2
      have f3 := gz_fit r5 3
      have f4 := gz_fit r5 4
      have f5 := gz_fit r5 5
      have f6 := gz_fit r5 6
      have f7 := gz_fit r5 7
      have f0 := gz_fit r5 0
      cases h
      have ht : ahead6 hs true + (rest2.drop 8).length = zs.length := by rw [List.length_drop]; unfold ahead6; simp; omega
      refine ⟨key _ hlab ?_ rfl ht, ht, f0, ?_⟩
      · unfold endB
        simp only [if_true]
        simp
        omega
      · simp only
        omega
    · rw [if_neg c4] at h
      cases h
      have ht : ahead6 hs false + body.length = zs.length := by unfold ahead6; simp; omega
      refine ⟨key _ hlab ?_ rfl ht, ht, r6, by simp⟩
      show endB false 0 0 false proto = true
      unfold endB
      simp [r3, c4]
end Go.Proofs.Ytbaeogoojpngbaa
