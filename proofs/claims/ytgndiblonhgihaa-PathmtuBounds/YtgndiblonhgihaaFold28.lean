/-
  All of a cache.
  All of a cache; begin, Get, Drop, All of the document's.
-/
import Derived.Test.YtgndiblonhgihaaFold27
namespace Go.Proofs.Ytgndiblonhgihaa
open Go Go.RowKit Go.Lib Go.Shelf Go.Sort
set_option linter.unusedVariables false
set_option linter.unusedSimpArgs false

theorem sortW (W : World) (blk n : Nat) (d : Array OkE) (os : Array Obj) : (sortWorldK encE 18 W blk 0 n d os).os = W.os ∧ (sortWorldK encE 18 W blk 0 n d os).tape = W.tape ∧ (sortWorldK encE 18 W blk 0 n d os).output = W.output ∧ W.heap.size ≤ (sortWorldK encE 18 W blk 0 n d os).heap.size ∧ ∀ j, j < W.heap.size → j ≠ blk → (sortWorldK encE 18 W blk 0 n d os).heap[j]? = W.heap[j]? := by
  unfold sortWorldK putRowK putRow mapBlock grow Sort.ahead
  refine ⟨rfl, rfl, rfl, by simp, fun j hj hn => ?_⟩
  simp only
  rw [Array.getElem?_append_left (by simpa using hj), Array.getElem?_modify, if_neg (fun e => hn e.symm)]
theorem holds_row {W : World} {base g cap : Nat} {d : Array OkE} (h : W.ownsRow base 72 18 (.slice (some ⟨g, 0, none⟩) d.size cap) d.size ((d.toList.map (·.1)).flatMap eE)) : HoldsK encE 18 W g 0 d := by
  unfold HoldsK Holds
  intro j hj
  rw [size_flatK] at hj
  rw [get_flatK encE 18 d j hj]
  have hq : j / 18 < d.size := by omega
  refine ⟨?_, ?_⟩
  · have h1 : (d.toList.map (·.1))[j / 18]? = some (d[j / 18]'hq).1 := by simp [hq]
    have hl : j % 18 < (eE (d[j / 18]'hq).1).length := by rw [eE_len]; omega
    have h2 := h.cells (g := g) rfl (j / 18 * 18 + j % 18) _ (flat_atE h1 (j % 18) _ (List.getElem?_eq_getElem hl))
    rw [Go.WideShapes.add_plain, show j / 18 * 18 + j % 18 = j by omega] at h2
    rw [h2]
    rw [getElem!_pos d (j / 18) hq, getElem!_pos _ (j % 18) (show j % 18 < (encE (d[j / 18]'hq)).length from hl)]
    rfl
  · rcases h.2 with ⟨e, _⟩ | ⟨g', cap', cur, e, _, h2, _⟩
    · simp at e
    · injection e with e1 e2 e3
      injection e1 with e1
      injection e1 with e1 _ _
      subst e1
      simp [World.frozen?, h2]
theorem src_holds {W : World} {g cap : Nat} {d : Array OkE} (h : HoldsK encE 18 W g 0 d) : SrcE W (.slice (some ⟨g, 0, none⟩) d.size cap) (d.toList.map (·.1)) := by
  refine .inr ⟨⟨g, 0, none⟩, cap, by simp, fun j u hj => ?_⟩
  have hjl := (List.getElem?_eq_some_iff.1 hj).1
  rw [flat_lenE] at hjl
  simp at hjl
  have hq : j / 18 < d.size := by omega
  have h1 : (d.toList.map (·.1))[j / 18]? = some (d[j / 18]'hq).1 := by simp [hq]
  have hl : j % 18 < (eE (d[j / 18]'hq).1).length := by rw [eE_len]; omega
  have h3 := flat_atE h1 (j % 18) _ (List.getElem?_eq_getElem hl)
  rw [show j / 18 * 18 + j % 18 = j by omega, hj] at h3
  injection h3 with h3
  have h4 := (h j (by rw [size_flatK]; omega)).1
  rw [get_flatK encE 18 d j (by omega), getElem!_pos d (j / 18) hq, getElem!_pos _ (j % 18) (show j % 18 < (encE (d[j / 18]'hq)).length from hl)] at h4
  rw [Go.WideShapes.add_plain, h4, h3]
  rfl
theorem sorted_of {L : List (PE × Nat)} (hk : KN L) {d d' : Array OkE} (hd : d.toList.map (·.1) = L.map (·.1)) (hp : PermIn 0 d.size d d') (hs : SortedIn (ltOf cfE) 0 d.size d') :
    (d'.toList.map (·.1)).Perm (L.map (·.1)) ∧ (d'.toList.map (·.1)).Pairwise ltA ∧ d'.size = d.size := by
  obtain ⟨p1, _, p3⟩ := hp
  have e1 : d'.extract 0 d.size = d' := by rw [← p1]; exact Array.extract_size
  have e2 : d.extract 0 d.size = d := Array.extract_size
  rw [e1, e2] at p3
  have hpm : (d'.toList.map (·.1)).Perm (L.map (·.1)) := by rw [← hd]; exact p3.map _
  refine ⟨hpm, ?_, p1⟩
  have hnd : ((d'.toList.map (·.1)).map (·.k)).Nodup := by
    refine ((hpm.map (·.k)).nodup_iff).2 ?_
    rw [List.map_map]
    exact hk
  refine List.pairwise_iff_getElem.2 (fun i j hi hj hij => ?_)
  simp only [List.length_map, Array.length_toList] at hi hj
  have h1 := hs i j (Nat.zero_le _) hij (by omega)
  rw [getElem!_pos d' j hj, getElem!_pos d' i hi] at h1
  have h2 : ¬ ltA d'[j].1 d'[i].1 := fun e => by rw [(ltE_iff _ _).2 e] at h1; cases h1
  simp only [List.getElem_map, Array.getElem_toList]
  unfold ltA at h2 ⊢
  have h3 := cmpI_anti d'[i].1.k d'[j].1.k
  rcases cmpI_vals d'[i].1.k d'[j].1.k with h | h | h
  · exact h
  · exfalso
    have he := cmpI_eq h
    have := (List.pairwise_iff_getElem.1 hnd) i j (by simpa using hi) (by simpa using hj) hij
    simp at this
    exact this he
  · rw [h] at h3
    exact absurd h3 h2
set_option maxHeartbeats 8000000 in
set_option maxRecDepth 100000 in
theorem all_any {V : World} {pb mb : Nat} {cf : Cf} {now : Int} {line : Value} {L : List (PE × Nat)} (h : Keeps pb cf now mb line L V) (hlen : L.length ≤ 100000) :
    Calls Try.prog 34 #[.pointer (some ⟨pb, 0, none⟩)] V fun e w' => ∃ v, e = .returned v ∧ ∃ S : List PE, S.Perm (L.map (·.1)) ∧ S.Pairwise ltA ∧ SrcE w' v S ∧ Below V.heap.size V w' := by
  generalize hQ : (fun (e : Ending) (w' : World) => ∃ v, e = .returned v ∧ ∃ S : List PE, S.Perm (L.map (·.1)) ∧ S.Pairwise ltA ∧ SrcE w' v S ∧ Below V.heap.size V w') = Q
  have HQ : Hid (∀ e w', (∃ v, e = .returned v ∧ ∃ S : List PE, S.Perm (L.map (·.1)) ∧ S.Pairwise ltA ∧ SrcE w' v S ∧ Below V.heap.size V w') → Q e w') := fun e w' hh => by rw [← hQ]; exact hh
  clear hQ
  obtain ⟨ad, c, hv⟩ := h.p.slc
  have HV : Hid (line = .slice ad L.length c) := hv
  have c6 : V.cell? ⟨pb, 6, none⟩ = some (.slice ad L.length c) := by rw [← hv]; exact h.p.cell 6 _ rfl
  have HK : Hid (Keeps pb cf now mb line L V) := h
  have HSZ : Hid (L.length ≤ 100000) := hlen
  obtain ⟨D, hD⟩ : ∃ D : List PE, D = L.map (·.1) := ⟨_, rfl⟩
  have hDl : D.length = L.length := by rw [hD]; simp
  have HDD : Hid (D = L.map (·.1) ∧ D.length = L.length) := ⟨hD, hDl⟩
  clear hv h hD
  go_enter Try.func34, Try.ntmps34
  go_wp2
  go_loopw [3, 11] (fun lv i wr => ∃ n : Nat, n ≤ L.length ∧ i = .int .i64 n ∧ wr.ownsRow V.heap.size 72 18 lv (D.take n).length ((D.take n).flatMap eE) ∧ Below V.heap.size V wr) (fun _ i _ => L.length - (intOf i).toNat)
  case atStart => exact ⟨0, Nat.zero_le _, rfl, World.ownsRow_nil _ _ _ _, Below.refl _ _⟩
  case round =>
    obtain ⟨n, hn, rfl, hrow, hBk⟩ := hrel
    obtain ⟨la, lc, hlv⟩ := own_slc hrow
    subst hlv
    have HROW : Hid _ := hrow
    have HBR : Hid (Below V.heap.size V wr) := hBk
    by_cases hlt : n < L.length
    · obtain ⟨x, hx⟩ : ∃ x, L[n]? = some x := ⟨_, List.getElem?_eq_getElem hlt⟩
      have hkw := HK.out.on hBk
      obtain ⟨g, c', hv', hce⟩ := hkw.p.at hx
      rw [HV.out] at hv'
      obtain ⟨rfl, rfl⟩ : ad = some ⟨g, 0, none⟩ ∧ c = c' := by injection hv' with h1 _ h3; exact ⟨h1, h3⟩
      have hex := hkw.p.ents x (List.mem_of_getElem? hx)
      have hbx : wr.heap[x.2]? = some (.cells (eE x.1).toArray 72) := by rw [eE_ok hex.1]; exact hex.2
      have HE1 : Hid _ := ld_cE (e := x.1) (CellsAt.blkP (c := eE x.1) (t := 72) hbx)
      have q1 : decide ((n : Int) < L.length) = true := by simpa using hlt
      have w9 : IntKind.i64.wrap ((n : Int) + 1) = (n : Int) + 1 := wrap_i64 _ ⟨by omega, by omega⟩
      have HN : Hid (n < L.length) := hlt
      have hdn : D[n]? = some x.1 := by rw [HDD.out.1]; simp [hx]
      have HNX : Hid (D.take (n + 1) = D.take n ++ [x.1]) := by rw [List.take_add_one, hdn]; rfl
      obtain ⟨x2, X2, hap2, hown2, hb2⟩ := pushE hrow hBk.size (by have h1 := HSZ.out; rw [List.length_take]; omega) x.1 43
      have HBS : Hid _ := bsE wr x.1
      have HAP2 : Hid _ := hap2
      have HR2 : Hid _ := hown2
      have HB2 : Hid (Below V.heap.size V X2) := hBk.trans hb2
      clear hkw hv' hBk hx hrow hap2 hown2 hb2 hex hbx hdn
      go_wp2_with first
        | ((with_reducible show wpList _ _ _ ({ dst := _, op := Op.load 72 (Operand.tmp 17), type := _, pos := _, after := _, guard := _ } :: _) _ _); refine armL (.tmp 17) 72 rfl rfl rfl HE1.out ?_)
        | ((with_reducible show wpList _ _ _ ({ dst := _, op := Op.buildSlice 43 1 #[(0, (Operand.tmp 18))], type := _, pos := _, after := _, guard := _ } :: _) _ _); refine arm_bsE (.tmp 18) 43 rfl rfl rfl HBS.out ?_)
        | ((with_reducible show wpList _ _ _ ({ dst := _, op := Op.call { callee := Callee.builtin Builtin.append, args := #[(Operand.tmp 15), (Operand.tmp 19)], argTypes := #[43, 43] }, type := _, pos := _, after := _, guard := _ } :: _) _ _); refine arm_apE (.tmp 15) (.tmp 19) 43 rfl rfl rfl rfl HAP2.out ?_)
      go_roundw
      case rel => exact ⟨n + 1, HN.out, rfl, by rw [HNX.out]; exact HR2.out, HB2.out⟩
      case measure => show L.length - (n + 1) < L.length - n; have := HN.out; omega
    · obtain rfl : n = L.length := by omega
      have hD1 := HDD.out
      rw [← hD1.2, List.take_length, hD1.2] at hrow
      rw [← hD1.2, List.take_length, hD1.2]
      have HB : Hid (Below V.heap.size V wr) := hBk
      clear HROW HBR hlt hn c6
      by_cases h0 : L.length = 0
      · have hnil : L = [] := List.length_eq_zero_iff.1 h0
        have HSRT : Hid _ := AnyF.slices_SortFunc_none (P := Try.prog) sortL la lc (.func (.func 44) #[] #[]) wr
        have HSRC : Hid (SrcE wr (.slice la 0 lc) []) := by
          rcases hrow.2 with ⟨e, _⟩ | ⟨g, cap, cur, e, _⟩
          · rw [h0] at e
            exact .inl ⟨e, rfl⟩
          · injection e with e1 e2 e3
            subst e1
            exact .inr ⟨_, _, rfl, fun j u hj => by simp at hj⟩
        subst hnil
        clear hrow hBk hD1 h0
        go_wp2_with fail
        refine Calls.mono (show Calls Try.prog 43 _ _ _ from HSRT.out) ?_
        rintro e w2 ⟨rfl, rfl⟩
        go_wp2_with fail
        try go_returns
        exact HQ.out _ _ ⟨_, rfl, [], .refl _, List.Pairwise.nil, HSRC.out, HB.out⟩
      · obtain ⟨g, cap, cur, hvs, hbg, hcur⟩ : ∃ g cap cur, (Value.slice la L.length lc) = .slice (some ⟨g, 0, none⟩) L.length cap ∧ V.heap.size ≤ g ∧ wr.heap[g]? = some (.cells cur 72 (0, 0)) := by
          rcases hrow.2 with ⟨_, e⟩ | ⟨g, cap, cur, e, h1, h2, _⟩
          · exact absurd e h0
          · exact ⟨g, cap, cur, e, h1, h2⟩
        injection hvs with e1 _ e3
        subst e1
        subst e3
        have hok : ∀ x ∈ D, x.Ok := fun x hx => by
          rw [hD1.1] at hx
          obtain ⟨y, hy, rfl⟩ := List.mem_map.1 hx
          exact (HK.out.p.ents y hy).1
        obtain ⟨dl, hdl⟩ : ∃ dl : List OkE, dl.map (·.1) = D := ⟨D.pmap Subtype.mk hok, by rw [List.map_pmap]; simp⟩
        have hds : dl.toArray.size = L.length := by rw [← hD1.2, ← hdl]; simp
        have hrow2 : wr.ownsRow V.heap.size 72 18 (.slice (some ⟨g, 0, none⟩) dl.toArray.size lc) dl.toArray.size ((dl.toArray.toList.map (·.1)).flatMap eE) := by
          rw [hds]
          simp only [hdl]
          exact hrow
        have hH := holds_row hrow2
        have HSRT : Hid _ := AnyQ.slices_SortFunc (P := Try.prog) sortL 18 (fun w => by kernel_rfl) (fun w => by kernel_rfl) encE (fun x => eE_len x.1) (fun x => eE_one x.1) cfE swoE 44 #[] g 0 lc dl.toArray wr (enters_of Try.func44 (by kernel_rfl) rfl) (cmpL g dl.toArray.size wr) hH (Array.getElem?_eq_some_iff.1 hcur).1 (by rw [hds]; have := HSZ.out; omega)
        rw [hds] at HSRT
        have HHO : Hid (HoldsK encE 18 wr g 0 dl.toArray ∧ g < wr.heap.size ∧ V.heap.size ≤ g ∧ dl.map (·.1) = D ∧ dl.toArray.size = L.length) := ⟨hH, (Array.getElem?_eq_some_iff.1 hcur).1, hbg, hdl, hds⟩
        clear hrow hrow2 hBk hD1 h0 hok hcur hH hbg hdl hds
        go_wp2_with fail
        refine Calls.mono (show Calls Try.prog 43 _ _ _ from HSRT.out) ?_
        rintro e w2 ⟨rfl, d', m, os, hp, hs, rfl⟩
        have hho := HHO.out
        rw [← hho.2.2.2.2] at hp hs
        obtain ⟨p1, p2, p3⟩ := sorted_of HK.out.kn (by rw [← HDD.out.1]; exact hho.2.2.2.1) hp hs
        have hsz' : d'.size = L.length := p3.trans hho.2.2.2.2
        have hsr := src_holds (cap := lc) (holdsK_sortWorldK_c encE 18 wr g 0 dl.toArray d' m os hho.1 hho.2.1 p3)
        rw [hsz'] at hsr
        obtain ⟨o1, o2, o3, o4, o5⟩ := sortW wr g m d' os
        have hbl : Below V.heap.size V (sortWorldK encE 18 wr g 0 m d' os) := HB.out.trans ⟨o1, o2, o3, o4, fun j hj => o5 j (by have := HB.out.size; omega) (by omega)⟩
        have HFIN : Hid (∃ S : List PE, S.Perm (L.map (·.1)) ∧ S.Pairwise ltA ∧ SrcE (sortWorldK encE 18 wr g 0 m d' os) (.slice (some ⟨g, 0, none⟩) L.length lc) S ∧ Below V.heap.size V (sortWorldK encE 18 wr g 0 m d' os)) := ⟨_, p1, p2, hsr, hbl⟩
        clear hp hs hho p1 p2 p3 hsz' hsr o1 o2 o3 o4 o5 hbl
        generalize sortWorldK encE 18 wr g 0 m d' os = w3 at *
        go_wp2_with fail
        try go_returns
        exact HQ.out _ _ ⟨_, rfl, HFIN.out⟩
end Go.Proofs.Ytgndiblonhgihaa

namespace Go.Proofs.Ytgndiblonhgihaa
open Go Go.RowKit Go.Lib
set_option linter.unusedVariables false
set_option linter.unusedSimpArgs false

set_option maxHeartbeats 8000000 in
set_option maxRecDepth 100000 in
theorem all_yes {V : World} {p pb mb : Nat} {cf : Cf} {now : Int} {line : Value} {L : List (PE × Nat)} (hb : Box V p pb) (h : Keeps pb cf now mb line L V) (hs : SortE L) (hl : L.length ≤ 100000) {t : Int} (ht : okT now t) :
    Calls Try.prog 17 #[.pointer (some ⟨p, 0, none⟩), .int .i64 t] V fun e w' => ∃ v S, e = .returned (.tuple #[v, .int .i64 0]) ∧ (S.Perm ((live L t).map (·.1)) ∧ S.Pairwise ltA ∧ SrcE w' v S) ∧ Box w' p pb ∧ ∃ line', Keeps pb cf t mb line' (live L t) w' ∧ line'.ownBlock = line.ownBlock ∧ Fr pb mb line V w' := by
  have HC : Hid _ := check_yes hb h.p ht
  have HG : Hid _ := goOn_any h hs (Nat.le_trans hl (by decide)) t
  have HBX : Hid (Box V p pb ∧ p ≠ pb ∧ p ≠ mb ∧ line.ownBlock ≠ some p) := ⟨hb, h.bx hb⟩
  have HSZ : Hid (L.length ≤ 100000) := hl
  have c0 : V.cell? ⟨p, 0, none⟩ = some (.pointer (some ⟨pb, 0, none⟩)) := blk_cell (j := 0) hb rfl
  clear hb h hs hl ht
  go_enter Try.func17, Try.ntmps17
  go_wp2_with fail
  refine Calls.mono HC.out ?_
  rintro e w1 ⟨rfl, rfl⟩
  go_wp2_with fail
  refine Calls.mono HG.out ?_
  rintro e w2 ⟨rfl, line2, k2, l2, f2⟩
  have hbx2 : Box w2 p pb := HBX.out.1.on (f2.other p HBX.out.1.lt HBX.out.2.1 HBX.out.2.2.1 HBX.out.2.2.2)
  have c2 : w2.cell? ⟨p, 0, none⟩ = some (.pointer (some ⟨pb, 0, none⟩)) := blk_cell (j := 0) hbx2 rfl
  have HA : Hid _ := all_any k2 (Nat.le_trans (live_len L t) HSZ.out)
  have HX : Hid (Box w2 p pb ∧ Keeps pb cf t mb line2 (live L t) w2 ∧ line2.ownBlock = line.ownBlock ∧ Fr pb mb line w1 w2) := ⟨hbx2, k2, l2, f2⟩
  clear k2 l2 f2 hbx2 HC HG c0
  go_wp2_with fail
  refine Calls.mono HA.out ?_
  rintro e w3 ⟨v, rfl, S, p1, p2, p3, hb3⟩
  have HF : Hid ((S.Perm ((live L t).map (·.1)) ∧ S.Pairwise ltA ∧ SrcE w3 v S) ∧ Box w3 p pb ∧ ∃ line', Keeps pb cf t mb line' (live L t) w3 ∧ line'.ownBlock = line.ownBlock ∧ Fr pb mb line w1 w3) := ⟨⟨p1, p2, p3⟩, HX.out.1.on (hb3.block _ HX.out.1.lt), line2, HX.out.2.1.on hb3, HX.out.2.2.1, HX.out.2.2.2.trans (Fr.below hb3) HX.out.2.2.1⟩
  clear p1 p2 p3 hb3 HA HX c2
  go_wp2_with fail
  try go_returns
  exact ⟨v, S, rfl, HF.out⟩
theorem Cch.all {B : Nat} {W0 V : World} {p pb mb : Nat} {cf : Cf} {now : Int} {L : List (PE × Nat)} (h : Cch B W0 V p pb mb cf now L) (hl : L.length ≤ 100000) {t : Int} (ht : okT now t) :
    Calls Try.prog 17 #[.pointer (some ⟨p, 0, none⟩), .int .i64 t] V fun e w' => ∃ v S, e = .returned (.tuple #[v, .int .i64 0]) ∧ (S.Perm ((live L t).map (·.1)) ∧ S.Pairwise ltA ∧ SrcE w' v S) ∧ Cch B W0 w' p pb mb cf t (live L t) ∧ TF V w' := by
  obtain ⟨line, hk, hlb⟩ := h.k
  refine (all_yes h.bx hk h.st hl ht).mono ?_
  rintro e w' ⟨v, S, rfl, hS, hx, line', k', lb', f⟩
  exact ⟨v, S, rfl, hS, ⟨hx, ⟨line', k', by rw [lb']; exact hlb⟩, h.st.live t, h.lo, f.low h.lo.2.1 h.lo.2.2 hlb h.bl h.le, h.le⟩, f.tf hk⟩
/-- The document's time goes on. -/
theorem Doc.time {rb : Nat} {cf : Cf} {now : Int} {D : List PE} {v : Value} {W : World} (h : Doc rb cf now D v W) (t : Int) : Doc rb cf t D v (W.setCell ⟨rb, 4, none⟩ (.int .i64 t)) ∧ FrD rb W (W.setCell ⟨rb, 4, none⟩ (.int .i64 t)) := by
  have on : Only rb W (W.setCell ⟨rb, 4, none⟩ (.int .i64 t)) := (Only.refl rb W).set 4 _
  have hb := blk_set h.box 4 (.int .i64 t)
  exact ⟨⟨hb, own_same h.row (fun q hq => on.other q (by have := (own_ltE h.row hq).1; omega)), h.ok⟩, ⟨on.os, on.tape, on.output, by rw [on.size]; exact Nat.le_refl _, fun j _ hn => on.other j hn⟩⟩
set_option maxHeartbeats 4000000 in
theorem RBegin {W : World} {rb : Nat} {cf : Cf} {now : Int} {D : List PE} {v : Value} (h : Doc rb cf now D v W) (hlen : D.length ≤ 100000) {t : Int} (ht : okT now t) :
    Calls Try.prog 30 #[.pointer (some ⟨rb, 0, none⟩), .int .i64 t] W fun e w' => e = .returned (.int .i64 0) ∧ (∃ u, Doc rb cf t (liveD D t) u w') ∧ FrD rb W w' := by
  have c4 : W.cell? ⟨rb, 4, none⟩ = some (.int .i64 now) := blk_cell (j := 4) h.box rfl
  have HT : Hid _ := RTidy h hlen t
  have q1 : decide (t < now) = false := decide_eq_false (by have := ht.1; omega)
  have q2 : decide (t > 1099511627776) = false := decide_eq_false (by have := ht.2; omega)
  have q3 : decide (1099511627776 < t) = false := decide_eq_false (by have := ht.2; omega)
  clear h ht
  go_enter Try.func30, Try.ntmps30
  go_wp2_with fail
  refine Calls.mono HT.out ?_
  rintro e w1 ⟨rfl, ⟨u, hd⟩, f1⟩
  have c4' : w1.cell? ⟨rb, 4, none⟩ = some (.int .i64 now) := blk_cell (j := 4) hd.box rfl
  have hfz := blk_open hd.box 4
  obtain ⟨hd2, f2⟩ := hd.time t
  have HF : Hid ((∃ u, Doc rb cf t (liveD D t) u (w1.setCell ⟨rb, 4, none⟩ (.int .i64 t))) ∧ FrD rb W (w1.setCell ⟨rb, 4, none⟩ (.int .i64 t))) := ⟨⟨u, hd2⟩, f1.trans f2⟩
  clear hd f1 hd2 f2 HT c4
  go_wp2
  try go_returns
  exact ⟨rfl, HF.out⟩
set_option maxHeartbeats 4000000 in
theorem RBegin_late {W : World} {rb : Nat} {cf : Cf} {now : Int} {D : List PE} {v : Value} (h : Doc rb cf now D v W) {t : Int} (ht : ¬ okT now t) :
    Calls Try.prog 30 #[.pointer (some ⟨rb, 0, none⟩), .int .i64 t] W fun e w' => e = .returned (.int .i64 153) ∧ w' = W := by
  have c4 : W.cell? ⟨rb, 4, none⟩ = some (.int .i64 now) := blk_cell (j := 4) h.box rfl
  clear h
  by_cases c : t < now
  · have q1 : decide (t < now) = true := decide_eq_true c
    clear ht
    go_enter Try.func30, Try.ntmps30
    go_wp2_with fail
    try go_returns
    exact ⟨rfl, rfl⟩
  · have q1 : decide (t < now) = false := decide_eq_false c
    have d : t > 1099511627776 := by unfold okT at ht; omega
    have q2 : decide (t > 1099511627776) = true := decide_eq_true d
    have q3 : decide (1099511627776 < t) = true := decide_eq_true d
    clear ht
    go_enter Try.func30, Try.ntmps30
    go_wp2_with fail
    try go_returns
    exact ⟨rfl, rfl⟩
set_option maxHeartbeats 4000000 in
theorem RGet_late {W : World} {rb : Nat} {cf : Cf} {now : Int} {D : List PE} {v : Value} (h : Doc rb cf now D v W) {t : Int} (ht : ¬ okT now t) (d : List Int) :
    Calls Try.prog 14 #[.pointer (some ⟨rb, 0, none⟩), .int .i64 t, .agg (u8s d).toArray] W fun e w' => e = .returned (.tuple #[.int .i64 0, .int .i64 153]) ∧ Below W.heap.size W w' := by
  obtain ⟨W0, hW0⟩ : ∃ W0, W0 = W.alloc (.cells (u8s d).toArray 35) := ⟨_, rfl⟩
  have hB0 : Below W.heap.size W W0 := by rw [hW0]; exact (Below.refl W.heap.size W).alloc (Nat.le_refl _) _
  have hx0 : W0.heap[W.heap.size]? = some (.cells (u8s d).toArray 35) := by rw [hW0]; exact blk_new W _
  have HLT : Hid (rb < W.heap.size ∧ W.heap.size < W0.heap.size) := ⟨h.lt, (Array.getElem?_eq_some_iff.1 hx0).1⟩
  have HX0 : Hid (W0.heap[W.heap.size]? = some (.cells (u8s d).toArray 35)) := hx0
  have HB0 : Hid (Below W.heap.size W W0) := hB0
  have HBL : Hid _ := RBegin_late (h.on hB0) ht
  have hW := hW0.symm
  clear hW0 hB0 hx0 h ht
  go_enter Try.func14, Try.ntmps14
  go_wp2_with fail
  refine Calls.mono HBL.out ?_
  rintro e w1 ⟨rfl, rfl⟩
  go_wp2_with fail
  try go_returns
  exact ⟨rfl, HB0.out⟩
set_option maxHeartbeats 4000000 in
theorem RDrop_late {W : World} {rb : Nat} {cf : Cf} {now : Int} {D : List PE} {v : Value} (h : Doc rb cf now D v W) {t : Int} (ht : ¬ okT now t) (d : List Int) :
    Calls Try.prog 22 #[.pointer (some ⟨rb, 0, none⟩), .int .i64 t, .agg (u8s d).toArray] W fun e w' => e = .returned (.tuple #[.bool false, .int .i64 153]) ∧ Below W.heap.size W w' := by
  obtain ⟨W0, hW0⟩ : ∃ W0, W0 = W.alloc (.cells (u8s d).toArray 35) := ⟨_, rfl⟩
  have hB0 : Below W.heap.size W W0 := by rw [hW0]; exact (Below.refl W.heap.size W).alloc (Nat.le_refl _) _
  have hx0 : W0.heap[W.heap.size]? = some (.cells (u8s d).toArray 35) := by rw [hW0]; exact blk_new W _
  have HLT : Hid (rb < W.heap.size ∧ W.heap.size < W0.heap.size) := ⟨h.lt, (Array.getElem?_eq_some_iff.1 hx0).1⟩
  have HX0 : Hid (W0.heap[W.heap.size]? = some (.cells (u8s d).toArray 35)) := hx0
  have HB0 : Hid (Below W.heap.size W W0) := hB0
  have HBL : Hid _ := RBegin_late (h.on hB0) ht
  have hW := hW0.symm
  clear hW0 hB0 hx0 h ht
  go_enter Try.func22, Try.ntmps22
  go_wp2_with fail
  refine Calls.mono HBL.out ?_
  rintro e w1 ⟨rfl, rfl⟩
  go_wp2_with fail
  try go_returns
  exact ⟨rfl, HB0.out⟩
set_option maxHeartbeats 4000000 in
theorem RAll_late {W : World} {rb : Nat} {cf : Cf} {now : Int} {D : List PE} {v : Value} (h : Doc rb cf now D v W) {t : Int} (ht : ¬ okT now t) :
    Calls Try.prog 23 #[.pointer (some ⟨rb, 0, none⟩), .int .i64 t] W fun e w' => e = .returned (.tuple #[.slice none 0 0, .int .i64 153]) ∧ Below W.heap.size W w' := by
  have HBL : Hid _ := RBegin_late h ht
  have HB0 : Hid (Below W.heap.size W W) := Below.refl _ _
  clear h ht
  go_enter Try.func23, Try.ntmps23
  go_wp2_with fail
  refine Calls.mono HBL.out ?_
  rintro e w1 ⟨rfl, rfl⟩
  go_wp2_with fail
  try go_returns
  exact ⟨rfl, HB0.out⟩
set_option maxHeartbeats 4000000 in
theorem RGet {W : World} {rb : Nat} {cf : Cf} {now : Int} {D : List PE} {v : Value} (h : Doc rb cf now D v W) (hlen : D.length ≤ 100000) {t : Int} (ht : okT now t) {d : List Int} (hd : K16 d) :
    Calls Try.prog 14 #[.pointer (some ⟨rb, 0, none⟩), .int .i64 t, .agg (u8s d).toArray] W fun e w' => ∃ m, e = .returned (.tuple #[.int .i64 m, .int .i64 0]) ∧ MtuP (liveD D t) d cf.link m ∧ (∃ u, Doc rb cf t (liveD D t) u w') ∧ FrD rb W w' := by
  obtain ⟨W0, hW0⟩ : ∃ W0, W0 = W.alloc (.cells (u8s d).toArray 35) := ⟨_, rfl⟩
  have hB0 : Below W.heap.size W W0 := by rw [hW0]; exact (Below.refl W.heap.size W).alloc (Nat.le_refl _) _
  have hx0 : W0.heap[W.heap.size]? = some (.cells (u8s d).toArray 35) := by rw [hW0]; exact blk_new W _
  have HLT : Hid (rb < W.heap.size ∧ W.heap.size < W0.heap.size) := ⟨h.lt, (Array.getElem?_eq_some_iff.1 hx0).1⟩
  have HX0 : Hid (W0.heap[W.heap.size]? = some (.cells (u8s d).toArray 35)) := hx0
  have HB0 : Hid (Below W.heap.size W W0) := hB0
  have HBG : Hid _ := RBegin (h.on hB0) hlen ht
  have HK : Hid (K16 d ∧ D.length ≤ 100000) := ⟨hd, hlen⟩
  have hW := hW0.symm
  clear hW0 hB0 hx0 h ht hd hlen
  go_enter Try.func14, Try.ntmps14
  go_wp2_with fail
  refine Calls.mono HBG.out ?_
  rintro e w1 ⟨rfl, ⟨u, hd1⟩, f1⟩
  have hx1 : w1.heap[W.heap.size]? = some (.cells (u8s d).toArray 35) := (f1.other _ HLT.out.2 (by have := HLT.out; omega)).trans HX0.out
  have HL1 : Hid _ := at_A HK.out.1.len hx1
  have HM : Hid _ := RMtu hd1 (Nat.le_trans (liveD_len D t) HK.out.2) HK.out.1
  have HF1 : Hid (Doc rb cf t (liveD D t) u w1 ∧ FrD rb W w1) := ⟨hd1, (FrD.below HB0.out).trans f1⟩
  clear hd1 f1 hx1 HBG hW
  go_wp2_with first
    | ((with_reducible show wpList _ _ _ ({ dst := _, op := Op.load 35 (Operand.tmp 5), type := _, pos := _, after := _, guard := _ } :: _) _ _); refine armL (.tmp 5) 35 rfl rfl rfl HL1.out ?_)
  refine Calls.mono HM.out ?_
  rintro e w2 ⟨m, rfl, hm, hb2⟩
  have HF2 : Hid (MtuP (liveD D t) d cf.link m ∧ (∃ u, Doc rb cf t (liveD D t) u w2) ∧ FrD rb W w2) := ⟨hm, ⟨u, HF1.out.1.on hb2⟩, HF1.out.2.trans (FrD.below hb2)⟩
  clear hm hb2 HM HL1
  go_wp2_with fail
  try go_returns
  exact ⟨m, rfl, HF2.out⟩
/-- What a drop does. -/
def DropP (D : List PE) (d : List Int) (b : Bool) (D' : List PE) : Prop := (∃ (i : Nat) (x : PE), D[i]? = some x ∧ x.k = d ∧ b = true ∧ D' = woD D i) ∨ ((∀ x ∈ D, x.k ≠ d) ∧ b = false ∧ D' = D)
set_option maxHeartbeats 8000000 in
theorem RDrop {W : World} {rb : Nat} {cf : Cf} {now : Int} {D : List PE} {v : Value} (h : Doc rb cf now D v W) (hlen : D.length ≤ 100000) {t : Int} (ht : okT now t) {d : List Int} (hd : K16 d) :
    Calls Try.prog 22 #[.pointer (some ⟨rb, 0, none⟩), .int .i64 t, .agg (u8s d).toArray] W fun e w' => ∃ b D', e = .returned (.tuple #[.bool b, .int .i64 0]) ∧ DropP (liveD D t) d b D' ∧ (∃ u, Doc rb cf t D' u w') ∧ FrD rb W w' := by
  obtain ⟨W0, hW0⟩ : ∃ W0, W0 = W.alloc (.cells (u8s d).toArray 35) := ⟨_, rfl⟩
  have hB0 : Below W.heap.size W W0 := by rw [hW0]; exact (Below.refl W.heap.size W).alloc (Nat.le_refl _) _
  have hx0 : W0.heap[W.heap.size]? = some (.cells (u8s d).toArray 35) := by rw [hW0]; exact blk_new W _
  have HLT : Hid (rb < W.heap.size ∧ W.heap.size < W0.heap.size) := ⟨h.lt, (Array.getElem?_eq_some_iff.1 hx0).1⟩
  have HX0 : Hid (W0.heap[W.heap.size]? = some (.cells (u8s d).toArray 35)) := hx0
  have HB0 : Hid (Below W.heap.size W W0) := hB0
  have HBG : Hid _ := RBegin (h.on hB0) hlen ht
  have HK : Hid (K16 d ∧ D.length ≤ 100000) := ⟨hd, hlen⟩
  have hW := hW0.symm
  clear hW0 hB0 hx0 h ht hd hlen
  go_enter Try.func22, Try.ntmps22
  go_wp2_with fail
  refine Calls.mono HBG.out ?_
  rintro e w1 ⟨rfl, ⟨u, hd1⟩, f1⟩
  have hx1 : w1.heap[W.heap.size]? = some (.cells (u8s d).toArray 35) := (f1.other _ HLT.out.2 (by have := HLT.out; omega)).trans HX0.out
  have HL1 : Hid _ := at_A HK.out.1.len hx1
  have HM : Hid _ := RAt hd1 (Nat.le_trans (liveD_len D t) HK.out.2) HK.out.1
  have HF1 : Hid (Doc rb cf t (liveD D t) u w1 ∧ FrD rb W w1) := ⟨hd1, (FrD.below HB0.out).trans f1⟩
  clear hd1 f1 hx1 HBG hW
  go_wp2_with first
    | ((with_reducible show wpList _ _ _ ({ dst := _, op := Op.load 35 (Operand.tmp 5), type := _, pos := _, after := _, guard := _ } :: _) _ _); refine armL (.tmp 5) 35 rfl rfl rfl HL1.out ?_)
  refine Calls.mono HM.out ?_
  rintro e w2 ⟨r, rfl, hp, hb2⟩
  have hd2 := HF1.out.1.on hb2
  have f2 := HF1.out.2.trans (FrD.below hb2)
  rcases hp with ⟨i, x, rfl, hi, hk⟩ | ⟨rfl, hno⟩
  · have q1 : decide ((i : Int) < 0) = false := decide_eq_false (by omega)
    have HW : Hid _ := RWithout hd2 (Nat.le_trans (liveD_len D t) HK.out.2) i
    have HI : Hid ((liveD D t)[i]? = some x ∧ x.k = d) := ⟨hi, hk⟩
    have HF2 : Hid (FrD rb W w2) := f2
    clear hi hk hd2 f2 hb2 HM HL1
    go_wp2_with fail
    refine Calls.mono HW.out ?_
    rintro e w3 ⟨rfl, hd3, f3⟩
    have HF3 : Hid (DropP (liveD D t) d true (woD (liveD D t) i) ∧ (∃ u, Doc rb cf t (woD (liveD D t) i) u w3) ∧ FrD rb W w3) := ⟨.inl ⟨i, x, HI.out.1, HI.out.2, rfl, rfl⟩, hd3, HF2.out.trans f3⟩
    clear hd3 f3 HW
    go_wp2_with fail
    try go_returns
    exact ⟨true, _, rfl, HF3.out⟩
  · have HF3 : Hid (DropP (liveD D t) d false (liveD D t) ∧ (∃ u, Doc rb cf t (liveD D t) u w2) ∧ FrD rb W w2) := ⟨.inr ⟨hno, rfl, rfl⟩, ⟨u, hd2⟩, f2⟩
    clear hno hd2 f2 hb2 HM HL1
    go_wp2_with fail
    try go_returns
    exact ⟨false, _, rfl, HF3.out⟩
theorem srcE_own {W : World} {base : Nat} {v : Value} {l : List PE} (h : W.ownsRow base 72 18 v l.length (l.flatMap eE)) : SrcE W v l := by
  rcases id h.2 with ⟨e, h0⟩ | ⟨g, c, cur, rfl, _⟩
  · exact .inl ⟨e, List.length_eq_zero_iff.1 h0⟩
  · exact .inr ⟨_, c, rfl, fun j u hj => h.cells (g := g) rfl j u hj⟩
theorem own_emp (W : World) : (W.alloc (.cells #[] 72)).ownsRow W.heap.size 72 18 (.slice (some ⟨W.heap.size, 0, none⟩) 0 0) ([] : List PE).length (([] : List PE).flatMap eE) :=
  ⟨by simp, .inr ⟨W.heap.size, 0, #[], rfl, Nat.le_refl _, blk_new W _, Nat.le_refl _, by decide, by simp, by simp⟩⟩
set_option maxHeartbeats 8000000 in
theorem RAll {W : World} {rb : Nat} {cf : Cf} {now : Int} {D : List PE} {v : Value} (h : Doc rb cf now D v W) (hlen : D.length ≤ 100000) {t : Int} (ht : okT now t) :
    Calls Try.prog 23 #[.pointer (some ⟨rb, 0, none⟩), .int .i64 t] W fun e w' => ∃ v, e = .returned (.tuple #[v, .int .i64 0]) ∧ SrcE w' v (liveD D t) ∧ (∃ u, Doc rb cf t (liveD D t) u w') ∧ FrD rb W w' := by
  have HBG : Hid _ := RBegin h hlen ht
  have HK : Hid (D.length ≤ 100000) := hlen
  clear h ht hlen
  go_enter Try.func23, Try.ntmps23
  go_wp2_with fail
  refine Calls.mono HBG.out ?_
  rintro e w1 ⟨rfl, ⟨u, hd1⟩, f1⟩
  obtain ⟨W4, hW4⟩ : ∃ W4, W4 = w1.alloc (.cells #[] 72) := ⟨_, rfl⟩
  have hB4 : Below w1.heap.size w1 W4 := by rw [hW4]; exact (Below.refl w1.heap.size w1).alloc (Nat.le_refl _) _
  have hd4 := hd1.on hB4
  have ho4 := own_emp w1
  rw [← hW4] at ho4
  obtain ⟨v', W', hap, hown, hbl⟩ := appE ho4 hB4.size (by have := liveD_len D t; have := HK.out; simp; omega) (srcE_own hd4.row) 43
  have c5 : W4.cell? ⟨rb, 5, none⟩ = some u := blk_cell (j := 5) hd4.box rfl
  obtain ⟨ua, uc, huv⟩ := own_slc hd4.row
  subst huv
  have HAP : Hid _ := hap
  have hbw : Below w1.heap.size w1 W' := hB4.trans hbl
  rw [List.nil_append] at hown
  have HF : Hid (SrcE W' v' (liveD D t) ∧ (∃ u, Doc rb cf t (liveD D t) u W') ∧ FrD rb W W') := ⟨srcE_own hown, ⟨_, hd1.on hbw⟩, f1.trans (FrD.below hbw)⟩
  have e4 := hW4.symm
  clear hd1 f1 hB4 hd4 ho4 hap hown hbl hbw hW4 HBG
  go_wp2_with first
    | ((with_reducible show wpList _ _ _ ({ dst := _, op := Op.call { callee := Callee.builtin Builtin.append, args := #[(Operand.tmp 13), (Operand.tmp 17)], argTypes := #[43, 43] }, type := _, pos := _, after := _, guard := _ } :: _) _ _); refine arm_apE (.tmp 13) (.tmp 17) 43 rfl rfl rfl rfl HAP.out ?_)
  try go_returns
  exact ⟨v', rfl, HF.out⟩
end Go.Proofs.Ytgndiblonhgihaa
