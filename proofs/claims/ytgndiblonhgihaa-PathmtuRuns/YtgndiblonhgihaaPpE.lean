/-
  All of a cache.
-/
import Derived.Test.YtgndiblonhgihaaPpD
namespace Go.Proofs.Ytgndiblonhgihaa
open Go Go.RowKit Go.Lib Go.Shelf Go.Sort
set_option linter.unusedVariables false
set_option linter.unusedSimpArgs false

theorem sortW (W : World) (blk n : Nat) (d : Array OkE) (os : Array Obj) : (sortWorldK encE 18 W blk 0 n d os).os = W.os ∧ (sortWorldK encE 18 W blk 0 n d os).tape = W.tape ∧ (sortWorldK encE 18 W blk 0 n d os).output = W.output ∧ W.heap.size ≤ (sortWorldK encE 18 W blk 0 n d os).heap.size ∧ ∀ j, j < W.heap.size → j ≠ blk → (sortWorldK encE 18 W blk 0 n d os).heap[j]? = W.heap[j]? := by
  unfold sortWorldK putRowK putRow mapBlock grow Sort.ahead
  refine ⟨rfl, rfl, rfl, by simp, fun j hj hn => ?_⟩
  simp only
  rw [Array.getElem?_append_left (by simpa using hj), Array.getElem?_modify, if_neg (fun e => hn e.symm)]
theorem holds_row {W : World} {base g cap : Nat} {d : Array OkE} (h : W.ownsRow base 72 18 (.slice (some ⟨g, 0, none⟩) d.size cap) d.size ((d.toList.map (·.1)).flatMap eE)) : HoldsK encE 18 W g 0 d := by
  unfold HoldsK Holds
  intro j hj
  rw [size_flatK] at hj
  rw [get_flatK encE 18 d j hj]
  have hq : j / 18 < d.size := by omega
  refine ⟨?_, ?_⟩
  · have h1 : (d.toList.map (·.1))[j / 18]? = some (d[j / 18]'hq).1 := by simp [hq]
    have hl : j % 18 < (eE (d[j / 18]'hq).1).length := by rw [eE_len]; omega
    have h2 := h.cells (g := g) rfl (j / 18 * 18 + j % 18) _ (flat_atE h1 (j % 18) _ (List.getElem?_eq_getElem hl))
    rw [Go.WideShapes.add_plain, show j / 18 * 18 + j % 18 = j by omega] at h2
    rw [h2]
    rw [getElem!_pos d (j / 18) hq, getElem!_pos _ (j % 18) (show j % 18 < (encE (d[j / 18]'hq)).length from hl)]
    rfl
  · rcases h.2 with ⟨e, _⟩ | ⟨g', cap', cur, e, _, h2, _⟩
    · simp at e
    · injection e with e1 e2 e3
      injection e1 with e1
      injection e1 with e1 _ _
      subst e1
      simp [World.frozen?, h2]
theorem src_holds {W : World} {g cap : Nat} {d : Array OkE} (h : HoldsK encE 18 W g 0 d) : SrcE W (.slice (some ⟨g, 0, none⟩) d.size cap) (d.toList.map (·.1)) := by
  refine .inr ⟨⟨g, 0, none⟩, cap, by simp, fun j u hj => ?_⟩
  have hjl := (List.getElem?_eq_some_iff.1 hj).1
  rw [flat_lenE] at hjl
  simp at hjl
  have hq : j / 18 < d.size := by omega
  have h1 : (d.toList.map (·.1))[j / 18]? = some (d[j / 18]'hq).1 := by simp [hq]
  have hl : j % 18 < (eE (d[j / 18]'hq).1).length := by rw [eE_len]; omega
  have h3 := flat_atE h1 (j % 18) _ (List.getElem?_eq_getElem hl)
  rw [show j / 18 * 18 + j % 18 = j by omega, hj] at h3
  injection h3 with h3
  have h4 := (h j (by rw [size_flatK]; omega)).1
  rw [get_flatK encE 18 d j (by omega), getElem!_pos d (j / 18) hq, getElem!_pos _ (j % 18) (show j % 18 < (encE (d[j / 18]'hq)).length from hl)] at h4
  rw [Go.WideShapes.add_plain, h4, h3]
  rfl
theorem sorted_of {L : List (PE × Nat)} (hk : KN L) {d d' : Array OkE} (hd : d.toList.map (·.1) = L.map (·.1)) (hp : PermIn 0 d.size d d') (hs : SortedIn (ltOf cfE) 0 d.size d') :
    (d'.toList.map (·.1)).Perm (L.map (·.1)) ∧ (d'.toList.map (·.1)).Pairwise ltA ∧ d'.size = d.size := by
  obtain ⟨p1, _, p3⟩ := hp
  have e1 : d'.extract 0 d.size = d' := by rw [← p1]; exact Array.extract_size
  have e2 : d.extract 0 d.size = d := Array.extract_size
  rw [e1, e2] at p3
  have hpm : (d'.toList.map (·.1)).Perm (L.map (·.1)) := by rw [← hd]; exact p3.map _
  refine ⟨hpm, ?_, p1⟩
  have hnd : ((d'.toList.map (·.1)).map (·.k)).Nodup := by
    refine ((hpm.map (·.k)).nodup_iff).2 ?_
    rw [List.map_map]
    exact hk
  refine List.pairwise_iff_getElem.2 (fun i j hi hj hij => ?_)
  simp only [List.length_map, Array.length_toList] at hi hj
  have h1 := hs i j (Nat.zero_le _) hij (by omega)
  rw [getElem!_pos d' j hj, getElem!_pos d' i hi] at h1
  have h2 : ¬ ltA d'[j].1 d'[i].1 := fun e => by rw [(ltE_iff _ _).2 e] at h1; cases h1
  simp only [List.getElem_map, Array.getElem_toList]
  unfold ltA at h2 ⊢
  have h3 := cmpI_anti d'[i].1.k d'[j].1.k
  rcases cmpI_vals d'[i].1.k d'[j].1.k with h | h | h
  · exact h
  · exfalso
    have he := cmpI_eq h
    have := (List.pairwise_iff_getElem.1 hnd) i j (by simpa using hi) (by simpa using hj) hij
    simp at this
    exact this he
  · rw [h] at h3
    exact absurd h3 h2
set_option maxHeartbeats 8000000 in
set_option maxRecDepth 100000 in
theorem all_any {V : World} {pb mb : Nat} {cf : Cf} {now : Int} {line : Value} {L : List (PE × Nat)} (h : Keeps pb cf now mb line L V) (hlen : L.length ≤ 100000) :
    Calls Try.prog 34 #[.pointer (some ⟨pb, 0, none⟩)] V fun e w' => ∃ v, e = .returned v ∧ ∃ S : List PE, S.Perm (L.map (·.1)) ∧ S.Pairwise ltA ∧ SrcE w' v S ∧ Below V.heap.size V w' := by
  generalize hQ : (fun (e : Ending) (w' : World) => ∃ v, e = .returned v ∧ ∃ S : List PE, S.Perm (L.map (·.1)) ∧ S.Pairwise ltA ∧ SrcE w' v S ∧ Below V.heap.size V w') = Q
  have HQ : Hid (∀ e w', (∃ v, e = .returned v ∧ ∃ S : List PE, S.Perm (L.map (·.1)) ∧ S.Pairwise ltA ∧ SrcE w' v S ∧ Below V.heap.size V w') → Q e w') := fun e w' hh => by rw [← hQ]; exact hh
  clear hQ
  obtain ⟨ad, c, hv⟩ := h.p.slc
  have HV : Hid (line = .slice ad L.length c) := hv
  have c6 : V.cell? ⟨pb, 6, none⟩ = some (.slice ad L.length c) := by rw [← hv]; exact h.p.cell 6 _ rfl
  have HK : Hid (Keeps pb cf now mb line L V) := h
  have HSZ : Hid (L.length ≤ 100000) := hlen
  obtain ⟨D, hD⟩ : ∃ D : List PE, D = L.map (·.1) := ⟨_, rfl⟩
  have hDl : D.length = L.length := by rw [hD]; simp
  have HDD : Hid (D = L.map (·.1) ∧ D.length = L.length) := ⟨hD, hDl⟩
  clear hv h hD
  go_enter Try.func34, Try.ntmps34
  go_wp2
  go_loopw [3, 11] (fun lv i wr => ∃ n : Nat, n ≤ L.length ∧ i = .int .i64 n ∧ wr.ownsRow V.heap.size 72 18 lv (D.take n).length ((D.take n).flatMap eE) ∧ Below V.heap.size V wr) (fun _ i _ => L.length - (intOf i).toNat)
  case atStart => exact ⟨0, Nat.zero_le _, rfl, World.ownsRow_nil _ _ _ _, Below.refl _ _⟩
  case round =>
    obtain ⟨n, hn, rfl, hrow, hBk⟩ := hrel
    obtain ⟨la, lc, hlv⟩ := own_slc hrow
    subst hlv
    have HROW : Hid _ := hrow
    have HBR : Hid (Below V.heap.size V wr) := hBk
    by_cases hlt : n < L.length
    · obtain ⟨x, hx⟩ : ∃ x, L[n]? = some x := ⟨_, List.getElem?_eq_getElem hlt⟩
      have hkw := HK.out.on hBk
      obtain ⟨g, c', hv', hce⟩ := hkw.p.at hx
      rw [HV.out] at hv'
      obtain ⟨rfl, rfl⟩ : ad = some ⟨g, 0, none⟩ ∧ c = c' := by injection hv' with h1 _ h3; exact ⟨h1, h3⟩
      have hex := hkw.p.ents x (List.mem_of_getElem? hx)
      have hbx : wr.heap[x.2]? = some (.cells (eE x.1).toArray 72) := by rw [eE_ok hex.1]; exact hex.2
      have HE1 : Hid _ := ld_cE (e := x.1) (CellsAt.blkP (c := eE x.1) (t := 72) hbx)
      have q1 : decide ((n : Int) < L.length) = true := by simpa using hlt
      have w9 : IntKind.i64.wrap ((n : Int) + 1) = (n : Int) + 1 := wrap_i64 _ ⟨by omega, by omega⟩
      have HN : Hid (n < L.length) := hlt
      have hdn : D[n]? = some x.1 := by rw [HDD.out.1]; simp [hx]
      have HNX : Hid (D.take (n + 1) = D.take n ++ [x.1]) := by rw [List.take_add_one, hdn]; rfl
      obtain ⟨x2, X2, hap2, hown2, hb2⟩ := pushE hrow hBk.size (by have h1 := HSZ.out; rw [List.length_take]; omega) x.1 43
      have HBS : Hid _ := bsE wr x.1
      have HAP2 : Hid _ := hap2
      have HR2 : Hid _ := hown2
      have HB2 : Hid (Below V.heap.size V X2) := hBk.trans hb2
      clear hkw hv' hBk hx hrow hap2 hown2 hb2 hex hbx hdn
      go_wp2_with first
        | ((with_reducible show wpList _ _ _ ({ dst := _, op := Op.load 72 (Operand.tmp 17), type := _, pos := _, after := _, guard := _ } :: _) _ _); refine armL (.tmp 17) 72 rfl rfl rfl HE1.out ?_)
        | ((with_reducible show wpList _ _ _ ({ dst := _, op := Op.buildSlice 43 1 #[(0, (Operand.tmp 18))], type := _, pos := _, after := _, guard := _ } :: _) _ _); refine arm_bsE (.tmp 18) 43 rfl rfl rfl HBS.out ?_)
        | ((with_reducible show wpList _ _ _ ({ dst := _, op := Op.call { callee := Callee.builtin Builtin.append, args := #[(Operand.tmp 15), (Operand.tmp 19)], argTypes := #[43, 43] }, type := _, pos := _, after := _, guard := _ } :: _) _ _); refine arm_apE (.tmp 15) (.tmp 19) 43 rfl rfl rfl rfl HAP2.out ?_)
      go_roundw
      case rel => exact ⟨n + 1, HN.out, rfl, by rw [HNX.out]; exact HR2.out, HB2.out⟩
      case measure => show L.length - (n + 1) < L.length - n; have := HN.out; omega
    · obtain rfl : n = L.length := by omega
      have hD1 := HDD.out
      rw [← hD1.2, List.take_length, hD1.2] at hrow
      rw [← hD1.2, List.take_length, hD1.2]
      have HB : Hid (Below V.heap.size V wr) := hBk
      clear HROW HBR hlt hn c6
      by_cases h0 : L.length = 0
      · have hnil : L = [] := List.length_eq_zero_iff.1 h0
        have HSRT : Hid _ := AnyF.slices_SortFunc_none (P := Try.prog) sortL la lc (.func (.func 44) #[] #[]) wr
        have HSRC : Hid (SrcE wr (.slice la 0 lc) []) := by
          rcases hrow.2 with ⟨e, _⟩ | ⟨g, cap, cur, e, _⟩
          · rw [h0] at e
            exact .inl ⟨e, rfl⟩
          · injection e with e1 e2 e3
            subst e1
            exact .inr ⟨_, _, rfl, fun j u hj => by simp at hj⟩
        subst hnil
        clear hrow hBk hD1 h0
        go_wp2_with fail
        refine Calls.mono (show Calls Try.prog 43 _ _ _ from HSRT.out) ?_
        rintro e w2 ⟨rfl, rfl⟩
        go_wp2_with fail
        try go_returns
        exact HQ.out _ _ ⟨_, rfl, [], .refl _, List.Pairwise.nil, HSRC.out, HB.out⟩
      · obtain ⟨g, cap, cur, hvs, hbg, hcur⟩ : ∃ g cap cur, (Value.slice la L.length lc) = .slice (some ⟨g, 0, none⟩) L.length cap ∧ V.heap.size ≤ g ∧ wr.heap[g]? = some (.cells cur 72 (0, 0)) := by
          rcases hrow.2 with ⟨_, e⟩ | ⟨g, cap, cur, e, h1, h2, _⟩
          · exact absurd e h0
          · exact ⟨g, cap, cur, e, h1, h2⟩
        injection hvs with e1 _ e3
        subst e1
        subst e3
        have hok : ∀ x ∈ D, x.Ok := fun x hx => by
          rw [hD1.1] at hx
          obtain ⟨y, hy, rfl⟩ := List.mem_map.1 hx
          exact (HK.out.p.ents y hy).1
        obtain ⟨dl, hdl⟩ : ∃ dl : List OkE, dl.map (·.1) = D := ⟨D.pmap Subtype.mk hok, by rw [List.map_pmap]; simp⟩
        have hds : dl.toArray.size = L.length := by rw [← hD1.2, ← hdl]; simp
        have hrow2 : wr.ownsRow V.heap.size 72 18 (.slice (some ⟨g, 0, none⟩) dl.toArray.size lc) dl.toArray.size ((dl.toArray.toList.map (·.1)).flatMap eE) := by
          rw [hds]
          simp only [hdl]
          exact hrow
        have hH := holds_row hrow2
        have HSRT : Hid _ := AnyQ.slices_SortFunc (P := Try.prog) sortL 18 (fun w => by kernel_rfl) (fun w => by kernel_rfl) encE (fun x => eE_len x.1) (fun x => eE_one x.1) cfE swoE 44 #[] g 0 lc dl.toArray wr (enters_of Try.func44 (by kernel_rfl) rfl) (cmpL g dl.toArray.size wr) hH (Array.getElem?_eq_some_iff.1 hcur).1 (by rw [hds]; have := HSZ.out; omega)
        rw [hds] at HSRT
        have HHO : Hid (HoldsK encE 18 wr g 0 dl.toArray ∧ g < wr.heap.size ∧ V.heap.size ≤ g ∧ dl.map (·.1) = D ∧ dl.toArray.size = L.length) := ⟨hH, (Array.getElem?_eq_some_iff.1 hcur).1, hbg, hdl, hds⟩
        clear hrow hrow2 hBk hD1 h0 hok hcur hH hbg hdl hds
        go_wp2_with fail
        refine Calls.mono (show Calls Try.prog 43 _ _ _ from HSRT.out) ?_
        rintro e w2 ⟨rfl, d', m, os, hp, hs, rfl⟩
        have hho := HHO.out
        rw [← hho.2.2.2.2] at hp hs
        obtain ⟨p1, p2, p3⟩ := sorted_of HK.out.kn (by rw [← HDD.out.1]; exact hho.2.2.2.1) hp hs
        have hsz' : d'.size = L.length := p3.trans hho.2.2.2.2
        have hsr := src_holds (cap := lc) (holdsK_sortWorldK_c encE 18 wr g 0 dl.toArray d' m os hho.1 hho.2.1 p3)
        rw [hsz'] at hsr
        obtain ⟨o1, o2, o3, o4, o5⟩ := sortW wr g m d' os
        have hbl : Below V.heap.size V (sortWorldK encE 18 wr g 0 m d' os) := HB.out.trans ⟨o1, o2, o3, o4, fun j hj => o5 j (by have := HB.out.size; omega) (by omega)⟩
        have HFIN : Hid (∃ S : List PE, S.Perm (L.map (·.1)) ∧ S.Pairwise ltA ∧ SrcE (sortWorldK encE 18 wr g 0 m d' os) (.slice (some ⟨g, 0, none⟩) L.length lc) S ∧ Below V.heap.size V (sortWorldK encE 18 wr g 0 m d' os)) := ⟨_, p1, p2, hsr, hbl⟩
        clear hp hs hho p1 p2 p3 hsz' hsr o1 o2 o3 o4 o5 hbl
        generalize sortWorldK encE 18 wr g 0 m d' os = w3 at *
        go_wp2_with fail
        try go_returns
        exact HQ.out _ _ ⟨_, rfl, HFIN.out⟩
end Go.Proofs.Ytgndiblonhgihaa
