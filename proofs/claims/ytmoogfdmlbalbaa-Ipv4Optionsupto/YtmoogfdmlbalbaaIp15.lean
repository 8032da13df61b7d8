/-
  Hop of both sides, where it goes on.
-/
import Derived.Test.YtmoogfdmlbalbaaIp14
namespace Go.Proofs.Ytmoogfdmlbalbaa
open Go Go.RowKit
set_option linter.unusedVariables false
set_option linter.unusedSimpArgs false

set_option maxHeartbeats 2000000 in
set_option maxRecDepth 100000 in
theorem RHop_ok (c : List Value) (tos id : Int) (df mf : Bool) (off ttl proto s0 s1 s2 s3 d0 d1 d2 d3 : Int) (opts body : List Int) (w : World) (h : Dgram w c tos id df mf off ttl proto s0 s1 s2 s3 d0 d1 d2 d3 opts body) (hk : hopK off ttl opts.length body.length = 0) :
    Calls Try.prog 24 #[.agg c.toArray] w fun e w' => ∃ c', e = .returned (.tuple #[.agg c'.toArray, .int .i64 0]) ∧ Dgram w' c' tos id df mf off (ttl - 1) proto s0 s1 s2 s3 d0 d1 d2 d3 opts body ∧ Below w.heap.size w w' := by
  have hL := h.lens
  have fl := h.fl
  have hS := HopW.start w c
  have HC : Hid _ := fun w => RCheck_calls c off opts.length body.length w hL
  have HLD : Hid _ := hS.load hL.len
  have HS : Hid _ := hS
  have HD : Hid _ := h
  have hcl : c.length = 17 := hL.len
  obtain ⟨so, sb, hc, ho, hb⟩ := h.cells
  have h5 : c[5]? = some (.int .u8 ttl) := by rw [hc.eq]; rfl
  have h15 : c[15]? = some so := by rw [hc.eq]; rfl
  have h16 : c[16]? = some sb := by rw [hc.eq]; rfl
  have hk0 : chk off opts.length body.length = 0 := by
    unfold hopK at hk
    by_cases hz : chk off opts.length body.length = 0
    · exact hz
    · simp [hz] at hk
  have hge : 2 ≤ ttl := by
    unfold hopK at hk
    by_cases hz : ttl < 2
    · simp [hk0, hz] at hk
    · omega
  rw [hk0] at HC
  have q : decide (ttl < 2) = false := by simp; omega
  have HO : Hid _ := ho
  have HBD : Hid _ := hb
  have HCC : Hid _ := hc
  have HCL : Hid _ := hcl
  have HK : Hid _ := hk
  have H5 : Hid _ := h5
  have H15 : Hid _ := h15
  have H16 : Hid _ := h16
  unfold zeroC at *
  clear h hL hS hcl ho hb hc hk hk0 h5 h15 h16
  go_enter Try.func24, Try.ntmps24
  go_wp2_with ((with_reducible show wpList _ _ _ _ _ _); refine arm_load rfl (.tmp 1) 27 rfl rfl HLD.out ?_)
  refine Calls.mono (HC.out _) ?_
  rintro e w2 ⟨rfl, hb2⟩
  have hS2 := HS.out.on hb2
  have k5 := blk_cell hS2.vb H5.out
  have f5 := blk_open hS2.vb 5
  have hS3 := hS2.set 5 (.int .u8 (ttl - 1))
  have e5 : c.set 5 (.int .u8 (ttl - 1)) = [.int .u8 tos, .int .u16 id, .bool df, .bool mf, .int .i64 off, .int .u8 (ttl - 1), .int .u8 proto] ++ ([s0, s1, s2, s3].map (fun z => Value.int .u8 z) ++ ([d0, d1, d2, d3].map (fun z => Value.int .u8 z) ++ [so, sb])) := by rw [HCC.out.eq]; rfl
  have hone : ∀ v ∈ c.set 5 (.int .u8 (ttl - 1)), v.oneCell' = true := by
    obtain ⟨_, _, ao, ko, rfl, _⟩ := HO.out
    obtain ⟨_, _, ab, kb, rfl, _⟩ := HBD.out
    rw [e5]
    simp [Value.oneCell']
  have hl5 : (c.set 5 (.int .u8 (ttl - 1))).length = 17 := by rw [List.length_set]; exact HCL.out
  obtain ⟨w4, hst, hld, hbl, only4⟩ := hS3.slot _ hl5 hone
  have HLV : Hid _ := hS3.load hl5
  have HST : Hid _ := hst
  have HRS : Hid _ := hld
  have hdg : Dgram w4 (c.set 5 (.int .u8 (ttl - 1))) tos id df mf off (ttl - 1) proto s0 s1 s2 s3 d0 d1 d2 d3 opts body :=
    ⟨⟨so, sb, ⟨e5, rfl, rfl⟩, HO.out.later hbl, HBD.out.later hbl⟩, HD.out.hid, HD.out.ft, by omega, HD.out.fp, HD.out.fs, HD.out.fd, HD.out.bo⟩
  have HDG : Hid _ := hdg
  clear hb2 hS2 hS3 hone hl5 hst hld only4 hdg e5 HC HLD HS
  generalize c.set 5 (.int .u8 (ttl - 1)) = c5 at *
  go_wp2_with first
    | ((with_reducible show wpList _ _ _ _ _ _); refine arm_load rfl (.tmp 1) 27 rfl rfl HLV.out ?_)
    | ((with_reducible show wpList _ _ _ _ _ _); refine arm_store rfl (.tmp 2) _ 27 rfl rfl rfl HST.out ?_)
  refine bodyPost_ret (res2 rfl rfl HRS.out) rfl ?_
  exact ⟨_, rfl, HDG.out, hbl⟩

set_option maxHeartbeats 2000000 in
set_option maxRecDepth 100000 in
theorem Hop_ok (c : List Value) (tos id : Int) (df mf : Bool) (off ttl proto s0 s1 s2 s3 d0 d1 d2 d3 : Int) (opts body : List Int) (w : World) (h : Dgram w c tos id df mf off ttl proto s0 s1 s2 s3 d0 d1 d2 d3 opts body) (hk : hopK off ttl opts.length body.length = 0) :
    Calls Try.prog 23 #[.agg c.toArray] w fun e w' => ∃ c', e = .returned (.tuple #[.agg c'.toArray, .int .i64 0]) ∧ Dgram w' c' tos id df mf off (ttl - 1) proto s0 s1 s2 s3 d0 d1 d2 d3 opts body ∧ Below w.heap.size w w' := by
  have hL := h.lens
  have fl := h.fl
  have hS := HopW.start w c
  have HC : Hid _ := fun w => Check_calls c off opts.length body.length w hL
  have HLD : Hid _ := hS.load hL.len
  have HS : Hid _ := hS
  have HD : Hid _ := h
  have hcl : c.length = 17 := hL.len
  obtain ⟨so, sb, hc, ho, hb⟩ := h.cells
  have h5 : c[5]? = some (.int .u8 ttl) := by rw [hc.eq]; rfl
  have h15 : c[15]? = some so := by rw [hc.eq]; rfl
  have h16 : c[16]? = some sb := by rw [hc.eq]; rfl
  have hk0 : chk off opts.length body.length = 0 := by
    unfold hopK at hk
    by_cases hz : chk off opts.length body.length = 0
    · exact hz
    · simp [hz] at hk
  have hge : 2 ≤ ttl := by
    unfold hopK at hk
    by_cases hz : ttl < 2
    · simp [hk0, hz] at hk
    · omega
  rw [hk0] at HC
  have q : decide (ttl ≤ 1) = false := by simp; omega
  have HO : Hid _ := ho
  have HBD : Hid _ := hb
  have HCC : Hid _ := hc
  have HCL : Hid _ := hcl
  have HK : Hid _ := hk
  have H5 : Hid _ := h5
  have H15 : Hid _ := h15
  have H16 : Hid _ := h16
  unfold zeroC at *
  clear h hL hS hcl ho hb hc hk hk0 h5 h15 h16
  go_enter Try.func23, Try.ntmps23
  go_wp2_with ((with_reducible show wpList _ _ _ _ _ _); refine arm_load rfl (.tmp 1) 27 rfl rfl HLD.out ?_)
  refine Calls.mono (HC.out _) ?_
  rintro e w2 ⟨rfl, hb2⟩
  have hS2 := HS.out.on hb2
  have k5 := blk_cell hS2.vb H5.out
  have f5 := blk_open hS2.vb 5
  have hS3 := hS2.set 5 (.int .u8 (ttl - 1))
  have l15 := blk_cell hS3.vb (j := 15) (v := so) (by rw [List.getElem?_set_ne (by decide)]; exact H15.out)
  have HS3 : Hid _ := hS3
  have HCLO : Hid _ := Clone_calls so opts _ (HO.out.later hS3.bel)
  clear hb2 hS2 hS3 HC HLD HS
  go_wp2_with fail
  refine Calls.mono HCLO.out ?_
  rintro e3 w3 ⟨u, rfl, hbu, hb3, hlu⟩
  have hS4 := HS3.out.on hb3
  have k15 := blk_cell hS4.vb (j := 15) (v := so) (by rw [List.getElem?_set_ne (by decide)]; exact H15.out)
  have f15 := blk_open hS4.vb 15
  have hul : opts.length = 0 ∨ ∃ b off n k, u = .slice (some ⟨b, off, none⟩) n k ∧ w.heap.size < b := by
    refine hlu.imp _root_.id ?_
    rintro ⟨b, off, n, k, rfl, hle⟩
    exact ⟨b, off, n, k, rfl, by have := HS3.out.lt; omega⟩
  have hone1 : u.oneCell' = true := by
    obtain ⟨_, _, au, ku, rfl, _⟩ := hbu
    rfl
  have hS5 := hS4.set 15 u
  have hbu5 := bytes_only hbu (Only.set (Only.refl w.heap.size w3) 15 u) hul
  have l16 := blk_cell hS5.vb (j := 16) (v := sb) (by rw [List.getElem?_set_ne (by decide), List.getElem?_set_ne (by decide)]; exact H16.out)
  have HS5 : Hid _ := hS5
  have HBU : Hid _ := hbu5
  have HUL : Hid _ := hul
  have hul1 : opts.length = 0 ∨ ∃ b off n k, u = .slice (some ⟨b, off, none⟩) n k ∧ w.heap.size + 1 < b := by
    refine hlu.imp _root_.id ?_
    rintro ⟨b, off, n, k, rfl, hle⟩
    exact ⟨b, off, n, k, rfl, by have := HS3.out.lt; omega⟩
  have HUL1 : Hid _ := hul1
  have HCLB : Hid _ := Clone_calls sb body _ (HBD.out.later hS5.bel)
  have HO1 : Hid _ := hone1
  obtain ⟨_, _, au, ku, rfl, _⟩ := hbu
  clear hb3 hS4 hS5 HS3 HCLO hbu5 k5 f5 l15 hlu hul hul1 hone1
  go_wp2_with fail
  refine Calls.mono HCLB.out ?_
  rintro e5 w5 ⟨y, rfl, hby, hb5, hly⟩
  have hS6 := HS5.out.on hb5
  have k16 := blk_cell hS6.vb (j := 16) (v := sb) (by rw [List.getElem?_set_ne (by decide), List.getElem?_set_ne (by decide)]; exact H16.out)
  have f16 := blk_open hS6.vb 16
  have hyl : body.length = 0 ∨ ∃ b off n k, y = .slice (some ⟨b, off, none⟩) n k ∧ w.heap.size < b := by
    refine hly.imp _root_.id ?_
    rintro ⟨b, off, n, k, rfl, hle⟩
    exact ⟨b, off, n, k, rfl, by have := HS5.out.lt; omega⟩
  have hyl1 : body.length = 0 ∨ ∃ b off n k, y = .slice (some ⟨b, off, none⟩) n k ∧ w.heap.size + 1 < b := by
    refine hly.imp _root_.id ?_
    rintro ⟨b, off, n, k, rfl, hle⟩
    exact ⟨b, off, n, k, rfl, by have := HS5.out.lt; omega⟩
  have hS7 := hS6.set 16 y
  have hby7 := bytes_only hby (Only.set (Only.refl w.heap.size w5) 16 y) hyl
  have hbu7 := bytes_only (HBU.out.later hb5) (Only.set (Only.refl w.heap.size w5) 16 y) HUL.out
  have hone2 : y.oneCell' = true := by
    obtain ⟨_, _, ay, ky, rfl, _⟩ := hby
    rfl
  have e7 : ((c.set 5 (.int .u8 (ttl - 1))).set 15 (.slice au opts.length ku)).set 16 y = [.int .u8 tos, .int .u16 id, .bool df, .bool mf, .int .i64 off, .int .u8 (ttl - 1), .int .u8 proto] ++ ([s0, s1, s2, s3].map (fun z => Value.int .u8 z) ++ ([d0, d1, d2, d3].map (fun z => Value.int .u8 z) ++ [.slice au opts.length ku, y])) := by rw [HCC.out.eq]; rfl
  have hone : ∀ v ∈ ((c.set 5 (.int .u8 (ttl - 1))).set 15 (.slice au opts.length ku)).set 16 y, v.oneCell' = true := by
    obtain ⟨_, _, ay, ky, rfl, _⟩ := hby
    rw [e7]
    simp [Value.oneCell']
  have hl7 : (((c.set 5 (.int .u8 (ttl - 1))).set 15 (.slice au opts.length ku)).set 16 y).length = 17 := by rw [List.length_set, List.length_set, List.length_set]; exact HCL.out
  obtain ⟨w8, hst, hld, hbl, only8⟩ := hS7.slot _ hl7 hone
  have HLV : Hid _ := hS7.load hl7
  have HST : Hid _ := hst
  have HRS : Hid _ := hld
  have hby8 := bytes_only hby7 only8 hyl1
  have hbu8 := bytes_only hbu7 only8 HUL1.out
  have hdg : Dgram w8 (((c.set 5 (.int .u8 (ttl - 1))).set 15 (.slice au opts.length ku)).set 16 y) tos id df mf off (ttl - 1) proto s0 s1 s2 s3 d0 d1 d2 d3 opts body :=
    ⟨⟨_, _, ⟨e7, rfl, rfl⟩, hbu8, hby8⟩, HD.out.hid, HD.out.ft, by omega, HD.out.fp, HD.out.fs, HD.out.fd, HD.out.bo⟩
  have HDG : Hid _ := hdg
  obtain ⟨_, _, ay, ky, rfl, _⟩ := hby
  clear hb5 hS6 hS7 hone hl7 hst hld only8 hdg e7 hby7 hbu7 hby8 hbu8 hyl hyl1 hly HCLB HS5 HBU HUL HUL1 HO1 k15 f15 l16 hone2
  generalize ((c.set 5 (.int .u8 (ttl - 1))).set 15 (.slice au opts.length ku)).set 16 (.slice ay body.length ky) = c7 at *
  go_wp2_with first
    | ((with_reducible show wpList _ _ _ _ _ _); refine arm_load rfl (.tmp 1) 27 rfl rfl HLV.out ?_)
    | ((with_reducible show wpList _ _ _ _ _ _); refine arm_store rfl (.tmp 2) _ 27 rfl rfl rfl HST.out ?_)
  refine bodyPost_ret (res2 rfl rfl HRS.out) rfl ?_
  exact ⟨_, rfl, HDG.out, hbl⟩

end Go.Proofs.Ytmoogfdmlbalbaa
