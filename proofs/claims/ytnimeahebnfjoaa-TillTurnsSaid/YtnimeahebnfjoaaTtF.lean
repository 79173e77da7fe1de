/- The till: Turns of the reference. -/
import Derived.Test.YtnimeahebnfjoaaTtE
namespace Go.Proofs.Ytnimeahebnfjoaa.Ev
set_option linter.unusedVariables false
set_option linter.unusedSimpArgs false
set_option maxRecDepth 100000
open Go Go.Proofs
attribute [local go_sem] evC_seq evC_reg evC_cond evC_block evC_skip evC_exit evC_ret evR_cons evR_nil evR_gd guardB_tt guardB_ff guardB_tf guardB_ft guardB_none bindR_ok bindR_okn rgRs_ok seqR_nor seqR_ext seqR_ret condR_true condR_false blockR_nor blockR_ext blockR_ret evX_t evX_c evXL_nil evXL_cons O_mv O_bin O_pick O_eqb O_not O_ext O_call O_conv O_slen O_six O_sbi pv_I pv_i pv_b pv_s pv_ns pv_sl pv_p pv_tu pv_ag bin_lss bin_leq bin_gtr bin_geq bin_eql bin_neq bin8_eql bin8_neq bin_add bin_sub bin_mul get_st get_lf bind_nil bind_cons if_true if_false Got_nor Got_ext Got_ret Kseq Kblk Klp Kend onStr_s onB_b onT_tu onI_I onN_I onK_I eqb_b not_b nthL_0 nthL_1 nthL_2 known_nil known_cons I_known known_b known_s evRVs_nil evRVs_cons evRes_1 evRes_2 evRV_tmp Bool.and_true Bool.true_and Bool.and_self Bool.not_true Bool.not_false decide_true decide_false Int.toNat_natCast true_and and_true big hget_same hget_ne newB_n onP_p onS_sl onS_ns O_fad O_alloc_if O_ixs O_len O_ld O_st O_box boxB_if ldB_if ldB_agif stB_if toL_I toL_i toL_b toL_s toL_sl toL_ns toL_ag allC_nil allC_cons isC_i isC_b isC_s isC_sl isC_ns I_isC Llen_nil Llen_cons Lget_0 Lget_1 Lget_2 Lget_3 blkL_size cell_blkL_if getL_blkL_if getL_setL_if setL_sz evRV_cell' rvB_agif rvB_if evPL_cons bldK_if evPL_nil O_build O_part evBuild_ok okL_some onA_ag partV_1 evPart_eq updS_nil updS_cons upd_0 upd_1 upd_2 upd_3 ge_iff_le if_pos and_self Nat.le_refl known_ag known_sl known_ns known_i ov_at spS_eq spSI_eq spSII_eq spI_eq spII_eq spIII_eq spIIII_eq res_v res_sl res_slE Good I_pur pur_b pur_s pur_i pur_ns pur_ag pur_tu purL_nil purL_cons evDr_eq evDs_nil evDs_cons dsR_ok stepD_eq sdB_n sdB_g sdG_tt sdG_ff sdG_tf sdG_ft sdG_none runD_0 rdR_f rdR_t baseOf_pu baseOf_h baseU_nil baseA_nil baseA_0 baseR_nil baseR_0 baseR_00 appAll_nil appAll_0 restr_nil restr_cons setD_some setD_none evC_draw iL_len iL_get iL_allC iL_pur hp0_0 hp0_c rdL_ns rdL_sl List.length_cons List.length_nil O_mks mkB_if O_bsl bslB_if O_app apX_ns apX_sl apN_some apS_some blkL_el Nat.one_mul Nat.mul_one Nat.zero_add n_I onF_fn O_callv app_nil app_cons spLF_eq spL_eq spLL_eq onL_some onLL_ss onLL_ns onLL_sn onLL_nn rdB_blk Int.cast_ofNat_Int

def kpJ (rs : List Nat) (z : Int) (j : Nat) : Bool := decide (lck rs 0 < 0) && (List.range j).all fun i => decide (z ≤ aft rs 0 (i + 1))
theorem kpJ_succ (rs : List Nat) (z : Int) (j : Nat) : kpJ rs z (j + 1) = (kpJ rs z j && decide (z ≤ aft rs 0 (j + 1))) := by
  unfold kpJ
  rw [List.range_succ, List.all_append]
  simp [Bool.and_assoc]
theorem kpJ_end {bs : List Nat} {z : Int} {k : Nat} (hk : k ≤ bs.length) (hz : 0 ≤ z) : kpJ (rot bs k) z bs.length = keeps bs z k := by
  rw [Bool.eq_iff_iff]
  unfold kpJ
  rw [Bool.and_eq_true, decide_eq_true_eq, lck_neg, rot_len hk]
  constructor
  · intro h; exact h.2
  · intro h
    refine ⟨fun j hj => ?_, h⟩
    have := keeps_iff.1 h j hj
    omega
noncomputable def F32 : FF := ov 54 (spSI f47) (ov 55 (spSI f55) (ov 52 (spSII f52) F0))
theorem F32_ok : FOK Try.prog F32 := ov_ok ok54 (ov_ok ok55 (ov_ok ok52 (F0_ok _)))
theorem F32_mono : F32.mono := ov_mono (spSI_mo _) (ov_mono (spSI_mo _) (ov_mono (spSII_mo _) F0_mono))
set_option maxHeartbeats 8000000 in
theorem run32 (bs : List Nat) (z : Int) (hb : bs.length < 9223372036854775808) : JQ Try.prog drops Try.f32.ntmps F32 q32 256 (Kend res32 (Good 0 (o31 bs z))) (bind (.cons (.s bs) (.cons (I z) .nil)) 0 .lf) .lf 256 := by
  have hF := F32_ok
  have hM := F32_mono
  unfold q32
  (refine JQ.step follows hF hM ?_; simp (config := { maxSteps := 4000000 }) (disch := (omega)) only [go_sem, Nat.reduceLT, Nat.reduceEqDiff, reduceIte, Nat.reduceAdd, Nat.reduceSub, Nat.reduceLeDiff, Int.reduceEq, Int.reduceLT, Int.reduceLE, Int.reduceNeg, Int.reduceAdd, Int.reduceSub, Int.reduceToNat, Int.reduceMul, Nat.reduceMul])
  (refine JQ.step follows hF hM ?_; simp (config := { maxSteps := 4000000 }) (disch := (omega)) only [go_sem, Nat.reduceLT, Nat.reduceEqDiff, reduceIte, Nat.reduceAdd, Nat.reduceSub, Nat.reduceLeDiff, Int.reduceEq, Int.reduceLT, Int.reduceLE, Int.reduceNeg, Int.reduceAdd, Int.reduceSub, Int.reduceToNat, Int.reduceMul, Nat.reduceMul, F32, f47])
  by_cases h0 : chkB bs z = 0
  · obtain ⟨c1, c2, c3⟩ := chkB_0 h0
    (refine JQ.step follows hF hM ?_; simp (config := { maxSteps := 4000000 }) (disch := (omega)) only [go_sem, Nat.reduceLT, Nat.reduceEqDiff, reduceIte, Nat.reduceAdd, Nat.reduceSub, Nat.reduceLeDiff, Int.reduceEq, Int.reduceLT, Int.reduceLE, Int.reduceNeg, Int.reduceAdd, Int.reduceSub, Int.reduceToNat, Int.reduceMul, Nat.reduceMul, eq_true h0])
    (refine JQ.step follows hF hM ?_; simp (config := { maxSteps := 4000000 }) (disch := (omega)) only [go_sem, Nat.reduceLT, Nat.reduceEqDiff, reduceIte, Nat.reduceAdd, Nat.reduceSub, Nat.reduceLeDiff, Int.reduceEq, Int.reduceLT, Int.reduceLE, Int.reduceNeg, Int.reduceAdd, Int.reduceSub, Int.reduceToNat, Int.reduceMul, Nat.reduceMul])
    refine JQ.seq ?_
    (refine JQ.step follows hF hM ?_; simp (config := { maxSteps := 4000000 }) (disch := (omega)) only [go_sem, Nat.reduceLT, Nat.reduceEqDiff, reduceIte, Nat.reduceAdd, Nat.reduceSub, Nat.reduceLeDiff, Int.reduceEq, Int.reduceLT, Int.reduceLE, Int.reduceNeg, Int.reduceAdd, Int.reduceSub, Int.reduceToNat, Int.reduceMul, Nat.reduceMul])
    refine JQ.block ?_
    refine JQ.loop (σ := Nat × Nat) (fun s => s.1 ≤ bs.length ∧ 255 ≤ s.2 ∧ (0 < (tuL bs z s.1).length → s.2 + 1 < 256 + 2 * (tuL bs z s.1).length)) (fun s => (((Tr.lf.set (.s bs) (tp 0)).set (I z) (tp 1)).set (apW (tuL bs z s.1) s.2) (tp 7)).set (I s.1) (tp 8)) (fun s => apG (tuL bs z s.1) s.2) (fun s => 256 + 2 * (tuL bs z s.1).length) (fun s => bs.length - s.1) (0, 255) ⟨Nat.zero_le _, Nat.le_refl _, fun h => by simp [tuL] at h⟩ (by ((repeat' (first | exact EnvLe.lf _ | refine EnvLe.set (by decide) ?_ ?_)) <;> first | exact EnvLe.lf _ | (simp (config := { maxSteps := 4000000 }) (disch := (omega)) only [go_sem, Nat.reduceLT, Nat.reduceEqDiff, reduceIte, Nat.reduceAdd, Nat.reduceSub, Nat.reduceLeDiff, Int.reduceEq, Int.reduceLT, Int.reduceLE, Int.reduceNeg, Int.reduceAdd, Int.reduceSub, Int.reduceToNat, Int.reduceMul, Nat.reduceMul, apW, tuL, Int.natCast_add, Int.cast_ofNat_Int]; done) | (simp (config := { maxSteps := 4000000 }) (disch := (omega)) only [go_sem, Nat.reduceLT, Nat.reduceEqDiff, reduceIte, Nat.reduceAdd, Nat.reduceSub, Nat.reduceLeDiff, Int.reduceEq, Int.reduceLT, Int.reduceLE, Int.reduceNeg, Int.reduceAdd, Int.reduceSub, Int.reduceToNat, Int.reduceMul, Nat.reduceMul, apW, tuL, Int.natCast_add, Int.cast_ofNat_Int] <;> first | rfl | (congr 1; omega)))) (HpLe.refl _) rfl ?_
    rintro ⟨k, q⟩ ⟨hk, hq0, hq⟩
    dsimp only at hk hq0 hq ⊢
    unfold q32_l1
    have hlen := tuL_len bs z k
    by_cases hlt : k < bs.length
    · have hlt' : (k : Int) < (bs.length : Int) := by omega
      have hld : (bs.drop k).length = bs.length - k := List.length_drop ..
      have hlk : (bs.take k).length = k := by rw [List.length_take]; omega
      have hrot : bs.drop k ++ bs.take k = rot bs k := rfl
      have hrl := rot_len hk
      have hke := kpJ_end hk c2
      have hs1 : tuL bs z (k + 1) = if keeps bs z k then tuL bs z k ++ [(k : Int)] else tuL bs z k := rfl
      obtain ⟨xs, hxs⟩ : ∃ xs, xs = tuL bs z k := ⟨_, rfl⟩
      rw [← hxs] at hlen hq hs1 ⊢
      obtain ⟨rs, hrs⟩ : ∃ rs, rs = rot bs k := ⟨_, rfl⟩
      rw [← hrs] at hrot hrl hke
      have e1 : 256 + 2 * xs.length - 1 = 255 + 2 * xs.length := by omega
      have e2 : 256 + 2 * xs.length + 1 - 1 = 256 + 2 * xs.length := by omega
      have hk0 : kpJ rs z 0 = decide (lck rs 0 < 0) := by unfold kpJ; simp
      (refine JQ.step follows hF hM ?_; simp (config := { maxSteps := 4000000 }) (disch := (omega)) only [go_sem, Nat.reduceLT, Nat.reduceEqDiff, reduceIte, Nat.reduceAdd, Nat.reduceSub, Nat.reduceLeDiff, Int.reduceEq, Int.reduceLT, Int.reduceLE, Int.reduceNeg, Int.reduceAdd, Int.reduceSub, Int.reduceToNat, Int.reduceMul, Nat.reduceMul, small_len, hlt'])
      try (refine ⟨by omega, ?_⟩)
      refine JQ.cut ((((Tr.lf.set (.s bs) (tp 0)).set (I z) (tp 1)).set (apW (tuL bs z (k + 1)) (if keeps bs z k then 256 + 2 * xs.length else q)) (tp 7)).set (I k) (tp 8)) (apG (tuL bs z (k + 1)) (if keeps bs z k then 256 + 2 * xs.length else q)) (256 + 2 * (tuL bs z (k + 1)).length) ?_ ?_
      · refine JQ.block ?_
        (refine JQ.step follows hF hM ?_; simp (config := { maxSteps := 4000000 }) (disch := (omega)) only [go_sem, Nat.reduceLT, Nat.reduceEqDiff, reduceIte, Nat.reduceAdd, Nat.reduceSub, Nat.reduceLeDiff, Int.reduceEq, Int.reduceLT, Int.reduceLE, Int.reduceNeg, Int.reduceAdd, Int.reduceSub, Int.reduceToNat, Int.reduceMul, Nat.reduceMul, O_ssl_a, O_ssl_b, strV_add, hld, hlk, hrot])
        try (refine ⟨by omega, ?_⟩)
        (refine JQ.step follows hF hM ?_; simp (config := { maxSteps := 4000000 }) (disch := (omega)) only [go_sem, Nat.reduceLT, Nat.reduceEqDiff, reduceIte, Nat.reduceAdd, Nat.reduceSub, Nat.reduceLeDiff, Int.reduceEq, Int.reduceLT, Int.reduceLE, Int.reduceNeg, Int.reduceAdd, Int.reduceSub, Int.reduceToNat, Int.reduceMul, Nat.reduceMul, F32, f55])
        try (refine ⟨by omega, ?_⟩)
        refine JQ.seq ?_
        (refine JQ.step follows hF hM ?_; simp (config := { maxSteps := 4000000 }) (disch := (omega)) only [go_sem, Nat.reduceLT, Nat.reduceEqDiff, reduceIte, Nat.reduceAdd, Nat.reduceSub, Nat.reduceLeDiff, Int.reduceEq, Int.reduceLT, Int.reduceLE, Int.reduceNeg, Int.reduceAdd, Int.reduceSub, Int.reduceToNat, Int.reduceMul, Nat.reduceMul])
        try (refine ⟨by omega, ?_⟩)
        refine JQ.block ?_
        refine JQ.loop (σ := Nat) (fun j => j ≤ bs.length) (fun j => ((((((Tr.lf.set (.s bs) (tp 0)).set (I z) (tp 1)).set (apW xs q) (tp 7)).set (I k) (tp 8)).set (.s rs) (tp 9)).set (.b (kpJ rs z j)) (tp 10)).set (I j) (tp 11)) (fun _ => apG xs q) (fun _ => 256 + 2 * xs.length) (fun j => bs.length - j) 0 (Nat.zero_le _) (by ((repeat' (first | exact EnvLe.lf _ | refine EnvLe.set (by decide) ?_ ?_)) <;> first | exact EnvLe.lf _ | (simp (config := { maxSteps := 4000000 }) (disch := (omega)) only [go_sem, Nat.reduceLT, Nat.reduceEqDiff, reduceIte, Nat.reduceAdd, Nat.reduceSub, Nat.reduceLeDiff, Int.reduceEq, Int.reduceLT, Int.reduceLE, Int.reduceNeg, Int.reduceAdd, Int.reduceSub, Int.reduceToNat, Int.reduceMul, Nat.reduceMul, hk0, Int.natCast_add, Int.cast_ofNat_Int]; done) | (simp (config := { maxSteps := 4000000 }) (disch := (omega)) only [go_sem, Nat.reduceLT, Nat.reduceEqDiff, reduceIte, Nat.reduceAdd, Nat.reduceSub, Nat.reduceLeDiff, Int.reduceEq, Int.reduceLT, Int.reduceLE, Int.reduceNeg, Int.reduceAdd, Int.reduceSub, Int.reduceToNat, Int.reduceMul, Nat.reduceMul, hk0, Int.natCast_add, Int.cast_ofNat_Int] <;> first | rfl | (congr 1; omega)))) (HpLe.refl _) rfl ?_
        intro j hj
        unfold q32_l0
        by_cases hjt : j < bs.length
        · have hjt' : (j : Int) < (rs.length : Int) := by omega
          have ht : ((j : Int) + 1).toNat = j + 1 := by omega
          have hsu := kpJ_succ rs z j
          cases hkj : kpJ rs z j with
          | true =>
            rw [hkj, Bool.true_and] at hsu
            (refine JQ.run follows hF hM ?_; simp (config := { maxSteps := 4000000 }) (disch := (omega)) only [go_sem, Nat.reduceLT, Nat.reduceEqDiff, reduceIte, Nat.reduceAdd, Nat.reduceSub, Nat.reduceLeDiff, Int.reduceEq, Int.reduceLT, Int.reduceLE, Int.reduceNeg, Int.reduceAdd, Int.reduceSub, Int.reduceToNat, Int.reduceMul, Nat.reduceMul, small_len, hjt', F32, f52, ht])
            exact ⟨by omega, j + 1, by omega, by omega, by ((repeat' (first | exact EnvLe.lf _ | refine EnvLe.set (by decide) ?_ ?_)) <;> first | exact EnvLe.lf _ | (simp (config := { maxSteps := 4000000 }) (disch := (omega)) only [go_sem, Nat.reduceLT, Nat.reduceEqDiff, reduceIte, Nat.reduceAdd, Nat.reduceSub, Nat.reduceLeDiff, Int.reduceEq, Int.reduceLT, Int.reduceLE, Int.reduceNeg, Int.reduceAdd, Int.reduceSub, Int.reduceToNat, Int.reduceMul, Nat.reduceMul, hsu, Int.natCast_add, Int.cast_ofNat_Int]; done) | (simp (config := { maxSteps := 4000000 }) (disch := (omega)) only [go_sem, Nat.reduceLT, Nat.reduceEqDiff, reduceIte, Nat.reduceAdd, Nat.reduceSub, Nat.reduceLeDiff, Int.reduceEq, Int.reduceLT, Int.reduceLE, Int.reduceNeg, Int.reduceAdd, Int.reduceSub, Int.reduceToNat, Int.reduceMul, Nat.reduceMul, hsu, Int.natCast_add, Int.cast_ofNat_Int] <;> first | rfl | (congr 1; omega))), HpLe.refl _⟩
          | false =>
            rw [hkj, Bool.false_and] at hsu
            (refine JQ.run follows hF hM ?_; simp (config := { maxSteps := 4000000 }) (disch := (omega)) only [go_sem, Nat.reduceLT, Nat.reduceEqDiff, reduceIte, Nat.reduceAdd, Nat.reduceSub, Nat.reduceLeDiff, Int.reduceEq, Int.reduceLT, Int.reduceLE, Int.reduceNeg, Int.reduceAdd, Int.reduceSub, Int.reduceToNat, Int.reduceMul, Nat.reduceMul, small_len, hjt'])
            exact ⟨by omega, j + 1, by omega, by omega, by ((repeat' (first | exact EnvLe.lf _ | refine EnvLe.set (by decide) ?_ ?_)) <;> first | exact EnvLe.lf _ | (simp (config := { maxSteps := 4000000 }) (disch := (omega)) only [go_sem, Nat.reduceLT, Nat.reduceEqDiff, reduceIte, Nat.reduceAdd, Nat.reduceSub, Nat.reduceLeDiff, Int.reduceEq, Int.reduceLT, Int.reduceLE, Int.reduceNeg, Int.reduceAdd, Int.reduceSub, Int.reduceToNat, Int.reduceMul, Nat.reduceMul, hsu, Int.natCast_add, Int.cast_ofNat_Int]; done) | (simp (config := { maxSteps := 4000000 }) (disch := (omega)) only [go_sem, Nat.reduceLT, Nat.reduceEqDiff, reduceIte, Nat.reduceAdd, Nat.reduceSub, Nat.reduceLeDiff, Int.reduceEq, Int.reduceLT, Int.reduceLE, Int.reduceNeg, Int.reduceAdd, Int.reduceSub, Int.reduceToNat, Int.reduceMul, Nat.reduceMul, hsu, Int.natCast_add, Int.cast_ofNat_Int] <;> first | rfl | (congr 1; omega))), HpLe.refl _⟩
        · obtain rfl : j = bs.length := by omega
          have hjt' : ¬ (bs.length : Int) < (rs.length : Int) := by omega
          (refine JQ.run follows hF hM ?_; simp (config := { maxSteps := 4000000 }) (disch := (omega)) only [go_sem, Nat.reduceLT, Nat.reduceEqDiff, reduceIte, Nat.reduceAdd, Nat.reduceSub, Nat.reduceLeDiff, Int.reduceEq, Int.reduceLT, Int.reduceLE, Int.reduceNeg, Int.reduceAdd, Int.reduceSub, Int.reduceToNat, Int.reduceMul, Nat.reduceMul, small_len, hjt'])
          try (refine ⟨by omega, ?_⟩)
          by_cases hkp : keeps bs z k = true
          · simp only [if_pos hkp]
            rw [if_pos hkp] at hs1
            by_cases hz : xs.length = 0
            · have hv : apW xs q = .ns := if_pos hz
              have hh : apG xs q = .lf := if_pos hz
              obtain rfl : xs = [] := List.eq_nil_of_length_eq_zero hz
              have hv2 : apW (tuL bs z (k + 1)) 256 = .sl (tp 256) 0 1 1 none := by rw [hs1]; exact if_neg (by simp)
              have hh2 : apG (tuL bs z (k + 1)) 256 = Hp.lf.put (some (blkL 3 (iL [(k : Int)]))) (tp 256) := by rw [hs1]; exact if_neg (by simp)
              have hl2 : (tuL bs z (k + 1)).length = 1 := by rw [hs1]; rfl
              rw [hv, hh]
              (refine JQ.run follows hF hM ?_; simp (config := { maxSteps := 4000000 }) (disch := (omega)) only [go_sem, Nat.reduceLT, Nat.reduceEqDiff, reduceIte, Nat.reduceAdd, Nat.reduceSub, Nat.reduceLeDiff, Int.reduceEq, Int.reduceLT, Int.reduceLE, Int.reduceNeg, Int.reduceAdd, Int.reduceSub, Int.reduceToNat, Int.reduceMul, Nat.reduceMul, hke, hkp, Kcut, hv2, hh2, hl2])
              exact ⟨by ((repeat' (first | exact EnvLe.lf _ | refine EnvLe.set (by decide) ?_ ?_)) <;> first | exact EnvLe.lf _ | (simp (config := { maxSteps := 4000000 }) (disch := (omega)) only [go_sem, Nat.reduceLT, Nat.reduceEqDiff, reduceIte, Nat.reduceAdd, Nat.reduceSub, Nat.reduceLeDiff, Int.reduceEq, Int.reduceLT, Int.reduceLE, Int.reduceNeg, Int.reduceAdd, Int.reduceSub, Int.reduceToNat, Int.reduceMul, Nat.reduceMul, hv2, Int.natCast_add, Int.cast_ofNat_Int]; done) | (simp (config := { maxSteps := 4000000 }) (disch := (omega)) only [go_sem, Nat.reduceLT, Nat.reduceEqDiff, reduceIte, Nat.reduceAdd, Nat.reduceSub, Nat.reduceLeDiff, Int.reduceEq, Int.reduceLT, Int.reduceLE, Int.reduceNeg, Int.reduceAdd, Int.reduceSub, Int.reduceToNat, Int.reduceMul, Nat.reduceMul, hv2, Int.natCast_add, Int.cast_ofNat_Int] <;> first | rfl | (congr 1; omega))), HpLe.put ⟨_, hget_same _ _ _, BlkLe.refl _⟩ (HpLe.lf _)⟩
            · have hv : apW xs q = .sl (tp q) 0 1 xs.length none := if_neg hz
              have hh : apG xs q = Hp.lf.put (some (blkL 3 (iL xs))) (tp q) := if_neg hz
              have hq1 := hq (by omega)
              have hl2 : (tuL bs z (k + 1)).length = xs.length + 1 := by rw [hs1, List.length_append]; rfl
              have hv2 : apW (tuL bs z (k + 1)) (256 + 2 * xs.length) = .sl (tp (256 + 2 * xs.length)) 0 1 (xs.length + 1) none := by rw [apW, if_neg (by omega), hl2]
              have hh2 : apG (tuL bs z (k + 1)) (256 + 2 * xs.length) = Hp.lf.put (some (blkL 3 (iL (xs ++ [(k : Int)])))) (tp (256 + 2 * xs.length)) := by rw [apG, if_neg (by omega), hs1]
              have hg := grown_le (el := 3) (xs := xs) (z := (k : Int)) (by omega)
              rw [hv, hh]
              (refine JQ.run follows hF hM ?_; simp (config := { maxSteps := 4000000 }) (disch := (omega)) only [go_sem, Nat.reduceLT, Nat.reduceEqDiff, reduceIte, Nat.reduceAdd, Nat.reduceSub, Nat.reduceLeDiff, Int.reduceEq, Int.reduceLT, Int.reduceLE, Int.reduceNeg, Int.reduceAdd, Int.reduceSub, Int.reduceToNat, Int.reduceMul, Nat.reduceMul, hke, hkp, Kcut, hv2, hh2, hl2, e1, e2])
              exact ⟨by omega, by ((repeat' (first | exact EnvLe.lf _ | refine EnvLe.set (by decide) ?_ ?_)) <;> first | exact EnvLe.lf _ | (simp (config := { maxSteps := 4000000 }) (disch := (omega)) only [go_sem, Nat.reduceLT, Nat.reduceEqDiff, reduceIte, Nat.reduceAdd, Nat.reduceSub, Nat.reduceLeDiff, Int.reduceEq, Int.reduceLT, Int.reduceLE, Int.reduceNeg, Int.reduceAdd, Int.reduceSub, Int.reduceToNat, Int.reduceMul, Nat.reduceMul, hv2, Int.natCast_add, Int.cast_ofNat_Int]; done) | (simp (config := { maxSteps := 4000000 }) (disch := (omega)) only [go_sem, Nat.reduceLT, Nat.reduceEqDiff, reduceIte, Nat.reduceAdd, Nat.reduceSub, Nat.reduceLeDiff, Int.reduceEq, Int.reduceLT, Int.reduceLE, Int.reduceNeg, Int.reduceAdd, Int.reduceSub, Int.reduceToNat, Int.reduceMul, Nat.reduceMul, hv2, Int.natCast_add, Int.cast_ofNat_Int] <;> first | rfl | (congr 1; omega))), HpLe.put ⟨_, hget_same _ _ _, hg⟩ (HpLe.lf _), by omega⟩
          · have hkp' : keeps bs z k = false := by simpa using hkp
            simp only [if_neg hkp]
            rw [if_neg hkp] at hs1
            (refine JQ.run follows hF hM ?_; simp (config := { maxSteps := 4000000 }) (disch := (omega)) only [go_sem, Nat.reduceLT, Nat.reduceEqDiff, reduceIte, Nat.reduceAdd, Nat.reduceSub, Nat.reduceLeDiff, Int.reduceEq, Int.reduceLT, Int.reduceLE, Int.reduceNeg, Int.reduceAdd, Int.reduceSub, Int.reduceToNat, Int.reduceMul, Nat.reduceMul, hke, hkp', Kcut, hs1])
            exact ⟨by omega, by ((repeat' (first | exact EnvLe.lf _ | refine EnvLe.set (by decide) ?_ ?_)) <;> first | exact EnvLe.lf _ | (simp (config := { maxSteps := 4000000 }) (disch := (omega)) only [go_sem, Nat.reduceLT, Nat.reduceEqDiff, reduceIte, Nat.reduceAdd, Nat.reduceSub, Nat.reduceLeDiff, Int.reduceEq, Int.reduceLT, Int.reduceLE, Int.reduceNeg, Int.reduceAdd, Int.reduceSub, Int.reduceToNat, Int.reduceMul, Nat.reduceMul, hs1, Int.natCast_add, Int.cast_ofNat_Int]; done) | (simp (config := { maxSteps := 4000000 }) (disch := (omega)) only [go_sem, Nat.reduceLT, Nat.reduceEqDiff, reduceIte, Nat.reduceAdd, Nat.reduceSub, Nat.reduceLeDiff, Int.reduceEq, Int.reduceLT, Int.reduceLE, Int.reduceNeg, Int.reduceAdd, Int.reduceSub, Int.reduceToNat, Int.reduceMul, Nat.reduceMul, hs1, Int.natCast_add, Int.cast_ofNat_Int] <;> first | rfl | (congr 1; omega))), HpLe.refl _⟩
      · have hl3 := tuL_len bs z (k + 1)
        (refine JQ.run follows hF hM ?_; simp (config := { maxSteps := 4000000 }) (disch := (omega)) only [go_sem, Nat.reduceLT, Nat.reduceEqDiff, reduceIte, Nat.reduceAdd, Nat.reduceSub, Nat.reduceLeDiff, Int.reduceEq, Int.reduceLT, Int.reduceLE, Int.reduceNeg, Int.reduceAdd, Int.reduceSub, Int.reduceToNat, Int.reduceMul, Nat.reduceMul])
        refine ⟨by omega, (k + 1, if keeps bs z k then 256 + 2 * xs.length else q), ⟨by omega, by dsimp only; split <;> omega, fun h => ?_⟩, by dsimp only; omega, by ((repeat' (first | exact EnvLe.lf _ | refine EnvLe.set (by decide) ?_ ?_)) <;> first | exact EnvLe.lf _ | (simp (config := { maxSteps := 4000000 }) (disch := (omega)) only [go_sem, Nat.reduceLT, Nat.reduceEqDiff, reduceIte, Nat.reduceAdd, Nat.reduceSub, Nat.reduceLeDiff, Int.reduceEq, Int.reduceLT, Int.reduceLE, Int.reduceNeg, Int.reduceAdd, Int.reduceSub, Int.reduceToNat, Int.reduceMul, Nat.reduceMul, Int.natCast_add, Int.cast_ofNat_Int]; done) | (simp (config := { maxSteps := 4000000 }) (disch := (omega)) only [go_sem, Nat.reduceLT, Nat.reduceEqDiff, reduceIte, Nat.reduceAdd, Nat.reduceSub, Nat.reduceLeDiff, Int.reduceEq, Int.reduceLT, Int.reduceLE, Int.reduceNeg, Int.reduceAdd, Int.reduceSub, Int.reduceToNat, Int.reduceMul, Nat.reduceMul, Int.natCast_add, Int.cast_ofNat_Int] <;> first | rfl | (congr 1; omega))), HpLe.refl _, rfl⟩
        dsimp only at h ⊢
        by_cases hkp : keeps bs z k = true
        · rw [if_pos hkp] at hs1 ⊢
          rw [hs1, List.length_append]
          simp
          omega
        · rw [if_neg hkp] at hs1 ⊢
          rw [hs1] at h ⊢
          exact hq h
    · obtain rfl : k = bs.length := by omega
      (refine JQ.run follows hF hM ?_; simp (config := { maxSteps := 4000000 }) (disch := (omega)) only [go_sem, Nat.reduceLT, Nat.reduceEqDiff, reduceIte, Nat.reduceAdd, Nat.reduceSub, Nat.reduceLeDiff, Int.reduceEq, Int.reduceLT, Int.reduceLE, Int.reduceNeg, Int.reduceAdd, Int.reduceSub, Int.reduceToNat, Int.reduceMul, Nat.reduceMul, small_len, Int.lt_irrefl])
      refine ⟨by omega, ?_⟩
      by_cases hz : (tuL bs z bs.length).length = 0
      · have hv : apW (tuL bs z bs.length) q = .ns := if_pos hz
        have ho : o31 bs z = .v (tuE 0) := by rw [o31, if_pos h0, if_pos hz]
        (refine JQ.run follows hF hM ?_; simp (config := { maxSteps := 4000000 }) (disch := (omega)) only [go_sem, Nat.reduceLT, Nat.reduceEqDiff, reduceIte, Nat.reduceAdd, Nat.reduceSub, Nat.reduceLeDiff, Int.reduceEq, Int.reduceLT, Int.reduceLE, Int.reduceNeg, Int.reduceAdd, Int.reduceSub, Int.reduceToNat, Int.reduceMul, Nat.reduceMul, res32, ho, hv, tuE])
        omega
      · have hv : apW (tuL bs z bs.length) q = .sl (tp q) 0 1 (tuL bs z bs.length).length none := if_neg hz
        have ho : o31 bs z = .slE 3 1 (tuL bs z bs.length).length none (iL (tuL bs z bs.length)) (I 0) := by rw [o31, if_pos h0, if_neg hz]
        have hh : apG (tuL bs z bs.length) q = Hp.lf.put (some (blkL 3 (iL (tuL bs z bs.length)))) (tp q) := if_neg hz
        have hq1 := hq (by omega)
        (refine JQ.run follows hF hM ?_; simp (config := { maxSteps := 4000000 }) (disch := (omega)) only [go_sem, Nat.reduceLT, Nat.reduceEqDiff, reduceIte, Nat.reduceAdd, Nat.reduceSub, Nat.reduceLeDiff, Int.reduceEq, Int.reduceLT, Int.reduceLE, Int.reduceNeg, Int.reduceAdd, Int.reduceSub, Int.reduceToNat, Int.reduceMul, Nat.reduceMul, res32, ho, hv, hh])
        exact ⟨by omega, goodIE (nb := 0) (hget_same _ _ _) (by omega) (by omega) (by omega)⟩
  · have ho : o31 bs z = .v (tuE (chkB bs z)) := if_neg h0
    (refine JQ.step follows hF hM ?_; simp (config := { maxSteps := 4000000 }) (disch := (omega)) only [go_sem, Nat.reduceLT, Nat.reduceEqDiff, reduceIte, Nat.reduceAdd, Nat.reduceSub, Nat.reduceLeDiff, Int.reduceEq, Int.reduceLT, Int.reduceLE, Int.reduceNeg, Int.reduceAdd, Int.reduceSub, Int.reduceToNat, Int.reduceMul, Nat.reduceMul, eq_false h0, ho, res32, tuE])
theorem ok32 : SOK Try.prog 32 (spSI f31) := spSI_ok fun bs z lim h n v h' n' hr => by
  unfold f31 at hr
  split at hr
  · rename_i hb
    exact outC Try.func32 n32 b32 k32 r32 (Ins.none h) (by simp [L.length]) (ren_nil_rel (by simp only [purL_cons, purL_nil, pur_s, I_pur, Bool.and_self])) (o31 bs z) (o31_ok bs z) (run32 bs z hb) lim n hr
  · cases hr
end Go.Proofs.Ytnimeahebnfjoaa.Ev
