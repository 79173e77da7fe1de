/- The till's laws: what is in it after each customer, run. -/
import Derived.Test.YtkdbgkibifigiaaTyB
namespace Go.Proofs.Ytkdbgkibifigiaa.Ev
set_option linter.unusedVariables false
set_option linter.unusedSimpArgs false
set_option maxRecDepth 100000
open Go Go.Proofs
attribute [local go_sem] evC_seq evC_reg evC_cond evC_block evC_skip evC_exit evC_ret evR_cons evR_nil evR_gd guardB_tt guardB_ff guardB_tf guardB_ft guardB_none bindR_ok bindR_okn rgRs_ok seqR_nor seqR_ext seqR_ret condR_true condR_false blockR_nor blockR_ext blockR_ret evX_t evX_c evXL_nil evXL_cons O_mv O_bin O_pick O_eqb O_not O_ext O_call O_conv O_slen O_six O_sbi pv_I pv_i pv_b pv_s pv_ns pv_sl pv_p pv_tu pv_ag bin_lss bin_leq bin_gtr bin_geq bin_eql bin_neq bin8_eql bin8_neq bin_add bin_sub bin_mul get_st get_lf bind_nil bind_cons if_true if_false Got_nor Got_ext Got_ret Kseq Kblk Klp Kend onStr_s onB_b onT_tu onI_I onN_I onK_I eqb_b not_b nthL_0 nthL_1 nthL_2 known_nil known_cons I_known known_b known_s evRVs_nil evRVs_cons evRes_1 evRes_2 evRV_tmp Bool.and_true Bool.true_and Bool.and_self Bool.not_true Bool.not_false decide_true decide_false Int.toNat_natCast true_and and_true big hget_same hget_ne newB_n onP_p onS_sl onS_ns O_fad O_alloc_if O_ixs O_len O_ld O_st O_box boxB_if ldB_if ldB_agif stB_if toL_I toL_i toL_b toL_s toL_sl toL_ns toL_ag allC_nil allC_cons isC_i isC_b isC_s isC_sl isC_ns I_isC Llen_nil Llen_cons Lget_0 Lget_1 Lget_2 Lget_3 blkL_size cell_blkL_if getL_blkL_if getL_setL_if setL_sz evRV_cell' rvB_agif rvB_if evPL_cons bldK_if evPL_nil O_build O_part evBuild_ok okL_some onA_ag partV_1 evPart_eq updS_nil updS_cons upd_0 upd_1 upd_2 upd_3 ge_iff_le if_pos and_self Nat.le_refl known_ag known_sl known_ns known_i ov_at spS_eq spSI_eq spSII_eq spI_eq spII_eq spIII_eq spIIII_eq res_v res_sl res_slE Good I_pur pur_b pur_s pur_i pur_ns pur_ag pur_tu purL_nil purL_cons evDr_eq evDs_nil evDs_cons dsR_ok stepD_eq sdB_n sdB_g sdG_tt sdG_ff sdG_tf sdG_ft sdG_none runD_0 rdR_f rdR_t baseOf_pu baseOf_h baseU_nil baseA_nil baseA_0 baseR_nil baseR_0 baseR_00 appAll_nil appAll_0 restr_nil restr_cons setD_some setD_none evC_draw iL_len iL_get iL_allC iL_pur hp0_0 hp0_c rdL_ns rdL_sl List.length_cons List.length_nil O_mks mkB_if O_bsl bslB_if O_app apX_ns apX_sl apN_some apS_some blkL_el Nat.one_mul Nat.mul_one Nat.zero_add n_I onF_fn O_callv app_nil app_cons spLF_eq spL_eq spLL_eq onL_some onLL_ss onLL_ns onLL_sn onLL_nn rdB_blk Int.cast_ofNat_Int
set_option maxHeartbeats 8000000 in
theorem run42 (bs : List Nat) (b : Int) (h1 : bs.length ≤ 16) (h2 : -1000 ≤ b ∧ b ≤ 1000) : JQ Try.prog drops Try.f42.ntmps F0 q42 256 (Kend res42 (Good 0 (o42 bs b))) (bind (.cons (.s bs) (.cons (I b) .nil)) 0 .lf) .lf 256 := by
  have hF := F0_ok Try.prog
  have hM := F0_mono
  have hal := afts_len bs b
  unfold q42
  (refine JQ.step follows hF hM ?_; simp (config := { maxSteps := 4000000 }) (disch := (omega)) only [go_sem, Nat.reduceLT, Nat.reduceEqDiff, reduceIte, Nat.reduceAdd, Nat.reduceSub, Nat.reduceLeDiff, Int.reduceEq, Int.reduceLT, Int.reduceLE, Int.reduceNeg, Int.reduceAdd, Int.reduceSub, Int.reduceToNat, Int.reduceMul, Nat.reduceMul])
  (refine JQ.step follows hF hM ?_; simp (config := { maxSteps := 4000000 }) (disch := (omega)) only [go_sem, Nat.reduceLT, Nat.reduceEqDiff, reduceIte, Nat.reduceAdd, Nat.reduceSub, Nat.reduceLeDiff, Int.reduceEq, Int.reduceLT, Int.reduceLE, Int.reduceNeg, Int.reduceAdd, Int.reduceSub, Int.reduceToNat, Int.reduceMul, Nat.reduceMul])
  (refine JQ.step follows hF hM ?_; simp (config := { maxSteps := 4000000 }) (disch := (omega)) only [go_sem, Nat.reduceLT, Nat.reduceEqDiff, reduceIte, Nat.reduceAdd, Nat.reduceSub, Nat.reduceLeDiff, Int.reduceEq, Int.reduceLT, Int.reduceLE, Int.reduceNeg, Int.reduceAdd, Int.reduceSub, Int.reduceToNat, Int.reduceMul, Nat.reduceMul])
  refine JQ.seq ?_
  (refine JQ.step follows hF hM ?_; simp (config := { maxSteps := 4000000 }) (disch := (omega)) only [go_sem, Nat.reduceLT, Nat.reduceEqDiff, reduceIte, Nat.reduceAdd, Nat.reduceSub, Nat.reduceLeDiff, Int.reduceEq, Int.reduceLT, Int.reduceLE, Int.reduceNeg, Int.reduceAdd, Int.reduceSub, Int.reduceToNat, Int.reduceMul, Nat.reduceMul, small_len])
  refine JQ.block ?_
  refine JQ.loop (σ := Nat) (fun k => k ≤ bs.length) (fun k => (((((Tr.lf.set (.s bs) (tp 0)).set (I (aft bs b k)) (tp 1)).set (apV k) (tp 6)).set (I (fiK bs b k)) (tp 7)).set (I bs.length) (tp 10)).set (I k) (tp 11)) (apH (afts bs b)) (fun k => 256 + 2 * k) (fun k => bs.length - k) 0 (Nat.zero_le _) (by ((repeat' (first | exact EnvLe.lf _ | refine EnvLe.set (by decide) ?_ ?_)) <;> first | exact EnvLe.lf _ | (simp (config := { maxSteps := 4000000 }) (disch := (omega)) only [go_sem, Nat.reduceLT, Nat.reduceEqDiff, reduceIte, Nat.reduceAdd, Nat.reduceSub, Nat.reduceLeDiff, Int.reduceEq, Int.reduceLT, Int.reduceLE, Int.reduceNeg, Int.reduceAdd, Int.reduceSub, Int.reduceToNat, Int.reduceMul, Nat.reduceMul, apV, aft, fiK, Int.natCast_add, Int.cast_ofNat_Int]; done) | (simp (config := { maxSteps := 4000000 }) (disch := (omega)) only [go_sem, Nat.reduceLT, Nat.reduceEqDiff, reduceIte, Nat.reduceAdd, Nat.reduceSub, Nat.reduceLeDiff, Int.reduceEq, Int.reduceLT, Int.reduceLE, Int.reduceNeg, Int.reduceAdd, Int.reduceSub, Int.reduceToNat, Int.reduceMul, Nat.reduceMul, apV, aft, fiK, Int.natCast_add, Int.cast_ofNat_Int] <;> first | rfl | (congr 1; omega)))) (HpLe.refl _) rfl ?_
  intro k hk
  unfold q42_l0
  by_cases hlt : k < bs.length
  · have hlt' : (k : Int) < (bs.length : Int) := by omega
    have hr := aft_rng bs b k
    by_cases hc : byt bs k = 99
    · have hv : aft bs b (k + 1) = aft bs b k + 1 := aft_c hc
      have htk : (afts bs b).take (k + 1) = (afts bs b).take k ++ [aft bs b k + 1] := by rw [← hv, ← At_afts hlt]; exact take_At (by omega)
      by_cases hn : aft bs b k + 1 < 0
      · by_cases hf : fiK bs b k < 0
        · have hfi : fiK bs b (k + 1) = (k : Int) := fi_set (hv ▸ hn) hf
          by_cases hk0 : k = 0
          · have ha : apV k = .ns := if_pos hk0
            have hh : apH (afts bs b) k = .lf := if_pos hk0
            have ht1 : (afts bs b).take (k + 1) = [aft bs b k + 1] := by rw [htk, hk0, List.take_zero]; rfl
            have e1 : 256 + 2 * k + 1 - 1 = 254 + 2 * (k + 1) := by omega
            rw [hh]
            (refine JQ.run follows hF hM ?_; simp (config := { maxSteps := 4000000 }) (disch := (omega)) only [go_sem, Nat.reduceLT, Nat.reduceEqDiff, reduceIte, Nat.reduceAdd, Nat.reduceSub, Nat.reduceLeDiff, Int.reduceEq, Int.reduceLT, Int.reduceLE, Int.reduceNeg, Int.reduceAdd, Int.reduceSub, Int.reduceToNat, Int.reduceMul, Nat.reduceMul, small_len, hlt', nthS_at hlt, eq_true hc, hn, hf, ha, e1])
            refine ⟨by omega, k + 1, by omega, by omega, by ((repeat' (first | exact EnvLe.lf _ | refine EnvLe.set (by decide) ?_ ?_)) <;> first | exact EnvLe.lf _ | (simp (config := { maxSteps := 4000000 }) (disch := (omega)) only [go_sem, Nat.reduceLT, Nat.reduceEqDiff, reduceIte, Nat.reduceAdd, Nat.reduceSub, Nat.reduceLeDiff, Int.reduceEq, Int.reduceLT, Int.reduceLE, Int.reduceNeg, Int.reduceAdd, Int.reduceSub, Int.reduceToNat, Int.reduceMul, Nat.reduceMul, apV, Nat.add_one_ne_zero, hv, hfi, Int.natCast_add, Int.cast_ofNat_Int]; done) | (simp (config := { maxSteps := 4000000 }) (disch := (omega)) only [go_sem, Nat.reduceLT, Nat.reduceEqDiff, reduceIte, Nat.reduceAdd, Nat.reduceSub, Nat.reduceLeDiff, Int.reduceEq, Int.reduceLT, Int.reduceLE, Int.reduceNeg, Int.reduceAdd, Int.reduceSub, Int.reduceToNat, Int.reduceMul, Nat.reduceMul, apV, Nat.add_one_ne_zero, hv, hfi, Int.natCast_add, Int.cast_ofNat_Int] <;> first | rfl | (congr 1; omega))), ?_, by omega⟩
            rw [apH, if_neg (by omega)]
            exact HpLe.put ⟨_, hget_same _ _ _, by rw [ht1]; exact BlkLe.refl _⟩ (HpLe.lf _)
          · have hlk : (List.take k (afts bs b)).length = k := by rw [List.length_take]; omega
            have hg := grown_le (el := 3) (xs := (afts bs b).take k) (z := aft bs b k + 1) (by omega)
            rw [← htk, hlk] at hg
            have e1 : 256 + 2 * k + 1 - 1 = 254 + 2 * (k + 1) := by omega
            have hh : apH (afts bs b) k = Hp.lf.put (some (blkL 3 (iL ((afts bs b).take k)))) (tp (254 + 2 * k)) := if_neg hk0
            have ha : apV k = .sl (tp (254 + 2 * k)) 0 1 k none := if_neg hk0
            rw [hh]
            (refine JQ.run follows hF hM ?_; simp (config := { maxSteps := 4000000 }) (disch := (omega)) only [go_sem, Nat.reduceLT, Nat.reduceEqDiff, reduceIte, Nat.reduceAdd, Nat.reduceSub, Nat.reduceLeDiff, Int.reduceEq, Int.reduceLT, Int.reduceLE, Int.reduceNeg, Int.reduceAdd, Int.reduceSub, Int.reduceToNat, Int.reduceMul, Nat.reduceMul, small_len, hlt', nthS_at hlt, eq_true hc, hn, hf, ha, hlk, e1])
            refine ⟨by omega, k + 1, by omega, by omega, by ((repeat' (first | exact EnvLe.lf _ | refine EnvLe.set (by decide) ?_ ?_)) <;> first | exact EnvLe.lf _ | (simp (config := { maxSteps := 4000000 }) (disch := (omega)) only [go_sem, Nat.reduceLT, Nat.reduceEqDiff, reduceIte, Nat.reduceAdd, Nat.reduceSub, Nat.reduceLeDiff, Int.reduceEq, Int.reduceLT, Int.reduceLE, Int.reduceNeg, Int.reduceAdd, Int.reduceSub, Int.reduceToNat, Int.reduceMul, Nat.reduceMul, apV, Nat.add_one_ne_zero, hv, hfi, Int.natCast_add, Int.cast_ofNat_Int]; done) | (simp (config := { maxSteps := 4000000 }) (disch := (omega)) only [go_sem, Nat.reduceLT, Nat.reduceEqDiff, reduceIte, Nat.reduceAdd, Nat.reduceSub, Nat.reduceLeDiff, Int.reduceEq, Int.reduceLT, Int.reduceLE, Int.reduceNeg, Int.reduceAdd, Int.reduceSub, Int.reduceToNat, Int.reduceMul, Nat.reduceMul, apV, Nat.add_one_ne_zero, hv, hfi, Int.natCast_add, Int.cast_ofNat_Int] <;> first | rfl | (congr 1; omega))), ?_, by omega⟩
            rw [apH, if_neg (by omega)]
            exact HpLe.put ⟨_, hget_same _ _ _, hg⟩ (HpLe.lf _)
        · have hfi : fiK bs b (k + 1) = fiK bs b k := fi_old hf
          by_cases hk0 : k = 0
          · have ha : apV k = .ns := if_pos hk0
            have hh : apH (afts bs b) k = .lf := if_pos hk0
            have ht1 : (afts bs b).take (k + 1) = [aft bs b k + 1] := by rw [htk, hk0, List.take_zero]; rfl
            have e1 : 256 + 2 * k + 1 - 1 = 254 + 2 * (k + 1) := by omega
            rw [hh]
            (refine JQ.run follows hF hM ?_; simp (config := { maxSteps := 4000000 }) (disch := (omega)) only [go_sem, Nat.reduceLT, Nat.reduceEqDiff, reduceIte, Nat.reduceAdd, Nat.reduceSub, Nat.reduceLeDiff, Int.reduceEq, Int.reduceLT, Int.reduceLE, Int.reduceNeg, Int.reduceAdd, Int.reduceSub, Int.reduceToNat, Int.reduceMul, Nat.reduceMul, small_len, hlt', nthS_at hlt, eq_true hc, hn, hf, ha, e1])
            refine ⟨by omega, k + 1, by omega, by omega, by ((repeat' (first | exact EnvLe.lf _ | refine EnvLe.set (by decide) ?_ ?_)) <;> first | exact EnvLe.lf _ | (simp (config := { maxSteps := 4000000 }) (disch := (omega)) only [go_sem, Nat.reduceLT, Nat.reduceEqDiff, reduceIte, Nat.reduceAdd, Nat.reduceSub, Nat.reduceLeDiff, Int.reduceEq, Int.reduceLT, Int.reduceLE, Int.reduceNeg, Int.reduceAdd, Int.reduceSub, Int.reduceToNat, Int.reduceMul, Nat.reduceMul, apV, Nat.add_one_ne_zero, hv, hfi, Int.natCast_add, Int.cast_ofNat_Int]; done) | (simp (config := { maxSteps := 4000000 }) (disch := (omega)) only [go_sem, Nat.reduceLT, Nat.reduceEqDiff, reduceIte, Nat.reduceAdd, Nat.reduceSub, Nat.reduceLeDiff, Int.reduceEq, Int.reduceLT, Int.reduceLE, Int.reduceNeg, Int.reduceAdd, Int.reduceSub, Int.reduceToNat, Int.reduceMul, Nat.reduceMul, apV, Nat.add_one_ne_zero, hv, hfi, Int.natCast_add, Int.cast_ofNat_Int] <;> first | rfl | (congr 1; omega))), ?_, by omega⟩
            rw [apH, if_neg (by omega)]
            exact HpLe.put ⟨_, hget_same _ _ _, by rw [ht1]; exact BlkLe.refl _⟩ (HpLe.lf _)
          · have hlk : (List.take k (afts bs b)).length = k := by rw [List.length_take]; omega
            have hg := grown_le (el := 3) (xs := (afts bs b).take k) (z := aft bs b k + 1) (by omega)
            rw [← htk, hlk] at hg
            have e1 : 256 + 2 * k + 1 - 1 = 254 + 2 * (k + 1) := by omega
            have hh : apH (afts bs b) k = Hp.lf.put (some (blkL 3 (iL ((afts bs b).take k)))) (tp (254 + 2 * k)) := if_neg hk0
            have ha : apV k = .sl (tp (254 + 2 * k)) 0 1 k none := if_neg hk0
            rw [hh]
            (refine JQ.run follows hF hM ?_; simp (config := { maxSteps := 4000000 }) (disch := (omega)) only [go_sem, Nat.reduceLT, Nat.reduceEqDiff, reduceIte, Nat.reduceAdd, Nat.reduceSub, Nat.reduceLeDiff, Int.reduceEq, Int.reduceLT, Int.reduceLE, Int.reduceNeg, Int.reduceAdd, Int.reduceSub, Int.reduceToNat, Int.reduceMul, Nat.reduceMul, small_len, hlt', nthS_at hlt, eq_true hc, hn, hf, ha, hlk, e1])
            refine ⟨by omega, k + 1, by omega, by omega, by ((repeat' (first | exact EnvLe.lf _ | refine EnvLe.set (by decide) ?_ ?_)) <;> first | exact EnvLe.lf _ | (simp (config := { maxSteps := 4000000 }) (disch := (omega)) only [go_sem, Nat.reduceLT, Nat.reduceEqDiff, reduceIte, Nat.reduceAdd, Nat.reduceSub, Nat.reduceLeDiff, Int.reduceEq, Int.reduceLT, Int.reduceLE, Int.reduceNeg, Int.reduceAdd, Int.reduceSub, Int.reduceToNat, Int.reduceMul, Nat.reduceMul, apV, Nat.add_one_ne_zero, hv, hfi, Int.natCast_add, Int.cast_ofNat_Int]; done) | (simp (config := { maxSteps := 4000000 }) (disch := (omega)) only [go_sem, Nat.reduceLT, Nat.reduceEqDiff, reduceIte, Nat.reduceAdd, Nat.reduceSub, Nat.reduceLeDiff, Int.reduceEq, Int.reduceLT, Int.reduceLE, Int.reduceNeg, Int.reduceAdd, Int.reduceSub, Int.reduceToNat, Int.reduceMul, Nat.reduceMul, apV, Nat.add_one_ne_zero, hv, hfi, Int.natCast_add, Int.cast_ofNat_Int] <;> first | rfl | (congr 1; omega))), ?_, by omega⟩
            rw [apH, if_neg (by omega)]
            exact HpLe.put ⟨_, hget_same _ _ _, hg⟩ (HpLe.lf _)
      · have hfi : fiK bs b (k + 1) = fiK bs b k := fi_pos (hv ▸ hn)
        by_cases hk0 : k = 0
        · have ha : apV k = .ns := if_pos hk0
          have hh : apH (afts bs b) k = .lf := if_pos hk0
          have ht1 : (afts bs b).take (k + 1) = [aft bs b k + 1] := by rw [htk, hk0, List.take_zero]; rfl
          have e1 : 256 + 2 * k + 1 - 1 = 254 + 2 * (k + 1) := by omega
          rw [hh]
          (refine JQ.run follows hF hM ?_; simp (config := { maxSteps := 4000000 }) (disch := (omega)) only [go_sem, Nat.reduceLT, Nat.reduceEqDiff, reduceIte, Nat.reduceAdd, Nat.reduceSub, Nat.reduceLeDiff, Int.reduceEq, Int.reduceLT, Int.reduceLE, Int.reduceNeg, Int.reduceAdd, Int.reduceSub, Int.reduceToNat, Int.reduceMul, Nat.reduceMul, small_len, hlt', nthS_at hlt, eq_true hc, hn, ha, e1])
          refine ⟨by omega, k + 1, by omega, by omega, by ((repeat' (first | exact EnvLe.lf _ | refine EnvLe.set (by decide) ?_ ?_)) <;> first | exact EnvLe.lf _ | (simp (config := { maxSteps := 4000000 }) (disch := (omega)) only [go_sem, Nat.reduceLT, Nat.reduceEqDiff, reduceIte, Nat.reduceAdd, Nat.reduceSub, Nat.reduceLeDiff, Int.reduceEq, Int.reduceLT, Int.reduceLE, Int.reduceNeg, Int.reduceAdd, Int.reduceSub, Int.reduceToNat, Int.reduceMul, Nat.reduceMul, apV, Nat.add_one_ne_zero, hv, hfi, Int.natCast_add, Int.cast_ofNat_Int]; done) | (simp (config := { maxSteps := 4000000 }) (disch := (omega)) only [go_sem, Nat.reduceLT, Nat.reduceEqDiff, reduceIte, Nat.reduceAdd, Nat.reduceSub, Nat.reduceLeDiff, Int.reduceEq, Int.reduceLT, Int.reduceLE, Int.reduceNeg, Int.reduceAdd, Int.reduceSub, Int.reduceToNat, Int.reduceMul, Nat.reduceMul, apV, Nat.add_one_ne_zero, hv, hfi, Int.natCast_add, Int.cast_ofNat_Int] <;> first | rfl | (congr 1; omega))), ?_, by omega⟩
          rw [apH, if_neg (by omega)]
          exact HpLe.put ⟨_, hget_same _ _ _, by rw [ht1]; exact BlkLe.refl _⟩ (HpLe.lf _)
        · have hlk : (List.take k (afts bs b)).length = k := by rw [List.length_take]; omega
          have hg := grown_le (el := 3) (xs := (afts bs b).take k) (z := aft bs b k + 1) (by omega)
          rw [← htk, hlk] at hg
          have e1 : 256 + 2 * k + 1 - 1 = 254 + 2 * (k + 1) := by omega
          have hh : apH (afts bs b) k = Hp.lf.put (some (blkL 3 (iL ((afts bs b).take k)))) (tp (254 + 2 * k)) := if_neg hk0
          have ha : apV k = .sl (tp (254 + 2 * k)) 0 1 k none := if_neg hk0
          rw [hh]
          (refine JQ.run follows hF hM ?_; simp (config := { maxSteps := 4000000 }) (disch := (omega)) only [go_sem, Nat.reduceLT, Nat.reduceEqDiff, reduceIte, Nat.reduceAdd, Nat.reduceSub, Nat.reduceLeDiff, Int.reduceEq, Int.reduceLT, Int.reduceLE, Int.reduceNeg, Int.reduceAdd, Int.reduceSub, Int.reduceToNat, Int.reduceMul, Nat.reduceMul, small_len, hlt', nthS_at hlt, eq_true hc, hn, ha, hlk, e1])
          refine ⟨by omega, k + 1, by omega, by omega, by ((repeat' (first | exact EnvLe.lf _ | refine EnvLe.set (by decide) ?_ ?_)) <;> first | exact EnvLe.lf _ | (simp (config := { maxSteps := 4000000 }) (disch := (omega)) only [go_sem, Nat.reduceLT, Nat.reduceEqDiff, reduceIte, Nat.reduceAdd, Nat.reduceSub, Nat.reduceLeDiff, Int.reduceEq, Int.reduceLT, Int.reduceLE, Int.reduceNeg, Int.reduceAdd, Int.reduceSub, Int.reduceToNat, Int.reduceMul, Nat.reduceMul, apV, Nat.add_one_ne_zero, hv, hfi, Int.natCast_add, Int.cast_ofNat_Int]; done) | (simp (config := { maxSteps := 4000000 }) (disch := (omega)) only [go_sem, Nat.reduceLT, Nat.reduceEqDiff, reduceIte, Nat.reduceAdd, Nat.reduceSub, Nat.reduceLeDiff, Int.reduceEq, Int.reduceLT, Int.reduceLE, Int.reduceNeg, Int.reduceAdd, Int.reduceSub, Int.reduceToNat, Int.reduceMul, Nat.reduceMul, apV, Nat.add_one_ne_zero, hv, hfi, Int.natCast_add, Int.cast_ofNat_Int] <;> first | rfl | (congr 1; omega))), ?_, by omega⟩
          rw [apH, if_neg (by omega)]
          exact HpLe.put ⟨_, hget_same _ _ _, hg⟩ (HpLe.lf _)
    · have hv : aft bs b (k + 1) = aft bs b k - 1 := aft_n hc
      have htk : (afts bs b).take (k + 1) = (afts bs b).take k ++ [aft bs b k - 1] := by rw [← hv, ← At_afts hlt]; exact take_At (by omega)
      by_cases hn : aft bs b k - 1 < 0
      · by_cases hf : fiK bs b k < 0
        · have hfi : fiK bs b (k + 1) = (k : Int) := fi_set (hv ▸ hn) hf
          by_cases hk0 : k = 0
          · have ha : apV k = .ns := if_pos hk0
            have hh : apH (afts bs b) k = .lf := if_pos hk0
            have ht1 : (afts bs b).take (k + 1) = [aft bs b k - 1] := by rw [htk, hk0, List.take_zero]; rfl
            have e1 : 256 + 2 * k + 1 - 1 = 254 + 2 * (k + 1) := by omega
            rw [hh]
            (refine JQ.run follows hF hM ?_; simp (config := { maxSteps := 4000000 }) (disch := (omega)) only [go_sem, Nat.reduceLT, Nat.reduceEqDiff, reduceIte, Nat.reduceAdd, Nat.reduceSub, Nat.reduceLeDiff, Int.reduceEq, Int.reduceLT, Int.reduceLE, Int.reduceNeg, Int.reduceAdd, Int.reduceSub, Int.reduceToNat, Int.reduceMul, Nat.reduceMul, small_len, hlt', nthS_at hlt, eq_false hc, hn, hf, ha, e1])
            refine ⟨by omega, k + 1, by omega, by omega, by ((repeat' (first | exact EnvLe.lf _ | refine EnvLe.set (by decide) ?_ ?_)) <;> first | exact EnvLe.lf _ | (simp (config := { maxSteps := 4000000 }) (disch := (omega)) only [go_sem, Nat.reduceLT, Nat.reduceEqDiff, reduceIte, Nat.reduceAdd, Nat.reduceSub, Nat.reduceLeDiff, Int.reduceEq, Int.reduceLT, Int.reduceLE, Int.reduceNeg, Int.reduceAdd, Int.reduceSub, Int.reduceToNat, Int.reduceMul, Nat.reduceMul, apV, Nat.add_one_ne_zero, hv, hfi, Int.natCast_add, Int.cast_ofNat_Int]; done) | (simp (config := { maxSteps := 4000000 }) (disch := (omega)) only [go_sem, Nat.reduceLT, Nat.reduceEqDiff, reduceIte, Nat.reduceAdd, Nat.reduceSub, Nat.reduceLeDiff, Int.reduceEq, Int.reduceLT, Int.reduceLE, Int.reduceNeg, Int.reduceAdd, Int.reduceSub, Int.reduceToNat, Int.reduceMul, Nat.reduceMul, apV, Nat.add_one_ne_zero, hv, hfi, Int.natCast_add, Int.cast_ofNat_Int] <;> first | rfl | (congr 1; omega))), ?_, by omega⟩
            rw [apH, if_neg (by omega)]
            exact HpLe.put ⟨_, hget_same _ _ _, by rw [ht1]; exact BlkLe.refl _⟩ (HpLe.lf _)
          · have hlk : (List.take k (afts bs b)).length = k := by rw [List.length_take]; omega
            have hg := grown_le (el := 3) (xs := (afts bs b).take k) (z := aft bs b k - 1) (by omega)
            rw [← htk, hlk] at hg
            have e1 : 256 + 2 * k + 1 - 1 = 254 + 2 * (k + 1) := by omega
            have hh : apH (afts bs b) k = Hp.lf.put (some (blkL 3 (iL ((afts bs b).take k)))) (tp (254 + 2 * k)) := if_neg hk0
            have ha : apV k = .sl (tp (254 + 2 * k)) 0 1 k none := if_neg hk0
            rw [hh]
            (refine JQ.run follows hF hM ?_; simp (config := { maxSteps := 4000000 }) (disch := (omega)) only [go_sem, Nat.reduceLT, Nat.reduceEqDiff, reduceIte, Nat.reduceAdd, Nat.reduceSub, Nat.reduceLeDiff, Int.reduceEq, Int.reduceLT, Int.reduceLE, Int.reduceNeg, Int.reduceAdd, Int.reduceSub, Int.reduceToNat, Int.reduceMul, Nat.reduceMul, small_len, hlt', nthS_at hlt, eq_false hc, hn, hf, ha, hlk, e1])
            refine ⟨by omega, k + 1, by omega, by omega, by ((repeat' (first | exact EnvLe.lf _ | refine EnvLe.set (by decide) ?_ ?_)) <;> first | exact EnvLe.lf _ | (simp (config := { maxSteps := 4000000 }) (disch := (omega)) only [go_sem, Nat.reduceLT, Nat.reduceEqDiff, reduceIte, Nat.reduceAdd, Nat.reduceSub, Nat.reduceLeDiff, Int.reduceEq, Int.reduceLT, Int.reduceLE, Int.reduceNeg, Int.reduceAdd, Int.reduceSub, Int.reduceToNat, Int.reduceMul, Nat.reduceMul, apV, Nat.add_one_ne_zero, hv, hfi, Int.natCast_add, Int.cast_ofNat_Int]; done) | (simp (config := { maxSteps := 4000000 }) (disch := (omega)) only [go_sem, Nat.reduceLT, Nat.reduceEqDiff, reduceIte, Nat.reduceAdd, Nat.reduceSub, Nat.reduceLeDiff, Int.reduceEq, Int.reduceLT, Int.reduceLE, Int.reduceNeg, Int.reduceAdd, Int.reduceSub, Int.reduceToNat, Int.reduceMul, Nat.reduceMul, apV, Nat.add_one_ne_zero, hv, hfi, Int.natCast_add, Int.cast_ofNat_Int] <;> first | rfl | (congr 1; omega))), ?_, by omega⟩
            rw [apH, if_neg (by omega)]
            exact HpLe.put ⟨_, hget_same _ _ _, hg⟩ (HpLe.lf _)
        · have hfi : fiK bs b (k + 1) = fiK bs b k := fi_old hf
          by_cases hk0 : k = 0
          · have ha : apV k = .ns := if_pos hk0
            have hh : apH (afts bs b) k = .lf := if_pos hk0
            have ht1 : (afts bs b).take (k + 1) = [aft bs b k - 1] := by rw [htk, hk0, List.take_zero]; rfl
            have e1 : 256 + 2 * k + 1 - 1 = 254 + 2 * (k + 1) := by omega
            rw [hh]
            (refine JQ.run follows hF hM ?_; simp (config := { maxSteps := 4000000 }) (disch := (omega)) only [go_sem, Nat.reduceLT, Nat.reduceEqDiff, reduceIte, Nat.reduceAdd, Nat.reduceSub, Nat.reduceLeDiff, Int.reduceEq, Int.reduceLT, Int.reduceLE, Int.reduceNeg, Int.reduceAdd, Int.reduceSub, Int.reduceToNat, Int.reduceMul, Nat.reduceMul, small_len, hlt', nthS_at hlt, eq_false hc, hn, hf, ha, e1])
            refine ⟨by omega, k + 1, by omega, by omega, by ((repeat' (first | exact EnvLe.lf _ | refine EnvLe.set (by decide) ?_ ?_)) <;> first | exact EnvLe.lf _ | (simp (config := { maxSteps := 4000000 }) (disch := (omega)) only [go_sem, Nat.reduceLT, Nat.reduceEqDiff, reduceIte, Nat.reduceAdd, Nat.reduceSub, Nat.reduceLeDiff, Int.reduceEq, Int.reduceLT, Int.reduceLE, Int.reduceNeg, Int.reduceAdd, Int.reduceSub, Int.reduceToNat, Int.reduceMul, Nat.reduceMul, apV, Nat.add_one_ne_zero, hv, hfi, Int.natCast_add, Int.cast_ofNat_Int]; done) | (simp (config := { maxSteps := 4000000 }) (disch := (omega)) only [go_sem, Nat.reduceLT, Nat.reduceEqDiff, reduceIte, Nat.reduceAdd, Nat.reduceSub, Nat.reduceLeDiff, Int.reduceEq, Int.reduceLT, Int.reduceLE, Int.reduceNeg, Int.reduceAdd, Int.reduceSub, Int.reduceToNat, Int.reduceMul, Nat.reduceMul, apV, Nat.add_one_ne_zero, hv, hfi, Int.natCast_add, Int.cast_ofNat_Int] <;> first | rfl | (congr 1; omega))), ?_, by omega⟩
            rw [apH, if_neg (by omega)]
            exact HpLe.put ⟨_, hget_same _ _ _, by rw [ht1]; exact BlkLe.refl _⟩ (HpLe.lf _)
          · have hlk : (List.take k (afts bs b)).length = k := by rw [List.length_take]; omega
            have hg := grown_le (el := 3) (xs := (afts bs b).take k) (z := aft bs b k - 1) (by omega)
            rw [← htk, hlk] at hg
            have e1 : 256 + 2 * k + 1 - 1 = 254 + 2 * (k + 1) := by omega
            have hh : apH (afts bs b) k = Hp.lf.put (some (blkL 3 (iL ((afts bs b).take k)))) (tp (254 + 2 * k)) := if_neg hk0
            have ha : apV k = .sl (tp (254 + 2 * k)) 0 1 k none := if_neg hk0
            rw [hh]
            (refine JQ.run follows hF hM ?_; simp (config := { maxSteps := 4000000 }) (disch := (omega)) only [go_sem, Nat.reduceLT, Nat.reduceEqDiff, reduceIte, Nat.reduceAdd, Nat.reduceSub, Nat.reduceLeDiff, Int.reduceEq, Int.reduceLT, Int.reduceLE, Int.reduceNeg, Int.reduceAdd, Int.reduceSub, Int.reduceToNat, Int.reduceMul, Nat.reduceMul, small_len, hlt', nthS_at hlt, eq_false hc, hn, hf, ha, hlk, e1])
            refine ⟨by omega, k + 1, by omega, by omega, by ((repeat' (first | exact EnvLe.lf _ | refine EnvLe.set (by decide) ?_ ?_)) <;> first | exact EnvLe.lf _ | (simp (config := { maxSteps := 4000000 }) (disch := (omega)) only [go_sem, Nat.reduceLT, Nat.reduceEqDiff, reduceIte, Nat.reduceAdd, Nat.reduceSub, Nat.reduceLeDiff, Int.reduceEq, Int.reduceLT, Int.reduceLE, Int.reduceNeg, Int.reduceAdd, Int.reduceSub, Int.reduceToNat, Int.reduceMul, Nat.reduceMul, apV, Nat.add_one_ne_zero, hv, hfi, Int.natCast_add, Int.cast_ofNat_Int]; done) | (simp (config := { maxSteps := 4000000 }) (disch := (omega)) only [go_sem, Nat.reduceLT, Nat.reduceEqDiff, reduceIte, Nat.reduceAdd, Nat.reduceSub, Nat.reduceLeDiff, Int.reduceEq, Int.reduceLT, Int.reduceLE, Int.reduceNeg, Int.reduceAdd, Int.reduceSub, Int.reduceToNat, Int.reduceMul, Nat.reduceMul, apV, Nat.add_one_ne_zero, hv, hfi, Int.natCast_add, Int.cast_ofNat_Int] <;> first | rfl | (congr 1; omega))), ?_, by omega⟩
            rw [apH, if_neg (by omega)]
            exact HpLe.put ⟨_, hget_same _ _ _, hg⟩ (HpLe.lf _)
      · have hfi : fiK bs b (k + 1) = fiK bs b k := fi_pos (hv ▸ hn)
        by_cases hk0 : k = 0
        · have ha : apV k = .ns := if_pos hk0
          have hh : apH (afts bs b) k = .lf := if_pos hk0
          have ht1 : (afts bs b).take (k + 1) = [aft bs b k - 1] := by rw [htk, hk0, List.take_zero]; rfl
          have e1 : 256 + 2 * k + 1 - 1 = 254 + 2 * (k + 1) := by omega
          rw [hh]
          (refine JQ.run follows hF hM ?_; simp (config := { maxSteps := 4000000 }) (disch := (omega)) only [go_sem, Nat.reduceLT, Nat.reduceEqDiff, reduceIte, Nat.reduceAdd, Nat.reduceSub, Nat.reduceLeDiff, Int.reduceEq, Int.reduceLT, Int.reduceLE, Int.reduceNeg, Int.reduceAdd, Int.reduceSub, Int.reduceToNat, Int.reduceMul, Nat.reduceMul, small_len, hlt', nthS_at hlt, eq_false hc, hn, ha, e1])
          refine ⟨by omega, k + 1, by omega, by omega, by ((repeat' (first | exact EnvLe.lf _ | refine EnvLe.set (by decide) ?_ ?_)) <;> first | exact EnvLe.lf _ | (simp (config := { maxSteps := 4000000 }) (disch := (omega)) only [go_sem, Nat.reduceLT, Nat.reduceEqDiff, reduceIte, Nat.reduceAdd, Nat.reduceSub, Nat.reduceLeDiff, Int.reduceEq, Int.reduceLT, Int.reduceLE, Int.reduceNeg, Int.reduceAdd, Int.reduceSub, Int.reduceToNat, Int.reduceMul, Nat.reduceMul, apV, Nat.add_one_ne_zero, hv, hfi, Int.natCast_add, Int.cast_ofNat_Int]; done) | (simp (config := { maxSteps := 4000000 }) (disch := (omega)) only [go_sem, Nat.reduceLT, Nat.reduceEqDiff, reduceIte, Nat.reduceAdd, Nat.reduceSub, Nat.reduceLeDiff, Int.reduceEq, Int.reduceLT, Int.reduceLE, Int.reduceNeg, Int.reduceAdd, Int.reduceSub, Int.reduceToNat, Int.reduceMul, Nat.reduceMul, apV, Nat.add_one_ne_zero, hv, hfi, Int.natCast_add, Int.cast_ofNat_Int] <;> first | rfl | (congr 1; omega))), ?_, by omega⟩
          rw [apH, if_neg (by omega)]
          exact HpLe.put ⟨_, hget_same _ _ _, by rw [ht1]; exact BlkLe.refl _⟩ (HpLe.lf _)
        · have hlk : (List.take k (afts bs b)).length = k := by rw [List.length_take]; omega
          have hg := grown_le (el := 3) (xs := (afts bs b).take k) (z := aft bs b k - 1) (by omega)
          rw [← htk, hlk] at hg
          have e1 : 256 + 2 * k + 1 - 1 = 254 + 2 * (k + 1) := by omega
          have hh : apH (afts bs b) k = Hp.lf.put (some (blkL 3 (iL ((afts bs b).take k)))) (tp (254 + 2 * k)) := if_neg hk0
          have ha : apV k = .sl (tp (254 + 2 * k)) 0 1 k none := if_neg hk0
          rw [hh]
          (refine JQ.run follows hF hM ?_; simp (config := { maxSteps := 4000000 }) (disch := (omega)) only [go_sem, Nat.reduceLT, Nat.reduceEqDiff, reduceIte, Nat.reduceAdd, Nat.reduceSub, Nat.reduceLeDiff, Int.reduceEq, Int.reduceLT, Int.reduceLE, Int.reduceNeg, Int.reduceAdd, Int.reduceSub, Int.reduceToNat, Int.reduceMul, Nat.reduceMul, small_len, hlt', nthS_at hlt, eq_false hc, hn, ha, hlk, e1])
          refine ⟨by omega, k + 1, by omega, by omega, by ((repeat' (first | exact EnvLe.lf _ | refine EnvLe.set (by decide) ?_ ?_)) <;> first | exact EnvLe.lf _ | (simp (config := { maxSteps := 4000000 }) (disch := (omega)) only [go_sem, Nat.reduceLT, Nat.reduceEqDiff, reduceIte, Nat.reduceAdd, Nat.reduceSub, Nat.reduceLeDiff, Int.reduceEq, Int.reduceLT, Int.reduceLE, Int.reduceNeg, Int.reduceAdd, Int.reduceSub, Int.reduceToNat, Int.reduceMul, Nat.reduceMul, apV, Nat.add_one_ne_zero, hv, hfi, Int.natCast_add, Int.cast_ofNat_Int]; done) | (simp (config := { maxSteps := 4000000 }) (disch := (omega)) only [go_sem, Nat.reduceLT, Nat.reduceEqDiff, reduceIte, Nat.reduceAdd, Nat.reduceSub, Nat.reduceLeDiff, Int.reduceEq, Int.reduceLT, Int.reduceLE, Int.reduceNeg, Int.reduceAdd, Int.reduceSub, Int.reduceToNat, Int.reduceMul, Nat.reduceMul, apV, Nat.add_one_ne_zero, hv, hfi, Int.natCast_add, Int.cast_ofNat_Int] <;> first | rfl | (congr 1; omega))), ?_, by omega⟩
          rw [apH, if_neg (by omega)]
          exact HpLe.put ⟨_, hget_same _ _ _, hg⟩ (HpLe.lf _)
  · obtain rfl : k = bs.length := by omega
    have htl : (afts bs b).take bs.length = afts bs b := List.take_of_length_le (by omega)
    have hfa := fi_all bs b
    (refine JQ.run follows hF hM ?_; simp (config := { maxSteps := 4000000 }) (disch := (omega)) only [go_sem, Nat.reduceLT, Nat.reduceEqDiff, reduceIte, Nat.reduceAdd, Nat.reduceSub, Nat.reduceLeDiff, Int.reduceEq, Int.reduceLT, Int.reduceLE, Int.reduceNeg, Int.reduceAdd, Int.reduceSub, Int.reduceToNat, Int.reduceMul, Nat.reduceMul, small_len, Int.lt_irrefl])
    refine ⟨by omega, ?_⟩
    by_cases hz : bs.length = 0
    · have hv : apV bs.length = .ns := if_pos hz
      have hf : fiK bs b bs.length = -1 := by rw [hz]; rfl
      have ho : o42 bs b = .v (.tu (.cons .ns (.cons (I (-1)) .nil))) := by rw [o42, if_pos hz]
      (refine JQ.run follows hF hM ?_; simp (config := { maxSteps := 4000000 }) (disch := (omega)) only [go_sem, Nat.reduceLT, Nat.reduceEqDiff, reduceIte, Nat.reduceAdd, Nat.reduceSub, Nat.reduceLeDiff, Int.reduceEq, Int.reduceLT, Int.reduceLE, Int.reduceNeg, Int.reduceAdd, Int.reduceSub, Int.reduceToNat, Int.reduceMul, Nat.reduceMul, res42, ho, hv, hf])
      all_goals omega
    · have hv : apV bs.length = .sl (tp (254 + 2 * bs.length)) 0 1 bs.length none := if_neg hz
      have ho : o42 bs b = .slE 3 1 bs.length none (iL (afts bs b)) (I (lck bs b)) := by rw [o42, if_neg hz]
      have hh : apH (afts bs b) bs.length = Hp.lf.put (some (blkL 3 (iL (afts bs b)))) (tp (254 + 2 * bs.length)) := by rw [apH, if_neg hz, htl]
      (refine JQ.run follows hF hM ?_; simp (config := { maxSteps := 4000000 }) (disch := (omega)) only [go_sem, Nat.reduceLT, Nat.reduceEqDiff, reduceIte, Nat.reduceAdd, Nat.reduceSub, Nat.reduceLeDiff, Int.reduceEq, Int.reduceLT, Int.reduceLE, Int.reduceNeg, Int.reduceAdd, Int.reduceSub, Int.reduceToNat, Int.reduceMul, Nat.reduceMul, res42, ho, hv, hh, hfa])
      first | exact ⟨by omega, hal, goodIE (nb := 0) (hget_same _ _ _) (by omega) (by omega) (by omega)⟩ | exact ⟨hal, goodIE (nb := 0) (hget_same _ _ _) (by omega) (by omega) (by omega)⟩
theorem ok42 : SOK Try.prog 42 (spSI f42) := spSI_ok fun bs b lim h n v h' n' hr => by
  unfold f42 at hr
  split at hr
  · rename_i hb
    exact outC Try.func42 n42 b42 k42 r42 (Ins.none h) (by simp [L.length]) (ren_nil_rel (by simp only [purL_cons, purL_nil, pur_s, I_pur, Bool.and_self])) (o42 bs b) (o42_ok bs b) (run42 bs b hb.1 hb.2) lim n hr
  · cases hr
end Go.Proofs.Ytkdbgkibifigiaa.Ev
