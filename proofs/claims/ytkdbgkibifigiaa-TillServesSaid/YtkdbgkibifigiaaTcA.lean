/- The till: what is asked is checked; Count on both sides. -/
import Derived.Test.YtkdbgkibifigiaaTcQ
import Derived.Test.YtkdbgkibifigiaaTtD
namespace Go.Proofs.Ytkdbgkibifigiaa.Ev
set_option linter.unusedVariables false
set_option linter.unusedSimpArgs false
set_option maxRecDepth 100000
open Go Go.Proofs
attribute [local go_sem] evC_seq evC_reg evC_cond evC_block evC_skip evC_exit evC_ret evR_cons evR_nil evR_gd guardB_tt guardB_ff guardB_tf guardB_ft guardB_none bindR_ok bindR_okn rgRs_ok seqR_nor seqR_ext seqR_ret condR_true condR_false blockR_nor blockR_ext blockR_ret evX_t evX_c evXL_nil evXL_cons O_mv O_bin O_pick O_eqb O_not O_ext O_call O_conv O_slen O_six O_sbi pv_I pv_i pv_b pv_s pv_ns pv_sl pv_p pv_tu pv_ag bin_lss bin_leq bin_gtr bin_geq bin_eql bin_neq bin8_eql bin8_neq bin_add bin_sub bin_mul get_st get_lf bind_nil bind_cons if_true if_false Got_nor Got_ext Got_ret Kseq Kblk Klp Kend onStr_s onB_b onT_tu onI_I onN_I onK_I eqb_b not_b nthL_0 nthL_1 nthL_2 known_nil known_cons I_known known_b known_s evRVs_nil evRVs_cons evRes_1 evRes_2 evRV_tmp Bool.and_true Bool.true_and Bool.and_self Bool.not_true Bool.not_false decide_true decide_false Int.toNat_natCast true_and and_true big hget_same hget_ne newB_n onP_p onS_sl onS_ns O_fad O_alloc_if O_ixs O_len O_ld O_st O_box boxB_if ldB_if ldB_agif stB_if toL_I toL_i toL_b toL_s toL_sl toL_ns toL_ag allC_nil allC_cons isC_i isC_b isC_s isC_sl isC_ns I_isC Llen_nil Llen_cons Lget_0 Lget_1 Lget_2 Lget_3 blkL_size cell_blkL_if getL_blkL_if getL_setL_if setL_sz evRV_cell' rvB_agif rvB_if evPL_cons bldK_if evPL_nil O_build O_part evBuild_ok okL_some onA_ag partV_1 evPart_eq updS_nil updS_cons upd_0 upd_1 upd_2 upd_3 ge_iff_le if_pos and_self Nat.le_refl known_ag known_sl known_ns known_i ov_at spS_eq spSI_eq spSII_eq spI_eq spII_eq spIII_eq spIIII_eq res_v res_sl res_slE Good I_pur pur_b pur_s pur_i pur_ns pur_ag pur_tu purL_nil purL_cons evDr_eq evDs_nil evDs_cons dsR_ok stepD_eq sdB_n sdB_g sdG_tt sdG_ff sdG_tf sdG_ft sdG_none runD_0 rdR_f rdR_t baseOf_pu baseOf_h baseU_nil baseA_nil baseA_0 baseR_nil baseR_0 baseR_00 appAll_nil appAll_0 restr_nil restr_cons setD_some setD_none evC_draw iL_len iL_get iL_allC iL_pur hp0_0 hp0_c rdL_ns rdL_sl List.length_cons List.length_nil O_mks mkB_if O_bsl bslB_if O_app apX_ns apX_sl apN_some apS_some blkL_el Nat.one_mul Nat.mul_one Nat.zero_add n_I onF_fn O_callv app_nil app_cons spLF_eq spL_eq spLL_eq onL_some onLL_ss onLL_ns onLL_sn onLL_nn rdB_blk Int.cast_ofNat_Int

/-- The error of what is asked. -/
def rsE (c n b : Int) : Int := if 0 ≤ c ∧ c ≤ 16 ∧ 0 ≤ n ∧ c + n ≤ 16 ∧ 0 ≤ b ∧ b ≤ 20 then 0 else 1
theorem rsE_0 {c n b : Int} (h : rsE c n b = 0) : 0 ≤ c ∧ c ≤ 16 ∧ 0 ≤ n ∧ c + n ≤ 16 ∧ 0 ≤ b ∧ b ≤ 20 := by
  unfold rsE at h
  split at h
  · assumption
  · cases h
theorem rsE_1 {c n b : Int} (h : ¬ (0 ≤ c ∧ c ≤ 16 ∧ 0 ≤ n ∧ c + n ≤ 16 ∧ 0 ≤ b ∧ b ≤ 20)) : rsE c n b = 1 := if_neg h
noncomputable def rsV (c n b : Int) : V := .tu (.cons (if rsE c n b = 0 then ag3 c n b else ag3 0 0 0) (.cons (I (rsE c n b)) .nil))
theorem rsV_0 {c n b : Int} (h : rsE c n b = 0) : rsV c n b = .tu (.cons (.ag (.cons (I c) (.cons (I n) (.cons (I b) .nil)))) (.cons (I 0) .nil)) := by rw [rsV, if_pos h, h]; rfl
theorem rsV_1 {c n b : Int} (h : ¬ rsE c n b = 0) (h1 : rsE c n b = 1) : rsV c n b = .tu (.cons (.ag (.cons (I 0) (.cons (I 0) (.cons (I 0) .nil)))) (.cons (I 1) .nil)) := by rw [rsV, if_neg h, h1]; rfl
theorem rsV_ok (c n b : Int) : (rsV c n b).pur = true := by unfold rsV; split <;> simp [V.pur, L.pur, I_pur, ag3_pur]
theorem rsE_or (c n b : Int) : rsE c n b = 0 ∨ rsE c n b = 1 := by unfold rsE; split <;> simp
set_option maxHeartbeats 8000000 in
theorem run56 (c n b : Int) : JQ Try.prog drops Try.f56.ntmps F0 q56 256 (Kend res56 (Good 0 (.v (rsV c n b)))) (bind (.cons (I c) (.cons (I n) (.cons (I b) .nil))) 0 .lf) .lf 256 := by
  have hF := F0_ok Try.prog
  have hM := F0_mono
  have bad : ¬ (0 ≤ c ∧ c ≤ 16 ∧ 0 ≤ n ∧ c + n ≤ 16 ∧ 0 ≤ b ∧ b ≤ 20) → rsV c n b = .tu (.cons (.ag (.cons (I 0) (.cons (I 0) (.cons (I 0) .nil)))) (.cons (I 1) .nil)) := fun h => rsV_1 (by rw [rsE_1 h]; decide) (rsE_1 h)
  unfold q56
  (refine JQ.step follows hF hM ?_; simp (config := { maxSteps := 4000000 }) (disch := (omega)) only [go_sem, Nat.reduceLT, Nat.reduceEqDiff, reduceIte, Nat.reduceAdd, Nat.reduceSub, Nat.reduceLeDiff, Int.reduceEq, Int.reduceLT, Int.reduceLE, Int.reduceNeg, Int.reduceAdd, Int.reduceSub, Int.reduceToNat, Int.reduceMul, Nat.reduceMul])
  by_cases h1 : c < 0
  · have hv := bad (by omega)
    (refine JQ.step follows hF hM ?_; simp (config := { maxSteps := 4000000 }) (disch := (omega)) only [go_sem, Nat.reduceLT, Nat.reduceEqDiff, reduceIte, Nat.reduceAdd, Nat.reduceSub, Nat.reduceLeDiff, Int.reduceEq, Int.reduceLT, Int.reduceLE, Int.reduceNeg, Int.reduceAdd, Int.reduceSub, Int.reduceToNat, Int.reduceMul, Nat.reduceMul, h1, hv, res56])
  · by_cases h2 : 16 < c
    · have hv := bad (by omega)
      (refine JQ.step follows hF hM ?_; simp (config := { maxSteps := 4000000 }) (disch := (omega)) only [go_sem, Nat.reduceLT, Nat.reduceEqDiff, reduceIte, Nat.reduceAdd, Nat.reduceSub, Nat.reduceLeDiff, Int.reduceEq, Int.reduceLT, Int.reduceLE, Int.reduceNeg, Int.reduceAdd, Int.reduceSub, Int.reduceToNat, Int.reduceMul, Nat.reduceMul, h1, h2, hv, res56])
    · by_cases h3 : n < 0
      · have hv := bad (by omega)
        (refine JQ.step follows hF hM ?_; simp (config := { maxSteps := 4000000 }) (disch := (omega)) only [go_sem, Nat.reduceLT, Nat.reduceEqDiff, reduceIte, Nat.reduceAdd, Nat.reduceSub, Nat.reduceLeDiff, Int.reduceEq, Int.reduceLT, Int.reduceLE, Int.reduceNeg, Int.reduceAdd, Int.reduceSub, Int.reduceToNat, Int.reduceMul, Nat.reduceMul, h1, h2, h3, hv, res56])
      · by_cases h4 : 16 - c < n
        · have hv := bad (by omega)
          (refine JQ.step follows hF hM ?_; simp (config := { maxSteps := 4000000 }) (disch := (omega)) only [go_sem, Nat.reduceLT, Nat.reduceEqDiff, reduceIte, Nat.reduceAdd, Nat.reduceSub, Nat.reduceLeDiff, Int.reduceEq, Int.reduceLT, Int.reduceLE, Int.reduceNeg, Int.reduceAdd, Int.reduceSub, Int.reduceToNat, Int.reduceMul, Nat.reduceMul, h1, h2, h3, h4, hv, res56])
        · (refine JQ.step follows hF hM ?_; simp (config := { maxSteps := 4000000 }) (disch := (omega)) only [go_sem, Nat.reduceLT, Nat.reduceEqDiff, reduceIte, Nat.reduceAdd, Nat.reduceSub, Nat.reduceLeDiff, Int.reduceEq, Int.reduceLT, Int.reduceLE, Int.reduceNeg, Int.reduceAdd, Int.reduceSub, Int.reduceToNat, Int.reduceMul, Nat.reduceMul, h1, h2, h3, h4])
          by_cases h5 : b < 0
          · have hv := bad (by omega)
            (refine JQ.step follows hF hM ?_; simp (config := { maxSteps := 4000000 }) (disch := (omega)) only [go_sem, Nat.reduceLT, Nat.reduceEqDiff, reduceIte, Nat.reduceAdd, Nat.reduceSub, Nat.reduceLeDiff, Int.reduceEq, Int.reduceLT, Int.reduceLE, Int.reduceNeg, Int.reduceAdd, Int.reduceSub, Int.reduceToNat, Int.reduceMul, Nat.reduceMul, h5, hv, res56])
          · by_cases h6 : 20 < b
            · have hv := bad (by omega)
              (refine JQ.step follows hF hM ?_; simp (config := { maxSteps := 4000000 }) (disch := (omega)) only [go_sem, Nat.reduceLT, Nat.reduceEqDiff, reduceIte, Nat.reduceAdd, Nat.reduceSub, Nat.reduceLeDiff, Int.reduceEq, Int.reduceLT, Int.reduceLE, Int.reduceNeg, Int.reduceAdd, Int.reduceSub, Int.reduceToNat, Int.reduceMul, Nat.reduceMul, h5, h6, hv, res56])
            · have hv := rsV_0 (c := c) (n := n) (b := b) (if_pos (by omega))
              (refine JQ.step follows hF hM ?_; simp (config := { maxSteps := 4000000 }) (disch := (omega)) only [go_sem, Nat.reduceLT, Nat.reduceEqDiff, reduceIte, Nat.reduceAdd, Nat.reduceSub, Nat.reduceLeDiff, Int.reduceEq, Int.reduceLT, Int.reduceLE, Int.reduceNeg, Int.reduceAdd, Int.reduceSub, Int.reduceToNat, Int.reduceMul, Nat.reduceMul, h5, h6])
              (refine JQ.run follows hF hM ?_; simp (config := { maxSteps := 4000000 }) (disch := (omega)) only [go_sem, Nat.reduceLT, Nat.reduceEqDiff, reduceIte, Nat.reduceAdd, Nat.reduceSub, Nat.reduceLeDiff, Int.reduceEq, Int.reduceLT, Int.reduceLE, Int.reduceNeg, Int.reduceAdd, Int.reduceSub, Int.reduceToNat, Int.reduceMul, Nat.reduceMul, hv, res56])
noncomputable def f56 (c n b : Int) : Out := .v (rsV c n b)
theorem ok56 : SOK Try.prog 56 (spIII f56) := spIII_ok fun c m b lim h n v h' n' hr =>
  outC Try.func56 n56 b56 k56 r56 (Ins.none h) (by simp [L.length]) (ren_nil_rel (by simp only [purL_cons, purL_nil, I_pur, Bool.and_self])) (.v (rsV c m b)) (rsV_ok _ _ _) (run56 c m b) lim n hr
noncomputable def F58 : FF := ov 61 (spIII f61) F0
theorem F58_ok : FOK Try.prog F58 := ov_ok ok61 (F0_ok _)
theorem F58_mono : F58.mono := ov_mono (spIII_mo _) F0_mono
set_option maxHeartbeats 8000000 in
theorem run58 (c n b : Int) : JQ Try.prog drops Try.f58.ntmps F58 q58 256 (Kend res58 (Good 0 (.v (I (rsE c n b))))) (bind (.cons (I c) (.cons (I n) (.cons (I b) .nil))) 0 .lf) .lf 256 := by
  have hF := F58_ok
  have hM := F58_mono
  unfold q58
  (refine JQ.step follows hF hM ?_; simp (config := { maxSteps := 4000000 }) (disch := (omega)) only [go_sem, Nat.reduceLT, Nat.reduceEqDiff, reduceIte, Nat.reduceAdd, Nat.reduceSub, Nat.reduceLeDiff, Int.reduceEq, Int.reduceLT, Int.reduceLE, Int.reduceNeg, Int.reduceAdd, Int.reduceSub, Int.reduceToNat, Int.reduceMul, Nat.reduceMul])
  have dT : ∀ {z lo hi : Int}, lo ≤ z ∧ z ≤ hi → (decide (lo ≤ z) && decide (z ≤ hi)) = true := fun h => by simp only [Bool.and_eq_true, decide_eq_true_eq]; exact h
  have dF : ∀ {z lo hi : Int}, ¬ (lo ≤ z ∧ z ≤ hi) → (decide (lo ≤ z) && decide (z ≤ hi)) = false := fun h => by simp only [Bool.and_eq_false_iff, decide_eq_false_iff_not]; omega
  by_cases h1 : 0 ≤ c ∧ c ≤ 16
  · have e1 := dT h1
    by_cases h2 : 0 ≤ n ∧ n ≤ 16
    · have e2 := dT h2
      by_cases h3 : 16 < c + n
      · have hv := rsE_1 (c := c) (n := n) (b := b) (by omega)
        (refine JQ.step follows hF hM ?_; simp (config := { maxSteps := 4000000 }) (disch := (omega)) only [go_sem, Nat.reduceLT, Nat.reduceEqDiff, reduceIte, Nat.reduceAdd, Nat.reduceSub, Nat.reduceLeDiff, Int.reduceEq, Int.reduceLT, Int.reduceLE, Int.reduceNeg, Int.reduceAdd, Int.reduceSub, Int.reduceToNat, Int.reduceMul, Nat.reduceMul, F58, f61, e1, e2, h3, hv, res58])
      · by_cases h4 : 0 ≤ b ∧ b ≤ 20
        · have e4 := dT h4
          have hv : rsE c n b = 0 := if_pos (by omega)
          (refine JQ.step follows hF hM ?_; simp (config := { maxSteps := 4000000 }) (disch := (omega)) only [go_sem, Nat.reduceLT, Nat.reduceEqDiff, reduceIte, Nat.reduceAdd, Nat.reduceSub, Nat.reduceLeDiff, Int.reduceEq, Int.reduceLT, Int.reduceLE, Int.reduceNeg, Int.reduceAdd, Int.reduceSub, Int.reduceToNat, Int.reduceMul, Nat.reduceMul, F58, f61, e1, e2, h3, e4])
          (refine JQ.run follows hF hM ?_; simp (config := { maxSteps := 4000000 }) (disch := (omega)) only [go_sem, Nat.reduceLT, Nat.reduceEqDiff, reduceIte, Nat.reduceAdd, Nat.reduceSub, Nat.reduceLeDiff, Int.reduceEq, Int.reduceLT, Int.reduceLE, Int.reduceNeg, Int.reduceAdd, Int.reduceSub, Int.reduceToNat, Int.reduceMul, Nat.reduceMul, hv, res58])
        · have e4 := dF h4
          have hv := rsE_1 (c := c) (n := n) (b := b) (by omega)
          (refine JQ.step follows hF hM ?_; simp (config := { maxSteps := 4000000 }) (disch := (omega)) only [go_sem, Nat.reduceLT, Nat.reduceEqDiff, reduceIte, Nat.reduceAdd, Nat.reduceSub, Nat.reduceLeDiff, Int.reduceEq, Int.reduceLT, Int.reduceLE, Int.reduceNeg, Int.reduceAdd, Int.reduceSub, Int.reduceToNat, Int.reduceMul, Nat.reduceMul, F58, f61, e1, e2, h3, e4, hv, res58])
    · have e2 := dF h2
      have hv := rsE_1 (c := c) (n := n) (b := b) (by omega)
      (refine JQ.step follows hF hM ?_; simp (config := { maxSteps := 4000000 }) (disch := (omega)) only [go_sem, Nat.reduceLT, Nat.reduceEqDiff, reduceIte, Nat.reduceAdd, Nat.reduceSub, Nat.reduceLeDiff, Int.reduceEq, Int.reduceLT, Int.reduceLE, Int.reduceNeg, Int.reduceAdd, Int.reduceSub, Int.reduceToNat, Int.reduceMul, Nat.reduceMul, F58, f61, e1, e2, hv, res58])
  · have e1 := dF h1
    have hv := rsE_1 (c := c) (n := n) (b := b) (by omega)
    (refine JQ.step follows hF hM ?_; simp (config := { maxSteps := 4000000 }) (disch := (omega)) only [go_sem, Nat.reduceLT, Nat.reduceEqDiff, reduceIte, Nat.reduceAdd, Nat.reduceSub, Nat.reduceLeDiff, Int.reduceEq, Int.reduceLT, Int.reduceLE, Int.reduceNeg, Int.reduceAdd, Int.reduceSub, Int.reduceToNat, Int.reduceMul, Nat.reduceMul, F58, f61, e1, hv, res58])
noncomputable def f58 (c n b : Int) : Out := .v (I (rsE c n b))
theorem ok58 : SOK Try.prog 58 (spIII f58) := spIII_ok fun c m b lim h n v h' n' hr =>
  outC Try.func58 n58 b58 k58 r58 (Ins.none h) (by simp [L.length]) (ren_nil_rel (by simp only [purL_cons, purL_nil, I_pur, Bool.and_self])) (.v (I (rsE c m b))) (I_pur _) (run58 c m b) lim n hr

/-- Count's answer. -/
def coV (c n b : Int) : Int := if rsE c n b = 0 then wF c n b else 0
noncomputable def F23 : FF := ov 56 (spIII f56) (ov 57 (spA f57) F0)
theorem F23_ok : FOK Try.prog F23 := ov_ok ok56 (ov_ok ok57 (F0_ok _))
theorem F23_mono : F23.mono := ov_mono (spIII_mo _) (ov_mono (spA_mo _) F0_mono)
set_option maxHeartbeats 8000000 in
theorem run23 (c n b : Int) : JQ Try.prog drops Try.f23.ntmps F23 q23 256 (Kend res23 (Good 0 (.v (tuI (coV c n b) (rsE c n b))))) (bind (.cons (I c) (.cons (I n) (.cons (I b) .nil))) 0 .lf) .lf 256 := by
  have hF := F23_ok
  have hM := F23_mono
  unfold q23
  (refine JQ.step follows hF hM ?_; simp (config := { maxSteps := 4000000 }) (disch := (omega)) only [go_sem, Nat.reduceLT, Nat.reduceEqDiff, reduceIte, Nat.reduceAdd, Nat.reduceSub, Nat.reduceLeDiff, Int.reduceEq, Int.reduceLT, Int.reduceLE, Int.reduceNeg, Int.reduceAdd, Int.reduceSub, Int.reduceToNat, Int.reduceMul, Nat.reduceMul])
  by_cases h0 : rsE c n b = 0
  · have hr := rsE_0 h0
    have hv := rsV_0 h0
    have hc : coV c n b = wF c n b := if_pos h0
    (refine JQ.step follows hF hM ?_; simp (config := { maxSteps := 4000000 }) (disch := (omega)) only [go_sem, Nat.reduceLT, Nat.reduceEqDiff, reduceIte, Nat.reduceAdd, Nat.reduceSub, Nat.reduceLeDiff, Int.reduceEq, Int.reduceLT, Int.reduceLE, Int.reduceNeg, Int.reduceAdd, Int.reduceSub, Int.reduceToNat, Int.reduceMul, Nat.reduceMul, F23, f56, hv])
    (refine JQ.step follows hF hM ?_; simp (config := { maxSteps := 4000000 }) (disch := (omega)) only [go_sem, Nat.reduceLT, Nat.reduceEqDiff, reduceIte, Nat.reduceAdd, Nat.reduceSub, Nat.reduceLeDiff, Int.reduceEq, Int.reduceLT, Int.reduceLE, Int.reduceNeg, Int.reduceAdd, Int.reduceSub, Int.reduceToNat, Int.reduceMul, Nat.reduceMul])
    (refine JQ.step follows hF hM ?_; simp (config := { maxSteps := 4000000 }) (disch := (omega)) only [go_sem, Nat.reduceLT, Nat.reduceEqDiff, reduceIte, Nat.reduceAdd, Nat.reduceSub, Nat.reduceLeDiff, Int.reduceEq, Int.reduceLT, Int.reduceLE, Int.reduceNeg, Int.reduceAdd, Int.reduceSub, Int.reduceToNat, Int.reduceMul, Nat.reduceMul, F23, spA_eq, f57])
    (refine JQ.run follows hF hM ?_; simp (config := { maxSteps := 4000000 }) (disch := (omega)) only [go_sem, Nat.reduceLT, Nat.reduceEqDiff, reduceIte, Nat.reduceAdd, Nat.reduceSub, Nat.reduceLeDiff, Int.reduceEq, Int.reduceLT, Int.reduceLE, Int.reduceNeg, Int.reduceAdd, Int.reduceSub, Int.reduceToNat, Int.reduceMul, Nat.reduceMul, tuI, hc, h0, res23])
  · have h1 := (rsE_or c n b).resolve_left h0
    have hv := rsV_1 h0 h1
    have hc : coV c n b = 0 := if_neg h0
    (refine JQ.step follows hF hM ?_; simp (config := { maxSteps := 4000000 }) (disch := (omega)) only [go_sem, Nat.reduceLT, Nat.reduceEqDiff, reduceIte, Nat.reduceAdd, Nat.reduceSub, Nat.reduceLeDiff, Int.reduceEq, Int.reduceLT, Int.reduceLE, Int.reduceNeg, Int.reduceAdd, Int.reduceSub, Int.reduceToNat, Int.reduceMul, Nat.reduceMul, F23, f56, hv])
    (refine JQ.step follows hF hM ?_; simp (config := { maxSteps := 4000000 }) (disch := (omega)) only [go_sem, Nat.reduceLT, Nat.reduceEqDiff, reduceIte, Nat.reduceAdd, Nat.reduceSub, Nat.reduceLeDiff, Int.reduceEq, Int.reduceLT, Int.reduceLE, Int.reduceNeg, Int.reduceAdd, Int.reduceSub, Int.reduceToNat, Int.reduceMul, Nat.reduceMul, tuI, hc, h1, res23])
noncomputable def f23 (c n b : Int) : Out := .v (tuI (coV c n b) (rsE c n b))
theorem ok23 : SOK Try.prog 23 (spIII f23) := spIII_ok fun c m b lim h n v h' n' hr =>
  outC Try.func23 n23 b23 k23 r23 (Ins.none h) (by simp [L.length]) (ren_nil_rel (by simp only [purL_cons, purL_nil, I_pur, Bool.and_self])) (.v (tuI (coV c m b) (rsE c m b))) (tuI_ok _ _) (run23 c m b) lim n hr
theorem T_ask {c n b : Int} (h : rsE c n b = 0) : T (b + c - n) c.toNat n.toNat = wF c n b := by
  have hr := rsE_0 h
  have hT := T_wF (c := c.toNat) (n := n.toNat) (b := b) (by omega) (by omega) (by omega)
  rwa [Int.toNat_of_nonneg (by omega), Int.toNat_of_nonneg (by omega)] at hT
noncomputable def F24 : FF := ov 58 (spIII f58) (ov 59 (spIII f59) F0)
theorem F24_ok : FOK Try.prog F24 := ov_ok ok58 (ov_ok ok59 (F0_ok _))
theorem F24_mono : F24.mono := ov_mono (spIII_mo _) (ov_mono (spIII_mo _) F0_mono)
set_option maxHeartbeats 8000000 in
theorem run24 (c n b : Int) : JQ Try.prog drops Try.f24.ntmps F24 q24 256 (Kend res24 (Good 0 (.v (tuI (coV c n b) (rsE c n b))))) (bind (.cons (I c) (.cons (I n) (.cons (I b) .nil))) 0 .lf) .lf 256 := by
  have hF := F24_ok
  have hM := F24_mono
  unfold q24
  (refine JQ.step follows hF hM ?_; simp (config := { maxSteps := 4000000 }) (disch := (omega)) only [go_sem, Nat.reduceLT, Nat.reduceEqDiff, reduceIte, Nat.reduceAdd, Nat.reduceSub, Nat.reduceLeDiff, Int.reduceEq, Int.reduceLT, Int.reduceLE, Int.reduceNeg, Int.reduceAdd, Int.reduceSub, Int.reduceToNat, Int.reduceMul, Nat.reduceMul])
  by_cases h0 : rsE c n b = 0
  · have hr := rsE_0 h0
    have hT := T_ask h0
    have hc : coV c n b = wF c n b := if_pos h0
    (refine JQ.step follows hF hM ?_; simp (config := { maxSteps := 4000000 }) (disch := (omega)) only [go_sem, Nat.reduceLT, Nat.reduceEqDiff, reduceIte, Nat.reduceAdd, Nat.reduceSub, Nat.reduceLeDiff, Int.reduceEq, Int.reduceLT, Int.reduceLE, Int.reduceNeg, Int.reduceAdd, Int.reduceSub, Int.reduceToNat, Int.reduceMul, Nat.reduceMul, F24, f58, h0])
    (refine JQ.step follows hF hM ?_; simp (config := { maxSteps := 4000000 }) (disch := (omega)) only [go_sem, Nat.reduceLT, Nat.reduceEqDiff, reduceIte, Nat.reduceAdd, Nat.reduceSub, Nat.reduceLeDiff, Int.reduceEq, Int.reduceLT, Int.reduceLE, Int.reduceNeg, Int.reduceAdd, Int.reduceSub, Int.reduceToNat, Int.reduceMul, Nat.reduceMul])
    (refine JQ.step follows hF hM ?_; simp (config := { maxSteps := 4000000 }) (disch := (omega)) only [go_sem, Nat.reduceLT, Nat.reduceEqDiff, reduceIte, Nat.reduceAdd, Nat.reduceSub, Nat.reduceLeDiff, Int.reduceEq, Int.reduceLT, Int.reduceLE, Int.reduceNeg, Int.reduceAdd, Int.reduceSub, Int.reduceToNat, Int.reduceMul, Nat.reduceMul, F24, f59, hT])
    (refine JQ.run follows hF hM ?_; simp (config := { maxSteps := 4000000 }) (disch := (omega)) only [go_sem, Nat.reduceLT, Nat.reduceEqDiff, reduceIte, Nat.reduceAdd, Nat.reduceSub, Nat.reduceLeDiff, Int.reduceEq, Int.reduceLT, Int.reduceLE, Int.reduceNeg, Int.reduceAdd, Int.reduceSub, Int.reduceToNat, Int.reduceMul, Nat.reduceMul, tuI, hc, h0, res24])
  · have h1 := (rsE_or c n b).resolve_left h0
    have hc : coV c n b = 0 := if_neg h0
    (refine JQ.step follows hF hM ?_; simp (config := { maxSteps := 4000000 }) (disch := (omega)) only [go_sem, Nat.reduceLT, Nat.reduceEqDiff, reduceIte, Nat.reduceAdd, Nat.reduceSub, Nat.reduceLeDiff, Int.reduceEq, Int.reduceLT, Int.reduceLE, Int.reduceNeg, Int.reduceAdd, Int.reduceSub, Int.reduceToNat, Int.reduceMul, Nat.reduceMul, F24, f58, h1])
    (refine JQ.step follows hF hM ?_; simp (config := { maxSteps := 4000000 }) (disch := (omega)) only [go_sem, Nat.reduceLT, Nat.reduceEqDiff, reduceIte, Nat.reduceAdd, Nat.reduceSub, Nat.reduceLeDiff, Int.reduceEq, Int.reduceLT, Int.reduceLE, Int.reduceNeg, Int.reduceAdd, Int.reduceSub, Int.reduceToNat, Int.reduceMul, Nat.reduceMul, tuI, hc, h1, res24])
theorem ok24 : SOK Try.prog 24 (spIII f23) := spIII_ok fun c m b lim h n v h' n' hr =>
  outC Try.func24 n24 b24 k24 r24 (Ins.none h) (by simp [L.length]) (ren_nil_rel (by simp only [purL_cons, purL_nil, I_pur, Bool.and_self])) (.v (tuI (coV c m b) (rsE c m b))) (tuI_ok _ _) (run24 c m b) lim n hr
end Go.Proofs.Ytkdbgkibifigiaa.Ev
