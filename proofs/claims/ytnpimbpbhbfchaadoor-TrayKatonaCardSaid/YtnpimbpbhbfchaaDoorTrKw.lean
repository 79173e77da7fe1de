/- TrayKatona: all numbers. -/
import Derived.Test.YtnpimbpbhbfchaaDoorTrK1
import Derived.Test.YtnpimbpbhbfchaaDoorTrK2
import Derived.Test.YtnpimbpbhbfchaaDoorTrK3
import Derived.Test.YtnpimbpbhbfchaaDoorTrK4
import Derived.Test.YtnpimbpbhbfchaaDoorTrK5
import Derived.Test.YtnpimbpbhbfchaaDoorTrK6
import Derived.Test.YtnpimbpbhbfchaaDoorTrK7
import Derived.Test.YtnpimbpbhbfchaaDoorTrK8
namespace Go.Proofs.YtnpimbpbhbfchaaDoor.Ev
set_option linter.unusedVariables false
set_option linter.unusedSimpArgs false
set_option maxRecDepth 100000
open Go Go.Proofs Go.RowKit
attribute [local go_sem] evC_seq evC_reg evC_cond evC_block evC_skip evC_exit evC_ret evR_cons evR_nil evR_gd guardB_tt guardB_ff guardB_tf guardB_ft guardB_none bindR_ok bindR_okn rgRs_ok seqR_nor seqR_ext seqR_ret condR_true condR_false blockR_nor blockR_ext blockR_ret evX_t evX_c evXL_nil evXL_cons O_mv O_bin O_pick O_eqb O_not O_ext O_call O_conv O_slen O_six O_sbi pv_I pv_i pv_b pv_s pv_ns pv_sl pv_p pv_tu pv_ag bin_lss bin_leq bin_gtr bin_geq bin_eql bin_neq bin8_eql bin8_neq bin_add bin_sub bin_mul get_st get_lf bind_nil bind_cons if_true if_false Got_nor Got_ext Got_ret Kseq Kblk Klp Kend onStr_s onB_b onT_tu onI_I onN_I onK_I eqb_b not_b nthL_0 nthL_1 nthL_2 known_nil known_cons I_known known_b known_s evRVs_nil evRVs_cons evRes_1 evRes_2 evRV_tmp Bool.and_true Bool.true_and Bool.and_self Bool.not_true Bool.not_false decide_true decide_false Int.toNat_natCast true_and and_true big hget_same hget_ne newB_n onP_p onS_sl onS_ns O_fad O_alloc_if O_ixs O_len O_ld O_st O_box boxB_if ldB_if ldB_agif stB_if stB_wif toL_I toL_i toL_b toL_s toL_sl toL_ns toL_ag allC_nil allC_cons isC_i isC_b isC_s isC_sl isC_ns I_isC Llen_nil Llen_cons Lget_0 Lget_1 Lget_2 Lget_3 blkL_size cell_blkL_if getL_blkL_if getL_setL_if setL_sz evRV_cell' rvB_agif rvB_if evPL_cons bldK_if evPL_nil O_build O_part evBuild_ok okL_some onA_ag partV_1 evPart_eq updS_nil updS_cons upd_0 upd_1 upd_2 upd_3 ge_iff_le if_pos and_self Nat.le_refl known_ag known_sl known_ns known_i ov_at spS_eq spSI_eq spSII_eq spI_eq spII_eq spIII_eq spIIII_eq res_v res_sl res_slE Good I_pur pur_b pur_s pur_i pur_ns pur_ag pur_tu purL_nil purL_cons evDr_eq evDs_nil evDs_cons dsR_ok stepD_eq sdB_n sdB_g sdG_tt sdG_ff sdG_tf sdG_ft sdG_none runD_0 rdR_f rdR_t baseOf_pu baseOf_h baseU_nil baseA_nil baseA_0 baseR_nil baseR_0 baseR_00 appAll_nil appAll_0 restr_nil restr_cons setD_some setD_none evC_draw iL_len iL_get iL_allC iL_pur hp0_0 hp0_c rdL_ns rdL_sl List.length_cons List.length_nil O_mks mkB_if O_bsl bslB_if O_app apX_ns apX_sl apN_some apS_some blkL_el Nat.one_mul Nat.mul_one Nat.zero_add n_I onF_fn O_callv app_nil app_cons spLF_eq spL_eq spLL_eq onL_some onLL_ss onLL_ns onLL_sn onLL_nn rdB_blk Int.cast_ofNat_Int
theorem prs_mem {r s : Nat} (hr : r < 5) (hs : s ≤ r + 1) : (r, s) ∈ prs := by
  rcases (show r = 0 ∨ r = 1 ∨ r = 2 ∨ r = 3 ∨ r = 4 by omega) with rfl | rfl | rfl | rfl | rfl
  · rcases (show s = 0 ∨ s = 1 by omega) with rfl | rfl <;> decide
  · rcases (show s = 0 ∨ s = 1 ∨ s = 2 by omega) with rfl | rfl | rfl <;> decide
  · rcases (show s = 0 ∨ s = 1 ∨ s = 2 ∨ s = 3 by omega) with rfl | rfl | rfl | rfl <;> decide
  · rcases (show s = 0 ∨ s = 1 ∨ s = 2 ∨ s = 3 ∨ s = 4 by omega) with rfl | rfl | rfl | rfl | rfl <;> decide
  · rcases (show s = 0 ∨ s = 1 ∨ s = 2 ∨ s = 3 ∨ s = 4 ∨ s = 5 by omega) with rfl | rfl | rfl | rfl | rfl | rfl <;> decide
theorem at2 {α : Type} {f : Nat → Int → α} {c : α} (h : f = fun _ _ => c) (el : Nat) (z : Int) : f el z = c := congrFun (congrFun h el) z
theorem tk_all (el : Nat) (z : Int) (r s k : Nat) (hr : r < 5) (hs : s ≤ r + 1) (hk : k ≤ cho (r + 1) s) : tlB el z r s k = true := by
  rcases (show r = 0 ∨ r = 1 ∨ r = 2 ∨ r = 3 ∨ r = 4 by omega) with rfl | rfl | rfl | rfl | rfl
  · rcases (show s = 0 ∨ s = 1 by omega) with rfl | rfl
    · have hk : k ≤ 1 := hk
      rcases (show k = 0 ∨ k = 1 by omega) with rfl | rfl
      · exact at2 tk0_0_0 el z
      · exact at2 tk0_0_1 el z
    · have hk : k ≤ 1 := hk
      rcases (show k = 0 ∨ k = 1 by omega) with rfl | rfl
      · exact at2 tk0_1_0 el z
      · exact at2 tk0_1_1 el z
  · rcases (show s = 0 ∨ s = 1 ∨ s = 2 by omega) with rfl | rfl | rfl
    · have hk : k ≤ 1 := hk
      rcases (show k = 0 ∨ k = 1 by omega) with rfl | rfl
      · exact at2 tk1_0_0 el z
      · exact at2 tk1_0_1 el z
    · have hk : k ≤ 2 := hk
      rcases (show k = 0 ∨ k = 1 ∨ k = 2 by omega) with rfl | rfl | rfl
      · exact at2 tk1_1_0 el z
      · exact at2 tk1_1_1 el z
      · exact at2 tk1_1_2 el z
    · have hk : k ≤ 1 := hk
      rcases (show k = 0 ∨ k = 1 by omega) with rfl | rfl
      · exact at2 tk1_2_0 el z
      · exact at2 tk1_2_1 el z
  · rcases (show s = 0 ∨ s = 1 ∨ s = 2 ∨ s = 3 by omega) with rfl | rfl | rfl | rfl
    · have hk : k ≤ 1 := hk
      rcases (show k = 0 ∨ k = 1 by omega) with rfl | rfl
      · exact at2 tk2_0_0 el z
      · exact at2 tk2_0_1 el z
    · have hk : k ≤ 3 := hk
      rcases (show k = 0 ∨ k = 1 ∨ k = 2 ∨ k = 3 by omega) with rfl | rfl | rfl | rfl
      · exact at2 tk2_1_0 el z
      · exact at2 tk2_1_1 el z
      · exact at2 tk2_1_2 el z
      · exact at2 tk2_1_3 el z
    · have hk : k ≤ 3 := hk
      rcases (show k = 0 ∨ k = 1 ∨ k = 2 ∨ k = 3 by omega) with rfl | rfl | rfl | rfl
      · exact at2 tk2_2_0 el z
      · exact at2 tk2_2_1 el z
      · exact at2 tk2_2_2 el z
      · exact at2 tk2_2_3 el z
    · have hk : k ≤ 1 := hk
      rcases (show k = 0 ∨ k = 1 by omega) with rfl | rfl
      · exact at2 tk2_3_0 el z
      · exact at2 tk2_3_1 el z
  · rcases (show s = 0 ∨ s = 1 ∨ s = 2 ∨ s = 3 ∨ s = 4 by omega) with rfl | rfl | rfl | rfl | rfl
    · have hk : k ≤ 1 := hk
      rcases (show k = 0 ∨ k = 1 by omega) with rfl | rfl
      · exact at2 tk3_0_0 el z
      · exact at2 tk3_0_1 el z
    · have hk : k ≤ 4 := hk
      rcases (show k = 0 ∨ k = 1 ∨ k = 2 ∨ k = 3 ∨ k = 4 by omega) with rfl | rfl | rfl | rfl | rfl
      · exact at2 tk3_1_0 el z
      · exact at2 tk3_1_1 el z
      · exact at2 tk3_1_2 el z
      · exact at2 tk3_1_3 el z
      · exact at2 tk3_1_4 el z
    · have hk : k ≤ 6 := hk
      rcases (show k = 0 ∨ k = 1 ∨ k = 2 ∨ k = 3 ∨ k = 4 ∨ k = 5 ∨ k = 6 by omega) with rfl | rfl | rfl | rfl | rfl | rfl | rfl
      · exact at2 tk3_2_0 el z
      · exact at2 tk3_2_1 el z
      · exact at2 tk3_2_2 el z
      · exact at2 tk3_2_3 el z
      · exact at2 tk3_2_4 el z
      · exact at2 tk3_2_5 el z
      · exact at2 tk3_2_6 el z
    · have hk : k ≤ 4 := hk
      rcases (show k = 0 ∨ k = 1 ∨ k = 2 ∨ k = 3 ∨ k = 4 by omega) with rfl | rfl | rfl | rfl | rfl
      · exact at2 tk3_3_0 el z
      · exact at2 tk3_3_1 el z
      · exact at2 tk3_3_2 el z
      · exact at2 tk3_3_3 el z
      · exact at2 tk3_3_4 el z
    · have hk : k ≤ 1 := hk
      rcases (show k = 0 ∨ k = 1 by omega) with rfl | rfl
      · exact at2 tk3_4_0 el z
      · exact at2 tk3_4_1 el z
  · rcases (show s = 0 ∨ s = 1 ∨ s = 2 ∨ s = 3 ∨ s = 4 ∨ s = 5 by omega) with rfl | rfl | rfl | rfl | rfl | rfl
    · have hk : k ≤ 1 := hk
      rcases (show k = 0 ∨ k = 1 by omega) with rfl | rfl
      · exact at2 tk4_0_0 el z
      · exact at2 tk4_0_1 el z
    · have hk : k ≤ 5 := hk
      rcases (show k = 0 ∨ k = 1 ∨ k = 2 ∨ k = 3 ∨ k = 4 ∨ k = 5 by omega) with rfl | rfl | rfl | rfl | rfl | rfl
      · exact at2 tk4_1_0 el z
      · exact at2 tk4_1_1 el z
      · exact at2 tk4_1_2 el z
      · exact at2 tk4_1_3 el z
      · exact at2 tk4_1_4 el z
      · exact at2 tk4_1_5 el z
    · have hk : k ≤ 10 := hk
      rcases (show k = 0 ∨ k = 1 ∨ k = 2 ∨ k = 3 ∨ k = 4 ∨ k = 5 ∨ k = 6 ∨ k = 7 ∨ k = 8 ∨ k = 9 ∨ k = 10 by omega) with rfl | rfl | rfl | rfl | rfl | rfl | rfl | rfl | rfl | rfl | rfl
      · exact at2 tk4_2_0 el z
      · exact at2 tk4_2_1 el z
      · exact at2 tk4_2_2 el z
      · exact at2 tk4_2_3 el z
      · exact at2 tk4_2_4 el z
      · exact at2 tk4_2_5 el z
      · exact at2 tk4_2_6 el z
      · exact at2 tk4_2_7 el z
      · exact at2 tk4_2_8 el z
      · exact at2 tk4_2_9 el z
      · exact at2 tk4_2_10 el z
    · have hk : k ≤ 10 := hk
      rcases (show k = 0 ∨ k = 1 ∨ k = 2 ∨ k = 3 ∨ k = 4 ∨ k = 5 ∨ k = 6 ∨ k = 7 ∨ k = 8 ∨ k = 9 ∨ k = 10 by omega) with rfl | rfl | rfl | rfl | rfl | rfl | rfl | rfl | rfl | rfl | rfl
      · exact at2 tk4_3_0 el z
      · exact at2 tk4_3_1 el z
      · exact at2 tk4_3_2 el z
      · exact at2 tk4_3_3 el z
      · exact at2 tk4_3_4 el z
      · exact at2 tk4_3_5 el z
      · exact at2 tk4_3_6 el z
      · exact at2 tk4_3_7 el z
      · exact at2 tk4_3_8 el z
      · exact at2 tk4_3_9 el z
      · exact at2 tk4_3_10 el z
    · have hk : k ≤ 5 := hk
      rcases (show k = 0 ∨ k = 1 ∨ k = 2 ∨ k = 3 ∨ k = 4 ∨ k = 5 by omega) with rfl | rfl | rfl | rfl | rfl | rfl
      · exact at2 tk4_4_0 el z
      · exact at2 tk4_4_1 el z
      · exact at2 tk4_4_2 el z
      · exact at2 tk4_4_3 el z
      · exact at2 tk4_4_4 el z
      · exact at2 tk4_4_5 el z
    · have hk : k ≤ 1 := hk
      rcases (show k = 0 ∨ k = 1 by omega) with rfl | rfl
      · exact at2 tk4_5_0 el z
      · exact at2 tk4_5_1 el z
set_option maxHeartbeats 8000000 in
theorem ka_run (el : Nat) (a b z : Int) (ha0 : 0 ≤ a) (ha : a ≤ 255) (hb0 : 0 ≤ b) (hb : b ≤ 255) (hz0 : 0 ≤ z) (hz : z ≤ 255) : JQ Tryd.prog drops Tryd.f4.ntmps (EW 40) q4 (gK + 1) (Kend res4 fun v _ _ => v = .b true) (bind (.cons (.i .u8 a) (.cons (.i .u8 b) (.cons (.i .u8 z) .nil))) 0 .lf) (tbH el) (gK + 1) := by
  have hF := EW_ok 40
  have hM := EW_mono 40
  obtain ⟨r, hr⟩ : ∃ r : Nat, (r : Int) = a % 5 := ⟨(a % 5).toNat, by omega⟩
  have hr5 : r < 5 := by omega
  obtain ⟨s, hs⟩ : ∃ s : Nat, (s : Int) = b % (1 + (r : Int) + 1) := ⟨(b % (1 + (r : Int) + 1)).toNat, by have := Int.emod_nonneg b (show (1 + (r : Int) + 1) ≠ 0 by omega); omega⟩
  have hsl : s ≤ r + 1 := by have := Int.emod_lt_of_pos b (show (0 : Int) < 1 + (r : Int) + 1 by omega); omega
  have hm := prs_mem hr5 hsl
  have hwa : IntKind.i64.wrap a = a := wrap64 (by omega) (by omega)
  have hwb : IntKind.i64.wrap b = b := wrap64 (by omega) (by omega)
  have hwz : IntKind.i64.wrap z = z := wrap64 (by omega) (by omega)
  have f0 := List.map_inj_left.1 (congrFun (congrFun k5_nor el) z) (r, s) hm
  have f1 : rsN (R5 el z (r, s)) < 9223372036854775808 := by
    have := List.all_eq_true.1 (congrFun (congrFun k5_n el) z) (r, s) hm
    rwa [Nat.blt_eq] at this
  have f2 := List.map_inj_left.1 (congrFun (congrFun k5_2 el) z) (r, s) hm
  have f6 := List.map_inj_left.1 (congrFun (congrFun k5_6 el) z) (r, s) hm
  have f7 := List.map_inj_left.1 (congrFun (congrFun k5_7 el) z) (r, s) hm
  have f8 := List.map_inj_left.1 (congrFun (congrFun k5_8 el) z) (r, s) hm
  have fl := (pv_ok (List.map_inj_left.1 (congrFun (congrFun k5_l el) z) (r, s) hm)).2.1.symm
  dsimp only at f0 f1 f2 f6 f7 f8 fl
  have fl : onS (v9 el z (r, s)) (fun _ _ _ l _ => V.n l) (I 0) V.bad = I (cho (r + 1) s : Nat) := fl
  have hc : cho (r + 1) s ≤ 10 := by
    have := List.all_eq_true.1 (show prs.all (fun p => decide (cho (p.1 + 1) p.2 ≤ 10)) = true by decide) (r, s) hm
    simpa using this
  obtain ⟨k, hk⟩ : ∃ k : Nat, (k : Int) = z % (((cho (r + 1) s : Nat) : Int) + 1) := ⟨(z % (((cho (r + 1) s : Nat) : Int) + 1)).toNat, by have := Int.emod_nonneg z (show (((cho (r + 1) s : Nat) : Int) + 1) ≠ 0 by omega); omega⟩
  have hkl : k ≤ cho (r + 1) s := by have := Int.emod_lt_of_pos z (show (0 : Int) < ((cho (r + 1) s : Nat) : Int) + 1 by omega); omega
  rw [q4_eq]
  (refine JQ.step follows hF hM ?_; simp (config := { maxSteps := 4000000 }) (disch := (omega)) only [go_sem, Nat.reduceLT, Nat.reduceEqDiff, reduceIte, Nat.reduceAdd, Nat.reduceSub, Nat.reduceLeDiff, Int.reduceEq, Int.reduceLT, Int.reduceLE, Int.reduceNeg, Int.reduceAdd, Int.reduceSub, Int.reduceToNat, Int.reduceMul, Nat.reduceMul])
  try (refine ⟨by unfold gK; omega, ?_⟩)
  (refine JQ.step follows hF hM ?_; simp (config := { maxSteps := 4000000 }) (disch := (omega)) only [go_sem, Nat.reduceLT, Nat.reduceEqDiff, reduceIte, Nat.reduceAdd, Nat.reduceSub, Nat.reduceLeDiff, Int.reduceEq, Int.reduceLT, Int.reduceLE, Int.reduceNeg, Int.reduceAdd, Int.reduceSub, Int.reduceToNat, Int.reduceMul, Nat.reduceMul, onK_i, mkI_64, hwa, bin_rem, ← hr])
  try (refine ⟨by unfold gK; omega, ?_⟩)
  (refine JQ.step follows hF hM ?_; simp (config := { maxSteps := 4000000 }) (disch := (omega)) only [go_sem, Nat.reduceLT, Nat.reduceEqDiff, reduceIte, Nat.reduceAdd, Nat.reduceSub, Nat.reduceLeDiff, Int.reduceEq, Int.reduceLT, Int.reduceLE, Int.reduceNeg, Int.reduceAdd, Int.reduceSub, Int.reduceToNat, Int.reduceMul, Nat.reduceMul, onK_i, mkI_64, hwb, bin_rem, hb0, ← hs])
  try (refine ⟨by unfold gK; omega, ?_⟩)
  (refine JQ.step follows hF hM ?_; simp (config := { maxSteps := 4000000 }) (disch := (omega)) only [go_sem, Nat.reduceLT, Nat.reduceEqDiff, reduceIte, Nat.reduceAdd, Nat.reduceSub, Nat.reduceLeDiff, Int.reduceEq, Int.reduceLT, Int.reduceLE, Int.reduceNeg, Int.reduceAdd, Int.reduceSub, Int.reduceToNat, Int.reduceMul, Nat.reduceMul])
  try (refine ⟨by unfold gK; omega, ?_⟩)
  refine JQ.weak (e0 := e0 z r s) (by unfold e0; ((repeat' (first | exact EnvLe.lf _ | refine EnvLe.set (by decide) ?_ ?_)) <;> first | exact EnvLe.lf _ | (simp (config := { maxSteps := 4000000 }) (disch := (omega)) only [go_sem, Nat.reduceLT, Nat.reduceEqDiff, reduceIte, Nat.reduceAdd, Nat.reduceSub, Nat.reduceLeDiff, Int.reduceEq, Int.reduceLT, Int.reduceLE, Int.reduceNeg, Int.reduceAdd, Int.reduceSub, Int.reduceToNat, Int.reduceMul, Nat.reduceMul, Int.natCast_add, Int.cast_ofNat_Int]; done) | (simp (config := { maxSteps := 4000000 }) (disch := (omega)) only [go_sem, Nat.reduceLT, Nat.reduceEqDiff, reduceIte, Nat.reduceAdd, Nat.reduceSub, Nat.reduceLeDiff, Int.reduceEq, Int.reduceLT, Int.reduceLE, Int.reduceNeg, Int.reduceAdd, Int.reduceSub, Int.reduceToNat, Int.reduceMul, Nat.reduceMul, Int.natCast_add, Int.cast_ofNat_Int] <;> first | rfl | (congr 1; omega)))) (HpLe.refl _) ?_
  refine JQ.evK follows hF hM f0 f1 ?_
  refine JQ.weak (e0 := ((((Tr.lf.set (.i .u8 z) (tp 2)).set (.b false) (tp 6)).set (I (1 + (r : Int))) (tp 7)).set (I (s : Int)) (tp 8)).set (v9 el z (r, s)) (tp 9)) ?_ (HpLe.refl _) ?_
  · refine EnvLe.set (by decide) rfl (EnvLe.set (by decide) f8 (EnvLe.set (by decide) f7 (EnvLe.set (by decide) f6 (EnvLe.set (by decide) f2 (EnvLe.lf _)))))
  (refine JQ.step follows hF hM ?_; simp (config := { maxSteps := 4000000 }) (disch := (omega)) only [go_sem, Nat.reduceLT, Nat.reduceEqDiff, reduceIte, Nat.reduceAdd, Nat.reduceSub, Nat.reduceLeDiff, Int.reduceEq, Int.reduceLT, Int.reduceLE, Int.reduceNeg, Int.reduceAdd, Int.reduceSub, Int.reduceToNat, Int.reduceMul, Nat.reduceMul, onK_i, mkI_64, hwz, fl, bin_rem, hz0, f1, ← hk])
  try (refine ⟨f1, ?_⟩)
  refine JQ.weak (e0 := eK el z (r, s) k) (by unfold eK; ((repeat' (first | exact EnvLe.lf _ | refine EnvLe.set (by decide) ?_ ?_)) <;> first | exact EnvLe.lf _ | (simp (config := { maxSteps := 4000000 }) (disch := (omega)) only [go_sem, Nat.reduceLT, Nat.reduceEqDiff, reduceIte, Nat.reduceAdd, Nat.reduceSub, Nat.reduceLeDiff, Int.reduceEq, Int.reduceLT, Int.reduceLE, Int.reduceNeg, Int.reduceAdd, Int.reduceSub, Int.reduceToNat, Int.reduceMul, Nat.reduceMul, Int.natCast_add, Int.cast_ofNat_Int]; done) | (simp (config := { maxSteps := 4000000 }) (disch := (omega)) only [go_sem, Nat.reduceLT, Nat.reduceEqDiff, reduceIte, Nat.reduceAdd, Nat.reduceSub, Nat.reduceLeDiff, Int.reduceEq, Int.reduceLT, Int.reduceLE, Int.reduceNeg, Int.reduceAdd, Int.reduceSub, Int.reduceToNat, Int.reduceMul, Nat.reduceMul, Int.natCast_add, Int.cast_ofNat_Int] <;> first | rfl | (congr 1; omega)))) (HpLe.refl _) ?_
  exact JQ.run follows hF hM (fin_kC (tk_all el z r s k hr5 hsl hkl))
theorem ka_walk (a b z : Int) (ha0 : 0 ≤ a) (ha : a ≤ 255) (hb0 : 0 ≤ b) (hb : b ≤ 255) (hz0 : 0 ≤ z) (hz : z ≤ 255) (w : World) (el : TypeId) (hw : Holds w [(1, el, kL .u8 zs64)]) : Calls Tryd.prog 4 #[.int .u8 a, .int .u8 b, .int .u8 z] w fun e w' => e = .returned (.bool true) ∧ Below w.heap.size w w' :=
  lawT [(1, el, kL .u8 zs64)] Tryd.func4 b4 k4 r4 (args := .cons (.i .u8 a) (.cons (.i .u8 b) (.cons (.i .u8 z) .nil))) (by simp [L.length]) (ka_run el a b z ha0 ha hb0 hb hz0 hz) (vs := [.int .u8 a, .int .u8 b, .int .u8 z]) (fun _ => ⟨_, _, rfl, rfl, _, _, rfl, rfl, _, _, rfl, rfl, rfl⟩) w hw
end Go.Proofs.YtnpimbpbhbfchaaDoor.Ev
