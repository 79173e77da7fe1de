/- TrayChained: all trays. -/
import Derived.Test.YtnpimbpbhbfchaaDoorTrC1
import Derived.Test.YtnpimbpbhbfchaaDoorTrC2
import Derived.Test.YtnpimbpbhbfchaaDoorTrC3
import Derived.Test.YtnpimbpbhbfchaaDoorTrC4
import Derived.Test.YtnpimbpbhbfchaaDoorTrC5
import Derived.Test.YtnpimbpbhbfchaaDoorTrC6
namespace Go.Proofs.YtnpimbpbhbfchaaDoor.Ev
set_option linter.unusedVariables false
set_option linter.unusedSimpArgs false
set_option maxRecDepth 100000
open Go Go.Proofs Go.RowKit
attribute [local go_sem] evC_seq evC_reg evC_cond evC_block evC_skip evC_exit evC_ret evR_cons evR_nil evR_gd guardB_tt guardB_ff guardB_tf guardB_ft guardB_none bindR_ok bindR_okn rgRs_ok seqR_nor seqR_ext seqR_ret condR_true condR_false blockR_nor blockR_ext blockR_ret evX_t evX_c evXL_nil evXL_cons O_mv O_bin O_pick O_eqb O_not O_ext O_call O_conv O_slen O_six O_sbi pv_I pv_i pv_b pv_s pv_ns pv_sl pv_p pv_tu pv_ag bin_lss bin_leq bin_gtr bin_geq bin_eql bin_neq bin8_eql bin8_neq bin_add bin_sub bin_mul get_st get_lf bind_nil bind_cons if_true if_false Got_nor Got_ext Got_ret Kseq Kblk Klp Kend onStr_s onB_b onT_tu onI_I onN_I onK_I eqb_b not_b nthL_0 nthL_1 nthL_2 known_nil known_cons I_known known_b known_s evRVs_nil evRVs_cons evRes_1 evRes_2 evRV_tmp Bool.and_true Bool.true_and Bool.and_self Bool.not_true Bool.not_false decide_true decide_false Int.toNat_natCast true_and and_true big hget_same hget_ne newB_n onP_p onS_sl onS_ns O_fad O_alloc_if O_ixs O_len O_ld O_st O_box boxB_if ldB_if ldB_agif stB_if stB_wif toL_I toL_i toL_b toL_s toL_sl toL_ns toL_ag allC_nil allC_cons isC_i isC_b isC_s isC_sl isC_ns I_isC Llen_nil Llen_cons Lget_0 Lget_1 Lget_2 Lget_3 blkL_size cell_blkL_if getL_blkL_if getL_setL_if setL_sz evRV_cell' rvB_agif rvB_if evPL_cons bldK_if evPL_nil O_build O_part evBuild_ok okL_some onA_ag partV_1 evPart_eq updS_nil updS_cons upd_0 upd_1 upd_2 upd_3 ge_iff_le if_pos and_self Nat.le_refl known_ag known_sl known_ns known_i ov_at spS_eq spSI_eq spSII_eq spI_eq spII_eq spIII_eq spIIII_eq res_v res_sl res_slE Good I_pur pur_b pur_s pur_i pur_ns pur_ag pur_tu purL_nil purL_cons evDr_eq evDs_nil evDs_cons dsR_ok stepD_eq sdB_n sdB_g sdG_tt sdG_ff sdG_tf sdG_ft sdG_none runD_0 rdR_f rdR_t baseOf_pu baseOf_h baseU_nil baseA_nil baseA_0 baseR_nil baseR_0 baseR_00 appAll_nil appAll_0 restr_nil restr_cons setD_some setD_none evC_draw iL_len iL_get iL_allC iL_pur hp0_0 hp0_c rdL_ns rdL_sl List.length_cons List.length_nil O_mks mkB_if O_bsl bslB_if O_app apX_ns apX_sl apN_some apS_some blkL_el Nat.one_mul Nat.mul_one Nat.zero_add n_I onF_fn O_callv app_nil app_cons spLF_eq spL_eq spLL_eq onL_some onLL_ss onLL_ns onLL_sn onLL_nn rdB_blk Int.cast_ofNat_Int
theorem tc_at {el r t k : Nat} (h : (List.range 4).all (fun i => tlB el r (k + i)) = true) (hq : k = 4 * (t / 4)) : tlB el r t = true := by
  have := all4 h (i := t % 4) (by omega)
  have e : k + t % 4 = t := by omega
  rwa [e] at this
theorem tc_all (el r t : Nat) (hr : r < 6) (ht : t < 2 ^ (r + 1)) : tlB el r t = true := by
  rcases (show r = 0 ∨ r = 1 ∨ r = 2 ∨ r = 3 ∨ r = 4 ∨ r = 5 by omega) with rfl | rfl | rfl | rfl | rfl | rfl
  · have h : tlB el 0 (0 + t) = true := List.all_eq_true.1 (congrFun tc0_0 el) t (List.mem_range.2 ht)
    rwa [Nat.zero_add] at h
  · exact tc_at (congrFun tc1_0 el) (by omega)
  · rcases (show t / 4 = 0 ∨ t / 4 = 1 by omega) with h | h
    · exact tc_at (congrFun tc2_0 el) (by omega)
    · exact tc_at (congrFun tc2_1 el) (by omega)
  · rcases (show t / 4 = 0 ∨ t / 4 = 1 ∨ t / 4 = 2 ∨ t / 4 = 3 by omega) with h | h | h | h
    · exact tc_at (congrFun tc3_0 el) (by omega)
    · exact tc_at (congrFun tc3_1 el) (by omega)
    · exact tc_at (congrFun tc3_2 el) (by omega)
    · exact tc_at (congrFun tc3_3 el) (by omega)
  · rcases (show t / 4 = 0 ∨ t / 4 = 1 ∨ t / 4 = 2 ∨ t / 4 = 3 ∨ t / 4 = 4 ∨ t / 4 = 5 ∨ t / 4 = 6 ∨ t / 4 = 7 by omega) with h | h | h | h | h | h | h | h
    · exact tc_at (congrFun tc4_0 el) (by omega)
    · exact tc_at (congrFun tc4_1 el) (by omega)
    · exact tc_at (congrFun tc4_2 el) (by omega)
    · exact tc_at (congrFun tc4_3 el) (by omega)
    · exact tc_at (congrFun tc4_4 el) (by omega)
    · exact tc_at (congrFun tc4_5 el) (by omega)
    · exact tc_at (congrFun tc4_6 el) (by omega)
    · exact tc_at (congrFun tc4_7 el) (by omega)
  · rcases (show t / 4 = 0 ∨ t / 4 = 1 ∨ t / 4 = 2 ∨ t / 4 = 3 ∨ t / 4 = 4 ∨ t / 4 = 5 ∨ t / 4 = 6 ∨ t / 4 = 7 ∨ t / 4 = 8 ∨ t / 4 = 9 ∨ t / 4 = 10 ∨ t / 4 = 11 ∨ t / 4 = 12 ∨ t / 4 = 13 ∨ t / 4 = 14 ∨ t / 4 = 15 by omega) with h | h | h | h | h | h | h | h | h | h | h | h | h | h | h | h
    · exact tc_at (congrFun tc5_0 el) (by omega)
    · exact tc_at (congrFun tc5_1 el) (by omega)
    · exact tc_at (congrFun tc5_2 el) (by omega)
    · exact tc_at (congrFun tc5_3 el) (by omega)
    · exact tc_at (congrFun tc5_4 el) (by omega)
    · exact tc_at (congrFun tc5_5 el) (by omega)
    · exact tc_at (congrFun tc5_6 el) (by omega)
    · exact tc_at (congrFun tc5_7 el) (by omega)
    · exact tc_at (congrFun tc5_8 el) (by omega)
    · exact tc_at (congrFun tc5_9 el) (by omega)
    · exact tc_at (congrFun tc5_10 el) (by omega)
    · exact tc_at (congrFun tc5_11 el) (by omega)
    · exact tc_at (congrFun tc5_12 el) (by omega)
    · exact tc_at (congrFun tc5_13 el) (by omega)
    · exact tc_at (congrFun tc5_14 el) (by omega)
    · exact tc_at (congrFun tc5_15 el) (by omega)
set_option maxHeartbeats 8000000 in
theorem ch_run (el : Nat) (a b : Int) (ha0 : 0 ≤ a) (ha : a ≤ 255) (hb0 : 0 ≤ b) (hb : b ≤ 255) : JQ Tryd.prog drops Tryd.f3.ntmps (EW 40) q3 (gK + 1) (Kend res3 fun v _ _ => v = .b true) (bind (.cons (.i .u8 a) (.cons (.i .u8 b) .nil)) 0 .lf) (tbH el) (gK + 1) := by
  have hF := EW_ok 40
  have hM := EW_mono 40
  obtain ⟨r, hr⟩ : ∃ r : Nat, (r : Int) = a % 6 := ⟨(a % 6).toNat, by omega⟩
  have hr6 : r < 6 := by omega
  have hp : (0 : Int) < ((2 ^ (r + 1) : Nat) : Int) := by have := Nat.two_pow_pos (r + 1); omega
  obtain ⟨t, ht⟩ : ∃ t : Nat, (t : Int) = b % ((2 ^ (r + 1) : Nat) : Int) := ⟨(b % ((2 ^ (r + 1) : Nat) : Int)).toNat, by have := Int.emod_nonneg b (show ((2 ^ (r + 1) : Nat) : Int) ≠ 0 by omega); omega⟩
  have htl : t < 2 ^ (r + 1) := by have := Int.emod_lt_of_pos b hp; omega
  have hwa : IntKind.i64.wrap a = a := wrap64 (by omega) (by omega)
  have hwb : IntKind.i64.wrap b = b := wrap64 (by omega) (by omega)
  have hs := shl_pow hr6
  rw [q3_eq]
  (refine JQ.step follows hF hM ?_; simp (config := { maxSteps := 4000000 }) (disch := (omega)) only [go_sem, Nat.reduceLT, Nat.reduceEqDiff, reduceIte, Nat.reduceAdd, Nat.reduceSub, Nat.reduceLeDiff, Int.reduceEq, Int.reduceLT, Int.reduceLE, Int.reduceNeg, Int.reduceAdd, Int.reduceSub, Int.reduceToNat, Int.reduceMul, Nat.reduceMul])
  try (refine ⟨by unfold gK; omega, ?_⟩)
  (refine JQ.step follows hF hM ?_; simp (config := { maxSteps := 4000000 }) (disch := (omega)) only [go_sem, Nat.reduceLT, Nat.reduceEqDiff, reduceIte, Nat.reduceAdd, Nat.reduceSub, Nat.reduceLeDiff, Int.reduceEq, Int.reduceLT, Int.reduceLE, Int.reduceNeg, Int.reduceAdd, Int.reduceSub, Int.reduceToNat, Int.reduceMul, Nat.reduceMul, onK_i, mkI_64, hwa, bin_rem, ← hr])
  try (refine ⟨by unfold gK; omega, ?_⟩)
  (refine JQ.step follows hF hM ?_; simp (config := { maxSteps := 4000000 }) (disch := (omega)) only [go_sem, Nat.reduceLT, Nat.reduceEqDiff, reduceIte, Nat.reduceAdd, Nat.reduceSub, Nat.reduceLeDiff, Int.reduceEq, Int.reduceLT, Int.reduceLE, Int.reduceNeg, Int.reduceAdd, Int.reduceSub, Int.reduceToNat, Int.reduceMul, Nat.reduceMul, onK_i, mkI_64, hwb, hs, bin_rem, hp, hb0, ← ht])
  try (refine ⟨by unfold gK; omega, ?_⟩)
  refine JQ.weak (e0 := eK r t) (by unfold eK; ((repeat' (first | exact EnvLe.lf _ | refine EnvLe.set (by decide) ?_ ?_)) <;> first | exact EnvLe.lf _ | (simp (config := { maxSteps := 4000000 }) (disch := (omega)) only [go_sem, Nat.reduceLT, Nat.reduceEqDiff, reduceIte, Nat.reduceAdd, Nat.reduceSub, Nat.reduceLeDiff, Int.reduceEq, Int.reduceLT, Int.reduceLE, Int.reduceNeg, Int.reduceAdd, Int.reduceSub, Int.reduceToNat, Int.reduceMul, Nat.reduceMul, Int.natCast_add, Int.cast_ofNat_Int]; done) | (simp (config := { maxSteps := 4000000 }) (disch := (omega)) only [go_sem, Nat.reduceLT, Nat.reduceEqDiff, reduceIte, Nat.reduceAdd, Nat.reduceSub, Nat.reduceLeDiff, Int.reduceEq, Int.reduceLT, Int.reduceLE, Int.reduceNeg, Int.reduceAdd, Int.reduceSub, Int.reduceToNat, Int.reduceMul, Nat.reduceMul, Int.natCast_add, Int.cast_ofNat_Int] <;> first | rfl | (congr 1; omega)))) (HpLe.refl _) ?_
  exact JQ.run follows hF hM (fin_kC (tc_all el r t hr6 htl))
theorem ch_walk (a b : Int) (ha0 : 0 ≤ a) (ha : a ≤ 255) (hb0 : 0 ≤ b) (hb : b ≤ 255) (w : World) (el : TypeId) (hw : Holds w [(1, el, kL .u8 zs64)]) : Calls Tryd.prog 3 #[.int .u8 a, .int .u8 b] w fun e w' => e = .returned (.bool true) ∧ Below w.heap.size w w' :=
  lawT [(1, el, kL .u8 zs64)] Tryd.func3 b3 k3 r3 (args := .cons (.i .u8 a) (.cons (.i .u8 b) .nil)) (by simp [L.length]) (ch_run el a b ha0 ha hb0 hb) (vs := [.int .u8 a, .int .u8 b]) (fun _ => ⟨_, _, rfl, rfl, _, _, rfl, rfl, rfl⟩) w hw
end Go.Proofs.YtnpimbpbhbfchaaDoor.Ev
