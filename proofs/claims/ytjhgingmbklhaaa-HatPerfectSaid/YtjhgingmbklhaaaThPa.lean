/- HatPerfect: numbers of helpers that are none, and numbers that are no colouring: all functions answer with an error. -/
import Derived.Test.YtjhgingmbklhaaaThK
import Derived.Test.YtjhgingmbklhaaaEvPl
namespace Go.Proofs.Ytjhgingmbklhaaa.Ev
set_option linter.unusedVariables false
set_option linter.unusedSimpArgs false
set_option maxRecDepth 100000
open Go Go.Proofs Go.RowKit
attribute [local go_sem] evC_seq evC_reg evC_cond evC_block evC_skip evC_exit evC_ret evR_cons evR_nil evR_gd guardB_tt guardB_ff guardB_tf guardB_ft guardB_none bindR_ok bindR_okn rgRs_ok seqR_nor seqR_ext seqR_ret condR_true condR_false blockR_nor blockR_ext blockR_ret evX_t evX_c evXL_nil evXL_cons O_mv O_bin O_pick O_eqb O_not O_ext O_call O_conv O_slen O_six O_sbi pv_I pv_i pv_b pv_s pv_ns pv_sl pv_p pv_tu pv_ag bin_lss bin_leq bin_gtr bin_geq bin_eql bin_neq bin8_eql bin8_neq bin_add bin_sub bin_mul get_st get_lf bind_nil bind_cons if_true if_false Got_nor Got_ext Got_ret Kseq Kblk Klp Kend onStr_s onB_b onT_tu onI_I onN_I onK_I eqb_b not_b nthL_0 nthL_1 nthL_2 known_nil known_cons I_known known_b known_s evRVs_nil evRVs_cons evRes_1 evRes_2 evRV_tmp Bool.and_true Bool.true_and Bool.and_self Bool.not_true Bool.not_false decide_true decide_false Int.toNat_natCast true_and and_true big hget_same hget_ne newB_n onP_p onS_sl onS_ns O_fad O_alloc_if O_ixs O_len O_ld O_st O_box boxB_if ldB_if ldB_agif stB_if stB_wif toL_I toL_i toL_b toL_s toL_sl toL_ns toL_ag allC_nil allC_cons isC_i isC_b isC_s isC_sl isC_ns I_isC Llen_nil Llen_cons Lget_0 Lget_1 Lget_2 Lget_3 blkL_size cell_blkL_if getL_blkL_if getL_setL_if setL_sz evRV_cell' rvB_agif rvB_if evPL_cons bldK_if evPL_nil O_build O_part evBuild_ok okL_some onA_ag partV_1 evPart_eq updS_nil updS_cons upd_0 upd_1 upd_2 upd_3 ge_iff_le if_pos and_self Nat.le_refl known_ag known_sl known_ns known_i ov_at spS_eq spSI_eq spSII_eq spI_eq spII_eq spIII_eq spIIII_eq res_v res_sl res_slE Good I_pur pur_b pur_s pur_i pur_ns pur_ag pur_tu purL_nil purL_cons evDr_eq evDs_nil evDs_cons dsR_ok stepD_eq sdB_n sdB_g sdG_tt sdG_ff sdG_tf sdG_ft sdG_none runD_0 rdR_f rdR_t baseOf_pu baseOf_h baseU_nil baseA_nil baseA_0 baseR_nil baseR_0 baseR_00 appAll_nil appAll_0 restr_nil restr_cons setD_some setD_none evC_draw iL_len iL_get iL_allC iL_pur hp0_0 hp0_c rdL_ns rdL_sl List.length_cons List.length_nil O_mks mkB_if O_bsl bslB_if O_app apX_ns apX_sl apN_some apS_some blkL_el Nat.one_mul Nat.mul_one Nat.zero_add n_I onF_fn O_callv app_nil app_cons spLF_eq spL_eq spLL_eq onL_some onLL_ss onLL_ns onLL_sn onLL_nn rdB_blk Int.cast_ofNat_Int tlX_none tlX_some tlOf_cons tlOf_1 tlOf_1t tlM_none tlM_some
noncomputable def q59 : IC := (.seq (.reg (.cons (some (tp 2)) none (.mv (.c (.b false))) .nil)) (.seq (.reg (.cons (some (tp 3)) none (.mv (.t (tp 0))) (.cons (some (tp 4)) none (.bin .geq (.t (tp 3)) (.c (I 
  1))) (.cons (some (tp 5)) none (.mv (.t (tp 4))) (.cons (some (tp 6)) (some (.mk (tp 5) true)) (.mv (.t (tp 0))) (.cons (some (tp 7)) (some (.mk (tp 5) true)) (.bin .leq (.t (tp 
  6)) (.c (I 7))) (.cons (some (tp 8)) none (.pick (.t (tp 5)) (.t (tp 7)) (.c (.b false))) (.cons (some (tp 2)) none (.mv (.t (tp 8))) .nil)))))))) .ret))
noncomputable def res59 : List RV := [(.tmp (tp 2))]
noncomputable def c59c : Code := match Try.f59.body with | some c => c | none => .skip
theorem b59 : Try.f59.body = some c59c := by kernel_rfl
theorem k59 : compC Try.prog drops Try.f59.ntmps c59c = some q59 := by kernel_rfl
theorem r59 : compRVs Try.prog Try.f59.results.toList = some res59 := by kernel_rfl
theorem n59 : (Try.f59.name == "runtime.NumGoroutine") = false := by kernel_rfl
noncomputable def q63 : IC := (.seq (.reg (.cons (some (tp 6)) none (.mv (.c (.b false))) .nil)) (.seq (.reg (.cons (some (tp 7)) none (.mv (.t (tp 0))) (.cons (some (tp 8)) none (.mv (.t (tp 1))) (.cons (some 
  (tp 9)) none (.bin .geq (.t (tp 7)) (.t (tp 8))) (.cons (some (tp 10)) none (.mv (.t (tp 9))) (.cons (some (tp 11)) (some (.mk (tp 10) true)) (.mv (.t (tp 0))) (.cons (some (tp 
  12)) (some (.mk (tp 10) true)) (.mv (.t (tp 2))) (.cons (some (tp 13)) (some (.mk (tp 10) true)) (.bin .leq (.t (tp 11)) (.t (tp 12))) (.cons (some (tp 14)) none (.pick (.t (tp 
  10)) (.t (tp 13)) (.c (.b false))) (.cons (some (tp 6)) none (.mv (.t (tp 14))) .nil)))))))))) .ret))
noncomputable def res63 : List RV := [(.tmp (tp 6))]
noncomputable def c63c : Code := match Try.f63.body with | some c => c | none => .skip
theorem b63 : Try.f63.body = some c63c := by kernel_rfl
theorem k63 : compC Try.prog drops Try.f63.ntmps c63c = some q63 := by kernel_rfl
theorem r63 : compRVs Try.prog Try.f63.results.toList = some res63 := by kernel_rfl
theorem n63 : (Try.f63.name == "runtime.NumGoroutine") = false := by kernel_rfl
noncomputable def q84 : IC := (.seq (.reg (.cons (some (tp 2)) none (.mv (.c (I 0))) .nil)) (.seq (.block 0 (.seq (.reg (.cons (some (tp 4)) none (.mv (.t (tp 0))) (.cons (some (tp 5)) none (.call 59 (.cons (.t 
  (tp 4)) .nil)) (.cons (some (tp 6)) none (.not (.t (tp 5))) (.cons (some (tp 3)) none (.mv (.t (tp 6))) .nil))))) (.cond (.t (tp 3)) (.seq (.reg (.cons (some (tp 2)) none (.mv 
  (.c (I 1))) .nil)) .ret) (.seq (.reg (.cons (some (tp 8)) none (.mv (.t (tp 0))) (.cons (some (tp 9)) none (.call 85 (.cons (.t (tp 8)) .nil)) (.cons (some (tp 10)) none (.mv (.t 
  (tp 0))) (.cons (some (tp 11)) none (.bin .add (.t (tp 10)) (.c (I 1))) (.cons (some (tp 12)) none (.bin .rem (.t (tp 9)) (.t (tp 11))) (.cons (some (tp 13)) none (.bin .neq (.t 
  (tp 12)) (.c (I 0))) (.cons (some (tp 7)) none (.mv (.t (tp 13))) .nil)))))))) (.cond (.t (tp 7)) (.seq (.reg (.cons (some (tp 2)) none (.mv (.c (I 12))) .nil)) .ret) .skip))))) 
  (.seq (.reg (.cons (some (tp 2)) none (.mv (.c (I 0))) .nil)) .ret)))
noncomputable def res84 : List RV := [(.tmp (tp 2))]
noncomputable def c84c : Code := match Try.f84.body with | some c => c | none => .skip
theorem b84 : Try.f84.body = some c84c := by kernel_rfl
theorem k84 : compC Try.prog drops Try.f84.ntmps c84c = some q84 := by kernel_rfl
theorem r84 : compRVs Try.prog Try.f84.results.toList = some res84 := by kernel_rfl
theorem n84 : (Try.f84.name == "runtime.NumGoroutine") = false := by kernel_rfl
noncomputable def q87 : IC := (.seq (.reg (.cons (some (tp 2)) none (.mv (.c (I 0))) .nil)) (.seq (.seq (.reg (.cons (some (tp 3)) none (.mv (.t (tp 0))) (.cons (some (tp 4)) none (.call 63 (.cons (.t (tp 3)) 
  (.cons (.c (I 1)) (.cons (.c (I 7)) .nil)))) (.cons (some (tp 5)) none (.not (.t (tp 4))) .nil)))) (.cond (.t (tp 5)) (.seq (.reg (.cons (some (tp 2)) none (.mv (.c (I 1))) 
  .nil)) .ret) .skip)) (.seq (.seq (.reg (.cons (some (tp 6)) none (.mv (.t (tp 0))) (.cons (some (tp 7)) none (.bin .neq (.t (tp 6)) (.c (I 1))) (.cons (some (tp 8)) none (.mv (.t 
  (tp 7))) (.cons (some (tp 9)) (some (.mk (tp 8) true)) (.mv (.t (tp 0))) (.cons (some (tp 10)) (some (.mk (tp 8) true)) (.bin .neq (.t (tp 9)) (.c (I 3))) (.cons (some (tp 11)) 
  none (.pick (.t (tp 8)) (.t (tp 10)) (.c (.b false))) (.cons (some (tp 12)) none (.mv (.t (tp 11))) (.cons (some (tp 13)) (some (.mk (tp 12) true)) (.mv (.t (tp 0))) (.cons (some 
  (tp 14)) (some (.mk (tp 12) true)) (.bin .neq (.t (tp 13)) (.c (I 7))) (.cons (some (tp 15)) none (.pick (.t (tp 12)) (.t (tp 14)) (.c (.b false))) .nil))))))))))) (.cond (.t (tp 
  15)) (.seq (.reg (.cons (some (tp 2)) none (.mv (.c (I 12))) .nil)) .ret) .skip)) (.seq (.reg (.cons (some (tp 2)) none (.mv (.c (I 0))) .nil)) .ret))))
noncomputable def res87 : List RV := [(.tmp (tp 2))]
noncomputable def c87c : Code := match Try.f87.body with | some c => c | none => .skip
theorem b87 : Try.f87.body = some c87c := by kernel_rfl
theorem k87 : compC Try.prog drops Try.f87.ntmps c87c = some q87 := by kernel_rfl
theorem r87 : compRVs Try.prog Try.f87.results.toList = some res87 := by kernel_rfl
theorem n87 : (Try.f87.name == "runtime.NumGoroutine") = false := by kernel_rfl
noncomputable def q90 : IC := (.seq (.reg (.cons (some (tp 2)) none (.mv (.c (I 0))) .nil)) (.seq (.block 0 (.seq (.reg (.cons (some (tp 4)) none (.mv (.t (tp 0))) (.cons (some (tp 5)) none (.call 59 (.cons (.t 
  (tp 4)) .nil)) (.cons (some (tp 6)) none (.not (.t (tp 5))) (.cons (some (tp 3)) none (.mv (.t (tp 6))) .nil))))) (.cond (.t (tp 3)) (.seq (.reg (.cons (some (tp 2)) none (.mv 
  (.c (I 1))) .nil)) .ret) (.seq (.reg (.cons (some (tp 8)) none (.mv (.t (tp 0))) (.cons (some (tp 9)) none (.bin .gtr (.t (tp 8)) (.c (I 4))) (.cons (some (tp 7)) none (.mv (.t 
  (tp 9))) .nil)))) (.cond (.t (tp 7)) (.seq (.reg (.cons (some (tp 2)) none (.mv (.c (I 3))) .nil)) .ret) .skip))))) (.seq (.reg (.cons (some (tp 2)) none (.mv (.c (I 0))) .nil)) 
  .ret)))
noncomputable def res90 : List RV := [(.tmp (tp 2))]
noncomputable def c90c : Code := match Try.f90.body with | some c => c | none => .skip
theorem b90 : Try.f90.body = some c90c := by kernel_rfl
theorem k90 : compC Try.prog drops Try.f90.ntmps c90c = some q90 := by kernel_rfl
theorem r90 : compRVs Try.prog Try.f90.results.toList = some res90 := by kernel_rfl
theorem n90 : (Try.f90.name == "runtime.NumGoroutine") = false := by kernel_rfl
noncomputable def q34_l0 : IC := (.seq (.reg (.cons (some (tp 15)) none (.bin .lss (.t (tp 14)) (.t (tp 13))) .nil)) (.seq (.cond (.t (tp 15)) .skip (.exit 0)) (.seq (.block 1 (.seq (.reg (.cons (some (tp 16)) 
  none (.mv (.t (tp 14))) (.cons (some (tp 6)) none (.mv (.t (tp 16))) .nil))) (.seq (.reg (.cons (some (tp 17)) none (.mv (.t (tp 0))) (.cons (some (tp 18)) none (.mv (.t (tp 6))) 
  (.cons (some (tp 19)) none (.call 86 (.cons (.t (tp 17)) (.cons (.t (tp 18)) .nil))) (.cons (some (tp 20)) none (.bin .eql (.t (tp 19)) (.c (I 0))) .nil))))) (.cond (.t (tp 20)) 
  (.reg (.cons (some (tp 21)) none (.mv (.t (tp 5))) (.cons (some (tp 22)) none (.mv (.t (tp 6))) (.cons (some (tp 23)) none (.bsl 3 1 1 (.cons (I 0) .nil) (.cons 0 1 (.t (tp 22)) 
  .nil)) (.cons (some (tp 24)) none (.app 3 1 8 (.t (tp 21)) (.t (tp 23))) (.cons (some (tp 5)) none (.mv (.t (tp 24))) .nil)))))) .skip)))) (.reg (.cons (some (tp 25)) none (.bin 
  .add (.t (tp 14)) (.c (I 1))) (.cons (some (tp 14)) none (.mv (.t (tp 25))) .nil))))))
noncomputable def q34 : IC := (.seq (.reg (.cons (some (tp 2)) none (.mv (.c .ns)) (.cons (some (tp 3)) none (.mv (.c (I 0))) .nil))) (.seq (.seq (.reg (.cons (some (tp 7)) none (.mv (.t (tp 0))) (.cons (some 
  (tp 8)) none (.call 84 (.cons (.t (tp 7)) .nil)) (.cons (some (tp 4)) none (.mv (.t (tp 8))) .nil)))) (.seq (.reg (.cons (some (tp 9)) none (.mv (.t (tp 4))) (.cons (some (tp 
  10)) none (.bin .neq (.t (tp 9)) (.c (I 0))) .nil))) (.cond (.t (tp 10)) (.seq (.reg (.cons (some (tp 11)) none (.mv (.t (tp 4))) (.cons (some (tp 2)) none (.mv (.c .ns)) (.cons 
  (some (tp 3)) none (.mv (.t (tp 11))) .nil)))) .ret) .skip))) (.seq (.reg (.cons (some (tp 5)) none (.mv (.c .ns)) .nil)) (.seq (.seq (.reg (.cons (some (tp 12)) none (.mv (.t 
  (tp 0))) (.cons (some (tp 13)) none (.call 85 (.cons (.t (tp 12)) .nil)) (.cons (some (tp 14)) none (.mv (.c (I 0))) .nil)))) (.block 0 (IC.loop q34_l0))) (.seq (.reg (.cons 
  (some (tp 26)) none (.mv (.t (tp 5))) (.cons (some (tp 2)) none (.mv (.t (tp 26))) (.cons (some (tp 3)) none (.mv (.c (I 0))) .nil)))) .ret)))))
noncomputable def res34 : List RV := [(.tmp (tp 2)), (.tmp (tp 3))]
noncomputable def c34c : Code := match Try.f34.body with | some c => c | none => .skip
theorem b34 : Try.f34.body = some c34c := by kernel_rfl
theorem k34 : compC Try.prog drops Try.f34.ntmps c34c = some q34 := by kernel_rfl
theorem r34 : compRVs Try.prog Try.f34.results.toList = some res34 := by kernel_rfl
theorem n34 : (Try.f34.name == "runtime.NumGoroutine") = false := by kernel_rfl
noncomputable def q35_l0 : IC := (.seq (.seq (.reg (.cons (some (tp 12)) none (.mv (.t (tp 6))) (.cons (some (tp 13)) none (.mv (.t (tp 0))) (.cons (some (tp 14)) none (.call 69 (.cons (.t (tp 13)) .nil)) (.cons 
  (some (tp 15)) none (.bin .lss (.t (tp 12)) (.t (tp 14))) .nil))))) (.cond (.t (tp 15)) .skip (.exit 0))) (.seq (.block 1 (.seq (.reg (.cons (some (tp 18)) none (.mv (.t (tp 0))) 
  (.cons (some (tp 19)) none (.mv (.t (tp 6))) (.cons (some (tp 20)) none (.call 88 (.cons (.t (tp 18)) (.cons (.t (tp 19)) .nil))) (.cons (some (tp 21)) none (.bin .eql (.t (tp 
  20)) (.c (I 0))) .nil))))) (.cond (.t (tp 21)) (.reg (.cons (some (tp 22)) none (.mv (.t (tp 5))) (.cons (some (tp 23)) none (.mv (.t (tp 6))) (.cons (some (tp 24)) none (.bsl 3 
  1 1 (.cons (I 0) .nil) (.cons 0 1 (.t (tp 23)) .nil)) (.cons (some (tp 25)) none (.app 3 1 8 (.t (tp 22)) (.t (tp 24))) (.cons (some (tp 5)) none (.mv (.t (tp 25))) .nil)))))) 
  .skip))) (.reg (.cons (some (tp 16)) none (.mv (.t (tp 6))) (.cons (some (tp 17)) none (.bin .add (.t (tp 16)) (.c (I 1))) (.cons (some (tp 6)) none (.mv (.t (tp 17))) .nil))))))
noncomputable def q35 : IC := (.seq (.reg (.cons (some (tp 2)) none (.mv (.c .ns)) (.cons (some (tp 3)) none (.mv (.c (I 0))) .nil))) (.seq (.reg (.cons (some (tp 7)) none (.mv (.t (tp 0))) (.cons (some (tp 8)) 
  none (.call 87 (.cons (.t (tp 7)) .nil)) (.cons (some (tp 4)) none (.mv (.t (tp 8))) .nil)))) (.seq (.seq (.reg (.cons (some (tp 9)) none (.mv (.t (tp 4))) (.cons (some (tp 10)) 
  none (.bin .neq (.t (tp 9)) (.c (I 0))) .nil))) (.cond (.t (tp 10)) (.seq (.reg (.cons (some (tp 11)) none (.mv (.t (tp 4))) (.cons (some (tp 2)) none (.mv (.c .ns)) (.cons (some 
  (tp 3)) none (.mv (.t (tp 11))) .nil)))) .ret) .skip)) (.seq (.reg (.cons (some (tp 5)) none (.mv (.c .ns)) .nil)) (.seq (.seq (.reg (.cons (some (tp 6)) none (.mv (.c (I 0))) 
  .nil)) (.block 0 (IC.loop q35_l0))) (.seq (.reg (.cons (some (tp 26)) none (.mv (.t (tp 5))) (.cons (some (tp 2)) none (.mv (.t (tp 26))) (.cons (some (tp 3)) none (.mv (.c (I 
  0))) .nil)))) .ret))))))
noncomputable def res35 : List RV := [(.tmp (tp 2)), (.tmp (tp 3))]
noncomputable def c35c : Code := match Try.f35.body with | some c => c | none => .skip
theorem b35 : Try.f35.body = some c35c := by kernel_rfl
theorem k35 : compC Try.prog drops Try.f35.ntmps c35c = some q35 := by kernel_rfl
theorem r35 : compRVs Try.prog Try.f35.results.toList = some res35 := by kernel_rfl
theorem n35 : (Try.f35.name == "runtime.NumGoroutine") = false := by kernel_rfl
noncomputable def q36 : IC := (.seq (.reg (.cons (some (tp 4)) none (.mv (.c (I 0))) (.cons (some (tp 5)) none (.mv (.c (I 0))) .nil))) (.seq (.seq (.reg (.cons (some (tp 7)) none (.mv (.t (tp 0))) (.cons (some 
  (tp 8)) none (.call 84 (.cons (.t (tp 7)) .nil)) (.cons (some (tp 6)) none (.mv (.t (tp 8))) .nil)))) (.seq (.reg (.cons (some (tp 9)) none (.mv (.t (tp 6))) (.cons (some (tp 
  10)) none (.bin .neq (.t (tp 9)) (.c (I 0))) .nil))) (.cond (.t (tp 10)) (.seq (.reg (.cons (some (tp 11)) none (.mv (.t (tp 6))) (.cons (some (tp 4)) none (.mv (.c (I 0))) 
  (.cons (some (tp 5)) none (.mv (.t (tp 11))) .nil)))) .ret) .skip))) (.seq (.seq (.reg (.cons (some (tp 12)) none (.mv (.t (tp 0))) (.cons (some (tp 13)) none (.mv (.t (tp 1))) 
  (.cons (some (tp 14)) none (.call 60 (.cons (.t (tp 12)) (.cons (.t (tp 13)) .nil))) (.cons (some (tp 15)) none (.not (.t (tp 14))) .nil))))) (.cond (.t (tp 15)) (.seq (.reg 
  (.cons (some (tp 4)) none (.mv (.c (I 0))) (.cons (some (tp 5)) none (.mv (.c (I 2))) .nil))) .ret) .skip)) (.seq (.reg (.cons (some (tp 16)) none (.mv (.t (tp 0))) (.cons (some 
  (tp 17)) none (.mv (.t (tp 1))) (.cons (some (tp 18)) none (.call 89 (.cons (.t (tp 16)) (.cons (.t (tp 17)) .nil))) (.cons (some (tp 4)) none (.mv (.t (tp 18))) (.cons (some (tp 
  5)) none (.mv (.c (I 0))) .nil)))))) .ret))))
noncomputable def res36 : List RV := [(.tmp (tp 4)), (.tmp (tp 5))]
noncomputable def c36c : Code := match Try.f36.body with | some c => c | none => .skip
theorem b36 : Try.f36.body = some c36c := by kernel_rfl
theorem k36 : compC Try.prog drops Try.f36.ntmps c36c = some q36 := by kernel_rfl
theorem r36 : compRVs Try.prog Try.f36.results.toList = some res36 := by kernel_rfl
theorem n36 : (Try.f36.name == "runtime.NumGoroutine") = false := by kernel_rfl
noncomputable def q37_l0 : IC := (.seq (.seq (.reg (.cons (some (tp 18)) none (.mv (.t (tp 7))) (.cons (some (tp 19)) none (.mv (.t (tp 0))) (.cons (some (tp 20)) none (.bin .lss (.t (tp 18)) (.t (tp 19))) 
  .nil)))) (.cond (.t (tp 20)) .skip (.exit 0))) (.seq (.block 1 (.seq (.reg (.cons (some (tp 23)) none (.mv (.t (tp 0))) (.cons (some (tp 24)) none (.mv (.t (tp 1))) (.cons (some 
  (tp 25)) none (.mv (.t (tp 7))) (.cons (some (tp 26)) none (.call 83 (.cons (.t (tp 24)) (.cons (.t (tp 25)) .nil))) (.cons (some (tp 27)) none (.call 88 (.cons (.t (tp 23)) 
  (.cons (.t (tp 26)) .nil))) (.cons (some (tp 28)) none (.bin .eql (.t (tp 27)) (.c (I 0))) .nil))))))) (.cond (.t (tp 28)) (.seq (.reg (.cons (some (tp 29)) none (.mv (.t (tp 
  1))) (.cons (some (tp 30)) none (.mv (.t (tp 7))) (.cons (some (tp 31)) none (.call 83 (.cons (.t (tp 29)) (.cons (.t (tp 30)) .nil))) (.cons (some (tp 4)) none (.mv (.t (tp 
  31))) (.cons (some (tp 5)) none (.mv (.c (I 0))) .nil)))))) .ret) .skip))) (.reg (.cons (some (tp 21)) none (.mv (.t (tp 7))) (.cons (some (tp 22)) none (.bin .add (.t (tp 21)) 
  (.c (I 1))) (.cons (some (tp 7)) none (.mv (.t (tp 22))) .nil))))))
noncomputable def q37 : IC := (.seq (.reg (.cons (some (tp 4)) none (.mv (.c (I 0))) (.cons (some (tp 5)) none (.mv (.c (I 0))) .nil))) (.seq (.reg (.cons (some (tp 8)) none (.mv (.t (tp 0))) (.cons (some (tp 
  9)) none (.call 87 (.cons (.t (tp 8)) .nil)) (.cons (some (tp 6)) none (.mv (.t (tp 9))) .nil)))) (.seq (.seq (.reg (.cons (some (tp 10)) none (.mv (.t (tp 6))) (.cons (some (tp 
  11)) none (.bin .eql (.t (tp 10)) (.c (I 0))) .nil))) (.cond (.t (tp 11)) (.reg (.cons (some (tp 12)) none (.mv (.t (tp 0))) (.cons (some (tp 13)) none (.mv (.t (tp 1))) (.cons 
  (some (tp 14)) none (.call 62 (.cons (.t (tp 12)) (.cons (.t (tp 13)) .nil))) (.cons (some (tp 6)) none (.mv (.t (tp 14))) .nil))))) .skip)) (.seq (.seq (.reg (.cons (some (tp 
  15)) none (.mv (.t (tp 6))) (.cons (some (tp 16)) none (.bin .neq (.t (tp 15)) (.c (I 0))) .nil))) (.cond (.t (tp 16)) (.seq (.reg (.cons (some (tp 17)) none (.mv (.t (tp 6))) 
  (.cons (some (tp 4)) none (.mv (.c (I 0))) (.cons (some (tp 5)) none (.mv (.t (tp 17))) .nil)))) .ret) .skip)) (.seq (.seq (.reg (.cons (some (tp 7)) none (.mv (.c (I 0))) .nil)) 
  (.block 0 (IC.loop q37_l0))) (.seq (.reg (.cons (some (tp 32)) none (.mv (.t (tp 1))) (.cons (some (tp 4)) none (.mv (.t (tp 32))) (.cons (some (tp 5)) none (.mv (.c (I 0))) 
  .nil)))) .ret))))))
noncomputable def res37 : List RV := [(.tmp (tp 4)), (.tmp (tp 5))]
noncomputable def c37c : Code := match Try.f37.body with | some c => c | none => .skip
theorem b37 : Try.f37.body = some c37c := by kernel_rfl
theorem k37 : compC Try.prog drops Try.f37.ntmps c37c = some q37 := by kernel_rfl
theorem r37 : compRVs Try.prog Try.f37.results.toList = some res37 := by kernel_rfl
theorem n37 : (Try.f37.name == "runtime.NumGoroutine") = false := by kernel_rfl
noncomputable def q38 : IC := (.seq (.reg (.cons (some (tp 2)) none (.mv (.c .ns)) (.cons (some (tp 3)) none (.mv (.c (I 0))) .nil))) (.seq (.seq (.reg (.cons (some (tp 5)) none (.mv (.t (tp 0))) (.cons (some 
  (tp 6)) none (.call 90 (.cons (.t (tp 5)) .nil)) (.cons (some (tp 4)) none (.mv (.t (tp 6))) .nil)))) (.seq (.reg (.cons (some (tp 7)) none (.mv (.t (tp 4))) (.cons (some (tp 8)) 
  none (.bin .neq (.t (tp 7)) (.c (I 0))) .nil))) (.cond (.t (tp 8)) (.seq (.reg (.cons (some (tp 9)) none (.mv (.t (tp 4))) (.cons (some (tp 2)) none (.mv (.c .ns)) (.cons (some 
  (tp 3)) none (.mv (.t (tp 9))) .nil)))) .ret) .skip))) (.seq (.reg (.cons (some (tp 10)) none (.mv (.t (tp 0))) (.cons (some (tp 11)) none (.call 91 (.cons (.t (tp 10)) .nil)) 
  (.cons (some (tp 2)) none (.mv (.t (tp 11))) (.cons (some (tp 3)) none (.mv (.c (I 0))) .nil))))) .ret)))
noncomputable def res38 : List RV := [(.tmp (tp 2)), (.tmp (tp 3))]
noncomputable def c38c : Code := match Try.f38.body with | some c => c | none => .skip
theorem b38 : Try.f38.body = some c38c := by kernel_rfl
theorem k38 : compC Try.prog drops Try.f38.ntmps c38c = some q38 := by kernel_rfl
theorem r38 : compRVs Try.prog Try.f38.results.toList = some res38 := by kernel_rfl
theorem n38 : (Try.f38.name == "runtime.NumGoroutine") = false := by kernel_rfl
noncomputable def q39_l0 : IC := (.seq (.seq (.reg (.cons (some (tp 14)) none (.mv (.t (tp 5))) (.cons (some (tp 15)) none (.eqn false (.t (tp 14)) (.c .ns)) .nil))) (.cond (.t (tp 15)) .skip (.exit 0))) (.block 1 
  (.seq (.reg (.cons (some (tp 16)) none (.mv (.t (tp 4))) (.cons (some (tp 17)) none (.bin .add (.t (tp 16)) (.c (I 1))) (.cons (some (tp 4)) none (.mv (.t (tp 17))) .nil)))) 
  (.reg (.cons (some (tp 18)) none (.mv (.t (tp 0))) (.cons (some (tp 19)) none (.mv (.t (tp 4))) (.cons (some (tp 20)) none (.call 92 (.cons (.t (tp 18)) (.cons (.c .ns) (.cons 
  (.t (tp 19)) .nil)))) (.cons (some (tp 5)) none (.mv (.t (tp 20))) .nil))))))))
noncomputable def q39 : IC := (.seq (.reg (.cons (some (tp 2)) none (.mv (.c .ns)) (.cons (some (tp 3)) none (.mv (.c (I 0))) .nil))) (.seq (.seq (.reg (.cons (some (tp 6)) none (.mv (.t (tp 0))) (.cons (some 
  (tp 7)) none (.call 63 (.cons (.t (tp 6)) (.cons (.c (I 1)) (.cons (.c (I 7)) .nil)))) (.cons (some (tp 8)) none (.not (.t (tp 7))) .nil)))) (.cond (.t (tp 8)) (.seq (.reg (.cons 
  (some (tp 2)) none (.mv (.c .ns)) (.cons (some (tp 3)) none (.mv (.c (I 1))) .nil))) .ret) .skip)) (.seq (.seq (.reg (.cons (some (tp 9)) none (.mv (.t (tp 0))) (.cons (some (tp 
  10)) none (.bin .gtr (.t (tp 9)) (.c (I 4))) .nil))) (.cond (.t (tp 10)) (.seq (.reg (.cons (some (tp 2)) none (.mv (.c .ns)) (.cons (some (tp 3)) none (.mv (.c (I 3))) .nil))) 
  .ret) .skip)) (.seq (.reg (.cons (some (tp 4)) none (.mv (.c (I 1))) .nil)) (.seq (.reg (.cons (some (tp 11)) none (.mv (.t (tp 0))) (.cons (some (tp 12)) none (.mv (.t (tp 4))) 
  (.cons (some (tp 13)) none (.call 92 (.cons (.t (tp 11)) (.cons (.c .ns) (.cons (.t (tp 12)) .nil)))) (.cons (some (tp 5)) none (.mv (.t (tp 13))) .nil))))) (.seq (.block 0 
  (IC.loop q39_l0)) (.seq (.reg (.cons (some (tp 21)) none (.mv (.t (tp 5))) (.cons (some (tp 2)) none (.mv (.t (tp 21))) (.cons (some (tp 3)) none (.mv (.c (I 0))) .nil)))) 
  .ret)))))))
noncomputable def res39 : List RV := [(.tmp (tp 2)), (.tmp (tp 3))]
noncomputable def c39c : Code := match Try.f39.body with | some c => c | none => .skip
theorem b39 : Try.f39.body = some c39c := by kernel_rfl
theorem k39 : compC Try.prog drops Try.f39.ntmps c39c = some q39 := by kernel_rfl
theorem r39 : compRVs Try.prog Try.f39.results.toList = some res39 := by kernel_rfl
theorem n39 : (Try.f39.name == "runtime.NumGoroutine") = false := by kernel_rfl
noncomputable def q40 : IC := (.seq (.reg (.cons (some (tp 2)) none (.mv (.c (I 0))) (.cons (some (tp 3)) none (.mv (.c (I 0))) .nil))) (.seq (.seq (.reg (.cons (some (tp 5)) none (.mv (.t (tp 0))) (.cons (some 
  (tp 6)) none (.call 90 (.cons (.t (tp 5)) .nil)) (.cons (some (tp 4)) none (.mv (.t (tp 6))) .nil)))) (.seq (.reg (.cons (some (tp 7)) none (.mv (.t (tp 4))) (.cons (some (tp 8)) 
  none (.bin .neq (.t (tp 7)) (.c (I 0))) .nil))) (.cond (.t (tp 8)) (.seq (.reg (.cons (some (tp 9)) none (.mv (.t (tp 4))) (.cons (some (tp 2)) none (.mv (.c (I 0))) (.cons (some 
  (tp 3)) none (.mv (.t (tp 9))) .nil)))) .ret) .skip))) (.seq (.reg (.cons (some (tp 10)) none (.mv (.t (tp 0))) (.cons (some (tp 11)) none (.call 85 (.cons (.t (tp 10)) .nil)) 
  (.cons (some (tp 12)) none (.mv (.t (tp 0))) (.cons (some (tp 13)) none (.call 91 (.cons (.t (tp 12)) .nil)) (.cons (some (tp 14)) none (.len (.t (tp 13))) (.cons (some (tp 15)) 
  none (.bin .sub (.t (tp 11)) (.t (tp 14))) (.cons (some (tp 2)) none (.mv (.t (tp 15))) (.cons (some (tp 3)) none (.mv (.c (I 0))) .nil))))))))) .ret)))
noncomputable def res40 : List RV := [(.tmp (tp 2)), (.tmp (tp 3))]
noncomputable def c40c : Code := match Try.f40.body with | some c => c | none => .skip
theorem b40 : Try.f40.body = some c40c := by kernel_rfl
theorem k40 : compC Try.prog drops Try.f40.ntmps c40c = some q40 := by kernel_rfl
theorem r40 : compRVs Try.prog Try.f40.results.toList = some res40 := by kernel_rfl
theorem n40 : (Try.f40.name == "runtime.NumGoroutine") = false := by kernel_rfl
noncomputable def q41 : IC := (.seq (.reg (.cons (some (tp 2)) none (.mv (.c (I 0))) (.cons (some (tp 3)) none (.mv (.c (I 0))) .nil))) (.seq (.reg (.cons (some (tp 7)) none (.mv (.t (tp 0))) (.cons (some (tp 
  8)) none (.call 39 (.cons (.t (tp 7)) .nil)) (.cons (some (tp 6)) none (.mv (.t (tp 8))) (.cons (some (tp 9)) none (.ext 0 (.t (tp 6))) (.cons (some (tp 10)) none (.ext 1 (.t (tp 
  6))) (.cons (some (tp 4)) none (.mv (.t (tp 9))) (.cons (some (tp 5)) none (.mv (.t (tp 10))) .nil)))))))) (.seq (.seq (.reg (.cons (some (tp 11)) none (.mv (.t (tp 5))) (.cons 
  (some (tp 12)) none (.bin .neq (.t (tp 11)) (.c (I 0))) .nil))) (.cond (.t (tp 12)) (.seq (.reg (.cons (some (tp 13)) none (.mv (.t (tp 5))) (.cons (some (tp 2)) none (.mv (.c (I 
  0))) (.cons (some (tp 3)) none (.mv (.t (tp 13))) .nil)))) .ret) .skip)) (.seq (.reg (.cons (some (tp 14)) none (.mv (.t (tp 0))) (.cons (some (tp 15)) none (.call 69 (.cons (.t 
  (tp 14)) .nil)) (.cons (some (tp 16)) none (.mv (.t (tp 4))) (.cons (some (tp 17)) none (.len (.t (tp 16))) (.cons (some (tp 18)) none (.bin .sub (.t (tp 15)) (.t (tp 17))) 
  (.cons (some (tp 2)) none (.mv (.t (tp 18))) (.cons (some (tp 3)) none (.mv (.c (I 0))) .nil)))))))) .ret))))
noncomputable def res41 : List RV := [(.tmp (tp 2)), (.tmp (tp 3))]
noncomputable def c41c : Code := match Try.f41.body with | some c => c | none => .skip
theorem b41 : Try.f41.body = some c41c := by kernel_rfl
theorem k41 : compC Try.prog drops Try.f41.ntmps c41c = some q41 := by kernel_rfl
theorem r41 : compRVs Try.prog Try.f41.results.toList = some res41 := by kernel_rfl
theorem n41 : (Try.f41.name == "runtime.NumGoroutine") = false := by kernel_rfl
noncomputable def q60 : IC := (.seq (.reg (.cons (some (tp 4)) none (.mv (.c (.b false))) .nil)) (.seq (.reg (.cons (some (tp 5)) none (.mv (.t (tp 1))) (.cons (some (tp 6)) none (.bin .geq (.t (tp 5)) (.c (I 
  0))) (.cons (some (tp 7)) none (.mv (.t (tp 6))) (.cons (some (tp 8)) (some (.mk (tp 7) true)) (.mv (.t (tp 1))) (.cons (some (tp 9)) (some (.mk (tp 7) true)) (.mv (.t (tp 0))) 
  (.cons (some (tp 10)) (some (.mk (tp 7) true)) (.call 85 (.cons (.t (tp 9)) .nil)) (.cons (some (tp 11)) (some (.mk (tp 7) true)) (.bin .lss (.t (tp 8)) (.t (tp 10))) (.cons 
  (some (tp 12)) none (.pick (.t (tp 7)) (.t (tp 11)) (.c (.b false))) (.cons (some (tp 4)) none (.mv (.t (tp 12))) .nil)))))))))) .ret))
noncomputable def res60 : List RV := [(.tmp (tp 4))]
noncomputable def c60c : Code := match Try.f60.body with | some c => c | none => .skip
theorem b60 : Try.f60.body = some c60c := by kernel_rfl
theorem k60 : compC Try.prog drops Try.f60.ntmps c60c = some q60 := by kernel_rfl
theorem r60 : compRVs Try.prog Try.f60.results.toList = some res60 := by kernel_rfl
theorem n60 : (Try.f60.name == "runtime.NumGoroutine") = false := by kernel_rfl
noncomputable def q62 : IC := (.seq (.reg (.cons (some (tp 4)) none (.mv (.c (I 0))) .nil)) (.seq (.seq (.reg (.cons (some (tp 5)) none (.mv (.t (tp 0))) (.cons (some (tp 6)) none (.call 63 (.cons (.t (tp 5)) 
  (.cons (.c (I 1)) (.cons (.c (I 7)) .nil)))) (.cons (some (tp 7)) none (.not (.t (tp 6))) .nil)))) (.cond (.t (tp 7)) (.seq (.reg (.cons (some (tp 4)) none (.mv (.c (I 1))) 
  .nil)) .ret) .skip)) (.seq (.seq (.reg (.cons (some (tp 8)) none (.mv (.t (tp 1))) (.cons (some (tp 9)) none (.mv (.t (tp 0))) (.cons (some (tp 10)) none (.call 69 (.cons (.t (tp 
  9)) .nil)) (.cons (some (tp 11)) none (.bin .sub (.t (tp 10)) (.c (I 1))) (.cons (some (tp 12)) none (.call 63 (.cons (.t (tp 8)) (.cons (.c (I 0)) (.cons (.t (tp 11)) .nil)))) 
  (.cons (some (tp 13)) none (.not (.t (tp 12))) .nil))))))) (.cond (.t (tp 13)) (.seq (.reg (.cons (some (tp 4)) none (.mv (.c (I 2))) .nil)) .ret) .skip)) (.seq (.reg (.cons 
  (some (tp 4)) none (.mv (.c (I 0))) .nil)) .ret))))
noncomputable def res62 : List RV := [(.tmp (tp 4))]
noncomputable def c62c : Code := match Try.f62.body with | some c => c | none => .skip
theorem b62 : Try.f62.body = some c62c := by kernel_rfl
theorem k62 : compC Try.prog drops Try.f62.ntmps c62c = some q62 := by kernel_rfl
theorem r62 : compRVs Try.prog Try.f62.results.toList = some res62 := by kernel_rfl
theorem n62 : (Try.f62.name == "runtime.NumGoroutine") = false := by kernel_rfl
noncomputable def fo1 (x : V) (z : Int) : Out := if z < 1 ∨ 7 < z then .v x else .no
theorem fo1_out {x : V} {z : Int} (h : z < 1 ∨ 7 < z) : fo1 x z = .v x := if_pos h
noncomputable def fo2 (x : V) (z _ : Int) : Out := if z < 1 ∨ 7 < z then .v x else .no
theorem fo2_out {x : V} {z c : Int} (h : z < 1 ∨ 7 < z) : fo2 x z c = .v x := if_pos h
noncomputable def s63 (z lo hi : Int) : Out := .v (.b (decide (lo ≤ z) && decide (z ≤ hi)))
theorem run63 (z lo hi : Int) : JQ Try.prog drops Try.f63.ntmps F0 q63 256 (Kend res63 (Good 0 (.v (.b (decide (lo ≤ z) && decide (z ≤ hi)))))) (bind (.cons (I z) (.cons (I lo) (.cons (I hi) .nil))) 0 .lf) .lf 256 := by
  have hF := F0_ok Try.prog
  have hM := F0_mono
  unfold q63
  (refine JQ.step follows hF hM ?_; simp (config := { maxSteps := 4000000 }) (disch := (omega)) only [go_sem, Nat.reduceLT, Nat.reduceEqDiff, reduceIte, Nat.reduceAdd, Nat.reduceSub, Nat.reduceLeDiff, Int.reduceEq, Int.reduceLT, Int.reduceLE, Int.reduceNeg, Int.reduceAdd, Int.reduceSub, Int.reduceToNat, Int.reduceMul, Nat.reduceMul])
  by_cases h1 : lo ≤ z
  · (refine JQ.run follows hF hM ?_; simp (config := { maxSteps := 4000000 }) (disch := (omega)) only [go_sem, Nat.reduceLT, Nat.reduceEqDiff, reduceIte, Nat.reduceAdd, Nat.reduceSub, Nat.reduceLeDiff, Int.reduceEq, Int.reduceLT, Int.reduceLE, Int.reduceNeg, Int.reduceAdd, Int.reduceSub, Int.reduceToNat, Int.reduceMul, Nat.reduceMul, h1, res63])
  · (refine JQ.run follows hF hM ?_; simp (config := { maxSteps := 4000000 }) (disch := (omega)) only [go_sem, Nat.reduceLT, Nat.reduceEqDiff, reduceIte, Nat.reduceAdd, Nat.reduceSub, Nat.reduceLeDiff, Int.reduceEq, Int.reduceLT, Int.reduceLE, Int.reduceNeg, Int.reduceAdd, Int.reduceSub, Int.reduceToNat, Int.reduceMul, Nat.reduceMul, h1, res63, Bool.false_and])
theorem ok63 : SOK Try.prog 63 (spIII s63) := spIII_ok fun z lo hi lim h n v h' n' hr => outC Try.func63 n63 b63 k63 r63 (Ins.none h) (by simp [L.length]) (ren_nil_rel (by simp [L.pur, I_pur])) (.v (.b (decide (lo ≤ z) && decide (z ≤ hi)))) rfl (run63 z lo hi) lim n hr
theorem run59 (z : Int) (hz : z < 1 ∨ 7 < z) : JQ Try.prog drops Try.f59.ntmps F0 q59 256 (Kend res59 (Good 0 (.v (.b false)))) (bind (.cons (I z) .nil) 0 .lf) .lf 256 := by
  have hF := F0_ok Try.prog
  have hM := F0_mono
  unfold q59
  by_cases h1 : 1 ≤ z
  · have h2 : ¬ z ≤ 7 := by omega
    (refine JQ.run follows hF hM ?_; simp (config := { maxSteps := 4000000 }) (disch := (omega)) only [go_sem, Nat.reduceLT, Nat.reduceEqDiff, reduceIte, Nat.reduceAdd, Nat.reduceSub, Nat.reduceLeDiff, Int.reduceEq, Int.reduceLT, Int.reduceLE, Int.reduceNeg, Int.reduceAdd, Int.reduceSub, Int.reduceToNat, Int.reduceMul, Nat.reduceMul, h1, h2, res59])
  · (refine JQ.run follows hF hM ?_; simp (config := { maxSteps := 4000000 }) (disch := (omega)) only [go_sem, Nat.reduceLT, Nat.reduceEqDiff, reduceIte, Nat.reduceAdd, Nat.reduceSub, Nat.reduceLeDiff, Int.reduceEq, Int.reduceLT, Int.reduceLE, Int.reduceNeg, Int.reduceAdd, Int.reduceSub, Int.reduceToNat, Int.reduceMul, Nat.reduceMul, h1, res59])
theorem okO {k : Nat} {x : V} (hrun : ∀ z : Int, (z < 1 ∨ 7 < z) → ∀ lim h n v h' n', (Out.v x).res h n = .ok v h' n' → CallsOK Try.prog k (.cons (I z) .nil) lim h n v h' n') : SOK Try.prog k (spI (fo1 x)) := spI_ok fun z lim h n v h' n' hr => by
  unfold fo1 at hr
  split at hr
  · rename_i hz; exact hrun z hz lim h n v h' n' hr
  · cases hr
theorem okO2 {k : Nat} {x : V} (hrun : ∀ z c : Int, (z < 1 ∨ 7 < z) → ∀ lim h n v h' n', (Out.v x).res h n = .ok v h' n' → CallsOK Try.prog k (.cons (I z) (.cons (I c) .nil)) lim h n v h' n') : SOK Try.prog k (spII (fo2 x)) := spII_ok fun z c lim h n v h' n' hr => by
  unfold fo2 at hr
  split at hr
  · rename_i hz; exact hrun z c hz lim h n v h' n' hr
  · cases hr
theorem ok59 : SOK Try.prog 59 (spI (fo1 (.b false))) := okO fun z hz lim h n v h' n' hr => outC Try.func59 n59 b59 k59 r59 (Ins.none h) (by simp [L.length]) (ren_nil_rel (by simp [L.pur, I_pur])) (.v (.b false)) rfl (run59 z hz) lim n hr
noncomputable def FO1 : FF := ov 59 (spI (fo1 (.b false))) (ov 63 (spIII s63) F0)
theorem FO1_ok : FOK Try.prog FO1 := ov_ok ok59 (ov_ok ok63 (F0_ok _))
theorem FO1_mono : FO1.mono := ov_mono (spI_mo _) (ov_mono (spIII_mo _) F0_mono)
theorem run84 (z : Int) (hz : z < 1 ∨ 7 < z) : JQ Try.prog drops Try.f84.ntmps FO1 q84 256 (Kend res84 (Good 0 (.v (I 1)))) (bind (.cons (I z) .nil) 0 .lf) .lf 256 := by
  have hF := FO1_ok
  have hM := FO1_mono
  have hz' : (decide ((1 : Int) ≤ z) && decide (z ≤ 7)) = false := by simp; omega
  unfold q84
  (refine JQ.run follows hF hM ?_; simp (config := { maxSteps := 4000000 }) (disch := (omega)) only [go_sem, Nat.reduceLT, Nat.reduceEqDiff, reduceIte, Nat.reduceAdd, Nat.reduceSub, Nat.reduceLeDiff, Int.reduceEq, Int.reduceLT, Int.reduceLE, Int.reduceNeg, Int.reduceAdd, Int.reduceSub, Int.reduceToNat, Int.reduceMul, Nat.reduceMul, FO1, s63, fo1_out hz, hz', res84])
theorem ok84 : SOK Try.prog 84 (spI (fo1 (I 1))) := okO fun z hz lim h n v h' n' hr => outC Try.func84 n84 b84 k84 r84 (Ins.none h) (by simp [L.length]) (ren_nil_rel (by simp [L.pur, I_pur])) (.v (I 1)) (I_pur _) (run84 z hz) lim n hr
theorem run87 (z : Int) (hz : z < 1 ∨ 7 < z) : JQ Try.prog drops Try.f87.ntmps FO1 q87 256 (Kend res87 (Good 0 (.v (I 1)))) (bind (.cons (I z) .nil) 0 .lf) .lf 256 := by
  have hF := FO1_ok
  have hM := FO1_mono
  have hz' : (decide ((1 : Int) ≤ z) && decide (z ≤ 7)) = false := by simp; omega
  unfold q87
  (refine JQ.run follows hF hM ?_; simp (config := { maxSteps := 4000000 }) (disch := (omega)) only [go_sem, Nat.reduceLT, Nat.reduceEqDiff, reduceIte, Nat.reduceAdd, Nat.reduceSub, Nat.reduceLeDiff, Int.reduceEq, Int.reduceLT, Int.reduceLE, Int.reduceNeg, Int.reduceAdd, Int.reduceSub, Int.reduceToNat, Int.reduceMul, Nat.reduceMul, FO1, s63, fo1_out hz, hz', res87])
theorem ok87 : SOK Try.prog 87 (spI (fo1 (I 1))) := okO fun z hz lim h n v h' n' hr => outC Try.func87 n87 b87 k87 r87 (Ins.none h) (by simp [L.length]) (ren_nil_rel (by simp [L.pur, I_pur])) (.v (I 1)) (I_pur _) (run87 z hz) lim n hr
theorem run90 (z : Int) (hz : z < 1 ∨ 7 < z) : JQ Try.prog drops Try.f90.ntmps FO1 q90 256 (Kend res90 (Good 0 (.v (I 1)))) (bind (.cons (I z) .nil) 0 .lf) .lf 256 := by
  have hF := FO1_ok
  have hM := FO1_mono
  have hz' : (decide ((1 : Int) ≤ z) && decide (z ≤ 7)) = false := by simp; omega
  unfold q90
  (refine JQ.run follows hF hM ?_; simp (config := { maxSteps := 4000000 }) (disch := (omega)) only [go_sem, Nat.reduceLT, Nat.reduceEqDiff, reduceIte, Nat.reduceAdd, Nat.reduceSub, Nat.reduceLeDiff, Int.reduceEq, Int.reduceLT, Int.reduceLE, Int.reduceNeg, Int.reduceAdd, Int.reduceSub, Int.reduceToNat, Int.reduceMul, Nat.reduceMul, FO1, s63, fo1_out hz, hz', res90])
theorem ok90 : SOK Try.prog 90 (spI (fo1 (I 1))) := okO fun z hz lim h n v h' n' hr => outC Try.func90 n90 b90 k90 r90 (Ins.none h) (by simp [L.length]) (ren_nil_rel (by simp [L.pur, I_pur])) (.v (I 1)) (I_pur _) (run90 z hz) lim n hr
noncomputable def FO2 : FF := ov 84 (spI (fo1 (I 1))) (ov 87 (spI (fo1 (I 1))) (ov 90 (spI (fo1 (I 1))) FO1))
theorem FO2_ok : FOK Try.prog FO2 := ov_ok ok84 (ov_ok ok87 (ov_ok ok90 FO1_ok))
theorem FO2_mono : FO2.mono := ov_mono (spI_mo _) (ov_mono (spI_mo _) (ov_mono (spI_mo _) FO1_mono))
noncomputable def vn1 : V := .tu (.cons .ns (.cons (I 1) .nil))
noncomputable def v01 : V := .tu (.cons (I 0) (.cons (I 1) .nil))
theorem run34 (z : Int) (hz : z < 1 ∨ 7 < z) : JQ Try.prog drops Try.f34.ntmps FO2 q34 256 (Kend res34 (Good 0 (.v vn1))) (bind (.cons (I z) .nil) 0 .lf) .lf 256 := by
  have hF := FO2_ok
  have hM := FO2_mono
  have hz' : (decide ((1 : Int) ≤ z) && decide (z ≤ 7)) = false := by simp; omega
  unfold q34 vn1
  (refine JQ.run follows hF hM ?_; simp (config := { maxSteps := 4000000 }) (disch := (omega)) only [go_sem, Nat.reduceLT, Nat.reduceEqDiff, reduceIte, Nat.reduceAdd, Nat.reduceSub, Nat.reduceLeDiff, Int.reduceEq, Int.reduceLT, Int.reduceLE, Int.reduceNeg, Int.reduceAdd, Int.reduceSub, Int.reduceToNat, Int.reduceMul, Nat.reduceMul, FO2, FO1, s63, fo1_out hz, hz', res34])
theorem ok34 : SOK Try.prog 34 (spI (fo1 vn1)) := okO fun z hz lim h n v h' n' hr => outC Try.func34 n34 b34 k34 r34 (Ins.none h) (by simp [L.length]) (ren_nil_rel (by simp [L.pur, I_pur])) (.v vn1) rfl (run34 z hz) lim n hr
theorem run35 (z : Int) (hz : z < 1 ∨ 7 < z) : JQ Try.prog drops Try.f35.ntmps FO2 q35 256 (Kend res35 (Good 0 (.v vn1))) (bind (.cons (I z) .nil) 0 .lf) .lf 256 := by
  have hF := FO2_ok
  have hM := FO2_mono
  have hz' : (decide ((1 : Int) ≤ z) && decide (z ≤ 7)) = false := by simp; omega
  unfold q35 vn1
  (refine JQ.run follows hF hM ?_; simp (config := { maxSteps := 4000000 }) (disch := (omega)) only [go_sem, Nat.reduceLT, Nat.reduceEqDiff, reduceIte, Nat.reduceAdd, Nat.reduceSub, Nat.reduceLeDiff, Int.reduceEq, Int.reduceLT, Int.reduceLE, Int.reduceNeg, Int.reduceAdd, Int.reduceSub, Int.reduceToNat, Int.reduceMul, Nat.reduceMul, FO2, FO1, s63, fo1_out hz, hz', res35])
theorem ok35 : SOK Try.prog 35 (spI (fo1 vn1)) := okO fun z hz lim h n v h' n' hr => outC Try.func35 n35 b35 k35 r35 (Ins.none h) (by simp [L.length]) (ren_nil_rel (by simp [L.pur, I_pur])) (.v vn1) rfl (run35 z hz) lim n hr
theorem run38 (z : Int) (hz : z < 1 ∨ 7 < z) : JQ Try.prog drops Try.f38.ntmps FO2 q38 256 (Kend res38 (Good 0 (.v vn1))) (bind (.cons (I z) .nil) 0 .lf) .lf 256 := by
  have hF := FO2_ok
  have hM := FO2_mono
  have hz' : (decide ((1 : Int) ≤ z) && decide (z ≤ 7)) = false := by simp; omega
  unfold q38 vn1
  (refine JQ.run follows hF hM ?_; simp (config := { maxSteps := 4000000 }) (disch := (omega)) only [go_sem, Nat.reduceLT, Nat.reduceEqDiff, reduceIte, Nat.reduceAdd, Nat.reduceSub, Nat.reduceLeDiff, Int.reduceEq, Int.reduceLT, Int.reduceLE, Int.reduceNeg, Int.reduceAdd, Int.reduceSub, Int.reduceToNat, Int.reduceMul, Nat.reduceMul, FO2, FO1, s63, fo1_out hz, hz', res38])
theorem ok38 : SOK Try.prog 38 (spI (fo1 vn1)) := okO fun z hz lim h n v h' n' hr => outC Try.func38 n38 b38 k38 r38 (Ins.none h) (by simp [L.length]) (ren_nil_rel (by simp [L.pur, I_pur])) (.v vn1) rfl (run38 z hz) lim n hr
theorem run39 (z : Int) (hz : z < 1 ∨ 7 < z) : JQ Try.prog drops Try.f39.ntmps FO2 q39 256 (Kend res39 (Good 0 (.v vn1))) (bind (.cons (I z) .nil) 0 .lf) .lf 256 := by
  have hF := FO2_ok
  have hM := FO2_mono
  have hz' : (decide ((1 : Int) ≤ z) && decide (z ≤ 7)) = false := by simp; omega
  unfold q39 vn1
  (refine JQ.run follows hF hM ?_; simp (config := { maxSteps := 4000000 }) (disch := (omega)) only [go_sem, Nat.reduceLT, Nat.reduceEqDiff, reduceIte, Nat.reduceAdd, Nat.reduceSub, Nat.reduceLeDiff, Int.reduceEq, Int.reduceLT, Int.reduceLE, Int.reduceNeg, Int.reduceAdd, Int.reduceSub, Int.reduceToNat, Int.reduceMul, Nat.reduceMul, FO2, FO1, s63, fo1_out hz, hz', res39])
theorem ok39 : SOK Try.prog 39 (spI (fo1 vn1)) := okO fun z hz lim h n v h' n' hr => outC Try.func39 n39 b39 k39 r39 (Ins.none h) (by simp [L.length]) (ren_nil_rel (by simp [L.pur, I_pur])) (.v vn1) rfl (run39 z hz) lim n hr
theorem run36 (z c : Int) (hz : z < 1 ∨ 7 < z) : JQ Try.prog drops Try.f36.ntmps FO2 q36 256 (Kend res36 (Good 0 (.v v01))) (bind (.cons (I z) (.cons (I c) .nil)) 0 .lf) .lf 256 := by
  have hF := FO2_ok
  have hM := FO2_mono
  have hz' : (decide ((1 : Int) ≤ z) && decide (z ≤ 7)) = false := by simp; omega
  unfold q36 v01
  (refine JQ.run follows hF hM ?_; simp (config := { maxSteps := 4000000 }) (disch := (omega)) only [go_sem, Nat.reduceLT, Nat.reduceEqDiff, reduceIte, Nat.reduceAdd, Nat.reduceSub, Nat.reduceLeDiff, Int.reduceEq, Int.reduceLT, Int.reduceLE, Int.reduceNeg, Int.reduceAdd, Int.reduceSub, Int.reduceToNat, Int.reduceMul, Nat.reduceMul, FO2, FO1, s63, fo1_out hz, hz', res36])
theorem ok36 : SOK Try.prog 36 (spII (fo2 v01)) := okO2 fun z c hz lim h n v h' n' hr => outC Try.func36 n36 b36 k36 r36 (Ins.none h) (by simp [L.length]) (ren_nil_rel (by simp [L.pur, I_pur])) (.v v01) rfl (run36 z c hz) lim n hr
theorem run37 (z c : Int) (hz : z < 1 ∨ 7 < z) : JQ Try.prog drops Try.f37.ntmps FO2 q37 256 (Kend res37 (Good 0 (.v v01))) (bind (.cons (I z) (.cons (I c) .nil)) 0 .lf) .lf 256 := by
  have hF := FO2_ok
  have hM := FO2_mono
  have hz' : (decide ((1 : Int) ≤ z) && decide (z ≤ 7)) = false := by simp; omega
  unfold q37 v01
  (refine JQ.run follows hF hM ?_; simp (config := { maxSteps := 4000000 }) (disch := (omega)) only [go_sem, Nat.reduceLT, Nat.reduceEqDiff, reduceIte, Nat.reduceAdd, Nat.reduceSub, Nat.reduceLeDiff, Int.reduceEq, Int.reduceLT, Int.reduceLE, Int.reduceNeg, Int.reduceAdd, Int.reduceSub, Int.reduceToNat, Int.reduceMul, Nat.reduceMul, FO2, FO1, s63, fo1_out hz, hz', res37])
theorem ok37 : SOK Try.prog 37 (spII (fo2 v01)) := okO2 fun z c hz lim h n v h' n' hr => outC Try.func37 n37 b37 k37 r37 (Ins.none h) (by simp [L.length]) (ren_nil_rel (by simp [L.pur, I_pur])) (.v v01) rfl (run37 z c hz) lim n hr
noncomputable def FO3 : FF := ov 39 (spI (fo1 vn1)) FO2
theorem FO3_ok : FOK Try.prog FO3 := ov_ok ok39 FO2_ok
theorem FO3_mono : FO3.mono := ov_mono (spI_mo _) FO2_mono
theorem run40 (z : Int) (hz : z < 1 ∨ 7 < z) : JQ Try.prog drops Try.f40.ntmps FO3 q40 256 (Kend res40 (Good 0 (.v v01))) (bind (.cons (I z) .nil) 0 .lf) .lf 256 := by
  have hF := FO3_ok
  have hM := FO3_mono
  have hz' : (decide ((1 : Int) ≤ z) && decide (z ≤ 7)) = false := by simp; omega
  unfold q40 v01
  (refine JQ.run follows hF hM ?_; simp (config := { maxSteps := 4000000 }) (disch := (omega)) only [go_sem, Nat.reduceLT, Nat.reduceEqDiff, reduceIte, Nat.reduceAdd, Nat.reduceSub, Nat.reduceLeDiff, Int.reduceEq, Int.reduceLT, Int.reduceLE, Int.reduceNeg, Int.reduceAdd, Int.reduceSub, Int.reduceToNat, Int.reduceMul, Nat.reduceMul, FO3, FO2, FO1, s63, fo1_out hz, vn1, hz', res40])
theorem ok40 : SOK Try.prog 40 (spI (fo1 v01)) := okO fun z hz lim h n v h' n' hr => outC Try.func40 n40 b40 k40 r40 (Ins.none h) (by simp [L.length]) (ren_nil_rel (by simp [L.pur, I_pur])) (.v v01) rfl (run40 z hz) lim n hr
theorem run41 (z : Int) (hz : z < 1 ∨ 7 < z) : JQ Try.prog drops Try.f41.ntmps FO3 q41 256 (Kend res41 (Good 0 (.v v01))) (bind (.cons (I z) .nil) 0 .lf) .lf 256 := by
  have hF := FO3_ok
  have hM := FO3_mono
  have hz' : (decide ((1 : Int) ≤ z) && decide (z ≤ 7)) = false := by simp; omega
  unfold q41 v01
  (refine JQ.run follows hF hM ?_; simp (config := { maxSteps := 4000000 }) (disch := (omega)) only [go_sem, Nat.reduceLT, Nat.reduceEqDiff, reduceIte, Nat.reduceAdd, Nat.reduceSub, Nat.reduceLeDiff, Int.reduceEq, Int.reduceLT, Int.reduceLE, Int.reduceNeg, Int.reduceAdd, Int.reduceSub, Int.reduceToNat, Int.reduceMul, Nat.reduceMul, FO3, FO2, FO1, s63, fo1_out hz, vn1, hz', res41])
theorem ok41 : SOK Try.prog 41 (spI (fo1 v01)) := okO fun z hz lim h n v h' n' hr => outC Try.func41 n41 b41 k41 r41 (Ins.none h) (by simp [L.length]) (ren_nil_rel (by simp [L.pur, I_pur])) (.v v01) rfl (run41 z hz) lim n hr
end Go.Proofs.Ytjhgingmbklhaaa.Ev
