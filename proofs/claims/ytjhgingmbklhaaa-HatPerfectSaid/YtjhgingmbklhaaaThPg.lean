/- HatPerfect: the law's code; numbers of helpers that are none. -/
import Derived.Test.YtjhgingmbklhaaaThPb
namespace Go.Proofs.Ytjhgingmbklhaaa.Ev
set_option linter.unusedVariables false
set_option linter.unusedSimpArgs false
set_option maxRecDepth 100000
open Go Go.Proofs Go.RowKit
attribute [local go_sem] evC_seq evC_reg evC_cond evC_block evC_skip evC_exit evC_ret evR_cons evR_nil evR_gd guardB_tt guardB_ff guardB_tf guardB_ft guardB_none bindR_ok bindR_okn rgRs_ok seqR_nor seqR_ext seqR_ret condR_true condR_false blockR_nor blockR_ext blockR_ret evX_t evX_c evXL_nil evXL_cons O_mv O_bin O_pick O_eqb O_not O_ext O_call O_conv O_slen O_six O_sbi pv_I pv_i pv_b pv_s pv_ns pv_sl pv_p pv_tu pv_ag bin_lss bin_leq bin_gtr bin_geq bin_eql bin_neq bin8_eql bin8_neq bin_add bin_sub bin_mul get_st get_lf bind_nil bind_cons if_true if_false Got_nor Got_ext Got_ret Kseq Kblk Klp Kend onStr_s onB_b onT_tu onI_I onN_I onK_I eqb_b not_b nthL_0 nthL_1 nthL_2 known_nil known_cons I_known known_b known_s evRVs_nil evRVs_cons evRes_1 evRes_2 evRV_tmp Bool.and_true Bool.true_and Bool.and_self Bool.not_true Bool.not_false decide_true decide_false Int.toNat_natCast true_and and_true big hget_same hget_ne newB_n onP_p onS_sl onS_ns O_fad O_alloc_if O_ixs O_len O_ld O_st O_box boxB_if ldB_if ldB_agif stB_if stB_wif toL_I toL_i toL_b toL_s toL_sl toL_ns toL_ag allC_nil allC_cons isC_i isC_b isC_s isC_sl isC_ns I_isC Llen_nil Llen_cons Lget_0 Lget_1 Lget_2 Lget_3 blkL_size cell_blkL_if getL_blkL_if getL_setL_if setL_sz evRV_cell' rvB_agif rvB_if evPL_cons bldK_if evPL_nil O_build O_part evBuild_ok okL_some onA_ag partV_1 evPart_eq updS_nil updS_cons upd_0 upd_1 upd_2 upd_3 ge_iff_le if_pos and_self Nat.le_refl known_ag known_sl known_ns known_i ov_at spS_eq spSI_eq spSII_eq spI_eq spII_eq spIII_eq spIIII_eq res_v res_sl res_slE Good I_pur pur_b pur_s pur_i pur_ns pur_ag pur_tu purL_nil purL_cons evDr_eq evDs_nil evDs_cons dsR_ok stepD_eq sdB_n sdB_g sdG_tt sdG_ff sdG_tf sdG_ft sdG_none runD_0 rdR_f rdR_t baseOf_pu baseOf_h baseU_nil baseA_nil baseA_0 baseR_nil baseR_0 baseR_00 appAll_nil appAll_0 restr_nil restr_cons setD_some setD_none evC_draw iL_len iL_get iL_allC iL_pur hp0_0 hp0_c rdL_ns rdL_sl List.length_cons List.length_nil O_mks mkB_if O_bsl bslB_if O_app apX_ns apX_sl apN_some apS_some blkL_el Nat.one_mul Nat.mul_one Nat.zero_add n_I onF_fn O_callv app_nil app_cons spLF_eq spL_eq spLL_eq onL_some onLL_ss onLL_ns onLL_sn onLL_nn rdB_blk Int.cast_ofNat_Int tlX_none tlX_some tlOf_cons tlOf_1 tlOf_1t tlM_none tlM_some
noncomputable def i5 : FnI := (.mk true true (.seq (.reg (.cons (some x4x) none (.mv (.c (.b false))) .nil)) (.seq (.reg (.cons (some x22x) none (.mv (.t x0x)) (.cons (some x23x) none (.call 34 (.cons (.t x22x) 
  .nil)) (.cons (some x21x) none (.mv (.t x23x)) (.cons (some x24x) none (.ext 0 (.t x21x)) (.cons (some x25x) none (.ext 1 (.t x21x)) (.cons (some x5x) none (.mv (.t x24x)) (.cons 
  (some x6x) none (.mv (.t x25x)) .nil)))))))) (.seq (.reg (.cons (some x27x) none (.mv (.t x0x)) (.cons (some x28x) none (.call 35 (.cons (.t x27x) .nil)) (.cons (some x26x) none 
  (.mv (.t x28x)) (.cons (some x29x) none (.ext 0 (.t x26x)) (.cons (some x30x) none (.ext 1 (.t x26x)) (.cons (some x7x) none (.mv (.t x29x)) (.cons (some x8x) none (.mv (.t 
  x30x)) .nil)))))))) (.seq (.reg (.cons (some x32x) none (.mv (.t x0x)) (.cons (some x33x) none (.mv (.t x1x)) (.cons (some x34x) none (.call 36 (.cons (.t x32x) (.cons (.t x33x) 
  .nil))) (.cons (some x31x) none (.mv (.t x34x)) (.cons (some x35x) none (.ext 0 (.t x31x)) (.cons (some x36x) none (.ext 1 (.t x31x)) (.cons (some x9x) none (.mv (.t x35x)) 
  (.cons (some x10x) none (.mv (.t x36x)) .nil))))))))) (.seq (.reg (.cons (some x38x) none (.mv (.t x0x)) (.cons (some x39x) none (.mv (.t x1x)) (.cons (some x40x) none (.call 37 
  (.cons (.t x38x) (.cons (.t x39x) .nil))) (.cons (some x37x) none (.mv (.t x40x)) (.cons (some x41x) none (.ext 0 (.t x37x)) (.cons (some x42x) none (.ext 1 (.t x37x)) (.cons 
  (some x11x) none (.mv (.t x41x)) (.cons (some x12x) none (.mv (.t x42x)) .nil))))))))) (.seq (.reg (.cons (some x44x) none (.mv (.t x0x)) (.cons (some x45x) none (.call 38 (.cons 
  (.t x44x) .nil)) (.cons (some x43x) none (.mv (.t x45x)) (.cons (some x46x) none (.ext 0 (.t x43x)) (.cons (some x47x) none (.ext 1 (.t x43x)) (.cons (some x13x) none (.mv (.t 
  x46x)) (.cons (some x14x) none (.mv (.t x47x)) .nil)))))))) (.seq (.reg (.cons (some x49x) none (.mv (.t x0x)) (.cons (some x50x) none (.call 39 (.cons (.t x49x) .nil)) (.cons 
  (some x48x) none (.mv (.t x50x)) (.cons (some x51x) none (.ext 0 (.t x48x)) (.cons (some x52x) none (.ext 1 (.t x48x)) (.cons (some x15x) none (.mv (.t x51x)) (.cons (some x16x) 
  none (.mv (.t x52x)) .nil)))))))) (.seq (.reg (.cons (some x54x) none (.mv (.t x0x)) (.cons (some x55x) none (.call 40 (.cons (.t x54x) .nil)) (.cons (some x53x) none (.mv (.t 
  x55x)) (.cons (some x56x) none (.ext 0 (.t x53x)) (.cons (some x57x) none (.ext 1 (.t x53x)) (.cons (some x17x) none (.mv (.t x56x)) (.cons (some x18x) none (.mv (.t x57x)) 
  .nil)))))))) (.seq (.reg (.cons (some x59x) none (.mv (.t x0x)) (.cons (some x60x) none (.call 41 (.cons (.t x59x) .nil)) (.cons (some x58x) none (.mv (.t x60x)) (.cons (some 
  x61x) none (.ext 0 (.t x58x)) (.cons (some x62x) none (.ext 1 (.t x58x)) (.cons (some x19x) none (.mv (.t x61x)) (.cons (some x20x) none (.mv (.t x62x)) .nil)))))))) (.seq (.reg 
  (.cons (some x63x) none (.mv (.t x5x)) (.cons (some x64x) none (.mv (.t x7x)) (.cons (some x65x) none (.call 24 (.cons (.t x63x) (.cons (.t x64x) .nil))) (.cons (some x66x) none 
  (.mv (.t x65x)) (.cons (some x67x) (some (.mk x66x true)) (.mv (.t x6x)) (.cons (some x68x) (some (.mk x66x true)) (.mv (.t x8x)) (.cons (some x69x) (some (.mk x66x true)) (.bin 
  .eql (.t x67x) (.t x68x)) (.cons (some x70x) none (.pick (.t x66x) (.t x69x) (.c (.b false))) (.cons (some x71x) none (.mv (.t x70x)) (.cons (some x72x) (some (.mk x71x true)) 
  (.mv (.t x9x)) (.cons (some x73x) (some (.mk x71x true)) (.mv (.t x11x)) (.cons (some x74x) (some (.mk x71x true)) (.bin .eql (.t x72x) (.t x73x)) (.cons (some x75x) none (.pick 
  (.t x71x) (.t x74x) (.c (.b false))) (.cons (some x76x) none (.mv (.t x75x)) (.cons (some x77x) (some (.mk x76x true)) (.mv (.t x10x)) (.cons (some x78x) (some (.mk x76x true)) 
  (.mv (.t x12x)) (.cons (some x79x) (some (.mk x76x true)) (.bin .eql (.t x77x) (.t x78x)) (.cons (some x80x) none (.pick (.t x76x) (.t x79x) (.c (.b false))) (.cons (some x81x) 
  none (.mv (.t x80x)) (.cons (some x82x) (some (.mk x81x true)) (.mv (.t x13x)) (.cons (some x83x) (some (.mk x81x true)) (.mv (.t x15x)) (.cons (some x84x) (some (.mk x81x true)) 
  (.call 24 (.cons (.t x82x) (.cons (.t x83x) .nil))) (.cons (some x85x) none (.pick (.t x81x) (.t x84x) (.c (.b false))) (.cons (some x86x) none (.mv (.t x85x)) (.cons (some x87x) 
  (some (.mk x86x true)) (.mv (.t x14x)) (.cons (some x88x) (some (.mk x86x true)) (.mv (.t x16x)) (.cons (some x89x) (some (.mk x86x true)) (.bin .eql (.t x87x) (.t x88x)) (.cons 
  (some x90x) none (.pick (.t x86x) (.t x89x) (.c (.b false))) (.cons (some x91x) none (.mv (.t x90x)) (.cons (some x92x) (some (.mk x91x true)) (.mv (.t x17x)) (.cons (some x93x) 
  (some (.mk x91x true)) (.mv (.t x19x)) (.cons (some x94x) (some (.mk x91x true)) (.bin .eql (.t x92x) (.t x93x)) (.cons (some x95x) none (.pick (.t x91x) (.t x94x) (.c (.b 
  false))) (.cons (some x96x) none (.mv (.t x95x)) (.cons (some x97x) (some (.mk x96x true)) (.mv (.t x18x)) (.cons (some x98x) (some (.mk x96x true)) (.mv (.t x20x)) (.cons (some 
  x99x) (some (.mk x96x true)) (.bin .eql (.t x97x) (.t x98x)) (.cons (some x100x) none (.pick (.t x96x) (.t x99x) (.c (.b false))) (.cons (some x101x) none (.mv (.t x100x)) (.cons 
  (some x102x) (some (.mk x101x true)) (.call 15 .nil) (.cons (some x103x) none (.pick (.t x101x) (.t x102x) (.c (.b false))) (.cons (some x4x) none (.mv (.t x103x)) 
  .nil))))))))))))))))))))))))))))))))))))))))))) .ret)))))))))) [(.tmp x4x)])
noncomputable def q5 : IC := i5.q
noncomputable def res5 : List RV := i5.r
noncomputable def c5c : Code := match Try.f5.body with | some c => c | none => .skip
theorem b5 : Try.f5.body = some c5c := by kernel_rfl
theorem k5 : compC Try.prog drops Try.f5.ntmps c5c = some q5 := by kernel_rfl
theorem r5 : compRVs Try.prog Try.f5.results.toList = some res5 := by kernel_rfl
theorem n5 : (Try.f5.name == "runtime.NumGoroutine") = false := by kernel_rfl
noncomputable def q5w : IC := (.seq (.reg (.cons (some (tp 4)) none (.mv (.c (.b false))) .nil)) (.seq (.reg (.cons (some (tp 22)) none (.mv (.t (tp 0))) (.cons (some (tp 23)) none (.call 34 (.cons (.t (tp 22)) 
  .nil)) (.cons (some (tp 21)) none (.mv (.t (tp 23))) (.cons (some (tp 24)) none (.ext 0 (.t (tp 21))) (.cons (some (tp 25)) none (.ext 1 (.t (tp 21))) (.cons (some (tp 5)) none 
  (.mv (.t (tp 24))) (.cons (some (tp 6)) none (.mv (.t (tp 25))) .nil)))))))) (.seq (.reg (.cons (some (tp 27)) none (.mv (.t (tp 0))) (.cons (some (tp 28)) none (.call 35 (.cons 
  (.t (tp 27)) .nil)) (.cons (some (tp 26)) none (.mv (.t (tp 28))) (.cons (some (tp 29)) none (.ext 0 (.t (tp 26))) (.cons (some (tp 30)) none (.ext 1 (.t (tp 26))) (.cons (some 
  (tp 7)) none (.mv (.t (tp 29))) (.cons (some (tp 8)) none (.mv (.t (tp 30))) .nil)))))))) (.seq (.reg (.cons (some (tp 32)) none (.mv (.t (tp 0))) (.cons (some (tp 33)) none (.mv 
  (.t (tp 1))) (.cons (some (tp 34)) none (.call 36 (.cons (.t (tp 32)) (.cons (.t (tp 33)) .nil))) (.cons (some (tp 31)) none (.mv (.t (tp 34))) (.cons (some (tp 35)) none (.ext 0 
  (.t (tp 31))) (.cons (some (tp 36)) none (.ext 1 (.t (tp 31))) (.cons (some (tp 9)) none (.mv (.t (tp 35))) (.cons (some (tp 10)) none (.mv (.t (tp 36))) .nil))))))))) (.seq 
  (.reg (.cons (some (tp 38)) none (.mv (.t (tp 0))) (.cons (some (tp 39)) none (.mv (.t (tp 1))) (.cons (some (tp 40)) none (.call 37 (.cons (.t (tp 38)) (.cons (.t (tp 39)) 
  .nil))) (.cons (some (tp 37)) none (.mv (.t (tp 40))) (.cons (some (tp 41)) none (.ext 0 (.t (tp 37))) (.cons (some (tp 42)) none (.ext 1 (.t (tp 37))) (.cons (some (tp 11)) none 
  (.mv (.t (tp 41))) (.cons (some (tp 12)) none (.mv (.t (tp 42))) .nil))))))))) (.seq (.reg (.cons (some (tp 44)) none (.mv (.t (tp 0))) (.cons (some (tp 45)) none (.call 38 
  (.cons (.t (tp 44)) .nil)) (.cons (some (tp 43)) none (.mv (.t (tp 45))) (.cons (some (tp 46)) none (.ext 0 (.t (tp 43))) (.cons (some (tp 47)) none (.ext 1 (.t (tp 43))) (.cons 
  (some (tp 13)) none (.mv (.t (tp 46))) (.cons (some (tp 14)) none (.mv (.t (tp 47))) .nil)))))))) (.seq (.reg (.cons (some (tp 49)) none (.mv (.t (tp 0))) (.cons (some (tp 50)) 
  none (.call 39 (.cons (.t (tp 49)) .nil)) (.cons (some (tp 48)) none (.mv (.t (tp 50))) (.cons (some (tp 51)) none (.ext 0 (.t (tp 48))) (.cons (some (tp 52)) none (.ext 1 (.t 
  (tp 48))) (.cons (some (tp 15)) none (.mv (.t (tp 51))) (.cons (some (tp 16)) none (.mv (.t (tp 52))) .nil)))))))) (.seq (.reg (.cons (some (tp 54)) none (.mv (.t (tp 0))) (.cons 
  (some (tp 55)) none (.call 40 (.cons (.t (tp 54)) .nil)) (.cons (some (tp 53)) none (.mv (.t (tp 55))) (.cons (some (tp 56)) none (.ext 0 (.t (tp 53))) (.cons (some (tp 57)) none 
  (.ext 1 (.t (tp 53))) (.cons (some (tp 17)) none (.mv (.t (tp 56))) (.cons (some (tp 18)) none (.mv (.t (tp 57))) .nil)))))))) (.seq (.reg (.cons (some (tp 59)) none (.mv (.t (tp 
  0))) (.cons (some (tp 60)) none (.call 41 (.cons (.t (tp 59)) .nil)) (.cons (some (tp 58)) none (.mv (.t (tp 60))) (.cons (some (tp 61)) none (.ext 0 (.t (tp 58))) (.cons (some 
  (tp 62)) none (.ext 1 (.t (tp 58))) (.cons (some (tp 19)) none (.mv (.t (tp 61))) (.cons (some (tp 20)) none (.mv (.t (tp 62))) .nil)))))))) (.seq (.reg (.cons (some (tp 63)) 
  none (.mv (.t (tp 5))) (.cons (some (tp 64)) none (.mv (.t (tp 7))) (.cons (some (tp 65)) none (.call 24 (.cons (.t (tp 63)) (.cons (.t (tp 64)) .nil))) (.cons (some (tp 66)) 
  none (.mv (.t (tp 65))) (.cons (some (tp 67)) (some (.mk (tp 66) true)) (.mv (.t (tp 6))) (.cons (some (tp 68)) (some (.mk (tp 66) true)) (.mv (.t (tp 8))) (.cons (some (tp 69)) 
  (some (.mk (tp 66) true)) (.bin .eql (.t (tp 67)) (.t (tp 68))) (.cons (some (tp 70)) none (.pick (.t (tp 66)) (.t (tp 69)) (.c (.b false))) (.cons (some (tp 71)) none (.mv (.t 
  (tp 70))) (.cons (some (tp 72)) (some (.mk (tp 71) true)) (.mv (.t (tp 9))) (.cons (some (tp 73)) (some (.mk (tp 71) true)) (.mv (.t (tp 11))) (.cons (some (tp 74)) (some (.mk 
  (tp 71) true)) (.bin .eql (.t (tp 72)) (.t (tp 73))) (.cons (some (tp 75)) none (.pick (.t (tp 71)) (.t (tp 74)) (.c (.b false))) (.cons (some (tp 76)) none (.mv (.t (tp 75))) 
  (.cons (some (tp 77)) (some (.mk (tp 76) true)) (.mv (.t (tp 10))) (.cons (some (tp 78)) (some (.mk (tp 76) true)) (.mv (.t (tp 12))) (.cons (some (tp 79)) (some (.mk (tp 76) 
  true)) (.bin .eql (.t (tp 77)) (.t (tp 78))) (.cons (some (tp 80)) none (.pick (.t (tp 76)) (.t (tp 79)) (.c (.b false))) (.cons (some (tp 81)) none (.mv (.t (tp 80))) (.cons 
  (some (tp 82)) (some (.mk (tp 81) true)) (.mv (.t (tp 13))) (.cons (some (tp 83)) (some (.mk (tp 81) true)) (.mv (.t (tp 15))) (.cons (some (tp 84)) (some (.mk (tp 81) true)) 
  (.call 24 (.cons (.t (tp 82)) (.cons (.t (tp 83)) .nil))) (.cons (some (tp 85)) none (.pick (.t (tp 81)) (.t (tp 84)) (.c (.b false))) (.cons (some (tp 86)) none (.mv (.t (tp 
  85))) (.cons (some (tp 87)) (some (.mk (tp 86) true)) (.mv (.t (tp 14))) (.cons (some (tp 88)) (some (.mk (tp 86) true)) (.mv (.t (tp 16))) (.cons (some (tp 89)) (some (.mk (tp 
  86) true)) (.bin .eql (.t (tp 87)) (.t (tp 88))) (.cons (some (tp 90)) none (.pick (.t (tp 86)) (.t (tp 89)) (.c (.b false))) (.cons (some (tp 91)) none (.mv (.t (tp 90))) (.cons 
  (some (tp 92)) (some (.mk (tp 91) true)) (.mv (.t (tp 17))) (.cons (some (tp 93)) (some (.mk (tp 91) true)) (.mv (.t (tp 19))) (.cons (some (tp 94)) (some (.mk (tp 91) true)) 
  (.bin .eql (.t (tp 92)) (.t (tp 93))) (.cons (some (tp 95)) none (.pick (.t (tp 91)) (.t (tp 94)) (.c (.b false))) (.cons (some (tp 96)) none (.mv (.t (tp 95))) (.cons (some (tp 
  97)) (some (.mk (tp 96) true)) (.mv (.t (tp 18))) (.cons (some (tp 98)) (some (.mk (tp 96) true)) (.mv (.t (tp 20))) (.cons (some (tp 99)) (some (.mk (tp 96) true)) (.bin .eql 
  (.t (tp 97)) (.t (tp 98))) (.cons (some (tp 100)) none (.pick (.t (tp 96)) (.t (tp 99)) (.c (.b false))) (.cons (some (tp 101)) none (.mv (.t (tp 100))) (.cons (some (tp 102)) 
  (some (.mk (tp 101) true)) (.call 15 .nil) (.cons (some (tp 103)) none (.pick (.t (tp 101)) (.t (tp 102)) (.c (.b false))) (.cons (some (tp 4)) none (.mv (.t (tp 103))) 
  .nil))))))))))))))))))))))))))))))))))))))))))) .ret))))))))))
theorem q5_eq : q5 = q5w := by kernel_rfl
theorem res5_eq : res5 = [.tmp (tp 4)] := by kernel_rfl
theorem w15 : (fun lim h n => EW 60 15 .nil lim h n) = fun lim h n => .ok (.b true) h n := by kernel_rfl
theorem e15 (lim : Nat) (h : Hp) (n : Nat) : EW 60 15 .nil lim h n = .ok (.b true) h n := congrFun (congrFun (congrFun w15 lim) h) n
theorem e24 : EW 60 24 (.cons .ns (.cons .ns .nil)) 256 .lf 256 = .ok (.b true) .lf 256 := by kernel_rfl
noncomputable def FA : FF := ov 34 (spI (fo1 vn1)) (ov 35 (spI (fo1 vn1)) (ov 36 (spII (fo2 v01)) (ov 37 (spII (fo2 v01)) (ov 38 (spI (fo1 vn1)) (ov 39 (spI (fo1 vn1)) (ov 40 (spI (fo1 v01)) (ov 41 (spI (fo1 v01)) (EW 60))))))))
theorem FA_ok : FOK Try.prog FA := ov_ok ok34 (ov_ok ok35 (ov_ok ok36 (ov_ok ok37 (ov_ok ok38 (ov_ok ok39 (ov_ok ok40 (ov_ok ok41 (EW_ok 60))))))))
theorem FA_mono : FA.mono := ov_mono (spI_mo _) (ov_mono (spI_mo _) (ov_mono (spII_mo _) (ov_mono (spII_mo _) (ov_mono (spI_mo _) (ov_mono (spI_mo _) (ov_mono (spI_mo _) (ov_mono (spI_mo _) (EW_mono 60))))))))
set_option maxHeartbeats 8000000 in
theorem caseA (z c : Int) (hz : z < 1 ∨ 7 < z) : JQ Try.prog drops Try.f5.ntmps FA q5 256 (Kend res5 (Good 0 (.v (.b true)))) (bind (.cons (I z) (.cons (I c) .nil)) 0 .lf) .lf 256 := by
  have hF := FA_ok
  have hM := FA_mono
  rw [q5_eq, res5_eq]
  unfold q5w
  (refine JQ.step follows hF hM ?_; simp (config := { maxSteps := 4000000 }) (disch := (omega)) only [go_sem, Nat.reduceLT, Nat.reduceEqDiff, reduceIte, Nat.reduceAdd, Nat.reduceSub, Nat.reduceLeDiff, Int.reduceEq, Int.reduceLT, Int.reduceLE, Int.reduceNeg, Int.reduceAdd, Int.reduceSub, Int.reduceToNat, Int.reduceMul, Nat.reduceMul])
  (refine JQ.step follows hF hM ?_; simp (config := { maxSteps := 4000000 }) (disch := (omega)) only [go_sem, Nat.reduceLT, Nat.reduceEqDiff, reduceIte, Nat.reduceAdd, Nat.reduceSub, Nat.reduceLeDiff, Int.reduceEq, Int.reduceLT, Int.reduceLE, Int.reduceNeg, Int.reduceAdd, Int.reduceSub, Int.reduceToNat, Int.reduceMul, Nat.reduceMul, FA, fo1_out hz, vn1])
  (refine JQ.step follows hF hM ?_; simp (config := { maxSteps := 4000000 }) (disch := (omega)) only [go_sem, Nat.reduceLT, Nat.reduceEqDiff, reduceIte, Nat.reduceAdd, Nat.reduceSub, Nat.reduceLeDiff, Int.reduceEq, Int.reduceLT, Int.reduceLE, Int.reduceNeg, Int.reduceAdd, Int.reduceSub, Int.reduceToNat, Int.reduceMul, Nat.reduceMul, FA, fo1_out hz, vn1])
  (refine JQ.step follows hF hM ?_; simp (config := { maxSteps := 4000000 }) (disch := (omega)) only [go_sem, Nat.reduceLT, Nat.reduceEqDiff, reduceIte, Nat.reduceAdd, Nat.reduceSub, Nat.reduceLeDiff, Int.reduceEq, Int.reduceLT, Int.reduceLE, Int.reduceNeg, Int.reduceAdd, Int.reduceSub, Int.reduceToNat, Int.reduceMul, Nat.reduceMul, FA, fo2_out hz, v01])
  (refine JQ.step follows hF hM ?_; simp (config := { maxSteps := 4000000 }) (disch := (omega)) only [go_sem, Nat.reduceLT, Nat.reduceEqDiff, reduceIte, Nat.reduceAdd, Nat.reduceSub, Nat.reduceLeDiff, Int.reduceEq, Int.reduceLT, Int.reduceLE, Int.reduceNeg, Int.reduceAdd, Int.reduceSub, Int.reduceToNat, Int.reduceMul, Nat.reduceMul, FA, fo2_out hz, v01])
  (refine JQ.step follows hF hM ?_; simp (config := { maxSteps := 4000000 }) (disch := (omega)) only [go_sem, Nat.reduceLT, Nat.reduceEqDiff, reduceIte, Nat.reduceAdd, Nat.reduceSub, Nat.reduceLeDiff, Int.reduceEq, Int.reduceLT, Int.reduceLE, Int.reduceNeg, Int.reduceAdd, Int.reduceSub, Int.reduceToNat, Int.reduceMul, Nat.reduceMul, FA, fo1_out hz, vn1])
  (refine JQ.step follows hF hM ?_; simp (config := { maxSteps := 4000000 }) (disch := (omega)) only [go_sem, Nat.reduceLT, Nat.reduceEqDiff, reduceIte, Nat.reduceAdd, Nat.reduceSub, Nat.reduceLeDiff, Int.reduceEq, Int.reduceLT, Int.reduceLE, Int.reduceNeg, Int.reduceAdd, Int.reduceSub, Int.reduceToNat, Int.reduceMul, Nat.reduceMul, FA, fo1_out hz, vn1])
  (refine JQ.step follows hF hM ?_; simp (config := { maxSteps := 4000000 }) (disch := (omega)) only [go_sem, Nat.reduceLT, Nat.reduceEqDiff, reduceIte, Nat.reduceAdd, Nat.reduceSub, Nat.reduceLeDiff, Int.reduceEq, Int.reduceLT, Int.reduceLE, Int.reduceNeg, Int.reduceAdd, Int.reduceSub, Int.reduceToNat, Int.reduceMul, Nat.reduceMul, FA, fo1_out hz, v01])
  (refine JQ.step follows hF hM ?_; simp (config := { maxSteps := 4000000 }) (disch := (omega)) only [go_sem, Nat.reduceLT, Nat.reduceEqDiff, reduceIte, Nat.reduceAdd, Nat.reduceSub, Nat.reduceLeDiff, Int.reduceEq, Int.reduceLT, Int.reduceLE, Int.reduceNeg, Int.reduceAdd, Int.reduceSub, Int.reduceToNat, Int.reduceMul, Nat.reduceMul, FA, fo1_out hz, v01])
  (refine JQ.run follows hF hM ?_; simp (config := { maxSteps := 4000000 }) (disch := (omega)) only [go_sem, Nat.reduceLT, Nat.reduceEqDiff, reduceIte, Nat.reduceAdd, Nat.reduceSub, Nat.reduceLeDiff, Int.reduceEq, Int.reduceLT, Int.reduceLE, Int.reduceNeg, Int.reduceAdd, Int.reduceSub, Int.reduceToNat, Int.reduceMul, Nat.reduceMul, FA, e24, e15])
/-- The same pieces, for numbers of helpers with a perfect code. -/
noncomputable def FB : FF := ovF 36 (spII (fc2 v02)) (ovF 37 (spII (fc2 v02)) (EW 60))
theorem FB_ok : FOK Try.prog FB := ovF_ok ok36c (ovF_ok ok37c (EW_ok 60))
theorem FB_mono : FB.mono := ovF_mono (spII_mo _) (ovF_mono (spII_mo _) (EW_mono 60))
theorem FB36 {z c : Int} (hz : is3 z) (hc : c < 0 ∨ pw z ≤ c) (lim : Nat) (h : Hp) (n : Nat) : FB 36 (.cons (I z) (.cons (I c) .nil)) lim h n = .ok v02 h n := by
  unfold FB
  show (if 36 = 36 then _ else _) = _
  rw [if_pos rfl, spII_eq, fc2_at hz hc]
  rfl
theorem FB37 {z c : Int} (hz : is3 z) (hc : c < 0 ∨ pw z ≤ c) (lim : Nat) (h : Hp) (n : Nat) : FB 37 (.cons (I z) (.cons (I c) .nil)) lim h n = .ok v02 h n := by
  unfold FB
  show (if 37 = 36 then _ else if 37 = 37 then _ else _) = _
  rw [if_neg (by decide), if_pos rfl, spII_eq, fc2_at hz hc]
  rfl
noncomputable def s5 (n : Int) (u : V) : Rs := runP FB 256 10000 (q5.pcs 3) (.nor (bind (.cons (I n) (.cons u .nil)) 0 .lf) .lf 256)
theorem q5_s : q5 = seqs (q5.pcs 3) (q5.rst 3) := by kernel_rfl
end Go.Proofs.Ytjhgingmbklhaaa.Ev
