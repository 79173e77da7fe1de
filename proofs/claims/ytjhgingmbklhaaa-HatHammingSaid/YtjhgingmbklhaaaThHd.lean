/- HatHamming: the last line, for any two elements. -/
import Derived.Test.YtjhgingmbklhaaaThHc
namespace Go.Proofs.Ytjhgingmbklhaaa.Ev
set_option linter.unusedVariables false
set_option linter.unusedSimpArgs false
set_option maxRecDepth 100000
open Go Go.Proofs Go.RowKit
attribute [local go_sem] evC_seq evC_reg evC_cond evC_block evC_skip evC_exit evC_ret evR_cons evR_nil evR_gd guardB_tt guardB_ff guardB_tf guardB_ft guardB_none bindR_ok bindR_okn rgRs_ok seqR_nor seqR_ext seqR_ret condR_true condR_false blockR_nor blockR_ext blockR_ret evX_t evX_c evXL_nil evXL_cons O_mv O_bin O_pick O_eqb O_not O_ext O_call O_conv O_slen O_six O_sbi pv_I pv_i pv_b pv_s pv_ns pv_sl pv_p pv_tu pv_ag bin_lss bin_leq bin_gtr bin_geq bin_eql bin_neq bin8_eql bin8_neq bin_add bin_sub bin_mul get_st get_lf bind_nil bind_cons if_true if_false Got_nor Got_ext Got_ret Kseq Kblk Klp Kend onStr_s onB_b onT_tu onI_I onN_I onK_I eqb_b not_b nthL_0 nthL_1 nthL_2 known_nil known_cons I_known known_b known_s evRVs_nil evRVs_cons evRes_1 evRes_2 evRV_tmp Bool.and_true Bool.true_and Bool.and_self Bool.not_true Bool.not_false decide_true decide_false Int.toNat_natCast true_and and_true big hget_same hget_ne newB_n onP_p onS_sl onS_ns O_fad O_alloc_if O_ixs O_len O_ld O_st O_box boxB_if ldB_if ldB_agif stB_if stB_wif toL_I toL_i toL_b toL_s toL_sl toL_ns toL_ag allC_nil allC_cons isC_i isC_b isC_s isC_sl isC_ns I_isC Llen_nil Llen_cons Lget_0 Lget_1 Lget_2 Lget_3 blkL_size cell_blkL_if getL_blkL_if getL_setL_if setL_sz evRV_cell' rvB_agif rvB_if evPL_cons bldK_if evPL_nil O_build O_part evBuild_ok okL_some onA_ag partV_1 evPart_eq updS_nil updS_cons upd_0 upd_1 upd_2 upd_3 ge_iff_le if_pos and_self Nat.le_refl known_ag known_sl known_ns known_i ov_at spS_eq spSI_eq spSII_eq spI_eq spII_eq spIII_eq spIIII_eq res_v res_sl res_slE Good I_pur pur_b pur_s pur_i pur_ns pur_ag pur_tu purL_nil purL_cons evDr_eq evDs_nil evDs_cons dsR_ok stepD_eq sdB_n sdB_g sdG_tt sdG_ff sdG_tf sdG_ft sdG_none runD_0 rdR_f rdR_t baseOf_pu baseOf_h baseU_nil baseA_nil baseA_0 baseR_nil baseR_0 baseR_00 appAll_nil appAll_0 restr_nil restr_cons setD_some setD_none evC_draw iL_len iL_get iL_allC iL_pur hp0_0 hp0_c rdL_ns rdL_sl List.length_cons List.length_nil O_mks mkB_if O_bsl bslB_if O_app apX_ns apX_sl apN_some apS_some blkL_el Nat.one_mul Nat.mul_one Nat.zero_add n_I onF_fn O_callv app_nil app_cons spLF_eq spL_eq spLL_eq onL_some onLL_ss onLL_ns onLL_sn onLL_nn rdB_blk Int.cast_ofNat_Int tlX_none tlX_some tlOf_cons tlOf_1 tlOf_1t tlM_none tlM_some
noncomputable def q10e : IC := (.seq (.draw [(.mk (some (tp 110)) none true [] false [] [] [(tp 19)] (.mv (.t (tp 19))) false [] [] []), (.mk (some (tp 111)) none true [] false [true] [] [(tp 110)] (.bin .eql 
  (.t (tp 110)) (.c (.n 0))) false [] [] []), (.mk (some (tp 112)) none true [] false [true, true] [] [(tp 111)] (.mv (.t (tp 111))) false [] [] []), (.mk (some (tp 113)) (some 
  (.mk (tp 112) true)) true [] false [true, true, true] [] [(tp 112), (tp 18)] (.mv (.t (tp 18))) false [] [] []), (.mk (some (tp 114)) (some (.mk (tp 112) true)) true [] false 
  [true, true, true, true] [] [(tp 112), (tp 113)] (.len (.t (tp 113))) false [] [] []), (.mk (some (tp 115)) (some (.mk (tp 112) true)) true [] false [false, false, true, true, 
  true] [] [(tp 112), (tp 8)] (.mv (.t (tp 8))) false [] [] []), (.mk (some (tp 116)) (some (.mk (tp 112) true)) true [] false [true, false, false, true, true, true] [] [(tp 112), 
  (tp 115)] (.len (.t (tp 115))) false [] [] []), (.mk (some (tp 117)) (some (.mk (tp 112) true)) true [] false [false, false, false, false, true, true, true] [] [(tp 112), (tp 7)] 
  (.mv (.t (tp 7))) false [] [] []), (.mk (some (tp 118)) (some (.mk (tp 112) true)) true [] false [true, true, true, false, false, true, true, true] [] [(tp 112), (tp 116), (tp 
  117)] (.bin .mul (.t (tp 116)) (.t (tp 117))) false [] [] []), (.mk (some (tp 119)) (some (.mk (tp 112) true)) true [] false [true, true, true, true, true, true, true, true, 
  true] [] [(tp 112), (tp 114), (tp 118)] (.bin .eql (.t (tp 114)) (.t (tp 118))) false [] [] []), (.mk (some (tp 120)) none true [] false [true, true, true, true, true, true, 
  true, true, true, true] [] [(tp 112), (tp 119)] (.pick (.t (tp 112)) (.t (tp 119)) (.c (.b false))) false [] [] []), (.mk (some (tp 121)) none true [] false [true, true, true, 
  true, true, true, true, true, true, true, true] [] [(tp 120)] (.mv (.t (tp 120))) false [] [] []), (.mk (some (tp 122)) (some (.mk (tp 121) true)) true [] false [true, true, 
  true, true, true, true, true, true, true, true, true, true] [] [(tp 121), (tp 8)] (.mv (.t (tp 8))) false [] [] []), (.mk (some (tp 123)) (some (.mk (tp 121) true)) false [] 
  false [true, true, true, true, true, true, true, true, true, true, true, true, true] [] [(tp 121), (tp 122)] (.call 46 (.cons (.t (tp 122)) (.cons (.c (.n 0)) .nil))) false [] [] 
  []), (.mk (some (tp 124)) none true [] false [true, true, true, true, true, true, true, true, true, true, true, true, true, true] [] [(tp 121), (tp 123)] (.pick (.t (tp 121)) (.t 
  (tp 123)) (.c (.b false))) false [] [] []), (.mk (some (tp 125)) none true [] false [true, true, true, true, true, true, true, true, true, true, true, true, true, true, true] [] 
  [(tp 124)] (.mv (.t (tp 124))) false [] [] []), (.mk (some (tp 126)) (some (.mk (tp 125) true)) true [] false [true, true, true, true, true, true, true, true, true, true, true, 
  true, true, true, true, true] [] [(tp 125), (tp 8)] (.mv (.t (tp 8))) false [] [] []), (.mk (some (tp 127)) (some (.mk (tp 125) true)) true [] false [false, true, true, true, 
  true, true, true, true, true, true, true, true, true, true, true, true, true] [] [(tp 125), (tp 8)] (.mv (.t (tp 8))) false [] [] []), (.mk (some (tp 128)) (some (.mk (tp 125) 
  true)) true [] false [false, false, true, true, true, true, true, true, true, true, true, true, true, true, true, true, true, true] [] [(tp 125), (tp 1)] (.mv (.t (tp 1))) false 
  [] [] []), (.mk (some (tp 129)) (some (.mk (tp 125) true)) true [] false [true, false, false, true, true, true, true, true, true, true, true, true, true, true, true, true, true, 
  true, true] [] [(tp 125), (tp 128)] (.conv .i64 (.t (tp 128))) false [] [] []), (.mk (some (tp 130)) (some (.mk (tp 125) true)) true [] false [false, false, false, false, true, 
  true, true, true, true, true, true, true, true, true, true, true, true, true, true, true] [] [(tp 125), (tp 8)] (.mv (.t (tp 8))) false [] [] []), (.mk (some (tp 131)) (some (.mk 
  (tp 125) true)) true [] false [true, false, false, false, false, true, true, true, true, true, true, true, true, true, true, true, true, true, true, true, true] [] [(tp 125), (tp 
  130)] (.len (.t (tp 130))) false [] [] []), (.mk (some (tp 132)) (some (.mk (tp 125) true)) true [] false [true, true, true, true, false, false, true, true, true, true, true, 
  true, true, true, true, true, true, true, true, true, true, true] [] [(tp 125), (tp 129), (tp 131)] (.bin .rem (.t (tp 129)) (.t (tp 131))) false [] [] []), (.mk (some (tp 133)) 
  (some (.mk (tp 125) true)) true [] false [true, true, true, true, true, true, false, true, true, true, true, true, true, true, true, true, true, true, true, true, true, true, 
  true] [] [(tp 125), (tp 127), (tp 132)] (.ixs 1 (.t (tp 127)) (.t (tp 132))) false [] [] []), (.mk (some (tp 134)) (some (.mk (tp 125) true)) false [] false [true, true, true, 
  true, true, true, true, false, true, true, true, true, true, true, true, true, true, true, true, true, true, true, true, true] [] [(tp 125), (tp 133)] (.ld 1 false (.t (tp 133))) 
  false [] [] []), (.mk (some (tp 135)) (some (.mk (tp 125) true)) true [] false [false, false, false, false, false, false, false, false, false, true, true, true, true, true, true, 
  true, true, true, true, true, true, true, true, true, true] [] [(tp 125), (tp 8)] (.mv (.t (tp 8))) false [] [] []), (.mk (some (tp 136)) (some (.mk (tp 125) true)) true [] false 
  [false, false, false, false, false, false, false, false, false, false, true, true, true, true, true, true, true, true, true, true, true, true, true, true, true, true] [] [(tp 
  125), (tp 2)] (.mv (.t (tp 2))) false [] [] []), (.mk (some (tp 137)) (some (.mk (tp 125) true)) true [] false [true, false, false, false, false, false, false, false, false, 
  false, false, true, true, true, true, true, true, true, true, true, true, true, true, true, true, true, true] [] [(tp 125), (tp 136)] (.conv .i64 (.t (tp 136))) false [] [] []), 
  (.mk (some (tp 138)) (some (.mk (tp 125) true)) true [] false [false, false, false, false, false, false, false, false, false, false, false, false, true, true, true, true, true, 
  true, true, true, true, true, true, true, true, true, true, true] [] [(tp 125), (tp 8)] (.mv (.t (tp 8))) false [] [] []), (.mk (some (tp 139)) (some (.mk (tp 125) true)) true [] 
  false [true, false, false, false, false, false, false, false, false, false, false, false, false, true, true, true, true, true, true, true, true, true, true, true, true, true, 
  true, true, true] [] [(tp 125), (tp 138)] (.len (.t (tp 138))) false [] [] []), (.mk (some (tp 140)) (some (.mk (tp 125) true)) true [] false [true, true, true, true, false, 
  false, false, false, false, false, false, false, false, false, true, true, true, true, true, true, true, true, true, true, true, true, true, true, true, true] [] [(tp 125), (tp 
  137), (tp 139)] (.bin .rem (.t (tp 137)) (.t (tp 139))) false [] [] []), (.mk (some (tp 141)) (some (.mk (tp 125) true)) true [] false [true, true, true, true, true, true, false, 
  false, false, false, false, false, false, false, false, true, true, true, true, true, true, true, true, true, true, true, true, true, true, true, true] [] [(tp 125), (tp 135), 
  (tp 140)] (.ixs 1 (.t (tp 135)) (.t (tp 140))) false [] [] []), (.mk (some (tp 142)) (some (.mk (tp 125) true)) false [] false [true, true, true, true, true, true, true, false, 
  false, false, false, false, false, false, false, false, true, true, true, true, true, true, true, true, true, true, true, true, true, true, true, true] [] [(tp 125), (tp 141)] 
  (.ld 1 false (.t (tp 141))) false [] [] []), (.mk (some (tp 143)) (some (.mk (tp 125) true)) true [] false [true, true, true, true, true, true, true, true, true, true, true, 
  true, true, true, true, true, false, true, true, true, true, true, true, true, true, true, true, true, true, true, true, true, true] [] [(tp 125), (tp 134), (tp 142)] (.bin .xor 
  (.t (tp 134)) (.t (tp 142))) false [] [] []), (.mk (some (tp 144)) (some (.mk (tp 125) true)) false [] false [true, true, true, true, true, true, true, true, true, true, true, 
  true, true, true, true, true, true, true, true, true, true, true, true, true, true, true, true, true, true, true, true, true, true, true] [] [(tp 125), (tp 126), (tp 143)] (.call 
  46 (.cons (.t (tp 126)) (.cons (.t (tp 143)) .nil))) false [] [] []), (.mk (some (tp 145)) none true [] false [true, true, true, true, true, true, true, true, true, true, true, 
  true, true, true, true, true, true, true, true, true, true, true, true, true, true, true, true, true, true, true, true, true, true, true, true] [] [(tp 125), (tp 144)] (.pick (.t 
  (tp 125)) (.t (tp 144)) (.c (.b false))) false [] [] []), (.mk (some (tp 146)) none true [] false [true, true, true, true, true, true, true, true, true, true, true, true, true, 
  true, true, true, true, true, true, true, true, true, true, true, true, true, true, true, true, true, true, true, true, true, true, true] [] [(tp 145)] (.mv (.t (tp 145))) false 
  [] [] []), (.mk (some (tp 147)) (some (.mk (tp 146) true)) false [] false [true, true, true, true, true, true, true, true, true, true, true, true, true, true, true, true, true, 
  true, true, true, true, true, true, true, true, true, true, true, true, true, true, true, true, true, true, true, true] [] [(tp 146)] (.call 15 .nil) false [] [] []), (.mk (some 
  (tp 148)) none true [] false [true, true, true, true, true, true, true, true, true, true, true, true, true, true, true, true, true, true, true, true, true, true, true, true, 
  true, true, true, true, true, true, true, true, true, true, true, true, true, true] [] [(tp 146), (tp 147)] (.pick (.t (tp 146)) (.t (tp 147)) (.c (.b false))) false [] [] []), 
  (.mk (some (tp 6)) none true [] false [true, true, true, true, true, true, true, true, true, true, true, true, true, true, true, true, true, true, true, true, true, true, true, 
  true, true, true, true, true, true, true, true, true, true, true, true, true, true, true, true] [] [(tp 148)] (.mv (.t (tp 148))) false [] [] [])]) .ret)
theorem q10e_eq : q10.rst 8 = q10e := by kernel_rfl
theorem res10_eq : res10 = [.tmp (tp 6)] := by kernel_rfl
theorem onK_i {β : Type} (k : IntKind) (z : Int) (f : IntKind → Int → β) (s : β) : onK (.i k z) f s = f k z := rfl
theorem mkI_64 (z : Int) : mkI .i64 z = I z := rfl
theorem w60 : (fun lim h n => EW 60 15 .nil lim h n) = fun lim h n => .ok (.b true) h n := by kernel_rfl
theorem w60' (lim : Nat) (h : Hp) (n : Nat) : EW 60 15 .nil lim h n = .ok (.b true) h n := congrFun (congrFun (congrFun w60 lim) h) n
set_option maxHeartbeats 8000000 in
theorem hm_end (n p len : Nat) (xs : List Int) (pw lw : Nat) (a b : Nat) (ha : a ≤ 255) (hb : b ≤ 255) (hlen : xs.length = len) (h0 : 0 < len) (hl : len ≤ 100) (hlw : lw = len * n) (hn : n ≤ 100) (hp : p < 1000)
    (hc : ∀ z ∈ xs, EW 60 46 (.cons (.sl (tp p) 0 1 len none) (.cons (I z) .nil)) 2000 (Hp.lf.put (some (blkL 3 (iL xs))) (tp p)) 2000 = .ok (.b true) (Hp.lf.put (some (blkL 3 (iL xs))) (tp p)) 2000)
    (h00 : (0 : Int) ∈ xs) (hx : ∀ i j, i < len → j < len → ∃ z ∈ xs, binV .xor (I (At xs i)) (I (At xs j)) = I z) :
    JQ Try.prog drops Try.f10.ntmps (EW 60) (q10.rst 8) 256 (Kend res10 (Good 0 (.v (.b true)))) (mkE (lC n (.sl (tp p) 0 1 len none) (.sl (tp pw) 0 1 lw none) (.i .u8 (a : Int)) (.i .u8 (b : Int)))) (hpC [(p, 3, iL xs)]) 2000 := by
  have hF := EW_ok 60
  have hM := EW_mono 60
  have hwa : IntKind.i64.wrap (a : Int) = a := wrap64 (by omega) (by omega)
  have hwb : IntKind.i64.wrap (b : Int) = b := wrap64 (by omega) (by omega)
  obtain ⟨i, hi⟩ : ∃ i : Nat, i = a % len := ⟨_, rfl⟩
  obtain ⟨j, hj⟩ : ∃ j : Nat, j = b % len := ⟨_, rfl⟩
  have hi' : ((a : Int) % (len : Int)) = (i : Int) := by rw [hi]; rfl
  have hj' : ((b : Int) % (len : Int)) = (j : Int) := by rw [hj]; rfl
  have hil : i < len := by rw [hi]; exact Nat.mod_lt _ h0
  have hjl : j < len := by rw [hj]; exact Nat.mod_lt _ h0
  obtain ⟨z, hz, hxor⟩ := hx i j hil hjl
  have c0 := hc 0 h00
  have cz := hc z hz
  have hlm : (len : Int) * (n : Int) = (lw : Int) := by rw [hlw]; exact (Int.natCast_mul _ _).symm
  have hlw2 : lw ≤ 10000 := by rw [hlw]; exact Nat.mul_le_mul hl hn
  rw [q10e_eq]
  unfold q10e
  simp only [lC, mkE, hpC]
  generalize hF' : EW 60 = F at *
  have w0 : ∀ lim h n, F 15 .nil lim h n = .ok (.b true) h n := by intro lim h n; rw [← hF']; exact w60' lim h n
  (refine JQ.step follows hF hM ?_; simp (config := { maxSteps := 4000000 }) (disch := (omega)) only [go_sem, Nat.reduceLT, Nat.reduceEqDiff, reduceIte, Nat.reduceAdd, Nat.reduceSub, Nat.reduceLeDiff, Int.reduceEq, Int.reduceLT, Int.reduceLE, Int.reduceNeg, Int.reduceAdd, Int.reduceSub, Int.reduceToNat, Int.reduceMul, Nat.reduceMul, onK_i, mkI_64, hwa, hwb, bin_rem, hi', hj', hlm, hxor, c0, cz, w0, hlen])
  refine JQ.weak (e0 := Tr.lf.set (.b true) (tp 6)) (EnvLe.set (by decide) (by simp (config := { maxSteps := 4000000 }) (disch := (omega)) only [go_sem, Nat.reduceLT, Nat.reduceEqDiff, reduceIte, Nat.reduceAdd, Nat.reduceSub, Nat.reduceLeDiff, Int.reduceEq, Int.reduceLT, Int.reduceLE, Int.reduceNeg, Int.reduceAdd, Int.reduceSub, Int.reduceToNat, Int.reduceMul, Nat.reduceMul]) (EnvLe.lf _)) (HpLe.refl _) ?_
  rw [res10_eq]
  (refine JQ.run follows hF hM ?_; simp (config := { maxSteps := 4000000 }) (disch := (omega)) only [go_sem, Nat.reduceLT, Nat.reduceEqDiff, reduceIte, Nat.reduceAdd, Nat.reduceSub, Nat.reduceLeDiff, Int.reduceEq, Int.reduceLT, Int.reduceLE, Int.reduceNeg, Int.reduceAdd, Int.reduceSub, Int.reduceToNat, Int.reduceMul, Nat.reduceMul])
end Go.Proofs.Ytjhgingmbklhaaa.Ev
