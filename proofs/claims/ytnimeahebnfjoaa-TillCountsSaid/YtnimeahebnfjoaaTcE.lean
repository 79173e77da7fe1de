/- TillCounts, run by itself. -/
import Derived.Test.YtnimeahebnfjoaaTcD
import Derived.Test.YtnimeahebnfjoaaTkW
import Derived.Test.YtnimeahebnfjoaaEvLw
namespace Go.Proofs.Ytnimeahebnfjoaa.Ev
set_option linter.unusedVariables false
set_option linter.unusedSimpArgs false
set_option maxRecDepth 100000
open Go Go.Proofs Go.RowKit
attribute [local go_sem] evC_seq evC_reg evC_cond evC_block evC_skip evC_exit evC_ret evR_cons evR_nil evR_gd guardB_tt guardB_ff guardB_tf guardB_ft guardB_none bindR_ok bindR_okn rgRs_ok seqR_nor seqR_ext seqR_ret condR_true condR_false blockR_nor blockR_ext blockR_ret evX_t evX_c evXL_nil evXL_cons O_mv O_bin O_pick O_eqb O_not O_ext O_call O_conv O_slen O_six O_sbi pv_I pv_i pv_b pv_s pv_ns pv_sl pv_p pv_tu pv_ag bin_lss bin_leq bin_gtr bin_geq bin_eql bin_neq bin8_eql bin8_neq bin_add bin_sub bin_mul get_st get_lf bind_nil bind_cons if_true if_false Got_nor Got_ext Got_ret Kseq Kblk Klp Kend onStr_s onB_b onT_tu onI_I onN_I onK_I eqb_b not_b nthL_0 nthL_1 nthL_2 known_nil known_cons I_known known_b known_s evRVs_nil evRVs_cons evRes_1 evRes_2 evRV_tmp Bool.and_true Bool.true_and Bool.and_self Bool.not_true Bool.not_false decide_true decide_false Int.toNat_natCast true_and and_true big hget_same hget_ne newB_n onP_p onS_sl onS_ns O_fad O_alloc_if O_ixs O_len O_ld O_st O_box boxB_if ldB_if ldB_agif stB_if toL_I toL_i toL_b toL_s toL_sl toL_ns toL_ag allC_nil allC_cons isC_i isC_b isC_s isC_sl isC_ns I_isC Llen_nil Llen_cons Lget_0 Lget_1 Lget_2 Lget_3 blkL_size cell_blkL_if getL_blkL_if getL_setL_if setL_sz evRV_cell' rvB_agif rvB_if evPL_cons bldK_if evPL_nil O_build O_part evBuild_ok okL_some onA_ag partV_1 evPart_eq updS_nil updS_cons upd_0 upd_1 upd_2 upd_3 ge_iff_le if_pos and_self Nat.le_refl known_ag known_sl known_ns known_i ov_at spS_eq spSI_eq spSII_eq spI_eq spII_eq spIII_eq spIIII_eq res_v res_sl res_slE Good I_pur pur_b pur_s pur_i pur_ns pur_ag pur_tu purL_nil purL_cons evDr_eq evDs_nil evDs_cons dsR_ok stepD_eq sdB_n sdB_g sdG_tt sdG_ff sdG_tf sdG_ft sdG_none runD_0 rdR_f rdR_t baseOf_pu baseOf_h baseU_nil baseA_nil baseA_0 baseR_nil baseR_0 baseR_00 appAll_nil appAll_0 restr_nil restr_cons setD_some setD_none evC_draw iL_len iL_get iL_allC iL_pur hp0_0 hp0_c rdL_ns rdL_sl List.length_cons List.length_nil O_mks mkB_if O_bsl bslB_if O_app apX_ns apX_sl apN_some apS_some blkL_el Nat.one_mul Nat.mul_one Nat.zero_add n_I onF_fn O_callv app_nil app_cons spLF_eq spL_eq spLL_eq onL_some onLL_ss onLL_ns onLL_sn onLL_nn rdB_blk Int.cast_ofNat_Int
noncomputable def s13 (args : L) (_ : Nat) (h : Hp) (n : Nat) : Res := match args with | .nil => .ok (.b true) h n | _ => .no
theorem s13_eq (lim : Nat) (h : Hp) (n : Nat) : s13 .nil lim h n = .ok (.b true) h n := rfl
theorem s13_mo : SMo s13 := fun args lim h n => by unfold s13; split <;> first | exact Nat.le_refl n | trivial
theorem ok13 : SOK Try.prog 13 s13 := fun args lim h n v h' n' hr => by
  unfold s13 at hr
  split at hr
  · cases hr
    obtain ⟨h1, n1, hn, hc⟩ := Tw.works_ok
    exact callsAny rfl hc hn rfl rfl lim h n
  · cases hr
theorem eqS_self : ∀ l : List Nat, eqS l l = true := fun l => by rw [eqS_eq]; simp
theorem strV_self (l : List Nat) : strV .eql l l = .b true := by
  show fB (eqS l l) = _
  rw [eqS_self]; rfl
noncomputable def FC : FF := ov 13 s13 (ov 23 (spIII f23) (ov 24 (spIII f23) (ov 25 (spIII f25) (ov 26 (spIII f25) (ov 27 (spIIII f27) (ov 28 (spIIII f27) F0))))))
theorem FC_ok : FOK Try.prog FC := ov_ok ok13 (ov_ok ok23 (ov_ok ok24 (ov_ok ok25 (ov_ok ok26 (ov_ok ok27 (ov_ok ok28 (F0_ok _)))))))
theorem FC_mono : FC.mono := ov_mono s13_mo (ov_mono (spIII_mo _) (ov_mono (spIII_mo _) (ov_mono (spIII_mo _) (ov_mono (spIII_mo _) (ov_mono (spIIII_mo _) (ov_mono (spIIII_mo _) F0_mono))))))
/-- What the law's end still needs. -/
noncomputable def envC (v x : Int) (s : List Nat) (y : Int) (r : List Nat) (z : Int) : Tr := (((((((((((Tr.lf.set (I v) (tp 9)).set (I x) (tp 10)).set (I v) (tp 11)).set (I x) (tp 12)).set (.s s) (tp 13)).set (I y) (tp 14)).set (.s s) (tp 15)).set (I y) (tp 16)).set (.s r) (tp 17)).set (I z) (tp 18)).set (.s r) (tp 19)).set (I z) (tp 20)
set_option maxHeartbeats 8000000 in
theorem counts_run (c n b x : Int) : JQ Try.prog drops Try.f4.ntmps FC q4 256 (Kend res4 (Good 0 (.v (.b true)))) (bind (.cons (I c) (.cons (I n) (.cons (I b) (.cons (I x) .nil)))) 0 .lf) .lf 256 := by
  have hF := FC_ok
  have hM := FC_mono
  unfold q4
  (refine JQ.step follows hF hM ?_; simp (config := { maxSteps := 4000000 }) (disch := (omega)) only [go_sem, Nat.reduceLT, Nat.reduceEqDiff, reduceIte, Nat.reduceAdd, Nat.reduceSub, Nat.reduceLeDiff, Int.reduceEq, Int.reduceLT, Int.reduceLE, Int.reduceNeg, Int.reduceAdd, Int.reduceSub, Int.reduceToNat, Int.reduceMul, Nat.reduceMul])
  (refine JQ.step follows hF hM ?_; simp (config := { maxSteps := 4000000 }) (disch := (omega)) only [go_sem, Nat.reduceLT, Nat.reduceEqDiff, reduceIte, Nat.reduceAdd, Nat.reduceSub, Nat.reduceLeDiff, Int.reduceEq, Int.reduceLT, Int.reduceLE, Int.reduceNeg, Int.reduceAdd, Int.reduceSub, Int.reduceToNat, Int.reduceMul, Nat.reduceMul, FC, f23, tuI])
  (refine JQ.step follows hF hM ?_; simp (config := { maxSteps := 4000000 }) (disch := (omega)) only [go_sem, Nat.reduceLT, Nat.reduceEqDiff, reduceIte, Nat.reduceAdd, Nat.reduceSub, Nat.reduceLeDiff, Int.reduceEq, Int.reduceLT, Int.reduceLE, Int.reduceNeg, Int.reduceAdd, Int.reduceSub, Int.reduceToNat, Int.reduceMul, Nat.reduceMul, FC, f23, tuI])
  (refine JQ.step follows hF hM ?_; simp (config := { maxSteps := 4000000 }) (disch := (omega)) only [go_sem, Nat.reduceLT, Nat.reduceEqDiff, reduceIte, Nat.reduceAdd, Nat.reduceSub, Nat.reduceLeDiff, Int.reduceEq, Int.reduceLT, Int.reduceLE, Int.reduceNeg, Int.reduceAdd, Int.reduceSub, Int.reduceToNat, Int.reduceMul, Nat.reduceMul, FC, f25, tuS])
  (refine JQ.step follows hF hM ?_; simp (config := { maxSteps := 4000000 }) (disch := (omega)) only [go_sem, Nat.reduceLT, Nat.reduceEqDiff, reduceIte, Nat.reduceAdd, Nat.reduceSub, Nat.reduceLeDiff, Int.reduceEq, Int.reduceLT, Int.reduceLE, Int.reduceNeg, Int.reduceAdd, Int.reduceSub, Int.reduceToNat, Int.reduceMul, Nat.reduceMul, FC, f25, tuS])
  (refine JQ.step follows hF hM ?_; simp (config := { maxSteps := 4000000 }) (disch := (omega)) only [go_sem, Nat.reduceLT, Nat.reduceEqDiff, reduceIte, Nat.reduceAdd, Nat.reduceSub, Nat.reduceLeDiff, Int.reduceEq, Int.reduceLT, Int.reduceLE, Int.reduceNeg, Int.reduceAdd, Int.reduceSub, Int.reduceToNat, Int.reduceMul, Nat.reduceMul, FC, f27, tuS])
  (refine JQ.step follows hF hM ?_; simp (config := { maxSteps := 4000000 }) (disch := (omega)) only [go_sem, Nat.reduceLT, Nat.reduceEqDiff, reduceIte, Nat.reduceAdd, Nat.reduceSub, Nat.reduceLeDiff, Int.reduceEq, Int.reduceLT, Int.reduceLE, Int.reduceNeg, Int.reduceAdd, Int.reduceSub, Int.reduceToNat, Int.reduceMul, Nat.reduceMul, FC, f27, tuS])
  refine JQ.weak (e0 := envC (coV c n b) (rsE c n b) (fiS c n b) (fiE c n b) (atS c n b x) (atE c n b x)) (by unfold envC; ((repeat' (first | exact EnvLe.lf _ | refine EnvLe.set (by decide) ?_ ?_)) <;> first | exact EnvLe.lf _ | (simp (config := { maxSteps := 4000000 }) (disch := (omega)) only [go_sem, Nat.reduceLT, Nat.reduceEqDiff, reduceIte, Nat.reduceAdd, Nat.reduceSub, Nat.reduceLeDiff, Int.reduceEq, Int.reduceLT, Int.reduceLE, Int.reduceNeg, Int.reduceAdd, Int.reduceSub, Int.reduceToNat, Int.reduceMul, Nat.reduceMul, Int.natCast_add, Int.cast_ofNat_Int]; done) | (simp (config := { maxSteps := 4000000 }) (disch := (omega)) only [go_sem, Nat.reduceLT, Nat.reduceEqDiff, reduceIte, Nat.reduceAdd, Nat.reduceSub, Nat.reduceLeDiff, Int.reduceEq, Int.reduceLT, Int.reduceLE, Int.reduceNeg, Int.reduceAdd, Int.reduceSub, Int.reduceToNat, Int.reduceMul, Nat.reduceMul, Int.natCast_add, Int.cast_ofNat_Int] <;> first | rfl | (congr 1; omega)))) (HpLe.refl _) ?_
  unfold envC
  (refine JQ.run follows hF hM ?_; simp (config := { maxSteps := 4000000 }) (disch := (omega)) only [go_sem, Nat.reduceLT, Nat.reduceEqDiff, reduceIte, Nat.reduceAdd, Nat.reduceSub, Nat.reduceLeDiff, Int.reduceEq, Int.reduceLT, Int.reduceLE, Int.reduceNeg, Int.reduceAdd, Int.reduceSub, Int.reduceToNat, Int.reduceMul, Nat.reduceMul, FC, s13_eq, strV_self, res4])
theorem counts_walk (c n b x : Int) (w : World) : Calls Try.prog 4 #[.int .i64 c, .int .i64 n, .int .i64 b, .int .i64 x] w fun e w' => e = .returned (.bool true) ∧ Below w.heap.size w w' :=
  lawC Try.func4 n4 b4 k4 r4 (args := .cons (I c) (.cons (I n) (.cons (I b) (.cons (I x) .nil)))) (by simp [L.length]) (by simp [L.pur, V.pur, I_pur]) (counts_run c n b x) (vs := [.int .i64 c, .int .i64 n, .int .i64 b, .int .i64 x]) (fun g => ⟨_, _, rfl, I_rel, _, _, rfl, I_rel, _, _, rfl, I_rel, _, _, rfl, I_rel, rfl⟩) w
end Go.Proofs.Ytnimeahebnfjoaa.Ev
