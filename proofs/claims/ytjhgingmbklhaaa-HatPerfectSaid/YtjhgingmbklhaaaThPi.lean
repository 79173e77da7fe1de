/- HatPerfect: 1, 3 or 7 helpers. -/
import Derived.Test.YtjhgingmbklhaaaThPg
import Derived.Test.YtjhgingmbklhaaaThPq
namespace Go.Proofs.Ytjhgingmbklhaaa.Ev
set_option linter.unusedVariables false
set_option linter.unusedSimpArgs false
set_option maxRecDepth 100000
open Go Go.Proofs Go.RowKit
attribute [local go_sem] evC_seq evC_reg evC_cond evC_block evC_skip evC_exit evC_ret evR_cons evR_nil evR_gd guardB_tt guardB_ff guardB_tf guardB_ft guardB_none bindR_ok bindR_okn rgRs_ok seqR_nor seqR_ext seqR_ret condR_true condR_false blockR_nor blockR_ext blockR_ret evX_t evX_c evXL_nil evXL_cons O_mv O_bin O_pick O_eqb O_not O_ext O_call O_conv O_slen O_six O_sbi pv_I pv_i pv_b pv_s pv_ns pv_sl pv_p pv_tu pv_ag bin_lss bin_leq bin_gtr bin_geq bin_eql bin_neq bin8_eql bin8_neq bin_add bin_sub bin_mul get_st get_lf bind_nil bind_cons if_true if_false Got_nor Got_ext Got_ret Kseq Kblk Klp Kend onStr_s onB_b onT_tu onI_I onN_I onK_I eqb_b not_b nthL_0 nthL_1 nthL_2 known_nil known_cons I_known known_b known_s evRVs_nil evRVs_cons evRes_1 evRes_2 evRV_tmp Bool.and_true Bool.true_and Bool.and_self Bool.not_true Bool.not_false decide_true decide_false Int.toNat_natCast true_and and_true big hget_same hget_ne newB_n onP_p onS_sl onS_ns O_fad O_alloc_if O_ixs O_len O_ld O_st O_box boxB_if ldB_if ldB_agif stB_if stB_wif toL_I toL_i toL_b toL_s toL_sl toL_ns toL_ag allC_nil allC_cons isC_i isC_b isC_s isC_sl isC_ns I_isC Llen_nil Llen_cons Lget_0 Lget_1 Lget_2 Lget_3 blkL_size cell_blkL_if getL_blkL_if getL_setL_if setL_sz evRV_cell' rvB_agif rvB_if evPL_cons bldK_if evPL_nil O_build O_part evBuild_ok okL_some onA_ag partV_1 evPart_eq updS_nil updS_cons upd_0 upd_1 upd_2 upd_3 ge_iff_le if_pos and_self Nat.le_refl known_ag known_sl known_ns known_i ov_at spS_eq spSI_eq spSII_eq spI_eq spII_eq spIII_eq spIIII_eq res_v res_sl res_slE Good I_pur pur_b pur_s pur_i pur_ns pur_ag pur_tu purL_nil purL_cons evDr_eq evDs_nil evDs_cons dsR_ok stepD_eq sdB_n sdB_g sdG_tt sdG_ff sdG_tf sdG_ft sdG_none runD_0 rdR_f rdR_t baseOf_pu baseOf_h baseU_nil baseA_nil baseA_0 baseR_nil baseR_0 baseR_00 appAll_nil appAll_0 restr_nil restr_cons setD_some setD_none evC_draw iL_len iL_get iL_allC iL_pur hp0_0 hp0_c rdL_ns rdL_sl List.length_cons List.length_nil O_mks mkB_if O_bsl bslB_if O_app apX_ns apX_sl apN_some apS_some blkL_el Nat.one_mul Nat.mul_one Nat.zero_add n_I onF_fn O_callv app_nil app_cons spLF_eq spL_eq spLL_eq onL_some onLL_ss onLL_ns onLL_sn onLL_nn rdB_blk Int.cast_ofNat_Int tlX_none tlX_some tlOf_cons tlOf_1 tlOf_1t tlM_none tlM_some
/-- The same pieces, for numbers of helpers with a perfect code. -/
noncomputable def FD : FF := ovF 36 (spII (fc2 v02)) (ovF 37 (spII (fc2 v02)) (EX 60))
theorem FD_ok : FOK Try.prog FD := ovF_ok ok36c (ovF_ok ok37c (EX_ok 60))
theorem FD_mono : FD.mono := ovF_mono (spII_mo _) (ovF_mono (spII_mo _) (EX_mono 60))
theorem FD36 {z c : Int} (hz : is3 z) (hc : c < 0 ∨ pw z ≤ c) (lim : Nat) (h : Hp) (n : Nat) : FD 36 (.cons (I z) (.cons (I c) .nil)) lim h n = .ok v02 h n := by
  unfold FD
  show (if 36 = 36 then _ else _) = _
  rw [if_pos rfl, spII_eq, fc2_at hz hc]
  rfl
theorem FD37 {z c : Int} (hz : is3 z) (hc : c < 0 ∨ pw z ≤ c) (lim : Nat) (h : Hp) (n : Nat) : FD 37 (.cons (I z) (.cons (I c) .nil)) lim h n = .ok v02 h n := by
  unfold FD
  show (if 37 = 36 then _ else if 37 = 37 then _ else _) = _
  rw [if_neg (by decide), if_pos rfl, spII_eq, fc2_at hz hc]
  rfl
noncomputable def p4 : IC := (.reg (.cons (some (tp 32)) none (.mv (.t (tp 0))) (.cons (some (tp 33)) none (.mv (.t (tp 1))) (.cons (some (tp 34)) none (.call 36 (.cons (.t (tp 32)) (.cons (.t (tp 33)) .nil))) (.cons (some (tp 31)) none (.mv (.t (tp 34))) (.cons (some (tp 35)) none (.ext 0 (.t (tp 31))) (.cons (some (tp 36)) none (.ext 1 (.t (tp 31))) (.cons (some (tp 9)) none (.mv (.t (tp 35))) (.cons (some (tp 10)) none (.mv (.t (tp 36))) .nil)))))))))
noncomputable def p5 : IC := (.reg (.cons (some (tp 38)) none (.mv (.t (tp 0))) (.cons (some (tp 39)) none (.mv (.t (tp 1))) (.cons (some (tp 40)) none (.call 37 (.cons (.t (tp 38)) (.cons (.t (tp 39)) .nil))) (.cons (some (tp 37)) none (.mv (.t (tp 40))) (.cons (some (tp 41)) none (.ext 0 (.t (tp 37))) (.cons (some (tp 42)) none (.ext 1 (.t (tp 37))) (.cons (some (tp 11)) none (.mv (.t (tp 41))) (.cons (some (tp 12)) none (.mv (.t (tp 42))) .nil)))))))))
theorem q5_p : q5.rst 3 = .seq p4 (.seq p5 (q5.rst 5)) := by kernel_rfl
noncomputable def l1 (n : Int) (s s' u : V) : List (Nat × V) := [(0, I n), (1, u), (5, s), (6, .n 0), (7, s'), (8, .n 0)]
noncomputable def l2 (n : Int) (s s' : V) : List (Nat × V) := [(0, I n), (5, s), (6, .n 0), (7, s'), (8, .n 0), (9, I 0), (10, I 2), (11, I 0), (12, I 2)]
set_option maxHeartbeats 4000000 in
theorem cout {n c : Int} (hz : is3 n) (hc : c < 0 ∨ pw n ≤ c) (s s' : V) (H : Hp) {K : Rs → Prop} (j : JQ Try.prog drops Try.f5.ntmps FD (q5.rst 5) 256 K (mkE (l2 n s s')) H 400) : JQ Try.prog drops Try.f5.ntmps FD (q5.rst 3) 256 K (mkE (l1 n s s' (I c))) H 400 := by
  have hF := FD_ok
  have hM := FD_mono
  have h36 := FD36 hz hc
  have h37 := FD37 hz hc
  rw [q5_p]
  generalize hR : q5.rst 5 = R at *
  generalize hFF : FD = F at *
  unfold p4 p5
  simp only [l1, mkE]
  (refine JQ.step follows hF hM ?_; simp (config := { maxSteps := 4000000 }) (disch := (omega)) only [go_sem, Nat.reduceLT, Nat.reduceEqDiff, reduceIte, Nat.reduceAdd, Nat.reduceSub, Nat.reduceLeDiff, Int.reduceEq, Int.reduceLT, Int.reduceLE, Int.reduceNeg, Int.reduceAdd, Int.reduceSub, Int.reduceToNat, Int.reduceMul, Nat.reduceMul, h36, v02])
  (refine JQ.step follows hF hM ?_; simp (config := { maxSteps := 4000000 }) (disch := (omega)) only [go_sem, Nat.reduceLT, Nat.reduceEqDiff, reduceIte, Nat.reduceAdd, Nat.reduceSub, Nat.reduceLeDiff, Int.reduceEq, Int.reduceLT, Int.reduceLE, Int.reduceNeg, Int.reduceAdd, Int.reduceSub, Int.reduceToNat, Int.reduceMul, Nat.reduceMul, h37, v02])
  refine JQ.weak (e0 := mkE (l2 n s s')) ?_ (HpLe.refl _) j
  simp only [l2, mkE]
  exact EnvLe.set (by decide) (by simp (config := { maxSteps := 4000000 }) (disch := (omega)) only [go_sem, Nat.reduceLT, Nat.reduceEqDiff, reduceIte, Nat.reduceAdd, Nat.reduceSub, Nat.reduceLeDiff, Int.reduceEq, Int.reduceLT, Int.reduceLE, Int.reduceNeg, Int.reduceAdd, Int.reduceSub, Int.reduceToNat, Int.reduceMul, Nat.reduceMul]) (EnvLe.set (by decide) (by simp (config := { maxSteps := 4000000 }) (disch := (omega)) only [go_sem, Nat.reduceLT, Nat.reduceEqDiff, reduceIte, Nat.reduceAdd, Nat.reduceSub, Nat.reduceLeDiff, Int.reduceEq, Int.reduceLT, Int.reduceLE, Int.reduceNeg, Int.reduceAdd, Int.reduceSub, Int.reduceToNat, Int.reduceMul, Nat.reduceMul]) (EnvLe.set (by decide) (by simp (config := { maxSteps := 4000000 }) (disch := (omega)) only [go_sem, Nat.reduceLT, Nat.reduceEqDiff, reduceIte, Nat.reduceAdd, Nat.reduceSub, Nat.reduceLeDiff, Int.reduceEq, Int.reduceLT, Int.reduceLE, Int.reduceNeg, Int.reduceAdd, Int.reduceSub, Int.reduceToNat, Int.reduceMul, Nat.reduceMul]) (EnvLe.set (by decide) (by simp (config := { maxSteps := 4000000 }) (disch := (omega)) only [go_sem, Nat.reduceLT, Nat.reduceEqDiff, reduceIte, Nat.reduceAdd, Nat.reduceSub, Nat.reduceLeDiff, Int.reduceEq, Int.reduceLT, Int.reduceLE, Int.reduceNeg, Int.reduceAdd, Int.reduceSub, Int.reduceToNat, Int.reduceMul, Nat.reduceMul]) (EnvLe.set (by decide) (by simp (config := { maxSteps := 4000000 }) (disch := (omega)) only [go_sem, Nat.reduceLT, Nat.reduceEqDiff, reduceIte, Nat.reduceAdd, Nat.reduceSub, Nat.reduceLeDiff, Int.reduceEq, Int.reduceLT, Int.reduceLE, Int.reduceNeg, Int.reduceAdd, Int.reduceSub, Int.reduceToNat, Int.reduceMul, Nat.reduceMul]) (EnvLe.set (by decide) (by simp (config := { maxSteps := 4000000 }) (disch := (omega)) only [go_sem, Nat.reduceLT, Nat.reduceEqDiff, reduceIte, Nat.reduceAdd, Nat.reduceSub, Nat.reduceLeDiff, Int.reduceEq, Int.reduceLT, Int.reduceLE, Int.reduceNeg, Int.reduceAdd, Int.reduceSub, Int.reduceToNat, Int.reduceMul, Nat.reduceMul]) (EnvLe.set (by decide) (by simp (config := { maxSteps := 4000000 }) (disch := (omega)) only [go_sem, Nat.reduceLT, Nat.reduceEqDiff, reduceIte, Nat.reduceAdd, Nat.reduceSub, Nat.reduceLeDiff, Int.reduceEq, Int.reduceLT, Int.reduceLE, Int.reduceNeg, Int.reduceAdd, Int.reduceSub, Int.reduceToNat, Int.reduceMul, Nat.reduceMul]) (EnvLe.set (by decide) (by simp (config := { maxSteps := 4000000 }) (disch := (omega)) only [go_sem, Nat.reduceLT, Nat.reduceEqDiff, reduceIte, Nat.reduceAdd, Nat.reduceSub, Nat.reduceLeDiff, Int.reduceEq, Int.reduceLT, Int.reduceLE, Int.reduceNeg, Int.reduceAdd, Int.reduceSub, Int.reduceToNat, Int.reduceMul, Nat.reduceMul]) (EnvLe.set (by decide) (by simp (config := { maxSteps := 4000000 }) (disch := (omega)) only [go_sem, Nat.reduceLT, Nat.reduceEqDiff, reduceIte, Nat.reduceAdd, Nat.reduceSub, Nat.reduceLeDiff, Int.reduceEq, Int.reduceLT, Int.reduceLE, Int.reduceNeg, Int.reduceAdd, Int.reduceSub, Int.reduceToNat, Int.reduceMul, Nat.reduceMul]) (EnvLe.lf _)))))))))
noncomputable def cs1 : List Int := [0]
noncomputable def sa1 : V := .sl (tp 256) 0 1 1 none
noncomputable def sb1 : V := .sl (tp 258) 0 1 1 none
noncomputable def bl1 : List (Nat × TypeId × L) := [(256, 3, iL cs1), (258, 3, iL cs1)]
theorem hp1 : (fun u => obsC 400 ((l1 1 sa1 sb1 u).map Prod.fst) bl1 (runP FD 256 400 (q5.pcs 3) (.nor (bind (.cons (I 1) (.cons u .nil)) 0 .lf) .lf 256))) = fun u => (true, (l1 1 sa1 sb1 u).map Prod.snd, true) := by kernel_rfl
noncomputable def tin1 (c : Nat) : Bool := finR res5 ((kC (q5.rst 3) nK).f FD 256 (mkE (l1 1 sa1 sb1 (I (c : Int)))) (hpC bl1) 400)
theorem to1 : finR res5 ((kC (q5.rst 5) nK).f FD 256 (mkE (l2 1 sa1 sb1)) (hpC bl1) 400) = true := by kernel_rfl
noncomputable def cs3 : List Int := [0, 7]
noncomputable def sa3 : V := .sl (tp 258) 0 1 2 none
noncomputable def sb3 : V := .sl (tp 262) 0 1 2 none
noncomputable def bl3 : List (Nat × TypeId × L) := [(258, 3, iL cs3), (262, 3, iL cs3)]
theorem hp3 : (fun u => obsC 400 ((l1 3 sa3 sb3 u).map Prod.fst) bl3 (runP FD 256 400 (q5.pcs 3) (.nor (bind (.cons (I 3) (.cons u .nil)) 0 .lf) .lf 256))) = fun u => (true, (l1 3 sa3 sb3 u).map Prod.snd, true) := by kernel_rfl
noncomputable def tin3 (c : Nat) : Bool := finR res5 ((kC (q5.rst 3) nK).f FD 256 (mkE (l1 3 sa3 sb3 (I (c : Int)))) (hpC bl3) 400)
theorem to3 : finR res5 ((kC (q5.rst 5) nK).f FD 256 (mkE (l2 3 sa3 sb3)) (hpC bl3) 400) = true := by kernel_rfl
noncomputable def cs7 : List Int := [0, 7, 25, 30, 42, 45, 51, 52, 75, 76, 82, 85, 97, 102, 120, 127]
noncomputable def sa7 : V := .sl (tp 286) 0 1 16 none
noncomputable def sb7 : V := .sl (tp 318) 0 1 16 none
noncomputable def bl7 : List (Nat × TypeId × L) := [(286, 3, iL cs7), (318, 3, iL cs7)]
theorem hp7 : (fun u => obsC 400 ((l1 7 sa7 sb7 u).map Prod.fst) bl7 (runP FD 256 400 (q5.pcs 3) (.nor (bind (.cons (I 7) (.cons u .nil)) 0 .lf) .lf 256))) = fun u => (true, (l1 7 sa7 sb7 u).map Prod.snd, true) := by kernel_rfl
noncomputable def tin7 (c : Nat) : Bool := finR res5 ((kC (q5.rst 3) nK).f FD 256 (mkE (l1 7 sa7 sb7 (I (c : Int)))) (hpC bl7) 400)
theorem to7 : finR res5 ((kC (q5.rst 5) nK).f FD 256 (mkE (l2 7 sa7 sb7)) (hpC bl7) 400) = true := by kernel_rfl
theorem ti1 : ((List.range 2).all fun c => tin1 c) = true := by kernel_rfl
theorem ti3 : ((List.range 8).all fun c => tin3 c) = true := by kernel_rfl
end Go.Proofs.Ytjhgingmbklhaaa.Ev
