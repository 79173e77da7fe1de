/- TopFano: what is left for each two helpers. -/
import Derived.Test.YtllllpiphcbaeaaGreatDoorTvA
import Derived.Test.YtllllpiphcbaeaaGreatDoorEvPh
namespace Go.Proofs.YtllllpiphcbaeaaGreatDoor.Ev
set_option linter.unusedVariables false
set_option linter.unusedSimpArgs false
set_option maxRecDepth 100000
open Go Go.Proofs Go.RowKit
attribute [local go_sem] evC_seq evC_reg evC_cond evC_block evC_skip evC_exit evC_ret evR_cons evR_nil evR_gd guardB_tt guardB_ff guardB_tf guardB_ft guardB_none bindR_ok bindR_okn rgRs_ok seqR_nor seqR_ext seqR_ret condR_true condR_false blockR_nor blockR_ext blockR_ret evX_t evX_c evXL_nil evXL_cons O_mv O_bin O_pick O_eqb O_not O_ext O_call O_conv O_slen O_six O_sbi pv_I pv_i pv_b pv_s pv_ns pv_sl pv_p pv_tu pv_ag bin_lss bin_leq bin_gtr bin_geq bin_eql bin_neq bin8_eql bin8_neq bin_add bin_sub bin_mul get_st get_lf bind_nil bind_cons if_true if_false Got_nor Got_ext Got_ret Kseq Kblk Klp Kend onStr_s onB_b onT_tu onI_I onN_I onK_I eqb_b not_b nthL_0 nthL_1 nthL_2 known_nil known_cons I_known known_b known_s evRVs_nil evRVs_cons evRes_1 evRes_2 evRV_tmp Bool.and_true Bool.true_and Bool.and_self Bool.not_true Bool.not_false decide_true decide_false Int.toNat_natCast true_and and_true big hget_same hget_ne newB_n onP_p onS_sl onS_ns O_fad O_alloc_if O_ixs O_len O_ld O_st O_box boxB_if ldB_if ldB_agif stB_if stB_wif toL_I toL_i toL_b toL_s toL_sl toL_ns toL_ag allC_nil allC_cons isC_i isC_b isC_s isC_sl isC_ns I_isC Llen_nil Llen_cons Lget_0 Lget_1 Lget_2 Lget_3 blkL_size cell_blkL_if getL_blkL_if getL_setL_if setL_sz evRV_cell' rvB_agif rvB_if evPL_cons bldK_if evPL_nil O_build O_part evBuild_ok okL_some onA_ag partV_1 evPart_eq updS_nil updS_cons upd_0 upd_1 upd_2 upd_3 ge_iff_le if_pos and_self Nat.le_refl known_ag known_sl known_ns known_i ov_at spS_eq spSI_eq spSII_eq spI_eq spII_eq spIII_eq spIIII_eq res_v res_sl res_slE Good I_pur pur_b pur_s pur_i pur_ns pur_ag pur_tu purL_nil purL_cons evDr_eq evDs_nil evDs_cons dsR_ok stepD_eq sdB_n sdB_g sdG_tt sdG_ff sdG_tf sdG_ft sdG_none runD_0 rdR_f rdR_t baseOf_pu baseOf_h baseU_nil baseA_nil baseA_0 baseR_nil baseR_0 baseR_00 appAll_nil appAll_0 restr_nil restr_cons setD_some setD_none evC_draw iL_len iL_get iL_allC iL_pur hp0_0 hp0_c rdL_ns rdL_sl List.length_cons List.length_nil O_mks mkB_if O_bsl bslB_if O_app apX_ns apX_sl apN_some apS_some blkL_el Nat.one_mul Nat.mul_one Nat.zero_add n_I onF_fn O_callv app_nil app_cons spLF_eq spL_eq spLL_eq onL_some onLL_ss onLL_ns onLL_sn onLL_nn rdB_blk Int.cast_ofNat_Int tlX_none tlX_some tlOf_cons tlOf_1 tlOf_1t tlM_none tlM_some
noncomputable def tt : List Int := [0, 3, 2, 5, 4, 7, 6, 3, 0, 1, 6, 7, 4, 5, 2, 1, 0, 7, 6, 5, 4, 5, 6, 7, 0, 1, 2, 3, 4, 7, 6, 1, 0, 3, 2, 7, 4, 5, 2, 3, 0, 1, 6, 5, 4, 3, 2, 1, 0]
noncomputable def q3g : IC := (.reg (.cons (some (tp 146)) none (.mv (.t (tp 0))) (.cons (some (tp 147)) none (.conv .i64 (.t (tp 146))) (.cons (some (tp 148)) none (.bin .rem (.t (tp 147)) (.c (.n 7))) (.cons (some (tp 149)) none (.mv (.t (tp 1))) (.cons (some (tp 150)) none (.conv .i64 (.t (tp 149))) (.cons (some (tp 151)) none (.bin .rem (.t (tp 150)) (.c (.n 7))) (.cons (some (tp 22)) none (.mv (.t (tp 148))) (.cons (some (tp 23)) none (.mv (.t (tp 151))) .nil)))))))))
theorem q3_g : q3.rst 6 = .seq q3g (q3.rst 7) := by kernel_rfl
noncomputable def l1 (u v : V) : List (Nat × V) := [(0, u), (1, v), (7, .p (tp 287) 0), (8, .n 7)]
noncomputable def l2 (i j : Nat) : List (Nat × V) := [(7, .p (tp 287) 0), (8, .n 7), (22, I (i : Int)), (23, I (j : Int))]
noncomputable def bl : List (Nat × TypeId × L) := [(287, 27, iL tt)]
noncomputable def tb (el : Nat) : List (Nat × Blk) := [(1, ⟨el, 64, 64, kL .u8 zs64, .lf⟩)]
theorem hs1 : (fun el u v => obsD 20000 ((l1 u v).map Prod.fst) [1] bl (s1 el u v)) = fun el u v => isD (l1 u v) (tb el) := by kernel_rfl
noncomputable def te (el i j : Nat) : Bool := finR res3 ((kC (q3.rst 7) nK).f (EW 60) (gK + 1) (mkE (l2 i j)) (hpX (hpC bl) (tb el)) 20000)
theorem hte : (fun el => (List.range 7).all fun i => (List.range 7).all fun j => te el i j) = fun _ => true := by kernel_rfl
set_option maxHeartbeats 4000000 in
theorem fano_run (el : Nat) (a b : Nat) (ha : a ≤ 255) (hb : b ≤ 255) : JQ Tryz.prog drops Tryz.f3.ntmps (EW 60) q3 (gK + 1) (Kend res3 fun v _ _ => v = .b true) (bind (.cons (.i .u8 (a : Int)) (.cons (.i .u8 (b : Int)) .nil)) 0 .lf) (tbH el) (gK + 1) := by
  have hF := EW_ok 60
  have hM := EW_mono 60
  refine JQ.stageD follows hF hM (m := 20000) (q3.pcs 6) (l1 (.i .u8 (a : Int)) (.i .u8 (b : Int))) (tb el) bl q3_s (congrFun (congrFun (congrFun hs1 el) _) _) rfl (by unfold big; omega) ?_
  have hwa : IntKind.i64.wrap (a : Int) = a := wrap64 (by omega) (by omega)
  have hwb : IntKind.i64.wrap (b : Int) = b := wrap64 (by omega) (by omega)
  have hi : ((a : Int) % 7) = ((a % 7 : Nat) : Int) := rfl
  have hj : ((b : Int) % 7) = ((b % 7 : Nat) : Int) := rfl
  have ht : te el (a % 7) (b % 7) = true := List.all_eq_true.1 (List.all_eq_true.1 (congrFun hte el) _ (List.mem_range.2 (Nat.mod_lt _ (by omega)))) _ (List.mem_range.2 (Nat.mod_lt _ (by omega)))
  have hi7 : a % 7 < 7 := Nat.mod_lt _ (by omega)
  have hj7 : b % 7 < 7 := Nat.mod_lt _ (by omega)
  generalize hii : a % 7 = i at *
  generalize hjj : b % 7 = j at *
  rw [q3_g]
  generalize hH : hpX (hpC bl) (tb el) = H
  unfold q3g
  simp only [l1, mkE]
  generalize hR : q3.rst 7 = R
  (refine JQ.step follows hF hM ?_; simp (config := { maxSteps := 4000000 }) (disch := (omega)) only [go_sem, Nat.reduceLT, Nat.reduceEqDiff, reduceIte, Nat.reduceAdd, Nat.reduceSub, Nat.reduceLeDiff, Int.reduceEq, Int.reduceLT, Int.reduceLE, Int.reduceNeg, Int.reduceAdd, Int.reduceSub, Int.reduceToNat, Int.reduceMul, Nat.reduceMul, onK_i, mkI_64, hwa, hwb, bin_rem, hi, hj])
  refine JQ.weak (e0 := mkE (l2 i j)) ?_ (HpLe.refl _) ?_
  · simp only [l2, mkE]
    exact EnvLe.set (by decide) (by simp (config := { maxSteps := 4000000 }) (disch := (omega)) only [go_sem, Nat.reduceLT, Nat.reduceEqDiff, reduceIte, Nat.reduceAdd, Nat.reduceSub, Nat.reduceLeDiff, Int.reduceEq, Int.reduceLT, Int.reduceLE, Int.reduceNeg, Int.reduceAdd, Int.reduceSub, Int.reduceToNat, Int.reduceMul, Nat.reduceMul]) (EnvLe.set (by decide) (by simp (config := { maxSteps := 4000000 }) (disch := (omega)) only [go_sem, Nat.reduceLT, Nat.reduceEqDiff, reduceIte, Nat.reduceAdd, Nat.reduceSub, Nat.reduceLeDiff, Int.reduceEq, Int.reduceLT, Int.reduceLE, Int.reduceNeg, Int.reduceAdd, Int.reduceSub, Int.reduceToNat, Int.reduceMul, Nat.reduceMul]) (EnvLe.set (by decide) (by simp (config := { maxSteps := 4000000 }) (disch := (omega)) only [go_sem, Nat.reduceLT, Nat.reduceEqDiff, reduceIte, Nat.reduceAdd, Nat.reduceSub, Nat.reduceLeDiff, Int.reduceEq, Int.reduceLT, Int.reduceLE, Int.reduceNeg, Int.reduceAdd, Int.reduceSub, Int.reduceToNat, Int.reduceMul, Nat.reduceMul]) (EnvLe.set (by decide) (by simp (config := { maxSteps := 4000000 }) (disch := (omega)) only [go_sem, Nat.reduceLT, Nat.reduceEqDiff, reduceIte, Nat.reduceAdd, Nat.reduceSub, Nat.reduceLeDiff, Int.reduceEq, Int.reduceLT, Int.reduceLE, Int.reduceNeg, Int.reduceAdd, Int.reduceSub, Int.reduceToNat, Int.reduceMul, Nat.reduceMul]) (EnvLe.lf _))))
  subst hH hR
  exact JQ.mono (fun r h => by cases r <;> first | exact ⟨h.1, h.2.1⟩ | exact h) (JQ.fin follows hF hM ht)
theorem fano_walk (a b : Nat) (ha : a ≤ 255) (hb : b ≤ 255) (w : World) (el : TypeId) (hw : Holds w [(1, el, kL .u8 zs64)]) : Calls Tryz.prog 3 #[.int .u8 (a : Int), .int .u8 (b : Int)] w fun e w' => e = .returned (.bool true) ∧ Below w.heap.size w w' :=
  lawT [(1, el, kL .u8 zs64)] Tryz.func3 b3 k3 r3 (args := .cons (.i .u8 (a : Int)) (.cons (.i .u8 (b : Int)) .nil)) (by simp [L.length]) (fano_run el a b ha hb) (vs := [.int .u8 (a : Int), .int .u8 (b : Int)]) (fun _ => ⟨_, _, rfl, rfl, _, _, rfl, rfl, rfl⟩) w hw
end Go.Proofs.YtllllpiphcbaeaaGreatDoor.Ev
