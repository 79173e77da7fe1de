/- The till: what is in it after each customer. -/
import Derived.Test.YtkdbgkibifigiaaTlD
namespace Go.Proofs.Ytkdbgkibifigiaa.Ev
set_option linter.unusedVariables false
set_option linter.unusedSimpArgs false
open Go Go.Proofs
attribute [local go_sem] evC_seq evC_reg evC_cond evC_block evC_skip evC_exit evC_ret evR_cons evR_nil evR_gd guardB_tt guardB_ff guardB_tf guardB_ft guardB_none bindR_ok bindR_okn rgRs_ok seqR_nor seqR_ext seqR_ret condR_true condR_false blockR_nor blockR_ext blockR_ret evX_t evX_c evXL_nil evXL_cons O_mv O_bin O_pick O_eqb O_not O_ext O_call O_conv O_slen O_six O_sbi pv_I pv_i pv_b pv_s pv_ns pv_sl pv_p pv_tu pv_ag bin_lss bin_leq bin_gtr bin_geq bin_eql bin_neq bin8_eql bin8_neq bin_add bin_sub bin_mul get_st get_lf bind_nil bind_cons if_true if_false Got_nor Got_ext Got_ret Kseq Kblk Klp Kend onStr_s onB_b onT_tu onI_I onN_I onK_I eqb_b not_b nthL_0 nthL_1 nthL_2 known_nil known_cons I_known known_b known_s evRVs_nil evRVs_cons evRes_1 evRes_2 evRV_tmp Bool.and_true Bool.true_and Bool.and_self Bool.not_true Bool.not_false decide_true decide_false Int.toNat_natCast true_and and_true big hget_same hget_ne newB_n onP_p onS_sl onS_ns O_fad O_alloc_if O_ixs O_len O_ld O_st O_box boxB_if ldB_if ldB_agif stB_if toL_I toL_i toL_b toL_s toL_sl toL_ns toL_ag allC_nil allC_cons isC_i isC_b isC_s isC_sl isC_ns I_isC Llen_nil Llen_cons Lget_0 Lget_1 Lget_2 Lget_3 blkL_size cell_blkL_if getL_blkL_if getL_setL_if setL_sz evRV_cell' rvB_agif rvB_if evPL_cons bldK_if evPL_nil O_build O_part evBuild_ok okL_some onA_ag partV_1 evPart_eq updS_nil updS_cons upd_0 upd_1 upd_2 upd_3 ge_iff_le if_pos and_self Nat.le_refl known_ag known_sl known_ns known_i ov_at spS_eq spSI_eq spSII_eq spI_eq spII_eq spIII_eq spIIII_eq res_v res_sl res_slE Good I_pur pur_b pur_s pur_i pur_ns pur_ag pur_tu purL_nil purL_cons evDr_eq evDs_nil evDs_cons dsR_ok stepD_eq sdB_n sdB_g sdG_tt sdG_ff sdG_tf sdG_ft sdG_none runD_0 rdR_f rdR_t baseOf_pu baseOf_h baseU_nil baseA_nil baseA_0 baseR_nil baseR_0 baseR_00 appAll_nil appAll_0 restr_nil restr_cons setD_some setD_none evC_draw iL_len iL_get iL_allC iL_pur hp0_0 hp0_c rdL_ns rdL_sl List.length_cons List.length_nil O_mks mkB_if O_bsl bslB_if O_app apX_ns apX_sl apN_some apS_some blkL_el Nat.one_mul Nat.mul_one Nat.zero_add n_I onF_fn O_callv app_nil app_cons spLF_eq spL_eq spLL_eq onL_some onLL_ss onLL_ns onLL_sn onLL_nn rdB_blk Int.cast_ofNat_Int

theorem run48 (bs : List Nat) (b : Int) (h1 : bs.length ≤ 16) (h2 : -1000 ≤ b ∧ b ≤ 1000) : JQ Try.prog drops Try.f48.ntmps F0 q48 256 (Kend res48 (Good 0 (.sl 3 1 bs.length (some bs.length) (iL (afts bs b))))) (bind (.cons (.s bs) (.cons (I b) .nil)) 0 .lf) .lf 256 := by
  have hF := F0_ok Try.prog
  have hM := F0_mono
  unfold q48
  (refine JQ.step follows hF hM ?_; simp (config := { maxSteps := 4000000 }) (disch := (omega)) only [go_sem, Nat.reduceLT, Nat.reduceEqDiff, reduceIte, Nat.reduceAdd, Nat.reduceSub, Nat.reduceLeDiff, Int.reduceEq, Int.reduceLT, Int.reduceLE, Int.reduceNeg, Int.reduceAdd, Int.reduceSub, Int.reduceToNat, Int.reduceMul, Nat.reduceMul])
  (refine JQ.step follows hF hM ?_; simp (config := { maxSteps := 4000000 }) (disch := (omega)) only [go_sem, Nat.reduceLT, Nat.reduceEqDiff, reduceIte, Nat.reduceAdd, Nat.reduceSub, Nat.reduceLeDiff, Int.reduceEq, Int.reduceLT, Int.reduceLE, Int.reduceNeg, Int.reduceAdd, Int.reduceSub, Int.reduceToNat, Int.reduceMul, Nat.reduceMul, small_len])
  (refine JQ.step follows hF hM ?_; simp (config := { maxSteps := 4000000 }) (disch := (omega)) only [go_sem, Nat.reduceLT, Nat.reduceEqDiff, reduceIte, Nat.reduceAdd, Nat.reduceSub, Nat.reduceLeDiff, Int.reduceEq, Int.reduceLT, Int.reduceLE, Int.reduceNeg, Int.reduceAdd, Int.reduceSub, Int.reduceToNat, Int.reduceMul, Nat.reduceMul])
  refine JQ.seq ?_
  (refine JQ.step follows hF hM ?_; simp (config := { maxSteps := 4000000 }) (disch := (omega)) only [go_sem, Nat.reduceLT, Nat.reduceEqDiff, reduceIte, Nat.reduceAdd, Nat.reduceSub, Nat.reduceLeDiff, Int.reduceEq, Int.reduceLT, Int.reduceLE, Int.reduceNeg, Int.reduceAdd, Int.reduceSub, Int.reduceToNat, Int.reduceMul, Nat.reduceMul])
  refine JQ.block ?_
  refine JQ.loop (σ := Nat) (fun k => k ≤ bs.length) (fun k => ((((Tr.lf.set (.s bs) (tp 0)).set (.sl (tp 255) 0 1 bs.length (some bs.length)) (tp 5)).set (I (aft bs b k)) (tp 6)).set (I bs.length) (tp 13)).set (I k) (tp 14))
    (fun k => Hp.lf.put (some (blkL 3 (iL (fillT (afts bs b) k)))) (tp 255)) (fun _ => 257) (fun k => bs.length - k) 0 (Nat.zero_le _) (by ((repeat' (first | exact EnvLe.lf _ | refine EnvLe.set (by decide) ?_ ?_)) <;> first | exact EnvLe.lf _ | (simp (config := { maxSteps := 4000000 }) (disch := (omega)) only [go_sem, Nat.reduceLT, Nat.reduceEqDiff, reduceIte, Nat.reduceAdd, Nat.reduceSub, Nat.reduceLeDiff, Int.reduceEq, Int.reduceLT, Int.reduceLE, Int.reduceNeg, Int.reduceAdd, Int.reduceSub, Int.reduceToNat, Int.reduceMul, Nat.reduceMul, aft, Int.natCast_add, Int.cast_ofNat_Int]; done) | (simp (config := { maxSteps := 4000000 }) (disch := (omega)) only [go_sem, Nat.reduceLT, Nat.reduceEqDiff, reduceIte, Nat.reduceAdd, Nat.reduceSub, Nat.reduceLeDiff, Int.reduceEq, Int.reduceLT, Int.reduceLE, Int.reduceNeg, Int.reduceAdd, Int.reduceSub, Int.reduceToNat, Int.reduceMul, Nat.reduceMul, aft, Int.natCast_add, Int.cast_ofNat_Int] <;> first | rfl | (congr 1; omega)))) (HpLe.put ⟨_, hget_same _ _ _, by rw [fillT_zero, afts_len]; exact mk_le _ _ (by omega) (by omega)⟩ (HpLe.lf _)) rfl ?_
  intro k hk
  unfold q48_l0
  have hr := aft_rng bs b k
  by_cases hlt : k < bs.length
  · have hlt' : (k : Int) < (bs.length : Int) := by omega
    have hfl := fillT_len (afts bs b) (k := k) (by rw [afts_len]; exact hk)
    rw [afts_len] at hfl
    have hfs := fillT_succ (xs := afts bs b) (k := k) (by rw [afts_len]; exact hlt)
    rw [At_afts hlt] at hfs
    by_cases hc : byt bs k = 99
    · (refine JQ.run follows hF hM ?_; simp (config := { maxSteps := 4000000 }) (disch := (omega)) only [go_sem, Nat.reduceLT, Nat.reduceEqDiff, reduceIte, Nat.reduceAdd, Nat.reduceSub, Nat.reduceLeDiff, Int.reduceEq, Int.reduceLT, Int.reduceLE, Int.reduceNeg, Int.reduceAdd, Int.reduceSub, Int.reduceToNat, Int.reduceMul, Nat.reduceMul, hlt', nthS_at hlt, eq_true hc, hfl])
      exact ⟨k + 1, by omega, by omega, by ((repeat' (first | exact EnvLe.lf _ | refine EnvLe.set (by decide) ?_ ?_)) <;> first | exact EnvLe.lf _ | (simp (config := { maxSteps := 4000000 }) (disch := (omega)) only [go_sem, Nat.reduceLT, Nat.reduceEqDiff, reduceIte, Nat.reduceAdd, Nat.reduceSub, Nat.reduceLeDiff, Int.reduceEq, Int.reduceLT, Int.reduceLE, Int.reduceNeg, Int.reduceAdd, Int.reduceSub, Int.reduceToNat, Int.reduceMul, Nat.reduceMul, aft_c hc, Int.natCast_add, Int.cast_ofNat_Int]; done) | (simp (config := { maxSteps := 4000000 }) (disch := (omega)) only [go_sem, Nat.reduceLT, Nat.reduceEqDiff, reduceIte, Nat.reduceAdd, Nat.reduceSub, Nat.reduceLeDiff, Int.reduceEq, Int.reduceLT, Int.reduceLE, Int.reduceNeg, Int.reduceAdd, Int.reduceSub, Int.reduceToNat, Int.reduceMul, Nat.reduceMul, aft_c hc, Int.natCast_add, Int.cast_ofNat_Int] <;> first | rfl | (congr 1; omega))), HpLe.put ⟨_, hget_same _ _ _, by rw [hfs, aft_c hc]; exact set_le (by omega) (by omega)⟩ (HpLe.lf _)⟩
    · (refine JQ.run follows hF hM ?_; simp (config := { maxSteps := 4000000 }) (disch := (omega)) only [go_sem, Nat.reduceLT, Nat.reduceEqDiff, reduceIte, Nat.reduceAdd, Nat.reduceSub, Nat.reduceLeDiff, Int.reduceEq, Int.reduceLT, Int.reduceLE, Int.reduceNeg, Int.reduceAdd, Int.reduceSub, Int.reduceToNat, Int.reduceMul, Nat.reduceMul, hlt', nthS_at hlt, eq_false hc, hfl])
      exact ⟨k + 1, by omega, by omega, by ((repeat' (first | exact EnvLe.lf _ | refine EnvLe.set (by decide) ?_ ?_)) <;> first | exact EnvLe.lf _ | (simp (config := { maxSteps := 4000000 }) (disch := (omega)) only [go_sem, Nat.reduceLT, Nat.reduceEqDiff, reduceIte, Nat.reduceAdd, Nat.reduceSub, Nat.reduceLeDiff, Int.reduceEq, Int.reduceLT, Int.reduceLE, Int.reduceNeg, Int.reduceAdd, Int.reduceSub, Int.reduceToNat, Int.reduceMul, Nat.reduceMul, aft_n hc, Int.natCast_add, Int.cast_ofNat_Int]; done) | (simp (config := { maxSteps := 4000000 }) (disch := (omega)) only [go_sem, Nat.reduceLT, Nat.reduceEqDiff, reduceIte, Nat.reduceAdd, Nat.reduceSub, Nat.reduceLeDiff, Int.reduceEq, Int.reduceLT, Int.reduceLE, Int.reduceNeg, Int.reduceAdd, Int.reduceSub, Int.reduceToNat, Int.reduceMul, Nat.reduceMul, aft_n hc, Int.natCast_add, Int.cast_ofNat_Int] <;> first | rfl | (congr 1; omega))), HpLe.put ⟨_, hget_same _ _ _, by rw [hfs, aft_n hc]; exact set_le (by omega) (by omega)⟩ (HpLe.lf _)⟩
  · obtain rfl : k = bs.length := by omega
    have hff := fillT_full (afts bs b)
    rw [afts_len] at hff
    (refine JQ.run follows hF hM ?_; simp (config := { maxSteps := 4000000 }) (disch := (omega)) only [go_sem, Nat.reduceLT, Nat.reduceEqDiff, reduceIte, Nat.reduceAdd, Nat.reduceSub, Nat.reduceLeDiff, Int.reduceEq, Int.reduceLT, Int.reduceLE, Int.reduceNeg, Int.reduceAdd, Int.reduceSub, Int.reduceToNat, Int.reduceMul, Nat.reduceMul, Int.lt_irrefl])
    (refine JQ.run follows hF hM ?_; simp (config := { maxSteps := 4000000 }) (disch := (omega)) only [go_sem, Nat.reduceLT, Nat.reduceEqDiff, reduceIte, Nat.reduceAdd, Nat.reduceSub, Nat.reduceLeDiff, Int.reduceEq, Int.reduceLT, Int.reduceLE, Int.reduceNeg, Int.reduceAdd, Int.reduceSub, Int.reduceToNat, Int.reduceMul, Nat.reduceMul, res48, hff])
    exact ⟨afts_len _ _, goodI (t := 255) (nb := 0) (n' := 257) (hget_same _ _ _) (by omega) (by omega) (by omega)⟩
noncomputable def f48 (bs : List Nat) (b : Int) : Out := if bs.length ≤ 16 ∧ -1000 ≤ b ∧ b ≤ 1000 then .sl 3 1 bs.length (some bs.length) (iL (afts bs b)) else .no
theorem ok48 : SOK Try.prog 48 (spSI f48) := spSI_ok fun bs b lim h n v h' n' hr => by
  unfold f48 at hr
  split at hr
  · rename_i hb
    exact outC Try.func48 n48 b48 k48 r48 (Ins.none h) (by simp [L.length]) (ren_nil_rel (by simp only [purL_cons, purL_nil, pur_s, I_pur, Bool.and_self])) (.sl 3 1 bs.length (some bs.length) (iL (afts bs b))) ⟨iL_pur _, by rw [iL_len, afts_len]; omega⟩ (run48 bs b hb.1 hb.2) lim n hr
  · cases hr
theorem run50 (z : Int) : JQ Try.prog drops Try.f50.ntmps F0 q50 256 (Kend res50 (Good 0 (.v (.b (decide (z < 0)))))) (bind (.cons (I z) .nil) 0 .lf) .lf 256 := by
  have hF := F0_ok Try.prog
  have hM := F0_mono
  unfold q50
  (refine JQ.step follows hF hM ?_; simp (config := { maxSteps := 4000000 }) (disch := (omega)) only [go_sem, Nat.reduceLT, Nat.reduceEqDiff, reduceIte, Nat.reduceAdd, Nat.reduceSub, Nat.reduceLeDiff, Int.reduceEq, Int.reduceLT, Int.reduceLE, Int.reduceNeg, Int.reduceAdd, Int.reduceSub, Int.reduceToNat, Int.reduceMul, Nat.reduceMul])
  (refine JQ.run follows hF hM ?_; simp (config := { maxSteps := 4000000 }) (disch := (omega)) only [go_sem, Nat.reduceLT, Nat.reduceEqDiff, reduceIte, Nat.reduceAdd, Nat.reduceSub, Nat.reduceLeDiff, Int.reduceEq, Int.reduceLT, Int.reduceLE, Int.reduceNeg, Int.reduceAdd, Int.reduceSub, Int.reduceToNat, Int.reduceMul, Nat.reduceMul, res50])
noncomputable def f50 (z : Int) : Out := .v (.b (decide (z < 0)))
theorem ok50 : SOK Try.prog 50 (spI f50) := spI_ok fun z lim h n v h' n' hr =>
  outC Try.func50 n50 b50 k50 r50 (Ins.none h) (by simp [L.length]) (ren_nil_rel (by simp only [purL_cons, purL_nil, I_pur, Bool.and_self])) (.v (.b (decide (z < 0)))) rfl (run50 z) lim n hr

noncomputable def F4 : FF := ov 50 (spI f50) F0
theorem F4_ok : FOK Try.prog F4 := ov_ok ok50 (F0_ok _)
theorem F4_mono : F4.mono := ov_mono (spI_mo _) F0_mono
theorem run53 (el : TypeId) (xs : List Int) (cap : Option Nat) (hl : xs.length ≤ 1000) : JQ Try.prog drops Try.f53.ntmps F4 q53 257 (Kend res53 (Good 1 (.v (I (fstN xs 0))))) (bind (.cons (.sl (tp 255) 0 1 xs.length cap) (.cons (.fn 50 .nil .nil) .nil)) 0 .lf) (hp0 [blkL el (iL xs)] 255) 257 := by
  have hF := F4_ok
  have hM := F4_mono
  unfold q53
  (refine JQ.step follows hF hM ?_; simp (config := { maxSteps := 4000000 }) (disch := (omega)) only [go_sem, Nat.reduceLT, Nat.reduceEqDiff, reduceIte, Nat.reduceAdd, Nat.reduceSub, Nat.reduceLeDiff, Int.reduceEq, Int.reduceLT, Int.reduceLE, Int.reduceNeg, Int.reduceAdd, Int.reduceSub, Int.reduceToNat, Int.reduceMul, Nat.reduceMul])
  refine JQ.seq ?_
  (refine JQ.step follows hF hM ?_; simp (config := { maxSteps := 4000000 }) (disch := (omega)) only [go_sem, Nat.reduceLT, Nat.reduceEqDiff, reduceIte, Nat.reduceAdd, Nat.reduceSub, Nat.reduceLeDiff, Int.reduceEq, Int.reduceLT, Int.reduceLE, Int.reduceNeg, Int.reduceAdd, Int.reduceSub, Int.reduceToNat, Int.reduceMul, Nat.reduceMul])
  refine JQ.block ?_
  refine JQ.loop (σ := Nat) (fun k => k ≤ xs.length ∧ fstN xs 0 = fstN (xs.drop k) k) (fun k => (((Tr.lf.set (.sl (tp 255) 0 1 xs.length cap) (tp 0)).set (.fn 50 .nil .nil) (tp 1)).set (I xs.length) (tp 7)).set (I k) (tp 8)) (fun _ => Hp.lf.put (some (blkL el (iL xs))) (tp 255)) (fun _ => 257) (fun k => xs.length - k) 0 ⟨Nat.zero_le _, rfl⟩ (by ((repeat' (first | exact EnvLe.lf _ | refine EnvLe.set (by decide) ?_ ?_)) <;> first | exact EnvLe.lf _ | (simp (config := { maxSteps := 4000000 }) (disch := (omega)) only [go_sem, Nat.reduceLT, Nat.reduceEqDiff, reduceIte, Nat.reduceAdd, Nat.reduceSub, Nat.reduceLeDiff, Int.reduceEq, Int.reduceLT, Int.reduceLE, Int.reduceNeg, Int.reduceAdd, Int.reduceSub, Int.reduceToNat, Int.reduceMul, Nat.reduceMul, Int.natCast_add, Int.cast_ofNat_Int]; done) | (simp (config := { maxSteps := 4000000 }) (disch := (omega)) only [go_sem, Nat.reduceLT, Nat.reduceEqDiff, reduceIte, Nat.reduceAdd, Nat.reduceSub, Nat.reduceLeDiff, Int.reduceEq, Int.reduceLT, Int.reduceLE, Int.reduceNeg, Int.reduceAdd, Int.reduceSub, Int.reduceToNat, Int.reduceMul, Nat.reduceMul, Int.natCast_add, Int.cast_ofNat_Int] <;> first | rfl | (congr 1; omega)))) (HpLe.refl _) rfl ?_
  rintro k ⟨hk, hf⟩
  unfold q53_l0
  by_cases hlt : k < xs.length
  · have hlt' : (k : Int) < (xs.length : Int) := by omega
    rw [fstN_step hlt] at hf
    by_cases hc : At xs k < 0
    · rw [if_pos hc] at hf
      (refine JQ.run follows hF hM ?_; simp (config := { maxSteps := 4000000 }) (disch := (omega)) only [go_sem, Nat.reduceLT, Nat.reduceEqDiff, reduceIte, Nat.reduceAdd, Nat.reduceSub, Nat.reduceLeDiff, Int.reduceEq, Int.reduceLT, Int.reduceLE, Int.reduceNeg, Int.reduceAdd, Int.reduceSub, Int.reduceToNat, Int.reduceMul, Nat.reduceMul, hlt', F4, f50, hc, res53, hf])
    · rw [if_neg hc] at hf
      (refine JQ.run follows hF hM ?_; simp (config := { maxSteps := 4000000 }) (disch := (omega)) only [go_sem, Nat.reduceLT, Nat.reduceEqDiff, reduceIte, Nat.reduceAdd, Nat.reduceSub, Nat.reduceLeDiff, Int.reduceEq, Int.reduceLT, Int.reduceLE, Int.reduceNeg, Int.reduceAdd, Int.reduceSub, Int.reduceToNat, Int.reduceMul, Nat.reduceMul, hlt', F4, f50, hc])
      exact ⟨k + 1, ⟨by omega, hf⟩, by omega, by ((repeat' (first | exact EnvLe.lf _ | refine EnvLe.set (by decide) ?_ ?_)) <;> first | exact EnvLe.lf _ | (simp (config := { maxSteps := 4000000 }) (disch := (omega)) only [go_sem, Nat.reduceLT, Nat.reduceEqDiff, reduceIte, Nat.reduceAdd, Nat.reduceSub, Nat.reduceLeDiff, Int.reduceEq, Int.reduceLT, Int.reduceLE, Int.reduceNeg, Int.reduceAdd, Int.reduceSub, Int.reduceToNat, Int.reduceMul, Nat.reduceMul, Int.natCast_add, Int.cast_ofNat_Int]; done) | (simp (config := { maxSteps := 4000000 }) (disch := (omega)) only [go_sem, Nat.reduceLT, Nat.reduceEqDiff, reduceIte, Nat.reduceAdd, Nat.reduceSub, Nat.reduceLeDiff, Int.reduceEq, Int.reduceLT, Int.reduceLE, Int.reduceNeg, Int.reduceAdd, Int.reduceSub, Int.reduceToNat, Int.reduceMul, Nat.reduceMul, Int.natCast_add, Int.cast_ofNat_Int] <;> first | rfl | (congr 1; omega))), HpLe.refl _⟩
  · obtain rfl : k = xs.length := by omega
    rw [fstN_end _ _ (Nat.le_refl _)] at hf
    (refine JQ.run follows hF hM ?_; simp (config := { maxSteps := 4000000 }) (disch := (omega)) only [go_sem, Nat.reduceLT, Nat.reduceEqDiff, reduceIte, Nat.reduceAdd, Nat.reduceSub, Nat.reduceLeDiff, Int.reduceEq, Int.reduceLT, Int.reduceLE, Int.reduceNeg, Int.reduceAdd, Int.reduceSub, Int.reduceToNat, Int.reduceMul, Nat.reduceMul, Int.lt_irrefl])
    (refine JQ.run follows hF hM ?_; simp (config := { maxSteps := 4000000 }) (disch := (omega)) only [go_sem, Nat.reduceLT, Nat.reduceEqDiff, reduceIte, Nat.reduceAdd, Nat.reduceSub, Nat.reduceLeDiff, Int.reduceEq, Int.reduceLT, Int.reduceLE, Int.reduceNeg, Int.reduceAdd, Int.reduceSub, Int.reduceToNat, Int.reduceMul, Nat.reduceMul, res53, hf])
theorem run53n : JQ Try.prog drops Try.f53.ntmps F4 q53 256 (Kend res53 (Good 0 (.v (I (fstN [] 0))))) (bind (.cons .ns (.cons (.fn 50 .nil .nil) .nil)) 0 .lf) .lf 256 := by
  have hF := F4_ok
  have hM := F4_mono
  unfold q53
  (refine JQ.step follows hF hM ?_; simp (config := { maxSteps := 4000000 }) (disch := (omega)) only [go_sem, Nat.reduceLT, Nat.reduceEqDiff, reduceIte, Nat.reduceAdd, Nat.reduceSub, Nat.reduceLeDiff, Int.reduceEq, Int.reduceLT, Int.reduceLE, Int.reduceNeg, Int.reduceAdd, Int.reduceSub, Int.reduceToNat, Int.reduceMul, Nat.reduceMul])
  refine JQ.seq ?_
  (refine JQ.step follows hF hM ?_; simp (config := { maxSteps := 4000000 }) (disch := (omega)) only [go_sem, Nat.reduceLT, Nat.reduceEqDiff, reduceIte, Nat.reduceAdd, Nat.reduceSub, Nat.reduceLeDiff, Int.reduceEq, Int.reduceLT, Int.reduceLE, Int.reduceNeg, Int.reduceAdd, Int.reduceSub, Int.reduceToNat, Int.reduceMul, Nat.reduceMul])
  refine JQ.block ?_
  refine JQ.loop (σ := Unit) (fun _ => True) (fun _ => (Tr.lf.set (I 0) (tp 7)).set (I 0) (tp 8)) (fun _ => .lf) (fun _ => 256) (fun _ => 0) () trivial (by ((repeat' (first | exact EnvLe.lf _ | refine EnvLe.set (by decide) ?_ ?_)) <;> first | exact EnvLe.lf _ | (simp (config := { maxSteps := 4000000 }) (disch := (omega)) only [go_sem, Nat.reduceLT, Nat.reduceEqDiff, reduceIte, Nat.reduceAdd, Nat.reduceSub, Nat.reduceLeDiff, Int.reduceEq, Int.reduceLT, Int.reduceLE, Int.reduceNeg, Int.reduceAdd, Int.reduceSub, Int.reduceToNat, Int.reduceMul, Nat.reduceMul, Int.natCast_add, Int.cast_ofNat_Int]; done) | (simp (config := { maxSteps := 4000000 }) (disch := (omega)) only [go_sem, Nat.reduceLT, Nat.reduceEqDiff, reduceIte, Nat.reduceAdd, Nat.reduceSub, Nat.reduceLeDiff, Int.reduceEq, Int.reduceLT, Int.reduceLE, Int.reduceNeg, Int.reduceAdd, Int.reduceSub, Int.reduceToNat, Int.reduceMul, Nat.reduceMul, Int.natCast_add, Int.cast_ofNat_Int] <;> first | rfl | (congr 1; omega)))) (HpLe.refl _) rfl ?_
  rintro _ _
  unfold q53_l0
  (refine JQ.run follows hF hM ?_; simp (config := { maxSteps := 4000000 }) (disch := (omega)) only [go_sem, Nat.reduceLT, Nat.reduceEqDiff, reduceIte, Nat.reduceAdd, Nat.reduceSub, Nat.reduceLeDiff, Int.reduceEq, Int.reduceLT, Int.reduceLE, Int.reduceNeg, Int.reduceAdd, Int.reduceSub, Int.reduceToNat, Int.reduceMul, Nat.reduceMul, Int.lt_irrefl])
  (refine JQ.run follows hF hM ?_; simp (config := { maxSteps := 4000000 }) (disch := (omega)) only [go_sem, Nat.reduceLT, Nat.reduceEqDiff, reduceIte, Nat.reduceAdd, Nat.reduceSub, Nat.reduceLeDiff, Int.reduceEq, Int.reduceLT, Int.reduceLE, Int.reduceNeg, Int.reduceAdd, Int.reduceSub, Int.reduceToNat, Int.reduceMul, Nat.reduceMul, res53, fstN])
noncomputable def f53 (xs : List Int) : Out := if xs.length ≤ 1000 then .v (I (fstN xs 0)) else .no
theorem ok53 : SOK Try.prog 53 (spLF 50 f53) := spLF_ok Try.func53 n53 b53 k53 r53 (fun xs => by unfold f53; split <;> first | exact I_pur _ | trivial)
  (fun el xs cap hn => by
    unfold f53 at hn ⊢
    split
    · rename_i h; exact run53 el xs cap h
    · rename_i h; rw [if_neg h] at hn; exact absurd rfl hn)
  (fun _ => run53n)
noncomputable def F5 : FF := ov 53 (spLF 50 f53) F4
theorem F5_ok : FOK Try.prog F5 := ov_ok ok53 F4_ok
theorem F5_mono : F5.mono := ov_mono (spLF_mo _ _) F4_mono
theorem run49 (el : TypeId) (xs : List Int) (cap : Option Nat) (hl : xs.length ≤ 1000) : JQ Try.prog drops Try.f49.ntmps F5 q49 257 (Kend res49 (Good 1 (.v (.b (decide (0 ≤ fstN xs 0)))))) (bind (.cons (.sl (tp 255) 0 1 xs.length cap) (.cons (.fn 50 .nil .nil) .nil)) 0 .lf) (hp0 [blkL el (iL xs)] 255) 257 := by
  have hF := F5_ok
  have hM := F5_mono
  unfold q49
  (refine JQ.step follows hF hM ?_; simp (config := { maxSteps := 4000000 }) (disch := (omega)) only [go_sem, Nat.reduceLT, Nat.reduceEqDiff, reduceIte, Nat.reduceAdd, Nat.reduceSub, Nat.reduceLeDiff, Int.reduceEq, Int.reduceLT, Int.reduceLE, Int.reduceNeg, Int.reduceAdd, Int.reduceSub, Int.reduceToNat, Int.reduceMul, Nat.reduceMul])
  (refine JQ.run follows hF hM ?_; simp (config := { maxSteps := 4000000 }) (disch := (omega)) only [go_sem, Nat.reduceLT, Nat.reduceEqDiff, reduceIte, Nat.reduceAdd, Nat.reduceSub, Nat.reduceLeDiff, Int.reduceEq, Int.reduceLT, Int.reduceLE, Int.reduceNeg, Int.reduceAdd, Int.reduceSub, Int.reduceToNat, Int.reduceMul, Nat.reduceMul, F5, f53, res49])
theorem run49n : JQ Try.prog drops Try.f49.ntmps F5 q49 256 (Kend res49 (Good 0 (.v (.b (decide (0 ≤ fstN [] 0)))))) (bind (.cons .ns (.cons (.fn 50 .nil .nil) .nil)) 0 .lf) .lf 256 := by
  have hF := F5_ok
  have hM := F5_mono
  unfold q49
  (refine JQ.step follows hF hM ?_; simp (config := { maxSteps := 4000000 }) (disch := (omega)) only [go_sem, Nat.reduceLT, Nat.reduceEqDiff, reduceIte, Nat.reduceAdd, Nat.reduceSub, Nat.reduceLeDiff, Int.reduceEq, Int.reduceLT, Int.reduceLE, Int.reduceNeg, Int.reduceAdd, Int.reduceSub, Int.reduceToNat, Int.reduceMul, Nat.reduceMul])
  (refine JQ.run follows hF hM ?_; simp (config := { maxSteps := 4000000 }) (disch := (omega)) only [go_sem, Nat.reduceLT, Nat.reduceEqDiff, reduceIte, Nat.reduceAdd, Nat.reduceSub, Nat.reduceLeDiff, Int.reduceEq, Int.reduceLT, Int.reduceLE, Int.reduceNeg, Int.reduceAdd, Int.reduceSub, Int.reduceToNat, Int.reduceMul, Nat.reduceMul, F5, f53, res49])
noncomputable def f49 (xs : List Int) : Out := if xs.length ≤ 1000 then .v (.b (decide (0 ≤ fstN xs 0))) else .no
theorem ok49 : SOK Try.prog 49 (spLF 50 f49) := spLF_ok Try.func49 n49 b49 k49 r49 (fun xs => by unfold f49; split <;> first | rfl | trivial)
  (fun el xs cap hn => by
    unfold f49 at hn ⊢
    split
    · rename_i h; exact run49 el xs cap h
    · rename_i h; rw [if_neg h] at hn; exact absurd rfl hn)
  (fun _ => run49n)
end Go.Proofs.Ytkdbgkibifigiaa.Ev
