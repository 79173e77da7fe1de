/- The till: orders are checked. -/
import Derived.Test.YtkdbgkibifigiaaTlQ
namespace Go.Proofs.Ytkdbgkibifigiaa.Ev
set_option linter.unusedVariables false
set_option linter.unusedSimpArgs false
open Go Go.Proofs
attribute [local go_sem] evC_seq evC_reg evC_cond evC_block evC_skip evC_exit evC_ret evR_cons evR_nil evR_gd guardB_tt guardB_ff guardB_tf guardB_ft guardB_none bindR_ok bindR_okn rgRs_ok seqR_nor seqR_ext seqR_ret condR_true condR_false blockR_nor blockR_ext blockR_ret evX_t evX_c evXL_nil evXL_cons O_mv O_bin O_pick O_eqb O_not O_ext O_call O_conv O_slen O_six O_sbi pv_I pv_i pv_b pv_s pv_ns pv_sl pv_p pv_tu pv_ag bin_lss bin_leq bin_gtr bin_geq bin_eql bin_neq bin8_eql bin8_neq bin_add bin_sub bin_mul get_st get_lf bind_nil bind_cons if_true if_false Got_nor Got_ext Got_ret Kseq Kblk Klp Kend onStr_s onB_b onT_tu onI_I onN_I onK_I eqb_b not_b nthL_0 nthL_1 nthL_2 known_nil known_cons I_known known_b known_s evRVs_nil evRVs_cons evRes_1 evRes_2 evRV_tmp Bool.and_true Bool.true_and Bool.and_self Bool.not_true Bool.not_false decide_true decide_false Int.toNat_natCast true_and and_true big hget_same hget_ne newB_n onP_p onS_sl onS_ns O_fad O_alloc_if O_ixs O_len O_ld O_st O_box boxB_if ldB_if ldB_agif stB_if toL_I toL_i toL_b toL_s toL_sl toL_ns toL_ag allC_nil allC_cons isC_i isC_b isC_s isC_sl isC_ns I_isC Llen_nil Llen_cons Lget_0 Lget_1 Lget_2 Lget_3 blkL_size cell_blkL_if getL_blkL_if getL_setL_if setL_sz evRV_cell' rvB_agif rvB_if evPL_cons bldK_if evPL_nil O_build O_part evBuild_ok okL_some onA_ag partV_1 evPart_eq updS_nil updS_cons upd_0 upd_1 upd_2 upd_3 ge_iff_le if_pos and_self Nat.le_refl known_ag known_sl known_ns known_i ov_at spS_eq spSI_eq spSII_eq spI_eq spII_eq spIII_eq spIIII_eq res_v res_sl res_slE Good I_pur pur_b pur_s pur_i pur_ns pur_ag pur_tu purL_nil purL_cons evDr_eq evDs_nil evDs_cons dsR_ok stepD_eq sdB_n sdB_g sdG_tt sdG_ff sdG_tf sdG_ft sdG_none runD_0 rdR_f rdR_t baseOf_pu baseOf_h baseU_nil baseA_nil baseA_0 baseR_nil baseR_0 baseR_00 appAll_nil appAll_0 restr_nil restr_cons setD_some setD_none evC_draw iL_len iL_get iL_allC iL_pur hp0_0 hp0_c rdL_ns rdL_sl List.length_cons List.length_nil O_mks mkB_if O_bsl bslB_if O_app apX_ns apX_sl apN_some apS_some blkL_el Nat.one_mul Nat.mul_one Nat.zero_add n_I onF_fn O_callv app_nil app_cons spLF_eq spL_eq spLL_eq onL_some onLL_ss onLL_ns onLL_sn onLL_nn rdB_blk Int.cast_ofNat_Int

/-- The first letters are c or n. -/
def okTo (bs : List Nat) (k : Nat) : Prop := ∀ j, j < k → byt bs j = 99 ∨ byt bs j = 110
instance (bs : List Nat) (k : Nat) : Decidable (okTo bs k) := Nat.decidableBallLT k _
theorem okTo_succ {bs : List Nat} {k : Nat} (h : okTo bs k) (h1 : byt bs k = 99 ∨ byt bs k = 110) : okTo bs (k + 1) := fun j hj => by
  rcases Nat.lt_or_ge j k with h2 | h2
  · exact h j h2
  · obtain rfl : j = k := by omega
    exact h1
/-- The error of an order. -/
def chkS (bs : List Nat) : Int := if 16 < bs.length then 3 else if okTo bs bs.length then 0 else 10
theorem chk_long {bs : List Nat} (h : 16 < bs.length) : chkS bs = 3 := if_pos h
theorem chk_hit {bs : List Nat} {k : Nat} (h0 : ¬ 16 < bs.length) (hk : k < bs.length) (h1 : byt bs k ≠ 99) (h2 : byt bs k ≠ 110) : chkS bs = 10 := by
  unfold chkS
  rw [if_neg h0, if_neg (fun e => (e k hk).elim h1 h2)]
theorem chk_pass {bs : List Nat} (h0 : ¬ 16 < bs.length) (h : okTo bs bs.length) : chkS bs = 0 := by
  unfold chkS
  rw [if_neg h0, if_pos h]

theorem run21 (bs : List Nat) (hb : bs.length < 9223372036854775808) : JQ Try.prog drops Try.f21.ntmps F0 q21 256 (Kend res21 (Good 0 (.v (I (chkS bs))))) (bind (.cons (.s bs) .nil) 0 .lf) .lf 256 := by
  have hF := F0_ok Try.prog
  have hM := F0_mono
  unfold q21
  (refine JQ.step follows hF hM ?_; simp (config := { maxSteps := 4000000 }) (disch := (omega)) only [go_sem, Nat.reduceLT, Nat.reduceEqDiff, reduceIte, Nat.reduceAdd, Nat.reduceSub, Nat.reduceLeDiff, Int.reduceEq, Int.reduceLT, Int.reduceLE, Int.reduceNeg, Int.reduceAdd, Int.reduceSub, Int.reduceToNat, Int.reduceMul, Nat.reduceMul, small_len])
  by_cases h16 : 16 < bs.length
  · have hh : (16 : Int) < (bs.length : Int) := by omega
    (refine JQ.step follows hF hM ?_; simp (config := { maxSteps := 4000000 }) (disch := (omega)) only [go_sem, Nat.reduceLT, Nat.reduceEqDiff, reduceIte, Nat.reduceAdd, Nat.reduceSub, Nat.reduceLeDiff, Int.reduceEq, Int.reduceLT, Int.reduceLE, Int.reduceNeg, Int.reduceAdd, Int.reduceSub, Int.reduceToNat, Int.reduceMul, Nat.reduceMul, small_len, hh, res21, chk_long h16])
  · have hh : ¬ (16 : Int) < (bs.length : Int) := by omega
    (refine JQ.step follows hF hM ?_; simp (config := { maxSteps := 4000000 }) (disch := (omega)) only [go_sem, Nat.reduceLT, Nat.reduceEqDiff, reduceIte, Nat.reduceAdd, Nat.reduceSub, Nat.reduceLeDiff, Int.reduceEq, Int.reduceLT, Int.reduceLE, Int.reduceNeg, Int.reduceAdd, Int.reduceSub, Int.reduceToNat, Int.reduceMul, Nat.reduceMul, small_len, hh])
    refine JQ.seq ?_
    (refine JQ.step follows hF hM ?_; simp (config := { maxSteps := 4000000 }) (disch := (omega)) only [go_sem, Nat.reduceLT, Nat.reduceEqDiff, reduceIte, Nat.reduceAdd, Nat.reduceSub, Nat.reduceLeDiff, Int.reduceEq, Int.reduceLT, Int.reduceLE, Int.reduceNeg, Int.reduceAdd, Int.reduceSub, Int.reduceToNat, Int.reduceMul, Nat.reduceMul, small_len])
    refine JQ.block ?_
    refine JQ.loop (σ := Nat) (fun k => k ≤ bs.length ∧ okTo bs k) (fun k => ((Tr.lf.set (.s bs) (tp 0)).set (I (bs.length : Int)) (tp 8)).set (I k) (tp 9)) (fun _ => .lf) (fun _ => 256) (fun k => bs.length - k) 0 ⟨Nat.zero_le _, fun j hj => by omega⟩ (by ((repeat' (first | exact EnvLe.lf _ | refine EnvLe.set (by decide) ?_ ?_)) <;> first | exact EnvLe.lf _ | (simp (config := { maxSteps := 4000000 }) (disch := (omega)) only [go_sem, Nat.reduceLT, Nat.reduceEqDiff, reduceIte, Nat.reduceAdd, Nat.reduceSub, Nat.reduceLeDiff, Int.reduceEq, Int.reduceLT, Int.reduceLE, Int.reduceNeg, Int.reduceAdd, Int.reduceSub, Int.reduceToNat, Int.reduceMul, Nat.reduceMul, Int.natCast_add, Int.cast_ofNat_Int]; done) | (simp (config := { maxSteps := 4000000 }) (disch := (omega)) only [go_sem, Nat.reduceLT, Nat.reduceEqDiff, reduceIte, Nat.reduceAdd, Nat.reduceSub, Nat.reduceLeDiff, Int.reduceEq, Int.reduceLT, Int.reduceLE, Int.reduceNeg, Int.reduceAdd, Int.reduceSub, Int.reduceToNat, Int.reduceMul, Nat.reduceMul, Int.natCast_add, Int.cast_ofNat_Int] <;> first | rfl | (congr 1; omega)))) (HpLe.refl _) rfl ?_
    rintro k ⟨hk, hok⟩
    unfold q21_l0
    by_cases hlt : k < bs.length
    · have hlt' : (k : Int) < (bs.length : Int) := by omega
      by_cases h1 : byt bs k = 99
      · (refine JQ.run follows hF hM ?_; simp (config := { maxSteps := 4000000 }) (disch := (omega)) only [go_sem, Nat.reduceLT, Nat.reduceEqDiff, reduceIte, Nat.reduceAdd, Nat.reduceSub, Nat.reduceLeDiff, Int.reduceEq, Int.reduceLT, Int.reduceLE, Int.reduceNeg, Int.reduceAdd, Int.reduceSub, Int.reduceToNat, Int.reduceMul, Nat.reduceMul, hlt', nthS_at hlt, eq_true h1])
        exact ⟨k + 1, ⟨by omega, okTo_succ hok (.inl h1)⟩, by omega, by ((repeat' (first | exact EnvLe.lf _ | refine EnvLe.set (by decide) ?_ ?_)) <;> first | exact EnvLe.lf _ | (simp (config := { maxSteps := 4000000 }) (disch := (omega)) only [go_sem, Nat.reduceLT, Nat.reduceEqDiff, reduceIte, Nat.reduceAdd, Nat.reduceSub, Nat.reduceLeDiff, Int.reduceEq, Int.reduceLT, Int.reduceLE, Int.reduceNeg, Int.reduceAdd, Int.reduceSub, Int.reduceToNat, Int.reduceMul, Nat.reduceMul, Int.natCast_add, Int.cast_ofNat_Int]; done) | (simp (config := { maxSteps := 4000000 }) (disch := (omega)) only [go_sem, Nat.reduceLT, Nat.reduceEqDiff, reduceIte, Nat.reduceAdd, Nat.reduceSub, Nat.reduceLeDiff, Int.reduceEq, Int.reduceLT, Int.reduceLE, Int.reduceNeg, Int.reduceAdd, Int.reduceSub, Int.reduceToNat, Int.reduceMul, Nat.reduceMul, Int.natCast_add, Int.cast_ofNat_Int] <;> first | rfl | (congr 1; omega))), HpLe.refl _⟩
      · by_cases h2 : byt bs k = 110
        · (refine JQ.run follows hF hM ?_; simp (config := { maxSteps := 4000000 }) (disch := (omega)) only [go_sem, Nat.reduceLT, Nat.reduceEqDiff, reduceIte, Nat.reduceAdd, Nat.reduceSub, Nat.reduceLeDiff, Int.reduceEq, Int.reduceLT, Int.reduceLE, Int.reduceNeg, Int.reduceAdd, Int.reduceSub, Int.reduceToNat, Int.reduceMul, Nat.reduceMul, hlt', nthS_at hlt, eq_false h1, eq_true h2])
          exact ⟨k + 1, ⟨by omega, okTo_succ hok (.inr h2)⟩, by omega, by ((repeat' (first | exact EnvLe.lf _ | refine EnvLe.set (by decide) ?_ ?_)) <;> first | exact EnvLe.lf _ | (simp (config := { maxSteps := 4000000 }) (disch := (omega)) only [go_sem, Nat.reduceLT, Nat.reduceEqDiff, reduceIte, Nat.reduceAdd, Nat.reduceSub, Nat.reduceLeDiff, Int.reduceEq, Int.reduceLT, Int.reduceLE, Int.reduceNeg, Int.reduceAdd, Int.reduceSub, Int.reduceToNat, Int.reduceMul, Nat.reduceMul, Int.natCast_add, Int.cast_ofNat_Int]; done) | (simp (config := { maxSteps := 4000000 }) (disch := (omega)) only [go_sem, Nat.reduceLT, Nat.reduceEqDiff, reduceIte, Nat.reduceAdd, Nat.reduceSub, Nat.reduceLeDiff, Int.reduceEq, Int.reduceLT, Int.reduceLE, Int.reduceNeg, Int.reduceAdd, Int.reduceSub, Int.reduceToNat, Int.reduceMul, Nat.reduceMul, Int.natCast_add, Int.cast_ofNat_Int] <;> first | rfl | (congr 1; omega))), HpLe.refl _⟩
        · (refine JQ.run follows hF hM ?_; simp (config := { maxSteps := 4000000 }) (disch := (omega)) only [go_sem, Nat.reduceLT, Nat.reduceEqDiff, reduceIte, Nat.reduceAdd, Nat.reduceSub, Nat.reduceLeDiff, Int.reduceEq, Int.reduceLT, Int.reduceLE, Int.reduceNeg, Int.reduceAdd, Int.reduceSub, Int.reduceToNat, Int.reduceMul, Nat.reduceMul, hlt', nthS_at hlt, eq_false h1, eq_false h2, res21, chk_hit h16 hlt h1 h2])
    · have hlt' : ¬ (k : Int) < (bs.length : Int) := by omega
      obtain rfl : k = bs.length := by omega
      (refine JQ.run follows hF hM ?_; simp (config := { maxSteps := 4000000 }) (disch := (omega)) only [go_sem, Nat.reduceLT, Nat.reduceEqDiff, reduceIte, Nat.reduceAdd, Nat.reduceSub, Nat.reduceLeDiff, Int.reduceEq, Int.reduceLT, Int.reduceLE, Int.reduceNeg, Int.reduceAdd, Int.reduceSub, Int.reduceToNat, Int.reduceMul, Nat.reduceMul, hlt', Int.lt_irrefl])
      (refine JQ.run follows hF hM ?_; simp (config := { maxSteps := 4000000 }) (disch := (omega)) only [go_sem, Nat.reduceLT, Nat.reduceEqDiff, reduceIte, Nat.reduceAdd, Nat.reduceSub, Nat.reduceLeDiff, Int.reduceEq, Int.reduceLT, Int.reduceLE, Int.reduceNeg, Int.reduceAdd, Int.reduceSub, Int.reduceToNat, Int.reduceMul, Nat.reduceMul, res21, chk_pass h16 hok])

theorem run22 (bs : List Nat) (hb : bs.length < 9223372036854775808) : JQ Try.prog drops Try.f22.ntmps F0 q22 256 (Kend res22 (Good 0 (.v (I (chkS bs))))) (bind (.cons (.s bs) .nil) 0 .lf) .lf 256 := by
  have hF := F0_ok Try.prog
  have hM := F0_mono
  unfold q22
  (refine JQ.step follows hF hM ?_; simp (config := { maxSteps := 4000000 }) (disch := (omega)) only [go_sem, Nat.reduceLT, Nat.reduceEqDiff, reduceIte, Nat.reduceAdd, Nat.reduceSub, Nat.reduceLeDiff, Int.reduceEq, Int.reduceLT, Int.reduceLE, Int.reduceNeg, Int.reduceAdd, Int.reduceSub, Int.reduceToNat, Int.reduceMul, Nat.reduceMul, small_len])
  by_cases h16 : 16 < bs.length
  · have hh : (16 : Int) < (bs.length : Int) := by omega
    (refine JQ.step follows hF hM ?_; simp (config := { maxSteps := 4000000 }) (disch := (omega)) only [go_sem, Nat.reduceLT, Nat.reduceEqDiff, reduceIte, Nat.reduceAdd, Nat.reduceSub, Nat.reduceLeDiff, Int.reduceEq, Int.reduceLT, Int.reduceLE, Int.reduceNeg, Int.reduceAdd, Int.reduceSub, Int.reduceToNat, Int.reduceMul, Nat.reduceMul, small_len, hh, res22, chk_long h16])
  · have hh : ¬ (16 : Int) < (bs.length : Int) := by omega
    (refine JQ.step follows hF hM ?_; simp (config := { maxSteps := 4000000 }) (disch := (omega)) only [go_sem, Nat.reduceLT, Nat.reduceEqDiff, reduceIte, Nat.reduceAdd, Nat.reduceSub, Nat.reduceLeDiff, Int.reduceEq, Int.reduceLT, Int.reduceLE, Int.reduceNeg, Int.reduceAdd, Int.reduceSub, Int.reduceToNat, Int.reduceMul, Nat.reduceMul, small_len, hh])
    refine JQ.seq ?_
    (refine JQ.step follows hF hM ?_; simp (config := { maxSteps := 4000000 }) (disch := (omega)) only [go_sem, Nat.reduceLT, Nat.reduceEqDiff, reduceIte, Nat.reduceAdd, Nat.reduceSub, Nat.reduceLeDiff, Int.reduceEq, Int.reduceLT, Int.reduceLE, Int.reduceNeg, Int.reduceAdd, Int.reduceSub, Int.reduceToNat, Int.reduceMul, Nat.reduceMul, small_len])
    refine JQ.block ?_
    refine JQ.loop (σ := Nat) (fun k => k ≤ bs.length ∧ okTo bs k) (fun k => (Tr.lf.set (.s bs) (tp 0)).set (I k) (tp 3)) (fun _ => .lf) (fun _ => 256) (fun k => bs.length - k) 0 ⟨Nat.zero_le _, fun j hj => by omega⟩ (by ((repeat' (first | exact EnvLe.lf _ | refine EnvLe.set (by decide) ?_ ?_)) <;> first | exact EnvLe.lf _ | (simp (config := { maxSteps := 4000000 }) (disch := (omega)) only [go_sem, Nat.reduceLT, Nat.reduceEqDiff, reduceIte, Nat.reduceAdd, Nat.reduceSub, Nat.reduceLeDiff, Int.reduceEq, Int.reduceLT, Int.reduceLE, Int.reduceNeg, Int.reduceAdd, Int.reduceSub, Int.reduceToNat, Int.reduceMul, Nat.reduceMul, Int.natCast_add, Int.cast_ofNat_Int]; done) | (simp (config := { maxSteps := 4000000 }) (disch := (omega)) only [go_sem, Nat.reduceLT, Nat.reduceEqDiff, reduceIte, Nat.reduceAdd, Nat.reduceSub, Nat.reduceLeDiff, Int.reduceEq, Int.reduceLT, Int.reduceLE, Int.reduceNeg, Int.reduceAdd, Int.reduceSub, Int.reduceToNat, Int.reduceMul, Nat.reduceMul, Int.natCast_add, Int.cast_ofNat_Int] <;> first | rfl | (congr 1; omega)))) (HpLe.refl _) rfl ?_
    rintro k ⟨hk, hok⟩
    unfold q22_l0
    by_cases hlt : k < bs.length
    · have hlt' : (k : Int) < (bs.length : Int) := by omega
      by_cases h1 : byt bs k = 99
      · (refine JQ.run follows hF hM ?_; simp (config := { maxSteps := 4000000 }) (disch := (omega)) only [go_sem, Nat.reduceLT, Nat.reduceEqDiff, reduceIte, Nat.reduceAdd, Nat.reduceSub, Nat.reduceLeDiff, Int.reduceEq, Int.reduceLT, Int.reduceLE, Int.reduceNeg, Int.reduceAdd, Int.reduceSub, Int.reduceToNat, Int.reduceMul, Nat.reduceMul, small_len, hlt', nthS_at hlt, eq_true h1])
        exact ⟨k + 1, ⟨by omega, okTo_succ hok (.inl h1)⟩, by omega, by ((repeat' (first | exact EnvLe.lf _ | refine EnvLe.set (by decide) ?_ ?_)) <;> first | exact EnvLe.lf _ | (simp (config := { maxSteps := 4000000 }) (disch := (omega)) only [go_sem, Nat.reduceLT, Nat.reduceEqDiff, reduceIte, Nat.reduceAdd, Nat.reduceSub, Nat.reduceLeDiff, Int.reduceEq, Int.reduceLT, Int.reduceLE, Int.reduceNeg, Int.reduceAdd, Int.reduceSub, Int.reduceToNat, Int.reduceMul, Nat.reduceMul, Int.natCast_add, Int.cast_ofNat_Int]; done) | (simp (config := { maxSteps := 4000000 }) (disch := (omega)) only [go_sem, Nat.reduceLT, Nat.reduceEqDiff, reduceIte, Nat.reduceAdd, Nat.reduceSub, Nat.reduceLeDiff, Int.reduceEq, Int.reduceLT, Int.reduceLE, Int.reduceNeg, Int.reduceAdd, Int.reduceSub, Int.reduceToNat, Int.reduceMul, Nat.reduceMul, Int.natCast_add, Int.cast_ofNat_Int] <;> first | rfl | (congr 1; omega))), HpLe.refl _⟩
      · by_cases h2 : byt bs k = 110
        · (refine JQ.run follows hF hM ?_; simp (config := { maxSteps := 4000000 }) (disch := (omega)) only [go_sem, Nat.reduceLT, Nat.reduceEqDiff, reduceIte, Nat.reduceAdd, Nat.reduceSub, Nat.reduceLeDiff, Int.reduceEq, Int.reduceLT, Int.reduceLE, Int.reduceNeg, Int.reduceAdd, Int.reduceSub, Int.reduceToNat, Int.reduceMul, Nat.reduceMul, small_len, hlt', nthS_at hlt, eq_false h1, eq_true h2])
          exact ⟨k + 1, ⟨by omega, okTo_succ hok (.inr h2)⟩, by omega, by ((repeat' (first | exact EnvLe.lf _ | refine EnvLe.set (by decide) ?_ ?_)) <;> first | exact EnvLe.lf _ | (simp (config := { maxSteps := 4000000 }) (disch := (omega)) only [go_sem, Nat.reduceLT, Nat.reduceEqDiff, reduceIte, Nat.reduceAdd, Nat.reduceSub, Nat.reduceLeDiff, Int.reduceEq, Int.reduceLT, Int.reduceLE, Int.reduceNeg, Int.reduceAdd, Int.reduceSub, Int.reduceToNat, Int.reduceMul, Nat.reduceMul, Int.natCast_add, Int.cast_ofNat_Int]; done) | (simp (config := { maxSteps := 4000000 }) (disch := (omega)) only [go_sem, Nat.reduceLT, Nat.reduceEqDiff, reduceIte, Nat.reduceAdd, Nat.reduceSub, Nat.reduceLeDiff, Int.reduceEq, Int.reduceLT, Int.reduceLE, Int.reduceNeg, Int.reduceAdd, Int.reduceSub, Int.reduceToNat, Int.reduceMul, Nat.reduceMul, Int.natCast_add, Int.cast_ofNat_Int] <;> first | rfl | (congr 1; omega))), HpLe.refl _⟩
        · (refine JQ.run follows hF hM ?_; simp (config := { maxSteps := 4000000 }) (disch := (omega)) only [go_sem, Nat.reduceLT, Nat.reduceEqDiff, reduceIte, Nat.reduceAdd, Nat.reduceSub, Nat.reduceLeDiff, Int.reduceEq, Int.reduceLT, Int.reduceLE, Int.reduceNeg, Int.reduceAdd, Int.reduceSub, Int.reduceToNat, Int.reduceMul, Nat.reduceMul, small_len, hlt', nthS_at hlt, eq_false h1, eq_false h2, res22, chk_hit h16 hlt h1 h2])
    · obtain rfl : k = bs.length := by omega
      (refine JQ.run follows hF hM ?_; simp (config := { maxSteps := 4000000 }) (disch := (omega)) only [go_sem, Nat.reduceLT, Nat.reduceEqDiff, reduceIte, Nat.reduceAdd, Nat.reduceSub, Nat.reduceLeDiff, Int.reduceEq, Int.reduceLT, Int.reduceLE, Int.reduceNeg, Int.reduceAdd, Int.reduceSub, Int.reduceToNat, Int.reduceMul, Nat.reduceMul, small_len, Int.lt_irrefl])
      (refine JQ.run follows hF hM ?_; simp (config := { maxSteps := 4000000 }) (disch := (omega)) only [go_sem, Nat.reduceLT, Nat.reduceEqDiff, reduceIte, Nat.reduceAdd, Nat.reduceSub, Nat.reduceLeDiff, Int.reduceEq, Int.reduceLT, Int.reduceLE, Int.reduceNeg, Int.reduceAdd, Int.reduceSub, Int.reduceToNat, Int.reduceMul, Nat.reduceMul, res22, chk_pass h16 hok])
noncomputable def f21 (bs : List Nat) : Out := if bs.length < 9223372036854775808 then .v (I (chkS bs)) else .no
theorem ok21 : SOK Try.prog 21 (spS f21) := spS_ok fun bs lim h n v h' n' hr => by
  unfold f21 at hr
  split at hr
  · rename_i hb; exact outC Try.func21 n21 b21 k21 r21 (Ins.none h) (by simp [L.length]) (ren_nil_rel rfl) (.v (I (chkS bs))) (I_pur _) (run21 bs hb) lim n hr
  · cases hr
theorem ok22 : SOK Try.prog 22 (spS f21) := spS_ok fun bs lim h n v h' n' hr => by
  unfold f21 at hr
  split at hr
  · rename_i hb; exact outC Try.func22 n22 b22 k22 r22 (Ins.none h) (by simp [L.length]) (ren_nil_rel rfl) (.v (I (chkS bs))) (I_pur _) (run22 bs hb) lim n hr
  · cases hr
theorem run61 (z lo hi : Int) : JQ Try.prog drops Try.f61.ntmps F0 q61 256 (Kend res61 (Good 0 (.v (.b (decide (lo ≤ z) && decide (z ≤ hi)))))) (bind (.cons (I z) (.cons (I lo) (.cons (I hi) .nil))) 0 .lf) .lf 256 := by
  have hF := F0_ok Try.prog
  have hM := F0_mono
  unfold q61
  (refine JQ.step follows hF hM ?_; simp (config := { maxSteps := 4000000 }) (disch := (omega)) only [go_sem, Nat.reduceLT, Nat.reduceEqDiff, reduceIte, Nat.reduceAdd, Nat.reduceSub, Nat.reduceLeDiff, Int.reduceEq, Int.reduceLT, Int.reduceLE, Int.reduceNeg, Int.reduceAdd, Int.reduceSub, Int.reduceToNat, Int.reduceMul, Nat.reduceMul])
  by_cases h1 : lo ≤ z
  · (refine JQ.run follows hF hM ?_; simp (config := { maxSteps := 4000000 }) (disch := (omega)) only [go_sem, Nat.reduceLT, Nat.reduceEqDiff, reduceIte, Nat.reduceAdd, Nat.reduceSub, Nat.reduceLeDiff, Int.reduceEq, Int.reduceLT, Int.reduceLE, Int.reduceNeg, Int.reduceAdd, Int.reduceSub, Int.reduceToNat, Int.reduceMul, Nat.reduceMul, h1, res61])
  · (refine JQ.run follows hF hM ?_; simp (config := { maxSteps := 4000000 }) (disch := (omega)) only [go_sem, Nat.reduceLT, Nat.reduceEqDiff, reduceIte, Nat.reduceAdd, Nat.reduceSub, Nat.reduceLeDiff, Int.reduceEq, Int.reduceLT, Int.reduceLE, Int.reduceNeg, Int.reduceAdd, Int.reduceSub, Int.reduceToNat, Int.reduceMul, Nat.reduceMul, h1, res61, Bool.false_and])
noncomputable def f61 (z lo hi : Int) : Out := .v (.b (decide (lo ≤ z) && decide (z ≤ hi)))
theorem ok61 : SOK Try.prog 61 (spIII f61) := spIII_ok fun z lo hi lim h n v h' n' hr =>
  outC Try.func61 n61 b61 k61 r61 (Ins.none h) (by simp [L.length]) (ren_nil_rel (by simp only [purL_cons, purL_nil, I_pur, Bool.and_self])) (.v (.b (decide (lo ≤ z) && decide (z ≤ hi)))) rfl (run61 z lo hi) lim n hr

noncomputable def F1 : FF := ov 21 (spS f21) (ov 22 (spS f21) (ov 61 (spIII f61) F0))
theorem F1_ok : FOK Try.prog F1 := ov_ok ok21 (ov_ok ok22 (ov_ok ok61 (F0_ok _)))
theorem F1_mono : F1.mono := ov_mono (spS_mo _) (ov_mono (spS_mo _) (ov_mono (spIII_mo _) F0_mono))

/-- The error of an order and a number of coins. -/
def chkB (bs : List Nat) (z : Int) : Int := if chkS bs = 0 then (if z < 0 ∨ 20 < z then 1 else 0) else chkS bs
theorem chkB_bad {bs : List Nat} (z : Int) (h : ¬ chkS bs = 0) : chkB bs z = chkS bs := if_neg h
theorem chkB_low {bs : List Nat} {z : Int} (h : chkS bs = 0) (hz : z < 0) : chkB bs z = 1 := by rw [chkB, if_pos h, if_pos (.inl hz)]
theorem chkB_high {bs : List Nat} {z : Int} (h : chkS bs = 0) (hz : 20 < z) : chkB bs z = 1 := by rw [chkB, if_pos h, if_pos (.inr hz)]
theorem chkB_in {bs : List Nat} {z : Int} (h : chkS bs = 0) (h1 : ¬ z < 0) (h2 : ¬ 20 < z) : chkB bs z = 0 := by rw [chkB, if_pos h, if_neg (by omega)]
theorem run47 (bs : List Nat) (z : Int) (hb : bs.length < 9223372036854775808) : JQ Try.prog drops Try.f47.ntmps F1 q47 256 (Kend res47 (Good 0 (.v (I (chkB bs z))))) (bind (.cons (.s bs) (.cons (I z) .nil)) 0 .lf) .lf 256 := by
  have hF := F1_ok
  have hM := F1_mono
  unfold q47
  (refine JQ.step follows hF hM ?_; simp (config := { maxSteps := 4000000 }) (disch := (omega)) only [go_sem, Nat.reduceLT, Nat.reduceEqDiff, reduceIte, Nat.reduceAdd, Nat.reduceSub, Nat.reduceLeDiff, Int.reduceEq, Int.reduceLT, Int.reduceLE, Int.reduceNeg, Int.reduceAdd, Int.reduceSub, Int.reduceToNat, Int.reduceMul, Nat.reduceMul])
  by_cases h0 : chkS bs = 0
  · (refine JQ.step follows hF hM ?_; simp (config := { maxSteps := 4000000 }) (disch := (omega)) only [go_sem, Nat.reduceLT, Nat.reduceEqDiff, reduceIte, Nat.reduceAdd, Nat.reduceSub, Nat.reduceLeDiff, Int.reduceEq, Int.reduceLT, Int.reduceLE, Int.reduceNeg, Int.reduceAdd, Int.reduceSub, Int.reduceToNat, Int.reduceMul, Nat.reduceMul, F1, f21, eq_true h0])
    by_cases h1 : z < 0
    · (refine JQ.step follows hF hM ?_; simp (config := { maxSteps := 4000000 }) (disch := (omega)) only [go_sem, Nat.reduceLT, Nat.reduceEqDiff, reduceIte, Nat.reduceAdd, Nat.reduceSub, Nat.reduceLeDiff, Int.reduceEq, Int.reduceLT, Int.reduceLE, Int.reduceNeg, Int.reduceAdd, Int.reduceSub, Int.reduceToNat, Int.reduceMul, Nat.reduceMul, h1, res47, chkB_low h0 h1])
    · by_cases h2 : 20 < z
      · (refine JQ.step follows hF hM ?_; simp (config := { maxSteps := 4000000 }) (disch := (omega)) only [go_sem, Nat.reduceLT, Nat.reduceEqDiff, reduceIte, Nat.reduceAdd, Nat.reduceSub, Nat.reduceLeDiff, Int.reduceEq, Int.reduceLT, Int.reduceLE, Int.reduceNeg, Int.reduceAdd, Int.reduceSub, Int.reduceToNat, Int.reduceMul, Nat.reduceMul, h1, h2, res47, chkB_high h0 h2])
      · (refine JQ.step follows hF hM ?_; simp (config := { maxSteps := 4000000 }) (disch := (omega)) only [go_sem, Nat.reduceLT, Nat.reduceEqDiff, reduceIte, Nat.reduceAdd, Nat.reduceSub, Nat.reduceLeDiff, Int.reduceEq, Int.reduceLT, Int.reduceLE, Int.reduceNeg, Int.reduceAdd, Int.reduceSub, Int.reduceToNat, Int.reduceMul, Nat.reduceMul, h1, h2])
        (refine JQ.run follows hF hM ?_; simp (config := { maxSteps := 4000000 }) (disch := (omega)) only [go_sem, Nat.reduceLT, Nat.reduceEqDiff, reduceIte, Nat.reduceAdd, Nat.reduceSub, Nat.reduceLeDiff, Int.reduceEq, Int.reduceLT, Int.reduceLE, Int.reduceNeg, Int.reduceAdd, Int.reduceSub, Int.reduceToNat, Int.reduceMul, Nat.reduceMul, res47, chkB_in h0 h1 h2])
  · (refine JQ.step follows hF hM ?_; simp (config := { maxSteps := 4000000 }) (disch := (omega)) only [go_sem, Nat.reduceLT, Nat.reduceEqDiff, reduceIte, Nat.reduceAdd, Nat.reduceSub, Nat.reduceLeDiff, Int.reduceEq, Int.reduceLT, Int.reduceLE, Int.reduceNeg, Int.reduceAdd, Int.reduceSub, Int.reduceToNat, Int.reduceMul, Nat.reduceMul, F1, f21, eq_false h0, res47, chkB_bad z h0])
theorem run54 (bs : List Nat) (z : Int) (hb : bs.length < 9223372036854775808) : JQ Try.prog drops Try.f54.ntmps F1 q54 256 (Kend res54 (Good 0 (.v (I (chkB bs z))))) (bind (.cons (.s bs) (.cons (I z) .nil)) 0 .lf) .lf 256 := by
  have hF := F1_ok
  have hM := F1_mono
  unfold q54
  (refine JQ.step follows hF hM ?_; simp (config := { maxSteps := 4000000 }) (disch := (omega)) only [go_sem, Nat.reduceLT, Nat.reduceEqDiff, reduceIte, Nat.reduceAdd, Nat.reduceSub, Nat.reduceLeDiff, Int.reduceEq, Int.reduceLT, Int.reduceLE, Int.reduceNeg, Int.reduceAdd, Int.reduceSub, Int.reduceToNat, Int.reduceMul, Nat.reduceMul])
  (refine JQ.step follows hF hM ?_; simp (config := { maxSteps := 4000000 }) (disch := (omega)) only [go_sem, Nat.reduceLT, Nat.reduceEqDiff, reduceIte, Nat.reduceAdd, Nat.reduceSub, Nat.reduceLeDiff, Int.reduceEq, Int.reduceLT, Int.reduceLE, Int.reduceNeg, Int.reduceAdd, Int.reduceSub, Int.reduceToNat, Int.reduceMul, Nat.reduceMul, F1, f21])
  by_cases h0 : chkS bs = 0
  · by_cases h1 : z < 0
    · have h1' : ¬ 0 ≤ z := by omega
      (refine JQ.step follows hF hM ?_; simp (config := { maxSteps := 4000000 }) (disch := (omega)) only [go_sem, Nat.reduceLT, Nat.reduceEqDiff, reduceIte, Nat.reduceAdd, Nat.reduceSub, Nat.reduceLeDiff, Int.reduceEq, Int.reduceLT, Int.reduceLE, Int.reduceNeg, Int.reduceAdd, Int.reduceSub, Int.reduceToNat, Int.reduceMul, Nat.reduceMul, F1, f61, eq_true h0, h1', Bool.false_and])
      (refine JQ.run follows hF hM ?_; simp (config := { maxSteps := 4000000 }) (disch := (omega)) only [go_sem, Nat.reduceLT, Nat.reduceEqDiff, reduceIte, Nat.reduceAdd, Nat.reduceSub, Nat.reduceLeDiff, Int.reduceEq, Int.reduceLT, Int.reduceLE, Int.reduceNeg, Int.reduceAdd, Int.reduceSub, Int.reduceToNat, Int.reduceMul, Nat.reduceMul, res54, chkB_low h0 h1])
    · have h1' : 0 ≤ z := by omega
      by_cases h2 : 20 < z
      · have h2' : ¬ z ≤ 20 := by omega
        (refine JQ.step follows hF hM ?_; simp (config := { maxSteps := 4000000 }) (disch := (omega)) only [go_sem, Nat.reduceLT, Nat.reduceEqDiff, reduceIte, Nat.reduceAdd, Nat.reduceSub, Nat.reduceLeDiff, Int.reduceEq, Int.reduceLT, Int.reduceLE, Int.reduceNeg, Int.reduceAdd, Int.reduceSub, Int.reduceToNat, Int.reduceMul, Nat.reduceMul, F1, f61, eq_true h0, h1', h2', Bool.and_false])
        (refine JQ.run follows hF hM ?_; simp (config := { maxSteps := 4000000 }) (disch := (omega)) only [go_sem, Nat.reduceLT, Nat.reduceEqDiff, reduceIte, Nat.reduceAdd, Nat.reduceSub, Nat.reduceLeDiff, Int.reduceEq, Int.reduceLT, Int.reduceLE, Int.reduceNeg, Int.reduceAdd, Int.reduceSub, Int.reduceToNat, Int.reduceMul, Nat.reduceMul, res54, chkB_high h0 h2])
      · have h2' : z ≤ 20 := by omega
        (refine JQ.step follows hF hM ?_; simp (config := { maxSteps := 4000000 }) (disch := (omega)) only [go_sem, Nat.reduceLT, Nat.reduceEqDiff, reduceIte, Nat.reduceAdd, Nat.reduceSub, Nat.reduceLeDiff, Int.reduceEq, Int.reduceLT, Int.reduceLE, Int.reduceNeg, Int.reduceAdd, Int.reduceSub, Int.reduceToNat, Int.reduceMul, Nat.reduceMul, F1, f61, eq_true h0, h1', h2'])
        (refine JQ.run follows hF hM ?_; simp (config := { maxSteps := 4000000 }) (disch := (omega)) only [go_sem, Nat.reduceLT, Nat.reduceEqDiff, reduceIte, Nat.reduceAdd, Nat.reduceSub, Nat.reduceLeDiff, Int.reduceEq, Int.reduceLT, Int.reduceLE, Int.reduceNeg, Int.reduceAdd, Int.reduceSub, Int.reduceToNat, Int.reduceMul, Nat.reduceMul, res54, chkB_in h0 h1 h2, h0])
  · (refine JQ.step follows hF hM ?_; simp (config := { maxSteps := 4000000 }) (disch := (omega)) only [go_sem, Nat.reduceLT, Nat.reduceEqDiff, reduceIte, Nat.reduceAdd, Nat.reduceSub, Nat.reduceLeDiff, Int.reduceEq, Int.reduceLT, Int.reduceLE, Int.reduceNeg, Int.reduceAdd, Int.reduceSub, Int.reduceToNat, Int.reduceMul, Nat.reduceMul, F1, eq_false h0])
    (refine JQ.run follows hF hM ?_; simp (config := { maxSteps := 4000000 }) (disch := (omega)) only [go_sem, Nat.reduceLT, Nat.reduceEqDiff, reduceIte, Nat.reduceAdd, Nat.reduceSub, Nat.reduceLeDiff, Int.reduceEq, Int.reduceLT, Int.reduceLE, Int.reduceNeg, Int.reduceAdd, Int.reduceSub, Int.reduceToNat, Int.reduceMul, Nat.reduceMul, res54, chkB_bad z h0])
noncomputable def f47 (bs : List Nat) (z : Int) : Out := if bs.length < 9223372036854775808 then .v (I (chkB bs z)) else .no
theorem ok47 : SOK Try.prog 47 (spSI f47) := spSI_ok fun bs z lim h n v h' n' hr => by
  unfold f47 at hr
  split at hr
  · rename_i hb; exact outC Try.func47 n47 b47 k47 r47 (Ins.none h) (by simp [L.length]) (ren_nil_rel (by simp only [purL_cons, purL_nil, pur_s, I_pur, Bool.and_self])) (.v (I (chkB bs z))) (I_pur _) (run47 bs z hb) lim n hr
  · cases hr
theorem ok54 : SOK Try.prog 54 (spSI f47) := spSI_ok fun bs z lim h n v h' n' hr => by
  unfold f47 at hr
  split at hr
  · rename_i hb; exact outC Try.func54 n54 b54 k54 r54 (Ins.none h) (by simp [L.length]) (ren_nil_rel (by simp only [purL_cons, purL_nil, pur_s, I_pur, Bool.and_self])) (.v (I (chkB bs z))) (I_pur _) (run54 bs z hb) lim n hr
  · cases hr
end Go.Proofs.Ytkdbgkibifigiaa.Ev
