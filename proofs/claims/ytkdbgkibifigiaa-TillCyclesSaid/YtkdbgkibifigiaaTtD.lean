/- The till: the reference counts as the program does; numbers of orders. -/
import Derived.Test.YtkdbgkibifigiaaTtC
namespace Go.Proofs.Ytkdbgkibifigiaa.Ev
set_option linter.unusedVariables false
set_option linter.unusedSimpArgs false
set_option maxRecDepth 100000
open Go Go.Proofs
attribute [local go_sem] evC_seq evC_reg evC_cond evC_block evC_skip evC_exit evC_ret evR_cons evR_nil evR_gd guardB_tt guardB_ff guardB_tf guardB_ft guardB_none bindR_ok bindR_okn rgRs_ok seqR_nor seqR_ext seqR_ret condR_true condR_false blockR_nor blockR_ext blockR_ret evX_t evX_c evXL_nil evXL_cons O_mv O_bin O_pick O_eqb O_not O_ext O_call O_conv O_slen O_six O_sbi pv_I pv_i pv_b pv_s pv_ns pv_sl pv_p pv_tu pv_ag bin_lss bin_leq bin_gtr bin_geq bin_eql bin_neq bin8_eql bin8_neq bin_add bin_sub bin_mul get_st get_lf bind_nil bind_cons if_true if_false Got_nor Got_ext Got_ret Kseq Kblk Klp Kend onStr_s onB_b onT_tu onI_I onN_I onK_I eqb_b not_b nthL_0 nthL_1 nthL_2 known_nil known_cons I_known known_b known_s evRVs_nil evRVs_cons evRes_1 evRes_2 evRV_tmp Bool.and_true Bool.true_and Bool.and_self Bool.not_true Bool.not_false decide_true decide_false Int.toNat_natCast true_and and_true big hget_same hget_ne newB_n onP_p onS_sl onS_ns O_fad O_alloc_if O_ixs O_len O_ld O_st O_box boxB_if ldB_if ldB_agif stB_if toL_I toL_i toL_b toL_s toL_sl toL_ns toL_ag allC_nil allC_cons isC_i isC_b isC_s isC_sl isC_ns I_isC Llen_nil Llen_cons Lget_0 Lget_1 Lget_2 Lget_3 blkL_size cell_blkL_if getL_blkL_if getL_setL_if setL_sz evRV_cell' rvB_agif rvB_if evPL_cons bldK_if evPL_nil O_build O_part evBuild_ok okL_some onA_ag partV_1 evPart_eq updS_nil updS_cons upd_0 upd_1 upd_2 upd_3 ge_iff_le if_pos and_self Nat.le_refl known_ag known_sl known_ns known_i ov_at spS_eq spSI_eq spSII_eq spI_eq spII_eq spIII_eq spIIII_eq res_v res_sl res_slE Good I_pur pur_b pur_s pur_i pur_ns pur_ag pur_tu purL_nil purL_cons evDr_eq evDs_nil evDs_cons dsR_ok stepD_eq sdB_n sdB_g sdG_tt sdG_ff sdG_tf sdG_ft sdG_none runD_0 rdR_f rdR_t baseOf_pu baseOf_h baseU_nil baseA_nil baseA_0 baseR_nil baseR_0 baseR_00 appAll_nil appAll_0 restr_nil restr_cons setD_some setD_none evC_draw iL_len iL_get iL_allC iL_pur hp0_0 hp0_c rdL_ns rdL_sl List.length_cons List.length_nil O_mks mkB_if O_bsl bslB_if O_app apX_ns apX_sl apN_some apS_some blkL_el Nat.one_mul Nat.mul_one Nat.zero_add n_I onF_fn O_callv app_nil app_cons spLF_eq spL_eq spLL_eq onL_some onLL_ss onLL_ns onLL_sn onLL_nn rdB_blk Int.cast_ofNat_Int

noncomputable def f59 (c n b : Int) : Out := if 0 ≤ c ∧ 0 ≤ n ∧ c + n ≤ 16 ∧ 0 ≤ b ∧ b ≤ 100 then .v (I (T (b + c - n) c.toNat n.toNat)) else .no
theorem ok59 : SOK Try.prog 59 (spIII f59) := spIII_ok fun c m b lim h n v h' n' hr => by
  unfold f59 at hr
  split at hr
  · rename_i hb
    obtain ⟨c', rfl⟩ : ∃ c' : Nat, c = c' := ⟨c.toNat, by omega⟩
    obtain ⟨m', rfl⟩ : ∃ m' : Nat, m = m' := ⟨m.toNat, by omega⟩
    simp only [Int.toNat_natCast] at hr
    exact outC Try.func59 n59 b59 k59 r59 (Ins.none h) (by simp [L.length]) (ren_nil_rel (by simp only [purL_cons, purL_nil, I_pur, Bool.and_self])) (.v (I (T (b + c' - m') c' m'))) (I_pur _) (run59 c' m' b (by omega) hb.2.2.2.1 hb.2.2.2.2) lim n hr
  · cases hr

def wRec (c n b : Nat) : Int := ((if c = 0 ∧ n = 0 then 1 else 0) + if 0 < c then wF ((c - 1 : Nat) : Int) n ((b + 1 : Nat) : Int) else 0) + if 0 < n ∧ 0 < b then wF c ((n - 1 : Nat) : Int) ((b - 1 : Nat) : Int) else 0
theorem w_chk : ((List.range 17).all fun c => (List.range (17 - c)).all fun n => (List.range 41).all fun b => decide (wF c n b = wRec c n b)) = true := by decide +kernel
theorem w_rec {c n b : Nat} (h : c + n ≤ 16) (hb : b ≤ 40) : wF c n b = wRec c n b := by
  have h1 := List.all_eq_true.1 (List.all_eq_true.1 (List.all_eq_true.1 w_chk c (List.mem_range.2 (by omega))) n (List.mem_range.2 (by omega))) b (List.mem_range.2 (by omega))
  exact of_decide_eq_true h1
theorem T_W (d : Int) : ∀ (m c n : Nat), c + n = m → c + n ≤ 16 → d + n ≤ 40 → T d c n = if d - c + n < 0 then 0 else wF c n (d - c + n) := by
  intro m
  induction m with
  | zero =>
    intro c n h0 h1 h2
    obtain rfl : c = 0 := by omega
    obtain rfl : n = 0 := by omega
    by_cases hd : d - ((0 : Nat) : Int) + ((0 : Nat) : Int) < 0
    · rw [if_pos hd, T_neg hd]
    · rw [if_neg hd]
      obtain ⟨b, hb⟩ : ∃ b : Nat, d - ((0 : Nat) : Int) + ((0 : Nat) : Int) = b := ⟨_, (Int.toNat_of_nonneg (by omega)).symm⟩
      rw [T_eq (by omega), hb, w_rec (by omega) (by omega), wRec]
      simp
  | succ m ih =>
    intro c n h0 h1 h2
    by_cases hd : d - c + n < 0
    · rw [if_pos hd, T_neg hd]
    · rw [if_neg hd]
      obtain ⟨b, hb⟩ : ∃ b : Nat, d - c + n = b := ⟨_, (Int.toNat_of_nonneg (by omega)).symm⟩
      rw [T_eq (by omega), hb, w_rec (by omega) (by omega), wRec]
      congr 1
      · congr 1
        by_cases hc : 0 < c
        · rw [if_pos hc, if_pos hc, ih (c - 1) n (by omega) (by omega) (by omega), if_neg (by omega)]
          congr 1
          omega
        · rw [if_neg hc, if_neg hc]
      · by_cases hn : 0 < n ∧ 0 < b
        · rw [if_pos (by omega), if_pos hn, ih c (n - 1) (by omega) (by omega) (by omega), if_neg (by omega)]
          congr 1
          omega
        · rw [if_neg (by omega), if_neg hn]
/-- The table's last number is the ballot's. -/
theorem T_wF {c n : Nat} {b : Int} (h : c + n ≤ 16) (h0 : 0 ≤ b) (h1 : b + c ≤ 40) : T (b + c - n) c n = wF c n b := by
  rw [T_W _ _ c n rfl h (by omega), if_neg (by omega)]
  congr 1; omega

noncomputable def F30 : FF := ov 51 (spSI f51) (ov 52 (spSII f52) (ov 59 (spIII f59) F0))
theorem F30_ok : FOK Try.prog F30 := ov_ok ok51 (ov_ok ok52 (ov_ok ok59 (F0_ok _)))
theorem F30_mono : F30.mono := ov_mono (spSI_mo _) (ov_mono (spSII_mo _) (ov_mono (spIII_mo _) F0_mono))
theorem gdS_to {bs : List Nat} {b : Int} (h : gdS bs b = 0) : okTo bs bs.length := by
  have h1 := (gdS_z h).1
  unfold chkB at h1
  have h2 : chkS bs = 0 := by
    split at h1
    · assumption
    · exact h1
  unfold chkS at h2
  split at h2
  · cases h2
  · split at h2
    · assumption
    · cases h2
set_option maxHeartbeats 8000000 in
theorem run30 (bs : List Nat) (b : Int) (hb : bs.length < 9223372036854775808) : JQ Try.prog drops Try.f30.ntmps F30 q30 256 (Kend res30 (Good 0 (.v (tuI (nuV bs b) (gdS bs b))))) (bind (.cons (.s bs) (.cons (I b) .nil)) 0 .lf) .lf 256 := by
  have hF := F30_ok
  have hM := F30_mono
  unfold q30
  (refine JQ.step follows hF hM ?_; simp (config := { maxSteps := 4000000 }) (disch := (omega)) only [go_sem, Nat.reduceLT, Nat.reduceEqDiff, reduceIte, Nat.reduceAdd, Nat.reduceSub, Nat.reduceLeDiff, Int.reduceEq, Int.reduceLT, Int.reduceLE, Int.reduceNeg, Int.reduceAdd, Int.reduceSub, Int.reduceToNat, Int.reduceMul, Nat.reduceMul])
  (refine JQ.step follows hF hM ?_; simp (config := { maxSteps := 4000000 }) (disch := (omega)) only [go_sem, Nat.reduceLT, Nat.reduceEqDiff, reduceIte, Nat.reduceAdd, Nat.reduceSub, Nat.reduceLeDiff, Int.reduceEq, Int.reduceLT, Int.reduceLE, Int.reduceNeg, Int.reduceAdd, Int.reduceSub, Int.reduceToNat, Int.reduceMul, Nat.reduceMul, F30, f51])
  by_cases hg : gdS bs b = 0
  · obtain ⟨hcb, hp⟩ := gdS_z hg
    obtain ⟨c1, c2, c3⟩ := chkB_0 hcb
    have hto := gdS_to hg
    have e1 : nuV bs b = smS bs b bs.length := if_pos hg
    (refine JQ.step follows hF hM ?_; simp (config := { maxSteps := 4000000 }) (disch := (omega)) only [go_sem, Nat.reduceLT, Nat.reduceEqDiff, reduceIte, Nat.reduceAdd, Nat.reduceSub, Nat.reduceLeDiff, Int.reduceEq, Int.reduceLT, Int.reduceLE, Int.reduceNeg, Int.reduceAdd, Int.reduceSub, Int.reduceToNat, Int.reduceMul, Nat.reduceMul, eq_true hg])
    (refine JQ.step follows hF hM ?_; simp (config := { maxSteps := 4000000 }) (disch := (omega)) only [go_sem, Nat.reduceLT, Nat.reduceEqDiff, reduceIte, Nat.reduceAdd, Nat.reduceSub, Nat.reduceLeDiff, Int.reduceEq, Int.reduceLT, Int.reduceLE, Int.reduceNeg, Int.reduceAdd, Int.reduceSub, Int.reduceToNat, Int.reduceMul, Nat.reduceMul])
    refine JQ.seq ?_
    (refine JQ.step follows hF hM ?_; simp (config := { maxSteps := 4000000 }) (disch := (omega)) only [go_sem, Nat.reduceLT, Nat.reduceEqDiff, reduceIte, Nat.reduceAdd, Nat.reduceSub, Nat.reduceLeDiff, Int.reduceEq, Int.reduceLT, Int.reduceLE, Int.reduceNeg, Int.reduceAdd, Int.reduceSub, Int.reduceToNat, Int.reduceMul, Nat.reduceMul])
    refine JQ.block ?_
    refine JQ.loop (σ := Nat) (fun k => k ≤ bs.length) (fun k => (((Tr.lf.set (.s bs) (tp 0)).set (I b) (tp 1)).set (I (smS bs b k)) (tp 7)).set (I k) (tp 8)) (fun _ => .lf) (fun _ => 256) (fun k => bs.length - k) 0 (Nat.zero_le _) (by ((repeat' (first | exact EnvLe.lf _ | refine EnvLe.set (by decide) ?_ ?_)) <;> first | exact EnvLe.lf _ | (simp (config := { maxSteps := 4000000 }) (disch := (omega)) only [go_sem, Nat.reduceLT, Nat.reduceEqDiff, reduceIte, Nat.reduceAdd, Nat.reduceSub, Nat.reduceLeDiff, Int.reduceEq, Int.reduceLT, Int.reduceLE, Int.reduceNeg, Int.reduceAdd, Int.reduceSub, Int.reduceToNat, Int.reduceMul, Nat.reduceMul, smS, Int.natCast_add, Int.cast_ofNat_Int]; done) | (simp (config := { maxSteps := 4000000 }) (disch := (omega)) only [go_sem, Nat.reduceLT, Nat.reduceEqDiff, reduceIte, Nat.reduceAdd, Nat.reduceSub, Nat.reduceLeDiff, Int.reduceEq, Int.reduceLT, Int.reduceLE, Int.reduceNeg, Int.reduceAdd, Int.reduceSub, Int.reduceToNat, Int.reduceMul, Nat.reduceMul, smS, Int.natCast_add, Int.cast_ofNat_Int] <;> first | rfl | (congr 1; omega)))) (HpLe.refl _) rfl ?_
    intro k hk
    unfold q30_l1
    have hs := smS_rng c1 hp k hk
    have hl := left_rng bs hk
    by_cases hlt : k < bs.length
    · have hlt' : (k : Int) < (bs.length : Int) := by omega
      (refine JQ.step follows hF hM ?_; simp (config := { maxSteps := 4000000 }) (disch := (omega)) only [go_sem, Nat.reduceLT, Nat.reduceEqDiff, reduceIte, Nat.reduceAdd, Nat.reduceSub, Nat.reduceLeDiff, Int.reduceEq, Int.reduceLT, Int.reduceLE, Int.reduceNeg, Int.reduceAdd, Int.reduceSub, Int.reduceToNat, Int.reduceMul, Nat.reduceMul, small_len, hlt'])
      by_cases h9 : byt bs k = 99
      · have h10 : ¬ byt bs k = 110 := by omega
        have e3 : smS bs b (k + 1) = smS bs b k := by rw [smS, if_pos h9, Int.add_zero]
        (refine JQ.run follows hF hM ?_; simp (config := { maxSteps := 4000000 }) (disch := (omega)) only [go_sem, Nat.reduceLT, Nat.reduceEqDiff, reduceIte, Nat.reduceAdd, Nat.reduceSub, Nat.reduceLeDiff, Int.reduceEq, Int.reduceLT, Int.reduceLE, Int.reduceNeg, Int.reduceAdd, Int.reduceSub, Int.reduceToNat, Int.reduceMul, Nat.reduceMul, nthS_at hlt, eq_false h10])
        exact ⟨k + 1, by omega, by omega, by ((repeat' (first | exact EnvLe.lf _ | refine EnvLe.set (by decide) ?_ ?_)) <;> first | exact EnvLe.lf _ | (simp (config := { maxSteps := 4000000 }) (disch := (omega)) only [go_sem, Nat.reduceLT, Nat.reduceEqDiff, reduceIte, Nat.reduceAdd, Nat.reduceSub, Nat.reduceLeDiff, Int.reduceEq, Int.reduceLT, Int.reduceLE, Int.reduceNeg, Int.reduceAdd, Int.reduceSub, Int.reduceToNat, Int.reduceMul, Nat.reduceMul, e3, Int.natCast_add, Int.cast_ofNat_Int]; done) | (simp (config := { maxSteps := 4000000 }) (disch := (omega)) only [go_sem, Nat.reduceLT, Nat.reduceEqDiff, reduceIte, Nat.reduceAdd, Nat.reduceSub, Nat.reduceLeDiff, Int.reduceEq, Int.reduceLT, Int.reduceLE, Int.reduceNeg, Int.reduceAdd, Int.reduceSub, Int.reduceToNat, Int.reduceMul, Nat.reduceMul, e3, Int.natCast_add, Int.cast_ofNat_Int] <;> first | rfl | (congr 1; omega))), HpLe.refl _⟩
      · have h10 : byt bs k = 110 := (hto k hlt).resolve_left h9
        have ha := hp k hk
        have hx := aft_rng bs b k
        have hn := ncs_n h9
        have hl1 := left_rng bs (k := k + 1) (by omega)
        have hac := aft_ncs bs b k
        have hac2 := aft_ncs bs b bs.length
        refine JQ.cut ((((Tr.lf.set (.s bs) (tp 0)).set (I b) (tp 1)).set (I (smS bs b (k + 1))) (tp 7)).set (I k) (tp 8)) .lf 256 ?_ ?_
        · refine JQ.block ?_
          (refine JQ.step follows hF hM ?_; simp (config := { maxSteps := 4000000 }) (disch := (omega)) only [go_sem, Nat.reduceLT, Nat.reduceEqDiff, reduceIte, Nat.reduceAdd, Nat.reduceSub, Nat.reduceLeDiff, Int.reduceEq, Int.reduceLT, Int.reduceLE, Int.reduceNeg, Int.reduceAdd, Int.reduceSub, Int.reduceToNat, Int.reduceMul, Nat.reduceMul, nthS_at hlt, eq_true h10])
          refine JQ.cond (t := true) (by simp (config := { maxSteps := 4000000 }) (disch := (omega)) only [go_sem, Nat.reduceLT, Nat.reduceEqDiff, reduceIte, Nat.reduceAdd, Nat.reduceSub, Nat.reduceLeDiff, Int.reduceEq, Int.reduceLT, Int.reduceLE, Int.reduceNeg, Int.reduceAdd, Int.reduceSub, Int.reduceToNat, Int.reduceMul, Nat.reduceMul]) (fun _ => ?_) (fun h => by cases h)
          (refine JQ.step follows hF hM ?_; simp (config := { maxSteps := 4000000 }) (disch := (omega)) only [go_sem, Nat.reduceLT, Nat.reduceEqDiff, reduceIte, Nat.reduceAdd, Nat.reduceSub, Nat.reduceLeDiff, Int.reduceEq, Int.reduceLT, Int.reduceLE, Int.reduceNeg, Int.reduceAdd, Int.reduceSub, Int.reduceToNat, Int.reduceMul, Nat.reduceMul])
          refine JQ.seq ?_
          (refine JQ.step follows hF hM ?_; simp (config := { maxSteps := 4000000 }) (disch := (omega)) only [go_sem, Nat.reduceLT, Nat.reduceEqDiff, reduceIte, Nat.reduceAdd, Nat.reduceSub, Nat.reduceLeDiff, Int.reduceEq, Int.reduceLT, Int.reduceLE, Int.reduceNeg, Int.reduceAdd, Int.reduceSub, Int.reduceToNat, Int.reduceMul, Nat.reduceMul])
          refine JQ.block ?_
          refine JQ.loop (σ := Nat) (fun j => k ≤ j ∧ j ≤ bs.length) (fun j => ((((((Tr.lf.set (.s bs) (tp 0)).set (I b) (tp 1)).set (I (smS bs b k)) (tp 7)).set (I k) (tp 8)).set (I (ncs bs j - ncs bs k)) (tp 9)).set (I (nns bs j - nns bs k)) (tp 10)).set (I j) (tp 11)) (fun _ => .lf) (fun _ => 256) (fun j => bs.length - j) k ⟨Nat.le_refl _, hk⟩ (by ((repeat' (first | exact EnvLe.lf _ | refine EnvLe.set (by decide) ?_ ?_)) <;> first | exact EnvLe.lf _ | (simp (config := { maxSteps := 4000000 }) (disch := (omega)) only [go_sem, Nat.reduceLT, Nat.reduceEqDiff, reduceIte, Nat.reduceAdd, Nat.reduceSub, Nat.reduceLeDiff, Int.reduceEq, Int.reduceLT, Int.reduceLE, Int.reduceNeg, Int.reduceAdd, Int.reduceSub, Int.reduceToNat, Int.reduceMul, Nat.reduceMul, Int.sub_self, Int.natCast_add, Int.cast_ofNat_Int]; done) | (simp (config := { maxSteps := 4000000 }) (disch := (omega)) only [go_sem, Nat.reduceLT, Nat.reduceEqDiff, reduceIte, Nat.reduceAdd, Nat.reduceSub, Nat.reduceLeDiff, Int.reduceEq, Int.reduceLT, Int.reduceLE, Int.reduceNeg, Int.reduceAdd, Int.reduceSub, Int.reduceToNat, Int.reduceMul, Nat.reduceMul, Int.sub_self, Int.natCast_add, Int.cast_ofNat_Int] <;> first | rfl | (congr 1; omega)))) (HpLe.refl _) rfl ?_
          rintro j ⟨hj0, hj⟩
          unfold q30_l0
          have hm := ncs_mono bs (j - k) k
          rw [show k + (j - k) = j by omega] at hm
          have hr := ncs_rng bs j
          have hrk := ncs_rng bs k
          by_cases hjt : j < bs.length
          · have hjt' : (j : Int) < (bs.length : Int) := by omega
            by_cases h9' : byt bs j = 99
            · obtain ⟨e1', e2'⟩ := ncs_c h9'
              have e4 : ncs bs (j + 1) - ncs bs k = ncs bs j - ncs bs k + 1 := by omega
              have e5 : nns bs (j + 1) - nns bs k = nns bs j - nns bs k := by omega
              (refine JQ.run follows hF hM ?_; simp (config := { maxSteps := 4000000 }) (disch := (omega)) only [go_sem, Nat.reduceLT, Nat.reduceEqDiff, reduceIte, Nat.reduceAdd, Nat.reduceSub, Nat.reduceLeDiff, Int.reduceEq, Int.reduceLT, Int.reduceLE, Int.reduceNeg, Int.reduceAdd, Int.reduceSub, Int.reduceToNat, Int.reduceMul, Nat.reduceMul, small_len, hjt', nthS_at hjt, eq_true h9'])
              exact ⟨j + 1, by omega, by omega, by ((repeat' (first | exact EnvLe.lf _ | refine EnvLe.set (by decide) ?_ ?_)) <;> first | exact EnvLe.lf _ | (simp (config := { maxSteps := 4000000 }) (disch := (omega)) only [go_sem, Nat.reduceLT, Nat.reduceEqDiff, reduceIte, Nat.reduceAdd, Nat.reduceSub, Nat.reduceLeDiff, Int.reduceEq, Int.reduceLT, Int.reduceLE, Int.reduceNeg, Int.reduceAdd, Int.reduceSub, Int.reduceToNat, Int.reduceMul, Nat.reduceMul, e4, e5, Int.natCast_add, Int.cast_ofNat_Int]; done) | (simp (config := { maxSteps := 4000000 }) (disch := (omega)) only [go_sem, Nat.reduceLT, Nat.reduceEqDiff, reduceIte, Nat.reduceAdd, Nat.reduceSub, Nat.reduceLeDiff, Int.reduceEq, Int.reduceLT, Int.reduceLE, Int.reduceNeg, Int.reduceAdd, Int.reduceSub, Int.reduceToNat, Int.reduceMul, Nat.reduceMul, e4, e5, Int.natCast_add, Int.cast_ofNat_Int] <;> first | rfl | (congr 1; omega))), HpLe.refl _⟩
            · obtain ⟨e1', e2'⟩ := ncs_n h9'
              have e4 : ncs bs (j + 1) - ncs bs k = ncs bs j - ncs bs k := by omega
              have e5 : nns bs (j + 1) - nns bs k = nns bs j - nns bs k + 1 := by omega
              (refine JQ.run follows hF hM ?_; simp (config := { maxSteps := 4000000 }) (disch := (omega)) only [go_sem, Nat.reduceLT, Nat.reduceEqDiff, reduceIte, Nat.reduceAdd, Nat.reduceSub, Nat.reduceLeDiff, Int.reduceEq, Int.reduceLT, Int.reduceLE, Int.reduceNeg, Int.reduceAdd, Int.reduceSub, Int.reduceToNat, Int.reduceMul, Nat.reduceMul, small_len, hjt', nthS_at hjt, eq_false h9'])
              exact ⟨j + 1, by omega, by omega, by ((repeat' (first | exact EnvLe.lf _ | refine EnvLe.set (by decide) ?_ ?_)) <;> first | exact EnvLe.lf _ | (simp (config := { maxSteps := 4000000 }) (disch := (omega)) only [go_sem, Nat.reduceLT, Nat.reduceEqDiff, reduceIte, Nat.reduceAdd, Nat.reduceSub, Nat.reduceLeDiff, Int.reduceEq, Int.reduceLT, Int.reduceLE, Int.reduceNeg, Int.reduceAdd, Int.reduceSub, Int.reduceToNat, Int.reduceMul, Nat.reduceMul, e4, e5, Int.natCast_add, Int.cast_ofNat_Int]; done) | (simp (config := { maxSteps := 4000000 }) (disch := (omega)) only [go_sem, Nat.reduceLT, Nat.reduceEqDiff, reduceIte, Nat.reduceAdd, Nat.reduceSub, Nat.reduceLeDiff, Int.reduceEq, Int.reduceLT, Int.reduceLE, Int.reduceNeg, Int.reduceAdd, Int.reduceSub, Int.reduceToNat, Int.reduceMul, Nat.reduceMul, e4, e5, Int.natCast_add, Int.cast_ofNat_Int] <;> first | rfl | (congr 1; omega))), HpLe.refl _⟩
          · obtain rfl : j = bs.length := by omega
            have hw := wF_rng (c := ncs bs bs.length - ncs bs k - 1) (n := nns bs bs.length - nns bs k) (b := aft bs b k + 1) (by omega) (by omega) (by omega) (by omega)
            have e3 : smS bs b (k + 1) = smS bs b k + wF (ncs bs bs.length - ncs bs k - 1) (nns bs bs.length - nns bs k) (aft bs b k + 1) := by rw [smS, if_neg h9]
            (refine JQ.run follows hF hM ?_; simp (config := { maxSteps := 4000000 }) (disch := (omega)) only [go_sem, Nat.reduceLT, Nat.reduceEqDiff, reduceIte, Nat.reduceAdd, Nat.reduceSub, Nat.reduceLeDiff, Int.reduceEq, Int.reduceLT, Int.reduceLE, Int.reduceNeg, Int.reduceAdd, Int.reduceSub, Int.reduceToNat, Int.reduceMul, Nat.reduceMul, small_len, Int.lt_irrefl])
            by_cases hc : 0 < ncs bs bs.length - ncs bs k
            · have e4 : (k : Int).toNat = k := Int.toNat_natCast k
              have e5 : T (aft bs b k + 1 + (ncs bs bs.length - ncs bs k - 1) - (nns bs bs.length - nns bs k)) (ncs bs bs.length - ncs bs k - 1).toNat (nns bs bs.length - nns bs k).toNat = wF (ncs bs bs.length - ncs bs k - 1) (nns bs bs.length - nns bs k) (aft bs b k + 1) := by
                have hT := T_wF (c := (ncs bs bs.length - ncs bs k - 1).toNat) (n := (nns bs bs.length - nns bs k).toNat) (b := aft bs b k + 1) (by omega) (by omega) (by omega)
                rw [Int.toNat_of_nonneg (by omega), Int.toNat_of_nonneg (by omega)] at hT
                exact hT
              (refine JQ.run follows hF hM ?_; simp (config := { maxSteps := 4000000 }) (disch := (omega)) only [go_sem, Nat.reduceLT, Nat.reduceEqDiff, reduceIte, Nat.reduceAdd, Nat.reduceSub, Nat.reduceLeDiff, Int.reduceEq, Int.reduceLT, Int.reduceLE, Int.reduceNeg, Int.reduceAdd, Int.reduceSub, Int.reduceToNat, Int.reduceMul, Nat.reduceMul, hc, F30, f52, f59, e5, Kcut])
              exact ⟨by ((repeat' (first | exact EnvLe.lf _ | refine EnvLe.set (by decide) ?_ ?_)) <;> first | exact EnvLe.lf _ | (simp (config := { maxSteps := 4000000 }) (disch := (omega)) only [go_sem, Nat.reduceLT, Nat.reduceEqDiff, reduceIte, Nat.reduceAdd, Nat.reduceSub, Nat.reduceLeDiff, Int.reduceEq, Int.reduceLT, Int.reduceLE, Int.reduceNeg, Int.reduceAdd, Int.reduceSub, Int.reduceToNat, Int.reduceMul, Nat.reduceMul, e3, Int.natCast_add, Int.cast_ofNat_Int]; done) | (simp (config := { maxSteps := 4000000 }) (disch := (omega)) only [go_sem, Nat.reduceLT, Nat.reduceEqDiff, reduceIte, Nat.reduceAdd, Nat.reduceSub, Nat.reduceLeDiff, Int.reduceEq, Int.reduceLT, Int.reduceLE, Int.reduceNeg, Int.reduceAdd, Int.reduceSub, Int.reduceToNat, Int.reduceMul, Nat.reduceMul, e3, Int.natCast_add, Int.cast_ofNat_Int] <;> first | rfl | (congr 1; omega))), HpLe.refl _⟩
            · have e6 : wF (ncs bs bs.length - ncs bs k - 1) (nns bs bs.length - nns bs k) (aft bs b k + 1) = 0 := by rw [wF, if_pos (.inl (by omega))]
              rw [e6, Int.add_zero] at e3
              (refine JQ.run follows hF hM ?_; simp (config := { maxSteps := 4000000 }) (disch := (omega)) only [go_sem, Nat.reduceLT, Nat.reduceEqDiff, reduceIte, Nat.reduceAdd, Nat.reduceSub, Nat.reduceLeDiff, Int.reduceEq, Int.reduceLT, Int.reduceLE, Int.reduceNeg, Int.reduceAdd, Int.reduceSub, Int.reduceToNat, Int.reduceMul, Nat.reduceMul, hc, Kcut])
              exact ⟨by ((repeat' (first | exact EnvLe.lf _ | refine EnvLe.set (by decide) ?_ ?_)) <;> first | exact EnvLe.lf _ | (simp (config := { maxSteps := 4000000 }) (disch := (omega)) only [go_sem, Nat.reduceLT, Nat.reduceEqDiff, reduceIte, Nat.reduceAdd, Nat.reduceSub, Nat.reduceLeDiff, Int.reduceEq, Int.reduceLT, Int.reduceLE, Int.reduceNeg, Int.reduceAdd, Int.reduceSub, Int.reduceToNat, Int.reduceMul, Nat.reduceMul, e3, Int.natCast_add, Int.cast_ofNat_Int]; done) | (simp (config := { maxSteps := 4000000 }) (disch := (omega)) only [go_sem, Nat.reduceLT, Nat.reduceEqDiff, reduceIte, Nat.reduceAdd, Nat.reduceSub, Nat.reduceLeDiff, Int.reduceEq, Int.reduceLT, Int.reduceLE, Int.reduceNeg, Int.reduceAdd, Int.reduceSub, Int.reduceToNat, Int.reduceMul, Nat.reduceMul, e3, Int.natCast_add, Int.cast_ofNat_Int] <;> first | rfl | (congr 1; omega))), HpLe.refl _⟩
        · (refine JQ.run follows hF hM ?_; simp (config := { maxSteps := 4000000 }) (disch := (omega)) only [go_sem, Nat.reduceLT, Nat.reduceEqDiff, reduceIte, Nat.reduceAdd, Nat.reduceSub, Nat.reduceLeDiff, Int.reduceEq, Int.reduceLT, Int.reduceLE, Int.reduceNeg, Int.reduceAdd, Int.reduceSub, Int.reduceToNat, Int.reduceMul, Nat.reduceMul])
          exact ⟨k + 1, by omega, by omega, by ((repeat' (first | exact EnvLe.lf _ | refine EnvLe.set (by decide) ?_ ?_)) <;> first | exact EnvLe.lf _ | (simp (config := { maxSteps := 4000000 }) (disch := (omega)) only [go_sem, Nat.reduceLT, Nat.reduceEqDiff, reduceIte, Nat.reduceAdd, Nat.reduceSub, Nat.reduceLeDiff, Int.reduceEq, Int.reduceLT, Int.reduceLE, Int.reduceNeg, Int.reduceAdd, Int.reduceSub, Int.reduceToNat, Int.reduceMul, Nat.reduceMul, Int.natCast_add, Int.cast_ofNat_Int]; done) | (simp (config := { maxSteps := 4000000 }) (disch := (omega)) only [go_sem, Nat.reduceLT, Nat.reduceEqDiff, reduceIte, Nat.reduceAdd, Nat.reduceSub, Nat.reduceLeDiff, Int.reduceEq, Int.reduceLT, Int.reduceLE, Int.reduceNeg, Int.reduceAdd, Int.reduceSub, Int.reduceToNat, Int.reduceMul, Nat.reduceMul, Int.natCast_add, Int.cast_ofNat_Int] <;> first | rfl | (congr 1; omega))), HpLe.refl _⟩
    · obtain rfl : k = bs.length := by omega
      (refine JQ.run follows hF hM ?_; simp (config := { maxSteps := 4000000 }) (disch := (omega)) only [go_sem, Nat.reduceLT, Nat.reduceEqDiff, reduceIte, Nat.reduceAdd, Nat.reduceSub, Nat.reduceLeDiff, Int.reduceEq, Int.reduceLT, Int.reduceLE, Int.reduceNeg, Int.reduceAdd, Int.reduceSub, Int.reduceToNat, Int.reduceMul, Nat.reduceMul, small_len, Int.lt_irrefl])
      (refine JQ.run follows hF hM ?_; simp (config := { maxSteps := 4000000 }) (disch := (omega)) only [go_sem, Nat.reduceLT, Nat.reduceEqDiff, reduceIte, Nat.reduceAdd, Nat.reduceSub, Nat.reduceLeDiff, Int.reduceEq, Int.reduceLT, Int.reduceLE, Int.reduceNeg, Int.reduceAdd, Int.reduceSub, Int.reduceToNat, Int.reduceMul, Nat.reduceMul, res30, tuI, e1, hg])
  · have e1 : nuV bs b = 0 := if_neg hg
    (refine JQ.step follows hF hM ?_; simp (config := { maxSteps := 4000000 }) (disch := (omega)) only [go_sem, Nat.reduceLT, Nat.reduceEqDiff, reduceIte, Nat.reduceAdd, Nat.reduceSub, Nat.reduceLeDiff, Int.reduceEq, Int.reduceLT, Int.reduceLE, Int.reduceNeg, Int.reduceAdd, Int.reduceSub, Int.reduceToNat, Int.reduceMul, Nat.reduceMul, eq_false hg, res30, tuI, e1])
theorem ok30 : SOK Try.prog 30 (spSI f29) := spSI_ok fun bs b lim h n v h' n' hr => by
  unfold f29 at hr
  split at hr
  · rename_i hb
    exact outC Try.func30 n30 b30 k30 r30 (Ins.none h) (by simp [L.length]) (ren_nil_rel (by simp only [purL_cons, purL_nil, pur_s, I_pur, Bool.and_self])) (.v (tuI (nuV bs b) (gdS bs b))) (tuI_ok _ _) (run30 bs b hb) lim n hr
  · cases hr
end Go.Proofs.Ytkdbgkibifigiaa.Ev
