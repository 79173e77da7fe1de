/- A fan as it is kept: the first empty place, a kind put in. -/
import Derived.Test.YtcgkcdgpmopdnaaTfB
namespace Go.Proofs.Ytcgkcdgpmopdnaa.Ev
set_option linter.unusedVariables false
set_option linter.unusedSimpArgs false
open Go Go.Proofs
attribute [local go_sem] evC_seq evC_reg evC_cond evC_block evC_skip evC_exit evC_ret evR_cons evR_nil evR_gd guardB_tt guardB_ff guardB_tf guardB_ft guardB_none bindR_ok bindR_okn rgRs_ok seqR_nor seqR_ext seqR_ret condR_true condR_false blockR_nor blockR_ext blockR_ret evX_t evX_c evXL_nil evXL_cons O_mv O_bin O_pick O_eqb O_not O_ext O_call O_conv O_slen O_six O_sbi pv_I pv_i pv_b pv_s pv_ns pv_sl pv_p pv_tu pv_ag bin_lss bin_leq bin_gtr bin_geq bin_eql bin_neq bin8_eql bin8_neq bin_add bin_sub bin_mul get_st get_lf bind_nil bind_cons if_true if_false Got_nor Got_ext Got_ret Kseq Kblk Klp Kend onStr_s onB_b onT_tu onI_I onN_I onK_I eqb_b not_b nthL_0 nthL_1 nthL_2 known_nil known_cons I_known known_b known_s evRVs_nil evRVs_cons evRes_1 evRes_2 evRV_tmp Bool.and_true Bool.true_and Bool.and_self Bool.not_true Bool.not_false decide_true decide_false Int.toNat_natCast true_and and_true big hget_same hget_ne newB_n onP_p onS_sl onS_ns O_fad O_alloc_if O_ixs O_len O_ld O_st O_box boxB_if ldB_if ldB_agif stB_if stB_wif toL_I toL_i toL_b toL_s toL_sl toL_ns toL_ag allC_nil allC_cons isC_i isC_b isC_s isC_sl isC_ns I_isC Llen_nil Llen_cons Lget_0 Lget_1 Lget_2 Lget_3 blkL_size cell_blkL_if getL_blkL_if getL_setL_if setL_sz evRV_cell' rvB_agif rvB_if evPL_cons bldK_if evPL_nil O_build O_part evBuild_ok okL_some onA_ag partV_1 evPart_eq updS_nil updS_cons upd_0 upd_1 upd_2 upd_3 ge_iff_le if_pos and_self Nat.le_refl known_ag known_sl known_ns known_i ov_at spS_eq spSI_eq spSII_eq spI_eq spII_eq spIII_eq spIIII_eq res_v res_sl res_slE Good I_pur pur_b pur_s pur_i pur_ns pur_ag pur_tu purL_nil purL_cons evDr_eq evDs_nil evDs_cons dsR_ok stepD_eq sdB_n sdB_g sdG_tt sdG_ff sdG_tf sdG_ft sdG_none runD_0 rdR_f rdR_t baseOf_pu baseOf_h baseU_nil baseA_nil baseA_0 baseR_nil baseR_0 baseR_00 appAll_nil appAll_0 restr_nil restr_cons setD_some setD_none evC_draw iL_len iL_get iL_allC iL_pur hp0_0 hp0_c rdL_ns rdL_sl List.length_cons List.length_nil O_mks mkB_if O_bsl bslB_if O_app apX_ns apX_sl apN_some apS_some blkL_el Nat.one_mul Nat.mul_one Nat.zero_add n_I onF_fn O_callv app_nil app_cons spLF_eq spL_eq spLL_eq onL_some onLL_ss onLL_ns onLL_sn onLL_nn rdB_blk Int.cast_ofNat_Int tlX_none tlX_some tlOf_cons tlOf_1 tlOf_1t tlM_none tlM_some

noncomputable def f57 (xs : List Int) (z : Int) : Out := if xs.length = 16 then .v (.b (hasB xs z)) else .no
theorem ok57 : SOK Try.prog 57 (spRI f57) := spRI_ok fun xs z lim h n v h' n' hr => by
  unfold f57 at hr
  split at hr
  · rename_i hb
    exact outC Try.func57 n57 b57 k57 r57 (Ins.none h) (by simp [L.length]) (ren_nil_rel (by simp only [purL_cons, purL_nil, pur_ag, iL_pur, I_pur, Bool.and_self])) (.v (.b (hasB xs z))) rfl (run57 xs z hb) lim n hr
  · cases hr
noncomputable def FA3 : FF := ov 57 (spRI f57) FA2
theorem FA3_ok : FOK Try.prog FA3 := ov_ok ok57 FA2_ok
theorem FA3_mono : FA3.mono := ov_mono (spRI_mo _) FA2_mono

/-- The first empty place. -/
def fe (K : Nat) (xs : List Int) : Nat := (xs.take (2 * K)).findIdx fun x => x == 0
theorem fe_at {K : Nat} {xs : List Int} {j : Nat} (hx : 2 * K ≤ xs.length) (h0 : ∀ i, i < j → At xs i ≠ 0) (hj : j < 2 * K) (h1 : At xs j = 0) : fe K xs = j := by
  unfold fe
  rw [List.findIdx_eq (by simp; omega)]
  have at_ : ∀ i, i < 2 * K → ∀ h, (xs.take (2 * K))[i]'h = At xs i := fun i hi h => by
    rw [List.getElem_take, At, List.getElem?_eq_getElem (by omega)]; rfl
  refine ⟨by rw [at_ j hj]; simp [h1], fun i hi => ?_⟩
  rw [at_ i (by omega)]
  simp [h0 i hi]
theorem fe_none {K : Nat} {xs : List Int} (hx : 2 * K ≤ xs.length) (h0 : ∀ i, i < 2 * K → At xs i ≠ 0) : fe K xs = 2 * K := by
  unfold fe
  rw [List.findIdx_eq_length_of_false]
  · simp; omega
  · intro x hx'
    obtain ⟨i, hi, e⟩ := List.getElem_of_mem hx'
    rw [List.length_take] at hi
    rw [← e, List.getElem_take]
    have := h0 i (by omega)
    rw [At, List.getElem?_eq_getElem (by omega)] at this
    simpa using this
theorem fe_le {K : Nat} {xs : List Int} (hx : 2 * K ≤ xs.length) : fe K xs ≤ 2 * K := by
  have := List.findIdx_le_length (xs := xs.take (2 * K)) (p := fun x => x == 0)
  unfold fe
  simp at this ⊢; omega
theorem run89 (K : Nat) (w : Bool) (xs : List Int) (hk : K ≤ 8) (hx : xs.length = 16) : JQ Try.prog drops Try.f89.ntmps FA3 q89 256 (Kend res89 (Good 0 (.v (I (fe K xs))))) (bind (.cons (.ag (ld K w xs)) .nil) 0 .lf) .lf 256 := by
  have hF := FA3_ok
  have hM := FA3_mono
  have hs : smI K := ⟨by omega, by omega⟩
  unfold q89
  (refine JQ.step follows hF hM ?_; simp (config := { maxSteps := 4000000 }) (disch := (omega)) only [go_sem, Nat.reduceLT, Nat.reduceEqDiff, reduceIte, Nat.reduceAdd, Nat.reduceSub, Nat.reduceLeDiff, Int.reduceEq, Int.reduceLT, Int.reduceLE, Int.reduceNeg, Int.reduceAdd, Int.reduceSub, Int.reduceToNat, Int.reduceMul, Nat.reduceMul, ld_len, ld_allC, hx])
  (refine JQ.step follows hF hM ?_; simp (config := { maxSteps := 4000000 }) (disch := (omega)) only [go_sem, Nat.reduceLT, Nat.reduceEqDiff, reduceIte, Nat.reduceAdd, Nat.reduceSub, Nat.reduceLeDiff, Int.reduceEq, Int.reduceLT, Int.reduceLE, Int.reduceNeg, Int.reduceAdd, Int.reduceSub, Int.reduceToNat, Int.reduceMul, Nat.reduceMul])
  refine JQ.seq ?_
  refine JQ.block ?_
  refine JQ.loop (σ := Nat) (fun j => j ≤ 2 * K ∧ ∀ i, i < j → At xs i ≠ 0) (fun j => (Tr.lf.set (.p (tp 255) 0) (tp 1)).set (I j) (tp 3))
    (fun j => Hp.lf.put (some (blkL 81 (ld K w xs))) (tp 255)) (fun _ => 257) (fun j => 2 * K - j) 0 ⟨Nat.zero_le _, fun i hi => by omega⟩ (by ((repeat' (first | exact EnvLe.lf _ | refine EnvLe.set (by decide) ?_ ?_)) <;> first | exact EnvLe.lf _ | (simp (config := { maxSteps := 4000000 }) (disch := (omega)) only [go_sem, Nat.reduceLT, Nat.reduceEqDiff, reduceIte, Nat.reduceAdd, Nat.reduceSub, Nat.reduceLeDiff, Int.reduceEq, Int.reduceLT, Int.reduceLE, Int.reduceNeg, Int.reduceAdd, Int.reduceSub, Int.reduceToNat, Int.reduceMul, Nat.reduceMul, Int.natCast_add, Int.cast_ofNat_Int]; done) | (simp (config := { maxSteps := 4000000 }) (disch := (omega)) only [go_sem, Nat.reduceLT, Nat.reduceEqDiff, reduceIte, Nat.reduceAdd, Nat.reduceSub, Nat.reduceLeDiff, Int.reduceEq, Int.reduceLT, Int.reduceLE, Int.reduceNeg, Int.reduceAdd, Int.reduceSub, Int.reduceToNat, Int.reduceMul, Nat.reduceMul, Int.natCast_add, Int.cast_ofNat_Int] <;> first | rfl | (congr 1; omega)))) (HpLe.refl _) rfl ?_
  rintro j ⟨hj, h0⟩
  unfold q89_l0
  by_cases hlt : j < 2 * K
  · have hlt' : (j : Int) < 2 * (K : Int) := by omega
    have hj16 : j < 16 := by omega
    by_cases h1 : At xs j = 0
    · (refine JQ.run follows hF hM ?_; simp (config := { maxSteps := 4000000 }) (disch := (omega)) only [go_sem, Nat.reduceLT, Nat.reduceEqDiff, reduceIte, Nat.reduceAdd, Nat.reduceSub, Nat.reduceLeDiff, Int.reduceEq, Int.reduceLT, Int.reduceLE, Int.reduceNeg, Int.reduceAdd, Int.reduceSub, Int.reduceToNat, Int.reduceMul, Nat.reduceMul, ld_len, hx, getL_blkL_if, FA3, FA2, FA1, spA_eq, f58, hs, hlt', O_ixa, onI_I, hj16, ld_2, eq_true h1])
      (refine JQ.run follows hF hM ?_; simp (config := { maxSteps := 4000000 }) (disch := (omega)) only [go_sem, Nat.reduceLT, Nat.reduceEqDiff, reduceIte, Nat.reduceAdd, Nat.reduceSub, Nat.reduceLeDiff, Int.reduceEq, Int.reduceLT, Int.reduceLE, Int.reduceNeg, Int.reduceAdd, Int.reduceSub, Int.reduceToNat, Int.reduceMul, Nat.reduceMul, res89, fe_at (by omega) h0 hlt h1])
    · (refine JQ.run follows hF hM ?_; simp (config := { maxSteps := 4000000 }) (disch := (omega)) only [go_sem, Nat.reduceLT, Nat.reduceEqDiff, reduceIte, Nat.reduceAdd, Nat.reduceSub, Nat.reduceLeDiff, Int.reduceEq, Int.reduceLT, Int.reduceLE, Int.reduceNeg, Int.reduceAdd, Int.reduceSub, Int.reduceToNat, Int.reduceMul, Nat.reduceMul, ld_len, hx, FA3, FA2, FA1, spA_eq, f58, hs, hlt', O_ixa, onI_I, hj16, ld_2, eq_false h1])
      refine ⟨j + 1, ⟨by omega, fun i hi => ?_⟩, by omega, by ((repeat' (first | exact EnvLe.lf _ | refine EnvLe.set (by decide) ?_ ?_)) <;> first | exact EnvLe.lf _ | (simp (config := { maxSteps := 4000000 }) (disch := (omega)) only [go_sem, Nat.reduceLT, Nat.reduceEqDiff, reduceIte, Nat.reduceAdd, Nat.reduceSub, Nat.reduceLeDiff, Int.reduceEq, Int.reduceLT, Int.reduceLE, Int.reduceNeg, Int.reduceAdd, Int.reduceSub, Int.reduceToNat, Int.reduceMul, Nat.reduceMul, Int.natCast_add, Int.cast_ofNat_Int]; done) | (simp (config := { maxSteps := 4000000 }) (disch := (omega)) only [go_sem, Nat.reduceLT, Nat.reduceEqDiff, reduceIte, Nat.reduceAdd, Nat.reduceSub, Nat.reduceLeDiff, Int.reduceEq, Int.reduceLT, Int.reduceLE, Int.reduceNeg, Int.reduceAdd, Int.reduceSub, Int.reduceToNat, Int.reduceMul, Nat.reduceMul, Int.natCast_add, Int.cast_ofNat_Int] <;> first | rfl | (congr 1; omega))), HpLe.refl _⟩
      rcases Nat.lt_or_ge i j with h | h
      · exact h0 i h
      · obtain rfl : i = j := by omega
        exact h1
  · obtain rfl : j = 2 * K := by omega
    (refine JQ.run follows hF hM ?_; simp (config := { maxSteps := 4000000 }) (disch := (omega)) only [go_sem, Nat.reduceLT, Nat.reduceEqDiff, reduceIte, Nat.reduceAdd, Nat.reduceSub, Nat.reduceLeDiff, Int.reduceEq, Int.reduceLT, Int.reduceLE, Int.reduceNeg, Int.reduceAdd, Int.reduceSub, Int.reduceToNat, Int.reduceMul, Nat.reduceMul, ld_len, hx, FA3, FA2, FA1, spA_eq, f58, hs, Int.natCast_mul, Int.cast_ofNat_Int, Int.lt_irrefl])
    (refine JQ.run follows hF hM ?_; simp (config := { maxSteps := 4000000 }) (disch := (omega)) only [go_sem, Nat.reduceLT, Nat.reduceEqDiff, reduceIte, Nat.reduceAdd, Nat.reduceSub, Nat.reduceLeDiff, Int.reduceEq, Int.reduceLT, Int.reduceLE, Int.reduceNeg, Int.reduceAdd, Int.reduceSub, Int.reduceToNat, Int.reduceMul, Nat.reduceMul, res89, fe_none (by omega) h0, Int.natCast_mul, Int.cast_ofNat_Int])
noncomputable def f89 (k : Int) (w : Bool) (xs : List Int) : Out := if (0 ≤ k ∧ k ≤ 8) ∧ xs.length = 16 then .v (I (fe k.toNat xs)) else .no
theorem ok89 : SOK Try.prog 89 (spA f89) := spA_ok fun k w xs lim h n v h' n' hr => by
  unfold f89 at hr
  split at hr
  · rename_i hb
    obtain ⟨K, rfl⟩ := Int.eq_ofNat_of_zero_le hb.1.1
    exact outC Try.func89 n89 b89 k89 r89 (Ins.none h) (by simp [L.length]) (ren_nil_rel (by simp only [purL_cons, purL_nil, pur_ag, ld_pur, I_pur, Bool.and_self])) (.v (I (fe K xs))) (I_pur _) (run89 K w xs (by omega) hb.2) lim n hr
  · cases hr

noncomputable def FA4 : FF := ov 89 (spA f89) FA3
theorem FA4_ok : FOK Try.prog FA4 := ov_ok ok89 FA3_ok
theorem FA4_mono : FA4.mono := ov_mono (spA_mo _) FA3_mono

/-- The second place of a kind. -/
def s2 (w : Bool) (P Z : Nat) : Nat := P + (if w then Z + 1 else Z)
/-- The error of a kind put in. -/
def putE (K : Nat) (w : Bool) (xs : List Int) (Z P : Nat) : Int :=
  if hasB xs Z then 6 else if ¬ s2 w P Z < 2 * K then 15 else if ¬ (At xs P = 0 ∧ At xs (s2 w P Z) = 0) then 16 else 0
noncomputable def putL (K : Nat) (w : Bool) (xs : List Int) (Z P : Nat) : L :=
  if putE K w xs Z P = 0 then ld K w ((xs.set P Z).set (s2 w P Z) Z) else zld
theorem ld_cell (el : TypeId) (k : Int) (w : Bool) (xs : List Int) {j : Nat} (h : j < xs.length) : (blkL el (ld k w xs)).cell (2 + j) = I (At xs j) := by
  rw [blkL_cell _ _ _ (by rw [ld_len]; omega), ld_2 _ _ _ h]
theorem ld_set2 (el : TypeId) (k : Int) (w : Bool) (xs : List Int) (i j : Nat) (z : Int) (n : Nat) (hn : n = xs.length + 2) (hi : i < xs.length) (hj : j < xs.length) (hx : xs.length ≤ 1000) :
    (((blkL el (ld k w xs)).setL (2 + i) (.cons (I z) .nil)).setL (2 + j) (.cons (I z) .nil)).getL 0 n = ld k w ((xs.set i z).set j z) := by
  subst hn
  have l1 : (L.cons (I z) .nil).length = 1 := rfl
  have c1 : (L.cons (I z) .nil).allC = true := by simp [L.allC, I_isC]
  refine L_ext (by rw [getL_length, ld_len]; simp) fun m hm => ?_
  rw [getL_length] at hm
  rw [getL_get _ _ _ _ hm, Nat.zero_add]
  by_cases e1 : m = 2 + j
  · subst e1
    rw [cell_setL_in _ _ _ _ (by rw [l1]; unfold maxSize; omega) (by unfold maxSize; omega) c1 (Nat.le_refl _) (by rw [l1]; omega), ld_2 _ _ _ (by simpa using hj)]
    simp [L.get, At, hj]
  · rw [cell_setL_out _ _ _ _ (by rw [l1]; unfold maxSize; omega) (by unfold maxSize; omega) (by rw [l1]; omega)]
    by_cases e2 : m = 2 + i
    · subst e2
      rw [cell_setL_in _ _ _ _ (by rw [l1]; unfold maxSize; omega) (by unfold maxSize; omega) c1 (Nat.le_refl _) (by rw [l1]; omega), ld_2 _ _ _ (by simpa using hi)]
      have : ¬ j = i := by omega
      simp [L.get, At, hi, this]
    · rw [cell_setL_out _ _ _ _ (by rw [l1]; unfold maxSize; omega) (by unfold maxSize; omega) (by rw [l1]; omega), blkL_cell _ _ _ (by rw [ld_len]; omega)]
      match m, e1, e2, hm with
      | 0, _, _, _ => rfl
      | 1, _, _, _ => rfl
      | m + 2, e1, e2, hm =>
        rw [Nat.add_comm m 2, ld_2 _ _ _ (by omega), ld_2 _ _ _ (by simp; omega)]
        have h1 : ¬ j = m := by omega
        have h2 : ¬ i = m := by omega
        simp [At, h1, h2]
set_option maxHeartbeats 1000000 in
theorem run59 (K : Nat) (w : Bool) (xs : List Int) (Z P : Nat) (hk : K ≤ 8) (hx : xs.length = 16) (hz : 1 ≤ Z) (hz2 : Z ≤ 100) (hp : P < 2 * K) : JQ Try.prog drops Try.f59.ntmps FA4 q59 256 (Kend res59 (Good 0 (.v (.tu (.cons (.ag (putL K w xs Z P)) (.cons (I (putE K w xs Z P)) .nil)))))) (bind (.cons (.ag (ld K w xs)) (.cons (I Z) (.cons (I P) .nil))) 0 .lf) .lf 256 := by
  have hF := FA4_ok
  have hM := FA4_mono
  have hs : smI K := ⟨by omega, by omega⟩
  have hzs : smI Z := ⟨by omega, by omega⟩
  have hP16 : P < 16 := by omega
  obtain ⟨D, hD⟩ : ∃ D : Nat, D = if w then Z + 1 else Z := ⟨_, rfl⟩
  have hd : (if w = true then (Z : Int) + 1 else (Z : Int)) = (D : Int) := by rw [hD]; cases w <;> simp
  have hDb : 1 ≤ D ∧ D ≤ 101 := by rw [hD]; cases w <;> simp <;> omega
  have hS : s2 w P Z = P + D := by rw [s2, hD]
  have hSn : ((P : Int) + (D : Int)).toNat = P + D := by omega
  have hS0 : (0 : Int) ≤ (P : Int) + (D : Int) := by omega
  have hz0 : ∀ e : Int, putE K w xs Z P = e → e ≠ 0 → putL K w xs Z P = zld := fun e h0 h1 => if_neg (by rw [h0]; exact h1)
  have hz1 := zld_len
  clear hD
  unfold q59
  (refine JQ.step follows hF hM ?_; simp (config := { maxSteps := 4000000 }) (disch := (omega)) only [go_sem, Nat.reduceLT, Nat.reduceEqDiff, reduceIte, Nat.reduceAdd, Nat.reduceSub, Nat.reduceLeDiff, Int.reduceEq, Int.reduceLT, Int.reduceLE, Int.reduceNeg, Int.reduceAdd, Int.reduceSub, Int.reduceToNat, Int.reduceMul, Nat.reduceMul, zld_len, zld_allC, ld_len, ld_allC, hx])
  by_cases h1 : hasB xs Z = true
  · have hE : putE K w xs Z P = 6 := if_pos h1
    have hL := hz0 6 hE (by decide)
    (refine JQ.step follows hF hM ?_; simp (config := { maxSteps := 4000000 }) (disch := (omega)) only [go_sem, Nat.reduceLT, Nat.reduceEqDiff, reduceIte, Nat.reduceAdd, Nat.reduceSub, Nat.reduceLeDiff, Int.reduceEq, Int.reduceLT, Int.reduceLE, Int.reduceNeg, Int.reduceAdd, Int.reduceSub, Int.reduceToNat, Int.reduceMul, Nat.reduceMul, zld_len, zld_allC, zld_pur, ld_len, hx, ld_row, FA4, FA3, spRI_eq, f57, h1, res59, hE, hL])
  · have h1' : hasB xs Z = false := by simpa using h1
    (refine JQ.step follows hF hM ?_; simp (config := { maxSteps := 4000000 }) (disch := (omega)) only [go_sem, Nat.reduceLT, Nat.reduceEqDiff, reduceIte, Nat.reduceAdd, Nat.reduceSub, Nat.reduceLeDiff, Int.reduceEq, Int.reduceLT, Int.reduceLE, Int.reduceNeg, Int.reduceAdd, Int.reduceSub, Int.reduceToNat, Int.reduceMul, Nat.reduceMul, zld_len, zld_allC, zld_pur, ld_len, hx, ld_row, FA4, FA3, spRI_eq, f57, h1'])
    (refine JQ.step follows hF hM ?_; simp (config := { maxSteps := 4000000 }) (disch := (omega)) only [go_sem, Nat.reduceLT, Nat.reduceEqDiff, reduceIte, Nat.reduceAdd, Nat.reduceSub, Nat.reduceLeDiff, Int.reduceEq, Int.reduceLT, Int.reduceLE, Int.reduceNeg, Int.reduceAdd, Int.reduceSub, Int.reduceToNat, Int.reduceMul, Nat.reduceMul, zld_len, zld_allC, zld_pur, ld_len, hx, getL_blkL_if, FA4, FA3, FA2, FA1, spAI_eq, f85, hzs, hd])
    by_cases h2 : P + D < 2 * K
    · have h2' : (P : Int) + (D : Int) < 2 * (K : Int) := by omega
      have hS16 : P + D < 16 := by omega
      (refine JQ.step follows hF hM ?_; simp (config := { maxSteps := 4000000 }) (disch := (omega)) only [go_sem, Nat.reduceLT, Nat.reduceEqDiff, reduceIte, Nat.reduceAdd, Nat.reduceSub, Nat.reduceLeDiff, Int.reduceEq, Int.reduceLT, Int.reduceLE, Int.reduceNeg, Int.reduceAdd, Int.reduceSub, Int.reduceToNat, Int.reduceMul, Nat.reduceMul, zld_len, zld_allC, zld_pur, ld_len, hx, getL_blkL_if, FA4, FA3, FA2, FA1, spAI_eq, f60, hs, hS0, h2'])
      have hPn : (0 : Int) ≤ (P : Int) := by omega
      by_cases h3 : At xs P = 0
      · by_cases h4 : At xs (P + D) = 0
        · have hE : putE K w xs Z P = 0 := by rw [putE, if_neg h1, if_neg (by rw [hS]; simpa using h2), if_neg (by rw [hS]; simp [h3, h4])]
          have hL : putL K w xs Z P = ld K w ((xs.set P Z).set (P + D) Z) := by rw [putL, if_pos hE, hS]
          have hly : (ld (K : Int) w ((xs.set P (Z : Int)).set (P + D) (Z : Int))).length = 18 := by rw [ld_len]; simp [hx]
          have hg := ld_set2 81 K w xs P (P + D) Z 18 (by omega) (by omega) (by omega) (by omega)
          (refine JQ.step follows hF hM ?_; simp (config := { maxSteps := 4000000 }) (disch := (omega)) only [go_sem, Nat.reduceLT, Nat.reduceEqDiff, reduceIte, Nat.reduceAdd, Nat.reduceSub, Nat.reduceLeDiff, Int.reduceEq, Int.reduceLT, Int.reduceLE, Int.reduceNeg, Int.reduceAdd, Int.reduceSub, Int.reduceToNat, Int.reduceMul, Nat.reduceMul, zld_len, zld_allC, zld_pur, ld_len, hx, O_ixa, onI_I, hP16, hS16, hSn, hS0, ld_2, eq_true h3, eq_true h4])
          (refine JQ.step follows hF hM ?_; simp (config := { maxSteps := 4000000 }) (disch := (omega)) only [go_sem, Nat.reduceLT, Nat.reduceEqDiff, reduceIte, Nat.reduceAdd, Nat.reduceSub, Nat.reduceLeDiff, Int.reduceEq, Int.reduceLT, Int.reduceLE, Int.reduceNeg, Int.reduceAdd, Int.reduceSub, Int.reduceToNat, Int.reduceMul, Nat.reduceMul, zld_len, zld_allC, zld_pur, ld_len, hx, O_ixa, onI_I, hP16, hS16, hSn, hS0])
          (refine JQ.run follows hF hM ?_; simp (config := { maxSteps := 4000000 }) (disch := (omega)) only [go_sem, Nat.reduceLT, Nat.reduceEqDiff, reduceIte, Nat.reduceAdd, Nat.reduceSub, Nat.reduceLeDiff, Int.reduceEq, Int.reduceLT, Int.reduceLE, Int.reduceNeg, Int.reduceAdd, Int.reduceSub, Int.reduceToNat, Int.reduceMul, Nat.reduceMul, zld_len, zld_allC, ld_len, ld_pur, hx, hly, hg, ld_allC, List.length_set, res59, hE, hL])
        · have hE : putE K w xs Z P = 16 := by rw [putE, if_neg h1, if_neg (by rw [hS]; simpa using h2), if_pos (by rw [hS]; simp [h4])]
          have hL := hz0 16 hE (by decide)
          (refine JQ.step follows hF hM ?_; simp (config := { maxSteps := 4000000 }) (disch := (omega)) only [go_sem, Nat.reduceLT, Nat.reduceEqDiff, reduceIte, Nat.reduceAdd, Nat.reduceSub, Nat.reduceLeDiff, Int.reduceEq, Int.reduceLT, Int.reduceLE, Int.reduceNeg, Int.reduceAdd, Int.reduceSub, Int.reduceToNat, Int.reduceMul, Nat.reduceMul, zld_len, zld_allC, zld_pur, ld_len, hx, O_ixa, onI_I, hP16, hS16, hSn, hS0, ld_2, eq_true h3, eq_false h4, res59, hE, hL])
      · have hE : putE K w xs Z P = 16 := by rw [putE, if_neg h1, if_neg (by rw [hS]; simpa using h2), if_pos (by rw [hS]; simp [h3])]
        have hL := hz0 16 hE (by decide)
        (refine JQ.step follows hF hM ?_; simp (config := { maxSteps := 4000000 }) (disch := (omega)) only [go_sem, Nat.reduceLT, Nat.reduceEqDiff, reduceIte, Nat.reduceAdd, Nat.reduceSub, Nat.reduceLeDiff, Int.reduceEq, Int.reduceLT, Int.reduceLE, Int.reduceNeg, Int.reduceAdd, Int.reduceSub, Int.reduceToNat, Int.reduceMul, Nat.reduceMul, zld_len, zld_allC, zld_pur, ld_len, hx, O_ixa, onI_I, hP16, hS16, hSn, hS0, ld_2, eq_false h3, res59, hE, hL])
    · have h2' : ¬ (P : Int) + (D : Int) < 2 * (K : Int) := by omega
      have hE : putE K w xs Z P = 15 := by rw [putE, if_neg h1, if_pos (by rw [hS]; exact h2)]
      have hL := hz0 15 hE (by decide)
      (refine JQ.step follows hF hM ?_; simp (config := { maxSteps := 4000000 }) (disch := (omega)) only [go_sem, Nat.reduceLT, Nat.reduceEqDiff, reduceIte, Nat.reduceAdd, Nat.reduceSub, Nat.reduceLeDiff, Int.reduceEq, Int.reduceLT, Int.reduceLE, Int.reduceNeg, Int.reduceAdd, Int.reduceSub, Int.reduceToNat, Int.reduceMul, Nat.reduceMul, zld_len, zld_allC, zld_pur, ld_len, hx, getL_blkL_if, FA4, FA3, FA2, FA1, spAI_eq, f60, hs, hS0, h2', res59, hE, hL, Bool.and_false])
end Go.Proofs.Ytcgkcdgpmopdnaa.Ev
