/- A fan as it is kept: a row without a kind, what a row has, the first empty place, a kind put in. -/
import Derived.Test.YtcgkcdgpmopdnaaTfA
namespace Go.Proofs.Ytcgkcdgpmopdnaa.Ev
set_option linter.unusedVariables false
set_option linter.unusedSimpArgs false
open Go Go.Proofs
attribute [local go_sem] evC_seq evC_reg evC_cond evC_block evC_skip evC_exit evC_ret evR_cons evR_nil evR_gd guardB_tt guardB_ff guardB_tf guardB_ft guardB_none bindR_ok bindR_okn rgRs_ok seqR_nor seqR_ext seqR_ret condR_true condR_false blockR_nor blockR_ext blockR_ret evX_t evX_c evXL_nil evXL_cons O_mv O_bin O_pick O_eqb O_not O_ext O_call O_conv O_slen O_six O_sbi pv_I pv_i pv_b pv_s pv_ns pv_sl pv_p pv_tu pv_ag bin_lss bin_leq bin_gtr bin_geq bin_eql bin_neq bin8_eql bin8_neq bin_add bin_sub bin_mul get_st get_lf bind_nil bind_cons if_true if_false Got_nor Got_ext Got_ret Kseq Kblk Klp Kend onStr_s onB_b onT_tu onI_I onN_I onK_I eqb_b not_b nthL_0 nthL_1 nthL_2 known_nil known_cons I_known known_b known_s evRVs_nil evRVs_cons evRes_1 evRes_2 evRV_tmp Bool.and_true Bool.true_and Bool.and_self Bool.not_true Bool.not_false decide_true decide_false Int.toNat_natCast true_and and_true big hget_same hget_ne newB_n onP_p onS_sl onS_ns O_fad O_alloc_if O_ixs O_len O_ld O_st O_box boxB_if ldB_if ldB_agif stB_if stB_wif toL_I toL_i toL_b toL_s toL_sl toL_ns toL_ag allC_nil allC_cons isC_i isC_b isC_s isC_sl isC_ns I_isC Llen_nil Llen_cons Lget_0 Lget_1 Lget_2 Lget_3 blkL_size cell_blkL_if getL_blkL_if getL_setL_if setL_sz evRV_cell' rvB_agif rvB_if evPL_cons bldK_if evPL_nil O_build O_part evBuild_ok okL_some onA_ag partV_1 evPart_eq updS_nil updS_cons upd_0 upd_1 upd_2 upd_3 ge_iff_le if_pos and_self Nat.le_refl known_ag known_sl known_ns known_i ov_at spS_eq spSI_eq spSII_eq spI_eq spII_eq spIII_eq spIIII_eq res_v res_sl res_slE Good I_pur pur_b pur_s pur_i pur_ns pur_ag pur_tu purL_nil purL_cons evDr_eq evDs_nil evDs_cons dsR_ok stepD_eq sdB_n sdB_g sdG_tt sdG_ff sdG_tf sdG_ft sdG_none runD_0 rdR_f rdR_t baseOf_pu baseOf_h baseU_nil baseA_nil baseA_0 baseR_nil baseR_0 baseR_00 appAll_nil appAll_0 restr_nil restr_cons setD_some setD_none evC_draw iL_len iL_get iL_allC iL_pur hp0_0 hp0_c rdL_ns rdL_sl List.length_cons List.length_nil O_mks mkB_if O_bsl bslB_if O_app apX_ns apX_sl apN_some apS_some blkL_el Nat.one_mul Nat.mul_one Nat.zero_add n_I onF_fn O_callv app_nil app_cons spLF_eq spL_eq spLL_eq onL_some onLL_ss onLL_ns onLL_sn onLL_nn rdB_blk Int.cast_ofNat_Int tlX_none tlX_some tlOf_cons tlOf_1 tlOf_1t tlM_none tlM_some

/-- A row without a kind. -/
def wo (xs : List Int) (k : Int) : List Int := xs.map fun x => if x = k then 0 else x
theorem wo_len (xs : List Int) (k : Int) : (wo xs k).length = xs.length := by simp [wo]
def woT (xs : List Int) (k : Int) (j : Nat) : List Int := wo (xs.take j) k ++ xs.drop j
theorem woT_len (xs : List Int) (k : Int) (j : Nat) : (woT xs k j).length = xs.length := by simp [woT, wo]; omega
theorem woT_0 (xs : List Int) (k : Int) : woT xs k 0 = xs := by simp [woT, wo]
theorem woT_full (xs : List Int) (k : Int) (j : Nat) (h : j = xs.length) : woT xs k j = wo xs k := by subst h; simp [woT, wo]
theorem woT_succ {xs : List Int} {k : Int} {j : Nat} (h : j < xs.length) : woT xs k (j + 1) = (woT xs k j).set j (if At xs j = k then 0 else At xs j) := by
  unfold woT wo
  rw [take_At h, drop_At h, List.map_append, List.set_append_right _ _ (by simp [Nat.min_eq_left (Nat.le_of_lt h)])]
  simp [Nat.min_eq_left (Nat.le_of_lt h)]
theorem At_woT {xs : List Int} {k : Int} {j : Nat} (h : j < xs.length) : At (woT xs k j) j = At xs j := by
  unfold woT
  rw [At, List.getElem?_append_right (by simp [wo]; omega), drop_At h]
  simp [wo, Nat.min_eq_left (Nat.le_of_lt h)]
theorem set_self {ys : List Int} {j : Nat} (h : j < ys.length) : ys.set j (At ys j) = ys := by
  apply List.ext_getElem?
  intro i
  rw [List.getElem?_set]
  by_cases e : j = i
  · subst e; rw [if_pos rfl, if_pos h]; simp [At, h]
  · rw [if_neg e]
theorem run90 (xs : List Int) (z : Int) (hx : xs.length = 16) : JQ Try.prog drops Try.f90.ntmps F0 q90 256 (Kend res90 (Good 0 (.v (.ag (iL (wo xs z)))))) (bind (.cons (.ag (iL xs)) (.cons (I z) .nil)) 0 .lf) .lf 256 := by
  have hF := F0_ok Try.prog
  have hM := F0_mono
  unfold q90
  rw [z16_eq]
  (refine JQ.step follows hF hM ?_; simp (config := { maxSteps := 4000000 }) (disch := (omega)) only [go_sem, Nat.reduceLT, Nat.reduceEqDiff, reduceIte, Nat.reduceAdd, Nat.reduceSub, Nat.reduceLeDiff, Int.reduceEq, Int.reduceLT, Int.reduceLE, Int.reduceNeg, Int.reduceAdd, Int.reduceSub, Int.reduceToNat, Int.reduceMul, Nat.reduceMul, hx, List.length_replicate])
  refine JQ.seq ?_
  (refine JQ.step follows hF hM ?_; simp (config := { maxSteps := 4000000 }) (disch := (omega)) only [go_sem, Nat.reduceLT, Nat.reduceEqDiff, reduceIte, Nat.reduceAdd, Nat.reduceSub, Nat.reduceLeDiff, Int.reduceEq, Int.reduceLT, Int.reduceLE, Int.reduceNeg, Int.reduceAdd, Int.reduceSub, Int.reduceToNat, Int.reduceMul, Nat.reduceMul, hx])
  refine JQ.block ?_
  refine JQ.loop (σ := Nat) (fun j => j ≤ 16) (fun j => (((((Tr.lf.set (I z) (tp 1)).set (.p (tp 255) 0) (tp 2)).set (.p (tp 256) 0) (tp 4)).set (.ag (iL xs)) (tp 7)).set (I j) (tp 8)))
    (fun j => (Hp.lf.put (some (blkL 79 (iL (woT xs z j)))) (tp 255)).put (some (blkL 79 (iL (List.replicate 16 0)))) (tp 256)) (fun _ => 258) (fun j => 16 - j) 0 (Nat.zero_le _) (by ((repeat' (first | exact EnvLe.lf _ | refine EnvLe.set (by decide) ?_ ?_)) <;> first | exact EnvLe.lf _ | (simp (config := { maxSteps := 4000000 }) (disch := (omega)) only [go_sem, Nat.reduceLT, Nat.reduceEqDiff, reduceIte, Nat.reduceAdd, Nat.reduceSub, Nat.reduceLeDiff, Int.reduceEq, Int.reduceLT, Int.reduceLE, Int.reduceNeg, Int.reduceAdd, Int.reduceSub, Int.reduceToNat, Int.reduceMul, Nat.reduceMul, Int.natCast_add, Int.cast_ofNat_Int]; done) | (simp (config := { maxSteps := 4000000 }) (disch := (omega)) only [go_sem, Nat.reduceLT, Nat.reduceEqDiff, reduceIte, Nat.reduceAdd, Nat.reduceSub, Nat.reduceLeDiff, Int.reduceEq, Int.reduceLT, Int.reduceLE, Int.reduceNeg, Int.reduceAdd, Int.reduceSub, Int.reduceToNat, Int.reduceMul, Nat.reduceMul, Int.natCast_add, Int.cast_ofNat_Int] <;> first | rfl | (congr 1; omega)))) (by rw [woT_0]; exact HpLe.refl _) rfl ?_
  intro j hj
  unfold q90_l0
  by_cases hlt : j < 16
  · have hlt' : (j : Int) < 16 := by omega
    have hs := woT_succ (k := z) (by rw [hx]; exact hlt : j < xs.length)
    by_cases h1 : At xs j = z
    · rw [if_pos h1] at hs
      (refine JQ.run follows hF hM ?_; simp (config := { maxSteps := 4000000 }) (disch := (omega)) only [go_sem, Nat.reduceLT, Nat.reduceEqDiff, reduceIte, Nat.reduceAdd, Nat.reduceSub, Nat.reduceLeDiff, Int.reduceEq, Int.reduceLT, Int.reduceLE, Int.reduceNeg, Int.reduceAdd, Int.reduceSub, Int.reduceToNat, Int.reduceMul, Nat.reduceMul, hlt', O_idx, O_ixa, onI_I, hx, nth_iL, Nat.mul_one, eq_true h1, hlt, woT_len])
      refine ⟨j + 1, by omega, by omega, by ((repeat' (first | exact EnvLe.lf _ | refine EnvLe.set (by decide) ?_ ?_)) <;> first | exact EnvLe.lf _ | (simp (config := { maxSteps := 4000000 }) (disch := (omega)) only [go_sem, Nat.reduceLT, Nat.reduceEqDiff, reduceIte, Nat.reduceAdd, Nat.reduceSub, Nat.reduceLeDiff, Int.reduceEq, Int.reduceLT, Int.reduceLE, Int.reduceNeg, Int.reduceAdd, Int.reduceSub, Int.reduceToNat, Int.reduceMul, Nat.reduceMul, Int.natCast_add, Int.cast_ofNat_Int]; done) | (simp (config := { maxSteps := 4000000 }) (disch := (omega)) only [go_sem, Nat.reduceLT, Nat.reduceEqDiff, reduceIte, Nat.reduceAdd, Nat.reduceSub, Nat.reduceLeDiff, Int.reduceEq, Int.reduceLT, Int.reduceLE, Int.reduceNeg, Int.reduceAdd, Int.reduceSub, Int.reduceToNat, Int.reduceMul, Nat.reduceMul, Int.natCast_add, Int.cast_ofNat_Int] <;> first | rfl | (congr 1; omega))), ?_⟩
      rw [hs]
      exact HpLe.put ⟨blkL 79 (iL (List.replicate 16 0)), by simp (config := { maxSteps := 4000000 }) (disch := (omega)) only [go_sem, Nat.reduceLT, Nat.reduceEqDiff, reduceIte, Nat.reduceAdd, Nat.reduceSub, Nat.reduceLeDiff, Int.reduceEq, Int.reduceLT, Int.reduceLE, Int.reduceNeg, Int.reduceAdd, Int.reduceSub, Int.reduceToNat, Int.reduceMul, Nat.reduceMul], BlkLe.refl _⟩ (HpLe.put ⟨_, hget_same _ _ _, set_le (by rw [woT_len, hx]; exact hlt) (by rw [woT_len, hx]; omega)⟩ (HpLe.lf _))
    · rw [if_neg h1, ← At_woT (k := z) (by rw [hx]; exact hlt : j < xs.length), set_self (by rw [woT_len, hx]; exact hlt)] at hs
      (refine JQ.run follows hF hM ?_; simp (config := { maxSteps := 4000000 }) (disch := (omega)) only [go_sem, Nat.reduceLT, Nat.reduceEqDiff, reduceIte, Nat.reduceAdd, Nat.reduceSub, Nat.reduceLeDiff, Int.reduceEq, Int.reduceLT, Int.reduceLE, Int.reduceNeg, Int.reduceAdd, Int.reduceSub, Int.reduceToNat, Int.reduceMul, Nat.reduceMul, hlt', O_idx, O_ixa, onI_I, hx, nth_iL, Nat.mul_one, eq_false h1, hlt, woT_len])
      exact ⟨j + 1, by omega, by omega, by ((repeat' (first | exact EnvLe.lf _ | refine EnvLe.set (by decide) ?_ ?_)) <;> first | exact EnvLe.lf _ | (simp (config := { maxSteps := 4000000 }) (disch := (omega)) only [go_sem, Nat.reduceLT, Nat.reduceEqDiff, reduceIte, Nat.reduceAdd, Nat.reduceSub, Nat.reduceLeDiff, Int.reduceEq, Int.reduceLT, Int.reduceLE, Int.reduceNeg, Int.reduceAdd, Int.reduceSub, Int.reduceToNat, Int.reduceMul, Nat.reduceMul, Int.natCast_add, Int.cast_ofNat_Int]; done) | (simp (config := { maxSteps := 4000000 }) (disch := (omega)) only [go_sem, Nat.reduceLT, Nat.reduceEqDiff, reduceIte, Nat.reduceAdd, Nat.reduceSub, Nat.reduceLeDiff, Int.reduceEq, Int.reduceLT, Int.reduceLE, Int.reduceNeg, Int.reduceAdd, Int.reduceSub, Int.reduceToNat, Int.reduceMul, Nat.reduceMul, Int.natCast_add, Int.cast_ofNat_Int] <;> first | rfl | (congr 1; omega))), by rw [hs]; exact HpLe.refl _⟩
  · obtain rfl : j = 16 := by omega
    (refine JQ.run follows hF hM ?_; simp (config := { maxSteps := 4000000 }) (disch := (omega)) only [go_sem, Nat.reduceLT, Nat.reduceEqDiff, reduceIte, Nat.reduceAdd, Nat.reduceSub, Nat.reduceLeDiff, Int.reduceEq, Int.reduceLT, Int.reduceLE, Int.reduceNeg, Int.reduceAdd, Int.reduceSub, Int.reduceToNat, Int.reduceMul, Nat.reduceMul, Int.lt_irrefl])
    rw [woT_full _ _ _ hx.symm]
    (refine JQ.run follows hF hM ?_; simp (config := { maxSteps := 4000000 }) (disch := (omega)) only [go_sem, Nat.reduceLT, Nat.reduceEqDiff, reduceIte, Nat.reduceAdd, Nat.reduceSub, Nat.reduceLeDiff, Int.reduceEq, Int.reduceLT, Int.reduceLE, Int.reduceNeg, Int.reduceAdd, Int.reduceSub, Int.reduceToNat, Int.reduceMul, Nat.reduceMul, wo_len, hx, res90, List.length_replicate])

noncomputable def f90 (xs : List Int) (z : Int) : Out := if xs.length = 16 then .v (.ag (iL (wo xs z))) else .no
theorem ok90 : SOK Try.prog 90 (spRI f90) := spRI_ok fun xs z lim h n v h' n' hr => by
  unfold f90 at hr
  split at hr
  · rename_i hb
    exact outC Try.func90 n90 b90 k90 r90 (Ins.none h) (by simp [L.length]) (ren_nil_rel (by simp only [purL_cons, purL_nil, pur_ag, iL_pur, I_pur, Bool.and_self])) (.v (.ag (iL (wo xs z)))) (iL_pur _) (run90 xs z hb) lim n hr
  · cases hr
noncomputable def FA2 : FF := ov 90 (spRI f90) (ov 60 (spAI f60) (ov 56 (spAI f56) FA1))
theorem FA2_ok : FOK Try.prog FA2 := ov_ok ok90 (ov_ok ok60 (ov_ok ok56 FA1_ok))
theorem FA2_mono : FA2.mono := ov_mono (spRI_mo _) (ov_mono (spAI_mo _) (ov_mono (spAI_mo _) FA1_mono))

theorem eqAr_iL (xs ys : List Int) (hl : xs.length = ys.length) : ∀ (n i : Nat), i + n = xs.length → eqAr (eqSh .int) 1 false (iL xs) (iL ys) n i = .b (decide (xs.drop i = ys.drop i))
  | 0, i, h => by
    rw [List.drop_of_length_le (by omega), List.drop_of_length_le (by omega)]
    rfl
  | n + 1, i, h => by
    rw [eqAr, eqAr_iL xs ys hl n (i + 1) (by omega)]
    show andV (binV .eql (nthL (i * 1) (iL xs)) (nthL (i * 1) (iL ys))) _ = _
    rw [Nat.mul_one, nth_iL (by omega), nth_iL (by omega), bin_eql, drop_At (show i < xs.length by omega), drop_At (show i < ys.length by omega)]
    by_cases e : At xs i = At ys i
    · rw [e]
      show (Bool.rec (.b false) (.b (decide (xs.drop (i + 1) = ys.drop (i + 1)))) (decide (At ys i = At ys i)) : V) = _
      simp
    · show (Bool.rec (.b false) (.b (decide (xs.drop (i + 1) = ys.drop (i + 1)))) (decide (At xs i = At ys i)) : V) = _
      simp [e]
theorem eq16 (xs ys : List Int) (hx : xs.length = 16) (hy : ys.length = 16) : eqSh (.ar 16 1 false .int) (.ag (iL xs)) (.ag (iL ys)) = .b (decide (xs = ys)) := by
  show eqAr (eqSh .int) 1 false (iL xs) (iL ys) 16 0 = _
  rw [eqAr_iL xs ys (by omega) 16 0 (by omega)]
  rfl
theorem negV_t (t : Bool) : negV true (.b t) = .b (!t) := by cases t <;> rfl
theorem negV_f (t : Bool) : negV false (.b t) = .b t := by cases t <;> rfl
/-- That a row has a kind. -/
def hasB (xs : List Int) (z : Int) : Bool := !(decide (wo xs z = xs))
theorem run57 (xs : List Int) (z : Int) (hx : xs.length = 16) : JQ Try.prog drops Try.f57.ntmps FA2 q57 256 (Kend res57 (Good 0 (.v (.b (hasB xs z))))) (bind (.cons (.ag (iL xs)) (.cons (I z) .nil)) 0 .lf) .lf 256 := by
  have hF := FA2_ok
  have hM := FA2_mono
  have e := eq16 (wo xs z) xs (by rw [wo_len, hx]) hx
  unfold q57
  (refine JQ.step follows hF hM ?_; simp (config := { maxSteps := 4000000 }) (disch := (omega)) only [go_sem, Nat.reduceLT, Nat.reduceEqDiff, reduceIte, Nat.reduceAdd, Nat.reduceSub, Nat.reduceLeDiff, Int.reduceEq, Int.reduceLT, Int.reduceLE, Int.reduceNeg, Int.reduceAdd, Int.reduceSub, Int.reduceToNat, Int.reduceMul, Nat.reduceMul, hx])
  (refine JQ.run follows hF hM ?_; simp (config := { maxSteps := 4000000 }) (disch := (omega)) only [go_sem, Nat.reduceLT, Nat.reduceEqDiff, reduceIte, Nat.reduceAdd, Nat.reduceSub, Nat.reduceLeDiff, Int.reduceEq, Int.reduceLT, Int.reduceLE, Int.reduceNeg, Int.reduceAdd, Int.reduceSub, Int.reduceToNat, Int.reduceMul, Nat.reduceMul, hx, FA2, spRI_eq, f90, O_eqa, e, negV_t, res57, hasB])
end Go.Proofs.Ytcgkcdgpmopdnaa.Ev
