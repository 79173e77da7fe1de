/- The till: First and At, on both sides. -/
import Derived.Test.YtnimeahebnfjoaaTcC
namespace Go.Proofs.Ytnimeahebnfjoaa.Ev
set_option linter.unusedVariables false
set_option linter.unusedSimpArgs false
set_option maxRecDepth 100000
open Go Go.Proofs
attribute [local go_sem] evC_seq evC_reg evC_cond evC_block evC_skip evC_exit evC_ret evR_cons evR_nil evR_gd guardB_tt guardB_ff guardB_tf guardB_ft guardB_none bindR_ok bindR_okn rgRs_ok seqR_nor seqR_ext seqR_ret condR_true condR_false blockR_nor blockR_ext blockR_ret evX_t evX_c evXL_nil evXL_cons O_mv O_bin O_pick O_eqb O_not O_ext O_call O_conv O_slen O_six O_sbi pv_I pv_i pv_b pv_s pv_ns pv_sl pv_p pv_tu pv_ag bin_lss bin_leq bin_gtr bin_geq bin_eql bin_neq bin8_eql bin8_neq bin_add bin_sub bin_mul get_st get_lf bind_nil bind_cons if_true if_false Got_nor Got_ext Got_ret Kseq Kblk Klp Kend onStr_s onB_b onT_tu onI_I onN_I onK_I eqb_b not_b nthL_0 nthL_1 nthL_2 known_nil known_cons I_known known_b known_s evRVs_nil evRVs_cons evRes_1 evRes_2 evRV_tmp Bool.and_true Bool.true_and Bool.and_self Bool.not_true Bool.not_false decide_true decide_false Int.toNat_natCast true_and and_true big hget_same hget_ne newB_n onP_p onS_sl onS_ns O_fad O_alloc_if O_ixs O_len O_ld O_st O_box boxB_if ldB_if ldB_agif stB_if toL_I toL_i toL_b toL_s toL_sl toL_ns toL_ag allC_nil allC_cons isC_i isC_b isC_s isC_sl isC_ns I_isC Llen_nil Llen_cons Lget_0 Lget_1 Lget_2 Lget_3 blkL_size cell_blkL_if getL_blkL_if getL_setL_if setL_sz evRV_cell' rvB_agif rvB_if evPL_cons bldK_if evPL_nil O_build O_part evBuild_ok okL_some onA_ag partV_1 evPart_eq updS_nil updS_cons upd_0 upd_1 upd_2 upd_3 ge_iff_le if_pos and_self Nat.le_refl known_ag known_sl known_ns known_i ov_at spS_eq spSI_eq spSII_eq spI_eq spII_eq spIII_eq spIIII_eq res_v res_sl res_slE Good I_pur pur_b pur_s pur_i pur_ns pur_ag pur_tu purL_nil purL_cons evDr_eq evDs_nil evDs_cons dsR_ok stepD_eq sdB_n sdB_g sdG_tt sdG_ff sdG_tf sdG_ft sdG_none runD_0 rdR_f rdR_t baseOf_pu baseOf_h baseU_nil baseA_nil baseA_0 baseR_nil baseR_0 baseR_00 appAll_nil appAll_0 restr_nil restr_cons setD_some setD_none evC_draw iL_len iL_get iL_allC iL_pur hp0_0 hp0_c rdL_ns rdL_sl List.length_cons List.length_nil O_mks mkB_if O_bsl bslB_if O_app apX_ns apX_sl apN_some apS_some blkL_el Nat.one_mul Nat.mul_one Nat.zero_add n_I onF_fn O_callv app_nil app_cons spLF_eq spL_eq spLL_eq onL_some onLL_ss onLL_ns onLL_sn onLL_nn rdB_blk Int.cast_ofNat_Int

noncomputable def tuS (s : List Nat) (e : Int) : V := .tu (.cons (.s s) (.cons (I e) .nil))
theorem tuS_ok (s : List Nat) (e : Int) : (tuS s e).pur = true := by simp [tuS, V.pur, L.pur, I_pur]
def fiE (c n b : Int) : Int := if rsE c n b = 0 then (if wF c n b = 0 then 12 else 0) else 1
def fuL (c n : Int) : List Nat := List.replicate c.toNat 99 ++ List.replicate n.toNat 110
def fiS (c n b : Int) : List Nat := if fiE c n b = 0 then fuL c n else []
def atE (c n b x : Int) : Int := if rsE c n b = 0 then (if 0 ≤ x ∧ x < wF c n b then 0 else 1) else 1
def atS (c n b x : Int) : List Nat := if atE c n b x = 0 then ordS (c + n).toNat c n b x else []
theorem wF_le {c n b : Int} (h : ¬ wF c n b = 0) : n ≤ c + b := by
  by_cases h1 : c + b < n
  · exact absurd (by rw [wF, if_pos (.inr h1)]) h
  · omega
noncomputable def F25 : FF := ov 56 (spIII f56) (ov 57 (spA f57) (ov 60 (spAI f60) F0))
theorem F25_ok : FOK Try.prog F25 := ov_ok ok56 (ov_ok ok57 (ov_ok ok60 (F0_ok _)))
theorem F25_mono : F25.mono := ov_mono (spIII_mo _) (ov_mono (spA_mo _) (ov_mono (spAI_mo _) F0_mono))
set_option maxHeartbeats 8000000 in
theorem run25 (c n b : Int) : JQ Try.prog drops Try.f25.ntmps F25 q25 256 (Kend res25 (Good 0 (.v (tuS (fiS c n b) (fiE c n b))))) (bind (.cons (I c) (.cons (I n) (.cons (I b) .nil))) 0 .lf) .lf 256 := by
  have hF := F25_ok
  have hM := F25_mono
  unfold q25
  (refine JQ.step follows hF hM ?_; simp (config := { maxSteps := 4000000 }) (disch := (omega)) only [go_sem, Nat.reduceLT, Nat.reduceEqDiff, reduceIte, Nat.reduceAdd, Nat.reduceSub, Nat.reduceLeDiff, Int.reduceEq, Int.reduceLT, Int.reduceLE, Int.reduceNeg, Int.reduceAdd, Int.reduceSub, Int.reduceToNat, Int.reduceMul, Nat.reduceMul])
  by_cases h0 : rsE c n b = 0
  · obtain ⟨r0, r1, r2, r3, r4, r5⟩ := rsE_0 h0
    have hv := rsV_0 h0
    (refine JQ.step follows hF hM ?_; simp (config := { maxSteps := 4000000 }) (disch := (omega)) only [go_sem, Nat.reduceLT, Nat.reduceEqDiff, reduceIte, Nat.reduceAdd, Nat.reduceSub, Nat.reduceLeDiff, Int.reduceEq, Int.reduceLT, Int.reduceLE, Int.reduceNeg, Int.reduceAdd, Int.reduceSub, Int.reduceToNat, Int.reduceMul, Nat.reduceMul, F25, f56, hv])
    (refine JQ.step follows hF hM ?_; simp (config := { maxSteps := 4000000 }) (disch := (omega)) only [go_sem, Nat.reduceLT, Nat.reduceEqDiff, reduceIte, Nat.reduceAdd, Nat.reduceSub, Nat.reduceLeDiff, Int.reduceEq, Int.reduceLT, Int.reduceLE, Int.reduceNeg, Int.reduceAdd, Int.reduceSub, Int.reduceToNat, Int.reduceMul, Nat.reduceMul])
    by_cases hw : wF c n b = 0
    · have he : fiE c n b = 12 := by rw [fiE, if_pos h0, if_pos hw]
      have hs : fiS c n b = [] := by rw [fiS, if_neg (by rw [he]; decide)]
      (refine JQ.step follows hF hM ?_; simp (config := { maxSteps := 4000000 }) (disch := (omega)) only [go_sem, Nat.reduceLT, Nat.reduceEqDiff, reduceIte, Nat.reduceAdd, Nat.reduceSub, Nat.reduceLeDiff, Int.reduceEq, Int.reduceLT, Int.reduceLE, Int.reduceNeg, Int.reduceAdd, Int.reduceSub, Int.reduceToNat, Int.reduceMul, Nat.reduceMul, F25, spA_eq, f57, eq_true hw, tuS, he, hs, res25])
    · have he : fiE c n b = 0 := by rw [fiE, if_pos h0, if_neg hw]
      have hp := (w_pos r0 r2 r3 r4 (by omega)).1
      have hp' : 0 < wF c n b := by omega
      have hs : fiS c n b = ordS (c + n).toNat c n b 0 := by
        rw [fiS, if_pos he, ordS_0 _ _ _ _ (by omega) r0 r2 r3 r4 (by omega) (wF_le hw)]
        rfl
      (refine JQ.step follows hF hM ?_; simp (config := { maxSteps := 4000000 }) (disch := (omega)) only [go_sem, Nat.reduceLT, Nat.reduceEqDiff, reduceIte, Nat.reduceAdd, Nat.reduceSub, Nat.reduceLeDiff, Int.reduceEq, Int.reduceLT, Int.reduceLE, Int.reduceNeg, Int.reduceAdd, Int.reduceSub, Int.reduceToNat, Int.reduceMul, Nat.reduceMul, F25, spA_eq, f57, eq_false hw])
      (refine JQ.step follows hF hM ?_; simp (config := { maxSteps := 4000000 }) (disch := (omega)) only [go_sem, Nat.reduceLT, Nat.reduceEqDiff, reduceIte, Nat.reduceAdd, Nat.reduceSub, Nat.reduceLeDiff, Int.reduceEq, Int.reduceLT, Int.reduceLE, Int.reduceNeg, Int.reduceAdd, Int.reduceSub, Int.reduceToNat, Int.reduceMul, Nat.reduceMul, F25, spAI_eq, f60])
      (refine JQ.run follows hF hM ?_; simp (config := { maxSteps := 4000000 }) (disch := (omega)) only [go_sem, Nat.reduceLT, Nat.reduceEqDiff, reduceIte, Nat.reduceAdd, Nat.reduceSub, Nat.reduceLeDiff, Int.reduceEq, Int.reduceLT, Int.reduceLE, Int.reduceNeg, Int.reduceAdd, Int.reduceSub, Int.reduceToNat, Int.reduceMul, Nat.reduceMul, tuS, he, hs, res25])
  · have h1 := (rsE_or c n b).resolve_left h0
    have hv := rsV_1 h0 h1
    have he : fiE c n b = 1 := by rw [fiE, if_neg h0]
    have hs : fiS c n b = [] := by rw [fiS, if_neg (by rw [he]; decide)]
    (refine JQ.step follows hF hM ?_; simp (config := { maxSteps := 4000000 }) (disch := (omega)) only [go_sem, Nat.reduceLT, Nat.reduceEqDiff, reduceIte, Nat.reduceAdd, Nat.reduceSub, Nat.reduceLeDiff, Int.reduceEq, Int.reduceLT, Int.reduceLE, Int.reduceNeg, Int.reduceAdd, Int.reduceSub, Int.reduceToNat, Int.reduceMul, Nat.reduceMul, F25, f56, hv])
    (refine JQ.step follows hF hM ?_; simp (config := { maxSteps := 4000000 }) (disch := (omega)) only [go_sem, Nat.reduceLT, Nat.reduceEqDiff, reduceIte, Nat.reduceAdd, Nat.reduceSub, Nat.reduceLeDiff, Int.reduceEq, Int.reduceLT, Int.reduceLE, Int.reduceNeg, Int.reduceAdd, Int.reduceSub, Int.reduceToNat, Int.reduceMul, Nat.reduceMul, tuS, he, hs, res25])
noncomputable def f25 (c n b : Int) : Out := .v (tuS (fiS c n b) (fiE c n b))
theorem ok25 : SOK Try.prog 25 (spIII f25) := spIII_ok fun c m b lim h n v h' n' hr =>
  outC Try.func25 n25 b25 k25 r25 (Ins.none h) (by simp [L.length]) (ren_nil_rel (by simp only [purL_cons, purL_nil, I_pur, Bool.and_self])) (.v (tuS (fiS c m b) (fiE c m b))) (tuS_ok _ _) (run25 c m b) lim n hr
set_option maxHeartbeats 8000000 in
theorem run27 (c n b x : Int) : JQ Try.prog drops Try.f27.ntmps F25 q27 256 (Kend res27 (Good 0 (.v (tuS (atS c n b x) (atE c n b x))))) (bind (.cons (I c) (.cons (I n) (.cons (I b) (.cons (I x) .nil)))) 0 .lf) .lf 256 := by
  have hF := F25_ok
  have hM := F25_mono
  unfold q27
  (refine JQ.step follows hF hM ?_; simp (config := { maxSteps := 4000000 }) (disch := (omega)) only [go_sem, Nat.reduceLT, Nat.reduceEqDiff, reduceIte, Nat.reduceAdd, Nat.reduceSub, Nat.reduceLeDiff, Int.reduceEq, Int.reduceLT, Int.reduceLE, Int.reduceNeg, Int.reduceAdd, Int.reduceSub, Int.reduceToNat, Int.reduceMul, Nat.reduceMul])
  by_cases h0 : rsE c n b = 0
  · obtain ⟨r0, r1, r2, r3, r4, r5⟩ := rsE_0 h0
    have hv := rsV_0 h0
    (refine JQ.step follows hF hM ?_; simp (config := { maxSteps := 4000000 }) (disch := (omega)) only [go_sem, Nat.reduceLT, Nat.reduceEqDiff, reduceIte, Nat.reduceAdd, Nat.reduceSub, Nat.reduceLeDiff, Int.reduceEq, Int.reduceLT, Int.reduceLE, Int.reduceNeg, Int.reduceAdd, Int.reduceSub, Int.reduceToNat, Int.reduceMul, Nat.reduceMul, F25, f56, hv])
    (refine JQ.step follows hF hM ?_; simp (config := { maxSteps := 4000000 }) (disch := (omega)) only [go_sem, Nat.reduceLT, Nat.reduceEqDiff, reduceIte, Nat.reduceAdd, Nat.reduceSub, Nat.reduceLeDiff, Int.reduceEq, Int.reduceLT, Int.reduceLE, Int.reduceNeg, Int.reduceAdd, Int.reduceSub, Int.reduceToNat, Int.reduceMul, Nat.reduceMul])
    by_cases hx : x < 0
    · have he : atE c n b x = 1 := by rw [atE, if_pos h0, if_neg (by omega)]
      have hs : atS c n b x = [] := by rw [atS, if_neg (by rw [he]; decide)]
      (refine JQ.step follows hF hM ?_; simp (config := { maxSteps := 4000000 }) (disch := (omega)) only [go_sem, Nat.reduceLT, Nat.reduceEqDiff, reduceIte, Nat.reduceAdd, Nat.reduceSub, Nat.reduceLeDiff, Int.reduceEq, Int.reduceLT, Int.reduceLE, Int.reduceNeg, Int.reduceAdd, Int.reduceSub, Int.reduceToNat, Int.reduceMul, Nat.reduceMul, F25, hx, tuS, he, hs, res27])
    · by_cases hy : wF c n b ≤ x
      · have he : atE c n b x = 1 := by rw [atE, if_pos h0, if_neg (by omega)]
        have hs : atS c n b x = [] := by rw [atS, if_neg (by rw [he]; decide)]
        (refine JQ.step follows hF hM ?_; simp (config := { maxSteps := 4000000 }) (disch := (omega)) only [go_sem, Nat.reduceLT, Nat.reduceEqDiff, reduceIte, Nat.reduceAdd, Nat.reduceSub, Nat.reduceLeDiff, Int.reduceEq, Int.reduceLT, Int.reduceLE, Int.reduceNeg, Int.reduceAdd, Int.reduceSub, Int.reduceToNat, Int.reduceMul, Nat.reduceMul, F25, spA_eq, f57, hx, hy, tuS, he, hs, res27])
      · have he : atE c n b x = 0 := by rw [atE, if_pos h0, if_pos (by omega)]
        have hs : atS c n b x = ordS (c + n).toNat c n b x := by rw [atS, if_pos he]
        (refine JQ.step follows hF hM ?_; simp (config := { maxSteps := 4000000 }) (disch := (omega)) only [go_sem, Nat.reduceLT, Nat.reduceEqDiff, reduceIte, Nat.reduceAdd, Nat.reduceSub, Nat.reduceLeDiff, Int.reduceEq, Int.reduceLT, Int.reduceLE, Int.reduceNeg, Int.reduceAdd, Int.reduceSub, Int.reduceToNat, Int.reduceMul, Nat.reduceMul, F25, spA_eq, f57, hx, hy])
        (refine JQ.step follows hF hM ?_; simp (config := { maxSteps := 4000000 }) (disch := (omega)) only [go_sem, Nat.reduceLT, Nat.reduceEqDiff, reduceIte, Nat.reduceAdd, Nat.reduceSub, Nat.reduceLeDiff, Int.reduceEq, Int.reduceLT, Int.reduceLE, Int.reduceNeg, Int.reduceAdd, Int.reduceSub, Int.reduceToNat, Int.reduceMul, Nat.reduceMul, F25, spAI_eq, f60])
        (refine JQ.run follows hF hM ?_; simp (config := { maxSteps := 4000000 }) (disch := (omega)) only [go_sem, Nat.reduceLT, Nat.reduceEqDiff, reduceIte, Nat.reduceAdd, Nat.reduceSub, Nat.reduceLeDiff, Int.reduceEq, Int.reduceLT, Int.reduceLE, Int.reduceNeg, Int.reduceAdd, Int.reduceSub, Int.reduceToNat, Int.reduceMul, Nat.reduceMul, tuS, he, hs, res27])
  · have h1 := (rsE_or c n b).resolve_left h0
    have hv := rsV_1 h0 h1
    have he : atE c n b x = 1 := by rw [atE, if_neg h0]
    have hs : atS c n b x = [] := by rw [atS, if_neg (by rw [he]; decide)]
    (refine JQ.step follows hF hM ?_; simp (config := { maxSteps := 4000000 }) (disch := (omega)) only [go_sem, Nat.reduceLT, Nat.reduceEqDiff, reduceIte, Nat.reduceAdd, Nat.reduceSub, Nat.reduceLeDiff, Int.reduceEq, Int.reduceLT, Int.reduceLE, Int.reduceNeg, Int.reduceAdd, Int.reduceSub, Int.reduceToNat, Int.reduceMul, Nat.reduceMul, F25, f56, hv])
    (refine JQ.step follows hF hM ?_; simp (config := { maxSteps := 4000000 }) (disch := (omega)) only [go_sem, Nat.reduceLT, Nat.reduceEqDiff, reduceIte, Nat.reduceAdd, Nat.reduceSub, Nat.reduceLeDiff, Int.reduceEq, Int.reduceLT, Int.reduceLE, Int.reduceNeg, Int.reduceAdd, Int.reduceSub, Int.reduceToNat, Int.reduceMul, Nat.reduceMul, tuS, he, hs, res27])
noncomputable def f27 (c n b x : Int) : Out := .v (tuS (atS c n b x) (atE c n b x))
theorem ok27 : SOK Try.prog 27 (spIIII f27) := spIIII_ok fun c m b x lim h n v h' n' hr =>
  outC Try.func27 n27 b27 k27 r27 (Ins.none h) (by simp [L.length]) (ren_nil_rel (by simp only [purL_cons, purL_nil, I_pur, Bool.and_self])) (.v (tuS (atS c m b x) (atE c m b x))) (tuS_ok _ _) (run27 c m b x) lim n hr

theorem fuL_take {c n : Int} (h0 : 0 ≤ c) (h1 : 0 ≤ n) {i : Nat} (hi : (i : Int) < c + n) : (fuL c n).take (i + 1) = (fuL c n).take i ++ [if (i : Int) < c then 99 else 110] := by
  have hl : i < (fuL c n).length := by simp [fuL]; omega
  rw [List.take_add_one, List.getElem?_eq_getElem hl]
  congr 1
  simp only [fuL, List.getElem_append, List.length_replicate]
  by_cases hc : (i : Int) < c
  · rw [dif_pos (by omega), if_pos hc]; simp
  · rw [dif_neg (by omega), if_neg hc]; simp
theorem fuL_len {c n : Int} (h0 : 0 ≤ c) (h1 : 0 ≤ n) : ((fuL c n).length : Int) = c + n := by simp [fuL]; omega
noncomputable def F26 : FF := ov 58 (spIII f58) (ov 59 (spIII f59) (ov 61 (spIII f61) F0))
theorem F26_ok : FOK Try.prog F26 := ov_ok ok58 (ov_ok ok59 (ov_ok ok61 (F0_ok _)))
theorem F26_mono : F26.mono := ov_mono (spIII_mo _) (ov_mono (spIII_mo _) (ov_mono (spIII_mo _) F0_mono))
theorem strV_add (l m : List Nat) : strV .add l m = if l.length + m.length ≤ 9223372036854775807 then .s (l ++ m) else .bad := by
  show (Bool.rec .bad (.s (l ++ m)) (Nat.ble (Nat.add l.length m.length) 9223372036854775807) : V) = _
  by_cases ha : l.length + m.length ≤ 9223372036854775807
  · rw [if_pos ha, show Nat.ble (Nat.add l.length m.length) 9223372036854775807 = true from Nat.ble_eq.mpr ha]
  · rw [if_neg ha, show Nat.ble (Nat.add l.length m.length) 9223372036854775807 = false from Bool.eq_false_iff.mpr fun hx => ha (Nat.ble_eq.mp hx)]
set_option maxHeartbeats 8000000 in
theorem run26 (c n b : Int) : JQ Try.prog drops Try.f26.ntmps F26 q26 256 (Kend res26 (Good 0 (.v (tuS (fiS c n b) (fiE c n b))))) (bind (.cons (I c) (.cons (I n) (.cons (I b) .nil))) 0 .lf) .lf 256 := by
  have hF := F26_ok
  have hM := F26_mono
  unfold q26
  (refine JQ.step follows hF hM ?_; simp (config := { maxSteps := 4000000 }) (disch := (omega)) only [go_sem, Nat.reduceLT, Nat.reduceEqDiff, reduceIte, Nat.reduceAdd, Nat.reduceSub, Nat.reduceLeDiff, Int.reduceEq, Int.reduceLT, Int.reduceLE, Int.reduceNeg, Int.reduceAdd, Int.reduceSub, Int.reduceToNat, Int.reduceMul, Nat.reduceMul])
  (refine JQ.step follows hF hM ?_; simp (config := { maxSteps := 4000000 }) (disch := (omega)) only [go_sem, Nat.reduceLT, Nat.reduceEqDiff, reduceIte, Nat.reduceAdd, Nat.reduceSub, Nat.reduceLeDiff, Int.reduceEq, Int.reduceLT, Int.reduceLE, Int.reduceNeg, Int.reduceAdd, Int.reduceSub, Int.reduceToNat, Int.reduceMul, Nat.reduceMul, F26, f58])
  by_cases h0 : rsE c n b = 0
  · obtain ⟨r0, r1, r2, r3, r4, r5⟩ := rsE_0 h0
    have hT := T_ask h0
    by_cases hw : wF c n b = 0
    · have he : fiE c n b = 12 := by rw [fiE, if_pos h0, if_pos hw]
      have hs : fiS c n b = [] := by rw [fiS, if_neg (by rw [he]; decide)]
      (refine JQ.step follows hF hM ?_; simp (config := { maxSteps := 4000000 }) (disch := (omega)) only [go_sem, Nat.reduceLT, Nat.reduceEqDiff, reduceIte, Nat.reduceAdd, Nat.reduceSub, Nat.reduceLeDiff, Int.reduceEq, Int.reduceLT, Int.reduceLE, Int.reduceNeg, Int.reduceAdd, Int.reduceSub, Int.reduceToNat, Int.reduceMul, Nat.reduceMul, F26, f59, eq_true h0, hT, eq_true hw])
      (refine JQ.step follows hF hM ?_; simp (config := { maxSteps := 4000000 }) (disch := (omega)) only [go_sem, Nat.reduceLT, Nat.reduceEqDiff, reduceIte, Nat.reduceAdd, Nat.reduceSub, Nat.reduceLeDiff, Int.reduceEq, Int.reduceLT, Int.reduceLE, Int.reduceNeg, Int.reduceAdd, Int.reduceSub, Int.reduceToNat, Int.reduceMul, Nat.reduceMul, tuS, he, hs, res26])
    · have he : fiE c n b = 0 := by rw [fiE, if_pos h0, if_neg hw]
      have hs : fiS c n b = fuL c n := by rw [fiS, if_pos he]
      have hfl := fuL_len r0 r2
      (refine JQ.step follows hF hM ?_; simp (config := { maxSteps := 4000000 }) (disch := (omega)) only [go_sem, Nat.reduceLT, Nat.reduceEqDiff, reduceIte, Nat.reduceAdd, Nat.reduceSub, Nat.reduceLeDiff, Int.reduceEq, Int.reduceLT, Int.reduceLE, Int.reduceNeg, Int.reduceAdd, Int.reduceSub, Int.reduceToNat, Int.reduceMul, Nat.reduceMul, F26, f59, eq_true h0, hT, eq_false hw])
      (refine JQ.step follows hF hM ?_; simp (config := { maxSteps := 4000000 }) (disch := (omega)) only [go_sem, Nat.reduceLT, Nat.reduceEqDiff, reduceIte, Nat.reduceAdd, Nat.reduceSub, Nat.reduceLeDiff, Int.reduceEq, Int.reduceLT, Int.reduceLE, Int.reduceNeg, Int.reduceAdd, Int.reduceSub, Int.reduceToNat, Int.reduceMul, Nat.reduceMul, eq_true h0])
      (refine JQ.step follows hF hM ?_; simp (config := { maxSteps := 4000000 }) (disch := (omega)) only [go_sem, Nat.reduceLT, Nat.reduceEqDiff, reduceIte, Nat.reduceAdd, Nat.reduceSub, Nat.reduceLeDiff, Int.reduceEq, Int.reduceLT, Int.reduceLE, Int.reduceNeg, Int.reduceAdd, Int.reduceSub, Int.reduceToNat, Int.reduceMul, Nat.reduceMul])
      refine JQ.seq ?_
      (refine JQ.step follows hF hM ?_; simp (config := { maxSteps := 4000000 }) (disch := (omega)) only [go_sem, Nat.reduceLT, Nat.reduceEqDiff, reduceIte, Nat.reduceAdd, Nat.reduceSub, Nat.reduceLeDiff, Int.reduceEq, Int.reduceLT, Int.reduceLE, Int.reduceNeg, Int.reduceAdd, Int.reduceSub, Int.reduceToNat, Int.reduceMul, Nat.reduceMul])
      refine JQ.block ?_
      refine JQ.loop (σ := Nat) (fun i => (i : Int) ≤ c + n) (fun i => (((Tr.lf.set (I c) (tp 0)).set (I n) (tp 1)).set (.s ((fuL c n).take i)) (tp 9)).set (I i) (tp 10)) (fun _ => .lf) (fun _ => 256) (fun i => (c + n).toNat - i) 0 (by show ((0 : Nat) : Int) ≤ _; omega) (by ((repeat' (first | exact EnvLe.lf _ | refine EnvLe.set (by decide) ?_ ?_)) <;> first | exact EnvLe.lf _ | (simp (config := { maxSteps := 4000000 }) (disch := (omega)) only [go_sem, Nat.reduceLT, Nat.reduceEqDiff, reduceIte, Nat.reduceAdd, Nat.reduceSub, Nat.reduceLeDiff, Int.reduceEq, Int.reduceLT, Int.reduceLE, Int.reduceNeg, Int.reduceAdd, Int.reduceSub, Int.reduceToNat, Int.reduceMul, Nat.reduceMul, List.take_zero, Int.natCast_add, Int.cast_ofNat_Int]; done) | (simp (config := { maxSteps := 4000000 }) (disch := (omega)) only [go_sem, Nat.reduceLT, Nat.reduceEqDiff, reduceIte, Nat.reduceAdd, Nat.reduceSub, Nat.reduceLeDiff, Int.reduceEq, Int.reduceLT, Int.reduceLE, Int.reduceNeg, Int.reduceAdd, Int.reduceSub, Int.reduceToNat, Int.reduceMul, Nat.reduceMul, List.take_zero, Int.natCast_add, Int.cast_ofNat_Int] <;> first | rfl | (congr 1; omega)))) (HpLe.refl _) rfl ?_
      intro i hi
      unfold q26_l0
      have htl : ((fuL c n).take i).length = i := by rw [List.length_take]; omega
      by_cases hlt : (i : Int) < c + n
      · have htk := fuL_take r0 r2 hlt
        by_cases hc : (i : Int) < c
        · rw [if_pos hc] at htk
          (refine JQ.run follows hF hM ?_; simp (config := { maxSteps := 4000000 }) (disch := (omega)) only [go_sem, Nat.reduceLT, Nat.reduceEqDiff, reduceIte, Nat.reduceAdd, Nat.reduceSub, Nat.reduceLeDiff, Int.reduceEq, Int.reduceLT, Int.reduceLE, Int.reduceNeg, Int.reduceAdd, Int.reduceSub, Int.reduceToNat, Int.reduceMul, Nat.reduceMul, hlt, hc, strV_add])
          exact ⟨i + 1, by omega, by omega, by ((repeat' (first | exact EnvLe.lf _ | refine EnvLe.set (by decide) ?_ ?_)) <;> first | exact EnvLe.lf _ | (simp (config := { maxSteps := 4000000 }) (disch := (omega)) only [go_sem, Nat.reduceLT, Nat.reduceEqDiff, reduceIte, Nat.reduceAdd, Nat.reduceSub, Nat.reduceLeDiff, Int.reduceEq, Int.reduceLT, Int.reduceLE, Int.reduceNeg, Int.reduceAdd, Int.reduceSub, Int.reduceToNat, Int.reduceMul, Nat.reduceMul, htk, Int.natCast_add, Int.cast_ofNat_Int]; done) | (simp (config := { maxSteps := 4000000 }) (disch := (omega)) only [go_sem, Nat.reduceLT, Nat.reduceEqDiff, reduceIte, Nat.reduceAdd, Nat.reduceSub, Nat.reduceLeDiff, Int.reduceEq, Int.reduceLT, Int.reduceLE, Int.reduceNeg, Int.reduceAdd, Int.reduceSub, Int.reduceToNat, Int.reduceMul, Nat.reduceMul, htk, Int.natCast_add, Int.cast_ofNat_Int] <;> first | rfl | (congr 1; omega))), HpLe.refl _⟩
        · rw [if_neg hc] at htk
          (refine JQ.run follows hF hM ?_; simp (config := { maxSteps := 4000000 }) (disch := (omega)) only [go_sem, Nat.reduceLT, Nat.reduceEqDiff, reduceIte, Nat.reduceAdd, Nat.reduceSub, Nat.reduceLeDiff, Int.reduceEq, Int.reduceLT, Int.reduceLE, Int.reduceNeg, Int.reduceAdd, Int.reduceSub, Int.reduceToNat, Int.reduceMul, Nat.reduceMul, hlt, hc, strV_add])
          exact ⟨i + 1, by omega, by omega, by ((repeat' (first | exact EnvLe.lf _ | refine EnvLe.set (by decide) ?_ ?_)) <;> first | exact EnvLe.lf _ | (simp (config := { maxSteps := 4000000 }) (disch := (omega)) only [go_sem, Nat.reduceLT, Nat.reduceEqDiff, reduceIte, Nat.reduceAdd, Nat.reduceSub, Nat.reduceLeDiff, Int.reduceEq, Int.reduceLT, Int.reduceLE, Int.reduceNeg, Int.reduceAdd, Int.reduceSub, Int.reduceToNat, Int.reduceMul, Nat.reduceMul, htk, Int.natCast_add, Int.cast_ofNat_Int]; done) | (simp (config := { maxSteps := 4000000 }) (disch := (omega)) only [go_sem, Nat.reduceLT, Nat.reduceEqDiff, reduceIte, Nat.reduceAdd, Nat.reduceSub, Nat.reduceLeDiff, Int.reduceEq, Int.reduceLT, Int.reduceLE, Int.reduceNeg, Int.reduceAdd, Int.reduceSub, Int.reduceToNat, Int.reduceMul, Nat.reduceMul, htk, Int.natCast_add, Int.cast_ofNat_Int] <;> first | rfl | (congr 1; omega))), HpLe.refl _⟩
      · have hall : (fuL c n).take i = fuL c n := List.take_of_length_le (by omega)
        (refine JQ.run follows hF hM ?_; simp (config := { maxSteps := 4000000 }) (disch := (omega)) only [go_sem, Nat.reduceLT, Nat.reduceEqDiff, reduceIte, Nat.reduceAdd, Nat.reduceSub, Nat.reduceLeDiff, Int.reduceEq, Int.reduceLT, Int.reduceLE, Int.reduceNeg, Int.reduceAdd, Int.reduceSub, Int.reduceToNat, Int.reduceMul, Nat.reduceMul, hlt])
        (refine JQ.run follows hF hM ?_; simp (config := { maxSteps := 4000000 }) (disch := (omega)) only [go_sem, Nat.reduceLT, Nat.reduceEqDiff, reduceIte, Nat.reduceAdd, Nat.reduceSub, Nat.reduceLeDiff, Int.reduceEq, Int.reduceLT, Int.reduceLE, Int.reduceNeg, Int.reduceAdd, Int.reduceSub, Int.reduceToNat, Int.reduceMul, Nat.reduceMul, tuS, he, hs, hall, res26])
  · have h1 := (rsE_or c n b).resolve_left h0
    have he : fiE c n b = 1 := by rw [fiE, if_neg h0]
    have hs : fiS c n b = [] := by rw [fiS, if_neg (by rw [he]; decide)]
    (refine JQ.step follows hF hM ?_; simp (config := { maxSteps := 4000000 }) (disch := (omega)) only [go_sem, Nat.reduceLT, Nat.reduceEqDiff, reduceIte, Nat.reduceAdd, Nat.reduceSub, Nat.reduceLeDiff, Int.reduceEq, Int.reduceLT, Int.reduceLE, Int.reduceNeg, Int.reduceAdd, Int.reduceSub, Int.reduceToNat, Int.reduceMul, Nat.reduceMul, h1])
    (refine JQ.step follows hF hM ?_; simp (config := { maxSteps := 4000000 }) (disch := (omega)) only [go_sem, Nat.reduceLT, Nat.reduceEqDiff, reduceIte, Nat.reduceAdd, Nat.reduceSub, Nat.reduceLeDiff, Int.reduceEq, Int.reduceLT, Int.reduceLE, Int.reduceNeg, Int.reduceAdd, Int.reduceSub, Int.reduceToNat, Int.reduceMul, Nat.reduceMul, h1, tuS, he, hs, res26])
theorem ok26 : SOK Try.prog 26 (spIII f25) := spIII_ok fun c m b lim h n v h' n' hr =>
  outC Try.func26 n26 b26 k26 r26 (Ins.none h) (by simp [L.length]) (ren_nil_rel (by simp only [purL_cons, purL_nil, I_pur, Bool.and_self])) (.v (tuS (fiS c m b) (fiE c m b))) (tuS_ok _ _) (run26 c m b) lim n hr
set_option maxHeartbeats 8000000 in
theorem run28 (c0 n0 b x0 : Int) : JQ Try.prog drops Try.f28.ntmps F26 q28 256 (Kend res28 (Good 0 (.v (tuS (atS c0 n0 b x0) (atE c0 n0 b x0))))) (bind (.cons (I c0) (.cons (I n0) (.cons (I b) (.cons (I x0) .nil)))) 0 .lf) .lf 256 := by
  have hF := F26_ok
  have hM := F26_mono
  have dT : ∀ {z lo hi : Int}, lo ≤ z ∧ z ≤ hi → (decide (lo ≤ z) && decide (z ≤ hi)) = true := fun h => by simp only [Bool.and_eq_true, decide_eq_true_eq]; exact h
  have dF : ∀ {z lo hi : Int}, ¬ (lo ≤ z ∧ z ≤ hi) → (decide (lo ≤ z) && decide (z ≤ hi)) = false := fun h => by simp only [Bool.and_eq_false_iff, decide_eq_false_iff_not]; omega
  unfold q28
  (refine JQ.step follows hF hM ?_; simp (config := { maxSteps := 4000000 }) (disch := (omega)) only [go_sem, Nat.reduceLT, Nat.reduceEqDiff, reduceIte, Nat.reduceAdd, Nat.reduceSub, Nat.reduceLeDiff, Int.reduceEq, Int.reduceLT, Int.reduceLE, Int.reduceNeg, Int.reduceAdd, Int.reduceSub, Int.reduceToNat, Int.reduceMul, Nat.reduceMul])
  (refine JQ.step follows hF hM ?_; simp (config := { maxSteps := 4000000 }) (disch := (omega)) only [go_sem, Nat.reduceLT, Nat.reduceEqDiff, reduceIte, Nat.reduceAdd, Nat.reduceSub, Nat.reduceLeDiff, Int.reduceEq, Int.reduceLT, Int.reduceLE, Int.reduceNeg, Int.reduceAdd, Int.reduceSub, Int.reduceToNat, Int.reduceMul, Nat.reduceMul, F26, f58])
  by_cases h0 : rsE c0 n0 b = 0
  · obtain ⟨r0, r1, r2, r3, r4, r5⟩ := rsE_0 h0
    have hT := T_ask h0
    have hwr := wF_rng (c := c0) (n := n0) (b := b) (by omega) r2 r3 r4
    by_cases hx : 0 ≤ x0 ∧ x0 < wF c0 n0 b
    · have he : atE c0 n0 b x0 = 0 := by rw [atE, if_pos h0, if_pos hx]
      have hs : atS c0 n0 b x0 = ordS (c0 + n0).toNat c0 n0 b x0 := by rw [atS, if_pos he]
      have hin := dT (z := x0) (lo := 0) (hi := wF c0 n0 b - 1) (by omega)
      rw [hs]
      obtain ⟨total, htot⟩ : ∃ total, total = ordS (c0 + n0).toNat c0 n0 b x0 := ⟨_, rfl⟩
      have hI : OI total ([], c0, n0, b, x0) := ⟨r0, r2, r3, r4, by dsimp only; omega, hx.1, hx.2, by simp; omega, by simp, htot.symm⟩
      rw [← htot]
      (refine JQ.step follows hF hM ?_; simp (config := { maxSteps := 4000000 }) (disch := (omega)) only [go_sem, Nat.reduceLT, Nat.reduceEqDiff, reduceIte, Nat.reduceAdd, Nat.reduceSub, Nat.reduceLeDiff, Int.reduceEq, Int.reduceLT, Int.reduceLE, Int.reduceNeg, Int.reduceAdd, Int.reduceSub, Int.reduceToNat, Int.reduceMul, Nat.reduceMul, F26, f59, f61, eq_true h0, hT, hin])
      (refine JQ.step follows hF hM ?_; simp (config := { maxSteps := 4000000 }) (disch := (omega)) only [go_sem, Nat.reduceLT, Nat.reduceEqDiff, reduceIte, Nat.reduceAdd, Nat.reduceSub, Nat.reduceLeDiff, Int.reduceEq, Int.reduceLT, Int.reduceLE, Int.reduceNeg, Int.reduceAdd, Int.reduceSub, Int.reduceToNat, Int.reduceMul, Nat.reduceMul, eq_true h0])
      (refine JQ.step follows hF hM ?_; simp (config := { maxSteps := 4000000 }) (disch := (omega)) only [go_sem, Nat.reduceLT, Nat.reduceEqDiff, reduceIte, Nat.reduceAdd, Nat.reduceSub, Nat.reduceLeDiff, Int.reduceEq, Int.reduceLT, Int.reduceLE, Int.reduceNeg, Int.reduceAdd, Int.reduceSub, Int.reduceToNat, Int.reduceMul, Nat.reduceMul])
      refine JQ.seq ?_
      refine JQ.block ?_
      refine JQ.loop (σ := List Nat × Int × Int × Int × Int) (OI total) (fun s => ((((Tr.lf.set (I s.2.1) (tp 0)).set (I s.2.2.1) (tp 1)).set (I s.2.2.2.1) (tp 2)).set (I s.2.2.2.2) (tp 3)).set (.s s.1) (tp 11)) (fun _ => .lf) (fun _ => 256) (fun s => (s.2.1 + s.2.2.1).toNat) ([], c0, n0, b, x0) hI (by ((repeat' (first | exact EnvLe.lf _ | refine EnvLe.set (by decide) ?_ ?_)) <;> first | exact EnvLe.lf _ | (simp (config := { maxSteps := 4000000 }) (disch := (omega)) only [go_sem, Nat.reduceLT, Nat.reduceEqDiff, reduceIte, Nat.reduceAdd, Nat.reduceSub, Nat.reduceLeDiff, Int.reduceEq, Int.reduceLT, Int.reduceLE, Int.reduceNeg, Int.reduceAdd, Int.reduceSub, Int.reduceToNat, Int.reduceMul, Nat.reduceMul, Int.natCast_add, Int.cast_ofNat_Int]; done) | (simp (config := { maxSteps := 4000000 }) (disch := (omega)) only [go_sem, Nat.reduceLT, Nat.reduceEqDiff, reduceIte, Nat.reduceAdd, Nat.reduceSub, Nat.reduceLeDiff, Int.reduceEq, Int.reduceLT, Int.reduceLE, Int.reduceNeg, Int.reduceAdd, Int.reduceSub, Int.reduceToNat, Int.reduceMul, Nat.reduceMul, Int.natCast_add, Int.cast_ofNat_Int] <;> first | rfl | (congr 1; omega)))) (HpLe.refl _) rfl ?_
      rintro ⟨out, c, n, t, x⟩ hO
      have hO' := hO
      obtain ⟨i0, i1, i2, i3, i4, i5, i6, i7, i8, i9⟩ := hO'
      dsimp only at i0 i1 i2 i3 i4 i5 i6 i7 i8 i9 ⊢
      unfold q28_l0
      by_cases hz : 0 < c + n
      · have hw := wF_rng (c := c - 1) (n := n) (b := t + 1) (by omega) i1 (by omega) (by omega)
        have hw2 := wF_rng (c := c) (n := n) (b := t) (by omega) i1 i2 i3
        by_cases hc : 0 < c
        · have hTc : T (t + 1 + (c - 1) - n) (c - 1).toNat n.toNat = wF (c - 1) n (t + 1) := by
            have hT := T_wF (c := (c - 1).toNat) (n := n.toNat) (b := t + 1) (by omega) (by omega) (by omega)
            rwa [Int.toNat_of_nonneg (by omega), Int.toNat_of_nonneg (by omega)] at hT
          by_cases hy : x < wF (c - 1) n (t + 1)
          · obtain ⟨_, hO2⟩ := OI_c hO hz hy
            (refine JQ.run follows hF hM ?_; simp (config := { maxSteps := 4000000 }) (disch := (omega)) only [go_sem, Nat.reduceLT, Nat.reduceEqDiff, reduceIte, Nat.reduceAdd, Nat.reduceSub, Nat.reduceLeDiff, Int.reduceEq, Int.reduceLT, Int.reduceLE, Int.reduceNeg, Int.reduceAdd, Int.reduceSub, Int.reduceToNat, Int.reduceMul, Nat.reduceMul, hz, hc, F26, f59, hTc, hy, strV_add])
            exact ⟨(out ++ [99], c - 1, n, t + 1, x), hO2, by dsimp only; omega, by dsimp only; ((repeat' (first | exact EnvLe.lf _ | refine EnvLe.set (by decide) ?_ ?_)) <;> first | exact EnvLe.lf _ | (simp (config := { maxSteps := 4000000 }) (disch := (omega)) only [go_sem, Nat.reduceLT, Nat.reduceEqDiff, reduceIte, Nat.reduceAdd, Nat.reduceSub, Nat.reduceLeDiff, Int.reduceEq, Int.reduceLT, Int.reduceLE, Int.reduceNeg, Int.reduceAdd, Int.reduceSub, Int.reduceToNat, Int.reduceMul, Nat.reduceMul, Int.natCast_add, Int.cast_ofNat_Int]; done) | (simp (config := { maxSteps := 4000000 }) (disch := (omega)) only [go_sem, Nat.reduceLT, Nat.reduceEqDiff, reduceIte, Nat.reduceAdd, Nat.reduceSub, Nat.reduceLeDiff, Int.reduceEq, Int.reduceLT, Int.reduceLE, Int.reduceNeg, Int.reduceAdd, Int.reduceSub, Int.reduceToNat, Int.reduceMul, Nat.reduceMul, Int.natCast_add, Int.cast_ofNat_Int] <;> first | rfl | (congr 1; omega))), HpLe.refl _⟩
          · obtain ⟨hn, ht, hO2⟩ := OI_n hO hz hy
            (refine JQ.run follows hF hM ?_; simp (config := { maxSteps := 4000000 }) (disch := (omega)) only [go_sem, Nat.reduceLT, Nat.reduceEqDiff, reduceIte, Nat.reduceAdd, Nat.reduceSub, Nat.reduceLeDiff, Int.reduceEq, Int.reduceLT, Int.reduceLE, Int.reduceNeg, Int.reduceAdd, Int.reduceSub, Int.reduceToNat, Int.reduceMul, Nat.reduceMul, hz, hc, F26, f59, hTc, hy, strV_add])
            exact ⟨(out ++ [110], c, n - 1, t - 1, x - wF (c - 1) n (t + 1)), hO2, by dsimp only; omega, by dsimp only; ((repeat' (first | exact EnvLe.lf _ | refine EnvLe.set (by decide) ?_ ?_)) <;> first | exact EnvLe.lf _ | (simp (config := { maxSteps := 4000000 }) (disch := (omega)) only [go_sem, Nat.reduceLT, Nat.reduceEqDiff, reduceIte, Nat.reduceAdd, Nat.reduceSub, Nat.reduceLeDiff, Int.reduceEq, Int.reduceLT, Int.reduceLE, Int.reduceNeg, Int.reduceAdd, Int.reduceSub, Int.reduceToNat, Int.reduceMul, Nat.reduceMul, Int.natCast_add, Int.cast_ofNat_Int]; done) | (simp (config := { maxSteps := 4000000 }) (disch := (omega)) only [go_sem, Nat.reduceLT, Nat.reduceEqDiff, reduceIte, Nat.reduceAdd, Nat.reduceSub, Nat.reduceLeDiff, Int.reduceEq, Int.reduceLT, Int.reduceLE, Int.reduceNeg, Int.reduceAdd, Int.reduceSub, Int.reduceToNat, Int.reduceMul, Nat.reduceMul, Int.natCast_add, Int.cast_ofNat_Int] <;> first | rfl | (congr 1; omega))), HpLe.refl _⟩
        · obtain rfl : c = 0 := by omega
          have hwz := wF_none (n := n) (b := t + 1)
          have hy : ¬ x < wF (0 - 1) n (t + 1) := by rw [hwz]; omega
          have hx0 : ¬ x < 0 := by omega
          obtain ⟨hn, ht, hO2⟩ := OI_n hO hz hy
          rw [hwz, Int.sub_zero] at hO2
          (refine JQ.run follows hF hM ?_; simp (config := { maxSteps := 4000000 }) (disch := (omega)) only [go_sem, Nat.reduceLT, Nat.reduceEqDiff, reduceIte, Nat.reduceAdd, Nat.reduceSub, Nat.reduceLeDiff, Int.reduceEq, Int.reduceLT, Int.reduceLE, Int.reduceNeg, Int.reduceAdd, Int.reduceSub, Int.reduceToNat, Int.reduceMul, Nat.reduceMul, hz, hc, hx0, strV_add, Int.sub_zero])
          exact ⟨(out ++ [110], 0, n - 1, t - 1, x), hO2, by dsimp only; omega, by dsimp only; ((repeat' (first | exact EnvLe.lf _ | refine EnvLe.set (by decide) ?_ ?_)) <;> first | exact EnvLe.lf _ | (simp (config := { maxSteps := 4000000 }) (disch := (omega)) only [go_sem, Nat.reduceLT, Nat.reduceEqDiff, reduceIte, Nat.reduceAdd, Nat.reduceSub, Nat.reduceLeDiff, Int.reduceEq, Int.reduceLT, Int.reduceLE, Int.reduceNeg, Int.reduceAdd, Int.reduceSub, Int.reduceToNat, Int.reduceMul, Nat.reduceMul, Int.natCast_add, Int.cast_ofNat_Int]; done) | (simp (config := { maxSteps := 4000000 }) (disch := (omega)) only [go_sem, Nat.reduceLT, Nat.reduceEqDiff, reduceIte, Nat.reduceAdd, Nat.reduceSub, Nat.reduceLeDiff, Int.reduceEq, Int.reduceLT, Int.reduceLE, Int.reduceNeg, Int.reduceAdd, Int.reduceSub, Int.reduceToNat, Int.reduceMul, Nat.reduceMul, Int.natCast_add, Int.cast_ofNat_Int] <;> first | rfl | (congr 1; omega))), HpLe.refl _⟩
      · have hout := OI_end hO hz
        rw [← hout]
        (refine JQ.run follows hF hM ?_; simp (config := { maxSteps := 4000000 }) (disch := (omega)) only [go_sem, Nat.reduceLT, Nat.reduceEqDiff, reduceIte, Nat.reduceAdd, Nat.reduceSub, Nat.reduceLeDiff, Int.reduceEq, Int.reduceLT, Int.reduceLE, Int.reduceNeg, Int.reduceAdd, Int.reduceSub, Int.reduceToNat, Int.reduceMul, Nat.reduceMul, hz])
        (refine JQ.run follows hF hM ?_; simp (config := { maxSteps := 4000000 }) (disch := (omega)) only [go_sem, Nat.reduceLT, Nat.reduceEqDiff, reduceIte, Nat.reduceAdd, Nat.reduceSub, Nat.reduceLeDiff, Int.reduceEq, Int.reduceLT, Int.reduceLE, Int.reduceNeg, Int.reduceAdd, Int.reduceSub, Int.reduceToNat, Int.reduceMul, Nat.reduceMul, tuS, he, res28])
    · have he : atE c0 n0 b x0 = 1 := by rw [atE, if_pos h0, if_neg hx]
      have hs : atS c0 n0 b x0 = [] := by rw [atS, if_neg (by rw [he]; decide)]
      have hin := dF (z := x0) (lo := 0) (hi := wF c0 n0 b - 1) (by omega)
      (refine JQ.step follows hF hM ?_; simp (config := { maxSteps := 4000000 }) (disch := (omega)) only [go_sem, Nat.reduceLT, Nat.reduceEqDiff, reduceIte, Nat.reduceAdd, Nat.reduceSub, Nat.reduceLeDiff, Int.reduceEq, Int.reduceLT, Int.reduceLE, Int.reduceNeg, Int.reduceAdd, Int.reduceSub, Int.reduceToNat, Int.reduceMul, Nat.reduceMul, F26, f59, f61, eq_true h0, hT, hin])
      (refine JQ.step follows hF hM ?_; simp (config := { maxSteps := 4000000 }) (disch := (omega)) only [go_sem, Nat.reduceLT, Nat.reduceEqDiff, reduceIte, Nat.reduceAdd, Nat.reduceSub, Nat.reduceLeDiff, Int.reduceEq, Int.reduceLT, Int.reduceLE, Int.reduceNeg, Int.reduceAdd, Int.reduceSub, Int.reduceToNat, Int.reduceMul, Nat.reduceMul, tuS, he, hs, res28])
  · have h1 := (rsE_or c0 n0 b).resolve_left h0
    have he : atE c0 n0 b x0 = 1 := by rw [atE, if_neg h0]
    have hs : atS c0 n0 b x0 = [] := by rw [atS, if_neg (by rw [he]; decide)]
    (refine JQ.step follows hF hM ?_; simp (config := { maxSteps := 4000000 }) (disch := (omega)) only [go_sem, Nat.reduceLT, Nat.reduceEqDiff, reduceIte, Nat.reduceAdd, Nat.reduceSub, Nat.reduceLeDiff, Int.reduceEq, Int.reduceLT, Int.reduceLE, Int.reduceNeg, Int.reduceAdd, Int.reduceSub, Int.reduceToNat, Int.reduceMul, Nat.reduceMul, h1])
    (refine JQ.step follows hF hM ?_; simp (config := { maxSteps := 4000000 }) (disch := (omega)) only [go_sem, Nat.reduceLT, Nat.reduceEqDiff, reduceIte, Nat.reduceAdd, Nat.reduceSub, Nat.reduceLeDiff, Int.reduceEq, Int.reduceLT, Int.reduceLE, Int.reduceNeg, Int.reduceAdd, Int.reduceSub, Int.reduceToNat, Int.reduceMul, Nat.reduceMul, h1, tuS, he, hs, res28])
theorem ok28 : SOK Try.prog 28 (spIIII f27) := spIIII_ok fun c m b x lim h n v h' n' hr =>
  outC Try.func28 n28 b28 k28 r28 (Ins.none h) (by simp [L.length]) (ren_nil_rel (by simp only [purL_cons, purL_nil, I_pur, Bool.and_self])) (.v (tuS (atS c m b x) (atE c m b x))) (tuS_ok _ _) (run28 c m b x) lim n hr
end Go.Proofs.Ytnimeahebnfjoaa.Ev
