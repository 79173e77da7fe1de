/- HatPerfect: 1, 3 or 7 helpers, and a number that is no colouring. -/
import Derived.Test.YtjhgingmbklhaaaThPa
namespace Go.Proofs.Ytjhgingmbklhaaa.Ev
set_option linter.unusedVariables false
set_option linter.unusedSimpArgs false
set_option maxRecDepth 100000
open Go Go.Proofs Go.RowKit
attribute [local go_sem] evC_seq evC_reg evC_cond evC_block evC_skip evC_exit evC_ret evR_cons evR_nil evR_gd guardB_tt guardB_ff guardB_tf guardB_ft guardB_none bindR_ok bindR_okn rgRs_ok seqR_nor seqR_ext seqR_ret condR_true condR_false blockR_nor blockR_ext blockR_ret evX_t evX_c evXL_nil evXL_cons O_mv O_bin O_pick O_eqb O_not O_ext O_call O_conv O_slen O_six O_sbi pv_I pv_i pv_b pv_s pv_ns pv_sl pv_p pv_tu pv_ag bin_lss bin_leq bin_gtr bin_geq bin_eql bin_neq bin8_eql bin8_neq bin_add bin_sub bin_mul get_st get_lf bind_nil bind_cons if_true if_false Got_nor Got_ext Got_ret Kseq Kblk Klp Kend onStr_s onB_b onT_tu onI_I onN_I onK_I eqb_b not_b nthL_0 nthL_1 nthL_2 known_nil known_cons I_known known_b known_s evRVs_nil evRVs_cons evRes_1 evRes_2 evRV_tmp Bool.and_true Bool.true_and Bool.and_self Bool.not_true Bool.not_false decide_true decide_false Int.toNat_natCast true_and and_true big hget_same hget_ne newB_n onP_p onS_sl onS_ns O_fad O_alloc_if O_ixs O_len O_ld O_st O_box boxB_if ldB_if ldB_agif stB_if stB_wif toL_I toL_i toL_b toL_s toL_sl toL_ns toL_ag allC_nil allC_cons isC_i isC_b isC_s isC_sl isC_ns I_isC Llen_nil Llen_cons Lget_0 Lget_1 Lget_2 Lget_3 blkL_size cell_blkL_if getL_blkL_if getL_setL_if setL_sz evRV_cell' rvB_agif rvB_if evPL_cons bldK_if evPL_nil O_build O_part evBuild_ok okL_some onA_ag partV_1 evPart_eq updS_nil updS_cons upd_0 upd_1 upd_2 upd_3 ge_iff_le if_pos and_self Nat.le_refl known_ag known_sl known_ns known_i ov_at spS_eq spSI_eq spSII_eq spI_eq spII_eq spIII_eq spIIII_eq res_v res_sl res_slE Good I_pur pur_b pur_s pur_i pur_ns pur_ag pur_tu purL_nil purL_cons evDr_eq evDs_nil evDs_cons dsR_ok stepD_eq sdB_n sdB_g sdG_tt sdG_ff sdG_tf sdG_ft sdG_none runD_0 rdR_f rdR_t baseOf_pu baseOf_h baseU_nil baseA_nil baseA_0 baseR_nil baseR_0 baseR_00 appAll_nil appAll_0 restr_nil restr_cons setD_some setD_none evC_draw iL_len iL_get iL_allC iL_pur hp0_0 hp0_c rdL_ns rdL_sl List.length_cons List.length_nil O_mks mkB_if O_bsl bslB_if O_app apX_ns apX_sl apN_some apS_some blkL_el Nat.one_mul Nat.mul_one Nat.zero_add n_I onF_fn O_callv app_nil app_cons spLF_eq spL_eq spLL_eq onL_some onLL_ss onLL_ns onLL_sn onLL_nn rdB_blk Int.cast_ofNat_Int tlX_none tlX_some tlOf_cons tlOf_1 tlOf_1t tlM_none tlM_some
def is3 (z : Int) : Prop := z = 1 ∨ z = 3 ∨ z = 7
instance (z : Int) : Decidable (is3 z) := inferInstanceAs (Decidable (z = 1 ∨ z = 3 ∨ z = 7))
def pw (z : Int) : Int := if z = 1 then 2 else if z = 3 then 8 else 128
noncomputable def fo3 (f : Int → Int) (z : Int) : Out := if is3 z then .v (I (f z)) else .no
theorem fo3_at {f : Int → Int} {z : Int} (h : is3 z) : fo3 f z = .v (I (f z)) := if_pos h
theorem okE3 {k : Nat} {f : Int → Int} (h1 : isX (I (f 1)) (EF 60 k (.cons (I 1) .nil) 256 .lf 256) = true) (h3 : isX (I (f 3)) (EF 60 k (.cons (I 3) .nil) 256 .lf 256) = true) (h7 : isX (I (f 7)) (EF 60 k (.cons (I 7) .nil) 256 .lf 256) = true) : SOK Try.prog k (spI (fo3 f)) := spI_ok fun z lim h n v h' n' hr => by
  unfold fo3 at hr
  split at hr
  · rename_i hz
    have hr : Res.ok (I (f z)) h n = .ok v h' n' := hr
    cases hr
    rcases hz with rfl | rfl | rfl
    · obtain ⟨h2, n2, e1, e2⟩ := isX_ok h1
      exact callsAny rfl ((EF_ok 60).1 k _ 256 .lf 256 _ h2 n2 e1) e2 rfl (I_pur _) lim _ _
    · obtain ⟨h2, n2, e1, e2⟩ := isX_ok h3
      exact callsAny rfl ((EF_ok 60).1 k _ 256 .lf 256 _ h2 n2 e1) e2 rfl (I_pur _) lim _ _
    · obtain ⟨h2, n2, e1, e2⟩ := isX_ok h7
      exact callsAny rfl ((EF_ok 60).1 k _ 256 .lf 256 _ h2 n2 e1) e2 rfl (I_pur _) lim _ _
  · cases hr
theorem k85 : SOK Try.prog 85 (spI (fo3 pw)) := okE3 (by kernel_rfl) (by kernel_rfl) (by kernel_rfl)
theorem k69 : SOK Try.prog 69 (spI (fo3 pw)) := okE3 (by kernel_rfl) (by kernel_rfl) (by kernel_rfl)
theorem k84' : SOK Try.prog 84 (spI (fo3 fun _ => 0)) := okE3 (by kernel_rfl) (by kernel_rfl) (by kernel_rfl)
theorem k87' : SOK Try.prog 87 (spI (fo3 fun _ => 0)) := okE3 (by kernel_rfl) (by kernel_rfl) (by kernel_rfl)
noncomputable def FC1 : FF := ov 85 (spI (fo3 pw)) (ov 69 (spI (fo3 pw)) (ov 84 (spI (fo3 fun _ => 0)) (ov 87 (spI (fo3 fun _ => 0)) (ov 63 (spIII s63) F0))))
theorem FC1_ok : FOK Try.prog FC1 := ov_ok k85 (ov_ok k69 (ov_ok k84' (ov_ok k87' (ov_ok ok63 (F0_ok _)))))
theorem FC1_mono : FC1.mono := ov_mono (spI_mo _) (ov_mono (spI_mo _) (ov_mono (spI_mo _) (ov_mono (spI_mo _) (ov_mono (spIII_mo _) F0_mono))))
theorem pw_ge {z : Int} (h : is3 z) : 2 ≤ pw z ∧ pw z ≤ 128 := by rcases h with rfl | rfl | rfl <;> decide
theorem run60 (z c : Int) (hz : is3 z) (hc : c < 0 ∨ pw z ≤ c) : JQ Try.prog drops Try.f60.ntmps FC1 q60 256 (Kend res60 (Good 0 (.v (.b false)))) (bind (.cons (I z) (.cons (I c) .nil)) 0 .lf) .lf 256 := by
  have hF := FC1_ok
  have hM := FC1_mono
  unfold q60
  by_cases h1 : 0 ≤ c
  · have h2 : ¬ c < pw z := by omega
    (refine JQ.run follows hF hM ?_; simp (config := { maxSteps := 4000000 }) (disch := (omega)) only [go_sem, Nat.reduceLT, Nat.reduceEqDiff, reduceIte, Nat.reduceAdd, Nat.reduceSub, Nat.reduceLeDiff, Int.reduceEq, Int.reduceLT, Int.reduceLE, Int.reduceNeg, Int.reduceAdd, Int.reduceSub, Int.reduceToNat, Int.reduceMul, Nat.reduceMul, FC1, h1, h2, fo3_at hz, res60])
  · (refine JQ.run follows hF hM ?_; simp (config := { maxSteps := 4000000 }) (disch := (omega)) only [go_sem, Nat.reduceLT, Nat.reduceEqDiff, reduceIte, Nat.reduceAdd, Nat.reduceSub, Nat.reduceLeDiff, Int.reduceEq, Int.reduceLT, Int.reduceLE, Int.reduceNeg, Int.reduceAdd, Int.reduceSub, Int.reduceToNat, Int.reduceMul, Nat.reduceMul, FC1, h1, fo3_at hz, res60])
noncomputable def fc2 (x : V) (z c : Int) : Out := if is3 z ∧ (c < 0 ∨ pw z ≤ c) then .v x else .no
theorem fc2_at {x : V} {z c : Int} (h1 : is3 z) (h2 : c < 0 ∨ pw z ≤ c) : fc2 x z c = .v x := if_pos ⟨h1, h2⟩
theorem okC2 {k : Nat} {x : V} (hrun : ∀ z c : Int, is3 z → (c < 0 ∨ pw z ≤ c) → ∀ lim h n v h' n', (Out.v x).res h n = .ok v h' n' → CallsOK Try.prog k (.cons (I z) (.cons (I c) .nil)) lim h n v h' n') : SOK Try.prog k (spII (fc2 x)) := spII_ok fun z c lim h n v h' n' hr => by
  unfold fc2 at hr
  split at hr
  · rename_i hz; exact hrun z c hz.1 hz.2 lim h n v h' n' hr
  · cases hr
theorem ok60 : SOK Try.prog 60 (spII (fc2 (.b false))) := okC2 fun z c hz hc lim h n v h' n' hr => outC Try.func60 n60 b60 k60 r60 (Ins.none h) (by simp [L.length]) (ren_nil_rel (by simp [L.pur, I_pur])) (.v (.b false)) rfl (run60 z c hz hc) lim n hr
theorem run62 (z c : Int) (hz : is3 z) (hc : c < 0 ∨ pw z ≤ c) : JQ Try.prog drops Try.f62.ntmps FC1 q62 256 (Kend res62 (Good 0 (.v (I 2)))) (bind (.cons (I z) (.cons (I c) .nil)) 0 .lf) .lf 256 := by
  have hF := FC1_ok
  have hM := FC1_mono
  have h1 : (decide ((1 : Int) ≤ z) && decide (z ≤ 7)) = true := by rcases hz with rfl | rfl | rfl <;> decide
  have hp := pw_ge hz
  have h2 : (decide ((0 : Int) ≤ c) && decide (c ≤ pw z - 1)) = false := by simp; omega
  unfold q62
  (refine JQ.run follows hF hM ?_; simp (config := { maxSteps := 4000000 }) (disch := (omega)) only [go_sem, Nat.reduceLT, Nat.reduceEqDiff, reduceIte, Nat.reduceAdd, Nat.reduceSub, Nat.reduceLeDiff, Int.reduceEq, Int.reduceLT, Int.reduceLE, Int.reduceNeg, Int.reduceAdd, Int.reduceSub, Int.reduceToNat, Int.reduceMul, Nat.reduceMul, FC1, s63, fo3_at hz, h1, h2, res62])
theorem ok62 : SOK Try.prog 62 (spII (fc2 (I 2))) := okC2 fun z c hz hc lim h n v h' n' hr => outC Try.func62 n62 b62 k62 r62 (Ins.none h) (by simp [L.length]) (ren_nil_rel (by simp [L.pur, I_pur])) (.v (I 2)) (I_pur _) (run62 z c hz hc) lim n hr
noncomputable def FC2 : FF := ov 60 (spII (fc2 (.b false))) (ov 62 (spII (fc2 (I 2))) FC1)
theorem FC2_ok : FOK Try.prog FC2 := ov_ok ok60 (ov_ok ok62 FC1_ok)
theorem FC2_mono : FC2.mono := ov_mono (spII_mo _) (ov_mono (spII_mo _) FC1_mono)
noncomputable def v02 : V := .tu (.cons (I 0) (.cons (I 2) .nil))
theorem run36c (z c : Int) (hz : is3 z) (hc : c < 0 ∨ pw z ≤ c) : JQ Try.prog drops Try.f36.ntmps FC2 q36 256 (Kend res36 (Good 0 (.v v02))) (bind (.cons (I z) (.cons (I c) .nil)) 0 .lf) .lf 256 := by
  have hF := FC2_ok
  have hM := FC2_mono
  unfold q36 v02
  (refine JQ.run follows hF hM ?_; simp (config := { maxSteps := 4000000 }) (disch := (omega)) only [go_sem, Nat.reduceLT, Nat.reduceEqDiff, reduceIte, Nat.reduceAdd, Nat.reduceSub, Nat.reduceLeDiff, Int.reduceEq, Int.reduceLT, Int.reduceLE, Int.reduceNeg, Int.reduceAdd, Int.reduceSub, Int.reduceToNat, Int.reduceMul, Nat.reduceMul, FC2, FC1, fo3_at hz, fc2_at hz hc, res36])
theorem run37c (z c : Int) (hz : is3 z) (hc : c < 0 ∨ pw z ≤ c) : JQ Try.prog drops Try.f37.ntmps FC2 q37 256 (Kend res37 (Good 0 (.v v02))) (bind (.cons (I z) (.cons (I c) .nil)) 0 .lf) .lf 256 := by
  have hF := FC2_ok
  have hM := FC2_mono
  unfold q37 v02
  (refine JQ.run follows hF hM ?_; simp (config := { maxSteps := 4000000 }) (disch := (omega)) only [go_sem, Nat.reduceLT, Nat.reduceEqDiff, reduceIte, Nat.reduceAdd, Nat.reduceSub, Nat.reduceLeDiff, Int.reduceEq, Int.reduceLT, Int.reduceLE, Int.reduceNeg, Int.reduceAdd, Int.reduceSub, Int.reduceToNat, Int.reduceMul, Nat.reduceMul, FC2, FC1, fo3_at hz, fc2_at hz hc, res37])
theorem ok36c : SOK Try.prog 36 (spII (fc2 v02)) := okC2 fun z c hz hc lim h n v h' n' hr => outC Try.func36 n36 b36 k36 r36 (Ins.none h) (by simp [L.length]) (ren_nil_rel (by simp [L.pur, I_pur])) (.v v02) rfl (run36c z c hz hc) lim n hr
theorem ok37c : SOK Try.prog 37 (spII (fc2 v02)) := okC2 fun z c hz hc lim h n v h' n' hr => outC Try.func37 n37 b37 k37 r37 (Ins.none h) (by simp [L.length]) (ren_nil_rel (by simp [L.pur, I_pur])) (.v v02) rfl (run37c z c hz hc) lim n hr
end Go.Proofs.Ytjhgingmbklhaaa.Ev
