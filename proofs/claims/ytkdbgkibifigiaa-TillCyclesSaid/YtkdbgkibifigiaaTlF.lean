/- The till: Coins, Lacks, Needs. -/
import Derived.Test.YtkdbgkibifigiaaTlE
namespace Go.Proofs.Ytkdbgkibifigiaa.Ev
set_option linter.unusedVariables false
set_option linter.unusedSimpArgs false
open Go Go.Proofs
attribute [local go_sem] evC_seq evC_reg evC_cond evC_block evC_skip evC_exit evC_ret evR_cons evR_nil evR_gd guardB_tt guardB_ff guardB_tf guardB_ft guardB_none bindR_ok bindR_okn rgRs_ok seqR_nor seqR_ext seqR_ret condR_true condR_false blockR_nor blockR_ext blockR_ret evX_t evX_c evXL_nil evXL_cons O_mv O_bin O_pick O_eqb O_not O_ext O_call O_conv O_slen O_six O_sbi pv_I pv_i pv_b pv_s pv_ns pv_sl pv_p pv_tu pv_ag bin_lss bin_leq bin_gtr bin_geq bin_eql bin_neq bin8_eql bin8_neq bin_add bin_sub bin_mul get_st get_lf bind_nil bind_cons if_true if_false Got_nor Got_ext Got_ret Kseq Kblk Klp Kend onStr_s onB_b onT_tu onI_I onN_I onK_I eqb_b not_b nthL_0 nthL_1 nthL_2 known_nil known_cons I_known known_b known_s evRVs_nil evRVs_cons evRes_1 evRes_2 evRV_tmp Bool.and_true Bool.true_and Bool.and_self Bool.not_true Bool.not_false decide_true decide_false Int.toNat_natCast true_and and_true big hget_same hget_ne newB_n onP_p onS_sl onS_ns O_fad O_alloc_if O_ixs O_len O_ld O_st O_box boxB_if ldB_if ldB_agif stB_if toL_I toL_i toL_b toL_s toL_sl toL_ns toL_ag allC_nil allC_cons isC_i isC_b isC_s isC_sl isC_ns I_isC Llen_nil Llen_cons Lget_0 Lget_1 Lget_2 Lget_3 blkL_size cell_blkL_if getL_blkL_if getL_setL_if setL_sz evRV_cell' rvB_agif rvB_if evPL_cons bldK_if evPL_nil O_build O_part evBuild_ok okL_some onA_ag partV_1 evPart_eq updS_nil updS_cons upd_0 upd_1 upd_2 upd_3 ge_iff_le if_pos and_self Nat.le_refl known_ag known_sl known_ns known_i ov_at spS_eq spSI_eq spSII_eq spI_eq spII_eq spIII_eq spIIII_eq res_v res_sl res_slE Good I_pur pur_b pur_s pur_i pur_ns pur_ag pur_tu purL_nil purL_cons evDr_eq evDs_nil evDs_cons dsR_ok stepD_eq sdB_n sdB_g sdG_tt sdG_ff sdG_tf sdG_ft sdG_none runD_0 rdR_f rdR_t baseOf_pu baseOf_h baseU_nil baseA_nil baseA_0 baseR_nil baseR_0 baseR_00 appAll_nil appAll_0 restr_nil restr_cons setD_some setD_none evC_draw iL_len iL_get iL_allC iL_pur hp0_0 hp0_c rdL_ns rdL_sl List.length_cons List.length_nil O_mks mkB_if O_bsl bslB_if O_app apX_ns apX_sl apN_some apS_some blkL_el Nat.one_mul Nat.mul_one Nat.zero_add n_I onF_fn O_callv app_nil app_cons spLF_eq spL_eq spLL_eq onL_some onLL_ss onLL_ns onLL_sn onLL_nn rdB_blk Int.cast_ofNat_Int

noncomputable def F6 : FF := ov 47 (spSI f47) (ov 48 (spSI f48) (ov 49 (spLF 50 f49) F5))
theorem F6_ok : FOK Try.prog F6 := ov_ok ok47 (ov_ok ok48 (ov_ok ok49 F5_ok))
theorem F6_mono : F6.mono := ov_mono (spSI_mo _) (ov_mono (spSI_mo _) (ov_mono (spLF_mo _ _) F5_mono))
noncomputable def tuE (e : Int) : V := .tu (.cons .ns (.cons (I e) .nil))
noncomputable def tuI (z e : Int) : V := .tu (.cons (I z) (.cons (I e) .nil))
noncomputable def o14 (bs : List Nat) (b : Int) : Out := if gdS bs b = 0 then .slE 3 1 bs.length (some bs.length) (iL (afts bs b)) (I 0) else .v (tuE (gdS bs b))
theorem run14 (bs : List Nat) (b : Int) (hb : bs.length < 9223372036854775808) : JQ Try.prog drops Try.f14.ntmps F6 q14 256 (Kend res14 (Good 0 (o14 bs b))) (bind (.cons (.s bs) (.cons (I b) .nil)) 0 .lf) .lf 256 := by
  have hF := F6_ok
  have hM := F6_mono
  unfold q14
  (refine JQ.step follows hF hM ?_; simp (config := { maxSteps := 4000000 }) (disch := (omega)) only [go_sem, Nat.reduceLT, Nat.reduceEqDiff, reduceIte, Nat.reduceAdd, Nat.reduceSub, Nat.reduceLeDiff, Int.reduceEq, Int.reduceLT, Int.reduceLE, Int.reduceNeg, Int.reduceAdd, Int.reduceSub, Int.reduceToNat, Int.reduceMul, Nat.reduceMul])
  by_cases h0 : chkB bs b = 0
  · obtain ⟨c1, c2, c3⟩ := chkB_0 h0
    have hal := afts_len bs b
    (refine JQ.step follows hF hM ?_; simp (config := { maxSteps := 4000000 }) (disch := (omega)) only [go_sem, Nat.reduceLT, Nat.reduceEqDiff, reduceIte, Nat.reduceAdd, Nat.reduceSub, Nat.reduceLeDiff, Int.reduceEq, Int.reduceLT, Int.reduceLE, Int.reduceNeg, Int.reduceAdd, Int.reduceSub, Int.reduceToNat, Int.reduceMul, Nat.reduceMul, F6, f47, eq_true h0])
    (refine JQ.step follows hF hM ?_; simp (config := { maxSteps := 4000000 }) (disch := (omega)) only [go_sem, Nat.reduceLT, Nat.reduceEqDiff, reduceIte, Nat.reduceAdd, Nat.reduceSub, Nat.reduceLeDiff, Int.reduceEq, Int.reduceLT, Int.reduceLE, Int.reduceNeg, Int.reduceAdd, Int.reduceSub, Int.reduceToNat, Int.reduceMul, Nat.reduceMul, F6, f48])
    by_cases h1 : 0 ≤ lck bs b
    · have hg : gdS bs b = 14 := by rw [gdS, if_pos h0, if_pos h1]
      have h1' : 0 ≤ fstN (afts bs b) 0 := h1
      have ho : o14 bs b = .v (tuE 14) := by rw [o14, if_neg (by rw [hg]; decide), hg]
      (refine JQ.step follows hF hM ?_; simp (config := { maxSteps := 4000000 }) (disch := (omega)) only [go_sem, Nat.reduceLT, Nat.reduceEqDiff, reduceIte, Nat.reduceAdd, Nat.reduceSub, Nat.reduceLeDiff, Int.reduceEq, Int.reduceLT, Int.reduceLE, Int.reduceNeg, Int.reduceAdd, Int.reduceSub, Int.reduceToNat, Int.reduceMul, Nat.reduceMul, F6, f49, h1', ho, res14, tuE])
    · have hg : gdS bs b = 0 := by rw [gdS, if_pos h0, if_neg h1]
      have h1' : ¬ 0 ≤ fstN (afts bs b) 0 := h1
      have ho : o14 bs b = .slE 3 1 bs.length (some bs.length) (iL (afts bs b)) (I 0) := by rw [o14, if_pos hg]
      (refine JQ.step follows hF hM ?_; simp (config := { maxSteps := 4000000 }) (disch := (omega)) only [go_sem, Nat.reduceLT, Nat.reduceEqDiff, reduceIte, Nat.reduceAdd, Nat.reduceSub, Nat.reduceLeDiff, Int.reduceEq, Int.reduceLT, Int.reduceLE, Int.reduceNeg, Int.reduceAdd, Int.reduceSub, Int.reduceToNat, Int.reduceMul, Nat.reduceMul, F6, f49, h1'])
      (refine JQ.run follows hF hM ?_; simp (config := { maxSteps := 4000000 }) (disch := (omega)) only [go_sem, Nat.reduceLT, Nat.reduceEqDiff, reduceIte, Nat.reduceAdd, Nat.reduceSub, Nat.reduceLeDiff, Int.reduceEq, Int.reduceLT, Int.reduceLE, Int.reduceNeg, Int.reduceAdd, Int.reduceSub, Int.reduceToNat, Int.reduceMul, Nat.reduceMul, ho, res14])
      exact ⟨hal, goodIE (t := 255) (nb := 0) (n' := 257) (hget_same _ _ _) (by omega) (by omega) (by omega)⟩
  · have hg : gdS bs b = chkB bs b := by rw [gdS, if_neg h0]
    have ho : o14 bs b = .v (tuE (chkB bs b)) := by rw [o14, if_neg (by rw [hg]; exact h0), hg]
    (refine JQ.step follows hF hM ?_; simp (config := { maxSteps := 4000000 }) (disch := (omega)) only [go_sem, Nat.reduceLT, Nat.reduceEqDiff, reduceIte, Nat.reduceAdd, Nat.reduceSub, Nat.reduceLeDiff, Int.reduceEq, Int.reduceLT, Int.reduceLE, Int.reduceNeg, Int.reduceAdd, Int.reduceSub, Int.reduceToNat, Int.reduceMul, Nat.reduceMul, F6, f47, eq_false h0, ho, res14, tuE])
noncomputable def f14 (bs : List Nat) (b : Int) : Out := if bs.length < 9223372036854775808 then o14 bs b else .no
theorem o14_ok (bs : List Nat) (b : Int) : OutOK (o14 bs b) := by
  unfold o14
  split
  · exact ⟨iL_pur _, by rw [iL_len, afts_len]; omega, I_pur _⟩
  · simp [OutOK, tuE, V.pur, L.pur, I_pur]
theorem ok14 : SOK Try.prog 14 (spSI f14) := spSI_ok fun bs b lim h n v h' n' hr => by
  unfold f14 at hr
  split at hr
  · rename_i hb
    exact outC Try.func14 n14 b14 k14 r14 (Ins.none h) (by simp [L.length]) (ren_nil_rel (by simp only [purL_cons, purL_nil, pur_s, I_pur, Bool.and_self])) (o14 bs b) (o14_ok bs b) (run14 bs b hb) lim n hr
  · cases hr

def lkE (bs : List Nat) (b : Int) : Int := if chkB bs b = 0 then (if lck bs b < 0 then 12 else 0) else chkB bs b
def lkV (bs : List Nat) (b : Int) : Int := if chkB bs b = 0 then (if lck bs b < 0 then 0 else lck bs b) else 0
noncomputable def F7 : FF := ov 47 (spSI f47) (ov 48 (spSI f48) F5)
theorem F7_ok : FOK Try.prog F7 := ov_ok ok47 (ov_ok ok48 F5_ok)
theorem F7_mono : F7.mono := ov_mono (spSI_mo _) (ov_mono (spSI_mo _) F5_mono)
theorem run16 (bs : List Nat) (b : Int) (hb : bs.length < 9223372036854775808) : JQ Try.prog drops Try.f16.ntmps F7 q16 256 (Kend res16 (Good 0 (.v (tuI (lkV bs b) (lkE bs b))))) (bind (.cons (.s bs) (.cons (I b) .nil)) 0 .lf) .lf 256 := by
  have hF := F7_ok
  have hM := F7_mono
  unfold q16
  (refine JQ.step follows hF hM ?_; simp (config := { maxSteps := 4000000 }) (disch := (omega)) only [go_sem, Nat.reduceLT, Nat.reduceEqDiff, reduceIte, Nat.reduceAdd, Nat.reduceSub, Nat.reduceLeDiff, Int.reduceEq, Int.reduceLT, Int.reduceLE, Int.reduceNeg, Int.reduceAdd, Int.reduceSub, Int.reduceToNat, Int.reduceMul, Nat.reduceMul])
  by_cases h0 : chkB bs b = 0
  · obtain ⟨c1, c2, c3⟩ := chkB_0 h0
    have hal := afts_len bs b
    (refine JQ.step follows hF hM ?_; simp (config := { maxSteps := 4000000 }) (disch := (omega)) only [go_sem, Nat.reduceLT, Nat.reduceEqDiff, reduceIte, Nat.reduceAdd, Nat.reduceSub, Nat.reduceLeDiff, Int.reduceEq, Int.reduceLT, Int.reduceLE, Int.reduceNeg, Int.reduceAdd, Int.reduceSub, Int.reduceToNat, Int.reduceMul, Nat.reduceMul, F7, f47, eq_true h0])
    (refine JQ.step follows hF hM ?_; simp (config := { maxSteps := 4000000 }) (disch := (omega)) only [go_sem, Nat.reduceLT, Nat.reduceEqDiff, reduceIte, Nat.reduceAdd, Nat.reduceSub, Nat.reduceLeDiff, Int.reduceEq, Int.reduceLT, Int.reduceLE, Int.reduceNeg, Int.reduceAdd, Int.reduceSub, Int.reduceToNat, Int.reduceMul, Nat.reduceMul, F7, F5, f48, f53])
    by_cases h1 : lck bs b < 0
    · have h1' : fstN (afts bs b) 0 < 0 := h1
      (refine JQ.step follows hF hM ?_; simp (config := { maxSteps := 4000000 }) (disch := (omega)) only [go_sem, Nat.reduceLT, Nat.reduceEqDiff, reduceIte, Nat.reduceAdd, Nat.reduceSub, Nat.reduceLeDiff, Int.reduceEq, Int.reduceLT, Int.reduceLE, Int.reduceNeg, Int.reduceAdd, Int.reduceSub, Int.reduceToNat, Int.reduceMul, Nat.reduceMul, h1', res16, tuI, lkE, lkV, eq_true h0, h1])
    · have h1' : ¬ fstN (afts bs b) 0 < 0 := h1
      have h2 : fstN (afts bs b) 0 = lck bs b := rfl
      (refine JQ.step follows hF hM ?_; simp (config := { maxSteps := 4000000 }) (disch := (omega)) only [go_sem, Nat.reduceLT, Nat.reduceEqDiff, reduceIte, Nat.reduceAdd, Nat.reduceSub, Nat.reduceLeDiff, Int.reduceEq, Int.reduceLT, Int.reduceLE, Int.reduceNeg, Int.reduceAdd, Int.reduceSub, Int.reduceToNat, Int.reduceMul, Nat.reduceMul, h1'])
      (refine JQ.run follows hF hM ?_; simp (config := { maxSteps := 4000000 }) (disch := (omega)) only [go_sem, Nat.reduceLT, Nat.reduceEqDiff, reduceIte, Nat.reduceAdd, Nat.reduceSub, Nat.reduceLeDiff, Int.reduceEq, Int.reduceLT, Int.reduceLE, Int.reduceNeg, Int.reduceAdd, Int.reduceSub, Int.reduceToNat, Int.reduceMul, Nat.reduceMul, res16, tuI, lkE, lkV, eq_true h0, h1, h2])
  · (refine JQ.step follows hF hM ?_; simp (config := { maxSteps := 4000000 }) (disch := (omega)) only [go_sem, Nat.reduceLT, Nat.reduceEqDiff, reduceIte, Nat.reduceAdd, Nat.reduceSub, Nat.reduceLeDiff, Int.reduceEq, Int.reduceLT, Int.reduceLE, Int.reduceNeg, Int.reduceAdd, Int.reduceSub, Int.reduceToNat, Int.reduceMul, Nat.reduceMul, F7, f47, eq_false h0, res16, tuI, lkE, lkV])
noncomputable def f16 (bs : List Nat) (b : Int) : Out := if bs.length < 9223372036854775808 then .v (tuI (lkV bs b) (lkE bs b)) else .no
theorem tuI_ok (z e : Int) : (tuI z e).pur = true := by simp [tuI, V.pur, L.pur, I_pur]
theorem ok16 : SOK Try.prog 16 (spSI f16) := spSI_ok fun bs b lim h n v h' n' hr => by
  unfold f16 at hr
  split at hr
  · rename_i hb
    exact outC Try.func16 n16 b16 k16 r16 (Ins.none h) (by simp [L.length]) (ren_nil_rel (by simp only [purL_cons, purL_nil, pur_s, I_pur, Bool.and_self])) (.v (tuI (lkV bs b) (lkE bs b))) (tuI_ok _ _) (run16 bs b hb) lim n hr
  · cases hr

/-- How many coins are needed for the first customers. -/
def ndm (bs : List Nat) : Nat → Int
  | 0 => 0
  | k + 1 => max (ndm bs k) (-(aft bs 0 (k + 1)))
theorem ndm_rng (bs : List Nat) : ∀ k : Nat, 0 ≤ ndm bs k ∧ ndm bs k ≤ k
  | 0 => by simp [ndm]
  | k + 1 => by
    have h1 := ndm_rng bs k
    have h2 := aft_rng bs 0 (k + 1)
    rw [ndm]; omega
theorem negI {z : Int} (h0 : -9223372036854775808 < z) (h1 : z < 9223372036854775808) : mkI .i64 (IntKind.i64.wrap (0 - z)) = I (-z) := by
  rw [wrap64 (by omega) (by omega), Int.zero_sub]; rfl
theorem O_neg (F : FF) (lim : Nat) (e : Tr) (h : Hp) (n : Nat) (x : X) : (O.neg x).ev F e lim h n = pv (onK (evX x e) (fun k z => mkI k (k.wrap (0 - z))) .bad) h n := rfl
theorem O_mm (F : FF) (lim : Nat) (e : Tr) (h : Hp) (n : Nat) (mx : Bool) (x : X) (xs : XL) : (O.mm mx x xs).ev F e lim h n = pv (mmL mx (evX x e) (evXL xs e)) h n := rfl
theorem mmL_nil (mx : Bool) (v : V) : mmL mx v .nil = v := rfl
theorem mmL_cons (mx : Bool) (v u : V) (l : L) : mmL mx v (.cons u l) = mmL mx (mm2 mx v u) l := rfl
theorem mm2_max (a b : Int) : mm2 true (I a) (I b) = I (max a b) := by
  unfold mm2
  refine onNN_I ?_ fun p q hp hq _ _ => ?_
  · rw [onK_I, onK_I]
    show mkI .i64 (if b > a then b else a) = mkI .i64 (max a b)
    congr 1
    split <;> omega
  · show (Bool.rec (.n p) (.n q) (Nat.blt p q) : V) = _
    cases hx : Nat.blt p q
    · have : ¬ p < q := by rw [← Nat.blt_eq, hx]; simp
      show V.n p = _
      rw [n_I (by omega), hp, hq]; congr 1; omega
    · rw [Nat.blt_eq] at hx
      show V.n q = _
      rw [n_I (by omega), hp, hq]; congr 1; omega
noncomputable def F8 : FF := ov 21 (spS f21) (ov 48 (spSI f48) F0)
theorem F8_ok : FOK Try.prog F8 := ov_ok ok21 (ov_ok ok48 (F0_ok _))
theorem F8_mono : F8.mono := ov_mono (spS_mo _) (ov_mono (spSI_mo _) F0_mono)
def ndE (bs : List Nat) : Int := if chkS bs = 0 then ndm bs bs.length else 0
theorem run18 (bs : List Nat) (hb : bs.length < 9223372036854775808) : JQ Try.prog drops Try.f18.ntmps F8 q18 256 (Kend res18 (Good 0 (.v (tuI (ndE bs) (chkS bs))))) (bind (.cons (.s bs) .nil) 0 .lf) .lf 256 := by
  have hF := F8_ok
  have hM := F8_mono
  unfold q18
  (refine JQ.step follows hF hM ?_; simp (config := { maxSteps := 4000000 }) (disch := (omega)) only [go_sem, Nat.reduceLT, Nat.reduceEqDiff, reduceIte, Nat.reduceAdd, Nat.reduceSub, Nat.reduceLeDiff, Int.reduceEq, Int.reduceLT, Int.reduceLE, Int.reduceNeg, Int.reduceAdd, Int.reduceSub, Int.reduceToNat, Int.reduceMul, Nat.reduceMul])
  by_cases h0 : chkS bs = 0
  · have c1 := chkS_0 h0
    have hal := afts_len bs 0
    (refine JQ.step follows hF hM ?_; simp (config := { maxSteps := 4000000 }) (disch := (omega)) only [go_sem, Nat.reduceLT, Nat.reduceEqDiff, reduceIte, Nat.reduceAdd, Nat.reduceSub, Nat.reduceLeDiff, Int.reduceEq, Int.reduceLT, Int.reduceLE, Int.reduceNeg, Int.reduceAdd, Int.reduceSub, Int.reduceToNat, Int.reduceMul, Nat.reduceMul, F8, f21, eq_true h0])
    (refine JQ.step follows hF hM ?_; simp (config := { maxSteps := 4000000 }) (disch := (omega)) only [go_sem, Nat.reduceLT, Nat.reduceEqDiff, reduceIte, Nat.reduceAdd, Nat.reduceSub, Nat.reduceLeDiff, Int.reduceEq, Int.reduceLT, Int.reduceLE, Int.reduceNeg, Int.reduceAdd, Int.reduceSub, Int.reduceToNat, Int.reduceMul, Nat.reduceMul])
    refine JQ.seq ?_
    (refine JQ.step follows hF hM ?_; simp (config := { maxSteps := 4000000 }) (disch := (omega)) only [go_sem, Nat.reduceLT, Nat.reduceEqDiff, reduceIte, Nat.reduceAdd, Nat.reduceSub, Nat.reduceLeDiff, Int.reduceEq, Int.reduceLT, Int.reduceLE, Int.reduceNeg, Int.reduceAdd, Int.reduceSub, Int.reduceToNat, Int.reduceMul, Nat.reduceMul, F8, f48])
    refine JQ.block ?_
    refine JQ.loop (σ := Nat) (fun k => k ≤ bs.length) (fun k => (((Tr.lf.set (I (ndm bs k)) (tp 5)).set (.sl (tp 255) 0 1 bs.length (some bs.length)) (tp 14)).set (I bs.length) (tp 15)).set (I k) (tp 16)) (fun _ => Hp.lf.put (some (blkL 3 (iL (afts bs 0)))) (tp 255)) (fun _ => 257) (fun k => bs.length - k) 0 (Nat.zero_le _) (by ((repeat' (first | exact EnvLe.lf _ | refine EnvLe.set (by decide) ?_ ?_)) <;> first | exact EnvLe.lf _ | (simp (config := { maxSteps := 4000000 }) (disch := (omega)) only [go_sem, Nat.reduceLT, Nat.reduceEqDiff, reduceIte, Nat.reduceAdd, Nat.reduceSub, Nat.reduceLeDiff, Int.reduceEq, Int.reduceLT, Int.reduceLE, Int.reduceNeg, Int.reduceAdd, Int.reduceSub, Int.reduceToNat, Int.reduceMul, Nat.reduceMul, ndm, Int.natCast_add, Int.cast_ofNat_Int]; done) | (simp (config := { maxSteps := 4000000 }) (disch := (omega)) only [go_sem, Nat.reduceLT, Nat.reduceEqDiff, reduceIte, Nat.reduceAdd, Nat.reduceSub, Nat.reduceLeDiff, Int.reduceEq, Int.reduceLT, Int.reduceLE, Int.reduceNeg, Int.reduceAdd, Int.reduceSub, Int.reduceToNat, Int.reduceMul, Nat.reduceMul, ndm, Int.natCast_add, Int.cast_ofNat_Int] <;> first | rfl | (congr 1; omega)))) (HpLe.refl _) rfl ?_
    intro k hk
    unfold q18_l0
    have hr := aft_rng bs 0 (k + 1)
    by_cases hlt : k < bs.length
    · have hlt' : (k : Int) < (bs.length : Int) := by omega
      (refine JQ.run follows hF hM ?_; simp (config := { maxSteps := 4000000 }) (disch := (omega)) only [go_sem, Nat.reduceLT, Nat.reduceEqDiff, reduceIte, Nat.reduceAdd, Nat.reduceSub, Nat.reduceLeDiff, Int.reduceEq, Int.reduceLT, Int.reduceLE, Int.reduceNeg, Int.reduceAdd, Int.reduceSub, Int.reduceToNat, Int.reduceMul, Nat.reduceMul, hlt', At_afts hlt, O_neg, O_mm, negI, mmL_nil, mmL_cons, mm2_max])
      exact ⟨k + 1, by omega, by omega, by ((repeat' (first | exact EnvLe.lf _ | refine EnvLe.set (by decide) ?_ ?_)) <;> first | exact EnvLe.lf _ | (simp (config := { maxSteps := 4000000 }) (disch := (omega)) only [go_sem, Nat.reduceLT, Nat.reduceEqDiff, reduceIte, Nat.reduceAdd, Nat.reduceSub, Nat.reduceLeDiff, Int.reduceEq, Int.reduceLT, Int.reduceLE, Int.reduceNeg, Int.reduceAdd, Int.reduceSub, Int.reduceToNat, Int.reduceMul, Nat.reduceMul, ndm, Int.natCast_add, Int.cast_ofNat_Int]; done) | (simp (config := { maxSteps := 4000000 }) (disch := (omega)) only [go_sem, Nat.reduceLT, Nat.reduceEqDiff, reduceIte, Nat.reduceAdd, Nat.reduceSub, Nat.reduceLeDiff, Int.reduceEq, Int.reduceLT, Int.reduceLE, Int.reduceNeg, Int.reduceAdd, Int.reduceSub, Int.reduceToNat, Int.reduceMul, Nat.reduceMul, ndm, Int.natCast_add, Int.cast_ofNat_Int] <;> first | rfl | (congr 1; omega))), HpLe.refl _⟩
    · obtain rfl : k = bs.length := by omega
      (refine JQ.run follows hF hM ?_; simp (config := { maxSteps := 4000000 }) (disch := (omega)) only [go_sem, Nat.reduceLT, Nat.reduceEqDiff, reduceIte, Nat.reduceAdd, Nat.reduceSub, Nat.reduceLeDiff, Int.reduceEq, Int.reduceLT, Int.reduceLE, Int.reduceNeg, Int.reduceAdd, Int.reduceSub, Int.reduceToNat, Int.reduceMul, Nat.reduceMul, Int.lt_irrefl])
      (refine JQ.run follows hF hM ?_; simp (config := { maxSteps := 4000000 }) (disch := (omega)) only [go_sem, Nat.reduceLT, Nat.reduceEqDiff, reduceIte, Nat.reduceAdd, Nat.reduceSub, Nat.reduceLeDiff, Int.reduceEq, Int.reduceLT, Int.reduceLE, Int.reduceNeg, Int.reduceAdd, Int.reduceSub, Int.reduceToNat, Int.reduceMul, Nat.reduceMul, res18, tuI, ndE, eq_true h0, h0])
  · (refine JQ.step follows hF hM ?_; simp (config := { maxSteps := 4000000 }) (disch := (omega)) only [go_sem, Nat.reduceLT, Nat.reduceEqDiff, reduceIte, Nat.reduceAdd, Nat.reduceSub, Nat.reduceLeDiff, Int.reduceEq, Int.reduceLT, Int.reduceLE, Int.reduceNeg, Int.reduceAdd, Int.reduceSub, Int.reduceToNat, Int.reduceMul, Nat.reduceMul, F8, f21, eq_false h0, res18, tuI, ndE])
noncomputable def f18 (bs : List Nat) : Out := if bs.length < 9223372036854775808 then .v (tuI (ndE bs) (chkS bs)) else .no
theorem ok18 : SOK Try.prog 18 (spS f18) := spS_ok fun bs lim h n v h' n' hr => by
  unfold f18 at hr
  split at hr
  · rename_i hb
    exact outC Try.func18 n18 b18 k18 r18 (Ins.none h) (by simp [L.length]) (ren_nil_rel rfl) (.v (tuI (ndE bs) (chkS bs))) (tuI_ok _ _) (run18 bs hb) lim n hr
  · cases hr
end Go.Proofs.Ytkdbgkibifigiaa.Ev
