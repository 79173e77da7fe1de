/- The till: what is in it after some customers, in the reference. -/
import Derived.Test.YtkdbgkibifigiaaTlC
namespace Go.Proofs.Ytkdbgkibifigiaa.Ev
set_option linter.unusedVariables false
set_option linter.unusedSimpArgs false
open Go Go.Proofs
attribute [local go_sem] evC_seq evC_reg evC_cond evC_block evC_skip evC_exit evC_ret evR_cons evR_nil evR_gd guardB_tt guardB_ff guardB_tf guardB_ft guardB_none bindR_ok bindR_okn rgRs_ok seqR_nor seqR_ext seqR_ret condR_true condR_false blockR_nor blockR_ext blockR_ret evX_t evX_c evXL_nil evXL_cons O_mv O_bin O_pick O_eqb O_not O_ext O_call O_conv O_slen O_six O_sbi pv_I pv_i pv_b pv_s pv_ns pv_sl pv_p pv_tu pv_ag bin_lss bin_leq bin_gtr bin_geq bin_eql bin_neq bin8_eql bin8_neq bin_add bin_sub bin_mul get_st get_lf bind_nil bind_cons if_true if_false Got_nor Got_ext Got_ret Kseq Kblk Klp Kend onStr_s onB_b onT_tu onI_I onN_I onK_I eqb_b not_b nthL_0 nthL_1 nthL_2 known_nil known_cons I_known known_b known_s evRVs_nil evRVs_cons evRes_1 evRes_2 evRV_tmp Bool.and_true Bool.true_and Bool.and_self Bool.not_true Bool.not_false decide_true decide_false Int.toNat_natCast true_and and_true big hget_same hget_ne newB_n onP_p onS_sl onS_ns O_fad O_alloc_if O_ixs O_len O_ld O_st O_box boxB_if ldB_if ldB_agif stB_if toL_I toL_i toL_b toL_s toL_sl toL_ns toL_ag allC_nil allC_cons isC_i isC_b isC_s isC_sl isC_ns I_isC Llen_nil Llen_cons Lget_0 Lget_1 Lget_2 Lget_3 blkL_size cell_blkL_if getL_blkL_if getL_setL_if setL_sz evRV_cell' rvB_agif rvB_if evPL_cons bldK_if evPL_nil O_build O_part evBuild_ok okL_some onA_ag partV_1 evPart_eq updS_nil updS_cons upd_0 upd_1 upd_2 upd_3 ge_iff_le if_pos and_self Nat.le_refl known_ag known_sl known_ns known_i ov_at spS_eq spSI_eq spSII_eq spI_eq spII_eq spIII_eq spIIII_eq res_v res_sl res_slE Good I_pur pur_b pur_s pur_i pur_ns pur_ag pur_tu purL_nil purL_cons evDr_eq evDs_nil evDs_cons dsR_ok stepD_eq sdB_n sdB_g sdG_tt sdG_ff sdG_tf sdG_ft sdG_none runD_0 rdR_f rdR_t baseOf_pu baseOf_h baseU_nil baseA_nil baseA_0 baseR_nil baseR_0 baseR_00 appAll_nil appAll_0 restr_nil restr_cons setD_some setD_none evC_draw iL_len iL_get iL_allC iL_pur hp0_0 hp0_c rdL_ns rdL_sl List.length_cons List.length_nil O_mks mkB_if O_bsl bslB_if O_app apX_ns apX_sl apN_some apS_some blkL_el Nat.one_mul Nat.mul_one Nat.zero_add n_I onF_fn O_callv app_nil app_cons spLF_eq spL_eq spLL_eq onL_some onLL_ss onLL_ns onLL_sn onLL_nn rdB_blk Int.cast_ofNat_Int

def stp (bs : List Nat) (j : Nat) : Int := if byt bs j = 99 then 1 else -1
/-- How many coins there are after some customers. -/
def aft (bs : List Nat) (b : Int) : Nat → Int
  | 0 => b
  | k + 1 => aft bs b k + stp bs k
theorem aft_rng (bs : List Nat) (b : Int) : ∀ k : Nat, b - k ≤ aft bs b k ∧ aft bs b k ≤ b + k
  | 0 => by simp [aft]
  | k + 1 => by
    have := aft_rng bs b k
    unfold aft stp
    split <;> omega
theorem aft_c {bs : List Nat} {b : Int} {k : Nat} (h : byt bs k = 99) : aft bs b (k + 1) = aft bs b k + 1 := by rw [aft, stp, if_pos h]
theorem aft_n {bs : List Nat} {b : Int} {k : Nat} (h : ¬ byt bs k = 99) : aft bs b (k + 1) = aft bs b k - 1 := by rw [aft, stp, if_neg h]; rfl
def afts (bs : List Nat) (b : Int) : List Int := (List.range bs.length).map fun j => aft bs b (j + 1)
theorem afts_len (bs : List Nat) (b : Int) : (afts bs b).length = bs.length := by simp [afts]
theorem At_afts {bs : List Nat} {b : Int} {k : Nat} (h : k < bs.length) : At (afts bs b) k = aft bs b (k + 1) := by
  simp [At, afts, List.getElem?_map, List.getElem?_range h]
/-- The place of the first negative number. -/
def fstN : List Int → Nat → Int
  | [], _ => -1
  | z :: l, i => if z < 0 then i else fstN l (i + 1)
theorem fstN_step {xs : List Int} {k : Nat} (h : k < xs.length) : fstN (xs.drop k) k = if At xs k < 0 then (k : Int) else fstN (xs.drop (k + 1)) (k + 1) := by
  rw [drop_At h, fstN]
theorem fstN_end (xs : List Int) (k : Nat) (h : xs.length ≤ k) : fstN (xs.drop k) k = -1 := by rw [List.drop_of_length_le h]; rfl
theorem fstN_rng : ∀ (xs : List Int) (i : Nat), fstN xs i = -1 ∨ (i ≤ fstN xs i ∧ fstN xs i < i + xs.length)
  | [], i => .inl rfl
  | z :: l, i => by
    unfold fstN
    split
    · right; simp; omega
    · rcases fstN_rng l (i + 1) with h | h
      · exact .inl h
      · right; simp at h ⊢; omega
def lck (bs : List Nat) (b : Int) : Int := fstN (afts bs b) 0
theorem lck_rng (bs : List Nat) (b : Int) : -1 ≤ lck bs b ∧ lck bs b < bs.length ∨ lck bs b = -1 := by
  rcases fstN_rng (afts bs b) 0 with h | h
  · exact .inr h
  · left; rw [afts_len] at h; unfold lck; simp at h; omega

theorem run52 (bs : List Nat) (b : Int) (m : Nat) (h1 : bs.length ≤ 16) (h2 : -1000 ≤ b ∧ b ≤ 1000) (h3 : m ≤ bs.length) : JQ Try.prog drops Try.f52.ntmps F0 q52 256 (Kend res52 (Good 0 (.v (I (aft bs b m))))) (bind (.cons (.s bs) (.cons (I b) (.cons (I m) .nil))) 0 .lf) .lf 256 := by
  have hF := F0_ok Try.prog
  have hM := F0_mono
  unfold q52
  (refine JQ.step follows hF hM ?_; simp (config := { maxSteps := 4000000 }) (disch := (omega)) only [go_sem, Nat.reduceLT, Nat.reduceEqDiff, reduceIte, Nat.reduceAdd, Nat.reduceSub, Nat.reduceLeDiff, Int.reduceEq, Int.reduceLT, Int.reduceLE, Int.reduceNeg, Int.reduceAdd, Int.reduceSub, Int.reduceToNat, Int.reduceMul, Nat.reduceMul])
  refine JQ.seq ?_
  (refine JQ.step follows hF hM ?_; simp (config := { maxSteps := 4000000 }) (disch := (omega)) only [go_sem, Nat.reduceLT, Nat.reduceEqDiff, reduceIte, Nat.reduceAdd, Nat.reduceSub, Nat.reduceLeDiff, Int.reduceEq, Int.reduceLT, Int.reduceLE, Int.reduceNeg, Int.reduceAdd, Int.reduceSub, Int.reduceToNat, Int.reduceMul, Nat.reduceMul])
  refine JQ.block ?_
  refine JQ.loop (σ := Nat) (fun k => k ≤ m) (fun k => (((Tr.lf.set (.s bs) (tp 0)).set (I (aft bs b k)) (tp 1)).set (I m) (tp 2)).set (I k) (tp 7)) (fun _ => .lf) (fun _ => 256) (fun k => m - k) 0 (Nat.zero_le _) (by ((repeat' (first | exact EnvLe.lf _ | refine EnvLe.set (by decide) ?_ ?_)) <;> first | exact EnvLe.lf _ | (simp (config := { maxSteps := 4000000 }) (disch := (omega)) only [go_sem, Nat.reduceLT, Nat.reduceEqDiff, reduceIte, Nat.reduceAdd, Nat.reduceSub, Nat.reduceLeDiff, Int.reduceEq, Int.reduceLT, Int.reduceLE, Int.reduceNeg, Int.reduceAdd, Int.reduceSub, Int.reduceToNat, Int.reduceMul, Nat.reduceMul, aft, Int.natCast_add, Int.cast_ofNat_Int]; done) | (simp (config := { maxSteps := 4000000 }) (disch := (omega)) only [go_sem, Nat.reduceLT, Nat.reduceEqDiff, reduceIte, Nat.reduceAdd, Nat.reduceSub, Nat.reduceLeDiff, Int.reduceEq, Int.reduceLT, Int.reduceLE, Int.reduceNeg, Int.reduceAdd, Int.reduceSub, Int.reduceToNat, Int.reduceMul, Nat.reduceMul, aft, Int.natCast_add, Int.cast_ofNat_Int] <;> first | rfl | (congr 1; omega)))) (HpLe.refl _) rfl ?_
  intro k hk
  unfold q52_l0
  have hr := aft_rng bs b k
  by_cases hlt : k < m
  · have hlt' : (k : Int) < (m : Int) := by omega
    have hkl : k < bs.length := by omega
    by_cases hc : byt bs k = 99
    · (refine JQ.run follows hF hM ?_; simp (config := { maxSteps := 4000000 }) (disch := (omega)) only [go_sem, Nat.reduceLT, Nat.reduceEqDiff, reduceIte, Nat.reduceAdd, Nat.reduceSub, Nat.reduceLeDiff, Int.reduceEq, Int.reduceLT, Int.reduceLE, Int.reduceNeg, Int.reduceAdd, Int.reduceSub, Int.reduceToNat, Int.reduceMul, Nat.reduceMul, hlt', nthS_at hkl, eq_true hc])
      exact ⟨k + 1, by omega, by omega, by ((repeat' (first | exact EnvLe.lf _ | refine EnvLe.set (by decide) ?_ ?_)) <;> first | exact EnvLe.lf _ | (simp (config := { maxSteps := 4000000 }) (disch := (omega)) only [go_sem, Nat.reduceLT, Nat.reduceEqDiff, reduceIte, Nat.reduceAdd, Nat.reduceSub, Nat.reduceLeDiff, Int.reduceEq, Int.reduceLT, Int.reduceLE, Int.reduceNeg, Int.reduceAdd, Int.reduceSub, Int.reduceToNat, Int.reduceMul, Nat.reduceMul, aft_c hc, Int.natCast_add, Int.cast_ofNat_Int]; done) | (simp (config := { maxSteps := 4000000 }) (disch := (omega)) only [go_sem, Nat.reduceLT, Nat.reduceEqDiff, reduceIte, Nat.reduceAdd, Nat.reduceSub, Nat.reduceLeDiff, Int.reduceEq, Int.reduceLT, Int.reduceLE, Int.reduceNeg, Int.reduceAdd, Int.reduceSub, Int.reduceToNat, Int.reduceMul, Nat.reduceMul, aft_c hc, Int.natCast_add, Int.cast_ofNat_Int] <;> first | rfl | (congr 1; omega))), HpLe.refl _⟩
    · (refine JQ.run follows hF hM ?_; simp (config := { maxSteps := 4000000 }) (disch := (omega)) only [go_sem, Nat.reduceLT, Nat.reduceEqDiff, reduceIte, Nat.reduceAdd, Nat.reduceSub, Nat.reduceLeDiff, Int.reduceEq, Int.reduceLT, Int.reduceLE, Int.reduceNeg, Int.reduceAdd, Int.reduceSub, Int.reduceToNat, Int.reduceMul, Nat.reduceMul, hlt', nthS_at hkl, eq_false hc])
      exact ⟨k + 1, by omega, by omega, by ((repeat' (first | exact EnvLe.lf _ | refine EnvLe.set (by decide) ?_ ?_)) <;> first | exact EnvLe.lf _ | (simp (config := { maxSteps := 4000000 }) (disch := (omega)) only [go_sem, Nat.reduceLT, Nat.reduceEqDiff, reduceIte, Nat.reduceAdd, Nat.reduceSub, Nat.reduceLeDiff, Int.reduceEq, Int.reduceLT, Int.reduceLE, Int.reduceNeg, Int.reduceAdd, Int.reduceSub, Int.reduceToNat, Int.reduceMul, Nat.reduceMul, aft_n hc, Int.natCast_add, Int.cast_ofNat_Int]; done) | (simp (config := { maxSteps := 4000000 }) (disch := (omega)) only [go_sem, Nat.reduceLT, Nat.reduceEqDiff, reduceIte, Nat.reduceAdd, Nat.reduceSub, Nat.reduceLeDiff, Int.reduceEq, Int.reduceLT, Int.reduceLE, Int.reduceNeg, Int.reduceAdd, Int.reduceSub, Int.reduceToNat, Int.reduceMul, Nat.reduceMul, aft_n hc, Int.natCast_add, Int.cast_ofNat_Int] <;> first | rfl | (congr 1; omega))), HpLe.refl _⟩
  · obtain rfl : k = m := by omega
    (refine JQ.run follows hF hM ?_; simp (config := { maxSteps := 4000000 }) (disch := (omega)) only [go_sem, Nat.reduceLT, Nat.reduceEqDiff, reduceIte, Nat.reduceAdd, Nat.reduceSub, Nat.reduceLeDiff, Int.reduceEq, Int.reduceLT, Int.reduceLE, Int.reduceNeg, Int.reduceAdd, Int.reduceSub, Int.reduceToNat, Int.reduceMul, Nat.reduceMul, Int.lt_irrefl])
    (refine JQ.run follows hF hM ?_; simp (config := { maxSteps := 4000000 }) (disch := (omega)) only [go_sem, Nat.reduceLT, Nat.reduceEqDiff, reduceIte, Nat.reduceAdd, Nat.reduceSub, Nat.reduceLeDiff, Int.reduceEq, Int.reduceLT, Int.reduceLE, Int.reduceNeg, Int.reduceAdd, Int.reduceSub, Int.reduceToNat, Int.reduceMul, Nat.reduceMul, res52])
noncomputable def f52 (bs : List Nat) (b m : Int) : Out := if (bs.length ≤ 16 ∧ -1000 ≤ b ∧ b ≤ 1000) ∧ 0 ≤ m ∧ m ≤ bs.length then .v (I (aft bs b m.toNat)) else .no
theorem ok52 : SOK Try.prog 52 (spSII f52) := spSII_ok fun bs b m lim h n v h' n' hr => by
  unfold f52 at hr
  split at hr
  · rename_i hb
    obtain ⟨k, rfl⟩ := Int.eq_ofNat_of_zero_le hb.2.1
    exact outC Try.func52 n52 b52 k52 r52 (Ins.none h) (by simp [L.length]) (ren_nil_rel (by simp only [purL_cons, purL_nil, pur_s, I_pur, Bool.and_self])) (.v (I (aft bs b k))) (I_pur _) (run52 bs b k hb.1.1 hb.1.2 (by omega)) lim n hr
  · cases hr
noncomputable def F2 : FF := ov 52 (spSII f52) (ov 47 (spSI f47) (ov 54 (spSI f47) F1))
theorem F2_ok : FOK Try.prog F2 := ov_ok ok52 (ov_ok ok47 (ov_ok ok54 F1_ok))
theorem F2_mono : F2.mono := ov_mono (spSII_mo _) (ov_mono (spSI_mo _) (ov_mono (spSI_mo _) F1_mono))

theorem run55 (bs : List Nat) (b : Int) (h1 : bs.length ≤ 16) (h2 : -1000 ≤ b ∧ b ≤ 1000) : JQ Try.prog drops Try.f55.ntmps F2 q55 256 (Kend res55 (Good 0 (.v (I (lck bs b))))) (bind (.cons (.s bs) (.cons (I b) .nil)) 0 .lf) .lf 256 := by
  have hF := F2_ok
  have hM := F2_mono
  unfold q55
  (refine JQ.step follows hF hM ?_; simp (config := { maxSteps := 4000000 }) (disch := (omega)) only [go_sem, Nat.reduceLT, Nat.reduceEqDiff, reduceIte, Nat.reduceAdd, Nat.reduceSub, Nat.reduceLeDiff, Int.reduceEq, Int.reduceLT, Int.reduceLE, Int.reduceNeg, Int.reduceAdd, Int.reduceSub, Int.reduceToNat, Int.reduceMul, Nat.reduceMul])
  refine JQ.seq ?_
  (refine JQ.step follows hF hM ?_; simp (config := { maxSteps := 4000000 }) (disch := (omega)) only [go_sem, Nat.reduceLT, Nat.reduceEqDiff, reduceIte, Nat.reduceAdd, Nat.reduceSub, Nat.reduceLeDiff, Int.reduceEq, Int.reduceLT, Int.reduceLE, Int.reduceNeg, Int.reduceAdd, Int.reduceSub, Int.reduceToNat, Int.reduceMul, Nat.reduceMul])
  refine JQ.block ?_
  refine JQ.loop (σ := Nat) (fun k => k ≤ bs.length ∧ lck bs b = fstN ((afts bs b).drop k) k) (fun k => ((Tr.lf.set (.s bs) (tp 0)).set (I b) (tp 1)).set (I k) (tp 5)) (fun _ => .lf) (fun _ => 256) (fun k => bs.length - k) 0 ⟨Nat.zero_le _, rfl⟩ (by ((repeat' (first | exact EnvLe.lf _ | refine EnvLe.set (by decide) ?_ ?_)) <;> first | exact EnvLe.lf _ | (simp (config := { maxSteps := 4000000 }) (disch := (omega)) only [go_sem, Nat.reduceLT, Nat.reduceEqDiff, reduceIte, Nat.reduceAdd, Nat.reduceSub, Nat.reduceLeDiff, Int.reduceEq, Int.reduceLT, Int.reduceLE, Int.reduceNeg, Int.reduceAdd, Int.reduceSub, Int.reduceToNat, Int.reduceMul, Nat.reduceMul, Int.natCast_add, Int.cast_ofNat_Int]; done) | (simp (config := { maxSteps := 4000000 }) (disch := (omega)) only [go_sem, Nat.reduceLT, Nat.reduceEqDiff, reduceIte, Nat.reduceAdd, Nat.reduceSub, Nat.reduceLeDiff, Int.reduceEq, Int.reduceLT, Int.reduceLE, Int.reduceNeg, Int.reduceAdd, Int.reduceSub, Int.reduceToNat, Int.reduceMul, Nat.reduceMul, Int.natCast_add, Int.cast_ofNat_Int] <;> first | rfl | (congr 1; omega)))) (HpLe.refl _) rfl ?_
  rintro k ⟨hk, hl⟩
  unfold q55_l0
  have hr := aft_rng bs b (k + 1)
  by_cases hlt : k < bs.length
  · have hlt' : (k : Int) < (bs.length : Int) := by omega
    have ht : ((k : Int) + 1).toNat = k + 1 := by omega
    rw [fstN_step (by rw [afts_len]; exact hlt), At_afts hlt] at hl
    by_cases hc : aft bs b (k + 1) < 0
    · rw [if_pos hc] at hl
      (refine JQ.run follows hF hM ?_; simp (config := { maxSteps := 4000000 }) (disch := (omega)) only [go_sem, Nat.reduceLT, Nat.reduceEqDiff, reduceIte, Nat.reduceAdd, Nat.reduceSub, Nat.reduceLeDiff, Int.reduceEq, Int.reduceLT, Int.reduceLE, Int.reduceNeg, Int.reduceAdd, Int.reduceSub, Int.reduceToNat, Int.reduceMul, Nat.reduceMul, small_len, hlt', F2, F1, f52, ht, hc, res55, hl])
    · rw [if_neg hc] at hl
      (refine JQ.run follows hF hM ?_; simp (config := { maxSteps := 4000000 }) (disch := (omega)) only [go_sem, Nat.reduceLT, Nat.reduceEqDiff, reduceIte, Nat.reduceAdd, Nat.reduceSub, Nat.reduceLeDiff, Int.reduceEq, Int.reduceLT, Int.reduceLE, Int.reduceNeg, Int.reduceAdd, Int.reduceSub, Int.reduceToNat, Int.reduceMul, Nat.reduceMul, small_len, hlt', F2, F1, f52, ht, hc])
      exact ⟨k + 1, ⟨by omega, hl⟩, by omega, by ((repeat' (first | exact EnvLe.lf _ | refine EnvLe.set (by decide) ?_ ?_)) <;> first | exact EnvLe.lf _ | (simp (config := { maxSteps := 4000000 }) (disch := (omega)) only [go_sem, Nat.reduceLT, Nat.reduceEqDiff, reduceIte, Nat.reduceAdd, Nat.reduceSub, Nat.reduceLeDiff, Int.reduceEq, Int.reduceLT, Int.reduceLE, Int.reduceNeg, Int.reduceAdd, Int.reduceSub, Int.reduceToNat, Int.reduceMul, Nat.reduceMul, Int.natCast_add, Int.cast_ofNat_Int]; done) | (simp (config := { maxSteps := 4000000 }) (disch := (omega)) only [go_sem, Nat.reduceLT, Nat.reduceEqDiff, reduceIte, Nat.reduceAdd, Nat.reduceSub, Nat.reduceLeDiff, Int.reduceEq, Int.reduceLT, Int.reduceLE, Int.reduceNeg, Int.reduceAdd, Int.reduceSub, Int.reduceToNat, Int.reduceMul, Nat.reduceMul, Int.natCast_add, Int.cast_ofNat_Int] <;> first | rfl | (congr 1; omega))), HpLe.refl _⟩
  · obtain rfl : k = bs.length := by omega
    rw [fstN_end _ _ (by rw [afts_len]; exact Nat.le_refl _)] at hl
    (refine JQ.run follows hF hM ?_; simp (config := { maxSteps := 4000000 }) (disch := (omega)) only [go_sem, Nat.reduceLT, Nat.reduceEqDiff, reduceIte, Nat.reduceAdd, Nat.reduceSub, Nat.reduceLeDiff, Int.reduceEq, Int.reduceLT, Int.reduceLE, Int.reduceNeg, Int.reduceAdd, Int.reduceSub, Int.reduceToNat, Int.reduceMul, Nat.reduceMul, small_len, Int.lt_irrefl])
    (refine JQ.run follows hF hM ?_; simp (config := { maxSteps := 4000000 }) (disch := (omega)) only [go_sem, Nat.reduceLT, Nat.reduceEqDiff, reduceIte, Nat.reduceAdd, Nat.reduceSub, Nat.reduceLeDiff, Int.reduceEq, Int.reduceLT, Int.reduceLE, Int.reduceNeg, Int.reduceAdd, Int.reduceSub, Int.reduceToNat, Int.reduceMul, Nat.reduceMul, res55, hl])
noncomputable def f55 (bs : List Nat) (b : Int) : Out := if bs.length ≤ 16 ∧ -1000 ≤ b ∧ b ≤ 1000 then .v (I (lck bs b)) else .no
theorem ok55 : SOK Try.prog 55 (spSI f55) := spSI_ok fun bs b lim h n v h' n' hr => by
  unfold f55 at hr
  split at hr
  · rename_i hb
    exact outC Try.func55 n55 b55 k55 r55 (Ins.none h) (by simp [L.length]) (ren_nil_rel (by simp only [purL_cons, purL_nil, pur_s, I_pur, Bool.and_self])) (.v (I (lck bs b))) (I_pur _) (run55 bs b hb.1 hb.2) lim n hr
  · cases hr
noncomputable def F3 : FF := ov 55 (spSI f55) F2
theorem F3_ok : FOK Try.prog F3 := ov_ok ok55 F2_ok
theorem F3_mono : F3.mono := ov_mono (spSI_mo _) F2_mono

theorem chkS_0 {bs : List Nat} (h : chkS bs = 0) : bs.length ≤ 16 := by
  unfold chkS at h
  split at h
  · cases h
  · omega
theorem chkB_0 {bs : List Nat} {z : Int} (h : chkB bs z = 0) : bs.length ≤ 16 ∧ 0 ≤ z ∧ z ≤ 20 := by
  unfold chkB at h
  split at h
  · rename_i h0
    split at h
    · cases h
    · exact ⟨chkS_0 h0, by omega, by omega⟩
  · rename_i h0; exact absurd h h0
/-- The error of an order that is to be good. -/
def gdS (bs : List Nat) (b : Int) : Int := if chkB bs b = 0 then (if 0 ≤ lck bs b then 14 else 0) else chkB bs b
theorem run51 (bs : List Nat) (b : Int) (hb : bs.length < 9223372036854775808) : JQ Try.prog drops Try.f51.ntmps F3 q51 256 (Kend res51 (Good 0 (.v (I (gdS bs b))))) (bind (.cons (.s bs) (.cons (I b) .nil)) 0 .lf) .lf 256 := by
  have hF := F3_ok
  have hM := F3_mono
  unfold q51
  (refine JQ.step follows hF hM ?_; simp (config := { maxSteps := 4000000 }) (disch := (omega)) only [go_sem, Nat.reduceLT, Nat.reduceEqDiff, reduceIte, Nat.reduceAdd, Nat.reduceSub, Nat.reduceLeDiff, Int.reduceEq, Int.reduceLT, Int.reduceLE, Int.reduceNeg, Int.reduceAdd, Int.reduceSub, Int.reduceToNat, Int.reduceMul, Nat.reduceMul])
  (refine JQ.step follows hF hM ?_; simp (config := { maxSteps := 4000000 }) (disch := (omega)) only [go_sem, Nat.reduceLT, Nat.reduceEqDiff, reduceIte, Nat.reduceAdd, Nat.reduceSub, Nat.reduceLeDiff, Int.reduceEq, Int.reduceLT, Int.reduceLE, Int.reduceNeg, Int.reduceAdd, Int.reduceSub, Int.reduceToNat, Int.reduceMul, Nat.reduceMul, F3, F2, f47])
  by_cases h0 : chkB bs b = 0
  · obtain ⟨c1, c2, c3⟩ := chkB_0 h0
    by_cases h1 : 0 ≤ lck bs b
    · (refine JQ.step follows hF hM ?_; simp (config := { maxSteps := 4000000 }) (disch := (omega)) only [go_sem, Nat.reduceLT, Nat.reduceEqDiff, reduceIte, Nat.reduceAdd, Nat.reduceSub, Nat.reduceLeDiff, Int.reduceEq, Int.reduceLT, Int.reduceLE, Int.reduceNeg, Int.reduceAdd, Int.reduceSub, Int.reduceToNat, Int.reduceMul, Nat.reduceMul, F3, F2, f55, eq_true h0, h1])
      (refine JQ.run follows hF hM ?_; simp (config := { maxSteps := 4000000 }) (disch := (omega)) only [go_sem, Nat.reduceLT, Nat.reduceEqDiff, reduceIte, Nat.reduceAdd, Nat.reduceSub, Nat.reduceLeDiff, Int.reduceEq, Int.reduceLT, Int.reduceLE, Int.reduceNeg, Int.reduceAdd, Int.reduceSub, Int.reduceToNat, Int.reduceMul, Nat.reduceMul, res51, gdS, eq_true h0, h1])
    · (refine JQ.step follows hF hM ?_; simp (config := { maxSteps := 4000000 }) (disch := (omega)) only [go_sem, Nat.reduceLT, Nat.reduceEqDiff, reduceIte, Nat.reduceAdd, Nat.reduceSub, Nat.reduceLeDiff, Int.reduceEq, Int.reduceLT, Int.reduceLE, Int.reduceNeg, Int.reduceAdd, Int.reduceSub, Int.reduceToNat, Int.reduceMul, Nat.reduceMul, F3, F2, f55, eq_true h0, h1])
      (refine JQ.run follows hF hM ?_; simp (config := { maxSteps := 4000000 }) (disch := (omega)) only [go_sem, Nat.reduceLT, Nat.reduceEqDiff, reduceIte, Nat.reduceAdd, Nat.reduceSub, Nat.reduceLeDiff, Int.reduceEq, Int.reduceLT, Int.reduceLE, Int.reduceNeg, Int.reduceAdd, Int.reduceSub, Int.reduceToNat, Int.reduceMul, Nat.reduceMul, res51, gdS, eq_true h0, h1, h0])
  · (refine JQ.step follows hF hM ?_; simp (config := { maxSteps := 4000000 }) (disch := (omega)) only [go_sem, Nat.reduceLT, Nat.reduceEqDiff, reduceIte, Nat.reduceAdd, Nat.reduceSub, Nat.reduceLeDiff, Int.reduceEq, Int.reduceLT, Int.reduceLE, Int.reduceNeg, Int.reduceAdd, Int.reduceSub, Int.reduceToNat, Int.reduceMul, Nat.reduceMul, F3, F2, eq_false h0])
    (refine JQ.run follows hF hM ?_; simp (config := { maxSteps := 4000000 }) (disch := (omega)) only [go_sem, Nat.reduceLT, Nat.reduceEqDiff, reduceIte, Nat.reduceAdd, Nat.reduceSub, Nat.reduceLeDiff, Int.reduceEq, Int.reduceLT, Int.reduceLE, Int.reduceNeg, Int.reduceAdd, Int.reduceSub, Int.reduceToNat, Int.reduceMul, Nat.reduceMul, res51, gdS, eq_false h0])
noncomputable def f51 (bs : List Nat) (b : Int) : Out := if bs.length < 9223372036854775808 then .v (I (gdS bs b)) else .no
theorem ok51 : SOK Try.prog 51 (spSI f51) := spSI_ok fun bs b lim h n v h' n' hr => by
  unfold f51 at hr
  split at hr
  · rename_i hb
    exact outC Try.func51 n51 b51 k51 r51 (Ins.none h) (by simp [L.length]) (ren_nil_rel (by simp only [purL_cons, purL_nil, pur_s, I_pur, Bool.and_self])) (.v (I (gdS bs b))) (I_pur _) (run51 bs b hb) lim n hr
  · cases hr
end Go.Proofs.Ytkdbgkibifigiaa.Ev
