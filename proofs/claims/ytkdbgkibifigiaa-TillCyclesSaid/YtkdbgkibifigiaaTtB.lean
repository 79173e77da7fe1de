/- The till: what is left of an order, and its number. -/
import Derived.Test.YtkdbgkibifigiaaTtA
import Derived.Test.YtkdbgkibifigiaaTlF
namespace Go.Proofs.Ytkdbgkibifigiaa.Ev
set_option linter.unusedVariables false
set_option linter.unusedSimpArgs false
set_option maxRecDepth 100000
open Go Go.Proofs
attribute [local go_sem] evC_seq evC_reg evC_cond evC_block evC_skip evC_exit evC_ret evR_cons evR_nil evR_gd guardB_tt guardB_ff guardB_tf guardB_ft guardB_none bindR_ok bindR_okn rgRs_ok seqR_nor seqR_ext seqR_ret condR_true condR_false blockR_nor blockR_ext blockR_ret evX_t evX_c evXL_nil evXL_cons O_mv O_bin O_pick O_eqb O_not O_ext O_call O_conv O_slen O_six O_sbi pv_I pv_i pv_b pv_s pv_ns pv_sl pv_p pv_tu pv_ag bin_lss bin_leq bin_gtr bin_geq bin_eql bin_neq bin8_eql bin8_neq bin_add bin_sub bin_mul get_st get_lf bind_nil bind_cons if_true if_false Got_nor Got_ext Got_ret Kseq Kblk Klp Kend onStr_s onB_b onT_tu onI_I onN_I onK_I eqb_b not_b nthL_0 nthL_1 nthL_2 known_nil known_cons I_known known_b known_s evRVs_nil evRVs_cons evRes_1 evRes_2 evRV_tmp Bool.and_true Bool.true_and Bool.and_self Bool.not_true Bool.not_false decide_true decide_false Int.toNat_natCast true_and and_true big hget_same hget_ne newB_n onP_p onS_sl onS_ns O_fad O_alloc_if O_ixs O_len O_ld O_st O_box boxB_if ldB_if ldB_agif stB_if toL_I toL_i toL_b toL_s toL_sl toL_ns toL_ag allC_nil allC_cons isC_i isC_b isC_s isC_sl isC_ns I_isC Llen_nil Llen_cons Lget_0 Lget_1 Lget_2 Lget_3 blkL_size cell_blkL_if getL_blkL_if getL_setL_if setL_sz evRV_cell' rvB_agif rvB_if evPL_cons bldK_if evPL_nil O_build O_part evBuild_ok okL_some onA_ag partV_1 evPart_eq updS_nil updS_cons upd_0 upd_1 upd_2 upd_3 ge_iff_le if_pos and_self Nat.le_refl known_ag known_sl known_ns known_i ov_at spS_eq spSI_eq spSII_eq spI_eq spII_eq spIII_eq spIIII_eq res_v res_sl res_slE Good I_pur pur_b pur_s pur_i pur_ns pur_ag pur_tu purL_nil purL_cons evDr_eq evDs_nil evDs_cons dsR_ok stepD_eq sdB_n sdB_g sdG_tt sdG_ff sdG_tf sdG_ft sdG_none runD_0 rdR_f rdR_t baseOf_pu baseOf_h baseU_nil baseA_nil baseA_0 baseR_nil baseR_0 baseR_00 appAll_nil appAll_0 restr_nil restr_cons setD_some setD_none evC_draw iL_len iL_get iL_allC iL_pur hp0_0 hp0_c rdL_ns rdL_sl List.length_cons List.length_nil O_mks mkB_if O_bsl bslB_if O_app apX_ns apX_sl apN_some apS_some blkL_el Nat.one_mul Nat.mul_one Nat.zero_add n_I onF_fn O_callv app_nil app_cons spLF_eq spL_eq spLL_eq onL_some onLL_ss onLL_ns onLL_sn onLL_nn rdB_blk Int.cast_ofNat_Int

theorem blk_le {el : TypeId} {l l' m : L} {k : Nat} (hl : l'.length = l.length) (hc : m.allC = true) (hkm : k + m.length ≤ l.length) (hb : l.length ≤ 1000) (h : ∀ j, j < l.length → l'.get j = if k ≤ j ∧ j < k + m.length then m.get (j - k) else l.get j) : BlkLe (blkL el l') ((blkL el l).setL k m) := by
  refine ⟨.inl rfl, by show el = _; exact (setL_size (blkL el l) m k).2.1.symm, by rw [(setL_size _ _ _).1, blkL_size, blkL_size, hl]; exact Nat.le_refl _, fun j hj => .inr ?_⟩
  rw [blkL_size, hl] at hj
  rw [blkL_cell _ _ _ (by rw [hl]; exact hj), h j hj]
  by_cases e : k ≤ j ∧ j < k + m.length
  · rw [if_pos e, cell_setL_in _ _ _ _ (by unfold maxSize; omega) (by unfold maxSize; omega) hc e.1 e.2]
  · rw [if_neg e, cell_setL_out _ _ _ _ (by unfold maxSize; omega) (by unfold maxSize; omega) (by omega), blkL_cell _ _ _ hj]
noncomputable def l3 (a b c : Int) : L := .cons (I a) (.cons (I b) (.cons (I c) .nil))
theorem l3_all {el : TypeId} {a b c x y z : Int} : BlkLe (blkL el (l3 x y z)) ((blkL el (l3 a b c)).setL 0 (l3 x y z)) :=
  blk_le rfl (by simp [l3, L.allC, I_isC]) (by simp [l3, L.length]) (by simp [l3, L.length]) fun j hj => by
    simp only [l3, L.length] at hj
    obtain rfl | rfl | rfl : j = 0 ∨ j = 1 ∨ j = 2 := by omega
    all_goals simp [l3, L.get, L.length]
theorem l3_0 {el : TypeId} {a b c x : Int} : BlkLe (blkL el (l3 x b c)) ((blkL el (l3 a b c)).setL 0 (.cons (I x) .nil)) :=
  blk_le rfl (by simp [L.allC, I_isC]) (by simp [l3, L.length]) (by simp [l3, L.length]) fun j hj => by
    simp only [l3, L.length] at hj
    obtain rfl | rfl | rfl : j = 0 ∨ j = 1 ∨ j = 2 := by omega
    all_goals simp [l3, L.get, L.length]
theorem l3_1 {el : TypeId} {a b c x : Int} : BlkLe (blkL el (l3 a x c)) ((blkL el (l3 a b c)).setL 1 (.cons (I x) .nil)) :=
  blk_le rfl (by simp [L.allC, I_isC]) (by simp [l3, L.length]) (by simp [l3, L.length]) fun j hj => by
    simp only [l3, L.length] at hj
    obtain rfl | rfl | rfl : j = 0 ∨ j = 1 ∨ j = 2 := by omega
    all_goals simp [l3, L.get, L.length]

def ncs (bs : List Nat) : Nat → Int
  | 0 => 0
  | k + 1 => ncs bs k + (if byt bs k = 99 then 1 else 0)
def nns (bs : List Nat) : Nat → Int
  | 0 => 0
  | k + 1 => nns bs k + (if byt bs k = 99 then 0 else 1)
theorem ncs_rng (bs : List Nat) : ∀ k : Nat, 0 ≤ ncs bs k ∧ 0 ≤ nns bs k ∧ ncs bs k + nns bs k = k
  | 0 => by simp [ncs, nns]
  | k + 1 => by
    have := ncs_rng bs k
    rw [ncs, nns]
    split <;> omega
theorem ncs_mono (bs : List Nat) : ∀ (m k : Nat), ncs bs k ≤ ncs bs (k + m) ∧ nns bs k ≤ nns bs (k + m)
  | 0, k => ⟨Int.le_refl _, Int.le_refl _⟩
  | m + 1, k => by
    have := ncs_mono bs m k
    rw [← Nat.add_assoc, ncs, nns]
    split <;> omega
theorem aft_ncs (bs : List Nat) (b : Int) : ∀ k : Nat, aft bs b k = b + ncs bs k - nns bs k
  | 0 => by simp [aft, ncs, nns]
  | k + 1 => by
    rw [aft, stp, ncs, nns, aft_ncs bs b k]
    split <;> omega
theorem ncs_c {bs : List Nat} {k : Nat} (h : byt bs k = 99) : ncs bs (k + 1) = ncs bs k + 1 ∧ nns bs (k + 1) = nns bs k := by rw [ncs, nns, if_pos h, if_pos h]; omega
theorem ncs_n {bs : List Nat} {k : Nat} (h : ¬ byt bs k = 99) : ncs bs (k + 1) = ncs bs k ∧ nns bs (k + 1) = nns bs k + 1 := by rw [ncs, nns, if_neg h, if_neg h]; omega
set_option maxHeartbeats 8000000 in
theorem run62 (bs : List Nat) (b : Int) (h1 : bs.length ≤ 16) (h2 : -1000 ≤ b ∧ b ≤ 1000) : JQ Try.prog drops Try.f62.ntmps F0 q62 256 (Kend res62 (Good 0 (.v (ag3 (ncs bs bs.length) (nns bs bs.length) b)))) (bind (.cons (.s bs) (.cons (I b) .nil)) 0 .lf) .lf 256 := by
  have hF := F0_ok Try.prog
  have hM := F0_mono
  unfold q62
  (refine JQ.step follows hF hM ?_; simp (config := { maxSteps := 4000000 }) (disch := (omega)) only [go_sem, Nat.reduceLT, Nat.reduceEqDiff, reduceIte, Nat.reduceAdd, Nat.reduceSub, Nat.reduceLeDiff, Int.reduceEq, Int.reduceLT, Int.reduceLE, Int.reduceNeg, Int.reduceAdd, Int.reduceSub, Int.reduceToNat, Int.reduceMul, Nat.reduceMul])
  (refine JQ.step follows hF hM ?_; simp (config := { maxSteps := 4000000 }) (disch := (omega)) only [go_sem, Nat.reduceLT, Nat.reduceEqDiff, reduceIte, Nat.reduceAdd, Nat.reduceSub, Nat.reduceLeDiff, Int.reduceEq, Int.reduceLT, Int.reduceLE, Int.reduceNeg, Int.reduceAdd, Int.reduceSub, Int.reduceToNat, Int.reduceMul, Nat.reduceMul])
  refine JQ.seq ?_
  (refine JQ.step follows hF hM ?_; simp (config := { maxSteps := 4000000 }) (disch := (omega)) only [go_sem, Nat.reduceLT, Nat.reduceEqDiff, reduceIte, Nat.reduceAdd, Nat.reduceSub, Nat.reduceLeDiff, Int.reduceEq, Int.reduceLT, Int.reduceLE, Int.reduceNeg, Int.reduceAdd, Int.reduceSub, Int.reduceToNat, Int.reduceMul, Nat.reduceMul, small_len])
  refine JQ.block ?_
  refine JQ.loop (σ := Nat) (fun k => k ≤ bs.length) (fun k => ((((Tr.lf.set (.s bs) (tp 0)).set (.p (tp 255) 0) (tp 4)).set (.p (tp 256) 0) (tp 5)).set (I bs.length) (tp 10)).set (I k) (tp 11)) (fun k => (Hp.lf.put (some (blkL 70 (l3 0 0 0))) (tp 255)).put (some (blkL 70 (l3 (ncs bs k) (nns bs k) b))) (tp 256)) (fun _ => 258) (fun k => bs.length - k) 0 (Nat.zero_le _) (by ((repeat' (first | exact EnvLe.lf _ | refine EnvLe.set (by decide) ?_ ?_)) <;> first | exact EnvLe.lf _ | (simp (config := { maxSteps := 4000000 }) (disch := (omega)) only [go_sem, Nat.reduceLT, Nat.reduceEqDiff, reduceIte, Nat.reduceAdd, Nat.reduceSub, Nat.reduceLeDiff, Int.reduceEq, Int.reduceLT, Int.reduceLE, Int.reduceNeg, Int.reduceAdd, Int.reduceSub, Int.reduceToNat, Int.reduceMul, Nat.reduceMul, Int.natCast_add, Int.cast_ofNat_Int]; done) | (simp (config := { maxSteps := 4000000 }) (disch := (omega)) only [go_sem, Nat.reduceLT, Nat.reduceEqDiff, reduceIte, Nat.reduceAdd, Nat.reduceSub, Nat.reduceLeDiff, Int.reduceEq, Int.reduceLT, Int.reduceLE, Int.reduceNeg, Int.reduceAdd, Int.reduceSub, Int.reduceToNat, Int.reduceMul, Nat.reduceMul, Int.natCast_add, Int.cast_ofNat_Int] <;> first | rfl | (congr 1; omega)))) (HpLe.put ⟨_, hget_same _ _ _, l3_all⟩ (HpLe.put ⟨blkL 70 (l3 0 0 0), by simp (config := { maxSteps := 4000000 }) (disch := (omega)) only [go_sem, Nat.reduceLT, Nat.reduceEqDiff, reduceIte, Nat.reduceAdd, Nat.reduceSub, Nat.reduceLeDiff, Int.reduceEq, Int.reduceLT, Int.reduceLE, Int.reduceNeg, Int.reduceAdd, Int.reduceSub, Int.reduceToNat, Int.reduceMul, Nat.reduceMul, l3], BlkLe.refl _⟩ (HpLe.lf _))) rfl ?_
  intro k hk
  unfold q62_l0
  have hr := ncs_rng bs k
  by_cases hlt : k < bs.length
  · have hlt' : (k : Int) < (bs.length : Int) := by omega
    by_cases h9 : byt bs k = 99
    · obtain ⟨e1, e2⟩ := ncs_c h9
      (refine JQ.run follows hF hM ?_; simp (config := { maxSteps := 4000000 }) (disch := (omega)) only [go_sem, Nat.reduceLT, Nat.reduceEqDiff, reduceIte, Nat.reduceAdd, Nat.reduceSub, Nat.reduceLeDiff, Int.reduceEq, Int.reduceLT, Int.reduceLE, Int.reduceNeg, Int.reduceAdd, Int.reduceSub, Int.reduceToNat, Int.reduceMul, Nat.reduceMul, hlt', nthS_at hlt, eq_true h9, l3])
      refine ⟨k + 1, by omega, by omega, by ((repeat' (first | exact EnvLe.lf _ | refine EnvLe.set (by decide) ?_ ?_)) <;> first | exact EnvLe.lf _ | (simp (config := { maxSteps := 4000000 }) (disch := (omega)) only [go_sem, Nat.reduceLT, Nat.reduceEqDiff, reduceIte, Nat.reduceAdd, Nat.reduceSub, Nat.reduceLeDiff, Int.reduceEq, Int.reduceLT, Int.reduceLE, Int.reduceNeg, Int.reduceAdd, Int.reduceSub, Int.reduceToNat, Int.reduceMul, Nat.reduceMul, Int.natCast_add, Int.cast_ofNat_Int]; done) | (simp (config := { maxSteps := 4000000 }) (disch := (omega)) only [go_sem, Nat.reduceLT, Nat.reduceEqDiff, reduceIte, Nat.reduceAdd, Nat.reduceSub, Nat.reduceLeDiff, Int.reduceEq, Int.reduceLT, Int.reduceLE, Int.reduceNeg, Int.reduceAdd, Int.reduceSub, Int.reduceToNat, Int.reduceMul, Nat.reduceMul, Int.natCast_add, Int.cast_ofNat_Int] <;> first | rfl | (congr 1; omega))), ?_⟩
      rw [e1, e2]
      exact HpLe.put ⟨_, hget_same _ _ _, l3_0⟩ (HpLe.put ⟨blkL 70 (l3 0 0 0), by simp (config := { maxSteps := 4000000 }) (disch := (omega)) only [go_sem, Nat.reduceLT, Nat.reduceEqDiff, reduceIte, Nat.reduceAdd, Nat.reduceSub, Nat.reduceLeDiff, Int.reduceEq, Int.reduceLT, Int.reduceLE, Int.reduceNeg, Int.reduceAdd, Int.reduceSub, Int.reduceToNat, Int.reduceMul, Nat.reduceMul, l3], BlkLe.refl _⟩ (HpLe.lf _))
    · obtain ⟨e1, e2⟩ := ncs_n h9
      (refine JQ.run follows hF hM ?_; simp (config := { maxSteps := 4000000 }) (disch := (omega)) only [go_sem, Nat.reduceLT, Nat.reduceEqDiff, reduceIte, Nat.reduceAdd, Nat.reduceSub, Nat.reduceLeDiff, Int.reduceEq, Int.reduceLT, Int.reduceLE, Int.reduceNeg, Int.reduceAdd, Int.reduceSub, Int.reduceToNat, Int.reduceMul, Nat.reduceMul, hlt', nthS_at hlt, eq_false h9, l3])
      refine ⟨k + 1, by omega, by omega, by ((repeat' (first | exact EnvLe.lf _ | refine EnvLe.set (by decide) ?_ ?_)) <;> first | exact EnvLe.lf _ | (simp (config := { maxSteps := 4000000 }) (disch := (omega)) only [go_sem, Nat.reduceLT, Nat.reduceEqDiff, reduceIte, Nat.reduceAdd, Nat.reduceSub, Nat.reduceLeDiff, Int.reduceEq, Int.reduceLT, Int.reduceLE, Int.reduceNeg, Int.reduceAdd, Int.reduceSub, Int.reduceToNat, Int.reduceMul, Nat.reduceMul, Int.natCast_add, Int.cast_ofNat_Int]; done) | (simp (config := { maxSteps := 4000000 }) (disch := (omega)) only [go_sem, Nat.reduceLT, Nat.reduceEqDiff, reduceIte, Nat.reduceAdd, Nat.reduceSub, Nat.reduceLeDiff, Int.reduceEq, Int.reduceLT, Int.reduceLE, Int.reduceNeg, Int.reduceAdd, Int.reduceSub, Int.reduceToNat, Int.reduceMul, Nat.reduceMul, Int.natCast_add, Int.cast_ofNat_Int] <;> first | rfl | (congr 1; omega))), ?_⟩
      rw [e1, e2]
      exact HpLe.put ⟨_, hget_same _ _ _, l3_1⟩ (HpLe.put ⟨blkL 70 (l3 0 0 0), by simp (config := { maxSteps := 4000000 }) (disch := (omega)) only [go_sem, Nat.reduceLT, Nat.reduceEqDiff, reduceIte, Nat.reduceAdd, Nat.reduceSub, Nat.reduceLeDiff, Int.reduceEq, Int.reduceLT, Int.reduceLE, Int.reduceNeg, Int.reduceAdd, Int.reduceSub, Int.reduceToNat, Int.reduceMul, Nat.reduceMul, l3], BlkLe.refl _⟩ (HpLe.lf _))
  · obtain rfl : k = bs.length := by omega
    (refine JQ.run follows hF hM ?_; simp (config := { maxSteps := 4000000 }) (disch := (omega)) only [go_sem, Nat.reduceLT, Nat.reduceEqDiff, reduceIte, Nat.reduceAdd, Nat.reduceSub, Nat.reduceLeDiff, Int.reduceEq, Int.reduceLT, Int.reduceLE, Int.reduceNeg, Int.reduceAdd, Int.reduceSub, Int.reduceToNat, Int.reduceMul, Nat.reduceMul, Int.lt_irrefl, l3])
    (refine JQ.run follows hF hM ?_; simp (config := { maxSteps := 4000000 }) (disch := (omega)) only [go_sem, Nat.reduceLT, Nat.reduceEqDiff, reduceIte, Nat.reduceAdd, Nat.reduceSub, Nat.reduceLeDiff, Int.reduceEq, Int.reduceLT, Int.reduceLE, Int.reduceNeg, Int.reduceAdd, Int.reduceSub, Int.reduceToNat, Int.reduceMul, Nat.reduceMul, res62, l3, ag3])
noncomputable def f62 (bs : List Nat) (b : Int) : Out := if bs.length ≤ 16 ∧ -1000 ≤ b ∧ b ≤ 1000 then .v (ag3 (ncs bs bs.length) (nns bs bs.length) b) else .no
theorem ok62 : SOK Try.prog 62 (spSI f62) := spSI_ok fun bs b lim h n v h' n' hr => by
  unfold f62 at hr
  split at hr
  · rename_i hb
    exact outC Try.func62 n62 b62 k62 r62 (Ins.none h) (by simp [L.length]) (ren_nil_rel (by simp only [purL_cons, purL_nil, pur_s, I_pur, Bool.and_self])) (.v (ag3 (ncs bs bs.length) (nns bs bs.length) b)) (ag3_pur _ _ _) (run62 bs b hb.1 hb.2) lim n hr
  · cases hr

theorem fstN_neg {xs : List Int} : ∀ (m k : Nat), k + m = xs.length → (fstN (xs.drop k) k < 0 ↔ ∀ j, k ≤ j → j < xs.length → 0 ≤ At xs j)
  | 0, k, h => by
    rw [fstN_end _ _ (by omega)]
    exact ⟨fun _ j a b => by omega, fun _ => by omega⟩
  | m + 1, k, h => by
    rw [fstN_step (by omega)]
    by_cases hc : At xs k < 0
    · rw [if_pos hc]
      exact ⟨fun h => by omega, fun h' => by have := h' k (Nat.le_refl _) (by omega); omega⟩
    · rw [if_neg hc, fstN_neg m (k + 1) (by omega)]
      refine ⟨fun h' j a b => ?_, fun h' j a b => h' j (by omega) b⟩
      rcases Nat.eq_or_lt_of_le a with e | e
      · subst e; omega
      · exact h' j e b
theorem lck_neg {bs : List Nat} {b : Int} : lck bs b < 0 ↔ ∀ j, j < bs.length → 0 ≤ aft bs b (j + 1) := by
  have h := fstN_neg (xs := afts bs b) (afts bs b).length 0 (by simp)
  rw [List.drop_zero] at h
  unfold lck
  rw [h, afts_len]
  exact ⟨fun h j hj => by have := h j (Nat.zero_le _) hj; rwa [At_afts hj] at this, fun h j _ hj => by rw [At_afts hj]; exact h j hj⟩
theorem gdS_z {bs : List Nat} {b : Int} (h : gdS bs b = 0) : chkB bs b = 0 ∧ ∀ k, k ≤ bs.length → 0 ≤ aft bs b k := by
  unfold gdS at h
  split at h
  · rename_i h1
    split at h
    · cases h
    · rename_i h2
      obtain ⟨c1, c2, c3⟩ := chkB_0 h1
      refine ⟨h1, fun k hk => ?_⟩
      cases k with
      | zero => exact c2
      | succ k => exact lck_neg.1 (by omega) k (by omega)
  · rename_i h1; exact absurd h h1
theorem wF_rng {c n b : Int} (h0 : -1 ≤ c) (h1 : 0 ≤ n) (h2 : c + n ≤ 16) (h3 : 0 ≤ b) : -100000 ≤ wF c n b ∧ wF c n b ≤ 100000 := by
  unfold wF
  split
  · omega
  · have r1 := cI_rng (a := c + n) (s := n) (by omega) h2 (by omega)
    have r2 := cI_rng (a := c + n) (s := n - b - 1) (by omega) h2 (by omega)
    omega
/-- The number of an order. -/
def smS (bs : List Nat) (b : Int) : Nat → Int
  | 0 => 0
  | k + 1 => smS bs b k + (if byt bs k = 99 then 0 else wF (ncs bs bs.length - ncs bs k - 1) (nns bs bs.length - nns bs k) (aft bs b k + 1))
theorem left_rng (bs : List Nat) {k : Nat} (h : k ≤ bs.length) : 0 ≤ ncs bs bs.length - ncs bs k ∧ 0 ≤ nns bs bs.length - nns bs k ∧ ncs bs bs.length - ncs bs k + (nns bs bs.length - nns bs k) = bs.length - k := by
  have h1 := ncs_rng bs k
  have h2 := ncs_rng bs bs.length
  have h3 := ncs_mono bs (bs.length - k) k
  rw [show k + (bs.length - k) = bs.length by omega] at h3
  omega
theorem smS_rng {bs : List Nat} {b : Int} (hl : bs.length ≤ 16) (hp : ∀ k, k ≤ bs.length → 0 ≤ aft bs b k) : ∀ k : Nat, k ≤ bs.length → -(100000 * (k : Int)) ≤ smS bs b k ∧ smS bs b k ≤ 100000 * k
  | 0, _ => by simp [smS]
  | k + 1, hk => by
    have h1 := smS_rng hl hp k (by omega)
    have h2 := left_rng bs (k := k) (by omega)
    have h3 := hp k (by omega)
    rw [smS]
    split
    · omega
    · have h4 := wF_rng (c := ncs bs bs.length - ncs bs k - 1) (n := nns bs bs.length - nns bs k) (b := aft bs b k + 1) (by omega) (by omega) (by omega) (by omega)
      omega
noncomputable def F63 : FF := ov 71 (spA f71) (ov 72 (spA f72) (ov 57 (spA f57) F0))
theorem F63_ok : FOK Try.prog F63 := ov_ok ok71 (ov_ok ok72 (ov_ok ok57 (F0_ok _)))
theorem F63_mono : F63.mono := ov_mono (spA_mo _) (ov_mono (spA_mo _) (ov_mono (spA_mo _) F0_mono))
set_option maxHeartbeats 8000000 in
theorem run63 (bs : List Nat) (b : Int) (hg : gdS bs b = 0) : JQ Try.prog drops Try.f63.ntmps F63 q63 256 (Kend res63 (Good 0 (.v (I (smS bs b bs.length))))) (bind (.cons (ag3 (ncs bs bs.length) (nns bs bs.length) b) (.cons (.s bs) .nil)) 0 .lf) .lf 256 := by
  have hF := F63_ok
  have hM := F63_mono
  obtain ⟨hc, hp⟩ := gdS_z hg
  obtain ⟨c1, c2, c3⟩ := chkB_0 hc
  unfold q63 ag3
  (refine JQ.step follows hF hM ?_; simp (config := { maxSteps := 4000000 }) (disch := (omega)) only [go_sem, Nat.reduceLT, Nat.reduceEqDiff, reduceIte, Nat.reduceAdd, Nat.reduceSub, Nat.reduceLeDiff, Int.reduceEq, Int.reduceLT, Int.reduceLE, Int.reduceNeg, Int.reduceAdd, Int.reduceSub, Int.reduceToNat, Int.reduceMul, Nat.reduceMul])
  (refine JQ.step follows hF hM ?_; simp (config := { maxSteps := 4000000 }) (disch := (omega)) only [go_sem, Nat.reduceLT, Nat.reduceEqDiff, reduceIte, Nat.reduceAdd, Nat.reduceSub, Nat.reduceLeDiff, Int.reduceEq, Int.reduceLT, Int.reduceLE, Int.reduceNeg, Int.reduceAdd, Int.reduceSub, Int.reduceToNat, Int.reduceMul, Nat.reduceMul])
  refine JQ.seq ?_
  (refine JQ.step follows hF hM ?_; simp (config := { maxSteps := 4000000 }) (disch := (omega)) only [go_sem, Nat.reduceLT, Nat.reduceEqDiff, reduceIte, Nat.reduceAdd, Nat.reduceSub, Nat.reduceLeDiff, Int.reduceEq, Int.reduceLT, Int.reduceLE, Int.reduceNeg, Int.reduceAdd, Int.reduceSub, Int.reduceToNat, Int.reduceMul, Nat.reduceMul, small_len])
  refine JQ.block ?_
  refine JQ.loop (σ := Nat) (fun k => k ≤ bs.length) (fun k => ((((Tr.lf.set (.s bs) (tp 1)).set (.p (tp 255) 0) (tp 2)).set (I (smS bs b k)) (tp 5)).set (I bs.length) (tp 8)).set (I k) (tp 9)) (fun k => Hp.lf.put (some (blkL 70 (l3 (ncs bs bs.length - ncs bs k) (nns bs bs.length - nns bs k) (aft bs b k)))) (tp 255)) (fun _ => 257) (fun k => bs.length - k) 0 (Nat.zero_le _) (by ((repeat' (first | exact EnvLe.lf _ | refine EnvLe.set (by decide) ?_ ?_)) <;> first | exact EnvLe.lf _ | (simp (config := { maxSteps := 4000000 }) (disch := (omega)) only [go_sem, Nat.reduceLT, Nat.reduceEqDiff, reduceIte, Nat.reduceAdd, Nat.reduceSub, Nat.reduceLeDiff, Int.reduceEq, Int.reduceLT, Int.reduceLE, Int.reduceNeg, Int.reduceAdd, Int.reduceSub, Int.reduceToNat, Int.reduceMul, Nat.reduceMul, smS, Int.natCast_add, Int.cast_ofNat_Int]; done) | (simp (config := { maxSteps := 4000000 }) (disch := (omega)) only [go_sem, Nat.reduceLT, Nat.reduceEqDiff, reduceIte, Nat.reduceAdd, Nat.reduceSub, Nat.reduceLeDiff, Int.reduceEq, Int.reduceLT, Int.reduceLE, Int.reduceNeg, Int.reduceAdd, Int.reduceSub, Int.reduceToNat, Int.reduceMul, Nat.reduceMul, smS, Int.natCast_add, Int.cast_ofNat_Int] <;> first | rfl | (congr 1; omega)))) (HpLe.put ⟨_, hget_same _ _ _, by simp only [ncs, nns, aft, Int.sub_zero]; exact BlkLe.refl _⟩ (HpLe.lf _)) rfl ?_
  intro k hk
  unfold q63_l0
  have hl := left_rng bs hk
  have hr := ncs_rng bs k
  have ha := hp k hk
  have hx := aft_rng bs b k
  have hs := smS_rng c1 hp k hk
  by_cases hlt : k < bs.length
  · have hlt' : (k : Int) < (bs.length : Int) := by omega
    by_cases h9 : byt bs k = 99
    · obtain ⟨e1, e2⟩ := ncs_c h9
      have e3 : smS bs b (k + 1) = smS bs b k := by rw [smS, if_pos h9, Int.add_zero]
      (refine JQ.run follows hF hM ?_; simp (config := { maxSteps := 4000000 }) (disch := (omega)) only [go_sem, Nat.reduceLT, Nat.reduceEqDiff, reduceIte, Nat.reduceAdd, Nat.reduceSub, Nat.reduceLeDiff, Int.reduceEq, Int.reduceLT, Int.reduceLE, Int.reduceNeg, Int.reduceAdd, Int.reduceSub, Int.reduceToNat, Int.reduceMul, Nat.reduceMul, hlt', nthS_at hlt, eq_true h9, l3, F63, spA_eq, f71, ag3])
      refine ⟨k + 1, by omega, by omega, by ((repeat' (first | exact EnvLe.lf _ | refine EnvLe.set (by decide) ?_ ?_)) <;> first | exact EnvLe.lf _ | (simp (config := { maxSteps := 4000000 }) (disch := (omega)) only [go_sem, Nat.reduceLT, Nat.reduceEqDiff, reduceIte, Nat.reduceAdd, Nat.reduceSub, Nat.reduceLeDiff, Int.reduceEq, Int.reduceLT, Int.reduceLE, Int.reduceNeg, Int.reduceAdd, Int.reduceSub, Int.reduceToNat, Int.reduceMul, Nat.reduceMul, e3, Int.natCast_add, Int.cast_ofNat_Int]; done) | (simp (config := { maxSteps := 4000000 }) (disch := (omega)) only [go_sem, Nat.reduceLT, Nat.reduceEqDiff, reduceIte, Nat.reduceAdd, Nat.reduceSub, Nat.reduceLeDiff, Int.reduceEq, Int.reduceLT, Int.reduceLE, Int.reduceNeg, Int.reduceAdd, Int.reduceSub, Int.reduceToNat, Int.reduceMul, Nat.reduceMul, e3, Int.natCast_add, Int.cast_ofNat_Int] <;> first | rfl | (congr 1; omega))), ?_⟩
      rw [e1, e2, aft_c h9, show ∀ x y : Int, x - (y + 1) = x - y - 1 by intro x y; omega]
      exact HpLe.put ⟨_, hget_same _ _ _, l3_all⟩ (HpLe.lf _)
    · obtain ⟨e1, e2⟩ := ncs_n h9
      have hm := left_rng bs (k := k + 1) (by omega)
      rw [e1, e2] at hm
      have hw := wF_rng (c := ncs bs bs.length - ncs bs k - 1) (n := nns bs bs.length - nns bs k) (b := aft bs b k + 1) (by omega) (by omega) (by omega) (by omega)
      have e3 : smS bs b (k + 1) = smS bs b k + wF (ncs bs bs.length - ncs bs k - 1) (nns bs bs.length - nns bs k) (aft bs b k + 1) := by rw [smS, if_neg h9]
      (refine JQ.run follows hF hM ?_; simp (config := { maxSteps := 4000000 }) (disch := (omega)) only [go_sem, Nat.reduceLT, Nat.reduceEqDiff, reduceIte, Nat.reduceAdd, Nat.reduceSub, Nat.reduceLeDiff, Int.reduceEq, Int.reduceLT, Int.reduceLE, Int.reduceNeg, Int.reduceAdd, Int.reduceSub, Int.reduceToNat, Int.reduceMul, Nat.reduceMul, hlt', nthS_at hlt, eq_false h9, l3, F63, spA_eq, f71, f72, f57, ag3])
      refine ⟨k + 1, by omega, by omega, by ((repeat' (first | exact EnvLe.lf _ | refine EnvLe.set (by decide) ?_ ?_)) <;> first | exact EnvLe.lf _ | (simp (config := { maxSteps := 4000000 }) (disch := (omega)) only [go_sem, Nat.reduceLT, Nat.reduceEqDiff, reduceIte, Nat.reduceAdd, Nat.reduceSub, Nat.reduceLeDiff, Int.reduceEq, Int.reduceLT, Int.reduceLE, Int.reduceNeg, Int.reduceAdd, Int.reduceSub, Int.reduceToNat, Int.reduceMul, Nat.reduceMul, e3, Int.natCast_add, Int.cast_ofNat_Int]; done) | (simp (config := { maxSteps := 4000000 }) (disch := (omega)) only [go_sem, Nat.reduceLT, Nat.reduceEqDiff, reduceIte, Nat.reduceAdd, Nat.reduceSub, Nat.reduceLeDiff, Int.reduceEq, Int.reduceLT, Int.reduceLE, Int.reduceNeg, Int.reduceAdd, Int.reduceSub, Int.reduceToNat, Int.reduceMul, Nat.reduceMul, e3, Int.natCast_add, Int.cast_ofNat_Int] <;> first | rfl | (congr 1; omega))), ?_⟩
      rw [e1, e2, aft_n h9, show ∀ x y : Int, x - (y + 1) = x - y - 1 by intro x y; omega]
      exact HpLe.put ⟨_, hget_same _ _ _, l3_all⟩ (HpLe.lf _)
  · obtain rfl : k = bs.length := by omega
    (refine JQ.run follows hF hM ?_; simp (config := { maxSteps := 4000000 }) (disch := (omega)) only [go_sem, Nat.reduceLT, Nat.reduceEqDiff, reduceIte, Nat.reduceAdd, Nat.reduceSub, Nat.reduceLeDiff, Int.reduceEq, Int.reduceLT, Int.reduceLE, Int.reduceNeg, Int.reduceAdd, Int.reduceSub, Int.reduceToNat, Int.reduceMul, Nat.reduceMul, Int.lt_irrefl, l3])
    (refine JQ.run follows hF hM ?_; simp (config := { maxSteps := 4000000 }) (disch := (omega)) only [go_sem, Nat.reduceLT, Nat.reduceEqDiff, reduceIte, Nat.reduceAdd, Nat.reduceSub, Nat.reduceLeDiff, Int.reduceEq, Int.reduceLT, Int.reduceLE, Int.reduceNeg, Int.reduceAdd, Int.reduceSub, Int.reduceToNat, Int.reduceMul, Nat.reduceMul, res63])
noncomputable def f63 (c n b : Int) (bs : List Nat) : Out := if gdS bs b = 0 ∧ c = ncs bs bs.length ∧ n = nns bs bs.length then .v (I (smS bs b bs.length)) else .no
theorem ok63 : SOK Try.prog 63 (spAS f63) := spAS_ok fun c m b bs lim h n v h' n' hr => by
  unfold f63 at hr
  split at hr
  · rename_i hb
    obtain ⟨hg, rfl, rfl⟩ := hb
    exact outC Try.func63 n63 b63 k63 r63 (Ins.none h) (by simp [L.length]) (ren_nil_rel (by simp only [purL_cons, purL_nil, ag3_pur, pur_s, Bool.and_self])) (.v (I (smS bs b bs.length))) (I_pur _) (run63 bs b hg) lim n hr
  · cases hr

def nuV (bs : List Nat) (b : Int) : Int := if gdS bs b = 0 then smS bs b bs.length else 0
noncomputable def F29 : FF := ov 14 (spSI f14) (ov 62 (spSI f62) (ov 63 (spAS f63) F0))
theorem F29_ok : FOK Try.prog F29 := ov_ok ok14 (ov_ok ok62 (ov_ok ok63 (F0_ok _)))
theorem F29_mono : F29.mono := ov_mono (spSI_mo _) (ov_mono (spSI_mo _) (ov_mono (spAS_mo _) F0_mono))
set_option maxHeartbeats 8000000 in
theorem run29 (bs : List Nat) (b : Int) (hb : bs.length < 9223372036854775808) : JQ Try.prog drops Try.f29.ntmps F29 q29 256 (Kend res29 (Good 0 (.v (tuI (nuV bs b) (gdS bs b))))) (bind (.cons (.s bs) (.cons (I b) .nil)) 0 .lf) .lf 256 := by
  have hF := F29_ok
  have hM := F29_mono
  unfold q29
  (refine JQ.step follows hF hM ?_; simp (config := { maxSteps := 4000000 }) (disch := (omega)) only [go_sem, Nat.reduceLT, Nat.reduceEqDiff, reduceIte, Nat.reduceAdd, Nat.reduceSub, Nat.reduceLeDiff, Int.reduceEq, Int.reduceLT, Int.reduceLE, Int.reduceNeg, Int.reduceAdd, Int.reduceSub, Int.reduceToNat, Int.reduceMul, Nat.reduceMul])
  by_cases hg : gdS bs b = 0
  · obtain ⟨c1, c2, c3⟩ := chkB_0 (gdS_z hg).1
    have ho : o14 bs b = .slE 3 1 bs.length (some bs.length) (iL (afts bs b)) (I 0) := if_pos hg
    have e1 : nuV bs b = smS bs b bs.length := if_pos hg
    (refine JQ.step follows hF hM ?_; simp (config := { maxSteps := 4000000 }) (disch := (omega)) only [go_sem, Nat.reduceLT, Nat.reduceEqDiff, reduceIte, Nat.reduceAdd, Nat.reduceSub, Nat.reduceLeDiff, Int.reduceEq, Int.reduceLT, Int.reduceLE, Int.reduceNeg, Int.reduceAdd, Int.reduceSub, Int.reduceToNat, Int.reduceMul, Nat.reduceMul, F29, f14, ho])
    (refine JQ.step follows hF hM ?_; simp (config := { maxSteps := 4000000 }) (disch := (omega)) only [go_sem, Nat.reduceLT, Nat.reduceEqDiff, reduceIte, Nat.reduceAdd, Nat.reduceSub, Nat.reduceLeDiff, Int.reduceEq, Int.reduceLT, Int.reduceLE, Int.reduceNeg, Int.reduceAdd, Int.reduceSub, Int.reduceToNat, Int.reduceMul, Nat.reduceMul, F29, f62, f63, ag3, spAS_eq, hg, tuI, e1, res29])
    (refine JQ.run follows hF hM ?_; simp (config := { maxSteps := 4000000 }) (disch := (omega)) only [go_sem, Nat.reduceLT, Nat.reduceEqDiff, reduceIte, Nat.reduceAdd, Nat.reduceSub, Nat.reduceLeDiff, Int.reduceEq, Int.reduceLT, Int.reduceLE, Int.reduceNeg, Int.reduceAdd, Int.reduceSub, Int.reduceToNat, Int.reduceMul, Nat.reduceMul])
  · have ho : o14 bs b = .v (tuE (gdS bs b)) := if_neg hg
    have e1 : nuV bs b = 0 := if_neg hg
    (refine JQ.step follows hF hM ?_; simp (config := { maxSteps := 4000000 }) (disch := (omega)) only [go_sem, Nat.reduceLT, Nat.reduceEqDiff, reduceIte, Nat.reduceAdd, Nat.reduceSub, Nat.reduceLeDiff, Int.reduceEq, Int.reduceLT, Int.reduceLE, Int.reduceNeg, Int.reduceAdd, Int.reduceSub, Int.reduceToNat, Int.reduceMul, Nat.reduceMul, F29, f14, ho, tuE, eq_false hg, res29, tuI, e1])
noncomputable def f29 (bs : List Nat) (b : Int) : Out := if bs.length < 9223372036854775808 then .v (tuI (nuV bs b) (gdS bs b)) else .no
theorem ok29 : SOK Try.prog 29 (spSI f29) := spSI_ok fun bs b lim h n v h' n' hr => by
  unfold f29 at hr
  split at hr
  · rename_i hb
    exact outC Try.func29 n29 b29 k29 r29 (Ins.none h) (by simp [L.length]) (ren_nil_rel (by simp only [purL_cons, purL_nil, pur_s, I_pur, Bool.and_self])) (.v (tuI (nuV bs b) (gdS bs b))) (tuI_ok _ _) (run29 bs b hb) lim n hr
  · cases hr
end Go.Proofs.Ytkdbgkibifigiaa.Ev
