/- TrayBefore: all numbers. -/
import Derived.Test.YtnpimbpbhbfchaaDoorTrB1
import Derived.Test.YtnpimbpbhbfchaaDoorTrB2
import Derived.Test.YtnpimbpbhbfchaaDoorTrB3
import Derived.Test.YtnpimbpbhbfchaaDoorTrB4
import Derived.Test.YtnpimbpbhbfchaaDoorTrB5
import Derived.Test.YtnpimbpbhbfchaaDoorTrB6
import Derived.Test.YtnpimbpbhbfchaaDoorTrB7
import Derived.Test.YtnpimbpbhbfchaaDoorTrB8
namespace Go.Proofs.YtnpimbpbhbfchaaDoor.Ev
set_option linter.unusedVariables false
set_option linter.unusedSimpArgs false
set_option maxRecDepth 100000
open Go Go.Proofs Go.RowKit
attribute [local go_sem] evC_seq evC_reg evC_cond evC_block evC_skip evC_exit evC_ret evR_cons evR_nil evR_gd guardB_tt guardB_ff guardB_tf guardB_ft guardB_none bindR_ok bindR_okn rgRs_ok seqR_nor seqR_ext seqR_ret condR_true condR_false blockR_nor blockR_ext blockR_ret evX_t evX_c evXL_nil evXL_cons O_mv O_bin O_pick O_eqb O_not O_ext O_call O_conv O_slen O_six O_sbi pv_I pv_i pv_b pv_s pv_ns pv_sl pv_p pv_tu pv_ag bin_lss bin_leq bin_gtr bin_geq bin_eql bin_neq bin8_eql bin8_neq bin_add bin_sub bin_mul get_st get_lf bind_nil bind_cons if_true if_false Got_nor Got_ext Got_ret Kseq Kblk Klp Kend onStr_s onB_b onT_tu onI_I onN_I onK_I eqb_b not_b nthL_0 nthL_1 nthL_2 known_nil known_cons I_known known_b known_s evRVs_nil evRVs_cons evRes_1 evRes_2 evRV_tmp Bool.and_true Bool.true_and Bool.and_self Bool.not_true Bool.not_false decide_true decide_false Int.toNat_natCast true_and and_true big hget_same hget_ne newB_n onP_p onS_sl onS_ns O_fad O_alloc_if O_ixs O_len O_ld O_st O_box boxB_if ldB_if ldB_agif stB_if stB_wif toL_I toL_i toL_b toL_s toL_sl toL_ns toL_ag allC_nil allC_cons isC_i isC_b isC_s isC_sl isC_ns I_isC Llen_nil Llen_cons Lget_0 Lget_1 Lget_2 Lget_3 blkL_size cell_blkL_if getL_blkL_if getL_setL_if setL_sz evRV_cell' rvB_agif rvB_if evPL_cons bldK_if evPL_nil O_build O_part evBuild_ok okL_some onA_ag partV_1 evPart_eq updS_nil updS_cons upd_0 upd_1 upd_2 upd_3 ge_iff_le if_pos and_self Nat.le_refl known_ag known_sl known_ns known_i ov_at spS_eq spSI_eq spSII_eq spI_eq spII_eq spIII_eq spIIII_eq res_v res_sl res_slE Good I_pur pur_b pur_s pur_i pur_ns pur_ag pur_tu purL_nil purL_cons evDr_eq evDs_nil evDs_cons dsR_ok stepD_eq sdB_n sdB_g sdG_tt sdG_ff sdG_tf sdG_ft sdG_none runD_0 rdR_f rdR_t baseOf_pu baseOf_h baseU_nil baseA_nil baseA_0 baseR_nil baseR_0 baseR_00 appAll_nil appAll_0 restr_nil restr_cons setD_some setD_none evC_draw iL_len iL_get iL_allC iL_pur hp0_0 hp0_c rdL_ns rdL_sl List.length_cons List.length_nil O_mks mkB_if O_bsl bslB_if O_app apX_ns apX_sl apN_some apS_some blkL_el Nat.one_mul Nat.mul_one Nat.zero_add n_I onF_fn O_callv app_nil app_cons spLF_eq spL_eq spLL_eq onL_some onLL_ss onLL_ns onLL_sn onLL_nn rdB_blk Int.cast_ofNat_Int
theorem b9_at {el : Nat} {y : V} {r t k : Nat} (h : (List.range 4).map (fun i => full9 el y (r, k + i)) = (List.range 4).map fun i => (true, is9 el y (r, k + i))) (hq : k = 4 * (t / 4)) : full9 el y (r, t) = (true, is9 el y (r, t)) := by
  have := List.map_inj_left.1 h (t % 4) (List.mem_range.2 (by omega))
  have e : k + t % 4 = t := by omega
  rwa [e] at this
theorem b10_at {el : Nat} {a b : V} {r t k : Nat} (h : (List.range 4).map (fun i => full10 el a b (r, k + i)) = (List.range 4).map fun i => is10 el a b (r, k + i)) (hq : k = 4 * (t / 4)) : full10 el a b (r, t) = is10 el a b (r, t) := by
  have := List.map_inj_left.1 h (t % 4) (List.mem_range.2 (by omega))
  have e : k + t % 4 = t := by omega
  rwa [e] at this
theorem at2y {α : Type} {f g : Nat → V → α} (h : f = g) (el : Nat) (y : V) : f el y = g el y := congrFun (congrFun h el) y
theorem at3 {α : Type} {f g : Nat → V → V → α} (h : f = g) (el : Nat) (a b : V) : f el a b = g el a b := congrFun (congrFun (congrFun h el) a) b
theorem b9_all (el : Nat) (y : V) (r t : Nat) (hr : r < 6) (ht : t < 2 ^ (r + 1)) : full9 el y (r, t) = (true, is9 el y (r, t)) := by
  rcases (show r = 0 ∨ r = 1 ∨ r = 2 ∨ r = 3 ∨ r = 4 ∨ r = 5 by omega) with rfl | rfl | rfl | rfl | rfl | rfl
  · have h := List.map_inj_left.1 (at2y tb0_0 el y) t (List.mem_range.2 ht)
    rwa [Nat.zero_add] at h
  · have ht : t < 4 := ht
    exact b9_at (at2y tb1_0 el y) (by omega)
  · have ht : t < 8 := ht
    rcases (show t / 4 = 0 ∨ t / 4 = 1 by omega) with h | h
    · exact b9_at (at2y tb2_0 el y) (by omega)
    · exact b9_at (at2y tb2_1 el y) (by omega)
  · have ht : t < 16 := ht
    rcases (show t / 4 = 0 ∨ t / 4 = 1 ∨ t / 4 = 2 ∨ t / 4 = 3 by omega) with h | h | h | h
    · exact b9_at (at2y tb3_0 el y) (by omega)
    · exact b9_at (at2y tb3_1 el y) (by omega)
    · exact b9_at (at2y tb3_2 el y) (by omega)
    · exact b9_at (at2y tb3_3 el y) (by omega)
  · have ht : t < 32 := ht
    rcases (show t / 4 = 0 ∨ t / 4 = 1 ∨ t / 4 = 2 ∨ t / 4 = 3 ∨ t / 4 = 4 ∨ t / 4 = 5 ∨ t / 4 = 6 ∨ t / 4 = 7 by omega) with h | h | h | h | h | h | h | h
    · exact b9_at (at2y tb4_0 el y) (by omega)
    · exact b9_at (at2y tb4_1 el y) (by omega)
    · exact b9_at (at2y tb4_2 el y) (by omega)
    · exact b9_at (at2y tb4_3 el y) (by omega)
    · exact b9_at (at2y tb4_4 el y) (by omega)
    · exact b9_at (at2y tb4_5 el y) (by omega)
    · exact b9_at (at2y tb4_6 el y) (by omega)
    · exact b9_at (at2y tb4_7 el y) (by omega)
  · have ht : t < 64 := ht
    rcases (show t / 4 = 0 ∨ t / 4 = 1 ∨ t / 4 = 2 ∨ t / 4 = 3 ∨ t / 4 = 4 ∨ t / 4 = 5 ∨ t / 4 = 6 ∨ t / 4 = 7 ∨ t / 4 = 8 ∨ t / 4 = 9 ∨ t / 4 = 10 ∨ t / 4 = 11 ∨ t / 4 = 12 ∨ t / 4 = 13 ∨ t / 4 = 14 ∨ t / 4 = 15 by omega) with h | h | h | h | h | h | h | h | h | h | h | h | h | h | h | h
    · exact b9_at (at2y tb5_0 el y) (by omega)
    · exact b9_at (at2y tb5_1 el y) (by omega)
    · exact b9_at (at2y tb5_2 el y) (by omega)
    · exact b9_at (at2y tb5_3 el y) (by omega)
    · exact b9_at (at2y tb5_4 el y) (by omega)
    · exact b9_at (at2y tb5_5 el y) (by omega)
    · exact b9_at (at2y tb5_6 el y) (by omega)
    · exact b9_at (at2y tb5_7 el y) (by omega)
    · exact b9_at (at2y tb5_8 el y) (by omega)
    · exact b9_at (at2y tb5_9 el y) (by omega)
    · exact b9_at (at2y tb5_10 el y) (by omega)
    · exact b9_at (at2y tb5_11 el y) (by omega)
    · exact b9_at (at2y tb5_12 el y) (by omega)
    · exact b9_at (at2y tb5_13 el y) (by omega)
    · exact b9_at (at2y tb5_14 el y) (by omega)
    · exact b9_at (at2y tb5_15 el y) (by omega)
theorem b10_all (el : Nat) (a b : V) (r t : Nat) (hr : r < 6) (ht : t < 2 ^ (r + 1)) : full10 el a b (r, t) = is10 el a b (r, t) := by
  rcases (show r = 0 ∨ r = 1 ∨ r = 2 ∨ r = 3 ∨ r = 4 ∨ r = 5 by omega) with rfl | rfl | rfl | rfl | rfl | rfl
  · have h := List.map_inj_left.1 (at3 td0_0 el a b) t (List.mem_range.2 ht)
    rwa [Nat.zero_add] at h
  · have ht : t < 4 := ht
    exact b10_at (at3 td1_0 el a b) (by omega)
  · have ht : t < 8 := ht
    rcases (show t / 4 = 0 ∨ t / 4 = 1 by omega) with h | h
    · exact b10_at (at3 td2_0 el a b) (by omega)
    · exact b10_at (at3 td2_1 el a b) (by omega)
  · have ht : t < 16 := ht
    rcases (show t / 4 = 0 ∨ t / 4 = 1 ∨ t / 4 = 2 ∨ t / 4 = 3 by omega) with h | h | h | h
    · exact b10_at (at3 td3_0 el a b) (by omega)
    · exact b10_at (at3 td3_1 el a b) (by omega)
    · exact b10_at (at3 td3_2 el a b) (by omega)
    · exact b10_at (at3 td3_3 el a b) (by omega)
  · have ht : t < 32 := ht
    rcases (show t / 4 = 0 ∨ t / 4 = 1 ∨ t / 4 = 2 ∨ t / 4 = 3 ∨ t / 4 = 4 ∨ t / 4 = 5 ∨ t / 4 = 6 ∨ t / 4 = 7 by omega) with h | h | h | h | h | h | h | h
    · exact b10_at (at3 td4_0 el a b) (by omega)
    · exact b10_at (at3 td4_1 el a b) (by omega)
    · exact b10_at (at3 td4_2 el a b) (by omega)
    · exact b10_at (at3 td4_3 el a b) (by omega)
    · exact b10_at (at3 td4_4 el a b) (by omega)
    · exact b10_at (at3 td4_5 el a b) (by omega)
    · exact b10_at (at3 td4_6 el a b) (by omega)
    · exact b10_at (at3 td4_7 el a b) (by omega)
  · have ht : t < 64 := ht
    rcases (show t / 4 = 0 ∨ t / 4 = 1 ∨ t / 4 = 2 ∨ t / 4 = 3 ∨ t / 4 = 4 ∨ t / 4 = 5 ∨ t / 4 = 6 ∨ t / 4 = 7 ∨ t / 4 = 8 ∨ t / 4 = 9 ∨ t / 4 = 10 ∨ t / 4 = 11 ∨ t / 4 = 12 ∨ t / 4 = 13 ∨ t / 4 = 14 ∨ t / 4 = 15 by omega) with h | h | h | h | h | h | h | h | h | h | h | h | h | h | h | h
    · exact b10_at (at3 td5_0 el a b) (by omega)
    · exact b10_at (at3 td5_1 el a b) (by omega)
    · exact b10_at (at3 td5_2 el a b) (by omega)
    · exact b10_at (at3 td5_3 el a b) (by omega)
    · exact b10_at (at3 td5_4 el a b) (by omega)
    · exact b10_at (at3 td5_5 el a b) (by omega)
    · exact b10_at (at3 td5_6 el a b) (by omega)
    · exact b10_at (at3 td5_7 el a b) (by omega)
    · exact b10_at (at3 td5_8 el a b) (by omega)
    · exact b10_at (at3 td5_9 el a b) (by omega)
    · exact b10_at (at3 td5_10 el a b) (by omega)
    · exact b10_at (at3 td5_11 el a b) (by omega)
    · exact b10_at (at3 td5_12 el a b) (by omega)
    · exact b10_at (at3 td5_13 el a b) (by omega)
    · exact b10_at (at3 td5_14 el a b) (by omega)
    · exact b10_at (at3 td5_15 el a b) (by omega)
theorem te_at {el t y k : Nat} (h : (List.range 4).all (fun i => (List.range 64).all fun y => tlB el (k + i) y) = true) (hq : k = 4 * (t / 4)) (hy : y < 64) : tlB el t y = true := by
  have := List.all_eq_true.1 (List.all_eq_true.1 h (t % 4) (List.mem_range.2 (by omega))) y (List.mem_range.2 hy)
  have e : k + t % 4 = t := by omega
  rwa [e] at this
theorem te_all (el t y : Nat) (ht : t < 64) (hy : y < 64) : tlB el t y = true := by
  rcases (show t / 4 = 0 ∨ t / 4 = 1 ∨ t / 4 = 2 ∨ t / 4 = 3 ∨ t / 4 = 4 ∨ t / 4 = 5 ∨ t / 4 = 6 ∨ t / 4 = 7 ∨ t / 4 = 8 ∨ t / 4 = 9 ∨ t / 4 = 10 ∨ t / 4 = 11 ∨ t / 4 = 12 ∨ t / 4 = 13 ∨ t / 4 = 14 ∨ t / 4 = 15 by omega) with h | h | h | h | h | h | h | h | h | h | h | h | h | h | h | h
  · exact te_at (congrFun te_0 el) (by omega) hy
  · exact te_at (congrFun te_1 el) (by omega) hy
  · exact te_at (congrFun te_2 el) (by omega) hy
  · exact te_at (congrFun te_3 el) (by omega) hy
  · exact te_at (congrFun te_4 el) (by omega) hy
  · exact te_at (congrFun te_5 el) (by omega) hy
  · exact te_at (congrFun te_6 el) (by omega) hy
  · exact te_at (congrFun te_7 el) (by omega) hy
  · exact te_at (congrFun te_8 el) (by omega) hy
  · exact te_at (congrFun te_9 el) (by omega) hy
  · exact te_at (congrFun te_10 el) (by omega) hy
  · exact te_at (congrFun te_11 el) (by omega) hy
  · exact te_at (congrFun te_12 el) (by omega) hy
  · exact te_at (congrFun te_13 el) (by omega) hy
  · exact te_at (congrFun te_14 el) (by omega) hy
  · exact te_at (congrFun te_15 el) (by omega) hy
theorem isNor_ok {r : Rs} (h : isNor r = true) : r = .nor (rsE r) (rsH r) (rsN r) ∧ rsN r ≤ 16384 := by
  cases r with
  | nor e h' n => exact ⟨rfl, Nat.le_of_ble_eq_true h⟩
  | _ => cases h
theorem isNor2_ok {r : Rs} (h : isNor2 r = true) : r = .nor (rsE r) (rsH r) (rsN r) ∧ rsN r ≤ 32768 := by
  cases r with
  | nor e h' n => exact ⟨rfl, Nat.le_of_ble_eq_true h⟩
  | _ => cases h
theorem tbH_le {el : Nat} {h : Hp} (hh : h.get (tp 1) = some ⟨el, 64, 64, kL .u8 zs64, .lf⟩) : HpLe (tbH el) h := fun p b0 hp => by
  have hp : (Hp.lf.put (some ⟨el, (kL .u8 zs64).length, (kL .u8 zs64).length, kL .u8 zs64, .lf⟩) (tp 1)).get p = some b0 := hp
  rw [Hp.get_put] at hp
  split at hp
  · rename_i e; cases hp; subst e; exact ⟨_, hh, BlkLe.refl _⟩
  · rw [Hp.get_lf] at hp; cases hp
set_option maxHeartbeats 8000000 in
theorem bf_run (el : Nat) (a b z : Int) (ha0 : 0 ≤ a) (ha : a ≤ 255) (hb0 : 0 ≤ b) (hb : b ≤ 255) (hz0 : 0 ≤ z) (hz : z ≤ 255) : JQ Tryd.prog drops Tryd.f5.ntmps (EW 40) q5 (gK + 1) (Kend res5 fun v _ _ => v = .b true) (bind (.cons (.i .u8 a) (.cons (.i .u8 b) (.cons (.i .u8 z) .nil))) 0 .lf) (tbH el) (gK + 1) := by
  have hF := EW_ok 40
  have hM := EW_mono 40
  obtain ⟨r, hr⟩ : ∃ r : Nat, (r : Int) = a % 6 := ⟨(a % 6).toNat, by omega⟩
  have hr6 : r < 6 := by omega
  have hp : (0 : Int) < ((2 ^ (r + 1) : Nat) : Int) := by have := Nat.two_pow_pos (r + 1); omega
  have hple : 2 ^ (r + 1) ≤ 64 := by
    rcases (show r = 0 ∨ r = 1 ∨ r = 2 ∨ r = 3 ∨ r = 4 ∨ r = 5 by omega) with rfl | rfl | rfl | rfl | rfl | rfl <;> decide
  obtain ⟨t, ht⟩ : ∃ t : Nat, (t : Int) = b % ((2 ^ (r + 1) : Nat) : Int) := ⟨(b % ((2 ^ (r + 1) : Nat) : Int)).toNat, by have := Int.emod_nonneg b (show ((2 ^ (r + 1) : Nat) : Int) ≠ 0 by omega); omega⟩
  have htl : t < 2 ^ (r + 1) := by have := Int.emod_lt_of_pos b hp; omega
  obtain ⟨y, hy⟩ : ∃ y : Nat, (y : Int) = z % ((2 ^ (r + 1) : Nat) : Int) := ⟨(z % ((2 ^ (r + 1) : Nat) : Int)).toNat, by have := Int.emod_nonneg z (show ((2 ^ (r + 1) : Nat) : Int) ≠ 0 by omega); omega⟩
  have hyl : y < 2 ^ (r + 1) := by have := Int.emod_lt_of_pos z hp; omega
  have hwa : IntKind.i64.wrap a = a := wrap64 (by omega) (by omega)
  have hwb : IntKind.i64.wrap b = b := wrap64 (by omega) (by omega)
  have hwz : IntKind.i64.wrap z = z := wrap64 (by omega) (by omega)
  have hs := shl_pow hr6
  have f9 := b9_all el (I (y : Int)) r t hr6 htl
  have f10 := b10_all el (I (t : Int)) (I (rk t : Nat)) r y hr6 hyl
  unfold full9 chk9 row9 is9 at f9
  unfold full10 is10 at f10
  simp only [Prod.mk.injEq, Bool.and_eq_true] at f9 f10
  obtain ⟨⟨n4, n5, n6, n7, n8, n9⟩, g6, g7, g8, g9, g13, gtb⟩ := f9
  obtain ⟨n10, u6, u8, u9, u13, u19, u20, utb⟩ := f10
  obtain ⟨n4, c4⟩ := isNor_ok n4
  obtain ⟨n5, c5⟩ := isNor_ok n5
  obtain ⟨n6, c6⟩ := isNor_ok n6
  obtain ⟨n7, c7⟩ := isNor_ok n7
  obtain ⟨n8, c8⟩ := isNor_ok n8
  obtain ⟨n9, c9⟩ := isNor_ok n9
  obtain ⟨n10, c10⟩ := isNor2_ok n10
  have hb : ∀ {n : Nat}, n ≤ 32768 → n < big := fun h => by unfold big; omega
  rw [q5_eq]
  (refine JQ.step follows hF hM ?_; simp (config := { maxSteps := 4000000 }) (disch := (omega)) only [go_sem, Nat.reduceLT, Nat.reduceEqDiff, reduceIte, Nat.reduceAdd, Nat.reduceSub, Nat.reduceLeDiff, Int.reduceEq, Int.reduceLT, Int.reduceLE, Int.reduceNeg, Int.reduceAdd, Int.reduceSub, Int.reduceToNat, Int.reduceMul, Nat.reduceMul])
  try (refine ⟨by unfold gK; omega, ?_⟩)
  (refine JQ.step follows hF hM ?_; simp (config := { maxSteps := 4000000 }) (disch := (omega)) only [go_sem, Nat.reduceLT, Nat.reduceEqDiff, reduceIte, Nat.reduceAdd, Nat.reduceSub, Nat.reduceLeDiff, Int.reduceEq, Int.reduceLT, Int.reduceLE, Int.reduceNeg, Int.reduceAdd, Int.reduceSub, Int.reduceToNat, Int.reduceMul, Nat.reduceMul, onK_i, mkI_64, hwa, bin_rem, ← hr])
  try (refine ⟨by unfold gK; omega, ?_⟩)
  (refine JQ.step follows hF hM ?_; simp (config := { maxSteps := 4000000 }) (disch := (omega)) only [go_sem, Nat.reduceLT, Nat.reduceEqDiff, reduceIte, Nat.reduceAdd, Nat.reduceSub, Nat.reduceLeDiff, Int.reduceEq, Int.reduceLT, Int.reduceLE, Int.reduceNeg, Int.reduceAdd, Int.reduceSub, Int.reduceToNat, Int.reduceMul, Nat.reduceMul, onK_i, mkI_64, hwb, hwz, hs, bin_rem, hp, hb0, hz0, ← ht, ← hy])
  try (refine ⟨by unfold gK; omega, ?_⟩)
  refine JQ.weak (e0 := e0 (I (y : Int)) r t) (by unfold e0; ((repeat' (first | exact EnvLe.lf _ | refine EnvLe.set (by decide) ?_ ?_)) <;> first | exact EnvLe.lf _ | (simp (config := { maxSteps := 4000000 }) (disch := (omega)) only [go_sem, Nat.reduceLT, Nat.reduceEqDiff, reduceIte, Nat.reduceAdd, Nat.reduceSub, Nat.reduceLeDiff, Int.reduceEq, Int.reduceLT, Int.reduceLE, Int.reduceNeg, Int.reduceAdd, Int.reduceSub, Int.reduceToNat, Int.reduceMul, Nat.reduceMul, Int.natCast_add, Int.cast_ofNat_Int]; done) | (simp (config := { maxSteps := 4000000 }) (disch := (omega)) only [go_sem, Nat.reduceLT, Nat.reduceEqDiff, reduceIte, Nat.reduceAdd, Nat.reduceSub, Nat.reduceLeDiff, Int.reduceEq, Int.reduceLT, Int.reduceLE, Int.reduceNeg, Int.reduceAdd, Int.reduceSub, Int.reduceToNat, Int.reduceMul, Nat.reduceMul, Int.natCast_add, Int.cast_ofNat_Int] <;> first | rfl | (congr 1; omega)))) (HpLe.refl _) ?_
  refine JQ.evK follows hF hM n4 (hb (by omega)) ?_
  refine JQ.evK follows hF hM n5 (hb (by omega)) ?_
  refine JQ.evK follows hF hM n6 (hb (by omega)) ?_
  refine JQ.evK follows hF hM n7 (hb (by omega)) ?_
  refine JQ.evK follows hF hM n8 (hb (by omega)) ?_
  refine JQ.evK follows hF hM n9 (hb (by omega)) ?_
  refine JQ.up c9 (JQ.weak (e0 := e1 (I (t : Int)) (I (rk t : Nat)) r y) ?_ (tbH_le gtb) ?_)
  · exact EnvLe.set (by decide) g13 (EnvLe.set (by decide) g9 (EnvLe.set (by decide) g8 (EnvLe.set (by decide) g7 (EnvLe.set (by decide) g6 (EnvLe.lf _)))))
  refine JQ.evK follows hF hM n10 (hb c10) ?_
  refine JQ.up c10 (JQ.weak (e0 := eT t y) ?_ (tbH_le utb) ?_)
  · exact EnvLe.set (by decide) u20 (EnvLe.set (by decide) u19 (EnvLe.set (by decide) u13 (EnvLe.set (by decide) u9 (EnvLe.set (by decide) u8 (EnvLe.set (by decide) u6 (EnvLe.lf _))))))
  exact JQ.run follows hF hM (fin_kC (te_all el t y (by omega) (by omega)))
theorem bf_walk (a b z : Int) (ha0 : 0 ≤ a) (ha : a ≤ 255) (hb0 : 0 ≤ b) (hb : b ≤ 255) (hz0 : 0 ≤ z) (hz : z ≤ 255) (w : World) (el : TypeId) (hw : Holds w [(1, el, kL .u8 zs64)]) : Calls Tryd.prog 5 #[.int .u8 a, .int .u8 b, .int .u8 z] w fun e w' => e = .returned (.bool true) ∧ Below w.heap.size w w' :=
  lawT [(1, el, kL .u8 zs64)] Tryd.func5 b5 k5 r5 (args := .cons (.i .u8 a) (.cons (.i .u8 b) (.cons (.i .u8 z) .nil))) (by simp [L.length]) (bf_run el a b z ha0 ha hb0 hb hz0 hz) (vs := [.int .u8 a, .int .u8 b, .int .u8 z]) (fun _ => ⟨_, _, rfl, rfl, _, _, rfl, rfl, _, _, rfl, rfl, rfl⟩) w hw
end Go.Proofs.YtnpimbpbhbfchaaDoor.Ev
