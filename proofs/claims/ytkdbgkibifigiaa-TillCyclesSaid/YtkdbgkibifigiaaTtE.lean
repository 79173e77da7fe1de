/- The till: Turns, on both sides. -/
import Derived.Test.YtkdbgkibifigiaaTtD
namespace Go.Proofs.Ytkdbgkibifigiaa.Ev
set_option linter.unusedVariables false
set_option linter.unusedSimpArgs false
set_option maxRecDepth 100000
open Go Go.Proofs
attribute [local go_sem] evC_seq evC_reg evC_cond evC_block evC_skip evC_exit evC_ret evR_cons evR_nil evR_gd guardB_tt guardB_ff guardB_tf guardB_ft guardB_none bindR_ok bindR_okn rgRs_ok seqR_nor seqR_ext seqR_ret condR_true condR_false blockR_nor blockR_ext blockR_ret evX_t evX_c evXL_nil evXL_cons O_mv O_bin O_pick O_eqb O_not O_ext O_call O_conv O_slen O_six O_sbi pv_I pv_i pv_b pv_s pv_ns pv_sl pv_p pv_tu pv_ag bin_lss bin_leq bin_gtr bin_geq bin_eql bin_neq bin8_eql bin8_neq bin_add bin_sub bin_mul get_st get_lf bind_nil bind_cons if_true if_false Got_nor Got_ext Got_ret Kseq Kblk Klp Kend onStr_s onB_b onT_tu onI_I onN_I onK_I eqb_b not_b nthL_0 nthL_1 nthL_2 known_nil known_cons I_known known_b known_s evRVs_nil evRVs_cons evRes_1 evRes_2 evRV_tmp Bool.and_true Bool.true_and Bool.and_self Bool.not_true Bool.not_false decide_true decide_false Int.toNat_natCast true_and and_true big hget_same hget_ne newB_n onP_p onS_sl onS_ns O_fad O_alloc_if O_ixs O_len O_ld O_st O_box boxB_if ldB_if ldB_agif stB_if toL_I toL_i toL_b toL_s toL_sl toL_ns toL_ag allC_nil allC_cons isC_i isC_b isC_s isC_sl isC_ns I_isC Llen_nil Llen_cons Lget_0 Lget_1 Lget_2 Lget_3 blkL_size cell_blkL_if getL_blkL_if getL_setL_if setL_sz evRV_cell' rvB_agif rvB_if evPL_cons bldK_if evPL_nil O_build O_part evBuild_ok okL_some onA_ag partV_1 evPart_eq updS_nil updS_cons upd_0 upd_1 upd_2 upd_3 ge_iff_le if_pos and_self Nat.le_refl known_ag known_sl known_ns known_i ov_at spS_eq spSI_eq spSII_eq spI_eq spII_eq spIII_eq spIIII_eq res_v res_sl res_slE Good I_pur pur_b pur_s pur_i pur_ns pur_ag pur_tu purL_nil purL_cons evDr_eq evDs_nil evDs_cons dsR_ok stepD_eq sdB_n sdB_g sdG_tt sdG_ff sdG_tf sdG_ft sdG_none runD_0 rdR_f rdR_t baseOf_pu baseOf_h baseU_nil baseA_nil baseA_0 baseR_nil baseR_0 baseR_00 appAll_nil appAll_0 restr_nil restr_cons setD_some setD_none evC_draw iL_len iL_get iL_allC iL_pur hp0_0 hp0_c rdL_ns rdL_sl List.length_cons List.length_nil O_mks mkB_if O_bsl bslB_if O_app apX_ns apX_sl apN_some apS_some blkL_el Nat.one_mul Nat.mul_one Nat.zero_add n_I onF_fn O_callv app_nil app_cons spLF_eq spL_eq spLL_eq onL_some onLL_ss onLL_ns onLL_sn onLL_nn rdB_blk Int.cast_ofNat_Int

theorem mm2_min (a b : Int) : mm2 false (I a) (I b) = I (min a b) := by
  unfold mm2
  refine onNN_I ?_ fun p q hp hq _ _ => ?_
  · rw [onK_I, onK_I]
    show mkI .i64 (if b < a then b else a) = mkI .i64 (min a b)
    congr 1
    split <;> omega
  · show (Bool.rec (.n p) (.n q) (Nat.blt q p) : V) = _
    cases hx : Nat.blt q p
    · have : ¬ q < p := by rw [← Nat.blt_eq, hx]; simp
      show V.n p = _
      rw [n_I (by omega), hp, hq]; congr 1; omega
    · rw [Nat.blt_eq] at hx
      show V.n q = _
      rw [n_I (by omega), hp, hq]; congr 1; omega
def mnK (xs : List Int) : Nat → Int
  | 0 => At xs 0
  | k + 1 => min (mnK xs k) (At xs (k + 1))
theorem mnK_le (xs : List Int) (z : Int) : ∀ k, z ≤ mnK xs k ↔ ∀ j, j ≤ k → z ≤ At xs j
  | 0 => ⟨fun h j hj => by obtain rfl : j = 0 := by omega
                           exact h, fun h => h 0 (Nat.le_refl _)⟩
  | k + 1 => by
    rw [mnK]
    constructor
    · intro h j hj
      rcases Nat.lt_or_ge k j with h1 | h1
      · obtain rfl : j = k + 1 := by omega
        omega
      · exact (mnK_le xs z k).1 (by omega) j h1
    · intro h
      have h1 := (mnK_le xs z k).2 fun j hj => h j (by omega)
      have h2 := h (k + 1) (Nat.le_refl _)
      omega
set_option maxHeartbeats 4000000 in
theorem run64 (el : TypeId) (xs : List Int) (cap : Option Nat) (hl : xs.length ≤ 1000) (h1 : 1 ≤ xs.length) : JQ Try.prog drops Try.f64.ntmps F0 q64 257 (Kend res64 (Good 1 (.v (I (mnK xs (xs.length - 1)))))) (bind (.cons (.sl (tp 255) 0 1 xs.length cap) .nil) 0 .lf) (hp0 [blkL el (iL xs)] 255) 257 := by
  have hF := F0_ok Try.prog
  have hM := F0_mono
  have hn : ¬ (xs.length : Int) < 1 := by omega
  unfold q64
  (refine JQ.step follows hF hM ?_; simp (config := { maxSteps := 4000000 }) (disch := (omega)) only [go_sem, Nat.reduceLT, Nat.reduceEqDiff, reduceIte, Nat.reduceAdd, Nat.reduceSub, Nat.reduceLeDiff, Int.reduceEq, Int.reduceLT, Int.reduceLE, Int.reduceNeg, Int.reduceAdd, Int.reduceSub, Int.reduceToNat, Int.reduceMul, Nat.reduceMul])
  (refine JQ.step follows hF hM ?_; simp (config := { maxSteps := 4000000 }) (disch := (omega)) only [go_sem, Nat.reduceLT, Nat.reduceEqDiff, reduceIte, Nat.reduceAdd, Nat.reduceSub, Nat.reduceLeDiff, Int.reduceEq, Int.reduceLT, Int.reduceLE, Int.reduceNeg, Int.reduceAdd, Int.reduceSub, Int.reduceToNat, Int.reduceMul, Nat.reduceMul, hn])
  (refine JQ.step follows hF hM ?_; simp (config := { maxSteps := 4000000 }) (disch := (omega)) only [go_sem, Nat.reduceLT, Nat.reduceEqDiff, reduceIte, Nat.reduceAdd, Nat.reduceSub, Nat.reduceLeDiff, Int.reduceEq, Int.reduceLT, Int.reduceLE, Int.reduceNeg, Int.reduceAdd, Int.reduceSub, Int.reduceToNat, Int.reduceMul, Nat.reduceMul])
  refine JQ.seq ?_
  (refine JQ.step follows hF hM ?_; simp (config := { maxSteps := 4000000 }) (disch := (omega)) only [go_sem, Nat.reduceLT, Nat.reduceEqDiff, reduceIte, Nat.reduceAdd, Nat.reduceSub, Nat.reduceLeDiff, Int.reduceEq, Int.reduceLT, Int.reduceLE, Int.reduceNeg, Int.reduceAdd, Int.reduceSub, Int.reduceToNat, Int.reduceMul, Nat.reduceMul])
  refine JQ.block ?_
  refine JQ.loop (σ := Nat) (fun k => k + 1 ≤ xs.length) (fun k => ((Tr.lf.set (.sl (tp 255) 0 1 xs.length cap) (tp 0)).set (I (mnK xs k)) (tp 3)).set (I (k + 1 : Nat)) (tp 4)) (fun _ => Hp.lf.put (some (blkL el (iL xs))) (tp 255)) (fun _ => 257) (fun k => xs.length - k) 0 h1 (by ((repeat' (first | exact EnvLe.lf _ | refine EnvLe.set (by decide) ?_ ?_)) <;> first | exact EnvLe.lf _ | (simp (config := { maxSteps := 4000000 }) (disch := (omega)) only [go_sem, Nat.reduceLT, Nat.reduceEqDiff, reduceIte, Nat.reduceAdd, Nat.reduceSub, Nat.reduceLeDiff, Int.reduceEq, Int.reduceLT, Int.reduceLE, Int.reduceNeg, Int.reduceAdd, Int.reduceSub, Int.reduceToNat, Int.reduceMul, Nat.reduceMul, mnK, Int.natCast_add, Int.cast_ofNat_Int]; done) | (simp (config := { maxSteps := 4000000 }) (disch := (omega)) only [go_sem, Nat.reduceLT, Nat.reduceEqDiff, reduceIte, Nat.reduceAdd, Nat.reduceSub, Nat.reduceLeDiff, Int.reduceEq, Int.reduceLT, Int.reduceLE, Int.reduceNeg, Int.reduceAdd, Int.reduceSub, Int.reduceToNat, Int.reduceMul, Nat.reduceMul, mnK, Int.natCast_add, Int.cast_ofNat_Int] <;> first | rfl | (congr 1; omega)))) (HpLe.refl _) rfl ?_
  intro k hk
  unfold q64_l0
  by_cases hlt : k + 1 < xs.length
  · have hlt' : ((k + 1 : Nat) : Int) < (xs.length : Int) := by omega
    (refine JQ.run follows hF hM ?_; simp (config := { maxSteps := 4000000 }) (disch := (omega)) only [go_sem, Nat.reduceLT, Nat.reduceEqDiff, reduceIte, Nat.reduceAdd, Nat.reduceSub, Nat.reduceLeDiff, Int.reduceEq, Int.reduceLT, Int.reduceLE, Int.reduceNeg, Int.reduceAdd, Int.reduceSub, Int.reduceToNat, Int.reduceMul, Nat.reduceMul, hlt', O_mm, mmL_nil, mmL_cons, mm2_min])
    exact ⟨k + 1, by omega, by omega, by ((repeat' (first | exact EnvLe.lf _ | refine EnvLe.set (by decide) ?_ ?_)) <;> first | exact EnvLe.lf _ | (simp (config := { maxSteps := 4000000 }) (disch := (omega)) only [go_sem, Nat.reduceLT, Nat.reduceEqDiff, reduceIte, Nat.reduceAdd, Nat.reduceSub, Nat.reduceLeDiff, Int.reduceEq, Int.reduceLT, Int.reduceLE, Int.reduceNeg, Int.reduceAdd, Int.reduceSub, Int.reduceToNat, Int.reduceMul, Nat.reduceMul, mnK, Int.natCast_add, Int.cast_ofNat_Int]; done) | (simp (config := { maxSteps := 4000000 }) (disch := (omega)) only [go_sem, Nat.reduceLT, Nat.reduceEqDiff, reduceIte, Nat.reduceAdd, Nat.reduceSub, Nat.reduceLeDiff, Int.reduceEq, Int.reduceLT, Int.reduceLE, Int.reduceNeg, Int.reduceAdd, Int.reduceSub, Int.reduceToNat, Int.reduceMul, Nat.reduceMul, mnK, Int.natCast_add, Int.cast_ofNat_Int] <;> first | rfl | (congr 1; omega))), HpLe.refl _⟩
  · have hlt' : ¬ ((k + 1 : Nat) : Int) < (xs.length : Int) := by omega
    obtain rfl : k = xs.length - 1 := by omega
    (refine JQ.run follows hF hM ?_; simp (config := { maxSteps := 4000000 }) (disch := (omega)) only [go_sem, Nat.reduceLT, Nat.reduceEqDiff, reduceIte, Nat.reduceAdd, Nat.reduceSub, Nat.reduceLeDiff, Int.reduceEq, Int.reduceLT, Int.reduceLE, Int.reduceNeg, Int.reduceAdd, Int.reduceSub, Int.reduceToNat, Int.reduceMul, Nat.reduceMul, hlt'])
    (refine JQ.run follows hF hM ?_; simp (config := { maxSteps := 4000000 }) (disch := (omega)) only [go_sem, Nat.reduceLT, Nat.reduceEqDiff, reduceIte, Nat.reduceAdd, Nat.reduceSub, Nat.reduceLeDiff, Int.reduceEq, Int.reduceLT, Int.reduceLE, Int.reduceNeg, Int.reduceAdd, Int.reduceSub, Int.reduceToNat, Int.reduceMul, Nat.reduceMul, res64])
noncomputable def f64 (xs : List Int) : Out := if xs.length ≤ 1000 ∧ 1 ≤ xs.length then .v (I (mnK xs (xs.length - 1))) else .no
theorem ok64 : SOK Try.prog 64 (spL f64) := spL_ok Try.func64 n64 b64 k64 r64 (fun xs => by unfold f64; split <;> first | exact I_pur _ | trivial)
  (fun el xs cap hn => by
    unfold f64 at hn ⊢
    split
    · rename_i h; exact run64 el xs cap h.1 h.2
    · rename_i h; rw [if_neg h] at hn; exact absurd rfl hn)
  (fun hn => by unfold f64 at hn; rw [if_neg (by simp)] at hn; exact absurd rfl hn)

/-! Strings cut. -/
theorem onI_nat {β : Type} (k : IntKind) (a : Nat) (f : Nat → β) (s : β) : onI (.i k (a : Int)) f s = f a := rfl
theorem O_ssl_a (x i : X) (F : FF) (e : Tr) (lim : Nat) (h : Hp) (n : Nat) : (O.ssl x (some i) none).ev F e lim h n = pv (onStr (evX x e) (fun l => onI (evX i e) (fun a => if a ≤ l.length then .s (l.drop a) else .bad) .bad) .bad) h n := by
  show pv (onStr (evX x e) (fun l => fN l.length fun len => onOI (some i) e 0 fun a => onOI none e len fun b => Bool.rec .bad (.s ((l.drop a).take (b - a))) (and (Nat.ble a b) (Nat.ble b len))) .bad) h n = _
  congr 2
  funext l
  rw [fN_eq]
  show onI (evX i e) _ V.bad = _
  congr 1
  funext a
  show (Bool.rec .bad (.s ((l.drop a).take (l.length - a))) (and (Nat.ble a l.length) (Nat.ble l.length l.length)) : V) = _
  rw [show Nat.ble l.length l.length = true from Nat.ble_eq.mpr (Nat.le_refl _), Bool.and_true]
  by_cases ha : a ≤ l.length
  · rw [if_pos ha, show Nat.ble a l.length = true from Nat.ble_eq.mpr ha]
    show V.s ((l.drop a).take (l.length - a)) = _
    rw [List.take_of_length_le (by simp)]
  · rw [if_neg ha, show Nat.ble a l.length = false from Bool.eq_false_iff.mpr fun hx => ha (Nat.ble_eq.mp hx)]
theorem O_ssl_b (x i : X) (F : FF) (e : Tr) (lim : Nat) (h : Hp) (n : Nat) : (O.ssl x none (some i)).ev F e lim h n = pv (onStr (evX x e) (fun l => onI (evX i e) (fun b => if b ≤ l.length then .s (l.take b) else .bad) .bad) .bad) h n := by
  show pv (onStr (evX x e) (fun l => fN l.length fun len => onOI none e 0 fun a => onOI (some i) e len fun b => Bool.rec .bad (.s ((l.drop a).take (b - a))) (and (Nat.ble a b) (Nat.ble b len))) .bad) h n = _
  congr 2
  funext l
  rw [fN_eq]
  show onI (evX i e) _ V.bad = _
  congr 1
  funext a
  show (Bool.rec .bad (.s ((l.drop 0).take (a - 0))) (and (Nat.ble 0 a) (Nat.ble a l.length)) : V) = _
  rw [show Nat.ble 0 a = true from Nat.ble_eq.mpr (Nat.zero_le _), Bool.true_and]
  by_cases ha : a ≤ l.length
  · rw [if_pos ha, show Nat.ble a l.length = true from Nat.ble_eq.mpr ha]; rfl
  · rw [if_neg ha, show Nat.ble a l.length = false from Bool.eq_false_iff.mpr fun hx => ha (Nat.ble_eq.mp hx)]
theorem strV_add (l m : List Nat) : strV .add l m = if l.length + m.length ≤ 9223372036854775807 then .s (l ++ m) else .bad := by
  show (Bool.rec .bad (.s (l ++ m)) (Nat.ble (Nat.add l.length m.length) 9223372036854775807) : V) = _
  by_cases ha : l.length + m.length ≤ 9223372036854775807
  · rw [if_pos ha, show Nat.ble (Nat.add l.length m.length) 9223372036854775807 = true from Nat.ble_eq.mpr ha]
  · rw [if_neg ha, show Nat.ble (Nat.add l.length m.length) 9223372036854775807 = false from Bool.eq_false_iff.mpr fun hx => ha (Nat.ble_eq.mp hx)]

/-- An order turned. -/
def rot (bs : List Nat) (k : Nat) : List Nat := bs.drop k ++ bs.take k
theorem rot_len {bs : List Nat} {k : Nat} (h : k ≤ bs.length) : (rot bs k).length = bs.length := by simp [rot]; omega
/-- Whether a turn keeps so many coins. -/
def keeps (bs : List Nat) (z : Int) (k : Nat) : Bool := (List.range bs.length).all fun j => decide (z ≤ aft (rot bs k) 0 (j + 1))
theorem keeps_iff {bs : List Nat} {z : Int} {k : Nat} : keeps bs z k = true ↔ ∀ j, j < bs.length → z ≤ aft (rot bs k) 0 (j + 1) := by
  unfold keeps
  rw [List.all_eq_true]
  exact ⟨fun h j hj => of_decide_eq_true (h j (List.mem_range.2 hj)), fun h j hj => decide_eq_true (h j (List.mem_range.1 hj))⟩
def tuL (bs : List Nat) (z : Int) : Nat → List Int
  | 0 => []
  | k + 1 => if keeps bs z k then tuL bs z k ++ [(k : Int)] else tuL bs z k
theorem tuL_len (bs : List Nat) (z : Int) : ∀ k, (tuL bs z k).length ≤ k
  | 0 => Nat.le_refl _
  | k + 1 => by
    have := tuL_len bs z k
    rw [tuL]
    split
    · rw [List.length_append]; simp; omega
    · omega
noncomputable def apW (xs : List Int) (q : Nat) : V := if xs.length = 0 then .ns else .sl (tp q) 0 1 xs.length none
noncomputable def apG (xs : List Int) (q : Nat) : Hp := if xs.length = 0 then .lf else Hp.lf.put (some (blkL 3 (iL xs))) (tp q)
noncomputable def o31 (bs : List Nat) (z : Int) : Out := if chkB bs z = 0 then (if (tuL bs z bs.length).length = 0 then .v (tuE 0) else .slE 3 1 (tuL bs z bs.length).length none (iL (tuL bs z bs.length)) (I 0)) else .v (tuE (chkB bs z))
theorem o31_ok (bs : List Nat) (z : Int) : OutOK (o31 bs z) := by
  unfold o31
  split
  · split
    · simp [OutOK, tuE, V.pur, L.pur, I_pur]
    · exact ⟨iL_pur _, by rw [iL_len]; omega, I_pur _⟩
  · simp [OutOK, tuE, V.pur, L.pur, I_pur]
noncomputable def f31 (bs : List Nat) (z : Int) : Out := if bs.length < 9223372036854775808 then o31 bs z else .no
theorem min_keeps {bs : List Nat} {z : Int} {k : Nat} (hk : k < bs.length) : (z ≤ mnK (afts (rot bs k) 0) (bs.length - 1)) ↔ keeps bs z k = true := by
  have hr := rot_len (Nat.le_of_lt hk)
  rw [mnK_le, keeps_iff]
  constructor
  · intro h j hj
    have := h j (by omega)
    rwa [At_afts (by omega)] at this
  · intro h j hj
    rw [At_afts (by omega)]
    exact h j (by omega)
noncomputable def F31 : FF := ov 47 (spSI f47) (ov 48 (spSI f48) (ov 64 (spL f64) F0))
theorem F31_ok : FOK Try.prog F31 := ov_ok ok47 (ov_ok ok48 (ov_ok ok64 (F0_ok _)))
theorem F31_mono : F31.mono := ov_mono (spSI_mo _) (ov_mono (spSI_mo _) (ov_mono (spL_mo _) F0_mono))
set_option maxHeartbeats 8000000 in
theorem run31 (bs : List Nat) (z : Int) (hb : bs.length < 9223372036854775808) : JQ Try.prog drops Try.f31.ntmps F31 q31 256 (Kend res31 (Good 0 (o31 bs z))) (bind (.cons (.s bs) (.cons (I z) .nil)) 0 .lf) .lf 256 := by
  have hF := F31_ok
  have hM := F31_mono
  unfold q31
  (refine JQ.step follows hF hM ?_; simp (config := { maxSteps := 4000000 }) (disch := (omega)) only [go_sem, Nat.reduceLT, Nat.reduceEqDiff, reduceIte, Nat.reduceAdd, Nat.reduceSub, Nat.reduceLeDiff, Int.reduceEq, Int.reduceLT, Int.reduceLE, Int.reduceNeg, Int.reduceAdd, Int.reduceSub, Int.reduceToNat, Int.reduceMul, Nat.reduceMul])
  by_cases h0 : chkB bs z = 0
  · obtain ⟨c1, c2, c3⟩ := chkB_0 h0
    (refine JQ.step follows hF hM ?_; simp (config := { maxSteps := 4000000 }) (disch := (omega)) only [go_sem, Nat.reduceLT, Nat.reduceEqDiff, reduceIte, Nat.reduceAdd, Nat.reduceSub, Nat.reduceLeDiff, Int.reduceEq, Int.reduceLT, Int.reduceLE, Int.reduceNeg, Int.reduceAdd, Int.reduceSub, Int.reduceToNat, Int.reduceMul, Nat.reduceMul, F31, f47, eq_true h0])
    (refine JQ.step follows hF hM ?_; simp (config := { maxSteps := 4000000 }) (disch := (omega)) only [go_sem, Nat.reduceLT, Nat.reduceEqDiff, reduceIte, Nat.reduceAdd, Nat.reduceSub, Nat.reduceLeDiff, Int.reduceEq, Int.reduceLT, Int.reduceLE, Int.reduceNeg, Int.reduceAdd, Int.reduceSub, Int.reduceToNat, Int.reduceMul, Nat.reduceMul])
    refine JQ.seq ?_
    (refine JQ.step follows hF hM ?_; simp (config := { maxSteps := 4000000 }) (disch := (omega)) only [go_sem, Nat.reduceLT, Nat.reduceEqDiff, reduceIte, Nat.reduceAdd, Nat.reduceSub, Nat.reduceLeDiff, Int.reduceEq, Int.reduceLT, Int.reduceLE, Int.reduceNeg, Int.reduceAdd, Int.reduceSub, Int.reduceToNat, Int.reduceMul, Nat.reduceMul, small_len])
    refine JQ.block ?_
    refine JQ.loop (σ := Nat × Nat) (fun s => s.1 ≤ bs.length ∧ 255 ≤ s.2 ∧ (0 < (tuL bs z s.1).length → s.2 + 1 < 256 + s.1 + 2 * (tuL bs z s.1).length)) (fun s => ((((Tr.lf.set (.s bs) (tp 0)).set (I z) (tp 1)).set (apW (tuL bs z s.1) s.2) (tp 7)).set (I bs.length) (tp 17)).set (I s.1) (tp 18)) (fun s => apG (tuL bs z s.1) s.2) (fun s => 256 + s.1 + 2 * (tuL bs z s.1).length) (fun s => bs.length - s.1) (0, 255) ⟨Nat.zero_le _, Nat.le_refl _, fun h => by simp [tuL] at h⟩ (by ((repeat' (first | exact EnvLe.lf _ | refine EnvLe.set (by decide) ?_ ?_)) <;> first | exact EnvLe.lf _ | (simp (config := { maxSteps := 4000000 }) (disch := (omega)) only [go_sem, Nat.reduceLT, Nat.reduceEqDiff, reduceIte, Nat.reduceAdd, Nat.reduceSub, Nat.reduceLeDiff, Int.reduceEq, Int.reduceLT, Int.reduceLE, Int.reduceNeg, Int.reduceAdd, Int.reduceSub, Int.reduceToNat, Int.reduceMul, Nat.reduceMul, apW, tuL, Int.natCast_add, Int.cast_ofNat_Int]; done) | (simp (config := { maxSteps := 4000000 }) (disch := (omega)) only [go_sem, Nat.reduceLT, Nat.reduceEqDiff, reduceIte, Nat.reduceAdd, Nat.reduceSub, Nat.reduceLeDiff, Int.reduceEq, Int.reduceLT, Int.reduceLE, Int.reduceNeg, Int.reduceAdd, Int.reduceSub, Int.reduceToNat, Int.reduceMul, Nat.reduceMul, apW, tuL, Int.natCast_add, Int.cast_ofNat_Int] <;> first | rfl | (congr 1; omega)))) (HpLe.refl _) rfl ?_
    rintro ⟨k, q⟩ ⟨hk, hq0, hq⟩
    dsimp only at hk hq0 hq ⊢
    unfold q31_l0
    have hlen := tuL_len bs z k
    by_cases hlt : k < bs.length
    · have hlt' : (k : Int) < (bs.length : Int) := by omega
      have hld : (bs.drop k).length = bs.length - k := List.length_drop ..
      have hlk : (bs.take k).length = k := by rw [List.length_take]; omega
      have hrot : bs.drop k ++ bs.take k = rot bs k := rfl
      have hrl := rot_len hk
      have hal : (afts (rot bs k) 0).length = bs.length := by rw [afts_len, hrl]
      have hmk := min_keeps (bs := bs) (z := z) hlt
      have hs1 : tuL bs z (k + 1) = if keeps bs z k then tuL bs z k ++ [(k : Int)] else tuL bs z k := rfl
      obtain ⟨xs, hxs⟩ : ∃ xs, xs = tuL bs z k := ⟨_, rfl⟩
      rw [← hxs] at hlen hq hs1 ⊢
      have e0 : 256 + k + 2 * xs.length - 1 = 255 + k + 2 * xs.length := by omega
      have e1 : 256 + k + 2 * xs.length + 1 - 1 = 256 + k + 2 * xs.length := by omega
      have e2 : 256 + k + 2 * xs.length + 1 + 1 - 1 = 257 + k + 2 * xs.length := by omega
      by_cases hkp : keeps bs z k = true
      · have hmm := hmk.2 hkp
        rw [if_pos hkp] at hs1
        by_cases hz : xs.length = 0
        · have hv : apW xs q = .ns := if_pos hz
          have hh : apG xs q = .lf := if_pos hz
          obtain rfl : xs = [] := List.eq_nil_of_length_eq_zero hz
          have f0 : 256 + k - 1 = 255 + k := by omega
          have f1 : 256 + k + 1 - 1 = 256 + k := by omega
          have f2 : 256 + k + 1 + 1 - 1 = 257 + k := by omega
          have hv2 : apW (tuL bs z (k + 1)) (257 + k) = .sl (tp (257 + k)) 0 1 1 none := by rw [hs1]; exact if_neg (by simp)
          have hh2 : apG (tuL bs z (k + 1)) (257 + k) = Hp.lf.put (some (blkL 3 (iL [(k : Int)]))) (tp (257 + k)) := by rw [hs1]; exact if_neg (by simp)
          have hl2 : (tuL bs z (k + 1)).length = 1 := by rw [hs1]; rfl
          rw [hv, hh]
          (refine JQ.run follows hF hM ?_; simp (config := { maxSteps := 4000000 }) (disch := (omega)) only [go_sem, Nat.reduceLT, Nat.reduceEqDiff, reduceIte, Nat.reduceAdd, Nat.reduceSub, Nat.reduceLeDiff, Int.reduceEq, Int.reduceLT, Int.reduceLE, Int.reduceNeg, Int.reduceAdd, Int.reduceSub, Int.reduceToNat, Int.reduceMul, Nat.reduceMul, hlt', O_ssl_a, O_ssl_b, strV_add, hld, hlk, hrot, F31, f48, f64, hrl, hal, eq_true hmm, Nat.add_zero, f0, f1, f2])
          refine ⟨by omega, (k + 1, 257 + k), ⟨by omega, by dsimp only; omega, fun _ => by dsimp only; omega⟩, by dsimp only; omega, by dsimp only; ((repeat' (first | exact EnvLe.lf _ | refine EnvLe.set (by decide) ?_ ?_)) <;> first | exact EnvLe.lf _ | (simp (config := { maxSteps := 4000000 }) (disch := (omega)) only [go_sem, Nat.reduceLT, Nat.reduceEqDiff, reduceIte, Nat.reduceAdd, Nat.reduceSub, Nat.reduceLeDiff, Int.reduceEq, Int.reduceLT, Int.reduceLE, Int.reduceNeg, Int.reduceAdd, Int.reduceSub, Int.reduceToNat, Int.reduceMul, Nat.reduceMul, hv2, Int.natCast_add, Int.cast_ofNat_Int]; done) | (simp (config := { maxSteps := 4000000 }) (disch := (omega)) only [go_sem, Nat.reduceLT, Nat.reduceEqDiff, reduceIte, Nat.reduceAdd, Nat.reduceSub, Nat.reduceLeDiff, Int.reduceEq, Int.reduceLT, Int.reduceLE, Int.reduceNeg, Int.reduceAdd, Int.reduceSub, Int.reduceToNat, Int.reduceMul, Nat.reduceMul, hv2, Int.natCast_add, Int.cast_ofNat_Int] <;> first | rfl | (congr 1; omega))), ?_, by dsimp only; omega⟩
          dsimp only
          rw [hh2]
          exact HpLe.put ⟨_, hget_same _ _ _, BlkLe.refl _⟩ (HpLe.lf _)
        · have hv : apW xs q = .sl (tp q) 0 1 xs.length none := if_neg hz
          have hh : apG xs q = Hp.lf.put (some (blkL 3 (iL xs))) (tp q) := if_neg hz
          have hq1 := hq (by omega)
          have hl2 : (tuL bs z (k + 1)).length = xs.length + 1 := by rw [hs1, List.length_append]; rfl
          have hv2 : apW (tuL bs z (k + 1)) (257 + k + 2 * xs.length) = .sl (tp (257 + k + 2 * xs.length)) 0 1 (xs.length + 1) none := by rw [apW, if_neg (by omega), hl2]
          have hh2 : apG (tuL bs z (k + 1)) (257 + k + 2 * xs.length) = Hp.lf.put (some (blkL 3 (iL (xs ++ [(k : Int)])))) (tp (257 + k + 2 * xs.length)) := by rw [apG, if_neg (by omega), hs1]
          have hg := grown_le (el := 3) (xs := xs) (z := (k : Int)) (by omega)
          rw [hv, hh]
          (refine JQ.run follows hF hM ?_; simp (config := { maxSteps := 4000000 }) (disch := (omega)) only [go_sem, Nat.reduceLT, Nat.reduceEqDiff, reduceIte, Nat.reduceAdd, Nat.reduceSub, Nat.reduceLeDiff, Int.reduceEq, Int.reduceLT, Int.reduceLE, Int.reduceNeg, Int.reduceAdd, Int.reduceSub, Int.reduceToNat, Int.reduceMul, Nat.reduceMul, hlt', O_ssl_a, O_ssl_b, strV_add, hld, hlk, hrot, F31, f48, f64, hrl, hal, eq_true hmm, e0, e1, e2])
          refine ⟨by omega, (k + 1, 257 + k + 2 * xs.length), ⟨by omega, by dsimp only; omega, fun _ => by dsimp only; omega⟩, by dsimp only; omega, by dsimp only; ((repeat' (first | exact EnvLe.lf _ | refine EnvLe.set (by decide) ?_ ?_)) <;> first | exact EnvLe.lf _ | (simp (config := { maxSteps := 4000000 }) (disch := (omega)) only [go_sem, Nat.reduceLT, Nat.reduceEqDiff, reduceIte, Nat.reduceAdd, Nat.reduceSub, Nat.reduceLeDiff, Int.reduceEq, Int.reduceLT, Int.reduceLE, Int.reduceNeg, Int.reduceAdd, Int.reduceSub, Int.reduceToNat, Int.reduceMul, Nat.reduceMul, hv2, Int.natCast_add, Int.cast_ofNat_Int]; done) | (simp (config := { maxSteps := 4000000 }) (disch := (omega)) only [go_sem, Nat.reduceLT, Nat.reduceEqDiff, reduceIte, Nat.reduceAdd, Nat.reduceSub, Nat.reduceLeDiff, Int.reduceEq, Int.reduceLT, Int.reduceLE, Int.reduceNeg, Int.reduceAdd, Int.reduceSub, Int.reduceToNat, Int.reduceMul, Nat.reduceMul, hv2, Int.natCast_add, Int.cast_ofNat_Int] <;> first | rfl | (congr 1; omega))), ?_, by dsimp only; omega⟩
          dsimp only
          rw [hh2]
          exact HpLe.put ⟨_, hget_same _ _ _, hg⟩ (HpLe.lf _)
      · have hmm : ¬ z ≤ mnK (afts (rot bs k) 0) (bs.length - 1) := fun h => hkp (hmk.1 h)
        rw [if_neg hkp] at hs1
        by_cases hz : xs.length = 0
        · have hv : apW xs q = .ns := if_pos hz
          have hh : apG xs q = .lf := if_pos hz
          rw [hv, hh]
          (refine JQ.run follows hF hM ?_; simp (config := { maxSteps := 4000000 }) (disch := (omega)) only [go_sem, Nat.reduceLT, Nat.reduceEqDiff, reduceIte, Nat.reduceAdd, Nat.reduceSub, Nat.reduceLeDiff, Int.reduceEq, Int.reduceLT, Int.reduceLE, Int.reduceNeg, Int.reduceAdd, Int.reduceSub, Int.reduceToNat, Int.reduceMul, Nat.reduceMul, hlt', O_ssl_a, O_ssl_b, strV_add, hld, hlk, hrot, F31, f48, f64, hrl, hal, eq_false hmm, e0, e1, e2])
          refine ⟨by omega, (k + 1, q), ⟨by omega, hq0, fun h => by dsimp only at h; rw [hs1] at h; omega⟩, by dsimp only; omega, by dsimp only; ((repeat' (first | exact EnvLe.lf _ | refine EnvLe.set (by decide) ?_ ?_)) <;> first | exact EnvLe.lf _ | (simp (config := { maxSteps := 4000000 }) (disch := (omega)) only [go_sem, Nat.reduceLT, Nat.reduceEqDiff, reduceIte, Nat.reduceAdd, Nat.reduceSub, Nat.reduceLeDiff, Int.reduceEq, Int.reduceLT, Int.reduceLE, Int.reduceNeg, Int.reduceAdd, Int.reduceSub, Int.reduceToNat, Int.reduceMul, Nat.reduceMul, hs1, hv, Int.natCast_add, Int.cast_ofNat_Int]; done) | (simp (config := { maxSteps := 4000000 }) (disch := (omega)) only [go_sem, Nat.reduceLT, Nat.reduceEqDiff, reduceIte, Nat.reduceAdd, Nat.reduceSub, Nat.reduceLeDiff, Int.reduceEq, Int.reduceLT, Int.reduceLE, Int.reduceNeg, Int.reduceAdd, Int.reduceSub, Int.reduceToNat, Int.reduceMul, Nat.reduceMul, hs1, hv, Int.natCast_add, Int.cast_ofNat_Int] <;> first | rfl | (congr 1; omega))), ?_, by dsimp only; rw [hs1]; omega⟩
          dsimp only
          rw [hs1, hh]
          exact HpLe.lf _
        · have hv : apW xs q = .sl (tp q) 0 1 xs.length none := if_neg hz
          have hh : apG xs q = Hp.lf.put (some (blkL 3 (iL xs))) (tp q) := if_neg hz
          have hq1 := hq (by omega)
          rw [hv, hh]
          (refine JQ.run follows hF hM ?_; simp (config := { maxSteps := 4000000 }) (disch := (omega)) only [go_sem, Nat.reduceLT, Nat.reduceEqDiff, reduceIte, Nat.reduceAdd, Nat.reduceSub, Nat.reduceLeDiff, Int.reduceEq, Int.reduceLT, Int.reduceLE, Int.reduceNeg, Int.reduceAdd, Int.reduceSub, Int.reduceToNat, Int.reduceMul, Nat.reduceMul, hlt', O_ssl_a, O_ssl_b, strV_add, hld, hlk, hrot, F31, f48, f64, hrl, hal, eq_false hmm, e0, e1, e2])
          refine ⟨by omega, (k + 1, q), ⟨by omega, hq0, fun _ => by dsimp only; rw [hs1]; omega⟩, by dsimp only; omega, by dsimp only; ((repeat' (first | exact EnvLe.lf _ | refine EnvLe.set (by decide) ?_ ?_)) <;> first | exact EnvLe.lf _ | (simp (config := { maxSteps := 4000000 }) (disch := (omega)) only [go_sem, Nat.reduceLT, Nat.reduceEqDiff, reduceIte, Nat.reduceAdd, Nat.reduceSub, Nat.reduceLeDiff, Int.reduceEq, Int.reduceLT, Int.reduceLE, Int.reduceNeg, Int.reduceAdd, Int.reduceSub, Int.reduceToNat, Int.reduceMul, Nat.reduceMul, hs1, hv, Int.natCast_add, Int.cast_ofNat_Int]; done) | (simp (config := { maxSteps := 4000000 }) (disch := (omega)) only [go_sem, Nat.reduceLT, Nat.reduceEqDiff, reduceIte, Nat.reduceAdd, Nat.reduceSub, Nat.reduceLeDiff, Int.reduceEq, Int.reduceLT, Int.reduceLE, Int.reduceNeg, Int.reduceAdd, Int.reduceSub, Int.reduceToNat, Int.reduceMul, Nat.reduceMul, hs1, hv, Int.natCast_add, Int.cast_ofNat_Int] <;> first | rfl | (congr 1; omega))), ?_, by dsimp only; rw [hs1]; omega⟩
          dsimp only
          rw [hs1, hh]
          exact HpLe.put ⟨blkL 3 (iL xs), by simp (config := { maxSteps := 4000000 }) (disch := (omega)) only [go_sem, Nat.reduceLT, Nat.reduceEqDiff, reduceIte, Nat.reduceAdd, Nat.reduceSub, Nat.reduceLeDiff, Int.reduceEq, Int.reduceLT, Int.reduceLE, Int.reduceNeg, Int.reduceAdd, Int.reduceSub, Int.reduceToNat, Int.reduceMul, Nat.reduceMul], BlkLe.refl _⟩ (HpLe.lf _)
    · obtain rfl : k = bs.length := by omega
      (refine JQ.run follows hF hM ?_; simp (config := { maxSteps := 4000000 }) (disch := (omega)) only [go_sem, Nat.reduceLT, Nat.reduceEqDiff, reduceIte, Nat.reduceAdd, Nat.reduceSub, Nat.reduceLeDiff, Int.reduceEq, Int.reduceLT, Int.reduceLE, Int.reduceNeg, Int.reduceAdd, Int.reduceSub, Int.reduceToNat, Int.reduceMul, Nat.reduceMul, Int.lt_irrefl])
      refine ⟨by omega, ?_⟩
      by_cases hz : (tuL bs z bs.length).length = 0
      · have hv : apW (tuL bs z bs.length) q = .ns := if_pos hz
        have ho : o31 bs z = .v (tuE 0) := by rw [o31, if_pos h0, if_pos hz]
        (refine JQ.run follows hF hM ?_; simp (config := { maxSteps := 4000000 }) (disch := (omega)) only [go_sem, Nat.reduceLT, Nat.reduceEqDiff, reduceIte, Nat.reduceAdd, Nat.reduceSub, Nat.reduceLeDiff, Int.reduceEq, Int.reduceLT, Int.reduceLE, Int.reduceNeg, Int.reduceAdd, Int.reduceSub, Int.reduceToNat, Int.reduceMul, Nat.reduceMul, res31, ho, hv, tuE])
        omega
      · have hv : apW (tuL bs z bs.length) q = .sl (tp q) 0 1 (tuL bs z bs.length).length none := if_neg hz
        have ho : o31 bs z = .slE 3 1 (tuL bs z bs.length).length none (iL (tuL bs z bs.length)) (I 0) := by rw [o31, if_pos h0, if_neg hz]
        have hh : apG (tuL bs z bs.length) q = Hp.lf.put (some (blkL 3 (iL (tuL bs z bs.length)))) (tp q) := if_neg hz
        have hq1 := hq (by omega)
        (refine JQ.run follows hF hM ?_; simp (config := { maxSteps := 4000000 }) (disch := (omega)) only [go_sem, Nat.reduceLT, Nat.reduceEqDiff, reduceIte, Nat.reduceAdd, Nat.reduceSub, Nat.reduceLeDiff, Int.reduceEq, Int.reduceLT, Int.reduceLE, Int.reduceNeg, Int.reduceAdd, Int.reduceSub, Int.reduceToNat, Int.reduceMul, Nat.reduceMul, res31, ho, hv, hh])
        exact ⟨by omega, goodIE (nb := 0) (hget_same _ _ _) (by omega) (by omega) (by omega)⟩
  · have ho : o31 bs z = .v (tuE (chkB bs z)) := if_neg h0
    (refine JQ.step follows hF hM ?_; simp (config := { maxSteps := 4000000 }) (disch := (omega)) only [go_sem, Nat.reduceLT, Nat.reduceEqDiff, reduceIte, Nat.reduceAdd, Nat.reduceSub, Nat.reduceLeDiff, Int.reduceEq, Int.reduceLT, Int.reduceLE, Int.reduceNeg, Int.reduceAdd, Int.reduceSub, Int.reduceToNat, Int.reduceMul, Nat.reduceMul, F31, f47, eq_false h0, ho, res31, tuE])
theorem ok31 : SOK Try.prog 31 (spSI f31) := spSI_ok fun bs z lim h n v h' n' hr => by
  unfold f31 at hr
  split at hr
  · rename_i hb
    exact outC Try.func31 n31 b31 k31 r31 (Ins.none h) (by simp [L.length]) (ren_nil_rel (by simp only [purL_cons, purL_nil, pur_s, I_pur, Bool.and_self])) (o31 bs z) (o31_ok bs z) (run31 bs z hb) lim n hr
  · cases hr
end Go.Proofs.Ytkdbgkibifigiaa.Ev
