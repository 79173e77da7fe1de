/- The till: customers are exchanged, on both sides. -/
import Derived.Test.YtkdbgkibifigiaaTsQ
import Derived.Test.YtkdbgkibifigiaaTcB
import Derived.Test.YtkdbgkibifigiaaTlF
namespace Go.Proofs.Ytkdbgkibifigiaa.Ev
set_option linter.unusedVariables false
set_option linter.unusedSimpArgs false
set_option maxRecDepth 100000
open Go Go.Proofs
attribute [local go_sem] evC_seq evC_reg evC_cond evC_block evC_skip evC_exit evC_ret evR_cons evR_nil evR_gd guardB_tt guardB_ff guardB_tf guardB_ft guardB_none bindR_ok bindR_okn rgRs_ok seqR_nor seqR_ext seqR_ret condR_true condR_false blockR_nor blockR_ext blockR_ret evX_t evX_c evXL_nil evXL_cons O_mv O_bin O_pick O_eqb O_not O_ext O_call O_conv O_slen O_six O_sbi pv_I pv_i pv_b pv_s pv_ns pv_sl pv_p pv_tu pv_ag bin_lss bin_leq bin_gtr bin_geq bin_eql bin_neq bin8_eql bin8_neq bin_add bin_sub bin_mul get_st get_lf bind_nil bind_cons if_true if_false Got_nor Got_ext Got_ret Kseq Kblk Klp Kend onStr_s onB_b onT_tu onI_I onN_I onK_I eqb_b not_b nthL_0 nthL_1 nthL_2 known_nil known_cons I_known known_b known_s evRVs_nil evRVs_cons evRes_1 evRes_2 evRV_tmp Bool.and_true Bool.true_and Bool.and_self Bool.not_true Bool.not_false decide_true decide_false Int.toNat_natCast true_and and_true big hget_same hget_ne newB_n onP_p onS_sl onS_ns O_fad O_alloc_if O_ixs O_len O_ld O_st O_box boxB_if ldB_if ldB_agif stB_if toL_I toL_i toL_b toL_s toL_sl toL_ns toL_ag allC_nil allC_cons isC_i isC_b isC_s isC_sl isC_ns I_isC Llen_nil Llen_cons Lget_0 Lget_1 Lget_2 Lget_3 blkL_size cell_blkL_if getL_blkL_if getL_setL_if setL_sz evRV_cell' rvB_agif rvB_if evPL_cons bldK_if evPL_nil O_build O_part evBuild_ok okL_some onA_ag partV_1 evPart_eq updS_nil updS_cons upd_0 upd_1 upd_2 upd_3 ge_iff_le if_pos and_self Nat.le_refl known_ag known_sl known_ns known_i ov_at spS_eq spSI_eq spSII_eq spI_eq spII_eq spIII_eq spIIII_eq res_v res_sl res_slE Good I_pur pur_b pur_s pur_i pur_ns pur_ag pur_tu purL_nil purL_cons evDr_eq evDs_nil evDs_cons dsR_ok stepD_eq sdB_n sdB_g sdG_tt sdG_ff sdG_tf sdG_ft sdG_none runD_0 rdR_f rdR_t baseOf_pu baseOf_h baseU_nil baseA_nil baseA_0 baseR_nil baseR_0 baseR_00 appAll_nil appAll_0 restr_nil restr_cons setD_some setD_none evC_draw iL_len iL_get iL_allC iL_pur hp0_0 hp0_c rdL_ns rdL_sl List.length_cons List.length_nil O_mks mkB_if O_bsl bslB_if O_app apX_ns apX_sl apN_some apS_some blkL_el Nat.one_mul Nat.mul_one Nat.zero_add n_I onF_fn O_callv app_nil app_cons spLF_eq spL_eq spLL_eq onL_some onLL_ss onLL_ns onLL_sn onLL_nn rdB_blk Int.cast_ofNat_Int

/-! A function of one byte. -/
noncomputable def spU (f : Int → Out) (args : L) (_ : Nat) (h : Hp) (n : Nat) : Res := match args with | .cons (.i .u8 b) .nil => (f b).res h n | _ => .no
theorem spU_eq (f : Int → Out) (b : Int) (lim : Nat) (h : Hp) (n : Nat) : spU f (.cons (.i .u8 b) .nil) lim h n = (f b).res h n := rfl
theorem spU_mo (f : Int → Out) : SMo (spU f) := fun args lim h n => by unfold spU; split <;> first | exact Out.res_ge _ _ _ | trivial
theorem spU_ok {P : Program} {k : Nat} {f : Int → Out} (hc : ∀ b lim h n v h' n', (f b).res h n = .ok v h' n' → CallsOK P k (.cons (.i .u8 b) .nil) lim h n v h' n') : SOK P k (spU f) := fun args lim h n v h' n' hr => by
  unfold spU at hr
  split at hr
  · exact hc _ _ _ _ _ _ _ hr
  · cases hr
noncomputable def f68 (b : Int) : Out := .v (.i .u8 (if b = 99 then 110 else 99))
theorem run68 (b : Int) : JQ Try.prog drops Try.f68.ntmps F0 q68 256 (Kend res68 (Good 0 (f68 b))) (bind (.cons (.i .u8 b) .nil) 0 .lf) .lf 256 := by
  have hF := F0_ok Try.prog
  have hM := F0_mono
  unfold q68 f68
  (refine JQ.step follows hF hM ?_; simp (config := { maxSteps := 4000000 }) (disch := (omega)) only [go_sem, Nat.reduceLT, Nat.reduceEqDiff, reduceIte, Nat.reduceAdd, Nat.reduceSub, Nat.reduceLeDiff, Int.reduceEq, Int.reduceLT, Int.reduceLE, Int.reduceNeg, Int.reduceAdd, Int.reduceSub, Int.reduceToNat, Int.reduceMul, Nat.reduceMul])
  by_cases h : b = 99
  · subst h
    (refine JQ.run follows hF hM ?_; simp (config := { maxSteps := 4000000 }) (disch := (omega)) only [go_sem, Nat.reduceLT, Nat.reduceEqDiff, reduceIte, Nat.reduceAdd, Nat.reduceSub, Nat.reduceLeDiff, Int.reduceEq, Int.reduceLT, Int.reduceLE, Int.reduceNeg, Int.reduceAdd, Int.reduceSub, Int.reduceToNat, Int.reduceMul, Nat.reduceMul, res68])
  · (refine JQ.run follows hF hM ?_; simp (config := { maxSteps := 4000000 }) (disch := (omega)) only [go_sem, Nat.reduceLT, Nat.reduceEqDiff, reduceIte, Nat.reduceAdd, Nat.reduceSub, Nat.reduceLeDiff, Int.reduceEq, Int.reduceLT, Int.reduceLE, Int.reduceNeg, Int.reduceAdd, Int.reduceSub, Int.reduceToNat, Int.reduceMul, Nat.reduceMul, h, res68])
theorem ok68 : SOK Try.prog 68 (spU f68) := spU_ok fun b lim h n v h' n' hr =>
  outC Try.func68 n68 b68 k68 r68 (Ins.none h) (by simp [L.length]) (ren_nil_rel rfl) (f68 b) rfl (run68 b) lim n hr

/-! The letters, the first of them exchanged. -/
def mx (bs : List Nat) (m i : Nat) : Nat := if i < m then (if byt bs i = 99 then 110 else 99) else bs.getD i 0 % 256
def mix (bs : List Nat) (m : Nat) : List Nat := (List.range bs.length).map (mx bs m)
theorem mix_len (bs : List Nat) (m : Nat) : (mix bs m).length = bs.length := by simp [mix]
theorem mix_at {bs : List Nat} {m i : Nat} (h : i < bs.length) : (mix bs m).getD i 0 = mx bs m i := by simp [mix, List.getD, h]
theorem mix_lt (bs : List Nat) (m : Nat) : ∀ b ∈ mix bs m, b < 256 := fun b hb => by
  simp only [mix, List.mem_map] at hb
  obtain ⟨i, _, rfl⟩ := hb
  unfold mx
  split
  · split <;> omega
  · omega
theorem mix_take {bs : List Nat} {m i : Nat} (h : i < bs.length) : (mix bs m).take (i + 1) = (mix bs m).take i ++ [mx bs m i] := by
  have hl : i < (mix bs m).length := by rw [mix_len]; exact h
  rw [List.take_add_one, List.getElem?_eq_getElem hl]
  simp [mix]
theorem mx_self {bs : List Nat} {m i : Nat} (h : ¬ i < m) : ((mx bs m i : Nat) : Int) = byt bs i := by rw [mx, if_neg h]; rfl
theorem mix_succ {bs : List Nat} {k : Nat} (h : k < bs.length) : mix bs (k + 1) = (mix bs k).set k (if byt bs k = 99 then 110 else 99) := by
  refine List.ext_getElem (by simp [mix]) fun i h1 h2 => ?_
  rw [List.getElem_set]
  by_cases e : k = i
  · subst e
    rw [if_pos rfl]
    simp [mix, mx]
  · rw [if_neg e]
    simp only [mix, List.getElem_map, List.getElem_range, mx]
    by_cases hi : i < k
    · rw [if_pos (by omega), if_pos hi]
    · rw [if_neg (by omega), if_neg hi]
theorem byteL_bL : ∀ bs : List Nat, byteL bs = bL (bs.map (· % 256))
  | [] => rfl
  | b :: l => by
    show (fN (b % 256) fun b => L.cons (.i .u8 (.ofNat b)) (byteL l)) = _
    rw [fN_eq, byteL_bL l]; rfl
theorem mix_zero (bs : List Nat) : mix bs 0 = bs.map (· % 256) := by
  refine List.ext_getElem (by simp [mix]) fun i h1 h2 => ?_
  have h3 : i < bs.length := by simpa using h2
  simp [mix, mx, List.getD, h3]
theorem bL_get : ∀ (xs : List Nat) (k : Nat), k < xs.length → (bL xs).get k = .i .u8 ((xs.getD k 0 : Nat) : Int)
  | [], k, h => by simp at h
  | b :: l, 0, h => rfl
  | b :: l, k + 1, h => by rw [bL, L.get, bL_get l k (by simpa using h)]; simp
theorem setB_le {el : TypeId} {xs : List Nat} {k z : Nat} (hk : k < xs.length) (hm : xs.length ≤ 1000) : BlkLe (blkL el (bL (xs.set k z))) ((blkL el (bL xs)).setL k (.cons (.i .u8 (z : Int)) .nil)) := by
  refine ⟨.inl rfl, by show el = _; exact (setL_size (blkL el (bL xs)) (.cons (.i .u8 (z : Int)) .nil) k).2.1.symm, by rw [(setL_size _ _ _).1, blkL_size, blkL_size, bL_len, bL_len, List.length_set]; exact Nat.le_refl _, fun j hj => .inr ?_⟩
  rw [blkL_size, bL_len, List.length_set] at hj
  rw [blkL_cell _ _ _ (by rw [bL_len, List.length_set]; exact hj), bL_get _ _ (by rw [List.length_set]; exact hj)]
  by_cases e : j = k
  · subst e
    rw [cell_setL_in _ _ _ _ (by simp [L.length, maxSize]; omega) (by unfold maxSize; omega) (by simp [L.allC, V.isC]) (Nat.le_refl _) (by simp [L.length])]
    simp [L.get, hj]
  · rw [cell_setL_out _ _ _ _ (by simp [L.length, maxSize]; omega) (by unfold maxSize; omega) (by simp [L.length]; omega), blkL_cell _ _ _ (by rw [bL_len]; exact hj), bL_get _ _ hj]
    have e' : ¬ k = j := fun h => e h.symm
    simp [e']
noncomputable def s2bV (el : TypeId) (v : V) (h : Hp) (n : Nat) : Res := onStr v (fun l => if l.length ≤ 1099511627776 then newB (blkL el (byteL l)) (fun p => .sl p 0 1 l.length none) h n else .no) .no
theorem O_s2b (el : TypeId) (x : X) (F : FF) (e : Tr) (lim : Nat) (h : Hp) (n : Nat) : (O.s2b el x).ev F e lim h n = s2bV el (evX x e) h n := by
  show evS2b el x e lim h n = _
  unfold evS2b s2bV
  congr 1
  funext l
  rw [fN_eq]
  by_cases hl : l.length ≤ 1099511627776
  · rw [if_pos hl, show Nat.ble l.length 1099511627776 = true from Nat.ble_eq.mpr hl, blkL, byteL_len]
  · rw [if_neg hl, show Nat.ble l.length 1099511627776 = false from Bool.eq_false_iff.mpr fun hx => hl (Nat.ble_eq.mp hx)]
theorem s2bV_s (el : TypeId) (l : List Nat) (h : Hp) (n : Nat) : s2bV el (.s l) h n = if l.length ≤ 1099511627776 then newB (blkL el (bL (mix l 0))) (fun p => .sl p 0 1 l.length none) h n else .no := by
  rw [mix_zero, ← byteL_bL]; rfl

/-! Exchange. -/
noncomputable def tuS' (s : List Nat) (e : Int) : V := .tu (.cons (.s s) (.cons (I e) .nil))
theorem tuS'_ok (s : List Nat) (e : Int) : (tuS' s e).pur = true := by simp [tuS', V.pur, L.pur, I_pur]
def exS (bs : List Nat) (b : Int) : List Nat := if lkE bs b = 0 then mix bs (lck bs b + 1).toNat else []
theorem lkE_0 {bs : List Nat} {b : Int} (h : lkE bs b = 0) : chkB bs b = 0 ∧ 0 ≤ lck bs b ∧ lck bs b < bs.length ∧ bs.length ≤ 16 ∧ okTo bs bs.length ∧ lkV bs b = lck bs b := by
  unfold lkE at h
  by_cases h0 : chkB bs b = 0
  · rw [if_pos h0] at h
    by_cases h1 : lck bs b < 0
    · rw [if_pos h1] at h; omega
    · have hr := lck_rng bs b
      refine ⟨h0, by omega, by omega, (chkB_0 h0).1, ?_, by rw [lkV, if_pos h0, if_neg h1]⟩
      have hs : chkS bs = 0 := by
        by_cases hs : chkS bs = 0
        · exact hs
        · rw [chkB_bad b hs] at h0; exact absurd h0 hs
      unfold chkS at hs
      by_cases hl : 16 < bs.length
      · rw [if_pos hl] at hs; omega
      · rw [if_neg hl] at hs
        by_cases ho : okTo bs bs.length
        · exact ho
        · rw [if_neg ho] at hs; omega
  · rw [if_neg h0] at h; exact absurd h h0
noncomputable def F35 : FF := ov 16 (spSI f16) (ov 68 (spU f68) F0)
theorem F35_ok : FOK Try.prog F35 := ov_ok ok16 (ov_ok ok68 (F0_ok _))
theorem F35_mono : F35.mono := ov_mono (spSI_mo _) (ov_mono (spU_mo _) F0_mono)
set_option maxHeartbeats 8000000 in
theorem run35 (bs : List Nat) (b : Int) (hb : bs.length < 9223372036854775808) : JQ Try.prog drops Try.f35.ntmps F35 q35 256 (Kend res35 (Good 0 (.v (tuS' (exS bs b) (lkE bs b))))) (bind (.cons (.s bs) (.cons (I b) .nil)) 0 .lf) .lf 256 := by
  have hF := F35_ok
  have hM := F35_mono
  unfold q35
  (refine JQ.step follows hF hM ?_; simp (config := { maxSteps := 4000000 }) (disch := (omega)) only [go_sem, Nat.reduceLT, Nat.reduceEqDiff, reduceIte, Nat.reduceAdd, Nat.reduceSub, Nat.reduceLeDiff, Int.reduceEq, Int.reduceLT, Int.reduceLE, Int.reduceNeg, Int.reduceAdd, Int.reduceSub, Int.reduceToNat, Int.reduceMul, Nat.reduceMul])
  (refine JQ.step follows hF hM ?_; simp (config := { maxSteps := 4000000 }) (disch := (omega)) only [go_sem, Nat.reduceLT, Nat.reduceEqDiff, reduceIte, Nat.reduceAdd, Nat.reduceSub, Nat.reduceLeDiff, Int.reduceEq, Int.reduceLT, Int.reduceLE, Int.reduceNeg, Int.reduceAdd, Int.reduceSub, Int.reduceToNat, Int.reduceMul, Nat.reduceMul, F35, f16, tuI])
  by_cases h0 : lkE bs b = 0
  · obtain ⟨c0, l0, l1, c1, c2, c3⟩ := lkE_0 h0
    have hs : exS bs b = mix bs (lck bs b + 1).toNat := if_pos h0
    have hml := mix_len bs 0
    (refine JQ.step follows hF hM ?_; simp (config := { maxSteps := 4000000 }) (disch := (omega)) only [go_sem, Nat.reduceLT, Nat.reduceEqDiff, reduceIte, Nat.reduceAdd, Nat.reduceSub, Nat.reduceLeDiff, Int.reduceEq, Int.reduceLT, Int.reduceLE, Int.reduceNeg, Int.reduceAdd, Int.reduceSub, Int.reduceToNat, Int.reduceMul, Nat.reduceMul, eq_true h0])
    (refine JQ.step follows hF hM ?_; simp (config := { maxSteps := 4000000 }) (disch := (omega)) only [go_sem, Nat.reduceLT, Nat.reduceEqDiff, reduceIte, Nat.reduceAdd, Nat.reduceSub, Nat.reduceLeDiff, Int.reduceEq, Int.reduceLT, Int.reduceLE, Int.reduceNeg, Int.reduceAdd, Int.reduceSub, Int.reduceToNat, Int.reduceMul, Nat.reduceMul, O_s2b, s2bV_s])
    refine JQ.seq ?_
    (refine JQ.step follows hF hM ?_; simp (config := { maxSteps := 4000000 }) (disch := (omega)) only [go_sem, Nat.reduceLT, Nat.reduceEqDiff, reduceIte, Nat.reduceAdd, Nat.reduceSub, Nat.reduceLeDiff, Int.reduceEq, Int.reduceLT, Int.reduceLE, Int.reduceNeg, Int.reduceAdd, Int.reduceSub, Int.reduceToNat, Int.reduceMul, Nat.reduceMul, c3])
    refine JQ.block ?_
    refine JQ.loop (σ := Nat) (fun k => (k : Int) ≤ lck bs b + 1) (fun k => ((Tr.lf.set (.sl (tp 255) 0 1 bs.length none) (tp 8)).set (I (lck bs b + 1)) (tp 22)).set (I k) (tp 23)) (fun k => Hp.lf.put (some (blkL 5 (bL (mix bs k)))) (tp 255)) (fun _ => 257) (fun k => (lck bs b + 1 - k).toNat) 0 (by show ((0 : Nat) : Int) ≤ _; omega) (by ((repeat' (first | exact EnvLe.lf _ | refine EnvLe.set (by decide) ?_ ?_)) <;> first | exact EnvLe.lf _ | (simp (config := { maxSteps := 4000000 }) (disch := (omega)) only [go_sem, Nat.reduceLT, Nat.reduceEqDiff, reduceIte, Nat.reduceAdd, Nat.reduceSub, Nat.reduceLeDiff, Int.reduceEq, Int.reduceLT, Int.reduceLE, Int.reduceNeg, Int.reduceAdd, Int.reduceSub, Int.reduceToNat, Int.reduceMul, Nat.reduceMul, Int.natCast_add, Int.cast_ofNat_Int]; done) | (simp (config := { maxSteps := 4000000 }) (disch := (omega)) only [go_sem, Nat.reduceLT, Nat.reduceEqDiff, reduceIte, Nat.reduceAdd, Nat.reduceSub, Nat.reduceLeDiff, Int.reduceEq, Int.reduceLT, Int.reduceLE, Int.reduceNeg, Int.reduceAdd, Int.reduceSub, Int.reduceToNat, Int.reduceMul, Nat.reduceMul, Int.natCast_add, Int.cast_ofNat_Int] <;> first | rfl | (congr 1; omega)))) (HpLe.refl _) rfl ?_
    intro k hk
    unfold q35_l0
    have hlen := mix_len bs k
    by_cases hlt : (k : Int) < lck bs b + 1
    · have hkl : k < bs.length := by omega
      have hat : (((mix bs k).getD k 0 : Nat) : Int) = byt bs k := by rw [mix_at hkl, mx_self (by omega)]
      have hbg := bL_get (mix bs k) k (by omega)
      rw [hat] at hbg
      by_cases hc : byt bs k = 99
      · have hsc := mix_succ hkl
        rw [if_pos hc] at hsc
        (refine JQ.run follows hF hM ?_; simp (config := { maxSteps := 4000000 }) (disch := (omega)) only [go_sem, Nat.reduceLT, Nat.reduceEqDiff, reduceIte, Nat.reduceAdd, Nat.reduceSub, Nat.reduceLeDiff, Int.reduceEq, Int.reduceLT, Int.reduceLE, Int.reduceNeg, Int.reduceAdd, Int.reduceSub, Int.reduceToNat, Int.reduceMul, Nat.reduceMul, hlt, F35, spU_eq, f68, bL_len, hlen, hbg, hc])
        exact ⟨k + 1, by omega, by omega, by ((repeat' (first | exact EnvLe.lf _ | refine EnvLe.set (by decide) ?_ ?_)) <;> first | exact EnvLe.lf _ | (simp (config := { maxSteps := 4000000 }) (disch := (omega)) only [go_sem, Nat.reduceLT, Nat.reduceEqDiff, reduceIte, Nat.reduceAdd, Nat.reduceSub, Nat.reduceLeDiff, Int.reduceEq, Int.reduceLT, Int.reduceLE, Int.reduceNeg, Int.reduceAdd, Int.reduceSub, Int.reduceToNat, Int.reduceMul, Nat.reduceMul, Int.natCast_add, Int.cast_ofNat_Int]; done) | (simp (config := { maxSteps := 4000000 }) (disch := (omega)) only [go_sem, Nat.reduceLT, Nat.reduceEqDiff, reduceIte, Nat.reduceAdd, Nat.reduceSub, Nat.reduceLeDiff, Int.reduceEq, Int.reduceLT, Int.reduceLE, Int.reduceNeg, Int.reduceAdd, Int.reduceSub, Int.reduceToNat, Int.reduceMul, Nat.reduceMul, Int.natCast_add, Int.cast_ofNat_Int] <;> first | rfl | (congr 1; omega))), by rw [hsc]; exact HpLe.put ⟨_, hget_same _ _ _, setB_le (by omega) (by omega)⟩ (HpLe.lf _)⟩
      · have hsc := mix_succ hkl
        rw [if_neg hc] at hsc
        (refine JQ.run follows hF hM ?_; simp (config := { maxSteps := 4000000 }) (disch := (omega)) only [go_sem, Nat.reduceLT, Nat.reduceEqDiff, reduceIte, Nat.reduceAdd, Nat.reduceSub, Nat.reduceLeDiff, Int.reduceEq, Int.reduceLT, Int.reduceLE, Int.reduceNeg, Int.reduceAdd, Int.reduceSub, Int.reduceToNat, Int.reduceMul, Nat.reduceMul, hlt, F35, spU_eq, f68, bL_len, hlen, hbg, hc])
        exact ⟨k + 1, by omega, by omega, by ((repeat' (first | exact EnvLe.lf _ | refine EnvLe.set (by decide) ?_ ?_)) <;> first | exact EnvLe.lf _ | (simp (config := { maxSteps := 4000000 }) (disch := (omega)) only [go_sem, Nat.reduceLT, Nat.reduceEqDiff, reduceIte, Nat.reduceAdd, Nat.reduceSub, Nat.reduceLeDiff, Int.reduceEq, Int.reduceLT, Int.reduceLE, Int.reduceNeg, Int.reduceAdd, Int.reduceSub, Int.reduceToNat, Int.reduceMul, Nat.reduceMul, Int.natCast_add, Int.cast_ofNat_Int]; done) | (simp (config := { maxSteps := 4000000 }) (disch := (omega)) only [go_sem, Nat.reduceLT, Nat.reduceEqDiff, reduceIte, Nat.reduceAdd, Nat.reduceSub, Nat.reduceLeDiff, Int.reduceEq, Int.reduceLT, Int.reduceLE, Int.reduceNeg, Int.reduceAdd, Int.reduceSub, Int.reduceToNat, Int.reduceMul, Nat.reduceMul, Int.natCast_add, Int.cast_ofNat_Int] <;> first | rfl | (congr 1; omega))), by rw [hsc]; exact HpLe.put ⟨_, hget_same _ _ _, setB_le (by omega) (by omega)⟩ (HpLe.lf _)⟩
    · have hk' : (lck bs b + 1).toNat = k := by omega
      have hb2 : ∀ h n, b2sB (some (blkL 5 (bL (mix bs k)))) 0 1 bs.length h n = .ok (.s (mix bs k)) h n := fun h n => by
        have := b2sB_bL 5 (mix bs k) (mix_lt bs k) (by omega) h n
        rwa [hlen] at this
      rw [hs, hk', h0]
      (refine JQ.run follows hF hM ?_; simp (config := { maxSteps := 4000000 }) (disch := (omega)) only [go_sem, Nat.reduceLT, Nat.reduceEqDiff, reduceIte, Nat.reduceAdd, Nat.reduceSub, Nat.reduceLeDiff, Int.reduceEq, Int.reduceLT, Int.reduceLE, Int.reduceNeg, Int.reduceAdd, Int.reduceSub, Int.reduceToNat, Int.reduceMul, Nat.reduceMul, hlt])
      (refine JQ.run follows hF hM ?_; simp (config := { maxSteps := 4000000 }) (disch := (omega)) only [go_sem, Nat.reduceLT, Nat.reduceEqDiff, reduceIte, Nat.reduceAdd, Nat.reduceSub, Nat.reduceLeDiff, Int.reduceEq, Int.reduceLT, Int.reduceLE, Int.reduceNeg, Int.reduceAdd, Int.reduceSub, Int.reduceToNat, Int.reduceMul, Nat.reduceMul, O_b2s, b2sV_sl, hb2, res35, tuS'])
  · have hs : exS bs b = [] := if_neg h0
    (refine JQ.step follows hF hM ?_; simp (config := { maxSteps := 4000000 }) (disch := (omega)) only [go_sem, Nat.reduceLT, Nat.reduceEqDiff, reduceIte, Nat.reduceAdd, Nat.reduceSub, Nat.reduceLeDiff, Int.reduceEq, Int.reduceLT, Int.reduceLE, Int.reduceNeg, Int.reduceAdd, Int.reduceSub, Int.reduceToNat, Int.reduceMul, Nat.reduceMul, eq_false h0, res35, tuS', hs])
noncomputable def f35 (bs : List Nat) (b : Int) : Out := if bs.length < 9223372036854775808 then .v (tuS' (exS bs b) (lkE bs b)) else .no
theorem ok35 : SOK Try.prog 35 (spSI f35) := spSI_ok fun bs b lim h n v h' n' hr => by
  unfold f35 at hr
  split at hr
  · rename_i hb
    exact outC Try.func35 n35 b35 k35 r35 (Ins.none h) (by simp [L.length]) (ren_nil_rel (by simp only [purL_cons, purL_nil, pur_s, I_pur, Bool.and_self])) (.v (tuS' (exS bs b) (lkE bs b))) (tuS'_ok _ _) (run35 bs b hb) lim n hr
  · cases hr
end Go.Proofs.Ytkdbgkibifigiaa.Ev
