/- The till: the program's order with a number; First and At. -/
import Derived.Test.YtnimeahebnfjoaaTcB
namespace Go.Proofs.Ytnimeahebnfjoaa.Ev
set_option linter.unusedVariables false
set_option linter.unusedSimpArgs false
set_option maxRecDepth 100000
open Go Go.Proofs
attribute [local go_sem] evC_seq evC_reg evC_cond evC_block evC_skip evC_exit evC_ret evR_cons evR_nil evR_gd guardB_tt guardB_ff guardB_tf guardB_ft guardB_none bindR_ok bindR_okn rgRs_ok seqR_nor seqR_ext seqR_ret condR_true condR_false blockR_nor blockR_ext blockR_ret evX_t evX_c evXL_nil evXL_cons O_mv O_bin O_pick O_eqb O_not O_ext O_call O_conv O_slen O_six O_sbi pv_I pv_i pv_b pv_s pv_ns pv_sl pv_p pv_tu pv_ag bin_lss bin_leq bin_gtr bin_geq bin_eql bin_neq bin8_eql bin8_neq bin_add bin_sub bin_mul get_st get_lf bind_nil bind_cons if_true if_false Got_nor Got_ext Got_ret Kseq Kblk Klp Kend onStr_s onB_b onT_tu onI_I onN_I onK_I eqb_b not_b nthL_0 nthL_1 nthL_2 known_nil known_cons I_known known_b known_s evRVs_nil evRVs_cons evRes_1 evRes_2 evRV_tmp Bool.and_true Bool.true_and Bool.and_self Bool.not_true Bool.not_false decide_true decide_false Int.toNat_natCast true_and and_true big hget_same hget_ne newB_n onP_p onS_sl onS_ns O_fad O_alloc_if O_ixs O_len O_ld O_st O_box boxB_if ldB_if ldB_agif stB_if toL_I toL_i toL_b toL_s toL_sl toL_ns toL_ag allC_nil allC_cons isC_i isC_b isC_s isC_sl isC_ns I_isC Llen_nil Llen_cons Lget_0 Lget_1 Lget_2 Lget_3 blkL_size cell_blkL_if getL_blkL_if getL_setL_if setL_sz evRV_cell' rvB_agif rvB_if evPL_cons bldK_if evPL_nil O_build O_part evBuild_ok okL_some onA_ag partV_1 evPart_eq updS_nil updS_cons upd_0 upd_1 upd_2 upd_3 ge_iff_le if_pos and_self Nat.le_refl known_ag known_sl known_ns known_i ov_at spS_eq spSI_eq spSII_eq spI_eq spII_eq spIII_eq spIIII_eq res_v res_sl res_slE Good I_pur pur_b pur_s pur_i pur_ns pur_ag pur_tu purL_nil purL_cons evDr_eq evDs_nil evDs_cons dsR_ok stepD_eq sdB_n sdB_g sdG_tt sdG_ff sdG_tf sdG_ft sdG_none runD_0 rdR_f rdR_t baseOf_pu baseOf_h baseU_nil baseA_nil baseA_0 baseR_nil baseR_0 baseR_00 appAll_nil appAll_0 restr_nil restr_cons setD_some setD_none evC_draw iL_len iL_get iL_allC iL_pur hp0_0 hp0_c rdL_ns rdL_sl List.length_cons List.length_nil O_mks mkB_if O_bsl bslB_if O_app apX_ns apX_sl apN_some apS_some blkL_el Nat.one_mul Nat.mul_one Nat.zero_add n_I onF_fn O_callv app_nil app_cons spLF_eq spL_eq spLL_eq onL_some onLL_ss onLL_ns onLL_sn onLL_nn rdB_blk Int.cast_ofNat_Int

noncomputable def spAI (f : Int → Int → Int → Int → Out) (args : L) (_ : Nat) (h : Hp) (n : Nat) : Res := match args with
  | .cons (.ag (.cons v (.cons u (.cons t .nil)))) (.cons w .nil) => (match asI v, asI u, asI t, asI w with | some z, some y, some x, some i => (f z y x i).res h n | _, _, _, _ => .no)
  | _ => .no
theorem spAI_eq (f : Int → Int → Int → Int → Out) (z y x i : Int) (lim : Nat) (h : Hp) (n : Nat) : spAI f (.cons (.ag (.cons (I z) (.cons (I y) (.cons (I x) .nil)))) (.cons (I i) .nil)) lim h n = (f z y x i).res h n := by simp only [spAI, asI_I]
theorem spAI_mo (f : Int → Int → Int → Int → Out) : SMo (spAI f) := fun args lim h n => by unfold spAI; split <;> (try split) <;> first | exact Out.res_ge _ _ _ | trivial
theorem spAI_ok {P : Program} {k : Nat} {f : Int → Int → Int → Int → Out} (hc : ∀ z y x i lim h n v h' n', (f z y x i).res h n = .ok v h' n' → CallsOK P k (.cons (ag3 z y x) (.cons (I i) .nil)) lim h n v h' n') : SOK P k (spAI f) := fun args lim h n v h' n' hr => by
  unfold spAI at hr
  split at hr
  · split at hr
    · rename_i hz hy hx hi
      exact callsArgs (fun g => rel_cons (rel_ag (rel_cons (fun _ => asI_rel hz) (rel_cons (fun _ => asI_rel hy) (rel_cons (fun _ => asI_rel hx) fun _ h => h)))) (rel_cons (fun _ => asI_rel hi) fun _ h => h)) (hc _ _ _ _ _ _ _ _ _ _ hr)
    · cases hr
  · cases hr

noncomputable def bW (k : Nat) : V := if k = 0 then .ns else .sl (tp (255 + 2 * k)) 0 1 k none
noncomputable def bH (out : List Nat) : Hp := if out.length = 0 then Hp.lf else Hp.lf.put (some (blkL 5 (bL out))) (tp (255 + 2 * out.length))
def OI (total : List Nat) (s : List Nat × Int × Int × Int × Int) : Prop :=
  0 ≤ s.2.1 ∧ 0 ≤ s.2.2.1 ∧ s.2.1 + s.2.2.1 ≤ 16 ∧ 0 ≤ s.2.2.2.1 ∧ s.2.2.2.1 + s.2.1 ≤ 36 ∧ 0 ≤ s.2.2.2.2 ∧ s.2.2.2.2 < wF s.2.1 s.2.2.1 s.2.2.2.1 ∧ (s.1.length : Int) + (s.2.1 + s.2.2.1) ≤ 16 ∧ (∀ b ∈ s.1, b < 256) ∧ s.1 ++ ordS (s.2.1 + s.2.2.1).toNat s.2.1 s.2.2.1 s.2.2.2.1 s.2.2.2.2 = total
theorem OI_end {total out : List Nat} {c n t x : Int} (h : OI total (out, c, n, t, x)) (h0 : ¬ 0 < c + n) : out = total := by
  obtain ⟨i0, i1, i2, i3, i4, i5, i6, i7, i8, i9⟩ := h
  dsimp only at *
  rw [show (c + n).toNat = 0 by omega] at i9
  simpa [ordS] using i9
theorem OI_c {total out : List Nat} {c n t x : Int} (h : OI total (out, c, n, t, x)) (h0 : 0 < c + n) (hx : x < wF (c - 1) n (t + 1)) : 0 < c ∧ OI total (out ++ [99], c - 1, n, t + 1, x) := by
  obtain ⟨i0, i1, i2, i3, i4, i5, i6, i7, i8, i9⟩ := h
  dsimp only at *
  have hc := (coin_ok i0 i1 i2 i3 i4 h0 i5 i6).1 hx
  refine ⟨hc, by dsimp only; omega, i1, by dsimp only; omega, by dsimp only; omega, by dsimp only; omega, i5, hx, by dsimp only; rw [List.length_append]; simp; omega, ?_, ?_⟩
  · intro b hb
    rcases List.mem_append.1 hb with hb | hb
    · exact i8 b hb
    · simp at hb; omega
  · dsimp only
    rw [show (c + n).toNat = (c - 1 + n).toNat + 1 by omega, ordS, if_pos hx] at i9
    rw [← i9]; simp
theorem OI_n {total out : List Nat} {c n t x : Int} (h : OI total (out, c, n, t, x)) (h0 : 0 < c + n) (hx : ¬ x < wF (c - 1) n (t + 1)) : 0 < n ∧ 0 < t ∧ OI total (out ++ [110], c, n - 1, t - 1, x - wF (c - 1) n (t + 1)) := by
  obtain ⟨i0, i1, i2, i3, i4, i5, i6, i7, i8, i9⟩ := h
  dsimp only at *
  obtain ⟨hn, ht, hw⟩ := (coin_ok i0 i1 i2 i3 i4 h0 i5 i6).2 hx
  refine ⟨hn, ht, i0, by dsimp only; omega, by dsimp only; omega, by dsimp only; omega, by dsimp only; omega, by dsimp only; omega, hw, by dsimp only; rw [List.length_append]; simp; omega, ?_, ?_⟩
  · intro b hb
    rcases List.mem_append.1 hb with hb | hb
    · exact i8 b hb
    · simp at hb; omega
  · dsimp only
    rw [show (c + n).toNat = (c + (n - 1)).toNat + 1 by omega, ordS, if_neg hx] at i9
    rw [← i9]; simp
noncomputable def F60 : FF := ov 71 (spA f71) (ov 72 (spA f72) (ov 57 (spA f57) F0))
theorem F60_ok : FOK Try.prog F60 := ov_ok ok71 (ov_ok ok72 (ov_ok ok57 (F0_ok _)))
theorem F60_mono : F60.mono := ov_mono (spA_mo _) (ov_mono (spA_mo _) (ov_mono (spA_mo _) F0_mono))
set_option maxHeartbeats 16000000 in
theorem run60 (c0 n0 t0 x0 : Int) (hI : OI (ordS (c0 + n0).toNat c0 n0 t0 x0) ([], c0, n0, t0, x0)) : JQ Try.prog drops Try.f60.ntmps F60 q60 256 (Kend res60 (Good 0 (.v (.s (ordS (c0 + n0).toNat c0 n0 t0 x0))))) (bind (.cons (ag3 c0 n0 t0) (.cons (I x0) .nil)) 0 .lf) .lf 256 := by
  have hF := F60_ok
  have hM := F60_mono
  obtain ⟨total, htot⟩ : ∃ total, total = ordS (c0 + n0).toNat c0 n0 t0 x0 := ⟨_, rfl⟩
  rw [← htot] at hI ⊢
  unfold q60 ag3
  (refine JQ.step follows hF hM ?_; simp (config := { maxSteps := 4000000 }) (disch := (omega)) only [go_sem, Nat.reduceLT, Nat.reduceEqDiff, reduceIte, Nat.reduceAdd, Nat.reduceSub, Nat.reduceLeDiff, Int.reduceEq, Int.reduceLT, Int.reduceLE, Int.reduceNeg, Int.reduceAdd, Int.reduceSub, Int.reduceToNat, Int.reduceMul, Nat.reduceMul])
  (refine JQ.step follows hF hM ?_; simp (config := { maxSteps := 4000000 }) (disch := (omega)) only [go_sem, Nat.reduceLT, Nat.reduceEqDiff, reduceIte, Nat.reduceAdd, Nat.reduceSub, Nat.reduceLeDiff, Int.reduceEq, Int.reduceLT, Int.reduceLE, Int.reduceNeg, Int.reduceAdd, Int.reduceSub, Int.reduceToNat, Int.reduceMul, Nat.reduceMul])
  refine JQ.seq ?_
  refine JQ.block ?_
  refine JQ.loop (σ := List Nat × Int × Int × Int × Int) (OI total) (fun s => ((Tr.lf.set (I s.2.2.2.2) (tp 1)).set (.p (tp 255) 0) (tp 2)).set (bW s.1.length) (tp 5)) (fun s => (bH s.1).put (some (blkL 70 (l3 s.2.1 s.2.2.1 s.2.2.2.1))) (tp 255)) (fun s => 257 + 2 * s.1.length) (fun s => (s.2.1 + s.2.2.1).toNat) ([], c0, n0, t0, x0) hI (by ((repeat' (first | exact EnvLe.lf _ | refine EnvLe.set (by decide) ?_ ?_)) <;> first | exact EnvLe.lf _ | (simp (config := { maxSteps := 4000000 }) (disch := (omega)) only [go_sem, Nat.reduceLT, Nat.reduceEqDiff, reduceIte, Nat.reduceAdd, Nat.reduceSub, Nat.reduceLeDiff, Int.reduceEq, Int.reduceLT, Int.reduceLE, Int.reduceNeg, Int.reduceAdd, Int.reduceSub, Int.reduceToNat, Int.reduceMul, Nat.reduceMul, bW, Int.natCast_add, Int.cast_ofNat_Int]; done) | (simp (config := { maxSteps := 4000000 }) (disch := (omega)) only [go_sem, Nat.reduceLT, Nat.reduceEqDiff, reduceIte, Nat.reduceAdd, Nat.reduceSub, Nat.reduceLeDiff, Int.reduceEq, Int.reduceLT, Int.reduceLE, Int.reduceNeg, Int.reduceAdd, Int.reduceSub, Int.reduceToNat, Int.reduceMul, Nat.reduceMul, bW, Int.natCast_add, Int.cast_ofNat_Int] <;> first | rfl | (congr 1; omega)))) (HpLe.refl _) rfl ?_
  rintro ⟨out, c, n, t, x⟩ hO
  have hO' := hO
  obtain ⟨i0, i1, i2, i3, i4, i5, i6, i7, i8, i9⟩ := hO'
  dsimp only at i0 i1 i2 i3 i4 i5 i6 i7 i8 i9 ⊢
  unfold q60_l0
  by_cases hz : 0 < c + n
  · have hw := wF_rng (c := c - 1) (n := n) (b := t + 1) (by omega) i1 (by omega) (by omega)
    have hw2 := wF_rng (c := c) (n := n) (b := t) (by omega) i1 i2 i3
    obtain ⟨k, hk⟩ : ∃ k, k = out.length := ⟨_, rfl⟩
    rw [← hk] at i7
    rw [← hk]
    have e1 : 257 + 2 * k - 1 = 256 + 2 * k := by omega
    have e2 : 257 + 2 * k + 1 - 1 = 257 + 2 * k := by omega
    by_cases hx : x < wF (c - 1) n (t + 1)
    · obtain ⟨hc, hO2⟩ := OI_c hO hz hx
      have hl2 : (out ++ [99]).length = k + 1 := by rw [List.length_append, ← hk]; rfl
      have hv2 : bW (out ++ [99]).length = .sl (tp (257 + 2 * k)) 0 1 (k + 1) none := by rw [hl2, bW, if_neg (by omega), show 255 + 2 * (k + 1) = 257 + 2 * k by omega]
      have hh2 : bH (out ++ [99]) = Hp.lf.put (some (blkL 5 (bL (out ++ [99])))) (tp (257 + 2 * k)) := by rw [bH, hl2, if_neg (by omega), show 255 + 2 * (k + 1) = 257 + 2 * k by omega]
      by_cases hk0 : k = 0
      · have hv : bW k = .ns := if_pos hk0
        have hh : bH out = .lf := if_pos (by omega)
        have ho : out = [] := List.eq_nil_of_length_eq_zero (by omega)
        rw [hv, hh]
        (refine JQ.run follows hF hM ?_; simp (config := { maxSteps := 4000000 }) (disch := (omega)) only [go_sem, Nat.reduceLT, Nat.reduceEqDiff, reduceIte, Nat.reduceAdd, Nat.reduceSub, Nat.reduceLeDiff, Int.reduceEq, Int.reduceLT, Int.reduceLE, Int.reduceNeg, Int.reduceAdd, Int.reduceSub, Int.reduceToNat, Int.reduceMul, Nat.reduceMul, hz, F60, spA_eq, f71, f72, f57, hx, l3, ag3, e1, e2])
        try (refine ⟨by omega, ?_⟩)
        refine ⟨(out ++ [99], c - 1, n, t + 1, x), hO2, by dsimp only; omega, by dsimp only; ((repeat' (first | exact EnvLe.lf _ | refine EnvLe.set (by decide) ?_ ?_)) <;> first | exact EnvLe.lf _ | (simp (config := { maxSteps := 4000000 }) (disch := (omega)) only [go_sem, Nat.reduceLT, Nat.reduceEqDiff, reduceIte, Nat.reduceAdd, Nat.reduceSub, Nat.reduceLeDiff, Int.reduceEq, Int.reduceLT, Int.reduceLE, Int.reduceNeg, Int.reduceAdd, Int.reduceSub, Int.reduceToNat, Int.reduceMul, Nat.reduceMul, hv2, hk0, Int.natCast_add, Int.cast_ofNat_Int]; done) | (simp (config := { maxSteps := 4000000 }) (disch := (omega)) only [go_sem, Nat.reduceLT, Nat.reduceEqDiff, reduceIte, Nat.reduceAdd, Nat.reduceSub, Nat.reduceLeDiff, Int.reduceEq, Int.reduceLT, Int.reduceLE, Int.reduceNeg, Int.reduceAdd, Int.reduceSub, Int.reduceToNat, Int.reduceMul, Nat.reduceMul, hv2, hk0, Int.natCast_add, Int.cast_ofNat_Int] <;> first | rfl | (congr 1; omega))), ?_, by dsimp only; rw [hl2]; omega⟩
        dsimp only
        rw [hh2, ho]
        exact HpLe.put ⟨_, hget_same _ _ _, l3_all⟩ (HpLe.put ⟨blkL 5 (.cons (.i .u8 99) .nil), by simp (config := { maxSteps := 4000000 }) (disch := (omega)) only [go_sem, Nat.reduceLT, Nat.reduceEqDiff, reduceIte, Nat.reduceAdd, Nat.reduceSub, Nat.reduceLeDiff, Int.reduceEq, Int.reduceLT, Int.reduceLE, Int.reduceNeg, Int.reduceAdd, Int.reduceSub, Int.reduceToNat, Int.reduceMul, Nat.reduceMul], BlkLe.refl _⟩ (HpLe.lf _))
      · have hv : bW k = .sl (tp (255 + 2 * k)) 0 1 k none := if_neg hk0
        have hh : bH out = Hp.lf.put (some (blkL 5 (bL out))) (tp (255 + 2 * k)) := by rw [bH, if_neg (by omega), hk]
        have hbl : (bL out).length = k := by rw [bL_len, hk]
        have hg := grownB_le (el := 5) (xs := out) (z := 99) (by omega)
        rw [← hk] at hg
        rw [hv, hh]
        (refine JQ.run follows hF hM ?_; simp (config := { maxSteps := 4000000 }) (disch := (omega)) only [go_sem, Nat.reduceLT, Nat.reduceEqDiff, reduceIte, Nat.reduceAdd, Nat.reduceSub, Nat.reduceLeDiff, Int.reduceEq, Int.reduceLT, Int.reduceLE, Int.reduceNeg, Int.reduceAdd, Int.reduceSub, Int.reduceToNat, Int.reduceMul, Nat.reduceMul, hz, F60, spA_eq, f71, f72, f57, hx, l3, ag3, e1, e2, bL_allC])
        try (refine ⟨by omega, ?_⟩)
        refine ⟨(out ++ [99], c - 1, n, t + 1, x), hO2, by dsimp only; omega, by dsimp only; ((repeat' (first | exact EnvLe.lf _ | refine EnvLe.set (by decide) ?_ ?_)) <;> first | exact EnvLe.lf _ | (simp (config := { maxSteps := 4000000 }) (disch := (omega)) only [go_sem, Nat.reduceLT, Nat.reduceEqDiff, reduceIte, Nat.reduceAdd, Nat.reduceSub, Nat.reduceLeDiff, Int.reduceEq, Int.reduceLT, Int.reduceLE, Int.reduceNeg, Int.reduceAdd, Int.reduceSub, Int.reduceToNat, Int.reduceMul, Nat.reduceMul, hv2, Int.natCast_add, Int.cast_ofNat_Int]; done) | (simp (config := { maxSteps := 4000000 }) (disch := (omega)) only [go_sem, Nat.reduceLT, Nat.reduceEqDiff, reduceIte, Nat.reduceAdd, Nat.reduceSub, Nat.reduceLeDiff, Int.reduceEq, Int.reduceLT, Int.reduceLE, Int.reduceNeg, Int.reduceAdd, Int.reduceSub, Int.reduceToNat, Int.reduceMul, Nat.reduceMul, hv2, Int.natCast_add, Int.cast_ofNat_Int] <;> first | rfl | (congr 1; omega))), ?_, by dsimp only; rw [hl2]; omega⟩
        dsimp only
        rw [hh2]
        exact HpLe.put ⟨_, hget_same _ _ _, l3_all⟩ (HpLe.put ⟨_, by simp (config := { maxSteps := 4000000 }) (disch := (omega)) only [go_sem, Nat.reduceLT, Nat.reduceEqDiff, reduceIte, Nat.reduceAdd, Nat.reduceSub, Nat.reduceLeDiff, Int.reduceEq, Int.reduceLT, Int.reduceLE, Int.reduceNeg, Int.reduceAdd, Int.reduceSub, Int.reduceToNat, Int.reduceMul, Nat.reduceMul], hg⟩ (HpLe.lf _))
    · obtain ⟨hn, ht, hO2⟩ := OI_n hO hz hx
      have hl2 : (out ++ [110]).length = k + 1 := by rw [List.length_append, ← hk]; rfl
      have hv2 : bW (out ++ [110]).length = .sl (tp (257 + 2 * k)) 0 1 (k + 1) none := by rw [hl2, bW, if_neg (by omega), show 255 + 2 * (k + 1) = 257 + 2 * k by omega]
      have hh2 : bH (out ++ [110]) = Hp.lf.put (some (blkL 5 (bL (out ++ [110])))) (tp (257 + 2 * k)) := by rw [bH, hl2, if_neg (by omega), show 255 + 2 * (k + 1) = 257 + 2 * k by omega]
      by_cases hk0 : k = 0
      · have hv : bW k = .ns := if_pos hk0
        have hh : bH out = .lf := if_pos (by omega)
        have ho : out = [] := List.eq_nil_of_length_eq_zero (by omega)
        rw [hv, hh]
        (refine JQ.run follows hF hM ?_; simp (config := { maxSteps := 4000000 }) (disch := (omega)) only [go_sem, Nat.reduceLT, Nat.reduceEqDiff, reduceIte, Nat.reduceAdd, Nat.reduceSub, Nat.reduceLeDiff, Int.reduceEq, Int.reduceLT, Int.reduceLE, Int.reduceNeg, Int.reduceAdd, Int.reduceSub, Int.reduceToNat, Int.reduceMul, Nat.reduceMul, hz, F60, spA_eq, f71, f72, f57, hx, l3, ag3, e1, e2])
        try (refine ⟨by omega, ?_⟩)
        refine ⟨(out ++ [110], c, n - 1, t - 1, x - wF (c - 1) n (t + 1)), hO2, by dsimp only; omega, by dsimp only; ((repeat' (first | exact EnvLe.lf _ | refine EnvLe.set (by decide) ?_ ?_)) <;> first | exact EnvLe.lf _ | (simp (config := { maxSteps := 4000000 }) (disch := (omega)) only [go_sem, Nat.reduceLT, Nat.reduceEqDiff, reduceIte, Nat.reduceAdd, Nat.reduceSub, Nat.reduceLeDiff, Int.reduceEq, Int.reduceLT, Int.reduceLE, Int.reduceNeg, Int.reduceAdd, Int.reduceSub, Int.reduceToNat, Int.reduceMul, Nat.reduceMul, hv2, hk0, Int.natCast_add, Int.cast_ofNat_Int]; done) | (simp (config := { maxSteps := 4000000 }) (disch := (omega)) only [go_sem, Nat.reduceLT, Nat.reduceEqDiff, reduceIte, Nat.reduceAdd, Nat.reduceSub, Nat.reduceLeDiff, Int.reduceEq, Int.reduceLT, Int.reduceLE, Int.reduceNeg, Int.reduceAdd, Int.reduceSub, Int.reduceToNat, Int.reduceMul, Nat.reduceMul, hv2, hk0, Int.natCast_add, Int.cast_ofNat_Int] <;> first | rfl | (congr 1; omega))), ?_, by dsimp only; rw [hl2]; omega⟩
        dsimp only
        rw [hh2, ho]
        exact HpLe.put ⟨_, hget_same _ _ _, l3_all⟩ (HpLe.put ⟨blkL 5 (.cons (.i .u8 110) .nil), by simp (config := { maxSteps := 4000000 }) (disch := (omega)) only [go_sem, Nat.reduceLT, Nat.reduceEqDiff, reduceIte, Nat.reduceAdd, Nat.reduceSub, Nat.reduceLeDiff, Int.reduceEq, Int.reduceLT, Int.reduceLE, Int.reduceNeg, Int.reduceAdd, Int.reduceSub, Int.reduceToNat, Int.reduceMul, Nat.reduceMul], BlkLe.refl _⟩ (HpLe.lf _))
      · have hv : bW k = .sl (tp (255 + 2 * k)) 0 1 k none := if_neg hk0
        have hh : bH out = Hp.lf.put (some (blkL 5 (bL out))) (tp (255 + 2 * k)) := by rw [bH, if_neg (by omega), hk]
        have hbl : (bL out).length = k := by rw [bL_len, hk]
        have hg := grownB_le (el := 5) (xs := out) (z := 110) (by omega)
        rw [← hk] at hg
        rw [hv, hh]
        (refine JQ.run follows hF hM ?_; simp (config := { maxSteps := 4000000 }) (disch := (omega)) only [go_sem, Nat.reduceLT, Nat.reduceEqDiff, reduceIte, Nat.reduceAdd, Nat.reduceSub, Nat.reduceLeDiff, Int.reduceEq, Int.reduceLT, Int.reduceLE, Int.reduceNeg, Int.reduceAdd, Int.reduceSub, Int.reduceToNat, Int.reduceMul, Nat.reduceMul, hz, F60, spA_eq, f71, f72, f57, hx, l3, ag3, e1, e2, bL_allC])
        try (refine ⟨by omega, ?_⟩)
        refine ⟨(out ++ [110], c, n - 1, t - 1, x - wF (c - 1) n (t + 1)), hO2, by dsimp only; omega, by dsimp only; ((repeat' (first | exact EnvLe.lf _ | refine EnvLe.set (by decide) ?_ ?_)) <;> first | exact EnvLe.lf _ | (simp (config := { maxSteps := 4000000 }) (disch := (omega)) only [go_sem, Nat.reduceLT, Nat.reduceEqDiff, reduceIte, Nat.reduceAdd, Nat.reduceSub, Nat.reduceLeDiff, Int.reduceEq, Int.reduceLT, Int.reduceLE, Int.reduceNeg, Int.reduceAdd, Int.reduceSub, Int.reduceToNat, Int.reduceMul, Nat.reduceMul, hv2, Int.natCast_add, Int.cast_ofNat_Int]; done) | (simp (config := { maxSteps := 4000000 }) (disch := (omega)) only [go_sem, Nat.reduceLT, Nat.reduceEqDiff, reduceIte, Nat.reduceAdd, Nat.reduceSub, Nat.reduceLeDiff, Int.reduceEq, Int.reduceLT, Int.reduceLE, Int.reduceNeg, Int.reduceAdd, Int.reduceSub, Int.reduceToNat, Int.reduceMul, Nat.reduceMul, hv2, Int.natCast_add, Int.cast_ofNat_Int] <;> first | rfl | (congr 1; omega))), ?_, by dsimp only; rw [hl2]; omega⟩
        dsimp only
        rw [hh2]
        exact HpLe.put ⟨_, hget_same _ _ _, l3_all⟩ (HpLe.put ⟨_, by simp (config := { maxSteps := 4000000 }) (disch := (omega)) only [go_sem, Nat.reduceLT, Nat.reduceEqDiff, reduceIte, Nat.reduceAdd, Nat.reduceSub, Nat.reduceLeDiff, Int.reduceEq, Int.reduceLT, Int.reduceLE, Int.reduceNeg, Int.reduceAdd, Int.reduceSub, Int.reduceToNat, Int.reduceMul, Nat.reduceMul], hg⟩ (HpLe.lf _))
  · have hout := OI_end hO hz
    rw [← hout]
    by_cases hk0 : out.length = 0
    · have hv : bW 0 = .ns := if_pos rfl
      obtain rfl : out = [] := List.eq_nil_of_length_eq_zero hk0
      (refine JQ.run follows hF hM ?_; simp (config := { maxSteps := 4000000 }) (disch := (omega)) only [go_sem, Nat.reduceLT, Nat.reduceEqDiff, reduceIte, Nat.reduceAdd, Nat.reduceSub, Nat.reduceLeDiff, Int.reduceEq, Int.reduceLT, Int.reduceLE, Int.reduceNeg, Int.reduceAdd, Int.reduceSub, Int.reduceToNat, Int.reduceMul, Nat.reduceMul, hz, l3, hv, List.length_nil])
      try (refine ⟨by omega, ?_⟩)
      (refine JQ.run follows hF hM ?_; simp (config := { maxSteps := 4000000 }) (disch := (omega)) only [go_sem, Nat.reduceLT, Nat.reduceEqDiff, reduceIte, Nat.reduceAdd, Nat.reduceSub, Nat.reduceLeDiff, Int.reduceEq, Int.reduceLT, Int.reduceLE, Int.reduceNeg, Int.reduceAdd, Int.reduceSub, Int.reduceToNat, Int.reduceMul, Nat.reduceMul, O_b2s, b2sV_ns, res60])
    · have hv : bW out.length = .sl (tp (255 + 2 * out.length)) 0 1 out.length none := if_neg hk0
      have hh : bH out = Hp.lf.put (some (blkL 5 (bL out))) (tp (255 + 2 * out.length)) := if_neg hk0
      have hb2 : ∀ h n, b2sB (some (blkL 5 (bL out))) 0 1 out.length h n = .ok (.s out) h n := fun h n => b2sB_bL 5 out i8 (by omega) h n
      rw [hv, hh]
      (refine JQ.run follows hF hM ?_; simp (config := { maxSteps := 4000000 }) (disch := (omega)) only [go_sem, Nat.reduceLT, Nat.reduceEqDiff, reduceIte, Nat.reduceAdd, Nat.reduceSub, Nat.reduceLeDiff, Int.reduceEq, Int.reduceLT, Int.reduceLE, Int.reduceNeg, Int.reduceAdd, Int.reduceSub, Int.reduceToNat, Int.reduceMul, Nat.reduceMul, hz, l3])
      try (refine ⟨by omega, ?_⟩)
      (refine JQ.run follows hF hM ?_; simp (config := { maxSteps := 4000000 }) (disch := (omega)) only [go_sem, Nat.reduceLT, Nat.reduceEqDiff, reduceIte, Nat.reduceAdd, Nat.reduceSub, Nat.reduceLeDiff, Int.reduceEq, Int.reduceLT, Int.reduceLE, Int.reduceNeg, Int.reduceAdd, Int.reduceSub, Int.reduceToNat, Int.reduceMul, Nat.reduceMul, O_b2s, b2sV_sl, hb2, res60])
      omega
noncomputable def f60 (c n t x : Int) : Out := if 0 ≤ c ∧ 0 ≤ n ∧ c + n ≤ 16 ∧ 0 ≤ t ∧ t + c ≤ 36 ∧ 0 ≤ x ∧ x < wF c n t then .v (.s (ordS (c + n).toNat c n t x)) else .no
theorem ok60 : SOK Try.prog 60 (spAI f60) := spAI_ok fun c m b i lim h n v h' n' hr => by
  unfold f60 at hr
  split at hr
  · rename_i hb
    exact outC Try.func60 n60 b60 k60 r60 (Ins.none h) (by simp [L.length]) (ren_nil_rel (by simp only [purL_cons, purL_nil, ag3_pur, I_pur, Bool.and_self])) (.v (.s (ordS (c + m).toNat c m b i))) rfl (run60 c m b i ⟨hb.1, hb.2.1, hb.2.2.1, hb.2.2.2.1, hb.2.2.2.2.1, hb.2.2.2.2.2.1, hb.2.2.2.2.2.2, by simp; omega, by simp, rfl⟩) lim n hr
  · cases hr
end Go.Proofs.Ytnimeahebnfjoaa.Ev
