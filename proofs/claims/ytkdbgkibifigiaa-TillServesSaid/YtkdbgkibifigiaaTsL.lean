/- The till's reference: coins that go back. -/
import Derived.Test.YtkdbgkibifigiaaTsH
namespace Go.Proofs.Ytkdbgkibifigiaa.Ev
set_option linter.unusedVariables false
set_option linter.unusedSimpArgs false
set_option maxRecDepth 100000
open Go Go.Proofs
attribute [local go_sem] evC_seq evC_reg evC_cond evC_block evC_skip evC_exit evC_ret evR_cons evR_nil evR_gd guardB_tt guardB_ff guardB_tf guardB_ft guardB_none bindR_ok bindR_okn rgRs_ok seqR_nor seqR_ext seqR_ret condR_true condR_false blockR_nor blockR_ext blockR_ret evX_t evX_c evXL_nil evXL_cons O_mv O_bin O_pick O_eqb O_not O_ext O_call O_conv O_slen O_six O_sbi pv_I pv_i pv_b pv_s pv_ns pv_sl pv_p pv_tu pv_ag bin_lss bin_leq bin_gtr bin_geq bin_eql bin_neq bin8_eql bin8_neq bin_add bin_sub bin_mul get_st get_lf bind_nil bind_cons if_true if_false Got_nor Got_ext Got_ret Kseq Kblk Klp Kend onStr_s onB_b onT_tu onI_I onN_I onK_I eqb_b not_b nthL_0 nthL_1 nthL_2 known_nil known_cons I_known known_b known_s evRVs_nil evRVs_cons evRes_1 evRes_2 evRV_tmp Bool.and_true Bool.true_and Bool.and_self Bool.not_true Bool.not_false decide_true decide_false Int.toNat_natCast true_and and_true big hget_same hget_ne newB_n onP_p onS_sl onS_ns O_fad O_alloc_if O_ixs O_len O_ld O_st O_box boxB_if ldB_if ldB_agif stB_if toL_I toL_i toL_b toL_s toL_sl toL_ns toL_ag allC_nil allC_cons isC_i isC_b isC_s isC_sl isC_ns I_isC Llen_nil Llen_cons Lget_0 Lget_1 Lget_2 Lget_3 blkL_size cell_blkL_if getL_blkL_if getL_setL_if setL_sz evRV_cell' rvB_agif rvB_if evPL_cons bldK_if evPL_nil O_build O_part evBuild_ok okL_some onA_ag partV_1 evPart_eq updS_nil updS_cons upd_0 upd_1 upd_2 upd_3 ge_iff_le if_pos and_self Nat.le_refl known_ag known_sl known_ns known_i ov_at spS_eq spSI_eq spSII_eq spI_eq spII_eq spIII_eq spIIII_eq res_v res_sl res_slE Good I_pur pur_b pur_s pur_i pur_ns pur_ag pur_tu purL_nil purL_cons evDr_eq evDs_nil evDs_cons dsR_ok stepD_eq sdB_n sdB_g sdG_tt sdG_ff sdG_tf sdG_ft sdG_none runD_0 rdR_f rdR_t baseOf_pu baseOf_h baseU_nil baseA_nil baseA_0 baseR_nil baseR_0 baseR_00 appAll_nil appAll_0 restr_nil restr_cons setD_some setD_none evC_draw iL_len iL_get iL_allC iL_pur hp0_0 hp0_c rdL_ns rdL_sl List.length_cons List.length_nil O_mks mkB_if O_bsl bslB_if O_app apX_ns apX_sl apN_some apS_some blkL_el Nat.one_mul Nat.mul_one Nat.zero_add n_I onF_fn O_callv app_nil app_cons spLF_eq spL_eq spLL_eq onL_some onLL_ss onLL_ns onLL_sn onLL_nn rdB_blk Int.cast_ofNat_Int
/-! Lists of bools in a block. -/
noncomputable def boL : List Bool → L
  | [] => .nil
  | b :: l => .cons (.b b) (boL l)
theorem boL_len : ∀ xs : List Bool, (boL xs).length = xs.length
  | [] => rfl
  | b :: l => by rw [boL, Llen_cons, boL_len l]; rfl
theorem boL_allC : ∀ xs : List Bool, (boL xs).allC = true
  | [] => rfl
  | b :: l => by rw [boL, allC_cons, boL_allC l]; rfl
theorem boL_get : ∀ (xs : List Bool) (k : Nat), k < xs.length → (boL xs).get k = .b (xs.getD k false)
  | [], k, h => by simp at h
  | b :: l, 0, h => rfl
  | b :: l, k + 1, h => by rw [boL, L.get, boL_get l k (by simpa using h)]; simp
theorem setbo_le {el : TypeId} {xs : List Bool} {k : Nat} {z : Bool} (hk : k < xs.length) (hm : xs.length ≤ 1000) : BlkLe (blkL el (boL (xs.set k z))) ((blkL el (boL xs)).setL k (.cons (.b z) .nil)) := by
  refine ⟨.inl rfl, by show el = _; exact (setL_size (blkL el (boL xs)) (.cons (.b z) .nil) k).2.1.symm, by rw [(setL_size _ _ _).1, blkL_size, blkL_size, boL_len, boL_len, List.length_set]; exact Nat.le_refl _, fun j hj => .inr ?_⟩
  rw [blkL_size, boL_len, List.length_set] at hj
  rw [blkL_cell _ _ _ (by rw [boL_len, List.length_set]; exact hj), boL_get _ _ (by rw [List.length_set]; exact hj)]
  by_cases e : j = k
  · subst e
    rw [cell_setL_in _ _ _ _ (by simp [L.length, maxSize]; omega) (by unfold maxSize; omega) (by simp [L.allC, V.isC]) (Nat.le_refl _) (by simp [L.length])]
    simp [L.get, hj]
  · rw [cell_setL_out _ _ _ _ (by simp [L.length, maxSize]; omega) (by unfold maxSize; omega) (by simp [L.length]; omega), blkL_cell _ _ _ (by rw [boL_len]; exact hj), boL_get _ _ hj]
    have e' : ¬ k = j := fun h => e h.symm
    simp [e']
theorem mkbo_le {el : TypeId} (n s : Nat) (hs : n ≤ s) (hm : s ≤ 1000) : BlkLe (blkL el (boL (List.replicate n false))) ⟨el, s, 1, .cons (.b false) .nil, .lf⟩ := by
  refine ⟨.inl rfl, rfl, by rw [blkL_size, boL_len]; simpa using hs, fun j hj => .inr ?_⟩
  rw [blkL_size, boL_len] at hj
  rw [blkL_cell _ _ _ (by rw [boL_len]; exact hj), boL_get _ _ hj]
  show _ = orZ .bad (nthL (j % 1) (.cons (.b false) .nil))
  rw [Nat.mod_one]
  simp [List.getD] at hj ⊢
  simp [hj]
  rfl
/-! Who is held, and what is taken. -/
theorem prS_mem (bs : List Nat) : ∀ k : Nat, ∀ x ∈ (prS bs k).1, ∃ j : Nat, j < k ∧ x = (j : Int) ∧ byt bs j = 99
  | 0, x, h => by simp [prS] at h
  | k + 1, x, h => by
    rw [prS] at h
    by_cases hc : byt bs k = 99
    · rw [if_pos hc] at h
      rcases List.mem_append.1 h with h | h
      · obtain ⟨j, h1, h2, h3⟩ := prS_mem bs k x h
        exact ⟨j, by omega, h2, h3⟩
      · simp at h; exact ⟨k, by omega, h, hc⟩
    · rw [if_neg hc] at h
      obtain ⟨j, h1, h2, h3⟩ := prS_mem bs k x ((List.dropLast_sublist _).subset h)
      exact ⟨j, by omega, h2, h3⟩
theorem prS_inc (bs : List Nat) : ∀ k : Nat, (prS bs k).1.Pairwise (· < ·)
  | 0 => List.Pairwise.nil
  | k + 1 => by
    have ih := prS_inc bs k
    rw [prS]
    by_cases hc : byt bs k = 99
    · rw [if_pos hc]
      refine List.pairwise_append.2 ⟨ih, List.pairwise_singleton _ _, fun x hx y hy => ?_⟩
      obtain ⟨j, h1, h2, h3⟩ := prS_mem bs k x hx
      simp at hy
      omega
    · rw [if_neg hc]
      exact ih.sublist (List.dropLast_sublist _)
def tkb (bs : List Nat) (i j : Nat) : Bool := decide (j < i) && (decide (byt bs j = 99) && !decide ((j : Int) ∈ (prS bs i).1))
def tk (bs : List Nat) (i : Nat) : List Bool := (List.range bs.length).map (tkb bs i)
theorem tk_len (bs : List Nat) (i : Nat) : (tk bs i).length = bs.length := by simp [tk]
theorem tk_at {bs : List Nat} {i j : Nat} (h : j < bs.length) : (tk bs i).getD j false = tkb bs i j := by simp [tk, List.getD, h]
theorem tk_0 (bs : List Nat) : tk bs 0 = List.replicate bs.length false := by
  refine List.ext_getElem (by simp [tk]) fun j h1 h2 => ?_
  simp [tk, tkb]
theorem tk_c {bs : List Nat} {k : Nat} (hc : byt bs k = 99) : tk bs (k + 1) = tk bs k := by
  refine List.ext_getElem (by simp [tk]) fun j h1 h2 => ?_
  simp only [tk, List.getElem_map, List.getElem_range, tkb]
  rw [prS, if_pos hc]
  by_cases e : j < k
  · have e1 : j < k + 1 := by omega
    have e2 : ((j : Int) ∈ (prS bs k).1 ++ [(k : Int)]) ↔ ((j : Int) ∈ (prS bs k).1) := by simp; omega
    simp only [e, e1, e2]
  · by_cases e1 : j < k + 1
    · obtain rfl : j = k := by omega
      simp
    · simp [e, e1]
theorem last_spec {hs : List Int} (h : 1 ≤ hs.length) : hs = hs.dropLast ++ [At hs (hs.length - 1)] := by
  rcases List.eq_nil_or_concat hs with rfl | ⟨dl, z, rfl⟩
  · simp at h
  · simp [At]
theorem tk_n {bs : List Nat} {k a : Nat} (hc : ¬ byt bs k = 99) (h1 : 1 ≤ (prS bs k).1.length) (ha : At (prS bs k).1 ((prS bs k).1.length - 1) = (a : Int)) : tk bs (k + 1) = (tk bs k).set a true := by
  have hl := last_spec h1
  rw [ha] at hl
  have hinc := prS_inc bs k
  have hmem : (a : Int) ∈ (prS bs k).1 := by rw [hl]; simp
  obtain ⟨a', h2, h3, h4⟩ := prS_mem bs k _ hmem
  obtain rfl : a = a' := by omega
  have hnd : (a : Int) ∉ (prS bs k).1.dropLast := fun hd => by
    rw [hl] at hinc
    have := (List.pairwise_append.1 hinc).2.2 _ hd _ (List.mem_singleton.2 rfl)
    omega
  refine List.ext_getElem (by simp [tk]) fun j g1 g2 => ?_
  rw [List.getElem_set]
  simp only [tk, List.getElem_map, List.getElem_range, tkb]
  rw [prS, if_neg hc]
  by_cases e : a = j
  · subst e
    rw [if_pos rfl]
    simp [h4, hnd]
    omega
  · rw [if_neg e]
    have e2 : ((j : Int) ∈ (prS bs k).1) ↔ ((j : Int) ∈ (prS bs k).1.dropLast) := by
      rw [hl]; simp; omega
    by_cases e1 : j < k
    · have e3 : j < k + 1 := by omega
      simp only [e1, e3, e2]
    · by_cases e3 : j < k + 1
      · obtain rfl : j = k := by omega
        simp [hc]
      · simp [e1, e3]
structure Sq where
  k : Nat
  pr : List Int
  pp : Nat
  nx : Nat
structure SQ (bs : List Nat) (s : Sq) : Prop where
  k1 : s.k ≤ bs.length
  st : s.pr = (prS bs s.k).2
  n1 : 257 ≤ s.nx
  n2 : s.nx ≤ 257 + 2 * s.k
  p1 : s.pr.length ≠ 0 → 256 ≤ s.pp ∧ s.pp + 1 < s.nx
noncomputable def e34 (bs : List Nat) (s : Sq) : Tr := (((Tr.lf.set (.s bs) (tp 0)).set (slP s.pp s.pr) (tp 5)).set (.sl (tp 255) 0 1 bs.length (some bs.length)) (tp 6)).set (I s.k) (tp 7)
noncomputable def h34 (bs : List Nat) (s : Sq) : Hp := pH s.pp s.pr (Hp.lf.put (some (blkL 4 (boL (tk bs s.k)))) (tp 255))
noncomputable def F34 : FF := ov 51 (spSI f51) F0
theorem F34_ok : FOK Try.prog F34 := ov_ok ok51 (F0_ok _)
theorem F34_mono : F34.mono := ov_mono (spSI_mo _) F0_mono
set_option maxHeartbeats 8000000 in
theorem run34 (bs : List Nat) (hb : bs.length < 9223372036854775808) : JQ Try.prog drops Try.f34.ntmps F34 q34 256 (Kend res34 (Good 0 (o33 bs))) (bind (.cons (.s bs) .nil) 0 .lf) .lf 256 := by
  have hF := F34_ok
  have hM := F34_mono
  unfold q34
  (refine JQ.step follows hF hM ?_; simp (config := { maxSteps := 4000000 }) (disch := (omega)) only [go_sem, Nat.reduceLT, Nat.reduceEqDiff, reduceIte, Nat.reduceAdd, Nat.reduceSub, Nat.reduceLeDiff, Int.reduceEq, Int.reduceLT, Int.reduceLE, Int.reduceNeg, Int.reduceAdd, Int.reduceSub, Int.reduceToNat, Int.reduceMul, Nat.reduceMul])
  (refine JQ.step follows hF hM ?_; simp (config := { maxSteps := 4000000 }) (disch := (omega)) only [go_sem, Nat.reduceLT, Nat.reduceEqDiff, reduceIte, Nat.reduceAdd, Nat.reduceSub, Nat.reduceLeDiff, Int.reduceEq, Int.reduceLT, Int.reduceLE, Int.reduceNeg, Int.reduceAdd, Int.reduceSub, Int.reduceToNat, Int.reduceMul, Nat.reduceMul, F34, f51])
  by_cases h0 : gdS bs 0 = 0
  · obtain ⟨c1, c2⟩ := gdS_z h0
    have hok := gdS_to h0
    have hlen := (chkB_0 c1).1
    (refine JQ.step follows hF hM ?_; simp (config := { maxSteps := 4000000 }) (disch := (omega)) only [go_sem, Nat.reduceLT, Nat.reduceEqDiff, reduceIte, Nat.reduceAdd, Nat.reduceSub, Nat.reduceLeDiff, Int.reduceEq, Int.reduceLT, Int.reduceLE, Int.reduceNeg, Int.reduceAdd, Int.reduceSub, Int.reduceToNat, Int.reduceMul, Nat.reduceMul, eq_true h0])
    (refine JQ.step follows hF hM ?_; simp (config := { maxSteps := 4000000 }) (disch := (omega)) only [go_sem, Nat.reduceLT, Nat.reduceEqDiff, reduceIte, Nat.reduceAdd, Nat.reduceSub, Nat.reduceLeDiff, Int.reduceEq, Int.reduceLT, Int.reduceLE, Int.reduceNeg, Int.reduceAdd, Int.reduceSub, Int.reduceToNat, Int.reduceMul, Nat.reduceMul])
    (refine JQ.step follows hF hM ?_; simp (config := { maxSteps := 4000000 }) (disch := (omega)) only [go_sem, Nat.reduceLT, Nat.reduceEqDiff, reduceIte, Nat.reduceAdd, Nat.reduceSub, Nat.reduceLeDiff, Int.reduceEq, Int.reduceLT, Int.reduceLE, Int.reduceNeg, Int.reduceAdd, Int.reduceSub, Int.reduceToNat, Int.reduceMul, Nat.reduceMul, small_len])
    refine JQ.seq ?_
    (refine JQ.step follows hF hM ?_; simp (config := { maxSteps := 4000000 }) (disch := (omega)) only [go_sem, Nat.reduceLT, Nat.reduceEqDiff, reduceIte, Nat.reduceAdd, Nat.reduceSub, Nat.reduceLeDiff, Int.reduceEq, Int.reduceLT, Int.reduceLE, Int.reduceNeg, Int.reduceAdd, Int.reduceSub, Int.reduceToNat, Int.reduceMul, Nat.reduceMul])
    refine JQ.block ?_
    refine JQ.loop (σ := Sq) (SQ bs) (e34 bs) (h34 bs) (fun s => s.nx) (fun s => bs.length - s.k) ⟨0, [], 0, 257⟩
      ⟨Nat.zero_le _, rfl, Nat.le_refl _, Nat.le_refl _, fun h => absurd rfl h⟩
      (by unfold e34; ((repeat' (first | exact EnvLe.lf _ | refine EnvLe.set (by decide) ?_ ?_)) <;> first | exact EnvLe.lf _ | (simp (config := { maxSteps := 4000000 }) (disch := (omega)) only [go_sem, Nat.reduceLT, Nat.reduceEqDiff, reduceIte, Nat.reduceAdd, Nat.reduceSub, Nat.reduceLeDiff, Int.reduceEq, Int.reduceLT, Int.reduceLE, Int.reduceNeg, Int.reduceAdd, Int.reduceSub, Int.reduceToNat, Int.reduceMul, Nat.reduceMul, slP, List.length_nil, Int.natCast_add, Int.cast_ofNat_Int]; done) | (simp (config := { maxSteps := 4000000 }) (disch := (omega)) only [go_sem, Nat.reduceLT, Nat.reduceEqDiff, reduceIte, Nat.reduceAdd, Nat.reduceSub, Nat.reduceLeDiff, Int.reduceEq, Int.reduceLT, Int.reduceLE, Int.reduceNeg, Int.reduceAdd, Int.reduceSub, Int.reduceToNat, Int.reduceMul, Nat.reduceMul, slP, List.length_nil, Int.natCast_add, Int.cast_ofNat_Int] <;> first | rfl | (congr 1; omega)))) (pH_le (fun h => absurd rfl h) (HpLe.put ⟨_, hget_same _ _ _, by rw [tk_0]; exact mkbo_le _ _ (by omega) (by omega)⟩ (HpLe.lf _))) rfl ?_
    rintro ⟨k, pr, pp, nx⟩ ⟨k1, st, n1, n2, p1⟩
    dsimp only at k1 st n1 n2 p1 ⊢
    unfold q34_l1 e34 h34
    dsimp only
    have hpe := prS_even bs k
    have hpl := prS_len c2 k k1
    rw [← st] at hpe
    have htl := tk_len bs k
    obtain ⟨H, hH⟩ : ∃ H, H = pH pp pr (Hp.lf.put (some (blkL 4 (boL (tk bs k)))) (tp 255)) := ⟨_, rfl⟩
    have gt : H.get (tp 255) = some (blkL 4 (boL (tk bs k))) := by
      rw [hH, pH_other (by omega) (fun hl => by have := p1 hl; omega)]; exact hget_same _ _ _
    have gp : pr.length ≠ 0 → H.get (tp pp) = some (blkL 59 (iL pr)) := fun hl => by rw [hH]; exact pH_same hl
    rw [← hH]
    by_cases hlt : k < bs.length
    · have hlt' : (k : Int) < bs.length := by omega
      by_cases hc : byt bs k = 99
      · have hs2 : (prS bs (k + 1)).2 = pr := by rw [prS, if_pos hc, st]
        have htk := tk_c hc
        (refine JQ.run follows hF hM ?_; simp (config := { maxSteps := 4000000 }) (disch := (omega)) only [go_sem, Nat.reduceLT, Nat.reduceEqDiff, reduceIte, Nat.reduceAdd, Nat.reduceSub, Nat.reduceLeDiff, Int.reduceEq, Int.reduceLT, Int.reduceLE, Int.reduceNeg, Int.reduceAdd, Int.reduceSub, Int.reduceToNat, Int.reduceMul, Nat.reduceMul, small_len, hlt', nthS_at hlt, hc])
        exact ⟨by omega, ⟨k + 1, pr, pp, nx⟩, ⟨by dsimp only; omega, hs2.symm, by dsimp only; omega, by dsimp only; omega, p1⟩, by dsimp only; omega, by dsimp only; ((repeat' (first | exact EnvLe.lf _ | refine EnvLe.set (by decide) ?_ ?_)) <;> first | exact EnvLe.lf _ | (simp (config := { maxSteps := 4000000 }) (disch := (omega)) only [go_sem, Nat.reduceLT, Nat.reduceEqDiff, reduceIte, Nat.reduceAdd, Nat.reduceSub, Nat.reduceLeDiff, Int.reduceEq, Int.reduceLT, Int.reduceLE, Int.reduceNeg, Int.reduceAdd, Int.reduceSub, Int.reduceToNat, Int.reduceMul, Nat.reduceMul, Int.natCast_add, Int.cast_ofNat_Int]; done) | (simp (config := { maxSteps := 4000000 }) (disch := (omega)) only [go_sem, Nat.reduceLT, Nat.reduceEqDiff, reduceIte, Nat.reduceAdd, Nat.reduceSub, Nat.reduceLeDiff, Int.reduceEq, Int.reduceLT, Int.reduceLE, Int.reduceNeg, Int.reduceAdd, Int.reduceSub, Int.reduceToNat, Int.reduceMul, Nat.reduceMul, Int.natCast_add, Int.cast_ofNat_Int] <;> first | rfl | (congr 1; omega))), by dsimp only; rw [htk, ← hH]; exact HpLe.refl _, rfl⟩
      · have hn : byt bs k = 110 := (hok k hlt).resolve_left hc
        have hm0 : 1 ≤ (prS bs k).1.length := by
          have h1 := c2 (k + 1) hlt
          rw [aft, stp, if_neg hc] at h1
          omega
        have hsp := last_spec hm0
        have hinc := prS_inc bs k
        obtain ⟨a, ha1, ha2, ha3⟩ := prS_mem bs k _ (show At (prS bs k).1 ((prS bs k).1.length - 1) ∈ (prS bs k).1 from by rw [hsp]; simp [At])
        have hamem : (a : Int) ∈ (prS bs k).1 := by rw [hsp, ← ha2]; simp
        have hmax : ∀ j : Nat, (j : Int) ∈ (prS bs k).1 → j ≤ a := fun j hj => by
          rw [hsp] at hj hinc
          rw [ha2] at hj hinc
          rcases List.mem_append.1 hj with h | h
          · have := (List.pairwise_append.1 hinc).2.2 _ h _ (List.mem_singleton.2 rfl)
            omega
          · simp at h; omega
        have htk := tk_n hc hm0 ha2
        have hs2 : (prS bs (k + 1)).2 = pr ++ [(a : Int), (k : Int)] := by rw [prS, if_neg hc, st, ha2]
        have hpl2 : pr.length ≤ 1000 := by omega
        obtain ⟨H2, hH2⟩ : ∃ H2, H2 = pH pp pr (Hp.lf.put (some (blkL 4 (boL (tk bs (k + 1))))) (tp 255)) := ⟨_, rfl⟩
        have gp2 : pr.length ≠ 0 → H2.get (tp pp) = some (blkL 59 (iL pr)) := fun hl => by rw [hH2]; exact pH_same hl
        have gt2 : H2.get (tp 255) = some (blkL 4 (boL (tk bs (k + 1)))) := by
          rw [hH2, pH_other (by omega) (fun hl => by have := p1 hl; omega)]; exact hget_same _ _ _
        have ap : ∀ n, apX 59 2 16 (slP pp pr) (.sl (tp (nx - 1)) 0 2 1 (some 1)) 256 (H2.put (some (blkL 59 (.cons (I a) (.cons (I k) .nil)))) (tp (nx - 1))) n = newB (apB2 pr a k) (fun p' => .sl p' 0 2 (pr.length / 2 + 1) none) (apK (H2.put (some (blkL 59 (.cons (I a) (.cons (I k) .nil)))) (tp (nx - 1))) pp pr) n := fun n => by
          rw [apX_P hpe.1 (by omega) (fun hl => by
            have := p1 hl
            exact ⟨by omega, by omega, by rw [put_other (by omega) (by omega) (by omega)]; exact gp2 hl⟩) (hget_same _ _ _)]
        (refine JQ.step follows hF hM ?_; simp (config := { maxSteps := 4000000 }) (disch := (omega)) only [go_sem, Nat.reduceLT, Nat.reduceEqDiff, reduceIte, Nat.reduceAdd, Nat.reduceSub, Nat.reduceLeDiff, Int.reduceEq, Int.reduceLT, Int.reduceLE, Int.reduceNeg, Int.reduceAdd, Int.reduceSub, Int.reduceToNat, Int.reduceMul, Nat.reduceMul, small_len, hlt'])
        try (refine ⟨by omega, ?_⟩)
        refine JQ.seq ?_
        refine JQ.block ?_
        (refine JQ.step follows hF hM ?_; simp (config := { maxSteps := 4000000 }) (disch := (omega)) only [go_sem, Nat.reduceLT, Nat.reduceEqDiff, reduceIte, Nat.reduceAdd, Nat.reduceSub, Nat.reduceLeDiff, Int.reduceEq, Int.reduceLT, Int.reduceLE, Int.reduceNeg, Int.reduceAdd, Int.reduceSub, Int.reduceToNat, Int.reduceMul, Nat.reduceMul, nthS_at hlt, eq_true hn])
        try (refine ⟨by omega, ?_⟩)
        refine JQ.cond (t := true) (by simp (config := { maxSteps := 4000000 }) (disch := (omega)) only [go_sem, Nat.reduceLT, Nat.reduceEqDiff, reduceIte, Nat.reduceAdd, Nat.reduceSub, Nat.reduceLeDiff, Int.reduceEq, Int.reduceLT, Int.reduceLE, Int.reduceNeg, Int.reduceAdd, Int.reduceSub, Int.reduceToNat, Int.reduceMul, Nat.reduceMul]) (fun _ => ?_) (fun h => by cases h)
        (refine JQ.step follows hF hM ?_; simp (config := { maxSteps := 4000000 }) (disch := (omega)) only [go_sem, Nat.reduceLT, Nat.reduceEqDiff, reduceIte, Nat.reduceAdd, Nat.reduceSub, Nat.reduceLeDiff, Int.reduceEq, Int.reduceLT, Int.reduceLE, Int.reduceNeg, Int.reduceAdd, Int.reduceSub, Int.reduceToNat, Int.reduceMul, Nat.reduceMul])
        try (refine ⟨by omega, ?_⟩)
        refine JQ.seq ?_
        refine JQ.block ?_
        refine JQ.loop (σ := Nat) (fun j => a ≤ j ∧ j < k) (fun j => (((((Tr.lf.set (.s bs) (tp 0)).set (slP pp pr) (tp 5)).set (.sl (tp 255) 0 1 bs.length (some bs.length)) (tp 6)).set (I k) (tp 7)).set (I j) (tp 8))) (fun _ => H) (fun _ => nx) (fun j => j) (k - 1) ⟨by omega, by omega⟩ (by ((repeat' (first | exact EnvLe.lf _ | refine EnvLe.set (by decide) ?_ ?_)) <;> first | exact EnvLe.lf _ | (simp (config := { maxSteps := 4000000 }) (disch := (omega)) only [go_sem, Nat.reduceLT, Nat.reduceEqDiff, reduceIte, Nat.reduceAdd, Nat.reduceSub, Nat.reduceLeDiff, Int.reduceEq, Int.reduceLT, Int.reduceLE, Int.reduceNeg, Int.reduceAdd, Int.reduceSub, Int.reduceToNat, Int.reduceMul, Nat.reduceMul, Int.natCast_add, Int.cast_ofNat_Int]; done) | (simp (config := { maxSteps := 4000000 }) (disch := (omega)) only [go_sem, Nat.reduceLT, Nat.reduceEqDiff, reduceIte, Nat.reduceAdd, Nat.reduceSub, Nat.reduceLeDiff, Int.reduceEq, Int.reduceLT, Int.reduceLE, Int.reduceNeg, Int.reduceAdd, Int.reduceSub, Int.reduceToNat, Int.reduceMul, Nat.reduceMul, Int.natCast_add, Int.cast_ofNat_Int] <;> first | rfl | (congr 1; omega)))) (HpLe.refl _) rfl ?_
        rintro j ⟨hj0, hj⟩
        unfold q34_l0
        have hjl : j < bs.length := by omega
        have hbg := boL_get (tk bs k) j (by omega)
        rw [tk_at hjl] at hbg
        have hbl : (boL (tk bs k)).length = bs.length := by rw [boL_len, htl]
        by_cases hjc : byt bs j = 99
        · have hj110 : ¬ byt bs j = 110 := by omega
          by_cases hjm : (j : Int) ∈ (prS bs k).1
          · have hja : j = a := by have := hmax j hjm; omega
            have hb2 : tkb bs k j = false := by simp [tkb, hjm]
            rw [hb2] at hbg
            have hle : BlkLe (blkL 4 (boL (tk bs (k + 1)))) ((blkL 4 (boL (tk bs k))).setL j (.cons (.b true) .nil)) := by
              rw [htk, ← hja]; exact setbo_le (by omega) (by omega)
            (refine JQ.run follows hF hM ?_; simp (config := { maxSteps := 4000000 }) (disch := (omega)) only [go_sem, Nat.reduceLT, Nat.reduceEqDiff, reduceIte, Nat.reduceAdd, Nat.reduceSub, Nat.reduceLeDiff, Int.reduceEq, Int.reduceLT, Int.reduceLE, Int.reduceNeg, Int.reduceAdd, Int.reduceSub, Int.reduceToNat, Int.reduceMul, Nat.reduceMul, nthS_at hjl, eq_false hj110, gt, hbg, hbl])
            try (refine ⟨by omega, ?_⟩)
            (refine JQ.step follows hF hM ?_; simp (config := { maxSteps := 4000000 }) (disch := (omega)) only [go_sem, Nat.reduceLT, Nat.reduceEqDiff, reduceIte, Nat.reduceAdd, Nat.reduceSub, Nat.reduceLeDiff, Int.reduceEq, Int.reduceLT, Int.reduceLE, Int.reduceNeg, Int.reduceAdd, Int.reduceSub, Int.reduceToNat, Int.reduceMul, Nat.reduceMul, gt, hbl])
            try (refine ⟨by omega, ?_⟩)
            refine JQ.weak (e0 := (((((Tr.lf.set (.s bs) (tp 0)).set (slP pp pr) (tp 5)).set (.sl (tp 255) 0 1 bs.length (some bs.length)) (tp 6)).set (I k) (tp 7)).set (I a) (tp 8))) (h0 := H2) (by ((repeat' (first | exact EnvLe.lf _ | refine EnvLe.set (by decide) ?_ ?_)) <;> first | exact EnvLe.lf _ | (simp (config := { maxSteps := 4000000 }) (disch := (omega)) only [go_sem, Nat.reduceLT, Nat.reduceEqDiff, reduceIte, Nat.reduceAdd, Nat.reduceSub, Nat.reduceLeDiff, Int.reduceEq, Int.reduceLT, Int.reduceLE, Int.reduceNeg, Int.reduceAdd, Int.reduceSub, Int.reduceToNat, Int.reduceMul, Nat.reduceMul, hja, Int.natCast_add, Int.cast_ofNat_Int]; done) | (simp (config := { maxSteps := 4000000 }) (disch := (omega)) only [go_sem, Nat.reduceLT, Nat.reduceEqDiff, reduceIte, Nat.reduceAdd, Nat.reduceSub, Nat.reduceLeDiff, Int.reduceEq, Int.reduceLT, Int.reduceLE, Int.reduceNeg, Int.reduceAdd, Int.reduceSub, Int.reduceToNat, Int.reduceMul, Nat.reduceMul, hja, Int.natCast_add, Int.cast_ofNat_Int] <;> first | rfl | (congr 1; omega)))) (by
              rw [hH2]
              exact pH_le (fun hl => ⟨_, by
                have := p1 hl
                rw [put_other (by omega) (by omega) (by omega)]; exact gp hl, BlkLe.refl _⟩) (HpLe.put ⟨_, hget_same _ _ _, hle⟩ (HpLe.lf _))) ?_
            (refine JQ.run follows hF hM ?_; simp (config := { maxSteps := 4000000 }) (disch := (omega)) only [go_sem, Nat.reduceLT, Nat.reduceEqDiff, reduceIte, Nat.reduceAdd, Nat.reduceSub, Nat.reduceLeDiff, Int.reduceEq, Int.reduceLT, Int.reduceLE, Int.reduceNeg, Int.reduceAdd, Int.reduceSub, Int.reduceToNat, Int.reduceMul, Nat.reduceMul, ap, Nat.add_sub_cancel])
            refine ⟨by omega, ?_⟩
            (refine JQ.run follows hF hM ?_; simp (config := { maxSteps := 4000000 }) (disch := (omega)) only [go_sem, Nat.reduceLT, Nat.reduceEqDiff, reduceIte, Nat.reduceAdd, Nat.reduceSub, Nat.reduceLeDiff, Int.reduceEq, Int.reduceLT, Int.reduceLE, Int.reduceNeg, Int.reduceAdd, Int.reduceSub, Int.reduceToNat, Int.reduceMul, Nat.reduceMul])
            refine ⟨by omega, ⟨k + 1, pr ++ [(a : Int), (k : Int)], nx, nx + 1 + 1⟩, ⟨by dsimp only; omega, hs2.symm, by dsimp only; omega, by dsimp only; omega, fun _ => by dsimp only; omega⟩, by dsimp only; omega, by dsimp only; ((repeat' (first | exact EnvLe.lf _ | refine EnvLe.set (by decide) ?_ ?_)) <;> first | exact EnvLe.lf _ | (simp (config := { maxSteps := 4000000 }) (disch := (omega)) only [go_sem, Nat.reduceLT, Nat.reduceEqDiff, reduceIte, Nat.reduceAdd, Nat.reduceSub, Nat.reduceLeDiff, Int.reduceEq, Int.reduceLT, Int.reduceLE, Int.reduceNeg, Int.reduceAdd, Int.reduceSub, Int.reduceToNat, Int.reduceMul, Nat.reduceMul, slP_app, Int.natCast_add, Int.cast_ofNat_Int]; done) | (simp (config := { maxSteps := 4000000 }) (disch := (omega)) only [go_sem, Nat.reduceLT, Nat.reduceEqDiff, reduceIte, Nat.reduceAdd, Nat.reduceSub, Nat.reduceLeDiff, Int.reduceEq, Int.reduceLT, Int.reduceLE, Int.reduceNeg, Int.reduceAdd, Int.reduceSub, Int.reduceToNat, Int.reduceMul, Nat.reduceMul, slP_app, Int.natCast_add, Int.cast_ofNat_Int] <;> first | rfl | (congr 1; omega))), ?_, rfl⟩
            dsimp only
            exact pH_le (fun _ => ⟨_, hget_same _ _ _, apB2_le hpl2⟩) (HpLe.put ⟨_, by
              rw [put_other (by omega) (by omega) (by omega), apK_other (by omega) (fun hl => by have := p1 hl; omega), put_other (by omega) (by omega) (by omega)]; exact gt2, BlkLe.refl _⟩ (HpLe.lf _))
          · have hja : a < j := by
              rcases Nat.lt_or_ge a j with h | h
              · exact h
              · obtain rfl : a = j := by omega
                exact absurd hamem hjm
            have hb2 : tkb bs k j = true := by simp [tkb, hjm, hjc, hj]
            rw [hb2] at hbg
            (refine JQ.run follows hF hM ?_; simp (config := { maxSteps := 4000000 }) (disch := (omega)) only [go_sem, Nat.reduceLT, Nat.reduceEqDiff, reduceIte, Nat.reduceAdd, Nat.reduceSub, Nat.reduceLeDiff, Int.reduceEq, Int.reduceLT, Int.reduceLE, Int.reduceNeg, Int.reduceAdd, Int.reduceSub, Int.reduceToNat, Int.reduceMul, Nat.reduceMul, nthS_at hjl, eq_false hj110, gt, hbg, hbl])
            try (refine ⟨by omega, ?_⟩)
            exact ⟨j - 1, ⟨by omega, by omega⟩, by omega, by ((repeat' (first | exact EnvLe.lf _ | refine EnvLe.set (by decide) ?_ ?_)) <;> first | exact EnvLe.lf _ | (simp (config := { maxSteps := 4000000 }) (disch := (omega)) only [go_sem, Nat.reduceLT, Nat.reduceEqDiff, reduceIte, Nat.reduceAdd, Nat.reduceSub, Nat.reduceLeDiff, Int.reduceEq, Int.reduceLT, Int.reduceLE, Int.reduceNeg, Int.reduceAdd, Int.reduceSub, Int.reduceToNat, Int.reduceMul, Nat.reduceMul, Int.natCast_add, Int.cast_ofNat_Int]; done) | (simp (config := { maxSteps := 4000000 }) (disch := (omega)) only [go_sem, Nat.reduceLT, Nat.reduceEqDiff, reduceIte, Nat.reduceAdd, Nat.reduceSub, Nat.reduceLeDiff, Int.reduceEq, Int.reduceLT, Int.reduceLE, Int.reduceNeg, Int.reduceAdd, Int.reduceSub, Int.reduceToNat, Int.reduceMul, Nat.reduceMul, Int.natCast_add, Int.cast_ofNat_Int] <;> first | rfl | (congr 1; omega))), HpLe.refl _⟩
        · have hj110 : byt bs j = 110 := (hok j hjl).resolve_left hjc
          have hja : a < j := by
            rcases Nat.lt_or_ge a j with h | h
            · exact h
            · obtain rfl : a = j := by omega
              exact absurd ha3 hjc
          (refine JQ.run follows hF hM ?_; simp (config := { maxSteps := 4000000 }) (disch := (omega)) only [go_sem, Nat.reduceLT, Nat.reduceEqDiff, reduceIte, Nat.reduceAdd, Nat.reduceSub, Nat.reduceLeDiff, Int.reduceEq, Int.reduceLT, Int.reduceLE, Int.reduceNeg, Int.reduceAdd, Int.reduceSub, Int.reduceToNat, Int.reduceMul, Nat.reduceMul, nthS_at hjl, eq_true hj110])
          try (refine ⟨by omega, ?_⟩)
          exact ⟨j - 1, ⟨by omega, by omega⟩, by omega, by ((repeat' (first | exact EnvLe.lf _ | refine EnvLe.set (by decide) ?_ ?_)) <;> first | exact EnvLe.lf _ | (simp (config := { maxSteps := 4000000 }) (disch := (omega)) only [go_sem, Nat.reduceLT, Nat.reduceEqDiff, reduceIte, Nat.reduceAdd, Nat.reduceSub, Nat.reduceLeDiff, Int.reduceEq, Int.reduceLT, Int.reduceLE, Int.reduceNeg, Int.reduceAdd, Int.reduceSub, Int.reduceToNat, Int.reduceMul, Nat.reduceMul, Int.natCast_add, Int.cast_ofNat_Int]; done) | (simp (config := { maxSteps := 4000000 }) (disch := (omega)) only [go_sem, Nat.reduceLT, Nat.reduceEqDiff, reduceIte, Nat.reduceAdd, Nat.reduceSub, Nat.reduceLeDiff, Int.reduceEq, Int.reduceLT, Int.reduceLE, Int.reduceNeg, Int.reduceAdd, Int.reduceSub, Int.reduceToNat, Int.reduceMul, Nat.reduceMul, Int.natCast_add, Int.cast_ofNat_Int] <;> first | rfl | (congr 1; omega))), HpLe.refl _⟩
    · have hk : k = bs.length := by omega
      subst hk
      have hlt' : ¬ ((bs.length : Nat) : Int) < bs.length := by omega
      (refine JQ.run follows hF hM ?_; simp (config := { maxSteps := 4000000 }) (disch := (omega)) only [go_sem, Nat.reduceLT, Nat.reduceEqDiff, reduceIte, Nat.reduceAdd, Nat.reduceSub, Nat.reduceLeDiff, Int.reduceEq, Int.reduceLT, Int.reduceLE, Int.reduceNeg, Int.reduceAdd, Int.reduceSub, Int.reduceToNat, Int.reduceMul, Nat.reduceMul, small_len, hlt'])
      refine ⟨by omega, ?_⟩
      by_cases hz : pr.length = 0
      · have ho : o33 bs = .v (tuE 0) := by rw [o33, if_pos h0, ← st, if_pos hz]
        have hv : slP pp pr = .ns := if_pos hz
        (refine JQ.run follows hF hM ?_; simp (config := { maxSteps := 4000000 }) (disch := (omega)) only [go_sem, Nat.reduceLT, Nat.reduceEqDiff, reduceIte, Nat.reduceAdd, Nat.reduceSub, Nat.reduceLeDiff, Int.reduceEq, Int.reduceLT, Int.reduceLE, Int.reduceNeg, Int.reduceAdd, Int.reduceSub, Int.reduceToNat, Int.reduceMul, Nat.reduceMul, res34, ho, hv, tuE])
        omega
      · have ho : o33 bs = .slE 59 2 (pr.length / 2) none (iL pr) (I 0) := by rw [o33, if_pos h0, ← st, if_neg hz]
        have hv : slP pp pr = .sl (tp pp) 0 2 (pr.length / 2) none := if_neg hz
        have := p1 hz
        (refine JQ.run follows hF hM ?_; simp (config := { maxSteps := 4000000 }) (disch := (omega)) only [go_sem, Nat.reduceLT, Nat.reduceEqDiff, reduceIte, Nat.reduceAdd, Nat.reduceSub, Nat.reduceLeDiff, Int.reduceEq, Int.reduceLT, Int.reduceLE, Int.reduceNeg, Int.reduceAdd, Int.reduceSub, Int.reduceToNat, Int.reduceMul, Nat.reduceMul, res34, ho, hv])
        exact ⟨by omega, by omega, goodIE (nb := 0) (gp hz) (by omega) (by omega) (by omega)⟩
  · have ho : o33 bs = .v (tuE (gdS bs 0)) := by rw [o33, if_neg h0]
    (refine JQ.step follows hF hM ?_; simp (config := { maxSteps := 4000000 }) (disch := (omega)) only [go_sem, Nat.reduceLT, Nat.reduceEqDiff, reduceIte, Nat.reduceAdd, Nat.reduceSub, Nat.reduceLeDiff, Int.reduceEq, Int.reduceLT, Int.reduceLE, Int.reduceNeg, Int.reduceAdd, Int.reduceSub, Int.reduceToNat, Int.reduceMul, Nat.reduceMul, eq_false h0, ho, res34, tuE])
theorem ok34 : SOK Try.prog 34 (spS f33) := spS_ok fun bs lim h n v h' n' hr => by
  unfold f33 at hr
  split at hr
  · rename_i hb
    exact outC Try.func34 n34 b34 k34 r34 (Ins.none h) (by simp [L.length]) (ren_nil_rel rfl) (o33 bs) (o33_ok bs) (run34 bs hb) lim n hr
  · cases hr
theorem strV_add' (l m : List Nat) : strV .add l m = if l.length + m.length ≤ 9223372036854775807 then .s (l ++ m) else .bad := by
  show (Bool.rec .bad (.s (l ++ m)) (Nat.ble (Nat.add l.length m.length) 9223372036854775807) : V) = _
  by_cases ha : l.length + m.length ≤ 9223372036854775807
  · rw [if_pos ha, show Nat.ble (Nat.add l.length m.length) 9223372036854775807 = true from Nat.ble_eq.mpr ha]
  · rw [if_neg ha, show Nat.ble (Nat.add l.length m.length) 9223372036854775807 = false from Bool.eq_false_iff.mpr fun hx => ha (Nat.ble_eq.mp hx)]
noncomputable def F36 : FF := ov 54 (spSI f47) (ov 55 (spSI f55) F0)
theorem F36_ok : FOK Try.prog F36 := ov_ok ok54 (ov_ok ok55 (F0_ok _))
theorem F36_mono : F36.mono := ov_mono (spSI_mo _) (ov_mono (spSI_mo _) F0_mono)
set_option maxHeartbeats 8000000 in
theorem run36 (bs : List Nat) (b : Int) (hb : bs.length < 9223372036854775808) : JQ Try.prog drops Try.f36.ntmps F36 q36 256 (Kend res36 (Good 0 (.v (tuS' (exS bs b) (lkE bs b))))) (bind (.cons (.s bs) (.cons (I b) .nil)) 0 .lf) .lf 256 := by
  have hF := F36_ok
  have hM := F36_mono
  unfold q36
  (refine JQ.step follows hF hM ?_; simp (config := { maxSteps := 4000000 }) (disch := (omega)) only [go_sem, Nat.reduceLT, Nat.reduceEqDiff, reduceIte, Nat.reduceAdd, Nat.reduceSub, Nat.reduceLeDiff, Int.reduceEq, Int.reduceLT, Int.reduceLE, Int.reduceNeg, Int.reduceAdd, Int.reduceSub, Int.reduceToNat, Int.reduceMul, Nat.reduceMul])
  (refine JQ.step follows hF hM ?_; simp (config := { maxSteps := 4000000 }) (disch := (omega)) only [go_sem, Nat.reduceLT, Nat.reduceEqDiff, reduceIte, Nat.reduceAdd, Nat.reduceSub, Nat.reduceLeDiff, Int.reduceEq, Int.reduceLT, Int.reduceLE, Int.reduceNeg, Int.reduceAdd, Int.reduceSub, Int.reduceToNat, Int.reduceMul, Nat.reduceMul, F36, f47])
  by_cases h0 : chkB bs b = 0
  · obtain ⟨c1, c2, c3⟩ := chkB_0 h0
    by_cases h1 : lck bs b < 0
    · have he : lkE bs b = 12 := by rw [lkE, if_pos h0, if_pos h1]
      have hs : exS bs b = [] := by rw [exS, if_neg (by rw [he]; decide)]
      (refine JQ.step follows hF hM ?_; simp (config := { maxSteps := 4000000 }) (disch := (omega)) only [go_sem, Nat.reduceLT, Nat.reduceEqDiff, reduceIte, Nat.reduceAdd, Nat.reduceSub, Nat.reduceLeDiff, Int.reduceEq, Int.reduceLT, Int.reduceLE, Int.reduceNeg, Int.reduceAdd, Int.reduceSub, Int.reduceToNat, Int.reduceMul, Nat.reduceMul, F36, f55, eq_true h0, h1])
      (refine JQ.step follows hF hM ?_; simp (config := { maxSteps := 4000000 }) (disch := (omega)) only [go_sem, Nat.reduceLT, Nat.reduceEqDiff, reduceIte, Nat.reduceAdd, Nat.reduceSub, Nat.reduceLeDiff, Int.reduceEq, Int.reduceLT, Int.reduceLE, Int.reduceNeg, Int.reduceAdd, Int.reduceSub, Int.reduceToNat, Int.reduceMul, Nat.reduceMul, res36, tuS', he, hs])
    · have he : lkE bs b = 0 := by rw [lkE, if_pos h0, if_neg h1]
      obtain ⟨_, l0, l1, d1, hok, _⟩ := lkE_0 he
      have hs : exS bs b = mix bs (lck bs b + 1).toNat := if_pos he
      (refine JQ.step follows hF hM ?_; simp (config := { maxSteps := 4000000 }) (disch := (omega)) only [go_sem, Nat.reduceLT, Nat.reduceEqDiff, reduceIte, Nat.reduceAdd, Nat.reduceSub, Nat.reduceLeDiff, Int.reduceEq, Int.reduceLT, Int.reduceLE, Int.reduceNeg, Int.reduceAdd, Int.reduceSub, Int.reduceToNat, Int.reduceMul, Nat.reduceMul, F36, f55, eq_true h0, h1])
      (refine JQ.step follows hF hM ?_; simp (config := { maxSteps := 4000000 }) (disch := (omega)) only [go_sem, Nat.reduceLT, Nat.reduceEqDiff, reduceIte, Nat.reduceAdd, Nat.reduceSub, Nat.reduceLeDiff, Int.reduceEq, Int.reduceLT, Int.reduceLE, Int.reduceNeg, Int.reduceAdd, Int.reduceSub, Int.reduceToNat, Int.reduceMul, Nat.reduceMul, h0])
      (refine JQ.step follows hF hM ?_; simp (config := { maxSteps := 4000000 }) (disch := (omega)) only [go_sem, Nat.reduceLT, Nat.reduceEqDiff, reduceIte, Nat.reduceAdd, Nat.reduceSub, Nat.reduceLeDiff, Int.reduceEq, Int.reduceLT, Int.reduceLE, Int.reduceNeg, Int.reduceAdd, Int.reduceSub, Int.reduceToNat, Int.reduceMul, Nat.reduceMul, F36, f55])
      (refine JQ.step follows hF hM ?_; simp (config := { maxSteps := 4000000 }) (disch := (omega)) only [go_sem, Nat.reduceLT, Nat.reduceEqDiff, reduceIte, Nat.reduceAdd, Nat.reduceSub, Nat.reduceLeDiff, Int.reduceEq, Int.reduceLT, Int.reduceLE, Int.reduceNeg, Int.reduceAdd, Int.reduceSub, Int.reduceToNat, Int.reduceMul, Nat.reduceMul])
      refine JQ.seq ?_
      (refine JQ.step follows hF hM ?_; simp (config := { maxSteps := 4000000 }) (disch := (omega)) only [go_sem, Nat.reduceLT, Nat.reduceEqDiff, reduceIte, Nat.reduceAdd, Nat.reduceSub, Nat.reduceLeDiff, Int.reduceEq, Int.reduceLT, Int.reduceLE, Int.reduceNeg, Int.reduceAdd, Int.reduceSub, Int.reduceToNat, Int.reduceMul, Nat.reduceMul])
      refine JQ.block ?_
      refine JQ.loop (σ := Nat) (fun i => i ≤ bs.length) (fun i => ((((Tr.lf.set (.s bs) (tp 0)).set (I (lck bs b)) (tp 7)).set (.s ((mix bs (lck bs b + 1).toNat).take i)) (tp 8)).set (I i) (tp 9))) (fun _ => .lf) (fun _ => 256) (fun i => bs.length - i) 0 (Nat.zero_le _) (by ((repeat' (first | exact EnvLe.lf _ | refine EnvLe.set (by decide) ?_ ?_)) <;> first | exact EnvLe.lf _ | (simp (config := { maxSteps := 4000000 }) (disch := (omega)) only [go_sem, Nat.reduceLT, Nat.reduceEqDiff, reduceIte, Nat.reduceAdd, Nat.reduceSub, Nat.reduceLeDiff, Int.reduceEq, Int.reduceLT, Int.reduceLE, Int.reduceNeg, Int.reduceAdd, Int.reduceSub, Int.reduceToNat, Int.reduceMul, Nat.reduceMul, List.take_zero, Int.natCast_add, Int.cast_ofNat_Int]; done) | (simp (config := { maxSteps := 4000000 }) (disch := (omega)) only [go_sem, Nat.reduceLT, Nat.reduceEqDiff, reduceIte, Nat.reduceAdd, Nat.reduceSub, Nat.reduceLeDiff, Int.reduceEq, Int.reduceLT, Int.reduceLE, Int.reduceNeg, Int.reduceAdd, Int.reduceSub, Int.reduceToNat, Int.reduceMul, Nat.reduceMul, List.take_zero, Int.natCast_add, Int.cast_ofNat_Int] <;> first | rfl | (congr 1; omega)))) (HpLe.refl _) rfl ?_
      intro i hi
      unfold q36_l0
      have htl : ((mix bs (lck bs b + 1).toNat).take i).length = i := by rw [List.length_take, mix_len]; omega
      by_cases hlt : i < bs.length
      · have hlt' : (i : Int) < bs.length := by omega
        have htk := mix_take (m := (lck bs b + 1).toNat) hlt
        by_cases hle : (i : Int) ≤ lck bs b
        · have hng : ¬ lck bs b < (i : Int) := by omega
          rcases hok i hlt with hc | hc
          · rw [mx, if_pos (by omega), if_pos hc] at htk
            (refine JQ.run follows hF hM ?_; simp (config := { maxSteps := 4000000 }) (disch := (omega)) only [go_sem, Nat.reduceLT, Nat.reduceEqDiff, reduceIte, Nat.reduceAdd, Nat.reduceSub, Nat.reduceLeDiff, Int.reduceEq, Int.reduceLT, Int.reduceLE, Int.reduceNeg, Int.reduceAdd, Int.reduceSub, Int.reduceToNat, Int.reduceMul, Nat.reduceMul, small_len, nthS_at hlt, hlt', hle, hng, hc, strV_add'])
            exact ⟨i + 1, by omega, by omega, by ((repeat' (first | exact EnvLe.lf _ | refine EnvLe.set (by decide) ?_ ?_)) <;> first | exact EnvLe.lf _ | (simp (config := { maxSteps := 4000000 }) (disch := (omega)) only [go_sem, Nat.reduceLT, Nat.reduceEqDiff, reduceIte, Nat.reduceAdd, Nat.reduceSub, Nat.reduceLeDiff, Int.reduceEq, Int.reduceLT, Int.reduceLE, Int.reduceNeg, Int.reduceAdd, Int.reduceSub, Int.reduceToNat, Int.reduceMul, Nat.reduceMul, htk, Int.natCast_add, Int.cast_ofNat_Int]; done) | (simp (config := { maxSteps := 4000000 }) (disch := (omega)) only [go_sem, Nat.reduceLT, Nat.reduceEqDiff, reduceIte, Nat.reduceAdd, Nat.reduceSub, Nat.reduceLeDiff, Int.reduceEq, Int.reduceLT, Int.reduceLE, Int.reduceNeg, Int.reduceAdd, Int.reduceSub, Int.reduceToNat, Int.reduceMul, Nat.reduceMul, htk, Int.natCast_add, Int.cast_ofNat_Int] <;> first | rfl | (congr 1; omega))), HpLe.refl _⟩
          · have hc' : ¬ byt bs i = 99 := by omega
            rw [mx, if_pos (by omega), if_neg hc'] at htk
            (refine JQ.run follows hF hM ?_; simp (config := { maxSteps := 4000000 }) (disch := (omega)) only [go_sem, Nat.reduceLT, Nat.reduceEqDiff, reduceIte, Nat.reduceAdd, Nat.reduceSub, Nat.reduceLeDiff, Int.reduceEq, Int.reduceLT, Int.reduceLE, Int.reduceNeg, Int.reduceAdd, Int.reduceSub, Int.reduceToNat, Int.reduceMul, Nat.reduceMul, small_len, nthS_at hlt, hlt', hle, hng, hc, strV_add'])
            exact ⟨i + 1, by omega, by omega, by ((repeat' (first | exact EnvLe.lf _ | refine EnvLe.set (by decide) ?_ ?_)) <;> first | exact EnvLe.lf _ | (simp (config := { maxSteps := 4000000 }) (disch := (omega)) only [go_sem, Nat.reduceLT, Nat.reduceEqDiff, reduceIte, Nat.reduceAdd, Nat.reduceSub, Nat.reduceLeDiff, Int.reduceEq, Int.reduceLT, Int.reduceLE, Int.reduceNeg, Int.reduceAdd, Int.reduceSub, Int.reduceToNat, Int.reduceMul, Nat.reduceMul, htk, Int.natCast_add, Int.cast_ofNat_Int]; done) | (simp (config := { maxSteps := 4000000 }) (disch := (omega)) only [go_sem, Nat.reduceLT, Nat.reduceEqDiff, reduceIte, Nat.reduceAdd, Nat.reduceSub, Nat.reduceLeDiff, Int.reduceEq, Int.reduceLT, Int.reduceLE, Int.reduceNeg, Int.reduceAdd, Int.reduceSub, Int.reduceToNat, Int.reduceMul, Nat.reduceMul, htk, Int.natCast_add, Int.cast_ofNat_Int] <;> first | rfl | (congr 1; omega))), HpLe.refl _⟩
        · have hgt : lck bs b < (i : Int) := by omega
          have hmx : mx bs (lck bs b + 1).toNat i = bs.getD i 0 % 256 := by rw [mx, if_neg (by omega)]
          rcases hok i hlt with hc | hc
          · have hc2 : bs.getD i 0 % 256 = 99 := by unfold byt at hc; omega
            rw [hmx, hc2] at htk
            (refine JQ.run follows hF hM ?_; simp (config := { maxSteps := 4000000 }) (disch := (omega)) only [go_sem, Nat.reduceLT, Nat.reduceEqDiff, reduceIte, Nat.reduceAdd, Nat.reduceSub, Nat.reduceLeDiff, Int.reduceEq, Int.reduceLT, Int.reduceLE, Int.reduceNeg, Int.reduceAdd, Int.reduceSub, Int.reduceToNat, Int.reduceMul, Nat.reduceMul, small_len, nthS_at hlt, hlt', hle, hgt, hc, strV_add'])
            exact ⟨i + 1, by omega, by omega, by ((repeat' (first | exact EnvLe.lf _ | refine EnvLe.set (by decide) ?_ ?_)) <;> first | exact EnvLe.lf _ | (simp (config := { maxSteps := 4000000 }) (disch := (omega)) only [go_sem, Nat.reduceLT, Nat.reduceEqDiff, reduceIte, Nat.reduceAdd, Nat.reduceSub, Nat.reduceLeDiff, Int.reduceEq, Int.reduceLT, Int.reduceLE, Int.reduceNeg, Int.reduceAdd, Int.reduceSub, Int.reduceToNat, Int.reduceMul, Nat.reduceMul, htk, Int.natCast_add, Int.cast_ofNat_Int]; done) | (simp (config := { maxSteps := 4000000 }) (disch := (omega)) only [go_sem, Nat.reduceLT, Nat.reduceEqDiff, reduceIte, Nat.reduceAdd, Nat.reduceSub, Nat.reduceLeDiff, Int.reduceEq, Int.reduceLT, Int.reduceLE, Int.reduceNeg, Int.reduceAdd, Int.reduceSub, Int.reduceToNat, Int.reduceMul, Nat.reduceMul, htk, Int.natCast_add, Int.cast_ofNat_Int] <;> first | rfl | (congr 1; omega))), HpLe.refl _⟩
          · have hc2 : bs.getD i 0 % 256 = 110 := by unfold byt at hc; omega
            rw [hmx, hc2] at htk
            (refine JQ.run follows hF hM ?_; simp (config := { maxSteps := 4000000 }) (disch := (omega)) only [go_sem, Nat.reduceLT, Nat.reduceEqDiff, reduceIte, Nat.reduceAdd, Nat.reduceSub, Nat.reduceLeDiff, Int.reduceEq, Int.reduceLT, Int.reduceLE, Int.reduceNeg, Int.reduceAdd, Int.reduceSub, Int.reduceToNat, Int.reduceMul, Nat.reduceMul, small_len, nthS_at hlt, hlt', hle, hgt, hc, strV_add'])
            exact ⟨i + 1, by omega, by omega, by ((repeat' (first | exact EnvLe.lf _ | refine EnvLe.set (by decide) ?_ ?_)) <;> first | exact EnvLe.lf _ | (simp (config := { maxSteps := 4000000 }) (disch := (omega)) only [go_sem, Nat.reduceLT, Nat.reduceEqDiff, reduceIte, Nat.reduceAdd, Nat.reduceSub, Nat.reduceLeDiff, Int.reduceEq, Int.reduceLT, Int.reduceLE, Int.reduceNeg, Int.reduceAdd, Int.reduceSub, Int.reduceToNat, Int.reduceMul, Nat.reduceMul, htk, Int.natCast_add, Int.cast_ofNat_Int]; done) | (simp (config := { maxSteps := 4000000 }) (disch := (omega)) only [go_sem, Nat.reduceLT, Nat.reduceEqDiff, reduceIte, Nat.reduceAdd, Nat.reduceSub, Nat.reduceLeDiff, Int.reduceEq, Int.reduceLT, Int.reduceLE, Int.reduceNeg, Int.reduceAdd, Int.reduceSub, Int.reduceToNat, Int.reduceMul, Nat.reduceMul, htk, Int.natCast_add, Int.cast_ofNat_Int] <;> first | rfl | (congr 1; omega))), HpLe.refl _⟩
      · have hlt' : ¬ (i : Int) < bs.length := by omega
        have hall : (mix bs (lck bs b + 1).toNat).take i = mix bs (lck bs b + 1).toNat := List.take_of_length_le (by rw [mix_len]; omega)
        (refine JQ.run follows hF hM ?_; simp (config := { maxSteps := 4000000 }) (disch := (omega)) only [go_sem, Nat.reduceLT, Nat.reduceEqDiff, reduceIte, Nat.reduceAdd, Nat.reduceSub, Nat.reduceLeDiff, Int.reduceEq, Int.reduceLT, Int.reduceLE, Int.reduceNeg, Int.reduceAdd, Int.reduceSub, Int.reduceToNat, Int.reduceMul, Nat.reduceMul, small_len, hlt'])
        (refine JQ.run follows hF hM ?_; simp (config := { maxSteps := 4000000 }) (disch := (omega)) only [go_sem, Nat.reduceLT, Nat.reduceEqDiff, reduceIte, Nat.reduceAdd, Nat.reduceSub, Nat.reduceLeDiff, Int.reduceEq, Int.reduceLT, Int.reduceLE, Int.reduceNeg, Int.reduceAdd, Int.reduceSub, Int.reduceToNat, Int.reduceMul, Nat.reduceMul, tuS', he, hs, hall, res36])
  · have he : lkE bs b = chkB bs b := by rw [lkE, if_neg h0]
    have hs : exS bs b = [] := by rw [exS, if_neg (by rw [he]; exact h0)]
    (refine JQ.step follows hF hM ?_; simp (config := { maxSteps := 4000000 }) (disch := (omega)) only [go_sem, Nat.reduceLT, Nat.reduceEqDiff, reduceIte, Nat.reduceAdd, Nat.reduceSub, Nat.reduceLeDiff, Int.reduceEq, Int.reduceLT, Int.reduceLE, Int.reduceNeg, Int.reduceAdd, Int.reduceSub, Int.reduceToNat, Int.reduceMul, Nat.reduceMul, F36, eq_false h0])
    (refine JQ.step follows hF hM ?_; simp (config := { maxSteps := 4000000 }) (disch := (omega)) only [go_sem, Nat.reduceLT, Nat.reduceEqDiff, reduceIte, Nat.reduceAdd, Nat.reduceSub, Nat.reduceLeDiff, Int.reduceEq, Int.reduceLT, Int.reduceLE, Int.reduceNeg, Int.reduceAdd, Int.reduceSub, Int.reduceToNat, Int.reduceMul, Nat.reduceMul, eq_false h0, res36, tuS', he, hs])
theorem ok36 : SOK Try.prog 36 (spSI f35) := spSI_ok fun bs b lim h n v h' n' hr => by
  unfold f35 at hr
  split at hr
  · rename_i hb
    exact outC Try.func36 n36 b36 k36 r36 (Ins.none h) (by simp [L.length]) (ren_nil_rel (by simp only [purL_cons, purL_nil, pur_s, I_pur, Bool.and_self])) (.v (tuS' (exS bs b) (lkE bs b))) (tuS'_ok _ _) (run36 bs b hb) lim n hr
  · cases hr
end Go.Proofs.Ytkdbgkibifigiaa.Ev
