/- TillServes, run by itself. -/
import Derived.Test.YtkdbgkibifigiaaTsL
import Derived.Test.YtkdbgkibifigiaaTlH
import Derived.Test.YtkdbgkibifigiaaTkW
import Derived.Test.YtkdbgkibifigiaaEvLw
namespace Go.Proofs.Ytkdbgkibifigiaa.Ev
set_option linter.unusedVariables false
set_option linter.unusedSimpArgs false
set_option maxRecDepth 100000
open Go Go.Proofs Go.RowKit
attribute [local go_sem] evC_seq evC_reg evC_cond evC_block evC_skip evC_exit evC_ret evR_cons evR_nil evR_gd guardB_tt guardB_ff guardB_tf guardB_ft guardB_none bindR_ok bindR_okn rgRs_ok seqR_nor seqR_ext seqR_ret condR_true condR_false blockR_nor blockR_ext blockR_ret evX_t evX_c evXL_nil evXL_cons O_mv O_bin O_pick O_eqb O_not O_ext O_call O_conv O_slen O_six O_sbi pv_I pv_i pv_b pv_s pv_ns pv_sl pv_p pv_tu pv_ag bin_lss bin_leq bin_gtr bin_geq bin_eql bin_neq bin8_eql bin8_neq bin_add bin_sub bin_mul get_st get_lf bind_nil bind_cons if_true if_false Got_nor Got_ext Got_ret Kseq Kblk Klp Kend onStr_s onB_b onT_tu onI_I onN_I onK_I eqb_b not_b nthL_0 nthL_1 nthL_2 known_nil known_cons I_known known_b known_s evRVs_nil evRVs_cons evRes_1 evRes_2 evRV_tmp Bool.and_true Bool.true_and Bool.and_self Bool.not_true Bool.not_false decide_true decide_false Int.toNat_natCast true_and and_true big hget_same hget_ne newB_n onP_p onS_sl onS_ns O_fad O_alloc_if O_ixs O_len O_ld O_st O_box boxB_if ldB_if ldB_agif stB_if toL_I toL_i toL_b toL_s toL_sl toL_ns toL_ag allC_nil allC_cons isC_i isC_b isC_s isC_sl isC_ns I_isC Llen_nil Llen_cons Lget_0 Lget_1 Lget_2 Lget_3 blkL_size cell_blkL_if getL_blkL_if getL_setL_if setL_sz evRV_cell' rvB_agif rvB_if evPL_cons bldK_if evPL_nil O_build O_part evBuild_ok okL_some onA_ag partV_1 evPart_eq updS_nil updS_cons upd_0 upd_1 upd_2 upd_3 ge_iff_le if_pos and_self Nat.le_refl known_ag known_sl known_ns known_i ov_at spS_eq spSI_eq spSII_eq spI_eq spII_eq spIII_eq spIIII_eq res_v res_sl res_slE Good I_pur pur_b pur_s pur_i pur_ns pur_ag pur_tu purL_nil purL_cons evDr_eq evDs_nil evDs_cons dsR_ok stepD_eq sdB_n sdB_g sdG_tt sdG_ff sdG_tf sdG_ft sdG_none runD_0 rdR_f rdR_t baseOf_pu baseOf_h baseU_nil baseA_nil baseA_0 baseR_nil baseR_0 baseR_00 appAll_nil appAll_0 restr_nil restr_cons setD_some setD_none evC_draw iL_len iL_get iL_allC iL_pur hp0_0 hp0_c rdL_ns rdL_sl List.length_cons List.length_nil O_mks mkB_if O_bsl bslB_if O_app apX_ns apX_sl apN_some apS_some blkL_el Nat.one_mul Nat.mul_one Nat.zero_add n_I onF_fn O_callv app_nil app_cons spLF_eq spL_eq spLL_eq onL_some onLL_ss onLL_ns onLL_sn onLL_nn rdB_blk Int.cast_ofNat_Int
/-! Lists of pairs compared. -/
theorem O_eqa (neg : Bool) (sh : Sh) (x y : X) (F : FF) (e : Tr) (lim : Nat) (h : Hp) (n : Nat) : (O.eqa neg sh x y).ev F e lim h n = pv (negV neg (eqSh sh (evX x e) (evX y e))) h n := rfl
theorem ar2 (a b : Int) : negV true (eqSh (.ar 2 1 false .int) (.ag (.cons (I a) (.cons (I b) .nil))) (.ag (.cons (I a) (.cons (I b) .nil)))) = .b false := by
  show negV true (andV (binV .eql (I a) (I a)) (andV (binV .eql (I b) (I b)) (.b true))) = _
  rw [bin_eql, bin_eql]
  simp
  rfl
theorem getL2 (el : TypeId) (xs : List Int) (k : Nat) (h : k * 2 + 2 ≤ xs.length) : (blkL el (iL xs)).getL (k * 2) 2 = .cons (I (At xs (k * 2))) (.cons (I (At xs (k * 2 + 1))) .nil) := by
  refine L_ext (by rw [getL_length]; rfl) fun j hj => ?_
  rw [getL_length] at hj
  rw [getL_get _ _ _ _ hj, blkL_cell _ _ _ (by rw [iL_len]; omega), iL_get _ _ (by omega)]
  rcases (show j = 0 ∨ j = 1 by omega) with rfl | rfl
  · rfl
  · rfl
noncomputable def s39 (args : L) (_ : Nat) (h : Hp) (n : Nat) : Res := open Classical in match args with
  | .cons .ns (.cons .ns .nil) => .ok (.b true) h n
  | .cons (.sl p 0 2 l c) (.cons (.sl q 0 2 l' c') .nil) => if p ≠ q ∧ l = l' ∧ l < 1000 ∧ ∃ xs, rdB (h.get p) 0 (l * 2) = some xs ∧ rdB (h.get q) 0 (l * 2) = some xs then .ok (.b true) h n else .no
  | _ => .no
theorem s39_mo : SMo s39 := fun args lim h n => by
  unfold s39
  split
  · exact Nat.le_refl n
  · split
    · exact Nat.le_refl n
    · trivial
  · trivial
theorem s39_nn (lim : Nat) (h : Hp) (n : Nat) : s39 (.cons .ns (.cons .ns .nil)) lim h n = .ok (.b true) h n := rfl
theorem s39_sl {p q l : Nat} {c c' : Option Nat} {xs : List Int} {h : Hp} (hp : p < 4294967296) (hq : q < 4294967296) (hpq : p ≠ q) (h1 : h.get (tp p) = some (blkL 59 (iL xs))) (h2 : h.get (tp q) = some (blkL 59 (iL xs))) (hl : xs.length = l * 2) (hl' : l < 1000) (lim n : Nat) :
    s39 (.cons (.sl (tp p) 0 2 l c) (.cons (.sl (tp q) 0 2 l c') .nil)) lim h n = .ok (.b true) h n := by
  show (if _ then _ else _) = _
  rw [if_pos ⟨fun e => hpq (tp_inj hp hq e), rfl, hl', xs, by rw [h1, rdB_blk _ _ _ hl.symm], by rw [h2, rdB_blk _ _ _ hl.symm]⟩]
set_option maxHeartbeats 8000000 in
theorem run39 (el el' : TypeId) (xs : List Int) (l : Nat) (c c' : Option Nat) (hl : xs.length = l * 2) (hm : l < 1000) :
    JQ Try.prog drops Try.f39.ntmps F0 q39 258 (Kend res39 (Good 2 (.v (.b true)))) (bind (.cons (.sl (tp 255) 0 2 l c) (.cons (.sl (tp 256) 0 2 l c') .nil)) 0 .lf) (hp0 [blkL el (iL xs), blkL el' (iL xs)] 255) 258 := by
  have hF := F0_ok Try.prog
  have hM := F0_mono
  have ht : (((l : Nat) : Int) = (l : Nat)) = True := eq_true rfl
  unfold q39
  (refine JQ.step follows hF hM ?_; simp (config := { maxSteps := 4000000 }) (disch := (omega)) only [go_sem, Nat.reduceLT, Nat.reduceEqDiff, reduceIte, Nat.reduceAdd, Nat.reduceSub, Nat.reduceLeDiff, Int.reduceEq, Int.reduceLT, Int.reduceLE, Int.reduceNeg, Int.reduceAdd, Int.reduceSub, Int.reduceToNat, Int.reduceMul, Nat.reduceMul])
  (refine JQ.step follows hF hM ?_; simp (config := { maxSteps := 4000000 }) (disch := (omega)) only [go_sem, Nat.reduceLT, Nat.reduceEqDiff, reduceIte, Nat.reduceAdd, Nat.reduceSub, Nat.reduceLeDiff, Int.reduceEq, Int.reduceLT, Int.reduceLE, Int.reduceNeg, Int.reduceAdd, Int.reduceSub, Int.reduceToNat, Int.reduceMul, Nat.reduceMul, ht])
  refine JQ.seq ?_
  (refine JQ.step follows hF hM ?_; simp (config := { maxSteps := 4000000 }) (disch := (omega)) only [go_sem, Nat.reduceLT, Nat.reduceEqDiff, reduceIte, Nat.reduceAdd, Nat.reduceSub, Nat.reduceLeDiff, Int.reduceEq, Int.reduceLT, Int.reduceLE, Int.reduceNeg, Int.reduceAdd, Int.reduceSub, Int.reduceToNat, Int.reduceMul, Nat.reduceMul])
  refine JQ.block ?_
  refine JQ.loop (σ := Nat) (fun k => k ≤ l) (fun k => ((Tr.lf.set (.sl (tp 255) 0 2 l c) (tp 0)).set (.sl (tp 256) 0 2 l c') (tp 1)).set (I k) (tp 5)) (fun _ => hp0 [blkL el (iL xs), blkL el' (iL xs)] 255) (fun _ => 258) (fun k => l - k) 0 (Nat.zero_le _) (by ((repeat' (first | exact EnvLe.lf _ | refine EnvLe.set (by decide) ?_ ?_)) <;> first | exact EnvLe.lf _ | (simp (config := { maxSteps := 4000000 }) (disch := (omega)) only [go_sem, Nat.reduceLT, Nat.reduceEqDiff, reduceIte, Nat.reduceAdd, Nat.reduceSub, Nat.reduceLeDiff, Int.reduceEq, Int.reduceLT, Int.reduceLE, Int.reduceNeg, Int.reduceAdd, Int.reduceSub, Int.reduceToNat, Int.reduceMul, Nat.reduceMul, Int.natCast_add, Int.cast_ofNat_Int]; done) | (simp (config := { maxSteps := 4000000 }) (disch := (omega)) only [go_sem, Nat.reduceLT, Nat.reduceEqDiff, reduceIte, Nat.reduceAdd, Nat.reduceSub, Nat.reduceLeDiff, Int.reduceEq, Int.reduceLT, Int.reduceLE, Int.reduceNeg, Int.reduceAdd, Int.reduceSub, Int.reduceToNat, Int.reduceMul, Nat.reduceMul, Int.natCast_add, Int.cast_ofNat_Int] <;> first | rfl | (congr 1; omega)))) (by first | exact HpLe.refl _ | (simp only [hp0]; exact HpLe.refl _)) rfl ?_
  intro k hk
  unfold q39_l0
  by_cases hlt : k < l
  · have hlt' : (k : Int) < (l : Int) := by omega
    have hg1 := getL2 el xs k (by omega)
    have hg2 := getL2 el' xs k (by omega)
    (refine JQ.run follows hF hM ?_; simp (config := { maxSteps := 4000000 }) (disch := (omega)) only [go_sem, Nat.reduceLT, Nat.reduceEqDiff, reduceIte, Nat.reduceAdd, Nat.reduceSub, Nat.reduceLeDiff, Int.reduceEq, Int.reduceLT, Int.reduceLE, Int.reduceNeg, Int.reduceAdd, Int.reduceSub, Int.reduceToNat, Int.reduceMul, Nat.reduceMul, hlt', hg1, hg2, O_eqa, ar2])
    exact ⟨k + 1, by omega, by omega, by ((repeat' (first | exact EnvLe.lf _ | refine EnvLe.set (by decide) ?_ ?_)) <;> first | exact EnvLe.lf _ | (simp (config := { maxSteps := 4000000 }) (disch := (omega)) only [go_sem, Nat.reduceLT, Nat.reduceEqDiff, reduceIte, Nat.reduceAdd, Nat.reduceSub, Nat.reduceLeDiff, Int.reduceEq, Int.reduceLT, Int.reduceLE, Int.reduceNeg, Int.reduceAdd, Int.reduceSub, Int.reduceToNat, Int.reduceMul, Nat.reduceMul, Int.natCast_add, Int.cast_ofNat_Int]; done) | (simp (config := { maxSteps := 4000000 }) (disch := (omega)) only [go_sem, Nat.reduceLT, Nat.reduceEqDiff, reduceIte, Nat.reduceAdd, Nat.reduceSub, Nat.reduceLeDiff, Int.reduceEq, Int.reduceLT, Int.reduceLE, Int.reduceNeg, Int.reduceAdd, Int.reduceSub, Int.reduceToNat, Int.reduceMul, Nat.reduceMul, Int.natCast_add, Int.cast_ofNat_Int] <;> first | rfl | (congr 1; omega))), by first | exact HpLe.refl _ | (simp only [hp0]; exact HpLe.refl _)⟩
  · have hlt' : ¬ (k : Int) < (l : Int) := by omega
    (refine JQ.run follows hF hM ?_; simp (config := { maxSteps := 4000000 }) (disch := (omega)) only [go_sem, Nat.reduceLT, Nat.reduceEqDiff, reduceIte, Nat.reduceAdd, Nat.reduceSub, Nat.reduceLeDiff, Int.reduceEq, Int.reduceLT, Int.reduceLE, Int.reduceNeg, Int.reduceAdd, Int.reduceSub, Int.reduceToNat, Int.reduceMul, Nat.reduceMul, hlt'])
    (refine JQ.run follows hF hM ?_; simp (config := { maxSteps := 4000000 }) (disch := (omega)) only [go_sem, Nat.reduceLT, Nat.reduceEqDiff, reduceIte, Nat.reduceAdd, Nat.reduceSub, Nat.reduceLeDiff, Int.reduceEq, Int.reduceLT, Int.reduceLE, Int.reduceNeg, Int.reduceAdd, Int.reduceSub, Int.reduceToNat, Int.reduceMul, Nat.reduceMul, res39])
theorem run39n : JQ Try.prog drops Try.f39.ntmps F0 q39 256 (Kend res39 (Good 0 (.v (.b true)))) (bind (.cons .ns (.cons .ns .nil)) 0 .lf) .lf 256 := by
  have hF := F0_ok Try.prog
  have hM := F0_mono
  unfold q39
  (refine JQ.step follows hF hM ?_; simp (config := { maxSteps := 4000000 }) (disch := (omega)) only [go_sem, Nat.reduceLT, Nat.reduceEqDiff, reduceIte, Nat.reduceAdd, Nat.reduceSub, Nat.reduceLeDiff, Int.reduceEq, Int.reduceLT, Int.reduceLE, Int.reduceNeg, Int.reduceAdd, Int.reduceSub, Int.reduceToNat, Int.reduceMul, Nat.reduceMul])
  (refine JQ.step follows hF hM ?_; simp (config := { maxSteps := 4000000 }) (disch := (omega)) only [go_sem, Nat.reduceLT, Nat.reduceEqDiff, reduceIte, Nat.reduceAdd, Nat.reduceSub, Nat.reduceLeDiff, Int.reduceEq, Int.reduceLT, Int.reduceLE, Int.reduceNeg, Int.reduceAdd, Int.reduceSub, Int.reduceToNat, Int.reduceMul, Nat.reduceMul])
  refine JQ.seq ?_
  (refine JQ.step follows hF hM ?_; simp (config := { maxSteps := 4000000 }) (disch := (omega)) only [go_sem, Nat.reduceLT, Nat.reduceEqDiff, reduceIte, Nat.reduceAdd, Nat.reduceSub, Nat.reduceLeDiff, Int.reduceEq, Int.reduceLT, Int.reduceLE, Int.reduceNeg, Int.reduceAdd, Int.reduceSub, Int.reduceToNat, Int.reduceMul, Nat.reduceMul])
  refine JQ.block ?_
  refine JQ.loop (σ := Unit) (fun _ => True) (fun _ => ((Tr.lf.set .ns (tp 0)).set .ns (tp 1)).set (I 0) (tp 5)) (fun _ => .lf) (fun _ => 256) (fun _ => 0) () trivial (by ((repeat' (first | exact EnvLe.lf _ | refine EnvLe.set (by decide) ?_ ?_)) <;> first | exact EnvLe.lf _ | (simp (config := { maxSteps := 4000000 }) (disch := (omega)) only [go_sem, Nat.reduceLT, Nat.reduceEqDiff, reduceIte, Nat.reduceAdd, Nat.reduceSub, Nat.reduceLeDiff, Int.reduceEq, Int.reduceLT, Int.reduceLE, Int.reduceNeg, Int.reduceAdd, Int.reduceSub, Int.reduceToNat, Int.reduceMul, Nat.reduceMul, Int.natCast_add, Int.cast_ofNat_Int]; done) | (simp (config := { maxSteps := 4000000 }) (disch := (omega)) only [go_sem, Nat.reduceLT, Nat.reduceEqDiff, reduceIte, Nat.reduceAdd, Nat.reduceSub, Nat.reduceLeDiff, Int.reduceEq, Int.reduceLT, Int.reduceLE, Int.reduceNeg, Int.reduceAdd, Int.reduceSub, Int.reduceToNat, Int.reduceMul, Nat.reduceMul, Int.natCast_add, Int.cast_ofNat_Int] <;> first | rfl | (congr 1; omega)))) (HpLe.refl _) rfl ?_
  intro _ _
  unfold q39_l0
  (refine JQ.run follows hF hM ?_; simp (config := { maxSteps := 4000000 }) (disch := (omega)) only [go_sem, Nat.reduceLT, Nat.reduceEqDiff, reduceIte, Nat.reduceAdd, Nat.reduceSub, Nat.reduceLeDiff, Int.reduceEq, Int.reduceLT, Int.reduceLE, Int.reduceNeg, Int.reduceAdd, Int.reduceSub, Int.reduceToNat, Int.reduceMul, Nat.reduceMul])
  (refine JQ.run follows hF hM ?_; simp (config := { maxSteps := 4000000 }) (disch := (omega)) only [go_sem, Nat.reduceLT, Nat.reduceEqDiff, reduceIte, Nat.reduceAdd, Nat.reduceSub, Nat.reduceLeDiff, Int.reduceEq, Int.reduceLT, Int.reduceLE, Int.reduceNeg, Int.reduceAdd, Int.reduceSub, Int.reduceToNat, Int.reduceMul, Nat.reduceMul, res39])
theorem ok39 : SOK Try.prog 39 s39 := fun args lim h n v h' n' hr => by
  unfold s39 at hr
  split at hr
  · exact outC Try.func39 n39 b39 k39 r39 (Ins.none h) (by simp [L.length]) (ren_nil_rel rfl) (.v (.b true)) rfl run39n lim n hr
  · rename_i p l c q l' c'
    split at hr
    · rename_i hc
      obtain ⟨hpq, rfl, hl, xs, h1, h2⟩ := hc
      obtain ⟨el, el', I2⟩ := Ins.two hpq h1 h2
      obtain ⟨e1, _⟩ := win h1
      exact outC Try.func39 n39 b39 k39 r39 I2 (by simp [L.length]) (fun g => rel_cons (fun u hu => sl_ren (j := 0) (by omega) rfl hu) (rel_cons (fun u hu => sl_ren (j := 1) (by omega) rfl hu) fun _ h => L.pur_rel rfl h)) (.v (.b true)) rfl (run39 el el' xs l c c' e1 hl) lim n hr
    · cases hr
  · cases hr
/-! The law. -/
noncomputable def s13 (args : L) (_ : Nat) (h : Hp) (n : Nat) : Res := match args with | .nil => .ok (.b true) h n | _ => .no
theorem s13_eq (lim : Nat) (h : Hp) (n : Nat) : s13 .nil lim h n = .ok (.b true) h n := rfl
theorem s13_mo : SMo s13 := fun args lim h n => by unfold s13; split <;> first | exact Nat.le_refl n | trivial
theorem ok13 : SOK Try.prog 13 s13 := fun args lim h n v h' n' hr => by
  unfold s13 at hr
  split at hr
  · cases hr
    obtain ⟨h1, n1, hn, hc⟩ := Tw.works_ok
    exact callsAny rfl hc hn rfl rfl lim h n
  · cases hr
theorem eqS_self : ∀ l : List Nat, eqS l l = true := fun l => by rw [eqS_eq]; simp
theorem strV_self (l : List Nat) : strV .eql l l = .b true := by
  show fB (eqS l l) = _
  rw [eqS_self]; rfl
noncomputable def FS : FF := ov 13 s13 (ov 20 (spLL f20) (ov 33 (spS f33) (ov 34 (spS f33) (ov 35 (spSI f35) (ov 36 (spSI f35) (ov 37 (spSI (f37 some)) (ov 38 (spSI (f37 fun _ => none)) (ov 39 s39 F0))))))))
theorem FS_ok : FOK Try.prog FS := ov_ok ok13 (ov_ok ok20 (ov_ok ok33 (ov_ok ok34 (ov_ok ok35 (ov_ok ok36 (ov_ok ok37 (ov_ok ok38 (ov_ok ok39 (F0_ok _)))))))))
theorem FS_mono : FS.mono := ov_mono s13_mo (ov_mono (spLL_mo _) (ov_mono (spS_mo _) (ov_mono (spS_mo _) (ov_mono (spSI_mo _) (ov_mono (spSI_mo _) (ov_mono (spSI_mo _) (ov_mono (spSI_mo _) (ov_mono s39_mo F0_mono))))))))
/-- What the law's end still needs. -/
noncomputable def envV (a b : V) (e : Int) (s : List Nat) (x : Int) (l m : V) (g : Int) : Tr := (((((((((((Tr.lf.set a (tp 5)).set (I e) (tp 6)).set b (tp 7)).set (I e) (tp 8)).set (.s s) (tp 9)).set (I x) (tp 10)).set (.s s) (tp 11)).set (I x) (tp 12)).set l (tp 13)).set (I g) (tp 14)).set m (tp 15)).set (I g) (tp 16)
theorem o33_cases (bs : List Nat) : (∃ e, o33 bs = .v (tuE e)) ∨ ∃ xs m, xs.length = m * 2 ∧ m < 1000 ∧ o33 bs = .slE 59 2 m none (iL xs) (I 0) := by
  unfold o33
  split
  · rename_i h0
    split
    · exact .inl ⟨_, rfl⟩
    · have h1 := prS_even bs bs.length
      have h2 := (chkB_0 (gdS_z h0).1).1
      exact .inr ⟨_, _, by omega, by omega, rfl⟩
  · exact .inl ⟨_, rfl⟩
theorem o37_cases (bs : List Nat) (b : Int) : (∃ e, ∀ cp, o37 cp bs b = .v (tuE e)) ∨ ∃ xs : List Int, xs.length ≤ 1000 ∧ ∀ cp, o37 cp bs b = .slE 3 1 xs.length (cp xs.length) (iL xs) (I 0) := by
  unfold o37
  split
  · rename_i h0
    have h1 := (chkB_0 h0).1
    have h2 := svS_len bs b bs.length
    split
    · split
      · exact .inl ⟨_, fun _ => rfl⟩
      · exact .inr ⟨_, by omega, fun _ => rfl⟩
    · exact .inl ⟨_, fun _ => rfl⟩
  · exact .inl ⟨_, fun _ => rfl⟩
set_option maxHeartbeats 8000000 in
theorem serves_run (bs : List Nat) (b : Int) (hb : bs.length < 9223372036854775808) : JQ Try.prog drops Try.f6.ntmps FS q6 256 (Kend res6 (Good 0 (.v (.b true)))) (bind (.cons (.s bs) (.cons (I b) .nil)) 0 .lf) .lf 256 := by
  have hF := FS_ok
  have hM := FS_mono
  unfold q6
  (refine JQ.step follows hF hM ?_; simp (config := { maxSteps := 4000000 }) (disch := (omega)) only [go_sem, Nat.reduceLT, Nat.reduceEqDiff, reduceIte, Nat.reduceAdd, Nat.reduceSub, Nat.reduceLeDiff, Int.reduceEq, Int.reduceLT, Int.reduceLE, Int.reduceNeg, Int.reduceAdd, Int.reduceSub, Int.reduceToNat, Int.reduceMul, Nat.reduceMul])
  by_cases hl : 60 < bs.length
  · have hh : (60 : Int) < (bs.length : Int) := by omega
    (refine JQ.step follows hF hM ?_; simp (config := { maxSteps := 4000000 }) (disch := (omega)) only [go_sem, Nat.reduceLT, Nat.reduceEqDiff, reduceIte, Nat.reduceAdd, Nat.reduceSub, Nat.reduceLeDiff, Int.reduceEq, Int.reduceLT, Int.reduceLE, Int.reduceNeg, Int.reduceAdd, Int.reduceSub, Int.reduceToNat, Int.reduceMul, Nat.reduceMul, small_len, hh, FS, s13_eq, res6])
  · have hh : ¬ (60 : Int) < (bs.length : Int) := by omega
    (refine JQ.step follows hF hM ?_; simp (config := { maxSteps := 4000000 }) (disch := (omega)) only [go_sem, Nat.reduceLT, Nat.reduceEqDiff, reduceIte, Nat.reduceAdd, Nat.reduceSub, Nat.reduceLeDiff, Int.reduceEq, Int.reduceLT, Int.reduceLE, Int.reduceNeg, Int.reduceAdd, Int.reduceSub, Int.reduceToNat, Int.reduceMul, Nat.reduceMul, small_len, hh])
    rcases o33_cases bs with ⟨e, ho⟩ | ⟨xs, m, hx1, hx2, ho⟩ <;> rcases o37_cases bs b with ⟨g, hq⟩ | ⟨ys, hy, hq⟩
    · (refine JQ.step follows hF hM ?_; simp (config := { maxSteps := 4000000 }) (disch := (omega)) only [go_sem, Nat.reduceLT, Nat.reduceEqDiff, reduceIte, Nat.reduceAdd, Nat.reduceSub, Nat.reduceLeDiff, Int.reduceEq, Int.reduceLT, Int.reduceLE, Int.reduceNeg, Int.reduceAdd, Int.reduceSub, Int.reduceToNat, Int.reduceMul, Nat.reduceMul, FS, f33, ho, tuE])
      (refine JQ.step follows hF hM ?_; simp (config := { maxSteps := 4000000 }) (disch := (omega)) only [go_sem, Nat.reduceLT, Nat.reduceEqDiff, reduceIte, Nat.reduceAdd, Nat.reduceSub, Nat.reduceLeDiff, Int.reduceEq, Int.reduceLT, Int.reduceLE, Int.reduceNeg, Int.reduceAdd, Int.reduceSub, Int.reduceToNat, Int.reduceMul, Nat.reduceMul, FS, f33, ho, tuE])
      (refine JQ.step follows hF hM ?_; simp (config := { maxSteps := 4000000 }) (disch := (omega)) only [go_sem, Nat.reduceLT, Nat.reduceEqDiff, reduceIte, Nat.reduceAdd, Nat.reduceSub, Nat.reduceLeDiff, Int.reduceEq, Int.reduceLT, Int.reduceLE, Int.reduceNeg, Int.reduceAdd, Int.reduceSub, Int.reduceToNat, Int.reduceMul, Nat.reduceMul, FS, f35, tuS'])
      (refine JQ.step follows hF hM ?_; simp (config := { maxSteps := 4000000 }) (disch := (omega)) only [go_sem, Nat.reduceLT, Nat.reduceEqDiff, reduceIte, Nat.reduceAdd, Nat.reduceSub, Nat.reduceLeDiff, Int.reduceEq, Int.reduceLT, Int.reduceLE, Int.reduceNeg, Int.reduceAdd, Int.reduceSub, Int.reduceToNat, Int.reduceMul, Nat.reduceMul, FS, f35, tuS'])
      (refine JQ.step follows hF hM ?_; simp (config := { maxSteps := 4000000 }) (disch := (omega)) only [go_sem, Nat.reduceLT, Nat.reduceEqDiff, reduceIte, Nat.reduceAdd, Nat.reduceSub, Nat.reduceLeDiff, Int.reduceEq, Int.reduceLT, Int.reduceLE, Int.reduceNeg, Int.reduceAdd, Int.reduceSub, Int.reduceToNat, Int.reduceMul, Nat.reduceMul, FS, f37, hq, tuE])
      (refine JQ.step follows hF hM ?_; simp (config := { maxSteps := 4000000 }) (disch := (omega)) only [go_sem, Nat.reduceLT, Nat.reduceEqDiff, reduceIte, Nat.reduceAdd, Nat.reduceSub, Nat.reduceLeDiff, Int.reduceEq, Int.reduceLT, Int.reduceLE, Int.reduceNeg, Int.reduceAdd, Int.reduceSub, Int.reduceToNat, Int.reduceMul, Nat.reduceMul, FS, f37, hq, tuE])
      refine JQ.weak (e0 := envV .ns .ns e (exS bs b) (lkE bs b) .ns .ns g) (h0 := .lf) (by unfold envV; ((repeat' (first | exact EnvLe.lf _ | refine EnvLe.set (by decide) ?_ ?_)) <;> first | exact EnvLe.lf _ | (simp (config := { maxSteps := 4000000 }) (disch := (omega)) only [go_sem, Nat.reduceLT, Nat.reduceEqDiff, reduceIte, Nat.reduceAdd, Nat.reduceSub, Nat.reduceLeDiff, Int.reduceEq, Int.reduceLT, Int.reduceLE, Int.reduceNeg, Int.reduceAdd, Int.reduceSub, Int.reduceToNat, Int.reduceMul, Nat.reduceMul, Int.natCast_add, Int.cast_ofNat_Int]; done) | (simp (config := { maxSteps := 4000000 }) (disch := (omega)) only [go_sem, Nat.reduceLT, Nat.reduceEqDiff, reduceIte, Nat.reduceAdd, Nat.reduceSub, Nat.reduceLeDiff, Int.reduceEq, Int.reduceLT, Int.reduceLE, Int.reduceNeg, Int.reduceAdd, Int.reduceSub, Int.reduceToNat, Int.reduceMul, Nat.reduceMul, Int.natCast_add, Int.cast_ofNat_Int] <;> first | rfl | (congr 1; omega)))) (HpLe.lf _) ?_
      unfold envV
      (refine JQ.run follows hF hM ?_; simp (config := { maxSteps := 4000000 }) (disch := (omega)) only [go_sem, Nat.reduceLT, Nat.reduceEqDiff, reduceIte, Nat.reduceAdd, Nat.reduceSub, Nat.reduceLeDiff, Int.reduceEq, Int.reduceLT, Int.reduceLE, Int.reduceNeg, Int.reduceAdd, Int.reduceSub, Int.reduceToNat, Int.reduceMul, Nat.reduceMul, FS, f20, s13_eq, s39_nn, strV_self, res6])
    · have he : (ys = ys) = True := eq_true rfl
      (refine JQ.step follows hF hM ?_; simp (config := { maxSteps := 4000000 }) (disch := (omega)) only [go_sem, Nat.reduceLT, Nat.reduceEqDiff, reduceIte, Nat.reduceAdd, Nat.reduceSub, Nat.reduceLeDiff, Int.reduceEq, Int.reduceLT, Int.reduceLE, Int.reduceNeg, Int.reduceAdd, Int.reduceSub, Int.reduceToNat, Int.reduceMul, Nat.reduceMul, FS, f33, ho, tuE])
      (refine JQ.step follows hF hM ?_; simp (config := { maxSteps := 4000000 }) (disch := (omega)) only [go_sem, Nat.reduceLT, Nat.reduceEqDiff, reduceIte, Nat.reduceAdd, Nat.reduceSub, Nat.reduceLeDiff, Int.reduceEq, Int.reduceLT, Int.reduceLE, Int.reduceNeg, Int.reduceAdd, Int.reduceSub, Int.reduceToNat, Int.reduceMul, Nat.reduceMul, FS, f33, ho, tuE])
      (refine JQ.step follows hF hM ?_; simp (config := { maxSteps := 4000000 }) (disch := (omega)) only [go_sem, Nat.reduceLT, Nat.reduceEqDiff, reduceIte, Nat.reduceAdd, Nat.reduceSub, Nat.reduceLeDiff, Int.reduceEq, Int.reduceLT, Int.reduceLE, Int.reduceNeg, Int.reduceAdd, Int.reduceSub, Int.reduceToNat, Int.reduceMul, Nat.reduceMul, FS, f35, tuS'])
      (refine JQ.step follows hF hM ?_; simp (config := { maxSteps := 4000000 }) (disch := (omega)) only [go_sem, Nat.reduceLT, Nat.reduceEqDiff, reduceIte, Nat.reduceAdd, Nat.reduceSub, Nat.reduceLeDiff, Int.reduceEq, Int.reduceLT, Int.reduceLE, Int.reduceNeg, Int.reduceAdd, Int.reduceSub, Int.reduceToNat, Int.reduceMul, Nat.reduceMul, FS, f35, tuS'])
      (refine JQ.step follows hF hM ?_; simp (config := { maxSteps := 4000000 }) (disch := (omega)) only [go_sem, Nat.reduceLT, Nat.reduceEqDiff, reduceIte, Nat.reduceAdd, Nat.reduceSub, Nat.reduceLeDiff, Int.reduceEq, Int.reduceLT, Int.reduceLE, Int.reduceNeg, Int.reduceAdd, Int.reduceSub, Int.reduceToNat, Int.reduceMul, Nat.reduceMul, FS, f37, hq])
      (refine JQ.step follows hF hM ?_; simp (config := { maxSteps := 4000000 }) (disch := (omega)) only [go_sem, Nat.reduceLT, Nat.reduceEqDiff, reduceIte, Nat.reduceAdd, Nat.reduceSub, Nat.reduceLeDiff, Int.reduceEq, Int.reduceLT, Int.reduceLE, Int.reduceNeg, Int.reduceAdd, Int.reduceSub, Int.reduceToNat, Int.reduceMul, Nat.reduceMul, FS, f37, hq])
      refine JQ.weak (e0 := envV .ns .ns e (exS bs b) (lkE bs b) (.sl (tp 255) 0 1 ys.length (some ys.length)) (.sl (tp 256) 0 1 ys.length none) 0) (by unfold envV; ((repeat' (first | exact EnvLe.lf _ | refine EnvLe.set (by decide) ?_ ?_)) <;> first | exact EnvLe.lf _ | (simp (config := { maxSteps := 4000000 }) (disch := (omega)) only [go_sem, Nat.reduceLT, Nat.reduceEqDiff, reduceIte, Nat.reduceAdd, Nat.reduceSub, Nat.reduceLeDiff, Int.reduceEq, Int.reduceLT, Int.reduceLE, Int.reduceNeg, Int.reduceAdd, Int.reduceSub, Int.reduceToNat, Int.reduceMul, Nat.reduceMul, Int.natCast_add, Int.cast_ofNat_Int]; done) | (simp (config := { maxSteps := 4000000 }) (disch := (omega)) only [go_sem, Nat.reduceLT, Nat.reduceEqDiff, reduceIte, Nat.reduceAdd, Nat.reduceSub, Nat.reduceLeDiff, Int.reduceEq, Int.reduceLT, Int.reduceLE, Int.reduceNeg, Int.reduceAdd, Int.reduceSub, Int.reduceToNat, Int.reduceMul, Nat.reduceMul, Int.natCast_add, Int.cast_ofNat_Int] <;> first | rfl | (congr 1; omega)))) (HpLe.refl _) ?_
      unfold envV
      (refine JQ.run follows hF hM ?_; simp (config := { maxSteps := 4000000 }) (disch := (omega)) only [go_sem, Nat.reduceLT, Nat.reduceEqDiff, reduceIte, Nat.reduceAdd, Nat.reduceSub, Nat.reduceLeDiff, Int.reduceEq, Int.reduceLT, Int.reduceLE, Int.reduceNeg, Int.reduceAdd, Int.reduceSub, Int.reduceToNat, Int.reduceMul, Nat.reduceMul, FS, f20, s13_eq, s39_nn, strV_self, res6, he])
    · have e39 : ∀ lim n, s39 (.cons (.sl (tp 255) 0 2 m none) (.cons (.sl (tp 256) 0 2 m none) .nil)) lim ((Hp.lf.put (some (blkL 59 (iL xs))) (tp 255)).put (some (blkL 59 (iL xs))) (tp 256)) n = .ok (.b true) ((Hp.lf.put (some (blkL 59 (iL xs))) (tp 255)).put (some (blkL 59 (iL xs))) (tp 256)) n := fun lim n =>
        s39_sl (by omega) (by omega) (by omega) (by rw [put_other (by omega) (by omega) (by omega)]; exact hget_same _ _ _) (hget_same _ _ _) hx1 hx2 lim n
      (refine JQ.step follows hF hM ?_; simp (config := { maxSteps := 4000000 }) (disch := (omega)) only [go_sem, Nat.reduceLT, Nat.reduceEqDiff, reduceIte, Nat.reduceAdd, Nat.reduceSub, Nat.reduceLeDiff, Int.reduceEq, Int.reduceLT, Int.reduceLE, Int.reduceNeg, Int.reduceAdd, Int.reduceSub, Int.reduceToNat, Int.reduceMul, Nat.reduceMul, FS, f33, ho])
      (refine JQ.step follows hF hM ?_; simp (config := { maxSteps := 4000000 }) (disch := (omega)) only [go_sem, Nat.reduceLT, Nat.reduceEqDiff, reduceIte, Nat.reduceAdd, Nat.reduceSub, Nat.reduceLeDiff, Int.reduceEq, Int.reduceLT, Int.reduceLE, Int.reduceNeg, Int.reduceAdd, Int.reduceSub, Int.reduceToNat, Int.reduceMul, Nat.reduceMul, FS, f33, ho])
      (refine JQ.step follows hF hM ?_; simp (config := { maxSteps := 4000000 }) (disch := (omega)) only [go_sem, Nat.reduceLT, Nat.reduceEqDiff, reduceIte, Nat.reduceAdd, Nat.reduceSub, Nat.reduceLeDiff, Int.reduceEq, Int.reduceLT, Int.reduceLE, Int.reduceNeg, Int.reduceAdd, Int.reduceSub, Int.reduceToNat, Int.reduceMul, Nat.reduceMul, FS, f35, tuS'])
      (refine JQ.step follows hF hM ?_; simp (config := { maxSteps := 4000000 }) (disch := (omega)) only [go_sem, Nat.reduceLT, Nat.reduceEqDiff, reduceIte, Nat.reduceAdd, Nat.reduceSub, Nat.reduceLeDiff, Int.reduceEq, Int.reduceLT, Int.reduceLE, Int.reduceNeg, Int.reduceAdd, Int.reduceSub, Int.reduceToNat, Int.reduceMul, Nat.reduceMul, FS, f35, tuS'])
      (refine JQ.step follows hF hM ?_; simp (config := { maxSteps := 4000000 }) (disch := (omega)) only [go_sem, Nat.reduceLT, Nat.reduceEqDiff, reduceIte, Nat.reduceAdd, Nat.reduceSub, Nat.reduceLeDiff, Int.reduceEq, Int.reduceLT, Int.reduceLE, Int.reduceNeg, Int.reduceAdd, Int.reduceSub, Int.reduceToNat, Int.reduceMul, Nat.reduceMul, FS, f37, hq, tuE])
      (refine JQ.step follows hF hM ?_; simp (config := { maxSteps := 4000000 }) (disch := (omega)) only [go_sem, Nat.reduceLT, Nat.reduceEqDiff, reduceIte, Nat.reduceAdd, Nat.reduceSub, Nat.reduceLeDiff, Int.reduceEq, Int.reduceLT, Int.reduceLE, Int.reduceNeg, Int.reduceAdd, Int.reduceSub, Int.reduceToNat, Int.reduceMul, Nat.reduceMul, FS, f37, hq, tuE])
      refine JQ.weak (e0 := envV (.sl (tp 255) 0 2 m none) (.sl (tp 256) 0 2 m none) 0 (exS bs b) (lkE bs b) .ns .ns g) (by unfold envV; ((repeat' (first | exact EnvLe.lf _ | refine EnvLe.set (by decide) ?_ ?_)) <;> first | exact EnvLe.lf _ | (simp (config := { maxSteps := 4000000 }) (disch := (omega)) only [go_sem, Nat.reduceLT, Nat.reduceEqDiff, reduceIte, Nat.reduceAdd, Nat.reduceSub, Nat.reduceLeDiff, Int.reduceEq, Int.reduceLT, Int.reduceLE, Int.reduceNeg, Int.reduceAdd, Int.reduceSub, Int.reduceToNat, Int.reduceMul, Nat.reduceMul, Int.natCast_add, Int.cast_ofNat_Int]; done) | (simp (config := { maxSteps := 4000000 }) (disch := (omega)) only [go_sem, Nat.reduceLT, Nat.reduceEqDiff, reduceIte, Nat.reduceAdd, Nat.reduceSub, Nat.reduceLeDiff, Int.reduceEq, Int.reduceLT, Int.reduceLE, Int.reduceNeg, Int.reduceAdd, Int.reduceSub, Int.reduceToNat, Int.reduceMul, Nat.reduceMul, Int.natCast_add, Int.cast_ofNat_Int] <;> first | rfl | (congr 1; omega)))) (HpLe.refl _) ?_
      unfold envV
      (refine JQ.run follows hF hM ?_; simp (config := { maxSteps := 4000000 }) (disch := (omega)) only [go_sem, Nat.reduceLT, Nat.reduceEqDiff, reduceIte, Nat.reduceAdd, Nat.reduceSub, Nat.reduceLeDiff, Int.reduceEq, Int.reduceLT, Int.reduceLE, Int.reduceNeg, Int.reduceAdd, Int.reduceSub, Int.reduceToNat, Int.reduceMul, Nat.reduceMul, FS, f20, s13_eq, e39, strV_self, res6])
    · have he : (ys = ys) = True := eq_true rfl
      have e39 : ∀ lim n, s39 (.cons (.sl (tp 255) 0 2 m none) (.cons (.sl (tp 256) 0 2 m none) .nil)) lim ((((Hp.lf.put (some (blkL 59 (iL xs))) (tp 255)).put (some (blkL 59 (iL xs))) (tp 256)).put (some (blkL 3 (iL ys))) (tp 257)).put (some (blkL 3 (iL ys))) (tp 258)) n = .ok (.b true) ((((Hp.lf.put (some (blkL 59 (iL xs))) (tp 255)).put (some (blkL 59 (iL xs))) (tp 256)).put (some (blkL 3 (iL ys))) (tp 257)).put (some (blkL 3 (iL ys))) (tp 258)) n := fun lim n =>
        s39_sl (by omega) (by omega) (by omega) (by rw [put_other (by omega) (by omega) (by omega), put_other (by omega) (by omega) (by omega), put_other (by omega) (by omega) (by omega)]; exact hget_same _ _ _) (by rw [put_other (by omega) (by omega) (by omega), put_other (by omega) (by omega) (by omega)]; exact hget_same _ _ _) hx1 hx2 lim n
      (refine JQ.step follows hF hM ?_; simp (config := { maxSteps := 4000000 }) (disch := (omega)) only [go_sem, Nat.reduceLT, Nat.reduceEqDiff, reduceIte, Nat.reduceAdd, Nat.reduceSub, Nat.reduceLeDiff, Int.reduceEq, Int.reduceLT, Int.reduceLE, Int.reduceNeg, Int.reduceAdd, Int.reduceSub, Int.reduceToNat, Int.reduceMul, Nat.reduceMul, FS, f33, ho])
      (refine JQ.step follows hF hM ?_; simp (config := { maxSteps := 4000000 }) (disch := (omega)) only [go_sem, Nat.reduceLT, Nat.reduceEqDiff, reduceIte, Nat.reduceAdd, Nat.reduceSub, Nat.reduceLeDiff, Int.reduceEq, Int.reduceLT, Int.reduceLE, Int.reduceNeg, Int.reduceAdd, Int.reduceSub, Int.reduceToNat, Int.reduceMul, Nat.reduceMul, FS, f33, ho])
      (refine JQ.step follows hF hM ?_; simp (config := { maxSteps := 4000000 }) (disch := (omega)) only [go_sem, Nat.reduceLT, Nat.reduceEqDiff, reduceIte, Nat.reduceAdd, Nat.reduceSub, Nat.reduceLeDiff, Int.reduceEq, Int.reduceLT, Int.reduceLE, Int.reduceNeg, Int.reduceAdd, Int.reduceSub, Int.reduceToNat, Int.reduceMul, Nat.reduceMul, FS, f35, tuS'])
      (refine JQ.step follows hF hM ?_; simp (config := { maxSteps := 4000000 }) (disch := (omega)) only [go_sem, Nat.reduceLT, Nat.reduceEqDiff, reduceIte, Nat.reduceAdd, Nat.reduceSub, Nat.reduceLeDiff, Int.reduceEq, Int.reduceLT, Int.reduceLE, Int.reduceNeg, Int.reduceAdd, Int.reduceSub, Int.reduceToNat, Int.reduceMul, Nat.reduceMul, FS, f35, tuS'])
      (refine JQ.step follows hF hM ?_; simp (config := { maxSteps := 4000000 }) (disch := (omega)) only [go_sem, Nat.reduceLT, Nat.reduceEqDiff, reduceIte, Nat.reduceAdd, Nat.reduceSub, Nat.reduceLeDiff, Int.reduceEq, Int.reduceLT, Int.reduceLE, Int.reduceNeg, Int.reduceAdd, Int.reduceSub, Int.reduceToNat, Int.reduceMul, Nat.reduceMul, FS, f37, hq])
      (refine JQ.step follows hF hM ?_; simp (config := { maxSteps := 4000000 }) (disch := (omega)) only [go_sem, Nat.reduceLT, Nat.reduceEqDiff, reduceIte, Nat.reduceAdd, Nat.reduceSub, Nat.reduceLeDiff, Int.reduceEq, Int.reduceLT, Int.reduceLE, Int.reduceNeg, Int.reduceAdd, Int.reduceSub, Int.reduceToNat, Int.reduceMul, Nat.reduceMul, FS, f37, hq])
      refine JQ.weak (e0 := envV (.sl (tp 255) 0 2 m none) (.sl (tp 256) 0 2 m none) 0 (exS bs b) (lkE bs b) (.sl (tp 257) 0 1 ys.length (some ys.length)) (.sl (tp 258) 0 1 ys.length none) 0) (by unfold envV; ((repeat' (first | exact EnvLe.lf _ | refine EnvLe.set (by decide) ?_ ?_)) <;> first | exact EnvLe.lf _ | (simp (config := { maxSteps := 4000000 }) (disch := (omega)) only [go_sem, Nat.reduceLT, Nat.reduceEqDiff, reduceIte, Nat.reduceAdd, Nat.reduceSub, Nat.reduceLeDiff, Int.reduceEq, Int.reduceLT, Int.reduceLE, Int.reduceNeg, Int.reduceAdd, Int.reduceSub, Int.reduceToNat, Int.reduceMul, Nat.reduceMul, Int.natCast_add, Int.cast_ofNat_Int]; done) | (simp (config := { maxSteps := 4000000 }) (disch := (omega)) only [go_sem, Nat.reduceLT, Nat.reduceEqDiff, reduceIte, Nat.reduceAdd, Nat.reduceSub, Nat.reduceLeDiff, Int.reduceEq, Int.reduceLT, Int.reduceLE, Int.reduceNeg, Int.reduceAdd, Int.reduceSub, Int.reduceToNat, Int.reduceMul, Nat.reduceMul, Int.natCast_add, Int.cast_ofNat_Int] <;> first | rfl | (congr 1; omega)))) (HpLe.refl _) ?_
      unfold envV
      (refine JQ.run follows hF hM ?_; simp (config := { maxSteps := 4000000 }) (disch := (omega)) only [go_sem, Nat.reduceLT, Nat.reduceEqDiff, reduceIte, Nat.reduceAdd, Nat.reduceSub, Nat.reduceLeDiff, Int.reduceEq, Int.reduceLT, Int.reduceLE, Int.reduceNeg, Int.reduceAdd, Int.reduceSub, Int.reduceToNat, Int.reduceMul, Nat.reduceMul, FS, f20, s13_eq, e39, strV_self, res6, he])
theorem serves_walk (s : ByteArray) (b : Int) (hs : s.size < 9223372036854775808) (w : World) : Calls Try.prog 6 #[.string s, .int .i64 b] w fun e w' => e = .returned (.bool true) ∧ Below w.heap.size w w' :=
  lawC Try.func6 n6 b6 k6 r6 (args := .cons (.s (ofS s)) (.cons (I b) .nil)) (by simp [L.length]) (by simp [L.pur, V.pur, I_pur]) (serves_run _ b (by rw [ofS_len]; exact hs)) (vs := [.string s, .int .i64 b]) (fun g => ⟨_, _, rfl, ofS_rel g s, _, _, rfl, I_rel, rfl⟩) w
end Go.Proofs.Ytkdbgkibifigiaa.Ev
