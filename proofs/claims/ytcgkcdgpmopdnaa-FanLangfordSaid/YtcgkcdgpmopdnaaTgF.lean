/- Whether a list has a number, as a contract. -/
import Derived.Test.YtcgkcdgpmopdnaaTgA
namespace Go.Proofs.Ytcgkcdgpmopdnaa.Ev
set_option linter.unusedVariables false
set_option linter.unusedSimpArgs false
set_option maxRecDepth 100000
open Go Go.Proofs Go.RowKit
attribute [local go_sem] evC_seq evC_reg evC_cond evC_block evC_skip evC_exit evC_ret evR_cons evR_nil evR_gd guardB_tt guardB_ff guardB_tf guardB_ft guardB_none bindR_ok bindR_okn rgRs_ok seqR_nor seqR_ext seqR_ret condR_true condR_false blockR_nor blockR_ext blockR_ret evX_t evX_c evXL_nil evXL_cons O_mv O_bin O_pick O_eqb O_not O_ext O_call O_conv O_slen O_six O_sbi pv_I pv_i pv_b pv_s pv_ns pv_sl pv_p pv_tu pv_ag bin_lss bin_leq bin_gtr bin_geq bin_eql bin_neq bin8_eql bin8_neq bin_add bin_sub bin_mul get_st get_lf bind_nil bind_cons if_true if_false Got_nor Got_ext Got_ret Kseq Kblk Klp Kend onStr_s onB_b onT_tu onI_I onN_I onK_I eqb_b not_b nthL_0 nthL_1 nthL_2 known_nil known_cons I_known known_b known_s evRVs_nil evRVs_cons evRes_1 evRes_2 evRV_tmp Bool.and_true Bool.true_and Bool.and_self Bool.not_true Bool.not_false decide_true decide_false Int.toNat_natCast true_and and_true big hget_same hget_ne newB_n onP_p onS_sl onS_ns O_fad O_alloc_if O_ixs O_len O_ld O_st O_box boxB_if ldB_if ldB_agif stB_if stB_wif toL_I toL_i toL_b toL_s toL_sl toL_ns toL_ag allC_nil allC_cons isC_i isC_b isC_s isC_sl isC_ns I_isC Llen_nil Llen_cons Lget_0 Lget_1 Lget_2 Lget_3 blkL_size cell_blkL_if getL_blkL_if getL_setL_if setL_sz evRV_cell' rvB_agif rvB_if evPL_cons bldK_if evPL_nil O_build O_part evBuild_ok okL_some onA_ag partV_1 evPart_eq updS_nil updS_cons upd_0 upd_1 upd_2 upd_3 ge_iff_le if_pos and_self Nat.le_refl known_ag known_sl known_ns known_i ov_at spS_eq spSI_eq spSII_eq spI_eq spII_eq spIII_eq spIIII_eq res_v res_sl res_slE Good I_pur pur_b pur_s pur_i pur_ns pur_ag pur_tu purL_nil purL_cons evDr_eq evDs_nil evDs_cons dsR_ok stepD_eq sdB_n sdB_g sdG_tt sdG_ff sdG_tf sdG_ft sdG_none runD_0 rdR_f rdR_t baseOf_pu baseOf_h baseU_nil baseA_nil baseA_0 baseR_nil baseR_0 baseR_00 appAll_nil appAll_0 restr_nil restr_cons setD_some setD_none evC_draw iL_len iL_get iL_allC iL_pur hp0_0 hp0_c rdL_ns rdL_sl List.length_cons List.length_nil O_mks mkB_if O_bsl bslB_if O_app apX_ns apX_sl apN_some apS_some blkL_el Nat.one_mul Nat.mul_one Nat.zero_add n_I onF_fn O_callv app_nil app_cons spLF_eq spL_eq spLL_eq onL_some onLL_ss onLL_ns onLL_sn onLL_nn rdB_blk Int.cast_ofNat_Int tlX_none tlX_some tlOf_cons tlOf_1 tlOf_1t tlM_none tlM_some
noncomputable def q47_l0 : IC := (.seq (.reg (.cons (some (tp 9)) none (.bin .lss (.t (tp 8)) (.t (tp 7))) .nil)) (.seq (.cond (.t (tp 9)) .skip (.exit 0)) (.seq (.block 1 (.seq (.reg (.cons (some (tp 10)) none (.mv (.t (tp 8))) (.cons (some (tp 5)) none (.mv (.t (tp 10))) .nil))) (.seq (.reg (.cons (some (tp 11)) none (.mv (.t (tp 1))) (.cons (some (tp 12)) none (.mv (.t (tp 0))) (.cons (some (tp 13)) none (.mv (.t (tp 5))) (.cons (some (tp 14)) none (.ixs 1 (.t (tp 12)) (.t (tp 13))) (.cons (some (tp 15)) none (.ld 1 false (.t (tp 14))) (.cons (some (tp 16)) none (.bin .eql (.t (tp 11)) (.t (tp 15))) .nil))))))) (.cond (.t (tp 16)) (.seq (.reg (.cons (some (tp 17)) none (.mv (.t (tp 5))) (.cons (some (tp 4)) none (.mv (.t (tp 17))) .nil))) .ret) .skip)))) (.reg (.cons (some (tp 18)) none (.bin .add (.t (tp 8)) (.c (I 1))) (.cons (some (tp 8)) none (.mv (.t (tp 18))) .nil))))))
noncomputable def q47 : IC := (.seq (.reg (.cons (some (tp 4)) none (.mv (.c (I 0))) .nil)) (.seq (.seq (.reg (.cons (some (tp 6)) none (.mv (.t (tp 0))) (.cons (some (tp 7)) none (.len (.t (tp 6))) (.cons (some (tp 8)) none (.mv (.c (I 0))) .nil)))) (.block 0 (.loop q47_l0))) (.seq (.reg (.cons (some (tp 4)) none (.mv (.c (I (-1)))) .nil)) .ret)))
noncomputable def res47 : List RV := [(.tmp (tp 4))]
noncomputable def q45 : IC := (.seq (.reg (.cons (some (tp 4)) none (.mv (.c (.b false))) .nil)) (.seq (.reg (.cons (some (tp 5)) none (.mv (.t (tp 0))) (.cons (some (tp 6)) none (.mv (.t (tp 1))) (.cons (some (tp 7)) none (.call 47 (.cons (.t (tp 5)) (.cons (.t (tp 6)) .nil))) (.cons (some (tp 8)) none (.bin .geq (.t (tp 7)) (.c (I 0))) (.cons (some (tp 4)) none (.mv (.t (tp 8))) .nil)))))) .ret))
noncomputable def res45 : List RV := [(.tmp (tp 4))]
noncomputable def c47c : Code := match Try.f47.body with | some c => c | none => .skip
theorem b47 : Try.f47.body = some c47c := by kernel_rfl
theorem k47 : compC Try.prog drops Try.f47.ntmps c47c = some q47 := by kernel_rfl
theorem r47 : compRVs Try.prog Try.f47.results.toList = some res47 := by kernel_rfl
theorem n47 : (Try.f47.name == "runtime.NumGoroutine") = false := by kernel_rfl
noncomputable def c45c : Code := match Try.f45.body with | some c => c | none => .skip
theorem b45 : Try.f45.body = some c45c := by kernel_rfl
theorem k45 : compC Try.prog drops Try.f45.ntmps c45c = some q45 := by kernel_rfl
theorem r45 : compRVs Try.prog Try.f45.results.toList = some res45 := by kernel_rfl
theorem n45 : (Try.f45.name == "runtime.NumGoroutine") = false := by kernel_rfl

def ixN (xs : List Int) (z : Int) : Nat := xs.findIdx fun x => decide (x = z)
def ixI (xs : List Int) (z : Int) : Int := if ixN xs z < xs.length then (ixN xs z : Int) else -1
theorem ixN_at {xs : List Int} {z : Int} {j : Nat} (h0 : ∀ i, i < j → At xs i ≠ z) (hj : j < xs.length) (h1 : At xs j = z) : ixN xs z = j := by
  unfold ixN
  rw [List.findIdx_eq hj]
  have at_ : ∀ i, ∀ h : i < xs.length, xs[i]'h = At xs i := fun i hi => by rw [At, List.getElem?_eq_getElem hi]; rfl
  refine ⟨by rw [at_ j hj]; simp [h1], fun i hi => ?_⟩
  rw [at_ i (by omega)]
  simp [h0 i hi]
theorem ixN_no {xs : List Int} {z : Int} (h0 : ∀ i, i < xs.length → At xs i ≠ z) : ixN xs z = xs.length := by
  unfold ixN
  rw [List.findIdx_eq_length_of_false]
  intro x hx
  obtain ⟨i, hi, e⟩ := List.getElem_of_mem hx
  have := h0 i hi
  rw [At, List.getElem?_eq_getElem hi] at this
  rw [← e]
  simpa using this
theorem run47 (el : TypeId) (xs : List Int) (z : Int) (cap : Option Nat) (hl : xs.length ≤ 1000) : JQ Try.prog drops Try.f47.ntmps F0 q47 257 (Kend res47 (Good 1 (.v (I (ixI xs z))))) (bind (.cons (.sl (tp 255) 0 1 xs.length cap) (.cons (I z) .nil)) 0 .lf) (hp0 [blkL el (iL xs)] 255) 257 := by
  have hF := F0_ok Try.prog
  have hM := F0_mono
  unfold q47
  (refine JQ.step follows hF hM ?_; simp (config := { maxSteps := 4000000 }) (disch := (omega)) only [go_sem, Nat.reduceLT, Nat.reduceEqDiff, reduceIte, Nat.reduceAdd, Nat.reduceSub, Nat.reduceLeDiff, Int.reduceEq, Int.reduceLT, Int.reduceLE, Int.reduceNeg, Int.reduceAdd, Int.reduceSub, Int.reduceToNat, Int.reduceMul, Nat.reduceMul])
  refine JQ.seq ?_
  (refine JQ.step follows hF hM ?_; simp (config := { maxSteps := 4000000 }) (disch := (omega)) only [go_sem, Nat.reduceLT, Nat.reduceEqDiff, reduceIte, Nat.reduceAdd, Nat.reduceSub, Nat.reduceLeDiff, Int.reduceEq, Int.reduceLT, Int.reduceLE, Int.reduceNeg, Int.reduceAdd, Int.reduceSub, Int.reduceToNat, Int.reduceMul, Nat.reduceMul])
  refine JQ.block ?_
  refine JQ.loop (σ := Nat) (fun k => k ≤ xs.length ∧ ∀ i, i < k → At xs i ≠ z) (fun k => (((Tr.lf.set (.sl (tp 255) 0 1 xs.length cap) (tp 0)).set (I z) (tp 1)).set (I xs.length) (tp 7)).set (I k) (tp 8))
    (fun k => Hp.lf.put (some (blkL el (iL xs))) (tp 255)) (fun _ => 257) (fun k => xs.length - k) 0 ⟨Nat.zero_le _, fun i hi => by omega⟩ (by ((repeat' (first | exact EnvLe.lf _ | refine EnvLe.set (by decide) ?_ ?_)) <;> first | exact EnvLe.lf _ | (simp (config := { maxSteps := 4000000 }) (disch := (omega)) only [go_sem, Nat.reduceLT, Nat.reduceEqDiff, reduceIte, Nat.reduceAdd, Nat.reduceSub, Nat.reduceLeDiff, Int.reduceEq, Int.reduceLT, Int.reduceLE, Int.reduceNeg, Int.reduceAdd, Int.reduceSub, Int.reduceToNat, Int.reduceMul, Nat.reduceMul, Int.natCast_add, Int.cast_ofNat_Int]; done) | (simp (config := { maxSteps := 4000000 }) (disch := (omega)) only [go_sem, Nat.reduceLT, Nat.reduceEqDiff, reduceIte, Nat.reduceAdd, Nat.reduceSub, Nat.reduceLeDiff, Int.reduceEq, Int.reduceLT, Int.reduceLE, Int.reduceNeg, Int.reduceAdd, Int.reduceSub, Int.reduceToNat, Int.reduceMul, Nat.reduceMul, Int.natCast_add, Int.cast_ofNat_Int] <;> first | rfl | (congr 1; omega)))) (HpLe.refl _) rfl ?_
  rintro k ⟨hk, h0⟩
  unfold q47_l0
  by_cases hlt : k < xs.length
  · have hlt' : (k : Int) < (xs.length : Int) := by omega
    by_cases hc : At xs k = z
    · have e : ixI xs z = k := by unfold ixI; rw [ixN_at h0 hlt hc, if_pos hlt]
      (refine JQ.run follows hF hM ?_; simp (config := { maxSteps := 4000000 }) (disch := (omega)) only [go_sem, Nat.reduceLT, Nat.reduceEqDiff, reduceIte, Nat.reduceAdd, Nat.reduceSub, Nat.reduceLeDiff, Int.reduceEq, Int.reduceLT, Int.reduceLE, Int.reduceNeg, Int.reduceAdd, Int.reduceSub, Int.reduceToNat, Int.reduceMul, Nat.reduceMul, hlt', hlt, iL_len, iL_get, onI_I, hc, res47, e])
    · (refine JQ.run follows hF hM ?_; simp (config := { maxSteps := 4000000 }) (disch := (omega)) only [go_sem, Nat.reduceLT, Nat.reduceEqDiff, reduceIte, Nat.reduceAdd, Nat.reduceSub, Nat.reduceLeDiff, Int.reduceEq, Int.reduceLT, Int.reduceLE, Int.reduceNeg, Int.reduceAdd, Int.reduceSub, Int.reduceToNat, Int.reduceMul, Nat.reduceMul, hlt', hlt, iL_len, iL_get, onI_I, eq_false hc, eq_false (Ne.symm hc)])
      refine ⟨k + 1, ⟨by omega, fun i hi => ?_⟩, by omega, by ((repeat' (first | exact EnvLe.lf _ | refine EnvLe.set (by decide) ?_ ?_)) <;> first | exact EnvLe.lf _ | (simp (config := { maxSteps := 4000000 }) (disch := (omega)) only [go_sem, Nat.reduceLT, Nat.reduceEqDiff, reduceIte, Nat.reduceAdd, Nat.reduceSub, Nat.reduceLeDiff, Int.reduceEq, Int.reduceLT, Int.reduceLE, Int.reduceNeg, Int.reduceAdd, Int.reduceSub, Int.reduceToNat, Int.reduceMul, Nat.reduceMul, Int.natCast_add, Int.cast_ofNat_Int]; done) | (simp (config := { maxSteps := 4000000 }) (disch := (omega)) only [go_sem, Nat.reduceLT, Nat.reduceEqDiff, reduceIte, Nat.reduceAdd, Nat.reduceSub, Nat.reduceLeDiff, Int.reduceEq, Int.reduceLT, Int.reduceLE, Int.reduceNeg, Int.reduceAdd, Int.reduceSub, Int.reduceToNat, Int.reduceMul, Nat.reduceMul, Int.natCast_add, Int.cast_ofNat_Int] <;> first | rfl | (congr 1; omega))), HpLe.refl _⟩
      rcases Nat.lt_or_ge i k with h | h
      · exact h0 i h
      · obtain rfl : i = k := by omega
        exact hc
  · obtain rfl : k = xs.length := by omega
    have e : ixI xs z = -1 := by unfold ixI; rw [ixN_no h0, if_neg (Nat.lt_irrefl _)]
    (refine JQ.run follows hF hM ?_; simp (config := { maxSteps := 4000000 }) (disch := (omega)) only [go_sem, Nat.reduceLT, Nat.reduceEqDiff, reduceIte, Nat.reduceAdd, Nat.reduceSub, Nat.reduceLeDiff, Int.reduceEq, Int.reduceLT, Int.reduceLE, Int.reduceNeg, Int.reduceAdd, Int.reduceSub, Int.reduceToNat, Int.reduceMul, Nat.reduceMul, Int.lt_irrefl])
    (refine JQ.run follows hF hM ?_; simp (config := { maxSteps := 4000000 }) (disch := (omega)) only [go_sem, Nat.reduceLT, Nat.reduceEqDiff, reduceIte, Nat.reduceAdd, Nat.reduceSub, Nat.reduceLeDiff, Int.reduceEq, Int.reduceLT, Int.reduceLE, Int.reduceNeg, Int.reduceAdd, Int.reduceSub, Int.reduceToNat, Int.reduceMul, Nat.reduceMul, res47, e])
noncomputable def spLI (f : List Int → Int → Out) (args : L) (_ : Nat) (h : Hp) (n : Nat) : Res := match args with
  | .cons (.sl p off esz len cap) (.cons u .nil) => (match asI u with | some z => onL (rdL h (.sl p off esz len cap)) (fun xs => f xs z) h n | none => .no)
  | _ => .no
theorem spLI_mo (f : List Int → Int → Out) : SMo (spLI f) := fun args lim h n => by
  unfold spLI; split <;> (try split) <;> first | exact onL_ge _ _ _ _ | trivial
theorem spLI_ok {P : Program} {dr : List Nat} {F : FF} {q : IC} {f : Nat} {fn : Func} {c : Code} {res : List RV} (hfn : P.funcs[f]? = some fn) (hnm : (fn.name == "runtime.NumGoroutine") = false) (hb : fn.body = some c) (hq : compC P dr fn.ntmps c = some q) (hres : compRVs P fn.results.toList = some res)
    {o : List Int → Int → Out} (ho : ∀ xs z, OutOK (o xs z))
    (run : ∀ el xs z cap, o xs z ≠ .no → JQ P dr fn.ntmps F q 257 (Kend res (Good 1 (o xs z))) (bind (.cons (.sl (tp 255) 0 1 xs.length cap) (.cons (I z) .nil)) 0 .lf) (hp0 [blkL el (iL xs)] 255) 257) : SOK P f (spLI o) := fun args lim h n v h' n' hr => by
  have hno : ∀ {x : Out}, x.res h n = .ok v h' n' → x ≠ .no := fun {x} e e' => by subst e'; cases e
  unfold spLI at hr
  split at hr
  · rename_i p off esz len cap u
    split at hr
    · rename_i z hz
      unfold onL at hr
      split at hr
      · rename_i xs hx
        unfold rdL at hx
        split at hx
        · rename_i h1; cases h1
        · rename_i h1
          cases h1
          obtain ⟨el, I1⟩ := Ins.one hx
          obtain ⟨e1, _⟩ := win hx
          subst e1
          exact outC hfn hnm hb hq hres I1 (by simp [L.length]) (fun g => rel_cons (fun u hu => sl_ren (j := 0) (by omega) rfl hu) (rel_cons (fun u hu => I_any hz g _ u hu) fun _ h => L.pur_rel rfl h)) _ (ho xs z) (run el xs z cap (hno hr)) lim n hr
        · cases hx
      · cases hr
    · cases hr
  · cases hr
noncomputable def f47 (xs : List Int) (z : Int) : Out := if xs.length ≤ 1000 then .v (I (ixI xs z)) else .no
theorem f47_ok (xs : List Int) (z : Int) : OutOK (f47 xs z) := by unfold f47; split <;> first | exact I_pur _ | trivial
theorem ok47 : SOK Try.prog 47 (spLI f47) := spLI_ok Try.func47 n47 b47 k47 r47 f47_ok fun el xs z cap hne => by
  unfold f47 at hne ⊢
  split
  · rename_i hl; exact run47 el xs z cap hl
  · rename_i hl; rw [if_neg hl] at hne; exact absurd rfl hne
noncomputable def F47 : FF := ov 47 (spLI f47) F0
theorem F47_ok : FOK Try.prog F47 := ov_ok ok47 (F0_ok _)
theorem F47_mono : F47.mono := ov_mono (spLI_mo _) F0_mono
def conB (xs : List Int) (z : Int) : Bool := xs.any fun x => decide (x = z)
theorem con_ix (xs : List Int) (z : Int) : decide (0 ≤ ixI xs z) = conB xs z := by
  have h : conB xs z = decide (ixN xs z < xs.length) := by
    unfold conB ixN
    rw [Bool.eq_iff_iff]
    simp
  rw [h]
  unfold ixI
  split
  · rename_i h1; simp [h1]
  · rename_i h1; simp [h1]
theorem spLI_eq (f : List Int → Int → Out) (h : Hp) (lim n : Nat) (p : Pos) (off esz len : Nat) (cap : Option Nat) (z : Int) : spLI f (.cons (.sl p off esz len cap) (.cons (I z) .nil)) lim h n = onL (rdL h (.sl p off esz len cap)) (fun xs => f xs z) h n := by simp only [spLI, asI_I]
theorem run45 (el : TypeId) (xs : List Int) (z : Int) (cap : Option Nat) (hl : xs.length ≤ 1000) : JQ Try.prog drops Try.f45.ntmps F47 q45 257 (Kend res45 (Good 1 (.v (.b (conB xs z))))) (bind (.cons (.sl (tp 255) 0 1 xs.length cap) (.cons (I z) .nil)) 0 .lf) (hp0 [blkL el (iL xs)] 255) 257 := by
  have hF := F47_ok
  have hM := F47_mono
  rw [← con_ix]
  unfold q45
  (refine JQ.step follows hF hM ?_; simp (config := { maxSteps := 4000000 }) (disch := (omega)) only [go_sem, Nat.reduceLT, Nat.reduceEqDiff, reduceIte, Nat.reduceAdd, Nat.reduceSub, Nat.reduceLeDiff, Int.reduceEq, Int.reduceLT, Int.reduceLE, Int.reduceNeg, Int.reduceAdd, Int.reduceSub, Int.reduceToNat, Int.reduceMul, Nat.reduceMul])
  (refine JQ.run follows hF hM ?_; simp (config := { maxSteps := 4000000 }) (disch := (omega)) only [go_sem, Nat.reduceLT, Nat.reduceEqDiff, reduceIte, Nat.reduceAdd, Nat.reduceSub, Nat.reduceLeDiff, Int.reduceEq, Int.reduceLT, Int.reduceLE, Int.reduceNeg, Int.reduceAdd, Int.reduceSub, Int.reduceToNat, Int.reduceMul, Nat.reduceMul, F47, spLI_eq, rdL_sl, rdB_blk, onL_some, f47, hl, res45])
noncomputable def f45 (xs : List Int) (z : Int) : Out := if xs.length ≤ 1000 then .v (.b (conB xs z)) else .no
theorem f45_ok (xs : List Int) (z : Int) : OutOK (f45 xs z) := by unfold f45; split <;> first | rfl | trivial
theorem ok45 : SOK Try.prog 45 (spLI f45) := spLI_ok Try.func45 n45 b45 k45 r45 f45_ok fun el xs z cap hne => by
  unfold f45 at hne ⊢
  split
  · rename_i hl; exact run45 el xs z cap hl
  · rename_i hl; rw [if_neg hl] at hne; exact absurd rfl hne
end Go.Proofs.Ytcgkcdgpmopdnaa.Ev
