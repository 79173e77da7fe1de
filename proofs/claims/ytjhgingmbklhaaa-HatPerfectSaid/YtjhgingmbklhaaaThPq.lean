/- Whether a list has a number: the reference's has, as a contract. -/
import Derived.Test.YtjhgingmbklhaaaThPb
import Derived.Test.YtjhgingmbklhaaaEvLi
namespace Go.Proofs.Ytjhgingmbklhaaa.Ev
set_option linter.unusedVariables false
set_option linter.unusedSimpArgs false
set_option maxRecDepth 100000
open Go Go.Proofs Go.RowKit
attribute [local go_sem] evC_seq evC_reg evC_cond evC_block evC_skip evC_exit evC_ret evR_cons evR_nil evR_gd guardB_tt guardB_ff guardB_tf guardB_ft guardB_none bindR_ok bindR_okn rgRs_ok seqR_nor seqR_ext seqR_ret condR_true condR_false blockR_nor blockR_ext blockR_ret evX_t evX_c evXL_nil evXL_cons O_mv O_bin O_pick O_eqb O_not O_ext O_call O_conv O_slen O_six O_sbi pv_I pv_i pv_b pv_s pv_ns pv_sl pv_p pv_tu pv_ag bin_lss bin_leq bin_gtr bin_geq bin_eql bin_neq bin8_eql bin8_neq bin_add bin_sub bin_mul get_st get_lf bind_nil bind_cons if_true if_false Got_nor Got_ext Got_ret Kseq Kblk Klp Kend onStr_s onB_b onT_tu onI_I onN_I onK_I eqb_b not_b nthL_0 nthL_1 nthL_2 known_nil known_cons I_known known_b known_s evRVs_nil evRVs_cons evRes_1 evRes_2 evRV_tmp Bool.and_true Bool.true_and Bool.and_self Bool.not_true Bool.not_false decide_true decide_false Int.toNat_natCast true_and and_true big hget_same hget_ne newB_n onP_p onS_sl onS_ns O_fad O_alloc_if O_ixs O_len O_ld O_st O_box boxB_if ldB_if ldB_agif stB_if stB_wif toL_I toL_i toL_b toL_s toL_sl toL_ns toL_ag allC_nil allC_cons isC_i isC_b isC_s isC_sl isC_ns I_isC Llen_nil Llen_cons Lget_0 Lget_1 Lget_2 Lget_3 blkL_size cell_blkL_if getL_blkL_if getL_setL_if setL_sz evRV_cell' rvB_agif rvB_if evPL_cons bldK_if evPL_nil O_build O_part evBuild_ok okL_some onA_ag partV_1 evPart_eq updS_nil updS_cons upd_0 upd_1 upd_2 upd_3 ge_iff_le if_pos and_self Nat.le_refl known_ag known_sl known_ns known_i ov_at spS_eq spSI_eq spSII_eq spI_eq spII_eq spIII_eq spIIII_eq res_v res_sl res_slE Good I_pur pur_b pur_s pur_i pur_ns pur_ag pur_tu purL_nil purL_cons evDr_eq evDs_nil evDs_cons dsR_ok stepD_eq sdB_n sdB_g sdG_tt sdG_ff sdG_tf sdG_ft sdG_none runD_0 rdR_f rdR_t baseOf_pu baseOf_h baseU_nil baseA_nil baseA_0 baseR_nil baseR_0 baseR_00 appAll_nil appAll_0 restr_nil restr_cons setD_some setD_none evC_draw iL_len iL_get iL_allC iL_pur hp0_0 hp0_c rdL_ns rdL_sl List.length_cons List.length_nil O_mks mkB_if O_bsl bslB_if O_app apX_ns apX_sl apN_some apS_some blkL_el Nat.one_mul Nat.mul_one Nat.zero_add n_I onF_fn O_callv app_nil app_cons spLF_eq spL_eq spLL_eq onL_some onLL_ss onLL_ns onLL_sn onLL_nn rdB_blk Int.cast_ofNat_Int tlX_none tlX_some tlOf_cons tlOf_1 tlOf_1t tlM_none tlM_some
noncomputable def q82_l0 : IC := (.seq (.seq (.reg (.cons (some (tp 6)) none (.mv (.t (tp 5))) (.cons (some (tp 7)) none (.mv (.t (tp 0))) (.cons (some (tp 8)) none (.len (.t (tp 7))) (.cons (some (tp 9)) none 
  (.bin .lss (.t (tp 6)) (.t (tp 8))) .nil))))) (.cond (.t (tp 9)) .skip (.exit 0))) (.seq (.block 1 (.seq (.reg (.cons (some (tp 12)) none (.mv (.t (tp 0))) (.cons (some (tp 13)) 
  none (.mv (.t (tp 5))) (.cons (some (tp 14)) none (.ixs 1 (.t (tp 12)) (.t (tp 13))) (.cons (some (tp 15)) none (.ld 1 false (.t (tp 14))) (.cons (some (tp 16)) none (.mv (.t (tp 
  1))) (.cons (some (tp 17)) none (.bin .eql (.t (tp 15)) (.t (tp 16))) .nil))))))) (.cond (.t (tp 17)) (.seq (.reg (.cons (some (tp 4)) none (.mv (.c (.b true))) .nil)) .ret) 
  .skip))) (.reg (.cons (some (tp 10)) none (.mv (.t (tp 5))) (.cons (some (tp 11)) none (.bin .add (.t (tp 10)) (.c (I 1))) (.cons (some (tp 5)) none (.mv (.t (tp 11))) .nil))))))
noncomputable def q82 : IC := (.seq (.reg (.cons (some (tp 4)) none (.mv (.c (.b false))) .nil)) (.seq (.seq (.reg (.cons (some (tp 5)) none (.mv (.c (I 0))) .nil)) (.block 0 (IC.loop q82_l0))) (.seq (.reg 
  (.cons (some (tp 4)) none (.mv (.c (.b false))) .nil)) .ret)))
noncomputable def res82 : List RV := [(.tmp (tp 4))]
noncomputable def c82c : Code := match Try.f82.body with | some c => c | none => .skip
theorem b82 : Try.f82.body = some c82c := by kernel_rfl
theorem k82 : compC Try.prog drops Try.f82.ntmps c82c = some q82 := by kernel_rfl
theorem r82 : compRVs Try.prog Try.f82.results.toList = some res82 := by kernel_rfl
theorem n82 : (Try.f82.name == "runtime.NumGoroutine") = false := by kernel_rfl
def hasB (xs : List Int) (z : Int) : Bool := xs.any fun x => decide (x = z)
theorem hasB_at {xs : List Int} {z : Int} {k : Nat} (hk : k < xs.length) (h : At xs k = z) : hasB xs z = true := by
  refine List.any_eq_true.2 ⟨xs[k], List.getElem_mem hk, ?_⟩
  rw [At, List.getElem?_eq_getElem hk] at h
  simpa using h
theorem hasB_no {xs : List Int} {z : Int} (h : ∀ i, i < xs.length → At xs i ≠ z) : hasB xs z = false := by
  cases hb : hasB xs z with
  | false => rfl
  | true =>
    obtain ⟨x, hx, e⟩ := List.any_eq_true.1 hb
    obtain ⟨i, hi, e2⟩ := List.getElem_of_mem hx
    have := h i hi
    rw [At, List.getElem?_eq_getElem hi] at this
    rw [← e2] at e
    exact absurd (by simpa using e) this
theorem run82 (el : TypeId) (xs : List Int) (z : Int) (cap : Option Nat) (hl : xs.length ≤ 1000) : JQ Try.prog drops Try.f82.ntmps F0 q82 257 (Kend res82 (Good 1 (.v (.b (hasB xs z))))) (bind (.cons (.sl (tp 255) 0 1 xs.length cap) (.cons (I z) .nil)) 0 .lf) (hp0 [blkL el (iL xs)] 255) 257 := by
  have hF := F0_ok Try.prog
  have hM := F0_mono
  unfold q82
  (refine JQ.step follows hF hM ?_; simp (config := { maxSteps := 4000000 }) (disch := (omega)) only [go_sem, Nat.reduceLT, Nat.reduceEqDiff, reduceIte, Nat.reduceAdd, Nat.reduceSub, Nat.reduceLeDiff, Int.reduceEq, Int.reduceLT, Int.reduceLE, Int.reduceNeg, Int.reduceAdd, Int.reduceSub, Int.reduceToNat, Int.reduceMul, Nat.reduceMul])
  refine JQ.seq ?_
  (refine JQ.step follows hF hM ?_; simp (config := { maxSteps := 4000000 }) (disch := (omega)) only [go_sem, Nat.reduceLT, Nat.reduceEqDiff, reduceIte, Nat.reduceAdd, Nat.reduceSub, Nat.reduceLeDiff, Int.reduceEq, Int.reduceLT, Int.reduceLE, Int.reduceNeg, Int.reduceAdd, Int.reduceSub, Int.reduceToNat, Int.reduceMul, Nat.reduceMul])
  refine JQ.block ?_
  refine JQ.loop (σ := Nat) (fun k => k ≤ xs.length ∧ ∀ i, i < k → At xs i ≠ z) (fun k => ((Tr.lf.set (.sl (tp 255) 0 1 xs.length cap) (tp 0)).set (I z) (tp 1)).set (I k) (tp 5))
    (fun k => Hp.lf.put (some (blkL el (iL xs))) (tp 255)) (fun _ => 257) (fun k => xs.length - k) 0 ⟨Nat.zero_le _, fun i hi => by omega⟩ (by ((repeat' (first | exact EnvLe.lf _ | refine EnvLe.set (by decide) ?_ ?_)) <;> first | exact EnvLe.lf _ | (simp (config := { maxSteps := 4000000 }) (disch := (omega)) only [go_sem, Nat.reduceLT, Nat.reduceEqDiff, reduceIte, Nat.reduceAdd, Nat.reduceSub, Nat.reduceLeDiff, Int.reduceEq, Int.reduceLT, Int.reduceLE, Int.reduceNeg, Int.reduceAdd, Int.reduceSub, Int.reduceToNat, Int.reduceMul, Nat.reduceMul, Int.natCast_add, Int.cast_ofNat_Int]; done) | (simp (config := { maxSteps := 4000000 }) (disch := (omega)) only [go_sem, Nat.reduceLT, Nat.reduceEqDiff, reduceIte, Nat.reduceAdd, Nat.reduceSub, Nat.reduceLeDiff, Int.reduceEq, Int.reduceLT, Int.reduceLE, Int.reduceNeg, Int.reduceAdd, Int.reduceSub, Int.reduceToNat, Int.reduceMul, Nat.reduceMul, Int.natCast_add, Int.cast_ofNat_Int] <;> first | rfl | (congr 1; omega)))) (HpLe.refl _) rfl ?_
  rintro k ⟨hk, h0⟩
  unfold q82_l0
  by_cases hlt : k < xs.length
  · have hlt' : (k : Int) < (xs.length : Int) := by omega
    by_cases hc : At xs k = z
    · have e := hasB_at hlt hc
      (refine JQ.run follows hF hM ?_; simp (config := { maxSteps := 4000000 }) (disch := (omega)) only [go_sem, Nat.reduceLT, Nat.reduceEqDiff, reduceIte, Nat.reduceAdd, Nat.reduceSub, Nat.reduceLeDiff, Int.reduceEq, Int.reduceLT, Int.reduceLE, Int.reduceNeg, Int.reduceAdd, Int.reduceSub, Int.reduceToNat, Int.reduceMul, Nat.reduceMul, hlt', hlt, iL_len, iL_get, onI_I, hc, res82, e])
    · (refine JQ.run follows hF hM ?_; simp (config := { maxSteps := 4000000 }) (disch := (omega)) only [go_sem, Nat.reduceLT, Nat.reduceEqDiff, reduceIte, Nat.reduceAdd, Nat.reduceSub, Nat.reduceLeDiff, Int.reduceEq, Int.reduceLT, Int.reduceLE, Int.reduceNeg, Int.reduceAdd, Int.reduceSub, Int.reduceToNat, Int.reduceMul, Nat.reduceMul, hlt', hlt, iL_len, iL_get, onI_I, eq_false hc, eq_false (Ne.symm hc)])
      refine ⟨k + 1, ⟨by omega, fun i hi => ?_⟩, by omega, by ((repeat' (first | exact EnvLe.lf _ | refine EnvLe.set (by decide) ?_ ?_)) <;> first | exact EnvLe.lf _ | (simp (config := { maxSteps := 4000000 }) (disch := (omega)) only [go_sem, Nat.reduceLT, Nat.reduceEqDiff, reduceIte, Nat.reduceAdd, Nat.reduceSub, Nat.reduceLeDiff, Int.reduceEq, Int.reduceLT, Int.reduceLE, Int.reduceNeg, Int.reduceAdd, Int.reduceSub, Int.reduceToNat, Int.reduceMul, Nat.reduceMul, Int.natCast_add, Int.cast_ofNat_Int]; done) | (simp (config := { maxSteps := 4000000 }) (disch := (omega)) only [go_sem, Nat.reduceLT, Nat.reduceEqDiff, reduceIte, Nat.reduceAdd, Nat.reduceSub, Nat.reduceLeDiff, Int.reduceEq, Int.reduceLT, Int.reduceLE, Int.reduceNeg, Int.reduceAdd, Int.reduceSub, Int.reduceToNat, Int.reduceMul, Nat.reduceMul, Int.natCast_add, Int.cast_ofNat_Int] <;> first | rfl | (congr 1; omega))), HpLe.refl _⟩
      rcases Nat.lt_or_ge i k with h | h
      · exact h0 i h
      · obtain rfl : i = k := by omega
        exact hc
  · obtain rfl : k = xs.length := by omega
    have e := hasB_no h0
    (refine JQ.run follows hF hM ?_; simp (config := { maxSteps := 4000000 }) (disch := (omega)) only [go_sem, Nat.reduceLT, Nat.reduceEqDiff, reduceIte, Nat.reduceAdd, Nat.reduceSub, Nat.reduceLeDiff, Int.reduceEq, Int.reduceLT, Int.reduceLE, Int.reduceNeg, Int.reduceAdd, Int.reduceSub, Int.reduceToNat, Int.reduceMul, Nat.reduceMul, Int.lt_irrefl])
    (refine JQ.run follows hF hM ?_; simp (config := { maxSteps := 4000000 }) (disch := (omega)) only [go_sem, Nat.reduceLT, Nat.reduceEqDiff, reduceIte, Nat.reduceAdd, Nat.reduceSub, Nat.reduceLeDiff, Int.reduceEq, Int.reduceLT, Int.reduceLE, Int.reduceNeg, Int.reduceAdd, Int.reduceSub, Int.reduceToNat, Int.reduceMul, Nat.reduceMul, res82, e])
noncomputable def f82 (xs : List Int) (z : Int) : Out := if xs.length ≤ 1000 then .v (.b (hasB xs z)) else .no
theorem f82_ok (xs : List Int) (z : Int) : OutOK (f82 xs z) := by unfold f82; split <;> first | exact rfl | trivial
theorem ok82 : SOK Try.prog 82 (spLI f82) := spLI_ok Try.func82 n82 b82 k82 r82 f82_ok fun el xs z cap hne => by
  unfold f82 at hne ⊢
  split
  · rename_i hl; exact run82 el xs z cap hl
  · rename_i hl; rw [if_neg hl] at hne; exact absurd rfl hne
end Go.Proofs.Ytjhgingmbklhaaa.Ev

/-! The reference's search for covering codes of four helpers: with less than four elements it finds none. -/
namespace Go.Proofs.Ytjhgingmbklhaaa.Ev
set_option linter.unusedVariables false
set_option maxRecDepth 100000
open Go Go.Proofs Go.RowKit
/-- A colouring of four helpers with another hat. -/
noncomputable def xr (c i : Nat) : Nat := Nat.xor c (Nat.pow 2 i)
noncomputable def spT (args : L) (_ : Nat) (h : Hp) (n : Nat) : Res := match args with
  | .cons (.n c) (.cons (.n i) .nil) => Bool.rec .no (.ok (.n (xr c i)) h n) (and (Nat.blt c 16) (Nat.blt i 4))
  | _ => .no
theorem spT_mo : SMo spT := fun args lim h n => by
  unfold spT
  split
  · rename_i c i
    cases and (Nat.blt c 16) (Nat.blt i 4) with
    | false => trivial
    | true => exact Nat.le_refl n
  · trivial
theorem tT : ((List.range 16).all fun c => (List.range 4).all fun i => isX (.n (xr c i)) (EF 60 83 (.cons (.n c) (.cons (.n i) .nil)) 256 .lf 256)) = true := by kernel_rfl
theorem okT : SOK Try.prog 83 spT := fun args lim h n v h' n' hr => by
  unfold spT at hr
  split at hr
  · rename_i c i
    cases hb : and (Nat.blt c 16) (Nat.blt i 4) with
    | false => rw [hb] at hr; cases hr
    | true =>
      rw [hb] at hr
      cases hr
      simp only [Bool.and_eq_true, Nat.blt_eq] at hb
      obtain ⟨h2, n2, e1, e2⟩ := isX_ok (List.all_eq_true.1 (List.all_eq_true.1 tT c (List.mem_range.2 hb.1)) i (List.mem_range.2 hb.2))
      exact callsAny rfl ((EF_ok 60).1 83 _ 256 .lf 256 _ h2 n2 e1) e2 rfl rfl lim _ _
  · cases hr
noncomputable def WT (G : FF) : FF := ovF 82 (spLI f82) (ovF 83 spT G)
theorem WT_mono (G : FF) (h : G.mono) : (WT G).mono := ovF_mono (spLI_mo _) (ovF_mono spT_mo h)
theorem WT_ok (G : FF) (h : FOK Try.prog G) : FOK Try.prog (WT G) := ovF_ok ok82 (ovF_ok okT h)
noncomputable def ET (d : Nat) : FF := EQ WT d
theorem ET_ok (d : Nat) : FOK Try.prog (ET d) := EQ_ok WT_mono WT_ok d
theorem ET_mono (d : Nat) : (ET d).mono := EQ_mono WT_mono d
noncomputable def q92 : IC := i92.q
noncomputable def res92 : List RV := i92.r
noncomputable def c92c : Code := match Try.f92.body with | some c => c | none => .skip
theorem b92 : Try.f92.body = some c92c := by kernel_rfl
theorem k92 : compC Try.prog drops Try.f92.ntmps c92c = some q92 := by kernel_rfl
theorem r92 : compRVs Try.prog Try.f92.results.toList = some res92 := by kernel_rfl
theorem n92 : (Try.f92.name == "runtime.NumGoroutine") = false := by kernel_rfl
/-- Codes of three elements that begin with a: none. -/
noncomputable def eV (el a : Nat) (cap : Option Nat) : Bool := finX .ns res92 ((kC q92 nK).f (ET 60) 257 (bind (.cons (.n 4) (.cons (.sl (tp 255) 0 1 1 cap) (.cons (.n 2) .nil))) 0 .lf) (hp0 [blkL el (iL [(a : Int)])] 255) 257)
end Go.Proofs.Ytjhgingmbklhaaa.Ev

/-! The reference's search, by its first element. -/
namespace Go.Proofs.Ytjhgingmbklhaaa.Ev
set_option linter.unusedVariables false
set_option maxRecDepth 100000
open Go Go.Proofs Go.RowKit
theorem ev0 : (fun el cap => eV el 0 cap) = fun _ _ => true := by kernel_rfl
theorem ev1 : (fun el cap => eV el 1 cap) = fun _ _ => true := by kernel_rfl
theorem ev2 : (fun el cap => eV el 2 cap) = fun _ _ => true := by kernel_rfl
theorem ev3 : (fun el cap => eV el 3 cap) = fun _ _ => true := by kernel_rfl
theorem ev4 : (fun el cap => eV el 4 cap) = fun _ _ => true := by kernel_rfl
theorem ev5 : (fun el cap => eV el 5 cap) = fun _ _ => true := by kernel_rfl
theorem ev6 : (fun el cap => eV el 6 cap) = fun _ _ => true := by kernel_rfl
theorem ev7 : (fun el cap => eV el 7 cap) = fun _ _ => true := by kernel_rfl
theorem ev8 : (fun el cap => eV el 8 cap) = fun _ _ => true := by kernel_rfl
theorem ev9 : (fun el cap => eV el 9 cap) = fun _ _ => true := by kernel_rfl
theorem ev10 : (fun el cap => eV el 10 cap) = fun _ _ => true := by kernel_rfl
theorem ev11 : (fun el cap => eV el 11 cap) = fun _ _ => true := by kernel_rfl
theorem ev12 : (fun el cap => eV el 12 cap) = fun _ _ => true := by kernel_rfl
theorem ev13 : (fun el cap => eV el 13 cap) = fun _ _ => true := by kernel_rfl
theorem ev14 : (fun el cap => eV el 14 cap) = fun _ _ => true := by kernel_rfl
theorem ev15 : (fun el cap => eV el 15 cap) = fun _ _ => true := by kernel_rfl
theorem ev_all (el : Nat) (a : Nat) (ha : a < 16) (cap : Option Nat) : eV el a cap = true := by
  rcases (show a = 0 ∨ a = 1 ∨ a = 2 ∨ a = 3 ∨ a = 4 ∨ a = 5 ∨ a = 6 ∨ a = 7 ∨ a = 8 ∨ a = 9 ∨ a = 10 ∨ a = 11 ∨ a = 12 ∨ a = 13 ∨ a = 14 ∨ a = 15 by omega) with rfl | rfl | rfl | rfl | rfl | rfl | rfl | rfl | rfl | rfl | rfl | rfl | rfl | rfl | rfl | rfl
  · exact congrFun (congrFun ev0 el) cap
  · exact congrFun (congrFun ev1 el) cap
  · exact congrFun (congrFun ev2 el) cap
  · exact congrFun (congrFun ev3 el) cap
  · exact congrFun (congrFun ev4 el) cap
  · exact congrFun (congrFun ev5 el) cap
  · exact congrFun (congrFun ev6 el) cap
  · exact congrFun (congrFun ev7 el) cap
  · exact congrFun (congrFun ev8 el) cap
  · exact congrFun (congrFun ev9 el) cap
  · exact congrFun (congrFun ev10 el) cap
  · exact congrFun (congrFun ev11 el) cap
  · exact congrFun (congrFun ev12 el) cap
  · exact congrFun (congrFun ev13 el) cap
  · exact congrFun (congrFun ev14 el) cap
  · exact congrFun (congrFun ev15 el) cap
end Go.Proofs.Ytjhgingmbklhaaa.Ev

/-! The reference's search for covering codes of four helpers: with less than four elements it finds none. -/
namespace Go.Proofs.Ytjhgingmbklhaaa.Ev
set_option linter.unusedVariables false
set_option maxRecDepth 100000
open Go Go.Proofs Go.RowKit
noncomputable def sp3 (args : L) (_ : Nat) (h : Hp) (n : Nat) : Res := match args with
  | .cons (.n m) (.cons sv (.cons (.n k) .nil)) => if m = 4 ∧ k = 2 then (match rdL h sv with | some [a] => if 0 ≤ a ∧ a < 16 then .ok .ns h n else .no | _ => .no) else .no
  | _ => .no
theorem sp3_mo : SMo sp3 := fun args lim h n => by
  unfold sp3
  split
  · split
    · split
      · split
        · exact Nat.le_refl n
        · trivial
      · trivial
    · trivial
  · trivial
theorem ok3 : SOK Try.prog 92 sp3 := fun args lim h n v h' n' hr => by
  unfold sp3 at hr
  split at hr
  · rename_i m sv k
    split at hr
    · rename_i hc
      obtain ⟨rfl, rfl⟩ := hc
      split at hr
      · rename_i a hl
        split at hr
        · rename_i ha
          cases hr
          obtain ⟨b, rfl⟩ : ∃ b : Nat, a = b := ⟨a.toNat, by omega⟩
          unfold rdL at hl
          split at hl
          · cases hl
          · rename_i p off len cap
            obtain ⟨el, I1⟩ := Ins.one hl
            obtain ⟨e1, _⟩ := win hl
            have e2 : len = 1 := e1.symm
            subst e2
            refine outC Try.func92 n92 b92 k92 r92 I1 (args0 := .cons (.n 4) (.cons (.sl (tp 255) 0 1 1 cap) (.cons (.n 2) .nil))) (by simp [L.length]) (fun g => rel_cons (fun u hu => V.pur_rel rfl hu) (rel_cons (fun u hu => sl_ren (j := 0) (by omega) rfl hu) (rel_cons (fun u hu => V.pur_rel rfl hu) fun _ h => L.pur_rel rfl h))) (.v .ns) rfl (JQ.finX follows (ET_ok 60) (ET_mono 60) rfl (ev_all el b (by omega) cap)) lim n rfl
          · cases hl
        · cases hr
      · cases hr
    · cases hr
  · cases hr
noncomputable def WU (G : FF) : FF := ovF 92 sp3 (WT G)
theorem WU_mono (G : FF) (h : G.mono) : (WU G).mono := ovF_mono sp3_mo (WT_mono G h)
theorem WU_ok (G : FF) (h : FOK Try.prog G) : FOK Try.prog (WU G) := ovF_ok ok3 (WT_ok G h)
noncomputable def EU (d : Nat) : FF := EQ WU d
theorem EU_ok (d : Nat) : FOK Try.prog (EU d) := EQ_ok WU_mono WU_ok d
theorem d1 : isX .ns (ET 60 92 (a3 1) 256 .lf 256) = true := by kernel_rfl
theorem d2 : isX .ns (ET 60 92 (a3 2) 256 .lf 256) = true := by kernel_rfl
theorem d3 : isX .ns (EU 60 92 (a3 3) 256 .lf 256) = true := by kernel_rfl
/-- With all these answers. -/
noncomputable def WL (G : FF) : FF := ovF 92 (spE (a3 1) .ns) (ovF 92 (spE (a3 2) .ns) (ovF 92 (spE (a3 3) .ns) (WT (W4 G))))
theorem WL_mono (G : FF) (h : G.mono) : (WL G).mono := ovF_mono (spE_mo _ _) (ovF_mono (spE_mo _ _) (ovF_mono (spE_mo _ _) (WT_mono _ (W4_mono G h))))
theorem WL_ok (G : FF) (h : FOK Try.prog G) : FOK Try.prog (WL G) := ovF_ok (spE_ok (ET_ok 60) d1 rfl rfl) (ovF_ok (spE_ok (ET_ok 60) d2 rfl rfl) (ovF_ok (spE_ok (EU_ok 60) d3 rfl rfl) (WT_ok _ (W4_ok G h))))
noncomputable def EL (d : Nat) : FF := EQ WL d
theorem EL_ok (d : Nat) : FOK Try.prog (EL d) := EQ_ok WL_mono WL_ok d
theorem EL_mono (d : Nat) : (EL d).mono := EQ_mono WL_mono d
end Go.Proofs.Ytjhgingmbklhaaa.Ev

/-! HatPerfect: the reference's search hands back a list: its code once more, with that said. -/
namespace Go.Proofs.Ytjhgingmbklhaaa.Ev
set_option linter.unusedVariables false
set_option maxRecDepth 100000
open Go Go.Proofs Go.RowKit
noncomputable def i92n : FnI := (.mk true false (.seq (.reg (.cons (some x6x) none (.mv (.c .ns)) .nil)) (.seq (.seq (.reg (.cons (some x10x) none (.mv (.t x2x)) (.cons (some x11x) none (.bin .eql (.t x10x) (.c 
  (.n 0))) .nil))) (.cond (.t x11x) (.seq (.seq (.reg (.cons (some x12x) none (.mv (.t x0x)) (.cons (some x13x) none (.mv (.t x1x)) (.cons (some x14x) none (.call 79 (.cons (.t 
  x12x) (.cons (.t x13x) .nil))) (.cons (some x15x) none (.len (.t x14x)) (.cons (some x16x) none (.bin .eql (.t x15x) (.c (.n 0))) .nil)))))) (.cond (.t x16x) (.seq (.reg (.cons 
  (some x17x) none (.mv (.t x1x)) (.cons (some x6x) none (.mv (.t x17x)) .nil))) .ret) .skip)) (.seq (.reg (.cons (some x6x) none (.mv (.c .ns)) .nil)) .ret)) .skip)) (.seq (.reg 
  (.cons (some x7x) none (.mv (.c (.n 0))) .nil)) (.seq (.seq (.reg (.cons (some x18x) none (.mv (.t x1x)) (.cons (some x19x) none (.len (.t x18x)) (.cons (some x20x) none (.bin 
  .gtr (.t x19x) (.c (.n 0))) .nil)))) (.cond (.t x20x) (.reg (.cons (some x21x) none (.mv (.t x1x)) (.cons (some x22x) none (.mv (.t x1x)) (.cons (some x23x) none (.len (.t x22x)) 
  (.cons (some x24x) none (.bin .sub (.t x23x) (.c (.n 1))) (.cons (some x25x) none (.ixs 1 (.t x21x) (.t x24x)) (.cons (some x26x) none (.ld 1 false (.t x25x)) (.cons (some x27x) 
  none (.bin .add (.t x26x) (.c (.n 1))) (.cons (some x7x) none (.mv (.t x27x)) .nil))))))))) .skip)) (.seq (.seq (.reg (.cons (some x28x) none (.mv (.t x7x)) (.cons (some x8x) 
  none (.mv (.t x28x)) .nil))) (.block 0 (.loop (.seq (.seq (.reg (.cons (some x29x) none (.mv (.t x8x)) (.cons (some x30x) none (.mv (.t x0x)) (.cons (some x31x) none (.call 69 
  (.cons (.t x30x) .nil)) (.cons (some x32x) none (.bin .lss (.t x29x) (.t x31x)) .nil))))) (.cond (.t x32x) .skip (.exit 0))) (.seq (.block 1 (.seq (.reg (.cons (some x35x) none 
  (.mv (.t x0x)) (.cons (some x36x) none (.bsl 3 1 0 .nil .nil) (.cons (some x37x) none (.mv (.t x1x)) (.cons (some x38x) none (.app 3 1 8 (.t x36x) (.t x37x)) (.cons (some x39x) 
  none (.mv (.t x8x)) (.cons (some x40x) none (.bsl 3 1 1 (.cons (.n 0) .nil) (.cons 0 1 (.t x39x) .nil)) (.cons (some x41x) none (.app 3 1 8 (.t x38x) (.t x40x)) (.cons (some 
  x42x) none (.mv (.t x2x)) (.cons (some x43x) none (.bin .sub (.t x42x) (.c (.n 1))) (.cons (some x44x) none (.call 92 (.cons (.t x35x) (.cons (.t x41x) (.cons (.t x43x) .nil)))) 
  (.cons (some x9x) none (.mv (.t x44x)) .nil)))))))))))) (.seq (.reg (.cons (some x45x) none (.mv (.t x9x)) (.cons (some x46x) none (.eqn true (.t x45x) (.c .ns)) .nil))) (.cond 
  (.t x46x) (.seq (.reg (.cons (some x47x) none (.mv (.t x9x)) (.cons (some x6x) none (.mv (.t x47x)) .nil))) .ret) .skip)))) (.reg (.cons (some x33x) none (.mv (.t x8x)) (.cons 
  (some x34x) none (.bin .add (.t x33x) (.c (.n 1))) (.cons (some x8x) none (.mv (.t x34x)) .nil))))))))) (.seq (.reg (.cons (some x6x) none (.mv (.c .ns)) .nil)) .ret)))))) [(.tmp 
  x6x)])
theorem cc92n : compF Try.prog drops true false Try.f92 = some i92n := by kernel_rfl
noncomputable def FS2 : List (Nat × FnI) := (92, i92n) :: FS
theorem listed2 : Listed Try.prog FS2 := listed_cons Try.func92 cc92n listed (by decide)
noncomputable def PRT2 : FT := FT.of FS2
noncomputable def EQ2 (W : FF → FF) (d : Nat) : FF := evQ cmp PRT2 W d
theorem EQ2_ok {W : FF → FF} (hM : ∀ G, FF.mono G → (W G).mono) (hW : ∀ G, FOK Try.prog G → FOK Try.prog (W G)) (d : Nat) : FOK Try.prog (EQ2 W d) := evQ_sound follows listed2 hM hW d
theorem EQ2_mono {W : FF → FF} (hM : ∀ G, FF.mono G → (W G).mono) (d : Nat) : (EQ2 W d).mono := evQ_mono _ _ hM d
noncomputable def EX (d : Nat) : FF := EQ2 WL d
theorem EX_ok (d : Nat) : FOK Try.prog (EX d) := EQ2_ok WL_mono WL_ok d
theorem EX_mono (d : Nat) : (EX d).mono := EQ2_mono WL_mono d
end Go.Proofs.Ytjhgingmbklhaaa.Ev
