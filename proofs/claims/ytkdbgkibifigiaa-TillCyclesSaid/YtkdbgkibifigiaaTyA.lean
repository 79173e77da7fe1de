/- The till's laws: an order by its number. -/
import Derived.Test.YtkdbgkibifigiaaTtE
namespace Go.Proofs.Ytkdbgkibifigiaa.Ev
set_option linter.unusedVariables false
set_option linter.unusedSimpArgs false
set_option maxRecDepth 100000
open Go Go.Proofs
attribute [local go_sem] evC_seq evC_reg evC_cond evC_block evC_skip evC_exit evC_ret evR_cons evR_nil evR_gd guardB_tt guardB_ff guardB_tf guardB_ft guardB_none bindR_ok bindR_okn rgRs_ok seqR_nor seqR_ext seqR_ret condR_true condR_false blockR_nor blockR_ext blockR_ret evX_t evX_c evXL_nil evXL_cons O_mv O_bin O_pick O_eqb O_not O_ext O_call O_conv O_slen O_six O_sbi pv_I pv_i pv_b pv_s pv_ns pv_sl pv_p pv_tu pv_ag bin_lss bin_leq bin_gtr bin_geq bin_eql bin_neq bin8_eql bin8_neq bin_add bin_sub bin_mul get_st get_lf bind_nil bind_cons if_true if_false Got_nor Got_ext Got_ret Kseq Kblk Klp Kend onStr_s onB_b onT_tu onI_I onN_I onK_I eqb_b not_b nthL_0 nthL_1 nthL_2 known_nil known_cons I_known known_b known_s evRVs_nil evRVs_cons evRes_1 evRes_2 evRV_tmp Bool.and_true Bool.true_and Bool.and_self Bool.not_true Bool.not_false decide_true decide_false Int.toNat_natCast true_and and_true big hget_same hget_ne newB_n onP_p onS_sl onS_ns O_fad O_alloc_if O_ixs O_len O_ld O_st O_box boxB_if ldB_if ldB_agif stB_if toL_I toL_i toL_b toL_s toL_sl toL_ns toL_ag allC_nil allC_cons isC_i isC_b isC_s isC_sl isC_ns I_isC Llen_nil Llen_cons Lget_0 Lget_1 Lget_2 Lget_3 blkL_size cell_blkL_if getL_blkL_if getL_setL_if setL_sz evRV_cell' rvB_agif rvB_if evPL_cons bldK_if evPL_nil O_build O_part evBuild_ok okL_some onA_ag partV_1 evPart_eq updS_nil updS_cons upd_0 upd_1 upd_2 upd_3 ge_iff_le if_pos and_self Nat.le_refl known_ag known_sl known_ns known_i ov_at spS_eq spSI_eq spSII_eq spI_eq spII_eq spIII_eq spIIII_eq res_v res_sl res_slE Good I_pur pur_b pur_s pur_i pur_ns pur_ag pur_tu purL_nil purL_cons evDr_eq evDs_nil evDs_cons dsR_ok stepD_eq sdB_n sdB_g sdG_tt sdG_ff sdG_tf sdG_ft sdG_none runD_0 rdR_f rdR_t baseOf_pu baseOf_h baseU_nil baseA_nil baseA_0 baseR_nil baseR_0 baseR_00 appAll_nil appAll_0 restr_nil restr_cons setD_some setD_none evC_draw iL_len iL_get iL_allC iL_pur hp0_0 hp0_c rdL_ns rdL_sl List.length_cons List.length_nil O_mks mkB_if O_bsl bslB_if O_app apX_ns apX_sl apN_some apS_some blkL_el Nat.one_mul Nat.mul_one Nat.zero_add n_I onF_fn O_callv app_nil app_cons spLF_eq spL_eq spLL_eq onL_some onLL_ss onLL_ns onLL_sn onLL_nn rdB_blk Int.cast_ofNat_Int
noncomputable def q44_l0 : IC := ((IC.reg (RL.cons (some (tp 16)) none (O.bin .lss (X.t (tp 15)) (X.t (tp 14))) RL.nil)).seq ((IC.cond (X.t (tp 16)) IC.skip (IC.exit 0)).seq ((IC.block 1 ((IC.reg (RL.cons (some (tp 17)) none (O.mv (X.t (tp 15))) (RL.cons (some (tp 7)) none (O.mv (X.t (tp 17))) RL.nil))).seq (IC.reg (RL.cons (some (tp 18)) none (O.mv (X.t (tp 6))) (RL.cons (some (tp 19)) none (O.fad 1 (X.t (tp 2))) (RL.cons (some (tp 20)) none (O.ld 1 false (X.t (tp 19))) (RL.cons (some (tp 21)) none (O.mv (X.t (tp 7))) (RL.cons (some (tp 22)) none (O.bin .shr (X.t (tp 20)) (X.t (tp 21))) (RL.cons (some (tp 23)) none (O.bin .and (X.t (tp 22)) (X.c (V.i .u16 1))) (RL.cons (some (tp 24)) none (O.ssl (X.c (V.s [99, 110])) (some (X.t (tp 23))) none) (RL.cons (some (tp 25)) none (O.ssl (X.t (tp 24)) none (some (X.c (I 1)))) (RL.cons (some (tp 26)) none (O.sbi .add (X.t (tp 18)) (X.t (tp 25))) (RL.cons (some (tp 6)) none (O.mv (X.t (tp 26))) RL.nil))))))))))))).seq (IC.reg (RL.cons (some (tp 27)) none (O.bin .add (X.t (tp 15)) (X.c (I 1))) (RL.cons (some (tp 15)) none (O.mv (X.t (tp 27))) RL.nil))))))
noncomputable def q44 : IC := ((IC.reg (RL.cons (some (tp 2)) none (O.box 52 (X.t (tp 0))) (RL.cons (some (tp 4)) none (O.mv (X.c (V.s []))) RL.nil))).seq ((IC.reg (RL.cons (some (tp 8)) none (O.fad 0 (X.t (tp 2))) (RL.cons (some (tp 9)) none (O.ld 1 false (X.t (tp 8))) (RL.cons (some (tp 10)) none (O.conv .i64 (X.t (tp 9))) (RL.cons (some (tp 11)) none (O.mv (X.t (tp 1))) (RL.cons (some (tp 12)) none (O.bin .add (X.t (tp 11)) (X.c (I 1))) (RL.cons (some (tp 13)) none (O.bin .rem (X.t (tp 10)) (X.t (tp 12))) (RL.cons (some (tp 5)) none (O.mv (X.t (tp 13))) RL.nil)))))))).seq ((IC.reg (RL.cons (some (tp 6)) none (O.mv (X.c (V.s []))) RL.nil)).seq (((IC.reg (RL.cons (some (tp 14)) none (O.mv (X.t (tp 5))) (RL.cons (some (tp 15)) none (O.mv (X.c (I 0))) RL.nil))).seq (IC.block 0 (IC.loop q44_l0))).seq ((IC.reg (RL.cons (some (tp 28)) none (O.mv (X.t (tp 6))) (RL.cons (some (tp 4)) none (O.mv (X.t (tp 28))) RL.nil))).seq IC.ret)))))
noncomputable def res44 : List RV := [RV.tmp (tp 4)]
noncomputable def c44 : Code := match Try.f44.body with | some c => c | none => .skip
theorem b44 : Try.f44.body = some c44 := by kernel_rfl
theorem k44 : compC Try.prog drops Try.f44.ntmps c44 = some q44 := by kernel_rfl
theorem r44 : compRVs Try.prog Try.f44.results.toList = some res44 := by kernel_rfl
theorem n44 : (Try.f44.name == "runtime.NumGoroutine") = false := by kernel_rfl

theorem onK_i {β : Type} (k : IntKind) (z : Int) (f : IntKind → Int → β) (s : β) : onK (.i k z) f s = f k z := rfl
theorem mkI_64 (z : Int) : mkI .i64 z = I z := rfl
theorem mkI_16 (z : Int) : mkI .u16 z = .i .u16 z := by cases z <;> simp only [mkI, fN_eq]
theorem bin16_shr (a z : Int) (h : 0 ≤ z) : binV .shr (.i .u16 a) (I z) = .i .u16 (a.fdiv (2 ^ (min z.toNat 16))) := by
  have e : binV .shr (.i .u16 a) (I z) = slowB .shr (.i .u16 a) (I z) := rfl
  rw [e]
  simp only [slowB]
  rw [onK_i, onK_I, if_neg (by omega), mkI_16]
  rfl
def bt (a : Int) : Nat := (BitVec.ofInt 16 a &&& BitVec.ofInt 16 1).toNat
theorem bt_le (a : Int) : bt a ≤ 1 := by
  unfold bt
  rw [BitVec.toNat_and]
  exact Nat.and_le_right
theorem bin16_and (a : Int) : binV .and (.i .u16 a) (.i .u16 1) = .i .u16 (bt a : Int) := by
  have e : binV .and (.i .u16 a) (.i .u16 1) = slowB .and (.i .u16 a) (.i .u16 1) := rfl
  rw [e]
  simp only [slowB, onK_i, if_true, slowI]
  rw [mkI_16]
  have h := bt_le a
  have e2 : IntKind.u16.wrap (bt a : Int) = (bt a : Int) := by
    simp [IntKind.wrap, IntKind.bits, IntKind.signed]; omega
  exact congrArg (V.i .u16) e2
def chL (z : Int) (k : Nat) : List Nat := ([99, 110].drop (bt (z.fdiv (2 ^ (min k 16))))).take 1
theorem chL_two (z : Int) (k : Nat) : chL z k = [99] ∨ chL z k = [110] := by
  have h := bt_le (z.fdiv (2 ^ (min k 16)))
  unfold chL
  generalize bt (z.fdiv (2 ^ (min k 16))) = b at h
  match b, h with
  | 0, _ => exact .inl rfl
  | 1, _ => exact .inr rfl
def mdS (z : Int) : Nat → List Nat
  | 0 => []
  | k + 1 => mdS z k ++ chL z k
theorem mdS_len (z : Int) : ∀ k, (mdS z k).length = k
  | 0 => rfl
  | k + 1 => by
    rw [mdS, List.length_append, mdS_len z k]
    rcases chL_two z k with e | e <;> rw [e] <;> rfl
theorem mdS_mem (z : Int) : ∀ k, ∀ x ∈ mdS z k, x = 99 ∨ x = 110
  | 0, x, h => by cases h
  | k + 1, x, h => by
    rw [mdS, List.mem_append] at h
    rcases h with h | h
    · exact mdS_mem z k x h
    · rcases chL_two z k with e | e <;> rw [e, List.mem_singleton] at h
      · exact .inl h
      · exact .inr h
noncomputable def ordV (c z : Int) : V := .ag (.cons (.i .u8 c) (.cons (.i .u16 z) .nil))
set_option maxHeartbeats 4000000 in
theorem run44 (c z : Int) (h0 : 0 ≤ c) (h1 : c ≤ 255) : JQ Try.prog drops Try.f44.ntmps F0 q44 256 (Kend res44 (Good 0 (.v (.s (mdS z (c % 17).toNat))))) (bind (.cons (ordV c z) (.cons (I 16) .nil)) 0 .lf) .lf 256 := by
  have hF := F0_ok Try.prog
  have hM := F0_mono
  obtain ⟨n, hn⟩ : ∃ n : Nat, (n : Int) = c % 17 := ⟨(c % 17).toNat, by omega⟩
  have hn2 : (c % 17).toNat = n := by omega
  have hw : IntKind.i64.wrap c = c := wrap64 (by omega) (by omega)
  rw [hn2]
  unfold q44 ordV
  (refine JQ.step follows hF hM ?_; simp (config := { maxSteps := 4000000 }) (disch := (omega)) only [go_sem, Nat.reduceLT, Nat.reduceEqDiff, reduceIte, Nat.reduceAdd, Nat.reduceSub, Nat.reduceLeDiff, Int.reduceEq, Int.reduceLT, Int.reduceLE, Int.reduceNeg, Int.reduceAdd, Int.reduceSub, Int.reduceToNat, Int.reduceMul, Nat.reduceMul])
  (refine JQ.step follows hF hM ?_; simp (config := { maxSteps := 4000000 }) (disch := (omega)) only [go_sem, Nat.reduceLT, Nat.reduceEqDiff, reduceIte, Nat.reduceAdd, Nat.reduceSub, Nat.reduceLeDiff, Int.reduceEq, Int.reduceLT, Int.reduceLE, Int.reduceNeg, Int.reduceAdd, Int.reduceSub, Int.reduceToNat, Int.reduceMul, Nat.reduceMul, onK_i, mkI_64, hw, bin_rem, ← hn])
  (refine JQ.step follows hF hM ?_; simp (config := { maxSteps := 4000000 }) (disch := (omega)) only [go_sem, Nat.reduceLT, Nat.reduceEqDiff, reduceIte, Nat.reduceAdd, Nat.reduceSub, Nat.reduceLeDiff, Int.reduceEq, Int.reduceLT, Int.reduceLE, Int.reduceNeg, Int.reduceAdd, Int.reduceSub, Int.reduceToNat, Int.reduceMul, Nat.reduceMul])
  refine JQ.seq ?_
  (refine JQ.step follows hF hM ?_; simp (config := { maxSteps := 4000000 }) (disch := (omega)) only [go_sem, Nat.reduceLT, Nat.reduceEqDiff, reduceIte, Nat.reduceAdd, Nat.reduceSub, Nat.reduceLeDiff, Int.reduceEq, Int.reduceLT, Int.reduceLE, Int.reduceNeg, Int.reduceAdd, Int.reduceSub, Int.reduceToNat, Int.reduceMul, Nat.reduceMul])
  refine JQ.block ?_
  refine JQ.loop (σ := Nat) (fun k => k ≤ n) (fun k => (((Tr.lf.set (.p (tp 255) 0) (tp 2)).set (.s (mdS z k)) (tp 6)).set (I n) (tp 14)).set (I k) (tp 15)) (fun _ => Hp.lf.put (some (blkL 52 (.cons (.i .u8 c) (.cons (.i .u16 z) .nil)))) (tp 255)) (fun _ => 257) (fun k => n - k) 0 (Nat.zero_le _) (by ((repeat' (first | exact EnvLe.lf _ | refine EnvLe.set (by decide) ?_ ?_)) <;> first | exact EnvLe.lf _ | (simp (config := { maxSteps := 4000000 }) (disch := (omega)) only [go_sem, Nat.reduceLT, Nat.reduceEqDiff, reduceIte, Nat.reduceAdd, Nat.reduceSub, Nat.reduceLeDiff, Int.reduceEq, Int.reduceLT, Int.reduceLE, Int.reduceNeg, Int.reduceAdd, Int.reduceSub, Int.reduceToNat, Int.reduceMul, Nat.reduceMul, mdS, Int.natCast_add, Int.cast_ofNat_Int]; done) | (simp (config := { maxSteps := 4000000 }) (disch := (omega)) only [go_sem, Nat.reduceLT, Nat.reduceEqDiff, reduceIte, Nat.reduceAdd, Nat.reduceSub, Nat.reduceLeDiff, Int.reduceEq, Int.reduceLT, Int.reduceLE, Int.reduceNeg, Int.reduceAdd, Int.reduceSub, Int.reduceToNat, Int.reduceMul, Nat.reduceMul, mdS, Int.natCast_add, Int.cast_ofNat_Int] <;> first | rfl | (congr 1; omega)))) (HpLe.refl _) rfl ?_
  intro k hk
  unfold q44_l0
  by_cases hlt : k < n
  · have hlt' : (k : Int) < (n : Int) := by omega
    have hb := bt_le (z.fdiv (2 ^ (min k 16)))
    have hl := mdS_len z k
    (refine JQ.run follows hF hM ?_; simp (config := { maxSteps := 4000000 }) (disch := (omega)) only [go_sem, Nat.reduceLT, Nat.reduceEqDiff, reduceIte, Nat.reduceAdd, Nat.reduceSub, Nat.reduceLeDiff, Int.reduceEq, Int.reduceLT, Int.reduceLE, Int.reduceNeg, Int.reduceAdd, Int.reduceSub, Int.reduceToNat, Int.reduceMul, Nat.reduceMul, hlt', bin16_shr, bin16_and, O_ssl_a, O_ssl_b, onI_nat, List.length_drop, List.length_take, strV_add, hl])
    exact ⟨k + 1, by omega, by omega, by ((repeat' (first | exact EnvLe.lf _ | refine EnvLe.set (by decide) ?_ ?_)) <;> first | exact EnvLe.lf _ | (simp (config := { maxSteps := 4000000 }) (disch := (omega)) only [go_sem, Nat.reduceLT, Nat.reduceEqDiff, reduceIte, Nat.reduceAdd, Nat.reduceSub, Nat.reduceLeDiff, Int.reduceEq, Int.reduceLT, Int.reduceLE, Int.reduceNeg, Int.reduceAdd, Int.reduceSub, Int.reduceToNat, Int.reduceMul, Nat.reduceMul, mdS, chL, Int.natCast_add, Int.cast_ofNat_Int]; done) | (simp (config := { maxSteps := 4000000 }) (disch := (omega)) only [go_sem, Nat.reduceLT, Nat.reduceEqDiff, reduceIte, Nat.reduceAdd, Nat.reduceSub, Nat.reduceLeDiff, Int.reduceEq, Int.reduceLT, Int.reduceLE, Int.reduceNeg, Int.reduceAdd, Int.reduceSub, Int.reduceToNat, Int.reduceMul, Nat.reduceMul, mdS, chL, Int.natCast_add, Int.cast_ofNat_Int] <;> first | rfl | (congr 1; omega))), HpLe.refl _⟩
  · obtain rfl : k = n := by omega
    (refine JQ.run follows hF hM ?_; simp (config := { maxSteps := 4000000 }) (disch := (omega)) only [go_sem, Nat.reduceLT, Nat.reduceEqDiff, reduceIte, Nat.reduceAdd, Nat.reduceSub, Nat.reduceLeDiff, Int.reduceEq, Int.reduceLT, Int.reduceLE, Int.reduceNeg, Int.reduceAdd, Int.reduceSub, Int.reduceToNat, Int.reduceMul, Nat.reduceMul, Int.lt_irrefl])
    (refine JQ.run follows hF hM ?_; simp (config := { maxSteps := 4000000 }) (disch := (omega)) only [go_sem, Nat.reduceLT, Nat.reduceEqDiff, reduceIte, Nat.reduceAdd, Nat.reduceSub, Nat.reduceLeDiff, Int.reduceEq, Int.reduceLT, Int.reduceLE, Int.reduceNeg, Int.reduceAdd, Int.reduceSub, Int.reduceToNat, Int.reduceMul, Nat.reduceMul, res44])


noncomputable def f44 (c z m : Int) : Out := if m = 16 ∧ 0 ≤ c ∧ c ≤ 255 then .v (.s (mdS z (c % 17).toNat)) else .no
noncomputable def s44 (args : L) (_ : Nat) (h : Hp) (n : Nat) : Res := match args with
  | .cons (.ag (.cons (.i .u8 c) (.cons (.i .u16 z) .nil))) (.cons v .nil) => (match asI v with | some m => (f44 c z m).res h n | none => .no)
  | _ => .no
theorem s44_eq (c z m : Int) (lim : Nat) (h : Hp) (n : Nat) : s44 (.cons (.ag (.cons (.i .u8 c) (.cons (.i .u16 z) .nil))) (.cons (I m) .nil)) lim h n = (f44 c z m).res h n := by simp only [s44, asI_I]
theorem s44_mo : SMo s44 := fun args lim h n => by unfold s44; split <;> (try split) <;> first | exact Out.res_ge _ _ _ | trivial
theorem ok44 : SOK Try.prog 44 s44 := fun args lim h n v h' n' hr => by
  unfold s44 at hr
  split at hr
  · rename_i c z v0
    split at hr
    · rename_i m hm
      refine callsArgs (fun g => rel_cons (fun _ h => h) (rel_cons (fun _ => asI_rel hm) fun _ h => h)) ?_
      unfold f44 at hr
      split at hr
      · rename_i hb
        obtain ⟨rfl, h0, h1⟩ := hb
        exact outC Try.func44 n44 b44 k44 r44 (Ins.none h) (by simp [L.length]) (ren_nil_rel (by simp only [ordV, purL_cons, purL_nil, pur_ag, pur_i, I_pur, Bool.and_self])) (.v (.s (mdS z (c % 17).toNat))) rfl (run44 c z h0 h1) lim n hr
      · cases hr
    · cases hr
  · cases hr
theorem chkS_md (z : Int) (n : Nat) (h : n ≤ 16) : chkS (mdS z n) = 0 := by
  refine chk_pass (by rw [mdS_len]; omega) fun j hj => ?_
  have h1 := mdS_mem z n ((mdS z n)[j]) (List.getElem_mem hj)
  unfold byt
  rw [show (mdS z n).getD j 0 = (mdS z n)[j] by simp [List.getD, List.getElem?_eq_getElem hj]]
  rcases h1 with e | e <;> rw [e]
  · exact .inl rfl
  · exact .inr rfl
end Go.Proofs.Ytkdbgkibifigiaa.Ev
