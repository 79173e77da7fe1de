/- The till: choose, and ways. -/
import Derived.Test.YtkdbgkibifigiaaTtQ
import Derived.Test.YtkdbgkibifigiaaTlC
namespace Go.Proofs.Ytkdbgkibifigiaa.Ev
set_option linter.unusedVariables false
set_option linter.unusedSimpArgs false
set_option maxRecDepth 100000
open Go Go.Proofs
attribute [local go_sem] evC_seq evC_reg evC_cond evC_block evC_skip evC_exit evC_ret evR_cons evR_nil evR_gd guardB_tt guardB_ff guardB_tf guardB_ft guardB_none bindR_ok bindR_okn rgRs_ok seqR_nor seqR_ext seqR_ret condR_true condR_false blockR_nor blockR_ext blockR_ret evX_t evX_c evXL_nil evXL_cons O_mv O_bin O_pick O_eqb O_not O_ext O_call O_conv O_slen O_six O_sbi pv_I pv_i pv_b pv_s pv_ns pv_sl pv_p pv_tu pv_ag bin_lss bin_leq bin_gtr bin_geq bin_eql bin_neq bin8_eql bin8_neq bin_add bin_sub bin_mul get_st get_lf bind_nil bind_cons if_true if_false Got_nor Got_ext Got_ret Kseq Kblk Klp Kend onStr_s onB_b onT_tu onI_I onN_I onK_I eqb_b not_b nthL_0 nthL_1 nthL_2 known_nil known_cons I_known known_b known_s evRVs_nil evRVs_cons evRes_1 evRes_2 evRV_tmp Bool.and_true Bool.true_and Bool.and_self Bool.not_true Bool.not_false decide_true decide_false Int.toNat_natCast true_and and_true big hget_same hget_ne newB_n onP_p onS_sl onS_ns O_fad O_alloc_if O_ixs O_len O_ld O_st O_box boxB_if ldB_if ldB_agif stB_if toL_I toL_i toL_b toL_s toL_sl toL_ns toL_ag allC_nil allC_cons isC_i isC_b isC_s isC_sl isC_ns I_isC Llen_nil Llen_cons Lget_0 Lget_1 Lget_2 Lget_3 blkL_size cell_blkL_if getL_blkL_if getL_setL_if setL_sz evRV_cell' rvB_agif rvB_if evPL_cons bldK_if evPL_nil O_build O_part evBuild_ok okL_some onA_ag partV_1 evPart_eq updS_nil updS_cons upd_0 upd_1 upd_2 upd_3 ge_iff_le if_pos and_self Nat.le_refl known_ag known_sl known_ns known_i ov_at spS_eq spSI_eq spSII_eq spI_eq spII_eq spIII_eq spIIII_eq res_v res_sl res_slE Good I_pur pur_b pur_s pur_i pur_ns pur_ag pur_tu purL_nil purL_cons evDr_eq evDs_nil evDs_cons dsR_ok stepD_eq sdB_n sdB_g sdG_tt sdG_ff sdG_tf sdG_ft sdG_none runD_0 rdR_f rdR_t baseOf_pu baseOf_h baseU_nil baseA_nil baseA_0 baseR_nil baseR_0 baseR_00 appAll_nil appAll_0 restr_nil restr_cons setD_some setD_none evC_draw iL_len iL_get iL_allC iL_pur hp0_0 hp0_c rdL_ns rdL_sl List.length_cons List.length_nil O_mks mkB_if O_bsl bslB_if O_app apX_ns apX_sl apN_some apS_some blkL_el Nat.one_mul Nat.mul_one Nat.zero_add n_I onF_fn O_callv app_nil app_cons spLF_eq spL_eq spLL_eq onL_some onLL_ss onLL_ns onLL_sn onLL_nn rdB_blk Int.cast_ofNat_Int

/-! Structs of three numbers. -/
noncomputable def ag3 (a b c : Int) : V := .ag (.cons (I a) (.cons (I b) (.cons (I c) .nil)))
theorem rel_ag {g g' : Sig} {l l' : L} (h : ∀ us, L.rel g l us → L.rel g' l' us) : ∀ u, V.rel g (.ag l) u → V.rel g' (.ag l') u := fun u hu => by
  rw [V.rel] at hu ⊢
  obtain ⟨vs, e, hr⟩ := hu
  exact ⟨vs, e, h vs hr⟩
noncomputable def spA (f : Int → Int → Int → Out) (args : L) (_ : Nat) (h : Hp) (n : Nat) : Res := match args with
  | .cons (.ag (.cons v (.cons u (.cons t .nil)))) .nil => (match asI v, asI u, asI t with | some z, some y, some x => (f z y x).res h n | _, _, _ => .no)
  | _ => .no
theorem spA_eq (f : Int → Int → Int → Out) (z y x : Int) (lim : Nat) (h : Hp) (n : Nat) : spA f (.cons (.ag (.cons (I z) (.cons (I y) (.cons (I x) .nil)))) .nil) lim h n = (f z y x).res h n := by simp only [spA, asI_I]
theorem spA_mo (f : Int → Int → Int → Out) : SMo (spA f) := fun args lim h n => by unfold spA; split <;> (try split) <;> first | exact Out.res_ge _ _ _ | trivial
theorem spA_ok {P : Program} {k : Nat} {f : Int → Int → Int → Out} (hc : ∀ z y x lim h n v h' n', (f z y x).res h n = .ok v h' n' → CallsOK P k (.cons (ag3 z y x) .nil) lim h n v h' n') : SOK P k (spA f) := fun args lim h n v h' n' hr => by
  unfold spA at hr
  split at hr
  · split at hr
    · rename_i hz hy hx
      exact callsArgs (fun g => rel_cons (rel_ag (rel_cons (fun _ => asI_rel hz) (rel_cons (fun _ => asI_rel hy) (rel_cons (fun _ => asI_rel hx) fun _ h => h)))) fun _ h => h) (hc _ _ _ _ _ _ _ _ _ hr)
    · cases hr
  · cases hr
noncomputable def spAS (f : Int → Int → Int → List Nat → Out) (args : L) (_ : Nat) (h : Hp) (n : Nat) : Res := match args with
  | .cons (.ag (.cons v (.cons u (.cons t .nil)))) (.cons (.s bs) .nil) => (match asI v, asI u, asI t with | some z, some y, some x => (f z y x bs).res h n | _, _, _ => .no)
  | _ => .no
theorem spAS_eq (f : Int → Int → Int → List Nat → Out) (z y x : Int) (bs : List Nat) (lim : Nat) (h : Hp) (n : Nat) : spAS f (.cons (.ag (.cons (I z) (.cons (I y) (.cons (I x) .nil)))) (.cons (.s bs) .nil)) lim h n = (f z y x bs).res h n := by simp only [spAS, asI_I]
theorem spAS_mo (f : Int → Int → Int → List Nat → Out) : SMo (spAS f) := fun args lim h n => by unfold spAS; split <;> (try split) <;> first | exact Out.res_ge _ _ _ | trivial
theorem spAS_ok {P : Program} {k : Nat} {f : Int → Int → Int → List Nat → Out} (hc : ∀ z y x bs lim h n v h' n', (f z y x bs).res h n = .ok v h' n' → CallsOK P k (.cons (ag3 z y x) (.cons (.s bs) .nil)) lim h n v h' n') : SOK P k (spAS f) := fun args lim h n v h' n' hr => by
  unfold spAS at hr
  split at hr
  · split at hr
    · rename_i hz hy hx
      exact callsArgs (fun g => rel_cons (rel_ag (rel_cons (fun _ => asI_rel hz) (rel_cons (fun _ => asI_rel hy) (rel_cons (fun _ => asI_rel hx) fun _ h => h)))) (rel_cons (fun _ h => h) fun _ h => h)) (hc _ _ _ _ _ _ _ _ _ _ hr)
    · cases hr
  · cases hr
theorem ag3_pur (a b c : Int) : (ag3 a b c).pur = true := by simp [ag3, V.pur, L.pur, I_pur]

/-! The ways to choose some of all. -/
def chooseF (all : Int) : Nat → Int
  | 0 => 1
  | k + 1 => chooseF all k * (all - k) / (k + 1)
def chN (a : Nat) : Nat → Nat
  | 0 => 1
  | k + 1 => chN a k * (a - k) / (k + 1)
theorem chF (a : Nat) : ∀ k : Nat, k ≤ a → chooseF a k = chN a k
  | 0, _ => rfl
  | k + 1, h => by
    rw [chooseF, chN, chF a k (by omega), Int.natCast_ediv, Int.natCast_mul, Int.natCast_sub (by omega)]
    rfl
theorem ch_chk : ((List.range 17).all fun a => (List.range 17).all fun k => decide (a < k) || (decide (chN a k * (a - k) < 1000000) && decide (chN a k < 100000))) = true := by decide +kernel
theorem ch_le {a k : Nat} (ha : a ≤ 16) (hk : k ≤ a) : chN a k * (a - k) < 1000000 ∧ chN a k < 100000 := by
  have := List.all_eq_true.1 (List.all_eq_true.1 ch_chk a (List.mem_range.2 (by omega))) k (List.mem_range.2 (by omega))
  simp only [Bool.or_eq_true, Bool.and_eq_true, decide_eq_true_eq] at this
  omega
def cI (a s : Int) : Int := if s < 0 then 0 else chN a.toNat s.toNat
theorem cI_rng {a s : Int} (h0 : 0 ≤ a) (h1 : a ≤ 16) (h2 : s ≤ a) : 0 ≤ cI a s ∧ cI a s < 100000 := by
  unfold cI
  split
  · omega
  · have := (ch_le (a := a.toNat) (k := s.toNat) (by omega) (by omega)).2
    omega
set_option maxHeartbeats 4000000 in
theorem run70 (all some_ : Int) (h0 : 0 ≤ all) (h1 : all ≤ 16) (h2 : some_ ≤ all) : JQ Try.prog drops Try.f70.ntmps F0 q70 256 (Kend res70 (Good 0 (.v (I (cI all some_))))) (bind (.cons (I all) (.cons (I some_) .nil)) 0 .lf) .lf 256 := by
  have hF := F0_ok Try.prog
  have hM := F0_mono
  obtain ⟨a, rfl⟩ : ∃ a : Nat, all = a := ⟨all.toNat, by omega⟩
  unfold q70
  (refine JQ.step follows hF hM ?_; simp (config := { maxSteps := 4000000 }) (disch := (omega)) only [go_sem, Nat.reduceLT, Nat.reduceEqDiff, reduceIte, Nat.reduceAdd, Nat.reduceSub, Nat.reduceLeDiff, Int.reduceEq, Int.reduceLT, Int.reduceLE, Int.reduceNeg, Int.reduceAdd, Int.reduceSub, Int.reduceToNat, Int.reduceMul, Nat.reduceMul])
  by_cases hs : some_ < 0
  · (refine JQ.step follows hF hM ?_; simp (config := { maxSteps := 4000000 }) (disch := (omega)) only [go_sem, Nat.reduceLT, Nat.reduceEqDiff, reduceIte, Nat.reduceAdd, Nat.reduceSub, Nat.reduceLeDiff, Int.reduceEq, Int.reduceLT, Int.reduceLE, Int.reduceNeg, Int.reduceAdd, Int.reduceSub, Int.reduceToNat, Int.reduceMul, Nat.reduceMul, hs, res70, cI])
  · obtain ⟨s, rfl⟩ : ∃ s : Nat, some_ = s := ⟨some_.toNat, by omega⟩
    have hc : cI a s = chooseF a s := by rw [cI, if_neg hs, chF a s (by omega)]; simp
    rw [hc]
    (refine JQ.step follows hF hM ?_; simp (config := { maxSteps := 4000000 }) (disch := (omega)) only [go_sem, Nat.reduceLT, Nat.reduceEqDiff, reduceIte, Nat.reduceAdd, Nat.reduceSub, Nat.reduceLeDiff, Int.reduceEq, Int.reduceLT, Int.reduceLE, Int.reduceNeg, Int.reduceAdd, Int.reduceSub, Int.reduceToNat, Int.reduceMul, Nat.reduceMul, hs])
    (refine JQ.step follows hF hM ?_; simp (config := { maxSteps := 4000000 }) (disch := (omega)) only [go_sem, Nat.reduceLT, Nat.reduceEqDiff, reduceIte, Nat.reduceAdd, Nat.reduceSub, Nat.reduceLeDiff, Int.reduceEq, Int.reduceLT, Int.reduceLE, Int.reduceNeg, Int.reduceAdd, Int.reduceSub, Int.reduceToNat, Int.reduceMul, Nat.reduceMul])
    refine JQ.seq ?_
    (refine JQ.step follows hF hM ?_; simp (config := { maxSteps := 4000000 }) (disch := (omega)) only [go_sem, Nat.reduceLT, Nat.reduceEqDiff, reduceIte, Nat.reduceAdd, Nat.reduceSub, Nat.reduceLeDiff, Int.reduceEq, Int.reduceLT, Int.reduceLE, Int.reduceNeg, Int.reduceAdd, Int.reduceSub, Int.reduceToNat, Int.reduceMul, Nat.reduceMul])
    refine JQ.block ?_
    refine JQ.loop (σ := Nat) (fun k => k ≤ s) (fun k => (((Tr.lf.set (I a) (tp 0)).set (I (chooseF a k)) (tp 5)).set (I s) (tp 9)).set (I k) (tp 10)) (fun _ => .lf) (fun _ => 256) (fun k => s - k) 0 (Nat.zero_le _) ?_ (HpLe.refl _) rfl ?_
    · ((repeat' (first | exact EnvLe.lf _ | refine EnvLe.set (by decide) ?_ ?_)) <;> first | exact EnvLe.lf _ | (simp (config := { maxSteps := 4000000 }) (disch := (omega)) only [go_sem, Nat.reduceLT, Nat.reduceEqDiff, reduceIte, Nat.reduceAdd, Nat.reduceSub, Nat.reduceLeDiff, Int.reduceEq, Int.reduceLT, Int.reduceLE, Int.reduceNeg, Int.reduceAdd, Int.reduceSub, Int.reduceToNat, Int.reduceMul, Nat.reduceMul, chooseF, Int.natCast_add, Int.cast_ofNat_Int]; done) | (simp (config := { maxSteps := 4000000 }) (disch := (omega)) only [go_sem, Nat.reduceLT, Nat.reduceEqDiff, reduceIte, Nat.reduceAdd, Nat.reduceSub, Nat.reduceLeDiff, Int.reduceEq, Int.reduceLT, Int.reduceLE, Int.reduceNeg, Int.reduceAdd, Int.reduceSub, Int.reduceToNat, Int.reduceMul, Nat.reduceMul, chooseF, Int.natCast_add, Int.cast_ofNat_Int] <;> first | rfl | (congr 1; omega)))
    · intro k hk
      unfold q70_l0
      by_cases hlt : k < s
      · have hlt' : (k : Int) < (s : Int) := by omega
        have hb := (ch_le (a := a) (k := k) (by omega) (by omega)).1
        have hm : chooseF a k * ((a : Int) - k) = ((chN a k * (a - k) : Nat) : Int) := by rw [chF a k (by omega), Int.natCast_mul, Int.natCast_sub (by omega)]
        have h3 : 0 ≤ chooseF a k * ((a : Int) - k) := by rw [hm]; omega
        have h4 : chooseF a k * ((a : Int) - k) < 1000000 := by rw [hm]; omega
        (refine JQ.run follows hF hM ?_; simp (config := { maxSteps := 4000000 }) (disch := (omega)) only [go_sem, Nat.reduceLT, Nat.reduceEqDiff, reduceIte, Nat.reduceAdd, Nat.reduceSub, Nat.reduceLeDiff, Int.reduceEq, Int.reduceLT, Int.reduceLE, Int.reduceNeg, Int.reduceAdd, Int.reduceSub, Int.reduceToNat, Int.reduceMul, Nat.reduceMul, hlt', bin_quo])
        exact ⟨k + 1, by omega, by omega, by ((repeat' (first | exact EnvLe.lf _ | refine EnvLe.set (by decide) ?_ ?_)) <;> first | exact EnvLe.lf _ | (simp (config := { maxSteps := 4000000 }) (disch := (omega)) only [go_sem, Nat.reduceLT, Nat.reduceEqDiff, reduceIte, Nat.reduceAdd, Nat.reduceSub, Nat.reduceLeDiff, Int.reduceEq, Int.reduceLT, Int.reduceLE, Int.reduceNeg, Int.reduceAdd, Int.reduceSub, Int.reduceToNat, Int.reduceMul, Nat.reduceMul, chooseF, Int.natCast_add, Int.cast_ofNat_Int]; done) | (simp (config := { maxSteps := 4000000 }) (disch := (omega)) only [go_sem, Nat.reduceLT, Nat.reduceEqDiff, reduceIte, Nat.reduceAdd, Nat.reduceSub, Nat.reduceLeDiff, Int.reduceEq, Int.reduceLT, Int.reduceLE, Int.reduceNeg, Int.reduceAdd, Int.reduceSub, Int.reduceToNat, Int.reduceMul, Nat.reduceMul, chooseF, Int.natCast_add, Int.cast_ofNat_Int] <;> first | rfl | (congr 1; omega))), HpLe.refl _⟩
      · obtain rfl : k = s := by omega
        (refine JQ.run follows hF hM ?_; simp (config := { maxSteps := 4000000 }) (disch := (omega)) only [go_sem, Nat.reduceLT, Nat.reduceEqDiff, reduceIte, Nat.reduceAdd, Nat.reduceSub, Nat.reduceLeDiff, Int.reduceEq, Int.reduceLT, Int.reduceLE, Int.reduceNeg, Int.reduceAdd, Int.reduceSub, Int.reduceToNat, Int.reduceMul, Nat.reduceMul, Int.lt_irrefl])
        (refine JQ.run follows hF hM ?_; simp (config := { maxSteps := 4000000 }) (disch := (omega)) only [go_sem, Nat.reduceLT, Nat.reduceEqDiff, reduceIte, Nat.reduceAdd, Nat.reduceSub, Nat.reduceLeDiff, Int.reduceEq, Int.reduceLT, Int.reduceLE, Int.reduceNeg, Int.reduceAdd, Int.reduceSub, Int.reduceToNat, Int.reduceMul, Nat.reduceMul, res70])
noncomputable def f70 (a s : Int) : Out := if 0 ≤ a ∧ a ≤ 16 ∧ s ≤ a then .v (I (cI a s)) else .no
theorem ok70 : SOK Try.prog 70 (spII f70) := spII_ok fun a s lim h n v h' n' hr => by
  unfold f70 at hr
  split at hr
  · rename_i hb
    exact outC Try.func70 n70 b70 k70 r70 (Ins.none h) (by simp [L.length]) (ren_nil_rel (by simp only [purL_cons, purL_nil, I_pur, Bool.and_self])) (.v (I (cI a s))) (I_pur _) (run70 a s hb.1 hb.2.1 hb.2.2) lim n hr
  · cases hr

theorem run71 (a b c : Int) (h0 : -1000 ≤ a ∧ a ≤ 1000) (h1 : -1000 ≤ c ∧ c ≤ 1000) :
    JQ Try.prog drops Try.f71.ntmps F0 q71 256 (Kend res71 (Good 0 (.v (ag3 (a - 1) b (c + 1))))) (bind (.cons (ag3 a b c) .nil) 0 .lf) .lf 256 := by
  have hF := F0_ok Try.prog
  have hM := F0_mono
  unfold q71 ag3
  (refine JQ.step follows hF hM ?_; simp (config := { maxSteps := 4000000 }) (disch := (omega)) only [go_sem, Nat.reduceLT, Nat.reduceEqDiff, reduceIte, Nat.reduceAdd, Nat.reduceSub, Nat.reduceLeDiff, Int.reduceEq, Int.reduceLT, Int.reduceLE, Int.reduceNeg, Int.reduceAdd, Int.reduceSub, Int.reduceToNat, Int.reduceMul, Nat.reduceMul])
  (refine JQ.run follows hF hM ?_; simp (config := { maxSteps := 4000000 }) (disch := (omega)) only [go_sem, Nat.reduceLT, Nat.reduceEqDiff, reduceIte, Nat.reduceAdd, Nat.reduceSub, Nat.reduceLeDiff, Int.reduceEq, Int.reduceLT, Int.reduceLE, Int.reduceNeg, Int.reduceAdd, Int.reduceSub, Int.reduceToNat, Int.reduceMul, Nat.reduceMul, res71])
noncomputable def f71 (a b c : Int) : Out := if (-1000 ≤ a ∧ a ≤ 1000) ∧ -1000 ≤ c ∧ c ≤ 1000 then .v (ag3 (a - 1) b (c + 1)) else .no
theorem ok71 : SOK Try.prog 71 (spA f71) := spA_ok fun a b c lim h n v h' n' hr => by
  unfold f71 at hr
  split at hr
  · rename_i hb
    exact outC Try.func71 n71 b71 k71 r71 (Ins.none h) (by simp [L.length]) (ren_nil_rel (by simp only [purL_cons, purL_nil, ag3_pur, Bool.and_self])) (.v (ag3 (a - 1) b (c + 1))) (ag3_pur _ _ _) (run71 a b c hb.1 hb.2) lim n hr
  · cases hr
theorem run72 (a b c : Int) (h0 : -1000 ≤ b ∧ b ≤ 1000) (h1 : -1000 ≤ c ∧ c ≤ 1000) :
    JQ Try.prog drops Try.f72.ntmps F0 q72 256 (Kend res72 (Good 0 (.v (ag3 a (b - 1) (c - 1))))) (bind (.cons (ag3 a b c) .nil) 0 .lf) .lf 256 := by
  have hF := F0_ok Try.prog
  have hM := F0_mono
  unfold q72 ag3
  (refine JQ.step follows hF hM ?_; simp (config := { maxSteps := 4000000 }) (disch := (omega)) only [go_sem, Nat.reduceLT, Nat.reduceEqDiff, reduceIte, Nat.reduceAdd, Nat.reduceSub, Nat.reduceLeDiff, Int.reduceEq, Int.reduceLT, Int.reduceLE, Int.reduceNeg, Int.reduceAdd, Int.reduceSub, Int.reduceToNat, Int.reduceMul, Nat.reduceMul])
  (refine JQ.run follows hF hM ?_; simp (config := { maxSteps := 4000000 }) (disch := (omega)) only [go_sem, Nat.reduceLT, Nat.reduceEqDiff, reduceIte, Nat.reduceAdd, Nat.reduceSub, Nat.reduceLeDiff, Int.reduceEq, Int.reduceLT, Int.reduceLE, Int.reduceNeg, Int.reduceAdd, Int.reduceSub, Int.reduceToNat, Int.reduceMul, Nat.reduceMul, res72])
noncomputable def f72 (a b c : Int) : Out := if (-1000 ≤ b ∧ b ≤ 1000) ∧ -1000 ≤ c ∧ c ≤ 1000 then .v (ag3 a (b - 1) (c - 1)) else .no
theorem ok72 : SOK Try.prog 72 (spA f72) := spA_ok fun a b c lim h n v h' n' hr => by
  unfold f72 at hr
  split at hr
  · rename_i hb
    exact outC Try.func72 n72 b72 k72 r72 (Ins.none h) (by simp [L.length]) (ren_nil_rel (by simp only [purL_cons, purL_nil, ag3_pur, Bool.and_self])) (.v (ag3 a (b - 1) (c - 1))) (ag3_pur _ _ _) (run72 a b c hb.1 hb.2) lim n hr
  · cases hr

/-- In how many orders they can come. -/
def wF (c n b : Int) : Int := if c < 0 ∨ c + b < n then 0 else cI (c + n) n - cI (c + n) (n - b - 1)
noncomputable def F57 : FF := ov 70 (spII f70) F0
theorem F57_ok : FOK Try.prog F57 := ov_ok ok70 (F0_ok _)
theorem F57_mono : F57.mono := ov_mono (spII_mo _) F0_mono
set_option maxHeartbeats 4000000 in
theorem run57 (c n b : Int) (h0 : -1 ≤ c) (h1 : 0 ≤ n) (h2 : c + n ≤ 16) (h3 : 0 ≤ b) (h4 : b ≤ 100) : JQ Try.prog drops Try.f57.ntmps F57 q57 256 (Kend res57 (Good 0 (.v (I (wF c n b))))) (bind (.cons (ag3 c n b) .nil) 0 .lf) .lf 256 := by
  have hF := F57_ok
  have hM := F57_mono
  unfold q57 ag3
  (refine JQ.step follows hF hM ?_; simp (config := { maxSteps := 4000000 }) (disch := (omega)) only [go_sem, Nat.reduceLT, Nat.reduceEqDiff, reduceIte, Nat.reduceAdd, Nat.reduceSub, Nat.reduceLeDiff, Int.reduceEq, Int.reduceLT, Int.reduceLE, Int.reduceNeg, Int.reduceAdd, Int.reduceSub, Int.reduceToNat, Int.reduceMul, Nat.reduceMul])
  by_cases hc : c < 0
  · have hw : wF c n b = 0 := by rw [wF, if_pos (.inl hc)]
    rw [hw]
    (refine JQ.step follows hF hM ?_; simp (config := { maxSteps := 4000000 }) (disch := (omega)) only [go_sem, Nat.reduceLT, Nat.reduceEqDiff, reduceIte, Nat.reduceAdd, Nat.reduceSub, Nat.reduceLeDiff, Int.reduceEq, Int.reduceLT, Int.reduceLE, Int.reduceNeg, Int.reduceAdd, Int.reduceSub, Int.reduceToNat, Int.reduceMul, Nat.reduceMul, eq_true hc, res57])
  · by_cases hn : c + b < n
    · have hw : wF c n b = 0 := by rw [wF, if_pos (.inr hn)]
      rw [hw]
      (refine JQ.step follows hF hM ?_; simp (config := { maxSteps := 4000000 }) (disch := (omega)) only [go_sem, Nat.reduceLT, Nat.reduceEqDiff, reduceIte, Nat.reduceAdd, Nat.reduceSub, Nat.reduceLeDiff, Int.reduceEq, Int.reduceLT, Int.reduceLE, Int.reduceNeg, Int.reduceAdd, Int.reduceSub, Int.reduceToNat, Int.reduceMul, Nat.reduceMul, eq_false hc, eq_true hn, res57])
    · have hw : wF c n b = cI (c + n) n - cI (c + n) (n - b - 1) := by rw [wF, if_neg (by omega)]
      have r1 := cI_rng (a := c + n) (s := n) (by omega) h2 (by omega)
      have r2 := cI_rng (a := c + n) (s := n - b - 1) (by omega) h2 (by omega)
      rw [hw]
      (refine JQ.step follows hF hM ?_; simp (config := { maxSteps := 4000000 }) (disch := (omega)) only [go_sem, Nat.reduceLT, Nat.reduceEqDiff, reduceIte, Nat.reduceAdd, Nat.reduceSub, Nat.reduceLeDiff, Int.reduceEq, Int.reduceLT, Int.reduceLE, Int.reduceNeg, Int.reduceAdd, Int.reduceSub, Int.reduceToNat, Int.reduceMul, Nat.reduceMul, eq_false hc, eq_false hn])
      (refine JQ.step follows hF hM ?_; simp (config := { maxSteps := 4000000 }) (disch := (omega)) only [go_sem, Nat.reduceLT, Nat.reduceEqDiff, reduceIte, Nat.reduceAdd, Nat.reduceSub, Nat.reduceLeDiff, Int.reduceEq, Int.reduceLT, Int.reduceLE, Int.reduceNeg, Int.reduceAdd, Int.reduceSub, Int.reduceToNat, Int.reduceMul, Nat.reduceMul])
      (refine JQ.run follows hF hM ?_; simp (config := { maxSteps := 4000000 }) (disch := (omega)) only [go_sem, Nat.reduceLT, Nat.reduceEqDiff, reduceIte, Nat.reduceAdd, Nat.reduceSub, Nat.reduceLeDiff, Int.reduceEq, Int.reduceLT, Int.reduceLE, Int.reduceNeg, Int.reduceAdd, Int.reduceSub, Int.reduceToNat, Int.reduceMul, Nat.reduceMul, F57, f70, res57, evDr_eq])
noncomputable def f57 (c n b : Int) : Out := if -1 ≤ c ∧ 0 ≤ n ∧ c + n ≤ 16 ∧ 0 ≤ b ∧ b ≤ 100 then .v (I (wF c n b)) else .no
theorem ok57 : SOK Try.prog 57 (spA f57) := spA_ok fun a b c lim h n v h' n' hr => by
  unfold f57 at hr
  split at hr
  · rename_i hb
    exact outC Try.func57 n57 b57 k57 r57 (Ins.none h) (by simp [L.length]) (ren_nil_rel (by simp only [purL_cons, purL_nil, ag3_pur, Bool.and_self])) (.v (I (wF a b c))) (I_pur _) (run57 a b c hb.1 hb.2.1 hb.2.2.1 hb.2.2.2.1 hb.2.2.2.2) lim n hr
  · cases hr
end Go.Proofs.Ytkdbgkibifigiaa.Ev
