/- A fan as it is kept: places, kinds, distances, a row without a kind. -/
import Derived.Test.YtcgkcdgpmopdnaaTfQ
namespace Go.Proofs.Ytcgkcdgpmopdnaa.Ev
set_option linter.unusedVariables false
set_option linter.unusedSimpArgs false
open Go Go.Proofs
attribute [local go_sem] evC_seq evC_reg evC_cond evC_block evC_skip evC_exit evC_ret evR_cons evR_nil evR_gd guardB_tt guardB_ff guardB_tf guardB_ft guardB_none bindR_ok bindR_okn rgRs_ok seqR_nor seqR_ext seqR_ret condR_true condR_false blockR_nor blockR_ext blockR_ret evX_t evX_c evXL_nil evXL_cons O_mv O_bin O_pick O_eqb O_not O_ext O_call O_conv O_slen O_six O_sbi pv_I pv_i pv_b pv_s pv_ns pv_sl pv_p pv_tu pv_ag bin_lss bin_leq bin_gtr bin_geq bin_eql bin_neq bin8_eql bin8_neq bin_add bin_sub bin_mul get_st get_lf bind_nil bind_cons if_true if_false Got_nor Got_ext Got_ret Kseq Kblk Klp Kend onStr_s onB_b onT_tu onI_I onN_I onK_I eqb_b not_b nthL_0 nthL_1 nthL_2 known_nil known_cons I_known known_b known_s evRVs_nil evRVs_cons evRes_1 evRes_2 evRV_tmp Bool.and_true Bool.true_and Bool.and_self Bool.not_true Bool.not_false decide_true decide_false Int.toNat_natCast true_and and_true big hget_same hget_ne newB_n onP_p onS_sl onS_ns O_fad O_alloc_if O_ixs O_len O_ld O_st O_box boxB_if ldB_if ldB_agif stB_if stB_wif toL_I toL_i toL_b toL_s toL_sl toL_ns toL_ag allC_nil allC_cons isC_i isC_b isC_s isC_sl isC_ns I_isC Llen_nil Llen_cons Lget_0 Lget_1 Lget_2 Lget_3 blkL_size cell_blkL_if getL_blkL_if getL_setL_if setL_sz evRV_cell' rvB_agif rvB_if evPL_cons bldK_if evPL_nil O_build O_part evBuild_ok okL_some onA_ag partV_1 evPart_eq updS_nil updS_cons upd_0 upd_1 upd_2 upd_3 ge_iff_le if_pos and_self Nat.le_refl known_ag known_sl known_ns known_i ov_at spS_eq spSI_eq spSII_eq spI_eq spII_eq spIII_eq spIIII_eq res_v res_sl res_slE Good I_pur pur_b pur_s pur_i pur_ns pur_ag pur_tu purL_nil purL_cons evDr_eq evDs_nil evDs_cons dsR_ok stepD_eq sdB_n sdB_g sdG_tt sdG_ff sdG_tf sdG_ft sdG_none runD_0 rdR_f rdR_t baseOf_pu baseOf_h baseU_nil baseA_nil baseA_0 baseR_nil baseR_0 baseR_00 appAll_nil appAll_0 restr_nil restr_cons setD_some setD_none evC_draw iL_len iL_get iL_allC iL_pur hp0_0 hp0_c rdL_ns rdL_sl List.length_cons List.length_nil O_mks mkB_if O_bsl bslB_if O_app apX_ns apX_sl apN_some apS_some blkL_el Nat.one_mul Nat.mul_one Nat.zero_add n_I onF_fn O_callv app_nil app_cons spLF_eq spL_eq spLL_eq onL_some onLL_ss onLL_ns onLL_sn onLL_nn rdB_blk Int.cast_ofNat_Int tlX_none tlX_some tlOf_cons tlOf_1 tlOf_1t tlM_none tlM_some

theorem O_ixa (F : FF) (lim : Nat) (e : Tr) (h : Hp) (n : Nat) (len esz : Nat) (x i : X) : (O.ixa len esz x i).ev F e lim h n = pv (onP (evX x e) (fun a o => onI (evX i e) (fun j => if j < len then .p a (o + j * esz) else .bad) .bad) .bad) h n := by
  show evIxa len esz x i e lim h n = _
  unfold evIxa
  congr 1
  congr 1
  funext a o
  congr 1
  funext j
  cases hb : Nat.blt j len
  · rw [if_neg (by rw [← Nat.blt_eq, hb]; simp)]
  · rw [if_pos (by rw [← Nat.blt_eq]; exact hb)]; show fN _ _ = _; rw [fN_eq]; rfl
theorem O_idx (F : FF) (lim : Nat) (e : Tr) (h : Hp) (n : Nat) (len esz : Nat) (agg : Bool) (x i : X) : (O.idx len esz agg x i).ev F e lim h n = pv (onA (evX x e) (fun l => onI (evX i e) (fun j => if j < len then partV (j * esz) esz agg l else .bad) .bad) .bad) h n := by
  show evIdx len esz agg x i e lim h n = _
  unfold evIdx
  congr 1
  congr 1
  funext l
  congr 1
  funext j
  cases hb : Nat.blt j len
  · rw [if_neg (by rw [← Nat.blt_eq, hb]; simp)]
  · rw [if_pos (by rw [← Nat.blt_eq]; exact hb)]
theorem O_eqa (neg : Bool) (sh : Sh) (x y : X) (F : FF) (e : Tr) (lim : Nat) (h : Hp) (n : Nat) : (O.eqa neg sh x y).ev F e lim h n = pv (negV neg (eqSh sh (evX x e) (evX y e))) h n := rfl
theorem nth_iL {xs : List Int} {j : Nat} (h : j < xs.length) : nthL j (iL xs) = I (At xs j) := by rw [nthL_eq, iL_get _ _ h]

/-! A fan as it is kept: kinds, wide, its row. -/
noncomputable def ld (k : Int) (w : Bool) (xs : List Int) : L := .cons (I k) (.cons (.b w) (iL xs))
theorem ld_len (k : Int) (w : Bool) (xs : List Int) : (ld k w xs).length = xs.length + 2 := by show (iL xs).length + 1 + 1 = _; rw [iL_len]
theorem ld_allC (k : Int) (w : Bool) (xs : List Int) : (ld k w xs).allC = true := by show ((I k).isC && ((V.b w).isC && (iL xs).allC)) = true; rw [iL_allC, I_isC]; rfl
theorem ld_pur (k : Int) (w : Bool) (xs : List Int) : (ld k w xs).pur = true := by show ((I k).pur && ((V.b w).pur && (iL xs).pur)) = true; rw [iL_pur, I_pur]; rfl
theorem ld_0 (k : Int) (w : Bool) (xs : List Int) : (ld k w xs).get 0 = I k := rfl
theorem ld_1 (k : Int) (w : Bool) (xs : List Int) : (ld k w xs).get 1 = .b w := rfl
theorem ld_2 (k : Int) (w : Bool) (xs : List Int) {j : Nat} (h : j < xs.length) : (ld k w xs).get (2 + j) = I (At xs j) := by
  rw [Nat.add_comm]; show (iL xs).get j = _; exact iL_get _ _ h
theorem ld_row (el : TypeId) (k : Int) (w : Bool) (xs : List Int) (n : Nat) (h : n = xs.length) : (blkL el (ld k w xs)).getL 2 n = iL xs := by
  subst h
  refine L_ext (by rw [getL_length, iL_len]) fun j hj => ?_
  rw [getL_length] at hj
  rw [getL_get _ _ _ _ hj, blkL_cell _ _ _ (by rw [ld_len]; omega), ld_2 _ _ _ hj, iL_get _ _ hj]

theorem zld_eq : zld = ld 0 false (List.replicate 16 0) := rfl
theorem zld_len : zld.length = 18 := rfl
theorem zld_allC : zld.allC = true := rfl
theorem zld_pur : zld.pur = true := rfl
theorem z16_eq : z16 = iL (List.replicate 16 0) := rfl
theorem z16_len : z16.length = 16 := rfl
/-- The ints of a row. -/
noncomputable def rdI (l : L) : Option (List Int) := L.rec (motive_1 := fun _ => Unit) (motive_2 := fun _ => Option (List Int)) () (fun _ => ()) (fun _ _ => ()) (fun _ => ()) (fun _ _ => ()) () (fun _ _ _ _ _ => ()) () (fun _ _ => ()) (fun _ _ => ()) (fun _ _ _ _ _ => ()) () (fun _ => ()) (fun _ _ _ => ()) () (fun _ => ()) () (fun _ => ()) (fun _ _ _ _ => ()) (some [])
  (fun v _ _ ih => match asI v, ih with | some z, some zs => some (z :: zs) | _, _ => none) l
theorem rdI_nil : rdI .nil = some [] := rfl
theorem rdI_cons (v : V) (l : L) : rdI (.cons v l) = match asI v, rdI l with | some z, some zs => some (z :: zs) | _, _ => none := rfl
theorem rdI_iL : ∀ xs : List Int, rdI (iL xs) = some xs
  | [] => rfl
  | z :: l => by show rdI (.cons (I z) (iL l)) = _; rw [rdI_cons, asI_I, rdI_iL l]
theorem rdI_rel {g : Sig} : ∀ (l : L) (xs : List Int), rdI l = some xs → ∀ us, L.rel g l us → L.rel g (iL xs) us
  | .nil, xs, h, us, hr => by rw [rdI_nil] at h; cases h; exact hr
  | .cons v l, xs, h, us, hr => by
    rw [rdI_cons] at h
    split at h
    · rename_i z zs h1 h2
      cases h
      exact rel_cons (fun _ => asI_rel h1) (rdI_rel l zs h2) us hr
    · cases h
noncomputable def rdA (l : L) : Option (Int × Bool × List Int) := match l with
  | .cons v (.cons (.b w) l) => (match asI v, rdI l with | some k, some xs => some (k, w, xs) | _, _ => none)
  | _ => none
theorem rdA_ld (k : Int) (w : Bool) (xs : List Int) : rdA (ld k w xs) = some (k, w, xs) := by
  show (match asI (I k), rdI (iL xs) with | some k, some xs => some (k, w, xs) | _, _ => none) = _
  rw [asI_I, rdI_iL]
theorem rdA_rel {g : Sig} {l : L} {k : Int} {w : Bool} {xs : List Int} (h : rdA l = some (k, w, xs)) : ∀ us, L.rel g l us → L.rel g (ld k w xs) us := by
  unfold rdA at h
  split at h
  · split at h
    · rename_i h1 h2
      cases h
      exact rel_cons (fun _ => asI_rel h1) (rel_cons (fun _ h => h) (rdI_rel _ _ h2))
    · cases h
  · cases h
theorem ag_rel {g g' : Sig} {l l' : L} (h : ∀ us, L.rel g l us → L.rel g' l' us) : ∀ u, V.rel g (.ag l) u → V.rel g' (.ag l') u := fun u hu => by
  rw [V.rel] at hu ⊢
  obtain ⟨vs, e, hv⟩ := hu
  exact ⟨vs, e, h vs hv⟩
noncomputable def onAd (o : Option (Int × Bool × List Int)) (f : Int → Bool → List Int → Out) (h : Hp) (n : Nat) : Res := match o with | some (k, w, xs) => (f k w xs).res h n | none => .no
theorem onAd_ge (o : Option (Int × Bool × List Int)) (f : Int → Bool → List Int → Out) (h : Hp) (n : Nat) : (onAd o f h n).ge n := by
  unfold onAd; split <;> first | exact Out.res_ge _ _ _ | trivial
noncomputable def spA (f : Int → Bool → List Int → Out) (args : L) (_ : Nat) (h : Hp) (n : Nat) : Res := match args with | .cons (.ag l) .nil => onAd (rdA l) f h n | _ => .no
noncomputable def spAI (f : Int → Bool → List Int → Int → Out) (args : L) (_ : Nat) (h : Hp) (n : Nat) : Res := match args with | .cons (.ag l) (.cons u .nil) => (match asI u with | some z => onAd (rdA l) (fun k w xs => f k w xs z) h n | none => .no) | _ => .no
noncomputable def spAII (f : Int → Bool → List Int → Int → Int → Out) (args : L) (_ : Nat) (h : Hp) (n : Nat) : Res := match args with | .cons (.ag l) (.cons u (.cons t .nil)) => (match asI u, asI t with | some z, some y => onAd (rdA l) (fun k w xs => f k w xs z y) h n | _, _ => .no) | _ => .no
noncomputable def spRI (f : List Int → Int → Out) (args : L) (_ : Nat) (h : Hp) (n : Nat) : Res := match args with | .cons (.ag l) (.cons u .nil) => (match asI u with | some z => onL (rdI l) (fun xs => f xs z) h n | none => .no) | _ => .no
theorem spA_eq (f : Int → Bool → List Int → Out) (k : Int) (w : Bool) (xs : List Int) (lim : Nat) (h : Hp) (n : Nat) : spA f (.cons (.ag (ld k w xs)) .nil) lim h n = (f k w xs).res h n := by simp only [spA, rdA_ld, onAd]
theorem spAI_eq (f : Int → Bool → List Int → Int → Out) (k : Int) (w : Bool) (xs : List Int) (z : Int) (lim : Nat) (h : Hp) (n : Nat) : spAI f (.cons (.ag (ld k w xs)) (.cons (I z) .nil)) lim h n = (f k w xs z).res h n := by simp only [spAI, asI_I, rdA_ld, onAd]
theorem spAII_eq (f : Int → Bool → List Int → Int → Int → Out) (k : Int) (w : Bool) (xs : List Int) (z y : Int) (lim : Nat) (h : Hp) (n : Nat) : spAII f (.cons (.ag (ld k w xs)) (.cons (I z) (.cons (I y) .nil))) lim h n = (f k w xs z y).res h n := by simp only [spAII, asI_I, rdA_ld, onAd]
theorem spRI_eq (f : List Int → Int → Out) (xs : List Int) (z : Int) (lim : Nat) (h : Hp) (n : Nat) : spRI f (.cons (.ag (iL xs)) (.cons (I z) .nil)) lim h n = (f xs z).res h n := by simp only [spRI, asI_I, rdI_iL, onL]
theorem spA_mo (f : Int → Bool → List Int → Out) : SMo (spA f) := fun args lim h n => by unfold spA; split <;> first | exact onAd_ge _ _ _ _ | trivial
theorem spAI_mo (f : Int → Bool → List Int → Int → Out) : SMo (spAI f) := fun args lim h n => by unfold spAI; split <;> (try split) <;> first | exact onAd_ge _ _ _ _ | trivial
theorem spAII_mo (f : Int → Bool → List Int → Int → Int → Out) : SMo (spAII f) := fun args lim h n => by unfold spAII; split <;> (try split) <;> first | exact onAd_ge _ _ _ _ | trivial
theorem spRI_mo (f : List Int → Int → Out) : SMo (spRI f) := fun args lim h n => by unfold spRI; split <;> (try split) <;> first | exact onL_ge _ _ _ _ | trivial
theorem spA_ok {P : Program} {m : Nat} {f : Int → Bool → List Int → Out} (hc : ∀ k w xs lim h n v h' n', (f k w xs).res h n = .ok v h' n' → CallsOK P m (.cons (.ag (ld k w xs)) .nil) lim h n v h' n') : SOK P m (spA f) := fun args lim h n v h' n' hr => by
  unfold spA at hr
  split at hr
  · unfold onAd at hr
    split at hr
    · rename_i ho; exact callsArgs (fun g => rel_cons (ag_rel (rdA_rel ho)) fun _ h => h) (hc _ _ _ _ _ _ _ _ _ hr)
    · cases hr
  · cases hr
theorem spAI_ok {P : Program} {m : Nat} {f : Int → Bool → List Int → Int → Out} (hc : ∀ k w xs z lim h n v h' n', (f k w xs z).res h n = .ok v h' n' → CallsOK P m (.cons (.ag (ld k w xs)) (.cons (I z) .nil)) lim h n v h' n') : SOK P m (spAI f) := fun args lim h n v h' n' hr => by
  unfold spAI at hr
  split at hr
  · split at hr
    · rename_i hz
      unfold onAd at hr
      split at hr
      · rename_i ho; exact callsArgs (fun g => rel_cons (ag_rel (rdA_rel ho)) (rel_cons (fun _ => asI_rel hz) fun _ h => h)) (hc _ _ _ _ _ _ _ _ _ _ hr)
      · cases hr
    · cases hr
  · cases hr
theorem spAII_ok {P : Program} {m : Nat} {f : Int → Bool → List Int → Int → Int → Out} (hc : ∀ k w xs z y lim h n v h' n', (f k w xs z y).res h n = .ok v h' n' → CallsOK P m (.cons (.ag (ld k w xs)) (.cons (I z) (.cons (I y) .nil))) lim h n v h' n') : SOK P m (spAII f) := fun args lim h n v h' n' hr => by
  unfold spAII at hr
  split at hr
  · split at hr
    · rename_i hz hy
      unfold onAd at hr
      split at hr
      · rename_i ho; exact callsArgs (fun g => rel_cons (ag_rel (rdA_rel ho)) (rel_cons (fun _ => asI_rel hz) (rel_cons (fun _ => asI_rel hy) fun _ h => h))) (hc _ _ _ _ _ _ _ _ _ _ _ hr)
      · cases hr
    · cases hr
  · cases hr
theorem spRI_ok {P : Program} {m : Nat} {f : List Int → Int → Out} (hc : ∀ xs z lim h n v h' n', (f xs z).res h n = .ok v h' n' → CallsOK P m (.cons (.ag (iL xs)) (.cons (I z) .nil)) lim h n v h' n') : SOK P m (spRI f) := fun args lim h n v h' n' hr => by
  unfold spRI at hr
  split at hr
  · split at hr
    · rename_i hz
      unfold onL at hr
      split at hr
      · rename_i ho; exact callsArgs (fun g => rel_cons (ag_rel (rdI_rel _ _ ho)) (rel_cons (fun _ => asI_rel hz) fun _ h => h)) (hc _ _ _ _ _ _ _ _ hr)
      · cases hr
    · cases hr
  · cases hr

/-! Places, kinds, distances. -/
def smI (k : Int) : Prop := -1000 ≤ k ∧ k ≤ 1000
instance (k : Int) : Decidable (smI k) := inferInstanceAs (Decidable (_ ∧ _))
theorem run58 (k : Int) (w : Bool) (xs : List Int) (hk : smI k) (hx : xs.length = 16) : JQ Try.prog drops Try.f58.ntmps F0 q58 256 (Kend res58 (Good 0 (.v (I (2 * k))))) (bind (.cons (.ag (ld k w xs)) .nil) 0 .lf) .lf 256 := by
  have hF := F0_ok Try.prog
  have hM := F0_mono
  obtain ⟨k1, k2⟩ := hk
  unfold q58
  (refine JQ.step follows hF hM ?_; simp (config := { maxSteps := 4000000 }) (disch := (omega)) only [go_sem, Nat.reduceLT, Nat.reduceEqDiff, reduceIte, Nat.reduceAdd, Nat.reduceSub, Nat.reduceLeDiff, Int.reduceEq, Int.reduceLT, Int.reduceLE, Int.reduceNeg, Int.reduceAdd, Int.reduceSub, Int.reduceToNat, Int.reduceMul, Nat.reduceMul, ld_len, ld_allC, hx])
  (refine JQ.run follows hF hM ?_; simp (config := { maxSteps := 4000000 }) (disch := (omega)) only [go_sem, Nat.reduceLT, Nat.reduceEqDiff, reduceIte, Nat.reduceAdd, Nat.reduceSub, Nat.reduceLeDiff, Int.reduceEq, Int.reduceLT, Int.reduceLE, Int.reduceNeg, Int.reduceAdd, Int.reduceSub, Int.reduceToNat, Int.reduceMul, Nat.reduceMul, ld_len, hx, ld_0, res58])
noncomputable def f58 (k : Int) (w : Bool) (xs : List Int) : Out := if smI k ∧ xs.length = 16 then .v (I (2 * k)) else .no
theorem ok58 : SOK Try.prog 58 (spA f58) := spA_ok fun k w xs lim h n v h' n' hr => by
  unfold f58 at hr
  split at hr
  · rename_i hb
    exact outC Try.func58 n58 b58 k58 r58 (Ins.none h) (by simp [L.length]) (ren_nil_rel (by simp only [purL_cons, purL_nil, pur_ag, ld_pur, I_pur, Bool.and_self])) (.v (I (2 * k))) (I_pur _) (run58 k w xs hb.1 hb.2) lim n hr
  · cases hr
theorem run85 (k : Int) (w : Bool) (xs : List Int) (z : Int) (hz : smI z) (hx : xs.length = 16) : JQ Try.prog drops Try.f85.ntmps F0 q85 256 (Kend res85 (Good 0 (.v (I (if w then z + 1 else z))))) (bind (.cons (.ag (ld k w xs)) (.cons (I z) .nil)) 0 .lf) .lf 256 := by
  have hF := F0_ok Try.prog
  have hM := F0_mono
  obtain ⟨k1, k2⟩ := hz
  unfold q85
  (refine JQ.step follows hF hM ?_; simp (config := { maxSteps := 4000000 }) (disch := (omega)) only [go_sem, Nat.reduceLT, Nat.reduceEqDiff, reduceIte, Nat.reduceAdd, Nat.reduceSub, Nat.reduceLeDiff, Int.reduceEq, Int.reduceLT, Int.reduceLE, Int.reduceNeg, Int.reduceAdd, Int.reduceSub, Int.reduceToNat, Int.reduceMul, Nat.reduceMul, ld_len, ld_allC, hx])
  cases w with
  | true => (refine JQ.run follows hF hM ?_; simp (config := { maxSteps := 4000000 }) (disch := (omega)) only [go_sem, Nat.reduceLT, Nat.reduceEqDiff, reduceIte, Nat.reduceAdd, Nat.reduceSub, Nat.reduceLeDiff, Int.reduceEq, Int.reduceLT, Int.reduceLE, Int.reduceNeg, Int.reduceAdd, Int.reduceSub, Int.reduceToNat, Int.reduceMul, Nat.reduceMul, ld_len, hx, ld_1, res85])
  | false =>
    (refine JQ.step follows hF hM ?_; simp (config := { maxSteps := 4000000 }) (disch := (omega)) only [go_sem, Nat.reduceLT, Nat.reduceEqDiff, reduceIte, Nat.reduceAdd, Nat.reduceSub, Nat.reduceLeDiff, Int.reduceEq, Int.reduceLT, Int.reduceLE, Int.reduceNeg, Int.reduceAdd, Int.reduceSub, Int.reduceToNat, Int.reduceMul, Nat.reduceMul, ld_len, hx, ld_1])
    (refine JQ.run follows hF hM ?_; simp (config := { maxSteps := 4000000 }) (disch := (omega)) only [go_sem, Nat.reduceLT, Nat.reduceEqDiff, reduceIte, Nat.reduceAdd, Nat.reduceSub, Nat.reduceLeDiff, Int.reduceEq, Int.reduceLT, Int.reduceLE, Int.reduceNeg, Int.reduceAdd, Int.reduceSub, Int.reduceToNat, Int.reduceMul, Nat.reduceMul, ld_len, hx, ld_1, res85, Bool.false_eq_true])
noncomputable def f85 (k : Int) (w : Bool) (xs : List Int) (z : Int) : Out := if smI z ∧ xs.length = 16 then .v (I (if w then z + 1 else z)) else .no
theorem ok85 : SOK Try.prog 85 (spAI f85) := spAI_ok fun k w xs z lim h n v h' n' hr => by
  unfold f85 at hr
  split at hr
  · rename_i hb
    exact outC Try.func85 n85 b85 k85 r85 (Ins.none h) (by simp [L.length]) (ren_nil_rel (by simp only [purL_cons, purL_nil, pur_ag, ld_pur, I_pur, Bool.and_self])) (.v (I (if w then z + 1 else z))) (I_pur _) (run85 k w xs z hb.1 hb.2) lim n hr
  · cases hr
noncomputable def FA1 : FF := ov 58 (spA f58) (ov 85 (spAI f85) F0)
theorem FA1_ok : FOK Try.prog FA1 := ov_ok ok58 (ov_ok ok85 (F0_ok _))
theorem FA1_mono : FA1.mono := ov_mono (spA_mo _) (ov_mono (spAI_mo _) F0_mono)
theorem run60 (k : Int) (w : Bool) (xs : List Int) (z : Int) (hk : smI k) (hx : xs.length = 16) : JQ Try.prog drops Try.f60.ntmps FA1 q60 256 (Kend res60 (Good 0 (.v (.b (decide (0 ≤ z) && decide (z < 2 * k)))))) (bind (.cons (.ag (ld k w xs)) (.cons (I z) .nil)) 0 .lf) .lf 256 := by
  have hF := FA1_ok
  have hM := FA1_mono
  unfold q60
  (refine JQ.step follows hF hM ?_; simp (config := { maxSteps := 4000000 }) (disch := (omega)) only [go_sem, Nat.reduceLT, Nat.reduceEqDiff, reduceIte, Nat.reduceAdd, Nat.reduceSub, Nat.reduceLeDiff, Int.reduceEq, Int.reduceLT, Int.reduceLE, Int.reduceNeg, Int.reduceAdd, Int.reduceSub, Int.reduceToNat, Int.reduceMul, Nat.reduceMul, ld_len, ld_allC, hx])
  by_cases h1 : 0 ≤ z
  · (refine JQ.run follows hF hM ?_; simp (config := { maxSteps := 4000000 }) (disch := (omega)) only [go_sem, Nat.reduceLT, Nat.reduceEqDiff, reduceIte, Nat.reduceAdd, Nat.reduceSub, Nat.reduceLeDiff, Int.reduceEq, Int.reduceLT, Int.reduceLE, Int.reduceNeg, Int.reduceAdd, Int.reduceSub, Int.reduceToNat, Int.reduceMul, Nat.reduceMul, h1, ld_len, hx, FA1, spA_eq, f58, hk, res60])
  · (refine JQ.run follows hF hM ?_; simp (config := { maxSteps := 4000000 }) (disch := (omega)) only [go_sem, Nat.reduceLT, Nat.reduceEqDiff, reduceIte, Nat.reduceAdd, Nat.reduceSub, Nat.reduceLeDiff, Int.reduceEq, Int.reduceLT, Int.reduceLE, Int.reduceNeg, Int.reduceAdd, Int.reduceSub, Int.reduceToNat, Int.reduceMul, Nat.reduceMul, h1, ld_len, hx, FA1, spA_eq, f58, hk, res60, Bool.false_and])
noncomputable def f60 (k : Int) (w : Bool) (xs : List Int) (z : Int) : Out := if smI k ∧ xs.length = 16 then .v (.b (decide (0 ≤ z) && decide (z < 2 * k))) else .no
theorem ok60 : SOK Try.prog 60 (spAI f60) := spAI_ok fun k w xs z lim h n v h' n' hr => by
  unfold f60 at hr
  split at hr
  · rename_i hb
    exact outC Try.func60 n60 b60 k60 r60 (Ins.none h) (by simp [L.length]) (ren_nil_rel (by simp only [purL_cons, purL_nil, pur_ag, ld_pur, I_pur, Bool.and_self])) (.v (.b (decide (0 ≤ z) && decide (z < 2 * k)))) rfl (run60 k w xs z hb.1 hb.2) lim n hr
  · cases hr
theorem run56 (k : Int) (w : Bool) (xs : List Int) (z : Int) (hx : xs.length = 16) : JQ Try.prog drops Try.f56.ntmps FA1 q56 256 (Kend res56 (Good 0 (.v (.b (decide (1 ≤ z) && decide (z ≤ k)))))) (bind (.cons (.ag (ld k w xs)) (.cons (I z) .nil)) 0 .lf) .lf 256 := by
  have hF := FA1_ok
  have hM := FA1_mono
  unfold q56
  (refine JQ.step follows hF hM ?_; simp (config := { maxSteps := 4000000 }) (disch := (omega)) only [go_sem, Nat.reduceLT, Nat.reduceEqDiff, reduceIte, Nat.reduceAdd, Nat.reduceSub, Nat.reduceLeDiff, Int.reduceEq, Int.reduceLT, Int.reduceLE, Int.reduceNeg, Int.reduceAdd, Int.reduceSub, Int.reduceToNat, Int.reduceMul, Nat.reduceMul, ld_len, ld_allC, hx])
  by_cases h1 : 1 ≤ z
  · (refine JQ.run follows hF hM ?_; simp (config := { maxSteps := 4000000 }) (disch := (omega)) only [go_sem, Nat.reduceLT, Nat.reduceEqDiff, reduceIte, Nat.reduceAdd, Nat.reduceSub, Nat.reduceLeDiff, Int.reduceEq, Int.reduceLT, Int.reduceLE, Int.reduceNeg, Int.reduceAdd, Int.reduceSub, Int.reduceToNat, Int.reduceMul, Nat.reduceMul, h1, ld_len, hx, ld_0, res56])
  · (refine JQ.run follows hF hM ?_; simp (config := { maxSteps := 4000000 }) (disch := (omega)) only [go_sem, Nat.reduceLT, Nat.reduceEqDiff, reduceIte, Nat.reduceAdd, Nat.reduceSub, Nat.reduceLeDiff, Int.reduceEq, Int.reduceLT, Int.reduceLE, Int.reduceNeg, Int.reduceAdd, Int.reduceSub, Int.reduceToNat, Int.reduceMul, Nat.reduceMul, h1, ld_len, hx, ld_0, res56, Bool.false_and])
noncomputable def f56 (k : Int) (w : Bool) (xs : List Int) (z : Int) : Out := if xs.length = 16 then .v (.b (decide (1 ≤ z) && decide (z ≤ k))) else .no
theorem ok56 : SOK Try.prog 56 (spAI f56) := spAI_ok fun k w xs z lim h n v h' n' hr => by
  unfold f56 at hr
  split at hr
  · rename_i hb
    exact outC Try.func56 n56 b56 k56 r56 (Ins.none h) (by simp [L.length]) (ren_nil_rel (by simp only [purL_cons, purL_nil, pur_ag, ld_pur, I_pur, Bool.and_self])) (.v (.b (decide (1 ≤ z) && decide (z ≤ k)))) rfl (run56 k w xs z hb) lim n hr
  · cases hr
end Go.Proofs.Ytcgkcdgpmopdnaa.Ev
