/- The till: the reference's table. -/
import Derived.Test.YtkdbgkibifigiaaTtB
namespace Go.Proofs.Ytkdbgkibifigiaa.Ev
set_option linter.unusedVariables false
set_option linter.unusedSimpArgs false
set_option maxRecDepth 100000
open Go Go.Proofs
attribute [local go_sem] evC_seq evC_reg evC_cond evC_block evC_skip evC_exit evC_ret evR_cons evR_nil evR_gd guardB_tt guardB_ff guardB_tf guardB_ft guardB_none bindR_ok bindR_okn rgRs_ok seqR_nor seqR_ext seqR_ret condR_true condR_false blockR_nor blockR_ext blockR_ret evX_t evX_c evXL_nil evXL_cons O_mv O_bin O_pick O_eqb O_not O_ext O_call O_conv O_slen O_six O_sbi pv_I pv_i pv_b pv_s pv_ns pv_sl pv_p pv_tu pv_ag bin_lss bin_leq bin_gtr bin_geq bin_eql bin_neq bin8_eql bin8_neq bin_add bin_sub bin_mul get_st get_lf bind_nil bind_cons if_true if_false Got_nor Got_ext Got_ret Kseq Kblk Klp Kend onStr_s onB_b onT_tu onI_I onN_I onK_I eqb_b not_b nthL_0 nthL_1 nthL_2 known_nil known_cons I_known known_b known_s evRVs_nil evRVs_cons evRes_1 evRes_2 evRV_tmp Bool.and_true Bool.true_and Bool.and_self Bool.not_true Bool.not_false decide_true decide_false Int.toNat_natCast true_and and_true big hget_same hget_ne newB_n onP_p onS_sl onS_ns O_fad O_alloc_if O_ixs O_len O_ld O_st O_box boxB_if ldB_if ldB_agif stB_if toL_I toL_i toL_b toL_s toL_sl toL_ns toL_ag allC_nil allC_cons isC_i isC_b isC_s isC_sl isC_ns I_isC Llen_nil Llen_cons Lget_0 Lget_1 Lget_2 Lget_3 blkL_size cell_blkL_if getL_blkL_if getL_setL_if setL_sz evRV_cell' rvB_agif rvB_if evPL_cons bldK_if evPL_nil O_build O_part evBuild_ok okL_some onA_ag partV_1 evPart_eq updS_nil updS_cons upd_0 upd_1 upd_2 upd_3 ge_iff_le if_pos and_self Nat.le_refl known_ag known_sl known_ns known_i ov_at spS_eq spSI_eq spSII_eq spI_eq spII_eq spIII_eq spIIII_eq res_v res_sl res_slE Good I_pur pur_b pur_s pur_i pur_ns pur_ag pur_tu purL_nil purL_cons evDr_eq evDs_nil evDs_cons dsR_ok stepD_eq sdB_n sdB_g sdG_tt sdG_ff sdG_tf sdG_ft sdG_none runD_0 rdR_f rdR_t baseOf_pu baseOf_h baseU_nil baseA_nil baseA_0 baseR_nil baseR_0 baseR_00 appAll_nil appAll_0 restr_nil restr_cons setD_some setD_none evC_draw iL_len iL_get iL_allC iL_pur hp0_0 hp0_c rdL_ns rdL_sl List.length_cons List.length_nil O_mks mkB_if O_bsl bslB_if O_app apX_ns apX_sl apN_some apS_some blkL_el Nat.one_mul Nat.mul_one Nat.zero_add n_I onF_fn O_callv app_nil app_cons spLF_eq spL_eq spLL_eq onL_some onLL_ss onLL_ns onLL_sn onLL_nn rdB_blk Int.cast_ofNat_Int

/-! Branches join. -/
def Kcut (e1 : Tr) (h1 : Hp) (n1 : Nat) (K : Rs → Prop) : Rs → Prop
  | .no => False
  | .nor e h n => EnvLe e1 e ∧ HpLe h1 h ∧ n1 = n
  | .ext i e h n => K (.ext i e h n)
  | .ret e h n => K (.ret e h n)
theorem JQ.cut {P : Program} {dr : List Nat} {N lim n : Nat} {F : FF} {qa qb : IC} {K : Rs → Prop} {e : Tr} {h : Hp} (e1 : Tr) (h1 : Hp) (n1 : Nat) (j : JQ P dr N F qa lim (Kcut e1 h1 n1 K) e h n) (k : JQ P dr N F qb lim K e1 h1 n1) : JQ P dr N F (.seq qa qb) lim K e h n :=
  JQ.seq (JQ.mono (fun r hr => by
    cases r with
    | no => exact hr
    | nor e' h' n' => obtain ⟨a, b, rfl⟩ := hr; exact JQ.weak a b k
    | ext => exact hr
    | ret => exact hr) j)

/-! A store in a region whose order is open. -/
noncomputable def rdQ3 (r : Res) (a : Pos) : SR := match r with
  | .ok w h' n' => .ok w (.cons a (h'.get a) .nil) n'
  | .no => .no
noncomputable def rdQ2 (ob : Option Blk) (a : Pos) (o : O) (F : FF) (er : Tr) (lim n : Nat) : SR := match ob with
  | some bl => rdQ3 (o.ev F er lim (Hp.lf.put (some bl) a) n) a
  | none => .no
noncomputable def rdQ (v : V) (b : Hp) (o : O) (F : FF) (er : Tr) (lim n : Nat) (z : SR) : SR := match v with
  | .p a _ => rdQ2 (b.get a) a o F er lim n
  | _ => z
noncomputable def runZ (d : DO) (F : FF) (lim : Nat) (b : Hp) (er : Tr) (n : Nat) : SR := runD d F lim b er n
theorem runD_1 (F : FF) (lim : Nat) (er : Tr) (b : Hp) (n : Nat) (dst : Option Pos) (gd : Option (Pos × Bool)) (pu : Bool) (x : Pos) (an : List Bool) (us ts : List Pos) (o : O) (rd nd gl : List Pos) :
    runD ⟨dst, gd, pu, [x], false, an, us, ts, o, false, rd, nd, gl⟩ F lim b er n = rdQ (er.get x) b o F er lim n (runZ ⟨dst, gd, pu, [x], false, an, us, ts, o, false, rd, nd, gl⟩ F lim b er n) := by
  cases hv : er.get x with
  | p a off =>
    show _ = rdQ2 (b.get a) a o F er lim n
    unfold runD
    dsimp only
    rw [takeB, hv]
    dsimp only [blkOf]
    cases hb : b.get a with
    | none => rfl
    | some bl =>
      show _ = rdQ3 (o.ev F er lim (Hp.lf.put (some bl) a) n) a
      dsimp only
      rw [takeB, Option.map_some]
      dsimp only
      unfold rdQ3
      cases o.ev F er lim (Hp.lf.put (some bl) a) n with
      | no => rfl
      | ok w h' n' =>
        dsimp only
        rw [keysB, hv]
        rfl
  | _ => rfl
theorem rdQ_p (a : Pos) (off : Nat) (b : Hp) (o : O) (F : FF) (er : Tr) (lim n : Nat) (z : SR) : rdQ (.p a off) b o F er lim n z = rdQ2 (b.get a) a o F er lim n := rfl
theorem rdQ2_s (bl : Blk) (a : Pos) (o : O) (F : FF) (er : Tr) (lim n : Nat) : rdQ2 (some bl) a o F er lim n = rdQ3 (o.ev F er lim (Hp.lf.put (some bl) a) n) a := rfl
theorem rdQ3_ok (w : V) (h' : Hp) (n' : Nat) (a : Pos) : rdQ3 (.ok w h' n') a = .ok w (.cons a (h'.get a) .nil) n' := rfl
theorem appAll_1 (acc : List Dl) (h : Hp) (a : Pos) (x : Option Blk) : appAll (.cons a x .nil :: acc) h = (appAll acc h).put x a := rfl
theorem O_ixa (F : FF) (lim : Nat) (e : Tr) (h : Hp) (n : Nat) (len esz : Nat) (x i : X) : (O.ixa len esz x i).ev F e lim h n = pv (onP (evX x e) (fun a o => onI (evX i e) (fun j => if j < len then .p a (o + j * esz) else .bad) .bad) .bad) h n := by
  show pv (onP (evX x e) (fun a o => onI (evX i e) (fun j => Bool.rec .bad (fN (Nat.add o (Nat.mul j esz)) fun o => .p a o) (Nat.blt j len)) .bad) .bad) h n = _
  congr 2
  funext a o
  congr 1
  funext j
  rw [fN_eq]
  by_cases hj : j < len
  · rw [if_pos hj, show Nat.blt j len = true from Nat.blt_eq.mpr hj]; rfl
  · rw [if_neg hj, show Nat.blt j len = false from Bool.eq_false_iff.mpr fun hx => hj (Nat.blt_eq.mp hx)]

/-- How many orders there are, by customers of both kinds that are left. -/
def T (d : Int) : Nat → Nat → Int
  | 0, 0 => if d < 0 then 0 else 1
  | 0, n + 1 => if d + (n + 1) < 0 then 0 else (if 0 < d + (n + 1) then T d 0 n else 0)
  | c + 1, 0 => if d - (c + 1) < 0 then 0 else T d c 0
  | c + 1, n + 1 => if d - (c + 1) + (n + 1) < 0 then 0 else T d c (n + 1) + (if 0 < d - (c + 1) + (n + 1) then T d (c + 1) n else 0)
theorem T_rng (d : Int) : ∀ c n : Nat, 0 ≤ T d c n ∧ T d c n ≤ ((2 ^ (c + n) : Nat) : Int)
  | 0, 0 => by rw [T]; split <;> simp
  | 0, n + 1 => by
    have := T_rng d 0 n
    rw [T, show 0 + (n + 1) = (0 + n) + 1 by omega, Nat.pow_succ]
    split
    · omega
    · split <;> omega
  | c + 1, 0 => by
    have := T_rng d c 0
    simp only [Nat.add_zero] at this ⊢
    rw [T, Nat.pow_succ]
    split <;> omega
  | c + 1, n + 1 => by
    have h1 := T_rng d c (n + 1)
    have h2 := T_rng d (c + 1) n
    rw [show c + 1 + n = c + (n + 1) by omega] at h2
    rw [T, show c + 1 + (n + 1) = (c + (n + 1)) + 1 by omega, Nat.pow_succ]
    split
    · omega
    · split <;> omega
theorem T_le (d : Int) {c n : Nat} (h : c + n ≤ 16) : 0 ≤ T d c n ∧ T d c n ≤ 65536 := by
  have h1 := T_rng d c n
  have h2 : 2 ^ (c + n) ≤ 2 ^ 16 := Nat.pow_le_pow_right (by omega) h
  omega
theorem T_neg {d : Int} {c n : Nat} (h : d - c + n < 0) : T d c n = 0 := by
  match c, n with
  | 0, 0 => rw [T, if_pos (by omega)]
  | 0, n + 1 => rw [T, if_pos (by omega)]
  | c + 1, 0 => rw [T, if_pos (by omega)]
  | c + 1, n + 1 => rw [T, if_pos (by omega)]
theorem T_eq {d : Int} {c n : Nat} (h : 0 ≤ d - c + n) : T d c n = ((if c = 0 ∧ n = 0 then 1 else 0) + if 0 < c then T d (c - 1) n else 0) + if 0 < n ∧ 0 < d - c + n then T d c (n - 1) else 0 := by
  match c, n with
  | 0, 0 => rw [T, if_neg (by omega)]; simp
  | 0, n + 1 =>
    rw [T, if_neg (by omega)]
    by_cases q : 0 < d + (n + 1)
    · rw [if_pos q, if_neg (by omega), if_neg (by omega), if_pos (by omega)]; simp
    · rw [if_neg q, if_neg (by omega), if_neg (by omega), if_neg (by omega)]; simp
  | c + 1, 0 => rw [T, if_neg (by omega)]; simp
  | c + 1, n + 1 =>
    rw [T, if_neg (by omega)]
    by_cases q : 0 < d - (c + 1) + (n + 1)
    · rw [if_pos q, if_neg (by omega), if_pos (by omega), if_pos (by omega)]; simp
    · rw [if_neg q, if_neg (by omega), if_pos (by omega), if_neg (by omega)]; simp
theorem At_set {xs : List Int} {k j : Nat} {z : Int} : At (xs.set k z) j = if j = k ∧ k < xs.length then z else At xs j := by
  unfold At
  rw [List.getElem?_set]
  by_cases e : k = j
  · subst e
    by_cases hk : k < xs.length
    · simp [hk]
    · simp [hk]
  · simp [e, Ne.symm e]
theorem set_self {xs : List Int} {k : Nat} {z : Int} (hk : k < xs.length) (h : At xs k = z) : xs.set k z = xs := by
  refine List.ext_getElem (by simp) fun i h1 h2 => ?_
  rw [List.getElem_set]
  by_cases e : k = i
  · subst e
    rw [if_pos rfl, ← h]
    simp [At, List.getElem?_eq_getElem hk]
  · rw [if_neg e]
def tab (d : Int) (n0 c n : Nat) : List Int := (List.range 289).map fun i => if (i / 17 < c ∧ i % 17 ≤ n0) ∨ (i / 17 = c ∧ i % 17 < n) then T d (i / 17) (i % 17) else 0
theorem tab_len (d : Int) (n0 c n : Nat) : (tab d n0 c n).length = 289 := by simp [tab]
theorem At_tab (d : Int) (n0 c n : Nat) {i : Nat} (h : i < 289) : At (tab d n0 c n) i = if (i / 17 < c ∧ i % 17 ≤ n0) ∨ (i / 17 = c ∧ i % 17 < n) then T d (i / 17) (i % 17) else 0 := by
  simp [At, tab, List.getElem?_map, List.getElem?_range h]
theorem At_now (d : Int) {n0 c n : Nat} (hc : c ≤ 16) (hn : n ≤ 16) : At (tab d n0 c n) (c * 17 + n) = 0 := by
  rw [At_tab _ _ _ _ (by omega), if_neg (by omega)]
theorem At_up (d : Int) {n0 c n : Nat} (m : Nat) (hc : c ≤ 16) (hn : n ≤ n0) (h0 : n0 ≤ 16) : At (tab d n0 (c + 1) m) (c * 17 + n) = T d c n := by
  rw [At_tab _ _ _ _ (by omega), if_pos (by omega), show (c * 17 + n) / 17 = c by omega, show (c * 17 + n) % 17 = n by omega]
theorem At_left (d : Int) {n0 c n : Nat} (hc : c ≤ 16) (hn : n + 1 ≤ 16) : At (tab d n0 c (n + 1)) (c * 17 + n) = T d c n := by
  rw [At_tab _ _ _ _ (by omega), if_pos (by omega), show (c * 17 + n) / 17 = c by omega, show (c * 17 + n) % 17 = n by omega]
theorem tab_step (d : Int) {n0 c n : Nat} (hc : c ≤ 16) (hn : n ≤ 16) : (tab d n0 c n).set (c * 17 + n) (T d c n) = tab d n0 c (n + 1) := by
  refine List.ext_getElem (by simp [tab]) fun i h1 h2 => ?_
  have h3 : i < 289 := by simpa [tab] using h2
  rw [List.getElem_set]
  simp only [tab, List.getElem_map, List.getElem_range]
  by_cases e : c * 17 + n = i
  · subst e
    rw [if_pos rfl, if_pos (by omega), show (c * 17 + n) / 17 = c by omega, show (c * 17 + n) % 17 = n by omega]
  · rw [if_neg e]
    by_cases hd : (i / 17 < c ∧ i % 17 ≤ n0) ∨ (i / 17 = c ∧ i % 17 < n)
    · rw [if_pos hd, if_pos (by omega)]
    · rw [if_neg hd, if_neg (by omega)]
theorem tab_same (d : Int) {n0 c n : Nat} (hc : c ≤ 16) (hn : n ≤ 16) (hT : T d c n = 0) : tab d n0 c n = tab d n0 c (n + 1) := by
  refine List.ext_getElem (by simp [tab]) fun i h1 h2 => ?_
  have h3 : i < 289 := by simpa [tab] using h2
  simp only [tab, List.getElem_map, List.getElem_range]
  by_cases e : c * 17 + n = i
  · subst e
    rw [if_neg (by omega), if_pos (by omega), show (c * 17 + n) / 17 = c by omega, show (c * 17 + n) % 17 = n by omega, hT]
  · by_cases hd : (i / 17 < c ∧ i % 17 ≤ n0) ∨ (i / 17 = c ∧ i % 17 < n)
    · rw [if_pos hd, if_pos (by omega)]
    · rw [if_neg hd, if_neg (by omega)]
theorem tab_row (d : Int) {n0 c : Nat} (hc : c ≤ 16) (hn : n0 ≤ 16) : tab d n0 c (n0 + 1) = tab d n0 (c + 1) 0 := by
  refine List.ext_getElem (by simp [tab]) fun i h1 h2 => ?_
  have h3 : i < 289 := by simpa [tab] using h2
  simp only [tab, List.getElem_map, List.getElem_range]
  by_cases hd : (i / 17 < c ∧ i % 17 ≤ n0) ∨ (i / 17 = c ∧ i % 17 < n0 + 1)
  · rw [if_pos hd, if_pos (by omega)]
  · rw [if_neg hd, if_neg (by omega)]
theorem tab_0 (d : Int) (n0 : Nat) : tab d n0 0 0 = List.replicate 289 0 := by
  refine List.ext_getElem (by simp [tab]) fun i h1 h2 => ?_
  simp only [tab, List.getElem_map, List.getElem_range, List.getElem_replicate]
  rw [if_neg (by omega)]
theorem z289_len : z289.length = 289 := by rw [z289, iL_len, List.length_replicate]
noncomputable def tH (xs : List Int) : Hp := Hp.lf.put (some (blkL 89 (iL xs))) (tp 255)
noncomputable def tE (c0 n0 b : Int) (c n t : Int) : Tr := ((((((Tr.lf.set (I c0) (tp 0)).set (I n0) (tp 1)).set (I b) (tp 2)).set (.p (tp 255) 0) (tp 7)).set (I c) (tp 8)).set (I n) (tp 9)).set (I t) (tp 10)
theorem tH_set {xs : List Int} {k : Nat} {z : Int} {h : Hp} (hk : k < xs.length) (hm : xs.length ≤ 1000) (hg : h.get (tp 255) = some ((blkL 89 (iL xs)).setL k (.cons (I z) .nil))) : HpLe (tH (xs.set k z)) h :=
  HpLe.put ⟨_, hg, set_le hk (by omega)⟩ (HpLe.lf _)
set_option maxHeartbeats 8000000 in
theorem run59 (c0 n0 : Nat) (b : Int) (h1 : c0 + n0 ≤ 16) (h4 : 0 ≤ b) (h5 : b ≤ 100) : JQ Try.prog drops Try.f59.ntmps F0 q59 256 (Kend res59 (Good 0 (.v (I (T (b + c0 - n0) c0 n0))))) (bind (.cons (I c0) (.cons (I n0) (.cons (I b) .nil))) 0 .lf) .lf 256 := by
  have hF := F0_ok Try.prog
  have hM := F0_mono
  obtain ⟨d, hd⟩ : ∃ d, d = b + c0 - n0 := ⟨_, rfl⟩
  rw [← hd]
  have hz := z289_len
  unfold q59
  (refine JQ.step follows hF hM ?_; simp (config := { maxSteps := 4000000 }) (disch := (omega)) only [go_sem, Nat.reduceLT, Nat.reduceEqDiff, reduceIte, Nat.reduceAdd, Nat.reduceSub, Nat.reduceLeDiff, Int.reduceEq, Int.reduceLT, Int.reduceLE, Int.reduceNeg, Int.reduceAdd, Int.reduceSub, Int.reduceToNat, Int.reduceMul, Nat.reduceMul])
  (refine JQ.step follows hF hM ?_; simp (config := { maxSteps := 4000000 }) (disch := (omega)) only [go_sem, Nat.reduceLT, Nat.reduceEqDiff, reduceIte, Nat.reduceAdd, Nat.reduceSub, Nat.reduceLeDiff, Int.reduceEq, Int.reduceLT, Int.reduceLE, Int.reduceNeg, Int.reduceAdd, Int.reduceSub, Int.reduceToNat, Int.reduceMul, Nat.reduceMul, hz])
  refine JQ.seq ?_
  (refine JQ.step follows hF hM ?_; simp (config := { maxSteps := 4000000 }) (disch := (omega)) only [go_sem, Nat.reduceLT, Nat.reduceEqDiff, reduceIte, Nat.reduceAdd, Nat.reduceSub, Nat.reduceLeDiff, Int.reduceEq, Int.reduceLT, Int.reduceLE, Int.reduceNeg, Int.reduceAdd, Int.reduceSub, Int.reduceToNat, Int.reduceMul, Nat.reduceMul])
  refine JQ.block ?_
  refine JQ.loop (σ := Nat) (fun c => c ≤ c0 + 1) (fun c => ((((Tr.lf.set (I c0) (tp 0)).set (I n0) (tp 1)).set (I b) (tp 2)).set (.p (tp 255) 0) (tp 7)).set (I c) (tp 8)) (fun c => tH (tab d n0 c 0)) (fun _ => 257) (fun c => c0 + 1 - c) 0 (Nat.zero_le _) (by ((repeat' (first | exact EnvLe.lf _ | refine EnvLe.set (by decide) ?_ ?_)) <;> first | exact EnvLe.lf _ | (simp (config := { maxSteps := 4000000 }) (disch := (omega)) only [go_sem, Nat.reduceLT, Nat.reduceEqDiff, reduceIte, Nat.reduceAdd, Nat.reduceSub, Nat.reduceLeDiff, Int.reduceEq, Int.reduceLT, Int.reduceLE, Int.reduceNeg, Int.reduceAdd, Int.reduceSub, Int.reduceToNat, Int.reduceMul, Nat.reduceMul, Int.natCast_add, Int.cast_ofNat_Int]; done) | (simp (config := { maxSteps := 4000000 }) (disch := (omega)) only [go_sem, Nat.reduceLT, Nat.reduceEqDiff, reduceIte, Nat.reduceAdd, Nat.reduceSub, Nat.reduceLeDiff, Int.reduceEq, Int.reduceLT, Int.reduceLE, Int.reduceNeg, Int.reduceAdd, Int.reduceSub, Int.reduceToNat, Int.reduceMul, Nat.reduceMul, Int.natCast_add, Int.cast_ofNat_Int] <;> first | rfl | (congr 1; omega)))) (by rw [tab_0]; exact HpLe.refl _) rfl ?_
  intro c hc
  unfold q59_l1
  by_cases hlt : c ≤ c0
  · have hlt' : (c : Int) ≤ (c0 : Int) := by omega
    (refine JQ.step follows hF hM ?_; simp (config := { maxSteps := 4000000 }) (disch := (omega)) only [go_sem, Nat.reduceLT, Nat.reduceEqDiff, reduceIte, Nat.reduceAdd, Nat.reduceSub, Nat.reduceLeDiff, Int.reduceEq, Int.reduceLT, Int.reduceLE, Int.reduceNeg, Int.reduceAdd, Int.reduceSub, Int.reduceToNat, Int.reduceMul, Nat.reduceMul, hlt'])
    refine JQ.cut (((((Tr.lf.set (I c0) (tp 0)).set (I n0) (tp 1)).set (I b) (tp 2)).set (.p (tp 255) 0) (tp 7)).set (I c) (tp 8)) (tH (tab d n0 c (n0 + 1))) 257 ?_ ?_
    · refine JQ.block ?_
      (refine JQ.step follows hF hM ?_; simp (config := { maxSteps := 4000000 }) (disch := (omega)) only [go_sem, Nat.reduceLT, Nat.reduceEqDiff, reduceIte, Nat.reduceAdd, Nat.reduceSub, Nat.reduceLeDiff, Int.reduceEq, Int.reduceLT, Int.reduceLE, Int.reduceNeg, Int.reduceAdd, Int.reduceSub, Int.reduceToNat, Int.reduceMul, Nat.reduceMul])
      refine JQ.block ?_
      refine JQ.loop (σ := Nat) (fun n => n ≤ n0 + 1) (fun n => (((((Tr.lf.set (I c0) (tp 0)).set (I n0) (tp 1)).set (I b) (tp 2)).set (.p (tp 255) 0) (tp 7)).set (I c) (tp 8)).set (I n) (tp 9)) (fun n => tH (tab d n0 c n)) (fun _ => 257) (fun n => n0 + 1 - n) 0 (Nat.zero_le _) (by ((repeat' (first | exact EnvLe.lf _ | refine EnvLe.set (by decide) ?_ ?_)) <;> first | exact EnvLe.lf _ | (simp (config := { maxSteps := 4000000 }) (disch := (omega)) only [go_sem, Nat.reduceLT, Nat.reduceEqDiff, reduceIte, Nat.reduceAdd, Nat.reduceSub, Nat.reduceLeDiff, Int.reduceEq, Int.reduceLT, Int.reduceLE, Int.reduceNeg, Int.reduceAdd, Int.reduceSub, Int.reduceToNat, Int.reduceMul, Nat.reduceMul, Int.natCast_add, Int.cast_ofNat_Int]; done) | (simp (config := { maxSteps := 4000000 }) (disch := (omega)) only [go_sem, Nat.reduceLT, Nat.reduceEqDiff, reduceIte, Nat.reduceAdd, Nat.reduceSub, Nat.reduceLeDiff, Int.reduceEq, Int.reduceLT, Int.reduceLE, Int.reduceNeg, Int.reduceAdd, Int.reduceSub, Int.reduceToNat, Int.reduceMul, Nat.reduceMul, Int.natCast_add, Int.cast_ofNat_Int] <;> first | rfl | (congr 1; omega)))) (HpLe.refl _) rfl ?_
      intro n hn
      unfold q59_l0
      by_cases hnt : n ≤ n0
      · have hnt' : (n : Int) ≤ (n0 : Int) := by omega
        obtain ⟨t, ht⟩ : ∃ t : Int, t = b + c0 - c - n0 + n := ⟨_, rfl⟩
        (refine JQ.step follows hF hM ?_; simp (config := { maxSteps := 4000000 }) (disch := (omega)) only [go_sem, Nat.reduceLT, Nat.reduceEqDiff, reduceIte, Nat.reduceAdd, Nat.reduceSub, Nat.reduceLeDiff, Int.reduceEq, Int.reduceLT, Int.reduceLE, Int.reduceNeg, Int.reduceAdd, Int.reduceSub, Int.reduceToNat, Int.reduceMul, Nat.reduceMul, hnt', ← ht])
        refine JQ.cut (((((Tr.lf.set (I c0) (tp 0)).set (I n0) (tp 1)).set (I b) (tp 2)).set (.p (tp 255) 0) (tp 7)).set (I c) (tp 8) |>.set (I n) (tp 9)) (tH (tab d n0 c (n + 1))) 257 ?_ ?_
        · refine JQ.block ?_
          (refine JQ.step follows hF hM ?_; simp (config := { maxSteps := 4000000 }) (disch := (omega)) only [go_sem, Nat.reduceLT, Nat.reduceEqDiff, reduceIte, Nat.reduceAdd, Nat.reduceSub, Nat.reduceLeDiff, Int.reduceEq, Int.reduceLT, Int.reduceLE, Int.reduceNeg, Int.reduceAdd, Int.reduceSub, Int.reduceToNat, Int.reduceMul, Nat.reduceMul, ← ht])
          have hc16 : c ≤ 16 := by omega
          have hn16 : n ≤ 16 := by omega
          have htd : t = d - c + n := by omega
          have hx := tab_len d n0 c n
          have hnow := At_now d (n0 := n0) (c := c) (n := n) hc16 hn16
          have hst := tab_step d (n0 := n0) (c := c) (n := n) hc16 hn16
          refine JQ.weak (e0 := tE c0 n0 b c n t) (by unfold tE; ((repeat' (first | exact EnvLe.lf _ | refine EnvLe.set (by decide) ?_ ?_)) <;> first | exact EnvLe.lf _ | (simp (config := { maxSteps := 4000000 }) (disch := (omega)) only [go_sem, Nat.reduceLT, Nat.reduceEqDiff, reduceIte, Nat.reduceAdd, Nat.reduceSub, Nat.reduceLeDiff, Int.reduceEq, Int.reduceLT, Int.reduceLE, Int.reduceNeg, Int.reduceAdd, Int.reduceSub, Int.reduceToNat, Int.reduceMul, Nat.reduceMul, Int.natCast_add, Int.cast_ofNat_Int]; done) | (simp (config := { maxSteps := 4000000 }) (disch := (omega)) only [go_sem, Nat.reduceLT, Nat.reduceEqDiff, reduceIte, Nat.reduceAdd, Nat.reduceSub, Nat.reduceLeDiff, Int.reduceEq, Int.reduceLT, Int.reduceLE, Int.reduceNeg, Int.reduceAdd, Int.reduceSub, Int.reduceToNat, Int.reduceMul, Nat.reduceMul, Int.natCast_add, Int.cast_ofNat_Int] <;> first | rfl | (congr 1; omega)))) (HpLe.refl _) ?_
          by_cases ht0 : t < 0
          · have hsame := tab_same d (n0 := n0) (c := c) (n := n) hc16 hn16 (T_neg (by omega))
            unfold tE
            (refine JQ.step follows hF hM ?_; simp (config := { maxSteps := 4000000 }) (disch := (omega)) only [go_sem, Nat.reduceLT, Nat.reduceEqDiff, reduceIte, Nat.reduceAdd, Nat.reduceSub, Nat.reduceLeDiff, Int.reduceEq, Int.reduceLT, Int.reduceLE, Int.reduceNeg, Int.reduceAdd, Int.reduceSub, Int.reduceToNat, Int.reduceMul, Nat.reduceMul, ht0, Kcut, ← hsame])
            exact ⟨by ((repeat' (first | exact EnvLe.lf _ | refine EnvLe.set (by decide) ?_ ?_)) <;> first | exact EnvLe.lf _ | (simp (config := { maxSteps := 4000000 }) (disch := (omega)) only [go_sem, Nat.reduceLT, Nat.reduceEqDiff, reduceIte, Nat.reduceAdd, Nat.reduceSub, Nat.reduceLeDiff, Int.reduceEq, Int.reduceLT, Int.reduceLE, Int.reduceNeg, Int.reduceAdd, Int.reduceSub, Int.reduceToNat, Int.reduceMul, Nat.reduceMul, Int.natCast_add, Int.cast_ofNat_Int]; done) | (simp (config := { maxSteps := 4000000 }) (disch := (omega)) only [go_sem, Nat.reduceLT, Nat.reduceEqDiff, reduceIte, Nat.reduceAdd, Nat.reduceSub, Nat.reduceLeDiff, Int.reduceEq, Int.reduceLT, Int.reduceLE, Int.reduceNeg, Int.reduceAdd, Int.reduceSub, Int.reduceToNat, Int.reduceMul, Nat.reduceMul, Int.natCast_add, Int.cast_ofNat_Int] <;> first | rfl | (congr 1; omega))), HpLe.refl _⟩
          · have hT := T_eq (d := d) (c := c) (n := n) (by omega)
            unfold tE
            (refine JQ.step follows hF hM ?_; simp (config := { maxSteps := 4000000 }) (disch := (omega)) only [go_sem, Nat.reduceLT, Nat.reduceEqDiff, reduceIte, Nat.reduceAdd, Nat.reduceSub, Nat.reduceLeDiff, Int.reduceEq, Int.reduceLT, Int.reduceLE, Int.reduceNeg, Int.reduceAdd, Int.reduceSub, Int.reduceToNat, Int.reduceMul, Nat.reduceMul, ht0])
            obtain ⟨xs, hxs⟩ : ∃ xs, xs = tab d n0 c n := ⟨_, rfl⟩
            have hup : 0 < c → At xs ((c - 1) * 17 + n) = T d (c - 1) n := fun h => by
              have := At_up d (n0 := n0) (c := c - 1) (n := n) n (by omega) hnt (by omega)
              rw [hxs]; rwa [show c - 1 + 1 = c by omega] at this
            have hleft : 0 < n → At xs (c * 17 + (n - 1)) = T d c (n - 1) := fun h => by
              have := At_left d (n0 := n0) (c := c) (n := n - 1) hc16 (by omega)
              rw [hxs]; rwa [show n - 1 + 1 = n by omega] at this
            rw [← hxs] at hx hnow hst ⊢
            obtain ⟨v1, hv1⟩ : ∃ v1 : Int, v1 = if c = 0 ∧ n = 0 then 1 else 0 := ⟨_, rfl⟩
            rw [← hv1] at hT
            obtain ⟨ys, hys⟩ : ∃ ys, ys = xs.set (c * 17 + n) v1 := ⟨_, rfl⟩
            have hyl : ys.length = 289 := by rw [hys, List.length_set]; exact hx
            have hy0 : At ys (c * 17 + n) = v1 := by rw [hys, At_set, if_pos ⟨rfl, by omega⟩]
            have hyu : 0 < c → At ys ((c - 1) * 17 + n) = T d (c - 1) n := fun h => by rw [hys, At_set, if_neg (by omega)]; exact hup h
            have hyf : 0 < n → At ys (c * 17 + (n - 1)) = T d c (n - 1) := fun h => by rw [hys, At_set, if_neg (by omega)]; exact hleft h
            have hv1r : 0 ≤ v1 ∧ v1 ≤ 1 := by rw [hv1]; split <;> omega
            refine JQ.cut (tE c0 n0 b c n t) (tH ys) 257 ?_ ?_
            · by_cases hz : c = 0 ∧ n = 0
              · have q1 : (c : Int) = 0 := by omega
                have q2 : (n : Int) = 0 := by omega
                have hv : v1 = 1 := by rw [hv1, if_pos hz]
                (refine JQ.run follows hF hM ?_; simp (config := { maxSteps := 4000000 }) (disch := (omega)) only [go_sem, Nat.reduceLT, Nat.reduceEqDiff, reduceIte, Nat.reduceAdd, Nat.reduceSub, Nat.reduceLeDiff, Int.reduceEq, Int.reduceLT, Int.reduceLE, Int.reduceNeg, Int.reduceAdd, Int.reduceSub, Int.reduceToNat, Int.reduceMul, Nat.reduceMul, eq_true q1, eq_true q2, O_ixa, tH, Kcut])
                refine ⟨by unfold tE; ((repeat' (first | exact EnvLe.lf _ | refine EnvLe.set (by decide) ?_ ?_)) <;> first | exact EnvLe.lf _ | (simp (config := { maxSteps := 4000000 }) (disch := (omega)) only [go_sem, Nat.reduceLT, Nat.reduceEqDiff, reduceIte, Nat.reduceAdd, Nat.reduceSub, Nat.reduceLeDiff, Int.reduceEq, Int.reduceLT, Int.reduceLE, Int.reduceNeg, Int.reduceAdd, Int.reduceSub, Int.reduceToNat, Int.reduceMul, Nat.reduceMul, Int.natCast_add, Int.cast_ofNat_Int]; done) | (simp (config := { maxSteps := 4000000 }) (disch := (omega)) only [go_sem, Nat.reduceLT, Nat.reduceEqDiff, reduceIte, Nat.reduceAdd, Nat.reduceSub, Nat.reduceLeDiff, Int.reduceEq, Int.reduceLT, Int.reduceLE, Int.reduceNeg, Int.reduceAdd, Int.reduceSub, Int.reduceToNat, Int.reduceMul, Nat.reduceMul, Int.natCast_add, Int.cast_ofNat_Int] <;> first | rfl | (congr 1; omega))), ?_⟩
                rw [hys, hv]
                exact tH_set (by omega) (by omega) (hget_same _ _ _)
              · have hv : v1 = 0 := by rw [hv1, if_neg hz]
                have hys2 : ys = xs := by rw [hys, hv]; exact set_self (by omega) hnow
                rw [hys2]
                by_cases q : c = 0
                · have q1 : (c : Int) = 0 := by omega
                  have q2 : ¬ (n : Int) = 0 := by omega
                  (refine JQ.run follows hF hM ?_; simp (config := { maxSteps := 4000000 }) (disch := (omega)) only [go_sem, Nat.reduceLT, Nat.reduceEqDiff, reduceIte, Nat.reduceAdd, Nat.reduceSub, Nat.reduceLeDiff, Int.reduceEq, Int.reduceLT, Int.reduceLE, Int.reduceNeg, Int.reduceAdd, Int.reduceSub, Int.reduceToNat, Int.reduceMul, Nat.reduceMul, eq_true q1, eq_false q2, Kcut])
                  exact ⟨by unfold tE; ((repeat' (first | exact EnvLe.lf _ | refine EnvLe.set (by decide) ?_ ?_)) <;> first | exact EnvLe.lf _ | (simp (config := { maxSteps := 4000000 }) (disch := (omega)) only [go_sem, Nat.reduceLT, Nat.reduceEqDiff, reduceIte, Nat.reduceAdd, Nat.reduceSub, Nat.reduceLeDiff, Int.reduceEq, Int.reduceLT, Int.reduceLE, Int.reduceNeg, Int.reduceAdd, Int.reduceSub, Int.reduceToNat, Int.reduceMul, Nat.reduceMul, Int.natCast_add, Int.cast_ofNat_Int]; done) | (simp (config := { maxSteps := 4000000 }) (disch := (omega)) only [go_sem, Nat.reduceLT, Nat.reduceEqDiff, reduceIte, Nat.reduceAdd, Nat.reduceSub, Nat.reduceLeDiff, Int.reduceEq, Int.reduceLT, Int.reduceLE, Int.reduceNeg, Int.reduceAdd, Int.reduceSub, Int.reduceToNat, Int.reduceMul, Nat.reduceMul, Int.natCast_add, Int.cast_ofNat_Int] <;> first | rfl | (congr 1; omega))), HpLe.refl _⟩
                · have q1 : ¬ (c : Int) = 0 := by omega
                  (refine JQ.run follows hF hM ?_; simp (config := { maxSteps := 4000000 }) (disch := (omega)) only [go_sem, Nat.reduceLT, Nat.reduceEqDiff, reduceIte, Nat.reduceAdd, Nat.reduceSub, Nat.reduceLeDiff, Int.reduceEq, Int.reduceLT, Int.reduceLE, Int.reduceNeg, Int.reduceAdd, Int.reduceSub, Int.reduceToNat, Int.reduceMul, Nat.reduceMul, eq_false q1, Kcut])
                  exact ⟨by unfold tE; ((repeat' (first | exact EnvLe.lf _ | refine EnvLe.set (by decide) ?_ ?_)) <;> first | exact EnvLe.lf _ | (simp (config := { maxSteps := 4000000 }) (disch := (omega)) only [go_sem, Nat.reduceLT, Nat.reduceEqDiff, reduceIte, Nat.reduceAdd, Nat.reduceSub, Nat.reduceLeDiff, Int.reduceEq, Int.reduceLT, Int.reduceLE, Int.reduceNeg, Int.reduceAdd, Int.reduceSub, Int.reduceToNat, Int.reduceMul, Nat.reduceMul, Int.natCast_add, Int.cast_ofNat_Int]; done) | (simp (config := { maxSteps := 4000000 }) (disch := (omega)) only [go_sem, Nat.reduceLT, Nat.reduceEqDiff, reduceIte, Nat.reduceAdd, Nat.reduceSub, Nat.reduceLeDiff, Int.reduceEq, Int.reduceLT, Int.reduceLE, Int.reduceNeg, Int.reduceAdd, Int.reduceSub, Int.reduceToNat, Int.reduceMul, Nat.reduceMul, Int.natCast_add, Int.cast_ofNat_Int] <;> first | rfl | (congr 1; omega))), HpLe.refl _⟩
            · clear hxs hup hleft hnow
              obtain ⟨v2, hv2⟩ : ∃ v2 : Int, v2 = v1 + if 0 < c then T d (c - 1) n else 0 := ⟨_, rfl⟩
              rw [← hv2] at hT
              have hT1 := T_le d (c := c - 1) (n := n) (by omega)
              have hT2 := T_le d (c := c) (n := n - 1) (by omega)
              obtain ⟨zs, hzs⟩ : ∃ zs, zs = ys.set (c * 17 + n) v2 := ⟨_, rfl⟩
              have hzl : zs.length = 289 := by rw [hzs, List.length_set]; exact hyl
              have hz0 : At zs (c * 17 + n) = v2 := by rw [hzs, At_set, if_pos ⟨rfl, by omega⟩]
              have hzf : 0 < n → At zs (c * 17 + (n - 1)) = T d c (n - 1) := fun h => by rw [hzs, At_set, if_neg (by omega)]; exact hyf h
              have hzx : zs = xs.set (c * 17 + n) v2 := by rw [hzs, hys, List.set_set]
              have hv2r : 0 ≤ v2 ∧ v2 ≤ 65537 := by rw [hv2]; split <;> omega
              unfold tE
              refine JQ.cut (tE c0 n0 b c n t) (tH zs) 257 ?_ ?_
              · by_cases q : 0 < c
                · have q1 : (0 : Int) < (c : Int) := by omega
                  have e1 : ((c : Int) - 1).toNat = c - 1 := by omega
                  have e2 := hyu q
                  have hv : v1 + T d (c - 1) n = v2 := by rw [hv2, if_pos q]
                  (refine JQ.run follows hF hM ?_; simp (config := { maxSteps := 4000000 }) (disch := (omega)) only [go_sem, Nat.reduceLT, Nat.reduceEqDiff, reduceIte, Nat.reduceAdd, Nat.reduceSub, Nat.reduceLeDiff, Int.reduceEq, Int.reduceLT, Int.reduceLE, Int.reduceNeg, Int.reduceAdd, Int.reduceSub, Int.reduceToNat, Int.reduceMul, Nat.reduceMul, q1, O_ixa, tH, Kcut, evDr_eq, runD_1, rdQ_p, rdQ2_s, rdQ3_ok, appAll_1, e1, e2, hy0, hv])
                  refine ⟨by unfold tE; ((repeat' (first | exact EnvLe.lf _ | refine EnvLe.set (by decide) ?_ ?_)) <;> first | exact EnvLe.lf _ | (simp (config := { maxSteps := 4000000 }) (disch := (omega)) only [go_sem, Nat.reduceLT, Nat.reduceEqDiff, reduceIte, Nat.reduceAdd, Nat.reduceSub, Nat.reduceLeDiff, Int.reduceEq, Int.reduceLT, Int.reduceLE, Int.reduceNeg, Int.reduceAdd, Int.reduceSub, Int.reduceToNat, Int.reduceMul, Nat.reduceMul, Int.natCast_add, Int.cast_ofNat_Int]; done) | (simp (config := { maxSteps := 4000000 }) (disch := (omega)) only [go_sem, Nat.reduceLT, Nat.reduceEqDiff, reduceIte, Nat.reduceAdd, Nat.reduceSub, Nat.reduceLeDiff, Int.reduceEq, Int.reduceLT, Int.reduceLE, Int.reduceNeg, Int.reduceAdd, Int.reduceSub, Int.reduceToNat, Int.reduceMul, Nat.reduceMul, Int.natCast_add, Int.cast_ofNat_Int] <;> first | rfl | (congr 1; omega))), ?_⟩
                  rw [hzs]
                  exact tH_set (by omega) (by omega) (hget_same _ _ _)
                · have q1 : ¬ (0 : Int) < (c : Int) := by omega
                  have hv : v2 = v1 := by rw [hv2, if_neg q]; omega
                  have hzy : zs = ys := by rw [hzs, hv]; exact set_self (by omega) hy0
                  rw [hzy]
                  (refine JQ.run follows hF hM ?_; simp (config := { maxSteps := 4000000 }) (disch := (omega)) only [go_sem, Nat.reduceLT, Nat.reduceEqDiff, reduceIte, Nat.reduceAdd, Nat.reduceSub, Nat.reduceLeDiff, Int.reduceEq, Int.reduceLT, Int.reduceLE, Int.reduceNeg, Int.reduceAdd, Int.reduceSub, Int.reduceToNat, Int.reduceMul, Nat.reduceMul, q1, Kcut])
                  exact ⟨by unfold tE; ((repeat' (first | exact EnvLe.lf _ | refine EnvLe.set (by decide) ?_ ?_)) <;> first | exact EnvLe.lf _ | (simp (config := { maxSteps := 4000000 }) (disch := (omega)) only [go_sem, Nat.reduceLT, Nat.reduceEqDiff, reduceIte, Nat.reduceAdd, Nat.reduceSub, Nat.reduceLeDiff, Int.reduceEq, Int.reduceLT, Int.reduceLE, Int.reduceNeg, Int.reduceAdd, Int.reduceSub, Int.reduceToNat, Int.reduceMul, Nat.reduceMul, Int.natCast_add, Int.cast_ofNat_Int]; done) | (simp (config := { maxSteps := 4000000 }) (disch := (omega)) only [go_sem, Nat.reduceLT, Nat.reduceEqDiff, reduceIte, Nat.reduceAdd, Nat.reduceSub, Nat.reduceLeDiff, Int.reduceEq, Int.reduceLT, Int.reduceLE, Int.reduceNeg, Int.reduceAdd, Int.reduceSub, Int.reduceToNat, Int.reduceMul, Nat.reduceMul, Int.natCast_add, Int.cast_ofNat_Int] <;> first | rfl | (congr 1; omega))), HpLe.refl _⟩
              · unfold tE
                by_cases q : 0 < n ∧ 0 < t
                · have q1 : (0 : Int) < (n : Int) := by omega
                  have q2 : 0 < t := q.2
                  have e1 : ((n : Int) - 1).toNat = n - 1 := by omega
                  have e2 := hzf q.1
                  have hv : v2 + T d c (n - 1) = T d c n := by rw [hT, if_pos (by omega)]
                  (refine JQ.run follows hF hM ?_; simp (config := { maxSteps := 4000000 }) (disch := (omega)) only [go_sem, Nat.reduceLT, Nat.reduceEqDiff, reduceIte, Nat.reduceAdd, Nat.reduceSub, Nat.reduceLeDiff, Int.reduceEq, Int.reduceLT, Int.reduceLE, Int.reduceNeg, Int.reduceAdd, Int.reduceSub, Int.reduceToNat, Int.reduceMul, Nat.reduceMul, q1, q2, O_ixa, tH, Kcut, evDr_eq, runD_1, rdQ_p, rdQ2_s, rdQ3_ok, appAll_1, e1, e2, hz0, hv])
                  refine ⟨by ((repeat' (first | exact EnvLe.lf _ | refine EnvLe.set (by decide) ?_ ?_)) <;> first | exact EnvLe.lf _ | (simp (config := { maxSteps := 4000000 }) (disch := (omega)) only [go_sem, Nat.reduceLT, Nat.reduceEqDiff, reduceIte, Nat.reduceAdd, Nat.reduceSub, Nat.reduceLeDiff, Int.reduceEq, Int.reduceLT, Int.reduceLE, Int.reduceNeg, Int.reduceAdd, Int.reduceSub, Int.reduceToNat, Int.reduceMul, Nat.reduceMul, Int.natCast_add, Int.cast_ofNat_Int]; done) | (simp (config := { maxSteps := 4000000 }) (disch := (omega)) only [go_sem, Nat.reduceLT, Nat.reduceEqDiff, reduceIte, Nat.reduceAdd, Nat.reduceSub, Nat.reduceLeDiff, Int.reduceEq, Int.reduceLT, Int.reduceLE, Int.reduceNeg, Int.reduceAdd, Int.reduceSub, Int.reduceToNat, Int.reduceMul, Nat.reduceMul, Int.natCast_add, Int.cast_ofNat_Int] <;> first | rfl | (congr 1; omega))), ?_⟩
                  rw [← hst, ← List.set_set (a := v2), ← hzx]
                  exact tH_set (by omega) (by omega) (hget_same _ _ _)
                · have hv : v2 = T d c n := by rw [hT, if_neg (by omega)]; omega
                  rw [← hst, ← hv, ← hzx]
                  by_cases q3 : 0 < n
                  · have q1 : (0 : Int) < (n : Int) := by omega
                    have q2 : ¬ 0 < t := by omega
                    (refine JQ.run follows hF hM ?_; simp (config := { maxSteps := 4000000 }) (disch := (omega)) only [go_sem, Nat.reduceLT, Nat.reduceEqDiff, reduceIte, Nat.reduceAdd, Nat.reduceSub, Nat.reduceLeDiff, Int.reduceEq, Int.reduceLT, Int.reduceLE, Int.reduceNeg, Int.reduceAdd, Int.reduceSub, Int.reduceToNat, Int.reduceMul, Nat.reduceMul, q1, q2, Kcut])
                    exact ⟨by ((repeat' (first | exact EnvLe.lf _ | refine EnvLe.set (by decide) ?_ ?_)) <;> first | exact EnvLe.lf _ | (simp (config := { maxSteps := 4000000 }) (disch := (omega)) only [go_sem, Nat.reduceLT, Nat.reduceEqDiff, reduceIte, Nat.reduceAdd, Nat.reduceSub, Nat.reduceLeDiff, Int.reduceEq, Int.reduceLT, Int.reduceLE, Int.reduceNeg, Int.reduceAdd, Int.reduceSub, Int.reduceToNat, Int.reduceMul, Nat.reduceMul, Int.natCast_add, Int.cast_ofNat_Int]; done) | (simp (config := { maxSteps := 4000000 }) (disch := (omega)) only [go_sem, Nat.reduceLT, Nat.reduceEqDiff, reduceIte, Nat.reduceAdd, Nat.reduceSub, Nat.reduceLeDiff, Int.reduceEq, Int.reduceLT, Int.reduceLE, Int.reduceNeg, Int.reduceAdd, Int.reduceSub, Int.reduceToNat, Int.reduceMul, Nat.reduceMul, Int.natCast_add, Int.cast_ofNat_Int] <;> first | rfl | (congr 1; omega))), HpLe.refl _⟩
                  · have q1 : ¬ (0 : Int) < (n : Int) := by omega
                    (refine JQ.run follows hF hM ?_; simp (config := { maxSteps := 4000000 }) (disch := (omega)) only [go_sem, Nat.reduceLT, Nat.reduceEqDiff, reduceIte, Nat.reduceAdd, Nat.reduceSub, Nat.reduceLeDiff, Int.reduceEq, Int.reduceLT, Int.reduceLE, Int.reduceNeg, Int.reduceAdd, Int.reduceSub, Int.reduceToNat, Int.reduceMul, Nat.reduceMul, q1, Kcut])
                    exact ⟨by ((repeat' (first | exact EnvLe.lf _ | refine EnvLe.set (by decide) ?_ ?_)) <;> first | exact EnvLe.lf _ | (simp (config := { maxSteps := 4000000 }) (disch := (omega)) only [go_sem, Nat.reduceLT, Nat.reduceEqDiff, reduceIte, Nat.reduceAdd, Nat.reduceSub, Nat.reduceLeDiff, Int.reduceEq, Int.reduceLT, Int.reduceLE, Int.reduceNeg, Int.reduceAdd, Int.reduceSub, Int.reduceToNat, Int.reduceMul, Nat.reduceMul, Int.natCast_add, Int.cast_ofNat_Int]; done) | (simp (config := { maxSteps := 4000000 }) (disch := (omega)) only [go_sem, Nat.reduceLT, Nat.reduceEqDiff, reduceIte, Nat.reduceAdd, Nat.reduceSub, Nat.reduceLeDiff, Int.reduceEq, Int.reduceLT, Int.reduceLE, Int.reduceNeg, Int.reduceAdd, Int.reduceSub, Int.reduceToNat, Int.reduceMul, Nat.reduceMul, Int.natCast_add, Int.cast_ofNat_Int] <;> first | rfl | (congr 1; omega))), HpLe.refl _⟩
        · (refine JQ.run follows hF hM ?_; simp (config := { maxSteps := 4000000 }) (disch := (omega)) only [go_sem, Nat.reduceLT, Nat.reduceEqDiff, reduceIte, Nat.reduceAdd, Nat.reduceSub, Nat.reduceLeDiff, Int.reduceEq, Int.reduceLT, Int.reduceLE, Int.reduceNeg, Int.reduceAdd, Int.reduceSub, Int.reduceToNat, Int.reduceMul, Nat.reduceMul])
          exact ⟨n + 1, by omega, by omega, by ((repeat' (first | exact EnvLe.lf _ | refine EnvLe.set (by decide) ?_ ?_)) <;> first | exact EnvLe.lf _ | (simp (config := { maxSteps := 4000000 }) (disch := (omega)) only [go_sem, Nat.reduceLT, Nat.reduceEqDiff, reduceIte, Nat.reduceAdd, Nat.reduceSub, Nat.reduceLeDiff, Int.reduceEq, Int.reduceLT, Int.reduceLE, Int.reduceNeg, Int.reduceAdd, Int.reduceSub, Int.reduceToNat, Int.reduceMul, Nat.reduceMul, Int.natCast_add, Int.cast_ofNat_Int]; done) | (simp (config := { maxSteps := 4000000 }) (disch := (omega)) only [go_sem, Nat.reduceLT, Nat.reduceEqDiff, reduceIte, Nat.reduceAdd, Nat.reduceSub, Nat.reduceLeDiff, Int.reduceEq, Int.reduceLT, Int.reduceLE, Int.reduceNeg, Int.reduceAdd, Int.reduceSub, Int.reduceToNat, Int.reduceMul, Nat.reduceMul, Int.natCast_add, Int.cast_ofNat_Int] <;> first | rfl | (congr 1; omega))), HpLe.refl _⟩
      · obtain rfl : n = n0 + 1 := by omega
        have hnt' : ¬ ((n0 + 1 : Nat) : Int) ≤ (n0 : Int) := by omega
        (refine JQ.run follows hF hM ?_; simp (config := { maxSteps := 4000000 }) (disch := (omega)) only [go_sem, Nat.reduceLT, Nat.reduceEqDiff, reduceIte, Nat.reduceAdd, Nat.reduceSub, Nat.reduceLeDiff, Int.reduceEq, Int.reduceLT, Int.reduceLE, Int.reduceNeg, Int.reduceAdd, Int.reduceSub, Int.reduceToNat, Int.reduceMul, Nat.reduceMul, hnt'])
        exact ⟨by ((repeat' (first | exact EnvLe.lf _ | refine EnvLe.set (by decide) ?_ ?_)) <;> first | exact EnvLe.lf _ | (simp (config := { maxSteps := 4000000 }) (disch := (omega)) only [go_sem, Nat.reduceLT, Nat.reduceEqDiff, reduceIte, Nat.reduceAdd, Nat.reduceSub, Nat.reduceLeDiff, Int.reduceEq, Int.reduceLT, Int.reduceLE, Int.reduceNeg, Int.reduceAdd, Int.reduceSub, Int.reduceToNat, Int.reduceMul, Nat.reduceMul, Int.natCast_add, Int.cast_ofNat_Int]; done) | (simp (config := { maxSteps := 4000000 }) (disch := (omega)) only [go_sem, Nat.reduceLT, Nat.reduceEqDiff, reduceIte, Nat.reduceAdd, Nat.reduceSub, Nat.reduceLeDiff, Int.reduceEq, Int.reduceLT, Int.reduceLE, Int.reduceNeg, Int.reduceAdd, Int.reduceSub, Int.reduceToNat, Int.reduceMul, Nat.reduceMul, Int.natCast_add, Int.cast_ofNat_Int] <;> first | rfl | (congr 1; omega))), HpLe.refl _, rfl⟩
    · rw [tab_row d (by omega) (by omega)]
      (refine JQ.run follows hF hM ?_; simp (config := { maxSteps := 4000000 }) (disch := (omega)) only [go_sem, Nat.reduceLT, Nat.reduceEqDiff, reduceIte, Nat.reduceAdd, Nat.reduceSub, Nat.reduceLeDiff, Int.reduceEq, Int.reduceLT, Int.reduceLE, Int.reduceNeg, Int.reduceAdd, Int.reduceSub, Int.reduceToNat, Int.reduceMul, Nat.reduceMul])
      exact ⟨c + 1, by omega, by omega, by ((repeat' (first | exact EnvLe.lf _ | refine EnvLe.set (by decide) ?_ ?_)) <;> first | exact EnvLe.lf _ | (simp (config := { maxSteps := 4000000 }) (disch := (omega)) only [go_sem, Nat.reduceLT, Nat.reduceEqDiff, reduceIte, Nat.reduceAdd, Nat.reduceSub, Nat.reduceLeDiff, Int.reduceEq, Int.reduceLT, Int.reduceLE, Int.reduceNeg, Int.reduceAdd, Int.reduceSub, Int.reduceToNat, Int.reduceMul, Nat.reduceMul, Int.natCast_add, Int.cast_ofNat_Int]; done) | (simp (config := { maxSteps := 4000000 }) (disch := (omega)) only [go_sem, Nat.reduceLT, Nat.reduceEqDiff, reduceIte, Nat.reduceAdd, Nat.reduceSub, Nat.reduceLeDiff, Int.reduceEq, Int.reduceLT, Int.reduceLE, Int.reduceNeg, Int.reduceAdd, Int.reduceSub, Int.reduceToNat, Int.reduceMul, Nat.reduceMul, Int.natCast_add, Int.cast_ofNat_Int] <;> first | rfl | (congr 1; omega))), HpLe.refl _⟩
  · obtain rfl : c = c0 + 1 := by omega
    have hlt' : ¬ ((c0 + 1 : Nat) : Int) ≤ (c0 : Int) := by omega
    have hA := At_up d (n0 := n0) (c := c0) (n := n0) 0 (by omega) (Nat.le_refl _) (by omega)
    have hl := tab_len d n0 (c0 + 1) 0
    (refine JQ.run follows hF hM ?_; simp (config := { maxSteps := 4000000 }) (disch := (omega)) only [go_sem, Nat.reduceLT, Nat.reduceEqDiff, reduceIte, Nat.reduceAdd, Nat.reduceSub, Nat.reduceLeDiff, Int.reduceEq, Int.reduceLT, Int.reduceLE, Int.reduceNeg, Int.reduceAdd, Int.reduceSub, Int.reduceToNat, Int.reduceMul, Nat.reduceMul, hlt'])
    (refine JQ.run follows hF hM ?_; simp (config := { maxSteps := 4000000 }) (disch := (omega)) only [go_sem, Nat.reduceLT, Nat.reduceEqDiff, reduceIte, Nat.reduceAdd, Nat.reduceSub, Nat.reduceLeDiff, Int.reduceEq, Int.reduceLT, Int.reduceLE, Int.reduceNeg, Int.reduceAdd, Int.reduceSub, Int.reduceToNat, Int.reduceMul, Nat.reduceMul, res59, O_ixa, tH, tab_len, hA])
end Go.Proofs.Ytkdbgkibifigiaa.Ev
