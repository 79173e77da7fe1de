/- The till: customers are served, the program's side. -/
import Derived.Test.YtkdbgkibifigiaaTsC
namespace Go.Proofs.Ytkdbgkibifigiaa.Ev
set_option linter.unusedVariables false
set_option linter.unusedSimpArgs false
set_option maxRecDepth 100000
open Go Go.Proofs
attribute [local go_sem] evC_seq evC_reg evC_cond evC_block evC_skip evC_exit evC_ret evR_cons evR_nil evR_gd guardB_tt guardB_ff guardB_tf guardB_ft guardB_none bindR_ok bindR_okn rgRs_ok seqR_nor seqR_ext seqR_ret condR_true condR_false blockR_nor blockR_ext blockR_ret evX_t evX_c evXL_nil evXL_cons O_mv O_bin O_pick O_eqb O_not O_ext O_call O_conv O_slen O_six O_sbi pv_I pv_i pv_b pv_s pv_ns pv_sl pv_p pv_tu pv_ag bin_lss bin_leq bin_gtr bin_geq bin_eql bin_neq bin8_eql bin8_neq bin_add bin_sub bin_mul get_st get_lf bind_nil bind_cons if_true if_false Got_nor Got_ext Got_ret Kseq Kblk Klp Kend onStr_s onB_b onT_tu onI_I onN_I onK_I eqb_b not_b nthL_0 nthL_1 nthL_2 known_nil known_cons I_known known_b known_s evRVs_nil evRVs_cons evRes_1 evRes_2 evRV_tmp Bool.and_true Bool.true_and Bool.and_self Bool.not_true Bool.not_false decide_true decide_false Int.toNat_natCast true_and and_true big hget_same hget_ne newB_n onP_p onS_sl onS_ns O_fad O_alloc_if O_ixs O_len O_ld O_st O_box boxB_if ldB_if ldB_agif stB_if toL_I toL_i toL_b toL_s toL_sl toL_ns toL_ag allC_nil allC_cons isC_i isC_b isC_s isC_sl isC_ns I_isC Llen_nil Llen_cons Lget_0 Lget_1 Lget_2 Lget_3 blkL_size cell_blkL_if getL_blkL_if getL_setL_if setL_sz evRV_cell' rvB_agif rvB_if evPL_cons bldK_if evPL_nil O_build O_part evBuild_ok okL_some onA_ag partV_1 evPart_eq updS_nil updS_cons upd_0 upd_1 upd_2 upd_3 ge_iff_le if_pos and_self Nat.le_refl known_ag known_sl known_ns known_i ov_at spS_eq spSI_eq spSII_eq spI_eq spII_eq spIII_eq spIIII_eq res_v res_sl res_slE Good I_pur pur_b pur_s pur_i pur_ns pur_ag pur_tu purL_nil purL_cons evDr_eq evDs_nil evDs_cons dsR_ok stepD_eq sdB_n sdB_g sdG_tt sdG_ff sdG_tf sdG_ft sdG_none runD_0 rdR_f rdR_t baseOf_pu baseOf_h baseU_nil baseA_nil baseA_0 baseR_nil baseR_0 baseR_00 appAll_nil appAll_0 restr_nil restr_cons setD_some setD_none evC_draw iL_len iL_get iL_allC iL_pur hp0_0 hp0_c rdL_ns rdL_sl List.length_cons List.length_nil O_mks mkB_if O_bsl bslB_if O_app apX_ns apX_sl apN_some apS_some blkL_el Nat.one_mul Nat.mul_one Nat.zero_add n_I onF_fn O_callv app_nil app_cons spLF_eq spL_eq spLL_eq onL_some onLL_ss onLL_ns onLL_sn onLL_nn rdB_blk Int.cast_ofNat_Int
theorem rdB_off (el : TypeId) (xs : List Int) (off len : Nat) (hl : off + len = xs.length) : rdB (some (blkL el (iL xs))) off len = some (xs.drop off) := by
  have hd : (xs.drop off).length = len := by rw [List.length_drop]; omega
  subst hd
  simp only [rdB, blkL_size, iL_len]
  rw [if_pos (by omega)]
  exact rdC_iL el (xs.drop off) xs off rfl (by omega)
/-- Who is served, who waits, and the coins, after the first customers. -/
def svS (bs : List Nat) (b : Int) : Nat → List Int × List Int × Int
  | 0 => ([], [], b)
  | k + 1 =>
    let s := svS bs b k
    if byt bs k = 99 then (match s.2.1 with | [] => (s.1 ++ [(k : Int)], [], s.2.2 + 1) | w :: ws => (s.1 ++ [(k : Int)] ++ [w], ws, s.2.2))
    else if s.2.2 = 0 then (s.1, s.2.1 ++ [(k : Int)], 0) else (s.1 ++ [(k : Int)], s.2.1, s.2.2 - 1)
theorem svS_A {bs : List Nat} {b : Int} {k : Nat} {sv wt : List Int} (h : svS bs b k = (sv, wt, 0)) (hc : ¬ byt bs k = 99) : svS bs b (k + 1) = (sv, wt ++ [(k : Int)], 0) := by
  rw [svS, if_neg hc, h]; simp
theorem svS_B {bs : List Nat} {b c : Int} {k : Nat} {sv wt : List Int} (h : svS bs b k = (sv, wt, c)) (hc : ¬ byt bs k = 99) (h0 : ¬ c = 0) : svS bs b (k + 1) = (sv ++ [(k : Int)], wt, c - 1) := by
  rw [svS, if_neg hc, h]; simp [h0]
theorem svS_C {bs : List Nat} {b c w : Int} {k : Nat} {sv ws : List Int} (h : svS bs b k = (sv, w :: ws, c)) (hc : byt bs k = 99) : svS bs b (k + 1) = (sv ++ [(k : Int)] ++ [w], ws, c) := by
  rw [svS, if_pos hc, h]
theorem svS_D {bs : List Nat} {b c : Int} {k : Nat} {sv : List Int} (h : svS bs b k = (sv, [], c)) (hc : byt bs k = 99) : svS bs b (k + 1) = (sv ++ [(k : Int)], [], c + 1) := by
  rw [svS, if_pos hc, h]
theorem svS_len (bs : List Nat) (b : Int) : ∀ k : Nat, (svS bs b k).1.length + (svS bs b k).2.1.length = k
  | 0 => rfl
  | k + 1 => by
    have ih := svS_len bs b k
    rw [svS]
    split
    · split
      · rename_i h; rw [h] at ih; simp at ih ⊢; omega
      · rename_i h; rw [h] at ih; simp at ih ⊢; omega
    · split
      · simp; omega
      · simp; omega
/-- Whether somebody has waited. -/
def evW (bs : List Nat) (b : Int) : Nat → Bool
  | 0 => false
  | k + 1 => evW bs b k || (decide (byt bs k ≠ 99) && decide ((svS bs b k).2.2 = 0))
theorem evW_c {bs : List Nat} {b : Int} {k : Nat} (hc : byt bs k = 99) : evW bs b (k + 1) = evW bs b k := by simp [evW, hc]
theorem evW_B {bs : List Nat} {b c : Int} {k : Nat} {sv wt : List Int} (h : svS bs b k = (sv, wt, c)) (h0 : ¬ c = 0) : evW bs b (k + 1) = evW bs b k := by simp [evW, h, h0]
theorem evW_A {bs : List Nat} {b : Int} {k : Nat} {sv wt : List Int} (h : svS bs b k = (sv, wt, 0)) (hc : ¬ byt bs k = 99) : evW bs b (k + 1) = true := by simp [evW, h, hc]
noncomputable def F69 : FF := ov 65 (spLI f65) (ov 73 (spV v73) F0)
theorem F69_ok : FOK Try.prog F69 := ov_ok ok65 (ov_ok ok73 (F0_ok _))
theorem F69_mono : F69.mono := ov_mono (spLI_mo _) (ov_mono (spV_mo _) F0_mono)
noncomputable def svW (ps : Nat) (l : List Int) : V := if l.length = 0 then .ns else .sl (tp ps) 0 1 l.length (some l.length)
noncomputable def wtW (pw ow : Nat) (l : List Int) : V := if l.length = 0 then .ns else .sl (tp pw) ow 1 (l.length - ow) (some (l.length - ow))
noncomputable def svH (ps : Nat) (l : List Int) (h : Hp) : Hp := if l.length = 0 then h else h.put (some (blkL 3 (iL l))) (tp ps)
structure St where
  k : Nat
  sv : List Int
  xw : List Int
  c : Int
  ps : Nat
  pw : Nat
  ow : Nat
  nx : Nat
structure SI (bs : List Nat) (b : Int) (s : St) : Prop where
  k1 : s.k ≤ bs.length
  st : svS bs b s.k = (s.sv, s.xw.drop s.ow, s.c)
  c0 : 0 ≤ s.c
  c1 : s.c ≤ 20 + s.k
  l1 : s.sv.length ≤ s.k
  l2 : s.xw.length ≤ s.k
  l3 : s.ow ≤ s.xw.length
  n0 : 256 ≤ s.nx
  n1 : s.nx ≤ 256 + 2 * s.k
  p1 : s.sv.length ≠ 0 → 255 ≤ s.ps ∧ s.ps + 1 < s.nx
  p2 : s.xw.length ≠ 0 → 255 ≤ s.pw ∧ s.pw + 1 < s.nx
  p3 : s.sv.length ≠ 0 → s.xw.length ≠ 0 → s.ps ≠ s.pw
  w0 : s.xw.length ≠ 0 ↔ evW bs b s.k = true
theorem svH_same {p : Nat} {l : List Int} {h : Hp} (hl : l.length ≠ 0) : (svH p l h).get (tp p) = some (blkL 3 (iL l)) := by
  rw [svH, if_neg hl]; exact hget_same _ _ _
theorem svH_other {p q : Nat} {l : List Int} {h : Hp} (hp : p < 4294967296) (hq : q < 4294967296) (hn : l.length ≠ 0 → p ≠ q) : (svH p l h).get (tp q) = h.get (tp q) := by
  unfold svH
  split
  · rfl
  · rename_i hl
    rw [Hp.get_put, if_neg (fun e => hn hl (tp_inj hq hp e).symm)]
theorem svH_le {p : Nat} {l : List Int} {h0 h : Hp} (h1 : l.length ≠ 0 → h.get (tp p) = some (blkL 3 (iL l))) (h2 : HpLe h0 h) : HpLe (svH p l h0) h := by
  unfold svH
  split
  · exact h2
  · rename_i hl
    exact HpLe.put ⟨_, h1 hl, BlkLe.refl _⟩ h2
theorem put_other {p q : Nat} {x : Option Blk} {h : Hp} (hp : p < 4294967296) (hq : q < 4294967296) (hn : p ≠ q) : (h.put x (tp p)).get (tp q) = h.get (tp q) := by
  rw [Hp.get_put, if_neg (fun e => hn (tp_inj hq hp e).symm)]
theorem with_sv {ps : Nat} {sv : List Int} {z : Int} {lim : Nat} {h : Hp} {n : Nat} (hg : sv.length ≠ 0 → h.get (tp ps) = some (blkL 3 (iL sv))) : spLI f65 (.cons (svW ps sv) (.cons (I z) .nil)) lim h n = (f65 sv z).res h n := by
  rw [spLI_eq]
  by_cases hl : sv.length = 0
  · obtain rfl : sv = [] := List.eq_nil_of_length_eq_zero hl
    rfl
  · rw [svW, if_neg hl, rdL_sl, hg hl, rdB_blk _ _ _ rfl, onL_some]
theorem with_wt {pw ow : Nat} {xw : List Int} {z : Int} {lim : Nat} {h : Hp} {n : Nat} (ho : ow ≤ xw.length) (hg : xw.length ≠ 0 → h.get (tp pw) = some (blkL 3 (iL xw))) : spLI f65 (.cons (wtW pw ow xw) (.cons (I z) .nil)) lim h n = (f65 (xw.drop ow) z).res h n := by
  rw [spLI_eq]
  by_cases hl : xw.length = 0
  · obtain rfl : xw = [] := List.eq_nil_of_length_eq_zero hl
    obtain rfl : ow = 0 := by simpa using ho
    rfl
  · rw [wtW, if_neg hl, rdL_sl, hg hl, rdB_off _ _ _ _ (by omega), onL_some]
theorem len_wt {pw ow : Nat} {xw : List Int} (ho : ow ≤ xw.length) (hl : xw.length < 1000) : (onS (wtW pw ow xw) (fun _ _ _ l _ => .n l) (I 0) .bad : V) = I ((xw.drop ow).length : Nat) := by
  rw [List.length_drop]
  by_cases h : xw.length = 0
  · rw [wtW, if_pos h, h, Nat.zero_sub]; rfl
  · rw [wtW, if_neg h]
    show V.n (xw.length - ow) = mkI .i64 (Int.ofNat (xw.length - ow))
    simp only [mkI, fN_eq]
    rw [show Nat.blt (xw.length - ow) 9223372036854775808 = true from Nat.blt_eq.mpr (by omega)]
theorem coll_1 (h : Hp) (n m : Nat) (hn : 1 ≤ n) (hm : m = 1) : coll h n m = .cons (tp (n - 1)) (h.get (tp (n - 1))) .nil := by
  subst hm
  have e : posF 63 n = tp (n - 1) := by show _ = posF 63 (n - 1 + 1); rw [Nat.sub_add_cancel hn]
  rw [← e]; rfl
theorem baseA_1t (a : Pos) (x : Option Blk) (acc : List Dl) (an : List Bool) (h : Hp) : baseA (.cons a x .nil :: acc) (true :: an) h = (baseA acc an h).put x a := rfl
theorem baseA_1f (a : Pos) (x : Option Blk) (acc : List Dl) (an : List Bool) (h : Hp) : baseA (.cons a x .nil :: acc) (false :: an) h = baseA acc an h := rfl
theorem baseR_1t (a : Pos) (x : Option Blk) (acc : List Dl) (an : List Bool) (h : Hp) : baseR (.cons a x .nil :: acc) (true :: an) h = baseR acc an h := rfl
theorem baseR_1f (a : Pos) (x : Option Blk) (acc : List Dl) (an : List Bool) (h : Hp) : baseR (.cons a x .nil :: acc) (false :: an) h = (baseR acc an h).put none a := rfl
theorem baseR_1n (a : Pos) (x : Option Blk) (acc : List Dl) (h : Hp) : baseR (.cons a x .nil :: acc) [] h = (baseR acc [] h).put none a := rfl
theorem appAll_1' (acc : List Dl) (h : Hp) (a : Pos) (x : Option Blk) : appAll (.cons a x .nil :: acc) h = (appAll acc h).put x a := rfl
noncomputable def vwR (k : Nat → Nat × Nat) (ob : Option Blk) (p : Pos) (off len : Nat) (cap : Option Nat) (h : Hp) (n : Nat) : Res := match rdB ob off len with | some _ => (open Classical in if 1 ≤ len ∧ len < 9223372036854775808 ∧ capOK len cap then .ok (.sl p (off + (k len).1) 1 (k len).2 (some (k len).2)) h n else .no) | none => .no
theorem spV_if (k : Nat → Nat × Nat) (p : Pos) (off len : Nat) (cap : Option Nat) (lim : Nat) (h : Hp) (n : Nat) : spV k (.cons (.sl p off 1 len cap) .nil) lim h n = vwR k (h.get p) p off len cap h n := rfl
set_option maxHeartbeats 8000000 in
theorem run69 (bs : List Nat) (b : Int) (hb : bs.length ≤ 16) (hb0 : 0 ≤ b) (hb1 : b ≤ 20) (hok : okTo bs bs.length) : JQ Try.prog drops Try.f69.ntmps F69 q69 256 (Kend res69 fun v h n => ∃ s : St, SI bs b s ∧ s.k = bs.length ∧ v = .tu (.cons (svW s.ps s.sv) (.cons (wtW s.pw s.ow s.xw) .nil)) ∧ h = svH s.ps s.sv (svH s.pw s.xw .lf) ∧ n = s.nx) (bind (.cons (.s bs) (.cons (I b) .nil)) 0 .lf) .lf 256 := by
  have hF := F69_ok
  have hM := F69_mono
  unfold q69
  (refine JQ.step follows hF hM ?_; simp (config := { maxSteps := 4000000 }) (disch := (omega)) only [go_sem, Nat.reduceLT, Nat.reduceEqDiff, reduceIte, Nat.reduceAdd, Nat.reduceSub, Nat.reduceLeDiff, Int.reduceEq, Int.reduceLT, Int.reduceLE, Int.reduceNeg, Int.reduceAdd, Int.reduceSub, Int.reduceToNat, Int.reduceMul, Nat.reduceMul])
  (refine JQ.step follows hF hM ?_; simp (config := { maxSteps := 4000000 }) (disch := (omega)) only [go_sem, Nat.reduceLT, Nat.reduceEqDiff, reduceIte, Nat.reduceAdd, Nat.reduceSub, Nat.reduceLeDiff, Int.reduceEq, Int.reduceLT, Int.reduceLE, Int.reduceNeg, Int.reduceAdd, Int.reduceSub, Int.reduceToNat, Int.reduceMul, Nat.reduceMul])
  refine JQ.seq ?_
  (refine JQ.step follows hF hM ?_; simp (config := { maxSteps := 4000000 }) (disch := (omega)) only [go_sem, Nat.reduceLT, Nat.reduceEqDiff, reduceIte, Nat.reduceAdd, Nat.reduceSub, Nat.reduceLeDiff, Int.reduceEq, Int.reduceLT, Int.reduceLE, Int.reduceNeg, Int.reduceAdd, Int.reduceSub, Int.reduceToNat, Int.reduceMul, Nat.reduceMul, small_len])
  refine JQ.block ?_
  refine JQ.loop (σ := St) (SI bs b) (fun s => (((((Tr.lf.set (.s bs) (tp 0)).set (svW s.ps s.sv) (tp 4)).set (wtW s.pw s.ow s.xw) (tp 5)).set (I s.c) (tp 6)).set (I bs.length) (tp 10)).set (I s.k) (tp 11)) (fun s => svH s.ps s.sv (svH s.pw s.xw .lf)) (fun s => s.nx) (fun s => bs.length - s.k) ⟨0, [], [], b, 0, 0, 0, 256⟩
    ⟨Nat.zero_le _, rfl, hb0, by simp; omega, Nat.le_refl _, Nat.le_refl _, Nat.le_refl _, Nat.le_refl _, Nat.le_refl _, fun h => absurd rfl h, fun h => absurd rfl h, fun h => absurd rfl h, ⟨fun h => absurd rfl h, fun h => by cases h⟩⟩
    (by ((repeat' (first | exact EnvLe.lf _ | refine EnvLe.set (by decide) ?_ ?_)) <;> first | exact EnvLe.lf _ | (simp (config := { maxSteps := 4000000 }) (disch := (omega)) only [go_sem, Nat.reduceLT, Nat.reduceEqDiff, reduceIte, Nat.reduceAdd, Nat.reduceSub, Nat.reduceLeDiff, Int.reduceEq, Int.reduceLT, Int.reduceLE, Int.reduceNeg, Int.reduceAdd, Int.reduceSub, Int.reduceToNat, Int.reduceMul, Nat.reduceMul, svW, wtW, List.length_nil, Int.natCast_add, Int.cast_ofNat_Int]; done) | (simp (config := { maxSteps := 4000000 }) (disch := (omega)) only [go_sem, Nat.reduceLT, Nat.reduceEqDiff, reduceIte, Nat.reduceAdd, Nat.reduceSub, Nat.reduceLeDiff, Int.reduceEq, Int.reduceLT, Int.reduceLE, Int.reduceNeg, Int.reduceAdd, Int.reduceSub, Int.reduceToNat, Int.reduceMul, Nat.reduceMul, svW, wtW, List.length_nil, Int.natCast_add, Int.cast_ofNat_Int] <;> first | rfl | (congr 1; omega)))) (HpLe.lf _) rfl ?_
  rintro ⟨k, sv, xw, c, ps, pw, ow, nx⟩ ⟨k1, st, c0, c1, l1, l2, l3, n0, n1, p1, p2, p3, w0⟩
  dsimp only at k1 st c0 c1 l1 l2 l3 n0 n1 p1 p2 p3 w0 ⊢
  unfold q69_l0
  have hk1 : (svW ps sv).known = true := by unfold svW; split <;> rfl
  have hk2 : (wtW pw ow xw).known = true := by unfold wtW; split <;> rfl
  have g1 : ∀ h, sv.length ≠ 0 → (svH ps sv h).get (tp ps) = some (blkL 3 (iL sv)) := fun h hl => svH_same hl
  have g2 : xw.length ≠ 0 → (svH ps sv (svH pw xw .lf)).get (tp pw) = some (blkL 3 (iL xw)) := fun hl => by
    by_cases hv : sv.length = 0
    · rw [show svH ps sv (svH pw xw .lf) = svH pw xw .lf from if_pos hv]; exact svH_same hl
    · rw [svH_other (by have := p1 hv; omega) (by have := p2 hl; omega) (fun _ => p3 hv hl)]; exact svH_same hl
  have w1 : ∀ z lim n, spLI f65 (.cons (svW ps sv) (.cons (I z) .nil)) lim (svH ps sv (svH pw xw .lf)) n = (f65 sv z).res (svH ps sv (svH pw xw .lf)) n := fun z lim n => with_sv (g1 _)
  have w2 : ∀ z lim n, spLI f65 (.cons (wtW pw ow xw) (.cons (I z) .nil)) lim (svH ps sv (svH pw xw .lf)) n = (f65 (xw.drop ow) z).res (svH ps sv (svH pw xw .lf)) n := fun z lim n => with_wt l3 g2
  have wl := len_wt (pw := pw) l3 (by omega)
  have hdl : (xw.drop ow).length = xw.length - ow := List.length_drop ..
  by_cases hlt : k < bs.length
  · have hlt' : (k : Int) < bs.length := by omega
    by_cases hc : byt bs k = 99
    · by_cases hw : (xw.drop ow).length = 0
      · have hw' : xw.drop ow = [] := List.eq_nil_of_length_eq_zero hw
        rw [hw'] at st
        have st' := svS_D st hc
        have hv2 : svW (nx - 1) (sv ++ [(k : Int)]) = .sl (tp (nx - 1)) 0 1 (sv.length + 1) (some (sv.length + 1)) := by
          rw [svW, if_neg (by simp), List.length_append]; rfl
        (refine JQ.run follows hF hM ?_; simp (config := { maxSteps := 4000000 }) (disch := (omega)) only [go_sem, Nat.reduceLT, Nat.reduceEqDiff, reduceIte, Nat.reduceAdd, Nat.reduceSub, Nat.reduceLeDiff, Int.reduceEq, Int.reduceLT, Int.reduceLE, Int.reduceNeg, Int.reduceAdd, Int.reduceSub, Int.reduceToNat, Int.reduceMul, Nat.reduceMul, hlt', nthS_at hlt, hc, wl, hw, F69, w1, f65])
        refine ⟨by omega, ⟨k + 1, sv ++ [(k : Int)], xw, c + 1, nx - 1, pw, ow, nx + 1⟩, ⟨by dsimp only; omega, by dsimp only; rw [st', hw'], by dsimp only; omega, by dsimp only; omega, by dsimp only; rw [List.length_append]; simp; omega, by dsimp only; omega, l3, by dsimp only; omega, by dsimp only; omega, fun _ => by dsimp only; omega, fun h => by have := p2 h; dsimp only; omega, fun _ h => by have := p2 h; dsimp only; omega, by dsimp only; rw [evW_c hc]; exact w0⟩, by dsimp only; omega, by dsimp only; ((repeat' (first | exact EnvLe.lf _ | refine EnvLe.set (by decide) ?_ ?_)) <;> first | exact EnvLe.lf _ | (simp (config := { maxSteps := 4000000 }) (disch := (omega)) only [go_sem, Nat.reduceLT, Nat.reduceEqDiff, reduceIte, Nat.reduceAdd, Nat.reduceSub, Nat.reduceLeDiff, Int.reduceEq, Int.reduceLT, Int.reduceLE, Int.reduceNeg, Int.reduceAdd, Int.reduceSub, Int.reduceToNat, Int.reduceMul, Nat.reduceMul, hv2, Int.natCast_add, Int.cast_ofNat_Int]; done) | (simp (config := { maxSteps := 4000000 }) (disch := (omega)) only [go_sem, Nat.reduceLT, Nat.reduceEqDiff, reduceIte, Nat.reduceAdd, Nat.reduceSub, Nat.reduceLeDiff, Int.reduceEq, Int.reduceLT, Int.reduceLE, Int.reduceNeg, Int.reduceAdd, Int.reduceSub, Int.reduceToNat, Int.reduceMul, Nat.reduceMul, hv2, Int.natCast_add, Int.cast_ofNat_Int] <;> first | rfl | (congr 1; omega))), ?_, rfl⟩
        dsimp only
        exact svH_le (fun _ => hget_same _ _ _) (svH_le (fun h => by rw [put_other (by omega) (by have := p2 h; omega) (by have := p2 h; omega)]; exact g2 h) (HpLe.lf _))
      · have hxl : xw.length ≠ 0 := by omega
        have how : ow < xw.length := by omega
        have hdr : xw.drop ow = At xw ow :: xw.drop (ow + 1) := drop_At how
        rw [hdr] at st
        have st' := svS_C st hc
        have hwv : wtW pw ow xw = .sl (tp pw) ow 1 (xw.length - ow) (some (xw.length - ow)) := if_neg hxl
        have hgw := g2 hxl
        obtain ⟨q1, q2⟩ := p2 hxl
        have hpos : (0 : Int) < ((xw.length - ow : Nat) : Int) := by omega
        have hvw : ∀ h n, vwR v73 (some (blkL 3 (iL xw))) (tp pw) ow (xw.length - ow) (some (xw.length - ow)) h n = .ok (.sl (tp pw) (ow + 1) 1 (xw.length - ow - 1) (some (xw.length - ow - 1))) h n := fun h n => by
          unfold vwR
          rw [rdB_off 3 xw ow (xw.length - ow) (by omega)]
          exact if_pos ⟨by omega, by omega, Nat.le_refl _⟩
        have hs2 : (sv ++ [(k : Int)]).length = sv.length + 1 := by simp
        have hs1 : rdB (some (blkL 3 (iL (sv ++ [(k : Int)])))) 0 (sv.length + 1) = some (sv ++ [(k : Int)]) := rdB_blk _ _ _ hs2.symm
        rw [hwv]
        (refine JQ.run follows hF hM ?_; simp (config := { maxSteps := 4000000 }) (disch := (omega)) only [go_sem, Nat.reduceLT, Nat.reduceEqDiff, reduceIte, Nat.reduceAdd, Nat.reduceSub, Nat.reduceLeDiff, Int.reduceEq, Int.reduceLT, Int.reduceLE, Int.reduceNeg, Int.reduceAdd, Int.reduceSub, Int.reduceToNat, Int.reduceMul, Nat.reduceMul, hlt', nthS_at hlt, hc, hpos, F69, w1, f65, evDr_eq, spLI_eq, hgw, coll_1, baseA_1t, baseA_1f, baseR_1t, baseR_1f, baseR_1n, appAll_1', hs1, hs2, onL_some, spV_if, hvw])
        simp only [Nat.add_sub_cancel, Nat.add_zero]
        have hv2 : svW nx (sv ++ [(k : Int)] ++ [At xw ow]) = .sl (tp nx) 0 1 (sv.length + 1 + 1) (some (sv.length + 1 + 1)) := by
          rw [svW, if_neg (by simp), List.length_append, hs2]; rfl
        have hv3 : wtW pw (ow + 1) xw = .sl (tp pw) (ow + 1) 1 (xw.length - ow - 1) (some (xw.length - ow - 1)) := by
          rw [wtW, if_neg hxl, Nat.sub_add_eq]
        refine ⟨by omega, ⟨k + 1, sv ++ [(k : Int)] ++ [At xw ow], xw, c, nx, pw, ow + 1, nx + 1 + 1⟩, ⟨by dsimp only; omega, st', by dsimp only; omega, by dsimp only; omega, ?_, by dsimp only; omega, how, by dsimp only; omega, by dsimp only; omega, fun _ => by dsimp only; omega, fun h => by dsimp only; omega, fun _ h => by dsimp only; omega, by dsimp only; rw [evW_c hc]; exact w0⟩, by dsimp only; omega, by dsimp only; ((repeat' (first | exact EnvLe.lf _ | refine EnvLe.set (by decide) ?_ ?_)) <;> first | exact EnvLe.lf _ | (simp (config := { maxSteps := 4000000 }) (disch := (omega)) only [go_sem, Nat.reduceLT, Nat.reduceEqDiff, reduceIte, Nat.reduceAdd, Nat.reduceSub, Nat.reduceLeDiff, Int.reduceEq, Int.reduceLT, Int.reduceLE, Int.reduceNeg, Int.reduceAdd, Int.reduceSub, Int.reduceToNat, Int.reduceMul, Nat.reduceMul, hv2, hv3, Int.natCast_add, Int.cast_ofNat_Int]; done) | (simp (config := { maxSteps := 4000000 }) (disch := (omega)) only [go_sem, Nat.reduceLT, Nat.reduceEqDiff, reduceIte, Nat.reduceAdd, Nat.reduceSub, Nat.reduceLeDiff, Int.reduceEq, Int.reduceLT, Int.reduceLE, Int.reduceNeg, Int.reduceAdd, Int.reduceSub, Int.reduceToNat, Int.reduceMul, Nat.reduceMul, hv2, hv3, Int.natCast_add, Int.cast_ofNat_Int] <;> first | rfl | (congr 1; omega))), ?_, rfl⟩
        · dsimp only
          rw [List.length_append, hs2]
          have : (xw.drop ow).length ≤ xw.length := by omega
          have hlen := svS_len bs b k
          rw [st] at hlen
          simp at hlen ⊢
          omega
        · dsimp only
          exact svH_le (fun _ => hget_same _ _ _) (svH_le (fun h => by rw [put_other (by omega) (by omega) (by omega), put_other (by omega) (by omega) (by omega)]; exact hgw) (HpLe.lf _))
    · have hn : byt bs k = 110 := (hok k hlt).resolve_left hc
      by_cases h0 : c = 0
      · subst h0
        have st' := svS_A st hc
        have hv2 : wtW (nx - 1) 0 (xw.drop ow ++ [(k : Int)]) = .sl (tp (nx - 1)) 0 1 ((xw.drop ow).length + 1) (some ((xw.drop ow).length + 1)) := by
          rw [wtW, if_neg (by simp), List.length_append, Nat.sub_zero]; rfl
        (refine JQ.run follows hF hM ?_; simp (config := { maxSteps := 4000000 }) (disch := (omega)) only [go_sem, Nat.reduceLT, Nat.reduceEqDiff, reduceIte, Nat.reduceAdd, Nat.reduceSub, Nat.reduceLeDiff, Int.reduceEq, Int.reduceLT, Int.reduceLE, Int.reduceNeg, Int.reduceAdd, Int.reduceSub, Int.reduceToNat, Int.reduceMul, Nat.reduceMul, hlt', nthS_at hlt, hn, F69, w2, f65])
        refine ⟨by omega, ⟨k + 1, sv, xw.drop ow ++ [(k : Int)], 0, ps, nx - 1, 0, nx + 1⟩, ⟨by dsimp only; omega, by dsimp only; rw [st']; rfl, by dsimp only; omega, by dsimp only; omega, by dsimp only; omega, by dsimp only; rw [List.length_append]; simp; omega, Nat.zero_le _, by dsimp only; omega, by dsimp only; omega, fun h => by have := p1 h; dsimp only; omega, fun _ => by dsimp only; omega, fun h _ => by have := p1 h; dsimp only; omega, ⟨fun _ => evW_A st hc, fun _ => by dsimp only; simp⟩⟩, by dsimp only; omega, by dsimp only; ((repeat' (first | exact EnvLe.lf _ | refine EnvLe.set (by decide) ?_ ?_)) <;> first | exact EnvLe.lf _ | (simp (config := { maxSteps := 4000000 }) (disch := (omega)) only [go_sem, Nat.reduceLT, Nat.reduceEqDiff, reduceIte, Nat.reduceAdd, Nat.reduceSub, Nat.reduceLeDiff, Int.reduceEq, Int.reduceLT, Int.reduceLE, Int.reduceNeg, Int.reduceAdd, Int.reduceSub, Int.reduceToNat, Int.reduceMul, Nat.reduceMul, hv2, Int.natCast_add, Int.cast_ofNat_Int]; done) | (simp (config := { maxSteps := 4000000 }) (disch := (omega)) only [go_sem, Nat.reduceLT, Nat.reduceEqDiff, reduceIte, Nat.reduceAdd, Nat.reduceSub, Nat.reduceLeDiff, Int.reduceEq, Int.reduceLT, Int.reduceLE, Int.reduceNeg, Int.reduceAdd, Int.reduceSub, Int.reduceToNat, Int.reduceMul, Nat.reduceMul, hv2, Int.natCast_add, Int.cast_ofNat_Int] <;> first | rfl | (congr 1; omega))), ?_, rfl⟩
        dsimp only
        exact svH_le (fun h => by rw [put_other (by omega) (by have := p1 h; omega) (by have := p1 h; omega)]; exact g1 _ h) (svH_le (fun _ => hget_same _ _ _) (HpLe.lf _))
      · have st' := svS_B st hc h0
        have hv2 : svW (nx - 1) (sv ++ [(k : Int)]) = .sl (tp (nx - 1)) 0 1 (sv.length + 1) (some (sv.length + 1)) := by
          rw [svW, if_neg (by simp), List.length_append]; rfl
        (refine JQ.run follows hF hM ?_; simp (config := { maxSteps := 4000000 }) (disch := (omega)) only [go_sem, Nat.reduceLT, Nat.reduceEqDiff, reduceIte, Nat.reduceAdd, Nat.reduceSub, Nat.reduceLeDiff, Int.reduceEq, Int.reduceLT, Int.reduceLE, Int.reduceNeg, Int.reduceAdd, Int.reduceSub, Int.reduceToNat, Int.reduceMul, Nat.reduceMul, hlt', nthS_at hlt, hn, h0, F69, w1, f65])
        refine ⟨by omega, ⟨k + 1, sv ++ [(k : Int)], xw, c - 1, nx - 1, pw, ow, nx + 1⟩, ⟨by dsimp only; omega, by dsimp only; rw [st'], by dsimp only; omega, by dsimp only; omega, by dsimp only; rw [List.length_append]; simp; omega, by dsimp only; omega, l3, by dsimp only; omega, by dsimp only; omega, fun _ => by dsimp only; omega, fun h => by have := p2 h; dsimp only; omega, fun _ h => by have := p2 h; dsimp only; omega, by dsimp only; rw [evW_B st h0]; exact w0⟩, by dsimp only; omega, by dsimp only; ((repeat' (first | exact EnvLe.lf _ | refine EnvLe.set (by decide) ?_ ?_)) <;> first | exact EnvLe.lf _ | (simp (config := { maxSteps := 4000000 }) (disch := (omega)) only [go_sem, Nat.reduceLT, Nat.reduceEqDiff, reduceIte, Nat.reduceAdd, Nat.reduceSub, Nat.reduceLeDiff, Int.reduceEq, Int.reduceLT, Int.reduceLE, Int.reduceNeg, Int.reduceAdd, Int.reduceSub, Int.reduceToNat, Int.reduceMul, Nat.reduceMul, hv2, Int.natCast_add, Int.cast_ofNat_Int]; done) | (simp (config := { maxSteps := 4000000 }) (disch := (omega)) only [go_sem, Nat.reduceLT, Nat.reduceEqDiff, reduceIte, Nat.reduceAdd, Nat.reduceSub, Nat.reduceLeDiff, Int.reduceEq, Int.reduceLT, Int.reduceLE, Int.reduceNeg, Int.reduceAdd, Int.reduceSub, Int.reduceToNat, Int.reduceMul, Nat.reduceMul, hv2, Int.natCast_add, Int.cast_ofNat_Int] <;> first | rfl | (congr 1; omega))), ?_, rfl⟩
        dsimp only
        exact svH_le (fun _ => hget_same _ _ _) (svH_le (fun h => by rw [put_other (by omega) (by have := p2 h; omega) (by have := p2 h; omega)]; exact g2 h) (HpLe.lf _))
  · have hk : k = bs.length := by omega
    subst hk
    have hlt' : ¬ ((bs.length : Nat) : Int) < bs.length := by omega
    (refine JQ.run follows hF hM ?_; simp (config := { maxSteps := 4000000 }) (disch := (omega)) only [go_sem, Nat.reduceLT, Nat.reduceEqDiff, reduceIte, Nat.reduceAdd, Nat.reduceSub, Nat.reduceLeDiff, Int.reduceEq, Int.reduceLT, Int.reduceLE, Int.reduceNeg, Int.reduceAdd, Int.reduceSub, Int.reduceToNat, Int.reduceMul, Nat.reduceMul, hlt'])
    refine ⟨by omega, ?_⟩
    (refine JQ.run follows hF hM ?_; simp (config := { maxSteps := 4000000 }) (disch := (omega)) only [go_sem, Nat.reduceLT, Nat.reduceEqDiff, reduceIte, Nat.reduceAdd, Nat.reduceSub, Nat.reduceLeDiff, Int.reduceEq, Int.reduceLT, Int.reduceLE, Int.reduceNeg, Int.reduceAdd, Int.reduceSub, Int.reduceToNat, Int.reduceMul, Nat.reduceMul, res69, hk1, hk2])
    refine ⟨by omega, ?_⟩
    exact ⟨⟨bs.length, sv, xw, c, ps, pw, ow, nx⟩, ⟨k1, st, c0, c1, l1, l2, l3, n0, n1, p1, p2, p3, w0⟩, rfl, rfl, rfl, rfl⟩
end Go.Proofs.Ytkdbgkibifigiaa.Ev
