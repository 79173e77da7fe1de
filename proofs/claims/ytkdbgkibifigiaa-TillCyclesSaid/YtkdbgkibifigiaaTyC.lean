/- Turns of an order, as the law counts them. -/
import Derived.Test.YtkdbgkibifigiaaTyQ
import Derived.Test.YtkdbgkibifigiaaTyM
namespace Go.Proofs.Ytkdbgkibifigiaa.Ev
set_option linter.unusedVariables false
set_option linter.unusedSimpArgs false
set_option maxRecDepth 100000
open Go Go.Proofs
attribute [local go_sem] evC_seq evC_reg evC_cond evC_block evC_skip evC_exit evC_ret evR_cons evR_nil evR_gd guardB_tt guardB_ff guardB_tf guardB_ft guardB_none bindR_ok bindR_okn rgRs_ok seqR_nor seqR_ext seqR_ret condR_true condR_false blockR_nor blockR_ext blockR_ret evX_t evX_c evXL_nil evXL_cons O_mv O_bin O_pick O_eqb O_not O_ext O_call O_conv O_slen O_six O_sbi pv_I pv_i pv_b pv_s pv_ns pv_sl pv_p pv_tu pv_ag bin_lss bin_leq bin_gtr bin_geq bin_eql bin_neq bin8_eql bin8_neq bin_add bin_sub bin_mul get_st get_lf bind_nil bind_cons if_true if_false Got_nor Got_ext Got_ret Kseq Kblk Klp Kend onStr_s onB_b onT_tu onI_I onN_I onK_I eqb_b not_b nthL_0 nthL_1 nthL_2 known_nil known_cons I_known known_b known_s evRVs_nil evRVs_cons evRes_1 evRes_2 evRV_tmp Bool.and_true Bool.true_and Bool.and_self Bool.not_true Bool.not_false decide_true decide_false Int.toNat_natCast true_and and_true big hget_same hget_ne newB_n onP_p onS_sl onS_ns O_fad O_alloc_if O_ixs O_len O_ld O_st O_box boxB_if ldB_if ldB_agif stB_if toL_I toL_i toL_b toL_s toL_sl toL_ns toL_ag allC_nil allC_cons isC_i isC_b isC_s isC_sl isC_ns I_isC Llen_nil Llen_cons Lget_0 Lget_1 Lget_2 Lget_3 blkL_size cell_blkL_if getL_blkL_if getL_setL_if setL_sz evRV_cell' rvB_agif rvB_if evPL_cons bldK_if evPL_nil O_build O_part evBuild_ok okL_some onA_ag partV_1 evPart_eq updS_nil updS_cons upd_0 upd_1 upd_2 upd_3 ge_iff_le if_pos and_self Nat.le_refl known_ag known_sl known_ns known_i ov_at spS_eq spSI_eq spSII_eq spI_eq spII_eq spIII_eq spIIII_eq res_v res_sl res_slE Good I_pur pur_b pur_s pur_i pur_ns pur_ag pur_tu purL_nil purL_cons evDr_eq evDs_nil evDs_cons dsR_ok stepD_eq sdB_n sdB_g sdG_tt sdG_ff sdG_tf sdG_ft sdG_none runD_0 rdR_f rdR_t baseOf_pu baseOf_h baseU_nil baseA_nil baseA_0 baseR_nil baseR_0 baseR_00 appAll_nil appAll_0 restr_nil restr_cons setD_some setD_none evC_draw iL_len iL_get iL_allC iL_pur hp0_0 hp0_c rdL_ns rdL_sl List.length_cons List.length_nil O_mks mkB_if O_bsl bslB_if O_app apX_ns apX_sl apN_some apS_some blkL_el Nat.one_mul Nat.mul_one Nat.zero_add n_I onF_fn O_callv app_nil app_cons spLF_eq spL_eq spLL_eq onL_some onLL_ss onLL_ns onLL_sn onLL_nn rdB_blk Int.cast_ofNat_Int
noncomputable def svH (ps : Nat) (l : List Int) (h : Hp) : Hp := if l.length = 0 then h else h.put (some (blkL 3 (iL l))) (tp ps)
theorem svH_same {p : Nat} {l : List Int} {h : Hp} (hl : l.length ≠ 0) : (svH p l h).get (tp p) = some (blkL 3 (iL l)) := by
  rw [svH, if_neg hl]; exact hget_same _ _ _
theorem put_other {p q : Nat} {x : Option Blk} {h : Hp} (hp : p < 4294967296) (hq : q < 4294967296) (hn : p ≠ q) : (h.put x (tp p)).get (tp q) = h.get (tp q) := by
  rw [Hp.get_put, if_neg (fun e => hn (tp_inj hq hp e).symm)]
theorem coll_1 (h : Hp) (n m : Nat) (hn : 1 ≤ n) (hm : m = 1) : coll h n m = .cons (tp (n - 1)) (h.get (tp (n - 1))) .nil := by
  subst hm
  have e : posF 63 n = tp (n - 1) := by show _ = posF 63 (n - 1 + 1); rw [Nat.sub_add_cancel hn]
  rw [← e]; rfl
theorem baseA_1t (a : Pos) (x : Option Blk) (acc : List Dl) (an : List Bool) (h : Hp) : baseA (.cons a x .nil :: acc) (true :: an) h = (baseA acc an h).put x a := rfl
theorem baseA_1f (a : Pos) (x : Option Blk) (acc : List Dl) (an : List Bool) (h : Hp) : baseA (.cons a x .nil :: acc) (false :: an) h = baseA acc an h := rfl
theorem baseR_1t (a : Pos) (x : Option Blk) (acc : List Dl) (an : List Bool) (h : Hp) : baseR (.cons a x .nil :: acc) (true :: an) h = baseR acc an h := rfl
theorem baseR_1f (a : Pos) (x : Option Blk) (acc : List Dl) (an : List Bool) (h : Hp) : baseR (.cons a x .nil :: acc) (false :: an) h = (baseR acc an h).put none a := rfl
theorem baseR_1n (a : Pos) (x : Option Blk) (acc : List Dl) (h : Hp) : baseR (.cons a x .nil :: acc) [] h = (baseR acc [] h).put none a := rfl
theorem appAll_1' (acc : List Dl) (h : Hp) (a : Pos) (x : Option Blk) : appAll (.cons a x .nil :: acc) h = (appAll acc h).put x a := rfl
noncomputable def slN (p off : Nat) (xs : List Int) : V := if xs.length = 0 then .ns else .sl (tp p) off 1 (xs.length - off) none
noncomputable def apB (xs : List Int) (off : Nat) (z : Int) : Blk := if xs.length = 0 then blkL 3 (.cons (I z) .nil) else grown (blkL 3 (iL xs)) off (xs.length - off) (.cons (I z) .nil)
noncomputable def apK (h : Hp) (p : Nat) (xs : List Int) : Hp := if xs.length = 0 then h else h.put none (tp p)
theorem grown_leO {el : TypeId} {xs : List Int} {z : Int} {off : Nat} (ho : off ≤ xs.length) (hm : xs.length + 1 ≤ 1099511627776) : BlkLe (blkL el (iL (xs.drop off ++ [z]))) (grown (blkL el (iL xs)) off (xs.length - off) (.cons (I z) .nil)) := by
  obtain ⟨g1, g2, g3⟩ := grown_spec (blkL el (iL xs)) off (xs.length - off) (.cons (I z) .nil) (by simp [L.allC, I_isC]) (by simp [L.length, maxSize]; omega)
  have hd : (xs.drop off).length = xs.length - off := List.length_drop ..
  refine ⟨.inl rfl, g1.symm, by rw [g2, blkL_size, iL_len]; simp [L.length], fun k hk => .inr ?_⟩
  rw [blkL_size, iL_len, List.length_append] at hk
  simp at hk
  rw [g3 k (by simp [L.length]; omega), blkL_cell _ _ _ (by rw [iL_len, List.length_append]; simp; omega), iL_get _ _ (by rw [List.length_append]; simp; omega)]
  by_cases hlt : k < xs.length - off
  · rw [if_pos hlt, blkL_cell _ _ _ (by rw [iL_len]; omega), iL_get _ _ (by omega)]
    simp [At, List.getElem?_append_left (show k < (xs.drop off).length by omega)]
  · rw [if_neg hlt]
    obtain rfl : k = xs.length - off := by omega
    simp [At, L.get, List.getElem?_append_right (show (xs.drop off).length ≤ xs.length - off by omega), hd]
theorem apB_le {xs : List Int} {z : Int} {off : Nat} (ho : off ≤ xs.length) (hm : xs.length + 1 ≤ 1099511627776) : BlkLe (blkL 3 (iL (xs.drop off ++ [z]))) (apB xs off z) := by
  unfold apB
  split
  · rename_i hz
    obtain rfl : xs = [] := List.eq_nil_of_length_eq_zero hz
    obtain rfl : off = 0 := by simpa using ho
    exact BlkLe.refl _
  · exact grown_leO ho hm
theorem apX_gen {p off q : Nat} {xs : List Int} {z : Int} {h : Hp} {n lim : Nat} (ho : off ≤ xs.length) (hm : xs.length ≤ 1000) (hg : xs.length ≠ 0 → p < 4294967296 ∧ lim ≤ p + 1 ∧ h.get (tp p) = some (blkL 3 (iL xs))) (hq : h.get (tp q) = some (blkL 3 (.cons (I z) .nil))) :
    apX 3 1 8 (slN p off xs) (.sl (tp q) 0 1 1 (some 1)) lim h n = newB (apB xs off z) (fun p' => .sl p' 0 1 ((xs.drop off).length + 1) none) (apK h p xs) n := by
  have hl : (blkL 3 (.cons (I z) .nil)).getL 0 (1 * 1) = .cons (I z) .nil := by
    show (blkL 3 (.cons (I z) .nil)).getL 0 1 = _
    rw [getL_blkL _ _ _ (by simp [L.length])]
  have hd : (xs.drop off).length = xs.length - off := List.length_drop ..
  unfold slN apB apK
  by_cases hz : xs.length = 0
  · obtain rfl : xs = [] := List.eq_nil_of_length_eq_zero hz
    rw [if_pos hz, if_pos hz, if_pos hz, apX_ns _ _ _ _ _ _ _ _ _ _ (by omega), hq, apN_some, hl, if_pos ⟨by simp [blkL_size, L.length], by simp [L.allC, I_isC], by omega, by omega⟩]
    simp
  · obtain ⟨h1, h2, h3⟩ := hg hz
    have hgl : (blkL 3 (iL xs)).getL off ((xs.length - off) * 1) = iL (xs.drop off) := by
      refine L_ext (by rw [getL_length, iL_len, hd, Nat.mul_one]) fun j hj => ?_
      rw [getL_length, Nat.mul_one] at hj
      rw [getL_get _ _ _ _ (by omega), blkL_cell _ _ _ (by rw [iL_len]; omega), iL_get _ _ (by omega), iL_get _ _ (by omega)]
      simp [At]
    rw [if_neg hz, if_neg hz, if_neg hz, apX_sl _ _ _ _ _ _ _ _ _ _ _ _ _ (by omega), hq, h3, apS_some _ _ _ _ _ _ h1, hl, if_pos ⟨⟨by simp [blkL_size, L.length], by simp [L.allC, I_isC], by omega, by omega⟩, ⟨rfl, by rw [blkL_size, iL_len]; omega, by rw [hgl]; exact iL_allC _, by omega, by omega⟩, h2⟩, hd]
    simp
theorem apK_other {p q : Nat} {xs : List Int} {h : Hp} (hq : q < 4294967296) (hp : xs.length ≠ 0 → p < 4294967296 ∧ p ≠ q) : (apK h p xs).get (tp q) = h.get (tp q) := by
  unfold apK
  split
  · rfl
  · rename_i hz; exact put_other (hp hz).1 hq (hp hz).2
theorem svH_other' {p q : Nat} {l : List Int} {h : Hp} (hq : q < 4294967296) (hn : l.length ≠ 0 → p < 4294967296 ∧ p ≠ q) : (svH p l h).get (tp q) = h.get (tp q) := by
  unfold svH
  split
  · rfl
  · rename_i hl; exact put_other (hn hl).1 hq (hn hl).2
theorem svH_le' {p : Nat} {l : List Int} {h0 h : Hp} (h1 : l.length ≠ 0 → ∃ b, h.get (tp p) = some b ∧ BlkLe (blkL 3 (iL l)) b) (h2 : HpLe h0 h) : HpLe (svH p l h0) h := by
  unfold svH
  split
  · exact h2
  · rename_i hl
    exact HpLe.put (h1 hl) h2
theorem slN_app {p : Nat} {xs : List Int} {z : Int} : slN p 0 (xs ++ [z]) = .sl (tp p) 0 1 (xs.length + 1) none := by
  rw [slN, if_neg (by simp), List.length_append]; rfl
/-! A pointer to a string. -/
theorem p_ren {ps : List (Pos × Nat)} {g : Sig} {j : Nat} {q : Pos} {off : Nat} {u : Value} (hj : j < 1000) (h : ps[j]? = some (q, off)) (hr : (V.p q off).rel g u) : (V.p (tp (255 + j)) 0).rel (ren ps g) u := by
  rw [V.rel] at hr ⊢
  obtain ⟨r, base, tot, h1, h2⟩ := hr
  exact ⟨r, base + off, tot, by rw [ren_at hj h, h1]; rfl, by rw [h2]; simp⟩
theorem Ins.str {h : Hp} {p : Pos} {b : Blk} {bs : List Nat} (hb : h.get p = some b) (hs : 1 ≤ b.size) (hc : b.cell 0 = .s bs) : Ins [(p, 0)] [blkL b.el (.cons (.s bs) .nil)] h := by
  refine ⟨rfl, by simp, fun i j p q hp hq _ => ?_, by simp [blkL], fun j q b0 hq hb0 => ?_⟩
  · cases i with
    | zero => cases j with
      | zero => rfl
      | succ j => simp at hq
    | succ i => simp at hp
  · cases j with
    | succ j => simp at hq
    | zero =>
      simp at hq hb0
      subst hq hb0
      refine ⟨b, hb, rfl, by show 0 + 1 ≤ b.size; omega, fun k hk g g' u hu => ?_⟩
      have hk : k < 1 := hk
      obtain rfl : k = 0 := by omega
      rw [Nat.add_zero, hc] at hu
      rw [blkL_cell _ _ _ (by simp [L.length])]
      exact V.pur_rel rfl hu
noncomputable def o45 (bs : List Nat) (z : Int) : Out := if (tuL bs z bs.length).length = 0 then .v .ns else .sl 3 1 (tuL bs z bs.length).length none (iL (tuL bs z bs.length))
theorem o45_ok (bs : List Nat) (z : Int) : OutOK (o45 bs z) := by
  unfold o45
  split
  · rfl
  · exact ⟨iL_pur _, by rw [iL_len]; omega⟩
/-- Whether a turn is good so far. -/
def gd (rs : List Nat) (z : Int) : Nat → Bool
  | 0 => decide (lck rs 0 < 0)
  | j + 1 => gd rs z j && decide (z ≤ aft rs 0 (j + 1))
theorem gd_iff (rs : List Nat) (z : Int) : ∀ j, gd rs z j = true ↔ lck rs 0 < 0 ∧ ∀ i, i < j → z ≤ aft rs 0 (i + 1)
  | 0 => by simp [gd]
  | j + 1 => by
    rw [gd, Bool.and_eq_true, gd_iff rs z j, decide_eq_true_iff]
    constructor
    · rintro ⟨⟨h1, h2⟩, h3⟩
      refine ⟨h1, fun i hi => ?_⟩
      rcases Nat.lt_or_ge i j with h | h
      · exact h2 i h
      · obtain rfl : i = j := by omega
        exact h3
    · rintro ⟨h1, h2⟩
      exact ⟨⟨h1, fun i hi => h2 i (by omega)⟩, h2 j (by omega)⟩
theorem gd_all {bs : List Nat} {z : Int} {k : Nat} (hz : 0 ≤ z) (hk : k ≤ bs.length) : gd (rot bs k) z bs.length = keeps bs z k := by
  have hl := rot_len hk
  rw [Bool.eq_iff_iff, gd_iff, keeps_iff]
  exact ⟨fun h => h.2, fun h => ⟨lck_neg.2 fun j hj => by have := h j (by omega); omega, h⟩⟩
structure Sy where
  k : Nat
  q : Nat
  nx : Nat
structure SY (bs : List Nat) (z : Int) (s : Sy) : Prop where
  k1 : s.k ≤ bs.length
  n1 : 257 ≤ s.nx
  n2 : s.nx ≤ 257 + 3 * s.k
  p1 : (tuL bs z s.k).length ≠ 0 → 256 ≤ s.q ∧ s.q + 1 < s.nx
noncomputable def e45 (bs : List Nat) (z : Int) (s : Sy) : Tr := ((((Tr.lf.set (I z) (tp 0)).set (.p (tp 255) 0) (tp 1)).set (slN s.q 0 (tuL bs z s.k)) (tp 4)).set (I bs.length) (tp 12)).set (I s.k) (tp 13)
noncomputable def h45 (el : TypeId) (bs : List Nat) (z : Int) (s : Sy) : Hp := svH s.q (tuL bs z s.k) (Hp.lf.put (some (blkL el (.cons (.s bs) .nil))) (tp 255))
noncomputable def F45 : FF := ov 42 (spSI f42) F0
theorem F45_ok : FOK Try.prog F45 := ov_ok ok42 (F0_ok _)
theorem F45_mono : F45.mono := ov_mono (spSI_mo _) F0_mono
set_option maxHeartbeats 8000000 in
theorem run45 (el : TypeId) (bs : List Nat) (z : Int) (hz : 0 ≤ z) (hb : bs.length ≤ 16) : JQ Try.prog drops Try.f45.ntmps F45 q45 257 (Kend res45 (Good 1 (o45 bs z))) (bind (.cons (I z) (.cons (.p (tp 255) 0) .nil)) 0 .lf) (hp0 [blkL el (.cons (.s bs) .nil)] 255) 257 := by
  have hF := F45_ok
  have hM := F45_mono
  unfold q45
  (refine JQ.step follows hF hM ?_; simp (config := { maxSteps := 4000000 }) (disch := (omega)) only [go_sem, Nat.reduceLT, Nat.reduceEqDiff, reduceIte, Nat.reduceAdd, Nat.reduceSub, Nat.reduceLeDiff, Int.reduceEq, Int.reduceLT, Int.reduceLE, Int.reduceNeg, Int.reduceAdd, Int.reduceSub, Int.reduceToNat, Int.reduceMul, Nat.reduceMul])
  (refine JQ.step follows hF hM ?_; simp (config := { maxSteps := 4000000 }) (disch := (omega)) only [go_sem, Nat.reduceLT, Nat.reduceEqDiff, reduceIte, Nat.reduceAdd, Nat.reduceSub, Nat.reduceLeDiff, Int.reduceEq, Int.reduceLT, Int.reduceLE, Int.reduceNeg, Int.reduceAdd, Int.reduceSub, Int.reduceToNat, Int.reduceMul, Nat.reduceMul])
  refine JQ.seq ?_
  (refine JQ.step follows hF hM ?_; simp (config := { maxSteps := 4000000 }) (disch := (omega)) only [go_sem, Nat.reduceLT, Nat.reduceEqDiff, reduceIte, Nat.reduceAdd, Nat.reduceSub, Nat.reduceLeDiff, Int.reduceEq, Int.reduceLT, Int.reduceLE, Int.reduceNeg, Int.reduceAdd, Int.reduceSub, Int.reduceToNat, Int.reduceMul, Nat.reduceMul, small_len])
  refine JQ.block ?_
  refine JQ.loop (σ := Sy) (SY bs z) (e45 bs z) (h45 el bs z) (fun s => s.nx) (fun s => bs.length - s.k) ⟨0, 0, 257⟩
    ⟨Nat.zero_le _, Nat.le_refl _, Nat.le_refl _, fun h => absurd rfl h⟩ (by unfold e45; ((repeat' (first | exact EnvLe.lf _ | refine EnvLe.set (by decide) ?_ ?_)) <;> first | exact EnvLe.lf _ | (simp (config := { maxSteps := 4000000 }) (disch := (omega)) only [go_sem, Nat.reduceLT, Nat.reduceEqDiff, reduceIte, Nat.reduceAdd, Nat.reduceSub, Nat.reduceLeDiff, Int.reduceEq, Int.reduceLT, Int.reduceLE, Int.reduceNeg, Int.reduceAdd, Int.reduceSub, Int.reduceToNat, Int.reduceMul, Nat.reduceMul, slN, tuL, List.length_nil, Int.natCast_add, Int.cast_ofNat_Int]; done) | (simp (config := { maxSteps := 4000000 }) (disch := (omega)) only [go_sem, Nat.reduceLT, Nat.reduceEqDiff, reduceIte, Nat.reduceAdd, Nat.reduceSub, Nat.reduceLeDiff, Int.reduceEq, Int.reduceLT, Int.reduceLE, Int.reduceNeg, Int.reduceAdd, Int.reduceSub, Int.reduceToNat, Int.reduceMul, Nat.reduceMul, slN, tuL, List.length_nil, Int.natCast_add, Int.cast_ofNat_Int] <;> first | rfl | (congr 1; omega)))) (by unfold h45; exact svH_le' (fun h => absurd rfl h) (HpLe.refl _)) rfl ?_
  rintro ⟨k, q, nx⟩ ⟨k1, n1, n2, p1⟩
  dsimp only at k1 n1 n2 p1 ⊢
  unfold q45_l1 e45 h45
  dsimp only
  have hxl := tuL_len bs z k
  have hs1 : tuL bs z (k + 1) = if keeps bs z k then tuL bs z k ++ [(k : Int)] else tuL bs z k := rfl
  obtain ⟨xs, hxs⟩ : ∃ xs, xs = tuL bs z k := ⟨_, rfl⟩
  rw [← hxs] at hxl p1 hs1 ⊢
  obtain ⟨H, hH⟩ : ∃ H, H = svH q xs (Hp.lf.put (some (blkL el (.cons (.s bs) .nil))) (tp 255)) := ⟨_, rfl⟩
  have gO : H.get (tp 255) = some (blkL el (.cons (.s bs) .nil)) := by rw [hH, svH_other' (by omega) (fun hl => by have := p1 hl; omega)]; exact hget_same _ _ _
  have gx : xs.length ≠ 0 → H.get (tp q) = some (blkL 3 (iL xs)) := fun hl => by rw [hH]; exact svH_same hl
  rw [← hH]
  by_cases hlt : k < bs.length
  · have hlt' : (k : Int) < (bs.length : Int) := by omega
    have hld : (bs.drop k).length = bs.length - k := List.length_drop ..
    have hlk : (bs.take k).length = k := by rw [List.length_take]; omega
    have hrot : bs.drop k ++ bs.take k = rot bs k := rfl
    have hrl := rot_len k1
    obtain ⟨rs, hrs⟩ : ∃ rs, rs = rot bs k := ⟨_, rfl⟩
    have hgd := gd_all hz k1
    rw [← hrs] at hrot hrl hgd
    have hal : (afts rs 0).length = bs.length := by rw [afts_len, hrl]
    have hf : f42 rs 0 = .slE 3 1 bs.length none (iL (afts rs 0)) (I (lck rs 0)) := by
      rw [f42, if_pos ⟨by omega, by omega, by omega⟩, o42, if_neg (by omega), hrl]
    obtain ⟨HA, hHA⟩ : ∃ HA, HA = H.put (some (blkL 3 (iL (afts rs 0)))) (tp (nx - 1)) := ⟨_, rfl⟩
    have gA : HA.get (tp (nx - 1)) = some (blkL 3 (iL (afts rs 0))) := by rw [hHA]; exact hget_same _ _ _
    have gO2 : HA.get (tp 255) = some (blkL el (.cons (.s bs) .nil)) := by rw [hHA, put_other (by omega) (by omega) (by omega)]; exact gO
    have gx2 : xs.length ≠ 0 → HA.get (tp q) = some (blkL 3 (iL xs)) := fun hl => by have := p1 hl; rw [hHA, put_other (by omega) (by omega) (by omega)]; exact gx hl
    have ap : ∀ n, apX 3 1 8 (slN q 0 xs) (.sl (tp nx) 0 1 1 (some 1)) 257 (HA.put (some (blkL 3 (.cons (I k) .nil))) (tp nx)) n = newB (apB xs 0 k) (fun p' => .sl p' 0 1 (xs.length + 1) none) (apK (HA.put (some (blkL 3 (.cons (I k) .nil))) (tp nx)) q xs) n := fun n => by
      rw [apX_gen (Nat.zero_le _) (by omega) (fun hl => by
        have := p1 hl
        exact ⟨by omega, by omega, by rw [put_other (by omega) (by omega) (by omega)]; exact gx2 hl⟩) (hget_same _ _ _), List.drop_zero]
    have hle := apB_le (xs := xs) (z := (k : Int)) (Nat.zero_le _) (by omega)
    rw [List.drop_zero] at hle
    (refine JQ.step follows hF hM ?_; simp (config := { maxSteps := 4000000 }) (disch := (omega)) only [go_sem, Nat.reduceLT, Nat.reduceEqDiff, reduceIte, Nat.reduceAdd, Nat.reduceSub, Nat.reduceLeDiff, Int.reduceEq, Int.reduceLT, Int.reduceLE, Int.reduceNeg, Int.reduceAdd, Int.reduceSub, Int.reduceToNat, Int.reduceMul, Nat.reduceMul, hlt'])
    try (refine ⟨by omega, ?_⟩)
    (refine JQ.step follows hF hM ?_; simp (config := { maxSteps := 4000000 }) (disch := (omega)) only [go_sem, Nat.reduceLT, Nat.reduceEqDiff, reduceIte, Nat.reduceAdd, Nat.reduceSub, Nat.reduceLeDiff, Int.reduceEq, Int.reduceLT, Int.reduceLE, Int.reduceNeg, Int.reduceAdd, Int.reduceSub, Int.reduceToNat, Int.reduceMul, Nat.reduceMul])
    try (refine ⟨by omega, ?_⟩)
    refine JQ.seq ?_
    refine JQ.block ?_
    (refine JQ.step follows hF hM ?_; simp (config := { maxSteps := 4000000 }) (disch := (omega)) only [go_sem, Nat.reduceLT, Nat.reduceEqDiff, reduceIte, Nat.reduceAdd, Nat.reduceSub, Nat.reduceLeDiff, Int.reduceEq, Int.reduceLT, Int.reduceLE, Int.reduceNeg, Int.reduceAdd, Int.reduceSub, Int.reduceToNat, Int.reduceMul, Nat.reduceMul])
    try (refine ⟨by omega, ?_⟩)
    (refine JQ.step follows hF hM ?_; simp (config := { maxSteps := 4000000 }) (disch := (omega)) only [go_sem, Nat.reduceLT, Nat.reduceEqDiff, reduceIte, Nat.reduceAdd, Nat.reduceSub, Nat.reduceLeDiff, Int.reduceEq, Int.reduceLT, Int.reduceLE, Int.reduceNeg, Int.reduceAdd, Int.reduceSub, Int.reduceToNat, Int.reduceMul, Nat.reduceMul, gO, O_ssl_a, O_ssl_b, strV_add, hld, hlk, hrot, F45, hf, coll_1, appAll_1'])
    try (refine ⟨by omega, ?_⟩)
    rw [← hHA]
    (refine JQ.step follows hF hM ?_; simp (config := { maxSteps := 4000000 }) (disch := (omega)) only [go_sem, Nat.reduceLT, Nat.reduceEqDiff, reduceIte, Nat.reduceAdd, Nat.reduceSub, Nat.reduceLeDiff, Int.reduceEq, Int.reduceLT, Int.reduceLE, Int.reduceNeg, Int.reduceAdd, Int.reduceSub, Int.reduceToNat, Int.reduceMul, Nat.reduceMul])
    try (refine ⟨by omega, ?_⟩)
    refine JQ.seq ?_
    (refine JQ.step follows hF hM ?_; simp (config := { maxSteps := 4000000 }) (disch := (omega)) only [go_sem, Nat.reduceLT, Nat.reduceEqDiff, reduceIte, Nat.reduceAdd, Nat.reduceSub, Nat.reduceLeDiff, Int.reduceEq, Int.reduceLT, Int.reduceLE, Int.reduceNeg, Int.reduceAdd, Int.reduceSub, Int.reduceToNat, Int.reduceMul, Nat.reduceMul])
    try (refine ⟨by omega, ?_⟩)
    refine JQ.block ?_
    refine JQ.loop (σ := Nat) (fun j => j ≤ bs.length) (fun j => ((((((((Tr.lf.set (I z) (tp 0)).set (.p (tp 255) 0) (tp 1)).set (slN q 0 xs) (tp 4)).set (I k) (tp 5)).set (.b (gd rs z j)) (tp 8)).set (I bs.length) (tp 12)).set (I k) (tp 13)).set (.sl (tp (nx - 1)) 0 1 bs.length none) (tp 29)).set (I bs.length) (tp 30) |>.set (I j) (tp 31)) (fun _ => HA) (fun _ => nx + 1) (fun j => bs.length - j) 0 (Nat.zero_le _) (by ((repeat' (first | exact EnvLe.lf _ | refine EnvLe.set (by decide) ?_ ?_)) <;> first | exact EnvLe.lf _ | (simp (config := { maxSteps := 4000000 }) (disch := (omega)) only [go_sem, Nat.reduceLT, Nat.reduceEqDiff, reduceIte, Nat.reduceAdd, Nat.reduceSub, Nat.reduceLeDiff, Int.reduceEq, Int.reduceLT, Int.reduceLE, Int.reduceNeg, Int.reduceAdd, Int.reduceSub, Int.reduceToNat, Int.reduceMul, Nat.reduceMul, gd, Int.natCast_add, Int.cast_ofNat_Int]; done) | (simp (config := { maxSteps := 4000000 }) (disch := (omega)) only [go_sem, Nat.reduceLT, Nat.reduceEqDiff, reduceIte, Nat.reduceAdd, Nat.reduceSub, Nat.reduceLeDiff, Int.reduceEq, Int.reduceLT, Int.reduceLE, Int.reduceNeg, Int.reduceAdd, Int.reduceSub, Int.reduceToNat, Int.reduceMul, Nat.reduceMul, gd, Int.natCast_add, Int.cast_ofNat_Int] <;> first | rfl | (congr 1; omega)))) (HpLe.refl _) rfl ?_
    intro j hj
    unfold q45_l0
    by_cases hjt : j < bs.length
    · have hjt' : (j : Int) < (bs.length : Int) := by omega
      have hat : At (afts rs 0) j = aft rs 0 (j + 1) := At_afts (by omega)
      by_cases hg : gd rs z j = true
      · have hg2 : gd rs z (j + 1) = decide (z ≤ aft rs 0 (j + 1)) := by rw [gd, hg, Bool.true_and]
        (refine JQ.run follows hF hM ?_; simp (config := { maxSteps := 4000000 }) (disch := (omega)) only [go_sem, Nat.reduceLT, Nat.reduceEqDiff, reduceIte, Nat.reduceAdd, Nat.reduceSub, Nat.reduceLeDiff, Int.reduceEq, Int.reduceLT, Int.reduceLE, Int.reduceNeg, Int.reduceAdd, Int.reduceSub, Int.reduceToNat, Int.reduceMul, Nat.reduceMul, hjt', gA, hal, hat, hg])
        exact ⟨by omega, j + 1, by omega, by omega, by ((repeat' (first | exact EnvLe.lf _ | refine EnvLe.set (by decide) ?_ ?_)) <;> first | exact EnvLe.lf _ | (simp (config := { maxSteps := 4000000 }) (disch := (omega)) only [go_sem, Nat.reduceLT, Nat.reduceEqDiff, reduceIte, Nat.reduceAdd, Nat.reduceSub, Nat.reduceLeDiff, Int.reduceEq, Int.reduceLT, Int.reduceLE, Int.reduceNeg, Int.reduceAdd, Int.reduceSub, Int.reduceToNat, Int.reduceMul, Nat.reduceMul, hg2, Int.natCast_add, Int.cast_ofNat_Int]; done) | (simp (config := { maxSteps := 4000000 }) (disch := (omega)) only [go_sem, Nat.reduceLT, Nat.reduceEqDiff, reduceIte, Nat.reduceAdd, Nat.reduceSub, Nat.reduceLeDiff, Int.reduceEq, Int.reduceLT, Int.reduceLE, Int.reduceNeg, Int.reduceAdd, Int.reduceSub, Int.reduceToNat, Int.reduceMul, Nat.reduceMul, hg2, Int.natCast_add, Int.cast_ofNat_Int] <;> first | rfl | (congr 1; omega))), HpLe.refl _⟩
      · have hg1 : gd rs z j = false := Bool.eq_false_iff.2 hg
        have hg2 : gd rs z (j + 1) = false := by rw [gd, hg1, Bool.false_and]
        (refine JQ.run follows hF hM ?_; simp (config := { maxSteps := 4000000 }) (disch := (omega)) only [go_sem, Nat.reduceLT, Nat.reduceEqDiff, reduceIte, Nat.reduceAdd, Nat.reduceSub, Nat.reduceLeDiff, Int.reduceEq, Int.reduceLT, Int.reduceLE, Int.reduceNeg, Int.reduceAdd, Int.reduceSub, Int.reduceToNat, Int.reduceMul, Nat.reduceMul, hjt', gA, hal, hat, hg1])
        exact ⟨by omega, j + 1, by omega, by omega, by ((repeat' (first | exact EnvLe.lf _ | refine EnvLe.set (by decide) ?_ ?_)) <;> first | exact EnvLe.lf _ | (simp (config := { maxSteps := 4000000 }) (disch := (omega)) only [go_sem, Nat.reduceLT, Nat.reduceEqDiff, reduceIte, Nat.reduceAdd, Nat.reduceSub, Nat.reduceLeDiff, Int.reduceEq, Int.reduceLT, Int.reduceLE, Int.reduceNeg, Int.reduceAdd, Int.reduceSub, Int.reduceToNat, Int.reduceMul, Nat.reduceMul, hg2, Int.natCast_add, Int.cast_ofNat_Int]; done) | (simp (config := { maxSteps := 4000000 }) (disch := (omega)) only [go_sem, Nat.reduceLT, Nat.reduceEqDiff, reduceIte, Nat.reduceAdd, Nat.reduceSub, Nat.reduceLeDiff, Int.reduceEq, Int.reduceLT, Int.reduceLE, Int.reduceNeg, Int.reduceAdd, Int.reduceSub, Int.reduceToNat, Int.reduceMul, Nat.reduceMul, hg2, Int.natCast_add, Int.cast_ofNat_Int] <;> first | rfl | (congr 1; omega))), HpLe.refl _⟩
    · obtain rfl : j = bs.length := by omega
      (refine JQ.run follows hF hM ?_; simp (config := { maxSteps := 4000000 }) (disch := (omega)) only [go_sem, Nat.reduceLT, Nat.reduceEqDiff, reduceIte, Nat.reduceAdd, Nat.reduceSub, Nat.reduceLeDiff, Int.reduceEq, Int.reduceLT, Int.reduceLE, Int.reduceNeg, Int.reduceAdd, Int.reduceSub, Int.reduceToNat, Int.reduceMul, Nat.reduceMul, Int.lt_irrefl])
      refine ⟨by omega, ?_⟩
      by_cases hkp : keeps bs z k = true
      · rw [if_pos hkp] at hs1
        rw [hkp] at hgd
        (refine JQ.run follows hF hM ?_; simp (config := { maxSteps := 4000000 }) (disch := (omega)) only [go_sem, Nat.reduceLT, Nat.reduceEqDiff, reduceIte, Nat.reduceAdd, Nat.reduceSub, Nat.reduceLeDiff, Int.reduceEq, Int.reduceLT, Int.reduceLE, Int.reduceNeg, Int.reduceAdd, Int.reduceSub, Int.reduceToNat, Int.reduceMul, Nat.reduceMul, hgd, ap, Nat.add_sub_cancel])
        refine ⟨by omega, ?_⟩
        (refine JQ.run follows hF hM ?_; simp (config := { maxSteps := 4000000 }) (disch := (omega)) only [go_sem, Nat.reduceLT, Nat.reduceEqDiff, reduceIte, Nat.reduceAdd, Nat.reduceSub, Nat.reduceLeDiff, Int.reduceEq, Int.reduceLT, Int.reduceLE, Int.reduceNeg, Int.reduceAdd, Int.reduceSub, Int.reduceToNat, Int.reduceMul, Nat.reduceMul])
        refine ⟨by omega, ⟨k + 1, nx + 1, nx + 1 + 1 + 1⟩, ⟨by dsimp only; omega, by dsimp only; omega, by dsimp only; omega, fun _ => by dsimp only; omega⟩, by dsimp only; omega, by dsimp only; ((repeat' (first | exact EnvLe.lf _ | refine EnvLe.set (by decide) ?_ ?_)) <;> first | exact EnvLe.lf _ | (simp (config := { maxSteps := 4000000 }) (disch := (omega)) only [go_sem, Nat.reduceLT, Nat.reduceEqDiff, reduceIte, Nat.reduceAdd, Nat.reduceSub, Nat.reduceLeDiff, Int.reduceEq, Int.reduceLT, Int.reduceLE, Int.reduceNeg, Int.reduceAdd, Int.reduceSub, Int.reduceToNat, Int.reduceMul, Nat.reduceMul, hs1, slN_app, Int.natCast_add, Int.cast_ofNat_Int]; done) | (simp (config := { maxSteps := 4000000 }) (disch := (omega)) only [go_sem, Nat.reduceLT, Nat.reduceEqDiff, reduceIte, Nat.reduceAdd, Nat.reduceSub, Nat.reduceLeDiff, Int.reduceEq, Int.reduceLT, Int.reduceLE, Int.reduceNeg, Int.reduceAdd, Int.reduceSub, Int.reduceToNat, Int.reduceMul, Nat.reduceMul, hs1, slN_app, Int.natCast_add, Int.cast_ofNat_Int] <;> first | rfl | (congr 1; omega))), ?_, rfl⟩
        dsimp only
        rw [hs1]
        exact svH_le' (fun _ => ⟨_, hget_same _ _ _, hle⟩) (HpLe.put ⟨_, by
          rw [put_other (by omega) (by omega) (by omega), apK_other (by omega) (fun hl => by have := p1 hl; omega), put_other (by omega) (by omega) (by omega)]; exact gO2, BlkLe.refl _⟩ (HpLe.lf _))
      · rw [if_neg hkp] at hs1
        rw [Bool.eq_false_iff.2 hkp] at hgd
        (refine JQ.run follows hF hM ?_; simp (config := { maxSteps := 4000000 }) (disch := (omega)) only [go_sem, Nat.reduceLT, Nat.reduceEqDiff, reduceIte, Nat.reduceAdd, Nat.reduceSub, Nat.reduceLeDiff, Int.reduceEq, Int.reduceLT, Int.reduceLE, Int.reduceNeg, Int.reduceAdd, Int.reduceSub, Int.reduceToNat, Int.reduceMul, Nat.reduceMul, hgd])
        refine ⟨by omega, ?_⟩
        (refine JQ.run follows hF hM ?_; simp (config := { maxSteps := 4000000 }) (disch := (omega)) only [go_sem, Nat.reduceLT, Nat.reduceEqDiff, reduceIte, Nat.reduceAdd, Nat.reduceSub, Nat.reduceLeDiff, Int.reduceEq, Int.reduceLT, Int.reduceLE, Int.reduceNeg, Int.reduceAdd, Int.reduceSub, Int.reduceToNat, Int.reduceMul, Nat.reduceMul])
        refine ⟨by omega, ⟨k + 1, q, nx + 1⟩, ⟨by dsimp only; omega, by dsimp only; omega, by dsimp only; omega, fun hl => by dsimp only at hl; rw [hs1] at hl; have := p1 hl; dsimp only; omega⟩, by dsimp only; omega, by dsimp only; ((repeat' (first | exact EnvLe.lf _ | refine EnvLe.set (by decide) ?_ ?_)) <;> first | exact EnvLe.lf _ | (simp (config := { maxSteps := 4000000 }) (disch := (omega)) only [go_sem, Nat.reduceLT, Nat.reduceEqDiff, reduceIte, Nat.reduceAdd, Nat.reduceSub, Nat.reduceLeDiff, Int.reduceEq, Int.reduceLT, Int.reduceLE, Int.reduceNeg, Int.reduceAdd, Int.reduceSub, Int.reduceToNat, Int.reduceMul, Nat.reduceMul, hs1, Int.natCast_add, Int.cast_ofNat_Int]; done) | (simp (config := { maxSteps := 4000000 }) (disch := (omega)) only [go_sem, Nat.reduceLT, Nat.reduceEqDiff, reduceIte, Nat.reduceAdd, Nat.reduceSub, Nat.reduceLeDiff, Int.reduceEq, Int.reduceLT, Int.reduceLE, Int.reduceNeg, Int.reduceAdd, Int.reduceSub, Int.reduceToNat, Int.reduceMul, Nat.reduceMul, hs1, Int.natCast_add, Int.cast_ofNat_Int] <;> first | rfl | (congr 1; omega))), ?_, rfl⟩
        dsimp only
        rw [hs1]
        exact svH_le' (fun hl => ⟨_, gx2 hl, BlkLe.refl _⟩) (HpLe.put ⟨_, gO2, BlkLe.refl _⟩ (HpLe.lf _))
  · have hk : k = bs.length := by omega
    subst hk
    have hlt' : ¬ ((bs.length : Nat) : Int) < bs.length := by omega
    (refine JQ.run follows hF hM ?_; simp (config := { maxSteps := 4000000 }) (disch := (omega)) only [go_sem, Nat.reduceLT, Nat.reduceEqDiff, reduceIte, Nat.reduceAdd, Nat.reduceSub, Nat.reduceLeDiff, Int.reduceEq, Int.reduceLT, Int.reduceLE, Int.reduceNeg, Int.reduceAdd, Int.reduceSub, Int.reduceToNat, Int.reduceMul, Nat.reduceMul, hlt'])
    refine ⟨by omega, ?_⟩
    by_cases hx : xs.length = 0
    · have ho : o45 bs z = .v .ns := by rw [o45, if_pos (by rw [← hxs]; exact hx)]
      have hv : slN q 0 xs = .ns := if_pos hx
      (refine JQ.run follows hF hM ?_; simp (config := { maxSteps := 4000000 }) (disch := (omega)) only [go_sem, Nat.reduceLT, Nat.reduceEqDiff, reduceIte, Nat.reduceAdd, Nat.reduceSub, Nat.reduceLeDiff, Int.reduceEq, Int.reduceLT, Int.reduceLE, Int.reduceNeg, Int.reduceAdd, Int.reduceSub, Int.reduceToNat, Int.reduceMul, Nat.reduceMul, ho, hv, res45])
      omega
    · have ho : o45 bs z = .sl 3 1 xs.length none (iL xs) := by rw [o45, if_neg (by rw [← hxs]; exact hx), ← hxs]
      have hv : slN q 0 xs = .sl (tp q) 0 1 xs.length none := if_neg hx
      have := p1 hx
      (refine JQ.run follows hF hM ?_; simp (config := { maxSteps := 4000000 }) (disch := (omega)) only [go_sem, Nat.reduceLT, Nat.reduceEqDiff, reduceIte, Nat.reduceAdd, Nat.reduceSub, Nat.reduceLeDiff, Int.reduceEq, Int.reduceLT, Int.reduceLE, Int.reduceNeg, Int.reduceAdd, Int.reduceSub, Int.reduceToNat, Int.reduceMul, Nat.reduceMul, ho, hv, res45])
      exact ⟨by omega, goodI (nb := 1) (gx hx) (by omega) (by omega) (by omega)⟩
noncomputable def s45 (args : L) (_ : Nat) (h : Hp) (n : Nat) : Res := open Classical in match args with
  | .cons v (.cons (.p p 0) .nil) => (match asI v, h.get p with
    | some z, some b => (match b.cell 0 with | .s bs => if 1 ≤ b.size ∧ 0 ≤ z ∧ bs.length ≤ 16 then (o45 bs z).res h n else .no | _ => .no)
    | _, _ => .no)
  | _ => .no
theorem s45_eq {p : Pos} {z : Int} {h : Hp} {el : TypeId} {bs : List Nat} (hb : h.get p = some (blkL el (.cons (.s bs) .nil))) (hz : 0 ≤ z) (hl : bs.length ≤ 16) (lim n : Nat) : s45 (.cons (I z) (.cons (.p p 0) .nil)) lim h n = (o45 bs z).res h n := by
  have hc : (blkL el (.cons (.s bs) .nil)).cell 0 = .s bs := by rw [blkL_cell _ _ _ (by simp [L.length])]; rfl
  simp only [s45, asI_I, hb, hc]
  rw [if_pos ⟨Nat.le_refl _, hz, hl⟩]
theorem s45_mo : SMo s45 := fun args lim h n => by
  unfold s45
  split
  · split
    · split
      · split
        · exact Out.res_ge _ _ _
        · trivial
      · trivial
    · trivial
  · trivial
theorem ok45 : SOK Try.prog 45 s45 := fun args lim h n v h' n' hr => by
  unfold s45 at hr
  split at hr
  · rename_i v0 p
    split at hr
    · rename_i z b hz hb
      split at hr
      · rename_i bs hc
        split at hr
        · rename_i hcond
          exact outC Try.func45 n45 b45 k45 r45 (Ins.str hb hcond.1 hc) (by simp [L.length]) (fun g => rel_cons (fun u hu => V.pur_rel (I_pur z) (asI_rel hz hu)) (rel_cons (fun u hu => p_ren (j := 0) (by omega) rfl hu) fun _ h => L.pur_rel rfl h)) (o45 bs z) (o45_ok bs z) (run45 b.el bs z hcond.2.1 hcond.2.2) lim n hr
        · cases hr
      · cases hr
    · cases hr
  · cases hr
end Go.Proofs.Ytkdbgkibifigiaa.Ev
