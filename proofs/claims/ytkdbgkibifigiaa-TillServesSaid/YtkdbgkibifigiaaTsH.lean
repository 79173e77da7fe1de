/- The till: who is served and who waits, as one answer. -/
import Derived.Test.YtkdbgkibifigiaaTsG
import Derived.Test.YtkdbgkibifigiaaTlF
namespace Go.Proofs.Ytkdbgkibifigiaa.Ev
set_option linter.unusedVariables false
set_option linter.unusedSimpArgs false
set_option maxRecDepth 100000
open Go Go.Proofs
attribute [local go_sem] evC_seq evC_reg evC_cond evC_block evC_skip evC_exit evC_ret evR_cons evR_nil evR_gd guardB_tt guardB_ff guardB_tf guardB_ft guardB_none bindR_ok bindR_okn rgRs_ok seqR_nor seqR_ext seqR_ret condR_true condR_false blockR_nor blockR_ext blockR_ret evX_t evX_c evXL_nil evXL_cons O_mv O_bin O_pick O_eqb O_not O_ext O_call O_conv O_slen O_six O_sbi pv_I pv_i pv_b pv_s pv_ns pv_sl pv_p pv_tu pv_ag bin_lss bin_leq bin_gtr bin_geq bin_eql bin_neq bin8_eql bin8_neq bin_add bin_sub bin_mul get_st get_lf bind_nil bind_cons if_true if_false Got_nor Got_ext Got_ret Kseq Kblk Klp Kend onStr_s onB_b onT_tu onI_I onN_I onK_I eqb_b not_b nthL_0 nthL_1 nthL_2 known_nil known_cons I_known known_b known_s evRVs_nil evRVs_cons evRes_1 evRes_2 evRV_tmp Bool.and_true Bool.true_and Bool.and_self Bool.not_true Bool.not_false decide_true decide_false Int.toNat_natCast true_and and_true big hget_same hget_ne newB_n onP_p onS_sl onS_ns O_fad O_alloc_if O_ixs O_len O_ld O_st O_box boxB_if ldB_if ldB_agif stB_if toL_I toL_i toL_b toL_s toL_sl toL_ns toL_ag allC_nil allC_cons isC_i isC_b isC_s isC_sl isC_ns I_isC Llen_nil Llen_cons Lget_0 Lget_1 Lget_2 Lget_3 blkL_size cell_blkL_if getL_blkL_if getL_setL_if setL_sz evRV_cell' rvB_agif rvB_if evPL_cons bldK_if evPL_nil O_build O_part evBuild_ok okL_some onA_ag partV_1 evPart_eq updS_nil updS_cons upd_0 upd_1 upd_2 upd_3 ge_iff_le if_pos and_self Nat.le_refl known_ag known_sl known_ns known_i ov_at spS_eq spSI_eq spSII_eq spI_eq spII_eq spIII_eq spIIII_eq res_v res_sl res_slE Good I_pur pur_b pur_s pur_i pur_ns pur_ag pur_tu purL_nil purL_cons evDr_eq evDs_nil evDs_cons dsR_ok stepD_eq sdB_n sdB_g sdG_tt sdG_ff sdG_tf sdG_ft sdG_none runD_0 rdR_f rdR_t baseOf_pu baseOf_h baseU_nil baseA_nil baseA_0 baseR_nil baseR_0 baseR_00 appAll_nil appAll_0 restr_nil restr_cons setD_some setD_none evC_draw iL_len iL_get iL_allC iL_pur hp0_0 hp0_c rdL_ns rdL_sl List.length_cons List.length_nil O_mks mkB_if O_bsl bslB_if O_app apX_ns apX_sl apN_some apS_some blkL_el Nat.one_mul Nat.mul_one Nat.zero_add n_I onF_fn O_callv app_nil app_cons spLF_eq spL_eq spLL_eq onL_some onLL_ss onLL_ns onLL_sn onLL_nn rdB_blk Int.cast_ofNat_Int
noncomputable def vL (p : Pos) (l : List Int) : V := .sl p 0 1 l.length (some l.length)
noncomputable def a69 (bs : List Nat) (b : Int) (h : Hp) (n : Nat) : Res := open Classical in
  if 1 ≤ n then
    if evW bs b bs.length = true then
      if (svS bs b bs.length).1.length = 0 then .ok (.tu (.cons .ns (.cons (vL (tp (n - 1)) (svS bs b bs.length).2.1) .nil))) (h.put (some (blkL 3 (iL (svS bs b bs.length).2.1))) (tp (n - 1))) (n + 1)
      else .ok (.tu (.cons (vL (tp (n - 1)) (svS bs b bs.length).1) (.cons (vL (tp n) (svS bs b bs.length).2.1) .nil))) (h.put (some (blkL 3 (iL (svS bs b bs.length).1))) (tp (n - 1))) (n + 2)
    else if (svS bs b bs.length).1.length = 0 then .ok (.tu (.cons .ns (.cons .ns .nil))) h n
      else .ok (.tu (.cons (vL (tp (n - 1)) (svS bs b bs.length).1) (.cons .ns .nil))) (h.put (some (blkL 3 (iL (svS bs b bs.length).1))) (tp (n - 1))) (n + 1)
  else .no
noncomputable def s69 (args : L) (_ : Nat) (h : Hp) (n : Nat) : Res := open Classical in match args with
  | .cons (.s bs) (.cons v .nil) => (match asI v with | some z => if bs.length ≤ 16 ∧ 0 ≤ z ∧ z ≤ 20 ∧ okTo bs bs.length then a69 bs z h n else .no | none => .no)
  | _ => .no
theorem s69_eq {bs : List Nat} {z : Int} (h1 : bs.length ≤ 16) (h2 : 0 ≤ z) (h3 : z ≤ 20) (h4 : okTo bs bs.length) (lim : Nat) (h : Hp) (n : Nat) : s69 (.cons (.s bs) (.cons (I z) .nil)) lim h n = a69 bs z h n := by
  simp only [s69, asI_I]
  rw [if_pos ⟨h1, h2, h3, h4⟩]
theorem r69ge (bs : List Nat) (b : Int) (h : Hp) (n : Nat) : (a69 bs b h n).ge n := by
  unfold a69
  split
  · split
    · split
      · exact Nat.le_succ n
      · show n ≤ n + 2; omega
    · split
      · exact Nat.le_refl n
      · exact Nat.le_succ n
  · trivial
theorem s69_mo : SMo s69 := fun args lim h n => by
  unfold s69
  split
  · split
    · split
      · exact r69ge _ _ _ _
      · trivial
    · trivial
  · trivial
theorem Kend_mono {res : List RV} {G G' : V → Hp → Nat → Prop} (hg : ∀ v h n, G v h n → G' v h n) : ∀ r, Kend res G r → Kend res G' r := fun r hk => by
  cases r <;> first | exact ⟨hk.1, hg _ _ _ hk.2⟩ | exact hk
theorem ok69' (bs : List Nat) (b : Int) (hb : bs.length ≤ 16) (hb0 : 0 ≤ b) (hb1 : b ≤ 20) (hok : okTo bs bs.length) (lim : Nat) (h : Hp) (n : Nat) {v : V} {h' : Hp} {n' : Nat} (hr : a69 bs b h n = .ok v h' n') :
    CallsOK Try.prog 69 (.cons (.s bs) (.cons (I b) .nil)) lim h n v h' n' := by
  have run := run69 bs b hb hb0 hb1 hok
  have hap : (L.cons (.s bs) (.cons (I b) .nil)).pur = true := by simp only [purL_cons, purL_nil, pur_s, I_pur, Bool.and_self]
  have hal : (L.cons (.s bs) (.cons (I b) .nil)).length < 4294967296 := by simp [L.length]
  have fin : ∀ {s : St}, SI bs b s → s.k = bs.length → (s.sv = (svS bs b bs.length).1 ∧ s.xw.drop s.ow = (svS bs b bs.length).2.1 ∧ (s.xw.length ≠ 0 ↔ evW bs b bs.length = true)) := fun {s} hs hk => by
    have h1 := hs.st
    have h2 := hs.w0
    rw [hk] at h1 h2
    rw [h1]; exact ⟨rfl, rfl, h2⟩
  have blk : ∀ (l : List Int) (off : Nat), off ≤ l.length → off + (iL (l.drop off)).length ≤ (blkL 3 (iL l)).size ∧ ∀ k, k < (iL (l.drop off)).length → (blkL 3 (iL l)).cell (off + k) = (iL (l.drop off)).get k := fun l off ho => by
    refine ⟨by rw [iL_len, blkL_size, iL_len, List.length_drop]; omega, fun k hk => ?_⟩
    rw [iL_len] at hk
    have hk' := hk
    rw [List.length_drop] at hk'
    rw [blkL_cell _ _ _ (by rw [iL_len]; omega), iL_get _ _ (by omega), iL_get _ _ hk]
    simp [At]
  unfold a69 at hr
  split at hr
  · rename_i hn
    have e : tp (n - 1) = posF 63 n := by show posF 63 (n - 1 + 1) = _; rw [Nat.sub_add_cancel hn]
    have e2 : tp n = posF 63 (n + 1) := rfl
    split at hr
    · rename_i hw
      split at hr
      · rename_i h0
        cases hr
        rw [e]
        refine sliceR Try.func69 b69 k69 r69 n69 (Ins.none h) hal (ren_nil_rel hap) (fun s => .tu (.cons .ns (.cons s .nil))) (fun g g' s s' hs u hu => by
          rw [V.rel] at hu ⊢
          obtain ⟨vs, h1, u1, us, h2, h3, u2, us', h4, h5, h6⟩ := hu
          exact ⟨vs, h1, u1, us, h2, V.pur_rel rfl h3, u2, us', h4, hs u2 h5, h6⟩) (iL_pur _) (by rw [iL_len]; simp) (JQ.mono (Kend_mono ?_) run) lim hn
        rintro v h n ⟨s, hs, hk, rfl, rfl, rfl⟩
        obtain ⟨f1, f2, f3⟩ := fin hs hk
        have hxl := f3.2 hw
        obtain ⟨q1, q2⟩ := hs.p2 hxl
        have hsl : s.sv.length = 0 := by rw [f1]; exact h0
        have hlen : (svS bs b bs.length).2.1.length = s.xw.length - s.ow := by rw [← f2, List.length_drop]
        obtain ⟨g1, g2⟩ := blk s.xw s.ow hs.l3
        rw [f2] at g1 g2
        have hn1 := hs.n1
        have hk1 := hs.k1
        refine ⟨tp s.pw, s.ow, blkL 3 (iL s.xw), ?_, by rw [tp_num (by omega)]; simp; omega, by rw [tp_num (by omega)]; omega, ?_, rfl, g1, g2⟩
        · rw [svW, if_pos hsl, wtW, if_neg hxl, hlen]
        · rw [show svH s.ps s.sv (svH s.pw s.xw .lf) = svH s.pw s.xw .lf from if_pos hsl]; exact svH_same hxl
      · rename_i h0
        cases hr
        rw [e, e2]
        refine sliceR2 Try.func69 b69 k69 r69 n69 (Ins.none h) hal (ren_nil_rel hap) (iL_pur _) (by rw [iL_len]; simp) (JQ.mono (Kend_mono ?_) run) lim hn
        rintro v h n ⟨s, hs, hk, rfl, rfl, rfl⟩
        obtain ⟨f1, f2, f3⟩ := fin hs hk
        have hxl := f3.2 hw
        obtain ⟨q1, q2⟩ := hs.p2 hxl
        have hsl : ¬ s.sv.length = 0 := by rw [f1]; exact h0
        obtain ⟨q3, q4⟩ := hs.p1 hsl
        have hlen : (svS bs b bs.length).2.1.length = s.xw.length - s.ow := by rw [← f2, List.length_drop]
        obtain ⟨g1, g2⟩ := blk s.sv 0 (Nat.zero_le _)
        rw [List.drop_zero, f1] at g1 g2
        have hn1 := hs.n1
        have hk1 := hs.k1
        refine ⟨tp s.ps, 0, blkL 3 (iL (svS bs b bs.length).1), tp s.pw, s.ow, ?_, by rw [tp_num (by omega)]; simp; omega, by rw [tp_num (by omega)]; omega, ⟨by rw [tp_num (by omega)]; simp; omega, by rw [tp_num (by omega)]; omega⟩, ?_, rfl, g1, g2⟩
        · rw [svW, if_neg hsl, wtW, if_neg hxl, hlen, f1]
        · rw [← f1]; exact svH_same hsl
    · rename_i hw
      split at hr
      · rename_i h0
        cases hr
        refine sliceP Try.func69 b69 k69 r69 n69 (Ins.none h) hal (ren_nil_rel hap) rfl (JQ.mono (Kend_mono ?_) run) lim n
        rintro v h n ⟨s, hs, hk, rfl, rfl, rfl⟩
        obtain ⟨f1, f2, f3⟩ := fin hs hk
        have hxl : s.xw.length = 0 := Classical.byContradiction fun hx => hw (f3.1 hx)
        have hsl : s.sv.length = 0 := by rw [f1]; exact h0
        rw [svW, if_pos hsl, wtW, if_pos hxl]
      · rename_i h0
        cases hr
        rw [e]
        refine sliceR Try.func69 b69 k69 r69 n69 (Ins.none h) hal (ren_nil_rel hap) (fun s => .tu (.cons s (.cons .ns .nil))) (fun g g' s s' hs u hu => by
          rw [V.rel] at hu ⊢
          obtain ⟨vs, h1, u1, us, h2, h3, u2, us', h4, h5, h6⟩ := hu
          exact ⟨vs, h1, u1, us, h2, hs u1 h3, u2, us', h4, V.pur_rel rfl h5, h6⟩) (iL_pur _) (by rw [iL_len]; simp) (JQ.mono (Kend_mono ?_) run) lim hn
        rintro v h n ⟨s, hs, hk, rfl, rfl, rfl⟩
        obtain ⟨f1, f2, f3⟩ := fin hs hk
        have hxl : s.xw.length = 0 := Classical.byContradiction fun hx => hw (f3.1 hx)
        have hsl : ¬ s.sv.length = 0 := by rw [f1]; exact h0
        obtain ⟨q3, q4⟩ := hs.p1 hsl
        obtain ⟨g1, g2⟩ := blk s.sv 0 (Nat.zero_le _)
        rw [List.drop_zero, f1] at g1 g2
        have hn1 := hs.n1
        have hk1 := hs.k1
        refine ⟨tp s.ps, 0, blkL 3 (iL (svS bs b bs.length).1), ?_, by rw [tp_num (by omega)]; simp; omega, by rw [tp_num (by omega)]; omega, ?_, rfl, g1, g2⟩
        · rw [svW, if_neg hsl, wtW, if_pos hxl, f1]
        · rw [← f1]; exact svH_same hsl
  · cases hr
theorem ok69 : SOK Try.prog 69 s69 := fun args lim h n v h' n' hr => by
  unfold s69 at hr
  split at hr
  · split at hr
    · rename_i z hz
      split at hr
      · rename_i hc
        exact callsArgs (fun g => rel_cons (fun _ h => h) (rel_cons (fun _ => asI_rel hz) fun _ h => h)) (ok69' _ z hc.1 hc.2.1 hc.2.2.1 hc.2.2.2 lim h n hr)
      · cases hr
    · cases hr
  · cases hr
theorem evW_wt {bs : List Nat} {b : Int} : ∀ {k : Nat}, ¬ evW bs b k = true → (svS bs b k).2.1 = []
  | 0, _ => rfl
  | k + 1, h => by
    have h1 : ¬ evW bs b k = true := fun h' => h (by simp [evW, h'])
    have ih := evW_wt h1
    rw [svS]
    by_cases hc : byt bs k = 99
    · rw [if_pos hc, ih]
    · rw [if_neg hc]
      by_cases h0 : (svS bs b k).2.2 = 0
      · exact absurd (by simp [evW, hc, h0]) h
      · rw [if_neg h0]; exact ih
noncomputable def o37 (cp : Nat → Option Nat) (bs : List Nat) (b : Int) : Out :=
  if chkB bs b = 0 then (if (svS bs b bs.length).2.1.length = 0 then (if (svS bs b bs.length).1.length = 0 then .v (tuE 0) else .slE 3 1 (svS bs b bs.length).1.length (cp (svS bs b bs.length).1.length) (iL (svS bs b bs.length).1) (I 0)) else .v (tuE 12)) else .v (tuE (chkB bs b))
theorem o37_ok (cp : Nat → Option Nat) (bs : List Nat) (b : Int) : OutOK (o37 cp bs b) := by
  unfold o37
  split
  · split
    · split
      · simp [OutOK, tuE, V.pur, L.pur, I_pur]
      · exact ⟨iL_pur _, by rw [iL_len]; omega, I_pur _⟩
    · simp [OutOK, tuE, V.pur, L.pur, I_pur]
  · simp [OutOK, tuE, V.pur, L.pur, I_pur]
noncomputable def f37 (cp : Nat → Option Nat) (bs : List Nat) (b : Int) : Out := if bs.length < 9223372036854775808 then o37 cp bs b else .no
noncomputable def F37 : FF := ov 47 (spSI f47) (ov 69 s69 F0)
theorem F37_ok : FOK Try.prog F37 := ov_ok ok47 (ov_ok ok69 (F0_ok _))
theorem F37_mono : F37.mono := ov_mono (spSI_mo _) (ov_mono s69_mo F0_mono)
theorem chk_okTo {bs : List Nat} {b : Int} (h : chkB bs b = 0) : okTo bs bs.length := by
  have hs : chkS bs = 0 := by
    by_cases hs : chkS bs = 0
    · exact hs
    · rw [chkB_bad b hs] at h; exact absurd h hs
  unfold chkS at hs
  by_cases hl : 16 < bs.length
  · rw [if_pos hl] at hs; omega
  · rw [if_neg hl] at hs
    by_cases ho : okTo bs bs.length
    · exact ho
    · rw [if_neg ho] at hs; omega
set_option maxHeartbeats 8000000 in
theorem run37 (bs : List Nat) (b : Int) (hb : bs.length < 9223372036854775808) : JQ Try.prog drops Try.f37.ntmps F37 q37 256 (Kend res37 (Good 0 (o37 some bs b))) (bind (.cons (.s bs) (.cons (I b) .nil)) 0 .lf) .lf 256 := by
  have hF := F37_ok
  have hM := F37_mono
  unfold q37
  (refine JQ.step follows hF hM ?_; simp (config := { maxSteps := 4000000 }) (disch := (omega)) only [go_sem, Nat.reduceLT, Nat.reduceEqDiff, reduceIte, Nat.reduceAdd, Nat.reduceSub, Nat.reduceLeDiff, Int.reduceEq, Int.reduceLT, Int.reduceLE, Int.reduceNeg, Int.reduceAdd, Int.reduceSub, Int.reduceToNat, Int.reduceMul, Nat.reduceMul])
  by_cases h0 : chkB bs b = 0
  · obtain ⟨c1, c2, c3⟩ := chkB_0 h0
    have hok := chk_okTo h0
    have e69 : ∀ lim h n, s69 (.cons (.s bs) (.cons (I b) .nil)) lim h n = a69 bs b h n := fun lim h n => s69_eq c1 c2 c3 hok lim h n
    have hl := svS_len bs b bs.length
    (refine JQ.step follows hF hM ?_; simp (config := { maxSteps := 4000000 }) (disch := (omega)) only [go_sem, Nat.reduceLT, Nat.reduceEqDiff, reduceIte, Nat.reduceAdd, Nat.reduceSub, Nat.reduceLeDiff, Int.reduceEq, Int.reduceLT, Int.reduceLE, Int.reduceNeg, Int.reduceAdd, Int.reduceSub, Int.reduceToNat, Int.reduceMul, Nat.reduceMul, F37, f47, eq_true h0])
    by_cases hw : evW bs b bs.length = true
    · by_cases hs : (svS bs b bs.length).1.length = 0
      · have ha : a69 bs b .lf 256 = .ok (.tu (.cons .ns (.cons (vL (tp 255) (svS bs b bs.length).2.1) .nil))) (Hp.lf.put (some (blkL 3 (iL (svS bs b bs.length).2.1))) (tp 255)) 257 := by
          rw [a69, if_pos (by omega), if_pos hw, if_pos hs]
        by_cases hz : (svS bs b bs.length).2.1.length = 0
        · have ho : o37 some bs b = .v (tuE 0) := by rw [o37, if_pos h0, if_pos hz, if_pos hs]
          have hz0 : ¬ (0 : Int) < ((svS bs b bs.length).2.1.length : Nat) := by omega
          (refine JQ.step follows hF hM ?_; simp (config := { maxSteps := 4000000 }) (disch := (omega)) only [go_sem, Nat.reduceLT, Nat.reduceEqDiff, reduceIte, Nat.reduceAdd, Nat.reduceSub, Nat.reduceLeDiff, Int.reduceEq, Int.reduceLT, Int.reduceLE, Int.reduceNeg, Int.reduceAdd, Int.reduceSub, Int.reduceToNat, Int.reduceMul, Nat.reduceMul, F37, e69, ha, vL])
          (refine JQ.run follows hF hM ?_; simp (config := { maxSteps := 4000000 }) (disch := (omega)) only [go_sem, Nat.reduceLT, Nat.reduceEqDiff, reduceIte, Nat.reduceAdd, Nat.reduceSub, Nat.reduceLeDiff, Int.reduceEq, Int.reduceLT, Int.reduceLE, Int.reduceNeg, Int.reduceAdd, Int.reduceSub, Int.reduceToNat, Int.reduceMul, Nat.reduceMul, ho, tuE, res37, hz0])
        · have ho : o37 some bs b = .v (tuE 12) := by rw [o37, if_pos h0, if_neg hz]
          have hz0 : (0 : Int) < ((svS bs b bs.length).2.1.length : Nat) := by omega
          (refine JQ.step follows hF hM ?_; simp (config := { maxSteps := 4000000 }) (disch := (omega)) only [go_sem, Nat.reduceLT, Nat.reduceEqDiff, reduceIte, Nat.reduceAdd, Nat.reduceSub, Nat.reduceLeDiff, Int.reduceEq, Int.reduceLT, Int.reduceLE, Int.reduceNeg, Int.reduceAdd, Int.reduceSub, Int.reduceToNat, Int.reduceMul, Nat.reduceMul, F37, e69, ha, vL])
          (refine JQ.run follows hF hM ?_; simp (config := { maxSteps := 4000000 }) (disch := (omega)) only [go_sem, Nat.reduceLT, Nat.reduceEqDiff, reduceIte, Nat.reduceAdd, Nat.reduceSub, Nat.reduceLeDiff, Int.reduceEq, Int.reduceLT, Int.reduceLE, Int.reduceNeg, Int.reduceAdd, Int.reduceSub, Int.reduceToNat, Int.reduceMul, Nat.reduceMul, ho, tuE, res37, hz0])
      · have ha : a69 bs b .lf 256 = .ok (.tu (.cons (vL (tp 255) (svS bs b bs.length).1) (.cons (vL (tp 256) (svS bs b bs.length).2.1) .nil))) (Hp.lf.put (some (blkL 3 (iL (svS bs b bs.length).1))) (tp 255)) 258 := by
          rw [a69, if_pos (by omega), if_pos hw, if_neg hs]
        by_cases hz : (svS bs b bs.length).2.1.length = 0
        · have ho : o37 some bs b = .slE 3 1 (svS bs b bs.length).1.length (some (svS bs b bs.length).1.length) (iL (svS bs b bs.length).1) (I 0) := by rw [o37, if_pos h0, if_pos hz, if_neg hs]
          have hz0 : ¬ (0 : Int) < ((svS bs b bs.length).2.1.length : Nat) := by omega
          (refine JQ.step follows hF hM ?_; simp (config := { maxSteps := 4000000 }) (disch := (omega)) only [go_sem, Nat.reduceLT, Nat.reduceEqDiff, reduceIte, Nat.reduceAdd, Nat.reduceSub, Nat.reduceLeDiff, Int.reduceEq, Int.reduceLT, Int.reduceLE, Int.reduceNeg, Int.reduceAdd, Int.reduceSub, Int.reduceToNat, Int.reduceMul, Nat.reduceMul, F37, e69, ha, vL])
          (refine JQ.run follows hF hM ?_; simp (config := { maxSteps := 4000000 }) (disch := (omega)) only [go_sem, Nat.reduceLT, Nat.reduceEqDiff, reduceIte, Nat.reduceAdd, Nat.reduceSub, Nat.reduceLeDiff, Int.reduceEq, Int.reduceLT, Int.reduceLE, Int.reduceNeg, Int.reduceAdd, Int.reduceSub, Int.reduceToNat, Int.reduceMul, Nat.reduceMul, ho, res37, hz0])
          exact goodIE (t := 255) (nb := 0) (n' := 258) (hget_same _ _ _) (by omega) (by omega) (by omega)
        · have ho : o37 some bs b = .v (tuE 12) := by rw [o37, if_pos h0, if_neg hz]
          have hz0 : (0 : Int) < ((svS bs b bs.length).2.1.length : Nat) := by omega
          (refine JQ.step follows hF hM ?_; simp (config := { maxSteps := 4000000 }) (disch := (omega)) only [go_sem, Nat.reduceLT, Nat.reduceEqDiff, reduceIte, Nat.reduceAdd, Nat.reduceSub, Nat.reduceLeDiff, Int.reduceEq, Int.reduceLT, Int.reduceLE, Int.reduceNeg, Int.reduceAdd, Int.reduceSub, Int.reduceToNat, Int.reduceMul, Nat.reduceMul, F37, e69, ha, vL])
          (refine JQ.run follows hF hM ?_; simp (config := { maxSteps := 4000000 }) (disch := (omega)) only [go_sem, Nat.reduceLT, Nat.reduceEqDiff, reduceIte, Nat.reduceAdd, Nat.reduceSub, Nat.reduceLeDiff, Int.reduceEq, Int.reduceLT, Int.reduceLE, Int.reduceNeg, Int.reduceAdd, Int.reduceSub, Int.reduceToNat, Int.reduceMul, Nat.reduceMul, ho, tuE, res37, hz0])
    · have hz : (svS bs b bs.length).2.1.length = 0 := by rw [evW_wt hw]; rfl
      by_cases hs : (svS bs b bs.length).1.length = 0
      · have ha : a69 bs b .lf 256 = .ok (.tu (.cons .ns (.cons .ns .nil))) .lf 256 := by
          rw [a69, if_pos (by omega), if_neg hw, if_pos hs]
        have ho : o37 some bs b = .v (tuE 0) := by rw [o37, if_pos h0, if_pos hz, if_pos hs]
        (refine JQ.step follows hF hM ?_; simp (config := { maxSteps := 4000000 }) (disch := (omega)) only [go_sem, Nat.reduceLT, Nat.reduceEqDiff, reduceIte, Nat.reduceAdd, Nat.reduceSub, Nat.reduceLeDiff, Int.reduceEq, Int.reduceLT, Int.reduceLE, Int.reduceNeg, Int.reduceAdd, Int.reduceSub, Int.reduceToNat, Int.reduceMul, Nat.reduceMul, F37, e69, ha])
        (refine JQ.run follows hF hM ?_; simp (config := { maxSteps := 4000000 }) (disch := (omega)) only [go_sem, Nat.reduceLT, Nat.reduceEqDiff, reduceIte, Nat.reduceAdd, Nat.reduceSub, Nat.reduceLeDiff, Int.reduceEq, Int.reduceLT, Int.reduceLE, Int.reduceNeg, Int.reduceAdd, Int.reduceSub, Int.reduceToNat, Int.reduceMul, Nat.reduceMul, ho, tuE, res37])
      · have ha : a69 bs b .lf 256 = .ok (.tu (.cons (vL (tp 255) (svS bs b bs.length).1) (.cons .ns .nil))) (Hp.lf.put (some (blkL 3 (iL (svS bs b bs.length).1))) (tp 255)) 257 := by
          rw [a69, if_pos (by omega), if_neg hw, if_neg hs]
        have ho : o37 some bs b = .slE 3 1 (svS bs b bs.length).1.length (some (svS bs b bs.length).1.length) (iL (svS bs b bs.length).1) (I 0) := by rw [o37, if_pos h0, if_pos hz, if_neg hs]
        (refine JQ.step follows hF hM ?_; simp (config := { maxSteps := 4000000 }) (disch := (omega)) only [go_sem, Nat.reduceLT, Nat.reduceEqDiff, reduceIte, Nat.reduceAdd, Nat.reduceSub, Nat.reduceLeDiff, Int.reduceEq, Int.reduceLT, Int.reduceLE, Int.reduceNeg, Int.reduceAdd, Int.reduceSub, Int.reduceToNat, Int.reduceMul, Nat.reduceMul, F37, e69, ha, vL])
        (refine JQ.run follows hF hM ?_; simp (config := { maxSteps := 4000000 }) (disch := (omega)) only [go_sem, Nat.reduceLT, Nat.reduceEqDiff, reduceIte, Nat.reduceAdd, Nat.reduceSub, Nat.reduceLeDiff, Int.reduceEq, Int.reduceLT, Int.reduceLE, Int.reduceNeg, Int.reduceAdd, Int.reduceSub, Int.reduceToNat, Int.reduceMul, Nat.reduceMul, ho, res37])
        exact goodIE (t := 255) (nb := 0) (n' := 257) (hget_same _ _ _) (by omega) (by omega) (by omega)
  · have ho : o37 some bs b = .v (tuE (chkB bs b)) := by rw [o37, if_neg h0]
    (refine JQ.step follows hF hM ?_; simp (config := { maxSteps := 4000000 }) (disch := (omega)) only [go_sem, Nat.reduceLT, Nat.reduceEqDiff, reduceIte, Nat.reduceAdd, Nat.reduceSub, Nat.reduceLeDiff, Int.reduceEq, Int.reduceLT, Int.reduceLE, Int.reduceNeg, Int.reduceAdd, Int.reduceSub, Int.reduceToNat, Int.reduceMul, Nat.reduceMul, F37, f47, eq_false h0, ho, res37, tuE])
theorem ok37 : SOK Try.prog 37 (spSI (f37 some)) := spSI_ok fun bs b lim h n v h' n' hr => by
  unfold f37 at hr
  split at hr
  · rename_i hb
    exact outC Try.func37 n37 b37 k37 r37 (Ins.none h) (by simp [L.length]) (ren_nil_rel (by simp only [purL_cons, purL_nil, pur_s, I_pur, Bool.and_self])) (o37 some bs b) (o37_ok _ _ _) (run37 bs b hb) lim n hr
  · cases hr
/-! A slice with unknown room: a view of a block that is a list, or nil. -/
noncomputable def slN (p off : Nat) (xs : List Int) : V := if xs.length = 0 then .ns else .sl (tp p) off 1 (xs.length - off) none
noncomputable def apB (xs : List Int) (off : Nat) (z : Int) : Blk := if xs.length = 0 then blkL 3 (.cons (I z) .nil) else grown (blkL 3 (iL xs)) off (xs.length - off) (.cons (I z) .nil)
noncomputable def apK (h : Hp) (p : Nat) (xs : List Int) : Hp := if xs.length = 0 then h else h.put none (tp p)
theorem grown_leO {el : TypeId} {xs : List Int} {z : Int} {off : Nat} (ho : off ≤ xs.length) (hm : xs.length + 1 ≤ 1099511627776) : BlkLe (blkL el (iL (xs.drop off ++ [z]))) (grown (blkL el (iL xs)) off (xs.length - off) (.cons (I z) .nil)) := by
  obtain ⟨g1, g2, g3⟩ := grown_spec (blkL el (iL xs)) off (xs.length - off) (.cons (I z) .nil) (by simp [L.allC, I_isC]) (by simp [L.length, maxSize]; omega)
  have hd : (xs.drop off).length = xs.length - off := List.length_drop ..
  refine ⟨.inl rfl, g1.symm, by rw [g2, blkL_size, iL_len]; simp [L.length], fun k hk => .inr ?_⟩
  rw [blkL_size, iL_len, List.length_append] at hk
  simp at hk
  rw [g3 k (by simp [L.length]; omega), blkL_cell _ _ _ (by rw [iL_len, List.length_append]; simp; omega), iL_get _ _ (by rw [List.length_append]; simp; omega)]
  by_cases hlt : k < xs.length - off
  · rw [if_pos hlt, blkL_cell _ _ _ (by rw [iL_len]; omega), iL_get _ _ (by omega)]
    simp [At, List.getElem?_append_left (show k < (xs.drop off).length by omega)]
  · rw [if_neg hlt]
    obtain rfl : k = xs.length - off := by omega
    simp [At, L.get, List.getElem?_append_right (show (xs.drop off).length ≤ xs.length - off by omega), hd]
theorem apB_le {xs : List Int} {z : Int} {off : Nat} (ho : off ≤ xs.length) (hm : xs.length + 1 ≤ 1099511627776) : BlkLe (blkL 3 (iL (xs.drop off ++ [z]))) (apB xs off z) := by
  unfold apB
  split
  · rename_i hz
    obtain rfl : xs = [] := List.eq_nil_of_length_eq_zero hz
    obtain rfl : off = 0 := by simpa using ho
    exact BlkLe.refl _
  · exact grown_leO ho hm
theorem apX_gen {p off q : Nat} {xs : List Int} {z : Int} {h : Hp} {n lim : Nat} (ho : off ≤ xs.length) (hm : xs.length ≤ 1000) (hg : xs.length ≠ 0 → p < 4294967296 ∧ lim ≤ p + 1 ∧ h.get (tp p) = some (blkL 3 (iL xs))) (hq : h.get (tp q) = some (blkL 3 (.cons (I z) .nil))) :
    apX 3 1 8 (slN p off xs) (.sl (tp q) 0 1 1 (some 1)) lim h n = newB (apB xs off z) (fun p' => .sl p' 0 1 ((xs.drop off).length + 1) none) (apK h p xs) n := by
  have hl : (blkL 3 (.cons (I z) .nil)).getL 0 (1 * 1) = .cons (I z) .nil := by
    show (blkL 3 (.cons (I z) .nil)).getL 0 1 = _
    rw [getL_blkL _ _ _ (by simp [L.length])]
  have hd : (xs.drop off).length = xs.length - off := List.length_drop ..
  unfold slN apB apK
  by_cases hz : xs.length = 0
  · obtain rfl : xs = [] := List.eq_nil_of_length_eq_zero hz
    rw [if_pos hz, if_pos hz, if_pos hz, apX_ns _ _ _ _ _ _ _ _ _ _ (by omega), hq, apN_some, hl, if_pos ⟨by simp [blkL_size, L.length], by simp [L.allC, I_isC], by omega, by omega⟩]
    simp
  · obtain ⟨h1, h2, h3⟩ := hg hz
    have hgl : (blkL 3 (iL xs)).getL off ((xs.length - off) * 1) = iL (xs.drop off) := by
      refine L_ext (by rw [getL_length, iL_len, hd, Nat.mul_one]) fun j hj => ?_
      rw [getL_length, Nat.mul_one] at hj
      rw [getL_get _ _ _ _ (by omega), blkL_cell _ _ _ (by rw [iL_len]; omega), iL_get _ _ (by omega), iL_get _ _ (by omega)]
      simp [At]
    rw [if_neg hz, if_neg hz, if_neg hz, apX_sl _ _ _ _ _ _ _ _ _ _ _ _ _ (by omega), hq, h3, apS_some _ _ _ _ _ _ h1, hl, if_pos ⟨⟨by simp [blkL_size, L.length], by simp [L.allC, I_isC], by omega, by omega⟩, ⟨rfl, by rw [blkL_size, iL_len]; omega, by rw [hgl]; exact iL_allC _, by omega, by omega⟩, h2⟩, hd]
    simp
theorem apK_other {p q : Nat} {xs : List Int} {h : Hp} (hq : q < 4294967296) (hp : xs.length ≠ 0 → p < 4294967296 ∧ p ≠ q) : (apK h p xs).get (tp q) = h.get (tp q) := by
  unfold apK
  split
  · rfl
  · rename_i hz; exact put_other (hp hz).1 hq (hp hz).2
theorem svH_other' {p q : Nat} {l : List Int} {h : Hp} (hq : q < 4294967296) (hn : l.length ≠ 0 → p < 4294967296 ∧ p ≠ q) : (svH p l h).get (tp q) = h.get (tp q) := by
  unfold svH
  split
  · rfl
  · rename_i hl; exact put_other (hn hl).1 hq (hn hl).2
theorem svH_le' {p : Nat} {l : List Int} {h0 h : Hp} (h1 : l.length ≠ 0 → ∃ b, h.get (tp p) = some b ∧ BlkLe (blkL 3 (iL l)) b) (h2 : HpLe h0 h) : HpLe (svH p l h0) h := by
  unfold svH
  split
  · exact h2
  · rename_i hl
    exact HpLe.put (h1 hl) h2
theorem len_slN {pw ow : Nat} {xw : List Int} (ho : ow ≤ xw.length) (hl : xw.length < 1000) : (onS (slN pw ow xw) (fun _ _ _ l _ => .n l) (I 0) .bad : V) = I ((xw.drop ow).length : Nat) := by
  rw [List.length_drop]
  by_cases h : xw.length = 0
  · rw [slN, if_pos h, h, Nat.zero_sub]; rfl
  · rw [slN, if_neg h]
    show V.n (xw.length - ow) = mkI .i64 (Int.ofNat (xw.length - ow))
    simp only [mkI, fN_eq]
    rw [show Nat.blt (xw.length - ow) 9223372036854775808 = true from Nat.blt_eq.mpr (by omega)]
noncomputable def slc1V (esz : Nat) (v a : V) : V := onS v (fun p off e' len cap => Bool.rec .bad (onN a (fun l => Option.rec
    (Bool.rec .bad (fN (Nat.add off (Nat.mul l esz)) fun o' => fN (Nat.sub len l) fun k => .sl p o' esz k none) (and (Nat.ble l len) (Nat.ble len len)))
    (fun c0 => Bool.rec .bad (fN (Nat.add off (Nat.mul l esz)) fun o' => fN (Nat.sub len l) fun k => fN (Nat.sub c0 l) fun c => .sl p o' esz k (some c)) (and (Nat.ble l len) (and (Nat.ble len c0) (Nat.ble c0 c0)))) cap) .bad) (Nat.beq e' esz))
  (onN a (fun l => Bool.rec .bad .ns (Nat.beq (Nat.add l (Nat.add 0 0)) 0)) .bad) .bad
theorem O_slc1 (esz : Nat) (x l : X) (F : FF) (e : Tr) (lim : Nat) (h : Hp) (n : Nat) : (O.slc esz x (some l) none none).ev F e lim h n = pv (slc1V esz (evX x e) (evX l e)) h n := rfl
theorem slc1_ok {p : Pos} {off len : Nat} {a : Int} (h0 : 0 ≤ a) (h1 : a ≤ len) (h4 : len < 9223372036854775808) : slc1V 1 (.sl p off 1 len none) (I a) = .sl p (off + a.toNat) 1 (len - a.toNat) none := by
  show (onN (I a) (fun l => Bool.rec .bad (fN (Nat.add off (Nat.mul l 1)) fun o' => fN (Nat.sub len l) fun k => .sl p o' 1 k none) (and (Nat.ble l len) (Nat.ble len len))) .bad : V) = _
  rw [onN_I _ _ h0 (by omega)]
  have : and (Nat.ble a.toNat len) (Nat.ble len len) = true := by simp only [Bool.and_eq_true, Nat.ble_eq]; omega
  show (Bool.rec .bad _ (and (Nat.ble a.toNat len) (Nat.ble len len)) : V) = _
  rw [this]
  simp only [fN_eq]
  rw [show Nat.mul a.toNat 1 = a.toNat from Nat.mul_one _]
  rfl
structure SJ (bs : List Nat) (b : Int) (s : St) : Prop where
  k1 : s.k ≤ bs.length
  st : svS bs b s.k = (s.sv, s.xw.drop s.ow, s.c)
  wi : s.xw.drop s.ow = [] ∨ s.c = 0
  c0 : 0 ≤ s.c
  c1 : s.c ≤ 20 + s.k
  l1 : s.sv.length ≤ s.k
  l2 : s.xw.length ≤ s.k
  l3 : s.ow ≤ s.xw.length
  n0 : 256 ≤ s.nx
  n1 : s.nx ≤ 256 + 4 * s.k
  p1 : s.sv.length ≠ 0 → 255 ≤ s.ps ∧ s.ps + 1 < s.nx
  p2 : s.xw.length ≠ 0 → 255 ≤ s.pw ∧ s.pw + 1 < s.nx
  p3 : s.sv.length ≠ 0 → s.xw.length ≠ 0 → s.ps ≠ s.pw
noncomputable def e38 (bs : List Nat) (s : St) : Tr := ((((Tr.lf.set (.s bs) (tp 0)).set (slN s.ps 0 s.sv) (tp 7)).set (slN s.pw s.ow s.xw) (tp 8)).set (I s.c) (tp 9)).set (I s.k) (tp 10)
noncomputable def h38 (s : St) : Hp := svH s.ps s.sv (svH s.pw s.xw .lf)
theorem slN_app {p : Nat} {xs : List Int} {z : Int} : slN p 0 (xs ++ [z]) = .sl (tp p) 0 1 (xs.length + 1) none := by
  rw [slN, if_neg (by simp), List.length_append]; rfl
noncomputable def F38 : FF := ov 54 (spSI f47) F0
theorem F38_ok : FOK Try.prog F38 := ov_ok ok54 (F0_ok _)
theorem F38_mono : F38.mono := ov_mono (spSI_mo _) F0_mono
set_option maxHeartbeats 8000000 in
theorem run38 (bs : List Nat) (b : Int) (hb : bs.length < 9223372036854775808) : JQ Try.prog drops Try.f38.ntmps F38 q38 256 (Kend res38 (Good 0 (o37 (fun _ => none) bs b))) (bind (.cons (.s bs) (.cons (I b) .nil)) 0 .lf) .lf 256 := by
  have hF := F38_ok
  have hM := F38_mono
  unfold q38
  (refine JQ.step follows hF hM ?_; simp (config := { maxSteps := 4000000 }) (disch := (omega)) only [go_sem, Nat.reduceLT, Nat.reduceEqDiff, reduceIte, Nat.reduceAdd, Nat.reduceSub, Nat.reduceLeDiff, Int.reduceEq, Int.reduceLT, Int.reduceLE, Int.reduceNeg, Int.reduceAdd, Int.reduceSub, Int.reduceToNat, Int.reduceMul, Nat.reduceMul])
  (refine JQ.step follows hF hM ?_; simp (config := { maxSteps := 4000000 }) (disch := (omega)) only [go_sem, Nat.reduceLT, Nat.reduceEqDiff, reduceIte, Nat.reduceAdd, Nat.reduceSub, Nat.reduceLeDiff, Int.reduceEq, Int.reduceLT, Int.reduceLE, Int.reduceNeg, Int.reduceAdd, Int.reduceSub, Int.reduceToNat, Int.reduceMul, Nat.reduceMul, F38, f47])
  by_cases h0 : chkB bs b = 0
  · obtain ⟨c1, c2, c3⟩ := chkB_0 h0
    have hok := chk_okTo h0
    (refine JQ.step follows hF hM ?_; simp (config := { maxSteps := 4000000 }) (disch := (omega)) only [go_sem, Nat.reduceLT, Nat.reduceEqDiff, reduceIte, Nat.reduceAdd, Nat.reduceSub, Nat.reduceLeDiff, Int.reduceEq, Int.reduceLT, Int.reduceLE, Int.reduceNeg, Int.reduceAdd, Int.reduceSub, Int.reduceToNat, Int.reduceMul, Nat.reduceMul, eq_true h0])
    (refine JQ.step follows hF hM ?_; simp (config := { maxSteps := 4000000 }) (disch := (omega)) only [go_sem, Nat.reduceLT, Nat.reduceEqDiff, reduceIte, Nat.reduceAdd, Nat.reduceSub, Nat.reduceLeDiff, Int.reduceEq, Int.reduceLT, Int.reduceLE, Int.reduceNeg, Int.reduceAdd, Int.reduceSub, Int.reduceToNat, Int.reduceMul, Nat.reduceMul])
    (refine JQ.step follows hF hM ?_; simp (config := { maxSteps := 4000000 }) (disch := (omega)) only [go_sem, Nat.reduceLT, Nat.reduceEqDiff, reduceIte, Nat.reduceAdd, Nat.reduceSub, Nat.reduceLeDiff, Int.reduceEq, Int.reduceLT, Int.reduceLE, Int.reduceNeg, Int.reduceAdd, Int.reduceSub, Int.reduceToNat, Int.reduceMul, Nat.reduceMul])
    refine JQ.seq ?_
    (refine JQ.step follows hF hM ?_; simp (config := { maxSteps := 4000000 }) (disch := (omega)) only [go_sem, Nat.reduceLT, Nat.reduceEqDiff, reduceIte, Nat.reduceAdd, Nat.reduceSub, Nat.reduceLeDiff, Int.reduceEq, Int.reduceLT, Int.reduceLE, Int.reduceNeg, Int.reduceAdd, Int.reduceSub, Int.reduceToNat, Int.reduceMul, Nat.reduceMul, small_len])
    refine JQ.block ?_
    refine JQ.loop (σ := St) (SJ bs b) (e38 bs) h38 (fun s => s.nx) (fun s => bs.length - s.k) ⟨0, [], [], b, 0, 0, 0, 256⟩
      ⟨Nat.zero_le _, rfl, .inl rfl, c2, by simp; omega, Nat.le_refl _, Nat.le_refl _, Nat.le_refl _, Nat.le_refl _, Nat.le_refl _, fun h => absurd rfl h, fun h => absurd rfl h, fun h => absurd rfl h⟩
      (by unfold e38; ((repeat' (first | exact EnvLe.lf _ | refine EnvLe.set (by decide) ?_ ?_)) <;> first | exact EnvLe.lf _ | (simp (config := { maxSteps := 4000000 }) (disch := (omega)) only [go_sem, Nat.reduceLT, Nat.reduceEqDiff, reduceIte, Nat.reduceAdd, Nat.reduceSub, Nat.reduceLeDiff, Int.reduceEq, Int.reduceLT, Int.reduceLE, Int.reduceNeg, Int.reduceAdd, Int.reduceSub, Int.reduceToNat, Int.reduceMul, Nat.reduceMul, slN, List.length_nil, Int.natCast_add, Int.cast_ofNat_Int]; done) | (simp (config := { maxSteps := 4000000 }) (disch := (omega)) only [go_sem, Nat.reduceLT, Nat.reduceEqDiff, reduceIte, Nat.reduceAdd, Nat.reduceSub, Nat.reduceLeDiff, Int.reduceEq, Int.reduceLT, Int.reduceLE, Int.reduceNeg, Int.reduceAdd, Int.reduceSub, Int.reduceToNat, Int.reduceMul, Nat.reduceMul, slN, List.length_nil, Int.natCast_add, Int.cast_ofNat_Int] <;> first | rfl | (congr 1; omega)))) (HpLe.lf _) rfl ?_
    rintro ⟨k, sv, xw, c, ps, pw, ow, nx⟩ ⟨k1, st, wi, c0, c1', l1, l2, l3, n0, n1, p1, p2, p3⟩
    dsimp only at k1 st wi c0 c1' l1 l2 l3 n0 n1 p1 p2 p3 ⊢
    unfold q38_l0 e38 h38
    have g1 : ∀ h, sv.length ≠ 0 → (svH ps sv h).get (tp ps) = some (blkL 3 (iL sv)) := fun h hl => svH_same hl
    have g2 : xw.length ≠ 0 → (svH ps sv (svH pw xw .lf)).get (tp pw) = some (blkL 3 (iL xw)) := fun hl => by
      by_cases hv : sv.length = 0
      · rw [show svH ps sv (svH pw xw .lf) = svH pw xw .lf from if_pos hv]; exact svH_same hl
      · rw [svH_other (by have := p1 hv; omega) (by have := p2 hl; omega) (fun _ => p3 hv hl)]; exact svH_same hl
    have wl := len_slN (pw := pw) l3 (by omega)
    have hdl : (xw.drop ow).length = xw.length - ow := List.length_drop ..
    obtain ⟨H, hH⟩ : ∃ H, H = svH ps sv (svH pw xw .lf) := ⟨_, rfl⟩
    have g1' : sv.length ≠ 0 → H.get (tp ps) = some (blkL 3 (iL sv)) := fun hl => by rw [hH]; exact g1 _ hl
    rw [← hH] at g2 ⊢
    have ap1 : ∀ n, apX 3 1 8 (slN ps 0 sv) (.sl (tp (nx - 1)) 0 1 1 (some 1)) 256 (H.put (some (blkL 3 (.cons (I k) .nil))) (tp (nx - 1))) n = newB (apB sv 0 k) (fun p' => .sl p' 0 1 (sv.length + 1) none) (apK (H.put (some (blkL 3 (.cons (I k) .nil))) (tp (nx - 1))) ps sv) n := fun n => by
      rw [apX_gen (Nat.zero_le _) (by omega) (fun hl => by
        have := p1 hl
        exact ⟨by omega, by omega, by rw [put_other (by omega) (by omega) (by omega)]; exact g1' hl⟩) (hget_same _ _ _), List.drop_zero]
    have ap2 : ∀ n, apX 3 1 8 (slN pw ow xw) (.sl (tp (nx - 1)) 0 1 1 (some 1)) 256 (H.put (some (blkL 3 (.cons (I k) .nil))) (tp (nx - 1))) n = newB (apB xw ow k) (fun p' => .sl p' 0 1 ((xw.drop ow).length + 1) none) (apK (H.put (some (blkL 3 (.cons (I k) .nil))) (tp (nx - 1))) pw xw) n := fun n => by
      rw [apX_gen l3 (by omega) (fun hl => by
        have := p2 hl
        exact ⟨by omega, by omega, by rw [put_other (by omega) (by omega) (by omega)]; exact g2 hl⟩) (hget_same _ _ _)]
    by_cases hlt : k < bs.length
    · have hlt' : (k : Int) < bs.length := by omega
      by_cases hc : byt bs k = 99
      · by_cases hw : (xw.drop ow).length = 0
        · have hw' : xw.drop ow = [] := List.eq_nil_of_length_eq_zero hw
          rw [hw'] at st
          have st' := svS_D st hc
          have hcp : (0 : Int) < c + 1 := by omega
          have hle := apB_le (xs := sv) (z := (k : Int)) (Nat.zero_le _) (by omega)
          rw [List.drop_zero] at hle
          (refine JQ.run follows hF hM ?_; simp (config := { maxSteps := 4000000 }) (disch := (omega)) only [go_sem, Nat.reduceLT, Nat.reduceEqDiff, reduceIte, Nat.reduceAdd, Nat.reduceSub, Nat.reduceLeDiff, Int.reduceEq, Int.reduceLT, Int.reduceLE, Int.reduceNeg, Int.reduceAdd, Int.reduceSub, Int.reduceToNat, Int.reduceMul, Nat.reduceMul, small_len, hlt', nthS_at hlt, hc, wl, hw, ap1, hcp, Nat.add_sub_cancel])
          refine ⟨by omega, ⟨k + 1, sv ++ [(k : Int)], xw, c + 1, nx, pw, ow, nx + 1 + 1⟩, ⟨by dsimp only; omega, by dsimp only; rw [st', hw'], .inl hw', by dsimp only; omega, by dsimp only; omega, by dsimp only; rw [List.length_append]; simp; omega, by dsimp only; omega, l3, by dsimp only; omega, by dsimp only; omega, fun _ => by dsimp only; omega, fun h => by have := p2 h; dsimp only; omega, fun _ h => by have := p2 h; dsimp only; omega⟩, by dsimp only; omega, by dsimp only; ((repeat' (first | exact EnvLe.lf _ | refine EnvLe.set (by decide) ?_ ?_)) <;> first | exact EnvLe.lf _ | (simp (config := { maxSteps := 4000000 }) (disch := (omega)) only [go_sem, Nat.reduceLT, Nat.reduceEqDiff, reduceIte, Nat.reduceAdd, Nat.reduceSub, Nat.reduceLeDiff, Int.reduceEq, Int.reduceLT, Int.reduceLE, Int.reduceNeg, Int.reduceAdd, Int.reduceSub, Int.reduceToNat, Int.reduceMul, Nat.reduceMul, slN_app, Int.natCast_add, Int.cast_ofNat_Int]; done) | (simp (config := { maxSteps := 4000000 }) (disch := (omega)) only [go_sem, Nat.reduceLT, Nat.reduceEqDiff, reduceIte, Nat.reduceAdd, Nat.reduceSub, Nat.reduceLeDiff, Int.reduceEq, Int.reduceLT, Int.reduceLE, Int.reduceNeg, Int.reduceAdd, Int.reduceSub, Int.reduceToNat, Int.reduceMul, Nat.reduceMul, slN_app, Int.natCast_add, Int.cast_ofNat_Int] <;> first | rfl | (congr 1; omega))), ?_, rfl⟩
          dsimp only
          exact svH_le' (fun _ => ⟨_, hget_same _ _ _, hle⟩) (svH_le' (fun h => ⟨_, by
            have := p2 h
            rw [put_other (by omega) (by omega) (by omega), apK_other (by omega) (fun hl => ⟨by have := p1 hl; omega, p3 hl h⟩), put_other (by omega) (by omega) (by omega)]; exact g2 h, BlkLe.refl _⟩) (HpLe.lf _))
        · have how : ow < xw.length := by omega
          have hxl : xw.length ≠ 0 := by omega
          have hdr : xw.drop ow = At xw ow :: xw.drop (ow + 1) := drop_At how
          have hcz : c = 0 := wi.resolve_left (fun h => by rw [h] at hw; exact hw rfl)
          subst hcz
          rw [hdr] at st
          have st' := svS_C st hc
          obtain ⟨q1, q2⟩ := p2 hxl
          have hle := apB_le (xs := sv) (z := (k : Int)) (Nat.zero_le _) (by omega)
          rw [List.drop_zero] at hle
          have hwv : slN pw ow xw = .sl (tp pw) ow 1 (xw.length - ow) none := if_neg hxl
          obtain ⟨sv', hsv⟩ : ∃ sv', sv' = sv ++ [(k : Int)] := ⟨_, rfl⟩
          have hsl : sv'.length = sv.length + 1 := by rw [hsv]; simp
          have hs1 : slN nx 0 sv' = .sl (tp nx) 0 1 (sv.length + 1) none := by rw [hsv]; exact slN_app
          obtain ⟨H2, hH2⟩ : ∃ H2, H2 = svH nx sv' (svH pw xw .lf) := ⟨_, rfl⟩
          have gx : H2.get (tp pw) = some (blkL 3 (iL xw)) := by rw [hH2, svH_other (by omega) (by omega) (fun _ => by omega)]; exact svH_same hxl
          have gs : H2.get (tp nx) = some (blkL 3 (iL sv')) := by rw [hH2]; exact svH_same (by omega)
          obtain ⟨w, hwe⟩ : ∃ w, w = At xw ow := ⟨_, rfl⟩
          have ap3 : ∀ n, apX 3 1 8 (slN nx 0 sv') (.sl (tp (nx + 1)) 0 1 1 (some 1)) 256 (H2.put (some (blkL 3 (.cons (I w) .nil))) (tp (nx + 1))) n = newB (apB sv' 0 w) (fun p' => .sl p' 0 1 (sv'.length + 1) none) (apK (H2.put (some (blkL 3 (.cons (I w) .nil))) (tp (nx + 1))) nx sv') n := fun n => by
            rw [apX_gen (Nat.zero_le _) (by omega) (fun hl => ⟨by omega, by omega, by rw [put_other (by omega) (by omega) (by omega)]; exact gs⟩) (hget_same _ _ _), List.drop_zero]
          have hpos : (0 : Int) < ((xw.length - ow : Nat) : Int) := by omega
          have hsc : slc1V 1 (.sl (tp pw) ow 1 (xw.length - ow) none) (I 1) = .sl (tp pw) (ow + 1) 1 (xw.length - ow - 1) none := slc1_ok (by omega) (by omega) (by omega)
          have hle2 := apB_le (xs := sv') (z := w) (Nat.zero_le _) (by omega)
          rw [List.drop_zero] at hle2
          have hv3 : slN pw (ow + 1) xw = .sl (tp pw) (ow + 1) 1 (xw.length - ow - 1) none := by rw [slN, if_neg hxl, Nat.sub_add_eq]
          have hgi : (iL xw).get ow = I w := by rw [iL_get _ _ how, hwe]
          have hat : At xw (ow + 0) = w := by rw [Nat.add_zero, hwe]
          rw [← hwe] at st' hdr
          (refine JQ.step follows hF hM ?_; simp (config := { maxSteps := 4000000 }) (disch := (omega)) only [go_sem, Nat.reduceLT, Nat.reduceEqDiff, reduceIte, Nat.reduceAdd, Nat.reduceSub, Nat.reduceLeDiff, Int.reduceEq, Int.reduceLT, Int.reduceLE, Int.reduceNeg, Int.reduceAdd, Int.reduceSub, Int.reduceToNat, Int.reduceMul, Nat.reduceMul, small_len, hlt'])
          try (refine ⟨by omega, ?_⟩)
          refine JQ.seq ?_
          refine JQ.block ?_
          (refine JQ.step follows hF hM ?_; simp (config := { maxSteps := 4000000 }) (disch := (omega)) only [go_sem, Nat.reduceLT, Nat.reduceEqDiff, reduceIte, Nat.reduceAdd, Nat.reduceSub, Nat.reduceLeDiff, Int.reduceEq, Int.reduceLT, Int.reduceLE, Int.reduceNeg, Int.reduceAdd, Int.reduceSub, Int.reduceToNat, Int.reduceMul, Nat.reduceMul, nthS_at hlt, hc, ap1, Nat.add_sub_cancel])
          try (refine ⟨by omega, ?_⟩)
          refine JQ.weak (e0 := ((((Tr.lf.set (.s bs) (tp 0)).set (slN nx 0 sv') (tp 7)).set (.sl (tp pw) ow 1 (xw.length - ow) none) (tp 8)).set (I 1) (tp 9)).set (I k) (tp 10)) (h0 := H2) (by ((repeat' (first | exact EnvLe.lf _ | refine EnvLe.set (by decide) ?_ ?_)) <;> first | exact EnvLe.lf _ | (simp (config := { maxSteps := 4000000 }) (disch := (omega)) only [go_sem, Nat.reduceLT, Nat.reduceEqDiff, reduceIte, Nat.reduceAdd, Nat.reduceSub, Nat.reduceLeDiff, Int.reduceEq, Int.reduceLT, Int.reduceLE, Int.reduceNeg, Int.reduceAdd, Int.reduceSub, Int.reduceToNat, Int.reduceMul, Nat.reduceMul, hs1, hwv, Int.natCast_add, Int.cast_ofNat_Int]; done) | (simp (config := { maxSteps := 4000000 }) (disch := (omega)) only [go_sem, Nat.reduceLT, Nat.reduceEqDiff, reduceIte, Nat.reduceAdd, Nat.reduceSub, Nat.reduceLeDiff, Int.reduceEq, Int.reduceLT, Int.reduceLE, Int.reduceNeg, Int.reduceAdd, Int.reduceSub, Int.reduceToNat, Int.reduceMul, Nat.reduceMul, hs1, hwv, Int.natCast_add, Int.cast_ofNat_Int] <;> first | rfl | (congr 1; omega)))) (by
            rw [hH2]
            exact svH_le' (fun _ => ⟨_, hget_same _ _ _, by rw [hsv]; exact hle⟩) (svH_le' (fun h => ⟨_, by
              rw [put_other (by omega) (by omega) (by omega), apK_other (by omega) (fun hl => ⟨by have := p1 hl; omega, p3 hl h⟩), put_other (by omega) (by omega) (by omega)]; exact g2 h, BlkLe.refl _⟩) (HpLe.lf _))) ?_
          (refine JQ.run follows hF hM ?_; simp (config := { maxSteps := 4000000 }) (disch := (omega)) only [go_sem, Nat.reduceLT, Nat.reduceEqDiff, reduceIte, Nat.reduceAdd, Nat.reduceSub, Nat.reduceLeDiff, Int.reduceEq, Int.reduceLT, Int.reduceLE, Int.reduceNeg, Int.reduceAdd, Int.reduceSub, Int.reduceToNat, Int.reduceMul, Nat.reduceMul, hpos, gx, hgi, hat, ap3, O_slc1, hsc, Nat.add_sub_cancel])
          refine ⟨by omega, ?_⟩
          (refine JQ.run follows hF hM ?_; simp (config := { maxSteps := 4000000 }) (disch := (omega)) only [go_sem, Nat.reduceLT, Nat.reduceEqDiff, reduceIte, Nat.reduceAdd, Nat.reduceSub, Nat.reduceLeDiff, Int.reduceEq, Int.reduceLT, Int.reduceLE, Int.reduceNeg, Int.reduceAdd, Int.reduceSub, Int.reduceToNat, Int.reduceMul, Nat.reduceMul])
          refine ⟨by omega, ⟨k + 1, sv' ++ [w], xw, 0, nx + 1 + 1, pw, ow + 1, nx + 1 + 1 + 1 + 1⟩, ⟨by dsimp only; omega, by dsimp only; rw [st', hsv], .inr rfl, by dsimp only; omega, by dsimp only; omega, ?_, by dsimp only; omega, how, by dsimp only; omega, by dsimp only; omega, fun _ => by dsimp only; omega, fun h => by dsimp only; omega, fun _ h => by dsimp only; omega⟩, by dsimp only; omega, by dsimp only; ((repeat' (first | exact EnvLe.lf _ | refine EnvLe.set (by decide) ?_ ?_)) <;> first | exact EnvLe.lf _ | (simp (config := { maxSteps := 4000000 }) (disch := (omega)) only [go_sem, Nat.reduceLT, Nat.reduceEqDiff, reduceIte, Nat.reduceAdd, Nat.reduceSub, Nat.reduceLeDiff, Int.reduceEq, Int.reduceLT, Int.reduceLE, Int.reduceNeg, Int.reduceAdd, Int.reduceSub, Int.reduceToNat, Int.reduceMul, Nat.reduceMul, slN_app, hv3, Int.natCast_add, Int.cast_ofNat_Int]; done) | (simp (config := { maxSteps := 4000000 }) (disch := (omega)) only [go_sem, Nat.reduceLT, Nat.reduceEqDiff, reduceIte, Nat.reduceAdd, Nat.reduceSub, Nat.reduceLeDiff, Int.reduceEq, Int.reduceLT, Int.reduceLE, Int.reduceNeg, Int.reduceAdd, Int.reduceSub, Int.reduceToNat, Int.reduceMul, Nat.reduceMul, slN_app, hv3, Int.natCast_add, Int.cast_ofNat_Int] <;> first | rfl | (congr 1; omega))), ?_, rfl⟩
          · dsimp only
            rw [List.length_append, hsl]
            have hlen := svS_len bs b k
            rw [st] at hlen
            simp at hlen ⊢
            omega
          · dsimp only
            exact svH_le' (fun _ => ⟨_, hget_same _ _ _, hle2⟩) (svH_le' (fun h => ⟨_, by
              rw [put_other (by omega) (by omega) (by omega), apK_other (by omega) (fun hl => ⟨by omega, by omega⟩), put_other (by omega) (by omega) (by omega)]; exact gx, BlkLe.refl _⟩) (HpLe.lf _))
      · have hn : byt bs k = 110 := (hok k hlt).resolve_left hc
        by_cases hcz : c = 0
        · subst hcz
          have st' := svS_A st hc
          have hle := apB_le (xs := xw) (z := (k : Int)) l3 (by omega)
          (refine JQ.run follows hF hM ?_; simp (config := { maxSteps := 4000000 }) (disch := (omega)) only [go_sem, Nat.reduceLT, Nat.reduceEqDiff, reduceIte, Nat.reduceAdd, Nat.reduceSub, Nat.reduceLeDiff, Int.reduceEq, Int.reduceLT, Int.reduceLE, Int.reduceNeg, Int.reduceAdd, Int.reduceSub, Int.reduceToNat, Int.reduceMul, Nat.reduceMul, small_len, hlt', nthS_at hlt, hn, ap2, Int.lt_irrefl, Nat.add_sub_cancel])
          refine ⟨by omega, ⟨k + 1, sv, xw.drop ow ++ [(k : Int)], 0, ps, nx, 0, nx + 1 + 1⟩, ⟨by dsimp only; omega, by dsimp only; rw [st']; rfl, .inr rfl, by dsimp only; omega, by dsimp only; omega, by dsimp only; omega, by dsimp only; rw [List.length_append]; simp; omega, Nat.zero_le _, by dsimp only; omega, by dsimp only; omega, fun h => by have := p1 h; dsimp only; omega, fun _ => by dsimp only; omega, fun h _ => by have := p1 h; dsimp only; omega⟩, by dsimp only; omega, by dsimp only; ((repeat' (first | exact EnvLe.lf _ | refine EnvLe.set (by decide) ?_ ?_)) <;> first | exact EnvLe.lf _ | (simp (config := { maxSteps := 4000000 }) (disch := (omega)) only [go_sem, Nat.reduceLT, Nat.reduceEqDiff, reduceIte, Nat.reduceAdd, Nat.reduceSub, Nat.reduceLeDiff, Int.reduceEq, Int.reduceLT, Int.reduceLE, Int.reduceNeg, Int.reduceAdd, Int.reduceSub, Int.reduceToNat, Int.reduceMul, Nat.reduceMul, slN_app, Int.natCast_add, Int.cast_ofNat_Int]; done) | (simp (config := { maxSteps := 4000000 }) (disch := (omega)) only [go_sem, Nat.reduceLT, Nat.reduceEqDiff, reduceIte, Nat.reduceAdd, Nat.reduceSub, Nat.reduceLeDiff, Int.reduceEq, Int.reduceLT, Int.reduceLE, Int.reduceNeg, Int.reduceAdd, Int.reduceSub, Int.reduceToNat, Int.reduceMul, Nat.reduceMul, slN_app, Int.natCast_add, Int.cast_ofNat_Int] <;> first | rfl | (congr 1; omega))), ?_, rfl⟩
          dsimp only
          exact svH_le' (fun h => ⟨_, by
            have := p1 h
            rw [put_other (by omega) (by omega) (by omega), apK_other (by omega) (fun hl => ⟨by have := p2 hl; omega, fun e => p3 h hl e.symm⟩), put_other (by omega) (by omega) (by omega)]; exact g1' h, BlkLe.refl _⟩) (svH_le' (fun _ => ⟨_, hget_same _ _ _, hle⟩) (HpLe.lf _))
        · have hw' : xw.drop ow = [] := wi.resolve_right hcz
          have hw : (xw.drop ow).length = 0 := by rw [hw']; rfl
          have st' := svS_B st hc hcz
          have hle := apB_le (xs := xw) (z := (k : Int)) l3 (by omega)
          rw [hw'] at hle
          obtain ⟨H2, hH2⟩ : ∃ H2, H2 = svH ps sv (svH nx [(k : Int)] .lf) := ⟨_, rfl⟩
          have gs : sv.length ≠ 0 → H2.get (tp ps) = some (blkL 3 (iL sv)) := fun hl => by rw [hH2]; exact svH_same hl
          have gx : H2.get (tp nx) = some (blkL 3 (iL [(k : Int)])) := by rw [hH2, svH_other' (by omega) (fun hl => by have := p1 hl; omega)]; exact svH_same (by simp)
          have ap3 : ∀ n, apX 3 1 8 (slN ps 0 sv) (.sl (tp (nx + 1)) 0 1 1 (some 1)) 256 (H2.put (some (blkL 3 (.cons (I k) .nil))) (tp (nx + 1))) n = newB (apB sv 0 k) (fun p' => .sl p' 0 1 (sv.length + 1) none) (apK (H2.put (some (blkL 3 (.cons (I k) .nil))) (tp (nx + 1))) ps sv) n := fun n => by
            rw [apX_gen (Nat.zero_le _) (by omega) (fun hl => by
              have := p1 hl
              exact ⟨by omega, by omega, by rw [put_other (by omega) (by omega) (by omega)]; exact gs hl⟩) (hget_same _ _ _), List.drop_zero]
          have hcp : (0 : Int) < c := by omega
          have hsc : slc1V 1 (.sl (tp nx) 0 1 1 none) (I 1) = .sl (tp nx) 1 1 0 none := slc1_ok (by omega) (by omega) (by omega)
          have hle2 := apB_le (xs := sv) (z := (k : Int)) (Nat.zero_le _) (by omega)
          rw [List.drop_zero] at hle2
          have hv3 : slN nx 1 [(k : Int)] = .sl (tp nx) 1 1 0 none := by rw [slN, if_neg (by simp)]; rfl
          have hgi : (iL [(k : Int)]).get 0 = I k := rfl
          have hgl : (iL [(k : Int)]).length = 1 := rfl
          have hat : At [(k : Int)] 0 = k := rfl
          (refine JQ.step follows hF hM ?_; simp (config := { maxSteps := 4000000 }) (disch := (omega)) only [go_sem, Nat.reduceLT, Nat.reduceEqDiff, reduceIte, Nat.reduceAdd, Nat.reduceSub, Nat.reduceLeDiff, Int.reduceEq, Int.reduceLT, Int.reduceLE, Int.reduceNeg, Int.reduceAdd, Int.reduceSub, Int.reduceToNat, Int.reduceMul, Nat.reduceMul, small_len, hlt'])
          try (refine ⟨by omega, ?_⟩)
          refine JQ.seq ?_
          refine JQ.block ?_
          (refine JQ.step follows hF hM ?_; simp (config := { maxSteps := 4000000 }) (disch := (omega)) only [go_sem, Nat.reduceLT, Nat.reduceEqDiff, reduceIte, Nat.reduceAdd, Nat.reduceSub, Nat.reduceLeDiff, Int.reduceEq, Int.reduceLT, Int.reduceLE, Int.reduceNeg, Int.reduceAdd, Int.reduceSub, Int.reduceToNat, Int.reduceMul, Nat.reduceMul, nthS_at hlt, hn, ap2, Nat.add_sub_cancel])
          try (refine ⟨by omega, ?_⟩)
          refine JQ.weak (e0 := ((((Tr.lf.set (.s bs) (tp 0)).set (slN ps 0 sv) (tp 7)).set (.sl (tp nx) 0 1 1 none) (tp 8)).set (I c) (tp 9)).set (I k) (tp 10)) (h0 := H2) (by ((repeat' (first | exact EnvLe.lf _ | refine EnvLe.set (by decide) ?_ ?_)) <;> first | exact EnvLe.lf _ | (simp (config := { maxSteps := 4000000 }) (disch := (omega)) only [go_sem, Nat.reduceLT, Nat.reduceEqDiff, reduceIte, Nat.reduceAdd, Nat.reduceSub, Nat.reduceLeDiff, Int.reduceEq, Int.reduceLT, Int.reduceLE, Int.reduceNeg, Int.reduceAdd, Int.reduceSub, Int.reduceToNat, Int.reduceMul, Nat.reduceMul, hw, Int.natCast_add, Int.cast_ofNat_Int]; done) | (simp (config := { maxSteps := 4000000 }) (disch := (omega)) only [go_sem, Nat.reduceLT, Nat.reduceEqDiff, reduceIte, Nat.reduceAdd, Nat.reduceSub, Nat.reduceLeDiff, Int.reduceEq, Int.reduceLT, Int.reduceLE, Int.reduceNeg, Int.reduceAdd, Int.reduceSub, Int.reduceToNat, Int.reduceMul, Nat.reduceMul, hw, Int.natCast_add, Int.cast_ofNat_Int] <;> first | rfl | (congr 1; omega)))) (by
            rw [hH2]
            exact svH_le' (fun h => ⟨_, by
              have := p1 h
              rw [put_other (by omega) (by omega) (by omega), apK_other (by omega) (fun hl => ⟨by have := p2 hl; omega, fun e => p3 h hl e.symm⟩), put_other (by omega) (by omega) (by omega)]; exact g1' h, BlkLe.refl _⟩) (svH_le' (fun _ => ⟨_, hget_same _ _ _, hle⟩) (HpLe.lf _))) ?_
          (refine JQ.run follows hF hM ?_; simp (config := { maxSteps := 4000000 }) (disch := (omega)) only [go_sem, Nat.reduceLT, Nat.reduceEqDiff, reduceIte, Nat.reduceAdd, Nat.reduceSub, Nat.reduceLeDiff, Int.reduceEq, Int.reduceLT, Int.reduceLE, Int.reduceNeg, Int.reduceAdd, Int.reduceSub, Int.reduceToNat, Int.reduceMul, Nat.reduceMul, hcp, gx, hgi, hgl, hat, ap3, O_slc1, hsc, Nat.add_sub_cancel])
          refine ⟨by omega, ?_⟩
          (refine JQ.run follows hF hM ?_; simp (config := { maxSteps := 4000000 }) (disch := (omega)) only [go_sem, Nat.reduceLT, Nat.reduceEqDiff, reduceIte, Nat.reduceAdd, Nat.reduceSub, Nat.reduceLeDiff, Int.reduceEq, Int.reduceLT, Int.reduceLE, Int.reduceNeg, Int.reduceAdd, Int.reduceSub, Int.reduceToNat, Int.reduceMul, Nat.reduceMul])
          refine ⟨by omega, ⟨k + 1, sv ++ [(k : Int)], [(k : Int)], c - 1, nx + 1 + 1, nx, 1, nx + 1 + 1 + 1 + 1⟩, ⟨by dsimp only; omega, by dsimp only; rw [st', hw']; rfl, .inl rfl, by dsimp only; omega, by dsimp only; omega, by dsimp only; rw [List.length_append]; simp; omega, by dsimp only; simp, by dsimp only; simp, by dsimp only; omega, by dsimp only; omega, fun _ => by dsimp only; omega, fun h => by dsimp only; omega, fun _ h => by dsimp only; omega⟩, by dsimp only; omega, by dsimp only; ((repeat' (first | exact EnvLe.lf _ | refine EnvLe.set (by decide) ?_ ?_)) <;> first | exact EnvLe.lf _ | (simp (config := { maxSteps := 4000000 }) (disch := (omega)) only [go_sem, Nat.reduceLT, Nat.reduceEqDiff, reduceIte, Nat.reduceAdd, Nat.reduceSub, Nat.reduceLeDiff, Int.reduceEq, Int.reduceLT, Int.reduceLE, Int.reduceNeg, Int.reduceAdd, Int.reduceSub, Int.reduceToNat, Int.reduceMul, Nat.reduceMul, slN_app, hv3, Int.natCast_add, Int.cast_ofNat_Int]; done) | (simp (config := { maxSteps := 4000000 }) (disch := (omega)) only [go_sem, Nat.reduceLT, Nat.reduceEqDiff, reduceIte, Nat.reduceAdd, Nat.reduceSub, Nat.reduceLeDiff, Int.reduceEq, Int.reduceLT, Int.reduceLE, Int.reduceNeg, Int.reduceAdd, Int.reduceSub, Int.reduceToNat, Int.reduceMul, Nat.reduceMul, slN_app, hv3, Int.natCast_add, Int.cast_ofNat_Int] <;> first | rfl | (congr 1; omega))), ?_, rfl⟩
          dsimp only
          exact svH_le' (fun _ => ⟨_, hget_same _ _ _, hle2⟩) (svH_le' (fun h => ⟨_, by
            rw [put_other (by omega) (by omega) (by omega), apK_other (by omega) (fun hl => ⟨by have := p1 hl; omega, by have := p1 hl; omega⟩), put_other (by omega) (by omega) (by omega)]; exact gx, BlkLe.refl _⟩) (HpLe.lf _))
    · have hk : k = bs.length := by omega
      subst hk
      have hlt' : ¬ ((bs.length : Nat) : Int) < bs.length := by omega
      (refine JQ.run follows hF hM ?_; simp (config := { maxSteps := 4000000 }) (disch := (omega)) only [go_sem, Nat.reduceLT, Nat.reduceEqDiff, reduceIte, Nat.reduceAdd, Nat.reduceSub, Nat.reduceLeDiff, Int.reduceEq, Int.reduceLT, Int.reduceLE, Int.reduceNeg, Int.reduceAdd, Int.reduceSub, Int.reduceToNat, Int.reduceMul, Nat.reduceMul, small_len, hlt'])
      refine ⟨by omega, ?_⟩
      by_cases hw : (xw.drop ow).length = 0
      · by_cases hs : sv.length = 0
        · have ho : o37 (fun _ => none) bs b = .v (tuE 0) := by rw [o37, if_pos h0, st, if_pos hw, if_pos hs]
          have hv : slN ps 0 sv = .ns := if_pos hs
          (refine JQ.run follows hF hM ?_; simp (config := { maxSteps := 4000000 }) (disch := (omega)) only [go_sem, Nat.reduceLT, Nat.reduceEqDiff, reduceIte, Nat.reduceAdd, Nat.reduceSub, Nat.reduceLeDiff, Int.reduceEq, Int.reduceLT, Int.reduceLE, Int.reduceNeg, Int.reduceAdd, Int.reduceSub, Int.reduceToNat, Int.reduceMul, Nat.reduceMul, wl, hw, res38, ho, hv, tuE])
          omega
        · have ho : o37 (fun _ => none) bs b = .slE 3 1 sv.length none (iL sv) (I 0) := by rw [o37, if_pos h0, st, if_pos hw, if_neg hs]
          have hv : slN ps 0 sv = .sl (tp ps) 0 1 sv.length none := if_neg hs
          have := p1 hs
          (refine JQ.run follows hF hM ?_; simp (config := { maxSteps := 4000000 }) (disch := (omega)) only [go_sem, Nat.reduceLT, Nat.reduceEqDiff, reduceIte, Nat.reduceAdd, Nat.reduceSub, Nat.reduceLeDiff, Int.reduceEq, Int.reduceLT, Int.reduceLE, Int.reduceNeg, Int.reduceAdd, Int.reduceSub, Int.reduceToNat, Int.reduceMul, Nat.reduceMul, wl, hw, res38, ho, hv])
          exact ⟨by omega, goodIE (nb := 0) (g1' hs) (by omega) (by omega) (by omega)⟩
      · have ho : o37 (fun _ => none) bs b = .v (tuE 12) := by rw [o37, if_pos h0, st, if_neg hw]
        have hw2 : (0 : Int) < ((xw.drop ow).length : Nat) := by omega
        (refine JQ.run follows hF hM ?_; simp (config := { maxSteps := 4000000 }) (disch := (omega)) only [go_sem, Nat.reduceLT, Nat.reduceEqDiff, reduceIte, Nat.reduceAdd, Nat.reduceSub, Nat.reduceLeDiff, Int.reduceEq, Int.reduceLT, Int.reduceLE, Int.reduceNeg, Int.reduceAdd, Int.reduceSub, Int.reduceToNat, Int.reduceMul, Nat.reduceMul, wl, hw2, res38, ho, tuE])
        omega
  · have ho : o37 (fun _ => none) bs b = .v (tuE (chkB bs b)) := by rw [o37, if_neg h0]
    (refine JQ.step follows hF hM ?_; simp (config := { maxSteps := 4000000 }) (disch := (omega)) only [go_sem, Nat.reduceLT, Nat.reduceEqDiff, reduceIte, Nat.reduceAdd, Nat.reduceSub, Nat.reduceLeDiff, Int.reduceEq, Int.reduceLT, Int.reduceLE, Int.reduceNeg, Int.reduceAdd, Int.reduceSub, Int.reduceToNat, Int.reduceMul, Nat.reduceMul, eq_false h0, ho, res38, tuE])
theorem ok38 : SOK Try.prog 38 (spSI (f37 fun _ => none)) := spSI_ok fun bs b lim h n v h' n' hr => by
  unfold f37 at hr
  split at hr
  · rename_i hb
    exact outC Try.func38 n38 b38 k38 r38 (Ins.none h) (by simp [L.length]) (ren_nil_rel (by simp only [purL_cons, purL_nil, pur_s, I_pur, Bool.and_self])) (o37 (fun _ => none) bs b) (o37_ok _ _ _) (run38 bs b hb) lim n hr
  · cases hr
/-- The coins that are in the till, and the pairs, after the first customers. -/
def prS (bs : List Nat) : Nat → List Int × List Int
  | 0 => ([], [])
  | k + 1 =>
    let s := prS bs k
    if byt bs k = 99 then (s.1 ++ [(k : Int)], s.2) else (s.1.dropLast, s.2 ++ [At s.1 (s.1.length - 1), (k : Int)])
theorem prS_c {bs : List Nat} {k : Nat} {hs ps : List Int} (h : prS bs k = (hs, ps)) (hc : byt bs k = 99) : prS bs (k + 1) = (hs ++ [(k : Int)], ps) := by
  rw [prS, if_pos hc, h]
theorem prS_n {bs : List Nat} {k : Nat} {hs ps : List Int} (h : prS bs k = (hs, ps)) (hc : ¬ byt bs k = 99) : prS bs (k + 1) = (hs.dropLast, ps ++ [At hs (hs.length - 1), (k : Int)]) := by
  rw [prS, if_neg hc, h]
theorem prS_len {bs : List Nat} (hg : ∀ k, k ≤ bs.length → 0 ≤ aft bs 0 k) : ∀ k : Nat, k ≤ bs.length → ((prS bs k).1.length : Int) = aft bs 0 k
  | 0, _ => rfl
  | k + 1, hk => by
    have ih := prS_len hg k (by omega)
    have h1 := hg (k + 1) hk
    rw [aft, stp] at h1 ⊢
    rw [prS]
    by_cases hc : byt bs k = 99
    · rw [if_pos hc] at h1 ⊢
      rw [if_pos hc, List.length_append]; simp; omega
    · rw [if_neg hc] at h1 ⊢
      rw [if_neg hc]; simp; omega
theorem prS_even (bs : List Nat) : ∀ k : Nat, (prS bs k).2.length % 2 = 0 ∧ (prS bs k).2.length ≤ 2 * k
  | 0 => ⟨rfl, Nat.le_refl _⟩
  | k + 1 => by
    have ih := prS_even bs k
    rw [prS]
    by_cases hc : byt bs k = 99
    · rw [if_pos hc]; exact ⟨ih.1, by show (prS bs k).2.length ≤ _; omega⟩
    · rw [if_neg hc]; simp; omega
theorem rdC_take (el : TypeId) (xs : List Int) : ∀ m k : Nat, k + m ≤ xs.length → rdC (blkL el (iL xs)) k m = some ((xs.drop k).take m)
  | 0, k, _ => by rw [List.take_zero]; rfl
  | m + 1, k, h => by
    rw [rdC, blkL_cell _ _ _ (by rw [iL_len]; omega), iL_get _ _ (by omega), asI_I, rdC_take el xs m (k + 1) (by omega), drop_At (show k < xs.length by omega), List.take_succ_cons]
theorem rdB_take (el : TypeId) (xs : List Int) (m : Nat) (h : m ≤ xs.length) : rdB (some (blkL el (iL xs))) 0 m = some (xs.take m) := by
  simp only [rdB, blkL_size, iL_len]
  rw [if_pos (by omega), rdC_take el xs m 0 (by omega), List.drop_zero]
/-! A slice of pairs, with unknown room. -/
noncomputable def slP (p : Nat) (xs : List Int) : V := if xs.length = 0 then .ns else .sl (tp p) 0 2 (xs.length / 2) none
noncomputable def pH (p : Nat) (xs : List Int) (h : Hp) : Hp := if xs.length = 0 then h else h.put (some (blkL 59 (iL xs))) (tp p)
noncomputable def apB2 (xs : List Int) (a z : Int) : Blk := if xs.length = 0 then blkL 59 (.cons (I a) (.cons (I z) .nil)) else grown (blkL 59 (iL xs)) 0 xs.length (.cons (I a) (.cons (I z) .nil))
theorem apB2_le {xs : List Int} {a z : Int} (hm : xs.length ≤ 1000) : BlkLe (blkL 59 (iL (xs ++ [a, z]))) (apB2 xs a z) := by
  unfold apB2
  split
  · rename_i hz
    obtain rfl : xs = [] := List.eq_nil_of_length_eq_zero hz
    exact BlkLe.refl _
  · obtain ⟨g1, g2, g3⟩ := grown_spec (blkL 59 (iL xs)) 0 xs.length (.cons (I a) (.cons (I z) .nil)) (by simp [L.allC, I_isC]) (by simp [L.length, maxSize]; omega)
    refine ⟨.inl rfl, g1.symm, by rw [g2, blkL_size, iL_len]; simp [L.length], fun k hk => .inr ?_⟩
    rw [blkL_size, iL_len, List.length_append] at hk
    simp at hk
    rw [g3 k (by simp [L.length]; omega), blkL_cell _ _ _ (by rw [iL_len, List.length_append]; simp; omega), iL_get _ _ (by rw [List.length_append]; simp; omega)]
    by_cases hlt : k < xs.length
    · rw [if_pos hlt, Nat.zero_add, blkL_cell _ _ _ (by rw [iL_len]; exact hlt), iL_get _ _ hlt]
      simp [At, List.getElem?_append_left hlt]
    · rw [if_neg hlt]
      rcases (show k = xs.length ∨ k = xs.length + 1 by omega) with rfl | rfl
      · simp [At, L.get]
      · simp [At, L.get, show xs.length + 1 - xs.length = 1 by omega]
theorem apX_P {p q : Nat} {xs : List Int} {a z : Int} {h : Hp} {n lim : Nat} (he : xs.length % 2 = 0) (hm : xs.length ≤ 1000) (hg : xs.length ≠ 0 → p < 4294967296 ∧ lim ≤ p + 1 ∧ h.get (tp p) = some (blkL 59 (iL xs))) (hq : h.get (tp q) = some (blkL 59 (.cons (I a) (.cons (I z) .nil)))) :
    apX 59 2 16 (slP p xs) (.sl (tp q) 0 2 1 (some 1)) lim h n = newB (apB2 xs a z) (fun p' => .sl p' 0 2 (xs.length / 2 + 1) none) (apK h p xs) n := by
  have hl : (blkL 59 (.cons (I a) (.cons (I z) .nil))).getL 0 (1 * 2) = .cons (I a) (.cons (I z) .nil) := by
    show (blkL 59 (.cons (I a) (.cons (I z) .nil))).getL 0 2 = _
    rw [getL_blkL _ _ _ (by simp [L.length])]
  unfold slP apB2 apK
  by_cases hz : xs.length = 0
  · obtain rfl : xs = [] := List.eq_nil_of_length_eq_zero hz
    rw [if_pos hz, if_pos hz, if_pos hz, apX_ns _ _ _ _ _ _ _ _ _ _ (by omega), hq, apN_some, hl, if_pos ⟨by simp [blkL_size, L.length], by simp [L.allC, I_isC], by omega, by omega⟩]
    simp
  · obtain ⟨h1, h2, h3⟩ := hg hz
    have h2' : xs.length / 2 * 2 = xs.length := by omega
    have hgl : (blkL 59 (iL xs)).getL 0 (xs.length / 2 * 2) = iL xs := by rw [h2', getL_blkL _ _ _ (by rw [iL_len])]
    rw [if_neg hz, if_neg hz, if_neg hz, apX_sl _ _ _ _ _ _ _ _ _ _ _ _ _ (by omega), hq, h3, apS_some _ _ _ _ _ _ h1, hl, if_pos ⟨⟨by simp [blkL_size, L.length], by simp [L.allC, I_isC], by omega, by omega⟩, ⟨rfl, by rw [blkL_size, iL_len]; omega, by rw [hgl]; exact iL_allC _, by omega, by omega⟩, h2⟩, h2']
/-! The coins that are held: the first so many of a block. -/
noncomputable def slM (p m : Nat) (ys : List Int) : V := if ys.length = 0 then .ns else .sl (tp p) 0 1 m (some m)
theorem with_hd {p m : Nat} {ys : List Int} {z : Int} {lim : Nat} {h : Hp} {n : Nat} (hm : m ≤ ys.length) (hg : ys.length ≠ 0 → h.get (tp p) = some (blkL 3 (iL ys))) : spLI f65 (.cons (slM p m ys) (.cons (I z) .nil)) lim h n = (f65 (ys.take m) z).res h n := by
  rw [spLI_eq]
  by_cases hl : ys.length = 0
  · obtain rfl : ys = [] := List.eq_nil_of_length_eq_zero hl
    rw [List.take_nil]
    rfl
  · rw [slM, if_neg hl, rdL_sl, hg hl, rdB_take _ _ _ hm, onL_some]
noncomputable def o33 (bs : List Nat) : Out := if gdS bs 0 = 0 then (if (prS bs bs.length).2.length = 0 then .v (tuE 0) else .slE 59 2 ((prS bs bs.length).2.length / 2) none (iL (prS bs bs.length).2) (I 0)) else .v (tuE (gdS bs 0))
theorem o33_ok (bs : List Nat) : OutOK (o33 bs) := by
  unfold o33
  split
  · split
    · simp [OutOK, tuE, V.pur, L.pur, I_pur]
    · exact ⟨iL_pur _, by rw [iL_len]; have := (prS_even bs bs.length).1; omega, I_pur _⟩
  · simp [OutOK, tuE, V.pur, L.pur, I_pur]
noncomputable def f33 (bs : List Nat) : Out := if bs.length < 9223372036854775808 then o33 bs else .no
structure Sp where
  k : Nat
  ys : List Int
  m : Nat
  pr : List Int
  ph : Nat
  pp : Nat
  nx : Nat
structure SP (bs : List Nat) (n0 : Nat) (s : Sp) : Prop where
  k1 : s.k ≤ bs.length
  st : prS bs s.k = (s.ys.take s.m, s.pr)
  m1 : s.m ≤ s.ys.length
  m2 : s.m ≤ s.k
  y1 : s.ys.length ≤ s.k
  n1 : n0 ≤ s.nx
  n2 : s.nx ≤ n0 + 2 * s.k
  p1 : s.ys.length ≠ 0 → 255 ≤ s.ph ∧ s.ph + 1 < s.nx
  p2 : s.pr.length ≠ 0 → 255 ≤ s.pp ∧ s.pp + 1 < s.nx
  p3 : s.ys.length ≠ 0 → s.pr.length ≠ 0 → s.ph ≠ s.pp
noncomputable def F33 : FF := ov 14 (spSI f14) (ov 65 (spLI f65) (ov 66 (spL f66) (ov 67 (spV v67) F0)))
theorem F33_ok : FOK Try.prog F33 := ov_ok ok14 (ov_ok ok65 (ov_ok ok66 (ov_ok ok67 (F0_ok _))))
theorem F33_mono : F33.mono := ov_mono (spSI_mo _) (ov_mono (spLI_mo _) (ov_mono (spL_mo _) (ov_mono (spV_mo _) F0_mono)))
theorem pH_same {p : Nat} {l : List Int} {h : Hp} (hl : l.length ≠ 0) : (pH p l h).get (tp p) = some (blkL 59 (iL l)) := by
  rw [pH, if_neg hl]; exact hget_same _ _ _
theorem pH_other {p q : Nat} {l : List Int} {h : Hp} (hq : q < 4294967296) (hn : l.length ≠ 0 → p < 4294967296 ∧ p ≠ q) : (pH p l h).get (tp q) = h.get (tp q) := by
  unfold pH
  split
  · rfl
  · rename_i hl; exact put_other (hn hl).1 hq (hn hl).2
theorem pH_le {p : Nat} {l : List Int} {h0 h : Hp} (h1 : l.length ≠ 0 → ∃ b, h.get (tp p) = some b ∧ BlkLe (blkL 59 (iL l)) b) (h2 : HpLe h0 h) : HpLe (pH p l h0) h := by
  unfold pH
  split
  · exact h2
  · rename_i hl
    exact HpLe.put (h1 hl) h2
theorem slP_app {p : Nat} {xs : List Int} {a z : Int} : slP p (xs ++ [a, z]) = .sl (tp p) 0 2 (xs.length / 2 + 1) none := by
  rw [slP, if_neg (by simp), List.length_append, show (xs.length + [a, z].length) / 2 = xs.length / 2 + 1 by simp]
set_option maxHeartbeats 8000000 in
theorem run33 (bs : List Nat) (hb : bs.length < 9223372036854775808) : JQ Try.prog drops Try.f33.ntmps F33 q33 256 (Kend res33 (Good 0 (o33 bs))) (bind (.cons (.s bs) .nil) 0 .lf) .lf 256 := by
  have hF := F33_ok
  have hM := F33_mono
  unfold q33
  (refine JQ.step follows hF hM ?_; simp (config := { maxSteps := 4000000 }) (disch := (omega)) only [go_sem, Nat.reduceLT, Nat.reduceEqDiff, reduceIte, Nat.reduceAdd, Nat.reduceSub, Nat.reduceLeDiff, Int.reduceEq, Int.reduceLT, Int.reduceLE, Int.reduceNeg, Int.reduceAdd, Int.reduceSub, Int.reduceToNat, Int.reduceMul, Nat.reduceMul])
  by_cases h0 : gdS bs 0 = 0
  · obtain ⟨c1, c2⟩ := gdS_z h0
    have hok := gdS_to h0
    have hlen := (chkB_0 c1).1
    have ho14 : o14 bs 0 = .slE 3 1 bs.length (some bs.length) (iL (afts bs 0)) (I 0) := by rw [o14, if_pos h0]
    (refine JQ.step follows hF hM ?_; simp (config := { maxSteps := 4000000 }) (disch := (omega)) only [go_sem, Nat.reduceLT, Nat.reduceEqDiff, reduceIte, Nat.reduceAdd, Nat.reduceSub, Nat.reduceLeDiff, Int.reduceEq, Int.reduceLT, Int.reduceLE, Int.reduceNeg, Int.reduceAdd, Int.reduceSub, Int.reduceToNat, Int.reduceMul, Nat.reduceMul, F33, f14, ho14])
    (refine JQ.step follows hF hM ?_; simp (config := { maxSteps := 4000000 }) (disch := (omega)) only [go_sem, Nat.reduceLT, Nat.reduceEqDiff, reduceIte, Nat.reduceAdd, Nat.reduceSub, Nat.reduceLeDiff, Int.reduceEq, Int.reduceLT, Int.reduceLE, Int.reduceNeg, Int.reduceAdd, Int.reduceSub, Int.reduceToNat, Int.reduceMul, Nat.reduceMul])
    (refine JQ.step follows hF hM ?_; simp (config := { maxSteps := 4000000 }) (disch := (omega)) only [go_sem, Nat.reduceLT, Nat.reduceEqDiff, reduceIte, Nat.reduceAdd, Nat.reduceSub, Nat.reduceLeDiff, Int.reduceEq, Int.reduceLT, Int.reduceLE, Int.reduceNeg, Int.reduceAdd, Int.reduceSub, Int.reduceToNat, Int.reduceMul, Nat.reduceMul])
    refine JQ.seq ?_
    (refine JQ.step follows hF hM ?_; simp (config := { maxSteps := 4000000 }) (disch := (omega)) only [go_sem, Nat.reduceLT, Nat.reduceEqDiff, reduceIte, Nat.reduceAdd, Nat.reduceSub, Nat.reduceLeDiff, Int.reduceEq, Int.reduceLT, Int.reduceLE, Int.reduceNeg, Int.reduceAdd, Int.reduceSub, Int.reduceToNat, Int.reduceMul, Nat.reduceMul, small_len])
    refine JQ.block ?_
    refine JQ.loop (σ := Sp) (SP bs 257) (fun s => (((((Tr.lf.set (.s bs) (tp 0)).set (slP s.pp s.pr) (tp 6)).set (slM s.ph s.m s.ys) (tp 7)).set (I bs.length) (tp 19)).set (I s.k) (tp 20))) (fun s => svH s.ph s.ys (pH s.pp s.pr .lf)) (fun s => s.nx) (fun s => bs.length - s.k) ⟨0, [], 0, [], 0, 0, 257⟩
      ⟨Nat.zero_le _, rfl, Nat.le_refl _, Nat.le_refl _, Nat.le_refl _, Nat.le_refl _, Nat.le_refl _, fun h => absurd rfl h, fun h => absurd rfl h, fun h => absurd rfl h⟩
      (by ((repeat' (first | exact EnvLe.lf _ | refine EnvLe.set (by decide) ?_ ?_)) <;> first | exact EnvLe.lf _ | (simp (config := { maxSteps := 4000000 }) (disch := (omega)) only [go_sem, Nat.reduceLT, Nat.reduceEqDiff, reduceIte, Nat.reduceAdd, Nat.reduceSub, Nat.reduceLeDiff, Int.reduceEq, Int.reduceLT, Int.reduceLE, Int.reduceNeg, Int.reduceAdd, Int.reduceSub, Int.reduceToNat, Int.reduceMul, Nat.reduceMul, slP, slM, List.length_nil, Int.natCast_add, Int.cast_ofNat_Int]; done) | (simp (config := { maxSteps := 4000000 }) (disch := (omega)) only [go_sem, Nat.reduceLT, Nat.reduceEqDiff, reduceIte, Nat.reduceAdd, Nat.reduceSub, Nat.reduceLeDiff, Int.reduceEq, Int.reduceLT, Int.reduceLE, Int.reduceNeg, Int.reduceAdd, Int.reduceSub, Int.reduceToNat, Int.reduceMul, Nat.reduceMul, slP, slM, List.length_nil, Int.natCast_add, Int.cast_ofNat_Int] <;> first | rfl | (congr 1; omega)))) (HpLe.lf _) rfl ?_
    rintro ⟨k, ys, m, pr, ph, pp, nx⟩ ⟨k1, st, m1, m2, y1, n1, n2, p1, p2, p3⟩
    dsimp only at k1 st m1 m2 y1 n1 n2 p1 p2 p3 ⊢
    unfold q33_l0
    have hpe := prS_even bs k
    have hpl := prS_len c2 k k1
    rw [st] at hpe hpl
    dsimp only at hpe hpl
    have htl : (ys.take m).length = m := by rw [List.length_take]; omega
    have g1 : ∀ h, ys.length ≠ 0 → (svH ph ys h).get (tp ph) = some (blkL 3 (iL ys)) := fun h hl => svH_same hl
    have g2 : pr.length ≠ 0 → (svH ph ys (pH pp pr .lf)).get (tp pp) = some (blkL 59 (iL pr)) := fun hl => by
      by_cases hv : ys.length = 0
      · rw [show svH ph ys (pH pp pr .lf) = pH pp pr .lf from if_pos hv]; exact pH_same hl
      · rw [svH_other (by have := p1 hv; omega) (by have := p2 hl; omega) (fun _ => p3 hv hl)]; exact pH_same hl
    obtain ⟨H, hH⟩ : ∃ H, H = svH ph ys (pH pp pr .lf) := ⟨_, rfl⟩
    have g1' : ys.length ≠ 0 → H.get (tp ph) = some (blkL 3 (iL ys)) := fun hl => by rw [hH]; exact g1 _ hl
    rw [← hH] at g2 ⊢
    have w1 : ∀ z lim n, spLI f65 (.cons (slM ph m ys) (.cons (I z) .nil)) lim H n = (f65 (ys.take m) z).res H n := fun z lim n => with_hd m1 g1'
    by_cases hlt : k < bs.length
    · have hlt' : (k : Int) < bs.length := by omega
      by_cases hc : byt bs k = 99
      · have st' := prS_c st hc
        have hv2 : slM (nx - 1) (m + 1) (ys.take m ++ [(k : Int)]) = .sl (tp (nx - 1)) 0 1 (m + 1) (some (m + 1)) := by rw [slM, if_neg (by simp)]
        have hl2 : (ys.take m ++ [(k : Int)]).length = m + 1 := by rw [List.length_append, htl]; rfl
        have htk1 : (ys.take m ++ [(k : Int)]).take (m + 1) = ys.take m ++ [(k : Int)] := List.take_of_length_le (by omega)
        (refine JQ.run follows hF hM ?_; simp (config := { maxSteps := 4000000 }) (disch := (omega)) only [go_sem, Nat.reduceLT, Nat.reduceEqDiff, reduceIte, Nat.reduceAdd, Nat.reduceSub, Nat.reduceLeDiff, Int.reduceEq, Int.reduceLT, Int.reduceLE, Int.reduceNeg, Int.reduceAdd, Int.reduceSub, Int.reduceToNat, Int.reduceMul, Nat.reduceMul, hlt', nthS_at hlt, hc, F33, w1, f65, htl])
        refine ⟨by omega, ⟨k + 1, ys.take m ++ [(k : Int)], m + 1, pr, nx - 1, pp, nx + 1⟩, ⟨by dsimp only; omega, by dsimp only; rw [st', htk1], by dsimp only; omega, by dsimp only; omega, by dsimp only; omega, by dsimp only; omega, by dsimp only; omega, fun _ => by dsimp only; omega, fun h => by have := p2 h; dsimp only; omega, fun _ h => by have := p2 h; dsimp only; omega⟩, by dsimp only; omega, by dsimp only; ((repeat' (first | exact EnvLe.lf _ | refine EnvLe.set (by decide) ?_ ?_)) <;> first | exact EnvLe.lf _ | (simp (config := { maxSteps := 4000000 }) (disch := (omega)) only [go_sem, Nat.reduceLT, Nat.reduceEqDiff, reduceIte, Nat.reduceAdd, Nat.reduceSub, Nat.reduceLeDiff, Int.reduceEq, Int.reduceLT, Int.reduceLE, Int.reduceNeg, Int.reduceAdd, Int.reduceSub, Int.reduceToNat, Int.reduceMul, Nat.reduceMul, hv2, Int.natCast_add, Int.cast_ofNat_Int]; done) | (simp (config := { maxSteps := 4000000 }) (disch := (omega)) only [go_sem, Nat.reduceLT, Nat.reduceEqDiff, reduceIte, Nat.reduceAdd, Nat.reduceSub, Nat.reduceLeDiff, Int.reduceEq, Int.reduceLT, Int.reduceLE, Int.reduceNeg, Int.reduceAdd, Int.reduceSub, Int.reduceToNat, Int.reduceMul, Nat.reduceMul, hv2, Int.natCast_add, Int.cast_ofNat_Int] <;> first | rfl | (congr 1; omega))), ?_, rfl⟩
        dsimp only
        exact svH_le (fun _ => hget_same _ _ _) (pH_le (fun h => ⟨_, by have := p2 h; rw [put_other (by omega) (by omega) (by omega)]; exact g2 h, BlkLe.refl _⟩) (HpLe.lf _))
      · have hn : byt bs k = 110 := (hok k hlt).resolve_left hc
        have st' := prS_n st hc
        have hm0 : 1 ≤ m := by
          have h1 := c2 (k + 1) hlt
          rw [aft, stp, if_neg hc] at h1
          omega
        have hyl : ys.length ≠ 0 := by omega
        obtain ⟨q1, q2⟩ := p1 hyl
        have hmv : slM ph m ys = .sl (tp ph) 0 1 m (some m) := if_neg hyl
        have hgw := g1' hyl
        have hrd : rdB (some (blkL 3 (iL ys))) 0 m = some (ys.take m) := rdB_take _ _ _ m1
        have hvw : ∀ h n, vwR v67 (some (blkL 3 (iL ys))) (tp ph) 0 m (some m) h n = .ok (.sl (tp ph) 0 1 (m - 1) (some (m - 1))) h n := fun h n => by
          unfold vwR
          rw [hrd]
          exact if_pos ⟨hm0, by omega, Nat.le_refl _⟩
        obtain ⟨a, ha⟩ : ∃ a, a = At (ys.take m) (m - 1) := ⟨_, rfl⟩
        rw [htl, ← ha] at st'
        have h66 : ∀ h n, (f66 (ys.take m)).res h n = .ok (I a) h n := fun h n => by rw [f66, htl, if_pos ⟨hm0, by omega⟩, ha]; rfl
        have ap : ∀ n, apX 59 2 16 (slP pp pr) (.sl (tp (nx - 1)) 0 2 1 (some 1)) 256 (H.put (some (blkL 59 (.cons (I a) (.cons (I k) .nil)))) (tp (nx - 1))) n = newB (apB2 pr a k) (fun p' => .sl p' 0 2 (pr.length / 2 + 1) none) (apK (H.put (some (blkL 59 (.cons (I a) (.cons (I k) .nil)))) (tp (nx - 1))) pp pr) n := fun n => by
          rw [apX_P hpe.1 (by omega) (fun hl => by
            have := p2 hl
            exact ⟨by omega, by omega, by rw [put_other (by omega) (by omega) (by omega)]; exact g2 hl⟩) (hget_same _ _ _)]
        have hdl : (ys.take m).dropLast = ys.take (m - 1) := by rw [List.dropLast_eq_take, htl, List.take_take, Nat.min_eq_left (by omega)]
        have hv3 : slM ph (m - 1) ys = .sl (tp ph) 0 1 (m - 1) (some (m - 1)) := if_neg hyl
        rw [hmv]
        (refine JQ.run follows hF hM ?_; simp (config := { maxSteps := 4000000 }) (disch := (omega)) only [go_sem, Nat.reduceLT, Nat.reduceEqDiff, reduceIte, Nat.reduceAdd, Nat.reduceSub, Nat.reduceLeDiff, Int.reduceEq, Int.reduceLT, Int.reduceLE, Int.reduceNeg, Int.reduceAdd, Int.reduceSub, Int.reduceToNat, Int.reduceMul, Nat.reduceMul, hlt', nthS_at hlt, hn, F33, hgw, hrd, h66, spV_if, hvw, ap, Nat.add_sub_cancel])
        refine ⟨by omega, ⟨k + 1, ys, m - 1, pr ++ [a, (k : Int)], ph, nx, nx + 1 + 1⟩, ⟨by dsimp only; omega, by dsimp only; rw [st', hdl], by dsimp only; omega, by dsimp only; omega, by dsimp only; omega, by dsimp only; omega, by dsimp only; omega, fun _ => by dsimp only; omega, fun _ => by dsimp only; omega, fun _ _ => by dsimp only; omega⟩, by dsimp only; omega, by dsimp only; ((repeat' (first | exact EnvLe.lf _ | refine EnvLe.set (by decide) ?_ ?_)) <;> first | exact EnvLe.lf _ | (simp (config := { maxSteps := 4000000 }) (disch := (omega)) only [go_sem, Nat.reduceLT, Nat.reduceEqDiff, reduceIte, Nat.reduceAdd, Nat.reduceSub, Nat.reduceLeDiff, Int.reduceEq, Int.reduceLT, Int.reduceLE, Int.reduceNeg, Int.reduceAdd, Int.reduceSub, Int.reduceToNat, Int.reduceMul, Nat.reduceMul, hv3, slP_app, Int.natCast_add, Int.cast_ofNat_Int]; done) | (simp (config := { maxSteps := 4000000 }) (disch := (omega)) only [go_sem, Nat.reduceLT, Nat.reduceEqDiff, reduceIte, Nat.reduceAdd, Nat.reduceSub, Nat.reduceLeDiff, Int.reduceEq, Int.reduceLT, Int.reduceLE, Int.reduceNeg, Int.reduceAdd, Int.reduceSub, Int.reduceToNat, Int.reduceMul, Nat.reduceMul, hv3, slP_app, Int.natCast_add, Int.cast_ofNat_Int] <;> first | rfl | (congr 1; omega))), ?_, rfl⟩
        dsimp only
        exact svH_le (fun _ => by
          rw [put_other (by omega) (by omega) (by omega), apK_other (by omega) (fun hl => ⟨by have := p2 hl; omega, fun e => p3 hyl hl e.symm⟩), put_other (by omega) (by omega) (by omega)]; exact hgw) (pH_le (fun _ => ⟨_, hget_same _ _ _, apB2_le (by omega)⟩) (HpLe.lf _))
    · have hk : k = bs.length := by omega
      subst hk
      have hlt' : ¬ ((bs.length : Nat) : Int) < bs.length := by omega
      (refine JQ.run follows hF hM ?_; simp (config := { maxSteps := 4000000 }) (disch := (omega)) only [go_sem, Nat.reduceLT, Nat.reduceEqDiff, reduceIte, Nat.reduceAdd, Nat.reduceSub, Nat.reduceLeDiff, Int.reduceEq, Int.reduceLT, Int.reduceLE, Int.reduceNeg, Int.reduceAdd, Int.reduceSub, Int.reduceToNat, Int.reduceMul, Nat.reduceMul, hlt'])
      refine ⟨by omega, ?_⟩
      by_cases hz : pr.length = 0
      · have ho : o33 bs = .v (tuE 0) := by rw [o33, if_pos h0, st, if_pos hz]
        have hv : slP pp pr = .ns := if_pos hz
        (refine JQ.run follows hF hM ?_; simp (config := { maxSteps := 4000000 }) (disch := (omega)) only [go_sem, Nat.reduceLT, Nat.reduceEqDiff, reduceIte, Nat.reduceAdd, Nat.reduceSub, Nat.reduceLeDiff, Int.reduceEq, Int.reduceLT, Int.reduceLE, Int.reduceNeg, Int.reduceAdd, Int.reduceSub, Int.reduceToNat, Int.reduceMul, Nat.reduceMul, res33, ho, hv, tuE])
        omega
      · have ho : o33 bs = .slE 59 2 (pr.length / 2) none (iL pr) (I 0) := by rw [o33, if_pos h0, st, if_neg hz]
        have hv : slP pp pr = .sl (tp pp) 0 2 (pr.length / 2) none := if_neg hz
        have := p2 hz
        (refine JQ.run follows hF hM ?_; simp (config := { maxSteps := 4000000 }) (disch := (omega)) only [go_sem, Nat.reduceLT, Nat.reduceEqDiff, reduceIte, Nat.reduceAdd, Nat.reduceSub, Nat.reduceLeDiff, Int.reduceEq, Int.reduceLT, Int.reduceLE, Int.reduceNeg, Int.reduceAdd, Int.reduceSub, Int.reduceToNat, Int.reduceMul, Nat.reduceMul, res33, ho, hv])
        exact ⟨by omega, by omega, goodIE (nb := 0) (g2 hz) (by omega) (by omega) (by omega)⟩
  · have ho14 : o14 bs 0 = .v (tuE (gdS bs 0)) := by rw [o14, if_neg h0]
    have ho : o33 bs = .v (tuE (gdS bs 0)) := by rw [o33, if_neg h0]
    (refine JQ.step follows hF hM ?_; simp (config := { maxSteps := 4000000 }) (disch := (omega)) only [go_sem, Nat.reduceLT, Nat.reduceEqDiff, reduceIte, Nat.reduceAdd, Nat.reduceSub, Nat.reduceLeDiff, Int.reduceEq, Int.reduceLT, Int.reduceLE, Int.reduceNeg, Int.reduceAdd, Int.reduceSub, Int.reduceToNat, Int.reduceMul, Nat.reduceMul, F33, f14, ho14, tuE, eq_false h0, ho, res33])
theorem ok33 : SOK Try.prog 33 (spS f33) := spS_ok fun bs lim h n v h' n' hr => by
  unfold f33 at hr
  split at hr
  · rename_i hb
    exact outC Try.func33 n33 b33 k33 r33 (Ins.none h) (by simp [L.length]) (ren_nil_rel rfl) (o33 bs) (o33_ok bs) (run33 bs hb) lim n hr
  · cases hr
end Go.Proofs.Ytkdbgkibifigiaa.Ev
