/- TopAlternates: all positions. -/
import Derived.Test.YtlnplmljgkebdaaDoorTa1
import Derived.Test.YtlnplmljgkebdaaDoorTa2
import Derived.Test.YtlnplmljgkebdaaDoorTa3
import Derived.Test.YtlnplmljgkebdaaDoorTa4
import Derived.Test.YtlnplmljgkebdaaDoorTa5
import Derived.Test.YtlnplmljgkebdaaDoorTa6
import Derived.Test.YtlnplmljgkebdaaDoorTa7
import Derived.Test.YtlnplmljgkebdaaDoorTa8
namespace Go.Proofs.YtlnplmljgkebdaaDoor.Ev
set_option linter.unusedVariables false
set_option linter.unusedSimpArgs false
set_option maxRecDepth 100000
open Go Go.Proofs Go.RowKit
attribute [local go_sem] evC_seq evC_reg evC_cond evC_block evC_skip evC_exit evC_ret evR_cons evR_nil evR_gd guardB_tt guardB_ff guardB_tf guardB_ft guardB_none bindR_ok bindR_okn rgRs_ok seqR_nor seqR_ext seqR_ret condR_true condR_false blockR_nor blockR_ext blockR_ret evX_t evX_c evXL_nil evXL_cons O_mv O_bin O_pick O_eqb O_not O_ext O_call O_conv O_slen O_six O_sbi pv_I pv_i pv_b pv_s pv_ns pv_sl pv_p pv_tu pv_ag bin_lss bin_leq bin_gtr bin_geq bin_eql bin_neq bin8_eql bin8_neq bin_add bin_sub bin_mul get_st get_lf bind_nil bind_cons if_true if_false Got_nor Got_ext Got_ret Kseq Kblk Klp Kend onStr_s onB_b onT_tu onI_I onN_I onK_I eqb_b not_b nthL_0 nthL_1 nthL_2 known_nil known_cons I_known known_b known_s evRVs_nil evRVs_cons evRes_1 evRes_2 evRV_tmp Bool.and_true Bool.true_and Bool.and_self Bool.not_true Bool.not_false decide_true decide_false Int.toNat_natCast true_and and_true big hget_same hget_ne newB_n onP_p onS_sl onS_ns O_fad O_alloc_if O_ixs O_len O_ld O_st O_box boxB_if ldB_if ldB_agif stB_if toL_I toL_i toL_b toL_s toL_sl toL_ns toL_ag allC_nil allC_cons isC_i isC_b isC_s isC_sl isC_ns I_isC Llen_nil Llen_cons Lget_0 Lget_1 Lget_2 Lget_3 blkL_size cell_blkL_if getL_blkL_if getL_setL_if setL_sz evRV_cell' rvB_agif rvB_if evPL_cons bldK_if evPL_nil O_build O_part evBuild_ok okL_some onA_ag partV_1 evPart_eq updS_nil updS_cons upd_0 upd_1 upd_2 upd_3 ge_iff_le if_pos and_self Nat.le_refl known_ag known_sl known_ns known_i ov_at spS_eq spSI_eq spSII_eq spI_eq spII_eq spIII_eq spIIII_eq res_v res_sl res_slE Good I_pur pur_b pur_s pur_i pur_ns pur_ag pur_tu purL_nil purL_cons evDr_eq evDs_nil evDs_cons dsR_ok stepD_eq sdB_n sdB_g sdG_tt sdG_ff sdG_tf sdG_ft sdG_none runD_0 rdR_f rdR_t baseOf_pu baseOf_h baseU_nil baseA_nil baseA_0 baseR_nil baseR_0 baseR_00 appAll_nil appAll_0 restr_nil restr_cons setD_some setD_none evC_draw iL_len iL_get iL_allC iL_pur hp0_0 hp0_c rdL_ns rdL_sl List.length_cons List.length_nil O_mks mkB_if O_bsl bslB_if O_app apX_ns apX_sl apN_some apS_some blkL_el Nat.one_mul Nat.mul_one Nat.zero_add n_I onF_fn O_callv app_nil app_cons spLF_eq spL_eq spLL_eq onL_some onLL_ss onLL_ns onLL_sn onLL_nn rdB_blk Int.cast_ofNat_Int
theorem all4 {f : Nat → Bool} (h : (List.range 4).all f = true) {i : Nat} (hi : i < 4) : f i = true := List.all_eq_true.1 h i (List.mem_range.2 hi)
theorem ta0 (el t : Nat) (ht : t < 16) : tlB el 0 t = true := by
  have e : t = 4 * (t / 4) + t % 4 := by omega
  have h4 : t % 4 < 4 := by omega
  rcases (show t / 4 = 0 ∨ t / 4 = 1 ∨ t / 4 = 2 ∨ t / 4 = 3 by omega) with h | h | h | h <;> rw [e, h]
  · exact all4 (congrFun ta0_0 el) h4
  · exact all4 (congrFun ta0_1 el) h4
  · exact all4 (congrFun ta0_2 el) h4
  · exact all4 (congrFun ta0_3 el) h4
theorem ta1 (el t : Nat) (ht : t < 16) : tlB el 1 t = true := by
  have e : t = 4 * (t / 4) + t % 4 := by omega
  have h4 : t % 4 < 4 := by omega
  rcases (show t / 4 = 0 ∨ t / 4 = 1 ∨ t / 4 = 2 ∨ t / 4 = 3 by omega) with h | h | h | h <;> rw [e, h]
  · exact all4 (congrFun ta1_0 el) h4
  · exact all4 (congrFun ta1_1 el) h4
  · exact all4 (congrFun ta1_2 el) h4
  · exact all4 (congrFun ta1_3 el) h4
theorem ta2 (el t : Nat) (ht : t < 16) : tlB el 2 t = true := by
  have e : t = 4 * (t / 4) + t % 4 := by omega
  have h4 : t % 4 < 4 := by omega
  rcases (show t / 4 = 0 ∨ t / 4 = 1 ∨ t / 4 = 2 ∨ t / 4 = 3 by omega) with h | h | h | h <;> rw [e, h]
  · exact all4 (congrFun ta2_0 el) h4
  · exact all4 (congrFun ta2_1 el) h4
  · exact all4 (congrFun ta2_2 el) h4
  · exact all4 (congrFun ta2_3 el) h4
theorem ta3 (el t : Nat) (ht : t < 16) : tlB el 3 t = true := by
  have e : t = 4 * (t / 4) + t % 4 := by omega
  have h4 : t % 4 < 4 := by omega
  rcases (show t / 4 = 0 ∨ t / 4 = 1 ∨ t / 4 = 2 ∨ t / 4 = 3 by omega) with h | h | h | h <;> rw [e, h]
  · exact all4 (congrFun ta3_0 el) h4
  · exact all4 (congrFun ta3_1 el) h4
  · exact all4 (congrFun ta3_2 el) h4
  · exact all4 (congrFun ta3_3 el) h4
theorem ta4 (el t : Nat) (ht : t < 16) : tlB el 4 t = true := by
  have e : t = 4 * (t / 4) + t % 4 := by omega
  have h4 : t % 4 < 4 := by omega
  rcases (show t / 4 = 0 ∨ t / 4 = 1 ∨ t / 4 = 2 ∨ t / 4 = 3 by omega) with h | h | h | h <;> rw [e, h]
  · exact all4 (congrFun ta4_0 el) h4
  · exact all4 (congrFun ta4_1 el) h4
  · exact all4 (congrFun ta4_2 el) h4
  · exact all4 (congrFun ta4_3 el) h4
theorem ta5 (el t : Nat) (ht : t < 16) : tlB el 5 t = true := by
  have e : t = 4 * (t / 4) + t % 4 := by omega
  have h4 : t % 4 < 4 := by omega
  rcases (show t / 4 = 0 ∨ t / 4 = 1 ∨ t / 4 = 2 ∨ t / 4 = 3 by omega) with h | h | h | h <;> rw [e, h]
  · exact all4 (congrFun ta5_0 el) h4
  · exact all4 (congrFun ta5_1 el) h4
  · exact all4 (congrFun ta5_2 el) h4
  · exact all4 (congrFun ta5_3 el) h4
theorem ta6 (el t : Nat) (ht : t < 16) : tlB el 6 t = true := by
  have e : t = 4 * (t / 4) + t % 4 := by omega
  have h4 : t % 4 < 4 := by omega
  rcases (show t / 4 = 0 ∨ t / 4 = 1 ∨ t / 4 = 2 ∨ t / 4 = 3 by omega) with h | h | h | h <;> rw [e, h]
  · exact all4 (congrFun ta6_0 el) h4
  · exact all4 (congrFun ta6_1 el) h4
  · exact all4 (congrFun ta6_2 el) h4
  · exact all4 (congrFun ta6_3 el) h4
theorem ta7 (el t : Nat) (ht : t < 16) : tlB el 7 t = true := by
  have e : t = 4 * (t / 4) + t % 4 := by omega
  have h4 : t % 4 < 4 := by omega
  rcases (show t / 4 = 0 ∨ t / 4 = 1 ∨ t / 4 = 2 ∨ t / 4 = 3 by omega) with h | h | h | h <;> rw [e, h]
  · exact all4 (congrFun ta7_0 el) h4
  · exact all4 (congrFun ta7_1 el) h4
  · exact all4 (congrFun ta7_2 el) h4
  · exact all4 (congrFun ta7_3 el) h4
theorem ta8 (el t : Nat) (ht : t < 16) : tlB el 8 t = true := by
  have e : t = 4 * (t / 4) + t % 4 := by omega
  have h4 : t % 4 < 4 := by omega
  rcases (show t / 4 = 0 ∨ t / 4 = 1 ∨ t / 4 = 2 ∨ t / 4 = 3 by omega) with h | h | h | h <;> rw [e, h]
  · exact all4 (congrFun ta8_0 el) h4
  · exact all4 (congrFun ta8_1 el) h4
  · exact all4 (congrFun ta8_2 el) h4
  · exact all4 (congrFun ta8_3 el) h4
theorem ta9 (el t : Nat) (ht : t < 16) : tlB el 9 t = true := by
  have e : t = 4 * (t / 4) + t % 4 := by omega
  have h4 : t % 4 < 4 := by omega
  rcases (show t / 4 = 0 ∨ t / 4 = 1 ∨ t / 4 = 2 ∨ t / 4 = 3 by omega) with h | h | h | h <;> rw [e, h]
  · exact all4 (congrFun ta9_0 el) h4
  · exact all4 (congrFun ta9_1 el) h4
  · exact all4 (congrFun ta9_2 el) h4
  · exact all4 (congrFun ta9_3 el) h4
theorem ta10 (el t : Nat) (ht : t < 16) : tlB el 10 t = true := by
  have e : t = 4 * (t / 4) + t % 4 := by omega
  have h4 : t % 4 < 4 := by omega
  rcases (show t / 4 = 0 ∨ t / 4 = 1 ∨ t / 4 = 2 ∨ t / 4 = 3 by omega) with h | h | h | h <;> rw [e, h]
  · exact all4 (congrFun ta10_0 el) h4
  · exact all4 (congrFun ta10_1 el) h4
  · exact all4 (congrFun ta10_2 el) h4
  · exact all4 (congrFun ta10_3 el) h4
theorem ta11 (el t : Nat) (ht : t < 16) : tlB el 11 t = true := by
  have e : t = 4 * (t / 4) + t % 4 := by omega
  have h4 : t % 4 < 4 := by omega
  rcases (show t / 4 = 0 ∨ t / 4 = 1 ∨ t / 4 = 2 ∨ t / 4 = 3 by omega) with h | h | h | h <;> rw [e, h]
  · exact all4 (congrFun ta11_0 el) h4
  · exact all4 (congrFun ta11_1 el) h4
  · exact all4 (congrFun ta11_2 el) h4
  · exact all4 (congrFun ta11_3 el) h4
theorem ta12 (el t : Nat) (ht : t < 16) : tlB el 12 t = true := by
  have e : t = 4 * (t / 4) + t % 4 := by omega
  have h4 : t % 4 < 4 := by omega
  rcases (show t / 4 = 0 ∨ t / 4 = 1 ∨ t / 4 = 2 ∨ t / 4 = 3 by omega) with h | h | h | h <;> rw [e, h]
  · exact all4 (congrFun ta12_0 el) h4
  · exact all4 (congrFun ta12_1 el) h4
  · exact all4 (congrFun ta12_2 el) h4
  · exact all4 (congrFun ta12_3 el) h4
theorem ta13 (el t : Nat) (ht : t < 16) : tlB el 13 t = true := by
  have e : t = 4 * (t / 4) + t % 4 := by omega
  have h4 : t % 4 < 4 := by omega
  rcases (show t / 4 = 0 ∨ t / 4 = 1 ∨ t / 4 = 2 ∨ t / 4 = 3 by omega) with h | h | h | h <;> rw [e, h]
  · exact all4 (congrFun ta13_0 el) h4
  · exact all4 (congrFun ta13_1 el) h4
  · exact all4 (congrFun ta13_2 el) h4
  · exact all4 (congrFun ta13_3 el) h4
theorem ta14 (el t : Nat) (ht : t < 16) : tlB el 14 t = true := by
  have e : t = 4 * (t / 4) + t % 4 := by omega
  have h4 : t % 4 < 4 := by omega
  rcases (show t / 4 = 0 ∨ t / 4 = 1 ∨ t / 4 = 2 ∨ t / 4 = 3 by omega) with h | h | h | h <;> rw [e, h]
  · exact all4 (congrFun ta14_0 el) h4
  · exact all4 (congrFun ta14_1 el) h4
  · exact all4 (congrFun ta14_2 el) h4
  · exact all4 (congrFun ta14_3 el) h4
theorem ta15 (el t : Nat) (ht : t < 16) : tlB el 15 t = true := by
  have e : t = 4 * (t / 4) + t % 4 := by omega
  have h4 : t % 4 < 4 := by omega
  rcases (show t / 4 = 0 ∨ t / 4 = 1 ∨ t / 4 = 2 ∨ t / 4 = 3 by omega) with h | h | h | h <;> rw [e, h]
  · exact all4 (congrFun ta15_0 el) h4
  · exact all4 (congrFun ta15_1 el) h4
  · exact all4 (congrFun ta15_2 el) h4
  · exact all4 (congrFun ta15_3 el) h4
theorem ta_all (el t : Nat) (ht : t < 16) : ∀ r, r < 16 → tlB el r t = true
  | 0, _ => ta0 el t ht
  | 1, _ => ta1 el t ht
  | 2, _ => ta2 el t ht
  | 3, _ => ta3 el t ht
  | 4, _ => ta4 el t ht
  | 5, _ => ta5 el t ht
  | 6, _ => ta6 el t ht
  | 7, _ => ta7 el t ht
  | 8, _ => ta8 el t ht
  | 9, _ => ta9 el t ht
  | 10, _ => ta10 el t ht
  | 11, _ => ta11 el t ht
  | 12, _ => ta12 el t ht
  | 13, _ => ta13 el t ht
  | 14, _ => ta14 el t ht
  | 15, _ => ta15 el t ht
  | _ + 16, h => by omega
theorem pB_all (el t : Nat) (ht : t < 16) : ∀ r, r < 16 → pB el r t = .ok (.tu (.cons (tA (rV (pB el r t))) (.cons (tB (rV (pB el r t))) .nil))) (rH (pB el r t)) (rN (pB el r t))
  | 0, _ => List.map_inj_left.1 (congrFun pB0 el) t (List.mem_range.2 ht)
  | 1, _ => List.map_inj_left.1 (congrFun pB1 el) t (List.mem_range.2 ht)
  | 2, _ => List.map_inj_left.1 (congrFun pB2 el) t (List.mem_range.2 ht)
  | 3, _ => List.map_inj_left.1 (congrFun pB3 el) t (List.mem_range.2 ht)
  | 4, _ => List.map_inj_left.1 (congrFun pB4 el) t (List.mem_range.2 ht)
  | 5, _ => List.map_inj_left.1 (congrFun pB5 el) t (List.mem_range.2 ht)
  | 6, _ => List.map_inj_left.1 (congrFun pB6 el) t (List.mem_range.2 ht)
  | 7, _ => List.map_inj_left.1 (congrFun pB7 el) t (List.mem_range.2 ht)
  | 8, _ => List.map_inj_left.1 (congrFun pB8 el) t (List.mem_range.2 ht)
  | 9, _ => List.map_inj_left.1 (congrFun pB9 el) t (List.mem_range.2 ht)
  | 10, _ => List.map_inj_left.1 (congrFun pB10 el) t (List.mem_range.2 ht)
  | 11, _ => List.map_inj_left.1 (congrFun pB11 el) t (List.mem_range.2 ht)
  | 12, _ => List.map_inj_left.1 (congrFun pB12 el) t (List.mem_range.2 ht)
  | 13, _ => List.map_inj_left.1 (congrFun pB13 el) t (List.mem_range.2 ht)
  | 14, _ => List.map_inj_left.1 (congrFun pB14 el) t (List.mem_range.2 ht)
  | 15, _ => List.map_inj_left.1 (congrFun pB15 el) t (List.mem_range.2 ht)
  | _ + 16, h => by omega
noncomputable def knB (el r t : Nat) : Bool := and (tA (rV (pA el r))).known (and (tB (rV (pA el r))).known (and (tA (rV (pB el r t))).known (and (tB (rV (pB el r t))).known (and (Nat.blt (rN (pA el r)) 1000000) (Nat.blt (rN (pB el r t)) 1000000)))))
theorem kn : (fun el => (List.range 16).all fun r => (List.range 16).all fun t => knB el r t) = fun _ => true := by kernel_rfl
theorem pv_kn {v : V} (hv : v.known = true) (h : Hp) (n : Nat) : pv v h n = .ok v h n := by
  cases v <;> first | rfl | cases hv
theorem onK_i {β : Type} (k : IntKind) (z : Int) (f : IntKind → Int → β) (s : β) : onK (.i k z) f s = f k z := rfl
theorem mkI_64 (z : Int) : mkI .i64 z = I z := rfl
/-! A law's walk out of its own run, where the world holds tables. -/
theorem lawT {P : Program} {dr : List Nat} {F : FF} {q : IC} {f : Nat} {fn : Func} {c : Code} {res : List RV} {args : L} (tabs : List (Nat × TypeId × L)) (hfn : P.funcs[f]? = some fn) (hb : fn.body = some c) (hq : compC P dr fn.ntmps c = some q) (hres : compRVs P fn.results.toList = some res)
    (hal : args.length < 4294967296) (j : JQ P dr fn.ntmps F q (gK + 1) (Kend res fun v _ _ => v = .b true) (bind args 0 .lf) (tabH tabs) (gK + 1)) {vs : List Value} (ha : ∀ g, args.rel g vs) (w : World) (hw : Holds w tabs) : Calls P f ⟨vs⟩ w fun e w' => e = .returned (.bool true) ∧ Below w.heap.size w w' := by
  have num : ∀ k, k < gK → (tp k).num = k + 1 := fun k hk => num_posF 63 (k + 1) (by omega) (by unfold gK at hk; omega)
  have hg : ∀ k, k < gK → g0 (tabT tabs) (tp k) = some (k, 0, tabT tabs k) := fun k hk => by
    unfold g0; rw [num k hk, if_pos (by omega)]; simp
  have m : Mem (g0 (tabT tabs)) (tabH tabs).get w := by
    refine ⟨fun p q bp bq r b1 t1 b2 t2 hp hq e1 e2 => ?_, fun p b hp => ?_⟩
    · obtain ⟨k, z, h1, rfl, _⟩ := tabH_get tabs hw p bp hp
      obtain ⟨k', z', h1', rfl, _⟩ := tabH_get tabs hw q bq hq
      rw [hg k h1] at e1
      rw [hg k' h1'] at e2
      cases e1; cases e2; rfl
    · obtain ⟨k, z, h1, rfl, h3, h4, h5, h6, vs, h7, h8⟩ := tabH_get tabs hw p b hp
      have hlen : vs.length = z.length := L.rel_length (h8 (fun _ => none))
      have hbs : b.size = z.length := by rw [h3]
      refine ⟨k, 0, tabT tabs k, ⟨vs⟩, hg k h1, .inl ⟨RowIs.of h7, Nat.zero_le _⟩, by rw [h4]; simpa using hlen, .inr (by rw [h4, hbs]; simp), by rw [hbs]; exact h6, fun j hj => ?_⟩
      obtain ⟨u, c1, c2, c3⟩ := cell_list (h8 (g0 (tabT tabs))) h5 b.el j (by rw [← hbs]; exact hj)
      refine ⟨u, by simpa using c1, c2, ?_⟩
      rw [h3]; exact c3
  have hd : Dom (tabH tabs).get (gK + 1) := fun p b hp => by
    obtain ⟨k, z, h1, rfl, _⟩ := tabH_get tabs hw p b hp
    rw [num k h1]; omega
  refine (JQ.fn hfn hb hq hres hal j (g := g0 (tabT tabs)) (w := w) (ha _) (g0_ok _) m hd (fun p h => by unfold g0; rw [if_neg (by omega)])).mono ?_
  rintro e w' ⟨u, g', v, h', n', rfl, rfl, _, hv, _, fr⟩
  have hu : u = .bool true := by simpa [V.rel] using hv
  refine ⟨by rw [hu], fr.os, fr.tape, fr.output, fr.size, fun k hk => fr.keep k hk fun p b base tot hp hl => ?_⟩
  obtain ⟨k', z, h1, rfl, _⟩ := tabH_get tabs hw p b hp
  rw [num k' h1] at hl; omega
set_option maxHeartbeats 8000000 in
theorem alt_run (el : Nat) (a b : Int) (ha0 : 0 ≤ a) (ha : a ≤ 255) (hb0 : 0 ≤ b) (hb : b ≤ 255) : JQ Tryd.prog [3, 7, 10, 11, 12, 14, 15, 16, 17, 19, 20, 21, 23, 25, 26, 27, 28, 29, 30, 31, 32, 33, 36, 37, 38, 39, 40, 41, 43, 44, 45, 47] Tryd.f3.ntmps FA q3 (gK + 1) (Kend res3 fun v _ _ => v = .b true) (bind (.cons (.i .u8 a) (.cons (.i .u8 b) .nil)) 0 .lf) (tbH el) (gK + 1) := by
  have hF := FA_ok
  have hM := FA_mono
  obtain ⟨r, hr⟩ : ∃ r : Nat, (r : Int) = a % 16 := ⟨(a % 16).toNat, by omega⟩
  obtain ⟨t, ht⟩ : ∃ t : Nat, (t : Int) = b % 16 := ⟨(b % 16).toNat, by omega⟩
  have hr16 : r < 16 := by omega
  have ht16 : t < 16 := by omega
  have hk := List.all_eq_true.1 (List.all_eq_true.1 (congrFun kn el) r (List.mem_range.2 hr16)) t (List.mem_range.2 ht16)
  unfold knB at hk
  simp only [Bool.and_eq_true, Nat.blt_eq] at hk
  obtain ⟨k1, k2, k3, k4, k5, k6⟩ := hk
  have e1 : FA 4 (.cons (I 4) (.cons (I (r : Int)) .nil)) (gK + 1) (tbH el) (gK + 1) = .ok (.tu (.cons (tA (rV (pA el r))) (.cons (tB (rV (pA el r))) .nil))) (rH (pA el r)) (rN (pA el r)) := List.map_inj_left.1 (congrFun pA_ok el) r (List.mem_range.2 hr16)
  have e2 : FA 4 (.cons (I 4) (.cons (I (t : Int)) .nil)) (gK + 1) (rH (pA el r)) (rN (pA el r)) = .ok (.tu (.cons (tA (rV (pB el r t))) (.cons (tB (rV (pB el r t))) .nil))) (rH (pB el r t)) (rN (pB el r t)) := pB_all el t ht16 r hr16
  have p1 := pv_kn k1
  have p2 := pv_kn k2
  have p3 := pv_kn k3
  have p4 := pv_kn k4
  have hwa : IntKind.i64.wrap a = a := wrap64 (by omega) (by omega)
  have hwb : IntKind.i64.wrap b = b := wrap64 (by omega) (by omega)
  unfold q3
  (refine JQ.step follows hF hM ?_; simp (config := { maxSteps := 4000000 }) (disch := (omega)) only [go_sem, Nat.reduceLT, Nat.reduceEqDiff, reduceIte, Nat.reduceAdd, Nat.reduceSub, Nat.reduceLeDiff, Int.reduceEq, Int.reduceLT, Int.reduceLE, Int.reduceNeg, Int.reduceAdd, Int.reduceSub, Int.reduceToNat, Int.reduceMul, Nat.reduceMul])
  try (refine ⟨by unfold gK; omega, ?_⟩)
  (refine JQ.step follows hF hM ?_; simp (config := { maxSteps := 4000000 }) (disch := (omega)) only [go_sem, Nat.reduceLT, Nat.reduceEqDiff, reduceIte, Nat.reduceAdd, Nat.reduceSub, Nat.reduceLeDiff, Int.reduceEq, Int.reduceLT, Int.reduceLE, Int.reduceNeg, Int.reduceAdd, Int.reduceSub, Int.reduceToNat, Int.reduceMul, Nat.reduceMul, onK_i, mkI_64, hwa, bin_rem, ← hr, e1, p1, p2])
  try (refine ⟨by omega, ?_⟩)
  (refine JQ.step follows hF hM ?_; simp (config := { maxSteps := 4000000 }) (disch := (omega)) only [go_sem, Nat.reduceLT, Nat.reduceEqDiff, reduceIte, Nat.reduceAdd, Nat.reduceSub, Nat.reduceLeDiff, Int.reduceEq, Int.reduceLT, Int.reduceLE, Int.reduceNeg, Int.reduceAdd, Int.reduceSub, Int.reduceToNat, Int.reduceMul, Nat.reduceMul, onK_i, mkI_64, hwb, bin_rem, ← ht, e2, p3, p4])
  try (refine ⟨by omega, ?_⟩)
  refine JQ.weak (e0 := eK el r t) (by unfold eK; ((repeat' (first | exact EnvLe.lf _ | refine EnvLe.set (by decide) ?_ ?_)) <;> first | exact EnvLe.lf _ | (simp (config := { maxSteps := 4000000 }) (disch := (omega)) only [go_sem, Nat.reduceLT, Nat.reduceEqDiff, reduceIte, Nat.reduceAdd, Nat.reduceSub, Nat.reduceLeDiff, Int.reduceEq, Int.reduceLT, Int.reduceLE, Int.reduceNeg, Int.reduceAdd, Int.reduceSub, Int.reduceToNat, Int.reduceMul, Nat.reduceMul, Int.natCast_add, Int.cast_ofNat_Int]; done) | (simp (config := { maxSteps := 4000000 }) (disch := (omega)) only [go_sem, Nat.reduceLT, Nat.reduceEqDiff, reduceIte, Nat.reduceAdd, Nat.reduceSub, Nat.reduceLeDiff, Int.reduceEq, Int.reduceLT, Int.reduceLE, Int.reduceNeg, Int.reduceAdd, Int.reduceSub, Int.reduceToNat, Int.reduceMul, Nat.reduceMul, Int.natCast_add, Int.cast_ofNat_Int] <;> first | rfl | (congr 1; omega)))) (HpLe.refl _) ?_
  exact JQ.run follows hF hM (got_fin (ta_all el t ht16 r hr16))
theorem alt_walk (a b : Int) (ha0 : 0 ≤ a) (ha : a ≤ 255) (hb0 : 0 ≤ b) (hb : b ≤ 255) (w : World) (el : TypeId) (hw : Holds w [(1, el, kL .u8 zs64)]) : Calls Tryd.prog 3 #[.int .u8 a, .int .u8 b] w fun e w' => e = .returned (.bool true) ∧ Below w.heap.size w w' :=
  lawT [(1, el, kL .u8 zs64)] Tryd.func3 b3 k3 r3 (args := .cons (.i .u8 a) (.cons (.i .u8 b) .nil)) (by simp [L.length]) (alt_run el a b ha0 ha hb0 hb) (vs := [.int .u8 a, .int .u8 b]) (fun _ => ⟨_, _, rfl, rfl, _, _, rfl, rfl, rfl⟩) w hw
end Go.Proofs.YtlnplmljgkebdaaDoor.Ev
