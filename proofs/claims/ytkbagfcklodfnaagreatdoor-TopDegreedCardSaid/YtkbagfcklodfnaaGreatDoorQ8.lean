/- The texts EvBr, EvSs, TeA, TeB, TeC, TeS, TeE, TeF, TeG, EvPc, EvPd, EvPe, EvPf, EvPl, TeH, TeK, TeA3, TeD. -/
import Derived.Test.YtkbagfcklodfnaaGreatDoorQ6
import Derived.Test.YtkbagfcklodfnaaGreatDoorQ7
import Derived.Test.YtkbagfcklodfnaaGreatDoorProg
import Derived.WalkKit
import Derived.Lib.Builder
import Derived.Lib.FrozenHead
import Derived.Lib.OthersKept
import Derived.Laws.Externs
import Derived.Below
import Derived.KernelRfl
import Derived.Lib.FrozenHead2
import Derived.Lib.AppendStr
import Derived.ChangeOld
import Derived.Shelf.Strings.BuilderK
import Derived.BigCall
import Derived.Shelf.Strings.Runes
/- Between the evaluator and the plain calculus: a call that holds in any world is a contract, and a run is a call that holds in any world. -/
namespace Go.Proofs.YtkbagfcklodfnaaGreatDoor.Ev
set_option linter.unusedVariables false
open Go Go.Proofs Go.RowKit
/-- What a call does in any world, without touching what was there: a contract. -/
theorem callsB {P : Program} {f : Nat} {fn : Func} {c : Code} (hfn : P.funcs[f]? = some fn) (hnm : (fn.name == "runtime.NumGoroutine") = false) (hb : fn.body = some c) {args : L} {v : V} (hpv : v.pur = true)
    (hc : ∀ (vs : List Value) (g : Sig) (w : World), args.rel g vs → Calls P f ⟨vs⟩ w fun e w' => ∃ u, e = .returned u ∧ v.rel g u ∧ Below w.heap.size w w') (lim : Nat) (h : Hp) (n : Nat) : CallsOK P f args lim h n v h n := by
  intro vs g w ha hgk m hd hf hn
  refine ⟨⟨fn, hfn, hnm, by rw [hb]; rfl⟩, ?_⟩
  refine (hc vs g w ha).mono ?_
  rintro e w' ⟨u, rfl, hv, b⟩
  have keep : ∀ r, r < w.heap.size → w'.heap[r]? = w.heap[r]? := b.block
  refine ⟨u, g, rfl, hv, ⟨m.inj, fun p b hp => ?_⟩, ?_⟩
  · obtain ⟨r, base, tot, cur, c1, c2, c3, c4, c5, c6⟩ := m.blk p b hp
    exact ⟨r, base, tot, cur, c1, c2.keep (keep r (m.lt hp c1)), c3, c4, c5, c6⟩
  · exact { le := Nat.le_refl _, os := b.os, tape := b.tape, output := b.output, size := b.size, keep := fun r hr _ => keep r hr, sig := fun _ _ => rfl,
            dom := fun p b e => ⟨fun _ => ⟨b, e⟩, hd p b e⟩, new := fun _ _ _ _ a b => by omega }
/-- A function's own run, told as a call in any world. -/
theorem callV {P : Program} {dr : List Nat} {F : FF} {q : IC} {f : Nat} {fn : Func} {c : Code} {res : List RV} {args : L} {x : V} (hfn : P.funcs[f]? = some fn) (hnm : (fn.name == "runtime.NumGoroutine") = false) (hb : fn.body = some c) (hq : compC P dr fn.ntmps c = some q) (hres : compRVs P fn.results.toList = some res)
    (hal : args.length < 4294967296) (hp : args.pur = true) (hx : x.pur = true) (j : JQ P dr fn.ntmps F q 256 (Kend res (Good 0 (.v x))) (bind args 0 .lf) .lf 256) {vs : List Value} (ha : ∀ g, args.rel g vs) (w : World) : Calls P f ⟨vs⟩ w fun e w' => ∃ u, e = .returned u ∧ (∀ g, x.rel g u) ∧ Below w.heap.size w w' := by
  have h0 : ∀ p, (Hp.get p .lf) = none := Hp.get_lf
  have hc := outC hfn hnm hb hq hres (Ins.none .lf) hal (ren_nil_rel hp) (.v x) hx j 256 256 (v := x) (h' := .lf) (n' := 256) rfl
  refine (hc vs (g0 fun _ => 0) w (ha _) (g0_ok _) ⟨fun p q bp bq _ _ _ _ _ hp => (nomatch (h0 _).symm.trans hp), fun p b hp => (nomatch (h0 _).symm.trans hp)⟩ (fun p b hp => (nomatch (h0 _).symm.trans hp)) (g0_fresh _ _) (by decide)).2.mono ?_
  rintro e w' ⟨u, g', rfl, hv, _, hfr⟩
  exact ⟨u, rfl, fun g => V.pur_rel hx hv, hfr.os, hfr.tape, hfr.output, hfr.size, fun k hk => hfr.keep k hk fun p b base tot hp => (nomatch (h0 _).symm.trans hp)⟩
end Go.Proofs.YtkbagfcklodfnaaGreatDoor.Ev
/- Strings' parts, and contracts of two strings. -/
namespace Go.Proofs.YtkbagfcklodfnaaGreatDoor.Ev
set_option linter.unusedVariables false
open Go Go.Proofs
theorem O_ssl_a (x i : X) (F : FF) (e : Tr) (lim : Nat) (h : Hp) (n : Nat) : (O.ssl x (some i) none).ev F e lim h n = pv (onStr (evX x e) (fun l => onI (evX i e) (fun a => if a ≤ l.length then .s (l.drop a) else .bad) .bad) .bad) h n := by
  show pv (onStr (evX x e) (fun l => fN l.length fun len => onOI (some i) e 0 fun a => onOI none e len fun b => Bool.rec .bad (.s ((l.drop a).take (b - a))) (and (Nat.ble a b) (Nat.ble b len))) .bad) h n = _
  congr 2
  funext l
  rw [fN_eq]
  show onI (evX i e) _ V.bad = _
  congr 1
  funext a
  show (Bool.rec .bad (.s ((l.drop a).take (l.length - a))) (and (Nat.ble a l.length) (Nat.ble l.length l.length)) : V) = _
  rw [show Nat.ble l.length l.length = true from Nat.ble_eq.mpr (Nat.le_refl _), Bool.and_true]
  by_cases ha : a ≤ l.length
  · rw [if_pos ha, show Nat.ble a l.length = true from Nat.ble_eq.mpr ha]
    show V.s ((l.drop a).take (l.length - a)) = _
    rw [List.take_of_length_le (by simp)]
  · rw [if_neg ha, show Nat.ble a l.length = false from Bool.eq_false_iff.mpr fun hx => ha (Nat.ble_eq.mp hx)]
theorem O_ssl_b (x i : X) (F : FF) (e : Tr) (lim : Nat) (h : Hp) (n : Nat) : (O.ssl x none (some i)).ev F e lim h n = pv (onStr (evX x e) (fun l => onI (evX i e) (fun b => if b ≤ l.length then .s (l.take b) else .bad) .bad) .bad) h n := by
  show pv (onStr (evX x e) (fun l => fN l.length fun len => onOI none e 0 fun a => onOI (some i) e len fun b => Bool.rec .bad (.s ((l.drop a).take (b - a))) (and (Nat.ble a b) (Nat.ble b len))) .bad) h n = _
  congr 2
  funext l
  rw [fN_eq]
  show onI (evX i e) _ V.bad = _
  congr 1
  funext a
  show (Bool.rec .bad (.s ((l.drop 0).take (a - 0))) (and (Nat.ble 0 a) (Nat.ble a l.length)) : V) = _
  rw [show Nat.ble 0 a = true from Nat.ble_eq.mpr (Nat.zero_le _), Bool.true_and]
  by_cases ha : a ≤ l.length
  · rw [if_pos ha, show Nat.ble a l.length = true from Nat.ble_eq.mpr ha]; rfl
  · rw [if_neg ha, show Nat.ble a l.length = false from Bool.eq_false_iff.mpr fun hx => ha (Nat.ble_eq.mp hx)]
theorem strV_add (l m : List Nat) : strV .add l m = if l.length + m.length ≤ 9223372036854775807 then .s (l ++ m) else .bad := by
  show (Bool.rec .bad (.s (l ++ m)) (Nat.ble (Nat.add l.length m.length) 9223372036854775807) : V) = _
  by_cases ha : l.length + m.length ≤ 9223372036854775807
  · rw [if_pos ha, show Nat.ble (Nat.add l.length m.length) 9223372036854775807 = true from Nat.ble_eq.mpr ha]
  · rw [if_neg ha, show Nat.ble (Nat.add l.length m.length) 9223372036854775807 = false from Bool.eq_false_iff.mpr fun hx => ha (Nat.ble_eq.mp hx)]
theorem strV_eql (l m : List Nat) : strV .eql l m = .b (eqS l m) := fB_eq _
noncomputable def spSS (f : List Nat → List Nat → Out) (args : L) (_ : Nat) (h : Hp) (n : Nat) : Res := match args with | .cons (.s a) (.cons (.s b) .nil) => (f a b).res h n | _ => .no
theorem spSS_eq (f : List Nat → List Nat → Out) (a b : List Nat) (lim : Nat) (h : Hp) (n : Nat) : spSS f (.cons (.s a) (.cons (.s b) .nil)) lim h n = (f a b).res h n := rfl
theorem spSS_mo (f : List Nat → List Nat → Out) : SMo (spSS f) := fun args lim h n => by unfold spSS; split <;> first | exact Out.res_ge _ _ _ | trivial
theorem spSS_ok {P : Program} {k : Nat} {f : List Nat → List Nat → Out} (hc : ∀ a b lim h n v h' n', (f a b).res h n = .ok v h' n' → CallsOK P k (.cons (.s a) (.cons (.s b) .nil)) lim h n v h' n') : SOK P k (spSS f) := fun args lim h n v h' n' hr => by
  unfold spSS at hr
  split at hr
  · exact hc _ _ _ _ _ _ _ _ hr
  · cases hr
end Go.Proofs.YtkbagfcklodfnaaGreatDoor.Ev
/- The smallest repeat with which a word ends: strings.HasSuffix and repeatAtEnd, as contracts. -/
namespace Go.Proofs.YtkbagfcklodfnaaGreatDoor.Ev
set_option linter.unusedVariables false
set_option linter.unusedSimpArgs false
set_option maxRecDepth 100000
open Go Go.Proofs
attribute [local go_sem] evC_seq evC_reg evC_cond evC_block evC_skip evC_exit evC_ret evR_cons evR_nil evR_gd guardB_tt guardB_ff guardB_tf guardB_ft guardB_none bindR_ok bindR_okn rgRs_ok seqR_nor seqR_ext seqR_ret condR_true condR_false blockR_nor blockR_ext blockR_ret evX_t evX_c evXL_nil evXL_cons O_mv O_bin O_pick O_eqb O_not O_ext O_call O_conv O_slen O_six O_sbi pv_I pv_i pv_b pv_s pv_ns pv_sl pv_p pv_tu pv_ag bin_lss bin_leq bin_gtr bin_geq bin_eql bin_neq bin8_eql bin8_neq bin_add bin_sub bin_mul get_st get_lf bind_nil bind_cons if_true if_false Got_nor Got_ext Got_ret Kseq Kblk Klp Kend onStr_s onB_b onT_tu onI_I onN_I onK_I eqb_b not_b nthL_0 nthL_1 nthL_2 known_nil known_cons I_known known_b known_s evRVs_nil evRVs_cons evRes_1 evRes_2 evRV_tmp Bool.and_true Bool.true_and Bool.and_self Bool.not_true Bool.not_false decide_true decide_false Int.toNat_natCast true_and and_true big hget_same hget_ne newB_n onP_p onS_sl onS_ns O_fad O_alloc_if O_ixs O_len O_ld O_st O_box boxB_if ldB_if ldB_agif stB_if stB_wif toL_I toL_i toL_b toL_s toL_sl toL_ns toL_ag allC_nil allC_cons isC_i isC_b isC_s isC_sl isC_ns I_isC Llen_nil Llen_cons Lget_0 Lget_1 Lget_2 Lget_3 blkL_size cell_blkL_if getL_blkL_if getL_setL_if setL_sz evRV_cell' rvB_agif rvB_if evPL_cons bldK_if evPL_nil O_build O_part evBuild_ok okL_some onA_ag partV_1 evPart_eq updS_nil updS_cons upd_0 upd_1 upd_2 upd_3 ge_iff_le if_pos and_self Nat.le_refl known_ag known_sl known_ns known_i ov_at spS_eq spSI_eq spSII_eq spI_eq spII_eq spIII_eq spIIII_eq res_v res_sl res_slE Good I_pur pur_b pur_s pur_i pur_ns pur_ag pur_tu purL_nil purL_cons evDr_eq evDs_nil evDs_cons dsR_ok stepD_eq sdB_n sdB_g sdG_tt sdG_ff sdG_tf sdG_ft sdG_none runD_0 rdR_f rdR_t baseOf_pu baseOf_h baseU_nil baseA_nil baseA_0 baseR_nil baseR_0 baseR_00 appAll_nil appAll_0 restr_nil restr_cons setD_some setD_none evC_draw iL_len iL_get iL_allC iL_pur hp0_0 hp0_c rdL_ns rdL_sl List.length_cons List.length_nil O_mks mkB_if O_bsl bslB_if O_app apX_ns apX_sl apN_some apS_some blkL_el Nat.one_mul Nat.mul_one Nat.zero_add n_I onF_fn O_callv app_nil app_cons spLF_eq spL_eq spLL_eq onL_some onLL_ss onLL_ns onLL_sn onLL_nn rdB_blk Int.cast_ofNat_Int tlX_none tlX_some tlOf_cons tlOf_1 tlOf_1t tlM_none tlM_some
noncomputable def q95 : IC := (.seq (.reg (.cons (some (tp 4)) none (.mv (.c (.b false))) .nil)) (.seq (.reg (.cons (some (tp 5)) none (.mv (.t (tp 0))) (.cons (some (tp 6)) none (.slen (.t (tp 5))) (.cons 
  (some (tp 7)) none (.mv (.t (tp 1))) (.cons (some (tp 8)) none (.slen (.t (tp 7))) (.cons (some (tp 9)) none (.bin .geq (.t (tp 6)) (.t (tp 8))) (.cons (some (tp 10)) none (.mv 
  (.t (tp 9))) (.cons (some (tp 11)) (some (.mk (tp 10) true)) (.mv (.t (tp 0))) (.cons (some (tp 12)) (some (.mk (tp 10) true)) (.mv (.t (tp 0))) (.cons (some (tp 13)) (some (.mk 
  (tp 10) true)) (.slen (.t (tp 12))) (.cons (some (tp 14)) (some (.mk (tp 10) true)) (.mv (.t (tp 1))) (.cons (some (tp 15)) (some (.mk (tp 10) true)) (.slen (.t (tp 14))) (.cons 
  (some (tp 16)) (some (.mk (tp 10) true)) (.bin .sub (.t (tp 13)) (.t (tp 15))) (.cons (some (tp 17)) (some (.mk (tp 10) true)) (.ssl (.t (tp 11)) (some (.t (tp 16))) none) (.cons 
  (some (tp 18)) (some (.mk (tp 10) true)) (.mv (.t (tp 1))) (.cons (some (tp 19)) (some (.mk (tp 10) true)) (.sbi .eql (.t (tp 17)) (.t (tp 18))) (.cons (some (tp 20)) none (.pick 
  (.t (tp 10)) (.t (tp 19)) (.c (.b false))) (.cons (some (tp 4)) none (.mv (.t (tp 20))) .nil)))))))))))))))))) .ret))
noncomputable def res95 : List RV := [(.tmp (tp 4))]
noncomputable def c95c : Code := match Tryz.f95.body with | some c => c | none => .skip
theorem b95 : Tryz.f95.body = some c95c := by kernel_rfl
theorem k95 : compC Tryz.prog drops Tryz.f95.ntmps c95c = some q95 := by kernel_rfl
theorem r95 : compRVs Tryz.prog Tryz.f95.results.toList = some res95 := by kernel_rfl
theorem n95 : (Tryz.f95.name == "runtime.NumGoroutine") = false := by kernel_rfl
noncomputable def q86 : IC := (.seq (.reg (.cons (some (tp 4)) none (.mv (.c (.b false))) .nil)) (.seq (.reg (.cons (some (tp 5)) none (.mv (.t (tp 0))) (.cons (some (tp 6)) none (.mv (.t (tp 1))) (.cons (some 
  (tp 7)) none (.call 95 (.cons (.t (tp 5)) (.cons (.t (tp 6)) .nil))) (.cons (some (tp 4)) none (.mv (.t (tp 7))) .nil))))) .ret))
noncomputable def res86 : List RV := [(.tmp (tp 4))]
noncomputable def c86c : Code := match Tryz.f86.body with | some c => c | none => .skip
theorem b86 : Tryz.f86.body = some c86c := by kernel_rfl
theorem k86 : compC Tryz.prog drops Tryz.f86.ntmps c86c = some q86 := by kernel_rfl
theorem r86 : compRVs Tryz.prog Tryz.f86.results.toList = some res86 := by kernel_rfl
theorem n86 : (Tryz.f86.name == "runtime.NumGoroutine") = false := by kernel_rfl
noncomputable def q72_l0 : IC := (.seq (.seq (.reg (.cons (some (tp 5)) none (.mv (.t (tp 3))) (.cons (some (tp 6)) none (.bin .mul (.c (I 2)) (.t (tp 5))) (.cons (some (tp 7)) none (.mv (.t (tp 0))) (.cons (some 
  (tp 8)) none (.slen (.t (tp 7))) (.cons (some (tp 9)) none (.bin .leq (.t (tp 6)) (.t (tp 8))) .nil)))))) (.cond (.t (tp 9)) .skip (.exit 0))) (.seq (.block 1 (.seq (.reg (.cons 
  (some (tp 12)) none (.mv (.t (tp 0))) (.cons (some (tp 13)) none (.slen (.t (tp 12))) (.cons (some (tp 14)) none (.mv (.t (tp 3))) (.cons (some (tp 15)) none (.bin .sub (.t (tp 
  13)) (.t (tp 14))) (.cons (some (tp 4)) none (.mv (.t (tp 15))) .nil)))))) (.seq (.draw [(.mk (some (tp 16)) none true [] false [] [] [(tp 0)] (.mv (.t (tp 0))) false [] [] []), 
  (.mk (some (tp 17)) none true [] false [false] [] [(tp 4)] (.mv (.t (tp 4))) false [] [] []), (.mk (some (tp 18)) none false [] false [true, true] [] [(tp 16), (tp 17)] (.ssl (.t 
  (tp 16)) none (some (.t (tp 17)))) false [] [] []), (.mk (some (tp 19)) none true [] false [false, false, false] [] [(tp 0)] (.mv (.t (tp 0))) false [] [] []), (.mk (some (tp 
  20)) none true [] false [false, false, false, false] [] [(tp 4)] (.mv (.t (tp 4))) false [] [] []), (.mk (some (tp 21)) none false [] false [true, true, false, false, false] [] 
  [(tp 19), (tp 20)] (.ssl (.t (tp 19)) (some (.t (tp 20))) none) false [] [] []), (.mk (some (tp 22)) none false [] false [true, true, true, true, true, true] [] [(tp 18), (tp 
  21)] (.call 86 (.cons (.t (tp 18)) (.cons (.t (tp 21)) .nil))) false [] [] [])]) (.cond (.t (tp 22)) (.seq (.reg (.cons (some (tp 23)) none (.mv (.t (tp 3))) (.cons (some (tp 2)) 
  none (.mv (.t (tp 23))) .nil))) .ret) .skip)))) (.reg (.cons (some (tp 10)) none (.mv (.t (tp 3))) (.cons (some (tp 11)) none (.bin .add (.t (tp 10)) (.c (I 1))) (.cons (some (tp 
  3)) none (.mv (.t (tp 11))) .nil))))))
noncomputable def q72 : IC := (.seq (.reg (.cons (some (tp 2)) none (.mv (.c (I 0))) .nil)) (.seq (.seq (.reg (.cons (some (tp 3)) none (.mv (.c (I 1))) .nil)) (.block 0 (IC.loop q72_l0))) (.seq (.reg (.cons 
  (some (tp 2)) none (.mv (.c (I 0))) .nil)) .ret)))
noncomputable def res72 : List RV := [(.tmp (tp 2))]
noncomputable def c72c : Code := match Tryz.f72.body with | some c => c | none => .skip
theorem b72 : Tryz.f72.body = some c72c := by kernel_rfl
theorem k72 : compC Tryz.prog drops Tryz.f72.ntmps c72c = some q72 := by kernel_rfl
theorem r72 : compRVs Tryz.prog Tryz.f72.results.toList = some res72 := by kernel_rfl
theorem n72 : (Tryz.f72.name == "runtime.NumGoroutine") = false := by kernel_rfl
noncomputable def hsf (l m : List Nat) : Bool := decide (m.length ≤ l.length) && eqS (l.drop (l.length - m.length)) m
theorem run95 (l m : List Nat) (hl : l.length < 9223372036854775808) (hm : m.length < 9223372036854775808) : JQ Tryz.prog drops Tryz.f95.ntmps F0 q95 256 (Kend res95 (Good 0 (.v (.b (hsf l m))))) (bind (.cons (.s l) (.cons (.s m) .nil)) 0 .lf) .lf 256 := by
  have hF := F0_ok Tryz.prog
  have hM := F0_mono
  unfold q95 hsf
  by_cases h : m.length ≤ l.length
  · have h1 : (m.length : Int) ≤ (l.length : Int) := by omega
    have h2 : (l.length : Int) - (m.length : Int) = ((l.length - m.length : Nat) : Int) := by omega
    (refine JQ.run follows hF hM ?_; simp (config := { maxSteps := 4000000 }) (disch := (omega)) only [go_sem, Nat.reduceLT, Nat.reduceEqDiff, reduceIte, Nat.reduceAdd, Nat.reduceSub, Nat.reduceLeDiff, Int.reduceEq, Int.reduceLT, Int.reduceLE, Int.reduceNeg, Int.reduceAdd, Int.reduceSub, Int.reduceToNat, Int.reduceMul, Nat.reduceMul, small_len, O_ssl_a, strV_eql, h1, h2, res95, h, onI_I])
  · have h1 : ¬ (m.length : Int) ≤ (l.length : Int) := by omega
    (refine JQ.run follows hF hM ?_; simp (config := { maxSteps := 4000000 }) (disch := (omega)) only [go_sem, Nat.reduceLT, Nat.reduceEqDiff, reduceIte, Nat.reduceAdd, Nat.reduceSub, Nat.reduceLeDiff, Int.reduceEq, Int.reduceLT, Int.reduceLE, Int.reduceNeg, Int.reduceAdd, Int.reduceSub, Int.reduceToNat, Int.reduceMul, Nat.reduceMul, small_len, h1, res95, h, Bool.false_and])
noncomputable def o95 (l m : List Nat) : Out := if l.length < 9223372036854775808 ∧ m.length < 9223372036854775808 then .v (.b (hsf l m)) else .no
theorem ok95 : SOK Tryz.prog 95 (spSS o95) := spSS_ok fun l m lim h n v h' n' hr => by
  unfold o95 at hr
  split at hr
  · rename_i hb; exact outC Tryz.func95 n95 b95 k95 r95 (Ins.none h) (by simp [L.length]) (ren_nil_rel rfl) (.v (.b (hsf l m))) rfl (run95 l m hb.1 hb.2) lim n hr
  · cases hr
noncomputable def F95 : FF := ov 95 (spSS o95) F0
theorem F95_ok : FOK Tryz.prog F95 := ov_ok ok95 (F0_ok _)
theorem F95_mono : F95.mono := ov_mono (spSS_mo _) F0_mono
theorem o95_at {l m : List Nat} (hl : l.length < 9223372036854775808) (hm : m.length < 9223372036854775808) : o95 l m = .v (.b (hsf l m)) := if_pos ⟨hl, hm⟩
theorem run86 (l m : List Nat) (hl : l.length < 9223372036854775808) (hm : m.length < 9223372036854775808) : JQ Tryz.prog drops Tryz.f86.ntmps F95 q86 256 (Kend res86 (Good 0 (.v (.b (hsf l m))))) (bind (.cons (.s l) (.cons (.s m) .nil)) 0 .lf) .lf 256 := by
  have hF := F95_ok
  have hM := F95_mono
  unfold q86
  (refine JQ.run follows hF hM ?_; simp (config := { maxSteps := 4000000 }) (disch := (omega)) only [go_sem, Nat.reduceLT, Nat.reduceEqDiff, reduceIte, Nat.reduceAdd, Nat.reduceSub, Nat.reduceLeDiff, Int.reduceEq, Int.reduceLT, Int.reduceLE, Int.reduceNeg, Int.reduceAdd, Int.reduceSub, Int.reduceToNat, Int.reduceMul, Nat.reduceMul, F95, spSS_eq, o95_at hl hm, res86])
theorem ok86 : SOK Tryz.prog 86 (spSS o95) := spSS_ok fun l m lim h n v h' n' hr => by
  unfold o95 at hr
  split at hr
  · rename_i hb; exact outC Tryz.func86 n86 b86 k86 r86 (Ins.none h) (by simp [L.length]) (ren_nil_rel rfl) (.v (.b (hsf l m))) rfl (run86 l m hb.1 hb.2) lim n hr
  · cases hr
noncomputable def F86 : FF := ov 86 (spSS o95) F0
theorem F86_ok : FOK Tryz.prog F86 := ov_ok ok86 (F0_ok _)
theorem F86_mono : F86.mono := ov_mono (spSS_mo _) F0_mono
/-- A word ends with a word of a size twice. -/
noncomputable def dup (w : List Nat) (s : Nat) : Bool := hsf (w.take (w.length - s)) (w.drop (w.length - s))
/-- The smallest such size, or 0. -/
noncomputable def rpt (w : List Nat) : Nat := ((List.range' 1 (w.length / 2)).find? (dup w)).getD 0
theorem rpt_hit {w : List Nat} {k : Nat} (h1 : 1 ≤ k) (h2 : 2 * k ≤ w.length) (h0 : ∀ j, 1 ≤ j → j < k → dup w j = false) (h : dup w k = true) : rpt w = k := by
  unfold rpt
  have : (List.range' 1 (w.length / 2)).find? (dup w) = some k := by
    rw [List.find?_range'_eq_some]
    refine ⟨h, by rw [List.mem_range'_1]; exact ⟨h1, by omega⟩, fun j hj1 hj2 => ?_⟩
    simp [h0 j hj1 hj2]
  rw [this]; rfl
theorem rpt_no {w : List Nat} (h0 : ∀ j, 1 ≤ j → 2 * j ≤ w.length → dup w j = false) : rpt w = 0 := by
  unfold rpt
  have : (List.range' 1 (w.length / 2)).find? (dup w) = none := by
    rw [List.find?_eq_none]
    intro j hj
    rw [List.mem_range'_1] at hj
    simp [h0 j hj.1 (by omega)]
  rw [this]; rfl
theorem run72 (w : List Nat) (hw : w.length < 1000000) : JQ Tryz.prog drops Tryz.f72.ntmps F86 q72 256 (Kend res72 (Good 0 (.v (I (rpt w : Int))))) (bind (.cons (.s w) .nil) 0 .lf) .lf 256 := by
  have hF := F86_ok
  have hM := F86_mono
  unfold q72
  (refine JQ.step follows hF hM ?_; simp (config := { maxSteps := 4000000 }) (disch := (omega)) only [go_sem, Nat.reduceLT, Nat.reduceEqDiff, reduceIte, Nat.reduceAdd, Nat.reduceSub, Nat.reduceLeDiff, Int.reduceEq, Int.reduceLT, Int.reduceLE, Int.reduceNeg, Int.reduceAdd, Int.reduceSub, Int.reduceToNat, Int.reduceMul, Nat.reduceMul])
  refine JQ.seq ?_
  (refine JQ.step follows hF hM ?_; simp (config := { maxSteps := 4000000 }) (disch := (omega)) only [go_sem, Nat.reduceLT, Nat.reduceEqDiff, reduceIte, Nat.reduceAdd, Nat.reduceSub, Nat.reduceLeDiff, Int.reduceEq, Int.reduceLT, Int.reduceLE, Int.reduceNeg, Int.reduceAdd, Int.reduceSub, Int.reduceToNat, Int.reduceMul, Nat.reduceMul])
  refine JQ.block ?_
  refine JQ.loop (σ := Nat) (fun k => 1 ≤ k ∧ k ≤ w.length + 1 ∧ ∀ j, 1 ≤ j → j < k → dup w j = false) (fun k => (Tr.lf.set (.s w) (tp 0)).set (I (k : Int)) (tp 3)) (fun _ => .lf) (fun _ => 256) (fun k => w.length + 2 - k) 1 ⟨Nat.le_refl _, by omega, fun j h1 h2 => by omega⟩ (by ((repeat' (first | exact EnvLe.lf _ | refine EnvLe.set (by decide) ?_ ?_)) <;> first | exact EnvLe.lf _ | (simp (config := { maxSteps := 4000000 }) (disch := (omega)) only [go_sem, Nat.reduceLT, Nat.reduceEqDiff, reduceIte, Nat.reduceAdd, Nat.reduceSub, Nat.reduceLeDiff, Int.reduceEq, Int.reduceLT, Int.reduceLE, Int.reduceNeg, Int.reduceAdd, Int.reduceSub, Int.reduceToNat, Int.reduceMul, Nat.reduceMul, Int.natCast_add, Int.cast_ofNat_Int]; done) | (simp (config := { maxSteps := 4000000 }) (disch := (omega)) only [go_sem, Nat.reduceLT, Nat.reduceEqDiff, reduceIte, Nat.reduceAdd, Nat.reduceSub, Nat.reduceLeDiff, Int.reduceEq, Int.reduceLT, Int.reduceLE, Int.reduceNeg, Int.reduceAdd, Int.reduceSub, Int.reduceToNat, Int.reduceMul, Nat.reduceMul, Int.natCast_add, Int.cast_ofNat_Int] <;> first | rfl | (congr 1; omega)))) (HpLe.refl _) rfl ?_
  rintro k ⟨hk1, hk2, h0⟩
  unfold q72_l0
  by_cases hlt : 2 * k ≤ w.length
  · have hlt' : 2 * (k : Int) ≤ (w.length : Int) := by omega
    have hs : (w.length : Int) - (k : Int) = ((w.length - k : Nat) : Int) := by omega
    have ho := o95_at (l := w.take (w.length - k)) (m := w.drop (w.length - k)) (by simp; omega) (by simp; omega)
    have hd : hsf (w.take (w.length - k)) (w.drop (w.length - k)) = dup w k := rfl
    have hle : w.length - k ≤ w.length := by omega
    cases hdk : dup w k with
    | true =>
      have e := rpt_hit hk1 hlt h0 hdk
      (refine JQ.run follows hF hM ?_; simp (config := { maxSteps := 4000000 }) (disch := (omega)) only [go_sem, Nat.reduceLT, Nat.reduceEqDiff, reduceIte, Nat.reduceAdd, Nat.reduceSub, Nat.reduceLeDiff, Int.reduceEq, Int.reduceLT, Int.reduceLE, Int.reduceNeg, Int.reduceAdd, Int.reduceSub, Int.reduceToNat, Int.reduceMul, Nat.reduceMul, small_len, O_ssl_a, O_ssl_b, hlt', hs, F86, spSS_eq, ho, hd, hdk, res72, e, onI_I, hle])
    | false =>
      (refine JQ.run follows hF hM ?_; simp (config := { maxSteps := 4000000 }) (disch := (omega)) only [go_sem, Nat.reduceLT, Nat.reduceEqDiff, reduceIte, Nat.reduceAdd, Nat.reduceSub, Nat.reduceLeDiff, Int.reduceEq, Int.reduceLT, Int.reduceLE, Int.reduceNeg, Int.reduceAdd, Int.reduceSub, Int.reduceToNat, Int.reduceMul, Nat.reduceMul, small_len, O_ssl_a, O_ssl_b, hlt', hs, F86, spSS_eq, ho, hd, hdk, onI_I, hle])
      refine ⟨k + 1, ⟨by omega, by omega, fun j h1 h2 => ?_⟩, by omega, by ((repeat' (first | exact EnvLe.lf _ | refine EnvLe.set (by decide) ?_ ?_)) <;> first | exact EnvLe.lf _ | (simp (config := { maxSteps := 4000000 }) (disch := (omega)) only [go_sem, Nat.reduceLT, Nat.reduceEqDiff, reduceIte, Nat.reduceAdd, Nat.reduceSub, Nat.reduceLeDiff, Int.reduceEq, Int.reduceLT, Int.reduceLE, Int.reduceNeg, Int.reduceAdd, Int.reduceSub, Int.reduceToNat, Int.reduceMul, Nat.reduceMul, Int.natCast_add, Int.cast_ofNat_Int]; done) | (simp (config := { maxSteps := 4000000 }) (disch := (omega)) only [go_sem, Nat.reduceLT, Nat.reduceEqDiff, reduceIte, Nat.reduceAdd, Nat.reduceSub, Nat.reduceLeDiff, Int.reduceEq, Int.reduceLT, Int.reduceLE, Int.reduceNeg, Int.reduceAdd, Int.reduceSub, Int.reduceToNat, Int.reduceMul, Nat.reduceMul, Int.natCast_add, Int.cast_ofNat_Int] <;> first | rfl | (congr 1; omega))), HpLe.refl _⟩
      rcases Nat.lt_or_ge j k with h | h
      · exact h0 j h1 h
      · obtain rfl : j = k := by omega
        exact hdk
  · have hlt' : ¬ 2 * (k : Int) ≤ (w.length : Int) := by omega
    have e : rpt w = 0 := rpt_no fun j h1 h2 => h0 j h1 (by omega)
    (refine JQ.run follows hF hM ?_; simp (config := { maxSteps := 4000000 }) (disch := (omega)) only [go_sem, Nat.reduceLT, Nat.reduceEqDiff, reduceIte, Nat.reduceAdd, Nat.reduceSub, Nat.reduceLeDiff, Int.reduceEq, Int.reduceLT, Int.reduceLE, Int.reduceNeg, Int.reduceAdd, Int.reduceSub, Int.reduceToNat, Int.reduceMul, Nat.reduceMul, small_len, hlt'])
    (refine JQ.run follows hF hM ?_; simp (config := { maxSteps := 4000000 }) (disch := (omega)) only [go_sem, Nat.reduceLT, Nat.reduceEqDiff, reduceIte, Nat.reduceAdd, Nat.reduceSub, Nat.reduceLeDiff, Int.reduceEq, Int.reduceLT, Int.reduceLE, Int.reduceNeg, Int.reduceAdd, Int.reduceSub, Int.reduceToNat, Int.reduceMul, Nat.reduceMul, res72, e])
end Go.Proofs.YtkbagfcklodfnaaGreatDoor.Ev
/- strings.Builder's copyCheck in this program (its panic is left out by the loader): a builder is marked as used. -/
namespace Go.Proofs.YtkbagfcklodfnaaGreatDoor.Ev
set_option linter.unusedVariables false
open Go Go.Proofs Go.RowKit
set_option maxHeartbeats 1000000 in
set_option maxRecDepth 100000 in
theorem cc_used (b : Nat) (w : World) (h0 : w.cell? ⟨b, 0, none⟩ = some (.pointer (some ⟨b, 0, none⟩))) :
    Calls Tryz.prog 87 #[.pointer (some ⟨b, 0, none⟩)] w fun e w' => e = .returned (.tuple #[]) ∧ w' = w := by
  obtain ⟨j, hj⟩ := Option.isSome_iff_exists.1 (show (Tryz.prog.info? 120).isSome = true by kernel_rfl)
  go_enter Tryz.func87, Tryz.ntmps87
  go_wp2
  rw [Lib.run_neq_ptr_same w _ Tryz.underlying117 hj]
  go_wp2
  go_end0
  exact ⟨rfl, rfl⟩
set_option maxHeartbeats 1000000 in
set_option maxRecDepth 100000 in
theorem cc_fresh (b : Nat) (w : World) (h0 : w.cell? ⟨b, 0, none⟩ = some (.pointer none)) (hsh : w.shape? b = some (120, 2)) (hfz : w.frozen? ⟨b, 0, none⟩ = false) :
    Calls Tryz.prog 87 #[.pointer (some ⟨b, 0, none⟩)] w fun e w' => e = .returned (.tuple #[]) ∧ w' = w.setCell ⟨b, 0, none⟩ (.pointer (some ⟨b, 0, none⟩)) := by
  obtain ⟨j, hj, hjs⟩ := Option.map_eq_some_iff.1 (show (Tryz.prog.info? 120).map (·.size) = some 2 by kernel_rfl)
  go_enter Tryz.func87, Tryz.ntmps87
  go_wp2
  rw [Lib.run_to_unsafe w ⟨b, 0, none⟩ Tryz.underlying117 Tryz.underlying147 hj (by rw [hjs]; decide) hsh (Nat.zero_lt_succ 1)]
  simp only [Result.andThen]
  rw [Oper.upon_value]
  go_wp2
  rw [run_callFunc_extern Tryz.func96 (by kernel_rfl) (by kernel_rfl) (by kernel_rfl) (e := Extern.AbiNoEscape.same) (by kernel_rfl)]
  rw [Lib.run_noEscape]
  simp only [Result.andThen]
  rw [Oper.upon_value]
  go_wp2
  rw [Lib.run_from_unsafe w ⟨b, 0, none⟩ Tryz.underlying147 Tryz.underlying117 hj hsh (by kernel_rfl)]
  simp only [Result.andThen]
  rw [Oper.upon_value]
  go_wp2
  go_end0
  exact ⟨rfl, rfl⟩
theorem cc_k (B b : Nat) (bs : List Value) (w : World) (h : Lib.IsBuilderF 120 5 B b bs w) :
    Calls Tryz.prog 87 #[.pointer (some ⟨b, 0, none⟩)] w fun e w' => e = .returned (.tuple #[]) ∧ (Lib.BuilderAtF 120 5 B b (.pointer (some ⟨b, 0, none⟩)) bs w' ∧ Below B w w' ∧ Lib.OthersKept 5 (some b) w w') := by
  rcases h with h | h
  · refine (cc_fresh b w h.cell0 h.shape h.frozen0).mono ?_
    rintro e w' ⟨rfl, rfl⟩
    exact ⟨rfl, h.used _, (Below.refl B w).setCell (p := ⟨b, 0, none⟩) h.1 _, (Lib.OthersKept.refl _ _ w).setCell ⟨b, 0, none⟩ rfl _⟩
  · refine (cc_used b w h.cell0).mono ?_
    rintro e w' ⟨rfl, rfl⟩
    exact ⟨rfl, h, Below.refl B _, Lib.OthersKept.refl _ _ _⟩
end Go.Proofs.YtkbagfcklodfnaaGreatDoor.Ev
/- strings.Builder's WriteRune at an ASCII letter, in this program. -/
namespace Go.Proofs.YtkbagfcklodfnaaGreatDoor.Ev
set_option linter.unusedVariables false
open Go Go.Proofs Go.RowKit
set_option maxHeartbeats 2000000 in
set_option maxRecDepth 100000 in
theorem wr_k (B b : Nat) (bs : List Value) (r : Nat) (w : World) (hr : r ≤ 127) (h : Lib.IsBuilderF 120 5 B b bs w) (hlen : bs.length + 1 ≤ 140737488355328) (hBw : B ≤ w.heap.size) :
    Calls Tryz.prog 73 #[.pointer (some ⟨b, 0, none⟩), .int .i32 r] w fun e w' => e = .returned (.tuple #[.int .i64 1, .nilIface]) ∧ (Lib.BuilderAtF 120 5 B b (.pointer (some ⟨b, 0, none⟩)) (bs ++ [.int .u8 r]) w' ∧ Below B w w' ∧ Lib.OthersKept 5 (some b) w w') := by
  obtain ⟨i0, hi, hz0, hz1, hz2⟩ := info_parts (show (Tryz.prog.info? 5).map (fun i => (i.zero, i.size, i.bytes)) = some (some (.int .u8 0), 1, 1) by kernel_rfl)
  have hw32 : IntKind.u32.wrap (r : Int) = r := by simp [IntKind.wrap, IntKind.bits, IntKind.signed]; omega
  have hw8 : IntKind.u8.wrap (r : Int) = r := by simp [IntKind.wrap, IntKind.bits, IntKind.signed]; omega
  go_enter Tryz.func73, Tryz.ntmps73
  go_wp2_with (go_at_call 87; refine (cc_k B b bs _ h).mono ?_)
  rintro e w1 ⟨rfl, h1, hb1, hk1⟩
  obtain ⟨hB, v, hbk, hown, hne⟩ := h1
  have c0 : w1.cell? ⟨b, 0, none⟩ = some (.pointer (some ⟨b, 0, none⟩)) := by rw [Lib.cell_of_heap hbk]; rfl
  have c1 : w1.cell? ⟨b, 1, none⟩ = some v := by rw [Lib.cell_of_heap hbk]; rfl
  obtain ⟨ad0, cap0, hv⟩ : ∃ ad0 cap0, v = .slice ad0 bs.length cap0 := by
    rcases hown.2 with ⟨h1, h0⟩ | ⟨g, cap, cur, fz, hv, _⟩
    · exact ⟨none, 0, by rw [h1]; simp_all⟩
    · exact ⟨_, _, hv⟩
  subst hv
  go_wp2_with (first | (at_builtin; refine wpList_append_ownF _ rfl _ _ 118 rfl B 5 i0 (.int .u8 0) 1 1 Tryz.underlying118 hi hz0 hz1 hz2 rfl (by decide) _ _ _ rfl (hown.alloc _) ⟨w1.heap.size, 0, none⟩ 1 1 [.int .u8 r] rfl rfl ?c1 ?c2 ?c3 ?c4 ?c5 ?_) | go_in)
  case c1 =>
    intro j u hj
    match j, hj with
    | 0, hj => simp at hj; subst hj; simp [Addr.add]
  case c2 => intro u hu; simp at hu; subst hu; rfl
  case c3 => unfold maxLen; omega
  case c4 => omega
  case c5 => have := hb1.size; simp; omega
  intro v' w2 hown' hgrow _
  have hlt : b < w1.heap.size := by
    rcases Nat.lt_or_ge b w1.heap.size with h' | h'
    · exact h'
    · simp [Array.getElem?_eq_none h'] at hbk
  have hb2 : w2.heap[b]? = some (.cells #[.pointer (some ⟨b, 0, none⟩), .slice ad0 bs.length cap0] 120 (0, 0)) := by
    rw [hgrow.block b (by simp; omega) (fun e => hne e.symm), Lib.alloc_old w1 _ b hlt]
    exact hbk
  have d0 : w2.cell? ⟨b, 0, none⟩ = some (.pointer (some ⟨b, 0, none⟩)) := by rw [Lib.cell_of_heap hb2]; rfl
  have d1 : w2.cell? ⟨b, 1, none⟩ = some (.slice ad0 bs.length cap0) := by rw [Lib.cell_of_heap hb2]; rfl
  have f1 : w2.frozen? ⟨b, 1, none⟩ = false := Lib.frozen_of_heap hb2 1
  obtain ⟨g, cap, rfl⟩ : ∃ g cap, v' = .slice (some ⟨g, 0, none⟩) (bs.length + 1) cap := by
    rcases hown'.2 with ⟨_, h0⟩ | ⟨g, cap, cur, fz, hv, _⟩
    · omega
    · exact ⟨g, cap, hv⟩
  go_wp2
  go_ret2
  refine ⟨?_, ?_, ?_, ((hk1.alloc _).grown hgrow (Lib.ownsRowF_kind (hown.alloc _))).setCell ⟨b, 1, none⟩ rfl _⟩
  · have e1 : ((bs.length : Int) + 1 - (bs.length : Int)) = 1 := by omega
    simp [e1]
  · exact Lib.BuilderAtF.put (T := 120) (e := 5) hB hb2 (bs' := bs ++ [.int .u8 r]) (by simpa using hown') (by decide)
  · exact ((hb1.alloc (by have := hb1.size; omega) _).grown hgrow (by have := hb1.size; simp; omega) (fun k hk => (hown.lt k hk).1)).setCell (p := ⟨b, 1, none⟩) hB _
end Go.Proofs.YtkbagfcklodfnaaGreatDoor.Ev
/- strings.Builder's String in this program: the library's contract, applied. -/
namespace Go.Proofs.YtkbagfcklodfnaaGreatDoor.Ev
set_option linter.unusedVariables false
open Go Go.Proofs Go.RowKit Go.Shelf
def bsR : Go.Shelf.Ren := ⟨fun | 169 => 74 | n => n, fun | 70 => 117 | 9 => 9 | 0 => 0 | 72 => 120 | 37 => 118 | 127 => 140 | 3 => 3 | 5 => 5 | n => n, fun | n => n⟩
theorem bsL : Lays.n169 Tryz.prog bsR := {
  mixed := by kernel_rfl
  f169 := Tryz.func74.trans (congrArg some (by kernel_rfl))
  t0 := Tryz.underlying0
  a0 := Tryz.isAgg0
  z0 := Tryz.sizeOf0
  v0 := Tryz.zeroValue0
  t3 := Tryz.underlying3
  a3 := Tryz.isAgg3
  z3 := Tryz.sizeOf3
  v3 := Tryz.zeroValue3
  t9 := Tryz.underlying9
  a9 := Tryz.isAgg9
  z9 := Tryz.sizeOf9
  v9 := Tryz.zeroValue9
  t37 := Tryz.underlying118
  a37 := Tryz.isAgg118
  z37 := Tryz.sizeOf118
  v37 := Tryz.zeroValue118
  t70 := Tryz.underlying117
  a70 := Tryz.isAgg117
  z70 := Tryz.sizeOf117
  v70 := Tryz.zeroValue117
  t72 := Tryz.underlying120
  a72 := Tryz.isAgg120
  z72 := Tryz.sizeOf120
  v72 := Tryz.zeroValue120
  t127 := Tryz.underlying140
  a127 := Tryz.isAgg140
  z127 := Tryz.sizeOf140
  v127 := Tryz.zeroValue140 }
theorem bsX : Builder.Extra Tryz.prog bsR := {
  sizeBuilder := by kernel_rfl
  liesBuilder := by kernel_rfl
  t5 := Tryz.underlying5
  a5 := Tryz.isAgg5
  z5 := Tryz.sizeOf5
  v5 := Tryz.zeroValue5
  infoByte := by kernel_rfl
  cellsByte := by kernel_rfl
  sizeByte := by kernel_rfl
  neB5 := by decide }
theorem bs_k (B b : Nat) (l : List UInt8) (w : World) (h : Lib.IsBuilderF 120 5 B b (Lib.byteCells l) w) (hBw : B ≤ w.heap.size) :
    Calls Tryz.prog 74 #[.pointer (some ⟨b, 0, none⟩)] w fun e w' => e = .returned (.string ⟨l.toArray⟩) ∧ (Lib.IsBuilderF 120 5 B b (Lib.byteCells l) w' ∧ Below B w w' ∧ Lib.OthersKept 5 (some b) w w') :=
  Any.Builder_String_any_k bsL bsX B b l w h hBw
end Go.Proofs.YtkbagfcklodfnaaGreatDoor.Ev
/- lettersAfter: the letters that can be put behind a word. -/
namespace Go.Proofs.YtkbagfcklodfnaaGreatDoor.Ev
set_option linter.unusedVariables false
open Go Go.Proofs Go.RowKit
/-- repeatAtEnd in any world. -/
theorem rp_k (s : ByteArray) (hs : s.size < 1000000) (W : World) : Calls Tryz.prog 72 #[.string s] W fun e w' => e = .returned (.int .i64 (rpt (ofS s) : Int)) ∧ Below W.heap.size W w' := by
  have hl : (ofS s).length < 1000000 := by rw [ofS_len]; exact hs
  refine (callV Tryz.func72 n72 b72 k72 r72 (args := .cons (.s (ofS s)) .nil) (by simp [L.length]) rfl (I_pur _) (run72 (ofS s) hl) (vs := [.string s]) (fun g => ⟨_, _, rfl, ofS_rel g s, rfl⟩) W).mono ?_
  rintro e w' ⟨u, rfl, hu, b⟩
  exact ⟨by rw [I_rel_iff.1 (hu fun _ => none)], b⟩
theorem bf_keep {T e : TypeId} {B b : Nat} {bs : List Value} {w w' : World} (h : Lib.IsBuilderF T e B b bs w) (k : Below w.heap.size w w') : Lib.IsBuilderF T e B b bs w' := by
  have lt : ∀ {i : Nat} {o : Obj}, w.heap[i]? = some o → w'.heap[i]? = some o := fun {i o} hi => by
    have : i < w.heap.size := by
      rcases Nat.lt_or_ge i w.heap.size with h' | h'
      · exact h'
      · simp [Array.getElem?_eq_none h'] at hi
    rw [k.block i this, hi]
  have one : ∀ p, Lib.BuilderAtF T e B b p bs w → Lib.BuilderAtF T e B b p bs w' := fun p ⟨h1, v, h2, h3, h4⟩ => by
    refine ⟨h1, v, lt h2, ⟨h3.1, ?_⟩, h4⟩
    rcases h3.2 with h5 | ⟨g, cap, cur, fz, h5, h6, h7, h8⟩
    · exact .inl h5
    · exact .inr ⟨g, cap, cur, fz, h5, h6, lt h7, h8⟩
  rcases h with h | h
  · exact .inl (one _ h)
  · exact .inr (one _ h)
/-- The letters that are put behind. -/
noncomputable def lafP (word : List Nat) (c : UInt8) : Bool := decide (rpt (word ++ [c.toNat]) = 0)
/-- An ASCII letter as a string. -/
theorem conv_k (c : Nat) (hc : c < 128) (W : World) : (convert 21 9 (.int .i32 (c : Int))).run Tryz.prog W = .ok (.string ⟨⟨[c].map UInt8.ofNat⟩⟩) W := by
  unfold convert
  simp only [Sem.run_bind, run_underlying Tryz.underlying21, run_underlying Tryz.underlying9, Result.andThen_ok, Conv.intToString, Sem.run_pure, encode_ascii hc]
theorem laf_take (P : UInt8 → Bool) (l : ByteArray) (k : Nat) (hk : k < l.size) : ((l.data.toList.take (k + 1)).filter P) = (l.data.toList.take k).filter P ++ (if P (l[k]'hk) then [l[k]'hk] else []) := by
  have hk' : k < l.data.toList.length := hk
  rw [List.take_succ_eq_append_getElem hk', List.filter_append]
  congr 1
  have e : l.data.toList[k] = l[k]'hk := rfl
  rw [e]
  simp only [List.filter_cons, List.filter_nil]
set_option maxHeartbeats 500000 in
set_option maxRecDepth 1000000 in
theorem la_walk (word letters : ByteArray) (w : World) (P : UInt8 → Bool) (z : UInt8 → Int) (hP : ∀ c, P c = decide (z c = 0)) (hz : ∀ c (W : World), Calls Tryz.prog 72 #[.string (word ++ ⟨⟨[c]⟩⟩)] W fun e w' => e = .returned (.int .i64 (z c)) ∧ Below W.heap.size W w') (hw : word.size < 900000) (hl : letters.size < 1000) (ha : ∀ k (h : k < letters.size), (letters[k]'h).toNat < 128) :
    Calls Tryz.prog 62 #[.string word, .string letters] w fun e w' => e = .returned (.string ⟨(letters.data.toList.filter P).toArray⟩) ∧ Below w.heap.size w w' := by
  go_enter Tryz.func62, Tryz.ntmps62
  go_wp2
  go_loopw [] (fun wr => ∃ (pos : Nat), Lib.IsBuilderF 120 5 w.heap.size w.heap.size (Lib.byteCells ((letters.data.toList.take pos).filter P)) wr ∧ wr.heap[w.heap.size + 1]? = some (.stringIter letters pos) ∧ Below w.heap.size w wr ∧ pos ≤ letters.size) (fun wr => letters.size - wr.iterPos (w.heap.size + 1))
  case atStart =>
    refine ⟨0, (Lib.IsBuilderF.of (Lib.fresh_isBuilder 120 5 w)).alloc _, ?_, ((Below.refl _ w).alloc (Nat.le_refl _) _).alloc (by simp) _, by omega⟩
    have := World.iter_heap (w.alloc (.cells #[.pointer none, .slice none 0 0] 120)) letters 0
    simpa using this
  case round =>
    obtain ⟨pos, hI, hit, hbw, hpl⟩ := hrel
    have hsz : w.heap.size + 1 < wr.heap.size := (Array.getElem?_eq_some_iff.1 hit).1
    by_cases hp : pos < letters.size
    · have hnx : ∀ ty, (Instr.next (.pointer (some ⟨w.heap.size + 1, 0, none⟩)) true ty).run Tryz.prog wr = _ := fun ty => Lib.run_next_ascii_at wr (w.heap.size + 1) letters pos ty hit hp (ha pos hp)
      have hI2 := hI.iterAt hit (pos + 1)
      have hit2 := Lib.iterAt_heap wr (w.heap.size + 1) letters pos (pos + 1) hit
      have hbw2 := Lib.below_iterAt hbw (k := w.heap.size + 1) (by omega) letters (pos + 1)
      have hsz2 : w.heap.size ≤ (wr.iterAt (w.heap.size + 1) letters (pos + 1)).heap.size := by rw [Lib.iterAt_size]; omega
      have ha' := ha pos hp
      have hcv := conv_k (letters[pos]'hp).toNat ha'
      have hzz := hz (letters[pos]'hp)
      have hPc := hP (letters[pos]'hp)
      have htk := laf_take P letters pos hp
      generalize hc : letters[pos]'hp = c at *
      have hcl : c.toNat < 128 := ha'
      go_wp2_with fail
      refine (hzz _).mono ?_
      rintro e W1 ⟨rfl, b1⟩
      have hI3 := bf_keep hI2 b1
      have hit3 : W1.heap[w.heap.size + 1]? = some (.stringIter letters (pos + 1)) := by rw [b1.block _ (by rw [Lib.iterAt_size]; exact hsz)]; exact hit2
      have hbw3 : Below w.heap.size w W1 := hbw2.trans ⟨b1.os, b1.tape, b1.output, b1.size, fun k hk => b1.block k (by rw [Lib.iterAt_size]; omega)⟩
      have hs1 := b1.size
      rw [Lib.iterAt_size] at hs1
      have hll : ((letters.data.toList.take pos).filter P).length ≤ 1000 := Nat.le_trans (List.length_filter_le _ _) (by rw [List.length_take]; omega)
      by_cases h0 : z c = 0
      · have hPt : P c = true := by rw [hPc]; simp [h0]
        rw [hPt, if_pos rfl] at htk
        go_wp2_with (go_at_call 73; refine (wr_k w.heap.size w.heap.size _ c.toNat W1 (by omega) hI3 (by rw [Lib.byteCells_length]; omega) (by omega)).mono ?_)
        rintro e W2 ⟨rfl, h1, b2, k2⟩
        go_wp2
        go_roundw
        case rel =>
          refine ⟨pos + 1, ?_, k2.iter hit3 (by omega), hbw3.trans b2, by omega⟩
          rw [htk, Lib.byteCells_append]
          exact Or.inr h1
        case measure =>
          simp only [World.iterPos, k2.iter hit3 (by omega), hit]
          omega
      · have hPf : P c = false := by rw [hPc]; simp [h0]
        rw [hPf] at htk
        simp only [Bool.false_eq_true, if_false, List.append_nil] at htk
        go_wp2
        go_roundw
        case rel =>
          refine ⟨pos + 1, ?_, hit3, hbw3, by omega⟩
          rw [htk]
          exact hI3
        case measure =>
          simp only [World.iterPos, hit3, hit]
          omega
    · have hnx : ∀ ty, (Instr.next (.pointer (some ⟨w.heap.size + 1, 0, none⟩)) true ty).run Tryz.prog wr = _ := fun ty => Lib.run_next_end_at wr (w.heap.size + 1) letters pos ty hit hp
      have hpe : letters.data.toList.take pos = letters.data.toList := List.take_of_length_le (by show letters.data.toList.length ≤ pos; have : letters.data.toList.length = letters.size := rfl; omega)
      rw [hpe] at hI
      go_wp2_with (go_at_call 74; refine (bs_k w.heap.size w.heap.size (letters.data.toList.filter P) _ hI (by omega)).mono ?_)
      rintro e W1 ⟨rfl, _, b1, _⟩
      go_wp2
      go_ret
      exact ⟨rfl, hbw.trans b1⟩
end Go.Proofs.YtkbagfcklodfnaaGreatDoor.Ev
/- lettersAfter as a contract for the evaluator. -/
namespace Go.Proofs.YtkbagfcklodfnaaGreatDoor.Ev
set_option linter.unusedVariables false
open Go Go.Proofs Go.RowKit
def byS (bs : List Nat) : ByteArray := ⟨⟨bs.map UInt8.ofNat⟩⟩
theorem byS_size (bs : List Nat) : (byS bs).size = bs.length := by
  show (bs.map UInt8.ofNat).length = _
  rw [List.length_map]
theorem byS_rel {g : Sig} {bs : List Nat} {u : Value} : (V.s bs).rel g u ↔ u = .string (byS bs) := by rw [V.rel]; rfl
theorem ofS_byS {bs : List Nat} (h : ∀ x ∈ bs, x < 256) : ofS (byS bs) = bs := by
  show (bs.map UInt8.ofNat).map UInt8.toNat = bs
  rw [List.map_map]
  conv => rhs; rw [← List.map_id bs]
  exact List.map_congr_left fun x hx => by
    show (UInt8.ofNat x).toNat = x
    rw [UInt8.toNat_ofNat']
    exact Nat.mod_eq_of_lt (h x hx)
noncomputable def laQ (a : List Nat) (c : Nat) : Bool := decide (rpt (a ++ [c]) = 0)
noncomputable def oLa (a b : List Nat) : Out := if a.length < 900000 ∧ b.length < 1000 ∧ (∀ x ∈ a, x < 256) ∧ (∀ x ∈ b, x < 128) then .v (.s (b.filter (laQ a))) else .no
theorem ofS_app (s : ByteArray) (c : UInt8) : ofS (s ++ ⟨⟨[c]⟩⟩) = ofS s ++ [c.toNat] := by
  unfold ofS
  have e : (s ++ ⟨⟨[c]⟩⟩ : ByteArray).data.toList = s.data.toList ++ [c] := by simp
  rw [e, List.map_append]; rfl
theorem okLa : SOK Tryz.prog 62 (spSS oLa) := spSS_ok fun a b lim h n v h' n' hr => by
  unfold oLa at hr
  split at hr
  · rename_i hc
    obtain ⟨h1, h2, h3, h4⟩ := hc
    have hr : Res.ok (V.s (b.filter (laQ a))) h n = .ok v h' n' := hr
    cases hr
    refine callsB Tryz.func62 (by kernel_rfl) (c := match Tryz.f62.body with | some c => c | none => .skip) (by kernel_rfl) rfl (fun vs g w ha => ?_) lim _ _
    rw [L.rel] at ha
    obtain ⟨u1, us, rfl, r1, ha⟩ := ha
    rw [L.rel] at ha
    obtain ⟨u2, us2, rfl, r2, ha⟩ := ha
    rw [L.rel] at ha
    subst ha
    rw [byS_rel] at r1 r2
    subst r1 r2
    refine (la_walk (byS a) (byS b) w (fun c => laQ a c.toNat) (fun c => (rpt (a ++ [c.toNat]) : Int)) (fun c => by unfold laQ; congr 1; simp) (fun c W => ?_) (by rw [byS_size]; exact h1) (by rw [byS_size]; exact h2) (fun k hk => ?_)).mono ?_
    · have := rp_k (byS a ++ ⟨⟨[c]⟩⟩) (by
        have : (byS a ++ ⟨⟨[c]⟩⟩ : ByteArray).size = (byS a).size + 1 := by simp [ByteArray.size_append]; rfl
        rw [this, byS_size]; omega) W
      rw [ofS_app, ofS_byS h3] at this
      exact this
    · have hk' : k < b.length := by rw [byS_size] at hk; exact hk
      have e : (byS b)[k]'hk = UInt8.ofNat b[k] := by
        show (b.map UInt8.ofNat)[k]'(by rw [List.length_map]; exact hk') = _
        rw [List.getElem_map]
      rw [e, UInt8.toNat_ofNat', Nat.mod_eq_of_lt (by have := h4 b[k] (List.getElem_mem hk'); omega)]
      exact h4 _ (List.getElem_mem hk')
    · rintro e w' ⟨rfl, bel⟩
      refine ⟨_, rfl, ?_, bel⟩
      rw [byS_rel]
      congr 1
      show (⟨(((b.map UInt8.ofNat).filter fun c => laQ a c.toNat)).toArray⟩ : ByteArray) = ⟨⟨(b.filter (laQ a)).map UInt8.ofNat⟩⟩
      congr 1
      rw [List.filter_map]
      have : b.filter ((fun c : UInt8 => laQ a c.toNat) ∘ UInt8.ofNat) = b.filter (laQ a) := List.filter_congr fun x hx => by
        show laQ a (UInt8.ofNat x).toNat = laQ a x
        rw [UInt8.toNat_ofNat', Nat.mod_eq_of_lt (by have := h4 x hx; omega)]
      rw [this]
  · cases hr
end Go.Proofs.YtkbagfcklodfnaaGreatDoor.Ev
/- strings.ContainsRune at an ASCII letter, and hasOnly's call of it, as a contract for the evaluator: the library's contract, applied. -/
namespace Go.Proofs.YtkbagfcklodfnaaGreatDoor.Ev
set_option linter.unusedVariables false
open Go Go.Proofs Go.RowKit Go.Shelf
def crR : Go.Shelf.Ren := ⟨fun | 119 => 83 | 137 => 82 | 151 => 60 | 152 => 71 | 217 => 94 | 224 => 84 | 225 => 85 | 266 => 99 | n => n, fun | 0 => 0 | 3 => 3 | 4 => 4 | 5 => 5 | 9 => 9 | 21 => 21 | 46 => 96 | n => n, fun | n => n⟩
theorem crL : Lays.n151 Tryz.prog crR := {
  mixed := by kernel_rfl
  f119 := Tryz.func83.trans (congrArg some (by kernel_rfl))
  f137 := Tryz.func82.trans (congrArg some (by kernel_rfl))
  f151 := Tryz.func60.trans (congrArg some (by kernel_rfl))
  f152 := Tryz.func71.trans (congrArg some (by kernel_rfl))
  f217 := Tryz.func94.trans (congrArg some (by kernel_rfl))
  f224 := Tryz.func84.trans (congrArg some (by kernel_rfl))
  f225 := Tryz.func85.trans (congrArg some (by kernel_rfl))
  f266 := Tryz.func99.trans (congrArg some (by kernel_rfl))
  t0 := Tryz.underlying0
  a0 := Tryz.isAgg0
  z0 := Tryz.sizeOf0
  v0 := Tryz.zeroValue0
  t3 := Tryz.underlying3
  a3 := Tryz.isAgg3
  z3 := Tryz.sizeOf3
  v3 := Tryz.zeroValue3
  t4 := Tryz.underlying4
  a4 := Tryz.isAgg4
  z4 := Tryz.sizeOf4
  v4 := Tryz.zeroValue4
  t5 := Tryz.underlying5
  a5 := Tryz.isAgg5
  z5 := Tryz.sizeOf5
  v5 := Tryz.zeroValue5
  t9 := Tryz.underlying9
  a9 := Tryz.isAgg9
  z9 := Tryz.sizeOf9
  v9 := Tryz.zeroValue9
  t21 := Tryz.underlying21
  a21 := Tryz.isAgg21
  z21 := Tryz.sizeOf21
  v21 := Tryz.zeroValue21
  t46 := Tryz.underlying96
  a46 := Tryz.isAgg96
  z46 := Tryz.sizeOf96
  v46 := Tryz.zeroValue96 }
theorem cr_k (s : ByteArray) (r : Int) (w : World) (h0 : 0 ≤ r) (h1 : r < 128) : Calls Tryz.prog 60 #[.string s, .int .i32 r] w fun e w' => e = .returned (.bool (decide (0 ≤ Lib.indexByte s.data.toList r.toNat.toUInt8))) ∧ w' = w :=
  Any.strings_ContainsRune_ascii crL s r w h0 h1
theorem ix_mem (l : List UInt8) (c : UInt8) : decide (0 ≤ Lib.indexByte l c) = l.contains c := by
  induction l with
  | nil => rfl
  | cons b l ih =>
    have hge := Lib.indexByte_ge l c
    rw [Lib.indexByte, List.contains_cons, ← ih]
    by_cases hb : b = c
    · subst hb; simp
    · have h1 : (b == c) = false := by simpa using hb
      have h2 : (c == b) = false := by simpa using fun e => hb e.symm
      rw [h1, h2, Bool.false_or]
      simp only [Bool.false_eq_true, if_false]
      by_cases hm : Lib.indexByte l c = -1
      · rw [hm]; rfl
      · have h3 : (Lib.indexByte l c == -1) = false := by simpa using hm
        rw [h3]
        simp only [Bool.false_eq_true, if_false]
        congr 1
        apply propext
        omega
/-- Whether a word has a letter. -/
noncomputable def spCR (args : L) (_ : Nat) (h : Hp) (n : Nat) : Res := match args with
  | .cons (.s b) (.cons (.i .i32 (.ofNat c)) .nil) => if c < 128 ∧ (∀ x ∈ b, x < 256) then .ok (.b (b.contains c)) h n else .no
  | _ => .no
theorem spCR_mo : SMo spCR := fun args lim h n => by
  unfold spCR
  split
  · split
    · exact Nat.le_refl n
    · trivial
  · trivial
theorem okCR : SOK Tryz.prog 60 spCR := fun args lim h n v h' n' hr => by
  unfold spCR at hr
  split at hr
  · rename_i b c
    split at hr
    · rename_i hc
      obtain ⟨h1, h2⟩ := hc
      cases hr
      refine callsB Tryz.func60 (by kernel_rfl) (c := match Tryz.f60.body with | some c => c | none => .skip) (by kernel_rfl) rfl (fun vs g w ha => ?_) lim _ _
      rw [L.rel] at ha
      obtain ⟨u1, us, rfl, r1, ha⟩ := ha
      rw [L.rel] at ha
      obtain ⟨u2, us2, rfl, r2, ha⟩ := ha
      rw [L.rel] at ha
      subst ha
      rw [byS_rel] at r1
      rw [V.rel] at r2
      subst r1 r2
      refine (cr_k (byS b) (c : Int) w (by omega) (by omega)).mono ?_
      rintro e w' ⟨rfl, rfl⟩
      refine ⟨_, rfl, ?_, Below.refl _ _⟩
      rw [V.rel, ix_mem]
      congr 1
      show (b.map UInt8.ofNat).contains (Int.toNat (c : Int)).toUInt8 = b.contains c
      rw [Int.toNat_natCast, Bool.eq_iff_iff, List.contains_iff_mem, List.contains_iff_mem, List.mem_map]
      constructor
      · rintro ⟨x, hx, e⟩
        have e2 : (UInt8.ofNat x).toNat = (c.toUInt8).toNat := by rw [e]
        have e3 : (UInt8.ofNat x).toNat = x := by rw [UInt8.toNat_ofNat']; exact Nat.mod_eq_of_lt (h2 x hx)
        have e4 : (c.toUInt8).toNat = c := by show (UInt8.ofNat c).toNat = c; rw [UInt8.toNat_ofNat']; exact Nat.mod_eq_of_lt (by omega)
        rw [e3, e4] at e2
        rw [← e2]; exact hx
      · intro hx
        exact ⟨c, hx, rfl⟩
    · cases hr
  · cases hr
end Go.Proofs.YtkbagfcklodfnaaGreatDoor.Ev
/- Stages of a law by evaluation alone: a piece is run at each value of an argument; what it leaves is read off its slots. -/
namespace Go.Proofs.YtkbagfcklodfnaaGreatDoor.Ev
set_option linter.unusedVariables false
open Go Go.Proofs Go.RowKit

noncomputable def pcE (r : Rs) : Tr := Rs.rec (motive := fun _ => Tr) .lf (fun e _ _ => e) (fun _ _ _ _ => .lf) (fun _ _ _ => .lf) r
noncomputable def pcH (r : Rs) : Hp := Rs.rec (motive := fun _ => Hp) .lf (fun _ h _ => h) (fun _ _ _ _ => .lf) (fun _ _ _ => .lf) r
/-- The piece goes on to the next, and its places stay below m. -/
noncomputable def pcN (m : Nat) (r : Rs) : Bool := Rs.rec (motive := fun _ => Bool) false (fun _ _ n => Nat.ble n m) (fun _ _ _ _ => false) (fun _ _ _ => false) r
theorem pcN_ok {m : Nat} {r : Rs} (h : pcN m r = true) : ∃ n, r = .nor (pcE r) (pcH r) n ∧ n ≤ m := by
  cases r with
  | nor e h' n => exact ⟨n, rfl, Nat.le_of_ble_eq_true h⟩
  | _ => cases h
/-- Some slots with their values. -/
noncomputable def mkE : List (Nat × V) → Tr
  | [] => .lf
  | x :: l => (mkE l).set x.2 (tp x.1)
/-- What is read behind a piece: that it goes on, the slots ts, the tables' blocks. -/
noncomputable def stg (tabs : List (Nat × TypeId × L)) (m : Nat) (ts : List Nat) (r : Rs) : Bool × List V × List (Option Blk) :=
  (pcN m r, ts.map (fun t => (pcE r).get (tp t)), tabs.map fun x => (pcH r).get (tp x.1))
/-- What it should be. -/
noncomputable def stgIs (tabs : List (Nat × TypeId × L)) (l : List (Nat × V)) : Bool × List V × List (Option Blk) :=
  (true, l.map Prod.snd, tabs.map fun x => (tabH tabs).get (tp x.1))
theorem mkE_le {e : Tr} : ∀ {l : List (Nat × V)}, (l.all fun x => decide (x.1 < 4294967296)) = true → (l.map Prod.fst).map (fun t => e.get (tp t)) = l.map Prod.snd → EnvLe (mkE l) e
  | [], _, _ => EnvLe.lf e
  | (t, v) :: l, hl, h => by
    simp only [List.all_cons, Bool.and_eq_true, decide_eq_true_eq] at hl
    simp only [List.map_cons, List.cons.injEq] at h
    exact EnvLe.set hl.1 h.1 (mkE_le hl.2 h.2)
theorem tabH_mem : ∀ (l : List (Nat × TypeId × L)) (p : Pos) (b : Blk), (tabH l).get p = some b → ∃ x ∈ l, p = tp x.1
  | [], p, b, h => by have := (Hp.get_lf p).symm.trans h; cases this
  | (k, el, z) :: l, p, b, h => by
    have h : ((tabH l).put (some ⟨el, z.length, z.length, z, .lf⟩) (tp k)).get p = some b := h
    rw [Hp.get_put] at h
    split at h
    · rename_i e; exact ⟨_, List.mem_cons_self, e⟩
    · obtain ⟨x, hx, e⟩ := tabH_mem l p b h; exact ⟨x, List.mem_cons_of_mem _ hx, e⟩
theorem tabH_le {tabs : List (Nat × TypeId × L)} {h : Hp} (hh : (tabs.map fun x => h.get (tp x.1)) = tabs.map fun x => (tabH tabs).get (tp x.1)) : HpLe (tabH tabs) h := fun p b hp => by
  obtain ⟨x, hx, rfl⟩ := tabH_mem tabs p b hp
  exact ⟨b, (List.map_inj_left.1 hh x hx).trans hp, BlkLe.refl b⟩
/-- A piece is as good from a later place on. -/
theorem JQ.later {P : Program} {dr : List Nat} {N lim n n2 : Nat} {F : FF} {q : IC} {K : Rs → Prop} {e : Tr} {h : Hp} (hn : n ≤ n2) (j : JQ P dr N F q lim K e h n2) : JQ P dr N F q lim K e h n := fun c hc a g w he m hd hf =>
  wp_mono (j c hc a g w he m (fun p b hp => Nat.lt_of_lt_of_le (hd p b hp) hn) (fun p hp => hf p (Nat.le_trans hn hp))) fun ex a' w' ⟨r, k, t, p⟩ => ⟨r, k, t, by
    have key : ∀ {n' : Nat} {g' : Sig} {h' : Hm} {w' : World}, Fr lim n2 g h.get w n' g' h' w' → Fr lim n g h.get w n' g' h' w' := fun f =>
      { f with
        le := Nat.le_trans hn f.le
        sig := fun p hp => f.sig p (by omega)
        dom := fun p b e => ⟨fun hp => (f.dom p b e).1 (by omega), (f.dom p b e).2⟩
        new := fun p r base tot h1 h2 e => by
          by_cases h3 : n2 ≤ p.num
          · exact f.new p r base tot h3 h2 e
          · rw [f.sig p (.inl (by omega)), hf p h1] at e; cases e }
    cases r with
    | no => exact p
    | nor => obtain ⟨h1, h2, g', h3, h4, h5⟩ := p; exact ⟨h1, h2, g', h3, h4, key h5⟩
    | ext => obtain ⟨h1, h2, g', h3, h4, h5⟩ := p; exact ⟨h1, h2, g', h3, h4, key h5⟩
    | ret => obtain ⟨h1, h2, g', h3, h4, h5⟩ := p; exact ⟨h1, h2, g', h3, h4, key h5⟩⟩
/-- A piece evaluated, all that follows kept. -/
theorem JQ.piece {P : Program} (hP : P.follows .mixedOrders = true) {dr : List Nat} {N lim n : Nat} {F : FF} (hF : FOK P F) (hM : F.mono) {qa qb : IC} {K : Rs → Prop} {e : Tr} {h : Hp} {e1 : Tr} {h1 : Hp} {n1 : Nat} (hk : (kC qa nK).f F lim e h n = .nor e1 h1 n1) (hn : n1 < big)
    (j : JQ P dr N F qb lim K e1 h1 n1) : JQ P dr N F (.seq qa qb) lim K e h n := by
  refine JQ.step hP hF hM ?_
  rw [kC_eq, onC_nK] at hk
  rw [hk]; exact ⟨hn, j⟩
/-- A stage: the piece is evaluated; the slots of l and the tables are all that is kept of it. -/
theorem JQ.stage {P : Program} (hP : P.follows .mixedOrders = true) {dr : List Nat} {N lim n m : Nat} {F : FF} (hF : FOK P F) (hM : F.mono) {qa qb : IC} {K : Rs → Prop} {e : Tr} {h : Hp} {tabs : List (Nat × TypeId × L)} {l : List (Nat × V)}
    (hk : stg tabs m (l.map Prod.fst) ((kC qa nK).f F lim e h n) = stgIs tabs l) (hl : (l.all fun x => decide (x.1 < 4294967296)) = true) (hm : m < big)
    (j : JQ P dr N F qb lim K (mkE l) (tabH tabs) m) : JQ P dr N F (.seq qa qb) lim K e h n := by
  have hk' := hk
  unfold stg stgIs at hk'
  simp only [Prod.mk.injEq] at hk'
  obtain ⟨h1, h2, h3⟩ := hk'
  obtain ⟨n1, h4, h5⟩ := pcN_ok h1
  exact JQ.piece hP hF hM h4 (Nat.lt_of_le_of_lt h5 hm) (JQ.later h5 (JQ.weak (mkE_le hl h2) (tabH_le h3) j))
/-- A chunk of values. -/
theorem chunk {α : Type} {f g : Nat → α} {c k t : Nat} (h : (List.range c).map (fun i => f (k + i)) = (List.range c).map fun i => g (k + i)) (h1 : k ≤ t) (h2 : t < k + c) : f t = g t := by
  have := List.map_inj_left.1 h (t - k) (List.mem_range.2 (by omega))
  have e : k + (t - k) = t := by omega
  rwa [e] at this
theorem chunkB {f : Nat → Bool} {c k t : Nat} (h : (List.range c).all (fun i => f (k + i)) = true) (h1 : k ≤ t) (h2 : t < k + c) : f t = true := by
  have := List.all_eq_true.1 h (t - k) (List.mem_range.2 (by omega))
  have e : k + (t - k) = t := by omega
  rwa [e] at this
/-! Several pieces in a row. -/
noncomputable def seqs (ps : List IC) (q : IC) : IC := ps.foldr .seq q
/-- The first so many pieces of a body, and the rest. -/
noncomputable def IC.pcs (q : IC) (k : Nat) : List IC := Nat.rec (motive := fun _ => IC → List IC) (fun _ => []) (fun _ ih q => match q with | .seq a b => a :: ih b | q => [q]) k q
noncomputable def IC.rst (q : IC) (k : Nat) : IC := Nat.rec (motive := fun _ => IC → IC) (fun q => q) (fun _ ih q => match q with | .seq _ b => ih b | q => q) k q
/-- They are run one after the other; each has to go on to the next with its places below m. -/
noncomputable def runP (F : FF) (lim m : Nat) (ps : List IC) : Rs → Rs := List.rec (motive := fun _ => Rs → Rs) (fun r => r)
  (fun p _ ih r => Rs.rec (motive := fun _ => Rs) .no (fun e h n => Bool.rec .no (ih ((kC p nK).f F lim e h n)) (Nat.ble n m)) (fun _ _ _ _ => .no) (fun _ _ _ => .no) r) ps
theorem runP_no (F : FF) (lim m : Nat) {ps : List IC} {r : Rs} {e : Tr} {h : Hp} {n : Nat} (hr : runP F lim m ps r = .nor e h n) : ∃ e1 h1 n1, r = .nor e1 h1 n1 := by
  cases ps with
  | nil => exact ⟨_, _, _, hr⟩
  | cons p ps =>
    cases r with
    | nor e1 h1 n1 => exact ⟨_, _, _, rfl⟩
    | _ => exact absurd (show (Rs.no) = _ from hr) (by simp)
theorem JQ.pieces {P : Program} (hP : P.follows .mixedOrders = true) {dr : List Nat} {N lim m : Nat} {F : FF} (hF : FOK P F) (hM : F.mono) {qb : IC} {K : Rs → Prop} (hm : m < big) {e1 : Tr} {h1 : Hp} {n1 : Nat} (hn1 : n1 ≤ m) (j : JQ P dr N F qb lim K e1 h1 n1) :
    ∀ (ps : List IC) {e : Tr} {h : Hp} {n : Nat}, runP F lim m ps (.nor e h n) = .nor e1 h1 n1 → JQ P dr N F (seqs ps qb) lim K e h n
  | [], e, h, n, hr => by
    have hr : Rs.nor e h n = Rs.nor e1 h1 n1 := hr
    cases hr; exact j
  | p :: ps, e, h, n, hr => by
    have hr : (Bool.rec .no (runP F lim m ps ((kC p nK).f F lim e h n)) (Nat.ble n m) : Rs) = .nor e1 h1 n1 := hr
    cases hb : Nat.ble n m with
    | false => rw [hb] at hr; cases hr
    | true =>
      rw [hb] at hr
      have hr : runP F lim m ps ((kC p nK).f F lim e h n) = .nor e1 h1 n1 := hr
      obtain ⟨e2, h2, n2, h3⟩ := runP_no F lim m hr
      rw [h3] at hr
      have hn2 : n2 ≤ m := by
        cases ps with
        | nil => have hr : Rs.nor e2 h2 n2 = Rs.nor e1 h1 n1 := hr; cases hr; exact hn1
        | cons p' ps' =>
          have hr : (Bool.rec .no (runP F lim m ps' ((kC p' nK).f F lim e2 h2 n2)) (Nat.ble n2 m) : Rs) = .nor e1 h1 n1 := hr
          cases hb2 : Nat.ble n2 m with
          | false => rw [hb2] at hr; cases hr
          | true => exact Nat.le_of_ble_eq_true hb2
      exact JQ.piece hP hF hM h3 (Nat.lt_of_le_of_lt hn2 hm) (JQ.pieces hP hF hM hm hn1 j ps hr)
/-- A stage of several pieces. -/
theorem JQ.stages {P : Program} (hP : P.follows .mixedOrders = true) {dr : List Nat} {N lim n m : Nat} {F : FF} (hF : FOK P F) (hM : F.mono) {q qb : IC} (ps : List IC) {K : Rs → Prop} {e : Tr} {h : Hp} {tabs : List (Nat × TypeId × L)} {l : List (Nat × V)} (hq : q = seqs ps qb)
    (hk : stg tabs m (l.map Prod.fst) (runP F lim m ps (.nor e h n)) = stgIs tabs l) (hl : (l.all fun x => decide (x.1 < 4294967296)) = true) (hm : m < big)
    (j : JQ P dr N F qb lim K (mkE l) (tabH tabs) m) : JQ P dr N F q lim K e h n := by
  subst hq
  have hk' := hk
  unfold stg stgIs at hk'
  simp only [Prod.mk.injEq] at hk'
  obtain ⟨h1, h2, h3⟩ := hk'
  obtain ⟨n1, h4, h5⟩ := pcN_ok h1
  exact JQ.pieces hP hF hM hm h5 (JQ.later h5 (JQ.weak (mkE_le hl h2) (tabH_le h3) j)) ps h4
end Go.Proofs.YtkbagfcklodfnaaGreatDoor.Ev
/- Laws over few inputs, where no table is in memory: a stage that keeps its memory, and the run's end. -/
namespace Go.Proofs.YtkbagfcklodfnaaGreatDoor.Ev
set_option linter.unusedVariables false
open Go Go.Proofs Go.RowKit
/-- A run's end: true is handed back. -/
noncomputable def finB (res : List RV) (e : Tr) (h : Hp) (n : Nat) : Bool := and (evRVs e h res).known (and (onB (evRes e h res) (fun b => b) false) (Nat.blt n 9223372036854775808))
noncomputable def finR (res : List RV) (r : Rs) : Bool := Rs.rec false (fun e h n => finB res e h n) (fun _ _ _ _ => false) (fun e h n => finB res e h n) r
theorem finB_ok {res : List RV} {e : Tr} {h : Hp} {n : Nat} (hf : finB res e h n = true) : n < big ∧ (evRVs e h res).known = true ∧ evRes e h res = .b true := by
  unfold finB at hf
  simp only [Bool.and_eq_true, Nat.blt_eq] at hf
  refine ⟨hf.2.2, hf.1, ?_⟩
  have := hf.2.1
  cases hx : evRes e h res <;> rw [hx] at this <;> simp [onB, V.asB] at this
  rw [this]
theorem got_fin {res : List RV} {r : Rs} (h : finR res r = true) : Got (Kend res (Good 0 (.v (.b true)))) r := by
  cases r with
  | no => cases h
  | ext => cases h
  | nor e h' n => have := finB_ok h; exact ⟨this.1, this.2.1, this.2.2, rfl⟩
  | ret e h' n => have := finB_ok h; exact ⟨this.1, this.2.1, this.2.2, rfl⟩
/-- A piece run to the law's end. -/
theorem JQ.fin {P : Program} (hP : P.follows .mixedOrders = true) {dr : List Nat} {N lim n : Nat} {F : FF} (hF : FOK P F) (hM : F.mono) {res : List RV} {q : IC} {e : Tr} {h : Hp} (hk : finR res ((kC q nK).f F lim e h n) = true) : JQ P dr N F q lim (Kend res (Good 0 (.v (.b true)))) e h n := by
  refine JQ.run hP hF hM ?_
  rw [kC_eq, onC_nK] at hk; exact got_fin hk
/-- What is looked at behind a stage. -/
noncomputable def obs (m : Nat) (ts : List Nat) (r : Rs) : Bool × List V × Hp := (pcN m r, ts.map (fun t => (pcE r).get (tp t)), pcH r)
noncomputable def lstO (ts : List Nat) (r : Rs) : List (Nat × V) := ts.map fun t => (t, (pcE r).get (tp t))
/-- A stage that comes to what another run of it comes to. -/
theorem JQ.stageX {P : Program} (hP : P.follows .mixedOrders = true) {dr : List Nat} {N lim n m : Nat} {F : FF} (hF : FOK P F) (hM : F.mono) {q qb : IC} (ps : List IC) {K : Rs → Prop} {e : Tr} {h : Hp} (ts : List Nat) (r0 : Rs) (hq : q = seqs ps qb)
    (hk : obs m ts (runP F lim m ps (.nor e h n)) = obs m ts r0) (h0 : pcN m r0 = true) (hl : ((lstO ts r0).all fun x => decide (x.1 < 4294967296)) = true) (hm : m < big)
    (j : JQ P dr N F qb lim K (mkE (lstO ts r0)) (pcH r0) m) : JQ P dr N F q lim K e h n := by
  subst hq
  unfold obs at hk
  simp only [Prod.mk.injEq] at hk
  obtain ⟨h1, h2, h3⟩ := hk
  rw [h0] at h1
  obtain ⟨n1, h4, h5⟩ := pcN_ok h1
  refine JQ.pieces hP hF hM hm h5 (JQ.later h5 (JQ.weak (mkE_le hl ?_) (by rw [h3]; exact HpLe.refl _) j)) ps h4
  unfold lstO
  rw [List.map_map, List.map_map, List.map_map]
  exact h2
/-- A stage that comes to slots and memory that are told. -/
theorem JQ.stageY {P : Program} (hP : P.follows .mixedOrders = true) {dr : List Nat} {N lim n m : Nat} {F : FF} (hF : FOK P F) (hM : F.mono) {q qb : IC} (ps : List IC) {K : Rs → Prop} {e : Tr} {h : Hp} (l : List (Nat × V)) (hh : Hp) (hq : q = seqs ps qb)
    (hk : obs m (l.map Prod.fst) (runP F lim m ps (.nor e h n)) = (true, l.map Prod.snd, hh)) (hl : (l.all fun x => decide (x.1 < 4294967296)) = true) (hm : m < big)
    (j : JQ P dr N F qb lim K (mkE l) hh m) : JQ P dr N F q lim K e h n := by
  subst hq
  unfold obs at hk
  simp only [Prod.mk.injEq] at hk
  obtain ⟨h1, h2, h3⟩ := hk
  obtain ⟨n1, h4, h5⟩ := pcN_ok h1
  exact JQ.pieces hP hF hM hm h5 (JQ.later h5 (JQ.weak (mkE_le hl h2) (by rw [h3]; exact HpLe.refl _) j)) ps h4
/-- A run's end: a plain value is handed back. -/
noncomputable def finXB (x : V) (res : List RV) (e : Tr) (h : Hp) (n : Nat) : Bool := and (evRVs e h res).known (and (eqV (evRes e h res) x) (Nat.blt n 9223372036854775808))
noncomputable def finX (x : V) (res : List RV) (r : Rs) : Bool := Rs.rec false (fun e h n => finXB x res e h n) (fun _ _ _ _ => false) (fun e h n => finXB x res e h n) r
theorem finXB_ok {x : V} {res : List RV} {e : Tr} {h : Hp} {n : Nat} (hf : finXB x res e h n = true) : n < big ∧ (evRVs e h res).known = true ∧ evRes e h res = x := by
  unfold finXB at hf
  simp only [Bool.and_eq_true, Nat.blt_eq] at hf
  exact ⟨hf.2.2, hf.1, eqV_eq _ _ hf.2.1⟩
theorem JQ.finX {P : Program} (hP : P.follows .mixedOrders = true) {dr : List Nat} {N lim n nb : Nat} {F : FF} (hF : FOK P F) (hM : F.mono) {res : List RV} {q : IC} {e : Tr} {h : Hp} {x : V} (hx : x.pur = true) (hk : finX x res ((kC q nK).f F lim e h n) = true) : JQ P dr N F q lim (Kend res (Good nb (.v x))) e h n := by
  refine JQ.run hP hF hM ?_
  rw [kC_eq, onC_nK] at hk
  revert hk
  generalize evC q F lim e h n = r
  intro hk
  cases r with
  | no => cases hk
  | ext => cases hk
  | nor e h' n => have := finXB_ok hk; exact ⟨this.1, this.2.1, this.2.2, hx⟩
  | ret e h' n => have := finXB_ok hk; exact ⟨this.1, this.2.1, this.2.2, hx⟩
/-- Some answers by a contract, all others as before. -/
def ovF (f : Nat) (s : L → Nat → Hp → Nat → Res) (F : FF) : FF := fun g args lim h n => if g = f then (match s args lim h n with | .ok v h' n' => .ok v h' n' | .no => F g args lim h n) else F g args lim h n
theorem ovF_ok {P : Program} {f : Nat} {s : L → Nat → Hp → Nat → Res} {F : FF} (hs : SOK P f s) (hF : FOK P F) (hne : YID ≠ f := by decide) : FOK P (ovF f s F) := by
  refine ⟨fun g args lim h n v h' n' hr => ?_, fun p args lim h n v h' n' hr => ?_⟩
  · unfold ovF at hr
    split at hr
    · rename_i e
      subst e
      split at hr
      · rename_i v1 h1 n1 he
        cases hr
        exact hs _ _ _ _ _ _ _ he
      · exact hF.1 _ _ _ _ _ _ _ _ hr
    · exact hF.1 _ _ _ _ _ _ _ _ hr
  · unfold ovF at hr
    rw [if_neg hne] at hr
    exact hF.2 _ _ _ _ _ _ _ _ hr
theorem ovF_mono {f : Nat} {s : L → Nat → Hp → Nat → Res} {F : FF} (hs : SMo s) (hF : F.mono) : (ovF f s F).mono := fun g args lim h n => by
  unfold ovF
  split
  · have := hs args lim h n
    cases he : s args lim h n with
    | no => exact hF _ _ _ _ _
    | ok v h' n' => rw [he] at this; exact this
  · exact hF _ _ _ _ _
/-- Some blocks with their places. -/
noncomputable def hpL : List (Nat × Blk) → Hp
  | [] => .lf
  | x :: l => (hpL l).put (some x.2) (tp x.1)
theorem hpL_le {h : Hp} : ∀ {l : List (Nat × Blk)}, (l.map fun x => h.get (tp x.1)) = (l.map fun x => some x.2) → HpLe (hpL l) h
  | [], _ => HpLe.lf h
  | x :: l, e => by
    simp only [List.map_cons, List.cons.injEq] at e
    exact HpLe.put ⟨x.2, e.1, BlkLe.refl _⟩ (hpL_le e.2)
noncomputable def obsZ (m : Nat) (ts ks : List Nat) (r : Rs) : Bool × List V × List (Option Blk) := (pcN m r, ts.map (fun t => (pcE r).get (tp t)), ks.map fun k => (pcH r).get (tp k))
noncomputable def isZ (l : List (Nat × V)) (bl : List (Nat × Blk)) : Bool × List V × List (Option Blk) := (true, l.map Prod.snd, bl.map fun x => some x.2)
/-- A stage of which some slots and some blocks are kept. -/
theorem JQ.stageZ {P : Program} (hP : P.follows .mixedOrders = true) {dr : List Nat} {N lim n m : Nat} {F : FF} (hF : FOK P F) (hM : F.mono) {q qb : IC} (ps : List IC) {K : Rs → Prop} {e : Tr} {h : Hp} (l : List (Nat × V)) (bl : List (Nat × Blk)) (hq : q = seqs ps qb)
    (hk : obsZ m (l.map Prod.fst) (bl.map Prod.fst) (runP F lim m ps (.nor e h n)) = isZ l bl) (hl : (l.all fun x => decide (x.1 < 4294967296)) = true) (hm : m < big)
    (j : JQ P dr N F qb lim K (mkE l) (hpL bl) m) : JQ P dr N F q lim K e h n := by
  subst hq
  unfold obsZ isZ at hk
  simp only [Prod.mk.injEq] at hk
  obtain ⟨h1, h2, h3⟩ := hk
  obtain ⟨n1, h4, h5⟩ := pcN_ok h1
  rw [List.map_map] at h3
  exact JQ.pieces hP hF hM hm h5 (JQ.later h5 (JQ.weak (mkE_le hl h2) (hpL_le h3) j)) ps h4
noncomputable def FnI.q (x : FnI) : IC := FnI.rec (motive := fun _ => IC) (fun _ _ q _ => q) x
noncomputable def FnI.r (x : FnI) : List RV := FnI.rec (motive := fun _ => List RV) (fun _ _ _ r => r) x
end Go.Proofs.YtkbagfcklodfnaaGreatDoor.Ev
/- One answer for one list of plain arguments, evaluated once and then told. -/
namespace Go.Proofs.YtkbagfcklodfnaaGreatDoor.Ev
set_option linter.unusedVariables false
open Go Go.Proofs Go.RowKit
noncomputable def spE (a : L) (x : V) (args : L) (_ : Nat) (h : Hp) (n : Nat) : Res := Bool.rec .no (.ok x h n) (eqL args a)
theorem spE_mo (a : L) (x : V) : SMo (spE a x) := fun args lim h n => by
  unfold spE
  cases eqL args a with
  | false => trivial
  | true => exact Nat.le_refl n
noncomputable def isX (x : V) (r : Res) : Bool := Res.rec false (fun v _ n => and (eqV v x) (Nat.blt n 9223372036854775808)) r
theorem isX_ok {x : V} {r : Res} (h : isX x r = true) : ∃ h' n', r = .ok x h' n' ∧ n' < 9223372036854775808 := by
  cases r with
  | no => cases h
  | ok v h' n' =>
    have h : and (eqV v x) (Nat.blt n' 9223372036854775808) = true := h
    simp only [Bool.and_eq_true, Nat.blt_eq] at h
    exact ⟨h', n', by rw [eqV_eq _ _ h.1], h.2⟩
theorem spE_ok {P : Program} {F : FF} (hF : FOK P F) {f : Nat} {a : L} {x : V} (hk : isX x (F f a 256 .lf 256) = true) (hpa : a.pur = true) (hpx : x.pur = true) : SOK P f (spE a x) := fun args lim h n v h' n' hr => by
  unfold spE at hr
  cases he : eqL args a with
  | false => rw [he] at hr; cases hr
  | true =>
    rw [he] at hr
    cases hr
    rw [eqL_eq _ _ he]
    obtain ⟨h1, n1, e1, e2⟩ := isX_ok hk
    exact callsAny rfl (hF.1 f a 256 .lf 256 x h1 n1 e1) e2 hpa hpx lim _ _
end Go.Proofs.YtkbagfcklodfnaaGreatDoor.Ev
/- A stage of which some slots and the cells of some blocks are kept. -/
namespace Go.Proofs.YtkbagfcklodfnaaGreatDoor.Ev
set_option linter.unusedVariables false
open Go Go.Proofs Go.RowKit
noncomputable def okB (el : TypeId) (l : L) (ob : Option Blk) : Bool := Option.rec false (fun b => and (Nat.beq b.el el) (and (Nat.ble l.length b.size) (eqL (b.getL 0 l.length) l))) ob
theorem okB_le {el : TypeId} {l : L} {ob : Option Blk} (h : okB el l ob = true) : ∃ b, ob = some b ∧ BlkLe (blkL el l) b := by
  cases ob with
  | none => cases h
  | some b =>
    have h : and (Nat.beq b.el el) (and (Nat.ble l.length b.size) (eqL (b.getL 0 l.length) l)) = true := h
    simp only [Bool.and_eq_true, Nat.beq_eq, Nat.ble_eq] at h
    refine ⟨b, rfl, .inl rfl, h.1.symm, h.2.1, fun k hk => .inr ?_⟩
    have hk : k < l.length := hk
    rw [blkL_cell el l k hk, ← eqL_eq _ _ h.2.2, getL_get b _ _ _ hk, Nat.zero_add]
noncomputable def hpC : List (Nat × TypeId × L) → Hp
  | [] => .lf
  | x :: l => (hpC l).put (some (blkL x.2.1 x.2.2)) (tp x.1)
noncomputable def okK (h : Hp) (bl : List (Nat × TypeId × L)) : Bool := List.rec true (fun x _ ih => and (okB x.2.1 x.2.2 (h.get (tp x.1))) ih) bl
theorem okK_le {h : Hp} : ∀ {l : List (Nat × TypeId × L)}, okK h l = true → HpLe (hpC l) h
  | [], _ => HpLe.lf h
  | x :: l, e => by
    have e : and (okB x.2.1 x.2.2 (h.get (tp x.1))) (okK h l) = true := e
    rw [Bool.and_eq_true] at e
    exact HpLe.put (okB_le e.1) (okK_le e.2)
noncomputable def obsC (m : Nat) (ts : List Nat) (bl : List (Nat × TypeId × L)) (r : Rs) : Bool × List V × Bool := (pcN m r, ts.map (fun t => (pcE r).get (tp t)), okK (pcH r) bl)
theorem JQ.stageC {P : Program} (hP : P.follows .mixedOrders = true) {dr : List Nat} {N lim n m : Nat} {F : FF} (hF : FOK P F) (hM : F.mono) {q qb : IC} (ps : List IC) {K : Rs → Prop} {e : Tr} {h : Hp} (l : List (Nat × V)) (bl : List (Nat × TypeId × L)) (hq : q = seqs ps qb)
    (hk : obsC m (l.map Prod.fst) bl (runP F lim m ps (.nor e h n)) = (true, l.map Prod.snd, true)) (hl : (l.all fun x => decide (x.1 < 4294967296)) = true) (hm : m < big)
    (j : JQ P dr N F qb lim K (mkE l) (hpC bl) m) : JQ P dr N F q lim K e h n := by
  subst hq
  unfold obsC at hk
  simp only [Prod.mk.injEq] at hk
  obtain ⟨h1, h2, h3⟩ := hk
  obtain ⟨n1, h4, h5⟩ := pcN_ok h1
  exact JQ.pieces hP hF hM hm h5 (JQ.later h5 (JQ.weak (mkE_le hl h2) (okK_le h3) j)) ps h4
/-! To look at places: numbers only. -/
noncomputable def pnV (v : V) : Nat := onS v (fun p _ _ _ _ => p.num) 0 (onP v (fun p _ => p.num) 0)
noncomputable def cellH (h : Hp) (v : V) (k : Nat) : V := onS v (fun p o _ _ _ => Option.rec .bad (fun b => Blk.cell b (Nat.add o k)) (h.get p)) .bad (onP v (fun p o => Option.rec .bad (fun b => Blk.cell b (Nat.add o k)) (h.get p)) .bad)
noncomputable def encN (l : List Nat) : Nat := List.rec 1 (fun x _ ih => Nat.add (Nat.mul ih 1000000) x) l
end Go.Proofs.YtkbagfcklodfnaaGreatDoor.Ev
/- A stage of which whole blocks (tables) and the cells of others are kept; a loop whose rounds are evaluated one by one: the state ahead of each round is told. -/
namespace Go.Proofs.YtkbagfcklodfnaaGreatDoor.Ev
set_option linter.unusedVariables false
open Go Go.Proofs Go.RowKit
noncomputable def hpX (h0 : Hp) : List (Nat × Blk) → Hp
  | [] => h0
  | x :: l => (hpX h0 l).put (some x.2) (tp x.1)
theorem hpX_le {h0 h : Hp} (hl : HpLe h0 h) : ∀ {l : List (Nat × Blk)}, (l.map fun x => h.get (tp x.1)) = (l.map fun x => some x.2) → HpLe (hpX h0 l) h
  | [], _ => hl
  | x :: l, e => by
    simp only [List.map_cons, List.cons.injEq] at e
    exact HpLe.put ⟨x.2, e.1, BlkLe.refl _⟩ (hpX_le hl e.2)
noncomputable def obsD (m : Nat) (ts ks : List Nat) (bl : List (Nat × TypeId × L)) (r : Rs) : Bool × List V × List (Option Blk) × Bool := (pcN m r, ts.map (fun t => (pcE r).get (tp t)), ks.map (fun k => (pcH r).get (tp k)), okK (pcH r) bl)
noncomputable def isD (l : List (Nat × V)) (tb : List (Nat × Blk)) : Bool × List V × List (Option Blk) × Bool := (true, l.map Prod.snd, tb.map (fun x => some x.2), true)
theorem JQ.stageD {P : Program} (hP : P.follows .mixedOrders = true) {dr : List Nat} {N lim n m : Nat} {F : FF} (hF : FOK P F) (hM : F.mono) {q qb : IC} (ps : List IC) {K : Rs → Prop} {e : Tr} {h : Hp} (l : List (Nat × V)) (tb : List (Nat × Blk)) (bl : List (Nat × TypeId × L)) (hq : q = seqs ps qb)
    (hk : obsD m (l.map Prod.fst) (tb.map Prod.fst) bl (runP F lim m ps (.nor e h n)) = isD l tb) (hl : (l.all fun x => decide (x.1 < 4294967296)) = true) (hm : m < big)
    (j : JQ P dr N F qb lim K (mkE l) (hpX (hpC bl) tb) m) : JQ P dr N F q lim K e h n := by
  subst hq
  unfold obsD isD at hk
  simp only [Prod.mk.injEq] at hk
  obtain ⟨h1, h2, h3, h4⟩ := hk
  obtain ⟨n1, h5, h6⟩ := pcN_ok h1
  rw [List.map_map] at h3
  exact JQ.pieces hP hF hM hm h6 (JQ.later h6 (JQ.weak (mkE_le hl h2) (hpX_le (okK_le h4) h3) j)) ps h5
theorem JQ.count {P : Program} (hP : P.follows .mixedOrders = true) {dr : List Nat} {N lim n : Nat} {F : FF} (hF : FOK P F) (hM : F.mono) {qb : IC} {K : Rs → Prop} {e : Tr} {h : Hp} (top : Nat) (env : Nat → Tr) (hp : Nat → Hp) (nn : Nat → Nat) (hnn : ∀ k, k ≤ top → nn k < big)
    (h0 : EnvLe (env 0) e) (h1 : HpLe (hp 0) h) (h2 : n ≤ nn 0)
    (rd : ∀ k, k < top → ∃ e' h' n', (kC qb nK).f F lim (env k) (hp k) (nn k) = .nor e' h' n' ∧ EnvLe (env (k + 1)) e' ∧ HpLe (hp (k + 1)) h' ∧ n' ≤ nn (k + 1))
    (hend : ∃ i e' h' n', (kC qb nK).f F lim (env top) (hp top) (nn top) = .ext i e' h' n' ∧ n' < big ∧ K (.ext i e' h' n')) : JQ P dr N F (.loop qb) lim K e h n := by
  refine JQ.loop (σ := Nat × Nat) (fun s => s.1 ≤ top ∧ s.2 ≤ nn s.1) (fun s => env s.1) (fun s => hp s.1) (fun s => s.2) (fun s => top + 1 - s.1) (0, n) ⟨Nat.zero_le _, h2⟩ h0 h1 rfl ?_
  rintro ⟨k, n1⟩ ⟨hk, hn1⟩
  have hk : k ≤ top := hk
  have hn1 : n1 ≤ nn k := hn1
  refine JQ.later hn1 (JQ.run hP hF hM ?_)
  rcases Nat.lt_or_eq_of_le hk with hlt | rfl
  · obtain ⟨e', h', n', h3, h4, h5, h6⟩ := rd k hlt
    rw [kC_eq, onC_nK] at h3
    show Got _ (evC qb F lim (env k) (hp k) (nn k))
    rw [h3]
    exact ⟨Nat.lt_of_le_of_lt h6 (hnn _ hlt), (k + 1, n'), ⟨hlt, h6⟩, by show top + 1 - (k + 1) < top + 1 - k; omega, h4, h5, rfl⟩
  · obtain ⟨i, e', h', n', h3, h4, h5⟩ := hend
    rw [kC_eq, onC_nK] at h3
    show Got _ (evC qb F lim (env k) (hp k) (nn k))
    rw [h3]
    exact ⟨h4, h5⟩
/-- A round that is evaluated. -/
noncomputable def rndB (m : Nat) (l : List (Nat × V)) (bl : List (Nat × TypeId × L)) (r : Rs) : Bool := and (pcN m r) (and (List.rec true (fun x _ ih => and (eqV ((pcE r).get (tp x.1)) x.2) ih) l) (okK (pcH r) bl))
theorem eqs_ok {e : Tr} : ∀ {l : List (Nat × V)}, (l.all fun x => decide (x.1 < 4294967296)) = true → (List.rec true (fun x _ ih => and (eqV (e.get (tp x.1)) x.2) ih) l : Bool) = true → EnvLe (mkE l) e
  | [], _, _ => EnvLe.lf e
  | (t, v) :: l, hl, h => by
    simp only [List.all_cons, Bool.and_eq_true, decide_eq_true_eq] at hl
    have h : and (eqV (e.get (tp t)) v) (List.rec true (fun x _ ih => and (eqV (e.get (tp x.1)) x.2) ih) l) = true := h
    rw [Bool.and_eq_true] at h
    exact EnvLe.set hl.1 (eqV_eq _ _ h.1) (eqs_ok hl.2 h.2)
theorem rndB_ok {m : Nat} {l : List (Nat × V)} {bl : List (Nat × TypeId × L)} {r : Rs} (hl : (l.all fun x => decide (x.1 < 4294967296)) = true) (h : rndB m l bl r = true) : ∃ e' h' n', r = .nor e' h' n' ∧ EnvLe (mkE l) e' ∧ HpLe (hpC bl) h' ∧ n' ≤ m := by
  unfold rndB at h
  rw [Bool.and_eq_true, Bool.and_eq_true] at h
  obtain ⟨n', h1, h2⟩ := pcN_ok h.1
  exact ⟨_, _, n', h1, eqs_ok hl h.2.1, okK_le h.2.2, h2⟩
/-- A loop's end that is evaluated. -/
noncomputable def isExt (i : Nat) (r : Rs) : Bool := Rs.rec false (fun _ _ _ => false) (fun j _ _ n => and (Nat.beq j i) (Nat.blt n 9223372036854775808)) (fun _ _ _ => false) r
noncomputable def exE (r : Rs) : Tr := Rs.rec (motive := fun _ => Tr) .lf (fun e _ _ => e) (fun _ e _ _ => e) (fun _ _ _ => .lf) r
noncomputable def exH (r : Rs) : Hp := Rs.rec (motive := fun _ => Hp) .lf (fun _ h _ => h) (fun _ _ h _ => h) (fun _ _ _ => .lf) r
noncomputable def exB (i m : Nat) (l : List (Nat × V)) (bl : List (Nat × TypeId × L)) (r : Rs) : Bool := Rs.rec false (fun _ _ _ => false) (fun j e h n => and (Nat.beq j i) (and (Nat.ble n m) (and (List.rec true (fun x _ ih => and (eqV (e.get (tp x.1)) x.2) ih) l) (okK h bl)))) (fun _ _ _ => false) r
theorem exB_ok {i m : Nat} {l : List (Nat × V)} {bl : List (Nat × TypeId × L)} {r : Rs} (hl : (l.all fun x => decide (x.1 < 4294967296)) = true) (h : exB i m l bl r = true) : ∃ e' h' n', r = .ext i e' h' n' ∧ EnvLe (mkE l) e' ∧ HpLe (hpC bl) h' ∧ n' ≤ m := by
  cases r with
  | ext j e h' n =>
    have h : and (Nat.beq j i) (and (Nat.ble n m) (and (List.rec true (fun x _ ih => and (eqV (e.get (tp x.1)) x.2) ih) l) (okK h' bl))) = true := h
    simp only [Bool.and_eq_true, Nat.beq_eq, Nat.ble_eq] at h
    exact ⟨e, h', n, by rw [h.1], eqs_ok hl h.2.2.1, okK_le h.2.2.2, h.2.1⟩
  | _ => cases h
end Go.Proofs.YtkbagfcklodfnaaGreatDoor.Ev
/- The evaluator with lettersAfter and ContainsRune answered. -/
namespace Go.Proofs.YtkbagfcklodfnaaGreatDoor.Ev
set_option linter.unusedVariables false
set_option maxRecDepth 100000
open Go Go.Proofs Go.RowKit
noncomputable def WC (G : FF) : FF := ovF 62 (spSS oLa) (ovF 60 spCR G)
theorem WC_mono (G : FF) (h : G.mono) : (WC G).mono := ovF_mono (spSS_mo _) (ovF_mono spCR_mo h)
theorem WC_ok (G : FF) (h : FOK Tryz.prog G) : FOK Tryz.prog (WC G) := ovF_ok okLa (ovF_ok okCR h)
noncomputable def EU (d : Nat) : FF := EQ WC d
theorem EU_ok (d : Nat) : FOK Tryz.prog (EU d) := EQ_ok WC_mono WC_ok d
theorem EU_mono (d : Nat) : (EU d).mono := EQ_mono WC_mono d
end Go.Proofs.YtkbagfcklodfnaaGreatDoor.Ev
/- The examples of chapters 1 to 11 hold: they are run once. -/
namespace Go.Proofs.YtkbagfcklodfnaaGreatDoor.Ev
set_option linter.unusedVariables false
set_option linter.unusedSimpArgs false
set_option maxRecDepth 100000
open Go Go.Proofs Go.RowKit
/-! The examples, once for all. -/
noncomputable def tabOK (ob : Option Blk) : Bool := Option.rec false (fun b => and (Nat.ble 64 b.size) (eqL (b.getL 0 64) (kL .u8 zs64))) ob
noncomputable def sW (args : L) (_ : Nat) (h : Hp) (n : Nat) : Res := match args with
  | .nil => Bool.rec .no (.ok (.b true) h n) (tabOK (h.get (tp 2)))
  | .cons _ _ => .no
theorem sW_mo : SMo sW := fun args lim h n => by
  unfold sW
  cases args with
  | nil =>
    show (Bool.rec .no (.ok (.b true) h n) (tabOK (h.get (tp 2))) : Res).ge n
    cases tabOK (h.get (tp 2)) with
    | true => exact Nat.le_refl n
    | false => trivial
  | cons => trivial
theorem okWf {f : Nat} (tw_eval : (fun el => okR (EU 60 f .nil (gK + 1) (tbH el) (gK + 1))) = fun _ => true) : SOK Tryz.prog f sW := fun args lim h n v h' n' hr => by
  cases args with
  | cons => cases hr
  | nil =>
    have hr : (Bool.rec .no (.ok (.b true) h n) (tabOK (h.get (tp 2))) : Res) = .ok v h' n' := hr
    cases ht : tabOK (h.get (tp 2)) with
    | false => rw [ht] at hr; cases hr
    | true =>
      rw [ht] at hr
      cases hr
      cases hb : h.get (tp 2) with
      | none => rw [hb] at ht; cases ht
      | some b =>
        rw [hb] at ht
        have ht : and (Nat.ble 64 b.size) (eqL (b.getL 0 64) (kL .u8 zs64)) = true := ht
        rw [Bool.and_eq_true, Nat.ble_eq] at ht
        have hz := eqL_eq _ _ ht.2
        obtain ⟨h1, n1, he, hn1⟩ := okR_ok (congrFun tw_eval b.el)
        have hc := (EU_ok 60).1 f .nil (gK + 1) (tbH b.el) (gK + 1) _ _ _ he
        intro vs g w ha hgk m hd hf _
        have num1 : (tp 2).num = 3 := num_posF 63 3 (by omega) (by omega)
        have g1 : ren [] g (tp 2) = g (tp 2) := by unfold ren; rw [num1, if_pos (by omega)]
        have tg : ∀ p b0, (tbH b.el).get p = some b0 → p = tp 2 ∧ b0 = blkL b.el (kL .u8 zs64) := fun p b0 hp => by
          have hp : (Hp.lf.put (some ⟨b.el, (kL .u8 zs64).length, (kL .u8 zs64).length, kL .u8 zs64, .lf⟩) (tp 2)).get p = some b0 := hp
          rw [Hp.get_put] at hp
          split at hp
          · rename_i e; cases hp; exact ⟨e, rfl⟩
          · rw [Hp.get_lf] at hp; cases hp
        have hlen : (kL .u8 zs64).length = 64 := by rw [kL_length]; rfl
        have hm : Mem (ren [] g) (tbH b.el).get w := by
          refine ⟨fun p q bp bq r b1 t1 b2 t2 hp hq e1 e2 => ?_, fun p b0 hp => ?_⟩
          · rw [(tg p bp hp).1, (tg q bq hq).1]
          · obtain ⟨rfl, rfl⟩ := tg p b0 hp
            obtain ⟨r, base, tot, cur, c1, c2, c3, c4, c5, c6⟩ := m.blk (tp 2) b hb
            have hsz : (blkL b.el (kL .u8 zs64)).size = 64 := by rw [blkL_size, hlen]
            refine ⟨r, base, tot, cur, by rw [g1, c1], ?_, c3, by omega, by omega, fun k hk => ?_⟩
            · have := c2.cut (off := 0) (g' := ren [] g) (b0 := blkL b.el (kL .u8 zs64)) rfl (by omega) c4 rfl
              simpa using this
            · obtain ⟨u, d1, d2, d3⟩ := c6 k (by omega)
              refine ⟨u, d1, d2, ?_⟩
              have hcell : (blkL b.el (kL .u8 zs64)).cell k = b.cell k := by
                rw [blkL_cell _ _ _ (by rw [hlen]; omega), ← hz, getL_get _ _ _ _ (by omega), Nat.zero_add]
              rw [hcell]
              refine V.pur_rel ?_ d3
              rw [← hcell, blkL_cell _ _ _ (by rw [hlen]; omega)]
              have : ∀ (zs : List Int) (j : Nat), j < zs.length → ((kL .u8 zs).get j).pur = true := by
                intro zs
                induction zs with
                | nil => intro j hj; simp at hj
                | cons z l ih =>
                  intro j hj
                  cases j with
                  | zero => rfl
                  | succ j => exact ih j (by simpa using hj)
              exact this zs64 k (by rw [← kL_length .u8]; omega)
        obtain ⟨hx, hy⟩ := hc vs (ren [] g) w (L.pur_rel rfl ha) (ren_gok hgk) hm
          (fun p b0 hp => by rw [(tg p b0 hp).1, num1]; unfold gK; omega) ((ren_fresh [] g).to _) hn1
        refine ⟨hx, hy.mono ?_⟩
        rintro e w' ⟨u, g', rfl, hv, _, f⟩
        have keep : ∀ r, r < w.heap.size → w'.heap[r]? = w.heap[r]? := fun r hr => f.keep r hr fun p b0 base tot hp hl _ => by
          rw [(tg p b0 hp).1, num1] at hl; unfold gK at hl; omega
        refine ⟨u, g, rfl, V.pur_rel rfl hv, ⟨m.inj, fun p b hp => ?_⟩, ?_⟩
        · obtain ⟨r, base, tot, cur, c1, c2, c3, c4, c5, c6⟩ := m.blk p b hp
          exact ⟨r, base, tot, cur, c1, c2.keep (keep r (m.lt hp c1)), c3, c4, c5, c6⟩
        · exact { le := Nat.le_refl _, os := f.os, tape := f.tape, output := f.output, size := f.size, keep := fun r hr _ => keep r hr, sig := fun _ _ => rfl,
                  dom := fun p b e => ⟨fun _ => ⟨b, e⟩, hd p b e⟩, new := fun _ _ _ _ a b => by omega }
theorem tw8 : (fun el => okR (EU 60 8 .nil (gK + 1) (tbH el) (gK + 1))) = fun _ => true := by kernel_rfl
noncomputable def WW (G : FF) : FF := ov 8 sW (WC G)
theorem WW_ok (G : FF) (h : FOK Tryz.prog G) : FOK Tryz.prog (WW G) := ov_ok (okWf tw8) (WC_ok G h)
theorem WW_mono (G : FF) (h : G.mono) : (WW G).mono := ov_mono sW_mo (WC_mono G h)
noncomputable def EW (d : Nat) : FF := EQ WW d
theorem EW_ok (d : Nat) : FOK Tryz.prog (EW d) := EQ_ok WW_mono WW_ok d
theorem EW_mono (d : Nat) : (EW d).mono := EQ_mono WW_mono d
theorem onK_i {β : Type} (k : IntKind) (z : Int) (f : IntKind → Int → β) (s : β) : onK (.i k z) f s = f k z := rfl
theorem mkI_64 (z : Int) : mkI .i64 z = I z := rfl
noncomputable def IC.fst (x : IC) : IC := match x with | .seq a _ => a | q => q
noncomputable def IC.snd (x : IC) : IC := match x with | .seq _ b => b | q => q
noncomputable def rsE (r : Rs) : Tr := Rs.rec (motive := fun _ => Tr) .lf (fun e _ _ => e) (fun _ _ _ _ => .lf) (fun _ _ _ => .lf) r
noncomputable def rsH (r : Rs) : Hp := Rs.rec (motive := fun _ => Hp) .lf (fun _ h _ => h) (fun _ _ _ _ => .lf) (fun _ _ _ => .lf) r
noncomputable def rsN (r : Rs) : Nat := Rs.rec (motive := fun _ => Nat) 0 (fun _ _ n => n) (fun _ _ _ _ => 0) (fun _ _ _ => 0) r
/-- A piece in the middle, evaluated. -/
theorem JQ.evK {P : Program} (hP : P.follows .mixedOrders = true) {dr : List Nat} {N lim n : Nat} {F : FF} (hF : FOK P F) (hM : F.mono) {qa qb : IC} {K : Rs → Prop} {e : Tr} {h : Hp} {e1 : Tr} {h1 : Hp} {n1 : Nat} (hk : (kC qa nK).f F lim e h n = .nor e1 h1 n1) (hn : n1 < big)
    (j : JQ P dr N F qb lim K e1 h1 n1) : JQ P dr N F (.seq qa qb) lim K e h n := by
  refine JQ.step hP hF hM ?_
  rw [kC_eq, onC_nK] at hk
  rw [hk]; exact ⟨hn, j⟩
theorem all4 {f : Nat → Bool} (h : (List.range 4).all f = true) {i : Nat} (hi : i < 4) : f i = true := List.all_eq_true.1 h i (List.mem_range.2 hi)
theorem lawT {P : Program} {dr : List Nat} {F : FF} {q : IC} {f : Nat} {fn : Func} {c : Code} {res : List RV} {args : L} (tabs : List (Nat × TypeId × L)) (hfn : P.funcs[f]? = some fn) (hb : fn.body = some c) (hq : compC P dr fn.ntmps c = some q) (hres : compRVs P fn.results.toList = some res)
    (hal : args.length < 4294967296) (j : JQ P dr fn.ntmps F q (gK + 1) (Kend res fun v _ _ => v = .b true) (bind args 0 .lf) (tabH tabs) (gK + 1)) {vs : List Value} (ha : ∀ g, args.rel g vs) (w : World) (hw : Holds w tabs) : Calls P f ⟨vs⟩ w fun e w' => e = .returned (.bool true) ∧ Below w.heap.size w w' := by
  have num : ∀ k, k < gK → (tp k).num = k + 1 := fun k hk => num_posF 63 (k + 1) (by omega) (by unfold gK at hk; omega)
  have hg : ∀ k, k < gK → g0 (tabT tabs) (tp k) = some (k, 0, tabT tabs k) := fun k hk => by
    unfold g0; rw [num k hk, if_pos (by omega)]; simp
  have m : Mem (g0 (tabT tabs)) (tabH tabs).get w := by
    refine ⟨fun p q bp bq r b1 t1 b2 t2 hp hq e1 e2 => ?_, fun p b hp => ?_⟩
    · obtain ⟨k, z, h1, rfl, _⟩ := tabH_get tabs hw p bp hp
      obtain ⟨k', z', h1', rfl, _⟩ := tabH_get tabs hw q bq hq
      rw [hg k h1] at e1
      rw [hg k' h1'] at e2
      cases e1; cases e2; rfl
    · obtain ⟨k, z, h1, rfl, h3, h4, h5, h6, vs, h7, h8⟩ := tabH_get tabs hw p b hp
      have hlen : vs.length = z.length := L.rel_length (h8 (fun _ => none))
      have hbs : b.size = z.length := by rw [h3]
      refine ⟨k, 0, tabT tabs k, ⟨vs⟩, hg k h1, .inl ⟨RowIs.of h7, Nat.zero_le _⟩, by rw [h4]; simpa using hlen, .inr (by rw [h4, hbs]; simp), by rw [hbs]; exact h6, fun j hj => ?_⟩
      obtain ⟨u, c1, c2, c3⟩ := cell_list (h8 (g0 (tabT tabs))) h5 b.el j (by rw [← hbs]; exact hj)
      refine ⟨u, by simpa using c1, c2, ?_⟩
      rw [h3]; exact c3
  have hd : Dom (tabH tabs).get (gK + 1) := fun p b hp => by
    obtain ⟨k, z, h1, rfl, _⟩ := tabH_get tabs hw p b hp
    rw [num k h1]; omega
  refine (JQ.fn hfn hb hq hres hal j (g := g0 (tabT tabs)) (w := w) (ha _) (g0_ok _) m hd (fun p h => by unfold g0; rw [if_neg (by omega)])).mono ?_
  rintro e w' ⟨u, g', v, h', n', rfl, rfl, _, hv, _, fr⟩
  have hu : u = .bool true := by simpa [V.rel] using hv
  refine ⟨by rw [hu], fr.os, fr.tape, fr.output, fr.size, fun k hk => fr.keep k hk fun p b base tot hp hl => ?_⟩
  obtain ⟨k', z, h1, rfl, _⟩ := tabH_get tabs hw p b hp
  rw [num k' h1] at hl; omega
end Go.Proofs.YtkbagfcklodfnaaGreatDoor.Ev
/- TopDegreed: its code in full. -/
namespace Go.Proofs.YtkbagfcklodfnaaGreatDoor.Ev
set_option linter.unusedVariables false
set_option maxRecDepth 100000
open Go Go.Proofs Go.RowKit
def x80x : Pos := (.i (.o (.o (.o (.i (.o .h))))))
def x81x : Pos := (.o (.i (.o (.o (.i (.o .h))))))
def x82x : Pos := (.i (.i (.o (.o (.i (.o .h))))))
def x83x : Pos := (.o (.o (.i (.o (.i (.o .h))))))
def x84x : Pos := (.i (.o (.i (.o (.i (.o .h))))))
def x85x : Pos := (.o (.i (.i (.o (.i (.o .h))))))
def x86x : Pos := (.i (.i (.i (.o (.i (.o .h))))))
def x87x : Pos := (.o (.o (.o (.i (.i (.o .h))))))
def x88x : Pos := (.i (.o (.o (.i (.i (.o .h))))))
def x89x : Pos := (.o (.i (.o (.i (.i (.o .h))))))
def x90x : Pos := (.i (.i (.o (.i (.i (.o .h))))))
def x91x : Pos := (.o (.o (.i (.i (.i (.o .h))))))
def x92x : Pos := (.i (.o (.i (.i (.i (.o .h))))))
def x93x : Pos := (.o (.i (.i (.i (.i (.o .h))))))
def x94x : Pos := (.i (.i (.i (.i (.i (.o .h))))))
def x95x : Pos := (.o (.o (.o (.o (.o (.i .h))))))
def x96x : Pos := (.i (.o (.o (.o (.o (.i .h))))))
def x97x : Pos := (.o (.i (.o (.o (.o (.i .h))))))
def x98x : Pos := (.i (.i (.o (.o (.o (.i .h))))))
def x99x : Pos := (.o (.o (.i (.o (.o (.i .h))))))
def x100x : Pos := (.i (.o (.i (.o (.o (.i .h))))))
def x101x : Pos := (.o (.i (.i (.o (.o (.i .h))))))
def x102x : Pos := (.i (.i (.i (.o (.o (.i .h))))))
def x103x : Pos := (.o (.o (.o (.i (.o (.i .h))))))
def x104x : Pos := (.i (.o (.o (.i (.o (.i .h))))))
def x105x : Pos := (.o (.i (.o (.i (.o (.i .h))))))
def x106x : Pos := (.i (.i (.o (.i (.o (.i .h))))))
def x107x : Pos := (.o (.o (.i (.i (.o (.i .h))))))
def x108x : Pos := (.i (.o (.i (.i (.o (.i .h))))))
def x109x : Pos := (.o (.i (.i (.i (.o (.i .h))))))
def x110x : Pos := (.i (.i (.i (.i (.o (.i .h))))))
def x111x : Pos := (.o (.o (.o (.o (.i (.i .h))))))
def x112x : Pos := (.i (.o (.o (.o (.i (.i .h))))))
def x113x : Pos := (.o (.i (.o (.o (.i (.i .h))))))
def x114x : Pos := (.i (.i (.o (.o (.i (.i .h))))))
def x115x : Pos := (.o (.o (.i (.o (.i (.i .h))))))
def x116x : Pos := (.i (.o (.i (.o (.i (.i .h))))))
def x117x : Pos := (.o (.i (.i (.o (.i (.i .h))))))
def x118x : Pos := (.i (.i (.i (.o (.i (.i .h))))))
def x119x : Pos := (.o (.o (.o (.i (.i (.i .h))))))
def x120x : Pos := (.i (.o (.o (.i (.i (.i .h))))))
def x121x : Pos := (.o (.i (.o (.i (.i (.i .h))))))
def x122x : Pos := (.i (.i (.o (.i (.i (.i .h))))))
def x123x : Pos := (.o (.o (.i (.i (.i (.i .h))))))
def x124x : Pos := (.i (.o (.i (.i (.i (.i .h))))))
def x125x : Pos := (.o (.i (.i (.i (.i (.i .h))))))
def x126x : Pos := (.i (.i (.i (.i (.i (.i .h))))))
def x127x : Pos := (.o (.o (.o (.o (.o (.o (.o .h)))))))
def x128x : Pos := (.i (.o (.o (.o (.o (.o (.o .h)))))))
def x129x : Pos := (.o (.i (.o (.o (.o (.o (.o .h)))))))
def x130x : Pos := (.i (.i (.o (.o (.o (.o (.o .h)))))))
def x131x : Pos := (.o (.o (.i (.o (.o (.o (.o .h)))))))
def x132x : Pos := (.i (.o (.i (.o (.o (.o (.o .h)))))))
def x133x : Pos := (.o (.i (.i (.o (.o (.o (.o .h)))))))
def x134x : Pos := (.i (.i (.i (.o (.o (.o (.o .h)))))))
def x135x : Pos := (.o (.o (.o (.i (.o (.o (.o .h)))))))
def x136x : Pos := (.i (.o (.o (.i (.o (.o (.o .h)))))))
def x137x : Pos := (.o (.i (.o (.i (.o (.o (.o .h)))))))
def x138x : Pos := (.i (.i (.o (.i (.o (.o (.o .h)))))))
def x139x : Pos := (.o (.o (.i (.i (.o (.o (.o .h)))))))
def x140x : Pos := (.i (.o (.i (.i (.o (.o (.o .h)))))))
def x141x : Pos := (.o (.i (.i (.i (.o (.o (.o .h)))))))
def x142x : Pos := (.i (.i (.i (.i (.o (.o (.o .h)))))))
noncomputable def i3 : FnI := (.mk true true (.seq (.reg (.cons (some x2x) none (.mv (.c (.b false))) .nil)) (.seq (.reg (.cons (some x22x) none (.mv (.t x0x)) (.cons (some x23x) none (.conv .i64 (.t x22x)) 
  (.cons (some x24x) none (.bin .rem (.t x23x) (.c (.n 7))) (.cons (some x25x) none (.bin .add (.c (.n 2)) (.t x24x)) (.cons (some x3x) none (.mv (.t x25x)) .nil)))))) (.seq (.reg 
  (.cons (some x27x) none (.mv (.t x3x)) (.cons (some x28x) none (.bin .sub (.t x27x) (.c (.n 2))) (.cons (some x29x) none (.call 4 (.cons (.t x28x) .nil)) (.cons (some x26x) none 
  (.mv (.t x29x)) (.cons (some x30x) none (.ext 0 (.t x26x)) (.cons (some x31x) none (.ext 1 (.t x26x)) (.cons (some x4x) none (.mv (.t x30x)) (.cons (some x5x) none (.mv (.t 
  x31x)) .nil))))))))) (.seq (.reg (.cons (some x33x) none (.mv (.t x3x)) (.cons (some x34x) none (.call 5 (.cons (.t x33x) .nil)) (.cons (some x32x) none (.mv (.t x34x)) (.cons 
  (some x35x) none (.ext 0 (.t x32x)) (.cons (some x36x) none (.ext 1 (.t x32x)) (.cons (some x6x) none (.mv (.t x35x)) (.cons (some x7x) none (.mv (.t x36x)) .nil)))))))) (.seq 
  (.seq (.reg (.cons (some x37x) none (.mv (.t x5x)) (.cons (some x38x) none (.bin .neq (.t x37x) (.c (.n 0))) (.cons (some x39x) none (.mv (.t x38x)) (.cons (some x40x) (some (.mk 
  x39x false)) (.mv (.t x7x)) (.cons (some x41x) (some (.mk x39x false)) (.bin .neq (.t x40x) (.c (.n 0))) (.cons (some x42x) none (.pick (.t x39x) (.c (.b true)) (.t x41x)) (.cons 
  (some x43x) none (.mv (.t x42x)) (.cons (some x44x) (some (.mk x43x false)) (.mv (.t x4x)) (.cons (some x45x) (some (.mk x43x false)) (.bin .lss (.t x44x) (.c (.n 1))) (.cons 
  (some x46x) none (.pick (.t x43x) (.c (.b true)) (.t x45x)) (.cons (some x47x) none (.mv (.t x46x)) (.cons (some x48x) (some (.mk x47x false)) (.mv (.t x4x)) (.cons (some x49x) 
  (some (.mk x47x false)) (.bin .gtr (.t x48x) (.c (.n 11))) (.cons (some x50x) none (.pick (.t x47x) (.c (.b true)) (.t x49x)) .nil))))))))))))))) (.cond (.t x50x) (.seq (.reg 
  (.cons (some x2x) none (.mv (.c (.b false))) .nil)) .ret) .skip)) (.seq (.reg (.cons (some x8x) none (.mv (.c (.n 0))) .nil)) (.seq (.seq (.reg (.cons (some x51x) none (.mv (.t 
  x4x)) (.cons (some x52x) none (.mv (.c (.n 0))) .nil))) (.block 0 (.loop (.seq (.reg (.cons (some x53x) none (.bin .lss (.t x52x) (.t x51x)) .nil)) (.seq (.cond (.t x53x) .skip 
  (.exit 0)) (.seq (.block 1 (.seq (.reg (.cons (some x54x) none (.mv (.t x52x)) (.cons (some x9x) none (.mv (.t x54x)) .nil))) (.seq (.reg (.cons (some x56x) none (.mv (.t x3x)) 
  (.cons (some x57x) none (.bin .sub (.t x56x) (.c (.n 2))) (.cons (some x58x) none (.mv (.t x9x)) (.cons (some x59x) none (.call 6 (.cons (.t x57x) (.cons (.t x58x) .nil))) (.cons 
  (some x55x) none (.mv (.t x59x)) (.cons (some x60x) none (.ext 0 (.t x55x)) (.cons (some x61x) none (.ext 1 (.t x55x)) (.cons (some x10x) none (.mv (.t x60x)) (.cons (some x11x) 
  none (.mv (.t x61x)) .nil)))))))))) (.seq (.seq (.reg (.cons (some x62x) none (.mv (.t x11x)) (.cons (some x63x) none (.bin .neq (.t x62x) (.c (.n 0))) (.cons (some x64x) none 
  (.mv (.t x63x)) (.cons (some x65x) (some (.mk x64x false)) (.mv (.t x10x)) (.cons (some x66x) (some (.mk x64x false)) (.len (.t x65x)) (.cons (some x67x) (some (.mk x64x false)) 
  (.mv (.t x3x)) (.cons (some x68x) (some (.mk x64x false)) (.bin .sub (.t x67x) (.c (.n 2))) (.cons (some x69x) (some (.mk x64x false)) (.bin .gtr (.t x66x) (.t x68x)) (.cons 
  (some x70x) none (.pick (.t x64x) (.c (.b true)) (.t x69x)) .nil)))))))))) (.cond (.t x70x) (.seq (.reg (.cons (some x2x) none (.mv (.c (.b false))) .nil)) .ret) .skip)) (.seq 
  (.reg (.cons (some x71x) none (.mv (.t x3x)) (.cons (some x72x) none (.mks 3 1 8 1 (.cons (.n 0) .nil) (.t x71x) (.t x71x)) (.cons (some x12x) none (.mv (.t x72x)) .nil)))) (.seq 
  (.reg (.cons (some x13x) none (.alloc 28 (.cons (.n 0) (.cons (.n 0) (.cons (.n 0) (.cons (.n 0) (.cons (.n 0) (.cons (.n 0) (.cons (.n 0) (.cons (.n 0) .nil)))))))) 8) .nil)) 
  (.seq (.seq (.reg (.cons (some x73x) none (.mv (.t x12x)) (.cons (some x74x) none (.len (.t x73x)) (.cons (some x75x) none (.mv (.c (.n 0))) .nil)))) (.block 2 (.loop (.seq (.reg 
  (.cons (some x76x) none (.bin .lss (.t x75x) (.t x74x)) .nil)) (.seq (.cond (.t x76x) .skip (.exit 2)) (.seq (.block 3 (.seq (.reg (.cons (some x77x) none (.mv (.t x75x)) (.cons 
  (some x14x) none (.mv (.t x77x)) .nil))) (.seq (.reg (.cons (some x15x) none (.mv (.c (.n 0))) .nil)) (.seq (.seq (.reg (.cons (some x78x) none (.mv (.t x14x)) (.cons (some x79x) 
  none (.mv (.t x10x)) (.cons (some x80x) none (.len (.t x79x)) (.cons (some x81x) none (.bin .lss (.t x78x) (.t x80x)) .nil))))) (.cond (.t x81x) (.reg (.cons (some x82x) none 
  (.mv (.t x10x)) (.cons (some x83x) none (.mv (.t x14x)) (.cons (some x84x) none (.ixs 1 (.t x82x) (.t x83x)) (.cons (some x85x) none (.ld 1 false (.t x84x)) (.cons (some x15x) 
  none (.mv (.t x85x)) .nil)))))) .skip)) (.seq (.seq (.reg (.cons (some x86x) none (.mv (.t x15x)) (.cons (some x87x) none (.bin .lss (.t x86x) (.c (.n 0))) (.cons (some x88x) 
  none (.mv (.t x87x)) (.cons (some x89x) (some (.mk x88x false)) (.mv (.t x15x)) (.cons (some x90x) (some (.mk x88x false)) (.bin .gtr (.t x89x) (.c (.n 7))) (.cons (some x91x) 
  none (.pick (.t x88x) (.c (.b true)) (.t x90x)) .nil))))))) (.cond (.t x91x) (.seq (.reg (.cons (some x2x) none (.mv (.c (.b false))) .nil)) .ret) .skip)) (.seq (.reg (.cons 
  (some x92x) none (.mv (.t x12x)) (.cons (some x93x) none (.mv (.t x14x)) (.cons (some x94x) none (.mv (.t x15x)) (.cons (some x95x) none (.bin .add (.t x94x) (.c (.n 1))) (.cons 
  (some x96x) none (.ixs 1 (.t x92x) (.t x93x)) (.cons none none (.st 1 (.t x96x) (.t x95x)) .nil))))))) (.reg (.cons (some x97x) none (.mv (.t x15x)) (.cons (some x98x) none (.ixa 
  8 1 (.t x13x) (.t x97x)) (.cons (some x99x) none (.ld 1 false (.t x98x)) (.cons (some x100x) none (.bin .add (.t x99x) (.c (.n 1))) (.cons (some x101x) none (.ixa 8 1 (.t x13x) 
  (.t x97x)) (.cons none none (.st 1 (.t x101x) (.t x100x)) .nil))))))))))))) (.reg (.cons (some x102x) none (.bin .add (.t x75x) (.c (.n 1))) (.cons (some x75x) none (.mv (.t 
  x102x)) .nil))))))))) (.seq (.reg (.cons (some x16x) none (.mv (.c (.n 1))) .nil)) (.seq (.seq (.reg (.cons (some x17x) none (.mv (.c (.n 2))) .nil)) (.block 4 (.loop (.seq (.seq 
  (.reg (.cons (some x103x) none (.mv (.t x17x)) (.cons (some x104x) none (.mv (.t x3x)) (.cons (some x105x) none (.bin .leq (.t x103x) (.t x104x)) .nil)))) (.cond (.t x105x) .skip 
  (.exit 4))) (.seq (.block 5 (.reg (.cons (some x108x) none (.mv (.t x16x)) (.cons (some x109x) none (.mv (.t x17x)) (.cons (some x110x) none (.bin .mul (.t x108x) (.t x109x)) 
  (.cons (some x16x) none (.mv (.t x110x)) .nil)))))) (.reg (.cons (some x106x) none (.mv (.t x17x)) (.cons (some x107x) none (.bin .add (.t x106x) (.c (.n 1))) (.cons (some x17x) 
  none (.mv (.t x107x)) .nil))))))))) (.seq (.seq (.reg (.cons (some x111x) none (.ld 8 true (.t x13x)) (.cons (some x112x) none (.mv (.c (.n 0))) .nil))) (.block 6 (.loop (.seq 
  (.reg (.cons (some x113x) none (.bin .lss (.t x112x) (.c (.n 8))) .nil)) (.seq (.cond (.t x113x) .skip (.exit 6)) (.seq (.block 7 (.seq (.reg (.cons (some x114x) none (.idx 8 1 
  false (.t x111x) (.t x112x)) (.cons (some x19x) none (.mv (.t x114x)) .nil))) (.seq (.reg (.cons (some x20x) none (.mv (.c (.n 2))) .nil)) (.block 8 (.loop (.seq (.seq (.reg 
  (.cons (some x115x) none (.mv (.t x20x)) (.cons (some x116x) none (.mv (.t x19x)) (.cons (some x117x) none (.bin .leq (.t x115x) (.t x116x)) .nil)))) (.cond (.t x117x) .skip 
  (.exit 8))) (.seq (.block 9 (.reg (.cons (some x120x) none (.mv (.t x16x)) (.cons (some x121x) none (.mv (.t x20x)) (.cons (some x122x) none (.bin .quo (.t x120x) (.t x121x)) 
  (.cons (some x16x) none (.mv (.t x122x)) .nil)))))) (.reg (.cons (some x118x) none (.mv (.t x20x)) (.cons (some x119x) none (.bin .add (.t x118x) (.c (.n 1))) (.cons (some x20x) 
  none (.mv (.t x119x)) .nil))))))))))) (.reg (.cons (some x123x) none (.bin .add (.t x112x) (.c (.n 1))) (.cons (some x112x) none (.mv (.t x123x)) .nil))))))))) (.seq (.reg (.cons 
  (some x125x) none (.mv (.t x12x)) (.cons (some x126x) none (.call 7 (.cons (.t x125x) .nil)) (.cons (some x124x) none (.mv (.t x126x)) (.cons (some x127x) none (.ext 0 (.t 
  x124x)) (.cons (some x128x) none (.ext 1 (.t x124x)) (.cons (some x21x) none (.mv (.t x127x)) (.cons (some x11x) none (.mv (.t x128x)) .nil)))))))) (.seq (.seq (.reg (.cons (some 
  x129x) none (.mv (.t x11x)) (.cons (some x130x) none (.bin .neq (.t x129x) (.c (.n 0))) .nil))) (.cond (.t x130x) (.seq (.reg (.cons (some x2x) none (.mv (.c (.b false))) .nil)) 
  .ret) .skip)) (.reg (.cons (some x131x) none (.mv (.t x8x)) (.cons (some x132x) none (.mv (.t x21x)) (.cons (some x133x) none (.mv (.t x16x)) (.cons (some x134x) none (.bin .mul 
  (.t x132x) (.t x133x)) (.cons (some x135x) none (.bin .add (.t x131x) (.t x134x)) (.cons (some x8x) none (.mv (.t x135x)) .nil))))))))))))))))))) (.reg (.cons (some x136x) none 
  (.bin .add (.t x52x) (.c (.n 1))) (.cons (some x52x) none (.mv (.t x136x)) .nil))))))))) (.seq (.reg (.cons (some x137x) none (.mv (.t x8x)) (.cons (some x138x) none (.mv (.t 
  x6x)) (.cons (some x139x) none (.bin .eql (.t x137x) (.t x138x)) (.cons (some x140x) none (.mv (.t x139x)) (.cons (some x141x) (some (.mk x140x true)) (.call 8 .nil) (.cons (some 
  x142x) none (.pick (.t x140x) (.t x141x) (.c (.b false))) (.cons (some x2x) none (.mv (.t x142x)) .nil)))))))) .ret)))))))) [(.tmp x2x)])
noncomputable def q3 : IC := i3.q
noncomputable def res3 : List RV := i3.r
noncomputable def c3c : Code := match Tryz.f3.body with | some c => c | none => .skip
theorem b3 : Tryz.f3.body = some c3c := by kernel_rfl
theorem k3 : compC Tryz.prog drops Tryz.f3.ntmps c3c = some q3 := by kernel_rfl
theorem r3 : compRVs Tryz.prog Tryz.f3.results.toList = some res3 := by kernel_rfl
theorem n3 : (Tryz.f3.name == "runtime.NumGoroutine") = false := by kernel_rfl
end Go.Proofs.YtkbagfcklodfnaaGreatDoor.Ev
/- TopDegreed: the number cut down; what is left for each number of knots. -/
namespace Go.Proofs.YtkbagfcklodfnaaGreatDoor.Ev
set_option linter.unusedVariables false
set_option maxRecDepth 100000
open Go Go.Proofs Go.RowKit
noncomputable def tbs (el : TypeId) : List (Nat × TypeId × L) := [(2, el, kL .u8 zs64)]
noncomputable def l1 (n : Nat) : List (Nat × V) := [(3, .n n)]
theorem q3_s : q3 = seqs (q3.pcs 2) (q3.rst 2) := by kernel_rfl
noncomputable def s1 (el a : Nat) : Rs := runP (EW 60) (gK + 1) 2000 (q3.pcs 2) (.nor (bind (.cons (.i .u8 (.ofNat a)) .nil) 0 .lf) (tabH (tbs el)) (gK + 1))
theorem hs1 : (fun el => (List.range 256).map fun a => stg (tbs el) 2000 ((l1 (2 + a % 7)).map Prod.fst) (s1 el a)) = fun el => (List.range 256).map fun a => stgIs (tbs el) (l1 (2 + a % 7)) := by kernel_rfl
noncomputable def te (el n : Nat) : Bool := finR res3 ((kC (q3.rst 2) nK).f (EW 60) (gK + 1) (mkE (l1 n)) (tabH (tbs el)) 2000)
theorem te2 : (fun el => te el 2) = fun _ => true := by kernel_rfl
theorem te3 : (fun el => te el 3) = fun _ => true := by kernel_rfl
theorem te4 : (fun el => te el 4) = fun _ => true := by kernel_rfl
theorem te5 : (fun el => te el 5) = fun _ => true := by kernel_rfl
theorem te6 : (fun el => te el 6) = fun _ => true := by kernel_rfl
theorem te7 : (fun el => te el 7) = fun _ => true := by kernel_rfl
theorem te8 : (fun el => te el 8) = fun _ => true := by kernel_rfl
theorem te_all (el n : Nat) (h1 : 2 ≤ n) (h2 : n ≤ 8) : te el n = true := by
  rcases (by omega : n = 2 ∨ n = 3 ∨ n = 4 ∨ n = 5 ∨ n = 6 ∨ n = 7 ∨ n = 8) with rfl | rfl | rfl | rfl | rfl | rfl | rfl
  · exact congrFun te2 el
  · exact congrFun te3 el
  · exact congrFun te4 el
  · exact congrFun te5 el
  · exact congrFun te6 el
  · exact congrFun te7 el
  · exact congrFun te8 el
theorem deg_run (el : Nat) (a : Nat) (ha : a ≤ 255) : JQ Tryz.prog drops Tryz.f3.ntmps (EW 60) q3 (gK + 1) (Kend res3 fun v _ _ => v = .b true) (bind (.cons (.i .u8 (a : Int)) .nil) 0 .lf) (tabH (tbs el)) (gK + 1) := by
  refine JQ.stages follows (EW_ok 60) (EW_mono 60) (m := 2000) (q3.pcs 2) (l := l1 (2 + a % 7)) (tabs := tbs el) q3_s (List.map_inj_left.1 (congrFun hs1 el) a (List.mem_range.2 (by omega))) rfl (by unfold big; omega) ?_
  exact JQ.mono (fun r h => by cases r <;> first | exact ⟨h.1, h.2.1⟩ | exact h) (JQ.fin follows (EW_ok 60) (EW_mono 60) (te_all el _ (by omega) (by have := Nat.mod_lt a (by omega : 7 > 0); omega)))
theorem deg_walk (a : Nat) (ha : a ≤ 255) (w : World) (el : TypeId) (hw : Holds w [(2, el, kL .u8 zs64)]) : Calls Tryz.prog 3 #[.int .u8 (a : Int)] w fun e w' => e = .returned (.bool true) ∧ Below w.heap.size w w' :=
  lawT (tbs el) Tryz.func3 b3 k3 r3 (args := .cons (.i .u8 (a : Int)) .nil) (by simp [L.length]) (deg_run el a ha) (vs := [.int .u8 (a : Int)]) (fun _ => ⟨_, _, rfl, rfl, rfl⟩) w hw
end Go.Proofs.YtkbagfcklodfnaaGreatDoor.Ev
