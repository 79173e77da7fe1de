/- The till: lists of places; views of an argument's block; copy. -/
import Derived.Test.YtkdbgkibifigiaaTsA
namespace Go.Proofs.Ytkdbgkibifigiaa.Ev
set_option linter.unusedVariables false
set_option linter.unusedSimpArgs false
set_option maxRecDepth 100000
open Go Go.Proofs
attribute [local go_sem] evC_seq evC_reg evC_cond evC_block evC_skip evC_exit evC_ret evR_cons evR_nil evR_gd guardB_tt guardB_ff guardB_tf guardB_ft guardB_none bindR_ok bindR_okn rgRs_ok seqR_nor seqR_ext seqR_ret condR_true condR_false blockR_nor blockR_ext blockR_ret evX_t evX_c evXL_nil evXL_cons O_mv O_bin O_pick O_eqb O_not O_ext O_call O_conv O_slen O_six O_sbi pv_I pv_i pv_b pv_s pv_ns pv_sl pv_p pv_tu pv_ag bin_lss bin_leq bin_gtr bin_geq bin_eql bin_neq bin8_eql bin8_neq bin_add bin_sub bin_mul get_st get_lf bind_nil bind_cons if_true if_false Got_nor Got_ext Got_ret Kseq Kblk Klp Kend onStr_s onB_b onT_tu onI_I onN_I onK_I eqb_b not_b nthL_0 nthL_1 nthL_2 known_nil known_cons I_known known_b known_s evRVs_nil evRVs_cons evRes_1 evRes_2 evRV_tmp Bool.and_true Bool.true_and Bool.and_self Bool.not_true Bool.not_false decide_true decide_false Int.toNat_natCast true_and and_true big hget_same hget_ne newB_n onP_p onS_sl onS_ns O_fad O_alloc_if O_ixs O_len O_ld O_st O_box boxB_if ldB_if ldB_agif stB_if toL_I toL_i toL_b toL_s toL_sl toL_ns toL_ag allC_nil allC_cons isC_i isC_b isC_s isC_sl isC_ns I_isC Llen_nil Llen_cons Lget_0 Lget_1 Lget_2 Lget_3 blkL_size cell_blkL_if getL_blkL_if getL_setL_if setL_sz evRV_cell' rvB_agif rvB_if evPL_cons bldK_if evPL_nil O_build O_part evBuild_ok okL_some onA_ag partV_1 evPart_eq updS_nil updS_cons upd_0 upd_1 upd_2 upd_3 ge_iff_le if_pos and_self Nat.le_refl known_ag known_sl known_ns known_i ov_at spS_eq spSI_eq spSII_eq spI_eq spII_eq spIII_eq spIIII_eq res_v res_sl res_slE Good I_pur pur_b pur_s pur_i pur_ns pur_ag pur_tu purL_nil purL_cons evDr_eq evDs_nil evDs_cons dsR_ok stepD_eq sdB_n sdB_g sdG_tt sdG_ff sdG_tf sdG_ft sdG_none runD_0 rdR_f rdR_t baseOf_pu baseOf_h baseU_nil baseA_nil baseA_0 baseR_nil baseR_0 baseR_00 appAll_nil appAll_0 restr_nil restr_cons setD_some setD_none evC_draw iL_len iL_get iL_allC iL_pur hp0_0 hp0_c rdL_ns rdL_sl List.length_cons List.length_nil O_mks mkB_if O_bsl bslB_if O_app apX_ns apX_sl apN_some apS_some blkL_el Nat.one_mul Nat.mul_one Nat.zero_add n_I onF_fn O_callv app_nil app_cons spLF_eq spL_eq spLL_eq onL_some onLL_ss onLL_ns onLL_sn onLL_nn rdB_blk Int.cast_ofNat_Int

/-! A slice and an int. -/
noncomputable def spLI (f : List Int → Int → Out) (args : L) (_ : Nat) (h : Hp) (n : Nat) : Res := match args with | .cons sv (.cons v .nil) => (match asI v with | some z => onL (rdL h sv) (fun xs => f xs z) h n | none => .no) | _ => .no
theorem spLI_eq (f : List Int → Int → Out) (sv : V) (z : Int) (lim : Nat) (h : Hp) (n : Nat) : spLI f (.cons sv (.cons (I z) .nil)) lim h n = onL (rdL h sv) (fun xs => f xs z) h n := by simp only [spLI, asI_I]
theorem spLI_mo (f : List Int → Int → Out) : SMo (spLI f) := fun args lim h n => by unfold spLI; split <;> (try split) <;> first | exact onL_ge _ _ _ _ | trivial
section
variable {P : Program} {dr : List Nat} {F : FF} {q : IC} {f : Nat} {fn : Func} {c : Code} {res : List RV}
    (hfn : P.funcs[f]? = some fn) (hnm : (fn.name == "runtime.NumGoroutine") = false) (hb : fn.body = some c) (hq : compC P dr fn.ntmps c = some q) (hres : compRVs P fn.results.toList = some res)
include hfn hnm hb hq hres
theorem spLI_ok {o : List Int → Int → Out} (ho : ∀ xs z, OutOK (o xs z))
    (run : ∀ el xs cap z, o xs z ≠ .no → JQ P dr fn.ntmps F q 257 (Kend res (Good 1 (o xs z))) (bind (.cons (.sl (tp 255) 0 1 xs.length cap) (.cons (I z) .nil)) 0 .lf) (hp0 [blkL el (iL xs)] 255) 257)
    (run0 : ∀ z, o [] z ≠ .no → JQ P dr fn.ntmps F q 256 (Kend res (Good 0 (o [] z))) (bind (.cons .ns (.cons (I z) .nil)) 0 .lf) .lf 256) : SOK P f (spLI o) := fun args lim h n v h' n' hr => by
  have hno : ∀ {x : Out}, x.res h n = .ok v h' n' → x ≠ .no := fun {x} e e' => by subst e'; cases e
  unfold spLI at hr
  split at hr
  · rename_i sv v0
    split at hr
    · rename_i z hz
      unfold onL at hr
      split at hr
      · rename_i xs hx
        unfold rdL at hx
        split at hx
        · cases hx
          exact outC hfn hnm hb hq hres (Ins.none h) (by simp [L.length]) (fun g => rel_cons (fun u hu => V.pur_rel (by simp [V.pur]) hu) (rel_cons (fun u hu => V.pur_rel (I_pur z) (asI_rel hz hu)) fun _ h => L.pur_rel rfl h)) _ (ho [] z) (run0 z (hno hr)) lim n hr
        · rename_i p off len cap
          obtain ⟨el, I1⟩ := Ins.one hx
          obtain ⟨e1, _⟩ := win hx
          subst e1
          exact outC hfn hnm hb hq hres I1 (by simp [L.length]) (fun g => rel_cons (fun u hu => sl_ren (j := 0) (by omega) rfl hu) (rel_cons (fun u hu => V.pur_rel (I_pur z) (asI_rel hz hu)) fun _ h => L.pur_rel rfl h)) _ (ho xs z) (run el xs cap z (hno hr)) lim n hr
        · cases hx
      · cases hr
    · cases hr
  · cases hr

/-- A function that hands back a view of its argument's block. -/
theorem viewC {p : Pos} {off o esz len : Nat} {cap : Option Nat} {args args0 : L} {bs : List Blk} {h : Hp} (I : Ins [(p, off)] bs h) (hal : args0.length < 4294967296) (harg : ∀ g vs, args.rel g vs → args0.rel (ren [(p, off)] g) vs)
    (hp : ∃ b, h.get p = some b)
    (j : JQ P dr fn.ntmps F q 257 (Kend res fun v' _ _ => v' = .sl (tp 255) o esz len cap) (bind args0 0 .lf) (hp0 bs 255) 257) (lim : Nat) (n : Nat) : CallsOK P f args lim h n (.sl p (off + o) esz len cap) h n := by
  intro vs g w ha hgk m hd hf hn
  refine ⟨⟨fn, hfn, hnm, by rw [hb]; rfl⟩, ?_⟩
  refine (JQ.fn hfn hb hq hres hal j (g := ren [(p, off)] g) (w := w) (harg g vs ha) (ren_gok hgk) (I.mem m) I.dom (ren_fresh [(p, off)] g)).mono ?_
  rintro e w' ⟨u, g', v', h', n', rfl, rfl, _, hv, _, f⟩
  have keep : ∀ r, r < w.heap.size → w'.heap[r]? = w.heap[r]? := fun r hr => f.keep r hr fun p b base tot hp hl => by
    have := I.dom p b hp
    simp only [List.length_cons, List.length_nil] at this
    omega
  refine ⟨u, g, rfl, ?_, ⟨m.inj, fun p b hp => ?_⟩, ?_⟩
  · rw [V.rel] at hv ⊢
    obtain ⟨r, base, tot, c', o', h1, h2, h3, h4, h5, h6, h7, h8⟩ := hv
    rw [f.sig (tp 255) (.inl (by rw [tp_num (by omega)]; omega)), ren_at (ps := [(p, off)]) (j := 0) (by omega) rfl] at h1
    cases hg : g p with
    | none => rw [hg] at h1; cases h1
    | some x =>
      rw [hg] at h1
      obtain ⟨r0, b0, t0⟩ := x
      cases h1
      exact ⟨r0, b0, t0, c', o', rfl, h2, h3, h4, h5, fun x => by rw [h6 x]; simp [Nat.add_assoc], by simpa [Nat.add_assoc] using h7, by cases cap <;> simpa [Nat.add_assoc] using h8⟩
  · obtain ⟨r, base, tot, cur, c1, c2, c3, c4, c5, c6⟩ := m.blk p b hp
    exact ⟨r, base, tot, cur, c1, c2.keep (keep r (m.lt hp c1)), c3, c4, c5, c6⟩
  · exact { le := Nat.le_refl _, os := f.os, tape := f.tape, output := f.output, size := f.size, keep := fun r hr _ => keep r hr, sig := fun _ _ => rfl,
            dom := fun p b e => ⟨fun _ => ⟨b, e⟩, hd p b e⟩, new := fun _ _ _ _ a b => by omega }
end
/-- A view: it begins so much later, and has so many left. -/
def capOK (len : Nat) : Option Nat → Prop
  | some c => len ≤ c
  | none => True
noncomputable def spV (k : Nat → Nat × Nat) (args : L) (_ : Nat) (h : Hp) (n : Nat) : Res := match args with
  | .cons (.sl p off 1 len cap) .nil => (match rdB (h.get p) off len with | some _ => (open Classical in if 1 ≤ len ∧ len < 9223372036854775808 ∧ capOK len cap then .ok (.sl p (off + (k len).1) 1 (k len).2 (some (k len).2)) h n else .no) | none => .no)
  | _ => .no
theorem spV_eq (k : Nat → Nat × Nat) (p : Pos) (off len : Nat) (cap : Option Nat) (xs : List Int) (lim : Nat) (h : Hp) (n : Nat) (hx : rdB (h.get p) off len = some xs) (h1 : 1 ≤ len) (h2 : len < 9223372036854775808) (h3 : capOK len cap) :
    spV k (.cons (.sl p off 1 len cap) .nil) lim h n = .ok (.sl p (off + (k len).1) 1 (k len).2 (some (k len).2)) h n := by
  simp only [spV, hx]
  rw [if_pos ⟨h1, h2, h3⟩]
theorem spV_mo (k : Nat → Nat × Nat) : SMo (spV k) := fun args lim h n => by
  unfold spV
  split
  · split
    · split <;> first | exact Nat.le_refl n | trivial
    · trivial
  · trivial
theorem spV_ok {P : Program} {dr : List Nat} {F : FF} {q : IC} {f : Nat} {fn : Func} {c : Code} {res : List RV} {k : Nat → Nat × Nat}
    (hfn : P.funcs[f]? = some fn) (hnm : (fn.name == "runtime.NumGoroutine") = false) (hb : fn.body = some c) (hq : compC P dr fn.ntmps c = some q) (hres : compRVs P fn.results.toList = some res)
    (run : ∀ el xs cap, 1 ≤ xs.length → xs.length < 9223372036854775808 → capOK xs.length cap → JQ P dr fn.ntmps F q 257 (Kend res fun v' _ _ => v' = .sl (tp 255) (k xs.length).1 1 (k xs.length).2 (some (k xs.length).2)) (bind (.cons (.sl (tp 255) 0 1 xs.length cap) .nil) 0 .lf) (hp0 [blkL el (iL xs)] 255) 257) : SOK P f (spV k) := fun args lim h n v h' n' hr => by
  unfold spV at hr
  split at hr
  · rename_i p off len cap
    split at hr
    · rename_i xs hx
      split at hr
      · rename_i hc
        cases hr
        obtain ⟨el, I1⟩ := Ins.one hx
        obtain ⟨e1, b, hb2, _⟩ := win hx
        subst e1
        exact viewC hfn hnm hb hq hres I1 (by simp [L.length]) (fun g => rel_cons (fun u hu => sl_ren (j := 0) (by omega) rfl hu) fun _ h => L.pur_rel rfl h) ⟨b, hb2⟩ (run el xs cap hc.1 hc.2.1 hc.2.2) lim n
      · cases hr
    · cases hr
  · cases hr

/-! Slices with three indices. -/
noncomputable def slcK (esz : Nat) (p : Pos) (off l h m c0 : Nat) : V := Bool.rec .bad (fN (Nat.add off (Nat.mul l esz)) fun o' => fN (Nat.sub h l) fun k => fN (Nat.sub m l) fun c => .sl p o' esz k (some c)) (and (Nat.ble l h) (and (Nat.ble h m) (Nat.ble m c0)))
noncomputable def slc3V (esz : Nat) (v a b c : V) : V := onS v (fun p off e' len cap => Bool.rec .bad (onN a (fun l => onN b (fun h => Option.rec (onN c (fun m => slcK esz p off l h m len) .bad) (fun c0 => onN c (fun m => slcK esz p off l h m c0) .bad) cap) .bad) .bad) (Nat.beq e' esz))
  (onN a (fun l => onN b (fun h => onN c (fun m => Bool.rec .bad .ns (Nat.beq (Nat.add l (Nat.add h m)) 0)) .bad) .bad) .bad) .bad
theorem O_slc3 (esz : Nat) (x l hh m : X) (F : FF) (e : Tr) (lim : Nat) (h : Hp) (n : Nat) : (O.slc esz x (some l) (some hh) (some m)).ev F e lim h n = pv (slc3V esz (evX x e) (evX l e) (evX hh e) (evX m e)) h n := rfl
theorem O_slc2 (esz : Nat) (x hh m : X) (F : FF) (e : Tr) (lim : Nat) (h : Hp) (n : Nat) : (O.slc esz x none (some hh) (some m)).ev F e lim h n = pv (slc3V esz (evX x e) (I 0) (evX hh e) (evX m e)) h n := by
  rw [show (I 0 : V) = .n 0 from rfl]
  rfl
theorem slcK_ok {esz : Nat} {p : Pos} {off l h m c0 : Nat} (h1 : l ≤ h) (h2 : h ≤ m) (h3 : m ≤ c0) : slcK esz p off l h m c0 = .sl p (off + l * esz) esz (h - l) (some (m - l)) := by
  have : and (Nat.ble l h) (and (Nat.ble h m) (Nat.ble m c0)) = true := by simp only [Bool.and_eq_true, Nat.ble_eq]; exact ⟨h1, h2, h3⟩
  unfold slcK
  rw [this]
  simp only [fN_eq]
  rfl
theorem slc3_ok {p : Pos} {off len : Nat} {cap : Option Nat} {a b c : Int} (h0 : 0 ≤ a) (h1 : a ≤ b) (h2 : b ≤ c) (h3 : c ≤ len) (h4 : len < 9223372036854775808) (hc : capOK len cap) :
    slc3V 1 (.sl p off 1 len cap) (I a) (I b) (I c) = .sl p (off + a.toNat) 1 (b - a).toNat (some (c - a).toNat) := by
  show (onN (I a) (fun l => onN (I b) (fun h => Option.rec (onN (I c) (fun m => slcK 1 p off l h m len) .bad) (fun c0 => onN (I c) (fun m => slcK 1 p off l h m c0) .bad) cap) .bad) .bad : V) = _
  rw [onN_I _ _ h0 (by omega), onN_I _ _ (by omega) (by omega)]
  cases cap with
  | none =>
    show onN (I c) _ _ = _
    rw [onN_I _ _ (by omega) (by omega), slcK_ok (by omega) (by omega) (by omega), Nat.mul_one]
    congr 2 <;> omega
  | some c0 =>
    have hc' : len ≤ c0 := hc
    show onN (I c) _ _ = _
    rw [onN_I _ _ (by omega) (by omega), slcK_ok (by omega) (by omega) (by omega), Nat.mul_one]
    congr 2 <;> omega
theorem run73 (el : TypeId) (xs : List Int) (cap : Option Nat) (h1 : 1 ≤ xs.length) (h2 : xs.length < 9223372036854775808) (hc : capOK xs.length cap) :
    JQ Try.prog drops Try.f73.ntmps F0 q73 257 (Kend res73 fun v' _ _ => v' = .sl (tp 255) 1 1 (xs.length - 1) (some (xs.length - 1))) (bind (.cons (.sl (tp 255) 0 1 xs.length cap) .nil) 0 .lf) (hp0 [blkL el (iL xs)] 255) 257 := by
  have hF := F0_ok Try.prog
  have hM := F0_mono
  have hs : slc3V 1 (.sl (tp 255) 0 1 xs.length cap) (I 1) (I xs.length) (I xs.length) = .sl (tp 255) 1 1 (xs.length - 1) (some (xs.length - 1)) := by
    rw [slc3_ok (by omega) (by omega) (by omega) (by omega) h2 hc]
    congr 2 <;> omega
  unfold q73
  (refine JQ.step follows hF hM ?_; simp (config := { maxSteps := 4000000 }) (disch := (omega)) only [go_sem, Nat.reduceLT, Nat.reduceEqDiff, reduceIte, Nat.reduceAdd, Nat.reduceSub, Nat.reduceLeDiff, Int.reduceEq, Int.reduceLT, Int.reduceLE, Int.reduceNeg, Int.reduceAdd, Int.reduceSub, Int.reduceToNat, Int.reduceMul, Nat.reduceMul])
  (refine JQ.run follows hF hM ?_; simp (config := { maxSteps := 4000000 }) (disch := (omega)) only [go_sem, Nat.reduceLT, Nat.reduceEqDiff, reduceIte, Nat.reduceAdd, Nat.reduceSub, Nat.reduceLeDiff, Int.reduceEq, Int.reduceLT, Int.reduceLE, Int.reduceNeg, Int.reduceAdd, Int.reduceSub, Int.reduceToNat, Int.reduceMul, Nat.reduceMul, O_slc3, hs, res73])
def v73 : Nat → Nat × Nat := fun l => (1, l - 1)
theorem ok73 : SOK Try.prog 73 (spV v73) := spV_ok Try.func73 n73 b73 k73 r73 run73
noncomputable def cpyB (ob ob' : Option Blk) (a : Pos) (off esz len off' esz' len' lim : Nat) (h : Hp) (n : Nat) : Res :=
  Option.rec .no (fun b => Option.rec .no (fun b' => fN (Bool.rec len' len (Nat.ble len len')) fun k =>
      Bool.rec .no (h.putK (some (b.setL off (b'.getL off' k))) a fun h' => .ok (.n k) h' n)
        (and (Nat.beq esz 1) (and (Nat.beq esz' 1) (and (Nat.ble (Nat.add off k) b.size) (and (Nat.ble (Nat.add off' k) b'.size) (and ((b'.getL off' k).allC) (Nat.ble lim a.num))))))) ob') ob
noncomputable def cpyV (v u : V) (lim : Nat) (h : Hp) (n : Nat) : Res := onS v (fun a off esz len _ => onS u (fun a' off' esz' len' _ => cpyB (h.get a) (h.get a') a off esz len off' esz' len' lim h n) (.ok (.n 0) h n) .no)
  (onS u (fun _ _ _ _ _ => .ok (.n 0) h n) (.ok (.n 0) h n) .no) .no
theorem O_cpy (x y : X) (F : FF) (e : Tr) (lim : Nat) (h : Hp) (n : Nat) : (O.cpy x y).ev F e lim h n = cpyV (evX x e) (evX y e) lim h n := rfl
theorem cpyV_ss (a a' : Pos) (off esz len off' esz' len' : Nat) (c c' : Option Nat) (lim : Nat) (h : Hp) (n : Nat) : cpyV (.sl a off esz len c) (.sl a' off' esz' len' c') lim h n = cpyB (h.get a) (h.get a') a off esz len off' esz' len' lim h n := rfl
theorem cpyV_sn (a : Pos) (off esz len : Nat) (c : Option Nat) (lim : Nat) (h : Hp) (n : Nat) : cpyV (.sl a off esz len c) .ns lim h n = .ok (I 0) h n := rfl
theorem cpyB_ok (el el' s zl t len len' lim : Nat) (z : L) (m : Tr) (xs : List Int) (h : Hp) (n : Nat) (h1 : len' = xs.length) (h2 : xs.length ≤ len) (h3 : xs.length ≤ s) (h4 : lim ≤ t + 1) (h5 : t < 4294967296) (h6 : xs.length ≤ 1001) :
    cpyB (some ⟨el', s, zl, z, m⟩) (some (blkL el (iL xs))) (tp t) 0 1 len 0 1 len' lim h n = .ok (I xs.length) (h.put (some ((⟨el', s, zl, z, m⟩ : Blk).setL 0 (iL xs))) (tp t)) n := by
  subst h1
  have hk : (Bool.rec xs.length len (Nat.ble len xs.length) : Nat) = xs.length := by
    cases hb : Nat.ble len xs.length
    · rfl
    · rw [Nat.ble_eq] at hb; show len = _; omega
  show (fN (Bool.rec xs.length len (Nat.ble len xs.length)) _ : Res) = _
  rw [fN_eq, hk, getL_blkL _ _ _ (by rw [iL_len])]
  have hc : and (Nat.beq 1 1) (and (Nat.beq 1 1) (and (Nat.ble (Nat.add 0 xs.length) s) (and (Nat.ble (Nat.add 0 xs.length) (blkL el (iL xs)).size) (and ((iL xs).allC) (Nat.ble lim (tp t).num))))) = true := by
    simp only [Bool.and_eq_true, Nat.ble_eq, blkL_size, iL_len, iL_allC, tp_num h5]
    refine ⟨rfl, rfl, ?_, ?_, trivial, h4⟩
    · show 0 + xs.length ≤ s; omega
    · show 0 + xs.length ≤ _; omega
  show (Bool.rec .no _ (and (Nat.beq 1 1) (and (Nat.beq 1 1) (and (Nat.ble (Nat.add 0 xs.length) s) (and (Nat.ble (Nat.add 0 xs.length) (blkL el (iL xs)).size) (and ((iL xs).allC) (Nat.ble lim (tp t).num)))))) : Res) = _
  rw [hc]
  show (h.putK _ _ _ : Res) = _
  rw [Hp.putK_eq]
  congr 1
  show V.n xs.length = mkI .i64 (Int.ofNat xs.length)
  simp only [mkI, fN_eq]
  rw [show Nat.blt xs.length 9223372036854775808 = true from Nat.blt_eq.mpr (by omega)]
theorem withB {el s : Nat} {xs : List Int} {z : Int} (hs : s = xs.length + 1) (hm : xs.length ≤ 1000) :
    BlkLe (blkL el (iL (xs ++ [z]))) (((⟨el, s, 1, .cons (I 0) .nil, .lf⟩ : Blk).setL 0 (iL xs)).setL xs.length (.cons (I z) .nil)) := by
  have e1 := setL_size (⟨el, s, 1, .cons (I 0) .nil, .lf⟩ : Blk) (iL xs) 0
  have e2 := setL_size ((⟨el, s, 1, .cons (I 0) .nil, .lf⟩ : Blk).setL 0 (iL xs)) (.cons (I z) .nil) xs.length
  refine ⟨.inl rfl, by rw [e2.2.1, e1.2.1]; rfl, by rw [e2.1, e1.1, blkL_size, iL_len, List.length_append]; show xs.length + 1 ≤ s; omega, fun k hk => .inr ?_⟩
  rw [blkL_size, iL_len, List.length_append] at hk
  simp at hk
  rw [blkL_cell _ _ _ (by rw [iL_len, List.length_append]; simp; omega), iL_get _ _ (by rw [List.length_append]; simp; omega)]
  by_cases hlt : k < xs.length
  · rw [cell_setL_out _ _ _ _ (by simp [L.length, maxSize]; omega) (by unfold maxSize; omega) (by simp [L.length]; omega), cell_setL_in _ _ _ _ (by rw [iL_len]; unfold maxSize; omega) (by unfold maxSize; omega) (iL_allC _) (Nat.zero_le _) (by rw [iL_len]; omega), Nat.sub_zero, iL_get _ _ hlt]
    simp [At, List.getElem?_append_left hlt]
  · obtain rfl : k = xs.length := by omega
    rw [cell_setL_in _ _ _ _ (by simp [L.length, maxSize]; omega) (by unfold maxSize; omega) (by simp [L.allC, I_isC]) (Nat.le_refl _) (by simp [L.length])]
    simp [At, L.get]
noncomputable def f65 (xs : List Int) (z : Int) : Out := if xs.length ≤ 1000 then .sl 3 1 (xs.length + 1) (some (xs.length + 1)) (iL (xs ++ [z])) else .no
theorem run65 (el : TypeId) (xs : List Int) (cap : Option Nat) (z : Int) (hl : xs.length ≤ 1000) :
    JQ Try.prog drops Try.f65.ntmps F0 q65 257 (Kend res65 (Good 1 (.sl 3 1 (xs.length + 1) (some (xs.length + 1)) (iL (xs ++ [z]))))) (bind (.cons (.sl (tp 255) 0 1 xs.length cap) (.cons (I z) .nil)) 0 .lf) (hp0 [blkL el (iL xs)] 255) 257 := by
  have hF := F0_ok Try.prog
  have hM := F0_mono
  unfold q65
  (refine JQ.step follows hF hM ?_; simp (config := { maxSteps := 4000000 }) (disch := (omega)) only [go_sem, Nat.reduceLT, Nat.reduceEqDiff, reduceIte, Nat.reduceAdd, Nat.reduceSub, Nat.reduceLeDiff, Int.reduceEq, Int.reduceLT, Int.reduceLE, Int.reduceNeg, Int.reduceAdd, Int.reduceSub, Int.reduceToNat, Int.reduceMul, Nat.reduceMul])
  (refine JQ.step follows hF hM ?_; simp (config := { maxSteps := 4000000 }) (disch := (omega)) only [go_sem, Nat.reduceLT, Nat.reduceEqDiff, reduceIte, Nat.reduceAdd, Nat.reduceSub, Nat.reduceLeDiff, Int.reduceEq, Int.reduceLT, Int.reduceLE, Int.reduceNeg, Int.reduceAdd, Int.reduceSub, Int.reduceToNat, Int.reduceMul, Nat.reduceMul])
  (refine JQ.step follows hF hM ?_; simp (config := { maxSteps := 4000000 }) (disch := (omega)) only [go_sem, Nat.reduceLT, Nat.reduceEqDiff, reduceIte, Nat.reduceAdd, Nat.reduceSub, Nat.reduceLeDiff, Int.reduceEq, Int.reduceLT, Int.reduceLE, Int.reduceNeg, Int.reduceAdd, Int.reduceSub, Int.reduceToNat, Int.reduceMul, Nat.reduceMul, O_cpy, cpyV_ss, cpyB_ok])
  (refine JQ.step follows hF hM ?_; simp (config := { maxSteps := 4000000 }) (disch := (omega)) only [go_sem, Nat.reduceLT, Nat.reduceEqDiff, reduceIte, Nat.reduceAdd, Nat.reduceSub, Nat.reduceLeDiff, Int.reduceEq, Int.reduceLT, Int.reduceLE, Int.reduceNeg, Int.reduceAdd, Int.reduceSub, Int.reduceToNat, Int.reduceMul, Nat.reduceMul])
  have ht : ((xs.length : Int) + 1).toNat = xs.length + 1 := by omega
  rw [ht]
  refine JQ.weak (e0 := Tr.lf.set (.sl (tp 256) 0 1 (xs.length + 1) (some (xs.length + 1))) (tp 5)) (h0 := Hp.lf.put (some (blkL 3 (iL (xs ++ [z])))) (tp 256)) (by ((repeat' (first | exact EnvLe.lf _ | refine EnvLe.set (by decide) ?_ ?_)) <;> first | exact EnvLe.lf _ | (simp (config := { maxSteps := 4000000 }) (disch := (omega)) only [go_sem, Nat.reduceLT, Nat.reduceEqDiff, reduceIte, Nat.reduceAdd, Nat.reduceSub, Nat.reduceLeDiff, Int.reduceEq, Int.reduceLT, Int.reduceLE, Int.reduceNeg, Int.reduceAdd, Int.reduceSub, Int.reduceToNat, Int.reduceMul, Nat.reduceMul, Int.natCast_add, Int.cast_ofNat_Int]; done) | (simp (config := { maxSteps := 4000000 }) (disch := (omega)) only [go_sem, Nat.reduceLT, Nat.reduceEqDiff, reduceIte, Nat.reduceAdd, Nat.reduceSub, Nat.reduceLeDiff, Int.reduceEq, Int.reduceLT, Int.reduceLE, Int.reduceNeg, Int.reduceAdd, Int.reduceSub, Int.reduceToNat, Int.reduceMul, Nat.reduceMul, Int.natCast_add, Int.cast_ofNat_Int] <;> first | rfl | (congr 1; omega)))) (HpLe.put ⟨_, hget_same _ _ _, withB rfl hl⟩ (HpLe.lf _)) ?_
  (refine JQ.run follows hF hM ?_; simp (config := { maxSteps := 4000000 }) (disch := (omega)) only [go_sem, Nat.reduceLT, Nat.reduceEqDiff, reduceIte, Nat.reduceAdd, Nat.reduceSub, Nat.reduceLeDiff, Int.reduceEq, Int.reduceLT, Int.reduceLE, Int.reduceNeg, Int.reduceAdd, Int.reduceSub, Int.reduceToNat, Int.reduceMul, Nat.reduceMul, res65])
  exact ⟨by simp, goodI (t := 256) (nb := 1) (n' := 258) (hget_same _ _ _) (by omega) (by omega) (by omega)⟩
theorem run65n (z : Int) : JQ Try.prog drops Try.f65.ntmps F0 q65 256 (Kend res65 (Good 0 (.sl 3 1 ([] : List Int).length.succ (some ([] : List Int).length.succ) (iL ([] ++ [z]))))) (bind (.cons .ns (.cons (I z) .nil)) 0 .lf) .lf 256 := by
  have hF := F0_ok Try.prog
  have hM := F0_mono
  unfold q65
  (refine JQ.step follows hF hM ?_; simp (config := { maxSteps := 4000000 }) (disch := (omega)) only [go_sem, Nat.reduceLT, Nat.reduceEqDiff, reduceIte, Nat.reduceAdd, Nat.reduceSub, Nat.reduceLeDiff, Int.reduceEq, Int.reduceLT, Int.reduceLE, Int.reduceNeg, Int.reduceAdd, Int.reduceSub, Int.reduceToNat, Int.reduceMul, Nat.reduceMul])
  (refine JQ.step follows hF hM ?_; simp (config := { maxSteps := 4000000 }) (disch := (omega)) only [go_sem, Nat.reduceLT, Nat.reduceEqDiff, reduceIte, Nat.reduceAdd, Nat.reduceSub, Nat.reduceLeDiff, Int.reduceEq, Int.reduceLT, Int.reduceLE, Int.reduceNeg, Int.reduceAdd, Int.reduceSub, Int.reduceToNat, Int.reduceMul, Nat.reduceMul])
  (refine JQ.step follows hF hM ?_; simp (config := { maxSteps := 4000000 }) (disch := (omega)) only [go_sem, Nat.reduceLT, Nat.reduceEqDiff, reduceIte, Nat.reduceAdd, Nat.reduceSub, Nat.reduceLeDiff, Int.reduceEq, Int.reduceLT, Int.reduceLE, Int.reduceNeg, Int.reduceAdd, Int.reduceSub, Int.reduceToNat, Int.reduceMul, Nat.reduceMul, O_cpy, cpyV_sn])
  (refine JQ.step follows hF hM ?_; simp (config := { maxSteps := 4000000 }) (disch := (omega)) only [go_sem, Nat.reduceLT, Nat.reduceEqDiff, reduceIte, Nat.reduceAdd, Nat.reduceSub, Nat.reduceLeDiff, Int.reduceEq, Int.reduceLT, Int.reduceLE, Int.reduceNeg, Int.reduceAdd, Int.reduceSub, Int.reduceToNat, Int.reduceMul, Nat.reduceMul])
  have hw := withB (el := 3) (s := 1) (xs := []) (z := z) rfl (by simp)
  refine JQ.weak (e0 := Tr.lf.set (.sl (tp 255) 0 1 1 (some 1)) (tp 5)) (h0 := Hp.lf.put (some (blkL 3 (iL [z]))) (tp 255)) (by ((repeat' (first | exact EnvLe.lf _ | refine EnvLe.set (by decide) ?_ ?_)) <;> first | exact EnvLe.lf _ | (simp (config := { maxSteps := 4000000 }) (disch := (omega)) only [go_sem, Nat.reduceLT, Nat.reduceEqDiff, reduceIte, Nat.reduceAdd, Nat.reduceSub, Nat.reduceLeDiff, Int.reduceEq, Int.reduceLT, Int.reduceLE, Int.reduceNeg, Int.reduceAdd, Int.reduceSub, Int.reduceToNat, Int.reduceMul, Nat.reduceMul, Int.natCast_add, Int.cast_ofNat_Int]; done) | (simp (config := { maxSteps := 4000000 }) (disch := (omega)) only [go_sem, Nat.reduceLT, Nat.reduceEqDiff, reduceIte, Nat.reduceAdd, Nat.reduceSub, Nat.reduceLeDiff, Int.reduceEq, Int.reduceLT, Int.reduceLE, Int.reduceNeg, Int.reduceAdd, Int.reduceSub, Int.reduceToNat, Int.reduceMul, Nat.reduceMul, Int.natCast_add, Int.cast_ofNat_Int] <;> first | rfl | (congr 1; omega)))) (HpLe.put ⟨_, hget_same _ _ _, hw⟩ (HpLe.lf _)) ?_
  (refine JQ.run follows hF hM ?_; simp (config := { maxSteps := 4000000 }) (disch := (omega)) only [go_sem, Nat.reduceLT, Nat.reduceEqDiff, reduceIte, Nat.reduceAdd, Nat.reduceSub, Nat.reduceLeDiff, Int.reduceEq, Int.reduceLT, Int.reduceLE, Int.reduceNeg, Int.reduceAdd, Int.reduceSub, Int.reduceToNat, Int.reduceMul, Nat.reduceMul, res65])
  exact ⟨by simp, goodI (t := 255) (nb := 0) (n' := 257) (xs := [z]) (hget_same _ _ _) (by omega) (by omega) (by omega)⟩
theorem ok65 : SOK Try.prog 65 (spLI f65) := spLI_ok Try.func65 n65 b65 k65 r65
  (fun xs z => by unfold f65; split <;> first | exact ⟨iL_pur _, by rw [iL_len]; simp⟩ | trivial)
  (fun el xs cap z hno => by
    unfold f65 at hno ⊢
    split
    · rename_i hl; exact run65 el xs cap z hl
    · rename_i hl; rw [if_neg hl] at hno; exact absurd rfl hno)
  (fun z _ => by
    unfold f65
    rw [if_pos (by simp)]
    exact run65n z)
noncomputable def f66 (xs : List Int) : Out := if 1 ≤ xs.length ∧ xs.length ≤ 1000 then .v (I (At xs (xs.length - 1))) else .no
theorem run66 (el : TypeId) (xs : List Int) (cap : Option Nat) (h1 : 1 ≤ xs.length) (hl : xs.length ≤ 1000) :
    JQ Try.prog drops Try.f66.ntmps F0 q66 257 (Kend res66 (Good 1 (.v (I (At xs (xs.length - 1)))))) (bind (.cons (.sl (tp 255) 0 1 xs.length cap) .nil) 0 .lf) (hp0 [blkL el (iL xs)] 255) 257 := by
  have hF := F0_ok Try.prog
  have hM := F0_mono
  have ht : ((xs.length : Int) - 1).toNat = xs.length - 1 := by omega
  unfold q66
  (refine JQ.step follows hF hM ?_; simp (config := { maxSteps := 4000000 }) (disch := (omega)) only [go_sem, Nat.reduceLT, Nat.reduceEqDiff, reduceIte, Nat.reduceAdd, Nat.reduceSub, Nat.reduceLeDiff, Int.reduceEq, Int.reduceLT, Int.reduceLE, Int.reduceNeg, Int.reduceAdd, Int.reduceSub, Int.reduceToNat, Int.reduceMul, Nat.reduceMul])
  (refine JQ.run follows hF hM ?_; simp (config := { maxSteps := 4000000 }) (disch := (omega)) only [go_sem, Nat.reduceLT, Nat.reduceEqDiff, reduceIte, Nat.reduceAdd, Nat.reduceSub, Nat.reduceLeDiff, Int.reduceEq, Int.reduceLT, Int.reduceLE, Int.reduceNeg, Int.reduceAdd, Int.reduceSub, Int.reduceToNat, Int.reduceMul, Nat.reduceMul, res66, ht])
theorem ok66 : SOK Try.prog 66 (spL f66) := spL_ok Try.func66 n66 b66 k66 r66
  (fun xs => by unfold f66; split <;> first | exact I_pur _ | trivial)
  (fun el xs cap hno => by
    unfold f66 at hno ⊢
    split
    · rename_i hl; exact run66 el xs cap hl.1 hl.2
    · rename_i hl; rw [if_neg hl] at hno; exact absurd rfl hno)
  (fun hno => by
    unfold f66 at hno
    rw [if_neg (by simp)] at hno
    exact absurd rfl hno)
def v67 : Nat → Nat × Nat := fun l => (0, l - 1)
theorem run67 (el : TypeId) (xs : List Int) (cap : Option Nat) (h1 : 1 ≤ xs.length) (h2 : xs.length < 9223372036854775808) (hc : capOK xs.length cap) :
    JQ Try.prog drops Try.f67.ntmps F0 q67 257 (Kend res67 fun v' _ _ => v' = .sl (tp 255) 0 1 (xs.length - 1) (some (xs.length - 1))) (bind (.cons (.sl (tp 255) 0 1 xs.length cap) .nil) 0 .lf) (hp0 [blkL el (iL xs)] 255) 257 := by
  have hF := F0_ok Try.prog
  have hM := F0_mono
  have hs : slc3V 1 (.sl (tp 255) 0 1 xs.length cap) (I 0) (I (xs.length - 1)) (I (xs.length - 1)) = .sl (tp 255) 0 1 (xs.length - 1) (some (xs.length - 1)) := by
    rw [slc3_ok (by omega) (by omega) (by omega) (by omega) h2 hc]
    congr 2 <;> omega
  unfold q67
  (refine JQ.step follows hF hM ?_; simp (config := { maxSteps := 4000000 }) (disch := (omega)) only [go_sem, Nat.reduceLT, Nat.reduceEqDiff, reduceIte, Nat.reduceAdd, Nat.reduceSub, Nat.reduceLeDiff, Int.reduceEq, Int.reduceLT, Int.reduceLE, Int.reduceNeg, Int.reduceAdd, Int.reduceSub, Int.reduceToNat, Int.reduceMul, Nat.reduceMul])
  (refine JQ.step follows hF hM ?_; simp (config := { maxSteps := 4000000 }) (disch := (omega)) only [go_sem, Nat.reduceLT, Nat.reduceEqDiff, reduceIte, Nat.reduceAdd, Nat.reduceSub, Nat.reduceLeDiff, Int.reduceEq, Int.reduceLT, Int.reduceLE, Int.reduceNeg, Int.reduceAdd, Int.reduceSub, Int.reduceToNat, Int.reduceMul, Nat.reduceMul])
  (refine JQ.run follows hF hM ?_; simp (config := { maxSteps := 4000000 }) (disch := (omega)) only [go_sem, Nat.reduceLT, Nat.reduceEqDiff, reduceIte, Nat.reduceAdd, Nat.reduceSub, Nat.reduceLeDiff, Int.reduceEq, Int.reduceLT, Int.reduceLE, Int.reduceNeg, Int.reduceAdd, Int.reduceSub, Int.reduceToNat, Int.reduceMul, Nat.reduceMul, O_slc2, hs, res67])
theorem ok67 : SOK Try.prog 67 (spV v67) := spV_ok Try.func67 n67 b67 k67 r67 run67
variable {P : Program} {dr : List Nat} {F : FF} {q : IC} {f : Nat} {fn : Func} {c : Code} {res : List RV} {args args0 : L} {ps : List (Pos × Nat)} {bs : List Blk} {h : Hp}
theorem sliceR2 (hfn : P.funcs[f]? = some fn) (hb : fn.body = some c) (hq : compC P dr fn.ntmps c = some q) (hres : compRVs P fn.results.toList = some res) (hnm : (fn.name == "runtime.NumGoroutine") = false)
    (I : Ins ps bs h) (hal : args0.length < 4294967296) (harg : ∀ g vs, args.rel g vs → args0.rel (ren ps g) vs)
    {el esz len esz2 len2 : Nat} {cap cap2 : Option Nat} {l : L} (hlp : l.pur = true) (hll : l.length = len * esz)
    (j : JQ P dr fn.ntmps F q (256 + ps.length) (Kend res fun v' h' n' => ∃ p off b p2 off2, v' = .tu (.cons (.sl p off esz len cap) (.cons (.sl p2 off2 esz2 len2 cap2) .nil)) ∧ 256 + ps.length ≤ p.num ∧ p.num < n' ∧ (256 + ps.length ≤ p2.num ∧ p2.num < n') ∧ h'.get p = some b ∧ b.el = el ∧ off + l.length ≤ b.size ∧ ∀ k, k < l.length → b.cell (off + k) = l.get k)
      (bind args0 0 .lf) (hp0 bs 255) (256 + ps.length)) (lim : Nat) {n : Nat} (hn1 : 1 ≤ n) :
    CallsOK P f args lim h n (.tu (.cons (.sl (posF 63 n) 0 esz len cap) (.cons (.sl (posF 63 (n + 1)) 0 esz2 len2 cap2) .nil))) (h.put (some (blkL el l)) (posF 63 n)) (n + 2) := by
  intro vs g w ha hgk m hd hf hn
  refine ⟨⟨fn, hfn, hnm, by rw [hb]; rfl⟩, ?_⟩
  refine (JQ.fn hfn hb hq hres hal j (g := ren ps g) (w := w) (harg g vs ha) (ren_gok hgk) (I.mem m) I.dom (ren_fresh ps g)).mono ?_
  rintro e w' ⟨u, g', v', h', n', rfl, ⟨p, off, b, p2, off2, rfl, hp1, hp2, hp22, hpb, hel, hsz, hcell⟩, _, hv, m', fr⟩
  have keep : ∀ r, r < w.heap.size → w'.heap[r]? = w.heap[r]? := fun r hr => fr.keep r hr fun p b base tot hp hl => by
    have := I.dom p b hp; omega
  obtain ⟨r, base, tot, cur, c1, c2, c3, c4, c5, c6⟩ := m'.blk p b hpb
  have newer : ∀ {p r base tot}, 256 + ps.length ≤ p.num → p.num < n' → g' p = some (r, base, tot) → w.heap.size ≤ r := fun {p r base tot} h1 h2 h3 => by
    rcases fr.new p r base tot h1 h2 h3 with h1 | ⟨q0, b0, x, y, h1, h2, h3⟩
    · exact h1
    · have := I.dom q0 b0 h1; omega
  have hr : w.heap.size ≤ r := newer hp1 hp2 c1
  have hpn : (posF 63 n).num = n := num_posF 63 n hn1 (by omega)
  have hpn2 : (posF 63 (n + 1)).num = n + 1 := num_posF 63 (n + 1) (by omega) (by omega)
  have hne : posF 63 (n + 1) ≠ posF 63 n := fun e => by rw [e, hpn] at hpn2; omega
  have hA : g (posF 63 n) = none := hf _ (by omega) (by omega)
  have hB : g (posF 63 (n + 1)) = none := hf _ (by omega) (by omega)
  have hlpur : ∀ (l : L) k, l.pur = true → (l.get k).pur = true := by
    intro l
    induction l using L.rec (motive_1 := fun _ => True) with
    | nil => intro k _; rfl
    | cons v l _ ih =>
      intro k hk
      simp [L.pur] at hk
      cases k with
      | zero => exact hk.1
      | succ k => exact ih k hk.2
    | _ => trivial
  rw [V.rel] at hv
  obtain ⟨vs0, hu, u1, us1, hvs, hv1, u2, us2, hvs1, hv2, hnil⟩ := hv
  rw [V.rel] at hv2
  obtain ⟨r2, base2, tot2, c2', o2', k1, k2, k3, k4, k5, k6, k7, k8⟩ := hv2
  have hr2 : w.heap.size ≤ r2 := newer hp22.1 hp22.2 k1
  have hB1 : gput g (posF 63 n) (r, base + off, tot) (posF 63 (n + 1)) = none := by unfold gput; rw [if_neg hne]; exact hB
  have le2 : ∀ {v : V} {u : Value}, v.rel g u → v.rel (gput (gput g (posF 63 n) (r, base + off, tot)) (posF 63 (n + 1)) (r2, base2 + off2, tot2)) u := fun {v u} hh => V.rel_mono (gput_le _ hB1) _ (V.rel_mono (gput_le _ hA) _ hh)
  have gA : gput (gput g (posF 63 n) (r, base + off, tot)) (posF 63 (n + 1)) (r2, base2 + off2, tot2) (posF 63 n) = some (r, base + off, tot) := by
    unfold gput; rw [if_neg (fun e => hne e.symm), if_pos rfl]
  have gB : gput (gput g (posF 63 n) (r, base + off, tot)) (posF 63 (n + 1)) (r2, base2 + off2, tot2) (posF 63 (n + 1)) = some (r2, base2 + off2, tot2) := by
    unfold gput; rw [if_pos rfl]
  have gO : ∀ p, p ≠ posF 63 n → p ≠ posF 63 (n + 1) → gput (gput g (posF 63 n) (r, base + off, tot)) (posF 63 (n + 1)) (r2, base2 + off2, tot2) p = g p := fun p e1 e2 => by
    unfold gput; rw [if_neg e2, if_neg e1]
  refine ⟨u, gput (gput g (posF 63 n) (r, base + off, tot)) (posF 63 (n + 1)) (r2, base2 + off2, tot2), rfl, ?_, ⟨?_, ?_⟩, ?_⟩
  · rw [V.rel]
    refine ⟨vs0, hu, u1, us1, hvs, ?_, u2, us2, hvs1, ?_, hnil⟩
    · rw [V.rel] at hv1 ⊢
      obtain ⟨r', base', tot', c', o', e1, e2, e3, e4, e5, e6, e7, e8⟩ := hv1
      rw [c1] at e1
      cases e1
      exact ⟨r, base + off, tot, c', o', gA, e2, e3, e4, e5, fun x => by rw [e6 x]; simp, by simpa using e7, by cases cap <;> simpa using e8⟩
    · rw [V.rel]
      exact ⟨r2, base2 + off2, tot2, c2', o2', gB, k2, k3, k4, k5, fun x => by rw [k6 x]; simp, by simpa using k7, by cases cap2 <;> simpa using k8⟩
  · intro p1 p2 x1 x2 r' b1 t1 b2 t2 hp1' hp2' e1 e2
    have hp1' := (Hp.get_put _ _ _ _).symm.trans hp1'
    have hp2' := (Hp.get_put _ _ _ _).symm.trans hp2'
    by_cases z1 : p1 = posF 63 n <;> by_cases z2 : p2 = posF 63 n
    · rw [z1, z2]
    · rw [z1, gA] at e1
      rw [if_neg z2] at hp2'
      have := hd p2 x2 hp2'
      rw [gO p2 z2 (fun e => by subst e; omega)] at e2
      cases e1
      have := m.lt hp2' e2; omega
    · rw [z2, gA] at e2
      rw [if_neg z1] at hp1'
      have := hd p1 x1 hp1'
      rw [gO p1 z1 (fun e => by subst e; omega)] at e1
      cases e2
      have := m.lt hp1' e1; omega
    · rw [if_neg z1] at hp1'
      rw [if_neg z2] at hp2'
      have := hd p1 x1 hp1'
      have := hd p2 x2 hp2'
      rw [gO p1 z1 (fun e => by subst e; omega)] at e1
      rw [gO p2 z2 (fun e => by subst e; omega)] at e2
      exact m.inj p1 p2 x1 x2 r' b1 t1 b2 t2 hp1' hp2' e1 e2
  · intro p1 x hp1'
    have hp1' := (Hp.get_put _ _ _ _).symm.trans hp1'
    by_cases z1 : p1 = posF 63 n
    · rw [if_pos z1] at hp1'
      cases hp1'
      refine ⟨r, base + off, tot, cur, by rw [z1]; exact gA, c2.cut hel.symm hsz c4 rfl, c3, by show l.length = 0 ∨ base + off + l.length ≤ tot; omega, by show l.length ≤ maxSize; omega, fun k hk => ?_⟩
      have hk' : k < l.length := hk
      obtain ⟨v, d1, d2, d3⟩ := c6 (off + k) (by omega)
      refine ⟨v, by rw [Nat.add_assoc]; exact d1, d2, ?_⟩
      rw [blkL_cell el l k hk', ← hcell k hk']
      refine V.pur_rel ?_ d3
      rw [hcell k hk']; exact hlpur l k hlp
    · rw [if_neg z1] at hp1'
      have := hd p1 x hp1'
      obtain ⟨r', base', tot', cur', d1, d2, d3, d4, d5, d6⟩ := m.blk p1 x hp1'
      refine ⟨r', base', tot', cur', by rw [gO p1 z1 (fun e => by subst e; omega)]; exact d1, ((d2.mono (gput_le _ hA)).mono (gput_le _ hB1)).keep (keep r' (m.lt hp1' d1)), d3, d4, d5, fun k hk => ?_⟩
      obtain ⟨v, y1, y2, y3⟩ := d6 k hk
      exact ⟨v, y1, y2, le2 y3⟩
  · exact {
      le := by omega
      os := fr.os
      tape := fr.tape
      output := fr.output
      size := fr.size
      keep := fun r hr _ => keep r hr
      sig := fun p1 hp => gO p1 (fun e => by subst e; omega) (fun e => by subst e; omega)
      dom := fun p1 x e => by
        have e := (Hp.get_put _ _ _ _).symm.trans e
        by_cases z1 : p1 = posF 63 n
        · exact ⟨fun y => by rw [z1, hpn] at y; omega, by rw [z1, hpn]; omega⟩
        · rw [if_neg z1] at e
          exact ⟨fun _ => ⟨x, e⟩, by have := hd p1 x e; omega⟩
      new := fun p1 r' b' t' x y e => by
        by_cases z1 : p1 = posF 63 n
        · rw [z1, gA] at e
          cases e
          exact .inl hr
        · have : p1 = posF 63 (n + 1) := Pos.num_inj (by have : p1.num ≠ n := fun e => z1 (Pos.num_inj (by omega)); omega)
          rw [this, gB] at e
          cases e
          exact .inl hr2 }
end Go.Proofs.Ytkdbgkibifigiaa.Ev
