/- The examples of chapters 1 to 10 hold: they are run once. -/
import Derived.Test.YtllllpiphcbaeaaGreatDoorTvB
import Derived.Test.YtllllpiphcbaeaaGreatDoorEvPd
namespace Go.Proofs.YtllllpiphcbaeaaGreatDoor.Ev
set_option linter.unusedVariables false
set_option linter.unusedSimpArgs false
set_option maxRecDepth 100000
open Go Go.Proofs Go.RowKit
/-! The examples, once for all. -/
theorem tw_eval : (fun el => okR (EB 60 9 .nil (gK + 1) (tbH el) (gK + 1))) = fun _ => true := by kernel_rfl
noncomputable def tabOK (ob : Option Blk) : Bool := Option.rec false (fun b => and (Nat.ble 64 b.size) (eqL (b.getL 0 64) (kL .u8 zs64))) ob
noncomputable def sW (args : L) (_ : Nat) (h : Hp) (n : Nat) : Res := match args with
  | .nil => Bool.rec .no (.ok (.b true) h n) (tabOK (h.get (tp 1)))
  | .cons _ _ => .no
theorem sW_mo : SMo sW := fun args lim h n => by
  unfold sW
  cases args with
  | nil =>
    show (Bool.rec .no (.ok (.b true) h n) (tabOK (h.get (tp 1))) : Res).ge n
    cases tabOK (h.get (tp 1)) with
    | true => exact Nat.le_refl n
    | false => trivial
  | cons => trivial
theorem okW : SOK Tryz.prog 9 sW := fun args lim h n v h' n' hr => by
  cases args with
  | cons => cases hr
  | nil =>
    have hr : (Bool.rec .no (.ok (.b true) h n) (tabOK (h.get (tp 1))) : Res) = .ok v h' n' := hr
    cases ht : tabOK (h.get (tp 1)) with
    | false => rw [ht] at hr; cases hr
    | true =>
      rw [ht] at hr
      cases hr
      cases hb : h.get (tp 1) with
      | none => rw [hb] at ht; cases ht
      | some b =>
        rw [hb] at ht
        have ht : and (Nat.ble 64 b.size) (eqL (b.getL 0 64) (kL .u8 zs64)) = true := ht
        rw [Bool.and_eq_true, Nat.ble_eq] at ht
        have hz := eqL_eq _ _ ht.2
        obtain ⟨h1, n1, he, hn1⟩ := okR_ok (congrFun tw_eval b.el)
        have hc := (EB_ok 60).1 9 .nil (gK + 1) (tbH b.el) (gK + 1) _ _ _ he
        intro vs g w ha hgk m hd hf _
        have num1 : (tp 1).num = 2 := num_posF 63 2 (by omega) (by omega)
        have g1 : ren [] g (tp 1) = g (tp 1) := by unfold ren; rw [num1, if_pos (by omega)]
        have tg : ∀ p b0, (tbH b.el).get p = some b0 → p = tp 1 ∧ b0 = blkL b.el (kL .u8 zs64) := fun p b0 hp => by
          have hp : (Hp.lf.put (some ⟨b.el, (kL .u8 zs64).length, (kL .u8 zs64).length, kL .u8 zs64, .lf⟩) (tp 1)).get p = some b0 := hp
          rw [Hp.get_put] at hp
          split at hp
          · rename_i e; cases hp; exact ⟨e, rfl⟩
          · rw [Hp.get_lf] at hp; cases hp
        have hlen : (kL .u8 zs64).length = 64 := by rw [kL_length]; rfl
        have hm : Mem (ren [] g) (tbH b.el).get w := by
          refine ⟨fun p q bp bq r b1 t1 b2 t2 hp hq e1 e2 => ?_, fun p b0 hp => ?_⟩
          · rw [(tg p bp hp).1, (tg q bq hq).1]
          · obtain ⟨rfl, rfl⟩ := tg p b0 hp
            obtain ⟨r, base, tot, cur, c1, c2, c3, c4, c5, c6⟩ := m.blk (tp 1) b hb
            have hsz : (blkL b.el (kL .u8 zs64)).size = 64 := by rw [blkL_size, hlen]
            refine ⟨r, base, tot, cur, by rw [g1, c1], ?_, c3, by omega, by omega, fun k hk => ?_⟩
            · have := c2.cut (off := 0) (g' := ren [] g) (b0 := blkL b.el (kL .u8 zs64)) rfl (by omega) c4 rfl
              simpa using this
            · obtain ⟨u, d1, d2, d3⟩ := c6 k (by omega)
              refine ⟨u, d1, d2, ?_⟩
              have hcell : (blkL b.el (kL .u8 zs64)).cell k = b.cell k := by
                rw [blkL_cell _ _ _ (by rw [hlen]; omega), ← hz, getL_get _ _ _ _ (by omega), Nat.zero_add]
              rw [hcell]
              refine V.pur_rel ?_ d3
              rw [← hcell, blkL_cell _ _ _ (by rw [hlen]; omega)]
              have : ∀ (zs : List Int) (j : Nat), j < zs.length → ((kL .u8 zs).get j).pur = true := by
                intro zs
                induction zs with
                | nil => intro j hj; simp at hj
                | cons z l ih =>
                  intro j hj
                  cases j with
                  | zero => rfl
                  | succ j => exact ih j (by simpa using hj)
              exact this zs64 k (by rw [← kL_length .u8]; omega)
        obtain ⟨hx, hy⟩ := hc vs (ren [] g) w (L.pur_rel rfl ha) (ren_gok hgk) hm
          (fun p b0 hp => by rw [(tg p b0 hp).1, num1]; unfold gK; omega) ((ren_fresh [] g).to _) hn1
        refine ⟨hx, hy.mono ?_⟩
        rintro e w' ⟨u, g', rfl, hv, _, f⟩
        have keep : ∀ r, r < w.heap.size → w'.heap[r]? = w.heap[r]? := fun r hr => f.keep r hr fun p b0 base tot hp hl _ => by
          rw [(tg p b0 hp).1, num1] at hl; unfold gK at hl; omega
        refine ⟨u, g, rfl, V.pur_rel rfl hv, ⟨m.inj, fun p b hp => ?_⟩, ?_⟩
        · obtain ⟨r, base, tot, cur, c1, c2, c3, c4, c5, c6⟩ := m.blk p b hp
          exact ⟨r, base, tot, cur, c1, c2.keep (keep r (m.lt hp c1)), c3, c4, c5, c6⟩
        · exact { le := Nat.le_refl _, os := f.os, tape := f.tape, output := f.output, size := f.size, keep := fun r hr _ => keep r hr, sig := fun _ _ => rfl,
                  dom := fun p b e => ⟨fun _ => ⟨b, e⟩, hd p b e⟩, new := fun _ _ _ _ a b => by omega }
noncomputable def WW (G : FF) : FF := ov 9 sW G
theorem WW_ok (G : FF) (h : FOK Tryz.prog G) : FOK Tryz.prog (WW G) := ov_ok okW h
theorem WW_mono (G : FF) (h : G.mono) : (WW G).mono := ov_mono sW_mo h
noncomputable def EW (d : Nat) : FF := EQ WW d
theorem EW_ok (d : Nat) : FOK Tryz.prog (EW d) := EQ_ok WW_mono WW_ok d
theorem EW_mono (d : Nat) : (EW d).mono := EQ_mono WW_mono d
theorem onK_i {β : Type} (k : IntKind) (z : Int) (f : IntKind → Int → β) (s : β) : onK (.i k z) f s = f k z := rfl
theorem mkI_64 (z : Int) : mkI .i64 z = I z := rfl
noncomputable def IC.fst (x : IC) : IC := match x with | .seq a _ => a | q => q
noncomputable def IC.snd (x : IC) : IC := match x with | .seq _ b => b | q => q
noncomputable def rsE (r : Rs) : Tr := Rs.rec (motive := fun _ => Tr) .lf (fun e _ _ => e) (fun _ _ _ _ => .lf) (fun _ _ _ => .lf) r
noncomputable def rsH (r : Rs) : Hp := Rs.rec (motive := fun _ => Hp) .lf (fun _ h _ => h) (fun _ _ _ _ => .lf) (fun _ _ _ => .lf) r
noncomputable def rsN (r : Rs) : Nat := Rs.rec (motive := fun _ => Nat) 0 (fun _ _ n => n) (fun _ _ _ _ => 0) (fun _ _ _ => 0) r
/-- A piece in the middle, evaluated. -/
theorem JQ.evK {P : Program} (hP : P.follows .mixedOrders = true) {dr : List Nat} {N lim n : Nat} {F : FF} (hF : FOK P F) (hM : F.mono) {qa qb : IC} {K : Rs → Prop} {e : Tr} {h : Hp} {e1 : Tr} {h1 : Hp} {n1 : Nat} (hk : (kC qa nK).f F lim e h n = .nor e1 h1 n1) (hn : n1 < big)
    (j : JQ P dr N F qb lim K e1 h1 n1) : JQ P dr N F (.seq qa qb) lim K e h n := by
  refine JQ.step hP hF hM ?_
  rw [kC_eq, onC_nK] at hk
  rw [hk]; exact ⟨hn, j⟩
theorem all4 {f : Nat → Bool} (h : (List.range 4).all f = true) {i : Nat} (hi : i < 4) : f i = true := List.all_eq_true.1 h i (List.mem_range.2 hi)
theorem lawT {P : Program} {dr : List Nat} {F : FF} {q : IC} {f : Nat} {fn : Func} {c : Code} {res : List RV} {args : L} (tabs : List (Nat × TypeId × L)) (hfn : P.funcs[f]? = some fn) (hb : fn.body = some c) (hq : compC P dr fn.ntmps c = some q) (hres : compRVs P fn.results.toList = some res)
    (hal : args.length < 4294967296) (j : JQ P dr fn.ntmps F q (gK + 1) (Kend res fun v _ _ => v = .b true) (bind args 0 .lf) (tabH tabs) (gK + 1)) {vs : List Value} (ha : ∀ g, args.rel g vs) (w : World) (hw : Holds w tabs) : Calls P f ⟨vs⟩ w fun e w' => e = .returned (.bool true) ∧ Below w.heap.size w w' := by
  have num : ∀ k, k < gK → (tp k).num = k + 1 := fun k hk => num_posF 63 (k + 1) (by omega) (by unfold gK at hk; omega)
  have hg : ∀ k, k < gK → g0 (tabT tabs) (tp k) = some (k, 0, tabT tabs k) := fun k hk => by
    unfold g0; rw [num k hk, if_pos (by omega)]; simp
  have m : Mem (g0 (tabT tabs)) (tabH tabs).get w := by
    refine ⟨fun p q bp bq r b1 t1 b2 t2 hp hq e1 e2 => ?_, fun p b hp => ?_⟩
    · obtain ⟨k, z, h1, rfl, _⟩ := tabH_get tabs hw p bp hp
      obtain ⟨k', z', h1', rfl, _⟩ := tabH_get tabs hw q bq hq
      rw [hg k h1] at e1
      rw [hg k' h1'] at e2
      cases e1; cases e2; rfl
    · obtain ⟨k, z, h1, rfl, h3, h4, h5, h6, vs, h7, h8⟩ := tabH_get tabs hw p b hp
      have hlen : vs.length = z.length := L.rel_length (h8 (fun _ => none))
      have hbs : b.size = z.length := by rw [h3]
      refine ⟨k, 0, tabT tabs k, ⟨vs⟩, hg k h1, .inl ⟨RowIs.of h7, Nat.zero_le _⟩, by rw [h4]; simpa using hlen, .inr (by rw [h4, hbs]; simp), by rw [hbs]; exact h6, fun j hj => ?_⟩
      obtain ⟨u, c1, c2, c3⟩ := cell_list (h8 (g0 (tabT tabs))) h5 b.el j (by rw [← hbs]; exact hj)
      refine ⟨u, by simpa using c1, c2, ?_⟩
      rw [h3]; exact c3
  have hd : Dom (tabH tabs).get (gK + 1) := fun p b hp => by
    obtain ⟨k, z, h1, rfl, _⟩ := tabH_get tabs hw p b hp
    rw [num k h1]; omega
  refine (JQ.fn hfn hb hq hres hal j (g := g0 (tabT tabs)) (w := w) (ha _) (g0_ok _) m hd (fun p h => by unfold g0; rw [if_neg (by omega)])).mono ?_
  rintro e w' ⟨u, g', v, h', n', rfl, rfl, _, hv, _, fr⟩
  have hu : u = .bool true := by simpa [V.rel] using hv
  refine ⟨by rw [hu], fr.os, fr.tape, fr.output, fr.size, fun k hk => fr.keep k hk fun p b base tot hp hl => ?_⟩
  obtain ⟨k', z, h1, rfl, _⟩ := tabH_get tabs hw p b hp
  rw [num k' h1] at hl; omega
end Go.Proofs.YtllllpiphcbaeaaGreatDoor.Ev
