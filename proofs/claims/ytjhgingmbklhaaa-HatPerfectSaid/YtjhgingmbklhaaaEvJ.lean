/- append, whole. -/
import Derived.Test.YtjhgingmbklhaaaEvI
namespace Go.Proofs.Ytjhgingmbklhaaa.Ev
set_option linter.unusedVariables false
open Go

section
variable {P : Program} {o : Oper}

theorem getL_rel' {g : Sig} {h : Hm} {w : World} (m : Mem g h w) {p : Pos} {b : Blk} (hp : h p = some b) {r base tot : Nat} (hg : g p = some (r, base, tot)) (n k o' len : Nat) (hk : k + n ≤ b.size) (ho : 0 < n → o' = base + k) :
    ∃ vs : List Value, vs.length = n ∧ (b.getL k n).rel g vs ∧ ∀ j v, vs[j]? = some v → w.cell? ((⟨r, o', none⟩ : Addr).add j) = some v := by
  by_cases hn : n = 0
  · subst hn; exact ⟨[], rfl, rfl, by simp⟩
  · obtain ⟨vs, h1, h2, _, h4⟩ := getL_rel m hp hg n k hk
    rw [ho (by omega)]
    exact ⟨vs, h1, h2, h4⟩

theorem ok_app {t el : TypeId} {os ox : Operand} {s x : X} {i : TypeInfo} {zv : Value} (hs : compX os = some s) (hx : compX ox = some x) (ht : P.underlying t = some (.slice el)) (hi : P.info? el = some i) (hz : i.zero = some zv) (h0 : 0 < i.size) (hzs : zv.cells.size = i.size)
    (ho : o.op = .call { callee := .builtin .append, args := #[os, ox], argTypes := #[t, t] }) : OpOK P o (evApp el i.size i.bytes s x) := by
  intro e lim h n v h' n' hr ρ g w he m hd hf hn
  have rs := he os s hs
  have rx := he ox x hx
  have hex := exec_app (P := P) (o := o) (t' := 0) ho ρ w
  unfold evApp at hr
  -- nothing to append
  have none_case : ∀ (b' : Option Addr) (c' : Nat), ρ ox = .slice b' 0 c' → onS (evX s e) (fun a b c d f => Res.ok (.sl a b c d f) h n) (.ok .ns h n) .no = .ok v h' n' →
      ∃ nx g' w', (execOp ρ o).run P w = .ok nx w' ∧ NX g' v nx ∧ Mem g' h'.get w' ∧ Fr lim n g h.get w n' g' h'.get w' := by
    intro b' c' hv hr
    cases hsv : evX s e <;> rw [hsv] at hr rs <;> dsimp only [onS, V.asS] at hr
    case sl a off e' l c =>
      cases hr
      obtain ⟨b, c0, hv2, hlc⟩ := sl_len rs
      rw [hv2, hv, run_app_none ht hi o.type (some b) l c0 hlc b' c' w] at hex
      exact ⟨_, g, w, hex, by show V.rel g _ _; rw [← hv2]; exact rs, m, Fr.refl hd⟩
    case ns =>
      cases hr
      have rs' : ρ os = .slice none 0 0 := rs
      rw [rs', hv, run_app_none ht hi o.type none 0 0 (Nat.le_refl _) b' c' w] at hex
      exact ⟨_, g, w, hex, rfl, m, Fr.refl hd⟩
    all_goals cases hr
  cases hxv : evX x e <;> rw [hxv] at hr rx <;> dsimp only [onS, V.asS] at hr
  case ns => exact none_case none 0 rx hr
  case sl xp xo xe xl xcap =>
    obtain ⟨r, base, tot, xc, xo', hg, hv, hesz, hlc, hcm, ho', hbt, _⟩ : ∃ r base tot c o', g xp = some (r, base, tot) ∧ ρ ox = .slice (some ⟨r, o', none⟩) xl c ∧ 0 < xe ∧ xl ≤ c ∧ c ≤ maxLen ∧ (0 < c → o' = base + xo) ∧ base + xo + c * xe ≤ tot ∧ _ := by rw [V.rel] at rx; exact rx
    cases hb0 : Nat.beq xl 0
    case true =>
      rw [hb0] at hr
      dsimp only at hr
      rw [Nat.beq_eq] at hb0
      subst hb0
      exact none_case _ _ hv hr
    case false =>
      rw [hb0] at hr
      dsimp only at hr
      have hxl : xl ≠ 0 := by intro e; subst e; cases hb0
      cases hhx : h.get xp with
      | none => rw [hhx] at hr; cases hr
      | some bx =>
        rw [hhx] at hr
        dsimp only at hr
        cases hb : and (Nat.beq xe i.size) (and (Nat.ble (xo + xl * i.size) bx.size) (and (bx.getL xo (xl * i.size)).allC (and (Nat.ble (xl * i.bytes) 140737488355328) (Nat.ble (xl * i.size) 1099511627776))))
        · rw [hb] at hr; cases hr
        · rw [hb] at hr
          dsimp only at hr
          simp only [Bool.and_eq_true, Nat.beq_eq, Nat.ble_eq] at hb
          obtain ⟨hxe, hxs, hxC, hxb, hxz⟩ := hb
          subst hxe
          obtain ⟨news, nl, nr, nc⟩ := getL_rel' m hhx hg (xl * i.size) xo xo' xl hxs (fun _ => ho' (by omega))
          have ndc : ∀ j v, news[j]? = some v → w.drew.cell? ((⟨r, xo', none⟩ : Addr).add j) = some v := nc
          have nC := allC_one hxC nr
          have nlen : (bx.getL xo (xl * i.size)).length = xl * i.size := getL_length _ _ _
          have hdw : Dom h.get n := hd
          have grow_len : ∀ need cap : Nat, need ≤ cap → ∀ l : List Value, l.length = need * i.size → l.length + (Builtin.zeroCells zv.cells (cap - need)).toList.length = cap * i.size := by
            intro need cap hnc l hl
            rw [hl, zeroCells_len, hzs, ← Nat.add_mul]; congr 1; omega
          cases hsv : evX s e <;> rw [hsv] at hr rs <;> dsimp only [onS, V.asS] at hr
          case ns =>
            have rs' : ρ os = .slice none 0 0 := rs
            have hxz' : xl ≤ xl * i.size := Nat.le_mul_of_pos_right _ h0
            have hrun := run_append_nil (P := P) w t o.type el i zv ht hi hz ⟨r, xo', none⟩ xl xc news nl nc (by omega) (by omega) (by omega)
            rw [rs', hv, hrun] at hex
            rw [lst_eq, nlen] at hr
            have hgc : grownCap w xl 0 el ≤ maxLen := grownCap_le_maxLen w xl 0 el (by unfold maxLen; omega)
            have hgg := grownCap_ge w xl 0 el
            obtain ⟨g', nx, m', f'⟩ := newGrown (lim := lim) (el := el) (i := i) (k := xl) (w := w.drew) (b := ⟨el, xl * i.size, xl * i.size, bx.getL xo (xl * i.size), .lf⟩) rfl m.drew hd hf hn h0 hr news (Builtin.zeroCells zv.cells (grownCap w xl 0 el - xl)).toList (grownCap w xl 0 el) hgg hgc (grow_len _ _ hgg _ nl) (by show xl * i.size = _; omega) hxz (fun j hj => by
              have := cell_list nr hxC el j (by rw [nlen]; exact hj)
              rw [nlen] at this
              obtain ⟨u, c1, c2, c3⟩ := this
              exact ⟨u, by simpa using c1, c2, c3⟩)
            refine ⟨_, g', _, hex, nx, ?_, ?_⟩
            · have e1 : (⟨news ++ (Builtin.zeroCells zv.cells (grownCap w xl 0 el - xl)).toList⟩ : Array Value) = news.toArray ++ Builtin.zeroCells zv.cells (grownCap w xl 0 el - xl) := by apply Array.ext'; simp
              rw [e1] at m'; exact m'
            · have e1 : (⟨news ++ (Builtin.zeroCells zv.cells (grownCap w xl 0 el - xl)).toList⟩ : Array Value) = news.toArray ++ Builtin.zeroCells zv.cells (grownCap w xl 0 el - xl) := by apply Array.ext'; simp
              rw [e1] at f'; exact (Fr.drew hd).trans f'
          case sl sp so se sl cap =>
            have rs2 := rs
            rw [V.rel] at rs2
            obtain ⟨r2, base2, tot2, sc, so', hg2, hv2, hesz2, hlc2, hcm2, ho2, hbt2, hcap⟩ := rs2
            cases hhs : h.get sp with
            | none => rw [hhs] at hr; cases hr
            | some bs =>
              rw [hhs] at hr
              dsimp only at hr
              cases hb : and (Nat.beq se i.size) (and (Nat.beq bs.el el) (and (Nat.ble (so + sl * i.size) bs.size) (and (bs.getL so (sl * i.size)).allC (and (Nat.ble ((sl + xl) * i.bytes) 140737488355328) (Nat.ble ((sl + xl) * i.size) 1099511627776)))))
              · rw [hb] at hr; cases hr
              · rw [hb] at hr
                dsimp only at hr
                simp only [Bool.and_eq_true, Nat.beq_eq, Nat.ble_eq] at hb
                obtain ⟨hse, hel, hss, hsC, hsb, hsz⟩ := hb
                subst hse
                obtain ⟨olds, ol, or_, oc⟩ := getL_rel' m hhs hg2 (sl * i.size) so so' sl hss (fun hp => ho2 (by
                  have : 0 < sl := Nat.pos_of_ne_zero fun e => by subst e; omega
                  omega))
                have olen : (bs.getL so (sl * i.size)).length = sl * i.size := getL_length _ _ _
                have hn1 : (sl + xl) * i.size = sl * i.size + xl * i.size := Nat.add_mul _ _ _
                have hle1 : sl + xl ≤ (sl + xl) * i.size := Nat.le_mul_of_pos_right _ h0
                have hall : (olds ++ news).length = (sl + xl) * i.size := by simp [ol, nl, hn1]
                have hrelA : ((bs.getL so (sl * i.size)).app (bx.getL xo (xl * i.size))).rel g (olds ++ news) := L.rel_app or_ nr
                have hCA := allC_app hsC hxC
                have hlenA : ((bs.getL so (sl * i.size)).app (bx.getL xo (xl * i.size))).length = (sl + xl) * i.size := by rw [length_app, olen, nlen, hn1]
                have hgc : grownCap w (sl + xl) sc el ≤ maxLen := grownCap_le_maxLen w (sl + xl) sc el (by unfold maxLen; omega)
                have hgg := grownCap_ge w (sl + xl) sc el
                have eA : (⟨olds ++ news ++ (Builtin.zeroCells zv.cells (grownCap w (sl + xl) sc el - (sl + xl))).toList⟩ : Array Value) = olds.toArray ++ news.toArray ++ Builtin.zeroCells zv.cells (grownCap w (sl + xl) sc el - (sl + xl)) := by apply Array.ext'; simp
                cases cap with
                | some c =>
                  have hcap : sc = c := hcap
                  subst hcap
                  dsimp only at hr
                  cases hfit : Nat.ble (sl + xl) sc
                  · -- a new row
                    rw [hfit] at hr
                    dsimp only at hr
                    rw [fN_eq, lst_eq, hlenA] at hr
                    have hlt : sc < sl + xl := by
                      have : ¬ (Nat.ble (sl + xl) sc = true) := by rw [hfit]; simp
                      rw [Nat.ble_eq] at this; omega
                    have hrun := run_append_grow (P := P) w t o.type el i zv ht hi hz ⟨r2, so', none⟩ sl sc olds ol oc ⟨r, xo', none⟩ xl xc news nl nc hlt (by omega) (growslice_fits hlt hsb)
                    rw [hv2, hv, hrun] at hex
                    obtain ⟨g', nx, m', f'⟩ := newGrown (lim := lim) (el := el) (i := i) (k := sl + xl) (w := w.drew) (b := ⟨el, (sl + xl) * i.size, (sl + xl) * i.size, (bs.getL so (sl * i.size)).app (bx.getL xo (xl * i.size)), .lf⟩) rfl m.drew hd hf hn h0 hr (olds ++ news) (Builtin.zeroCells zv.cells (grownCap w (sl + xl) sc el - (sl + xl))).toList (grownCap w (sl + xl) sc el) hgg hgc (grow_len _ _ hgg _ hall) (by show (sl + xl) * i.size = _; omega) hsz (fun j hj => by
                      have := cell_list hrelA hCA el j (by rw [hlenA]; exact hj)
                      rw [hlenA] at this
                      obtain ⟨u, c1, c2, c3⟩ := this
                      exact ⟨u, by simpa using c1, c2, c3⟩)
                    rw [eA] at m' f'
                    exact ⟨_, g', _, hex, nx, m', (Fr.drew hd).trans f'⟩
                  · -- within the room
                    rw [hfit] at hr
                    dsimp only at hr
                    rw [Nat.ble_eq] at hfit
                    cases hb2 : and (Nat.ble lim sp.num) (Nat.ble (so + (sl + xl) * i.size) bs.size)
                    · rw [hb2] at hr; cases hr
                    · rw [hb2] at hr
                      dsimp only at hr
                      rw [Hp.putK_eq, fN_eq] at hr
                      simp only [Bool.and_eq_true, Nat.ble_eq] at hb2
                      obtain ⟨hlim, hroom⟩ := hb2
                      cases hr
                      have hso := ho2 (by omega)
                      subst hso
                      obtain ⟨w', s1, s2, s3⟩ := stores P hg2 hlim (bx.getL xo (xl * i.size)) news (so + sl * i.size) bs h.get w 0 m hd hhs (by rw [nlen]; omega) hxC nr
                      simp only [Nat.add_zero] at s2 s3
                      have hrun := run_room (P := P) ht hi o.type ⟨r2, base2 + so, none⟩ sl sc ⟨r, xo', none⟩ xl xc news w w' nl nc hfit (by rw [Addr.add_lit, Nat.add_assoc]; exact s1)
                      rw [hv2, hv, hrun] at hex
                      refine ⟨_, g, w', hex, ?_, by rw [Hp.put_get]; exact s2, by rw [Hp.put_get]; exact s3⟩
                      show V.rel g (.sl sp so i.size (sl + xl) (some sc)) _
                      rw [V.rel]
                      exact ⟨r2, base2, tot2, sc, base2 + so, hg2, rfl, h0, hfit, hcm2, fun _ => rfl, hbt2, rfl⟩
                | none =>
                  have hcap : base2 + so + sc * i.size = tot2 := hcap
                  dsimp only at hr
                  cases hlim : Nat.ble lim sp.num
                  · rw [hlim] at hr; cases hr
                  · rw [hlim] at hr
                    dsimp only at hr
                    rw [fN_eq] at hr
                    rw [Nat.ble_eq] at hlim
                    obtain ⟨gs1, gs2, gs3⟩ := grown_spec bs so (sl * i.size) (bx.getL xo (xl * i.size)) hxC (by rw [nlen]; unfold maxSize; omega)
                    rw [nlen] at gs2 gs3
                    have m1 : Mem g (h.put none sp).get w := m.sub fun p b e => by
                      have e := (Hp.get_put _ _ _ _).symm.trans e; split at e
                      · cases e
                      · exact e
                    have hd1 : Dom (h.put none sp).get n := fun p b e => by
                      have e := (Hp.get_put _ _ _ _).symm.trans e; split at e
                      · cases e
                      · exact hd p b e
                    by_cases hfit : sl + xl ≤ sc
                    · obtain ⟨p, pn, rfl, ph, pn'⟩ := newB_inv hr hn
                      subst pn'
                      have hso := ho2 (by omega)
                      subst hso
                      obtain ⟨rr, bb, tt, cur, c1, c2, c3, c4, c5, c6⟩ := m.blk sp bs hhs
                      rw [hg2] at c1
                      cases c1
                      have hp0 : g p = none := hf p (by omega) (by omega)
                      have hscm : (sl + xl) * i.size ≤ sc * i.size := Nat.mul_le_mul_right _ hfit
                      obtain ⟨w', s1, s2, s3⟩ := app_in (P := P) (lim := lim) (so := so) (k := sl * i.size) m hd pn hp0 hhs hlim hg2 (c2.row (.inr (by omega))) c3 news gs1 (by rw [gs2]; omega) (by rw [gs2]; unfold maxSize; omega) (by omega)
                        (fun j hj => by
                          obtain ⟨u, d1, d2, d3⟩ := c6 (so + j) (by omega)
                          refine ⟨u, by rw [Nat.add_assoc]; exact d1, d2, ?_⟩
                          rw [gs3 j (by omega), if_pos hj]; exact d3)
                        (fun j hj => by
                          rw [nl] at hj
                          have hjr := L.rel_get j nr
                          have hone := allC_one hxC nr (news.getD j undef) (by
                            rw [List.getD, List.getElem?_eq_getElem (by omega)]; simp)
                          refine ⟨news.getD j undef, by simp [List.getD, List.getElem?_eq_getElem (show j < news.length by omega)], hone, ?_⟩
                          rw [gs3 (sl * i.size + j) (by omega), if_neg (by omega), show sl * i.size + j - sl * i.size = j by omega]; exact hjr)
                      have hrun := run_room (P := P) ht hi o.type ⟨r2, base2 + so, none⟩ sl sc ⟨r, xo', none⟩ xl xc news w w' nl nc hfit (by rw [Addr.add_lit]; exact s1)
                      rw [hv2, hv, hrun] at hex
                      rw [ph, Hp.put_get]
                      refine ⟨_, _, w', hex, ?_, s2, s3⟩
                      show V.rel _ (.sl p 0 i.size (sl + xl) none) _
                      rw [V.rel]
                      exact ⟨r2, base2 + so, tot2, sc, base2 + so, by simp [gput], rfl, h0, hfit, hcm2, fun _ => rfl, by omega, by omega⟩
                    · have hlt : sc < sl + xl := by omega
                      have hrun := run_append_grow (P := P) w t o.type el i zv ht hi hz ⟨r2, so', none⟩ sl sc olds ol oc ⟨r, xo', none⟩ xl xc news nl nc hlt (by omega) (growslice_fits hlt hsb)
                      rw [hv2, hv, hrun] at hex
                      obtain ⟨g', nx, m', f'⟩ := newGrown (lim := lim) (el := el) (i := i) (k := sl + xl) (w := w.drew) (h := h.put none sp) (gs1.trans hel) m1.drew hd1 hf hn h0 hr (olds ++ news) (Builtin.zeroCells zv.cells (grownCap w (sl + xl) sc el - (sl + xl))).toList (grownCap w (sl + xl) sc el) hgg hgc (grow_len _ _ hgg _ hall) (by rw [gs2]; omega) (by rw [gs2]; unfold maxSize; omega) (fun j hj => by
                        rw [gs2] at hj
                        rw [gs3 j hj]
                        by_cases hjk : j < sl * i.size
                        · rw [if_pos hjk]
                          have hjr := L.rel_get j or_
                          rw [getL_get bs _ so j hjk] at hjr
                          have hone := allC_one hsC or_ (olds.getD j undef) (by rw [List.getD, List.getElem?_eq_getElem (by omega)]; simp)
                          exact ⟨olds.getD j undef, by rw [List.getElem?_append_left (by omega)]; simp [List.getD, List.getElem?_eq_getElem (show j < olds.length by omega)], hone, hjr⟩
                        · rw [if_neg hjk]
                          have hjr := L.rel_get (j - sl * i.size) nr
                          have hone := allC_one hxC nr (news.getD (j - sl * i.size) undef) (by rw [List.getD, List.getElem?_eq_getElem (by omega)]; simp)
                          refine ⟨news.getD (j - sl * i.size) undef, ?_, hone, hjr⟩
                          rw [List.getElem?_append_right (by omega), ol]
                          simp [List.getD, List.getElem?_eq_getElem (show j - sl * i.size < news.length by omega)])
                      rw [eA] at m' f'
                      have fsub : Fr lim n g h.get w n' g' h'.get (w.drew.alloc (.cells (olds.toArray ++ news.toArray ++ Builtin.zeroCells zv.cells (grownCap w (sl + xl) sc el - (sl + xl))) el)) := by
                        have f1 := (Fr.drew (lim := lim) hd1 (g := g) (w := w)).trans f'
                        have sub : ∀ p b, (h.put none sp).get p = some b → h.get p = some b := by
                          intro p b e
                          have e := (Hp.get_put _ _ _ _).symm.trans e; split at e
                          · cases e
                          · exact e
                        exact { f1 with
                          keep := fun r hr hW => f1.keep r hr fun p b base tot hp => hW p b base tot (sub p b hp)
                          dom := fun p b e => ⟨fun hp => let ⟨b', hb'⟩ := (f1.dom p b e).1 hp; ⟨b', sub p b' hb'⟩, (f1.dom p b e).2⟩
                          new := fun p r base tot a b e => (f1.new p r base tot a b e).imp id fun ⟨q, b, x, y, hq, hql, hge⟩ => ⟨q, b, x, y, sub q b hq, hql, hge⟩ }
                      exact ⟨_, g', _, hex, nx, m', fsub⟩
          all_goals cases hr
  all_goals cases hr
end
end Go.Proofs.Ytjhgingmbklhaaa.Ev
