/- append: the model answers as the evaluator. -/
import Derived.Test.YtjhgingmbklhaaaEvH
namespace Go.Proofs.Ytjhgingmbklhaaa.Ev
set_option linter.unusedVariables false
open Go

theorem get_app : ∀ (l m : L) (j : Nat), (l.app m).get j = if j < l.length then l.get j else m.get (j - l.length)
  | .nil, m, j => by simp [L.app, L.length]
  | .cons v l, m, 0 => by simp [L.app, L.length, L.get]
  | .cons v l, m, j + 1 => by
    show (l.app m).get j = _
    rw [get_app l m j]
    have e : (L.cons v l).length = l.length + 1 := rfl
    by_cases h : j < l.length
    · rw [if_pos h, if_pos (by omega)]; rfl
    · rw [if_neg h, if_neg (by omega), e]; congr 1; omega

theorem cell_lst (el : TypeId) (l : L) (j : Nat) (hj : j < l.length) : (⟨el, l.length, l.length, l, .lf⟩ : Blk).cell j = l.get j := by
  rw [cell_lf]; show orZ .bad (nthL (j % l.length) l) = _
  rw [nthL_eq, Nat.mod_eq_of_lt hj]; rfl

theorem grown_spec (bs : Blk) (so k : Nat) (news : L) (hc : news.allC = true) (hm : k + news.length ≤ maxSize) :
    (grown bs so k news).el = bs.el ∧ (grown bs so k news).size = k + news.length ∧ ∀ j, j < k + news.length → (grown bs so k news).cell j = if j < k then bs.cell (so + j) else news.get (j - k) := by
  unfold grown
  cases hz : Nat.beq so 0
  · refine ⟨rfl, by show ((bs.getL so k).app news).length = _; rw [length_app, getL_length], ?_⟩
    intro j hj
    show (⟨bs.el, ((bs.getL so k).app news).length, ((bs.getL so k).app news).length, (bs.getL so k).app news, .lf⟩ : Blk).cell j = _
    rw [cell_lst _ _ _ (by rw [length_app, getL_length]; exact hj), get_app, getL_length]
    by_cases h : j < k
    · rw [if_pos h, if_pos h, getL_get bs k so j h]
    · rw [if_neg h, if_neg h]
  · rw [Nat.beq_eq] at hz
    subst hz
    refine ⟨(setL_size bs news k).2.1, rfl, ?_⟩
    intro j hj
    show (bs.setL k news).cell j = _
    by_cases h : j < k
    · rw [if_pos h, cell_setL_out bs news k j hm (by omega) (.inl h), Nat.zero_add]
    · rw [if_neg h, cell_setL_in bs news k j hm (by omega) hc (by omega) hj]

theorem newB_inv {b : Blk} {k : Pos → V} {h h' : Hp} {n n' : Nat} {v : V} (e : newB b k h n = .ok v h' n') (hn : n' < 9223372036854775808) : ∃ p, p.num = n ∧ v = k p ∧ h'.get = hput h.get p (some b) ∧ n' = n + 1 := by
  unfold newB at e
  cases hb : Nat.ble 1 n
  · rw [hb] at e; cases e
  · rw [hb] at e
    have e : posK 63 n (fun p => fN (Nat.succ n) fun n' => h.putK (some b) p fun h' => Res.ok (k p) h' n') = .ok v h' n' := e
    rw [posK_eq, fN_eq, Hp.putK_eq] at e
    cases e
    rw [Nat.ble_eq] at hb
    exact ⟨posF 63 n, num_posF 63 n hb (by omega), rfl, Hp.put_get _ _ _, rfl⟩

section
variable {P : Program}

theorem run_room {t el : TypeId} {i : TypeInfo} (ht : P.underlying t = some (.slice el)) (hi : P.info? el = some i) (ty : TypeId) (b : Addr) (sl sc : Nat) (xa : Addr) (xl xc : Nat) (news : List Value) (w w' : World)
    (hl : news.length = xl * i.size) (hnews : ∀ j v, news[j]? = some v → w.cell? (xa.add j) = some v) (hroom : sl + xl ≤ sc) (hst : (storeCells (b.add (sl * i.size)) news).run P w = .ok () w') :
    (Builtin.append_ #[t, t] ty #[.slice (some b) sl sc, .slice (some xa) xl xc]).run P w = .ok (.slice (some b) (sl + xl) sc) w' := by
  have hf := run_firstCells_some (P := P) w i.size xl xa xl xc news hl hnews
  simp [Builtin.append_, run_underlying ht, sizeOf, typeInfo, hi, Builtin.lenOf, hroom, hf, hst]

theorem zeroCells_len (z : Array Value) (n : Nat) : (Builtin.zeroCells z n).toList.length = n * z.size := by simp [Builtin.zeroCells]

/-- Several cells stored into a row of which no cell is frozen. -/
theorem storeCells_at (P : Program) (g o : Nat) (t : TypeId) : ∀ (vs : List Value) (i : Nat) (cur : Array Value) (w : World), RowIs w g cur t → o + i + vs.length ≤ cur.size → (∀ v ∈ vs, v.oneCell' = true) →
    (storeCells ⟨g, o, none⟩ vs i).run P w = .ok () (w.setRow g (cur.toList.take (o + i) ++ vs ++ cur.toList.drop (o + i + vs.length)).toArray)
  | [], i, cur, w, ⟨fz, hg, _⟩, _, _ => by
    simp only [storeCells, List.append_nil, List.length_nil, Nat.add_zero, List.take_append_drop, Array.toArray_toList]
    rw [setRow_self w g cur t fz hg]
    rfl
  | v :: rest, i, cur, w, ⟨(lo, hi'), hg, hz⟩, hl, h1 => by
    have hi : o + i < cur.size := by simp at hl; omega
    have hadd : (⟨g, o, none⟩ : Addr).add i = ⟨g, o + i, none⟩ := by unfold Addr.add; split <;> simp_all
    have hcell : w.cell? ⟨g, o + i, none⟩ = some cur[o + i] := by simp [World.cell?, hg, hi]
    have hfro : w.frozen? ⟨g, o + i, none⟩ = false := by
      have := hz _ hi
      simp only [World.frozen?, hg]
      simpa using this
    have hst : (store ((⟨g, o, none⟩ : Addr).add i) v).run P w = .ok () (w.setRow g (cur.setIfInBounds (o + i) v)) := by
      rw [hadd, run_store P w _ v _ (h1 v (by simp)), hcell]
      simp [hfro, setCell_eq_setRow w g (o + i) cur t (lo, hi') v hg]
    have ih := storeCells_at P g o t rest (i + 1) (cur.setIfInBounds (o + i) v) (w.setRow g (cur.setIfInBounds (o + i) v)) ⟨(lo, hi'), setRow_heap w g cur _ t _ hg, by simpa using hz⟩ (by simp at hl ⊢; omega) (fun x hx => h1 x (by simp [hx]))
    simp only [storeCells, Sem.run_bind, hst, Result.andThen_ok, ih, setRow_setRow]
    congr 3
    have e := list_seg_step cur.toList (o + i) v rest (by simp at hl ⊢; omega)
    simpa [Array.toList_setIfInBounds, Nat.add_assoc] using e

/-- The unknown room: the cells go into the block. -/
theorem app_in {lim n : Nat} {g : Sig} {h : Hm} {w : World} (m : Mem g h w) (hd : Dom h n) {sp p : Pos} (hp : p.num = n) (h0 : g p = none) {bs nb : Blk} (hsp : h sp = some bs) (hlim : lim ≤ sp.num) {r base tot : Nat} (hg : g sp = some (r, base, tot))
    {cur : Array Value} (hr : RowIs w r cur bs.el) {so k : Nat} (hcur : cur.size = tot) (vs : List Value) (hel : nb.el = bs.el) (hs : nb.size = k + vs.length) (hms : nb.size ≤ maxSize) (hroom : base + so + k + vs.length ≤ tot)
    (hold : ∀ j, j < k → ∃ u, cur[base + so + j]? = some u ∧ u.oneCell' = true ∧ (nb.cell j).rel g u) (hnew : ∀ j, j < vs.length → ∃ u, vs[j]? = some u ∧ u.oneCell' = true ∧ (nb.cell (k + j)).rel g u) :
    ∃ w', (storeCells ⟨r, base + so + k, none⟩ vs).run P w = .ok () w' ∧ Mem (gput g p (r, base + so, tot)) (hput (hput h sp none) p (some nb)) w' ∧ Fr lim n g h w (n + 1) (gput g p (r, base + so, tot)) (hput (hput h sp none) p (some nb)) w' := by
  have hone : ∀ v ∈ vs, v.oneCell' = true := by
    intro v hv
    obtain ⟨j, hj, e⟩ := List.getElem_of_mem hv
    obtain ⟨u, h1, h2, _⟩ := hnew j hj
    rw [List.getElem?_eq_getElem hj] at h1
    cases h1; rw [← e]; exact h2
  have hsz : ((cur.toList.take (base + so + k) ++ vs ++ cur.toList.drop (base + so + k + vs.length)).toArray).size = cur.size := by
    simp only [List.size_toArray, List.length_append, List.length_take, List.length_drop, Array.length_toList]; omega
  have hst := storeCells_at P r (base + so + k) bs.el vs 0 cur w hr (by omega) hone
  simp only [Nat.add_zero] at hst
  have hpsp : p ≠ sp := by intro e; have := hd sp bs hsp; rw [← e] at this; omega
  refine ⟨_, hst, ⟨?_, ?_⟩, ?_⟩
  · intro q q' bq bq' r' b1 t1 b2 t2 hq hq' e e'
    unfold hput at hq hq'
    unfold gput at e e'
    by_cases x : q = p <;> by_cases y : q' = p
    · rw [x, y]
    · rw [if_pos x] at e
      rw [if_neg y] at hq' e'
      cases e
      by_cases z : q' = sp
      · rw [if_pos z] at hq'; cases hq'
      · rw [if_neg z] at hq'
        exact absurd (m.inj q' sp bq' bs r b2 t2 base tot hq' hsp e' hg) z
    · rw [if_pos y] at e'
      rw [if_neg x] at hq e
      cases e'
      by_cases z : q = sp
      · rw [if_pos z] at hq; cases hq
      · rw [if_neg z] at hq
        exact absurd (m.inj q sp bq bs r b1 t1 base tot hq hsp e hg) z
    · rw [if_neg x] at hq e
      rw [if_neg y] at hq' e'
      by_cases z : q = sp
      · rw [if_pos z] at hq; cases hq
      · by_cases z' : q' = sp
        · rw [if_pos z'] at hq'; cases hq'
        · rw [if_neg z] at hq
          rw [if_neg z'] at hq'
          exact m.inj q q' bq bq' r' b1 t1 b2 t2 hq hq' e e'
  · intro q c e
    unfold hput at e
    by_cases x : q = p
    · rw [if_pos x] at e
      cases e
      refine ⟨r, base + so, tot, _, by simp [gput, x], .inl ⟨by rw [hel]; exact (let ⟨fz, h2, hz⟩ := hr; ⟨fz, setRow_heap w r cur _ bs.el _ h2, by rw [hsz]; exact hz⟩), by omega⟩, ?_, by omega, hms, ?_⟩
      · simp only [List.size_toArray, List.length_append, List.length_take, List.length_drop, Array.length_toList]; omega
      · intro j hj
        by_cases hjk : j < k
        · obtain ⟨u, h1, h2, h3⟩ := hold j hjk
          refine ⟨u, ?_, h2, V.rel_mono (gput_le _ h0) _ h3⟩
          simp only [List.getElem?_toArray]
          rw [List.append_assoc, List.getElem?_append_left (by simp; omega), List.getElem?_take_of_lt (by omega)]
          simpa using h1
        · obtain ⟨u, h1, h2, h3⟩ := hnew (j - k) (by omega)
          rw [show k + (j - k) = j by omega] at h3
          refine ⟨u, ?_, h2, V.rel_mono (gput_le _ h0) _ h3⟩
          simp only [List.getElem?_toArray]
          rw [List.append_assoc, List.getElem?_append_right (by simp; omega), List.getElem?_append_left (by simp; omega)]
          rw [← h1]; congr 1; simp; omega
    · rw [if_neg x] at e
      by_cases z : q = sp
      · rw [if_pos z] at e; cases e
      · rw [if_neg z] at e
        obtain ⟨r', base', tot', cur', h1, h2, h3, h4, h5, h6⟩ := m.blk q c e
        refine ⟨r', base', tot', cur', by simp [gput, x, h1], ?_, h3, h4, h5, fun j hj => ?_⟩
        · refine (h2.mono (gput_le _ h0)).keep (setRow_other w r r' _ ?_)
          intro e'; subst e'
          exact z (m.inj q sp c bs r' base' tot' base tot e hsp h1 hg)
        · obtain ⟨v, h7, h8, h9⟩ := h6 j hj
          exact ⟨v, h7, h8, V.rel_mono (gput_le _ h0) _ h9⟩
  · exact {
      le := by omega
      os := rfl
      tape := rfl
      output := rfl
      size := by simp
      keep := by
        intro r' _ hW
        refine setRow_other w r r' _ fun e => ?_
        subst e
        exact hW sp bs base tot hsp hlim hg
      sig := by
        intro q hq
        unfold gput
        rw [if_neg]
        intro e; subst e; omega
      dom := by
        intro q c e
        unfold hput at e
        split at e
        · rename_i e'; subst e'; exact ⟨fun x => by omega, by omega⟩
        · split at e
          · cases e
          · exact ⟨fun _ => ⟨c, e⟩, by have := hd q c e; omega⟩
      new := by
        intro q r' base' tot' a b e
        have : q = p := Pos.num_inj (by omega)
        subst this
        simp only [gput, if_pos] at e
        cases e
        exact .inr ⟨sp, bs, base, tot, hsp, hlim, hg⟩ }
end
end Go.Proofs.Ytjhgingmbklhaaa.Ev
