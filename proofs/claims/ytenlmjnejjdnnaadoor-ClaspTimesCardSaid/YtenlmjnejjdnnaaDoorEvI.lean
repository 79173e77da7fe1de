/- append: the model answers as the evaluator. -/
import Derived.Test.YtenlmjnejjdnnaaDoorEvH
namespace Go.Proofs.YtenlmjnejjdnnaaDoor.Ev
set_option linter.unusedVariables false
open Go

theorem get_app : ∀ (l m : L) (j : Nat), (l.app m).get j = if j < l.length then l.get j else m.get (j - l.length)
  | .nil, m, j => by simp [L.app, L.length]
  | .cons v l, m, 0 => by simp [L.app, L.length, L.get]
  | .cons v l, m, j + 1 => by
    show (l.app m).get j = _
    rw [get_app l m j]
    have e : (L.cons v l).length = l.length + 1 := rfl
    by_cases h : j < l.length
    · rw [if_pos h, if_pos (by omega)]; rfl
    · rw [if_neg h, if_neg (by omega), e]; congr 1; omega

theorem cell_lst (el : TypeId) (l : L) (j : Nat) (hj : j < l.length) : (⟨el, l.length, l.length, l, .lf⟩ : Blk).cell j = l.get j := by
  show orZ .bad (nthL (j % l.length) l) = _
  rw [nthL_eq, Nat.mod_eq_of_lt hj]; rfl

theorem grown_spec (bs : Blk) (so k : Nat) (news : L) (hc : news.allC = true) (hm : k + news.length ≤ maxSize) :
    (grown bs so k news).el = bs.el ∧ (grown bs so k news).size = k + news.length ∧ ∀ j, j < k + news.length → (grown bs so k news).cell j = if j < k then bs.cell (so + j) else news.get (j - k) := by
  unfold grown
  cases hz : Nat.beq so 0
  · refine ⟨rfl, by show ((bs.getL so k).app news).length = _; rw [length_app, getL_length], ?_⟩
    intro j hj
    show (⟨bs.el, ((bs.getL so k).app news).length, ((bs.getL so k).app news).length, (bs.getL so k).app news, .lf⟩ : Blk).cell j = _
    rw [cell_lst _ _ _ (by rw [length_app, getL_length]; exact hj), get_app, getL_length]
    by_cases h : j < k
    · rw [if_pos h, if_pos h, getL_get bs k so j h]
    · rw [if_neg h, if_neg h]
  · rw [Nat.beq_eq] at hz
    subst hz
    refine ⟨(setL_size bs news k).2.1, rfl, ?_⟩
    intro j hj
    show (bs.setL k news).cell j = _
    by_cases h : j < k
    · rw [if_pos h, cell_setL_out bs news k j hm (by omega) (.inl h), Nat.zero_add]
    · rw [if_neg h, cell_setL_in bs news k j hm (by omega) hc (by omega) hj]

theorem newB_inv {b : Blk} {k : Pos → V} {h h' : Hp} {n n' : Nat} {v : V} (e : newB b k h n = .ok v h' n') (hn : n' < 9223372036854775808) : ∃ p, p.num = n ∧ v = k p ∧ h'.get = hput h.get p (some b) ∧ n' = n + 1 := by
  unfold newB at e
  cases hb : Nat.ble 1 n
  · rw [hb] at e; cases e
  · rw [hb] at e
    have e : posK 63 n (fun p => fN (Nat.succ n) fun n' => h.putK (some b) p fun h' => Res.ok (k p) h' n') = .ok v h' n' := e
    rw [posK_eq, fN_eq, Hp.putK_eq] at e
    cases e
    rw [Nat.ble_eq] at hb
    exact ⟨posF 63 n, num_posF 63 n hb (by omega), rfl, Hp.put_get _ _ _, rfl⟩

section
variable {P : Program}

theorem run_room {t el : TypeId} {i : TypeInfo} (ht : P.underlying t = some (.slice el)) (hi : P.info? el = some i) (ty : TypeId) (b : Addr) (sl sc : Nat) (xa : Addr) (xl xc : Nat) (news : List Value) (w w' : World)
    (hl : news.length = xl * i.size) (hnews : ∀ j v, news[j]? = some v → w.cell? (xa.add j) = some v) (hroom : sl + xl ≤ sc) (hst : (storeCells (b.add (sl * i.size)) news).run P w = .ok () w') :
    (Builtin.append_ #[t, t] ty #[.slice (some b) sl sc, .slice (some xa) xl xc]).run P w = .ok (.slice (some b) (sl + xl) sc) w' := by
  have hf := run_firstCells_some (P := P) w i.size xl xa xl xc news hl hnews
  simp [Builtin.append_, run_underlying ht, sizeOf, typeInfo, hi, Builtin.lenOf, hroom, hf, hst]

theorem zeroCells_len (z : Array Value) (n : Nat) : (Builtin.zeroCells z n).toList.length = n * z.size := by simp [Builtin.zeroCells]

/-- The unknown room: the cells go into the block. -/
theorem app_in {lim n : Nat} {g : Sig} {h : Hm} {w : World} (m : Mem g h w) (hd : Dom h n) {sp p : Pos} (hp : p.num = n) (h0 : g p = none) {bs nb : Blk} (hsp : h sp = some bs) (hlim : lim ≤ sp.num) {r base tot : Nat} (hg : g sp = some (r, base, tot))
    {cur : Array Value} (hr : w.heap[r]? = some (.cells cur bs.el (0, 0))) {so k : Nat} (hcur : cur.size = tot) (vs : List Value) (hel : nb.el = bs.el) (hs : nb.size = k + vs.length) (hms : nb.size ≤ maxSize) (hroom : base + so + k + vs.length ≤ tot)
    (hold : ∀ j, j < k → ∃ u, cur[base + so + j]? = some u ∧ u.oneCell' = true ∧ (nb.cell j).rel g u) (hnew : ∀ j, j < vs.length → ∃ u, vs[j]? = some u ∧ u.oneCell' = true ∧ (nb.cell (k + j)).rel g u) :
    ∃ w', (storeCells ⟨r, base + so + k, none⟩ vs).run P w = .ok () w' ∧ Mem (gput g p (r, base + so, tot)) (hput (hput h sp none) p (some nb)) w' ∧ Fr lim n g h w (n + 1) (gput g p (r, base + so, tot)) (hput (hput h sp none) p (some nb)) w' := by
  have hone : ∀ v ∈ vs, v.oneCell' = true := by
    intro v hv
    obtain ⟨j, hj, e⟩ := List.getElem_of_mem hv
    obtain ⟨u, h1, h2, _⟩ := hnew j hj
    rw [List.getElem?_eq_getElem hj] at h1
    cases h1; rw [← e]; exact h2
  have hst := run_storeCells_at P r (base + so + k) bs.el vs 0 cur w hr (by omega) hone
  simp only [Nat.add_zero] at hst
  have hpsp : p ≠ sp := by intro e; have := hd sp bs hsp; rw [← e] at this; omega
  refine ⟨_, hst, ⟨?_, ?_⟩, ?_⟩
  · intro q q' bq bq' r' b1 t1 b2 t2 hq hq' e e'
    unfold hput at hq hq'
    unfold gput at e e'
    by_cases x : q = p <;> by_cases y : q' = p
    · rw [x, y]
    · rw [if_pos x] at e
      rw [if_neg y] at hq' e'
      cases e
      by_cases z : q' = sp
      · rw [if_pos z] at hq'; cases hq'
      · rw [if_neg z] at hq'
        exact absurd (m.inj q' sp bq' bs r b2 t2 base tot hq' hsp e' hg) z
    · rw [if_pos y] at e'
      rw [if_neg x] at hq e
      cases e'
      by_cases z : q = sp
      · rw [if_pos z] at hq; cases hq
      · rw [if_neg z] at hq
        exact absurd (m.inj q sp bq bs r b1 t1 base tot hq hsp e hg) z
    · rw [if_neg x] at hq e
      rw [if_neg y] at hq' e'
      by_cases z : q = sp
      · rw [if_pos z] at hq; cases hq
      · by_cases z' : q' = sp
        · rw [if_pos z'] at hq'; cases hq'
        · rw [if_neg z] at hq
          rw [if_neg z'] at hq'
          exact m.inj q q' bq bq' r' b1 t1 b2 t2 hq hq' e e'
  · intro q c e
    unfold hput at e
    by_cases x : q = p
    · rw [if_pos x] at e
      cases e
      refine ⟨r, base + so, tot, _, by simp [gput, x], by rw [hel]; exact setRow_heap w r cur _ bs.el _ hr, ?_, by omega, hms, ?_⟩
      · simp only [List.size_toArray, List.length_append, List.length_take, List.length_drop, Array.length_toList]; omega
      · intro j hj
        by_cases hjk : j < k
        · obtain ⟨u, h1, h2, h3⟩ := hold j hjk
          refine ⟨u, ?_, h2, V.rel_mono (gput_le _ h0) _ h3⟩
          simp only [List.getElem?_toArray]
          rw [List.append_assoc, List.getElem?_append_left (by simp; omega), List.getElem?_take_of_lt (by omega)]
          simpa using h1
        · obtain ⟨u, h1, h2, h3⟩ := hnew (j - k) (by omega)
          rw [show k + (j - k) = j by omega] at h3
          refine ⟨u, ?_, h2, V.rel_mono (gput_le _ h0) _ h3⟩
          simp only [List.getElem?_toArray]
          rw [List.append_assoc, List.getElem?_append_right (by simp; omega), List.getElem?_append_left (by simp; omega)]
          rw [← h1]; congr 1; simp; omega
    · rw [if_neg x] at e
      by_cases z : q = sp
      · rw [if_pos z] at e; cases e
      · rw [if_neg z] at e
        obtain ⟨r', base', tot', cur', h1, h2, h3, h4, h5, h6⟩ := m.blk q c e
        refine ⟨r', base', tot', cur', by simp [gput, x, h1], ?_, h3, h4, h5, fun j hj => ?_⟩
        · rw [setRow_other w r r' _ ?_]; exact h2
          intro e'; subst e'
          exact z (m.inj q sp c bs r' base' tot' base tot e hsp h1 hg)
        · obtain ⟨v, h7, h8, h9⟩ := h6 j hj
          exact ⟨v, h7, h8, V.rel_mono (gput_le _ h0) _ h9⟩
  · exact {
      le := by omega
      os := rfl
      tape := rfl
      output := rfl
      size := by simp
      keep := by
        intro r' _ hW
        refine setRow_other w r r' _ fun e => ?_
        subst e
        exact hW sp bs base tot hsp hlim hg
      sig := by
        intro q hq
        unfold gput
        rw [if_neg]
        intro e; subst e; omega
      dom := by
        intro q c e
        unfold hput at e
        split at e
        · rename_i e'; subst e'; exact ⟨fun x => by omega, by omega⟩
        · split at e
          · cases e
          · exact ⟨fun _ => ⟨c, e⟩, by have := hd q c e; omega⟩
      new := by
        intro q r' base' tot' a b e
        have : q = p := Pos.num_inj (by omega)
        subst this
        simp only [gput, if_pos] at e
        cases e
        exact .inr ⟨sp, bs, base, tot, hsp, hlim, hg⟩ }
end
end Go.Proofs.YtenlmjnejjdnnaaDoor.Ev
