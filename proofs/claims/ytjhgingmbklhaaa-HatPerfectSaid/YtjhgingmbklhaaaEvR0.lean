/- Loops over functions in memory: made, changed, forgotten. -/
import Derived.Test.YtjhgingmbklhaaaEvW
import Derived.RangeFuncIn
import Derived.RangeFuncRecord
namespace Go.Proofs.Ytjhgingmbklhaaa.Ev
set_option linter.unusedVariables false
open Go
theorem loop_of {g : Sig} {h : Hm} {w : World} (m : Mem g h w) {p : Pos} {b : Blk} (hp : h p = some b) {r : Nat} (hg : g p = some (r, 1, 0)) (hm : b.m.get .h = .b true) {N : Nat} {ps : Array Nat} {x y : Code} {z : L} (hz : b.z = .cons (.lp N ps x y) z) :
    b.size = 0 ∧ ∃ rec, w.heap[r]? = some (.loop rec) ∧ loopRel g b rec := by
  obtain ⟨r', base, tot, cur, h1, h2, _⟩ := m.blk p b hp
  rw [hg] at h1
  cases h1
  have hn : b.m ≠ .lf := fun e => by rw [e] at hm; cases hm
  rcases h2 with h2 | ⟨_, _, h3, ⟨es, clock, h4, h5⟩ | ⟨rec, h4, h5⟩ | ⟨s, pos, h4, h5⟩⟩
  · have := h2.2; omega
  · have h6 := h5.resolve_left hn
    rw [hz] at h6
    have ht : ∀ v ∈ es.toList.map entV, ∀ q, v ≠ .pointer q := fun v hv q e => by
      obtain ⟨x, _, hx⟩ := List.mem_map.1 hv
      rw [← hx] at e; unfold entV at e; cases e
    generalize es.toList.map entV = zs at h6 ht
    rw [L.rel] at h6
    obtain ⟨u, us, hzs, h7, _⟩ := h6
    rw [V.rel] at h7
    obtain ⟨_, r', _, h8⟩ := h7
    exact absurd h8 (ht u (by rw [hzs]; exact List.mem_cons_self ..) _)
  · exact ⟨h3, rec, h4, h5.resolve_left hn⟩
  · obtain ⟨bs, h6, _⟩ := h5.resolve_left hn
    rw [hz] at h6; cases h6
theorem mem_setLoop {g : Sig} {h : Hm} {w : World} (m : Mem g h w) {p : Pos} {b : Blk} (hp : h p = some b) {r : Nat} (hg : g p = some (r, 1, 0)) {b' : Blk} (hs : b'.size = 0) {rec : Loop} (hr : loopRel g b' rec) :
    Mem g (hput h p (some b')) { w with heap := w.heap.setIfInBounds r (.loop rec) } where
  inj := by
    intro q q' bq bq' r' b1 t1 b2 t2 hq hq' e e'
    have : ∀ {q : Pos} {c : Blk}, hput h p (some b') q = some c → ∃ c', h q = some c' := by
      intro q c e
      unfold hput at e
      split at e
      · rename_i e'; subst e'; exact ⟨b, hp⟩
      · exact ⟨c, e⟩
    obtain ⟨c, hc⟩ := this hq
    obtain ⟨c', hc'⟩ := this hq'
    exact m.inj q q' c c' r' b1 t1 b2 t2 hc hc' e e'
  blk := by
    intro q c e
    unfold hput at e
    have hlt := m.lt hp hg
    by_cases hq : q = p
    · rw [if_pos hq] at e
      cases e
      subst hq
      exact ⟨r, 1, 0, #[], hg, .inr ⟨rfl, rfl, hs, .inr (.inl ⟨rec, by show (w.heap.setIfInBounds r _)[r]? = _; simp [hlt], .inr hr⟩)⟩, rfl, .inl hs, by rw [hs]; unfold maxSize; omega, fun k hk => by omega⟩
    · rw [if_neg hq] at e
      obtain ⟨r', base', tot', cur, h1, h2, h3, h4, h5, h6⟩ := m.blk q c e
      refine ⟨r', base', tot', cur, h1, ?_, h3, h4, h5, h6⟩
      refine h2.keep (heap_setObj w r r' _ ?_)
      intro he
      subst he
      exact hq (m.inj q p c b r' base' tot' 1 0 e hp h1 hg)
theorem gput_le' {g : Sig} {p : Pos} (x : Nat × Nat × Nat) (h0 : g p = none) : g.le (gput g p x) := gput_le _ h0
theorem mem_other {g : Sig} {h : Hm} {w : World} (m : Mem g h w) (o : Obj) : Mem g h (w.alloc o) := ⟨m.inj, fun p b hp => by
  obtain ⟨r, base, tot, cur, h1, h2, h3⟩ := m.blk p b hp
  exact ⟨r, base, tot, cur, h1, h2.keep (heap_alloc_keep w _ r (m.lt hp h1)), h3⟩⟩
theorem fr_other {lim n : Nat} {g : Sig} {h : Hm} {w : World} (hd : Dom h n) (o : Obj) : Fr lim n g h w n g h (w.alloc o) :=
  ⟨Nat.le_refl _, rfl, rfl, rfl, by simp, fun r hr _ => heap_alloc_keep w _ r hr, fun _ _ => rfl, fun p b e => ⟨fun _ => ⟨b, e⟩, hd p b e⟩, fun _ _ _ _ a b => by omega⟩
theorem mem_newLoop {g : Sig} {h : Hm} {w : World} (m : Mem g h w) {p : Pos} (h0 : g p = none) {b : Blk} (hs : b.size = 0) {rec : Loop} (hr : loopRel (gput g p (w.heap.size, 1, 0)) b rec) :
    Mem (gput g p (w.heap.size, 1, 0)) (hput h p (some b)) (w.alloc (.loop rec)) where
  inj := by
    intro q q' bq bq' r b1 t1 b2 t2 hq hq' e e'
    unfold hput at hq hq'
    unfold gput at e e'
    by_cases x : q = p <;> by_cases y : q' = p
    · rw [x, y]
    · rw [if_neg y] at hq' e'
      rw [if_pos x] at e
      cases e
      have := m.lt hq' e'
      omega
    · rw [if_neg x] at hq e
      rw [if_pos y] at e'
      cases e'
      have := m.lt hq e
      omega
    · rw [if_neg x] at hq e
      rw [if_neg y] at hq' e'
      exact m.inj q q' bq bq' r b1 t1 b2 t2 hq hq' e e'
  blk := by
    intro q c e
    unfold hput at e
    by_cases x : q = p
    · rw [if_pos x] at e
      cases e
      exact ⟨w.heap.size, 1, 0, #[], by simp [gput, x], .inr ⟨rfl, rfl, hs, .inr (.inl ⟨rec, heap_alloc_new w _, .inr hr⟩)⟩, rfl, .inl hs, by rw [hs]; unfold maxSize; omega, fun k hk => by omega⟩
    · rw [if_neg x] at e
      obtain ⟨r, base, tot, cur', h1, h2, h3, h4, h5, h6⟩ := m.blk q c e
      refine ⟨r, base, tot, cur', by simp [gput, x, h1], (h2.mono (gput_le _ h0)).keep (heap_alloc_keep w _ r (m.lt e h1)), h3, h4, h5, ?_⟩
      intro k hk
      obtain ⟨v, h1, h2, h3⟩ := h6 k hk
      exact ⟨v, h1, h2, V.rel_mono (gput_le _ h0) _ h3⟩
/-- A loop is left: its block is forgotten. -/
theorem mem_endLoop {g : Sig} {h : Hm} {w : World} (m : Mem g h w) {p : Pos} {b : Blk} (hp : h p = some b) {r : Nat} (hg : g p = some (r, 1, 0)) (o : Obj) :
    Mem g (hput h p none) (w.putObj r o) where
  inj := by
    intro q q' bq bq' r' b1 t1 b2 t2 hq hq' e e'
    unfold hput at hq hq'
    split at hq
    · cases hq
    · split at hq'
      · cases hq'
      · exact m.inj q q' bq bq' r' b1 t1 b2 t2 hq hq' e e'
  blk := by
    intro q c e
    unfold hput at e
    split at e
    · cases e
    · rename_i hq
      obtain ⟨r', base', tot', cur, h1, h2, h3⟩ := m.blk q c e
      refine ⟨r', base', tot', cur, h1, h2.keep (World.putObj_heap_other ?_), h3⟩
      intro he
      subst he
      exact hq (m.inj q p c b r' base' tot' 1 0 e hp h1 hg)
theorem fr_endLoop {lim n : Nat} {g : Sig} {h : Hm} {w : World} (hd : Dom h n) {p : Pos} {b : Blk} (hp : h p = some b) {r : Nat} (hg : g p = some (r, 1, 0)) (hl : lim ≤ p.num) (o : Obj) :
    Fr lim n g h w n g (hput h p none) (w.putObj r o) where
  le := Nat.le_refl _
  os := rfl
  tape := rfl
  output := rfl
  size := by simp
  keep := fun k hk hW => World.putObj_heap_other fun e => hW p b 1 0 hp hl (by rw [hg, e])
  sig := fun _ _ => rfl
  dom := fun q c e => by
    unfold hput at e
    split at e
    · cases e
    · exact ⟨fun _ => ⟨c, e⟩, hd q c e⟩
  new := fun _ _ _ _ a b => by omega
end Go.Proofs.Ytjhgingmbklhaaa.Ev
