/- The texts EvR0, EvRk, EvR, EvS, EvX, EvG2, EvG3. -/
import Derived.Test.YthgaekbcmhbbgaaQ4
import Derived.RangeFuncIn
import Derived.RangeFuncRecord
import Derived.Scope
import Derived.Below
import Derived.RangeFuncLeaves
import Derived.Lib.LaidTab
import Derived.LaidHandle
import Derived.LaidMore
import Derived.MakeChecks
/- Loops over functions in memory: made, changed, forgotten. -/
namespace Go.Proofs.Ythgaekbcmhbbgaa.Ev
set_option linter.unusedVariables false
open Go
theorem loop_of {g : Sig} {h : Hm} {w : World} (m : Mem g h w) {p : Pos} {b : Blk} (hp : h p = some b) {r : Nat} (hg : g p = some (r, 1, 0)) (hm : b.m.get .h = .b true) {N : Nat} {ps : Array Nat} {x y : Code} {z : L} (hz : b.z = .cons (.lp N ps x y) z) :
    b.size = 0 ∧ ∃ rec, w.heap[r]? = some (.loop rec) ∧ loopRel g b rec := by
  obtain ⟨r', base, tot, cur, h1, h2, _⟩ := m.blk p b hp
  rw [hg] at h1
  cases h1
  have hn : b.m ≠ .lf := fun e => by rw [e] at hm; cases hm
  rcases h2 with h2 | ⟨_, _, h3, ⟨es, clock, h4, h5⟩ | ⟨rec, h4, h5⟩ | ⟨s, pos, h4, h5⟩⟩
  · have := h2.2; omega
  · have h6 := h5.resolve_left hn
    rw [hz] at h6
    have ht : ∀ v ∈ es.toList.map entV, ∀ q, v ≠ .pointer q := fun v hv q e => by
      obtain ⟨x, _, hx⟩ := List.mem_map.1 hv
      rw [← hx] at e; unfold entV at e; cases e
    generalize es.toList.map entV = zs at h6 ht
    rw [L.rel] at h6
    obtain ⟨u, us, hzs, h7, _⟩ := h6
    rw [V.rel] at h7
    obtain ⟨_, r', _, h8⟩ := h7
    exact absurd h8 (ht u (by rw [hzs]; exact List.mem_cons_self ..) _)
  · exact ⟨h3, rec, h4, h5.resolve_left hn⟩
  · obtain ⟨bs, h6, _⟩ := h5.resolve_left hn
    rw [hz] at h6; cases h6
theorem mem_setLoop {g : Sig} {h : Hm} {w : World} (m : Mem g h w) {p : Pos} {b : Blk} (hp : h p = some b) {r : Nat} (hg : g p = some (r, 1, 0)) {b' : Blk} (hs : b'.size = 0) {rec : Loop} (hr : loopRel g b' rec) :
    Mem g (hput h p (some b')) { w with heap := w.heap.setIfInBounds r (.loop rec) } where
  inj := by
    intro q q' bq bq' r' b1 t1 b2 t2 hq hq' e e'
    have : ∀ {q : Pos} {c : Blk}, hput h p (some b') q = some c → ∃ c', h q = some c' := by
      intro q c e
      unfold hput at e
      split at e
      · rename_i e'; subst e'; exact ⟨b, hp⟩
      · exact ⟨c, e⟩
    obtain ⟨c, hc⟩ := this hq
    obtain ⟨c', hc'⟩ := this hq'
    exact m.inj q q' c c' r' b1 t1 b2 t2 hc hc' e e'
  blk := by
    intro q c e
    unfold hput at e
    have hlt := m.lt hp hg
    by_cases hq : q = p
    · rw [if_pos hq] at e
      cases e
      subst hq
      exact ⟨r, 1, 0, #[], hg, .inr ⟨rfl, rfl, hs, .inr (.inl ⟨rec, by show (w.heap.setIfInBounds r _)[r]? = _; simp [hlt], .inr hr⟩)⟩, rfl, .inl hs, by rw [hs]; unfold maxSize; omega, fun k hk => by omega⟩
    · rw [if_neg hq] at e
      obtain ⟨r', base', tot', cur, h1, h2, h3, h4, h5, h6⟩ := m.blk q c e
      refine ⟨r', base', tot', cur, h1, ?_, h3, h4, h5, h6⟩
      refine h2.keep (heap_setObj w r r' _ ?_)
      intro he
      subst he
      exact hq (m.inj q p c b r' base' tot' 1 0 e hp h1 hg)
theorem gput_le' {g : Sig} {p : Pos} (x : Nat × Nat × Nat) (h0 : g p = none) : g.le (gput g p x) := gput_le _ h0
theorem mem_other {g : Sig} {h : Hm} {w : World} (m : Mem g h w) (o : Obj) : Mem g h (w.alloc o) := ⟨m.inj, fun p b hp => by
  obtain ⟨r, base, tot, cur, h1, h2, h3⟩ := m.blk p b hp
  exact ⟨r, base, tot, cur, h1, h2.keep (heap_alloc_keep w _ r (m.lt hp h1)), h3⟩⟩
theorem fr_other {lim n : Nat} {g : Sig} {h : Hm} {w : World} (hd : Dom h n) (o : Obj) : Fr lim n g h w n g h (w.alloc o) :=
  ⟨Nat.le_refl _, rfl, rfl, rfl, by simp, fun r hr _ => heap_alloc_keep w _ r hr, fun _ _ => rfl, fun p b e => ⟨fun _ => ⟨b, e⟩, hd p b e⟩, fun _ _ _ _ a b => by omega⟩
theorem mem_newLoop {g : Sig} {h : Hm} {w : World} (m : Mem g h w) {p : Pos} (h0 : g p = none) {b : Blk} (hs : b.size = 0) {rec : Loop} (hr : loopRel (gput g p (w.heap.size, 1, 0)) b rec) :
    Mem (gput g p (w.heap.size, 1, 0)) (hput h p (some b)) (w.alloc (.loop rec)) where
  inj := by
    intro q q' bq bq' r b1 t1 b2 t2 hq hq' e e'
    unfold hput at hq hq'
    unfold gput at e e'
    by_cases x : q = p <;> by_cases y : q' = p
    · rw [x, y]
    · rw [if_neg y] at hq' e'
      rw [if_pos x] at e
      cases e
      have := m.lt hq' e'
      omega
    · rw [if_neg x] at hq e
      rw [if_pos y] at e'
      cases e'
      have := m.lt hq e
      omega
    · rw [if_neg x] at hq e
      rw [if_neg y] at hq' e'
      exact m.inj q q' bq bq' r b1 t1 b2 t2 hq hq' e e'
  blk := by
    intro q c e
    unfold hput at e
    by_cases x : q = p
    · rw [if_pos x] at e
      cases e
      exact ⟨w.heap.size, 1, 0, #[], by simp [gput, x], .inr ⟨rfl, rfl, hs, .inr (.inl ⟨rec, heap_alloc_new w _, .inr hr⟩)⟩, rfl, .inl hs, by rw [hs]; unfold maxSize; omega, fun k hk => by omega⟩
    · rw [if_neg x] at e
      obtain ⟨r, base, tot, cur', h1, h2, h3, h4, h5, h6⟩ := m.blk q c e
      refine ⟨r, base, tot, cur', by simp [gput, x, h1], (h2.mono (gput_le _ h0)).keep (heap_alloc_keep w _ r (m.lt e h1)), h3, h4, h5, ?_⟩
      intro k hk
      obtain ⟨v, h1, h2, h3⟩ := h6 k hk
      exact ⟨v, h1, h2, V.rel_mono (gput_le _ h0) _ h3⟩
/-- A loop is left: its block is forgotten. -/
theorem mem_endLoop {g : Sig} {h : Hm} {w : World} (m : Mem g h w) {p : Pos} {b : Blk} (hp : h p = some b) {r : Nat} (hg : g p = some (r, 1, 0)) (o : Obj) :
    Mem g (hput h p none) (w.putObj r o) where
  inj := by
    intro q q' bq bq' r' b1 t1 b2 t2 hq hq' e e'
    unfold hput at hq hq'
    split at hq
    · cases hq
    · split at hq'
      · cases hq'
      · exact m.inj q q' bq bq' r' b1 t1 b2 t2 hq hq' e e'
  blk := by
    intro q c e
    unfold hput at e
    split at e
    · cases e
    · rename_i hq
      obtain ⟨r', base', tot', cur, h1, h2, h3⟩ := m.blk q c e
      refine ⟨r', base', tot', cur, h1, h2.keep (World.putObj_heap_other ?_), h3⟩
      intro he
      subst he
      exact hq (m.inj q p c b r' base' tot' 1 0 e hp h1 hg)
theorem fr_endLoop {lim n : Nat} {g : Sig} {h : Hm} {w : World} (hd : Dom h n) {p : Pos} {b : Blk} (hp : h p = some b) {r : Nat} (hg : g p = some (r, 1, 0)) (hl : lim ≤ p.num) (o : Obj) :
    Fr lim n g h w n g (hput h p none) (w.putObj r o) where
  le := Nat.le_refl _
  os := rfl
  tape := rfl
  output := rfl
  size := by simp
  keep := fun k hk hW => World.putObj_heap_other fun e => hW p b 1 0 hp hl (by rw [hg, e])
  sig := fun _ _ => rfl
  dom := fun q c e => by
    unfold hput at e
    split at e
    · cases e
    · exact ⟨fun _ => ⟨c, e⟩, hd q c e⟩
  new := fun _ _ _ _ a b => by omega
end Go.Proofs.Ythgaekbcmhbbgaa.Ev
/- A region that appends to a slice which is used again: behind the region the old slice's block is put back, where its cells are as they were. -/
namespace Go.Proofs.Ythgaekbcmhbbgaa.Ev
set_option linter.unusedVariables false
set_option linter.unusedSimpArgs false
open Go

/-! A part of a region. -/
theorem evR_pre {P : Program} {F : FF} (hF : FOK P F) (hM : F.mono) {N : Nat} {ops : Array Oper} : ∀ (l l' : List Oper) (k : Nat) (r : RL), ops.toList.drop k = l ++ l' → compR P N ops l = some r →
    ∀ (lim : Nat) (e : Tr) (h : Hp) (n : Nat) (e' : Tr) (h' : Hp) (n' : Nat), evR r F lim e h n = .ok e' h' n' → ∀ (a : Act) (g : Sig) (w : World), EnvA N g e a → Mem g h.get w → Dom h.get n → Fresh g n n' → n' < 9223372036854775808 →
    ∀ (ro : Option Nat) (Q : Exit → Act → World → Prop), (∀ a' g' w', EnvA N g' e' a' → Mem g' h'.get w' → Fr lim n g h.get w n' g' h'.get w' → a'.defers = a.defers → wpOpsIn (fw ro) 0 P ops Q (List.range' (k + l.length) (ops.size - (k + l.length))) a' w') → wpOpsIn (fw ro) 0 P ops Q (List.range' k (ops.size - k)) a w
  | [], l', k, r, hl, hr, lim, e, h, n, e', h', n', hev, a, g, w, he, m, hd, hf, hn, ro, Q, hQ => by
    simp [compR] at hr
    subst hr
    cases hev
    exact hQ a g w he m (Fr.refl hd) rfl
  | o :: l, l', k, r, hl, hr, lim, e, h, n, e', h', n', hev, a, g, w, he, m, hd, hf, hn, ro, Q, hQ => by
    have hk : k < ops.size := by
      have := congrArg List.length hl
      simp at this; omega
    have hok : ops[k]? = some o := by
      have : (ops.toList.drop k)[0]? = some o := by rw [hl]; rfl
      simpa using this
    have hl' : ops.toList.drop (k + 1) = l ++ l' := by
      have : (ops.toList.drop k).drop 1 = l ++ l' := by rw [hl]; rfl
      simpa [List.drop_drop, Nat.add_comm] using this
    have hlen : k + (o :: l).length = k + 1 + l.length := by simp; omega
    rw [hlen] at hQ
    rw [show ops.size - k = (ops.size - (k + 1)) + 1 by omega, List.range'_succ]
    simp only [wpOpsIn, hok]
    rw [compR] at hr
    split at hr
    case h_2 => cases hr
    rename_i d gd q rl h1 h2 h3 h4
    cases hr
    have run : Region.wanted o (yielded ops a.tmps) = true → runR d q (evR rl) F lim e h n = .ok e' h' n' → if Region.wanted o (yielded ops a.tmps) then o.wpIn (fw ro) 0 P a w (wpOpsIn (fw ro) 0 P ops Q (List.range' (k + 1) (ops.size - (k + 1)))) Q else (∀ f, o.about P w a.eval = some f → (fw ro).fn f) ∧ wpOpsIn (fw ro) 0 P ops Q (List.range' (k + 1) (ops.size - (k + 1))) (a.put o.dst undef) w := by
      intro hw hrun
      rw [if_pos hw]
      unfold runR at hrun
      cases hq : q.ev F e lim h n with
      | no => rw [hq] at hrun; cases hrun
      | ok v h1' n1 =>
        rw [hq] at hrun
        have hrun : putd d v e (fun e' => evR rl F lim e' h1' n1) = .ok e' h' n' := hrun
        rw [putd_eq] at hrun
        have hge1 : n ≤ n1 := by have := O.ev_ge (n := n) hM q e lim h; rw [hq] at this; exact this
        have hge2 : n1 ≤ n' := by have := evR_ge hM rl lim (setD d v e) h1' n1; rw [hrun] at this; exact this
        refine compM_sound hF h3 e lim h n v h1' n1 hq a g w he.ok m hd (hf.sub (Nat.le_refl _) hge2) (by omega) ro _ _ fun u g1 w1 hv m1 f1 => ?_
        have hle := f1.gle (hf.sub (Nat.le_refl _) hge2)
        refine evR_pre hF hM l l' (k + 1) rl hl' h4 lim (setD d v e) h1' n1 e' h' n' hrun (a.put o.dst u) g1 w1 ((he.mono hle).put h1 hv) m1 f1.dom' (f1.fresh hf) hn ro Q fun a' g' w' ha hm hfr hd' => hQ a' g' w' ha hm (f1.trans hfr) (hd'.trans (put_defers a o.dst u))
    have skip : Region.wanted o (yielded ops a.tmps) = false → putd d (.tu .nil) e (fun e' => evR rl F lim e' h n) = .ok e' h' n' → if Region.wanted o (yielded ops a.tmps) then o.wpIn (fw ro) 0 P a w (wpOpsIn (fw ro) 0 P ops Q (List.range' (k + 1) (ops.size - (k + 1)))) Q else (∀ f, o.about P w a.eval = some f → (fw ro).fn f) ∧ wpOpsIn (fw ro) 0 P ops Q (List.range' (k + 1) (ops.size - (k + 1))) (a.put o.dst undef) w := by
      intro hw hrun
      rw [if_neg (by rw [hw]; simp)]
      rw [putd_eq] at hrun
      exact ⟨fun _ _ => trivial, evR_pre hF hM l l' (k + 1) rl hl' h4 lim (setD d (.tu .nil) e) h n e' h' n' hrun (a.put o.dst undef) g w (he.put h1 ⟨[], rfl, rfl⟩) m hd hf hn ro Q fun a' g' w' ha hm hfr hd' => hQ a' g' w' ha hm hfr (hd'.trans (put_defers a o.dst undef))⟩
    cases gd with
    | none => exact run (wanted_none h2) hev
    | some pb =>
      obtain ⟨p, b⟩ := pb
      have hev : guardR (e.get p) b (runR d q (evR rl) F lim e h n) (putd d (.tu .nil) e fun e' => evR rl F lim e' h n) .no = .ok e' h' n' := hev
      obtain ⟨w1, w2⟩ := wanted_of he h2
      unfold guardR at hev
      cases hg : e.get p <;> rw [hg] at hev <;> dsimp only [onB, V.asB, onT, V.asT] at hev
      case b x =>
        have hw := w1 x hg
        cases x <;> cases b <;> first | exact run (hw.trans rfl) hev | exact skip (hw.trans rfl) hev
      case tu lst =>
        cases lst with
        | nil => exact skip (w2 hg) hev
        | cons _ _ => cases hev
      all_goals cases hev

/-! The old block put back. -/
/-- Where the row of the old slice is behind the append: it is the new slice's, or it is as it was and nobody's. -/
def RowFact (g : Sig) (w : World) (sp p : Pos) (g1 : Sig) (w1 : World) : Prop := ∀ r base tot, g sp = some (r, base, tot) → g1 p = some (r, base, tot) ∨ (w1.heap[r]? = w.heap[r]? ∧ ∀ b' t', g1 p ≠ some (r, b', t'))

theorem mem_restore {lim n n3 : Nat} {g g1 g3 : Sig} {h h2 h3 : Hm} {w w1 w3 : World} {sp p : Pos} {bs b3 : Blk} (m : Mem g h w) (hd : Dom h n) (hsp : h sp = some bs) (hs0 : 0 < bs.size) (hp : p.num = n)
    (h2d : ∀ q c, h2 q = some c → q ≠ sp ∧ (q = p ∨ ∃ c', h q = some c')) (f12 : Fr lim n g h w (n + 1) g1 h2 w1) (hf : Fresh g n n3) (m2 : Mem g1 h2 w1) (rf : RowFact g w sp p g1 w1)
    (m3 : Mem g3 h3 w3) (f3 : Fr lim (n + 1) g1 h2 w1 n3 g3 h3 w3) (hb3 : h3 p = some b3) (hel : b3.el = bs.el) (hsz : bs.size ≤ b3.size) (hcell : ∀ k, k < bs.size → b3.cell k = bs.cell k)
    {nb : Blk} (nel : nb.el = bs.el) (nsz : nb.size = bs.size) (ncell : ∀ k, k < bs.size → nb.cell k = bs.cell k) :
    Mem g3 (hput (hput h3 p none) sp (some nb)) w3 ∧ Fr lim n g h w n3 g3 (hput (hput h3 p none) sp (some nb)) w3 := by
  have f13 := f12.trans f3
  have hspn : sp.num < n := hd sp bs hsp
  have hne : sp ≠ p := by intro e; rw [e] at hspn; omega
  obtain ⟨r, base, tot, cur, c1, c2, c3, c4, c5, c6⟩ := m.blk sp bs hsp
  have hg3s : g3 sp = some (r, base, tot) := by rw [f13.sig sp (.inl hspn)]; exact c1
  have hg3p : g3 p = g1 p := f3.sig p (.inl (by omega))
  have hrl : r < w.heap.size := m.lt hsp c1
  have other : ∀ q c b' t', h2 q = some c → q ≠ p → g1 q = some (r, b', t') → False := fun q c b' t' hq hqp e => by
    obtain ⟨hqs, hor⟩ := h2d q c hq
    rcases hor with hor | ⟨c', hc'⟩
    · exact hqp hor
    · rw [f12.sig q (.inl (hd q c' hc'))] at e
      exact hqs (m.inj q sp c' bs r b' t' base tot hc' hsp e c1)
  have nobody : ∀ q c b' t', h3 q = some c → q ≠ p → q ≠ sp → g3 q = some (r, b', t') → False := fun q c b' t' hq hqp hqs e => by
    obtain ⟨d1, d2⟩ := f3.dom q c hq
    by_cases hqn : q.num < n + 1
    · obtain ⟨c', hc'⟩ := d1 hqn
      rw [f3.sig q (.inl hqn)] at e
      exact other q c' b' t' hc' hqp e
    · rcases f3.new q r b' t' (by omega) d2 e with h1 | ⟨q0, c0, x, y, hq0, _, he0⟩
      · have := f12.size; omega
      · by_cases hq0p : q0 = p
        · subst hq0p
          have e2 := he0
          rw [← hg3p] at e2
          exact hqp (m3.inj q q0 c b3 r b' t' x y hq hb3 e e2)
        · exact other q0 c0 x y hq0 hq0p he0
  have gle : g.le g3 := f13.gle hf
  refine ⟨⟨?_, ?_⟩, ?_⟩
  · intro q q' bq bq' r' b1 t1 b2 t2 hq hq' e e'
    unfold hput at hq hq'
    by_cases x : q = sp <;> by_cases y : q' = sp
    · rw [x, y]
    · rw [if_neg y] at hq'
      by_cases z : q' = p
      · rw [if_pos z] at hq'; cases hq'
      · rw [if_neg z] at hq'
        rw [x, hg3s] at e
        cases e
        exact (nobody q' bq' b2 t2 hq' z y e').elim
    · rw [if_neg x] at hq
      by_cases z : q = p
      · rw [if_pos z] at hq; cases hq
      · rw [if_neg z] at hq
        rw [y, hg3s] at e'
        cases e'
        exact (nobody q bq b1 t1 hq z x e).elim
    · rw [if_neg x] at hq
      rw [if_neg y] at hq'
      by_cases z : q = p
      · rw [if_pos z] at hq; cases hq
      · by_cases z' : q' = p
        · rw [if_pos z'] at hq'; cases hq'
        · rw [if_neg z] at hq
          rw [if_neg z'] at hq'
          exact m3.inj q q' bq bq' r' b1 t1 b2 t2 hq hq' e e'
  · intro q c e
    unfold hput at e
    by_cases x : q = sp
    · rw [if_pos x] at e
      cases e
      subst x
      have hbt : base + bs.size ≤ tot := by omega
      rcases rf r base tot c1 with hA | ⟨hB1, hB2⟩
      · have hA3 : g3 p = some (r, base, tot) := hg3p.trans hA
        obtain ⟨r', base', tot', cur', d1, d2, d3, d4, d5, d6⟩ := m3.blk p b3 hb3
        rw [hA3] at d1
        cases d1
        refine ⟨r, base, tot, cur', hg3s, .inl ⟨by rw [nel, ← hel]; exact d2.row (.inl (by omega)), by omega⟩, d3, by omega, by omega, fun k hk => ?_⟩
        rw [nsz] at hk
        obtain ⟨v, x1, x2, x3⟩ := d6 k (by omega)
        exact ⟨v, x1, x2, by rw [ncell k hk, ← hcell k hk]; exact x3⟩
      · have hkeep : w3.heap[r]? = w.heap[r]? := by
          rw [f3.keep r (by have := f12.size; omega) fun q c b' t' hq _ e => ?_, hB1]
          by_cases hqp : q = p
          · subst hqp; exact hB2 _ _ e
          · exact other q c b' t' hq hqp e
        refine ⟨r, base, tot, cur, hg3s, .inl ⟨by rw [nel]; exact (c2.row (.inl hs0)).keep hkeep, by omega⟩, c3, by omega, by omega, fun k hk => ?_⟩
        rw [nsz] at hk
        obtain ⟨v, x1, x2, x3⟩ := c6 k hk
        exact ⟨v, x1, x2, by rw [ncell k hk]; exact V.rel_mono gle _ x3⟩
    · rw [if_neg x] at e
      by_cases z : q = p
      · rw [if_pos z] at e; cases e
      · rw [if_neg z] at e
        exact m3.blk q c e
  · exact { f13 with
      dom := fun q c e => by
        unfold hput at e
        by_cases x : q = sp
        · subst x
          exact ⟨fun _ => ⟨bs, hsp⟩, by have := f13.le; omega⟩
        · rw [if_neg x] at e
          by_cases z : q = p
          · rw [if_pos z] at e; cases e
          · rw [if_neg z] at e
            exact f13.dom q c e }

/-- append to the whole of a block of unknown room: what it comes to, and where the old row is. -/
theorem app_keep {P : Program} {o : Oper} {t el : TypeId} {os ox : Operand} {s x : X} {i : TypeInfo} {zv : Value} (hs : compX os = some s) (hx : compX ox = some x) (ht : P.underlying t = some (.slice el)) (hi : P.info? el = some i) (hz : i.zero = some zv) (h0 : 0 < i.size) (hzs : zv.cells.size = i.size)
    (ho : o.op = .call { callee := .builtin .append, args := #[os, ox], argTypes := #[t, t] }) {e : Tr} {lim : Nat} {h : Hp} {n : Nat} {v : V} {h' : Hp} {n' : Nat} {sp xp : Pos} {xo sl xl : Nat} {xcap : Option Nat} {bs bx : Blk}
    (es : evX s e = .sl sp 0 i.size sl none) (ex : evX x e = .sl xp xo i.size xl xcap) (hhs : h.get sp = some bs) (hhx : h.get xp = some bx)
    (hxl : xl ≠ 0) (hxs : xo + xl * i.size ≤ bx.size) (hxC : (bx.getL xo (xl * i.size)).allC = true) (hel : bs.el = el) (hss : sl * i.size = bs.size) (hsb : (sl + xl) * i.bytes ≤ 140737488355328) (hsz : (sl + xl) * i.size ≤ 1099511627776) (hlim : lim ≤ sp.num)
    (hr : newB (grown bs 0 (sl * i.size) (bx.getL xo (xl * i.size))) (fun p => .sl p 0 i.size (sl + xl) none) (h.put none sp) n = .ok v h' n')
    {ρ : Operand → Value} {g : Sig} {w : World} (he : EnvOK g e ρ) (m : Mem g h.get w) (hd : Dom h.get n) (hf : Fresh g n n') (hn : n' < 9223372036854775808) :
    ∃ nx g' w' p, (execOp ρ o).run P w = .ok nx w' ∧ NX g' v nx ∧ Mem g' h'.get w' ∧ Fr lim n g h.get w n' g' h'.get w' ∧ p.num = n ∧ n' = n + 1 ∧ h'.get = hput (h.put none sp).get p (some (grown bs 0 (sl * i.size) (bx.getL xo (xl * i.size)))) ∧ RowFact g w sp p g' w' := by
  have rs := he os s hs
  have rx := he ox x hx
  rw [es, V.rel] at rs
  rw [ex, V.rel] at rx
  have hex := exec_app (P := P) (o := o) (t' := 0) ho ρ w
  obtain ⟨r, base, tot, xc, xo', hg, hv, hesz, hlc, hcm, ho', hbt, _⟩ := rx
  obtain ⟨r2, base2, tot2, sc, so', hg2, hv2, hesz2, hlc2, hcm2, ho2, hbt2, hcap⟩ := rs
  obtain ⟨news, nl, nr, nc⟩ := getL_rel' m hhx hg (xl * i.size) xo xo' xl hxs (fun _ => ho' (by omega))
  have nC := allC_one hxC nr
  have nlen : (bx.getL xo (xl * i.size)).length = xl * i.size := getL_length _ _ _
  have grow_len : ∀ need cap : Nat, need ≤ cap → ∀ l : List Value, l.length = need * i.size → l.length + (Builtin.zeroCells zv.cells (cap - need)).toList.length = cap * i.size := by
    intro need cap hnc l hl
    rw [hl, zeroCells_len, hzs, ← Nat.add_mul]; congr 1; omega
  obtain ⟨olds, ol, or_, oc, oone⟩ := getL_one m hhs hg2 (sl * i.size) 0 so' (by omega) (fun hp => ho2 (by
    have : 0 < sl := Nat.pos_of_ne_zero fun e => by subst e; omega
    omega))
  have hn1 : (sl + xl) * i.size = sl * i.size + xl * i.size := Nat.add_mul _ _ _
  have hle1 : sl + xl ≤ (sl + xl) * i.size := Nat.le_mul_of_pos_right _ h0
  have hall : (olds ++ news).length = (sl + xl) * i.size := by simp [ol, nl, hn1]
  have hgc : grownCap w (sl + xl) sc el ≤ maxLen := grownCap_le_maxLen w (sl + xl) sc el (by unfold maxLen; omega)
  have hgg := grownCap_ge w (sl + xl) sc el
  have eA : (⟨olds ++ news ++ (Builtin.zeroCells zv.cells (grownCap w (sl + xl) sc el - (sl + xl))).toList⟩ : Array Value) = olds.toArray ++ news.toArray ++ Builtin.zeroCells zv.cells (grownCap w (sl + xl) sc el - (sl + xl)) := by apply Array.ext'; simp
  have hcap : base2 + 0 + sc * i.size = tot2 := hcap
  obtain ⟨gs1, gs2, gs3⟩ := grown_spec bs 0 (sl * i.size) (bx.getL xo (xl * i.size)) hxC (by rw [nlen]; unfold maxSize; omega)
  rw [nlen] at gs2 gs3
  obtain ⟨p, pn, ev, ph, pn'⟩ := newB_inv hr hn
  have hp0 : g p = none := hf p (by omega) (by omega)
  have m1 : Mem g (h.put none sp).get w := m.sub fun p b e => by
    have e := (Hp.get_put _ _ _ _).symm.trans e; split at e
    · cases e
    · exact e
  have hd1 : Dom (h.put none sp).get n := fun p b e => by
    have e := (Hp.get_put _ _ _ _).symm.trans e; split at e
    · cases e
    · exact hd p b e
  by_cases hfit : sl + xl ≤ sc
  · subst ev
    subst pn'
    have hso : so' = base2 := by have := ho2 (by omega); omega
    subst hso
    obtain ⟨rr, bb, tt, cur, c1, c2, c3, c4, c5, c6⟩ := m.blk sp bs hhs
    rw [hg2] at c1
    cases c1
    have hscm : (sl + xl) * i.size ≤ sc * i.size := Nat.mul_le_mul_right _ hfit
    obtain ⟨w', s1, s2, s3⟩ := app_in (P := P) (lim := lim) (so := 0) (k := sl * i.size) m hd pn hp0 hhs hlim hg2 (c2.row (.inr (by omega))) c3 news gs1 (by rw [gs2]; omega) (by rw [gs2]; unfold maxSize; omega) (by omega)
      (fun j hj => by
        obtain ⟨u, d1, d2, d3⟩ := c6 (0 + j) (by omega)
        refine ⟨u, by rw [Nat.add_assoc]; exact d1, d2, ?_⟩
        rw [gs3 j (by omega), if_pos hj]; exact d3)
      (fun j hj => by
        rw [nl] at hj
        have hjr := L.rel_get j nr
        have hone := allC_one hxC nr (news.getD j undef) (by
          rw [List.getD, List.getElem?_eq_getElem (by omega)]; simp)
        refine ⟨news.getD j undef, by simp [List.getD, List.getElem?_eq_getElem (show j < news.length by omega)], hone, ?_⟩
        rw [gs3 (sl * i.size + j) (by omega), if_neg (by omega), show sl * i.size + j - sl * i.size = j by omega]; exact hjr)
    simp only [Nat.add_zero] at s1 s2 s3
    have hrun := run_room (P := P) ht hi o.type ⟨r2, so', none⟩ sl sc ⟨r, xo', none⟩ xl xc news w w' nl nc hfit (by rw [Addr.add_lit]; exact s1)
    rw [hv2, hv, hrun] at hex
    refine ⟨_, gput g p (r2, so', tot2), w', p, hex, ?_, by rw [ph, Hp.put_get]; exact s2, by rw [ph, Hp.put_get]; exact s3, pn, rfl, ph, fun r' b' t' e => ?_⟩
    · show V.rel _ (.sl p 0 i.size (sl + xl) none) _
      rw [V.rel]
      exact ⟨r2, so', tot2, sc, so', by simp [gput], rfl, h0, hfit, hcm2, fun _ => rfl, by omega, by omega⟩
    · rw [hg2] at e
      cases e
      exact .inl (by simp [gput])
  · have hlt : sc < sl + xl := by omega
    have hrun := run_append_grow (P := P) w t o.type el i zv ht hi hz ⟨r2, so', none⟩ sl sc olds ol oc ⟨r, xo', none⟩ xl xc news nl nc hlt (by omega) (growslice_fits hlt hsb)
    rw [hv2, hv, hrun] at hex
    obtain ⟨g', nx, m', f'⟩ := newGrown (lim := lim) (el := el) (i := i) (k := sl + xl) (w := w.drew) (h := h.put none sp) (gs1.trans hel) m1.drew hd1 hf hn h0 hr (olds ++ news) (Builtin.zeroCells zv.cells (grownCap w (sl + xl) sc el - (sl + xl))).toList (grownCap w (sl + xl) sc el) hgg hgc (grow_len _ _ hgg _ hall) (by rw [gs2]; omega) (by rw [gs2]; unfold maxSize; omega) (fun j hj => by
      rw [gs2] at hj
      rw [gs3 j hj]
      by_cases hjk : j < sl * i.size
      · rw [if_pos hjk]
        have hjr := L.rel_get j or_
        rw [getL_get bs _ 0 j hjk] at hjr
        have hone := oone (olds.getD j undef) (by rw [List.getD, List.getElem?_eq_getElem (by omega)]; simp)
        exact ⟨olds.getD j undef, by rw [List.getElem?_append_left (by omega)]; simp [List.getD, List.getElem?_eq_getElem (show j < olds.length by omega)], hone, hjr⟩
      · rw [if_neg hjk]
        have hjr := L.rel_get (j - sl * i.size) nr
        have hone := allC_one hxC nr (news.getD (j - sl * i.size) undef) (by rw [List.getD, List.getElem?_eq_getElem (by omega)]; simp)
        refine ⟨news.getD (j - sl * i.size) undef, ?_, hone, hjr⟩
        rw [List.getElem?_append_right (by omega), ol]
        simp [List.getD, List.getElem?_eq_getElem (show j - sl * i.size < news.length by omega)])
    rw [eA] at m' f'
    have sub : ∀ p b, (h.put none sp).get p = some b → h.get p = some b ∧ p ≠ sp := by
      intro p b e
      have e := (Hp.get_put _ _ _ _).symm.trans e; split at e
      · cases e
      · rename_i hne; exact ⟨e, hne⟩
    have f1 := (Fr.drew (lim := lim) hd1 (g := g) (w := w)).trans f'
    have fsub : Fr lim n g h.get w n' g' h'.get (w.drew.alloc (.cells (olds.toArray ++ news.toArray ++ Builtin.zeroCells zv.cells (grownCap w (sl + xl) sc el - (sl + xl))) el)) :=
      { f1 with
        keep := fun r hr hW => f1.keep r hr fun p b base tot hp => hW p b base tot (sub p b hp).1
        dom := fun p b e => ⟨fun hp => let ⟨b', hb'⟩ := (f1.dom p b e).1 hp; ⟨b', (sub p b' hb').1⟩, (f1.dom p b e).2⟩
        new := fun p r base tot a b e => (f1.new p r base tot a b e).imp id fun ⟨q, b, x, y, hq, hql, hge⟩ => ⟨q, b, x, y, (sub q b hq).1, hql, hge⟩ }
    refine ⟨_, g', _, p, hex, nx, m', fsub, pn, pn', ph, fun r' b' t' e => .inr ⟨?_, fun b'' t'' e2 => ?_⟩⟩
    · have hlt' : r' < w.heap.size := m.lt hhs e
      exact f1.keep r' hlt' fun q c x y hq _ e3 => (sub q c hq).2 (m.inj q sp c bs r' x y b' t' (sub q c hq).1 hhs e3 e)
    · have hlt' : r' < w.heap.size := m.lt hhs e
      rcases f1.new p r' b'' t'' (by omega) (by omega) e2 with h1 | ⟨q, c, x, y, hq, _, e3⟩
      · omega
      · exact (sub q c hq).2 (m.inj q sp c bs r' x y b' t' (sub q c hq).1 hhs e3 e)

/-! Such a region, compiled and run. -/
def isAppK (o : Oper) : Bool := match o.op, o.guard with
  | .call { callee := .builtin .append, args := ⟨[_, _]⟩, argTypes := ⟨[t, t']⟩ }, none => Nat.beq t t'
  | _, _ => false
def argOf (t : Option Nat) (l : List Oper) : Bool := l.any fun o => match o.op with
  | .call { callee := .value _, args := as, argTypes := _ } => as.toList.any fun x => match x with | .tmp u => t == some u | _ => false
  | _ => false
def splitK : List Oper → Option (List Oper × Oper × List Oper)
  | [] => none
  | o :: l => if (isAppK o && argOf o.dst l) = true then some ([], o, l) else match splitK l with
    | some (a, b, c) => some (o :: a, b, c)
    | none => none
theorem splitK_eq : ∀ {l : List Oper} {a : List Oper} {o : Oper} {b : List Oper}, splitK l = some (a, o, b) → l = a ++ o :: b
  | [], _, _, _, h => by cases h
  | x :: l, a, o, b, h => by
    unfold splitK at h
    split at h
    · cases h; rfl
    · split at h
      · rename_i h1
        cases h
        rw [splitK_eq h1]; rfl
      · cases h
def compAK (P : Program) (o : Oper) : Option (TypeId × Nat × Nat × X × X) :=
  match o.op with
  | .call { callee := .builtin .append, args := ⟨[s, x]⟩, argTypes := ⟨[t, t']⟩ } => if t = t' then match P.underlying t with
    | some (.slice el) => match P.info? el with
      | some i => match i.zero with
        | some zv => match compX s, compX x with
          | some s, some x => if 0 < i.size ∧ zv.cells.size = i.size then some (el, i.size, i.bytes, s, x) else none
          | _, _ => none
        | none => none
      | none => none
    | _ => none else none
  | _ => none
theorem compAK_inv {P : Program} {o : Oper} {el : TypeId} {esz by_ : Nat} {s x : X} (h : compAK P o = some (el, esz, by_, s, x)) :
    ∃ t os ox i zv, o.op = .call { callee := .builtin .append, args := #[os, ox], argTypes := #[t, t] } ∧ P.underlying t = some (.slice el) ∧ P.info? el = some i ∧ i.zero = some zv ∧ compX os = some s ∧ compX ox = some x ∧ 0 < i.size ∧ zv.cells.size = i.size ∧ esz = i.size ∧ by_ = i.bytes := by
  unfold compAK at h
  split at h
  · rename_i s0 x0 t t' ho
    split at h
    · rename_i ht
      subst ht
      split at h
      · rename_i h1
        split at h
        · rename_i h2
          split at h
          · rename_i h3
            split at h
            · rename_i h4 h5
              split at h
              · rename_i h6
                cases h
                exact ⟨_, _, _, _, _, ho, h1, h2, h3, h4, h5, h6.1, h6.2, rfl, rfl⟩
              · cases h
            · cases h
          · cases h
        · cases h
      · cases h
    · cases h
  · cases h
def compK (P : Program) (N : Nat) (ops : Array Oper) : Option (RL × (TypeId × Nat × Nat × X × X) × Option Pos × RL) :=
  match splitK ops.toList with
  | some (l1, o, l2) => match compR P N ops l1, compAK P o, compD N o.dst, compG N ops o.guard, compR P N ops l2 with
    | some r1, some k, some dt, some none, some r2 => some (r1, k, dt, r2)
    | _, _, _, _, _ => none
  | none => none
noncomputable def rekC (el esz by_ se sl xe xo xl lim : Nat) (sp : Pos) (bs bx : Blk) : Bool :=
  and (Nat.beq se esz) (and (Nat.beq xe esz) (and (Nat.beq bs.el el) (and (Nat.beq (sl * esz) bs.size) (and (Nat.ble 1 bs.size) (and (Nat.ble 1 xl) (and (Nat.ble (xo + xl * esz) bx.size) (and (bx.getL xo (xl * esz)).allC
    (and (Nat.ble ((sl + xl) * by_) 140737488355328) (and (Nat.ble ((sl + xl) * esz) 1099511627776) (Nat.ble lim sp.num))))))))))
/-- The old block is put back where the new one still begins so. -/
noncomputable def bkR (sp p : Pos) (bs : Blk) (e : Tr) (h : Hp) (n : Nat) : Rg := match h.get p with
  | some b => Bool.rec (.ok e h n) (.ok e ((h.put none p).put (some bs) sp) n) (and (Nat.beq b.el bs.el) (and (Nat.ble bs.size b.size) (eqL (b.getL 0 bs.size) (bs.getL 0 bs.size))))
  | none => .ok e h n
noncomputable def rekB (dt : Option Pos) (r2 : RL) (F : FF) (lim : Nat) (e1 : Tr) (sp : Pos) (bs : Blk) (r : Res) : Rg := match r with
  | .ok v h2 n2 => (match v with
    | .sl p _ _ _ _ => (match evR r2 F lim (setD dt v e1) h2 n2 with
      | .ok e3 h3 n3 => bkR sp p bs e3 h3 n3
      | .no => .no)
    | _ => .no)
  | .no => .no
noncomputable def evRek (r r1 : RL) (el esz by_ : Nat) (s x : X) (dt : Option Pos) (r2 : RL) (F : FF) (lim : Nat) (e : Tr) (h : Hp) (n : Nat) : Rg := match evR r1 F lim e h n with
  | .no => .no
  | .ok e1 h1 n1 => (match evX s e1, evX x e1 with
    | .sl sp 0 se sl none, .sl xp xo xe xl _ => (match h1.get sp, h1.get xp with
      | some bs, some bx => Bool.rec (evR r F lim e h n) (rekB dt r2 F lim e1 sp bs (newB (grown bs 0 (sl * esz) (bx.getL xo (xl * esz))) (fun p => .sl p 0 esz (sl + xl) none) (h1.put none sp) n1)) (rekC el esz by_ se sl xe xo xl lim sp bs bx)
      | _, _ => evR r F lim e h n)
    | _, _ => evR r F lim e h n)
theorem bkR_ge {m : Nat} (sp p : Pos) (bs : Blk) (e : Tr) (h : Hp) {n : Nat} (hn : m ≤ n) : (bkR sp p bs e h n).ge m := by
  unfold bkR
  split
  · rename_i b _
    cases and (Nat.beq b.el bs.el) (and (Nat.ble bs.size b.size) (eqL (b.getL 0 bs.size) (bs.getL 0 bs.size))) <;> exact hn
  · exact hn
theorem rg_bool {n : Nat} {b : Bool} {x y : Rg} (hx : x.ge n) (hy : y.ge n) : (Bool.rec x y b : Rg).ge n := by cases b <;> assumption
theorem rekB_ge {F : FF} (hF : F.mono) (dt : Option Pos) (r2 : RL) (lim : Nat) (e1 : Tr) (sp : Pos) (bs : Blk) {r : Res} {n : Nat} (hr : r.ge n) : (rekB dt r2 F lim e1 sp bs r).ge n := by
  unfold rekB
  split
  · rename_i v h2 n2
    have hr : n ≤ n2 := hr
    split
    · rename_i p po pe pl pc
      have h2' := evR_ge hF r2 lim (setD dt (.sl p po pe pl pc) e1) h2 n2
      split
      · rename_i e3 h3 n3 he3
        rw [he3] at h2'
        have h2' : n2 ≤ n3 := h2'
        exact bkR_ge _ _ _ _ _ (by omega)
      · trivial
    · trivial
  · trivial
theorem evRek_ge {F : FF} (hF : F.mono) (r r1 : RL) (el esz by_ : Nat) (s x : X) (dt : Option Pos) (r2 : RL) (lim : Nat) (e : Tr) (h : Hp) (n : Nat) : (evRek r r1 el esz by_ s x dt r2 F lim e h n).ge n := by
  have hr := evR_ge hF r lim e h n
  have h1 := evR_ge hF r1 lim e h n
  unfold evRek
  split
  · trivial
  · rename_i e1 h1' n1 he1
    rw [he1] at h1
    have h1 : n ≤ n1 := h1
    split
    · split
      · exact rg_bool hr (rekB_ge hF _ _ _ _ _ _ (Res.ge_mono h1 (ge_newB _ _ _)))
      · exact hr
    · exact hr
theorem rek_sound {ro : Option Nat} {P : Program} {F : FF} (hF : FOK P F) (hM : F.mono) {N : Nat} {id : Nat} {ops : Array Oper} {r r1 r2 : RL} {el esz by_ : Nat} {s x : X} {dt : Option Pos} (hr : compR P N ops ops.toList = some r) (hk : compK P N ops = some (r1, (el, esz, by_, s, x), dt, r2))
    {lim : Nat} {e : Tr} {h : Hp} {n : Nat} {e' : Tr} {h' : Hp} {n' : Nat} (hev : evRek r r1 el esz by_ s x dt r2 F lim e h n = .ok e' h' n') {a : Act} {g : Sig} {w : World} (he : EnvA N g e a) (m : Mem g h.get w) (hd : Dom h.get n) (hf : Fresh g n n') (hn : n' < 9223372036854775808) :
    (Code.region id ops false).wpIn (fw ro) 0 P (fun ex a' w' => ex = .normal ∧ MkK w a w' a' ∧ ∃ g', EnvA N g' e' a' ∧ Mem g' h'.get w' ∧ Fr lim n g h.get w n' g' h'.get w') a w := by
  have old : evR r F lim e h n = .ok e' h' n' → (Code.region id ops false).wpIn (fw ro) 0 P (fun ex a' w' => ex = .normal ∧ MkK w a w' a' ∧ ∃ g', EnvA N g' e' a' ∧ Mem g' h'.get w' ∧ Fr lim n g h.get w n' g' h'.get w') a w := fun hx => reg_sound hF hM hr hx he m hd hf hn
  unfold evRek at hev
  cases he1 : evR r1 F lim e h n with
  | no => rw [he1] at hev; cases hev
  | ok e1 h1 n1 =>
    rw [he1] at hev
    dsimp only at hev
    split at hev
    case h_2 => exact old hev
    rename_i sp se sl xp xo xe xl xcap hsv hxv
    split at hev
    case h_2 => exact old hev
    rename_i bs bx hbs hbx
    cases hc : rekC el esz by_ se sl xe xo xl lim sp bs bx
    · rw [hc] at hev; exact old hev
    rw [hc] at hev
    have hev : rekB dt r2 F lim e1 sp bs (newB (grown bs 0 (sl * esz) (bx.getL xo (xl * esz))) (fun p => .sl p 0 esz (sl + xl) none) (h1.put none sp) n1) = .ok e' h' n' := hev
    cases hnb : newB (grown bs 0 (sl * esz) (bx.getL xo (xl * esz))) (fun p => .sl p 0 esz (sl + xl) none) (h1.put none sp) n1 with
    | no => rw [hnb] at hev; cases hev
    | ok v h2 n2 =>
      rw [hnb] at hev
      unfold rekB at hev
      dsimp only at hev
      split at hev
      case h_2 => cases hev
      rename_i p po pe pl pc
      cases he3 : evR r2 F lim (setD dt (.sl p po pe pl pc) e1) h2 n2 with
      | no => rw [he3] at hev; cases hev
      | ok e3 h3 n3 =>
        rw [he3] at hev
        dsimp only at hev
        -- numbers
        have g1 : n ≤ n1 := by have := evR_ge hM r1 lim e h n; rw [he1] at this; exact this
        have g2 : n1 ≤ n2 := by have := ge_newB (n := n1) (grown bs 0 (sl * esz) (bx.getL xo (xl * esz))) (fun p => .sl p 0 esz (sl + xl) none) (h1.put none sp); rw [hnb] at this; exact this
        have g3 : n2 ≤ n3 := by have := evR_ge hM r2 lim (setD dt (.sl p po pe pl pc) e1) h2 n2; rw [he3] at this; exact this
        have g4 : e3 = e' ∧ n3 = n' ∧ ((h' = h3) ∨ ∃ b, h3.get p = some b ∧ b.el = bs.el ∧ bs.size ≤ b.size ∧ b.getL 0 bs.size = bs.getL 0 bs.size ∧ h' = (h3.put none p).put (some bs) sp) := by
          unfold bkR at hev
          split at hev
          · rename_i b hb
            cases hq : and (Nat.beq b.el bs.el) (and (Nat.ble bs.size b.size) (eqL (b.getL 0 bs.size) (bs.getL 0 bs.size)))
            · rw [hq] at hev; cases hev; exact ⟨rfl, rfl, .inl rfl⟩
            · rw [hq] at hev
              cases hev
              simp only [Bool.and_eq_true, Nat.beq_eq, Nat.ble_eq] at hq
              exact ⟨rfl, rfl, .inr ⟨b, hb, hq.1, hq.2.1, eqL_eq _ _ hq.2.2, rfl⟩⟩
          · cases hev; exact ⟨rfl, rfl, .inl rfl⟩
        obtain ⟨rfl, rfl, hh⟩ := g4
        unfold rekC at hc
        simp only [Bool.and_eq_true, Nat.beq_eq, Nat.ble_eq] at hc
        obtain ⟨rfl, rfl, q3, q4, q5, q6, q7, q8, q9, q10, q11⟩ := hc
        -- the code
        unfold compK at hk
        split at hk
        case h_2 => cases hk
        rename_i l1 o l2 hsp
        split at hk
        case h_2 => cases hk
        rename_i k1 k2 k3 k4 k5
        cases hk
        have hops := splitK_eq hsp
        obtain ⟨t, os, ox, i, zv, ho, ht, hi, hz, hos, hox, h0, hzs, rfl, rfl⟩ := compAK_inv k2
        have hsize : ops.size = l1.length + 1 + l2.length := by
          have := congrArg List.length hops
          simp at this; omega
        refine wpIn_region ?_
        rw [List.range_eq_range']
        have start := evR_pre hF hM (ops := ops) l1 (o :: l2) 0 r1 (by rw [List.drop_zero]; exact hops) k1 lim e h n e1 h1 n1 he1 a g w he m hd (hf.sub (Nat.le_refl _) (by omega)) (by omega) ro (fun ex a' w' => ex = .normal ∧ MkK w a w' a' ∧ ∃ g', EnvA N g' e3 a' ∧ Mem g' h'.get w' ∧ Fr lim n g h.get w n3 g' h'.get w') (fun a1 w1g w1 he1a m1 f1 hd1 => ?_)
        · simpa using start
        have hfr1 : Fresh w1g n1 n3 := f1.fresh (hf.sub (Nat.le_refl _) (Nat.le_refl _))
        have hok : ops[l1.length]? = some o := by
          have : ops.toList[l1.length]? = some o := by rw [hops]; simp
          simpa using this
        rw [show ops.size - (0 + l1.length) = (ops.size - (l1.length + 1)) + 1 by omega, List.range'_succ]
        simp only [wpOpsIn, Nat.zero_add, hok]
        rw [if_pos (wanted_none k4)]
        obtain ⟨nx, g2', w2, p', hx, hnx, m2, f2, pn, pn', ph, rf⟩ := app_keep (P := P) (o := o) hos hox ht hi hz h0 hzs ho (lim := lim) hsv hxv hbs hbx (by omega) q7 q8 q3 q4 q9 q10 q11 hnb he1a.ok m1 f1.dom' (hfr1.sub (Nat.le_refl _) (by omega)) (by omega)
        subst pn'
        have hpp : p' = p := by
          have hnx := hnx
          obtain ⟨p2, z1, z2, z3, z4⟩ := newB_inv hnb (by omega)
          cases z2
          exact Pos.num_inj (by omega)
        subst hpp
        refine ⟨fun _ _ => trivial, ?_⟩
        have hs' : o.semAt (fw ro).round a1.eval = execOp a1.eval o := Oper.semAt_eq ro _ o fun c hc => by rw [ho] at hc; cases hc
        rw [hs', hx]
        cases nx with
        | value u =>
          have hnx : V.rel g2' _ u := hnx
          have gle2 := f2.gle (hfr1.sub (Nat.le_refl _) (by omega))
          have dropl : ops.toList.drop (l1.length + 1) = l2 := by
            rw [hops, ← List.drop_drop]; simp
          refine evR_sound hF hM (ops := ops) l2 (l1.length + 1) r2 dropl k5 lim _ h2 (n1 + 1) e3 h3 n3 he3 (a1.put o.dst u) g2' w2 ((he1a.mono gle2).put k3 hnx) m2 f2.dom' (f2.fresh hfr1) (by omega) ro _ fun a3 g3' w3 he3a m3 f3 hd3 => ?_
          have hdef : a3.defers = a.defers := (hd3.trans (put_defers a1 o.dst u)).trans hd1
          rcases hh with rfl | ⟨b, hb, b1, b2, b3, rfl⟩
          · have ff := f1.trans (f2.trans f3)
            exact ⟨rfl, mk_keep m ff hdef, g3', he3a, m3, ff⟩
          · have h2d : ∀ q c, h2.get q = some c → q ≠ sp ∧ (q = p' ∨ ∃ c', h1.get q = some c') := fun q c hq => by
              have hq := (congrFun ph q).symm.trans hq
              unfold hput at hq
              by_cases z : q = p'
              · refine ⟨fun z2 => ?_, .inl z⟩
                have := f1.dom' sp bs hbs
                rw [← z2, z] at this; omega
              · rw [if_neg z] at hq
                have hq := (Hp.get_put _ _ _ _).symm.trans hq
                split at hq
                · cases hq
                · rename_i z2; exact ⟨z2, .inr ⟨c, hq⟩⟩
            obtain ⟨mm, ff⟩ := mem_restore m1 f1.dom' hbs (by omega) pn h2d f2 (hfr1.sub (Nat.le_refl _) (Nat.le_refl _)) m2 rf m3 f3 hb b1 b2 (fun k hk => by
              have e1 := getL_get b bs.size 0 k hk
              have e2 := getL_get bs bs.size 0 k hk
              rw [b3, Nat.zero_add] at e1
              rw [Nat.zero_add] at e2
              rw [← e1, e2]) (nb := bs) rfl rfl (fun _ _ => rfl)
            have eh : ((h3.put none p').put (some bs) sp).get = hput (hput h3.get p' none) sp (some bs) := by rw [Hp.put_get, Hp.put_get]
            rw [eh]
            have ff2 := f1.trans ff
            exact ⟨rfl, mk_keep m ff2 hdef, g3', he3a, mm, ff2⟩
        | skip =>
          have hnx : V.rel g2' (.sl p' po pe pl pc) undef := hnx
          rw [V.rel] at hnx
          obtain ⟨_, _, _, _, _, _, q2, _⟩ := hnx
          cases q2
        | _ => exact hnx.elim
end Go.Proofs.Ythgaekbcmhbbgaa.Ev
/- Code and functions. -/
namespace Go.Proofs.Ythgaekbcmhbbgaa.Ev
set_option linter.unusedVariables false
open Go

inductive IC where
  | skip | ret | exit (id : Nat) | seq (a b : IC) | cond (x : X) (a b : IC) | block (id : Nat) (b : IC) | loop (b : IC) | reg (l : RL) | draw (l : DR) | rfn (x : X) (N : Nat) (ps : Array Nat) (ca cb : Code) | rek (r r1 : RL) (el esz by_ : Nat) (s x : X) (dt : Option Pos) (r2 : RL) | nope
inductive Rs where
  | no | nor (e : Tr) (h : Hp) (n : Nat) | ext (id : Nat) (e : Tr) (h : Hp) (n : Nat) | ret (e : Tr) (h : Hp) (n : Nat)

noncomputable def rgRs (r : Rg) : Rs := Rg.rec (motive := fun _ => Rs) .no (fun e h n => .nor e h n) r
noncomputable def evSeq (ra rb : FF → Nat → Tr → Hp → Nat → Rs) (F : FF) (lim : Nat) (e : Tr) (h : Hp) (n : Nat) : Rs :=
  Rs.rec (motive := fun _ => Rs) .no (fun e h n => rb F lim e h n) (fun id e h n => .ext id e h n) (fun e h n => .ret e h n) (ra F lim e h n)
noncomputable def evCond (x : X) (ra rb : FF → Nat → Tr → Hp → Nat → Rs) (F : FF) (lim : Nat) (e : Tr) (h : Hp) (n : Nat) : Rs :=
  onB (evX x e) (fun t => Bool.rec (rb F lim e h n) (ra F lim e h n) t) .no
noncomputable def evBlock (id : Nat) (rb : FF → Nat → Tr → Hp → Nat → Rs) (F : FF) (lim : Nat) (e : Tr) (h : Hp) (n : Nat) : Rs :=
  Rs.rec (motive := fun _ => Rs) .no (fun e h n => .nor e h n) (fun i e h n => Bool.rec (.ext i e h n) (.nor e h n) (Nat.beq i id)) (fun e h n => .ret e h n) (rb F lim e h n)
noncomputable def rep (r : Tr → Hp → Nat → Rs) (k : Nat) : Tr → Hp → Nat → Rs :=
  Nat.rec (motive := fun _ => Tr → Hp → Nat → Rs) r (fun _ ih e h n => Rs.rec (motive := fun _ => Rs) .no (fun e h n => ih e h n) (fun id e h n => .ext id e h n) (fun e h n => .ret e h n) (ih e h n)) k
noncomputable def evLoop (rb : FF → Nat → Tr → Hp → Nat → Rs) (F : FF) (lim : Nat) (e : Tr) (h : Hp) (n : Nat) : Rs :=
  Rs.rec (motive := fun _ => Rs) .no (fun _ _ _ => .no) (fun id e h n => .ext id e h n) (fun e h n => .ret e h n) (rep (rb F lim) 20 e h n)
/-- Behind a loop over a function: its block is forgotten; how it was left is what comes next. -/
noncomputable def endRfn (p : Pos) (e : Tr) (r : Res) : Rs := match r with
  | .ok _ h n => (match h.get p with
    | some b => (match b.z with
      | .cons (.lp ..) _ => onB (b.m.get .h) (fun t => Bool.rec .no (h.putK none p fun h' => match b.pr with
          | 0 => .nor e h' n
          | 1 => .ret e h' n
          | 2 => .no
          | k + 3 => .ext k e h' n) t) .no
      | _ => .no)
    | none => .no)
  | .no => .no
noncomputable def evRfn (x : X) (N : Nat) (ps : Array Nat) (ca cb : Code) (F : FF) (lim : Nat) (e : Tr) (h : Hp) (n : Nat) : Rs :=
  onF (evX x e) (fun k a c => Bool.rec .no (posK 63 n fun p => fN (Nat.succ n) fun n' => h.putK (some ⟨0, 0, 0, .cons (.lp N ps ca cb) (.cons (e.get .h) .nil), (e.toB N).set (.b true) .h⟩) p fun h1 => endRfn p e (F k (a.app (.cons (.yl p) c)) lim h1 n')) (and (Nat.ble 1 n) (Nat.ble lim n))) .no
noncomputable def evC : IC → FF → Nat → Tr → Hp → Nat → Rs :=
  IC.rec (motive := fun _ => FF → Nat → Tr → Hp → Nat → Rs) (fun _ _ e h n => .nor e h n) (fun _ _ e h n => .ret e h n) (fun id _ _ e h n => .ext id e h n)
    (fun _ _ ra rb => evSeq ra rb) (fun x _ _ ra rb => evCond x ra rb) (fun id _ rb => evBlock id rb) (fun _ rb => evLoop rb) (fun l F lim e h n => rgRs (evR l F lim e h n)) (fun l F lim e h n => rgRs (evDr l F lim e h n)) (fun x N ps ca cb F lim e h n => evRfn x N ps ca cb F lim e h n) (fun r r1 el esz b s x dt r2 F lim e h n => rgRs (evRek r r1 el esz b s x dt r2 F lim e h n)) (fun _ _ _ _ _ => .no)
/-- No loop over a function. -/
noncomputable def IC.noR : IC → Bool :=
  IC.rec (motive := fun _ => Bool) true true (fun _ => true) (fun _ _ a b => and a b) (fun _ _ _ a b => and a b) (fun _ _ a => a) (fun _ a => a) (fun _ => true) (fun _ => true) (fun _ _ _ _ _ => false) (fun _ _ _ _ _ _ _ _ _ => true) true

def Rs.ge (n : Nat) : Rs → Prop
  | .no => True
  | .nor _ _ k | .ext _ _ _ k | .ret _ _ k => n ≤ k
theorem Rs.ge_mono {n m : Nat} (h : n ≤ m) : ∀ {r : Rs}, r.ge m → r.ge n
  | .no, _ => trivial
  | .nor .., e => Nat.le_trans h e
  | .ext .., e => Nat.le_trans h e
  | .ret .., e => Nat.le_trans h e
theorem ge_endRfn {m : Nat} (p : Pos) (e : Tr) : ∀ {r : Res}, r.ge m → (endRfn p e r).ge m
  | .no, _ => trivial
  | .ok _ h n, hr => by
    unfold endRfn
    dsimp only
    split
    · rename_i b _
      split
      · cases b.m.get .h <;> dsimp only [onB, V.asB] <;> try trivial
        rename_i t
        cases t
        · trivial
        · show Rs.ge m (h.putK none p fun h' => match b.pr with
            | 0 => Rs.nor e h' n
            | 1 => .ret e h' n
            | 2 => .no
            | k + 3 => .ext k e h' n)
          rw [Hp.putK_eq]
          split <;> first | exact hr | trivial
      · trivial
    · trivial
theorem ge_rgRs {n : Nat} {r : Rg} (h : r.ge n) : (rgRs r).ge n := by cases r <;> exact h
theorem ge_rep {r : Tr → Hp → Nat → Rs} (hr : ∀ e h n, (r e h n).ge n) : ∀ (k : Nat) (e : Tr) (h : Hp) (n : Nat), (rep r k e h n).ge n
  | 0, e, h, n => hr e h n
  | k + 1, e, h, n => by
    have h1 := ge_rep hr k e h n
    show (Rs.rec (motive := fun _ => Rs) .no (fun e h n => rep r k e h n) (fun id e h n => .ext id e h n) (fun e h n => .ret e h n) (rep r k e h n)).ge n
    cases he : rep r k e h n with
    | no => trivial
    | nor e1 h2 n1 => rw [he] at h1; exact Rs.ge_mono h1 (ge_rep hr k e1 h2 n1)
    | ext => rw [he] at h1; exact h1
    | ret => rw [he] at h1; exact h1
theorem evC_ge {F : FF} (hF : F.mono) : ∀ (c : IC) (lim : Nat) (e : Tr) (h : Hp) (n : Nat), (evC c F lim e h n).ge n
  | .skip, _, _, _, n => Nat.le_refl n
  | .ret, _, _, _, n => Nat.le_refl n
  | .exit _, _, _, _, n => Nat.le_refl n
  | .seq a b, lim, e, h, n => by
    have h1 := evC_ge hF a lim e h n
    show (evSeq (evC a) (evC b) F lim e h n).ge n
    unfold evSeq
    cases he : evC a F lim e h n with
    | no => trivial
    | nor e1 h2 n1 => rw [he] at h1; exact Rs.ge_mono h1 (evC_ge hF b lim e1 h2 n1)
    | ext => rw [he] at h1; exact h1
    | ret => rw [he] at h1; exact h1
  | .cond x a b, lim, e, h, n => by
    show (evCond x (evC a) (evC b) F lim e h n).ge n
    unfold evCond
    cases evX x e
    case b t => cases t <;> exact evC_ge hF _ lim e h n
    all_goals trivial
  | .block id b, lim, e, h, n => by
    have h1 := evC_ge hF b lim e h n
    show (evBlock id (evC b) F lim e h n).ge n
    unfold evBlock
    cases he : evC b F lim e h n with
    | no => trivial
    | nor => rw [he] at h1; exact h1
    | ext i e1 h2 n1 =>
      rw [he] at h1
      show (Bool.rec (.ext i e1 h2 n1) (.nor e1 h2 n1) (Nat.beq i id) : Rs).ge n
      cases Nat.beq i id <;> exact h1
    | ret => rw [he] at h1; exact h1
  | .loop b, lim, e, h, n => by
    have h1 := ge_rep (fun e h n => evC_ge hF b lim e h n) 20 e h n
    show (evLoop (evC b) F lim e h n).ge n
    unfold evLoop
    cases he : rep (evC b F lim) 20 e h n with
    | no => trivial
    | nor => trivial
    | ext => rw [he] at h1; exact h1
    | ret => rw [he] at h1; exact h1
  | .nope, _, _, _, _ => trivial
  | .rfn x N ps ca cb, lim, e, h, n => by
    show (evRfn x N ps ca cb F lim e h n).ge n
    unfold evRfn
    cases evX x e <;> dsimp only [onF, V.asF] <;> try trivial
    rename_i k a c
    cases and (Nat.ble 1 n) (Nat.ble lim n)
    · trivial
    · show Rs.ge n (posK 63 n fun p => fN (Nat.succ n) fun n' => h.putK (some ⟨0, 0, 0, .cons (.lp N ps ca cb) (.cons (e.get .h) .nil), (e.toB N).set (.b true) .h⟩) p fun h1 => endRfn p e (F k (a.app (.cons (.yl p) c)) lim h1 n'))
      rw [posK_eq, fN_eq, Hp.putK_eq]
      exact ge_endRfn _ _ (Res.ge_mono (Nat.le_succ n) (hF _ _ _ _ _))
  | .reg l, lim, e, h, n => ge_rgRs (evR_ge hF l lim e h n)
  | .draw l, lim, e, h, n => ge_rgRs (evDr_ge hF l lim e h n)
  | .rek r r1 el esz b s x dt r2, lim, e, h, n => ge_rgRs (evRek_ge hF r r1 el esz b s x dt r2 lim e h n)

/-! From code to code. -/
/-- The mark 5000000: slices that are appended to in a region with a call are used again. -/
def compKx (P : Program) (dr : List Nat) (N : Nat) (ops : Array Oper) := if dr.contains 5000000 = true then compK P N ops else none
theorem compKx_eq {P : Program} {dr : List Nat} {N : Nat} {ops : Array Oper} {k} (h : compKx P dr N ops = some k) : compK P N ops = some k := by
  unfold compKx at h
  split at h
  · exact h
  · cases h
def compC (P : Program) (dr : List Nat) (N : Nat) : Code → Option IC
  | .skip => some .skip
  | .ret => some .ret
  | .exit id => some (.exit id)
  | .seq a b => match compC P dr N a, compC P dr N b with
    | some a, some b => some (.seq a b)
    | _, _ => none
  | .cond x a b => match compX x, compC P dr N a, compC P dr N b with
    | some x, some a, some b => some (.cond x a b)
    | _, _, _ => none
  | .block id b => (compC P dr N b).map (.block id)
  | .loop b => (compC P dr N b).map .loop
  | .region _ ops false => match compR P N ops ops.toList with
    | some r => match compKx P dr N ops with
      | some k => some (.rek r k.1 k.2.1.1 k.2.1.2.1 k.2.1.2.2.1 k.2.1.2.2.2.1 k.2.1.2.2.2.2 k.2.2.1 k.2.2.2)
      | none => some (.reg r)
    | none => some .nope
  | .region _ ops true => match compDr P N dr ops with
    | some r => some (.draw r)
    | none => some .nope
  | .scope b => compC P dr N b
  | .label _ => some .skip
  | .rangeFunc o ps x y => match compX o with
    | some z => some (.rfn z N ps x y)
    | none => some .nope
  | _ => some .nope

/-- What a piece of code leaves. -/
def Post (N lim : Nat) (g : Sig) (h : Hp) (w : World) (n : Nat) (a : Act) : Rs → Exit → Act → World → Prop
  | .no, _, _, _ => False
  | .nor e' h' n', ex, a', w' => ex = .normal ∧ MkK w a w' a' ∧ ∃ g', EnvA N g' e' a' ∧ Mem g' h'.get w' ∧ Fr lim n g h.get w n' g' h'.get w'
  | .ext id e' h' n', ex, a', w' => ex = .exit id ∧ MkK w a w' a' ∧ ∃ g', EnvA N g' e' a' ∧ Mem g' h'.get w' ∧ Fr lim n g h.get w n' g' h'.get w'
  | .ret e' h' n', ex, a', w' => ex = .ret ∧ MkK w a w' a' ∧ ∃ g', EnvA N g' e' a' ∧ Mem g' h'.get w' ∧ Fr lim n g h.get w n' g' h'.get w'
def Rs.top : Rs → Nat
  | .no => 0
  | .nor _ _ k | .ext _ _ _ k | .ret _ _ k => k
theorem Post.trans {N lim : Nat} {g g1 : Sig} {h h1 : Hp} {w w1 : World} {n n1 : Nat} {a a1 : Act} (k : MkK w a w1 a1) (f : Fr lim n g h.get w n1 g1 h1.get w1) : ∀ {r : Rs} {ex : Exit} {a' : Act} {w' : World}, Post N lim g1 h1 w1 n1 a1 r ex a' w' → Post N lim g h w n a r ex a' w'
  | .nor .., _, _, _, ⟨x, k', g', y, z, f'⟩ => ⟨x, k.trans k', g', y, z, f.trans f'⟩
  | .ext .., _, _, _, ⟨x, k', g', y, z, f'⟩ => ⟨x, k.trans k', g', y, z, f.trans f'⟩
  | .ret .., _, _, _, ⟨x, k', g', y, z, f'⟩ => ⟨x, k.trans k', g', y, z, f.trans f'⟩

theorem stepR_scope {P : Program} {b : Frame} {a : Act} {k : List Item} {cs : List Frame} {w : World} {c : Code} :
    step P (lone (b.atR a (.code (.scope c) :: k)) cs w) = .next (lone (b.atR a (.code c :: .inScope c :: k)) cs w) :=
  step_lone_go (by simp [stepG, stepG.exec, Frame.atR])
theorem stepR_inScope {P : Program} {b : Frame} {a : Act} {k : List Item} {cs : List Frame} {w : World} {c : Code} :
    step P (lone (b.atR a (.inScope c :: k)) cs w) = .next (lone (b.atR a k) cs w) :=
  step_lone_go (by simp [stepG, stepG.exec, Frame.atR])
theorem wpIn_scope_straight {F : Fence} {n : Nat} {P : Program} {Q : Exit → Act → World → Prop} {a : Act} {w : World} {c : Code} (h : c.wpIn F n P (Exit.noGoto Q) a w) : (Code.scope c).wpIn F n P Q a w := by
  intro b k cs hro hb hr
  have h0 : (lone (b.atR a (.code (.scope c) :: k)) cs w).fenced P F := fenced_calm hb hr rfl
  obtain ⟨e, a₁, w₁, hq, harr⟩ := h b (.inScope c :: k) cs hro hb hr
  cases e with
  | normal => exact ⟨.normal, a₁, w₁, hq, .head h0 stepR_scope (StepsIn.trans harr (.one (fenced_calm hb hr rfl) stepR_inScope))⟩
  | exit id => exact ⟨.exit id, a₁, w₁, hq, fun k' hk => .head h0 stepR_scope (harr.1 k' (by simp [exitTo, hk])), fun hr1 hk => let ⟨k₁, h1, h2⟩ := harr.2 hr1 (by simp [exitTo, hk]); ⟨k₁, h1, .head h0 stepR_scope h2⟩⟩
  | goto l => exact hq.elim
  | ret => exact ⟨_, a₁, w₁, hq, .of_steps (.one h0 stepR_scope) harr⟩
  | panic ch => exact ⟨_, a₁, w₁, hq, .of_steps (.one h0 stepR_scope) harr⟩
  | outgrown => exact ⟨_, a₁, w₁, hq, .of_steps (.one h0 stepR_scope) harr⟩

def Sound (P : Program) (F : FF) (N : Nat) (c : Code) (q : IC) : Prop :=
  ∀ lim e h n r, evC q F lim e h n = r → r ≠ .no → ∀ (a : Act) g w, EnvA N g e a → Mem g h.get w → Dom h.get n → Fresh g n r.top → r.top < 9223372036854775808 → ∀ ro : Option Nat, (ro = none ∨ q.noR = true) → c.wpIn (fw ro) 0 P (Post N lim g h w n a r) a w

theorem endRfn_inv {p : Pos} {e : Tr} {v : V} {h : Hp} {n : Nat} {r : Rs} (hr : endRfn p e (.ok v h n) = r) (hne : r ≠ .no) :
    ∃ b N ps x y z, h.get p = some b ∧ b.z = .cons (.lp N ps x y) z ∧ b.m.get .h = .b true ∧
      ((b.pr = 0 ∧ r = .nor e (h.put none p) n) ∨ (b.pr = 1 ∧ r = .ret e (h.put none p) n) ∨ ∃ k, b.pr = k + 3 ∧ r = .ext k e (h.put none p) n) := by
  unfold endRfn at hr
  dsimp only at hr
  split at hr
  case h_2 => exact absurd hr.symm hne
  rename_i b hb
  split at hr
  case h_2 => exact absurd hr.symm hne
  rename_i N ps x y z hz
  cases hm : b.m.get .h <;> rw [hm] at hr <;> dsimp only [onB, V.asB] at hr <;> try exact absurd hr.symm hne
  rename_i t
  cases t with
  | false => exact absurd hr.symm hne
  | true =>
    have hr : (h.putK none p fun h' => match b.pr with
          | 0 => Rs.nor e h' n
          | 1 => .ret e h' n
          | 2 => .no
          | k + 3 => .ext k e h' n) = r := hr
    rw [Hp.putK_eq] at hr
    refine ⟨b, N, ps, x, y, z, hb, hz, hm, ?_⟩
    split at hr
    · rename_i h1; exact .inl ⟨h1, hr.symm⟩
    · rename_i h1; exact .inr (.inl ⟨h1, hr.symm⟩)
    · exact absurd hr.symm hne
    · rename_i k h1; exact .inr (.inr ⟨k, h1, hr.symm⟩)
theorem rfn_sound {P : Program} {F : FF} (hF : FOK P F) (hM : F.mono) {N : Nat} {o : Operand} {ps : Array Nat} {ca cb : Code} {x : X} (hx : compX o = some x) {lim : Nat} {e : Tr} {h : Hp} {n : Nat} {r : Rs} (hr : evRfn x N ps ca cb F lim e h n = r) (hne : r ≠ .no)
    {a : Act} {g : Sig} {w : World} (he : EnvA N g e a) (m : Mem g h.get w) (hd : Dom h.get n) (hf : Fresh g n r.top) (hn : r.top < 9223372036854775808) : (Code.rangeFunc o ps ca cb).wpIn (fw none) 0 P (Post N lim g h w n a r) a w := by
  have rx := he.ok o x hx
  unfold evRfn at hr
  cases hxv : evX x e <;> rw [hxv] at hr rx <;> dsimp only [onF, V.asF] at hr <;> try exact absurd hr.symm hne
  rename_i k la lc
  rw [V.rel] at rx
  obtain ⟨va, vc, hv, ra, rc⟩ := rx
  cases hb : and (Nat.ble 1 n) (Nat.ble lim n) with
  | false => rw [hb] at hr; exact absurd hr.symm hne
  | true =>
    rw [hb] at hr
    rw [Bool.and_eq_true, Nat.ble_eq, Nat.ble_eq] at hb
    obtain ⟨h1n, hln⟩ := hb
    have hr : posK 63 n (fun p => fN (Nat.succ n) fun n' => h.putK (some ⟨0, 0, 0, .cons (.lp N ps ca cb) (.cons (e.get .h) .nil), (e.toB N).set (.b true) .h⟩) p fun h1 => endRfn p e (F k (la.app (.cons (.yl p) lc)) lim h1 n')) = r := hr
    rw [posK_eq, fN_eq, Hp.putK_eq] at hr
    obtain ⟨p, hp⟩ : ∃ p, p = posF 63 n := ⟨_, rfl⟩
    rw [← hp] at hr
    obtain ⟨B, hB⟩ : ∃ B : Blk, B = ⟨0, 0, 0, .cons (.lp N ps ca cb) (.cons (e.get .h) .nil), (e.toB N).set (.b true) .h⟩ := ⟨_, rfl⟩
    rw [← hB] at hr
    have hge := hM k (la.app (.cons (.yl p) lc)) lim (h.put (some B) p) (Nat.succ n)
    cases hcall : F k (la.app (.cons (.yl p) lc)) lim (h.put (some B) p) (Nat.succ n) with
    | no => rw [hcall] at hr; exact absurd hr.symm hne
    | ok v h2 n2 =>
      rw [hcall] at hr hge
      have hge : n + 1 ≤ n2 := hge
      obtain ⟨b, N', ps', x', y', z', hb2, hz2, hm2, hgo⟩ := endRfn_inv hr hne
      have htop : r.top = n2 := by rcases hgo with ⟨_, e1⟩ | ⟨_, e1⟩ | ⟨_, _, e1⟩ <;> rw [e1] <;> rfl
      rw [htop] at hf hn
      have hnum : p.num = n := by rw [hp]; exact num_posF 63 n h1n (by omega)
      have h0 : g p = none := hf p (by omega) (by omega)
      refine wpIn_rangeFunc fun fn _ => ?_
      obtain ⟨w1, hw1⟩ : ∃ w1, w1 = w.alloc (.deferred (some [])) := ⟨_, rfl⟩
      have hsz : w1.heap.size = w.heap.size + 1 := by rw [hw1]; simp
      obtain ⟨rec, hrec⟩ : ∃ rec : Loop, rec = { state := .ready, pending := none, fn, tmps := a.tmps, params := ps, assign := ca, body := cb, defers := w.heap.size } := ⟨_, rfl⟩
      obtain ⟨W1, hW1⟩ : ∃ W1, W1 = w1.alloc (.loop rec) := ⟨_, rfl⟩
      obtain ⟨G1, hG1⟩ : ∃ G1, G1 = gput g p (w1.heap.size, 1, 0) := ⟨_, rfl⟩
      have hgl : g.le G1 := by rw [hG1]; exact gput_le _ h0
      have hyl : G1 p = some (w1.heap.size, 1, 0) := by rw [hG1]; simp [gput]
      have hL : loopRel G1 B rec := by
        rw [hB, hrec]
        refine ⟨N, ps, ca, cb, e.get .h, rfl, rfl, rfl, rfl, he.sz, ?_, V.rel_mono hgl _ (he.rel 0 (by omega)), fun t ht ht0 => ?_, rfl, rfl⟩
        · show ((e.toB N).set (.b true) .h).get .h = _
          rw [Tb.get_set, if_pos rfl]
        · show V.rel G1 (((e.toB N).set (.b true) .h).get (tp t)) _
          rw [Tb.get_set, if_neg (fun e1 => by have := tp_inj (u := 0) ht (by omega) (e1.trans rfl); omega)]
          rcases toB_get e (tp t) N with e1 | e1
          · rw [e1]; trivial
          · rw [e1]; exact V.rel_mono hgl _ (he.rel t ht)
      have m1 : Mem g h.get w1 := by rw [hw1]; exact mem_other m _
      have mW : Mem G1 (h.put (some B) p).get W1 := by rw [Hp.put_get, hW1, hG1]; exact mem_newLoop m1 h0 (by rw [hB]) (hG1 ▸ hL)
      have f1 : Fr lim n g h.get w n g h.get w1 := by rw [hw1]; exact fr_other hd _
      have fW : Fr lim n g h.get w (n + 1) G1 (h.put (some B) p).get W1 := by rw [Hp.put_get, hW1, hG1]; exact f1.trans (Fr.ofAlloc hd hnum _ _ _ _)
      have hD1 : w1.heap[w.heap.size]? = some (.deferred (some [])) := by rw [hw1]; exact World.alloc_heap_new w _
      have hDW : W1.heap[w.heap.size]? = some (.deferred (some [])) := by rw [hW1, heap_alloc_keep _ _ _ (by omega)]; exact hD1
      have hargs : (la.app (.cons (.yl p) lc)).rel G1 (va ++ (Value.func (.yield w1.heap.size) #[] #[] :: vc)) := by
        refine L.rel_app (L.rel_mono hgl _ ra) ?_
        exact ⟨_, _, rfl, ⟨_, hyl, rfl⟩, L.rel_mono hgl _ rc⟩
      obtain ⟨⟨fnc, hf1, hf2, hf3⟩, hcalls⟩ := hF.1 _ _ _ _ _ _ _ _ hcall _ G1 W1 hargs (he.glo.mono hgl) mW fW.dom' (fW.fresh hf) hn
      have hf3' : fnc.body.isNone = false := by cases hb : fnc.body <;> simp_all
      refine ⟨w1.heap.size, [{ target := .collected w.heap.size, args := #[] }], W1, { target := .fn (.func k) ⟨vc⟩, args := ⟨va⟩ ++ #[.func (.yield w1.heap.size) #[] #[]] }, W1, k,
        ⟨va ++ (Value.func (.yield w1.heap.size) #[] #[] :: vc)⟩, W1, ?_, ?_, fun _ _ => trivial, ?_, fw_depth none 0, callsIn_fw (hcalls.mono ?_)⟩
      · rw [hsz, hW1, hw1, hrec]
        exact run_enterLoop_outer (P := P) (w := w) fn a.tmps ps ca cb
      · have hc : a.eval (.const (.func (.yield w1.heap.size) #[] #[])) = .func (.yield w1.heap.size) #[] #[] := rfl
        simp [resolve, hv, hc, Deferred.ofValue]
      · simp at hf2
        simp [invoke, callFunc, hf1, hf2]
        intro hb
        rw [hb] at hf3; simp at hf3
      · rintro e' w' ⟨u, g', rfl, hu, m', f'⟩
        have hgp : g' p = some (w1.heap.size, 1, 0) := by rw [f'.sig p (.inl (by omega))]; exact hyl
        obtain ⟨_, rec', hr1, hr2⟩ := loop_of m' hb2 hgp hm2 hz2
        have hst : loopSt b.pr rec' := by obtain ⟨_, _, _, _, _, _, _, _, _, _, _, _, _, hst⟩ := hr2; exact hst
        have hbusy : rec'.state ≠ .busy := by
          rcases hgo with ⟨e1, _⟩ | ⟨e1, _⟩ | ⟨_, e1, _⟩ <;> rw [e1] at hst <;> (have := hst.1; rw [this]; simp)
        obtain ⟨w4, hw4⟩ : ∃ w4, w4 = w'.putObj w1.heap.size (.loop { rec' with state := .exhausted }) := ⟨_, rfl⟩
        have m4 : Mem g' (h2.put none p).get w4 := by rw [Hp.put_get, hw4]; exact mem_endLoop m' hb2 hgp _
        have f4 : Fr lim n g h.get w n2 g' (h2.put none p).get w4 := by
          rw [Hp.put_get, hw4]
          exact (fW.trans f').trans (fr_endLoop f'.dom' hb2 hgp (by omega) _)
        have hD4 : w4.heap[w.heap.size]? = some (.deferred (some [])) := by
          rw [hw4, World.putObj_heap_other (by omega), f'.keep _ (Array.getElem?_eq_some_iff.1 hDW).1 ?_]
          · exact hDW
          · intro q c base tot hq _ hgq
            obtain ⟨r', base', tot', cur, c1, c2, _⟩ := mW.blk q c hq
            rw [hgq] at c1
            cases c1
            exact c2.notDef _ hDW
        have hE : EnvA N g' e { a with defers := [{ target := .collected w.heap.size, args := #[] }] ++ a.defers } := by
          have hgl' := f4.gle hf
          exact ⟨he.sz, he.glo.mono hgl', fun t ht => V.rel_mono hgl' _ (he.rel t ht)⟩
        have hK : MkK w a w4 { a with defers := [{ target := .collected w.heap.size, args := #[] }] ++ a.defers } := by
          refine ⟨f4.size, fun s hs hk => ?_⟩
          have hk2 := (mk_keep (a' := a) m f4 rfl).2 s hs hk
          refine ⟨?_, fun d hdm => ?_⟩
          · show (_ :: a.defers).Nodup
            rw [List.nodup_cons]
            refine ⟨fun hin => ?_, hk.1⟩
            obtain ⟨r', k1, k2, k3⟩ := hk.2 _ hin
            have hlt := (Array.getElem?_eq_some_iff.1 k3).1
            cases k2
            omega
          · rcases List.mem_cons.1 (show d ∈ _ :: a.defers from hdm) with rfl | hdm
            · exact ⟨_, hs, rfl, hD4⟩
            · exact hk2.2 d hdm
        refine ⟨rec'.pending, w4, ?_, ?_⟩
        · rw [hw4]; exact run_endLoop hr1 hbusy
        · rcases hgo with ⟨e1, e2⟩ | ⟨e1, e2⟩ | ⟨kk, e1, e2⟩
          · rw [e1] at hst
            rw [hst.2, e2]
            exact ⟨rfl, hK, g', hE, m4, f4⟩
          · rw [e1] at hst
            rw [hst.2, e2]
            exact wpIn_ret ⟨rfl, hK, g', hE, m4, f4⟩
          · rw [e1] at hst
            rw [hst.2, e2]
            exact wpIn_exit ⟨rfl, hK, g', hE, m4, f4⟩

theorem noR_l {a b : Bool} (h : and a b = true) : a = true := by rw [Bool.and_eq_true] at h; exact h.1
theorem noR_r {a b : Bool} (h : and a b = true) : b = true := by rw [Bool.and_eq_true] at h; exact h.2
theorem evC_sound {P : Program} (hP : P.follows .mixedOrders = true) {F : FF} (hF : FOK P F) (hM : F.mono) {dr : List Nat} {N : Nat} : ∀ (c : Code) (q : IC), compC P dr N c = some q → Sound P F N c q
  | .skip, q, hc => by
    simp only [compC, Option.some.injEq] at hc; subst hc
    intro lim e h n r hr hne a g w he m hd hf hn ro hro
    subst hr
    exact wpIn_skip ⟨rfl, MkK.refl, g, he, m, Fr.refl hd⟩
  | .ret, q, hc => by
    simp only [compC, Option.some.injEq] at hc; subst hc
    intro lim e h n r hr hne a g w he m hd hf hn ro hro
    subst hr
    exact wpIn_ret ⟨rfl, MkK.refl, g, he, m, Fr.refl hd⟩
  | .exit id, q, hc => by
    simp only [compC, Option.some.injEq] at hc; subst hc
    intro lim e h n r hr hne a g w he m hd hf hn ro hro
    subst hr
    exact wpIn_exit ⟨rfl, MkK.refl, g, he, m, Fr.refl hd⟩
  | .seq a b, q, hc => by
    simp only [compC] at hc
    split at hc
    case h_2 => cases hc
    rename_i qa qb h1 h2
    cases hc
    intro lim e h n r hr hne ac g w he m hd hf hn ro hro
    have hr : evSeq (evC qa) (evC qb) F lim e h n = r := hr
    unfold evSeq at hr
    refine wpIn_seq ?_
    cases hx : evC qa F lim e h n with
    | no => rw [hx] at hr; exact absurd hr.symm hne
    | nor e1 h1' n1 =>
      rw [hx] at hr
      have hr : evC qb F lim e1 h1' n1 = r := hr
      have hg1 : n ≤ n1 := by have := evC_ge hM qa lim e h n; rw [hx] at this; exact this
      have hg2 : n1 ≤ r.top := by
        have := evC_ge hM qb lim e1 h1' n1; rw [hr] at this
        cases r <;> first | exact absurd rfl hne | exact this
      refine wpIn_mono (evC_sound hP hF hM a qa h1 lim e h n _ hx (by simp) ac g w he m hd (hf.sub (Nat.le_refl _) hg2) (Nat.lt_of_le_of_lt hg2 hn) ro (hro.imp (fun x => x) noR_l)) ?_
      rintro ex a' w' ⟨rfl, k1, g1, he1, m1, f1⟩
      exact wpIn_mono (evC_sound hP hF hM b qb h2 lim e1 h1' n1 r hr hne a' g1 w' he1 m1 f1.dom' (f1.fresh hf) hn ro (hro.imp (fun x => x) noR_r)) fun _ _ _ hp => Post.trans k1 f1 hp
    | ext id e1 h1' n1 =>
      rw [hx] at hr
      have hr : Rs.ext id e1 h1' n1 = r := hr
      subst hr
      refine wpIn_mono (evC_sound hP hF hM a qa h1 lim e h n _ hx (by simp) ac g w he m hd hf hn ro (hro.imp (fun x => x) noR_l)) ?_
      rintro ex a' w' ⟨rfl, hp⟩
      exact ⟨rfl, hp⟩
    | ret e1 h1' n1 =>
      rw [hx] at hr
      have hr : Rs.ret e1 h1' n1 = r := hr
      subst hr
      refine wpIn_mono (evC_sound hP hF hM a qa h1 lim e h n _ hx (by simp) ac g w he m hd hf hn ro (hro.imp (fun x => x) noR_l)) ?_
      rintro ex a' w' ⟨rfl, hp⟩
      exact ⟨rfl, hp⟩
  | .cond x a b, q, hc => by
    simp only [compC] at hc
    split at hc
    case h_2 => cases hc
    rename_i x' qa qb hx h1 h2
    cases hc
    intro lim e h n r hr hne ac g w he m hd hf hn ro hro
    have hr : evCond x' (evC qa) (evC qb) F lim e h n = r := hr
    unfold evCond at hr
    have rx := he.ok x x' hx
    cases hxv : evX x' e <;> rw [hxv] at hr rx <;> dsimp only [onB, V.asB] at hr
    case b t =>
      rw [V.rel] at rx
      cases t
      · exact wpIn_cond_false rx (evC_sound hP hF hM b qb h2 lim e h n r hr hne ac g w he m hd hf hn ro (hro.imp (fun x => x) noR_r))
      · exact wpIn_cond_true rx (evC_sound hP hF hM a qa h1 lim e h n r hr hne ac g w he m hd hf hn ro (hro.imp (fun x => x) noR_l))
    all_goals exact absurd hr.symm hne
  | .block id b, q, hc => by
    simp only [compC, Option.map_eq_some_iff] at hc
    obtain ⟨qb, h1, rfl⟩ := hc
    intro lim e h n r hr hne ac g w he m hd hf hn ro hro
    have hr : evBlock id (evC qb) F lim e h n = r := hr
    unfold evBlock at hr
    refine wpIn_block ?_
    cases hx : evC qb F lim e h n with
    | no => rw [hx] at hr; exact absurd hr.symm hne
    | nor e1 h1' n1 =>
      rw [hx] at hr
      have hr : Rs.nor e1 h1' n1 = r := hr
      subst hr
      refine wpIn_mono (evC_sound hP hF hM b qb h1 lim e h n _ hx (by simp) ac g w he m hd hf hn ro hro) ?_
      rintro ex a' w' ⟨rfl, hp⟩
      exact ⟨rfl, hp⟩
    | ext i e1 h1' n1 =>
      rw [hx] at hr
      have hr : (Bool.rec (.ext i e1 h1' n1) (.nor e1 h1' n1) (Nat.beq i id) : Rs) = r := hr
      cases hb : Nat.beq i id
      · rw [hb] at hr
        have hr : Rs.ext i e1 h1' n1 = r := hr
        subst hr
        refine wpIn_mono (evC_sound hP hF hM b qb h1 lim e h n _ hx (by simp) ac g w he m hd hf hn ro hro) ?_
        rintro ex a' w' ⟨rfl, hp⟩
        have : i ≠ id := by intro e; subst e; simp at hb
        show if i = id then _ else _
        rw [if_neg this]
        exact ⟨rfl, hp⟩
      · rw [hb] at hr
        have hr : Rs.nor e1 h1' n1 = r := hr
        subst hr
        refine wpIn_mono (evC_sound hP hF hM b qb h1 lim e h n _ hx (by simp) ac g w he m hd hf hn ro hro) ?_
        rintro ex a' w' ⟨rfl, hp⟩
        rw [Nat.beq_eq] at hb
        show if i = id then _ else _
        rw [if_pos hb]
        exact ⟨rfl, hp⟩
    | ret e1 h1' n1 =>
      rw [hx] at hr
      have hr : Rs.ret e1 h1' n1 = r := hr
      subst hr
      refine wpIn_mono (evC_sound hP hF hM b qb h1 lim e h n _ hx (by simp) ac g w he m hd hf hn ro hro) ?_
      rintro ex a' w' ⟨rfl, hp⟩
      exact ⟨rfl, hp⟩
  | .loop b, q, hc => by
    simp only [compC, Option.map_eq_some_iff] at hc
    obtain ⟨qb, h1, rfl⟩ := hc
    have ih := evC_sound hP hF hM b qb h1
    intro lim e h n r hr hne ac g w he m hd hf hn ro hro
    have hr : evLoop (evC qb) F lim e h n = r := hr
    unfold evLoop at hr
    intro fb k cs hro' hfb hroom
    -- at the head of the round: what some rounds lead to
    have key : ∀ (j : Nat) (e : Tr) (h : Hp) (n : Nat) (r : Rs), rep (evC qb F lim) j e h n = r → r ≠ .no → ∀ (ac : Act) (g : Sig) (w : World), EnvA N g e ac → Mem g h.get w → Dom h.get n → Fresh g n r.top → r.top < 9223372036854775808 →
        ∃ ex a' w', Post N lim g h w n ac r ex a' w' ∧ (ex = .normal → StepsIn (Machine.fenced P (fw ro)) P (lone (fb.atR ac (.code b :: .inLoop b :: k)) cs w) (lone (fb.atR a' (.code b :: .inLoop b :: k)) cs w')) ∧
          (ex ≠ .normal → ArrivesIn (Machine.fenced P (fw ro)) P (lone (fb.atR ac (.code b :: .inLoop b :: k)) cs w) fb k cs ex a' w') := by
      intro j
      induction j with
      | zero =>
        intro e h n r hr hne ac g w he m hd hf hn
        obtain ⟨ex, a', w', hp, harr⟩ := ih lim e h n r hr hne ac g w he m hd hf hn ro hro fb (.inLoop b :: k) cs hro' hfb hroom
        refine ⟨ex, a', w', hp, fun hx => ?_, fun hx => .pass (x := .inLoop b) rfl (fun _ _ => .inl hx) harr⟩
        subst hx
        exact StepsIn.trans harr (.one (fenced_calm hfb hroom rfl) stepR_inLoop)
      | succ j ihj =>
        intro e h n r hr hne ac g w he m hd hf hn
        have hr : (Rs.rec (motive := fun _ => Rs) .no (fun e h n => rep (evC qb F lim) j e h n) (fun id e h n => .ext id e h n) (fun e h n => .ret e h n) (rep (evC qb F lim) j e h n)) = r := hr
        cases hx : rep (evC qb F lim) j e h n with
        | no => rw [hx] at hr; exact absurd hr.symm hne
        | nor e1 h1' n1 =>
          rw [hx] at hr
          have hr : rep (evC qb F lim) j e1 h1' n1 = r := hr
          have hg2 : n1 ≤ r.top := by
            have := ge_rep (fun e h n => evC_ge hM qb lim e h n) j e1 h1' n1; rw [hr] at this
            cases r <;> first | exact absurd rfl hne | exact this
          obtain ⟨ex, a1, w1, ⟨hex, k1, g1, he1, m1, f1⟩, hs, _⟩ := ihj e h n _ hx (by simp) ac g w he m hd (hf.sub (Nat.le_refl _) hg2) (Nat.lt_of_le_of_lt hg2 hn)
          obtain ⟨ex2, a2, w2, hp2, hs2, ha2⟩ := ihj e1 h1' n1 r hr hne a1 g1 w1 he1 m1 f1.dom' (f1.fresh hf) hn
          exact ⟨ex2, a2, w2, Post.trans k1 f1 hp2, fun hx => (hs hex).trans (hs2 hx), fun hx => .of_steps (hs hex) (ha2 hx)⟩
        | ext id e1 h1' n1 =>
          rw [hx] at hr
          have hr : Rs.ext id e1 h1' n1 = r := hr
          subst hr
          exact ihj e h n _ hx (by simp) ac g w he m hd hf hn
        | ret e1 h1' n1 =>
          rw [hx] at hr
          have hr : Rs.ret e1 h1' n1 = r := hr
          subst hr
          exact ihj e h n _ hx (by simp) ac g w he m hd hf hn
    cases hx : rep (evC qb F lim) 20 e h n with
    | no => rw [hx] at hr; exact absurd hr.symm hne
    | nor => rw [hx] at hr; exact absurd hr.symm hne
    | ext id e1 h1' n1 =>
      rw [hx] at hr
      have hr : Rs.ext id e1 h1' n1 = r := hr
      subst hr
      obtain ⟨ex, a', w', hp, _, ha⟩ := key 20 e h n _ hx (by simp) ac g w he m hd hf hn
      refine ⟨ex, a', w', hp, .of_steps (.one (fenced_calm hfb hroom rfl) stepR_loop) (ha ?_)⟩
      rw [hp.1]; simp
    | ret e1 h1' n1 =>
      rw [hx] at hr
      have hr : Rs.ret e1 h1' n1 = r := hr
      subst hr
      obtain ⟨ex, a', w', hp, _, ha⟩ := key 20 e h n _ hx (by simp) ac g w he m hd hf hn
      refine ⟨ex, a', w', hp, .of_steps (.one (fenced_calm hfb hroom rfl) stepR_loop) (ha ?_)⟩
      rw [hp.1]; simp
  | .region id ops false, q, hc => by
    rw [compC] at hc
    split at hc
    case h_2 => cases hc; intro lim e h n r hr hne; exact absurd hr.symm hne
    rename_i rl h1
    have plain : some (IC.reg rl) = some q → Sound P F N (.region id ops false) q := by
      intro hc
      cases hc
      intro lim e h n r hr hne ac g w he m hd hf hn ro hro
      have hr : rgRs (evR rl F lim e h n) = r := hr
      cases hx : evR rl F lim e h n with
      | no => rw [hx] at hr; exact absurd hr.symm hne
      | ok e' h' n' =>
        rw [hx] at hr
        have hr : Rs.nor e' h' n' = r := hr
        subst hr
        exact reg_sound hF hM h1 hx he m hd hf hn
    split at hc
    case h_2 => exact plain hc
    rename_i k hk
    have hk := compKx_eq hk
    cases hc
    intro lim e h n r hr hne ac g w he m hd hf hn ro hro
    have hr : rgRs (evRek rl k.1 k.2.1.1 k.2.1.2.1 k.2.1.2.2.1 k.2.1.2.2.2.1 k.2.1.2.2.2.2 k.2.2.1 k.2.2.2 F lim e h n) = r := hr
    cases hx : evRek rl k.1 k.2.1.1 k.2.1.2.1 k.2.1.2.2.1 k.2.1.2.2.2.1 k.2.1.2.2.2.2 k.2.2.1 k.2.2.2 F lim e h n with
    | no => rw [hx] at hr; exact absurd hr.symm hne
    | ok e' h' n' =>
      rw [hx] at hr
      have hr : Rs.nor e' h' n' = r := hr
      subst hr
      exact rek_sound hF hM h1 hk hx he m hd hf hn
  | .region id ops true, q, hc => by
    rw [compC] at hc
    split at hc
    case h_2 => cases hc; intro lim e h n r hr hne; exact absurd hr.symm hne
    rename_i rl h1
    cases hc
    intro lim e h n r hr hne ac g w he m hd hf hn ro hro
    have hr : rgRs (evDr rl F lim e h n) = r := hr
    cases hx : evDr rl F lim e h n with
    | no => rw [hx] at hr; exact absurd hr.symm hne
    | ok e' h' n' =>
      rw [hx] at hr
      have hr : Rs.nor e' h' n' = r := hr
      subst hr
      exact draw_sound hP hF hM h1 hx he m hd hf hn
  | .rangeFunc o ps x y, q, hc => by
    simp only [compC] at hc
    split at hc
    case h_2 => cases hc; intro lim e h n r hr hne; exact absurd hr.symm hne
    rename_i z hz
    cases hc
    intro lim e h n r hr hne a g w he m hd hf hn ro hro
    have hro := hro.resolve_right (fun hx => by cases (show false = true from hx))
    subst hro
    exact rfn_sound hF hM hz hr hne he m hd hf hn
  | .scope b, q, hc => by
    simp only [compC] at hc
    intro lim e h n r hr hne a g w he m hd hf hn ro hro
    refine wpIn_scope_straight (wpIn_mono (evC_sound hP hF hM b q hc lim e h n r hr hne a g w he m hd hf hn ro hro) ?_)
    intro ex a' w' hp
    cases r with
    | no => exact hp.elim
    | nor => obtain ⟨rfl, hp⟩ := hp; exact ⟨rfl, hp⟩
    | ext => obtain ⟨rfl, hp⟩ := hp; exact ⟨rfl, hp⟩
    | ret => obtain ⟨rfl, hp⟩ := hp; exact ⟨rfl, hp⟩
  | .label _, q, hc => by
    simp only [compC, Option.some.injEq] at hc; subst hc
    intro lim e h n r hr hne a g w he m hd hf hn ro hro
    subst hr
    exact wpIn_label ⟨rfl, MkK.refl, g, he, m, Fr.refl hd⟩
  | .goto _, q, hc => by
    simp only [compC, Option.some.injEq] at hc; subst hc
    intro lim e h n r hr hne; exact absurd hr.symm hne
  | .refuse _, q, hc => by
    simp only [compC, Option.some.injEq] at hc; subst hc
    intro lim e h n r hr hne; exact absurd hr.symm hne
end Go.Proofs.Ythgaekbcmhbbgaa.Ev
/- Functions, and the whole. -/
namespace Go.Proofs.Ythgaekbcmhbbgaa.Ev
set_option linter.unusedVariables false
open Go Go.RowKit

inductive RV where
  | tmp (p : Pos) | cell (p : Pos) (n : Nat) (agg : Bool)
inductive FnI where
  | mk (bar drop : Bool) (q : IC) (res : List RV)
inductive FT where
  | lf | nd (l : FT) (v : Option FnI) (r : FT)
noncomputable def FT.get (p : Pos) : FT → Option FnI :=
  Pos.rec (motive := fun _ => FT → Option FnI) (fun t => FT.rec (motive := fun _ => Option FnI) none (fun _ v _ _ _ => v) t)
   (fun _ ih t => FT.rec (motive := fun _ => Option FnI) none (fun l _ _ _ _ => ih l) t)
   (fun _ ih t => FT.rec (motive := fun _ => Option FnI) none (fun _ _ r _ _ => ih r) t) p
noncomputable def FT.put (x : Option FnI) (p : Pos) : FT → FT :=
  Pos.rec (motive := fun _ => FT → FT) (fun t => FT.rec (motive := fun _ => FT) (.nd .lf x .lf) (fun l _ r _ _ => .nd l x r) t)
   (fun _ ih t => FT.rec (motive := fun _ => FT) (.nd (ih .lf) none .lf) (fun l v r _ _ => .nd (ih l) v r) t)
   (fun _ ih t => FT.rec (motive := fun _ => FT) (.nd .lf none (ih .lf)) (fun l v r _ _ => .nd l v (ih r)) t) p
theorem FT.get_lf : ∀ p, FT.get p .lf = none
  | .h => rfl | .o _ => rfl | .i _ => rfl
theorem FT.get_put (x : Option FnI) : ∀ (p q : Pos) (t : FT), (t.put x p).get q = if q = p then x else t.get q
  | .h, .h, .lf => by simp; rfl
  | .h, .h, .nd l v r => by simp; rfl
  | .h, .o q, .lf => by rw [if_neg (by simp)]; exact (FT.get_lf q)
  | .h, .o q, .nd l v r => by rw [if_neg (by simp)]; rfl
  | .h, .i q, .lf => by rw [if_neg (by simp)]; exact (FT.get_lf q)
  | .h, .i q, .nd l v r => by rw [if_neg (by simp)]; rfl
  | .o p, .h, .lf => by rw [if_neg (by simp)]; rfl
  | .o p, .h, .nd l v r => by rw [if_neg (by simp)]; rfl
  | .o p, .i q, .lf => by rw [if_neg (by simp)]; exact (FT.get_lf q)
  | .o p, .i q, .nd l v r => by rw [if_neg (by simp)]; rfl
  | .i p, .h, .lf => by rw [if_neg (by simp)]; rfl
  | .i p, .h, .nd l v r => by rw [if_neg (by simp)]; rfl
  | .i p, .o q, .lf => by rw [if_neg (by simp)]; exact (FT.get_lf q)
  | .i p, .o q, .nd l v r => by rw [if_neg (by simp)]; rfl
  | .o p, .o q, .lf => by have := FT.get_put x p q .lf; rw [FT.get_lf] at this; simp only [Pos.o.injEq]; exact this
  | .o p, .o q, .nd l v r => by have := FT.get_put x p q l; simp only [Pos.o.injEq]; exact this
  | .i p, .i q, .lf => by have := FT.get_put x p q .lf; rw [FT.get_lf] at this; simp only [Pos.i.injEq]; exact this
  | .i p, .i q, .nd l v r => by have := FT.get_put x p q r; simp only [Pos.i.injEq]; exact this
noncomputable def FT.at (t : FT) : Nat → Option FnI :=
  FT.rec (motive := fun _ => Nat → Option FnI) (fun _ => none)
    (fun _ v _ ihl ihr m => Bool.rec (Bool.rec (ihr (Nat.div m 2)) (ihl (Nat.div m 2)) (Nat.beq (Nat.mod m 2) 0)) v (Nat.ble m 1)) t
theorem FT.at_eq : ∀ (t : FT) (f m : Nat), 1 ≤ m → m < 2 ^ (f + 1) → t.at m = t.get (posF f m)
  | .lf, f, m, _, _ => by rw [FT.get_lf]; rfl
  | .nd l v r, f, m, h1, h2 => by
    show (Bool.rec (Bool.rec (r.at (m / 2)) (l.at (m / 2)) (Nat.beq (m % 2) 0)) v (Nat.ble m 1) : Option FnI) = _
    by_cases hm : m ≤ 1
    · have : Nat.ble m 1 = true := by rw [Nat.ble_eq]; exact hm
      rw [this]
      cases f <;> simp [posF, hm] <;> rfl
    · have : Nat.ble m 1 = false := by rw [← Bool.not_eq_true, Nat.ble_eq]; exact hm
      rw [this]
      cases f with
      | zero => simp at h2; omega
      | succ f =>
        have hlt : m / 2 < 2 ^ (f + 1) := by rw [Nat.pow_succ] at h2; omega
        have il := FT.at_eq l f (m / 2) (by omega) hlt
        have ir := FT.at_eq r f (m / 2) (by omega) hlt
        by_cases h0 : m % 2 = 0
        · have e : Nat.beq (m % 2) 0 = true := by rw [h0]; rfl
          rw [e]; simp only [posF, if_neg hm, if_pos h0]; exact il
        · have e : Nat.beq (m % 2) 0 = false := by rw [show m % 2 = 1 by omega]; rfl
          rw [e]; simp only [posF, if_neg hm, if_neg h0]; exact ir
noncomputable def FT.of : List (Nat × FnI) → FT
  | [] => .lf
  | (f, x) :: l => (FT.of l).put (some x) (tp f)
theorem FT.of_mem : ∀ (l : List (Nat × FnI)), (∀ x ∈ l, x.1 < 4294967296) → ∀ f x, f < 4294967296 → (FT.of l).at (f + 1) = some x → (f, x) ∈ l
  | [], _, f, x, hf, h => by cases h
  | (k, y) :: l, hl, f, x, hf, h => by
    rw [FT.at_eq _ 63 _ (by omega) (by omega)] at h
    have h : ((FT.of l).put (some y) (tp k)).get (tp f) = some x := h
    rw [FT.get_put] at h
    split at h
    · rename_i e
      cases h
      rw [tp_inj hf (hl _ (List.mem_cons_self ..)) e]
      exact List.mem_cons_self ..
    · refine List.mem_cons_of_mem _ (FT.of_mem l (fun x hx => hl x (List.mem_cons_of_mem _ hx)) f x hf ?_)
      rw [FT.at_eq _ 63 _ (by omega) (by omega)]; exact h

/-! What a function hands back. -/
noncomputable def evRV (r : RV) (e : Tr) (h : Hp) : V :=
  RV.rec (motive := fun _ => V) (fun p => e.get p) (fun p n agg => onP (e.get p) (fun a o => Option.rec .bad (fun b => Bool.rec .bad (Bool.rec (b.cell o) (.ag (b.getW o n)) agg) (Nat.ble (Nat.add o n) b.size)) (h.get a)) .bad) r
noncomputable def evRVs (e : Tr) (h : Hp) : List RV → L
  | [] => .nil
  | r :: l => .cons (evRV r e h) (evRVs e h l)
noncomputable def evRes (e : Tr) (h : Hp) (l : List RV) : V :=
  match l with
  | [r] => evRV r e h
  | l => .tu (evRVs e h l)
def compRV (P : Program) : ResultVar → Option RV
  | .tmp t => if t < 4294967296 then some (.tmp (tp t)) else none
  | .cell a t => match P.info? t, P_isAgg P t with
    | some i, some agg => if a < 4294967296 ∧ (agg = false → i.size = 1) then some (.cell (tp a) i.size agg) else none
    | _, _ => none
def compRVs (P : Program) : List ResultVar → Option (List RV)
  | [] => some []
  | r :: l => match compRV P r, compRVs P l with
    | some x, some m => some (x :: m)
    | _, _ => none

def resOne (tmps : Array Value) : ResultVar → Sem Value
  | .tmp t => pure (tmps.getD t undef)
  | .cell a t => do loadVar t (← asAddr (tmps.getD a undef))
theorem results_eq (fn : Func) (tmps : Array Value) : results fn tmps = (do let vs ← fn.results.mapM (resOne tmps); pure (if h : vs.size = 1 then vs[0] else .tuple vs)) := by
  unfold results
  congr 1
/-- No part of a value is unknown. -/
def V.known : V → Bool
  | .bad => false
  | _ => true

theorem evRV_sound {P : Program} {N : Nat} {g : Sig} {e : Tr} {a : Act} {h : Hp} {w : World} (he : EnvA N g e a) (m : Mem g h.get w) {rv : ResultVar} {r : RV} (hr : compRV P rv = some r) (hk : (evRV r e h).known = true) :
    ∃ u, (resOne a.tmps rv).run P w = .ok u w ∧ (evRV r e h).rel g u := by
  cases rv with
  | tmp t =>
    simp only [compRV] at hr
    split at hr
    · rename_i ht; cases hr; exact ⟨_, rfl, he.rel t ht⟩
    · cases hr
  | cell x t =>
    simp only [compRV] at hr
    split at hr
    case h_2 => cases hr
    rename_i i agg hi ha
    split at hr
    case isFalse => cases hr
    rename_i hc
    cases hr
    have rx := he.rel x hc.1
    have hk : (onP (e.get (tp x)) (fun a o => (Option.rec .bad (fun b => Bool.rec .bad (Bool.rec (b.cell o) (.ag (b.getW o i.size)) agg) (Nat.ble (Nat.add o i.size) b.size)) (h.get a) : V)) .bad).known = true := hk
    show ∃ u, _ ∧ V.rel g (onP (e.get (tp x)) (fun a o => (Option.rec .bad (fun b => Bool.rec .bad (Bool.rec (b.cell o) (.ag (b.getW o i.size)) agg) (Nat.ble (Nat.add o i.size) b.size)) (h.get a) : V)) .bad) u
    cases hx : e.get (tp x) <;> rw [hx] at hk rx <;> dsimp only [onP, V.asP] at hk ⊢
    case p b off =>
      rw [V.rel] at rx
      obtain ⟨r, base, tot, hg, hv⟩ := rx
      cases hh : h.get b with
      | none => rw [hh] at hk; simp [V.known] at hk
      | some bl =>
        rw [hh] at hk
        dsimp only at hk ⊢
        cases hb : Nat.ble (Nat.add off i.size) bl.size
        · rw [hb] at hk; simp [V.known] at hk
        · have hb : off + i.size ≤ bl.size := by rw [Nat.ble_eq] at hb; exact hb
          cases agg
          · obtain ⟨u, c1, c2, c3, c4⟩ := mem_cell m hh hg (k := off) (by have := hc.2 rfl; omega)
            exact ⟨u, by simp [resOne, hv, asAddr, loadVar, run_isAgg ha, c1], c3⟩
          · obtain ⟨vs, g1, g2, g3, g4⟩ := getL_rel m hh hg i.size off (by omega)
            refine ⟨.agg ⟨vs⟩, ?_, ⟨vs, rfl, by rw [getW_eq]; exact g2⟩⟩
            have hl := run_loadCells_list (P := P) w ⟨r, base + off, none⟩ vs g4
            rw [g1] at hl
            simp [resOne, hv, asAddr, loadVar, run_isAgg ha, sizeOf, typeInfo, hi, hl]
    all_goals simp [V.known] at hk

def L.known : L → Bool
  | .nil => true
  | .cons v l => v.known && l.known
theorem evRVs_sound {P : Program} {N : Nat} {g : Sig} {e : Tr} {a : Act} {h : Hp} {w : World} (he : EnvA N g e a) (m : Mem g h.get w) : ∀ (rvs : List ResultVar) (rs : List RV), compRVs P rvs = some rs → (evRVs e h rs).known = true →
    ∃ us, (rvs.mapM (resOne a.tmps)).run P w = .ok us w ∧ (evRVs e h rs).rel g us
  | [], rs, hr, _ => by simp [compRVs] at hr; subst hr; exact ⟨[], rfl, rfl⟩
  | rv :: rvs, rs, hr, hk => by
    rw [compRVs] at hr
    split at hr
    case h_2 => cases hr
    rename_i r rs' h1 h2
    cases hr
    have hk : ((evRV r e h).known && (evRVs e h rs').known) = true := hk
    rw [Bool.and_eq_true] at hk
    obtain ⟨u, r1, r2⟩ := evRV_sound he m h1 hk.1
    obtain ⟨us, r3, r4⟩ := evRVs_sound he m rvs rs' h2 hk.2
    refine ⟨u :: us, ?_, ⟨u, us, rfl, r2, r4⟩⟩
    rw [List.mapM_cons, Sem.run_bind]
    rw [r1, Result.andThen_ok, Sem.run_bind, r3]
    rfl

def resKnown (v : V) : Bool := match v with | .tu l => l.known | v => v.known
theorem evRes_sound {P : Program} {N : Nat} {g : Sig} {e : Tr} {a : Act} {h : Hp} {w : World} (he : EnvA N g e a) (m : Mem g h.get w) {fn : Func} {rs : List RV} (hr : compRVs P fn.results.toList = some rs) (hk : (evRVs e h rs).known = true) :
    ∃ u, (results fn a.tmps).run P w = .ok u w ∧ (evRes e h rs).rel g u := by
  obtain ⟨us, h1, h2⟩ := evRVs_sound he m _ _ hr hk
  have hm : (fn.results.mapM (resOne a.tmps)).run P w = .ok ⟨us⟩ w := by
    rw [Array.mapM_eq_mapM_toList, Sem.run_map, h1]; rfl
  rw [results_eq, Sem.run_bind, hm, Result.andThen_ok, Sem.run_pure]
  match rs, h2 with
  | [], h2 =>
    have : us = [] := h2
    subst this
    exact ⟨.tuple #[], rfl, [], rfl, rfl⟩
  | [r], h2 =>
    obtain ⟨u, us', rfl, h3, h4⟩ := h2
    have : us' = [] := h4
    subst this
    exact ⟨u, rfl, h3⟩
  | r :: r' :: rs, h2 =>
    have hl := L.rel_length h2
    obtain ⟨u, us', rfl, h3, h4⟩ := h2
    obtain ⟨u', us'', rfl, h5, h6⟩ := h4
    refine ⟨.tuple ⟨u :: u' :: us''⟩, ?_, ⟨_, rfl, u, _, rfl, h3, u', us'', rfl, h5, h6⟩⟩
    rw [dif_neg (by simp)]

/-! Running a function. -/
noncomputable def bind : L → Nat → Tr → Tr
  | .nil, _, e => e
  | .cons v l, k, e => bind l (k + 1) (e.set v (tp k))
noncomputable def endF (drop : Bool) (h0 : Hp) (res : List RV) (e : Tr) (h : Hp) (n : Nat) : Res :=
  Bool.rec .no (Bool.rec (.ok (evRes e h res) h n) (.ok (evRes e h res) h0 n) drop) (evRVs e h res).known
noncomputable def runB (drop : Bool) (q : IC) (res : List RV) (F : FF) (args : L) (lim : Nat) (h : Hp) (n : Nat) : Res :=
  Rs.rec (motive := fun _ => Res) .no (fun e h' n' => endF drop h res e h' n') (fun _ _ _ _ => .no) (fun e h' n' => endF drop h res e h' n') (evC q F lim (bind args 0 .lf) h n)
noncomputable def runF (fi : FnI) (F : FF) (args : L) (lim : Nat) (h : Hp) (n : Nat) : Res :=
  FnI.rec (motive := fun _ => Res) (fun bar drop q res => Bool.rec (runB false q res F args lim h n) (Bool.rec .no (runB drop q res F args n h n) (Nat.ble lim n)) bar) fi
noncomputable def evF (PR : FT) (d : Nat) : FF :=
  Nat.rec (motive := fun _ => FF) (fun _ _ _ _ _ => .no) (fun _ ih f args lim h n => Bool.rec .no (Option.rec (motive := fun _ => Res) .no (fun fi => runF fi ih args lim h n) (PR.at (Nat.succ f))) (and (Nat.ble f 4294967294) (Nat.ble args.length 4294967294))) d

def compF (P : Program) (dr : List Nat) (bar drop : Bool) (fn : Func) : Option FnI :=
  match fn.body with
  | some c => match compC P dr fn.ntmps c, compRVs P fn.results.toList with
    | some q, some rs => if (fn.name == "runtime.NumGoroutine") = true then none else some (.mk bar drop q rs)
    | _, _ => none
  | none => none

theorem bind_get : ∀ (l : L) (k t : Nat) (e : Tr), k + l.length < 4294967296 → t < 4294967296 → (bind l k e).get (tp t) = if k ≤ t ∧ t < k + l.length then l.get (t - k) else e.get (tp t)
  | .nil, k, t, e, _, _ => by
    rw [if_neg (by simp [L.length]; try omega)]; rfl
  | .cons v l, k, t, e, hk, ht => by
    have hlen : (L.cons v l).length = l.length + 1 := rfl
    rw [hlen] at hk ⊢
    show (bind l (k + 1) (e.set v (tp k))).get (tp t) = _
    rw [bind_get l (k + 1) t _ (by omega) ht, Tr.get_set]
    by_cases h1 : k + 1 ≤ t ∧ t < k + 1 + l.length
    · rw [if_pos h1, if_pos (by omega), show t - k = (t - (k + 1)) + 1 by omega]; rfl
    · rw [if_neg h1]
      by_cases h2 : t = k
      · subst h2
        rw [if_pos rfl, if_pos (by omega), Nat.sub_self]; rfl
      · rw [if_neg (fun e => h2 (tp_inj ht (by omega) e)), if_neg (by omega)]

theorem env_bind {g : Sig} {args : L} {vs : List Value} (hgk : GOK g) (hr : args.rel g vs) (hl : args.length < 4294967296) (N : Nat) :
    EnvA N g (bind args 0 .lf) { tmps := (⟨vs⟩ : Array Value) ++ Array.replicate (N - (⟨vs⟩ : Array Value).size) undef, defers := [] } := by
  have hlen := L.rel_length hr
  refine ⟨by simp; omega, hgk, fun t ht => ?_⟩
  rw [bind_get args 0 t .lf (by omega) ht]
  by_cases h1 : 0 ≤ t ∧ t < 0 + args.length
  · rw [if_pos h1, Nat.sub_zero]
    have := L.rel_get t hr
    have hlt : t < vs.length := by omega
    simpa [Array.getD_eq_getD_getElem?, Array.getElem?_append, hlt, List.getD] using this
  · rw [if_neg h1, Tr.get_lf]; trivial

theorem ge_endF {n n' : Nat} (h1 : n ≤ n') (drop : Bool) (h0 : Hp) (res : List RV) (e : Tr) (h : Hp) : (endF drop h0 res e h n').ge n := by
  unfold endF
  cases (evRVs e h res).known
  · trivial
  · cases drop <;> exact h1
theorem ge_runB {F : FF} (hM : F.mono) (drop : Bool) (q : IC) (res : List RV) (args : L) (lim : Nat) (h : Hp) (n : Nat) : (runB drop q res F args lim h n).ge n := by
  unfold runB
  have h1 := evC_ge hM q lim (bind args 0 .lf) h n
  cases hx : evC q F lim (bind args 0 .lf) h n with
  | no => trivial
  | nor => rw [hx] at h1; exact ge_endF h1 _ _ _ _ _
  | ext => trivial
  | ret => rw [hx] at h1; exact ge_endF h1 _ _ _ _ _
theorem evF_mono (PR : FT) : ∀ d, (evF PR d).mono
  | 0 => fun _ _ _ _ _ => trivial
  | d + 1 => fun f args lim h n => by
    show (Bool.rec .no (Option.rec (motive := fun _ => Res) .no (fun fi => runF fi (evF PR d) args lim h n) (PR.at (Nat.succ f))) (and (Nat.ble f 4294967294) (Nat.ble args.length 4294967294)) : Res).ge n
    refine ge_bool ge_no ?_
    cases PR.at (Nat.succ f) with
    | none => trivial
    | some fi =>
      obtain ⟨bar, drop, q, res⟩ := fi
      have hM := evF_mono PR d
      show (Bool.rec (runB false q res (evF PR d) args lim h n) (Bool.rec .no (runB drop q res (evF PR d) args n h n) (Nat.ble lim n)) bar : Res).ge n
      cases bar
      · exact ge_runB hM _ _ _ _ _ _ _
      · cases Nat.ble lim n
        · trivial
        · exact ge_runB hM _ _ _ _ _ _ _

/-- Each of the functions listed is the program's. -/
def Listed (P : Program) (l : List (Nat × FnI)) : Prop := ∀ x ∈ l, x.1 < 4294967296 ∧ ∃ fn dr bar drop, P.funcs[x.1]? = some fn ∧ compF P dr bar drop fn = some x.2

theorem listed_nil {P : Program} : Listed P [] := fun x hx => by simp at hx
theorem listed_cons {P : Program} {l : List (Nat × FnI)} {k : Nat} {fi : FnI} {fn : Func} {dr : List Nat} {b d : Bool} (h1 : P.funcs[k]? = some fn) (h2 : compF P dr b d fn = some fi) (h3 : Listed P l) (h0 : k < 4294967296) : Listed P ((k, fi) :: l) := by
  intro x hx
  rcases List.mem_cons.1 hx with rfl | hx
  · exact ⟨h0, fn, dr, b, d, h1, h2⟩
  · exact h3 x hx

theorem endF_ok {drop : Bool} {h0 h h' : Hp} {res : List RV} {e : Tr} {n n' : Nat} {v : V} (hr : endF drop h0 res e h n = .ok v h' n') :
    (evRVs e h res).known = true ∧ v = evRes e h res ∧ h' = (if drop then h0 else h) ∧ n' = n := by
  unfold endF at hr
  cases hk : (evRVs e h res).known
  · rw [hk] at hr; cases hr
  · rw [hk] at hr
    cases drop
    · have hr : Res.ok (evRes e h res) h n = .ok v h' n' := hr
      cases hr; exact ⟨rfl, rfl, rfl, rfl⟩
    · have hr : Res.ok (evRes e h res) h0 n = .ok v h' n' := hr
      cases hr; exact ⟨rfl, rfl, rfl, rfl⟩

/-- What was there is as it was: the new may be forgotten. -/
theorem dropped {n n1 : Nat} {g g1 : Sig} {h h1 : Hm} {w w1 : World} (m : Mem g h w) (hd : Dom h n) (hf : Fresh g n n1) (f : Fr n n g h w n1 g1 h1 w1) : Mem g1 h w1 ∧ Fr n n g h w n1 g1 h w1 := by
  have hle := f.gle hf
  have hkeep : ∀ r, r < w.heap.size → w1.heap[r]? = w.heap[r]? := fun r hr => f.keep r hr fun p b base tot hp hl => by have := hd p b hp; omega
  refine ⟨⟨?_, ?_⟩, { f with dom := fun p b e => ⟨fun _ => ⟨b, e⟩, by have := hd p b e; have := f.le; omega⟩ }⟩
  · intro p q bp bq r b1 t1 b2 t2 hp hq e1 e2
    have s1 := f.sig p (.inl (hd p bp hp))
    have s2 := f.sig q (.inl (hd q bq hq))
    rw [s1] at e1
    rw [s2] at e2
    exact m.inj p q bp bq r b1 t1 b2 t2 hp hq e1 e2
  · intro p b hp
    obtain ⟨r, base, tot, cur, c1, c2, c3, c4, c5, c6⟩ := m.blk p b hp
    refine ⟨r, base, tot, cur, hle _ _ c1, (c2.mono hle).keep (hkeep r (m.lt hp c1)), c3, c4, c5, fun k hk => ?_⟩
    obtain ⟨v, d1, d2, d3⟩ := c6 k hk
    exact ⟨v, d1, d2, V.rel_mono hle _ d3⟩

/-- A world in which nothing else but blocks of deferred calls, from a place on, is another. -/
structure DefEq (s : Nat) (w w' : World) : Prop where
  os : w'.os = w.os
  tape : w'.tape = w.tape
  output : w'.output = w.output
  size : w'.heap.size = w.heap.size
  heap : ∀ r, w'.heap[r]? = w.heap[r]? ∨ (s ≤ r ∧ (∃ x, w.heap[r]? = some (.deferred x)) ∧ ∃ y, w'.heap[r]? = some (.deferred y))
theorem DefEq.refl (s : Nat) (w : World) : DefEq s w w := ⟨rfl, rfl, rfl, rfl, fun _ => .inl rfl⟩
theorem DefEq.trans {s : Nat} {w w1 w2 : World} (a : DefEq s w w1) (b : DefEq s w1 w2) : DefEq s w w2 := ⟨b.os.trans a.os, b.tape.trans a.tape, b.output.trans a.output, b.size.trans a.size, fun r => by
  rcases b.heap r with h1 | ⟨h1, ⟨x, h2⟩, h3⟩
  · rcases a.heap r with h4 | ⟨h4, h5, y, h6⟩
    · exact .inl (h1.trans h4)
    · exact .inr ⟨h4, h5, y, h1.trans h6⟩
  · rcases a.heap r with h4 | ⟨h4, h5, y, h6⟩
    · exact .inr ⟨h1, ⟨x, h4 ▸ h2⟩, h3⟩
    · exact .inr ⟨h1, h5, h3⟩⟩
theorem DefEq.mem {s : Nat} {w w' : World} (e : DefEq s w w') {g : Sig} {h : Hm} (m : Mem g h w) : Mem g h w' := ⟨m.inj, fun p b hp => by
  obtain ⟨r, base, tot, cur, c1, c2, c3, c4, c5, c6⟩ := m.blk p b hp
  refine ⟨r, base, tot, cur, c1, c2.keep ?_, c3, c4, c5, c6⟩
  rcases e.heap r with h1 | ⟨_, ⟨x, h2⟩, _⟩
  · exact h1
  · exact absurd h2 (c2.notDef x)⟩
theorem DefEq.fr {w0 w w' : World} (e : DefEq w0.heap.size w w') {lim n n1 : Nat} {g g1 : Sig} {h h1 : Hm} (f : Fr lim n g h w0 n1 g1 h1 w) : Fr lim n g h w0 n1 g1 h1 w' :=
  { f with
    os := e.os.trans f.os
    tape := e.tape.trans f.tape
    output := e.output.trans f.output
    size := by rw [e.size]; exact f.size
    keep := fun r hr hW => by
      rcases e.heap r with h1 | ⟨h1, _⟩
      · rw [h1]; exact f.keep r hr hW
      · omega }
theorem leave_marks {P : Program} {fn : Func} {tmps : Array Value} {R : Ending → World → Prop} {s : Nat} : ∀ (ds : List Deferred) (w : World), ds.Nodup → (∀ d ∈ ds, isMk s w d) →
    (∀ w', DefEq s w w' → ∃ v, (results fn tmps).run P w' = .ok v w' ∧ R (.returned v) w') → LeavesInM Fence.wide 0 P fn tmps R ds .returning w
  | [], w, _, _, h => h w (DefEq.refl s w)
  | d :: ds, w, hn, hm, h => by
    obtain ⟨r, h1, h2, h3⟩ := hm d (List.mem_cons_self ..)
    have hlt := (Array.getElem?_eq_some_iff.1 h3).1
    rw [List.nodup_cons] at hn
    have e1 : DefEq s w (w.putObj r (.deferred none)) := ⟨rfl, rfl, rfl, by simp [World.putObj], fun k => by
      by_cases hk : k = r
      · subst hk; exact .inr ⟨h1, ⟨_, h3⟩, _, World.putObj_heap_same hlt⟩
      · exact .inl (World.putObj_heap_other hk)⟩
    refine ⟨by simp, .inl ⟨r, _, by rw [h2], run_takeDeferred h3, leave_marks ds _ hn.2 (fun d' hd' => ?_) fun w' e => h w' (e1.trans e)⟩⟩
    obtain ⟨r', k1, k2, k3⟩ := hm d' (List.mem_cons_of_mem _ hd')
    refine ⟨r', k1, k2, (World.putObj_heap_other fun e => ?_).trans k3⟩
    subst e
    rw [h2, ← k2] at hn
    exact hn.1 hd'
theorem runB_sound {P : Program} (hP : P.follows .mixedOrders = true) {F : FF} (hF : FOK P F) (hM : F.mono) {f : Nat} {fn : Func} {c : Code} (hfn : P.funcs[f]? = some fn) (hb : fn.body = some c) {dr : List Nat} {q : IC} {res : List RV} (hq : compC P dr fn.ntmps c = some q) (hres : compRVs P fn.results.toList = some res)
    (drop : Bool) {args : L} {lim n n' : Nat} {h h' : Hp} {v : V} (hr : runB drop q res F args lim h n = .ok v h' n') (hdr : drop = true → lim = n) {vs : List Value} {g : Sig} {w : World} (ha : args.rel g vs) (hgk : GOK g) (hal : args.length < 4294967296) (m : Mem g h.get w) (hd : Dom h.get n) (hf : Fresh g n n') (hn : n' < 9223372036854775808) :
    Calls P f ⟨vs⟩ w fun e w' => ∃ u g', e = .returned u ∧ v.rel g' u ∧ Mem g' h'.get w' ∧ Fr lim n g h.get w n' g' h'.get w' := by
  refine callsIn_wide.1 (callsIn_of_wp_marks (F := Fence.wide) (n := 0) hfn hb trivial ?_)
  have fin : ∀ (e1 : Tr) (h1 : Hp) (n1 : Nat), endF drop h res e1 h1 n1 = .ok v h' n' → ∀ (a' : Act) (g1 : Sig) (w' : World), EnvA fn.ntmps g1 e1 a' → Mem g1 h1.get w' → Fr lim n g h.get w n1 g1 h1.get w' → Mk w.heap.size w' a' →
      LeavesInM Fence.wide 0 P fn a'.tmps (fun e w' => ∃ u g', e = .returned u ∧ v.rel g' u ∧ Mem g' h'.get w' ∧ Fr lim n g h.get w n' g' h'.get w') a'.defers .returning w' := by
    intro e1 h1 n1 he a' g1 w' hE m1 f1 hmk
    obtain ⟨hk, rfl, rfl, rfl⟩ := endF_ok he
    refine leave_marks a'.defers w' hmk.1 hmk.2 fun w2 e2 => ?_
    obtain ⟨u, r1, r2⟩ := evRes_sound hE (e2.mem m1) hres hk
    refine ⟨u, r1, u, g1, rfl, r2, ?_⟩
    cases drop with
    | false => exact ⟨e2.mem m1, e2.fr f1⟩
    | true =>
      have := hdr rfl
      subst this
      exact dropped m hd hf (e2.fr f1)
  have m0 : Mk w.heap.size w { tmps := (⟨vs⟩ : Array Value) ++ Array.replicate (fn.ntmps - (⟨vs⟩ : Array Value).size) undef, defers := [] } := ⟨List.nodup_nil, fun d hd => by simp at hd⟩
  unfold runB at hr
  cases hx : evC q F lim (bind args 0 .lf) h n with
  | no => rw [hx] at hr; cases hr
  | ext => rw [hx] at hr; cases hr
  | nor e1 h1 n1 =>
    rw [hx] at hr
    have hr : endF drop h res e1 h1 n1 = .ok v h' n' := hr
    have hnn : n1 = n' := (endF_ok hr).2.2.2.symm
    refine wpIn_mono (evC_sound hP hF hM c q hq lim _ h n _ hx (by simp) _ g w (env_bind hgk ha hal fn.ntmps) m hd (hnn ▸ hf) (hnn ▸ hn) none (.inl rfl)) ?_
    rintro ex a' w' ⟨rfl, k1, g1, hE, m1, f1⟩
    exact fin e1 h1 n1 hr a' g1 w' hE m1 f1 (k1.2 _ (Nat.le_refl _) m0)
  | ret e1 h1 n1 =>
    rw [hx] at hr
    have hr : endF drop h res e1 h1 n1 = .ok v h' n' := hr
    have hnn : n1 = n' := (endF_ok hr).2.2.2.symm
    refine wpIn_mono (evC_sound hP hF hM c q hq lim _ h n _ hx (by simp) _ g w (env_bind hgk ha hal fn.ntmps) m hd (hnn ▸ hf) (hnn ▸ hn) none (.inl rfl)) ?_
    rintro ex a' w' ⟨rfl, k1, g1, hE, m1, f1⟩
    exact fin e1 h1 n1 hr a' g1 w' hE m1 f1 (k1.2 _ (Nat.le_refl _) m0)

theorem evF_sound {P : Program} (hP : P.follows .mixedOrders = true) {l : List (Nat × FnI)} (hl : Listed P l) : ∀ d, FOK P (evF (FT.of l) d)
  | 0 => ⟨fun f args lim h n v h' n' hr => (by cases hr), fun p args lim h n v h' n' hr => (by cases hr)⟩
  | d + 1 => by
    refine ⟨fun f args lim h n v h' n' hr => ?_, fun p args lim h n v h' n' hr => by
      have hr : (Bool.rec .no (Option.rec (motive := fun _ => Res) .no (fun fi => runF fi (evF (FT.of l) d) (.cons yM (.cons (.yl p) args)) lim h n) ((FT.of l).at (Nat.succ YID))) (and (Nat.ble YID 4294967294) (Nat.ble (L.cons yM (.cons (.yl p) args)).length 4294967294)) : Res) = .ok v h' n' := hr
      rw [show Nat.ble YID 4294967294 = false by decide] at hr
      cases hr⟩
    intro vs g w ha hgk m hd hf hn
    have hr : (Bool.rec .no (Option.rec (motive := fun _ => Res) .no (fun fi => runF fi (evF (FT.of l) d) args lim h n) ((FT.of l).at (Nat.succ f))) (and (Nat.ble f 4294967294) (Nat.ble args.length 4294967294)) : Res) = .ok v h' n' := hr
    cases hb : and (Nat.ble f 4294967294) (Nat.ble args.length 4294967294)
    · rw [hb] at hr; cases hr
    · rw [hb] at hr
      simp only [Bool.and_eq_true, Nat.ble_eq] at hb
      cases hat : (FT.of l).at (Nat.succ f) with
      | none => rw [hat] at hr; cases hr
      | some fi =>
        rw [hat] at hr
        have hr : runF fi (evF (FT.of l) d) args lim h n = .ok v h' n' := hr
        have hmem := FT.of_mem l (fun x hx => (hl x hx).1) f fi (by omega) hat
        obtain ⟨_, fn, dr, bar, drop, hfn, hcomp⟩ := hl _ hmem
        have hfn : P.funcs[f]? = some fn := hfn
        have hcomp : compF P dr bar drop fn = some fi := hcomp
        unfold compF at hcomp
        split at hcomp
        case h_2 => cases hcomp
        rename_i c hbody
        split at hcomp
        case h_2 => cases hcomp
        rename_i q res hq hres
        split at hcomp
        case isTrue => cases hcomp
        rename_i hname
        cases hcomp
        refine ⟨⟨fn, hfn, by simpa using hname, by rw [hbody]; rfl⟩, ?_⟩
        have hr : (Bool.rec (runB false q res (evF (FT.of l) d) args lim h n) (Bool.rec .no (runB drop q res (evF (FT.of l) d) args n h n) (Nat.ble lim n)) bar : Res) = .ok v h' n' := hr
        cases bar with
        | false => exact runB_sound hP (evF_sound hP hl d) (evF_mono _ d) hfn hbody hq hres false hr (fun h => by cases h) ha hgk (by omega) m hd hf hn
        | true =>
          cases hlim : Nat.ble lim n
          · rw [hlim] at hr; cases hr
          · rw [hlim] at hr
            rw [Nat.ble_eq] at hlim
            refine (runB_sound hP (evF_sound hP hl d) (evF_mono _ d) hfn hbody hq hres drop hr (fun _ => rfl) ha hgk (by omega) m hd hf hn).mono ?_
            rintro e w' ⟨u, g', h1, h2, h3, h4⟩
            exact ⟨u, g', h1, h2, h3, h4.weak hlim⟩

/-- Where the package-level variables stand. -/
noncomputable def g0 (tot : Nat → Nat) : Sig := fun p => if p.num ≤ gK then some (p.num - 1, 0, tot (p.num - 1)) else none
theorem g0_ok (tot : Nat → Nat) : GOK (g0 tot) := fun k hk => ⟨tot k, by
  have := num_posF 63 (k + 1) (by omega) (by unfold gK at hk; omega)
  unfold g0; rw [this, if_pos (by omega)]; simp⟩
theorem g0_fresh (tot : Nat → Nat) (n : Nat) : Fresh (g0 tot) (gK + 1) n := fun p h _ => by
  unfold g0; rw [if_neg (by omega)]

/-- From the evaluator's answer to the call, in any world. -/
theorem ran {P : Program} (hP : P.follows .mixedOrders = true) {l : List (Nat × FnI)} (hl : Listed P l) {d f : Nat} {args : L} {v : V} {h' : Hp} {n' : Nat} (hr : evF (FT.of l) d f args (gK + 1) .lf (gK + 1) = .ok v h' n') (hn : n' < 9223372036854775808) {vs : List Value} {u : Value}
    (ha : ∀ g, args.rel g vs) (hu : ∀ g x, v.rel g x → x = u) (w : World) : Calls P f ⟨vs⟩ w fun e w' => e = .returned u ∧ Below w.heap.size w w' := by
  have h0 : ∀ p, (Hp.get p .lf) = none := Hp.get_lf
  refine ((evF_sound hP hl d).1 f args (gK + 1) .lf (gK + 1) v h' n' hr vs (g0 fun _ => 0) w (ha _) (g0_ok _) ⟨fun p q bp bq _ _ _ _ _ hp => ?_, fun p b hp => ?_⟩ (fun p b hp => ?_) (g0_fresh _ _) hn).2.mono ?_
  · have := (h0 _).symm.trans hp; cases this
  · have := (h0 _).symm.trans hp; cases this
  · have := (h0 _).symm.trans hp; cases this
  · rintro e w' ⟨x, g', rfl, hv, _, hfr⟩
    refine ⟨by rw [hu g' x hv], hfr.os, hfr.tape, hfr.output, hfr.size, fun k hk => hfr.keep k hk fun p b base tot hp => ?_⟩
    have := (h0 _).symm.trans hp; cases this

/-- The tables of a memory: which variable, of which type, what its cells hold. -/
noncomputable def tabH : List (Nat × TypeId × L) → Hp
  | [] => .lf
  | (k, el, z) :: l => (tabH l).put (some ⟨el, z.length, z.length, z, .lf⟩) (tp k)
def tabT : List (Nat × TypeId × L) → Nat → Nat
  | [], _ => 0
  | (k, _, z) :: l, j => if j = k then z.length else tabT l j
/-- That a world holds them. -/
def Holds (w : World) : List (Nat × TypeId × L) → Prop
  | [] => True
  | (k, el, z) :: l => (k < gK ∧ z.allC = true ∧ z.length ≤ maxSize ∧ ∃ vs, w.heap[k]? = some (.cells ⟨vs⟩ el (0, 0)) ∧ ∀ g, z.rel g vs) ∧ Holds w l

theorem tabH_get {w : World} : ∀ (l : List (Nat × TypeId × L)), Holds w l → ∀ p b, (tabH l).get p = some b → ∃ k z, k < gK ∧ p = tp k ∧ b = ⟨b.el, z.length, z.length, z, .lf⟩ ∧ tabT l k = z.length ∧ z.allC = true ∧ z.length ≤ maxSize ∧ ∃ vs, w.heap[k]? = some (.cells ⟨vs⟩ b.el (0, 0)) ∧ ∀ g, z.rel g vs
  | [], _, p, b, h => by have := (Hp.get_lf p).symm.trans h; cases this
  | (k, el, z) :: l, hw, p, b, h => by
    have h : ((tabH l).put (some ⟨el, z.length, z.length, z, .lf⟩) (tp k)).get p = some b := h
    rw [Hp.get_put] at h
    split at h
    · rename_i e
      cases h
      exact ⟨k, z, hw.1.1, e, rfl, by simp [tabT], hw.1.2.1, hw.1.2.2.1, hw.1.2.2.2⟩
    · rename_i hne
      obtain ⟨k', z', h1, h2, h3, h4, h5⟩ := tabH_get l hw.2 p b h
      refine ⟨k', z', h1, h2, h3, ?_, h5⟩
      show (if k' = k then _ else _) = _
      rw [if_neg (fun e => hne (by rw [h2, e])), h4]

/-- The same, in a world that holds tables. -/
theorem ranT {P : Program} (hP : P.follows .mixedOrders = true) {l : List (Nat × FnI)} (hl : Listed P l) (tabs : List (Nat × TypeId × L)) {d f : Nat} {args : L} {v : V} {h' : Hp} {n' : Nat} (hr : evF (FT.of l) d f args (gK + 1) (tabH tabs) (gK + 1) = .ok v h' n') (hn : n' < 9223372036854775808) {vs : List Value} {u : Value}
    (ha : ∀ g, args.rel g vs) (hu : ∀ g x, v.rel g x → x = u) (w : World) (hw : Holds w tabs) : Calls P f ⟨vs⟩ w fun e w' => e = .returned u ∧ Below w.heap.size w w' := by
  have num : ∀ k, k < gK → (tp k).num = k + 1 := fun k hk => num_posF 63 (k + 1) (by omega) (by unfold gK at hk; omega)
  have hg : ∀ k, k < gK → g0 (tabT tabs) (tp k) = some (k, 0, tabT tabs k) := fun k hk => by
    unfold g0; rw [num k hk, if_pos (by omega)]; simp
  refine ((evF_sound hP hl d).1 f args (gK + 1) (tabH tabs) (gK + 1) v h' n' hr vs (g0 (tabT tabs)) w (ha _) (g0_ok _) ⟨fun p q bp bq r b1 t1 b2 t2 hp hq e1 e2 => ?_, fun p b hp => ?_⟩ (fun p b hp => ?_) (g0_fresh _ _) hn).2.mono ?_
  · obtain ⟨k, z, h1, rfl, _⟩ := tabH_get tabs hw p bp hp
    obtain ⟨k', z', h1', rfl, _⟩ := tabH_get tabs hw q bq hq
    rw [hg k h1] at e1
    rw [hg k' h1'] at e2
    cases e1; cases e2; rfl
  · obtain ⟨k, z, h1, rfl, h3, h4, h5, h6, vs, h7, h8⟩ := tabH_get tabs hw p b hp
    have hlen : vs.length = z.length := L.rel_length (h8 (fun _ => none))
    have hbs : b.size = z.length := by rw [h3]
    refine ⟨k, 0, tabT tabs k, ⟨vs⟩, hg k h1, .inl ⟨RowIs.of h7, Nat.zero_le _⟩, by rw [h4]; simpa using hlen, .inr (by rw [h4, hbs]; simp), by rw [hbs]; exact h6, fun j hj => ?_⟩
    obtain ⟨u, c1, c2, c3⟩ := cell_list (h8 (g0 (tabT tabs))) h5 b.el j (by rw [← hbs]; exact hj)
    refine ⟨u, by simpa using c1, c2, ?_⟩
    rw [h3]; exact c3
  · obtain ⟨k, z, h1, rfl, _⟩ := tabH_get tabs hw p b hp
    rw [num k h1]; omega
  · rintro e w' ⟨x, g', rfl, hv, _, hfr⟩
    refine ⟨by rw [hu g' x hv], hfr.os, hfr.tape, hfr.output, hfr.size, fun k hk => hfr.keep k hk fun p b base tot hp hl => ?_⟩
    obtain ⟨k', z, h1, rfl, _⟩ := tabH_get tabs hw p b hp
    rw [num k' h1] at hl; omega
end Go.Proofs.Ythgaekbcmhbbgaa.Ev
/- The answers true, and the tables out of a row's condition. -/
namespace Go.Proofs.Ythgaekbcmhbbgaa.Ev
set_option linter.unusedVariables false
open Go Go.RowKit

/-- The evaluator's answer is true, and the blocks can be counted. -/
noncomputable def okR (r : Res) : Bool := Res.rec false (fun v _ n => onB v (fun b => and b (Nat.blt n 9223372036854775808)) false) r
theorem okR_ok {r : Res} (h : okR r = true) : ∃ h' n', r = .ok (.b true) h' n' ∧ n' < 9223372036854775808 := by
  cases r with
  | no => cases h
  | ok v h' n' =>
    have hh : onB v (fun b => and b (Nat.blt n' 9223372036854775808)) false = true := h
    clear h
    cases v <;> simp [onB, V.asB] at hh
    obtain ⟨e1, e2⟩ := hh
    exact ⟨h', n', by rw [e1], e2⟩
theorem ranB {P : Program} (hP : P.follows .mixedOrders = true) {l : List (Nat × FnI)} (hl : Listed P l) {d f : Nat} {args : L} (hr : okR (evF (FT.of l) d f args (gK + 1) .lf (gK + 1)) = true) {vs : List Value}
    (ha : ∀ g, args.rel g vs) (w : World) : Calls P f ⟨vs⟩ w fun e w' => e = .returned (.bool true) ∧ Below w.heap.size w w' := by
  obtain ⟨h', n', h1, h2⟩ := okR_ok hr
  exact ran hP hl h1 h2 ha (fun g x hx => by simpa [V.rel] using hx) w
theorem ranTB {P : Program} (hP : P.follows .mixedOrders = true) {l : List (Nat × FnI)} (hl : Listed P l) (tabs : List (Nat × TypeId × L)) {d f : Nat} {args : L} (hr : okR (evF (FT.of l) d f args (gK + 1) (tabH tabs) (gK + 1)) = true) {vs : List Value}
    (ha : ∀ g, args.rel g vs) (w : World) (hw : Holds w tabs) : Calls P f ⟨vs⟩ w fun e w' => e = .returned (.bool true) ∧ Below w.heap.size w w' := by
  obtain ⟨h', n', h1, h2⟩ := okR_ok hr
  exact ranT hP hl tabs h1 h2 ha (fun g x hx => by simpa [V.rel] using hx) w hw

/-- A table of numbers. -/
def kL (k : IntKind) : List Int → L
  | [] => .nil
  | z :: r => .cons (.i k z) (kL k r)
theorem kL_rel (g : Sig) (k : IntKind) : ∀ zs : List Int, (kL k zs).rel g (zs.map fun z => Value.int k z)
  | [] => rfl
  | z :: r => ⟨.int k z, _, rfl, rfl, kL_rel g k r⟩
theorem kL_allC (k : IntKind) : ∀ zs : List Int, (kL k zs).allC = true
  | [] => rfl
  | z :: r => by show ((V.i k z).isC && (kL k r).allC) = true; rw [kL_allC k r]; rfl
theorem kL_length (k : IntKind) : ∀ zs : List Int, (kL k zs).length = zs.length
  | [] => rfl
  | z :: r => by show (kL k r).length + 1 = _; rw [kL_length k r]; rfl

/-- A listed table's block. -/
theorem laid_tab {P : Program} {w : World} {name : String} {k : IntKind} {zs : List Int} {g : Nat} {t e : TypeId} {n : Nat}
    (hg : P.globalNamed name = some g) (hty : (P.globals[g]?).map (·.type) = some t) (ht : P.underlying t = some (.array n e)) (he : P.underlying e = some (.int k)) (hce : P.cellsOf e = 1) (hct : P.cellsOf t = n) (hz : 0 < zs.length) :
    ∀ (l : List (String × DataW Unit)) (ps : List MemPlace), DataW.LaidVars P w l ps → (∀ b off, MemPlace.cell b off ∈ ps → ∃ c u, w.heap[b]? = some (.cells c u (0, 0))) → (name, Lib.tabData k zs) ∈ l →
    ∃ el, w.heap[g]? = some (.cells (⟨zs.map fun z => Value.int k z⟩ : Array Value) el (0, 0))
  | [], _, _, _, hm => by cases hm
  | (n', d') :: r, ps, h, hf, hm => by
    obtain ⟨g', t', cs, fuel, p, q, h1, h2, h3, h4, h5, rfl⟩ := h
    rcases List.mem_cons.1 hm with e0 | e0
    · cases e0
      obtain rfl := Option.some.inj (hg.symm.trans h1)
      obtain rfl := Option.some.inj (hty.symm.trans h2)
      have hcs := Lib.cells_of_tab ht he hce hct h4
      have hsz : 0 < cs.size := by rw [← Array.length_toList, hcs]; simpa using hz
      obtain ⟨c, u, hcu⟩ := hf g 0 (by
        refine List.mem_append_left _ (List.mem_append_left _ ?_)
        unfold MemPlace.row
        exact List.mem_map.2 ⟨0, List.mem_range.2 hsz, rfl⟩)
      refine ⟨u, ?_⟩
      have hv := h3
      simp only [World.var?, hg, Option.bind_some, hcu, Option.some.injEq] at hv
      rw [hcu, ← hcs, hv]
    · exact laid_tab hg hty ht he hce hct hz r q h5 (fun b off hb => hf b off (List.mem_append_right _ hb)) e0

theorem holds_tab {P : Program} {w : World} {laid : List (String × DataW Unit)} (hp : (laid.all fun x => x.2.handleName?.isNone) = true) (h : laidMetH P laid w) {name : String} {k : IntKind} {zs : List Int} {g : Nat} {t e : TypeId} {n : Nat}
    (hg : P.globalNamed name = some g) (hty : (P.globals[g]?).map (·.type) = some t) (ht : P.underlying t = some (.array n e)) (he : P.underlying e = some (.int k)) (hce : P.cellsOf e = 1) (hct : P.cellsOf t = n) (hz : 0 < zs.length) (hm : (name, Lib.tabData k zs) ∈ laid)
    (hgk : g < gK) (hmax : zs.length ≤ maxSize) : ∃ el, Holds w [(g, el, kL k zs)] := by
  rw [MakeChecks.laidMetH_plain _ _ _ hp] at h
  obtain ⟨ps, h1, _, h3⟩ := h
  obtain ⟨el, h4⟩ := laid_tab hg hty ht he hce hct hz laid ps h1 (fun b off hb => (h3 b off hb).1) hm
  exact ⟨el, ⟨hgk, kL_allC k zs, by rw [kL_length]; exact hmax, _, h4, fun g' => kL_rel g' k zs⟩, trivial⟩
end Go.Proofs.Ythgaekbcmhbbgaa.Ev
/- Rounds of loops over functions: what a yield comes to. -/
namespace Go.Proofs.Ythgaekbcmhbbgaa.Ev
set_option linter.unusedVariables false
open Go
/-- What is yielded goes into the round's own slots. -/
noncomputable def bindA : List Nat → L → Tr → Tr
  | t :: ps, .cons v l, e => bindA ps l (e.set v (tp t))
  | _, _, e => e
noncomputable def okPs (N : Nat) : List Nat → Bool
  | [] => true
  | t :: l => and (Nat.blt t N) (okPs N l)
theorem getD_setIf (tm : Array Value) (t s : Nat) (v : Value) (ht : t < tm.size) : (tm.setIfInBounds t v).getD s undef = if s = t then v else tm.getD s undef := by
  simp only [Array.getD_eq_getD_getElem?, Array.getElem?_setIfInBounds]
  by_cases h : s = t
  · subst h; simp [ht]
  · rw [if_neg (fun e => h e.symm), if_neg h]
theorem bindA_env {N : Nat} {g : Sig} (hN : N ≤ 4294967295) (hgk : GOK g) : ∀ (ps : List Nat) (as : L) (us : List Value) (e : Tr) (tm : Array Value), as.rel g us → okPs N ps = true → N ≤ tm.size →
    (∀ t, t < 4294967296 → (e.get (tp t)).rel g (tm.getD t undef)) →
    EnvA N g (bindA ps as e) { tmps := (ps.zip us).foldl (fun tm (x : Nat × Value) => tm.setIfInBounds x.1 x.2) tm, defers := [] }
  | [], as, us, e, tm, _, _, h1, h2 => ⟨h1, hgk, by simpa [bindA] using h2⟩
  | t :: ps, .nil, us, e, tm, ha, _, h1, h2 => by
    rw [L.rel] at ha; subst ha
    exact ⟨h1, hgk, h2⟩
  | t :: ps, .cons v l, us, e, tm, ha, ho, h1, h2 => by
    rw [L.rel] at ha
    obtain ⟨u, us', rfl, hu, hl⟩ := ha
    have ho : and (Nat.blt t N) (okPs N ps) = true := ho
    simp only [Bool.and_eq_true, Nat.blt_eq] at ho
    have := bindA_env hN hgk ps l us' (e.set v (tp t)) (tm.setIfInBounds t u) hl ho.2 (by simpa using h1) (fun s hs => by
      rw [Tr.get_set, getD_setIf _ _ _ _ (by omega)]
      by_cases h : s = t
      · subst h; rw [if_pos rfl, if_pos rfl]; exact hu
      · rw [if_neg (fun e => h (tp_inj hs (by omega) e)), if_neg h]; exact h2 s hs)
    exact this
noncomputable def withP (b : Blk) (k : Nat) : Blk := ⟨b.el, b.size, k, b.z, b.m⟩
/-- A loop's block whose state is the one that is asked for. -/
noncomputable def isL (b : Blk) (k : Nat) : Bool := and (Nat.beq b.pr k) (onB (b.m.get .h) (fun t => t) false)
theorem isL_ok {b : Blk} {k : Nat} (h : isL b k = true) : b.pr = k ∧ b.m.get .h = .b true := by
  unfold isL at h
  rw [Bool.and_eq_true, Nat.beq_eq] at h
  refine ⟨h.1, ?_⟩
  have := h.2
  cases hx : b.m.get .h <;> rw [hx] at this <;> simp [onB, V.asB] at this
  rw [this]
/-- The state of a loop is changed. -/
noncomputable def setY (p : Pos) (k k' : Nat) (h : Hp) (go : Hp → Res) : Res := match h.get p with
  | some b => (match b.z with
    | .cons (.lp ..) _ => Bool.rec .no (h.putK (some (withP b k')) p go) (isL b k)
    | _ => .no)
  | none => .no
theorem setY_ok {p : Pos} {k k' : Nat} {h : Hp} {go : Hp → Res} {v : V} {h' : Hp} {n' : Nat} (hr : setY p k k' h go = .ok v h' n') :
    ∃ b N ps x y z, h.get p = some b ∧ b.z = .cons (.lp N ps x y) z ∧ b.pr = k ∧ b.m.get .h = .b true ∧ go (h.put (some (withP b k')) p) = .ok v h' n' := by
  unfold setY at hr
  split at hr
  · rename_i b hb
    split at hr
    · rename_i N ps x y z hz
      cases hi : isL b k with
      | false => rw [hi] at hr; cases hr
      | true =>
        rw [hi] at hr
        have hr : h.putK (some (withP b k')) p go = .ok v h' n' := hr
        rw [Hp.putK_eq] at hr
        obtain ⟨h1, h2⟩ := isL_ok hi
        exact ⟨b, N, ps, x, y, z, hb, hz, h1, h2, hr⟩
    · cases hr
  · cases hr
/-- The world where a loop's state is changed. -/
theorem step_setY {lim n : Nat} {g : Sig} {h : Hp} {w : World} (m : Mem g h.get w) (hd : Dom h.get n) {p : Pos} {r : Nat} (hg : g p = some (r, 1, 0)) (hl : lim ≤ p.num) {b : Blk} (hb : h.get p = some b) {N : Nat} {ps : Array Nat} {x y : Code} {z : L} (hz : b.z = .cons (.lp N ps x y) z) (hm : b.m.get .h = .b true) (k' : Nat)
    (f : Loop → Loop) (hf : ∀ rec, (f rec).params = rec.params ∧ (f rec).assign = rec.assign ∧ (f rec).body = rec.body ∧ (f rec).tmps = rec.tmps) (hs : ∀ rec, loopSt b.pr rec → loopSt k' (f rec)) :
    ∃ rec, w.heap[r]? = some (.loop rec) ∧ loopRel g b rec ∧ Mem g (h.put (some (withP b k')) p).get (w.putObj r (.loop (f rec))) ∧ Fr lim n g h.get w n g (h.put (some (withP b k')) p).get (w.putObj r (.loop (f rec))) := by
  obtain ⟨h0, rec, h1, h2⟩ := loop_of m hb hg hm hz
  have e : (h.put (some (withP b k')) p).get = hput h.get p (some (withP b k')) := by
    funext q
    unfold hput
    rw [Hp.get_put]
  obtain ⟨N', ps', x', y', v0', a1, a2, a3, a4, a5, a6, a9, a7, a8⟩ := h2
  obtain ⟨f1, f2, f3, f4⟩ := hf rec
  refine ⟨rec, h1, ⟨N', ps', x', y', v0', a1, a2, a3, a4, a5, a6, a9, a7, a8⟩, ?_, ?_⟩
  · rw [e]
    exact mem_setLoop (b' := withP b k') m hb hg h0 (rec := f rec) ⟨N', ps', x', y', v0', a1, by rw [f1]; exact a2, by rw [f2]; exact a3, by rw [f3]; exact a4, by rw [f4]; exact a5, a6, by rw [f4]; exact a9, by rw [f4]; exact a7, hs rec a8⟩
  · rw [e]
    exact fr_setMap hd hb hl hg _ _
/-- What a round's body comes to: whether the next round may follow, and in what state the loop is left. -/
noncomputable def bodyY (p : Pos) (r : Rs) : Res := match r with
  | .nor _ h n => setY p 2 0 h fun h' => .ok (.b true) h' n
  | .ret _ h n => setY p 2 1 h fun h' => .ok (.b false) h' n
  | .ext id _ h n => setY p 2 (id + 3) h fun h' => .ok (.b false) h' n
  | .no => .no
/-- One round: what is yielded is assigned; the loop is busy; the body; the loop is ready again, or left. -/
noncomputable def roundY (qa qb : IC) (F : FF) (p : Pos) (e : Tr) (lim : Nat) (h : Hp) (n : Nat) : Res := match evC qa F lim e h n with
  | .nor e1 h1 n1 => setY p 0 2 h1 fun h2 => bodyY p (evC qb F lim e1 h2 n1)
  | _ => .no
noncomputable def evY (cmp : Nat → Code → Option IC) (F : FF) (args : L) (lim : Nat) (h : Hp) (n : Nat) : Res := match args with
  | .cons (.lp 0 _ _ _) (.cons (.yl p) as) => (match h.get p with
    | some b => (match b.z with
      | .cons (.lp N ps x y) (.cons v0 _) => (match cmp N x, cmp N y with
        | some qa, some qb => Bool.rec .no (roundY qa qb F p (bindA ps.toList as ((b.m.toT N).set v0 .h)) lim h n) (and (isL b 0) (and (Nat.ble lim p.num) (and (okPs N ps.toList) (and (Nat.beq as.length ps.toList.length) (and (Nat.ble N 4294967295) (and qa.noR qb.noR))))))
        | _, _ => .no)
      | _ => .no)
    | none => .no)
  | _ => .no
theorem roundPost_mono {P : Program} {l : Nat} {R R' : Ending → World → Prop} (h : ∀ e w, R e w → R' e w) {e : Exit} {a : Act} {w : World} (hp : roundPost P l R e a w) : roundPost P l R' e a w := by
  cases e <;> first | exact hp | (obtain ⟨v, w', h1, h2⟩ := hp; exact ⟨v, w', h1, h _ _ h2⟩)
section
variable {P : Program} (hP : P.follows .mixedOrders = true) {F : FF} (hF : FOK P F) (hM : F.mono) {dr : List Nat}
include hP hF hM
theorem bodyY_sound {N : Nat} {cb : Code} {qb : IC} (hq : compC P dr N cb = some qb) (hnr : qb.noR = true) {p : Pos} {lim : Nat} {e : Tr} {h : Hp} {n : Nat} {v : V} {h' : Hp} {n' : Nat} (hr : bodyY p (evC qb F lim e h n) = .ok v h' n')
    {a : Act} {g : Sig} {w : World} (he : EnvA N g e a) (m : Mem g h.get w) (hd : Dom h.get n) (hf : Fresh g n n') (hn : n' < 9223372036854775808) {r : Nat} (hg : g p = some (r, 1, 0)) (hl : lim ≤ p.num) (hpn : p.num < n) :
    cb.wpIn (Fence.wide.inRound r) 0 P (roundPost P r fun e w' => ∃ u g', e = .returned u ∧ v.rel g' u ∧ Mem g' h'.get w' ∧ Fr lim n g h.get w n' g' h'.get w') a w := by
  have fin : ∀ (k' : Nat) (t : Bool) (jump : Option Code) (h2 : Hp) (n2 : Nat), setY p 2 k' h2 (fun h' => .ok (.b t) h' n2) = .ok v h' n' → t = jump.isNone →
      (∀ rec : Loop, loopSt k' { rec with state := if jump.isNone then .ready else .done, pending := jump }) →
      ∀ (g2 : Sig) (w2 : World), Mem g2 h2.get w2 → Fr lim n g h.get w n2 g2 h2.get w2 →
      ∃ u w', (Instr.endRound r jump).run P w2 = .ok u w' ∧ ∃ u' g', Ending.returned u = .returned u' ∧ v.rel g' u' ∧ Mem g' h'.get w' ∧ Fr lim n g h.get w n' g' h'.get w' := by
    intro k' t jump h2 n2 hs ht hst g2 w2 m2 f2
    obtain ⟨b, N', ps, x, y, z, hb, hz, hpr, hm, hgo⟩ := setY_ok hs
    cases hgo
    have hg2 : g2 p = some (r, 1, 0) := by rw [f2.sig p (.inl hpn)]; exact hg
    obtain ⟨rec, h1, _, m3, f3⟩ := step_setY (lim := lim) (n := n') m2 f2.dom' hg2 hl hb hz hm k' (fun rec : Loop => { rec with state := if jump.isNone then .ready else .done, pending := jump }) (fun _ => ⟨rfl, rfl, rfl, rfl⟩) (fun rec _ => hst rec)
    exact ⟨_, _, run_endRound jump h1, _, g2, rfl, by rw [V.rel, ht], m3, f2.trans f3⟩
  cases hx : evC qb F lim e h n with
  | no => rw [hx] at hr; cases hr
  | nor e2 h2 n2 =>
    rw [hx] at hr
    have hr : setY p 2 0 h2 (fun h' => .ok (.b true) h' n2) = .ok v h' n' := hr
    have hnn : n2 = n' := by obtain ⟨_, _, _, _, _, _, _, _, _, _, hgo⟩ := setY_ok hr; cases hgo; rfl
    subst hnn
    refine wpIn_mono (evC_sound hP hF hM cb qb hq lim e h n _ hx (by simp) a g w he m hd hf hn (some r) (.inr hnr)) ?_
    rintro ex a' w' ⟨rfl, _, g2, he2, m2, f2⟩
    exact fin 0 true none h2 n2 hr rfl (fun rec => ⟨rfl, rfl⟩) g2 w' m2 f2
  | ext id e2 h2 n2 =>
    rw [hx] at hr
    have hr : setY p 2 (id + 3) h2 (fun h' => .ok (.b false) h' n2) = .ok v h' n' := hr
    have hnn : n2 = n' := by obtain ⟨_, _, _, _, _, _, _, _, _, _, hgo⟩ := setY_ok hr; cases hgo; rfl
    subst hnn
    refine wpIn_mono (evC_sound hP hF hM cb qb hq lim e h n _ hx (by simp) a g w he m hd hf hn (some r) (.inr hnr)) ?_
    rintro ex a' w' ⟨rfl, _, g2, he2, m2, f2⟩
    exact fin (id + 3) false (some (.exit id)) h2 n2 hr rfl (fun rec => ⟨rfl, rfl⟩) g2 w' m2 f2
  | ret e2 h2 n2 =>
    rw [hx] at hr
    have hr : setY p 2 1 h2 (fun h' => .ok (.b false) h' n2) = .ok v h' n' := hr
    have hnn : n2 = n' := by obtain ⟨_, _, _, _, _, _, _, _, _, _, hgo⟩ := setY_ok hr; cases hgo; rfl
    subst hnn
    refine wpIn_mono (evC_sound hP hF hM cb qb hq lim e h n _ hx (by simp) a g w he m hd hf hn (some r) (.inr hnr)) ?_
    rintro ex a' w' ⟨rfl, _, g2, he2, m2, f2⟩
    exact fin 1 false (some .ret) h2 n2 hr rfl (fun rec => ⟨rfl, rfl⟩) g2 w' m2 f2
theorem evY_sound {p : Pos} {args : L} {lim : Nat} {h : Hp} {n : Nat} {v : V} {h' : Hp} {n' : Nat} (hr : evY (fun N c => compC P dr N c) F (.cons yM (.cons (.yl p) args)) lim h n = .ok v h' n') : YldOK P p args lim h n v h' n' := by
  intro vs g w r hg ha hgk m hd hf hn
  unfold evY yM at hr
  split at hr
  case h_2 => cases hr
  rename_i heq
  cases heq
  split at hr
  case h_2 => cases hr
  rename_i b hb
  split at hr
  case h_2 => cases hr
  rename_i N ps x y v0 z0 hz
  split at hr
  case h_2 => cases hr
  rename_i qa qb hqa hqb
  cases hc : and (isL b 0) (and (Nat.ble lim p.num) (and (okPs N ps.toList) (and (Nat.beq args.length ps.toList.length) (and (Nat.ble N 4294967295) (and qa.noR qb.noR))))) with
  | false => rw [hc] at hr; cases hr
  | true =>
    rw [hc] at hr
    have hr : roundY qa qb F p (bindA ps.toList args ((b.m.toT N).set v0 .h)) lim h n = .ok v h' n' := hr
    simp only [Bool.and_eq_true, Nat.ble_eq, Nat.beq_eq] at hc
    obtain ⟨c1, hl, c3, c4, c5, c6, c7⟩ := hc
    obtain ⟨hpr, hm⟩ := isL_ok c1
    obtain ⟨h0, rec, h1, N', ps', x', y', v0', a1, a2, a3, a4, a5, a6, a9, a7, a8⟩ := loop_of m hb hg hm hz
    rw [hz] at a1
    cases a1
    have hpn : p.num < n := hd p b hb
    have hlen := L.rel_length ha
    have hy := run_yield (P := P) (w := w) (args := (⟨vs⟩ : Array Value)) h1 (by rw [a2]; show vs.length = ps.size; rw [hlen, c4]; simp)
    have hzip : ((rec.params.zip (⟨vs⟩ : Array Value)).foldl (fun tmps (x : Nat × Value) => tmps.setIfInBounds x.1 x.2) rec.tmps) = (ps.toList.zip vs).foldl (fun tm (x : Nat × Value) => tm.setIfInBounds x.1 x.2) rec.tmps := by
      rw [a2, ← Array.foldl_toList, Array.toList_zip]
    refine ⟨rec.fn, _, rec.assign, rec.body, hy, ?_⟩
    unfold roundY at hr
    split at hr
    case h_2 => cases hr
    rename_i e1 h1' n1 hx
    obtain ⟨b1, N1, ps1, x1, y1, z1, hb1, hz1, hpr1, hm1, hgo⟩ := setY_ok hr
    have hE := bindA_env (g := g) c5 hgk ps.toList args vs ((b.m.toT N).set v0 .h) rec.tmps ha c3 a5 (fun t ht => by
      rw [Tr.get_set]
      by_cases h0 : t = 0
      · subst h0; rw [if_pos (by rfl)]; exact a9
      · rw [if_neg (fun e => h0 (tp_inj ht (by omega) (e.trans (by rfl : Pos.h = tp 0))))]
        rcases toT_get b.m (tp t) N with e1 | e1
        · rw [e1]; trivial
        · rw [e1]; exact a7 t ht (by omega))
    have hg1 : n1 ≤ n' := by
      have hge := evC_ge hM qb lim e1 (h1'.put (some (withP b1 2)) p) n1
      cases hy2 : evC qb F lim e1 (h1'.put (some (withP b1 2)) p) n1 with
      | no => rw [hy2] at hgo; cases hgo
      | nor e2 h2 n2 => rw [hy2] at hgo hge; obtain ⟨_, _, _, _, _, _, _, _, _, _, hgo'⟩ := setY_ok (show setY p 2 0 h2 (fun h' => .ok (.b true) h' n2) = .ok v h' n' from hgo); cases hgo'; exact hge
      | ext id e2 h2 n2 => rw [hy2] at hgo hge; obtain ⟨_, _, _, _, _, _, _, _, _, _, hgo'⟩ := setY_ok (show setY p 2 (id + 3) h2 (fun h' => .ok (.b false) h' n2) = .ok v h' n' from hgo); cases hgo'; exact hge
      | ret e2 h2 n2 => rw [hy2] at hgo hge; obtain ⟨_, _, _, _, _, _, _, _, _, _, hgo'⟩ := setY_ok (show setY p 2 1 h2 (fun h' => .ok (.b false) h' n2) = .ok v h' n' from hgo); cases hgo'; exact hge
    rw [a3, a4]
    refine roundIn_of_wpIn trivial ?_
    have hz2 : (rec.params.zip (⟨vs⟩ : Array Value)).foldl (fun tmps (t, a) => tmps.setIfInBounds t a) rec.tmps = (ps.toList.zip vs).foldl (fun tm (x : Nat × Value) => tm.setIfInBounds x.1 x.2) rec.tmps := hzip
    rw [hz2]
    refine wpIn_mono (evC_sound hP hF hM x qa hqa lim _ h n _ hx (by simp) _ g w hE m hd (hf.sub (Nat.le_refl _) hg1) (by show n1 < _; omega) (some r) (.inr c6)) ?_
    rintro ex a1' w1 ⟨rfl, _, g1, he1, m1, f1⟩
    have hgp : g1 p = some (r, 1, 0) := by rw [f1.sig p (.inl hpn)]; exact hg
    obtain ⟨rec1, q1, q2, m2, f2⟩ := step_setY (lim := lim) (n := n1) m1 f1.dom' hgp hl hb1 hz1 hm1 2 (fun rec : Loop => { rec with state := .busy }) (fun _ => ⟨rfl, rfl, rfl, rfl⟩) (fun rec _ => rfl)
    have hst : rec1.state = .ready := by
      obtain ⟨_, _, _, _, _, _, _, _, _, _, _, _, _, z8⟩ := q2
      rw [hpr1] at z8
      exact z8.1
    refine ⟨_, run_beginRound q1 hst, ?_⟩
    have f12 := f1.trans f2
    refine wpIn_mono (bodyY_sound hP hF hM hqb c7 hgo he1 m2 f2.dom' (f1.fresh hf) hn hgp hl (by have := f1.le; omega)) ?_
    intro e a3 w3 hp3
    refine roundPost_mono ?_ hp3
    rintro e' w4 ⟨u, g', h5, h6, h7, h8⟩
    exact ⟨u, g', h5, h6, h7, f12.trans h8⟩
end
/-! The evaluator with yields. -/
theorem ge_setY {m : Nat} {p : Pos} {k k' : Nat} {h : Hp} {go : Hp → Res} (hg : ∀ h, (go h).ge m) : (setY p k k' h go).ge m := by
  cases hr : setY p k k' h go with
  | no => trivial
  | ok v h' n' =>
    obtain ⟨_, _, _, _, _, _, _, _, _, _, hgo⟩ := setY_ok hr
    have := hg (h.put (some (withP ‹Blk› k')) p)
    rw [hgo] at this
    exact this
theorem ge_bodyY {m : Nat} {p : Pos} : ∀ {r : Rs}, r.ge m → (bodyY p r).ge m
  | .no, _ => trivial
  | .nor .., h => ge_setY fun _ => h
  | .ext .., h => ge_setY fun _ => h
  | .ret .., h => ge_setY fun _ => h
theorem evY_ge {cmp : Nat → Code → Option IC} {F : FF} (hM : F.mono) (args : L) (lim : Nat) (h : Hp) (n : Nat) : (evY cmp F args lim h n).ge n := by
  unfold evY
  split
  · rename_i p as
    split
    · split
      · rename_i b _ _ N ps x y v0 _ _
        split
        · rename_i qa qb _ _
          refine ge_bool ge_no ?_
          unfold roundY
          have h1 := evC_ge hM qa lim (bindA ps.toList as ((b.m.toT N).set v0 .h)) h n
          split
          · rename_i e1 h1' n1 hx
            rw [hx] at h1
            exact ge_setY fun _ => ge_bodyY (Rs.ge_mono h1 (evC_ge hM qb lim _ _ _))
          · trivial
        · trivial
      · trivial
    · trivial
  · trivial
noncomputable def evG (cmp : Nat → Code → Option IC) (PR : FT) (d : Nat) : FF :=
  Nat.rec (motive := fun _ => FF) (fun _ _ _ _ _ => .no) (fun _ ih f args lim h n => Bool.rec (Bool.rec .no (evY cmp ih args lim h n) (Nat.beq f YID)) (Option.rec (motive := fun _ => Res) .no (fun fi => runF fi ih args lim h n) (PR.at (Nat.succ f))) (and (Nat.ble f 4294967294) (Nat.ble args.length 4294967294))) d
theorem evG_mono (cmp : Nat → Code → Option IC) (PR : FT) : ∀ d, (evG cmp PR d).mono
  | 0 => fun _ _ _ _ _ => trivial
  | d + 1 => fun f args lim h n => by
    have hM := evG_mono cmp PR d
    show (Bool.rec (Bool.rec .no (evY cmp (evG cmp PR d) args lim h n) (Nat.beq f YID)) (Option.rec (motive := fun _ => Res) .no (fun fi => runF fi (evG cmp PR d) args lim h n) (PR.at (Nat.succ f))) (and (Nat.ble f 4294967294) (Nat.ble args.length 4294967294)) : Res).ge n
    refine ge_bool (ge_bool ge_no (evY_ge hM ..)) ?_
    cases PR.at (Nat.succ f) with
    | none => trivial
    | some fi =>
      obtain ⟨bar, drop, q, res⟩ := fi
      show (Bool.rec (runB false q res (evG cmp PR d) args lim h n) (Bool.rec .no (runB drop q res (evG cmp PR d) args n h n) (Nat.ble lim n)) bar : Res).ge n
      cases bar
      · exact ge_runB hM _ _ _ _ _ _ _
      · cases Nat.ble lim n
        · trivial
        · exact ge_runB hM _ _ _ _ _ _ _
theorem evY_args {cmp : Nat → Code → Option IC} {F : FF} {args : L} {lim : Nat} {h : Hp} {n : Nat} {v : V} {h' : Hp} {n' : Nat} (hr : evY cmp F args lim h n = .ok v h' n') {g : Sig} {vs : List Value} (ha : args.rel g vs) : False := by
  unfold evY at hr
  split at hr
  · rw [L.rel] at ha
    obtain ⟨u, us, _, h1, _⟩ := ha
    rw [V.rel] at h1
    exact h1.1 rfl
  · cases hr
theorem evG_sound {P : Program} (hP : P.follows .mixedOrders = true) {drs : List Nat} {l : List (Nat × FnI)} (hl : Listed P l) : ∀ d, FOK P (evG (fun N c => compC P drs N c) (FT.of l) d)
  | 0 => ⟨fun f args lim h n v h' n' hr => (by cases hr), fun p args lim h n v h' n' hr => (by cases hr)⟩
  | d + 1 => by
    have ih := evG_sound hP (drs := drs) hl d
    have hM := evG_mono (fun N c => compC P drs N c) (FT.of l) d
    refine ⟨fun f args lim h n v h' n' hr => ?_, fun p args lim h n v h' n' hr => by
      have hr : (Bool.rec (Bool.rec .no (evY (fun N c => compC P drs N c) (evG (fun N c => compC P drs N c) (FT.of l) d) (.cons yM (.cons (.yl p) args)) lim h n) (Nat.beq YID YID)) (Option.rec (motive := fun _ => Res) .no (fun fi => runF fi (evG (fun N c => compC P drs N c) (FT.of l) d) (.cons yM (.cons (.yl p) args)) lim h n) ((FT.of l).at (Nat.succ YID))) (and (Nat.ble YID 4294967294) (Nat.ble (L.cons yM (.cons (.yl p) args)).length 4294967294)) : Res) = .ok v h' n' := hr
      rw [show Nat.ble YID 4294967294 = false by decide, show Nat.beq YID YID = true by decide] at hr
      exact evY_sound hP ih hM hr⟩
    intro vs g w ha hgk m hd hf hn
    have hr : (Bool.rec (Bool.rec .no (evY (fun N c => compC P drs N c) (evG (fun N c => compC P drs N c) (FT.of l) d) args lim h n) (Nat.beq f YID)) (Option.rec (motive := fun _ => Res) .no (fun fi => runF fi (evG (fun N c => compC P drs N c) (FT.of l) d) args lim h n) ((FT.of l).at (Nat.succ f))) (and (Nat.ble f 4294967294) (Nat.ble args.length 4294967294)) : Res) = .ok v h' n' := hr
    cases hb : and (Nat.ble f 4294967294) (Nat.ble args.length 4294967294)
    · rw [hb] at hr
      cases hy : Nat.beq f YID
      · rw [hy] at hr; cases hr
      · rw [hy] at hr
        exact (evY_args hr ha).elim
    · rw [hb] at hr
      simp only [Bool.and_eq_true, Nat.ble_eq] at hb
      cases hat : (FT.of l).at (Nat.succ f) with
      | none => rw [hat] at hr; cases hr
      | some fi =>
        rw [hat] at hr
        have hr : runF fi (evG (fun N c => compC P drs N c) (FT.of l) d) args lim h n = .ok v h' n' := hr
        have hmem := FT.of_mem l (fun x hx => (hl x hx).1) f fi (by omega) hat
        obtain ⟨_, fn, dr, bar, drop, hfn, hcomp⟩ := hl _ hmem
        have hfn : P.funcs[f]? = some fn := hfn
        have hcomp : compF P dr bar drop fn = some fi := hcomp
        unfold compF at hcomp
        split at hcomp
        case h_2 => cases hcomp
        rename_i c hbody
        split at hcomp
        case h_2 => cases hcomp
        rename_i q res hq hres
        split at hcomp
        case isTrue => cases hcomp
        rename_i hname
        cases hcomp
        refine ⟨⟨fn, hfn, by simpa using hname, by rw [hbody]; rfl⟩, ?_⟩
        have hr : (Bool.rec (runB false q res (evG (fun N c => compC P drs N c) (FT.of l) d) args lim h n) (Bool.rec .no (runB drop q res (evG (fun N c => compC P drs N c) (FT.of l) d) args n h n) (Nat.ble lim n)) bar : Res) = .ok v h' n' := hr
        cases bar with
        | false => exact runB_sound hP ih hM hfn hbody hq hres false hr (fun h => by cases h) ha hgk (by omega) m hd hf hn
        | true =>
          cases hlim : Nat.ble lim n
          · rw [hlim] at hr; cases hr
          · rw [hlim] at hr
            rw [Nat.ble_eq] at hlim
            refine (runB_sound hP ih hM hfn hbody hq hres drop hr (fun _ => rfl) ha hgk (by omega) m hd hf hn).mono ?_
            rintro e w' ⟨u, g', h1, h2, h3, h4⟩
            exact ⟨u, g', h1, h2, h3, h4.weak hlim⟩
end Go.Proofs.Ythgaekbcmhbbgaa.Ev
/- Answers, by whatever does the calls. -/
namespace Go.Proofs.Ythgaekbcmhbbgaa.Ev
set_option linter.unusedVariables false
open Go Go.RowKit
/-- From the evaluator's answer to the call, in any world. -/
theorem ranF {P : Program} {F : FF} (hF : FOK P F) {f : Nat} {args : L} {v : V} {h' : Hp} {n' : Nat} (hr : F f args (gK + 1) .lf (gK + 1) = .ok v h' n') (hn : n' < 9223372036854775808) {vs : List Value} {u : Value}
    (ha : ∀ g, args.rel g vs) (hu : ∀ g x, v.rel g x → x = u) (w : World) : Calls P f ⟨vs⟩ w fun e w' => e = .returned u ∧ Below w.heap.size w w' := by
  have h0 : ∀ p, (Hp.get p .lf) = none := Hp.get_lf
  refine (hF.1 f args (gK + 1) .lf (gK + 1) v h' n' hr vs (g0 fun _ => 0) w (ha _) (g0_ok _) ⟨fun p q bp bq _ _ _ _ _ hp => ?_, fun p b hp => ?_⟩ (fun p b hp => ?_) (g0_fresh _ _) hn).2.mono ?_
  · have := (h0 _).symm.trans hp; cases this
  · have := (h0 _).symm.trans hp; cases this
  · have := (h0 _).symm.trans hp; cases this
  · rintro e w' ⟨x, g', rfl, hv, _, hfr⟩
    refine ⟨by rw [hu g' x hv], hfr.os, hfr.tape, hfr.output, hfr.size, fun k hk => hfr.keep k hk fun p b base tot hp => ?_⟩
    have := (h0 _).symm.trans hp; cases this

/-- The same, in a world that holds tables. -/
theorem ranTF {P : Program} {F : FF} (hF : FOK P F) (tabs : List (Nat × TypeId × L)) {f : Nat} {args : L} {v : V} {h' : Hp} {n' : Nat} (hr : F f args (gK + 1) (tabH tabs) (gK + 1) = .ok v h' n') (hn : n' < 9223372036854775808) {vs : List Value} {u : Value}
    (ha : ∀ g, args.rel g vs) (hu : ∀ g x, v.rel g x → x = u) (w : World) (hw : Holds w tabs) : Calls P f ⟨vs⟩ w fun e w' => e = .returned u ∧ Below w.heap.size w w' := by
  have num : ∀ k, k < gK → (tp k).num = k + 1 := fun k hk => num_posF 63 (k + 1) (by omega) (by unfold gK at hk; omega)
  have hg : ∀ k, k < gK → g0 (tabT tabs) (tp k) = some (k, 0, tabT tabs k) := fun k hk => by
    unfold g0; rw [num k hk, if_pos (by omega)]; simp
  refine (hF.1 f args (gK + 1) (tabH tabs) (gK + 1) v h' n' hr vs (g0 (tabT tabs)) w (ha _) (g0_ok _) ⟨fun p q bp bq r b1 t1 b2 t2 hp hq e1 e2 => ?_, fun p b hp => ?_⟩ (fun p b hp => ?_) (g0_fresh _ _) hn).2.mono ?_
  · obtain ⟨k, z, h1, rfl, _⟩ := tabH_get tabs hw p bp hp
    obtain ⟨k', z', h1', rfl, _⟩ := tabH_get tabs hw q bq hq
    rw [hg k h1] at e1
    rw [hg k' h1'] at e2
    cases e1; cases e2; rfl
  · obtain ⟨k, z, h1, rfl, h3, h4, h5, h6, vs, h7, h8⟩ := tabH_get tabs hw p b hp
    have hlen : vs.length = z.length := L.rel_length (h8 (fun _ => none))
    have hbs : b.size = z.length := by rw [h3]
    refine ⟨k, 0, tabT tabs k, ⟨vs⟩, hg k h1, .inl ⟨RowIs.of h7, Nat.zero_le _⟩, by rw [h4]; simpa using hlen, .inr (by rw [h4, hbs]; simp), by rw [hbs]; exact h6, fun j hj => ?_⟩
    obtain ⟨u, c1, c2, c3⟩ := cell_list (h8 (g0 (tabT tabs))) h5 b.el j (by rw [← hbs]; exact hj)
    refine ⟨u, by simpa using c1, c2, ?_⟩
    rw [h3]; exact c3
  · obtain ⟨k, z, h1, rfl, _⟩ := tabH_get tabs hw p b hp
    rw [num k h1]; omega
  · rintro e w' ⟨x, g', rfl, hv, _, hfr⟩
    refine ⟨by rw [hu g' x hv], hfr.os, hfr.tape, hfr.output, hfr.size, fun k hk => hfr.keep k hk fun p b base tot hp hl => ?_⟩
    obtain ⟨k', z, h1, rfl, _⟩ := tabH_get tabs hw p b hp
    rw [num k' h1] at hl; omega
theorem ranBF {P : Program} {F : FF} (hF : FOK P F) {f : Nat} {args : L} (hr : okR (F f args (gK + 1) .lf (gK + 1)) = true) {vs : List Value}
    (ha : ∀ g, args.rel g vs) (w : World) : Calls P f ⟨vs⟩ w fun e w' => e = .returned (.bool true) ∧ Below w.heap.size w w' := by
  obtain ⟨h', n', h1, h2⟩ := okR_ok hr
  exact ranF hF h1 h2 ha (fun g x hx => by simpa [V.rel] using hx) w
theorem ranTBF {P : Program} {F : FF} (hF : FOK P F) (tabs : List (Nat × TypeId × L)) {f : Nat} {args : L} (hr : okR (F f args (gK + 1) (tabH tabs) (gK + 1)) = true) {vs : List Value}
    (ha : ∀ g, args.rel g vs) (w : World) (hw : Holds w tabs) : Calls P f ⟨vs⟩ w fun e w' => e = .returned (.bool true) ∧ Below w.heap.size w w' := by
  obtain ⟨h', n', h1, h2⟩ := okR_ok hr
  exact ranTF hF tabs h1 h2 ha (fun g x hx => by simpa [V.rel] using hx) w hw

end Go.Proofs.Ythgaekbcmhbbgaa.Ev
