/- The texts EvR0, EvR, EvS, EvX, EvG2, EvG3, EvJq, EvSy. -/
import Derived.Test.YtagjnlnnecidnaaDoorQ4
import Derived.RangeFuncIn
import Derived.RangeFuncRecord
import Derived.Scope
import Derived.Below
import Derived.RangeFuncLeaves
import Derived.Lib.LaidTab
import Derived.LaidHandle
import Derived.LaidMore
import Derived.MakeChecks
import Derived.LoopN
/- Loops over functions in memory: made, changed, forgotten. -/
namespace Go.Proofs.YtagjnlnnecidnaaDoor.Ev
set_option linter.unusedVariables false
open Go
theorem loop_of {g : Sig} {h : Hm} {w : World} (m : Mem g h w) {p : Pos} {b : Blk} (hp : h p = some b) {r : Nat} (hg : g p = some (r, 1, 0)) (hm : b.m.get .h = .b true) {N : Nat} {ps : Array Nat} {x y : Code} {z : L} (hz : b.z = .cons (.lp N ps x y) z) :
    b.size = 0 ∧ ∃ rec, w.heap[r]? = some (.loop rec) ∧ loopRel g b rec := by
  obtain ⟨r', base, tot, cur, h1, h2, _⟩ := m.blk p b hp
  rw [hg] at h1
  cases h1
  have hn : b.m ≠ .lf := fun e => by rw [e] at hm; cases hm
  rcases h2 with h2 | ⟨_, _, h3, ⟨es, clock, h4, h5⟩ | ⟨rec, h4, h5⟩ | ⟨s, pos, h4, h5⟩⟩
  · have := h2.2; omega
  · have h6 := h5.resolve_left hn
    rw [hz] at h6
    have ht : ∀ v ∈ es.toList.map entV, ∀ q, v ≠ .pointer q := fun v hv q e => by
      obtain ⟨x, _, hx⟩ := List.mem_map.1 hv
      rw [← hx] at e; unfold entV at e; cases e
    generalize es.toList.map entV = zs at h6 ht
    rw [L.rel] at h6
    obtain ⟨u, us, hzs, h7, _⟩ := h6
    rw [V.rel] at h7
    obtain ⟨_, r', _, h8⟩ := h7
    exact absurd h8 (ht u (by rw [hzs]; exact List.mem_cons_self ..) _)
  · exact ⟨h3, rec, h4, h5.resolve_left hn⟩
  · obtain ⟨bs, h6, _⟩ := h5.resolve_left hn
    rw [hz] at h6; cases h6
theorem mem_setLoop {g : Sig} {h : Hm} {w : World} (m : Mem g h w) {p : Pos} {b : Blk} (hp : h p = some b) {r : Nat} (hg : g p = some (r, 1, 0)) {b' : Blk} (hs : b'.size = 0) {rec : Loop} (hr : loopRel g b' rec) :
    Mem g (hput h p (some b')) { w with heap := w.heap.setIfInBounds r (.loop rec) } where
  inj := by
    intro q q' bq bq' r' b1 t1 b2 t2 hq hq' e e'
    have : ∀ {q : Pos} {c : Blk}, hput h p (some b') q = some c → ∃ c', h q = some c' := by
      intro q c e
      unfold hput at e
      split at e
      · rename_i e'; subst e'; exact ⟨b, hp⟩
      · exact ⟨c, e⟩
    obtain ⟨c, hc⟩ := this hq
    obtain ⟨c', hc'⟩ := this hq'
    exact m.inj q q' c c' r' b1 t1 b2 t2 hc hc' e e'
  blk := by
    intro q c e
    unfold hput at e
    have hlt := m.lt hp hg
    by_cases hq : q = p
    · rw [if_pos hq] at e
      cases e
      subst hq
      exact ⟨r, 1, 0, #[], hg, .inr ⟨rfl, rfl, hs, .inr (.inl ⟨rec, by show (w.heap.setIfInBounds r _)[r]? = _; simp [hlt], .inr hr⟩)⟩, rfl, .inl hs, by rw [hs]; unfold maxSize; omega, fun k hk => by omega⟩
    · rw [if_neg hq] at e
      obtain ⟨r', base', tot', cur, h1, h2, h3, h4, h5, h6⟩ := m.blk q c e
      refine ⟨r', base', tot', cur, h1, ?_, h3, h4, h5, h6⟩
      refine h2.keep (heap_setObj w r r' _ ?_)
      intro he
      subst he
      exact hq (m.inj q p c b r' base' tot' 1 0 e hp h1 hg)
theorem gput_le' {g : Sig} {p : Pos} (x : Nat × Nat × Nat) (h0 : g p = none) : g.le (gput g p x) := gput_le _ h0
theorem mem_other {g : Sig} {h : Hm} {w : World} (m : Mem g h w) (o : Obj) : Mem g h (w.alloc o) := ⟨m.inj, fun p b hp => by
  obtain ⟨r, base, tot, cur, h1, h2, h3⟩ := m.blk p b hp
  exact ⟨r, base, tot, cur, h1, h2.keep (heap_alloc_keep w _ r (m.lt hp h1)), h3⟩⟩
theorem fr_other {lim n : Nat} {g : Sig} {h : Hm} {w : World} (hd : Dom h n) (o : Obj) : Fr lim n g h w n g h (w.alloc o) :=
  ⟨Nat.le_refl _, rfl, rfl, rfl, by simp, fun r hr _ => heap_alloc_keep w _ r hr, fun _ _ => rfl, fun p b e => ⟨fun _ => ⟨b, e⟩, hd p b e⟩, fun _ _ _ _ a b => by omega⟩
theorem mem_newLoop {g : Sig} {h : Hm} {w : World} (m : Mem g h w) {p : Pos} (h0 : g p = none) {b : Blk} (hs : b.size = 0) {rec : Loop} (hr : loopRel (gput g p (w.heap.size, 1, 0)) b rec) :
    Mem (gput g p (w.heap.size, 1, 0)) (hput h p (some b)) (w.alloc (.loop rec)) where
  inj := by
    intro q q' bq bq' r b1 t1 b2 t2 hq hq' e e'
    unfold hput at hq hq'
    unfold gput at e e'
    by_cases x : q = p <;> by_cases y : q' = p
    · rw [x, y]
    · rw [if_neg y] at hq' e'
      rw [if_pos x] at e
      cases e
      have := m.lt hq' e'
      omega
    · rw [if_neg x] at hq e
      rw [if_pos y] at e'
      cases e'
      have := m.lt hq e
      omega
    · rw [if_neg x] at hq e
      rw [if_neg y] at hq' e'
      exact m.inj q q' bq bq' r b1 t1 b2 t2 hq hq' e e'
  blk := by
    intro q c e
    unfold hput at e
    by_cases x : q = p
    · rw [if_pos x] at e
      cases e
      exact ⟨w.heap.size, 1, 0, #[], by simp [gput, x], .inr ⟨rfl, rfl, hs, .inr (.inl ⟨rec, heap_alloc_new w _, .inr hr⟩)⟩, rfl, .inl hs, by rw [hs]; unfold maxSize; omega, fun k hk => by omega⟩
    · rw [if_neg x] at e
      obtain ⟨r, base, tot, cur', h1, h2, h3, h4, h5, h6⟩ := m.blk q c e
      refine ⟨r, base, tot, cur', by simp [gput, x, h1], (h2.mono (gput_le _ h0)).keep (heap_alloc_keep w _ r (m.lt e h1)), h3, h4, h5, ?_⟩
      intro k hk
      obtain ⟨v, h1, h2, h3⟩ := h6 k hk
      exact ⟨v, h1, h2, V.rel_mono (gput_le _ h0) _ h3⟩
/-- A loop is left: its block is forgotten. -/
theorem mem_endLoop {g : Sig} {h : Hm} {w : World} (m : Mem g h w) {p : Pos} {b : Blk} (hp : h p = some b) {r : Nat} (hg : g p = some (r, 1, 0)) (o : Obj) :
    Mem g (hput h p none) (w.putObj r o) where
  inj := by
    intro q q' bq bq' r' b1 t1 b2 t2 hq hq' e e'
    unfold hput at hq hq'
    split at hq
    · cases hq
    · split at hq'
      · cases hq'
      · exact m.inj q q' bq bq' r' b1 t1 b2 t2 hq hq' e e'
  blk := by
    intro q c e
    unfold hput at e
    split at e
    · cases e
    · rename_i hq
      obtain ⟨r', base', tot', cur, h1, h2, h3⟩ := m.blk q c e
      refine ⟨r', base', tot', cur, h1, h2.keep (World.putObj_heap_other ?_), h3⟩
      intro he
      subst he
      exact hq (m.inj q p c b r' base' tot' 1 0 e hp h1 hg)
theorem fr_endLoop {lim n : Nat} {g : Sig} {h : Hm} {w : World} (hd : Dom h n) {p : Pos} {b : Blk} (hp : h p = some b) {r : Nat} (hg : g p = some (r, 1, 0)) (hl : lim ≤ p.num) (o : Obj) :
    Fr lim n g h w n g (hput h p none) (w.putObj r o) where
  le := Nat.le_refl _
  os := rfl
  tape := rfl
  output := rfl
  size := by simp
  keep := fun k hk hW => World.putObj_heap_other fun e => hW p b 1 0 hp hl (by rw [hg, e])
  sig := fun _ _ => rfl
  dom := fun q c e => by
    unfold hput at e
    split at e
    · cases e
    · exact ⟨fun _ => ⟨c, e⟩, hd q c e⟩
  new := fun _ _ _ _ a b => by omega
end Go.Proofs.YtagjnlnnecidnaaDoor.Ev
/- Code and functions. -/
namespace Go.Proofs.YtagjnlnnecidnaaDoor.Ev
set_option linter.unusedVariables false
open Go

inductive IC where
  | skip | ret | exit (id : Nat) | seq (a b : IC) | cond (x : X) (a b : IC) | block (id : Nat) (b : IC) | loop (b : IC) | reg (l : RL) | draw (l : DR) | rfn (x : X) (N : Nat) (ps : Array Nat) (ca cb : Code) | nope
inductive Rs where
  | no | nor (e : Tr) (h : Hp) (n : Nat) | ext (id : Nat) (e : Tr) (h : Hp) (n : Nat) | ret (e : Tr) (h : Hp) (n : Nat)

noncomputable def rgRs (r : Rg) : Rs := Rg.rec (motive := fun _ => Rs) .no (fun e h n => .nor e h n) r
noncomputable def evSeq (ra rb : FF → Nat → Tr → Hp → Nat → Rs) (F : FF) (lim : Nat) (e : Tr) (h : Hp) (n : Nat) : Rs :=
  Rs.rec (motive := fun _ => Rs) .no (fun e h n => rb F lim e h n) (fun id e h n => .ext id e h n) (fun e h n => .ret e h n) (ra F lim e h n)
noncomputable def evCond (x : X) (ra rb : FF → Nat → Tr → Hp → Nat → Rs) (F : FF) (lim : Nat) (e : Tr) (h : Hp) (n : Nat) : Rs :=
  onB (evX x e) (fun t => Bool.rec (rb F lim e h n) (ra F lim e h n) t) .no
noncomputable def evBlock (id : Nat) (rb : FF → Nat → Tr → Hp → Nat → Rs) (F : FF) (lim : Nat) (e : Tr) (h : Hp) (n : Nat) : Rs :=
  Rs.rec (motive := fun _ => Rs) .no (fun e h n => .nor e h n) (fun i e h n => Bool.rec (.ext i e h n) (.nor e h n) (Nat.beq i id)) (fun e h n => .ret e h n) (rb F lim e h n)
noncomputable def rep (r : Tr → Hp → Nat → Rs) (k : Nat) : Tr → Hp → Nat → Rs :=
  Nat.rec (motive := fun _ => Tr → Hp → Nat → Rs) r (fun _ ih e h n => Rs.rec (motive := fun _ => Rs) .no (fun e h n => ih e h n) (fun id e h n => .ext id e h n) (fun e h n => .ret e h n) (ih e h n)) k
noncomputable def evLoop (rb : FF → Nat → Tr → Hp → Nat → Rs) (F : FF) (lim : Nat) (e : Tr) (h : Hp) (n : Nat) : Rs :=
  Rs.rec (motive := fun _ => Rs) .no (fun _ _ _ => .no) (fun id e h n => .ext id e h n) (fun e h n => .ret e h n) (rep (rb F lim) 20 e h n)
/-- Behind a loop over a function: its block is forgotten; how it was left is what comes next. -/
noncomputable def endRfn (p : Pos) (e : Tr) (r : Res) : Rs := match r with
  | .ok _ h n => (match h.get p with
    | some b => (match b.z with
      | .cons (.lp ..) _ => onB (b.m.get .h) (fun t => Bool.rec .no (h.putK none p fun h' => match b.pr with
          | 0 => .nor e h' n
          | 1 => .ret e h' n
          | 2 => .no
          | k + 3 => .ext k e h' n) t) .no
      | _ => .no)
    | none => .no)
  | .no => .no
noncomputable def evRfn (x : X) (N : Nat) (ps : Array Nat) (ca cb : Code) (F : FF) (lim : Nat) (e : Tr) (h : Hp) (n : Nat) : Rs :=
  onF (evX x e) (fun k a c => Bool.rec .no (posK 63 n fun p => fN (Nat.succ n) fun n' => h.putK (some ⟨0, 0, 0, .cons (.lp N ps ca cb) (.cons (e.get .h) .nil), (e.toB N).set (.b true) .h⟩) p fun h1 => endRfn p e (F k (a.app (.cons (.yl p) c)) lim h1 n')) (and (Nat.ble 1 n) (Nat.ble lim n))) .no
noncomputable def evC : IC → FF → Nat → Tr → Hp → Nat → Rs :=
  IC.rec (motive := fun _ => FF → Nat → Tr → Hp → Nat → Rs) (fun _ _ e h n => .nor e h n) (fun _ _ e h n => .ret e h n) (fun id _ _ e h n => .ext id e h n)
    (fun _ _ ra rb => evSeq ra rb) (fun x _ _ ra rb => evCond x ra rb) (fun id _ rb => evBlock id rb) (fun _ rb => evLoop rb) (fun l F lim e h n => rgRs (evR l F lim e h n)) (fun l F lim e h n => rgRs (evDr l F lim e h n)) (fun x N ps ca cb F lim e h n => evRfn x N ps ca cb F lim e h n) (fun _ _ _ _ _ => .no)
/-- No loop over a function. -/
noncomputable def IC.noR : IC → Bool :=
  IC.rec (motive := fun _ => Bool) true true (fun _ => true) (fun _ _ a b => and a b) (fun _ _ _ a b => and a b) (fun _ _ a => a) (fun _ a => a) (fun _ => true) (fun _ => true) (fun _ _ _ _ _ => false) true

def Rs.ge (n : Nat) : Rs → Prop
  | .no => True
  | .nor _ _ k | .ext _ _ _ k | .ret _ _ k => n ≤ k
theorem Rs.ge_mono {n m : Nat} (h : n ≤ m) : ∀ {r : Rs}, r.ge m → r.ge n
  | .no, _ => trivial
  | .nor .., e => Nat.le_trans h e
  | .ext .., e => Nat.le_trans h e
  | .ret .., e => Nat.le_trans h e
theorem ge_endRfn {m : Nat} (p : Pos) (e : Tr) : ∀ {r : Res}, r.ge m → (endRfn p e r).ge m
  | .no, _ => trivial
  | .ok _ h n, hr => by
    unfold endRfn
    dsimp only
    split
    · rename_i b _
      split
      · cases b.m.get .h <;> dsimp only [onB, V.asB] <;> try trivial
        rename_i t
        cases t
        · trivial
        · show Rs.ge m (h.putK none p fun h' => match b.pr with
            | 0 => Rs.nor e h' n
            | 1 => .ret e h' n
            | 2 => .no
            | k + 3 => .ext k e h' n)
          rw [Hp.putK_eq]
          split <;> first | exact hr | trivial
      · trivial
    · trivial
theorem ge_rgRs {n : Nat} {r : Rg} (h : r.ge n) : (rgRs r).ge n := by cases r <;> exact h
theorem ge_rep {r : Tr → Hp → Nat → Rs} (hr : ∀ e h n, (r e h n).ge n) : ∀ (k : Nat) (e : Tr) (h : Hp) (n : Nat), (rep r k e h n).ge n
  | 0, e, h, n => hr e h n
  | k + 1, e, h, n => by
    have h1 := ge_rep hr k e h n
    show (Rs.rec (motive := fun _ => Rs) .no (fun e h n => rep r k e h n) (fun id e h n => .ext id e h n) (fun e h n => .ret e h n) (rep r k e h n)).ge n
    cases he : rep r k e h n with
    | no => trivial
    | nor e1 h2 n1 => rw [he] at h1; exact Rs.ge_mono h1 (ge_rep hr k e1 h2 n1)
    | ext => rw [he] at h1; exact h1
    | ret => rw [he] at h1; exact h1
theorem evC_ge {F : FF} (hF : F.mono) : ∀ (c : IC) (lim : Nat) (e : Tr) (h : Hp) (n : Nat), (evC c F lim e h n).ge n
  | .skip, _, _, _, n => Nat.le_refl n
  | .ret, _, _, _, n => Nat.le_refl n
  | .exit _, _, _, _, n => Nat.le_refl n
  | .seq a b, lim, e, h, n => by
    have h1 := evC_ge hF a lim e h n
    show (evSeq (evC a) (evC b) F lim e h n).ge n
    unfold evSeq
    cases he : evC a F lim e h n with
    | no => trivial
    | nor e1 h2 n1 => rw [he] at h1; exact Rs.ge_mono h1 (evC_ge hF b lim e1 h2 n1)
    | ext => rw [he] at h1; exact h1
    | ret => rw [he] at h1; exact h1
  | .cond x a b, lim, e, h, n => by
    show (evCond x (evC a) (evC b) F lim e h n).ge n
    unfold evCond
    cases evX x e
    case b t => cases t <;> exact evC_ge hF _ lim e h n
    all_goals trivial
  | .block id b, lim, e, h, n => by
    have h1 := evC_ge hF b lim e h n
    show (evBlock id (evC b) F lim e h n).ge n
    unfold evBlock
    cases he : evC b F lim e h n with
    | no => trivial
    | nor => rw [he] at h1; exact h1
    | ext i e1 h2 n1 =>
      rw [he] at h1
      show (Bool.rec (.ext i e1 h2 n1) (.nor e1 h2 n1) (Nat.beq i id) : Rs).ge n
      cases Nat.beq i id <;> exact h1
    | ret => rw [he] at h1; exact h1
  | .loop b, lim, e, h, n => by
    have h1 := ge_rep (fun e h n => evC_ge hF b lim e h n) 20 e h n
    show (evLoop (evC b) F lim e h n).ge n
    unfold evLoop
    cases he : rep (evC b F lim) 20 e h n with
    | no => trivial
    | nor => trivial
    | ext => rw [he] at h1; exact h1
    | ret => rw [he] at h1; exact h1
  | .nope, _, _, _, _ => trivial
  | .rfn x N ps ca cb, lim, e, h, n => by
    show (evRfn x N ps ca cb F lim e h n).ge n
    unfold evRfn
    cases evX x e <;> dsimp only [onF, V.asF] <;> try trivial
    rename_i k a c
    cases and (Nat.ble 1 n) (Nat.ble lim n)
    · trivial
    · show Rs.ge n (posK 63 n fun p => fN (Nat.succ n) fun n' => h.putK (some ⟨0, 0, 0, .cons (.lp N ps ca cb) (.cons (e.get .h) .nil), (e.toB N).set (.b true) .h⟩) p fun h1 => endRfn p e (F k (a.app (.cons (.yl p) c)) lim h1 n'))
      rw [posK_eq, fN_eq, Hp.putK_eq]
      exact ge_endRfn _ _ (Res.ge_mono (Nat.le_succ n) (hF _ _ _ _ _))
  | .reg l, lim, e, h, n => ge_rgRs (evR_ge hF l lim e h n)
  | .draw l, lim, e, h, n => ge_rgRs (evDr_ge hF l lim e h n)

/-! From code to code. -/
def compC (P : Program) (dr : List Nat) (N : Nat) : Code → Option IC
  | .skip => some .skip
  | .ret => some .ret
  | .exit id => some (.exit id)
  | .seq a b => match compC P dr N a, compC P dr N b with
    | some a, some b => some (.seq a b)
    | _, _ => none
  | .cond x a b => match compX x, compC P dr N a, compC P dr N b with
    | some x, some a, some b => some (.cond x a b)
    | _, _, _ => none
  | .block id b => (compC P dr N b).map (.block id)
  | .loop b => (compC P dr N b).map .loop
  | .region _ ops false => match compR P N ops ops.toList with
    | some r => some (.reg r)
    | none => some .nope
  | .region _ ops true => match compDr P N dr ops with
    | some r => some (.draw r)
    | none => some .nope
  | .scope b => compC P dr N b
  | .label _ => some .skip
  | .rangeFunc o ps x y => match compX o with
    | some z => some (.rfn z N ps x y)
    | none => some .nope
  | _ => some .nope

/-- What a piece of code leaves. -/
def Post (N lim : Nat) (g : Sig) (h : Hp) (w : World) (n : Nat) (a : Act) : Rs → Exit → Act → World → Prop
  | .no, _, _, _ => False
  | .nor e' h' n', ex, a', w' => ex = .normal ∧ MkK w a w' a' ∧ ∃ g', EnvA N g' e' a' ∧ Mem g' h'.get w' ∧ Fr lim n g h.get w n' g' h'.get w'
  | .ext id e' h' n', ex, a', w' => ex = .exit id ∧ MkK w a w' a' ∧ ∃ g', EnvA N g' e' a' ∧ Mem g' h'.get w' ∧ Fr lim n g h.get w n' g' h'.get w'
  | .ret e' h' n', ex, a', w' => ex = .ret ∧ MkK w a w' a' ∧ ∃ g', EnvA N g' e' a' ∧ Mem g' h'.get w' ∧ Fr lim n g h.get w n' g' h'.get w'
def Rs.top : Rs → Nat
  | .no => 0
  | .nor _ _ k | .ext _ _ _ k | .ret _ _ k => k
theorem Post.trans {N lim : Nat} {g g1 : Sig} {h h1 : Hp} {w w1 : World} {n n1 : Nat} {a a1 : Act} (k : MkK w a w1 a1) (f : Fr lim n g h.get w n1 g1 h1.get w1) : ∀ {r : Rs} {ex : Exit} {a' : Act} {w' : World}, Post N lim g1 h1 w1 n1 a1 r ex a' w' → Post N lim g h w n a r ex a' w'
  | .nor .., _, _, _, ⟨x, k', g', y, z, f'⟩ => ⟨x, k.trans k', g', y, z, f.trans f'⟩
  | .ext .., _, _, _, ⟨x, k', g', y, z, f'⟩ => ⟨x, k.trans k', g', y, z, f.trans f'⟩
  | .ret .., _, _, _, ⟨x, k', g', y, z, f'⟩ => ⟨x, k.trans k', g', y, z, f.trans f'⟩

theorem stepR_scope {P : Program} {b : Frame} {a : Act} {k : List Item} {cs : List Frame} {w : World} {c : Code} :
    step P (lone (b.atR a (.code (.scope c) :: k)) cs w) = .next (lone (b.atR a (.code c :: .inScope c :: k)) cs w) :=
  step_lone_go (by simp [stepG, stepG.exec, Frame.atR])
theorem stepR_inScope {P : Program} {b : Frame} {a : Act} {k : List Item} {cs : List Frame} {w : World} {c : Code} :
    step P (lone (b.atR a (.inScope c :: k)) cs w) = .next (lone (b.atR a k) cs w) :=
  step_lone_go (by simp [stepG, stepG.exec, Frame.atR])
theorem wpIn_scope_straight {F : Fence} {n : Nat} {P : Program} {Q : Exit → Act → World → Prop} {a : Act} {w : World} {c : Code} (h : c.wpIn F n P (Exit.noGoto Q) a w) : (Code.scope c).wpIn F n P Q a w := by
  intro b k cs hro hb hr
  have h0 : (lone (b.atR a (.code (.scope c) :: k)) cs w).fenced P F := fenced_calm hb hr rfl
  obtain ⟨e, a₁, w₁, hq, harr⟩ := h b (.inScope c :: k) cs hro hb hr
  cases e with
  | normal => exact ⟨.normal, a₁, w₁, hq, .head h0 stepR_scope (StepsIn.trans harr (.one (fenced_calm hb hr rfl) stepR_inScope))⟩
  | exit id => exact ⟨.exit id, a₁, w₁, hq, fun k' hk => .head h0 stepR_scope (harr.1 k' (by simp [exitTo, hk])), fun hr1 hk => let ⟨k₁, h1, h2⟩ := harr.2 hr1 (by simp [exitTo, hk]); ⟨k₁, h1, .head h0 stepR_scope h2⟩⟩
  | goto l => exact hq.elim
  | ret => exact ⟨_, a₁, w₁, hq, .of_steps (.one h0 stepR_scope) harr⟩
  | panic ch => exact ⟨_, a₁, w₁, hq, .of_steps (.one h0 stepR_scope) harr⟩
  | outgrown => exact ⟨_, a₁, w₁, hq, .of_steps (.one h0 stepR_scope) harr⟩

def Sound (P : Program) (F : FF) (N : Nat) (c : Code) (q : IC) : Prop :=
  ∀ lim e h n r, evC q F lim e h n = r → r ≠ .no → ∀ (a : Act) g w, EnvA N g e a → Mem g h.get w → Dom h.get n → Fresh g n r.top → r.top < 9223372036854775808 → ∀ ro : Option Nat, (ro = none ∨ q.noR = true) → c.wpIn (fw ro) 0 P (Post N lim g h w n a r) a w

theorem endRfn_inv {p : Pos} {e : Tr} {v : V} {h : Hp} {n : Nat} {r : Rs} (hr : endRfn p e (.ok v h n) = r) (hne : r ≠ .no) :
    ∃ b N ps x y z, h.get p = some b ∧ b.z = .cons (.lp N ps x y) z ∧ b.m.get .h = .b true ∧
      ((b.pr = 0 ∧ r = .nor e (h.put none p) n) ∨ (b.pr = 1 ∧ r = .ret e (h.put none p) n) ∨ ∃ k, b.pr = k + 3 ∧ r = .ext k e (h.put none p) n) := by
  unfold endRfn at hr
  dsimp only at hr
  split at hr
  case h_2 => exact absurd hr.symm hne
  rename_i b hb
  split at hr
  case h_2 => exact absurd hr.symm hne
  rename_i N ps x y z hz
  cases hm : b.m.get .h <;> rw [hm] at hr <;> dsimp only [onB, V.asB] at hr <;> try exact absurd hr.symm hne
  rename_i t
  cases t with
  | false => exact absurd hr.symm hne
  | true =>
    have hr : (h.putK none p fun h' => match b.pr with
          | 0 => Rs.nor e h' n
          | 1 => .ret e h' n
          | 2 => .no
          | k + 3 => .ext k e h' n) = r := hr
    rw [Hp.putK_eq] at hr
    refine ⟨b, N, ps, x, y, z, hb, hz, hm, ?_⟩
    split at hr
    · rename_i h1; exact .inl ⟨h1, hr.symm⟩
    · rename_i h1; exact .inr (.inl ⟨h1, hr.symm⟩)
    · exact absurd hr.symm hne
    · rename_i k h1; exact .inr (.inr ⟨k, h1, hr.symm⟩)
theorem rfn_sound {P : Program} {F : FF} (hF : FOK P F) (hM : F.mono) {N : Nat} {o : Operand} {ps : Array Nat} {ca cb : Code} {x : X} (hx : compX o = some x) {lim : Nat} {e : Tr} {h : Hp} {n : Nat} {r : Rs} (hr : evRfn x N ps ca cb F lim e h n = r) (hne : r ≠ .no)
    {a : Act} {g : Sig} {w : World} (he : EnvA N g e a) (m : Mem g h.get w) (hd : Dom h.get n) (hf : Fresh g n r.top) (hn : r.top < 9223372036854775808) : (Code.rangeFunc o ps ca cb).wpIn (fw none) 0 P (Post N lim g h w n a r) a w := by
  have rx := he.ok o x hx
  unfold evRfn at hr
  cases hxv : evX x e <;> rw [hxv] at hr rx <;> dsimp only [onF, V.asF] at hr <;> try exact absurd hr.symm hne
  rename_i k la lc
  rw [V.rel] at rx
  obtain ⟨va, vc, hv, ra, rc⟩ := rx
  cases hb : and (Nat.ble 1 n) (Nat.ble lim n) with
  | false => rw [hb] at hr; exact absurd hr.symm hne
  | true =>
    rw [hb] at hr
    rw [Bool.and_eq_true, Nat.ble_eq, Nat.ble_eq] at hb
    obtain ⟨h1n, hln⟩ := hb
    have hr : posK 63 n (fun p => fN (Nat.succ n) fun n' => h.putK (some ⟨0, 0, 0, .cons (.lp N ps ca cb) (.cons (e.get .h) .nil), (e.toB N).set (.b true) .h⟩) p fun h1 => endRfn p e (F k (la.app (.cons (.yl p) lc)) lim h1 n')) = r := hr
    rw [posK_eq, fN_eq, Hp.putK_eq] at hr
    obtain ⟨p, hp⟩ : ∃ p, p = posF 63 n := ⟨_, rfl⟩
    rw [← hp] at hr
    obtain ⟨B, hB⟩ : ∃ B : Blk, B = ⟨0, 0, 0, .cons (.lp N ps ca cb) (.cons (e.get .h) .nil), (e.toB N).set (.b true) .h⟩ := ⟨_, rfl⟩
    rw [← hB] at hr
    have hge := hM k (la.app (.cons (.yl p) lc)) lim (h.put (some B) p) (Nat.succ n)
    cases hcall : F k (la.app (.cons (.yl p) lc)) lim (h.put (some B) p) (Nat.succ n) with
    | no => rw [hcall] at hr; exact absurd hr.symm hne
    | ok v h2 n2 =>
      rw [hcall] at hr hge
      have hge : n + 1 ≤ n2 := hge
      obtain ⟨b, N', ps', x', y', z', hb2, hz2, hm2, hgo⟩ := endRfn_inv hr hne
      have htop : r.top = n2 := by rcases hgo with ⟨_, e1⟩ | ⟨_, e1⟩ | ⟨_, _, e1⟩ <;> rw [e1] <;> rfl
      rw [htop] at hf hn
      have hnum : p.num = n := by rw [hp]; exact num_posF 63 n h1n (by omega)
      have h0 : g p = none := hf p (by omega) (by omega)
      refine wpIn_rangeFunc fun fn _ => ?_
      obtain ⟨w1, hw1⟩ : ∃ w1, w1 = w.alloc (.deferred (some [])) := ⟨_, rfl⟩
      have hsz : w1.heap.size = w.heap.size + 1 := by rw [hw1]; simp
      obtain ⟨rec, hrec⟩ : ∃ rec : Loop, rec = { state := .ready, pending := none, fn, tmps := a.tmps, params := ps, assign := ca, body := cb, defers := w.heap.size } := ⟨_, rfl⟩
      obtain ⟨W1, hW1⟩ : ∃ W1, W1 = w1.alloc (.loop rec) := ⟨_, rfl⟩
      obtain ⟨G1, hG1⟩ : ∃ G1, G1 = gput g p (w1.heap.size, 1, 0) := ⟨_, rfl⟩
      have hgl : g.le G1 := by rw [hG1]; exact gput_le _ h0
      have hyl : G1 p = some (w1.heap.size, 1, 0) := by rw [hG1]; simp [gput]
      have hL : loopRel G1 B rec := by
        rw [hB, hrec]
        refine ⟨N, ps, ca, cb, e.get .h, rfl, rfl, rfl, rfl, he.sz, ?_, V.rel_mono hgl _ (he.rel 0 (by omega)), fun t ht ht0 => ?_, rfl, rfl⟩
        · show ((e.toB N).set (.b true) .h).get .h = _
          rw [Tb.get_set, if_pos rfl]
        · show V.rel G1 (((e.toB N).set (.b true) .h).get (tp t)) _
          rw [Tb.get_set, if_neg (fun e1 => by have := tp_inj (u := 0) ht (by omega) (e1.trans rfl); omega)]
          rcases toB_get e (tp t) N with e1 | e1
          · rw [e1]; trivial
          · rw [e1]; exact V.rel_mono hgl _ (he.rel t ht)
      have m1 : Mem g h.get w1 := by rw [hw1]; exact mem_other m _
      have mW : Mem G1 (h.put (some B) p).get W1 := by rw [Hp.put_get, hW1, hG1]; exact mem_newLoop m1 h0 (by rw [hB]) (hG1 ▸ hL)
      have f1 : Fr lim n g h.get w n g h.get w1 := by rw [hw1]; exact fr_other hd _
      have fW : Fr lim n g h.get w (n + 1) G1 (h.put (some B) p).get W1 := by rw [Hp.put_get, hW1, hG1]; exact f1.trans (Fr.ofAlloc hd hnum _ _ _ _)
      have hD1 : w1.heap[w.heap.size]? = some (.deferred (some [])) := by rw [hw1]; exact World.alloc_heap_new w _
      have hDW : W1.heap[w.heap.size]? = some (.deferred (some [])) := by rw [hW1, heap_alloc_keep _ _ _ (by omega)]; exact hD1
      have hargs : (la.app (.cons (.yl p) lc)).rel G1 (va ++ (Value.func (.yield w1.heap.size) #[] #[] :: vc)) := by
        refine L.rel_app (L.rel_mono hgl _ ra) ?_
        exact ⟨_, _, rfl, ⟨_, hyl, rfl⟩, L.rel_mono hgl _ rc⟩
      obtain ⟨⟨fnc, hf1, hf2, hf3⟩, hcalls⟩ := hF.1 _ _ _ _ _ _ _ _ hcall _ G1 W1 hargs (he.glo.mono hgl) mW fW.dom' (fW.fresh hf) hn
      have hf3' : fnc.body.isNone = false := by cases hb : fnc.body <;> simp_all
      refine ⟨w1.heap.size, [{ target := .collected w.heap.size, args := #[] }], W1, { target := .fn (.func k) ⟨vc⟩, args := ⟨va⟩ ++ #[.func (.yield w1.heap.size) #[] #[]] }, W1, k,
        ⟨va ++ (Value.func (.yield w1.heap.size) #[] #[] :: vc)⟩, W1, ?_, ?_, fun _ _ => trivial, ?_, fw_depth none 0, callsIn_fw (hcalls.mono ?_)⟩
      · rw [hsz, hW1, hw1, hrec]
        exact run_enterLoop_outer (P := P) (w := w) fn a.tmps ps ca cb
      · have hc : a.eval (.const (.func (.yield w1.heap.size) #[] #[])) = .func (.yield w1.heap.size) #[] #[] := rfl
        simp [resolve, hv, hc, Deferred.ofValue]
      · simp at hf2
        simp [invoke, callFunc, hf1, hf2]
        intro hb
        rw [hb] at hf3; simp at hf3
      · rintro e' w' ⟨u, g', rfl, hu, m', f'⟩
        have hgp : g' p = some (w1.heap.size, 1, 0) := by rw [f'.sig p (.inl (by omega))]; exact hyl
        obtain ⟨_, rec', hr1, hr2⟩ := loop_of m' hb2 hgp hm2 hz2
        have hst : loopSt b.pr rec' := by obtain ⟨_, _, _, _, _, _, _, _, _, _, _, _, _, hst⟩ := hr2; exact hst
        have hbusy : rec'.state ≠ .busy := by
          rcases hgo with ⟨e1, _⟩ | ⟨e1, _⟩ | ⟨_, e1, _⟩ <;> rw [e1] at hst <;> (have := hst.1; rw [this]; simp)
        obtain ⟨w4, hw4⟩ : ∃ w4, w4 = w'.putObj w1.heap.size (.loop { rec' with state := .exhausted }) := ⟨_, rfl⟩
        have m4 : Mem g' (h2.put none p).get w4 := by rw [Hp.put_get, hw4]; exact mem_endLoop m' hb2 hgp _
        have f4 : Fr lim n g h.get w n2 g' (h2.put none p).get w4 := by
          rw [Hp.put_get, hw4]
          exact (fW.trans f').trans (fr_endLoop f'.dom' hb2 hgp (by omega) _)
        have hD4 : w4.heap[w.heap.size]? = some (.deferred (some [])) := by
          rw [hw4, World.putObj_heap_other (by omega), f'.keep _ (Array.getElem?_eq_some_iff.1 hDW).1 ?_]
          · exact hDW
          · intro q c base tot hq _ hgq
            obtain ⟨r', base', tot', cur, c1, c2, _⟩ := mW.blk q c hq
            rw [hgq] at c1
            cases c1
            exact c2.notDef _ hDW
        have hE : EnvA N g' e { a with defers := [{ target := .collected w.heap.size, args := #[] }] ++ a.defers } := by
          have hgl' := f4.gle hf
          exact ⟨he.sz, he.glo.mono hgl', fun t ht => V.rel_mono hgl' _ (he.rel t ht)⟩
        have hK : MkK w a w4 { a with defers := [{ target := .collected w.heap.size, args := #[] }] ++ a.defers } := by
          refine ⟨f4.size, fun s hs hk => ?_⟩
          have hk2 := (mk_keep (a' := a) m f4 rfl).2 s hs hk
          refine ⟨?_, fun d hdm => ?_⟩
          · show (_ :: a.defers).Nodup
            rw [List.nodup_cons]
            refine ⟨fun hin => ?_, hk.1⟩
            obtain ⟨r', k1, k2, k3⟩ := hk.2 _ hin
            have hlt := (Array.getElem?_eq_some_iff.1 k3).1
            cases k2
            omega
          · rcases List.mem_cons.1 (show d ∈ _ :: a.defers from hdm) with rfl | hdm
            · exact ⟨_, hs, rfl, hD4⟩
            · exact hk2.2 d hdm
        refine ⟨rec'.pending, w4, ?_, ?_⟩
        · rw [hw4]; exact run_endLoop hr1 hbusy
        · rcases hgo with ⟨e1, e2⟩ | ⟨e1, e2⟩ | ⟨kk, e1, e2⟩
          · rw [e1] at hst
            rw [hst.2, e2]
            exact ⟨rfl, hK, g', hE, m4, f4⟩
          · rw [e1] at hst
            rw [hst.2, e2]
            exact wpIn_ret ⟨rfl, hK, g', hE, m4, f4⟩
          · rw [e1] at hst
            rw [hst.2, e2]
            exact wpIn_exit ⟨rfl, hK, g', hE, m4, f4⟩

theorem noR_l {a b : Bool} (h : and a b = true) : a = true := by rw [Bool.and_eq_true] at h; exact h.1
theorem noR_r {a b : Bool} (h : and a b = true) : b = true := by rw [Bool.and_eq_true] at h; exact h.2
theorem evC_sound {P : Program} (hP : P.follows .mixedOrders = true) {F : FF} (hF : FOK P F) (hM : F.mono) {dr : List Nat} {N : Nat} : ∀ (c : Code) (q : IC), compC P dr N c = some q → Sound P F N c q
  | .skip, q, hc => by
    simp only [compC, Option.some.injEq] at hc; subst hc
    intro lim e h n r hr hne a g w he m hd hf hn ro hro
    subst hr
    exact wpIn_skip ⟨rfl, MkK.refl, g, he, m, Fr.refl hd⟩
  | .ret, q, hc => by
    simp only [compC, Option.some.injEq] at hc; subst hc
    intro lim e h n r hr hne a g w he m hd hf hn ro hro
    subst hr
    exact wpIn_ret ⟨rfl, MkK.refl, g, he, m, Fr.refl hd⟩
  | .exit id, q, hc => by
    simp only [compC, Option.some.injEq] at hc; subst hc
    intro lim e h n r hr hne a g w he m hd hf hn ro hro
    subst hr
    exact wpIn_exit ⟨rfl, MkK.refl, g, he, m, Fr.refl hd⟩
  | .seq a b, q, hc => by
    simp only [compC] at hc
    split at hc
    case h_2 => cases hc
    rename_i qa qb h1 h2
    cases hc
    intro lim e h n r hr hne ac g w he m hd hf hn ro hro
    have hr : evSeq (evC qa) (evC qb) F lim e h n = r := hr
    unfold evSeq at hr
    refine wpIn_seq ?_
    cases hx : evC qa F lim e h n with
    | no => rw [hx] at hr; exact absurd hr.symm hne
    | nor e1 h1' n1 =>
      rw [hx] at hr
      have hr : evC qb F lim e1 h1' n1 = r := hr
      have hg1 : n ≤ n1 := by have := evC_ge hM qa lim e h n; rw [hx] at this; exact this
      have hg2 : n1 ≤ r.top := by
        have := evC_ge hM qb lim e1 h1' n1; rw [hr] at this
        cases r <;> first | exact absurd rfl hne | exact this
      refine wpIn_mono (evC_sound hP hF hM a qa h1 lim e h n _ hx (by simp) ac g w he m hd (hf.sub (Nat.le_refl _) hg2) (Nat.lt_of_le_of_lt hg2 hn) ro (hro.imp (fun x => x) noR_l)) ?_
      rintro ex a' w' ⟨rfl, k1, g1, he1, m1, f1⟩
      exact wpIn_mono (evC_sound hP hF hM b qb h2 lim e1 h1' n1 r hr hne a' g1 w' he1 m1 f1.dom' (f1.fresh hf) hn ro (hro.imp (fun x => x) noR_r)) fun _ _ _ hp => Post.trans k1 f1 hp
    | ext id e1 h1' n1 =>
      rw [hx] at hr
      have hr : Rs.ext id e1 h1' n1 = r := hr
      subst hr
      refine wpIn_mono (evC_sound hP hF hM a qa h1 lim e h n _ hx (by simp) ac g w he m hd hf hn ro (hro.imp (fun x => x) noR_l)) ?_
      rintro ex a' w' ⟨rfl, hp⟩
      exact ⟨rfl, hp⟩
    | ret e1 h1' n1 =>
      rw [hx] at hr
      have hr : Rs.ret e1 h1' n1 = r := hr
      subst hr
      refine wpIn_mono (evC_sound hP hF hM a qa h1 lim e h n _ hx (by simp) ac g w he m hd hf hn ro (hro.imp (fun x => x) noR_l)) ?_
      rintro ex a' w' ⟨rfl, hp⟩
      exact ⟨rfl, hp⟩
  | .cond x a b, q, hc => by
    simp only [compC] at hc
    split at hc
    case h_2 => cases hc
    rename_i x' qa qb hx h1 h2
    cases hc
    intro lim e h n r hr hne ac g w he m hd hf hn ro hro
    have hr : evCond x' (evC qa) (evC qb) F lim e h n = r := hr
    unfold evCond at hr
    have rx := he.ok x x' hx
    cases hxv : evX x' e <;> rw [hxv] at hr rx <;> dsimp only [onB, V.asB] at hr
    case b t =>
      rw [V.rel] at rx
      cases t
      · exact wpIn_cond_false rx (evC_sound hP hF hM b qb h2 lim e h n r hr hne ac g w he m hd hf hn ro (hro.imp (fun x => x) noR_r))
      · exact wpIn_cond_true rx (evC_sound hP hF hM a qa h1 lim e h n r hr hne ac g w he m hd hf hn ro (hro.imp (fun x => x) noR_l))
    all_goals exact absurd hr.symm hne
  | .block id b, q, hc => by
    simp only [compC, Option.map_eq_some_iff] at hc
    obtain ⟨qb, h1, rfl⟩ := hc
    intro lim e h n r hr hne ac g w he m hd hf hn ro hro
    have hr : evBlock id (evC qb) F lim e h n = r := hr
    unfold evBlock at hr
    refine wpIn_block ?_
    cases hx : evC qb F lim e h n with
    | no => rw [hx] at hr; exact absurd hr.symm hne
    | nor e1 h1' n1 =>
      rw [hx] at hr
      have hr : Rs.nor e1 h1' n1 = r := hr
      subst hr
      refine wpIn_mono (evC_sound hP hF hM b qb h1 lim e h n _ hx (by simp) ac g w he m hd hf hn ro hro) ?_
      rintro ex a' w' ⟨rfl, hp⟩
      exact ⟨rfl, hp⟩
    | ext i e1 h1' n1 =>
      rw [hx] at hr
      have hr : (Bool.rec (.ext i e1 h1' n1) (.nor e1 h1' n1) (Nat.beq i id) : Rs) = r := hr
      cases hb : Nat.beq i id
      · rw [hb] at hr
        have hr : Rs.ext i e1 h1' n1 = r := hr
        subst hr
        refine wpIn_mono (evC_sound hP hF hM b qb h1 lim e h n _ hx (by simp) ac g w he m hd hf hn ro hro) ?_
        rintro ex a' w' ⟨rfl, hp⟩
        have : i ≠ id := by intro e; subst e; simp at hb
        show if i = id then _ else _
        rw [if_neg this]
        exact ⟨rfl, hp⟩
      · rw [hb] at hr
        have hr : Rs.nor e1 h1' n1 = r := hr
        subst hr
        refine wpIn_mono (evC_sound hP hF hM b qb h1 lim e h n _ hx (by simp) ac g w he m hd hf hn ro hro) ?_
        rintro ex a' w' ⟨rfl, hp⟩
        rw [Nat.beq_eq] at hb
        show if i = id then _ else _
        rw [if_pos hb]
        exact ⟨rfl, hp⟩
    | ret e1 h1' n1 =>
      rw [hx] at hr
      have hr : Rs.ret e1 h1' n1 = r := hr
      subst hr
      refine wpIn_mono (evC_sound hP hF hM b qb h1 lim e h n _ hx (by simp) ac g w he m hd hf hn ro hro) ?_
      rintro ex a' w' ⟨rfl, hp⟩
      exact ⟨rfl, hp⟩
  | .loop b, q, hc => by
    simp only [compC, Option.map_eq_some_iff] at hc
    obtain ⟨qb, h1, rfl⟩ := hc
    have ih := evC_sound hP hF hM b qb h1
    intro lim e h n r hr hne ac g w he m hd hf hn ro hro
    have hr : evLoop (evC qb) F lim e h n = r := hr
    unfold evLoop at hr
    intro fb k cs hro' hfb hroom
    -- at the head of the round: what some rounds lead to
    have key : ∀ (j : Nat) (e : Tr) (h : Hp) (n : Nat) (r : Rs), rep (evC qb F lim) j e h n = r → r ≠ .no → ∀ (ac : Act) (g : Sig) (w : World), EnvA N g e ac → Mem g h.get w → Dom h.get n → Fresh g n r.top → r.top < 9223372036854775808 →
        ∃ ex a' w', Post N lim g h w n ac r ex a' w' ∧ (ex = .normal → StepsIn (Machine.fenced P (fw ro)) P (lone (fb.atR ac (.code b :: .inLoop b :: k)) cs w) (lone (fb.atR a' (.code b :: .inLoop b :: k)) cs w')) ∧
          (ex ≠ .normal → ArrivesIn (Machine.fenced P (fw ro)) P (lone (fb.atR ac (.code b :: .inLoop b :: k)) cs w) fb k cs ex a' w') := by
      intro j
      induction j with
      | zero =>
        intro e h n r hr hne ac g w he m hd hf hn
        obtain ⟨ex, a', w', hp, harr⟩ := ih lim e h n r hr hne ac g w he m hd hf hn ro hro fb (.inLoop b :: k) cs hro' hfb hroom
        refine ⟨ex, a', w', hp, fun hx => ?_, fun hx => .pass (x := .inLoop b) rfl (fun _ _ => .inl hx) harr⟩
        subst hx
        exact StepsIn.trans harr (.one (fenced_calm hfb hroom rfl) stepR_inLoop)
      | succ j ihj =>
        intro e h n r hr hne ac g w he m hd hf hn
        have hr : (Rs.rec (motive := fun _ => Rs) .no (fun e h n => rep (evC qb F lim) j e h n) (fun id e h n => .ext id e h n) (fun e h n => .ret e h n) (rep (evC qb F lim) j e h n)) = r := hr
        cases hx : rep (evC qb F lim) j e h n with
        | no => rw [hx] at hr; exact absurd hr.symm hne
        | nor e1 h1' n1 =>
          rw [hx] at hr
          have hr : rep (evC qb F lim) j e1 h1' n1 = r := hr
          have hg2 : n1 ≤ r.top := by
            have := ge_rep (fun e h n => evC_ge hM qb lim e h n) j e1 h1' n1; rw [hr] at this
            cases r <;> first | exact absurd rfl hne | exact this
          obtain ⟨ex, a1, w1, ⟨hex, k1, g1, he1, m1, f1⟩, hs, _⟩ := ihj e h n _ hx (by simp) ac g w he m hd (hf.sub (Nat.le_refl _) hg2) (Nat.lt_of_le_of_lt hg2 hn)
          obtain ⟨ex2, a2, w2, hp2, hs2, ha2⟩ := ihj e1 h1' n1 r hr hne a1 g1 w1 he1 m1 f1.dom' (f1.fresh hf) hn
          exact ⟨ex2, a2, w2, Post.trans k1 f1 hp2, fun hx => (hs hex).trans (hs2 hx), fun hx => .of_steps (hs hex) (ha2 hx)⟩
        | ext id e1 h1' n1 =>
          rw [hx] at hr
          have hr : Rs.ext id e1 h1' n1 = r := hr
          subst hr
          exact ihj e h n _ hx (by simp) ac g w he m hd hf hn
        | ret e1 h1' n1 =>
          rw [hx] at hr
          have hr : Rs.ret e1 h1' n1 = r := hr
          subst hr
          exact ihj e h n _ hx (by simp) ac g w he m hd hf hn
    cases hx : rep (evC qb F lim) 20 e h n with
    | no => rw [hx] at hr; exact absurd hr.symm hne
    | nor => rw [hx] at hr; exact absurd hr.symm hne
    | ext id e1 h1' n1 =>
      rw [hx] at hr
      have hr : Rs.ext id e1 h1' n1 = r := hr
      subst hr
      obtain ⟨ex, a', w', hp, _, ha⟩ := key 20 e h n _ hx (by simp) ac g w he m hd hf hn
      refine ⟨ex, a', w', hp, .of_steps (.one (fenced_calm hfb hroom rfl) stepR_loop) (ha ?_)⟩
      rw [hp.1]; simp
    | ret e1 h1' n1 =>
      rw [hx] at hr
      have hr : Rs.ret e1 h1' n1 = r := hr
      subst hr
      obtain ⟨ex, a', w', hp, _, ha⟩ := key 20 e h n _ hx (by simp) ac g w he m hd hf hn
      refine ⟨ex, a', w', hp, .of_steps (.one (fenced_calm hfb hroom rfl) stepR_loop) (ha ?_)⟩
      rw [hp.1]; simp
  | .region id ops false, q, hc => by
    rw [compC] at hc
    split at hc
    case h_2 => cases hc; intro lim e h n r hr hne; exact absurd hr.symm hne
    rename_i rl h1
    cases hc
    intro lim e h n r hr hne ac g w he m hd hf hn ro hro
    have hr : rgRs (evR rl F lim e h n) = r := hr
    cases hx : evR rl F lim e h n with
    | no => rw [hx] at hr; exact absurd hr.symm hne
    | ok e' h' n' =>
      rw [hx] at hr
      have hr : Rs.nor e' h' n' = r := hr
      subst hr
      exact reg_sound hF hM h1 hx he m hd hf hn
  | .region id ops true, q, hc => by
    rw [compC] at hc
    split at hc
    case h_2 => cases hc; intro lim e h n r hr hne; exact absurd hr.symm hne
    rename_i rl h1
    cases hc
    intro lim e h n r hr hne ac g w he m hd hf hn ro hro
    have hr : rgRs (evDr rl F lim e h n) = r := hr
    cases hx : evDr rl F lim e h n with
    | no => rw [hx] at hr; exact absurd hr.symm hne
    | ok e' h' n' =>
      rw [hx] at hr
      have hr : Rs.nor e' h' n' = r := hr
      subst hr
      exact draw_sound hP hF hM h1 hx he m hd hf hn
  | .rangeFunc o ps x y, q, hc => by
    simp only [compC] at hc
    split at hc
    case h_2 => cases hc; intro lim e h n r hr hne; exact absurd hr.symm hne
    rename_i z hz
    cases hc
    intro lim e h n r hr hne a g w he m hd hf hn ro hro
    have hro := hro.resolve_right (fun hx => by cases (show false = true from hx))
    subst hro
    exact rfn_sound hF hM hz hr hne he m hd hf hn
  | .scope b, q, hc => by
    simp only [compC] at hc
    intro lim e h n r hr hne a g w he m hd hf hn ro hro
    refine wpIn_scope_straight (wpIn_mono (evC_sound hP hF hM b q hc lim e h n r hr hne a g w he m hd hf hn ro hro) ?_)
    intro ex a' w' hp
    cases r with
    | no => exact hp.elim
    | nor => obtain ⟨rfl, hp⟩ := hp; exact ⟨rfl, hp⟩
    | ext => obtain ⟨rfl, hp⟩ := hp; exact ⟨rfl, hp⟩
    | ret => obtain ⟨rfl, hp⟩ := hp; exact ⟨rfl, hp⟩
  | .label _, q, hc => by
    simp only [compC, Option.some.injEq] at hc; subst hc
    intro lim e h n r hr hne a g w he m hd hf hn ro hro
    subst hr
    exact wpIn_label ⟨rfl, MkK.refl, g, he, m, Fr.refl hd⟩
  | .goto _, q, hc => by
    simp only [compC, Option.some.injEq] at hc; subst hc
    intro lim e h n r hr hne; exact absurd hr.symm hne
  | .refuse _, q, hc => by
    simp only [compC, Option.some.injEq] at hc; subst hc
    intro lim e h n r hr hne; exact absurd hr.symm hne
end Go.Proofs.YtagjnlnnecidnaaDoor.Ev
/- Functions, and the whole. -/
namespace Go.Proofs.YtagjnlnnecidnaaDoor.Ev
set_option linter.unusedVariables false
open Go Go.RowKit

inductive RV where
  | tmp (p : Pos) | cell (p : Pos) (n : Nat) (agg : Bool)
inductive FnI where
  | mk (bar drop : Bool) (q : IC) (res : List RV)
inductive FT where
  | lf | nd (l : FT) (v : Option FnI) (r : FT)
noncomputable def FT.get (p : Pos) : FT → Option FnI :=
  Pos.rec (motive := fun _ => FT → Option FnI) (fun t => FT.rec (motive := fun _ => Option FnI) none (fun _ v _ _ _ => v) t)
   (fun _ ih t => FT.rec (motive := fun _ => Option FnI) none (fun l _ _ _ _ => ih l) t)
   (fun _ ih t => FT.rec (motive := fun _ => Option FnI) none (fun _ _ r _ _ => ih r) t) p
noncomputable def FT.put (x : Option FnI) (p : Pos) : FT → FT :=
  Pos.rec (motive := fun _ => FT → FT) (fun t => FT.rec (motive := fun _ => FT) (.nd .lf x .lf) (fun l _ r _ _ => .nd l x r) t)
   (fun _ ih t => FT.rec (motive := fun _ => FT) (.nd (ih .lf) none .lf) (fun l v r _ _ => .nd (ih l) v r) t)
   (fun _ ih t => FT.rec (motive := fun _ => FT) (.nd .lf none (ih .lf)) (fun l v r _ _ => .nd l v (ih r)) t) p
theorem FT.get_lf : ∀ p, FT.get p .lf = none
  | .h => rfl | .o _ => rfl | .i _ => rfl
theorem FT.get_put (x : Option FnI) : ∀ (p q : Pos) (t : FT), (t.put x p).get q = if q = p then x else t.get q
  | .h, .h, .lf => by simp; rfl
  | .h, .h, .nd l v r => by simp; rfl
  | .h, .o q, .lf => by rw [if_neg (by simp)]; exact (FT.get_lf q)
  | .h, .o q, .nd l v r => by rw [if_neg (by simp)]; rfl
  | .h, .i q, .lf => by rw [if_neg (by simp)]; exact (FT.get_lf q)
  | .h, .i q, .nd l v r => by rw [if_neg (by simp)]; rfl
  | .o p, .h, .lf => by rw [if_neg (by simp)]; rfl
  | .o p, .h, .nd l v r => by rw [if_neg (by simp)]; rfl
  | .o p, .i q, .lf => by rw [if_neg (by simp)]; exact (FT.get_lf q)
  | .o p, .i q, .nd l v r => by rw [if_neg (by simp)]; rfl
  | .i p, .h, .lf => by rw [if_neg (by simp)]; rfl
  | .i p, .h, .nd l v r => by rw [if_neg (by simp)]; rfl
  | .i p, .o q, .lf => by rw [if_neg (by simp)]; exact (FT.get_lf q)
  | .i p, .o q, .nd l v r => by rw [if_neg (by simp)]; rfl
  | .o p, .o q, .lf => by have := FT.get_put x p q .lf; rw [FT.get_lf] at this; simp only [Pos.o.injEq]; exact this
  | .o p, .o q, .nd l v r => by have := FT.get_put x p q l; simp only [Pos.o.injEq]; exact this
  | .i p, .i q, .lf => by have := FT.get_put x p q .lf; rw [FT.get_lf] at this; simp only [Pos.i.injEq]; exact this
  | .i p, .i q, .nd l v r => by have := FT.get_put x p q r; simp only [Pos.i.injEq]; exact this
noncomputable def FT.at (t : FT) : Nat → Option FnI :=
  FT.rec (motive := fun _ => Nat → Option FnI) (fun _ => none)
    (fun _ v _ ihl ihr m => Bool.rec (Bool.rec (ihr (Nat.div m 2)) (ihl (Nat.div m 2)) (Nat.beq (Nat.mod m 2) 0)) v (Nat.ble m 1)) t
theorem FT.at_eq : ∀ (t : FT) (f m : Nat), 1 ≤ m → m < 2 ^ (f + 1) → t.at m = t.get (posF f m)
  | .lf, f, m, _, _ => by rw [FT.get_lf]; rfl
  | .nd l v r, f, m, h1, h2 => by
    show (Bool.rec (Bool.rec (r.at (m / 2)) (l.at (m / 2)) (Nat.beq (m % 2) 0)) v (Nat.ble m 1) : Option FnI) = _
    by_cases hm : m ≤ 1
    · have : Nat.ble m 1 = true := by rw [Nat.ble_eq]; exact hm
      rw [this]
      cases f <;> simp [posF, hm] <;> rfl
    · have : Nat.ble m 1 = false := by rw [← Bool.not_eq_true, Nat.ble_eq]; exact hm
      rw [this]
      cases f with
      | zero => simp at h2; omega
      | succ f =>
        have hlt : m / 2 < 2 ^ (f + 1) := by rw [Nat.pow_succ] at h2; omega
        have il := FT.at_eq l f (m / 2) (by omega) hlt
        have ir := FT.at_eq r f (m / 2) (by omega) hlt
        by_cases h0 : m % 2 = 0
        · have e : Nat.beq (m % 2) 0 = true := by rw [h0]; rfl
          rw [e]; simp only [posF, if_neg hm, if_pos h0]; exact il
        · have e : Nat.beq (m % 2) 0 = false := by rw [show m % 2 = 1 by omega]; rfl
          rw [e]; simp only [posF, if_neg hm, if_neg h0]; exact ir
noncomputable def FT.of : List (Nat × FnI) → FT
  | [] => .lf
  | (f, x) :: l => (FT.of l).put (some x) (tp f)
theorem FT.of_mem : ∀ (l : List (Nat × FnI)), (∀ x ∈ l, x.1 < 4294967296) → ∀ f x, f < 4294967296 → (FT.of l).at (f + 1) = some x → (f, x) ∈ l
  | [], _, f, x, hf, h => by cases h
  | (k, y) :: l, hl, f, x, hf, h => by
    rw [FT.at_eq _ 63 _ (by omega) (by omega)] at h
    have h : ((FT.of l).put (some y) (tp k)).get (tp f) = some x := h
    rw [FT.get_put] at h
    split at h
    · rename_i e
      cases h
      rw [tp_inj hf (hl _ (List.mem_cons_self ..)) e]
      exact List.mem_cons_self ..
    · refine List.mem_cons_of_mem _ (FT.of_mem l (fun x hx => hl x (List.mem_cons_of_mem _ hx)) f x hf ?_)
      rw [FT.at_eq _ 63 _ (by omega) (by omega)]; exact h

/-! What a function hands back. -/
noncomputable def evRV (r : RV) (e : Tr) (h : Hp) : V :=
  RV.rec (motive := fun _ => V) (fun p => e.get p) (fun p n agg => onP (e.get p) (fun a o => Option.rec .bad (fun b => Bool.rec .bad (Bool.rec (b.cell o) (.ag (b.getW o n)) agg) (Nat.ble (Nat.add o n) b.size)) (h.get a)) .bad) r
noncomputable def evRVs (e : Tr) (h : Hp) : List RV → L
  | [] => .nil
  | r :: l => .cons (evRV r e h) (evRVs e h l)
noncomputable def evRes (e : Tr) (h : Hp) (l : List RV) : V :=
  match l with
  | [r] => evRV r e h
  | l => .tu (evRVs e h l)
def compRV (P : Program) : ResultVar → Option RV
  | .tmp t => if t < 4294967296 then some (.tmp (tp t)) else none
  | .cell a t => match P.info? t, P_isAgg P t with
    | some i, some agg => if a < 4294967296 ∧ (agg = false → i.size = 1) then some (.cell (tp a) i.size agg) else none
    | _, _ => none
def compRVs (P : Program) : List ResultVar → Option (List RV)
  | [] => some []
  | r :: l => match compRV P r, compRVs P l with
    | some x, some m => some (x :: m)
    | _, _ => none

def resOne (tmps : Array Value) : ResultVar → Sem Value
  | .tmp t => pure (tmps.getD t undef)
  | .cell a t => do loadVar t (← asAddr (tmps.getD a undef))
theorem results_eq (fn : Func) (tmps : Array Value) : results fn tmps = (do let vs ← fn.results.mapM (resOne tmps); pure (if h : vs.size = 1 then vs[0] else .tuple vs)) := by
  unfold results
  congr 1
/-- No part of a value is unknown. -/
def V.known : V → Bool
  | .bad => false
  | _ => true

theorem evRV_sound {P : Program} {N : Nat} {g : Sig} {e : Tr} {a : Act} {h : Hp} {w : World} (he : EnvA N g e a) (m : Mem g h.get w) {rv : ResultVar} {r : RV} (hr : compRV P rv = some r) (hk : (evRV r e h).known = true) :
    ∃ u, (resOne a.tmps rv).run P w = .ok u w ∧ (evRV r e h).rel g u := by
  cases rv with
  | tmp t =>
    simp only [compRV] at hr
    split at hr
    · rename_i ht; cases hr; exact ⟨_, rfl, he.rel t ht⟩
    · cases hr
  | cell x t =>
    simp only [compRV] at hr
    split at hr
    case h_2 => cases hr
    rename_i i agg hi ha
    split at hr
    case isFalse => cases hr
    rename_i hc
    cases hr
    have rx := he.rel x hc.1
    have hk : (onP (e.get (tp x)) (fun a o => (Option.rec .bad (fun b => Bool.rec .bad (Bool.rec (b.cell o) (.ag (b.getW o i.size)) agg) (Nat.ble (Nat.add o i.size) b.size)) (h.get a) : V)) .bad).known = true := hk
    show ∃ u, _ ∧ V.rel g (onP (e.get (tp x)) (fun a o => (Option.rec .bad (fun b => Bool.rec .bad (Bool.rec (b.cell o) (.ag (b.getW o i.size)) agg) (Nat.ble (Nat.add o i.size) b.size)) (h.get a) : V)) .bad) u
    cases hx : e.get (tp x) <;> rw [hx] at hk rx <;> dsimp only [onP, V.asP] at hk ⊢
    case p b off =>
      rw [V.rel] at rx
      obtain ⟨r, base, tot, hg, hv⟩ := rx
      cases hh : h.get b with
      | none => rw [hh] at hk; simp [V.known] at hk
      | some bl =>
        rw [hh] at hk
        dsimp only at hk ⊢
        cases hb : Nat.ble (Nat.add off i.size) bl.size
        · rw [hb] at hk; simp [V.known] at hk
        · have hb : off + i.size ≤ bl.size := by rw [Nat.ble_eq] at hb; exact hb
          cases agg
          · obtain ⟨u, c1, c2, c3, c4⟩ := mem_cell m hh hg (k := off) (by have := hc.2 rfl; omega)
            exact ⟨u, by simp [resOne, hv, asAddr, loadVar, run_isAgg ha, c1], c3⟩
          · obtain ⟨vs, g1, g2, g3, g4⟩ := getL_rel m hh hg i.size off (by omega)
            refine ⟨.agg ⟨vs⟩, ?_, ⟨vs, rfl, by rw [getW_eq]; exact g2⟩⟩
            have hl := run_loadCells_list (P := P) w ⟨r, base + off, none⟩ vs g4
            rw [g1] at hl
            simp [resOne, hv, asAddr, loadVar, run_isAgg ha, sizeOf, typeInfo, hi, hl]
    all_goals simp [V.known] at hk

def L.known : L → Bool
  | .nil => true
  | .cons v l => v.known && l.known
theorem evRVs_sound {P : Program} {N : Nat} {g : Sig} {e : Tr} {a : Act} {h : Hp} {w : World} (he : EnvA N g e a) (m : Mem g h.get w) : ∀ (rvs : List ResultVar) (rs : List RV), compRVs P rvs = some rs → (evRVs e h rs).known = true →
    ∃ us, (rvs.mapM (resOne a.tmps)).run P w = .ok us w ∧ (evRVs e h rs).rel g us
  | [], rs, hr, _ => by simp [compRVs] at hr; subst hr; exact ⟨[], rfl, rfl⟩
  | rv :: rvs, rs, hr, hk => by
    rw [compRVs] at hr
    split at hr
    case h_2 => cases hr
    rename_i r rs' h1 h2
    cases hr
    have hk : ((evRV r e h).known && (evRVs e h rs').known) = true := hk
    rw [Bool.and_eq_true] at hk
    obtain ⟨u, r1, r2⟩ := evRV_sound he m h1 hk.1
    obtain ⟨us, r3, r4⟩ := evRVs_sound he m rvs rs' h2 hk.2
    refine ⟨u :: us, ?_, ⟨u, us, rfl, r2, r4⟩⟩
    rw [List.mapM_cons, Sem.run_bind]
    rw [r1, Result.andThen_ok, Sem.run_bind, r3]
    rfl

def resKnown (v : V) : Bool := match v with | .tu l => l.known | v => v.known
theorem evRes_sound {P : Program} {N : Nat} {g : Sig} {e : Tr} {a : Act} {h : Hp} {w : World} (he : EnvA N g e a) (m : Mem g h.get w) {fn : Func} {rs : List RV} (hr : compRVs P fn.results.toList = some rs) (hk : (evRVs e h rs).known = true) :
    ∃ u, (results fn a.tmps).run P w = .ok u w ∧ (evRes e h rs).rel g u := by
  obtain ⟨us, h1, h2⟩ := evRVs_sound he m _ _ hr hk
  have hm : (fn.results.mapM (resOne a.tmps)).run P w = .ok ⟨us⟩ w := by
    rw [Array.mapM_eq_mapM_toList, Sem.run_map, h1]; rfl
  rw [results_eq, Sem.run_bind, hm, Result.andThen_ok, Sem.run_pure]
  match rs, h2 with
  | [], h2 =>
    have : us = [] := h2
    subst this
    exact ⟨.tuple #[], rfl, [], rfl, rfl⟩
  | [r], h2 =>
    obtain ⟨u, us', rfl, h3, h4⟩ := h2
    have : us' = [] := h4
    subst this
    exact ⟨u, rfl, h3⟩
  | r :: r' :: rs, h2 =>
    have hl := L.rel_length h2
    obtain ⟨u, us', rfl, h3, h4⟩ := h2
    obtain ⟨u', us'', rfl, h5, h6⟩ := h4
    refine ⟨.tuple ⟨u :: u' :: us''⟩, ?_, ⟨_, rfl, u, _, rfl, h3, u', us'', rfl, h5, h6⟩⟩
    rw [dif_neg (by simp)]

/-! Running a function. -/
noncomputable def bind : L → Nat → Tr → Tr
  | .nil, _, e => e
  | .cons v l, k, e => bind l (k + 1) (e.set v (tp k))
noncomputable def endF (drop : Bool) (h0 : Hp) (res : List RV) (e : Tr) (h : Hp) (n : Nat) : Res :=
  Bool.rec .no (Bool.rec (.ok (evRes e h res) h n) (.ok (evRes e h res) h0 n) drop) (evRVs e h res).known
noncomputable def runB (drop : Bool) (q : IC) (res : List RV) (F : FF) (args : L) (lim : Nat) (h : Hp) (n : Nat) : Res :=
  Rs.rec (motive := fun _ => Res) .no (fun e h' n' => endF drop h res e h' n') (fun _ _ _ _ => .no) (fun e h' n' => endF drop h res e h' n') (evC q F lim (bind args 0 .lf) h n)
noncomputable def runF (fi : FnI) (F : FF) (args : L) (lim : Nat) (h : Hp) (n : Nat) : Res :=
  FnI.rec (motive := fun _ => Res) (fun bar drop q res => Bool.rec (runB false q res F args lim h n) (Bool.rec .no (runB drop q res F args n h n) (Nat.ble lim n)) bar) fi
noncomputable def evF (PR : FT) (d : Nat) : FF :=
  Nat.rec (motive := fun _ => FF) (fun _ _ _ _ _ => .no) (fun _ ih f args lim h n => Bool.rec .no (Option.rec (motive := fun _ => Res) .no (fun fi => runF fi ih args lim h n) (PR.at (Nat.succ f))) (and (Nat.ble f 4294967294) (Nat.ble args.length 4294967294))) d

def compF (P : Program) (dr : List Nat) (bar drop : Bool) (fn : Func) : Option FnI :=
  match fn.body with
  | some c => match compC P dr fn.ntmps c, compRVs P fn.results.toList with
    | some q, some rs => if (fn.name == "runtime.NumGoroutine") = true then none else some (.mk bar drop q rs)
    | _, _ => none
  | none => none

theorem bind_get : ∀ (l : L) (k t : Nat) (e : Tr), k + l.length < 4294967296 → t < 4294967296 → (bind l k e).get (tp t) = if k ≤ t ∧ t < k + l.length then l.get (t - k) else e.get (tp t)
  | .nil, k, t, e, _, _ => by
    rw [if_neg (by simp [L.length]; try omega)]; rfl
  | .cons v l, k, t, e, hk, ht => by
    have hlen : (L.cons v l).length = l.length + 1 := rfl
    rw [hlen] at hk ⊢
    show (bind l (k + 1) (e.set v (tp k))).get (tp t) = _
    rw [bind_get l (k + 1) t _ (by omega) ht, Tr.get_set]
    by_cases h1 : k + 1 ≤ t ∧ t < k + 1 + l.length
    · rw [if_pos h1, if_pos (by omega), show t - k = (t - (k + 1)) + 1 by omega]; rfl
    · rw [if_neg h1]
      by_cases h2 : t = k
      · subst h2
        rw [if_pos rfl, if_pos (by omega), Nat.sub_self]; rfl
      · rw [if_neg (fun e => h2 (tp_inj ht (by omega) e)), if_neg (by omega)]

theorem env_bind {g : Sig} {args : L} {vs : List Value} (hgk : GOK g) (hr : args.rel g vs) (hl : args.length < 4294967296) (N : Nat) :
    EnvA N g (bind args 0 .lf) { tmps := (⟨vs⟩ : Array Value) ++ Array.replicate (N - (⟨vs⟩ : Array Value).size) undef, defers := [] } := by
  have hlen := L.rel_length hr
  refine ⟨by simp; omega, hgk, fun t ht => ?_⟩
  rw [bind_get args 0 t .lf (by omega) ht]
  by_cases h1 : 0 ≤ t ∧ t < 0 + args.length
  · rw [if_pos h1, Nat.sub_zero]
    have := L.rel_get t hr
    have hlt : t < vs.length := by omega
    simpa [Array.getD_eq_getD_getElem?, Array.getElem?_append, hlt, List.getD] using this
  · rw [if_neg h1, Tr.get_lf]; trivial

theorem ge_endF {n n' : Nat} (h1 : n ≤ n') (drop : Bool) (h0 : Hp) (res : List RV) (e : Tr) (h : Hp) : (endF drop h0 res e h n').ge n := by
  unfold endF
  cases (evRVs e h res).known
  · trivial
  · cases drop <;> exact h1
theorem ge_runB {F : FF} (hM : F.mono) (drop : Bool) (q : IC) (res : List RV) (args : L) (lim : Nat) (h : Hp) (n : Nat) : (runB drop q res F args lim h n).ge n := by
  unfold runB
  have h1 := evC_ge hM q lim (bind args 0 .lf) h n
  cases hx : evC q F lim (bind args 0 .lf) h n with
  | no => trivial
  | nor => rw [hx] at h1; exact ge_endF h1 _ _ _ _ _
  | ext => trivial
  | ret => rw [hx] at h1; exact ge_endF h1 _ _ _ _ _
theorem evF_mono (PR : FT) : ∀ d, (evF PR d).mono
  | 0 => fun _ _ _ _ _ => trivial
  | d + 1 => fun f args lim h n => by
    show (Bool.rec .no (Option.rec (motive := fun _ => Res) .no (fun fi => runF fi (evF PR d) args lim h n) (PR.at (Nat.succ f))) (and (Nat.ble f 4294967294) (Nat.ble args.length 4294967294)) : Res).ge n
    refine ge_bool ge_no ?_
    cases PR.at (Nat.succ f) with
    | none => trivial
    | some fi =>
      obtain ⟨bar, drop, q, res⟩ := fi
      have hM := evF_mono PR d
      show (Bool.rec (runB false q res (evF PR d) args lim h n) (Bool.rec .no (runB drop q res (evF PR d) args n h n) (Nat.ble lim n)) bar : Res).ge n
      cases bar
      · exact ge_runB hM _ _ _ _ _ _ _
      · cases Nat.ble lim n
        · trivial
        · exact ge_runB hM _ _ _ _ _ _ _

/-- Each of the functions listed is the program's. -/
def Listed (P : Program) (l : List (Nat × FnI)) : Prop := ∀ x ∈ l, x.1 < 4294967296 ∧ ∃ fn dr bar drop, P.funcs[x.1]? = some fn ∧ compF P dr bar drop fn = some x.2

theorem listed_nil {P : Program} : Listed P [] := fun x hx => by simp at hx
theorem listed_cons {P : Program} {l : List (Nat × FnI)} {k : Nat} {fi : FnI} {fn : Func} {dr : List Nat} {b d : Bool} (h1 : P.funcs[k]? = some fn) (h2 : compF P dr b d fn = some fi) (h3 : Listed P l) (h0 : k < 4294967296) : Listed P ((k, fi) :: l) := by
  intro x hx
  rcases List.mem_cons.1 hx with rfl | hx
  · exact ⟨h0, fn, dr, b, d, h1, h2⟩
  · exact h3 x hx

theorem endF_ok {drop : Bool} {h0 h h' : Hp} {res : List RV} {e : Tr} {n n' : Nat} {v : V} (hr : endF drop h0 res e h n = .ok v h' n') :
    (evRVs e h res).known = true ∧ v = evRes e h res ∧ h' = (if drop then h0 else h) ∧ n' = n := by
  unfold endF at hr
  cases hk : (evRVs e h res).known
  · rw [hk] at hr; cases hr
  · rw [hk] at hr
    cases drop
    · have hr : Res.ok (evRes e h res) h n = .ok v h' n' := hr
      cases hr; exact ⟨rfl, rfl, rfl, rfl⟩
    · have hr : Res.ok (evRes e h res) h0 n = .ok v h' n' := hr
      cases hr; exact ⟨rfl, rfl, rfl, rfl⟩

/-- What was there is as it was: the new may be forgotten. -/
theorem dropped {n n1 : Nat} {g g1 : Sig} {h h1 : Hm} {w w1 : World} (m : Mem g h w) (hd : Dom h n) (hf : Fresh g n n1) (f : Fr n n g h w n1 g1 h1 w1) : Mem g1 h w1 ∧ Fr n n g h w n1 g1 h w1 := by
  have hle := f.gle hf
  have hkeep : ∀ r, r < w.heap.size → w1.heap[r]? = w.heap[r]? := fun r hr => f.keep r hr fun p b base tot hp hl => by have := hd p b hp; omega
  refine ⟨⟨?_, ?_⟩, { f with dom := fun p b e => ⟨fun _ => ⟨b, e⟩, by have := hd p b e; have := f.le; omega⟩ }⟩
  · intro p q bp bq r b1 t1 b2 t2 hp hq e1 e2
    have s1 := f.sig p (.inl (hd p bp hp))
    have s2 := f.sig q (.inl (hd q bq hq))
    rw [s1] at e1
    rw [s2] at e2
    exact m.inj p q bp bq r b1 t1 b2 t2 hp hq e1 e2
  · intro p b hp
    obtain ⟨r, base, tot, cur, c1, c2, c3, c4, c5, c6⟩ := m.blk p b hp
    refine ⟨r, base, tot, cur, hle _ _ c1, (c2.mono hle).keep (hkeep r (m.lt hp c1)), c3, c4, c5, fun k hk => ?_⟩
    obtain ⟨v, d1, d2, d3⟩ := c6 k hk
    exact ⟨v, d1, d2, V.rel_mono hle _ d3⟩

/-- A world in which nothing else but blocks of deferred calls, from a place on, is another. -/
structure DefEq (s : Nat) (w w' : World) : Prop where
  os : w'.os = w.os
  tape : w'.tape = w.tape
  output : w'.output = w.output
  size : w'.heap.size = w.heap.size
  heap : ∀ r, w'.heap[r]? = w.heap[r]? ∨ (s ≤ r ∧ (∃ x, w.heap[r]? = some (.deferred x)) ∧ ∃ y, w'.heap[r]? = some (.deferred y))
theorem DefEq.refl (s : Nat) (w : World) : DefEq s w w := ⟨rfl, rfl, rfl, rfl, fun _ => .inl rfl⟩
theorem DefEq.trans {s : Nat} {w w1 w2 : World} (a : DefEq s w w1) (b : DefEq s w1 w2) : DefEq s w w2 := ⟨b.os.trans a.os, b.tape.trans a.tape, b.output.trans a.output, b.size.trans a.size, fun r => by
  rcases b.heap r with h1 | ⟨h1, ⟨x, h2⟩, h3⟩
  · rcases a.heap r with h4 | ⟨h4, h5, y, h6⟩
    · exact .inl (h1.trans h4)
    · exact .inr ⟨h4, h5, y, h1.trans h6⟩
  · rcases a.heap r with h4 | ⟨h4, h5, y, h6⟩
    · exact .inr ⟨h1, ⟨x, h4 ▸ h2⟩, h3⟩
    · exact .inr ⟨h1, h5, h3⟩⟩
theorem DefEq.mem {s : Nat} {w w' : World} (e : DefEq s w w') {g : Sig} {h : Hm} (m : Mem g h w) : Mem g h w' := ⟨m.inj, fun p b hp => by
  obtain ⟨r, base, tot, cur, c1, c2, c3, c4, c5, c6⟩ := m.blk p b hp
  refine ⟨r, base, tot, cur, c1, c2.keep ?_, c3, c4, c5, c6⟩
  rcases e.heap r with h1 | ⟨_, ⟨x, h2⟩, _⟩
  · exact h1
  · exact absurd h2 (c2.notDef x)⟩
theorem DefEq.fr {w0 w w' : World} (e : DefEq w0.heap.size w w') {lim n n1 : Nat} {g g1 : Sig} {h h1 : Hm} (f : Fr lim n g h w0 n1 g1 h1 w) : Fr lim n g h w0 n1 g1 h1 w' :=
  { f with
    os := e.os.trans f.os
    tape := e.tape.trans f.tape
    output := e.output.trans f.output
    size := by rw [e.size]; exact f.size
    keep := fun r hr hW => by
      rcases e.heap r with h1 | ⟨h1, _⟩
      · rw [h1]; exact f.keep r hr hW
      · omega }
theorem leave_marks {P : Program} {fn : Func} {tmps : Array Value} {R : Ending → World → Prop} {s : Nat} : ∀ (ds : List Deferred) (w : World), ds.Nodup → (∀ d ∈ ds, isMk s w d) →
    (∀ w', DefEq s w w' → ∃ v, (results fn tmps).run P w' = .ok v w' ∧ R (.returned v) w') → LeavesInM Fence.wide 0 P fn tmps R ds .returning w
  | [], w, _, _, h => h w (DefEq.refl s w)
  | d :: ds, w, hn, hm, h => by
    obtain ⟨r, h1, h2, h3⟩ := hm d (List.mem_cons_self ..)
    have hlt := (Array.getElem?_eq_some_iff.1 h3).1
    rw [List.nodup_cons] at hn
    have e1 : DefEq s w (w.putObj r (.deferred none)) := ⟨rfl, rfl, rfl, by simp [World.putObj], fun k => by
      by_cases hk : k = r
      · subst hk; exact .inr ⟨h1, ⟨_, h3⟩, _, World.putObj_heap_same hlt⟩
      · exact .inl (World.putObj_heap_other hk)⟩
    refine ⟨by simp, .inl ⟨r, _, by rw [h2], run_takeDeferred h3, leave_marks ds _ hn.2 (fun d' hd' => ?_) fun w' e => h w' (e1.trans e)⟩⟩
    obtain ⟨r', k1, k2, k3⟩ := hm d' (List.mem_cons_of_mem _ hd')
    refine ⟨r', k1, k2, (World.putObj_heap_other fun e => ?_).trans k3⟩
    subst e
    rw [h2, ← k2] at hn
    exact hn.1 hd'
theorem runB_sound {P : Program} (hP : P.follows .mixedOrders = true) {F : FF} (hF : FOK P F) (hM : F.mono) {f : Nat} {fn : Func} {c : Code} (hfn : P.funcs[f]? = some fn) (hb : fn.body = some c) {dr : List Nat} {q : IC} {res : List RV} (hq : compC P dr fn.ntmps c = some q) (hres : compRVs P fn.results.toList = some res)
    (drop : Bool) {args : L} {lim n n' : Nat} {h h' : Hp} {v : V} (hr : runB drop q res F args lim h n = .ok v h' n') (hdr : drop = true → lim = n) {vs : List Value} {g : Sig} {w : World} (ha : args.rel g vs) (hgk : GOK g) (hal : args.length < 4294967296) (m : Mem g h.get w) (hd : Dom h.get n) (hf : Fresh g n n') (hn : n' < 9223372036854775808) :
    Calls P f ⟨vs⟩ w fun e w' => ∃ u g', e = .returned u ∧ v.rel g' u ∧ Mem g' h'.get w' ∧ Fr lim n g h.get w n' g' h'.get w' := by
  refine callsIn_wide.1 (callsIn_of_wp_marks (F := Fence.wide) (n := 0) hfn hb trivial ?_)
  have fin : ∀ (e1 : Tr) (h1 : Hp) (n1 : Nat), endF drop h res e1 h1 n1 = .ok v h' n' → ∀ (a' : Act) (g1 : Sig) (w' : World), EnvA fn.ntmps g1 e1 a' → Mem g1 h1.get w' → Fr lim n g h.get w n1 g1 h1.get w' → Mk w.heap.size w' a' →
      LeavesInM Fence.wide 0 P fn a'.tmps (fun e w' => ∃ u g', e = .returned u ∧ v.rel g' u ∧ Mem g' h'.get w' ∧ Fr lim n g h.get w n' g' h'.get w') a'.defers .returning w' := by
    intro e1 h1 n1 he a' g1 w' hE m1 f1 hmk
    obtain ⟨hk, rfl, rfl, rfl⟩ := endF_ok he
    refine leave_marks a'.defers w' hmk.1 hmk.2 fun w2 e2 => ?_
    obtain ⟨u, r1, r2⟩ := evRes_sound hE (e2.mem m1) hres hk
    refine ⟨u, r1, u, g1, rfl, r2, ?_⟩
    cases drop with
    | false => exact ⟨e2.mem m1, e2.fr f1⟩
    | true =>
      have := hdr rfl
      subst this
      exact dropped m hd hf (e2.fr f1)
  have m0 : Mk w.heap.size w { tmps := (⟨vs⟩ : Array Value) ++ Array.replicate (fn.ntmps - (⟨vs⟩ : Array Value).size) undef, defers := [] } := ⟨List.nodup_nil, fun d hd => by simp at hd⟩
  unfold runB at hr
  cases hx : evC q F lim (bind args 0 .lf) h n with
  | no => rw [hx] at hr; cases hr
  | ext => rw [hx] at hr; cases hr
  | nor e1 h1 n1 =>
    rw [hx] at hr
    have hr : endF drop h res e1 h1 n1 = .ok v h' n' := hr
    have hnn : n1 = n' := (endF_ok hr).2.2.2.symm
    refine wpIn_mono (evC_sound hP hF hM c q hq lim _ h n _ hx (by simp) _ g w (env_bind hgk ha hal fn.ntmps) m hd (hnn ▸ hf) (hnn ▸ hn) none (.inl rfl)) ?_
    rintro ex a' w' ⟨rfl, k1, g1, hE, m1, f1⟩
    exact fin e1 h1 n1 hr a' g1 w' hE m1 f1 (k1.2 _ (Nat.le_refl _) m0)
  | ret e1 h1 n1 =>
    rw [hx] at hr
    have hr : endF drop h res e1 h1 n1 = .ok v h' n' := hr
    have hnn : n1 = n' := (endF_ok hr).2.2.2.symm
    refine wpIn_mono (evC_sound hP hF hM c q hq lim _ h n _ hx (by simp) _ g w (env_bind hgk ha hal fn.ntmps) m hd (hnn ▸ hf) (hnn ▸ hn) none (.inl rfl)) ?_
    rintro ex a' w' ⟨rfl, k1, g1, hE, m1, f1⟩
    exact fin e1 h1 n1 hr a' g1 w' hE m1 f1 (k1.2 _ (Nat.le_refl _) m0)

theorem evF_sound {P : Program} (hP : P.follows .mixedOrders = true) {l : List (Nat × FnI)} (hl : Listed P l) : ∀ d, FOK P (evF (FT.of l) d)
  | 0 => ⟨fun f args lim h n v h' n' hr => (by cases hr), fun p args lim h n v h' n' hr => (by cases hr)⟩
  | d + 1 => by
    refine ⟨fun f args lim h n v h' n' hr => ?_, fun p args lim h n v h' n' hr => by
      have hr : (Bool.rec .no (Option.rec (motive := fun _ => Res) .no (fun fi => runF fi (evF (FT.of l) d) (.cons yM (.cons (.yl p) args)) lim h n) ((FT.of l).at (Nat.succ YID))) (and (Nat.ble YID 4294967294) (Nat.ble (L.cons yM (.cons (.yl p) args)).length 4294967294)) : Res) = .ok v h' n' := hr
      rw [show Nat.ble YID 4294967294 = false by decide] at hr
      cases hr⟩
    intro vs g w ha hgk m hd hf hn
    have hr : (Bool.rec .no (Option.rec (motive := fun _ => Res) .no (fun fi => runF fi (evF (FT.of l) d) args lim h n) ((FT.of l).at (Nat.succ f))) (and (Nat.ble f 4294967294) (Nat.ble args.length 4294967294)) : Res) = .ok v h' n' := hr
    cases hb : and (Nat.ble f 4294967294) (Nat.ble args.length 4294967294)
    · rw [hb] at hr; cases hr
    · rw [hb] at hr
      simp only [Bool.and_eq_true, Nat.ble_eq] at hb
      cases hat : (FT.of l).at (Nat.succ f) with
      | none => rw [hat] at hr; cases hr
      | some fi =>
        rw [hat] at hr
        have hr : runF fi (evF (FT.of l) d) args lim h n = .ok v h' n' := hr
        have hmem := FT.of_mem l (fun x hx => (hl x hx).1) f fi (by omega) hat
        obtain ⟨_, fn, dr, bar, drop, hfn, hcomp⟩ := hl _ hmem
        have hfn : P.funcs[f]? = some fn := hfn
        have hcomp : compF P dr bar drop fn = some fi := hcomp
        unfold compF at hcomp
        split at hcomp
        case h_2 => cases hcomp
        rename_i c hbody
        split at hcomp
        case h_2 => cases hcomp
        rename_i q res hq hres
        split at hcomp
        case isTrue => cases hcomp
        rename_i hname
        cases hcomp
        refine ⟨⟨fn, hfn, by simpa using hname, by rw [hbody]; rfl⟩, ?_⟩
        have hr : (Bool.rec (runB false q res (evF (FT.of l) d) args lim h n) (Bool.rec .no (runB drop q res (evF (FT.of l) d) args n h n) (Nat.ble lim n)) bar : Res) = .ok v h' n' := hr
        cases bar with
        | false => exact runB_sound hP (evF_sound hP hl d) (evF_mono _ d) hfn hbody hq hres false hr (fun h => by cases h) ha hgk (by omega) m hd hf hn
        | true =>
          cases hlim : Nat.ble lim n
          · rw [hlim] at hr; cases hr
          · rw [hlim] at hr
            rw [Nat.ble_eq] at hlim
            refine (runB_sound hP (evF_sound hP hl d) (evF_mono _ d) hfn hbody hq hres drop hr (fun _ => rfl) ha hgk (by omega) m hd hf hn).mono ?_
            rintro e w' ⟨u, g', h1, h2, h3, h4⟩
            exact ⟨u, g', h1, h2, h3, h4.weak hlim⟩

/-- Where the package-level variables stand. -/
noncomputable def g0 (tot : Nat → Nat) : Sig := fun p => if p.num ≤ gK then some (p.num - 1, 0, tot (p.num - 1)) else none
theorem g0_ok (tot : Nat → Nat) : GOK (g0 tot) := fun k hk => ⟨tot k, by
  have := num_posF 63 (k + 1) (by omega) (by unfold gK at hk; omega)
  unfold g0; rw [this, if_pos (by omega)]; simp⟩
theorem g0_fresh (tot : Nat → Nat) (n : Nat) : Fresh (g0 tot) (gK + 1) n := fun p h _ => by
  unfold g0; rw [if_neg (by omega)]

/-- From the evaluator's answer to the call, in any world. -/
theorem ran {P : Program} (hP : P.follows .mixedOrders = true) {l : List (Nat × FnI)} (hl : Listed P l) {d f : Nat} {args : L} {v : V} {h' : Hp} {n' : Nat} (hr : evF (FT.of l) d f args (gK + 1) .lf (gK + 1) = .ok v h' n') (hn : n' < 9223372036854775808) {vs : List Value} {u : Value}
    (ha : ∀ g, args.rel g vs) (hu : ∀ g x, v.rel g x → x = u) (w : World) : Calls P f ⟨vs⟩ w fun e w' => e = .returned u ∧ Below w.heap.size w w' := by
  have h0 : ∀ p, (Hp.get p .lf) = none := Hp.get_lf
  refine ((evF_sound hP hl d).1 f args (gK + 1) .lf (gK + 1) v h' n' hr vs (g0 fun _ => 0) w (ha _) (g0_ok _) ⟨fun p q bp bq _ _ _ _ _ hp => ?_, fun p b hp => ?_⟩ (fun p b hp => ?_) (g0_fresh _ _) hn).2.mono ?_
  · have := (h0 _).symm.trans hp; cases this
  · have := (h0 _).symm.trans hp; cases this
  · have := (h0 _).symm.trans hp; cases this
  · rintro e w' ⟨x, g', rfl, hv, _, hfr⟩
    refine ⟨by rw [hu g' x hv], hfr.os, hfr.tape, hfr.output, hfr.size, fun k hk => hfr.keep k hk fun p b base tot hp => ?_⟩
    have := (h0 _).symm.trans hp; cases this

/-- The tables of a memory: which variable, of which type, what its cells hold. -/
noncomputable def tabH : List (Nat × TypeId × L) → Hp
  | [] => .lf
  | (k, el, z) :: l => (tabH l).put (some ⟨el, z.length, z.length, z, .lf⟩) (tp k)
def tabT : List (Nat × TypeId × L) → Nat → Nat
  | [], _ => 0
  | (k, _, z) :: l, j => if j = k then z.length else tabT l j
/-- That a world holds them. -/
def Holds (w : World) : List (Nat × TypeId × L) → Prop
  | [] => True
  | (k, el, z) :: l => (k < gK ∧ z.allC = true ∧ z.length ≤ maxSize ∧ ∃ vs, w.heap[k]? = some (.cells ⟨vs⟩ el (0, 0)) ∧ ∀ g, z.rel g vs) ∧ Holds w l

theorem tabH_get {w : World} : ∀ (l : List (Nat × TypeId × L)), Holds w l → ∀ p b, (tabH l).get p = some b → ∃ k z, k < gK ∧ p = tp k ∧ b = ⟨b.el, z.length, z.length, z, .lf⟩ ∧ tabT l k = z.length ∧ z.allC = true ∧ z.length ≤ maxSize ∧ ∃ vs, w.heap[k]? = some (.cells ⟨vs⟩ b.el (0, 0)) ∧ ∀ g, z.rel g vs
  | [], _, p, b, h => by have := (Hp.get_lf p).symm.trans h; cases this
  | (k, el, z) :: l, hw, p, b, h => by
    have h : ((tabH l).put (some ⟨el, z.length, z.length, z, .lf⟩) (tp k)).get p = some b := h
    rw [Hp.get_put] at h
    split at h
    · rename_i e
      cases h
      exact ⟨k, z, hw.1.1, e, rfl, by simp [tabT], hw.1.2.1, hw.1.2.2.1, hw.1.2.2.2⟩
    · rename_i hne
      obtain ⟨k', z', h1, h2, h3, h4, h5⟩ := tabH_get l hw.2 p b h
      refine ⟨k', z', h1, h2, h3, ?_, h5⟩
      show (if k' = k then _ else _) = _
      rw [if_neg (fun e => hne (by rw [h2, e])), h4]

/-- The same, in a world that holds tables. -/
theorem ranT {P : Program} (hP : P.follows .mixedOrders = true) {l : List (Nat × FnI)} (hl : Listed P l) (tabs : List (Nat × TypeId × L)) {d f : Nat} {args : L} {v : V} {h' : Hp} {n' : Nat} (hr : evF (FT.of l) d f args (gK + 1) (tabH tabs) (gK + 1) = .ok v h' n') (hn : n' < 9223372036854775808) {vs : List Value} {u : Value}
    (ha : ∀ g, args.rel g vs) (hu : ∀ g x, v.rel g x → x = u) (w : World) (hw : Holds w tabs) : Calls P f ⟨vs⟩ w fun e w' => e = .returned u ∧ Below w.heap.size w w' := by
  have num : ∀ k, k < gK → (tp k).num = k + 1 := fun k hk => num_posF 63 (k + 1) (by omega) (by unfold gK at hk; omega)
  have hg : ∀ k, k < gK → g0 (tabT tabs) (tp k) = some (k, 0, tabT tabs k) := fun k hk => by
    unfold g0; rw [num k hk, if_pos (by omega)]; simp
  refine ((evF_sound hP hl d).1 f args (gK + 1) (tabH tabs) (gK + 1) v h' n' hr vs (g0 (tabT tabs)) w (ha _) (g0_ok _) ⟨fun p q bp bq r b1 t1 b2 t2 hp hq e1 e2 => ?_, fun p b hp => ?_⟩ (fun p b hp => ?_) (g0_fresh _ _) hn).2.mono ?_
  · obtain ⟨k, z, h1, rfl, _⟩ := tabH_get tabs hw p bp hp
    obtain ⟨k', z', h1', rfl, _⟩ := tabH_get tabs hw q bq hq
    rw [hg k h1] at e1
    rw [hg k' h1'] at e2
    cases e1; cases e2; rfl
  · obtain ⟨k, z, h1, rfl, h3, h4, h5, h6, vs, h7, h8⟩ := tabH_get tabs hw p b hp
    have hlen : vs.length = z.length := L.rel_length (h8 (fun _ => none))
    have hbs : b.size = z.length := by rw [h3]
    refine ⟨k, 0, tabT tabs k, ⟨vs⟩, hg k h1, .inl ⟨RowIs.of h7, Nat.zero_le _⟩, by rw [h4]; simpa using hlen, .inr (by rw [h4, hbs]; simp), by rw [hbs]; exact h6, fun j hj => ?_⟩
    obtain ⟨u, c1, c2, c3⟩ := cell_list (h8 (g0 (tabT tabs))) h5 b.el j (by rw [← hbs]; exact hj)
    refine ⟨u, by simpa using c1, c2, ?_⟩
    rw [h3]; exact c3
  · obtain ⟨k, z, h1, rfl, _⟩ := tabH_get tabs hw p b hp
    rw [num k h1]; omega
  · rintro e w' ⟨x, g', rfl, hv, _, hfr⟩
    refine ⟨by rw [hu g' x hv], hfr.os, hfr.tape, hfr.output, hfr.size, fun k hk => hfr.keep k hk fun p b base tot hp hl => ?_⟩
    obtain ⟨k', z, h1, rfl, _⟩ := tabH_get tabs hw p b hp
    rw [num k' h1] at hl; omega
end Go.Proofs.YtagjnlnnecidnaaDoor.Ev
/- The answers true, and the tables out of a row's condition. -/
namespace Go.Proofs.YtagjnlnnecidnaaDoor.Ev
set_option linter.unusedVariables false
open Go Go.RowKit

/-- The evaluator's answer is true, and the blocks can be counted. -/
noncomputable def okR (r : Res) : Bool := Res.rec false (fun v _ n => onB v (fun b => and b (Nat.blt n 9223372036854775808)) false) r
theorem okR_ok {r : Res} (h : okR r = true) : ∃ h' n', r = .ok (.b true) h' n' ∧ n' < 9223372036854775808 := by
  cases r with
  | no => cases h
  | ok v h' n' =>
    have hh : onB v (fun b => and b (Nat.blt n' 9223372036854775808)) false = true := h
    clear h
    cases v <;> simp [onB, V.asB] at hh
    obtain ⟨e1, e2⟩ := hh
    exact ⟨h', n', by rw [e1], e2⟩
theorem ranB {P : Program} (hP : P.follows .mixedOrders = true) {l : List (Nat × FnI)} (hl : Listed P l) {d f : Nat} {args : L} (hr : okR (evF (FT.of l) d f args (gK + 1) .lf (gK + 1)) = true) {vs : List Value}
    (ha : ∀ g, args.rel g vs) (w : World) : Calls P f ⟨vs⟩ w fun e w' => e = .returned (.bool true) ∧ Below w.heap.size w w' := by
  obtain ⟨h', n', h1, h2⟩ := okR_ok hr
  exact ran hP hl h1 h2 ha (fun g x hx => by simpa [V.rel] using hx) w
theorem ranTB {P : Program} (hP : P.follows .mixedOrders = true) {l : List (Nat × FnI)} (hl : Listed P l) (tabs : List (Nat × TypeId × L)) {d f : Nat} {args : L} (hr : okR (evF (FT.of l) d f args (gK + 1) (tabH tabs) (gK + 1)) = true) {vs : List Value}
    (ha : ∀ g, args.rel g vs) (w : World) (hw : Holds w tabs) : Calls P f ⟨vs⟩ w fun e w' => e = .returned (.bool true) ∧ Below w.heap.size w w' := by
  obtain ⟨h', n', h1, h2⟩ := okR_ok hr
  exact ranT hP hl tabs h1 h2 ha (fun g x hx => by simpa [V.rel] using hx) w hw

/-- A table of numbers. -/
def kL (k : IntKind) : List Int → L
  | [] => .nil
  | z :: r => .cons (.i k z) (kL k r)
theorem kL_rel (g : Sig) (k : IntKind) : ∀ zs : List Int, (kL k zs).rel g (zs.map fun z => Value.int k z)
  | [] => rfl
  | z :: r => ⟨.int k z, _, rfl, rfl, kL_rel g k r⟩
theorem kL_allC (k : IntKind) : ∀ zs : List Int, (kL k zs).allC = true
  | [] => rfl
  | z :: r => by show ((V.i k z).isC && (kL k r).allC) = true; rw [kL_allC k r]; rfl
theorem kL_length (k : IntKind) : ∀ zs : List Int, (kL k zs).length = zs.length
  | [] => rfl
  | z :: r => by show (kL k r).length + 1 = _; rw [kL_length k r]; rfl

/-- A listed table's block. -/
theorem laid_tab {P : Program} {w : World} {name : String} {k : IntKind} {zs : List Int} {g : Nat} {t e : TypeId} {n : Nat}
    (hg : P.globalNamed name = some g) (hty : (P.globals[g]?).map (·.type) = some t) (ht : P.underlying t = some (.array n e)) (he : P.underlying e = some (.int k)) (hce : P.cellsOf e = 1) (hct : P.cellsOf t = n) (hz : 0 < zs.length) :
    ∀ (l : List (String × DataW Unit)) (ps : List MemPlace), DataW.LaidVars P w l ps → (∀ b off, MemPlace.cell b off ∈ ps → ∃ c u, w.heap[b]? = some (.cells c u (0, 0))) → (name, Lib.tabData k zs) ∈ l →
    ∃ el, w.heap[g]? = some (.cells (⟨zs.map fun z => Value.int k z⟩ : Array Value) el (0, 0))
  | [], _, _, _, hm => by cases hm
  | (n', d') :: r, ps, h, hf, hm => by
    obtain ⟨g', t', cs, fuel, p, q, h1, h2, h3, h4, h5, rfl⟩ := h
    rcases List.mem_cons.1 hm with e0 | e0
    · cases e0
      obtain rfl := Option.some.inj (hg.symm.trans h1)
      obtain rfl := Option.some.inj (hty.symm.trans h2)
      have hcs := Lib.cells_of_tab ht he hce hct h4
      have hsz : 0 < cs.size := by rw [← Array.length_toList, hcs]; simpa using hz
      obtain ⟨c, u, hcu⟩ := hf g 0 (by
        refine List.mem_append_left _ (List.mem_append_left _ ?_)
        unfold MemPlace.row
        exact List.mem_map.2 ⟨0, List.mem_range.2 hsz, rfl⟩)
      refine ⟨u, ?_⟩
      have hv := h3
      simp only [World.var?, hg, Option.bind_some, hcu, Option.some.injEq] at hv
      rw [hcu, ← hcs, hv]
    · exact laid_tab hg hty ht he hce hct hz r q h5 (fun b off hb => hf b off (List.mem_append_right _ hb)) e0

theorem holds_tab {P : Program} {w : World} {laid : List (String × DataW Unit)} (hp : (laid.all fun x => x.2.handleName?.isNone) = true) (h : laidMetH P laid w) {name : String} {k : IntKind} {zs : List Int} {g : Nat} {t e : TypeId} {n : Nat}
    (hg : P.globalNamed name = some g) (hty : (P.globals[g]?).map (·.type) = some t) (ht : P.underlying t = some (.array n e)) (he : P.underlying e = some (.int k)) (hce : P.cellsOf e = 1) (hct : P.cellsOf t = n) (hz : 0 < zs.length) (hm : (name, Lib.tabData k zs) ∈ laid)
    (hgk : g < gK) (hmax : zs.length ≤ maxSize) : ∃ el, Holds w [(g, el, kL k zs)] := by
  rw [MakeChecks.laidMetH_plain _ _ _ hp] at h
  obtain ⟨ps, h1, _, h3⟩ := h
  obtain ⟨el, h4⟩ := laid_tab hg hty ht he hce hct hz laid ps h1 (fun b off hb => (h3 b off hb).1) hm
  exact ⟨el, ⟨hgk, kL_allC k zs, by rw [kL_length]; exact hmax, _, h4, fun g' => kL_rel g' k zs⟩, trivial⟩
end Go.Proofs.YtagjnlnnecidnaaDoor.Ev
/- Rounds of loops over functions: what a yield comes to. -/
namespace Go.Proofs.YtagjnlnnecidnaaDoor.Ev
set_option linter.unusedVariables false
open Go
/-- What is yielded goes into the round's own slots. -/
noncomputable def bindA : List Nat → L → Tr → Tr
  | t :: ps, .cons v l, e => bindA ps l (e.set v (tp t))
  | _, _, e => e
noncomputable def okPs (N : Nat) : List Nat → Bool
  | [] => true
  | t :: l => and (Nat.blt t N) (okPs N l)
theorem getD_setIf (tm : Array Value) (t s : Nat) (v : Value) (ht : t < tm.size) : (tm.setIfInBounds t v).getD s undef = if s = t then v else tm.getD s undef := by
  simp only [Array.getD_eq_getD_getElem?, Array.getElem?_setIfInBounds]
  by_cases h : s = t
  · subst h; simp [ht]
  · rw [if_neg (fun e => h e.symm), if_neg h]
theorem bindA_env {N : Nat} {g : Sig} (hN : N ≤ 4294967295) (hgk : GOK g) : ∀ (ps : List Nat) (as : L) (us : List Value) (e : Tr) (tm : Array Value), as.rel g us → okPs N ps = true → N ≤ tm.size →
    (∀ t, t < 4294967296 → (e.get (tp t)).rel g (tm.getD t undef)) →
    EnvA N g (bindA ps as e) { tmps := (ps.zip us).foldl (fun tm (x : Nat × Value) => tm.setIfInBounds x.1 x.2) tm, defers := [] }
  | [], as, us, e, tm, _, _, h1, h2 => ⟨h1, hgk, by simpa [bindA] using h2⟩
  | t :: ps, .nil, us, e, tm, ha, _, h1, h2 => by
    rw [L.rel] at ha; subst ha
    exact ⟨h1, hgk, h2⟩
  | t :: ps, .cons v l, us, e, tm, ha, ho, h1, h2 => by
    rw [L.rel] at ha
    obtain ⟨u, us', rfl, hu, hl⟩ := ha
    have ho : and (Nat.blt t N) (okPs N ps) = true := ho
    simp only [Bool.and_eq_true, Nat.blt_eq] at ho
    have := bindA_env hN hgk ps l us' (e.set v (tp t)) (tm.setIfInBounds t u) hl ho.2 (by simpa using h1) (fun s hs => by
      rw [Tr.get_set, getD_setIf _ _ _ _ (by omega)]
      by_cases h : s = t
      · subst h; rw [if_pos rfl, if_pos rfl]; exact hu
      · rw [if_neg (fun e => h (tp_inj hs (by omega) e)), if_neg h]; exact h2 s hs)
    exact this
noncomputable def withP (b : Blk) (k : Nat) : Blk := ⟨b.el, b.size, k, b.z, b.m⟩
/-- A loop's block whose state is the one that is asked for. -/
noncomputable def isL (b : Blk) (k : Nat) : Bool := and (Nat.beq b.pr k) (onB (b.m.get .h) (fun t => t) false)
theorem isL_ok {b : Blk} {k : Nat} (h : isL b k = true) : b.pr = k ∧ b.m.get .h = .b true := by
  unfold isL at h
  rw [Bool.and_eq_true, Nat.beq_eq] at h
  refine ⟨h.1, ?_⟩
  have := h.2
  cases hx : b.m.get .h <;> rw [hx] at this <;> simp [onB, V.asB] at this
  rw [this]
/-- The state of a loop is changed. -/
noncomputable def setY (p : Pos) (k k' : Nat) (h : Hp) (go : Hp → Res) : Res := match h.get p with
  | some b => (match b.z with
    | .cons (.lp ..) _ => Bool.rec .no (h.putK (some (withP b k')) p go) (isL b k)
    | _ => .no)
  | none => .no
theorem setY_ok {p : Pos} {k k' : Nat} {h : Hp} {go : Hp → Res} {v : V} {h' : Hp} {n' : Nat} (hr : setY p k k' h go = .ok v h' n') :
    ∃ b N ps x y z, h.get p = some b ∧ b.z = .cons (.lp N ps x y) z ∧ b.pr = k ∧ b.m.get .h = .b true ∧ go (h.put (some (withP b k')) p) = .ok v h' n' := by
  unfold setY at hr
  split at hr
  · rename_i b hb
    split at hr
    · rename_i N ps x y z hz
      cases hi : isL b k with
      | false => rw [hi] at hr; cases hr
      | true =>
        rw [hi] at hr
        have hr : h.putK (some (withP b k')) p go = .ok v h' n' := hr
        rw [Hp.putK_eq] at hr
        obtain ⟨h1, h2⟩ := isL_ok hi
        exact ⟨b, N, ps, x, y, z, hb, hz, h1, h2, hr⟩
    · cases hr
  · cases hr
/-- The world where a loop's state is changed. -/
theorem step_setY {lim n : Nat} {g : Sig} {h : Hp} {w : World} (m : Mem g h.get w) (hd : Dom h.get n) {p : Pos} {r : Nat} (hg : g p = some (r, 1, 0)) (hl : lim ≤ p.num) {b : Blk} (hb : h.get p = some b) {N : Nat} {ps : Array Nat} {x y : Code} {z : L} (hz : b.z = .cons (.lp N ps x y) z) (hm : b.m.get .h = .b true) (k' : Nat)
    (f : Loop → Loop) (hf : ∀ rec, (f rec).params = rec.params ∧ (f rec).assign = rec.assign ∧ (f rec).body = rec.body ∧ (f rec).tmps = rec.tmps) (hs : ∀ rec, loopSt b.pr rec → loopSt k' (f rec)) :
    ∃ rec, w.heap[r]? = some (.loop rec) ∧ loopRel g b rec ∧ Mem g (h.put (some (withP b k')) p).get (w.putObj r (.loop (f rec))) ∧ Fr lim n g h.get w n g (h.put (some (withP b k')) p).get (w.putObj r (.loop (f rec))) := by
  obtain ⟨h0, rec, h1, h2⟩ := loop_of m hb hg hm hz
  have e : (h.put (some (withP b k')) p).get = hput h.get p (some (withP b k')) := by
    funext q
    unfold hput
    rw [Hp.get_put]
  obtain ⟨N', ps', x', y', v0', a1, a2, a3, a4, a5, a6, a9, a7, a8⟩ := h2
  obtain ⟨f1, f2, f3, f4⟩ := hf rec
  refine ⟨rec, h1, ⟨N', ps', x', y', v0', a1, a2, a3, a4, a5, a6, a9, a7, a8⟩, ?_, ?_⟩
  · rw [e]
    exact mem_setLoop (b' := withP b k') m hb hg h0 (rec := f rec) ⟨N', ps', x', y', v0', a1, by rw [f1]; exact a2, by rw [f2]; exact a3, by rw [f3]; exact a4, by rw [f4]; exact a5, a6, by rw [f4]; exact a9, by rw [f4]; exact a7, hs rec a8⟩
  · rw [e]
    exact fr_setMap hd hb hl hg _ _
/-- What a round's body comes to: whether the next round may follow, and in what state the loop is left. -/
noncomputable def bodyY (p : Pos) (r : Rs) : Res := match r with
  | .nor _ h n => setY p 2 0 h fun h' => .ok (.b true) h' n
  | .ret _ h n => setY p 2 1 h fun h' => .ok (.b false) h' n
  | .ext id _ h n => setY p 2 (id + 3) h fun h' => .ok (.b false) h' n
  | .no => .no
/-- One round: what is yielded is assigned; the loop is busy; the body; the loop is ready again, or left. -/
noncomputable def roundY (qa qb : IC) (F : FF) (p : Pos) (e : Tr) (lim : Nat) (h : Hp) (n : Nat) : Res := match evC qa F lim e h n with
  | .nor e1 h1 n1 => setY p 0 2 h1 fun h2 => bodyY p (evC qb F lim e1 h2 n1)
  | _ => .no
noncomputable def evY (cmp : Nat → Code → Option IC) (F : FF) (args : L) (lim : Nat) (h : Hp) (n : Nat) : Res := match args with
  | .cons (.lp 0 _ _ _) (.cons (.yl p) as) => (match h.get p with
    | some b => (match b.z with
      | .cons (.lp N ps x y) (.cons v0 _) => (match cmp N x, cmp N y with
        | some qa, some qb => Bool.rec .no (roundY qa qb F p (bindA ps.toList as ((b.m.toT N).set v0 .h)) lim h n) (and (isL b 0) (and (Nat.ble lim p.num) (and (okPs N ps.toList) (and (Nat.beq as.length ps.toList.length) (and (Nat.ble N 4294967295) (and qa.noR qb.noR))))))
        | _, _ => .no)
      | _ => .no)
    | none => .no)
  | _ => .no
theorem roundPost_mono {P : Program} {l : Nat} {R R' : Ending → World → Prop} (h : ∀ e w, R e w → R' e w) {e : Exit} {a : Act} {w : World} (hp : roundPost P l R e a w) : roundPost P l R' e a w := by
  cases e <;> first | exact hp | (obtain ⟨v, w', h1, h2⟩ := hp; exact ⟨v, w', h1, h _ _ h2⟩)
section
variable {P : Program} (hP : P.follows .mixedOrders = true) {F : FF} (hF : FOK P F) (hM : F.mono) {dr : List Nat}
include hP hF hM
theorem bodyY_sound {N : Nat} {cb : Code} {qb : IC} (hq : compC P dr N cb = some qb) (hnr : qb.noR = true) {p : Pos} {lim : Nat} {e : Tr} {h : Hp} {n : Nat} {v : V} {h' : Hp} {n' : Nat} (hr : bodyY p (evC qb F lim e h n) = .ok v h' n')
    {a : Act} {g : Sig} {w : World} (he : EnvA N g e a) (m : Mem g h.get w) (hd : Dom h.get n) (hf : Fresh g n n') (hn : n' < 9223372036854775808) {r : Nat} (hg : g p = some (r, 1, 0)) (hl : lim ≤ p.num) (hpn : p.num < n) :
    cb.wpIn (Fence.wide.inRound r) 0 P (roundPost P r fun e w' => ∃ u g', e = .returned u ∧ v.rel g' u ∧ Mem g' h'.get w' ∧ Fr lim n g h.get w n' g' h'.get w') a w := by
  have fin : ∀ (k' : Nat) (t : Bool) (jump : Option Code) (h2 : Hp) (n2 : Nat), setY p 2 k' h2 (fun h' => .ok (.b t) h' n2) = .ok v h' n' → t = jump.isNone →
      (∀ rec : Loop, loopSt k' { rec with state := if jump.isNone then .ready else .done, pending := jump }) →
      ∀ (g2 : Sig) (w2 : World), Mem g2 h2.get w2 → Fr lim n g h.get w n2 g2 h2.get w2 →
      ∃ u w', (Instr.endRound r jump).run P w2 = .ok u w' ∧ ∃ u' g', Ending.returned u = .returned u' ∧ v.rel g' u' ∧ Mem g' h'.get w' ∧ Fr lim n g h.get w n' g' h'.get w' := by
    intro k' t jump h2 n2 hs ht hst g2 w2 m2 f2
    obtain ⟨b, N', ps, x, y, z, hb, hz, hpr, hm, hgo⟩ := setY_ok hs
    cases hgo
    have hg2 : g2 p = some (r, 1, 0) := by rw [f2.sig p (.inl hpn)]; exact hg
    obtain ⟨rec, h1, _, m3, f3⟩ := step_setY (lim := lim) (n := n') m2 f2.dom' hg2 hl hb hz hm k' (fun rec : Loop => { rec with state := if jump.isNone then .ready else .done, pending := jump }) (fun _ => ⟨rfl, rfl, rfl, rfl⟩) (fun rec _ => hst rec)
    exact ⟨_, _, run_endRound jump h1, _, g2, rfl, by rw [V.rel, ht], m3, f2.trans f3⟩
  cases hx : evC qb F lim e h n with
  | no => rw [hx] at hr; cases hr
  | nor e2 h2 n2 =>
    rw [hx] at hr
    have hr : setY p 2 0 h2 (fun h' => .ok (.b true) h' n2) = .ok v h' n' := hr
    have hnn : n2 = n' := by obtain ⟨_, _, _, _, _, _, _, _, _, _, hgo⟩ := setY_ok hr; cases hgo; rfl
    subst hnn
    refine wpIn_mono (evC_sound hP hF hM cb qb hq lim e h n _ hx (by simp) a g w he m hd hf hn (some r) (.inr hnr)) ?_
    rintro ex a' w' ⟨rfl, _, g2, he2, m2, f2⟩
    exact fin 0 true none h2 n2 hr rfl (fun rec => ⟨rfl, rfl⟩) g2 w' m2 f2
  | ext id e2 h2 n2 =>
    rw [hx] at hr
    have hr : setY p 2 (id + 3) h2 (fun h' => .ok (.b false) h' n2) = .ok v h' n' := hr
    have hnn : n2 = n' := by obtain ⟨_, _, _, _, _, _, _, _, _, _, hgo⟩ := setY_ok hr; cases hgo; rfl
    subst hnn
    refine wpIn_mono (evC_sound hP hF hM cb qb hq lim e h n _ hx (by simp) a g w he m hd hf hn (some r) (.inr hnr)) ?_
    rintro ex a' w' ⟨rfl, _, g2, he2, m2, f2⟩
    exact fin (id + 3) false (some (.exit id)) h2 n2 hr rfl (fun rec => ⟨rfl, rfl⟩) g2 w' m2 f2
  | ret e2 h2 n2 =>
    rw [hx] at hr
    have hr : setY p 2 1 h2 (fun h' => .ok (.b false) h' n2) = .ok v h' n' := hr
    have hnn : n2 = n' := by obtain ⟨_, _, _, _, _, _, _, _, _, _, hgo⟩ := setY_ok hr; cases hgo; rfl
    subst hnn
    refine wpIn_mono (evC_sound hP hF hM cb qb hq lim e h n _ hx (by simp) a g w he m hd hf hn (some r) (.inr hnr)) ?_
    rintro ex a' w' ⟨rfl, _, g2, he2, m2, f2⟩
    exact fin 1 false (some .ret) h2 n2 hr rfl (fun rec => ⟨rfl, rfl⟩) g2 w' m2 f2
theorem evY_sound {p : Pos} {args : L} {lim : Nat} {h : Hp} {n : Nat} {v : V} {h' : Hp} {n' : Nat} (hr : evY (fun N c => compC P dr N c) F (.cons yM (.cons (.yl p) args)) lim h n = .ok v h' n') : YldOK P p args lim h n v h' n' := by
  intro vs g w r hg ha hgk m hd hf hn
  unfold evY yM at hr
  split at hr
  case h_2 => cases hr
  rename_i heq
  cases heq
  split at hr
  case h_2 => cases hr
  rename_i b hb
  split at hr
  case h_2 => cases hr
  rename_i N ps x y v0 z0 hz
  split at hr
  case h_2 => cases hr
  rename_i qa qb hqa hqb
  cases hc : and (isL b 0) (and (Nat.ble lim p.num) (and (okPs N ps.toList) (and (Nat.beq args.length ps.toList.length) (and (Nat.ble N 4294967295) (and qa.noR qb.noR))))) with
  | false => rw [hc] at hr; cases hr
  | true =>
    rw [hc] at hr
    have hr : roundY qa qb F p (bindA ps.toList args ((b.m.toT N).set v0 .h)) lim h n = .ok v h' n' := hr
    simp only [Bool.and_eq_true, Nat.ble_eq, Nat.beq_eq] at hc
    obtain ⟨c1, hl, c3, c4, c5, c6, c7⟩ := hc
    obtain ⟨hpr, hm⟩ := isL_ok c1
    obtain ⟨h0, rec, h1, N', ps', x', y', v0', a1, a2, a3, a4, a5, a6, a9, a7, a8⟩ := loop_of m hb hg hm hz
    rw [hz] at a1
    cases a1
    have hpn : p.num < n := hd p b hb
    have hlen := L.rel_length ha
    have hy := run_yield (P := P) (w := w) (args := (⟨vs⟩ : Array Value)) h1 (by rw [a2]; show vs.length = ps.size; rw [hlen, c4]; simp)
    have hzip : ((rec.params.zip (⟨vs⟩ : Array Value)).foldl (fun tmps (x : Nat × Value) => tmps.setIfInBounds x.1 x.2) rec.tmps) = (ps.toList.zip vs).foldl (fun tm (x : Nat × Value) => tm.setIfInBounds x.1 x.2) rec.tmps := by
      rw [a2, ← Array.foldl_toList, Array.toList_zip]
    refine ⟨rec.fn, _, rec.assign, rec.body, hy, ?_⟩
    unfold roundY at hr
    split at hr
    case h_2 => cases hr
    rename_i e1 h1' n1 hx
    obtain ⟨b1, N1, ps1, x1, y1, z1, hb1, hz1, hpr1, hm1, hgo⟩ := setY_ok hr
    have hE := bindA_env (g := g) c5 hgk ps.toList args vs ((b.m.toT N).set v0 .h) rec.tmps ha c3 a5 (fun t ht => by
      rw [Tr.get_set]
      by_cases h0 : t = 0
      · subst h0; rw [if_pos (by rfl)]; exact a9
      · rw [if_neg (fun e => h0 (tp_inj ht (by omega) (e.trans (by rfl : Pos.h = tp 0))))]
        rcases toT_get b.m (tp t) N with e1 | e1
        · rw [e1]; trivial
        · rw [e1]; exact a7 t ht (by omega))
    have hg1 : n1 ≤ n' := by
      have hge := evC_ge hM qb lim e1 (h1'.put (some (withP b1 2)) p) n1
      cases hy2 : evC qb F lim e1 (h1'.put (some (withP b1 2)) p) n1 with
      | no => rw [hy2] at hgo; cases hgo
      | nor e2 h2 n2 => rw [hy2] at hgo hge; obtain ⟨_, _, _, _, _, _, _, _, _, _, hgo'⟩ := setY_ok (show setY p 2 0 h2 (fun h' => .ok (.b true) h' n2) = .ok v h' n' from hgo); cases hgo'; exact hge
      | ext id e2 h2 n2 => rw [hy2] at hgo hge; obtain ⟨_, _, _, _, _, _, _, _, _, _, hgo'⟩ := setY_ok (show setY p 2 (id + 3) h2 (fun h' => .ok (.b false) h' n2) = .ok v h' n' from hgo); cases hgo'; exact hge
      | ret e2 h2 n2 => rw [hy2] at hgo hge; obtain ⟨_, _, _, _, _, _, _, _, _, _, hgo'⟩ := setY_ok (show setY p 2 1 h2 (fun h' => .ok (.b false) h' n2) = .ok v h' n' from hgo); cases hgo'; exact hge
    rw [a3, a4]
    refine roundIn_of_wpIn trivial ?_
    have hz2 : (rec.params.zip (⟨vs⟩ : Array Value)).foldl (fun tmps (t, a) => tmps.setIfInBounds t a) rec.tmps = (ps.toList.zip vs).foldl (fun tm (x : Nat × Value) => tm.setIfInBounds x.1 x.2) rec.tmps := hzip
    rw [hz2]
    refine wpIn_mono (evC_sound hP hF hM x qa hqa lim _ h n _ hx (by simp) _ g w hE m hd (hf.sub (Nat.le_refl _) hg1) (by show n1 < _; omega) (some r) (.inr c6)) ?_
    rintro ex a1' w1 ⟨rfl, _, g1, he1, m1, f1⟩
    have hgp : g1 p = some (r, 1, 0) := by rw [f1.sig p (.inl hpn)]; exact hg
    obtain ⟨rec1, q1, q2, m2, f2⟩ := step_setY (lim := lim) (n := n1) m1 f1.dom' hgp hl hb1 hz1 hm1 2 (fun rec : Loop => { rec with state := .busy }) (fun _ => ⟨rfl, rfl, rfl, rfl⟩) (fun rec _ => rfl)
    have hst : rec1.state = .ready := by
      obtain ⟨_, _, _, _, _, _, _, _, _, _, _, _, _, z8⟩ := q2
      rw [hpr1] at z8
      exact z8.1
    refine ⟨_, run_beginRound q1 hst, ?_⟩
    have f12 := f1.trans f2
    refine wpIn_mono (bodyY_sound hP hF hM hqb c7 hgo he1 m2 f2.dom' (f1.fresh hf) hn hgp hl (by have := f1.le; omega)) ?_
    intro e a3 w3 hp3
    refine roundPost_mono ?_ hp3
    rintro e' w4 ⟨u, g', h5, h6, h7, h8⟩
    exact ⟨u, g', h5, h6, h7, f12.trans h8⟩
end
/-! The evaluator with yields. -/
theorem ge_setY {m : Nat} {p : Pos} {k k' : Nat} {h : Hp} {go : Hp → Res} (hg : ∀ h, (go h).ge m) : (setY p k k' h go).ge m := by
  cases hr : setY p k k' h go with
  | no => trivial
  | ok v h' n' =>
    obtain ⟨_, _, _, _, _, _, _, _, _, _, hgo⟩ := setY_ok hr
    have := hg (h.put (some (withP ‹Blk› k')) p)
    rw [hgo] at this
    exact this
theorem ge_bodyY {m : Nat} {p : Pos} : ∀ {r : Rs}, r.ge m → (bodyY p r).ge m
  | .no, _ => trivial
  | .nor .., h => ge_setY fun _ => h
  | .ext .., h => ge_setY fun _ => h
  | .ret .., h => ge_setY fun _ => h
theorem evY_ge {cmp : Nat → Code → Option IC} {F : FF} (hM : F.mono) (args : L) (lim : Nat) (h : Hp) (n : Nat) : (evY cmp F args lim h n).ge n := by
  unfold evY
  split
  · rename_i p as
    split
    · split
      · rename_i b _ _ N ps x y v0 _ _
        split
        · rename_i qa qb _ _
          refine ge_bool ge_no ?_
          unfold roundY
          have h1 := evC_ge hM qa lim (bindA ps.toList as ((b.m.toT N).set v0 .h)) h n
          split
          · rename_i e1 h1' n1 hx
            rw [hx] at h1
            exact ge_setY fun _ => ge_bodyY (Rs.ge_mono h1 (evC_ge hM qb lim _ _ _))
          · trivial
        · trivial
      · trivial
    · trivial
  · trivial
noncomputable def evG (cmp : Nat → Code → Option IC) (PR : FT) (d : Nat) : FF :=
  Nat.rec (motive := fun _ => FF) (fun _ _ _ _ _ => .no) (fun _ ih f args lim h n => Bool.rec (Bool.rec .no (evY cmp ih args lim h n) (Nat.beq f YID)) (Option.rec (motive := fun _ => Res) .no (fun fi => runF fi ih args lim h n) (PR.at (Nat.succ f))) (and (Nat.ble f 4294967294) (Nat.ble args.length 4294967294))) d
theorem evG_mono (cmp : Nat → Code → Option IC) (PR : FT) : ∀ d, (evG cmp PR d).mono
  | 0 => fun _ _ _ _ _ => trivial
  | d + 1 => fun f args lim h n => by
    have hM := evG_mono cmp PR d
    show (Bool.rec (Bool.rec .no (evY cmp (evG cmp PR d) args lim h n) (Nat.beq f YID)) (Option.rec (motive := fun _ => Res) .no (fun fi => runF fi (evG cmp PR d) args lim h n) (PR.at (Nat.succ f))) (and (Nat.ble f 4294967294) (Nat.ble args.length 4294967294)) : Res).ge n
    refine ge_bool (ge_bool ge_no (evY_ge hM ..)) ?_
    cases PR.at (Nat.succ f) with
    | none => trivial
    | some fi =>
      obtain ⟨bar, drop, q, res⟩ := fi
      show (Bool.rec (runB false q res (evG cmp PR d) args lim h n) (Bool.rec .no (runB drop q res (evG cmp PR d) args n h n) (Nat.ble lim n)) bar : Res).ge n
      cases bar
      · exact ge_runB hM _ _ _ _ _ _ _
      · cases Nat.ble lim n
        · trivial
        · exact ge_runB hM _ _ _ _ _ _ _
theorem evY_args {cmp : Nat → Code → Option IC} {F : FF} {args : L} {lim : Nat} {h : Hp} {n : Nat} {v : V} {h' : Hp} {n' : Nat} (hr : evY cmp F args lim h n = .ok v h' n') {g : Sig} {vs : List Value} (ha : args.rel g vs) : False := by
  unfold evY at hr
  split at hr
  · rw [L.rel] at ha
    obtain ⟨u, us, _, h1, _⟩ := ha
    rw [V.rel] at h1
    exact h1.1 rfl
  · cases hr
theorem evG_sound {P : Program} (hP : P.follows .mixedOrders = true) {drs : List Nat} {l : List (Nat × FnI)} (hl : Listed P l) : ∀ d, FOK P (evG (fun N c => compC P drs N c) (FT.of l) d)
  | 0 => ⟨fun f args lim h n v h' n' hr => (by cases hr), fun p args lim h n v h' n' hr => (by cases hr)⟩
  | d + 1 => by
    have ih := evG_sound hP (drs := drs) hl d
    have hM := evG_mono (fun N c => compC P drs N c) (FT.of l) d
    refine ⟨fun f args lim h n v h' n' hr => ?_, fun p args lim h n v h' n' hr => by
      have hr : (Bool.rec (Bool.rec .no (evY (fun N c => compC P drs N c) (evG (fun N c => compC P drs N c) (FT.of l) d) (.cons yM (.cons (.yl p) args)) lim h n) (Nat.beq YID YID)) (Option.rec (motive := fun _ => Res) .no (fun fi => runF fi (evG (fun N c => compC P drs N c) (FT.of l) d) (.cons yM (.cons (.yl p) args)) lim h n) ((FT.of l).at (Nat.succ YID))) (and (Nat.ble YID 4294967294) (Nat.ble (L.cons yM (.cons (.yl p) args)).length 4294967294)) : Res) = .ok v h' n' := hr
      rw [show Nat.ble YID 4294967294 = false by decide, show Nat.beq YID YID = true by decide] at hr
      exact evY_sound hP ih hM hr⟩
    intro vs g w ha hgk m hd hf hn
    have hr : (Bool.rec (Bool.rec .no (evY (fun N c => compC P drs N c) (evG (fun N c => compC P drs N c) (FT.of l) d) args lim h n) (Nat.beq f YID)) (Option.rec (motive := fun _ => Res) .no (fun fi => runF fi (evG (fun N c => compC P drs N c) (FT.of l) d) args lim h n) ((FT.of l).at (Nat.succ f))) (and (Nat.ble f 4294967294) (Nat.ble args.length 4294967294)) : Res) = .ok v h' n' := hr
    cases hb : and (Nat.ble f 4294967294) (Nat.ble args.length 4294967294)
    · rw [hb] at hr
      cases hy : Nat.beq f YID
      · rw [hy] at hr; cases hr
      · rw [hy] at hr
        exact (evY_args hr ha).elim
    · rw [hb] at hr
      simp only [Bool.and_eq_true, Nat.ble_eq] at hb
      cases hat : (FT.of l).at (Nat.succ f) with
      | none => rw [hat] at hr; cases hr
      | some fi =>
        rw [hat] at hr
        have hr : runF fi (evG (fun N c => compC P drs N c) (FT.of l) d) args lim h n = .ok v h' n' := hr
        have hmem := FT.of_mem l (fun x hx => (hl x hx).1) f fi (by omega) hat
        obtain ⟨_, fn, dr, bar, drop, hfn, hcomp⟩ := hl _ hmem
        have hfn : P.funcs[f]? = some fn := hfn
        have hcomp : compF P dr bar drop fn = some fi := hcomp
        unfold compF at hcomp
        split at hcomp
        case h_2 => cases hcomp
        rename_i c hbody
        split at hcomp
        case h_2 => cases hcomp
        rename_i q res hq hres
        split at hcomp
        case isTrue => cases hcomp
        rename_i hname
        cases hcomp
        refine ⟨⟨fn, hfn, by simpa using hname, by rw [hbody]; rfl⟩, ?_⟩
        have hr : (Bool.rec (runB false q res (evG (fun N c => compC P drs N c) (FT.of l) d) args lim h n) (Bool.rec .no (runB drop q res (evG (fun N c => compC P drs N c) (FT.of l) d) args n h n) (Nat.ble lim n)) bar : Res) = .ok v h' n' := hr
        cases bar with
        | false => exact runB_sound hP ih hM hfn hbody hq hres false hr (fun h => by cases h) ha hgk (by omega) m hd hf hn
        | true =>
          cases hlim : Nat.ble lim n
          · rw [hlim] at hr; cases hr
          · rw [hlim] at hr
            rw [Nat.ble_eq] at hlim
            refine (runB_sound hP ih hM hfn hbody hq hres drop hr (fun _ => rfl) ha hgk (by omega) m hd hf hn).mono ?_
            rintro e w' ⟨u, g', h1, h2, h3, h4⟩
            exact ⟨u, g', h1, h2, h3, h4.weak hlim⟩
end Go.Proofs.YtagjnlnnecidnaaDoor.Ev
/- Answers, by whatever does the calls. -/
namespace Go.Proofs.YtagjnlnnecidnaaDoor.Ev
set_option linter.unusedVariables false
open Go Go.RowKit
/-- From the evaluator's answer to the call, in any world. -/
theorem ranF {P : Program} {F : FF} (hF : FOK P F) {f : Nat} {args : L} {v : V} {h' : Hp} {n' : Nat} (hr : F f args (gK + 1) .lf (gK + 1) = .ok v h' n') (hn : n' < 9223372036854775808) {vs : List Value} {u : Value}
    (ha : ∀ g, args.rel g vs) (hu : ∀ g x, v.rel g x → x = u) (w : World) : Calls P f ⟨vs⟩ w fun e w' => e = .returned u ∧ Below w.heap.size w w' := by
  have h0 : ∀ p, (Hp.get p .lf) = none := Hp.get_lf
  refine (hF.1 f args (gK + 1) .lf (gK + 1) v h' n' hr vs (g0 fun _ => 0) w (ha _) (g0_ok _) ⟨fun p q bp bq _ _ _ _ _ hp => ?_, fun p b hp => ?_⟩ (fun p b hp => ?_) (g0_fresh _ _) hn).2.mono ?_
  · have := (h0 _).symm.trans hp; cases this
  · have := (h0 _).symm.trans hp; cases this
  · have := (h0 _).symm.trans hp; cases this
  · rintro e w' ⟨x, g', rfl, hv, _, hfr⟩
    refine ⟨by rw [hu g' x hv], hfr.os, hfr.tape, hfr.output, hfr.size, fun k hk => hfr.keep k hk fun p b base tot hp => ?_⟩
    have := (h0 _).symm.trans hp; cases this

/-- The same, in a world that holds tables. -/
theorem ranTF {P : Program} {F : FF} (hF : FOK P F) (tabs : List (Nat × TypeId × L)) {f : Nat} {args : L} {v : V} {h' : Hp} {n' : Nat} (hr : F f args (gK + 1) (tabH tabs) (gK + 1) = .ok v h' n') (hn : n' < 9223372036854775808) {vs : List Value} {u : Value}
    (ha : ∀ g, args.rel g vs) (hu : ∀ g x, v.rel g x → x = u) (w : World) (hw : Holds w tabs) : Calls P f ⟨vs⟩ w fun e w' => e = .returned u ∧ Below w.heap.size w w' := by
  have num : ∀ k, k < gK → (tp k).num = k + 1 := fun k hk => num_posF 63 (k + 1) (by omega) (by unfold gK at hk; omega)
  have hg : ∀ k, k < gK → g0 (tabT tabs) (tp k) = some (k, 0, tabT tabs k) := fun k hk => by
    unfold g0; rw [num k hk, if_pos (by omega)]; simp
  refine (hF.1 f args (gK + 1) (tabH tabs) (gK + 1) v h' n' hr vs (g0 (tabT tabs)) w (ha _) (g0_ok _) ⟨fun p q bp bq r b1 t1 b2 t2 hp hq e1 e2 => ?_, fun p b hp => ?_⟩ (fun p b hp => ?_) (g0_fresh _ _) hn).2.mono ?_
  · obtain ⟨k, z, h1, rfl, _⟩ := tabH_get tabs hw p bp hp
    obtain ⟨k', z', h1', rfl, _⟩ := tabH_get tabs hw q bq hq
    rw [hg k h1] at e1
    rw [hg k' h1'] at e2
    cases e1; cases e2; rfl
  · obtain ⟨k, z, h1, rfl, h3, h4, h5, h6, vs, h7, h8⟩ := tabH_get tabs hw p b hp
    have hlen : vs.length = z.length := L.rel_length (h8 (fun _ => none))
    have hbs : b.size = z.length := by rw [h3]
    refine ⟨k, 0, tabT tabs k, ⟨vs⟩, hg k h1, .inl ⟨RowIs.of h7, Nat.zero_le _⟩, by rw [h4]; simpa using hlen, .inr (by rw [h4, hbs]; simp), by rw [hbs]; exact h6, fun j hj => ?_⟩
    obtain ⟨u, c1, c2, c3⟩ := cell_list (h8 (g0 (tabT tabs))) h5 b.el j (by rw [← hbs]; exact hj)
    refine ⟨u, by simpa using c1, c2, ?_⟩
    rw [h3]; exact c3
  · obtain ⟨k, z, h1, rfl, _⟩ := tabH_get tabs hw p b hp
    rw [num k h1]; omega
  · rintro e w' ⟨x, g', rfl, hv, _, hfr⟩
    refine ⟨by rw [hu g' x hv], hfr.os, hfr.tape, hfr.output, hfr.size, fun k hk => hfr.keep k hk fun p b base tot hp hl => ?_⟩
    obtain ⟨k', z, h1, rfl, _⟩ := tabH_get tabs hw p b hp
    rw [num k' h1] at hl; omega
theorem ranBF {P : Program} {F : FF} (hF : FOK P F) {f : Nat} {args : L} (hr : okR (F f args (gK + 1) .lf (gK + 1)) = true) {vs : List Value}
    (ha : ∀ g, args.rel g vs) (w : World) : Calls P f ⟨vs⟩ w fun e w' => e = .returned (.bool true) ∧ Below w.heap.size w w' := by
  obtain ⟨h', n', h1, h2⟩ := okR_ok hr
  exact ranF hF h1 h2 ha (fun g x hx => by simpa [V.rel] using hx) w
theorem ranTBF {P : Program} {F : FF} (hF : FOK P F) (tabs : List (Nat × TypeId × L)) {f : Nat} {args : L} (hr : okR (F f args (gK + 1) (tabH tabs) (gK + 1)) = true) {vs : List Value}
    (ha : ∀ g, args.rel g vs) (w : World) (hw : Holds w tabs) : Calls P f ⟨vs⟩ w fun e w' => e = .returned (.bool true) ∧ Below w.heap.size w w' := by
  obtain ⟨h', n', h1, h2⟩ := okR_ok hr
  exact ranTF hF tabs h1 h2 ha (fun g x hx => by simpa [V.rel] using hx) w hw

end Go.Proofs.YtagjnlnnecidnaaDoor.Ev
/- A calculus over the evaluator's states: pieces are run, loops go by their states, functions have contracts. -/
namespace Go.Proofs.YtagjnlnnecidnaaDoor.Ev
set_option linter.unusedVariables false
open Go

def FreshA (g : Sig) (n : Nat) : Prop := ∀ p : Pos, n ≤ p.num → g p = none
theorem FreshA.to {g : Sig} {n : Nat} (h : FreshA g n) (m : Nat) : Fresh g n m := fun p a _ => h p a
section
variable {lim n n' : Nat} {g g' : Sig} {h h' : Hm} {w w' : World}
theorem Fr.freshA (f : Fr lim n g h w n' g' h' w') (hf : FreshA g n) : FreshA g' n' := fun p hp => by
  rw [f.sig p (.inr hp)]; exact hf p (Nat.le_trans f.le hp)
end

/-! States that know less. -/
def EnvLe (e0 e : Tr) : Prop := ∀ t, t < 4294967296 → e0.get (tp t) = .bad ∨ e0.get (tp t) = e.get (tp t)
def BlkLe (b0 b : Blk) : Prop := (b0.m = .lf ∨ b0 = b) ∧ b0.el = b.el ∧ b0.size ≤ b.size ∧ ∀ k, k < b0.size → b0.cell k = .bad ∨ b0.cell k = b.cell k
def HpLe (h0 h : Hp) : Prop := ∀ p b0, h0.get p = some b0 → ∃ b, h.get p = some b ∧ BlkLe b0 b
theorem BlkLe.refl (b : Blk) : BlkLe b b := ⟨.inr rfl, rfl, Nat.le_refl _, fun _ _ => .inr rfl⟩
theorem HpLe.refl (h : Hp) : HpLe h h := fun p b e => ⟨b, e, BlkLe.refl b⟩
theorem HpLe.lf (h : Hp) : HpLe .lf h := fun p b e => by rw [Hp.get_lf] at e; cases e
theorem EnvLe.refl (e : Tr) : EnvLe e e := fun _ _ => .inr rfl
theorem EnvLe.lf (e : Tr) : EnvLe .lf e := fun _ _ => .inl (Tr.get_lf _)
theorem EnvLe.set {e0 e : Tr} {v : V} {t : Nat} (ht : t < 4294967296) (hv : e.get (tp t) = v) (h : EnvLe e0 e) : EnvLe (e0.set v (tp t)) e := fun u hu => by
  rw [Tr.get_set]
  by_cases hut : u = t
  · subst hut; rw [if_pos rfl]; exact .inr hv.symm
  · rw [if_neg (fun e => hut (tp_inj hu ht e))]; exact h u hu
theorem EnvA.weak {N : Nat} {g : Sig} {e0 e : Tr} {a : Act} (hl : EnvLe e0 e) (h : EnvA N g e a) : EnvA N g e0 a := ⟨h.sz, h.glo, fun t ht => by
  rcases hl t ht with e1 | e1
  · rw [e1]; trivial
  · rw [e1]; exact h.rel t ht⟩
theorem Mem.weak {g : Sig} {h0 h : Hp} {w : World} (hl : HpLe h0 h) (m : Mem g h.get w) : Mem g h0.get w where
  inj := fun p q bp bq r b1 t1 b2 t2 hp hq e1 e2 => by
    obtain ⟨x, hx, _⟩ := hl p bp hp
    obtain ⟨y, hy, _⟩ := hl q bq hq
    exact m.inj p q x y r b1 t1 b2 t2 hx hy e1 e2
  blk := fun p b0 hp => by
    obtain ⟨b, hb, e0, e1, e2, e3⟩ := hl p b0 hp
    obtain ⟨r, base, tot, cur, h1, h2, h3, h4, h5, h6⟩ := m.blk p b hb
    refine ⟨r, base, tot, cur, h1, (by
      rcases e0 with e0 | e0
      · have := h2.cut (g' := g) (off := 0) e1 (by omega) h4 e0
        exact this
      · subst e0; exact h2), h3, by omega, by omega, fun k hk => ?_⟩
    obtain ⟨v, c1, c2, c3⟩ := h6 k (by omega)
    refine ⟨v, c1, c2, ?_⟩
    rcases e3 k hk with e | e
    · rw [e]; trivial
    · rw [e]; exact c3
theorem Dom.weak {h0 h : Hp} {n : Nat} (hl : HpLe h0 h) (d : Dom h.get n) : Dom h0.get n := fun p b0 hp => by
  obtain ⟨b, hb, _⟩ := hl p b0 hp
  exact d p b hb
theorem Fr.weakH {lim n n' : Nat} {g g' : Sig} {h0 h : Hp} {h' : Hm} {w w' : World} (hl : HpLe h0 h) (f : Fr lim n g h0.get w n' g' h' w') : Fr lim n g h.get w n' g' h' w' :=
  { f with
    keep := fun r hr hW => f.keep r hr fun p b0 base tot hp hlp => by
      obtain ⟨b, hb, _⟩ := hl p b0 hp
      exact hW p b base tot hb hlp
    dom := fun p b e => ⟨fun hn => by
      obtain ⟨b0, hb0⟩ := (f.dom p b e).1 hn
      obtain ⟨b', hb', _⟩ := hl p b0 hb0
      exact ⟨b', hb'⟩, (f.dom p b e).2⟩
    new := fun p r base tot a b e => (f.new p r base tot a b e).imp id fun ⟨q, b0, x, y, hq, hql, he⟩ => by
      obtain ⟨b', hb', _⟩ := hl q b0 hq
      exact ⟨q, b', x, y, hb', hql, he⟩ }
theorem Fr.weakT {lim n n' : Nat} {g g' : Sig} {h : Hm} {h0 h' : Hp} {w w' : World} (hl : HpLe h0 h') (f : Fr lim n g h w n' g' h'.get w') : Fr lim n g h w n' g' h0.get w' :=
  ⟨f.le, f.os, f.tape, f.output, f.size, f.keep, f.sig, fun p b0 e => by
    obtain ⟨b, hb, _⟩ := hl p b0 e
    exact f.dom p b hb, f.new⟩
theorem Post.weak {N lim n : Nat} {g : Sig} {h0 h : Hp} {w : World} {a : Act} (hl : HpLe h0 h) : ∀ {r : Rs} {ex : Exit} {a' : Act} {w' : World}, Post N lim g h0 w n a r ex a' w' → Post N lim g h w n a r ex a' w'
  | .nor .., _, _, _, ⟨x, k, g', y, z, f⟩ => ⟨x, k, g', y, z, f.weakH hl⟩
  | .ext .., _, _, _, ⟨x, k, g', y, z, f⟩ => ⟨x, k, g', y, z, f.weakH hl⟩
  | .ret .., _, _, _, ⟨x, k, g', y, z, f⟩ => ⟨x, k, g', y, z, f.weakH hl⟩

/-! The judgement. -/
def big : Nat := 9223372036854775808
def JQ (P : Program) (dr : List Nat) (N : Nat) (F : FF) (q : IC) (lim : Nat) (K : Rs → Prop) (e : Tr) (h : Hp) (n : Nat) : Prop :=
  ∀ c, compC P dr N c = some q → ∀ (a : Act) g w, EnvA N g e a → Mem g h.get w → Dom h.get n → FreshA g n →
    c.wp P (fun ex a' w' => ∃ r, K r ∧ r.top < big ∧ Post N lim g h w n a r ex a' w') a w
/-- What a piece comes to is something, and so. -/
def Got (K : Rs → Prop) : Rs → Prop
  | .no => False
  | .nor e h n => n < big ∧ K (.nor e h n)
  | .ext i e h n => n < big ∧ K (.ext i e h n)
  | .ret e h n => n < big ∧ K (.ret e h n)
def Kseq (J : Tr → Hp → Nat → Prop) (K : Rs → Prop) : Rs → Prop
  | .no => False
  | .nor e h n => J e h n
  | .ext i e h n => K (.ext i e h n)
  | .ret e h n => K (.ret e h n)
def Kblk (id : Nat) (K : Rs → Prop) : Rs → Prop
  | .no => False
  | .nor e h n => K (.nor e h n)
  | .ext i e h n => if i = id then K (.nor e h n) else K (.ext i e h n)
  | .ret e h n => K (.ret e h n)

section
variable {P : Program} {dr : List Nat} {N lim n : Nat} {F : FF} {q qa qb : IC} {K K' : Rs → Prop} {e e0 : Tr} {h h0 : Hp}

theorem JQ.mono (hk : ∀ r, K r → K' r) (j : JQ P dr N F q lim K e h n) : JQ P dr N F q lim K' e h n := fun c hc a g w he m hd hf =>
  wp_mono (j c hc a g w he m hd hf) fun _ _ _ ⟨r, k, t, p⟩ => ⟨r, hk r k, t, p⟩
theorem JQ.weak (h1 : EnvLe e0 e) (h2 : HpLe h0 h) (j : JQ P dr N F q lim K e0 h0 n) : JQ P dr N F q lim K e h n := fun c hc a g w he m hd hf =>
  wp_mono (j c hc a g w (he.weak h1) (m.weak h2) (Dom.weak h2 hd) hf) fun _ _ _ ⟨r, k, t, p⟩ => ⟨r, k, t, p.weak h2⟩
theorem JQ.run (hP : P.follows .mixedOrders = true) (hF : FOK P F) (hM : F.mono) (hk : Got K (evC q F lim e h n)) : JQ P dr N F q lim K e h n := fun c hc a g w he m hd hf => by
  cases hr : evC q F lim e h n with
  | no => rw [hr] at hk; exact hk.elim
  | nor e1 h1 n1 =>
    rw [hr] at hk
    exact wp_mono (wpIn_none (evC_sound hP hF hM c q hc lim e h n _ hr (by simp) a g w he m hd (hf.to _) hk.1 none (.inl rfl))) fun _ _ _ hp => ⟨_, hk.2, hk.1, hp⟩
  | ext i e1 h1 n1 =>
    rw [hr] at hk
    exact wp_mono (wpIn_none (evC_sound hP hF hM c q hc lim e h n _ hr (by simp) a g w he m hd (hf.to _) hk.1 none (.inl rfl))) fun _ _ _ hp => ⟨_, hk.2, hk.1, hp⟩
  | ret e1 h1 n1 =>
    rw [hr] at hk
    exact wp_mono (wpIn_none (evC_sound hP hF hM c q hc lim e h n _ hr (by simp) a g w he m hd (hf.to _) hk.1 none (.inl rfl))) fun _ _ _ hp => ⟨_, hk.2, hk.1, hp⟩

/-- Scopes are looked through. -/
theorem JQ.scoped (hj : ∀ c, compC P dr N c = some q → (∀ b, c ≠ .scope b) → ∀ (a : Act) g w, EnvA N g e a → Mem g h.get w → Dom h.get n → FreshA g n →
    c.wp P (fun ex a' w' => ∃ r, K r ∧ r.top < big ∧ Post N lim g h w n a r ex a' w') a w) : JQ P dr N F q lim K e h n
  | .scope b, hc, a, g, w, he, m, hd, hf => by
    refine wp_scope_straight (wp_mono (JQ.scoped hj b (by simpa only [compC] using hc) a g w he m hd hf) ?_)
    rintro ex a' w' ⟨r, k, t, p⟩
    cases r with
    | no => exact p.elim
    | nor => have hx := p.1; subst hx; exact ⟨_, k, t, p⟩
    | ext => have hx := p.1; subst hx; exact ⟨_, k, t, p⟩
    | ret => have hx := p.1; subst hx; exact ⟨_, k, t, p⟩
  | .skip, hc, a, g, w, he, m, hd, hf => hj _ hc (fun b => by simp) a g w he m hd hf
  | .region .., hc, a, g, w, he, m, hd, hf => hj _ hc (fun b => by simp) a g w he m hd hf
  | .seq .., hc, a, g, w, he, m, hd, hf => hj _ hc (fun b => by simp) a g w he m hd hf
  | .cond .., hc, a, g, w, he, m, hd, hf => hj _ hc (fun b => by simp) a g w he m hd hf
  | .block .., hc, a, g, w, he, m, hd, hf => hj _ hc (fun b => by simp) a g w he m hd hf
  | .loop .., hc, a, g, w, he, m, hd, hf => hj _ hc (fun b => by simp) a g w he m hd hf
  | .rangeFunc .., hc, a, g, w, he, m, hd, hf => hj _ hc (fun b => by simp) a g w he m hd hf
  | .exit .., hc, a, g, w, he, m, hd, hf => hj _ hc (fun b => by simp) a g w he m hd hf
  | .label .., hc, a, g, w, he, m, hd, hf => hj _ hc (fun b => by simp) a g w he m hd hf
  | .goto .., hc, a, g, w, he, m, hd, hf => hj _ hc (fun b => by simp) a g w he m hd hf
  | .ret, hc, a, g, w, he, m, hd, hf => hj _ hc (fun b => by simp) a g w he m hd hf
  | .refuse .., hc, a, g, w, he, m, hd, hf => hj _ hc (fun b => by simp) a g w he m hd hf

theorem compC_seq {c : Code} (hc : compC P dr N c = some (.seq qa qb)) (hs : ∀ b, c ≠ .scope b) : ∃ a b, c = .seq a b ∧ compC P dr N a = some qa ∧ compC P dr N b = some qb := by
  cases c with
  | seq a b =>
    simp only [compC] at hc
    split at hc
    · rename_i h1 h2; cases hc; exact ⟨a, b, rfl, h1, h2⟩
    · cases hc
  | scope b => exact absurd rfl (hs b)
  | cond => simp only [compC] at hc; split at hc <;> cases hc
  | block => simp only [compC, Option.map_eq_some_iff] at hc; obtain ⟨_, _, e⟩ := hc; cases e
  | loop => simp only [compC, Option.map_eq_some_iff] at hc; obtain ⟨_, _, e⟩ := hc; cases e
  | region id ops d => cases d <;> (simp only [compC] at hc; split at hc <;> cases hc)
  | rangeFunc => simp only [compC] at hc; split at hc <;> cases hc
  | _ => simp [compC] at hc
theorem compC_cond {x : X} {c : Code} (hc : compC P dr N c = some (.cond x qa qb)) (hs : ∀ b, c ≠ .scope b) : ∃ ox a b, c = .cond ox a b ∧ compX ox = some x ∧ compC P dr N a = some qa ∧ compC P dr N b = some qb := by
  cases c with
  | cond ox a b =>
    simp only [compC] at hc
    split at hc
    · rename_i h1 h2 h3; cases hc; exact ⟨ox, a, b, rfl, h1, h2, h3⟩
    · cases hc
  | scope b => exact absurd rfl (hs b)
  | seq => simp only [compC] at hc; split at hc <;> cases hc
  | block => simp only [compC, Option.map_eq_some_iff] at hc; obtain ⟨_, _, e⟩ := hc; cases e
  | loop => simp only [compC, Option.map_eq_some_iff] at hc; obtain ⟨_, _, e⟩ := hc; cases e
  | region id ops d => cases d <;> (simp only [compC] at hc; split at hc <;> cases hc)
  | rangeFunc => simp only [compC] at hc; split at hc <;> cases hc
  | _ => simp [compC] at hc
theorem compC_block {id : Nat} {c : Code} (hc : compC P dr N c = some (.block id qb)) (hs : ∀ b, c ≠ .scope b) : ∃ b, c = .block id b ∧ compC P dr N b = some qb := by
  cases c with
  | block i b => simp only [compC, Option.map_eq_some_iff] at hc; obtain ⟨_, h1, e⟩ := hc; cases e; exact ⟨b, rfl, h1⟩
  | scope b => exact absurd rfl (hs b)
  | seq => simp only [compC] at hc; split at hc <;> cases hc
  | cond => simp only [compC] at hc; split at hc <;> cases hc
  | loop => simp only [compC, Option.map_eq_some_iff] at hc; obtain ⟨_, _, e⟩ := hc; cases e
  | region id ops d => cases d <;> (simp only [compC] at hc; split at hc <;> cases hc)
  | rangeFunc => simp only [compC] at hc; split at hc <;> cases hc
  | _ => simp [compC] at hc
theorem compC_loop {c : Code} (hc : compC P dr N c = some (.loop qb)) (hs : ∀ b, c ≠ .scope b) : ∃ b, c = .loop b ∧ compC P dr N b = some qb := by
  cases c with
  | loop b => simp only [compC, Option.map_eq_some_iff] at hc; obtain ⟨_, h1, e⟩ := hc; cases e; exact ⟨b, rfl, h1⟩
  | scope b => exact absurd rfl (hs b)
  | seq => simp only [compC] at hc; split at hc <;> cases hc
  | cond => simp only [compC] at hc; split at hc <;> cases hc
  | block => simp only [compC, Option.map_eq_some_iff] at hc; obtain ⟨_, _, e⟩ := hc; cases e
  | region id ops d => cases d <;> (simp only [compC] at hc; split at hc <;> cases hc)
  | rangeFunc => simp only [compC] at hc; split at hc <;> cases hc
  | _ => simp [compC] at hc

theorem JQ.seq (j : JQ P dr N F qa lim (Kseq (JQ P dr N F qb lim K) K) e h n) : JQ P dr N F (.seq qa qb) lim K e h n := by
  refine JQ.scoped fun c hc hs a g w he m hd hf => ?_
  obtain ⟨x, y, rfl, h1, h2⟩ := compC_seq hc hs
  refine wp_seq (wp_mono (j x h1 a g w he m hd hf) ?_)
  rintro ex a' w' ⟨r, k, t, p⟩
  cases r with
  | no => exact p.elim
  | nor e1 h1' n1 =>
    obtain ⟨rfl, k1, g1, he1, m1, f1⟩ := p
    exact wp_mono (k y h2 a' g1 w' he1 m1 f1.dom' (f1.freshA hf)) fun _ _ _ ⟨r, k, t, p⟩ => ⟨r, k, t, p.trans k1 f1⟩
  | ext i e1 h1' n1 => obtain ⟨rfl, p⟩ := p; exact ⟨_, k, t, rfl, p⟩
  | ret e1 h1' n1 => obtain ⟨rfl, p⟩ := p; exact ⟨_, k, t, rfl, p⟩
theorem JQ.cond {x : X} {t : Bool} (hx : evX x e = .b t) (ha : t = true → JQ P dr N F qa lim K e h n) (hb : t = false → JQ P dr N F qb lim K e h n) : JQ P dr N F (.cond x qa qb) lim K e h n := by
  refine JQ.scoped fun c hc hs a g w he m hd hf => ?_
  obtain ⟨ox, y, z, rfl, h1, h2, h3⟩ := compC_cond hc hs
  have rx := he.ok ox x h1
  rw [hx, V.rel] at rx
  cases t
  · exact wp_cond_false rx (hb rfl z h3 a g w he m hd hf)
  · exact wp_cond_true rx (ha rfl y h2 a g w he m hd hf)
theorem JQ.block {id : Nat} (j : JQ P dr N F qb lim (Kblk id K) e h n) : JQ P dr N F (.block id qb) lim K e h n := by
  refine JQ.scoped fun c hc hs a g w he m hd hf => ?_
  obtain ⟨b, rfl, h1⟩ := compC_block hc hs
  refine wp_block (wp_mono (j b h1 a g w he m hd hf) ?_)
  rintro ex a' w' ⟨r, k, t, p⟩
  cases r with
  | no => exact p.elim
  | nor e1 h1' n1 => obtain ⟨rfl, p⟩ := p; exact ⟨_, k, t, rfl, p⟩
  | ext i e1 h1' n1 =>
    obtain ⟨rfl, p⟩ := p
    show if i = id then _ else _
    have k : if i = id then K (.nor e1 h1' n1) else K (.ext i e1 h1' n1) := k
    by_cases hi : i = id
    · rw [if_pos hi] at k ⊢; exact ⟨_, k, t, rfl, p⟩
    · rw [if_neg hi] at k ⊢; exact ⟨_, k, t, rfl, p⟩
  | ret e1 h1' n1 => obtain ⟨rfl, p⟩ := p; exact ⟨_, k, t, rfl, p⟩

/-- A loop by its states: each round ends in another state with a smaller measure, or leaves. -/
def Klp {σ : Type} (I : σ → Prop) (env : σ → Tr) (hp : σ → Hp) (nx : σ → Nat) (m : σ → Nat) (s : σ) (K : Rs → Prop) : Rs → Prop
  | .no => False
  | .nor e' h' n' => ∃ s', I s' ∧ m s' < m s ∧ EnvLe (env s') e' ∧ HpLe (hp s') h' ∧ nx s' = n'
  | .ext i e h n => K (.ext i e h n)
  | .ret e h n => K (.ret e h n)
theorem JQ.loop {σ : Type} (I : σ → Prop) (env : σ → Tr) (hp : σ → Hp) (nx : σ → Nat) (m : σ → Nat) (s0 : σ) (hI : I s0) (h1 : EnvLe (env s0) e) (h2 : HpLe (hp s0) h) (h3 : nx s0 = n)
    (round : ∀ s, I s → JQ P dr N F qb lim (Klp I env hp nx m s K) (env s) (hp s) (nx s)) : JQ P dr N F (.loop qb) lim K e h n := by
  subst h3
  refine JQ.weak h1 h2 (JQ.scoped fun c hc hs a g w he md hd hf => ?_)
  obtain ⟨b, rfl, hb⟩ := compC_loop hc hs
  have key : ∀ (k : Nat) (s : σ), I s → m s < k → ∀ (a1 : Act) (g1 : Sig) (w1 : World), EnvA N g1 (env s) a1 → Mem g1 (hp s).get w1 → Dom (hp s).get (nx s) → FreshA g1 (nx s) →
      Fr lim (nx s0) g (hp s0).get w (nx s) g1 (hp s).get w1 → MkK w a w1 a1 →
      Code.rounds P b (fun ex a' w' => ∃ r, K r ∧ r.top < big ∧ Post N lim g (hp s0) w (nx s0) a r ex a' w') k a1 w1 := by
    intro k
    induction k with
    | zero => intro s _ hm; omega
    | succ k ih =>
      intro s hs hm a1 g1 w1 he1 m1 hd1 hf1 f1 kk1
      rw [rounds_succ]
      refine wp_mono (round s hs b hb a1 g1 w1 he1 m1 hd1 hf1) ?_
      rintro ex a' w' ⟨r, k', t, p⟩
      cases r with
      | no => exact p.elim
      | nor e2 h2' n2 =>
        obtain ⟨rfl, k2, g2, he2, m2, f2⟩ := p
        obtain ⟨s', hI', hms, hle, hph, rfl⟩ := k'
        refine ih s' hI' (by omega) a' g2 w' (he2.weak hle) (m2.weak hph) (Dom.weak hph f2.dom') (f2.freshA hf1) ?_ (kk1.trans k2)
        exact (f1.trans f2).weakT hph
      | ext i e2 h2' n2 => obtain ⟨rfl, p⟩ := p; exact ⟨_, k', t, Post.trans kk1 f1 (r := .ext i e2 h2' n2) ⟨rfl, p⟩⟩
      | ret e2 h2' n2 => obtain ⟨rfl, p⟩ := p; exact ⟨_, k', t, Post.trans kk1 f1 (r := .ret e2 h2' n2) ⟨rfl, p⟩⟩
  exact wp_loop_rounds _ (key _ s0 hI (Nat.lt_succ_self _) a g w he md hd hf (Fr.refl hd) MkK.refl)

/-! A function. -/
def Kend (res : List RV) (Good : V → Hp → Nat → Prop) : Rs → Prop
  | .nor e h n => (evRVs e h res).known = true ∧ Good (evRes e h res) h n
  | .ret e h n => (evRVs e h res).known = true ∧ Good (evRes e h res) h n
  | _ => False
theorem JQ.fn {f : Nat} {fn : Func} {c : Code} (hfn : P.funcs[f]? = some fn) (hb : fn.body = some c) (hq : compC P dr fn.ntmps c = some q) {res : List RV} (hres : compRVs P fn.results.toList = some res)
    {args : L} (hal : args.length < 4294967296) {Good : V → Hp → Nat → Prop} (j : JQ P dr fn.ntmps F q lim (Kend res Good) (bind args 0 .lf) h n)
    {vs : List Value} {g : Sig} {w : World} (ha : args.rel g vs) (hgk : GOK g) (m : Mem g h.get w) (hd : Dom h.get n) (hf : FreshA g n) :
    Calls P f ⟨vs⟩ w fun e w' => ∃ u g' v h' n', e = .returned u ∧ Good v h' n' ∧ n' < big ∧ v.rel g' u ∧ Mem g' h'.get w' ∧ Fr lim n g h.get w n' g' h'.get w' := by
  refine callsIn_wide.1 (callsIn_of_wp_marks (F := Fence.wide) (n := 0) hfn hb trivial (wpIn_mono (wpIn_wide.2 (j c hq _ g w (env_bind hgk ha hal fn.ntmps) m hd hf)) ?_))
  have m0 : Mk w.heap.size w { tmps := (⟨vs⟩ : Array Value) ++ Array.replicate (fn.ntmps - (⟨vs⟩ : Array Value).size) undef, defers := [] } := ⟨List.nodup_nil, fun d hd => by simp at hd⟩
  rintro ex a' w' ⟨r, k, t, p⟩
  have fin : ∀ (e1 : Tr) (h1 : Hp) (n1 : Nat) (g1 : Sig), (evRVs e1 h1 res).known = true → Good (evRes e1 h1 res) h1 n1 → n1 < big → EnvA fn.ntmps g1 e1 a' → Mem g1 h1.get w' → Fr lim n g h.get w n1 g1 h1.get w' → Mk w.heap.size w' a' →
      LeavesInM Fence.wide 0 P fn a'.tmps (fun e w' => ∃ u g' v h' n', e = .returned u ∧ Good v h' n' ∧ n' < big ∧ v.rel g' u ∧ Mem g' h'.get w' ∧ Fr lim n g h.get w n' g' h'.get w') a'.defers .returning w' := by
    intro e1 h1 n1 g1 k1 k2 k3 hE m1 f1 hmk
    refine leave_marks a'.defers w' hmk.1 hmk.2 fun w2 e2 => ?_
    obtain ⟨u, r1, r2⟩ := evRes_sound hE (e2.mem m1) hres k1
    exact ⟨u, r1, u, g1, _, h1, n1, rfl, k2, k3, r2, e2.mem m1, e2.fr f1⟩
  cases r with
  | no => exact p.elim
  | nor e1 h1 n1 => obtain ⟨rfl, kk, g1, hE, m1, f1⟩ := p; exact fin e1 h1 n1 g1 k.1 k.2 t hE m1 f1 (kk.2 _ (Nat.le_refl _) m0)
  | ext => exact k.elim
  | ret e1 h1 n1 => obtain ⟨rfl, kk, g1, hE, m1, f1⟩ := p; exact fin e1 h1 n1 g1 k.1 k.2 t hE m1 f1 (kk.2 _ (Nat.le_refl _) m0)
end

/-! Values without places. -/
mutual
def V.pur : V → Bool
  | .p .. | .sl .. | .mp .. | .yl .. | .lp .. => false
  | .ag l | .tu l => l.pur
  | .fn _ a c => a.pur && c.pur
  | .ifc _ v => v.pur
  | _ => true
def L.pur : L → Bool
  | .nil => true
  | .cons v l => v.pur && l.pur
end
mutual
theorem V.pur_rel {g g' : Sig} : ∀ {v : V} {u : Value}, v.pur = true → v.rel g u → v.rel g' u
  | .bad, _, _, _ => trivial
  | .n _, _, _, h => by simpa [V.rel] using h
  | .i .., _, _, h => by simpa [V.rel] using h
  | .b _, _, _, h => by simpa [V.rel] using h
  | .p .., _, p, _ => by simp [V.pur] at p
  | .np, _, _, h => by simpa [V.rel] using h
  | .sl .., _, p, _ => by simp [V.pur] at p
  | .ns, _, _, h => by simpa [V.rel] using h
  | .ag l, _, p, h => by
    rw [V.rel] at h ⊢
    obtain ⟨vs, h1, h2⟩ := h
    exact ⟨vs, h1, L.pur_rel (by simpa [V.pur] using p) h2⟩
  | .tu l, _, p, h => by
    rw [V.rel] at h ⊢
    obtain ⟨vs, h1, h2⟩ := h
    exact ⟨vs, h1, L.pur_rel (by simpa [V.pur] using p) h2⟩
  | .fn f a c, _, p, h => by
    rw [V.rel] at h ⊢
    obtain ⟨va, vc, h1, h2, h3⟩ := h
    simp [V.pur] at p
    exact ⟨va, vc, h1, L.pur_rel p.1 h2, L.pur_rel p.2 h3⟩
  | .nf, _, _, h => by simpa [V.rel] using h
  | .s _, _, _, h => by simpa [V.rel] using h
  | .ifc t v, _, p, h => by
    rw [V.rel] at h ⊢
    obtain ⟨u, h1, h2⟩ := h
    exact ⟨u, h1, V.pur_rel (by simpa [V.pur] using p) h2⟩
  | .nif, _, _, h => by simpa [V.rel] using h
  | .mp .., _, p, _ => by simp [V.pur] at p
  | .nm, _, _, h => by simpa [V.rel] using h
  | .yl .., _, p, _ => by simp [V.pur] at p
  | .lp .., _, p, _ => by simp [V.pur] at p
theorem L.pur_rel {g g' : Sig} : ∀ {l : L} {vs : List Value}, l.pur = true → l.rel g vs → l.rel g' vs
  | .nil, _, _, h => by simpa [L.rel] using h
  | .cons v l, _, p, h => by
    rw [L.rel] at h ⊢
    simp [L.pur] at p
    obtain ⟨u, us, h1, h2, h3⟩ := h
    exact ⟨u, us, h1, V.pur_rel p.1 h2, L.pur_rel p.2 h3⟩
end

/-- A function of plain values with a plain result, run by itself. -/
theorem pureC {P : Program} {dr : List Nat} {F : FF} {q : IC} {f : Nat} {fn : Func} {c : Code} (hfn : P.funcs[f]? = some fn) (hnm : (fn.name == "runtime.NumGoroutine") = false) (hb : fn.body = some c) (hq : compC P dr fn.ntmps c = some q)
    {res : List RV} (hres : compRVs P fn.results.toList = some res) {args : L} (hal : args.length < 4294967296) (hpa : args.pur = true) {v : V} (hpv : v.pur = true)
    (j : JQ P dr fn.ntmps F q 256 (Kend res fun v' _ _ => v' = v) (bind args 0 .lf) .lf 256) (lim : Nat) (h : Hp) (n : Nat) : CallsOK P f args lim h n v h n := by
  intro vs g w ha hgk m hd hf hn
  refine ⟨⟨fn, hfn, hnm, by rw [hb]; rfl⟩, ?_⟩
  have h0 : ∀ p, (Hp.get p .lf) = none := Hp.get_lf
  have hgr : GOK (fun p => if p.num ≤ 255 then g p else none) := fun k hk => by
    obtain ⟨tot, e⟩ := hgk k hk
    refine ⟨tot, ?_⟩
    have := num_posF 63 (k + 1) (by omega) (by unfold gK at hk; omega)
    show (if (posF 63 (k + 1)).num ≤ 255 then _ else _) = _
    rw [this, if_pos (by unfold gK at hk; omega)]; exact e
  refine (JQ.fn hfn hb hq hres hal j (g := fun p => if p.num ≤ 255 then g p else none) (w := w) (L.pur_rel hpa ha) hgr ⟨fun p q bp bq _ _ _ _ _ hp => ?_, fun p b hp => ?_⟩ (fun p b hp => ?_) (fun p hp => if_neg (by omega))).mono ?_
  · have := (h0 _).symm.trans hp; cases this
  · have := (h0 _).symm.trans hp; cases this
  · have := (h0 _).symm.trans hp; cases this
  · rintro e w' ⟨u, g', v', h', n', rfl, rfl, _, hv, _, f⟩
    have keep : ∀ r, r < w.heap.size → w'.heap[r]? = w.heap[r]? := fun r hr => f.keep r hr fun p b base tot hp => by
      have := (h0 _).symm.trans hp; cases this
    refine ⟨u, g, rfl, V.pur_rel hpv hv, ⟨m.inj, fun p b hp => ?_⟩, ?_⟩
    · obtain ⟨r, base, tot, cur, c1, c2, c3, c4, c5, c6⟩ := m.blk p b hp
      exact ⟨r, base, tot, cur, c1, c2.keep (keep r (m.lt hp c1)), c3, c4, c5, c6⟩
    · exact { le := Nat.le_refl _, os := f.os, tape := f.tape, output := f.output, size := f.size, keep := fun r hr _ => keep r hr, sig := fun _ _ => rfl,
              dom := fun p b e => ⟨fun _ => ⟨b, e⟩, hd p b e⟩, new := fun _ _ _ _ a b => by omega }
end Go.Proofs.YtagjnlnnecidnaaDoor.Ev
/- The evaluator on values that are not known: one equation for each step. -/
namespace Go.Proofs.YtagjnlnnecidnaaDoor.Ev
set_option linter.unusedVariables false
open Go

/-- An int. -/
noncomputable def I (z : Int) : V := mkI .i64 z
theorem n_I {a : Nat} (h : a < 9223372036854775808) : V.n a = I a := by
  show _ = mkI .i64 (Int.ofNat a)
  simp only [mkI, fN_eq]
  have : Nat.blt a 9223372036854775808 = true := by rw [Nat.blt_eq]; exact h
  rw [this]
theorem n_lit (k : Nat) (h : Nat.blt k 9223372036854775808 = true) : V.n (OfNat.ofNat k) = I (OfNat.ofNat k) := n_I (a := k) (Nat.blt_eq.mp h)
theorem onK_I {β : Type} (z : Int) (f : IntKind → Int → β) (s : β) : onK (I z) f s = f .i64 z := by
  cases z with
  | ofNat a =>
    simp only [I, mkI, fN_eq]
    cases Nat.blt a 9223372036854775808 <;> rfl
  | negSucc a => simp only [I, mkI, fN_eq]; rfl
theorem onN_I {β : Type} {z : Int} (f : Nat → β) (s : β) (h0 : 0 ≤ z) (h1 : z < 9223372036854775808) : onN (I z) f s = f z.toNat := by
  obtain ⟨a, rfl⟩ := Int.eq_ofNat_of_zero_le h0
  rw [← n_I (by omega)]
  simp [onN, V.asN]
theorem onN_neg {β : Type} {z : Int} (h0 : ¬ (0 ≤ z ∧ z < 9223372036854775808)) (f : Nat → β) (s : β) : onN (I z) f s = s := by
  cases z with
  | ofNat a =>
    simp only [I, mkI, fN_eq]
    cases h : Nat.blt a 9223372036854775808
    · rfl
    · rw [Nat.blt_eq] at h; exact absurd ⟨by simp, by simp; omega⟩ h0
  | negSucc a => simp only [I, mkI, fN_eq]; rfl
theorem onI_I {β : Type} {z : Int} (f : Nat → β) (s : β) (h0 : 0 ≤ z) : onI (I z) f s = f z.toNat := by
  obtain ⟨a, rfl⟩ := Int.eq_ofNat_of_zero_le h0
  show onI (mkI .i64 (Int.ofNat a)) f s = _
  simp only [mkI, fN_eq]
  cases Nat.blt a 9223372036854775808 <;> rfl
theorem I_rel {g : Sig} {z : Int} : (I z).rel g (.int .i64 z) := mkI_rel g .i64 z
theorem I_rel_iff {g : Sig} {z : Int} {u : Value} : (I z).rel g u ↔ u = .int .i64 z := by
  constructor
  · cases z with
    | ofNat a =>
      simp only [I, mkI, fN_eq]
      cases Nat.blt a 9223372036854775808
      · intro h; rw [V.rel] at h; exact h
      · intro h; rw [V.rel] at h; exact h.1
    | negSucc a => simp only [I, mkI, fN_eq]; intro h; rw [V.rel] at h; exact h
  · rintro rfl; exact I_rel
theorem I_ne (z : Int) : I z ≠ .bad := by
  cases z with
  | ofNat a => simp only [I, mkI, fN_eq]; cases Nat.blt a 9223372036854775808 <;> simp
  | negSucc a => simp only [I, mkI, fN_eq]; simp
theorem I_cases (z : Int) : (∃ a, I z = .n a) ∨ ∃ k y, I z = .i k y := by
  cases z with
  | ofNat a => simp only [I, mkI, fN_eq]; cases Nat.blt a 9223372036854775808 <;> simp
  | negSucc a => simp only [I, mkI, fN_eq]; simp
theorem I_pur (z : Int) : (I z).pur = true := by rcases I_cases z with ⟨a, e⟩ | ⟨k, y, e⟩ <;> rw [e] <;> rfl
theorem I_isC (z : Int) : (I z).isC = true := by rcases I_cases z with ⟨a, e⟩ | ⟨k, y, e⟩ <;> rw [e] <;> rfl
theorem I_known (z : Int) : (I z).known = true := by rcases I_cases z with ⟨a, e⟩ | ⟨k, y, e⟩ <;> rw [e] <;> rfl
theorem pv_I (z : Int) (h : Hp) (n : Nat) : pv (I z) h n = .ok (I z) h n := by rcases I_cases z with ⟨a, e⟩ | ⟨k, y, e⟩ <;> rw [e] <;> rfl
theorem pv_i (k : IntKind) (z : Int) (h : Hp) (n : Nat) : pv (.i k z) h n = .ok (.i k z) h n := rfl
theorem pv_b (z : Bool) (h : Hp) (n : Nat) : pv (.b z) h n = .ok (.b z) h n := rfl
theorem pv_s (z : List Nat) (h : Hp) (n : Nat) : pv (.s z) h n = .ok (.s z) h n := rfl
theorem pv_ns (h : Hp) (n : Nat) : pv .ns h n = .ok .ns h n := rfl
theorem pv_sl (a : Pos) (x y z : Nat) (c : Option Nat) (h : Hp) (n : Nat) : pv (.sl a x y z c) h n = .ok (.sl a x y z c) h n := rfl
theorem pv_p (a : Pos) (x : Nat) (h : Hp) (n : Nat) : pv (.p a x) h n = .ok (.p a x) h n := rfl
theorem pv_tu (l : L) (h : Hp) (n : Nat) : pv (.tu l) h n = .ok (.tu l) h n := rfl
theorem pv_ag (l : L) (h : Hp) (n : Nat) : pv (.ag l) h n = .ok (.ag l) h n := rfl
theorem wrap64 {z : Int} (h0 : -9223372036854775808 ≤ z) (h1 : z < 9223372036854775808) : IntKind.i64.wrap z = z := by rw [IntKind.wrap_i64]; omega
theorem slow_I (op : BinOp) (a b : Int) (h : op ≠ .shl) (h' : op ≠ .shr) : slowB op (I a) (I b) = slowI op .i64 a b := by
  cases op <;> first | exact absurd rfl h | exact absurd rfl h' | simp [slowB, onK_I]
theorem onNN_I {a b : Int} {f : Nat → Nat → V} {S R : V} (hS : S = R) (hf : ∀ p q : Nat, a = p → b = q → p < 9223372036854775808 → q < 9223372036854775808 → f p q = R) : onNN (I a) (I b) f S = R := by
  unfold onNN
  by_cases ha : 0 ≤ a ∧ a < 9223372036854775808
  · rw [onN_I _ _ ha.1 ha.2]
    by_cases hb : 0 ≤ b ∧ b < 9223372036854775808
    · rw [onN_I _ _ hb.1 hb.2]
      exact hf _ _ (Int.toNat_of_nonneg ha.1).symm (Int.toNat_of_nonneg hb.1).symm (by omega) (by omega)
    · rw [onN_neg hb, hS]
  · rw [onN_neg ha, hS]
theorem small_I {c : Nat} {s R : V} (hs : s = R) (h : c < 9223372036854775808 → V.n c = R) : small c s = R := by
  rcases small_or c s with ⟨h', e⟩ | e
  · rw [e, h h']
  · rw [e, hs]
theorem sadd (a b : Int) : slowB .add (I a) (I b) = I (IntKind.i64.wrap (a + b)) := slow_I _ _ _ (by simp) (by simp)
theorem bin_add_w (a b : Int) : binV .add (I a) (I b) = I (IntKind.i64.wrap (a + b)) :=
  (binV_eq _ _ _).trans <| onNN_I (sadd a b) fun p q hp hq _ _ => small_I (sadd a b) fun h => by
    rw [n_I h, hp, hq, ← wrap_nat h]; simp
theorem bin_add {a b : Int} (h0 : -9223372036854775808 ≤ a + b) (h1 : a + b < 9223372036854775808) : binV .add (I a) (I b) = I (a + b) := by rw [bin_add_w, wrap64 h0 h1]
theorem ssub (a b : Int) : slowB .sub (I a) (I b) = I (IntKind.i64.wrap (a - b)) := slow_I _ _ _ (by simp) (by simp)
theorem bin_sub_w (a b : Int) : binV .sub (I a) (I b) = I (IntKind.i64.wrap (a - b)) :=
  (binV_eq _ _ _).trans <| onNN_I (ssub a b) fun p q hp hq h1 h2 => by
    cases hb : Nat.ble q p
    · exact ssub a b
    · rw [Nat.ble_eq] at hb
      show fN (p - q) V.n = _
      rw [fN_eq, n_I (by omega), hp, hq, wrap64 (by omega) (by omega)]
      congr 1; omega
theorem bin_sub {a b : Int} (h0 : -9223372036854775808 ≤ a - b) (h1 : a - b < 9223372036854775808) : binV .sub (I a) (I b) = I (a - b) := by rw [bin_sub_w, wrap64 h0 h1]
theorem smul (a b : Int) : slowB .mul (I a) (I b) = I (IntKind.i64.wrap (a * b)) := slow_I _ _ _ (by simp) (by simp)
theorem bin_mul_w (a b : Int) : binV .mul (I a) (I b) = I (IntKind.i64.wrap (a * b)) :=
  (binV_eq _ _ _).trans <| onNN_I (smul a b) fun p q hp hq _ _ => small_I (smul a b) fun h => by
    have h' : p * q < 9223372036854775808 := h
    rw [n_I h, hp, hq, ← wrap_nat h]; simp
theorem bin_mul {a b : Int} (h0 : -9223372036854775808 ≤ a * b) (h1 : a * b < 9223372036854775808) : binV .mul (I a) (I b) = I (a * b) := by rw [bin_mul_w, wrap64 h0 h1]
theorem bin_quo_w {a b : Int} (h : b ≠ 0) : binV .quo (I a) (I b) = I (IntKind.i64.wrap (a.tdiv b)) := by
  have hs : slowB .quo (I a) (I b) = I (IntKind.i64.wrap (a.tdiv b)) := by rw [slow_I _ _ _ (by simp) (by simp)]; simp only [slowI, if_neg h]; rfl
  refine (binV_eq _ _ _).trans (onNN_I hs fun p q hp hq h1 h2 => ?_)
  have hq0 : q ≠ 0 := by omega
  have : Nat.beq q 0 = false := by
    cases hx : Nat.beq q 0
    · rfl
    · rw [Nat.beq_eq] at hx; exact absurd hx hq0
  rw [this]
  show fN (p / q) V.n = _
  have hlt : p / q < 9223372036854775808 := Nat.lt_of_le_of_lt (Nat.div_le_self _ _) h1
  rw [fN_eq, n_I hlt, hp, hq, ← wrap_nat hlt]; rfl
theorem bin_quo {a b : Int} (h : 0 < b) (h0 : 0 ≤ a) (h1 : a < 9223372036854775808) : binV .quo (I a) (I b) = I (a / b) := by
  rw [bin_quo_w (by omega)]
  have e := Int.tdiv_eq_ediv_of_nonneg (b := b) h0
  have h2 := Int.ediv_nonneg h0 (Int.le_of_lt h)
  have h3 := Int.ediv_le_self b h0
  rw [e, wrap64 (by omega) (by omega)]
theorem bin_rem {a b : Int} (h : 0 < b) (h0 : 0 ≤ a) : binV .rem (I a) (I b) = I (a % b) := by
  have hs : slowB .rem (I a) (I b) = I (a % b) := by
    rw [slow_I _ _ _ (by simp) (by simp)]; simp only [slowI, if_neg (show ¬ b = 0 by omega)]
    rw [Int.tmod_eq_emod_of_nonneg h0]; rfl
  refine (binV_eq _ _ _).trans (onNN_I hs fun p q hp hq h1 h2 => ?_)
  have hq0 : q ≠ 0 := by omega
  have : Nat.beq q 0 = false := by
    cases hx : Nat.beq q 0
    · rfl
    · rw [Nat.beq_eq] at hx; exact absurd hx hq0
  rw [this]
  show fN (p % q) V.n = _
  rw [fN_eq, n_I (Nat.lt_of_le_of_lt (Nat.mod_le _ _) h1), hp, hq]; simp
theorem bin_lss (a b : Int) : binV .lss (I a) (I b) = .b (decide (a < b)) :=
  (binV_eq _ _ _).trans <| onNN_I (by rw [slow_I _ _ _ (by simp) (by simp)]; simp only [slowI]; rw [fB_eq]) fun p q hp hq _ _ => by
    show fB _ = _
    rw [fB_eq, hp, hq]; congr 1
    rw [Bool.eq_iff_iff, Nat.blt_eq, decide_eq_true_eq]; omega
theorem bin_leq (a b : Int) : binV .leq (I a) (I b) = .b (decide (a ≤ b)) :=
  (binV_eq _ _ _).trans <| onNN_I (by rw [slow_I _ _ _ (by simp) (by simp)]; simp only [slowI]; rw [fB_eq]) fun p q hp hq _ _ => by
    show fB _ = _
    rw [fB_eq, hp, hq]; congr 1
    rw [Bool.eq_iff_iff, Nat.ble_eq, decide_eq_true_eq]; omega
theorem bin_gtr (a b : Int) : binV .gtr (I a) (I b) = .b (decide (b < a)) :=
  (binV_eq _ _ _).trans <| onNN_I (by rw [slow_I _ _ _ (by simp) (by simp)]; simp only [slowI]; rw [fB_eq]) fun p q hp hq _ _ => by
    show fB _ = _
    rw [fB_eq, hp, hq]; congr 1
    rw [Bool.eq_iff_iff, Nat.blt_eq, decide_eq_true_eq]; omega
theorem bin_geq (a b : Int) : binV .geq (I a) (I b) = .b (decide (b ≤ a)) :=
  (binV_eq _ _ _).trans <| onNN_I (by rw [slow_I _ _ _ (by simp) (by simp)]; simp only [slowI]; rw [fB_eq]) fun p q hp hq _ _ => by
    show fB _ = _
    rw [fB_eq, hp, hq]; congr 1
    rw [Bool.eq_iff_iff, Nat.ble_eq, decide_eq_true_eq]; omega
theorem bin_eql (a b : Int) : binV .eql (I a) (I b) = .b (decide (a = b)) :=
  (binV_eq _ _ _).trans <| onNN_I (by rw [slow_I _ _ _ (by simp) (by simp)]; simp only [slowI]; rw [fB_eq]; congr 1) fun p q hp hq _ _ => by
    show fB _ = _
    rw [fB_eq, hp, hq]; congr 1
    rw [Bool.eq_iff_iff, Nat.beq_eq, decide_eq_true_eq]; omega
theorem bin_neq (a b : Int) : binV .neq (I a) (I b) = .b (!decide (a = b)) :=
  (binV_eq _ _ _).trans <| onNN_I (by rw [slow_I _ _ _ (by simp) (by simp)]; simp only [slowI]; rw [fB_eq]; congr 1) fun p q hp hq _ _ => by
    show (Bool.rec (.b true) (.b false) (Nat.beq p q) : V) = _
    have : Nat.beq p q = decide (a = b) := by rw [Bool.eq_iff_iff, Nat.beq_eq, decide_eq_true_eq]; omega
    rw [this]; cases decide (a = b) <;> rfl
/-! Numbers of another kind. -/
theorem onN_i {β : Type} (k : IntKind) (a : Int) (f : Nat → β) (z : β) : onN (.i k a) f z = z := rfl
theorem bin8_eql (k : IntKind) (a b : Int) : binV .eql (.i k a) (.i k b) = .b (decide (a = b)) := by
  have e : binV .eql (.i k a) (.i k b) = slowI .eql k a b := (binV_eq _ _ _).trans (if_pos rfl)
  rw [e]
  simp only [slowI]
  rw [fB_eq]; congr 1
theorem bin8_neq (k : IntKind) (a b : Int) : binV .neq (.i k a) (.i k b) = .b (!decide (a = b)) := by
  have e : binV .neq (.i k a) (.i k b) = slowI .neq k a b := (binV_eq _ _ _).trans (if_pos rfl)
  rw [e]
  simp only [slowI]
  rw [fB_eq]; congr 1

theorem JQ.step {P : Program} {dr : List Nat} {N lim n : Nat} {F : FF} {qa qb : IC} {K : Rs → Prop} {e : Tr} {h : Hp} (hP : P.follows .mixedOrders = true) (hF : FOK P F) (hM : F.mono) (j : Got (Kseq (JQ P dr N F qb lim K) K) (evC qa F lim e h n)) : JQ P dr N F (.seq qa qb) lim K e h n := JQ.seq (JQ.run hP hF hM j)

/-! Slots. -/
theorem get_st (t : Tr) (x : V) (i j : Nat) (hi : i < 4294967296) (hj : j < 4294967296) : (t.set x (tp i)).get (tp j) = if j = i then x else t.get (tp j) := by
  rw [Tr.get_set]
  by_cases h : j = i
  · subst h; simp
  · rw [if_neg h, if_neg (fun e => h (tp_inj hj hi e))]
theorem get_lf (j : Nat) : Tr.lf.get (tp j) = .bad := Tr.get_lf _
theorem bind_nil (k : Nat) (e : Tr) : bind .nil k e = e := rfl
theorem bind_cons (v : V) (l : L) (k : Nat) (e : Tr) : bind (.cons v l) k e = bind l (k + 1) (e.set v (tp k)) := rfl

/-! Pieces. -/
noncomputable def bindR (r : Res) (d : Option Pos) (l : RL) (F : FF) (lim : Nat) (e : Tr) : Rg :=
  match r with
  | .no => .no
  | .ok v h n => match d with
    | some p => evR l F lim (e.set v p) h n
    | none => evR l F lim e h n
section
variable (F : FF) (lim : Nat) (e : Tr) (h : Hp) (n : Nat)
theorem evR_nil : evR .nil F lim e h n = .ok e h n := rfl
theorem evR_cons (d : Option Pos) (o : O) (l : RL) : evR (.cons d none o l) F lim e h n = bindR (o.ev F e lim h n) d l F lim e := by
  show runR d o (evR l) F lim e h n = _
  unfold runR bindR
  cases o.ev F e lim h n with
  | no => rfl
  | ok v h' n' =>
    show putd d v e (fun e' => evR l F lim e' h' n') = _
    cases d with
    | none => rfl
    | some p => rfl
theorem bindR_ok (v : V) (p : Pos) (l : RL) : bindR (.ok v h n) (some p) l F lim e = evR l F lim (e.set v p) h n := rfl
theorem bindR_okn (v : V) (l : RL) : bindR (.ok v h n) none l F lim e = evR l F lim e h n := rfl
noncomputable def guardB (g : V) (b : Bool) (d : Option Pos) (o : O) (l : RL) : Rg :=
  guardR g b (runR d o (evR l) F lim e h n) (putd d (.tu .nil) e fun e' => evR l F lim e' h n) .no
theorem evR_gd (d : Option Pos) (gd : Pos × Bool) (o : O) (l : RL) : evR (.cons d (some gd) o l) F lim e h n = guardB F lim e h n (e.get gd.1) gd.2 d o l := rfl
theorem guardB_run (t b : Bool) (d : Option Pos) (o : O) (l : RL) (hb : t = b) : guardB F lim e h n (.b t) b d o l = evR (.cons d none o l) F lim e h n := by
  subst hb; cases t <;> rfl
theorem guardB_skip (t b : Bool) (p : Pos) (o : O) (l : RL) (hb : t = !b) : guardB F lim e h n (.b t) b (some p) o l = evR l F lim (e.set (.tu .nil) p) h n := by
  subst hb; cases b <;> rfl
theorem guardB_tt (d : Option Pos) (o : O) (l : RL) : guardB F lim e h n (.b true) true d o l = evR (.cons d none o l) F lim e h n := rfl
theorem guardB_ff (d : Option Pos) (o : O) (l : RL) : guardB F lim e h n (.b false) false d o l = evR (.cons d none o l) F lim e h n := rfl
theorem guardB_tf (p : Pos) (o : O) (l : RL) : guardB F lim e h n (.b true) false (some p) o l = evR l F lim (e.set (.tu .nil) p) h n := guardB_skip F lim e h n true false p o l rfl
theorem guardB_ft (p : Pos) (o : O) (l : RL) : guardB F lim e h n (.b false) true (some p) o l = evR l F lim (e.set (.tu .nil) p) h n := guardB_skip F lim e h n false true p o l rfl
theorem guardB_none (b : Bool) (p : Pos) (o : O) (l : RL) : guardB F lim e h n (.tu .nil) b (some p) o l = evR l F lim (e.set (.tu .nil) p) h n := rfl
noncomputable def seqR (r : Rs) (q : IC) : Rs := match r with | .no => .no | .nor e h n => evC q F lim e h n | .ext i e h n => .ext i e h n | .ret e h n => .ret e h n
theorem evC_seq (a b : IC) : evC (.seq a b) F lim e h n = seqR F lim (evC a F lim e h n) b := by
  show evSeq (evC a) (evC b) F lim e h n = _
  unfold evSeq seqR
  cases evC a F lim e h n <;> rfl
theorem seqR_nor (q : IC) : seqR F lim (.nor e h n) q = evC q F lim e h n := rfl
theorem seqR_ext (i : Nat) (q : IC) : seqR F lim (.ext i e h n) q = .ext i e h n := rfl
theorem seqR_ret (q : IC) : seqR F lim (.ret e h n) q = .ret e h n := rfl
theorem evC_reg (l : RL) : evC (.reg l) F lim e h n = rgRs (evR l F lim e h n) := rfl
theorem evC_draw (l : DR) : evC (.draw l) F lim e h n = rgRs (evDr l F lim e h n) := rfl
theorem rgRs_ok : rgRs (.ok e h n) = .nor e h n := rfl
theorem evC_ret : evC .ret F lim e h n = .ret e h n := rfl
theorem evC_skip : evC .skip F lim e h n = .nor e h n := rfl
theorem evC_exit (i : Nat) : evC (.exit i) F lim e h n = .ext i e h n := rfl
noncomputable def condR (v : V) (a b : IC) : Rs := onB v (fun t => Bool.rec (evC b F lim e h n) (evC a F lim e h n) t) .no
theorem evC_cond (x : X) (a b : IC) : evC (.cond x a b) F lim e h n = condR F lim e h n (evX x e) a b := rfl
theorem condR_true (a b : IC) : condR F lim e h n (.b true) a b = evC a F lim e h n := rfl
theorem condR_false (a b : IC) : condR F lim e h n (.b false) a b = evC b F lim e h n := rfl
noncomputable def blockR (id : Nat) (r : Rs) : Rs := match r with | .no => .no | .nor e h n => .nor e h n | .ext i e h n => if i = id then .nor e h n else .ext i e h n | .ret e h n => .ret e h n
theorem evC_block (id : Nat) (b : IC) : evC (.block id b) F lim e h n = blockR id (evC b F lim e h n) := by
  show evBlock id (evC b) F lim e h n = _
  unfold evBlock blockR
  cases evC b F lim e h n with
  | ext i e h n =>
    show (Bool.rec (.ext i e h n) (.nor e h n) (Nat.beq i id) : Rs) = _
    by_cases hi : i = id
    · subst hi
      have : Nat.beq i i = true := by rw [Nat.beq_eq]
      rw [this]; simp
    · have : Nat.beq i id = false := by
        cases hb : Nat.beq i id
        · rfl
        · rw [Nat.beq_eq] at hb; exact absurd hb hi
      rw [this]; simp [hi]
  | _ => rfl
theorem blockR_nor (id : Nat) : blockR id (.nor e h n) = .nor e h n := rfl
theorem blockR_ext (id i : Nat) : blockR id (.ext i e h n) = if i = id then .nor e h n else .ext i e h n := rfl
theorem blockR_ret (id : Nat) : blockR id (.ret e h n) = .ret e h n := rfl
theorem evX_t (p : Pos) : evX (.t p) e = e.get p := rfl
theorem evX_c (v : V) : evX (.c v) e = v := rfl
theorem evXL_nil : evXL .nil e = .nil := rfl
theorem evXL_cons (x : X) (l : XL) : evXL (.cons x l) e = .cons (evX x e) (evXL l e) := rfl

/-! Operations. -/
theorem O_mv (x : X) : (O.mv x).ev F e lim h n = .ok (evX x e) h n := rfl
theorem O_bin (op : BinOp) (x y : X) : (O.bin op x y).ev F e lim h n = pv (binV op (evX x e) (evX y e)) h n := rfl
theorem O_pick (c a b : X) : (O.pick c a b).ev F e lim h n = pv (onB (evX c e) (fun t => Bool.rec (evX b e) (evX a e) t) .bad) h n := rfl
theorem O_eqb (m : Bool) (x y : X) : (O.eqb m x y).ev F e lim h n = pv (eqbV m (evX x e) (evX y e)) h n := rfl
theorem O_not (x : X) : (O.not x).ev F e lim h n = pv (onB (evX x e) (fun t => Bool.rec (.b true) (.b false) t) .bad) h n := rfl
theorem O_ext (i : Nat) (x : X) : (O.ext i x).ev F e lim h n = pv (onT (evX x e) (fun l => nthL i l) .bad) h n := rfl
theorem O_call (f : Nat) (xs : XL) : (O.call f xs).ev F e lim h n = F f (evXL xs e) lim h n := rfl
theorem O_conv (k : IntKind) (x : X) : (O.conv k x).ev F e lim h n = pv (onK (evX x e) (fun _ z => mkI k (k.wrap z)) .bad) h n := rfl
theorem O_slen (x : X) : (O.slen x).ev F e lim h n = pv (onStr (evX x e) (fun l => small l.length .bad) .bad) h n := rfl
theorem O_six (x i : X) : (O.six x i).ev F e lim h n = pv (onStr (evX x e) (fun l => onI (evX i e) (fun j => nthS l j) .bad) .bad) h n := rfl
theorem O_sbi (op : BinOp) (x y : X) : (O.sbi op x y).ev F e lim h n = pv (onStr (evX x e) (fun l => onStr (evX y e) (fun m => strV op l m) .bad) .bad) h n := rfl
theorem O_build (z : L) (ps : PL) : (O.build z ps).ev F e lim h n = evBuild z ps e lim h n := rfl
theorem O_part (o k : Nat) (a : Bool) (x : X) : (O.part o k a x).ev F e lim h n = evPart o k a x e lim h n := rfl
end
theorem onStr_s {β : Type} (l : List Nat) (f : List Nat → β) (z : β) : onStr (.s l) f z = f l := rfl
theorem onB_b {β : Type} (t : Bool) (f : Bool → β) (z : β) : onB (.b t) f z = f t := rfl
theorem onT_tu {β : Type} (l : L) (f : L → β) (z : β) : onT (.tu l) f z = f l := rfl
theorem eqb_b (m a b : Bool) : eqbV m (.b a) (.b b) = .b (if m then xor a b else !xor a b) := by cases m <;> cases a <;> cases b <;> rfl
theorem not_b (t : Bool) : (Bool.rec (.b true) (.b false) t : V) = .b !t := by cases t <;> rfl
theorem nthL_0 (v : V) (l : L) : nthL 0 (.cons v l) = v := rfl
theorem nthL_1 (u v : V) (l : L) : nthL 1 (.cons u (.cons v l)) = v := rfl
theorem nthL_2 (u v x : V) (l : L) : nthL 2 (.cons u (.cons v (.cons x l))) = x := rfl
theorem small_len {c : Nat} (s : V) (h : c < 9223372036854775808) : small c s = I c := by
  rcases small_or c s with ⟨h', e⟩ | e
  · rw [e, n_I h]
  · rw [← n_I h]
    unfold small
    rw [fN_eq]
    have : Nat.blt c 9223372036854775808 = true := by rw [Nat.blt_eq]; exact h
    rw [this]
/-- A byte of a string. -/
def byt (l : List Nat) (j : Nat) : Int := ((l.getD j 0 % 256 : Nat) : Int)
theorem nthS_at {l : List Nat} {j : Nat} (h : j < l.length) : nthS l j = .i .u8 (byt l j) := by
  rw [nthS_eq, List.getElem?_eq_getElem h]
  simp [byt, List.getD, List.getElem?_eq_getElem h]
theorem known_nil : L.known .nil = true := rfl
theorem known_cons (v : V) (l : L) : L.known (.cons v l) = (v.known && l.known) := rfl
theorem evRVs_nil (e : Tr) (h : Hp) : evRVs e h [] = .nil := rfl
theorem evRVs_cons (e : Tr) (h : Hp) (r : RV) (l : List RV) : evRVs e h (r :: l) = .cons (evRV r e h) (evRVs e h l) := rfl
theorem evRes_1 (e : Tr) (h : Hp) (r : RV) : evRes e h [r] = evRV r e h := rfl
theorem evRes_2 (e : Tr) (h : Hp) (r r' : RV) (l : List RV) : evRes e h (r :: r' :: l) = .tu (evRVs e h (r :: r' :: l)) := rfl
theorem evRV_tmp (p : Pos) (e : Tr) (h : Hp) : evRV (.tmp p) e h = e.get p := rfl
theorem Got_nor (K : Rs → Prop) (e : Tr) (h : Hp) (n : Nat) : Got K (.nor e h n) ↔ (n < big ∧ K (.nor e h n)) := Iff.rfl
theorem Got_ext (K : Rs → Prop) (i : Nat) (e : Tr) (h : Hp) (n : Nat) : Got K (.ext i e h n) ↔ (n < big ∧ K (.ext i e h n)) := Iff.rfl
theorem Got_ret (K : Rs → Prop) (e : Tr) (h : Hp) (n : Nat) : Got K (.ret e h n) ↔ (n < big ∧ K (.ret e h n)) := Iff.rfl
theorem known_b (t : Bool) : (V.b t).known = true := rfl
theorem known_s (t : List Nat) : (V.s t).known = true := rfl
end Go.Proofs.YtagjnlnnecidnaaDoor.Ev
