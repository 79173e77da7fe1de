/- The texts EvJq, EvSy, EvCt, EvG4, EvFa. -/
import Derived.Test.YthgaekbcmhbbgaaQ5
import Derived.LoopN
import Derived.RangeFuncLeaves
/- A calculus over the evaluator's states: pieces are run, loops go by their states, functions have contracts. -/
namespace Go.Proofs.Ythgaekbcmhbbgaa.Ev
set_option linter.unusedVariables false
open Go

def FreshA (g : Sig) (n : Nat) : Prop := ∀ p : Pos, n ≤ p.num → g p = none
theorem FreshA.to {g : Sig} {n : Nat} (h : FreshA g n) (m : Nat) : Fresh g n m := fun p a _ => h p a
section
variable {lim n n' : Nat} {g g' : Sig} {h h' : Hm} {w w' : World}
theorem Fr.freshA (f : Fr lim n g h w n' g' h' w') (hf : FreshA g n) : FreshA g' n' := fun p hp => by
  rw [f.sig p (.inr hp)]; exact hf p (Nat.le_trans f.le hp)
end

/-! States that know less. -/
def EnvLe (e0 e : Tr) : Prop := ∀ t, t < 4294967296 → e0.get (tp t) = .bad ∨ e0.get (tp t) = e.get (tp t)
def BlkLe (b0 b : Blk) : Prop := (b0.m = .lf ∨ b0 = b) ∧ b0.el = b.el ∧ b0.size ≤ b.size ∧ ∀ k, k < b0.size → b0.cell k = .bad ∨ b0.cell k = b.cell k
def HpLe (h0 h : Hp) : Prop := ∀ p b0, h0.get p = some b0 → ∃ b, h.get p = some b ∧ BlkLe b0 b
theorem BlkLe.refl (b : Blk) : BlkLe b b := ⟨.inr rfl, rfl, Nat.le_refl _, fun _ _ => .inr rfl⟩
theorem HpLe.refl (h : Hp) : HpLe h h := fun p b e => ⟨b, e, BlkLe.refl b⟩
theorem HpLe.lf (h : Hp) : HpLe .lf h := fun p b e => by rw [Hp.get_lf] at e; cases e
theorem EnvLe.refl (e : Tr) : EnvLe e e := fun _ _ => .inr rfl
theorem EnvLe.lf (e : Tr) : EnvLe .lf e := fun _ _ => .inl (Tr.get_lf _)
theorem EnvLe.set {e0 e : Tr} {v : V} {t : Nat} (ht : t < 4294967296) (hv : e.get (tp t) = v) (h : EnvLe e0 e) : EnvLe (e0.set v (tp t)) e := fun u hu => by
  rw [Tr.get_set]
  by_cases hut : u = t
  · subst hut; rw [if_pos rfl]; exact .inr hv.symm
  · rw [if_neg (fun e => hut (tp_inj hu ht e))]; exact h u hu
theorem EnvA.weak {N : Nat} {g : Sig} {e0 e : Tr} {a : Act} (hl : EnvLe e0 e) (h : EnvA N g e a) : EnvA N g e0 a := ⟨h.sz, h.glo, fun t ht => by
  rcases hl t ht with e1 | e1
  · rw [e1]; trivial
  · rw [e1]; exact h.rel t ht⟩
theorem Mem.weak {g : Sig} {h0 h : Hp} {w : World} (hl : HpLe h0 h) (m : Mem g h.get w) : Mem g h0.get w where
  inj := fun p q bp bq r b1 t1 b2 t2 hp hq e1 e2 => by
    obtain ⟨x, hx, _⟩ := hl p bp hp
    obtain ⟨y, hy, _⟩ := hl q bq hq
    exact m.inj p q x y r b1 t1 b2 t2 hx hy e1 e2
  blk := fun p b0 hp => by
    obtain ⟨b, hb, e0, e1, e2, e3⟩ := hl p b0 hp
    obtain ⟨r, base, tot, cur, h1, h2, h3, h4, h5, h6⟩ := m.blk p b hb
    refine ⟨r, base, tot, cur, h1, (by
      rcases e0 with e0 | e0
      · have := h2.cut (g' := g) (off := 0) e1 (by omega) h4 e0
        exact this
      · subst e0; exact h2), h3, by omega, by omega, fun k hk => ?_⟩
    obtain ⟨v, c1, c2, c3⟩ := h6 k (by omega)
    refine ⟨v, c1, c2, ?_⟩
    rcases e3 k hk with e | e
    · rw [e]; trivial
    · rw [e]; exact c3
theorem Dom.weak {h0 h : Hp} {n : Nat} (hl : HpLe h0 h) (d : Dom h.get n) : Dom h0.get n := fun p b0 hp => by
  obtain ⟨b, hb, _⟩ := hl p b0 hp
  exact d p b hb
theorem Fr.weakH {lim n n' : Nat} {g g' : Sig} {h0 h : Hp} {h' : Hm} {w w' : World} (hl : HpLe h0 h) (f : Fr lim n g h0.get w n' g' h' w') : Fr lim n g h.get w n' g' h' w' :=
  { f with
    keep := fun r hr hW => f.keep r hr fun p b0 base tot hp hlp => by
      obtain ⟨b, hb, _⟩ := hl p b0 hp
      exact hW p b base tot hb hlp
    dom := fun p b e => ⟨fun hn => by
      obtain ⟨b0, hb0⟩ := (f.dom p b e).1 hn
      obtain ⟨b', hb', _⟩ := hl p b0 hb0
      exact ⟨b', hb'⟩, (f.dom p b e).2⟩
    new := fun p r base tot a b e => (f.new p r base tot a b e).imp id fun ⟨q, b0, x, y, hq, hql, he⟩ => by
      obtain ⟨b', hb', _⟩ := hl q b0 hq
      exact ⟨q, b', x, y, hb', hql, he⟩ }
theorem Fr.weakT {lim n n' : Nat} {g g' : Sig} {h : Hm} {h0 h' : Hp} {w w' : World} (hl : HpLe h0 h') (f : Fr lim n g h w n' g' h'.get w') : Fr lim n g h w n' g' h0.get w' :=
  ⟨f.le, f.os, f.tape, f.output, f.size, f.keep, f.sig, fun p b0 e => by
    obtain ⟨b, hb, _⟩ := hl p b0 e
    exact f.dom p b hb, f.new⟩
theorem Post.weak {N lim n : Nat} {g : Sig} {h0 h : Hp} {w : World} {a : Act} (hl : HpLe h0 h) : ∀ {r : Rs} {ex : Exit} {a' : Act} {w' : World}, Post N lim g h0 w n a r ex a' w' → Post N lim g h w n a r ex a' w'
  | .nor .., _, _, _, ⟨x, k, g', y, z, f⟩ => ⟨x, k, g', y, z, f.weakH hl⟩
  | .ext .., _, _, _, ⟨x, k, g', y, z, f⟩ => ⟨x, k, g', y, z, f.weakH hl⟩
  | .ret .., _, _, _, ⟨x, k, g', y, z, f⟩ => ⟨x, k, g', y, z, f.weakH hl⟩

/-! The judgement. -/
def big : Nat := 9223372036854775808
def JQ (P : Program) (dr : List Nat) (N : Nat) (F : FF) (q : IC) (lim : Nat) (K : Rs → Prop) (e : Tr) (h : Hp) (n : Nat) : Prop :=
  ∀ c, compC P dr N c = some q → ∀ (a : Act) g w, EnvA N g e a → Mem g h.get w → Dom h.get n → FreshA g n →
    c.wp P (fun ex a' w' => ∃ r, K r ∧ r.top < big ∧ Post N lim g h w n a r ex a' w') a w
/-- What a piece comes to is something, and so. -/
def Got (K : Rs → Prop) : Rs → Prop
  | .no => False
  | .nor e h n => n < big ∧ K (.nor e h n)
  | .ext i e h n => n < big ∧ K (.ext i e h n)
  | .ret e h n => n < big ∧ K (.ret e h n)
def Kseq (J : Tr → Hp → Nat → Prop) (K : Rs → Prop) : Rs → Prop
  | .no => False
  | .nor e h n => J e h n
  | .ext i e h n => K (.ext i e h n)
  | .ret e h n => K (.ret e h n)
def Kblk (id : Nat) (K : Rs → Prop) : Rs → Prop
  | .no => False
  | .nor e h n => K (.nor e h n)
  | .ext i e h n => if i = id then K (.nor e h n) else K (.ext i e h n)
  | .ret e h n => K (.ret e h n)

section
variable {P : Program} {dr : List Nat} {N lim n : Nat} {F : FF} {q qa qb : IC} {K K' : Rs → Prop} {e e0 : Tr} {h h0 : Hp}

theorem JQ.mono (hk : ∀ r, K r → K' r) (j : JQ P dr N F q lim K e h n) : JQ P dr N F q lim K' e h n := fun c hc a g w he m hd hf =>
  wp_mono (j c hc a g w he m hd hf) fun _ _ _ ⟨r, k, t, p⟩ => ⟨r, hk r k, t, p⟩
theorem JQ.weak (h1 : EnvLe e0 e) (h2 : HpLe h0 h) (j : JQ P dr N F q lim K e0 h0 n) : JQ P dr N F q lim K e h n := fun c hc a g w he m hd hf =>
  wp_mono (j c hc a g w (he.weak h1) (m.weak h2) (Dom.weak h2 hd) hf) fun _ _ _ ⟨r, k, t, p⟩ => ⟨r, k, t, p.weak h2⟩
theorem JQ.run (hP : P.follows .mixedOrders = true) (hF : FOK P F) (hM : F.mono) (hk : Got K (evC q F lim e h n)) : JQ P dr N F q lim K e h n := fun c hc a g w he m hd hf => by
  cases hr : evC q F lim e h n with
  | no => rw [hr] at hk; exact hk.elim
  | nor e1 h1 n1 =>
    rw [hr] at hk
    exact wp_mono (wpIn_none (evC_sound hP hF hM c q hc lim e h n _ hr (by simp) a g w he m hd (hf.to _) hk.1 none (.inl rfl))) fun _ _ _ hp => ⟨_, hk.2, hk.1, hp⟩
  | ext i e1 h1 n1 =>
    rw [hr] at hk
    exact wp_mono (wpIn_none (evC_sound hP hF hM c q hc lim e h n _ hr (by simp) a g w he m hd (hf.to _) hk.1 none (.inl rfl))) fun _ _ _ hp => ⟨_, hk.2, hk.1, hp⟩
  | ret e1 h1 n1 =>
    rw [hr] at hk
    exact wp_mono (wpIn_none (evC_sound hP hF hM c q hc lim e h n _ hr (by simp) a g w he m hd (hf.to _) hk.1 none (.inl rfl))) fun _ _ _ hp => ⟨_, hk.2, hk.1, hp⟩

/-- Scopes are looked through. -/
theorem JQ.thruScope (hj : ∀ c, compC P dr N c = some q → (∀ b, c ≠ .scope b) → ∀ (a : Act) g w, EnvA N g e a → Mem g h.get w → Dom h.get n → FreshA g n →
    c.wp P (fun ex a' w' => ∃ r, K r ∧ r.top < big ∧ Post N lim g h w n a r ex a' w') a w) : JQ P dr N F q lim K e h n
  | .scope b, hc, a, g, w, he, m, hd, hf => by
    refine wp_scope_straight (wp_mono (JQ.thruScope hj b (by simpa only [compC] using hc) a g w he m hd hf) ?_)
    rintro ex a' w' ⟨r, k, t, p⟩
    cases r with
    | no => exact p.elim
    | nor => have hx := p.1; subst hx; exact ⟨_, k, t, p⟩
    | ext => have hx := p.1; subst hx; exact ⟨_, k, t, p⟩
    | ret => have hx := p.1; subst hx; exact ⟨_, k, t, p⟩
  | .skip, hc, a, g, w, he, m, hd, hf => hj _ hc (fun b => by simp) a g w he m hd hf
  | .region .., hc, a, g, w, he, m, hd, hf => hj _ hc (fun b => by simp) a g w he m hd hf
  | .seq .., hc, a, g, w, he, m, hd, hf => hj _ hc (fun b => by simp) a g w he m hd hf
  | .cond .., hc, a, g, w, he, m, hd, hf => hj _ hc (fun b => by simp) a g w he m hd hf
  | .block .., hc, a, g, w, he, m, hd, hf => hj _ hc (fun b => by simp) a g w he m hd hf
  | .loop .., hc, a, g, w, he, m, hd, hf => hj _ hc (fun b => by simp) a g w he m hd hf
  | .rangeFunc .., hc, a, g, w, he, m, hd, hf => hj _ hc (fun b => by simp) a g w he m hd hf
  | .exit .., hc, a, g, w, he, m, hd, hf => hj _ hc (fun b => by simp) a g w he m hd hf
  | .label .., hc, a, g, w, he, m, hd, hf => hj _ hc (fun b => by simp) a g w he m hd hf
  | .goto .., hc, a, g, w, he, m, hd, hf => hj _ hc (fun b => by simp) a g w he m hd hf
  | .ret, hc, a, g, w, he, m, hd, hf => hj _ hc (fun b => by simp) a g w he m hd hf
  | .refuse .., hc, a, g, w, he, m, hd, hf => hj _ hc (fun b => by simp) a g w he m hd hf

theorem compC_seq {c : Code} (hc : compC P dr N c = some (.seq qa qb)) (hs : ∀ b, c ≠ .scope b) : ∃ a b, c = .seq a b ∧ compC P dr N a = some qa ∧ compC P dr N b = some qb := by
  cases c with
  | seq a b =>
    simp only [compC] at hc
    split at hc
    · rename_i h1 h2; cases hc; exact ⟨a, b, rfl, h1, h2⟩
    · cases hc
  | scope b => exact absurd rfl (hs b)
  | cond => simp only [compC] at hc; split at hc <;> cases hc
  | block => simp only [compC, Option.map_eq_some_iff] at hc; obtain ⟨_, _, e⟩ := hc; cases e
  | loop => simp only [compC, Option.map_eq_some_iff] at hc; obtain ⟨_, _, e⟩ := hc; cases e
  | region id ops d => cases d <;> (simp only [compC] at hc; split at hc <;> first | cases hc | (split at hc <;> cases hc))
  | rangeFunc => simp only [compC] at hc; split at hc <;> cases hc
  | _ => simp [compC] at hc
theorem compC_cond {x : X} {c : Code} (hc : compC P dr N c = some (.cond x qa qb)) (hs : ∀ b, c ≠ .scope b) : ∃ ox a b, c = .cond ox a b ∧ compX ox = some x ∧ compC P dr N a = some qa ∧ compC P dr N b = some qb := by
  cases c with
  | cond ox a b =>
    simp only [compC] at hc
    split at hc
    · rename_i h1 h2 h3; cases hc; exact ⟨ox, a, b, rfl, h1, h2, h3⟩
    · cases hc
  | scope b => exact absurd rfl (hs b)
  | seq => simp only [compC] at hc; split at hc <;> cases hc
  | block => simp only [compC, Option.map_eq_some_iff] at hc; obtain ⟨_, _, e⟩ := hc; cases e
  | loop => simp only [compC, Option.map_eq_some_iff] at hc; obtain ⟨_, _, e⟩ := hc; cases e
  | region id ops d => cases d <;> (simp only [compC] at hc; split at hc <;> first | cases hc | (split at hc <;> cases hc))
  | rangeFunc => simp only [compC] at hc; split at hc <;> cases hc
  | _ => simp [compC] at hc
theorem compC_block {id : Nat} {c : Code} (hc : compC P dr N c = some (.block id qb)) (hs : ∀ b, c ≠ .scope b) : ∃ b, c = .block id b ∧ compC P dr N b = some qb := by
  cases c with
  | block i b => simp only [compC, Option.map_eq_some_iff] at hc; obtain ⟨_, h1, e⟩ := hc; cases e; exact ⟨b, rfl, h1⟩
  | scope b => exact absurd rfl (hs b)
  | seq => simp only [compC] at hc; split at hc <;> cases hc
  | cond => simp only [compC] at hc; split at hc <;> cases hc
  | loop => simp only [compC, Option.map_eq_some_iff] at hc; obtain ⟨_, _, e⟩ := hc; cases e
  | region id ops d => cases d <;> (simp only [compC] at hc; split at hc <;> first | cases hc | (split at hc <;> cases hc))
  | rangeFunc => simp only [compC] at hc; split at hc <;> cases hc
  | _ => simp [compC] at hc
theorem compC_loop {c : Code} (hc : compC P dr N c = some (.loop qb)) (hs : ∀ b, c ≠ .scope b) : ∃ b, c = .loop b ∧ compC P dr N b = some qb := by
  cases c with
  | loop b => simp only [compC, Option.map_eq_some_iff] at hc; obtain ⟨_, h1, e⟩ := hc; cases e; exact ⟨b, rfl, h1⟩
  | scope b => exact absurd rfl (hs b)
  | seq => simp only [compC] at hc; split at hc <;> cases hc
  | cond => simp only [compC] at hc; split at hc <;> cases hc
  | block => simp only [compC, Option.map_eq_some_iff] at hc; obtain ⟨_, _, e⟩ := hc; cases e
  | region id ops d => cases d <;> (simp only [compC] at hc; split at hc <;> first | cases hc | (split at hc <;> cases hc))
  | rangeFunc => simp only [compC] at hc; split at hc <;> cases hc
  | _ => simp [compC] at hc

theorem JQ.seq (j : JQ P dr N F qa lim (Kseq (JQ P dr N F qb lim K) K) e h n) : JQ P dr N F (.seq qa qb) lim K e h n := by
  refine JQ.thruScope fun c hc hs a g w he m hd hf => ?_
  obtain ⟨x, y, rfl, h1, h2⟩ := compC_seq hc hs
  refine wp_seq (wp_mono (j x h1 a g w he m hd hf) ?_)
  rintro ex a' w' ⟨r, k, t, p⟩
  cases r with
  | no => exact p.elim
  | nor e1 h1' n1 =>
    obtain ⟨rfl, k1, g1, he1, m1, f1⟩ := p
    exact wp_mono (k y h2 a' g1 w' he1 m1 f1.dom' (f1.freshA hf)) fun _ _ _ ⟨r, k, t, p⟩ => ⟨r, k, t, p.trans k1 f1⟩
  | ext i e1 h1' n1 => obtain ⟨rfl, p⟩ := p; exact ⟨_, k, t, rfl, p⟩
  | ret e1 h1' n1 => obtain ⟨rfl, p⟩ := p; exact ⟨_, k, t, rfl, p⟩
theorem JQ.cond {x : X} {t : Bool} (hx : evX x e = .b t) (ha : t = true → JQ P dr N F qa lim K e h n) (hb : t = false → JQ P dr N F qb lim K e h n) : JQ P dr N F (.cond x qa qb) lim K e h n := by
  refine JQ.thruScope fun c hc hs a g w he m hd hf => ?_
  obtain ⟨ox, y, z, rfl, h1, h2, h3⟩ := compC_cond hc hs
  have rx := he.ok ox x h1
  rw [hx, V.rel] at rx
  cases t
  · exact wp_cond_false rx (hb rfl z h3 a g w he m hd hf)
  · exact wp_cond_true rx (ha rfl y h2 a g w he m hd hf)
theorem JQ.block {id : Nat} (j : JQ P dr N F qb lim (Kblk id K) e h n) : JQ P dr N F (.block id qb) lim K e h n := by
  refine JQ.thruScope fun c hc hs a g w he m hd hf => ?_
  obtain ⟨b, rfl, h1⟩ := compC_block hc hs
  refine wp_block (wp_mono (j b h1 a g w he m hd hf) ?_)
  rintro ex a' w' ⟨r, k, t, p⟩
  cases r with
  | no => exact p.elim
  | nor e1 h1' n1 => obtain ⟨rfl, p⟩ := p; exact ⟨_, k, t, rfl, p⟩
  | ext i e1 h1' n1 =>
    obtain ⟨rfl, p⟩ := p
    show if i = id then _ else _
    have k : if i = id then K (.nor e1 h1' n1) else K (.ext i e1 h1' n1) := k
    by_cases hi : i = id
    · rw [if_pos hi] at k ⊢; exact ⟨_, k, t, rfl, p⟩
    · rw [if_neg hi] at k ⊢; exact ⟨_, k, t, rfl, p⟩
  | ret e1 h1' n1 => obtain ⟨rfl, p⟩ := p; exact ⟨_, k, t, rfl, p⟩

/-- A loop by its states: each round ends in another state with a smaller measure, or leaves. -/
def Klp {σ : Type} (I : σ → Prop) (env : σ → Tr) (hp : σ → Hp) (nx : σ → Nat) (m : σ → Nat) (s : σ) (K : Rs → Prop) : Rs → Prop
  | .no => False
  | .nor e' h' n' => ∃ s', I s' ∧ m s' < m s ∧ EnvLe (env s') e' ∧ HpLe (hp s') h' ∧ nx s' = n'
  | .ext i e h n => K (.ext i e h n)
  | .ret e h n => K (.ret e h n)
theorem JQ.loop {σ : Type} (I : σ → Prop) (env : σ → Tr) (hp : σ → Hp) (nx : σ → Nat) (m : σ → Nat) (s0 : σ) (hI : I s0) (h1 : EnvLe (env s0) e) (h2 : HpLe (hp s0) h) (h3 : nx s0 = n)
    (round : ∀ s, I s → JQ P dr N F qb lim (Klp I env hp nx m s K) (env s) (hp s) (nx s)) : JQ P dr N F (.loop qb) lim K e h n := by
  subst h3
  refine JQ.weak h1 h2 (JQ.thruScope fun c hc hs a g w he md hd hf => ?_)
  obtain ⟨b, rfl, hb⟩ := compC_loop hc hs
  have key : ∀ (k : Nat) (s : σ), I s → m s < k → ∀ (a1 : Act) (g1 : Sig) (w1 : World), EnvA N g1 (env s) a1 → Mem g1 (hp s).get w1 → Dom (hp s).get (nx s) → FreshA g1 (nx s) →
      Fr lim (nx s0) g (hp s0).get w (nx s) g1 (hp s).get w1 → MkK w a w1 a1 →
      Code.rounds P b (fun ex a' w' => ∃ r, K r ∧ r.top < big ∧ Post N lim g (hp s0) w (nx s0) a r ex a' w') k a1 w1 := by
    intro k
    induction k with
    | zero => intro s _ hm; omega
    | succ k ih =>
      intro s hs hm a1 g1 w1 he1 m1 hd1 hf1 f1 kk1
      rw [rounds_succ]
      refine wp_mono (round s hs b hb a1 g1 w1 he1 m1 hd1 hf1) ?_
      rintro ex a' w' ⟨r, k', t, p⟩
      cases r with
      | no => exact p.elim
      | nor e2 h2' n2 =>
        obtain ⟨rfl, k2, g2, he2, m2, f2⟩ := p
        obtain ⟨s', hI', hms, hle, hph, rfl⟩ := k'
        refine ih s' hI' (by omega) a' g2 w' (he2.weak hle) (m2.weak hph) (Dom.weak hph f2.dom') (f2.freshA hf1) ?_ (kk1.trans k2)
        exact (f1.trans f2).weakT hph
      | ext i e2 h2' n2 => obtain ⟨rfl, p⟩ := p; exact ⟨_, k', t, Post.trans kk1 f1 (r := .ext i e2 h2' n2) ⟨rfl, p⟩⟩
      | ret e2 h2' n2 => obtain ⟨rfl, p⟩ := p; exact ⟨_, k', t, Post.trans kk1 f1 (r := .ret e2 h2' n2) ⟨rfl, p⟩⟩
  exact wp_loop_rounds _ (key _ s0 hI (Nat.lt_succ_self _) a g w he md hd hf (Fr.refl hd) MkK.refl)

/-! A function. -/
def Kend (res : List RV) (Good : V → Hp → Nat → Prop) : Rs → Prop
  | .nor e h n => (evRVs e h res).known = true ∧ Good (evRes e h res) h n
  | .ret e h n => (evRVs e h res).known = true ∧ Good (evRes e h res) h n
  | _ => False
theorem JQ.fn {f : Nat} {fn : Func} {c : Code} (hfn : P.funcs[f]? = some fn) (hb : fn.body = some c) (hq : compC P dr fn.ntmps c = some q) {res : List RV} (hres : compRVs P fn.results.toList = some res)
    {args : L} (hal : args.length < 4294967296) {Good : V → Hp → Nat → Prop} (j : JQ P dr fn.ntmps F q lim (Kend res Good) (bind args 0 .lf) h n)
    {vs : List Value} {g : Sig} {w : World} (ha : args.rel g vs) (hgk : GOK g) (m : Mem g h.get w) (hd : Dom h.get n) (hf : FreshA g n) :
    Calls P f ⟨vs⟩ w fun e w' => ∃ u g' v h' n', e = .returned u ∧ Good v h' n' ∧ n' < big ∧ v.rel g' u ∧ Mem g' h'.get w' ∧ Fr lim n g h.get w n' g' h'.get w' := by
  refine callsIn_wide.1 (callsIn_of_wp_marks (F := Fence.wide) (n := 0) hfn hb trivial (wpIn_mono (wpIn_wide.2 (j c hq _ g w (env_bind hgk ha hal fn.ntmps) m hd hf)) ?_))
  have m0 : Mk w.heap.size w { tmps := (⟨vs⟩ : Array Value) ++ Array.replicate (fn.ntmps - (⟨vs⟩ : Array Value).size) undef, defers := [] } := ⟨List.nodup_nil, fun d hd => by simp at hd⟩
  rintro ex a' w' ⟨r, k, t, p⟩
  have fin : ∀ (e1 : Tr) (h1 : Hp) (n1 : Nat) (g1 : Sig), (evRVs e1 h1 res).known = true → Good (evRes e1 h1 res) h1 n1 → n1 < big → EnvA fn.ntmps g1 e1 a' → Mem g1 h1.get w' → Fr lim n g h.get w n1 g1 h1.get w' → Mk w.heap.size w' a' →
      LeavesInM Fence.wide 0 P fn a'.tmps (fun e w' => ∃ u g' v h' n', e = .returned u ∧ Good v h' n' ∧ n' < big ∧ v.rel g' u ∧ Mem g' h'.get w' ∧ Fr lim n g h.get w n' g' h'.get w') a'.defers .returning w' := by
    intro e1 h1 n1 g1 k1 k2 k3 hE m1 f1 hmk
    refine leave_marks a'.defers w' hmk.1 hmk.2 fun w2 e2 => ?_
    obtain ⟨u, r1, r2⟩ := evRes_sound hE (e2.mem m1) hres k1
    exact ⟨u, r1, u, g1, _, h1, n1, rfl, k2, k3, r2, e2.mem m1, e2.fr f1⟩
  cases r with
  | no => exact p.elim
  | nor e1 h1 n1 => obtain ⟨rfl, kk, g1, hE, m1, f1⟩ := p; exact fin e1 h1 n1 g1 k.1 k.2 t hE m1 f1 (kk.2 _ (Nat.le_refl _) m0)
  | ext => exact k.elim
  | ret e1 h1 n1 => obtain ⟨rfl, kk, g1, hE, m1, f1⟩ := p; exact fin e1 h1 n1 g1 k.1 k.2 t hE m1 f1 (kk.2 _ (Nat.le_refl _) m0)
end

/-! Values without places. -/
mutual
def V.pur : V → Bool
  | .p .. | .sl .. | .mp .. | .yl .. | .lp .. => false
  | .ag l | .tu l => l.pur
  | .fn _ a c => a.pur && c.pur
  | .ifc _ v => v.pur
  | _ => true
def L.pur : L → Bool
  | .nil => true
  | .cons v l => v.pur && l.pur
end
mutual
theorem V.pur_rel {g g' : Sig} : ∀ {v : V} {u : Value}, v.pur = true → v.rel g u → v.rel g' u
  | .bad, _, _, _ => trivial
  | .n _, _, _, h => by simpa [V.rel] using h
  | .i .., _, _, h => by simpa [V.rel] using h
  | .b _, _, _, h => by simpa [V.rel] using h
  | .p .., _, p, _ => by simp [V.pur] at p
  | .np, _, _, h => by simpa [V.rel] using h
  | .sl .., _, p, _ => by simp [V.pur] at p
  | .ns, _, _, h => by simpa [V.rel] using h
  | .ag l, _, p, h => by
    rw [V.rel] at h ⊢
    obtain ⟨vs, h1, h2⟩ := h
    exact ⟨vs, h1, L.pur_rel (by simpa [V.pur] using p) h2⟩
  | .tu l, _, p, h => by
    rw [V.rel] at h ⊢
    obtain ⟨vs, h1, h2⟩ := h
    exact ⟨vs, h1, L.pur_rel (by simpa [V.pur] using p) h2⟩
  | .fn f a c, _, p, h => by
    rw [V.rel] at h ⊢
    obtain ⟨va, vc, h1, h2, h3⟩ := h
    simp [V.pur] at p
    exact ⟨va, vc, h1, L.pur_rel p.1 h2, L.pur_rel p.2 h3⟩
  | .nf, _, _, h => by simpa [V.rel] using h
  | .s _, _, _, h => by simpa [V.rel] using h
  | .ifc t v, _, p, h => by
    rw [V.rel] at h ⊢
    obtain ⟨u, h1, h2⟩ := h
    exact ⟨u, h1, V.pur_rel (by simpa [V.pur] using p) h2⟩
  | .nif, _, _, h => by simpa [V.rel] using h
  | .mp .., _, p, _ => by simp [V.pur] at p
  | .nm, _, _, h => by simpa [V.rel] using h
  | .yl .., _, p, _ => by simp [V.pur] at p
  | .lp .., _, p, _ => by simp [V.pur] at p
theorem L.pur_rel {g g' : Sig} : ∀ {l : L} {vs : List Value}, l.pur = true → l.rel g vs → l.rel g' vs
  | .nil, _, _, h => by simpa [L.rel] using h
  | .cons v l, _, p, h => by
    rw [L.rel] at h ⊢
    simp [L.pur] at p
    obtain ⟨u, us, h1, h2, h3⟩ := h
    exact ⟨u, us, h1, V.pur_rel p.1 h2, L.pur_rel p.2 h3⟩
end

/-- A function of plain values with a plain result, run by itself. -/
theorem pureC {P : Program} {dr : List Nat} {F : FF} {q : IC} {f : Nat} {fn : Func} {c : Code} (hfn : P.funcs[f]? = some fn) (hnm : (fn.name == "runtime.NumGoroutine") = false) (hb : fn.body = some c) (hq : compC P dr fn.ntmps c = some q)
    {res : List RV} (hres : compRVs P fn.results.toList = some res) {args : L} (hal : args.length < 4294967296) (hpa : args.pur = true) {v : V} (hpv : v.pur = true)
    (j : JQ P dr fn.ntmps F q 256 (Kend res fun v' _ _ => v' = v) (bind args 0 .lf) .lf 256) (lim : Nat) (h : Hp) (n : Nat) : CallsOK P f args lim h n v h n := by
  intro vs g w ha hgk m hd hf hn
  refine ⟨⟨fn, hfn, hnm, by rw [hb]; rfl⟩, ?_⟩
  have h0 : ∀ p, (Hp.get p .lf) = none := Hp.get_lf
  have hgr : GOK (fun p => if p.num ≤ 255 then g p else none) := fun k hk => by
    obtain ⟨tot, e⟩ := hgk k hk
    refine ⟨tot, ?_⟩
    have := num_posF 63 (k + 1) (by omega) (by unfold gK at hk; omega)
    show (if (posF 63 (k + 1)).num ≤ 255 then _ else _) = _
    rw [this, if_pos (by unfold gK at hk; omega)]; exact e
  refine (JQ.fn hfn hb hq hres hal j (g := fun p => if p.num ≤ 255 then g p else none) (w := w) (L.pur_rel hpa ha) hgr ⟨fun p q bp bq _ _ _ _ _ hp => ?_, fun p b hp => ?_⟩ (fun p b hp => ?_) (fun p hp => if_neg (by omega))).mono ?_
  · have := (h0 _).symm.trans hp; cases this
  · have := (h0 _).symm.trans hp; cases this
  · have := (h0 _).symm.trans hp; cases this
  · rintro e w' ⟨u, g', v', h', n', rfl, rfl, _, hv, _, f⟩
    have keep : ∀ r, r < w.heap.size → w'.heap[r]? = w.heap[r]? := fun r hr => f.keep r hr fun p b base tot hp => by
      have := (h0 _).symm.trans hp; cases this
    refine ⟨u, g, rfl, V.pur_rel hpv hv, ⟨m.inj, fun p b hp => ?_⟩, ?_⟩
    · obtain ⟨r, base, tot, cur, c1, c2, c3, c4, c5, c6⟩ := m.blk p b hp
      exact ⟨r, base, tot, cur, c1, c2.keep (keep r (m.lt hp c1)), c3, c4, c5, c6⟩
    · exact { le := Nat.le_refl _, os := f.os, tape := f.tape, output := f.output, size := f.size, keep := fun r hr _ => keep r hr, sig := fun _ _ => rfl,
              dom := fun p b e => ⟨fun _ => ⟨b, e⟩, hd p b e⟩, new := fun _ _ _ _ a b => by omega }
end Go.Proofs.Ythgaekbcmhbbgaa.Ev
/- The evaluator on values that are not known: one equation for each step. -/
namespace Go.Proofs.Ythgaekbcmhbbgaa.Ev
set_option linter.unusedVariables false
open Go

/-- An int. -/
noncomputable def I (z : Int) : V := mkI .i64 z
theorem n_I {a : Nat} (h : a < 9223372036854775808) : V.n a = I a := by
  show _ = mkI .i64 (Int.ofNat a)
  simp only [mkI, fN_eq]
  have : Nat.blt a 9223372036854775808 = true := by rw [Nat.blt_eq]; exact h
  rw [this]
theorem n_lit (k : Nat) (h : Nat.blt k 9223372036854775808 = true) : V.n (OfNat.ofNat k) = I (OfNat.ofNat k) := n_I (a := k) (Nat.blt_eq.mp h)
theorem onK_I {β : Type} (z : Int) (f : IntKind → Int → β) (s : β) : onK (I z) f s = f .i64 z := by
  cases z with
  | ofNat a =>
    simp only [I, mkI, fN_eq]
    cases Nat.blt a 9223372036854775808 <;> rfl
  | negSucc a => simp only [I, mkI, fN_eq]; rfl
theorem onN_I {β : Type} {z : Int} (f : Nat → β) (s : β) (h0 : 0 ≤ z) (h1 : z < 9223372036854775808) : onN (I z) f s = f z.toNat := by
  obtain ⟨a, rfl⟩ := Int.eq_ofNat_of_zero_le h0
  rw [← n_I (by omega)]
  simp [onN, V.asN]
theorem onN_neg {β : Type} {z : Int} (h0 : ¬ (0 ≤ z ∧ z < 9223372036854775808)) (f : Nat → β) (s : β) : onN (I z) f s = s := by
  cases z with
  | ofNat a =>
    simp only [I, mkI, fN_eq]
    cases h : Nat.blt a 9223372036854775808
    · rfl
    · rw [Nat.blt_eq] at h; exact absurd ⟨by simp, by simp; omega⟩ h0
  | negSucc a => simp only [I, mkI, fN_eq]; rfl
theorem onI_I {β : Type} {z : Int} (f : Nat → β) (s : β) (h0 : 0 ≤ z) : onI (I z) f s = f z.toNat := by
  obtain ⟨a, rfl⟩ := Int.eq_ofNat_of_zero_le h0
  show onI (mkI .i64 (Int.ofNat a)) f s = _
  simp only [mkI, fN_eq]
  cases Nat.blt a 9223372036854775808 <;> rfl
theorem I_rel {g : Sig} {z : Int} : (I z).rel g (.int .i64 z) := mkI_rel g .i64 z
theorem I_rel_iff {g : Sig} {z : Int} {u : Value} : (I z).rel g u ↔ u = .int .i64 z := by
  constructor
  · cases z with
    | ofNat a =>
      simp only [I, mkI, fN_eq]
      cases Nat.blt a 9223372036854775808
      · intro h; rw [V.rel] at h; exact h
      · intro h; rw [V.rel] at h; exact h.1
    | negSucc a => simp only [I, mkI, fN_eq]; intro h; rw [V.rel] at h; exact h
  · rintro rfl; exact I_rel
theorem I_ne (z : Int) : I z ≠ .bad := by
  cases z with
  | ofNat a => simp only [I, mkI, fN_eq]; cases Nat.blt a 9223372036854775808 <;> simp
  | negSucc a => simp only [I, mkI, fN_eq]; simp
theorem I_cases (z : Int) : (∃ a, I z = .n a) ∨ ∃ k y, I z = .i k y := by
  cases z with
  | ofNat a => simp only [I, mkI, fN_eq]; cases Nat.blt a 9223372036854775808 <;> simp
  | negSucc a => simp only [I, mkI, fN_eq]; simp
theorem I_pur (z : Int) : (I z).pur = true := by rcases I_cases z with ⟨a, e⟩ | ⟨k, y, e⟩ <;> rw [e] <;> rfl
theorem I_isC (z : Int) : (I z).isC = true := by rcases I_cases z with ⟨a, e⟩ | ⟨k, y, e⟩ <;> rw [e] <;> rfl
theorem I_known (z : Int) : (I z).known = true := by rcases I_cases z with ⟨a, e⟩ | ⟨k, y, e⟩ <;> rw [e] <;> rfl
theorem pv_I (z : Int) (h : Hp) (n : Nat) : pv (I z) h n = .ok (I z) h n := by rcases I_cases z with ⟨a, e⟩ | ⟨k, y, e⟩ <;> rw [e] <;> rfl
theorem pv_i (k : IntKind) (z : Int) (h : Hp) (n : Nat) : pv (.i k z) h n = .ok (.i k z) h n := rfl
theorem pv_b (z : Bool) (h : Hp) (n : Nat) : pv (.b z) h n = .ok (.b z) h n := rfl
theorem pv_s (z : List Nat) (h : Hp) (n : Nat) : pv (.s z) h n = .ok (.s z) h n := rfl
theorem pv_ns (h : Hp) (n : Nat) : pv .ns h n = .ok .ns h n := rfl
theorem pv_sl (a : Pos) (x y z : Nat) (c : Option Nat) (h : Hp) (n : Nat) : pv (.sl a x y z c) h n = .ok (.sl a x y z c) h n := rfl
theorem pv_p (a : Pos) (x : Nat) (h : Hp) (n : Nat) : pv (.p a x) h n = .ok (.p a x) h n := rfl
theorem pv_tu (l : L) (h : Hp) (n : Nat) : pv (.tu l) h n = .ok (.tu l) h n := rfl
theorem pv_ag (l : L) (h : Hp) (n : Nat) : pv (.ag l) h n = .ok (.ag l) h n := rfl
theorem wrap64 {z : Int} (h0 : -9223372036854775808 ≤ z) (h1 : z < 9223372036854775808) : IntKind.i64.wrap z = z := by rw [IntKind.wrap_i64]; omega
theorem slow_I (op : BinOp) (a b : Int) (h : op ≠ .shl) (h' : op ≠ .shr) : slowB op (I a) (I b) = slowI op .i64 a b := by
  cases op <;> first | exact absurd rfl h | exact absurd rfl h' | simp [slowB, onK_I]
theorem onNN_I {a b : Int} {f : Nat → Nat → V} {S R : V} (hS : S = R) (hf : ∀ p q : Nat, a = p → b = q → p < 9223372036854775808 → q < 9223372036854775808 → f p q = R) : onNN (I a) (I b) f S = R := by
  unfold onNN
  by_cases ha : 0 ≤ a ∧ a < 9223372036854775808
  · rw [onN_I _ _ ha.1 ha.2]
    by_cases hb : 0 ≤ b ∧ b < 9223372036854775808
    · rw [onN_I _ _ hb.1 hb.2]
      exact hf _ _ (Int.toNat_of_nonneg ha.1).symm (Int.toNat_of_nonneg hb.1).symm (by omega) (by omega)
    · rw [onN_neg hb, hS]
  · rw [onN_neg ha, hS]
theorem small_I {c : Nat} {s R : V} (hs : s = R) (h : c < 9223372036854775808 → V.n c = R) : small c s = R := by
  rcases small_or c s with ⟨h', e⟩ | e
  · rw [e, h h']
  · rw [e, hs]
theorem sadd (a b : Int) : slowB .add (I a) (I b) = I (IntKind.i64.wrap (a + b)) := slow_I _ _ _ (by simp) (by simp)
theorem bin_add_w (a b : Int) : binV .add (I a) (I b) = I (IntKind.i64.wrap (a + b)) :=
  (binV_eq _ _ _).trans <| onNN_I (sadd a b) fun p q hp hq _ _ => small_I (sadd a b) fun h => by
    rw [n_I h, hp, hq, ← wrap_nat h]; simp
theorem bin_add {a b : Int} (h0 : -9223372036854775808 ≤ a + b) (h1 : a + b < 9223372036854775808) : binV .add (I a) (I b) = I (a + b) := by rw [bin_add_w, wrap64 h0 h1]
theorem ssub (a b : Int) : slowB .sub (I a) (I b) = I (IntKind.i64.wrap (a - b)) := slow_I _ _ _ (by simp) (by simp)
theorem bin_sub_w (a b : Int) : binV .sub (I a) (I b) = I (IntKind.i64.wrap (a - b)) :=
  (binV_eq _ _ _).trans <| onNN_I (ssub a b) fun p q hp hq h1 h2 => by
    cases hb : Nat.ble q p
    · exact ssub a b
    · rw [Nat.ble_eq] at hb
      show fN (p - q) V.n = _
      rw [fN_eq, n_I (by omega), hp, hq, wrap64 (by omega) (by omega)]
      congr 1; omega
theorem bin_sub {a b : Int} (h0 : -9223372036854775808 ≤ a - b) (h1 : a - b < 9223372036854775808) : binV .sub (I a) (I b) = I (a - b) := by rw [bin_sub_w, wrap64 h0 h1]
theorem smul (a b : Int) : slowB .mul (I a) (I b) = I (IntKind.i64.wrap (a * b)) := slow_I _ _ _ (by simp) (by simp)
theorem bin_mul_w (a b : Int) : binV .mul (I a) (I b) = I (IntKind.i64.wrap (a * b)) :=
  (binV_eq _ _ _).trans <| onNN_I (smul a b) fun p q hp hq _ _ => small_I (smul a b) fun h => by
    have h' : p * q < 9223372036854775808 := h
    rw [n_I h, hp, hq, ← wrap_nat h]; simp
theorem bin_mul {a b : Int} (h0 : -9223372036854775808 ≤ a * b) (h1 : a * b < 9223372036854775808) : binV .mul (I a) (I b) = I (a * b) := by rw [bin_mul_w, wrap64 h0 h1]
theorem bin_quo_w {a b : Int} (h : b ≠ 0) : binV .quo (I a) (I b) = I (IntKind.i64.wrap (a.tdiv b)) := by
  have hs : slowB .quo (I a) (I b) = I (IntKind.i64.wrap (a.tdiv b)) := by rw [slow_I _ _ _ (by simp) (by simp)]; simp only [slowI, if_neg h]; rfl
  refine (binV_eq _ _ _).trans (onNN_I hs fun p q hp hq h1 h2 => ?_)
  have hq0 : q ≠ 0 := by omega
  have : Nat.beq q 0 = false := by
    cases hx : Nat.beq q 0
    · rfl
    · rw [Nat.beq_eq] at hx; exact absurd hx hq0
  rw [this]
  show fN (p / q) V.n = _
  have hlt : p / q < 9223372036854775808 := Nat.lt_of_le_of_lt (Nat.div_le_self _ _) h1
  rw [fN_eq, n_I hlt, hp, hq, ← wrap_nat hlt]; rfl
theorem bin_quo {a b : Int} (h : 0 < b) (h0 : 0 ≤ a) (h1 : a < 9223372036854775808) : binV .quo (I a) (I b) = I (a / b) := by
  rw [bin_quo_w (by omega)]
  have e := Int.tdiv_eq_ediv_of_nonneg (b := b) h0
  have h2 := Int.ediv_nonneg h0 (Int.le_of_lt h)
  have h3 := Int.ediv_le_self b h0
  rw [e, wrap64 (by omega) (by omega)]
theorem bin_rem {a b : Int} (h : 0 < b) (h0 : 0 ≤ a) : binV .rem (I a) (I b) = I (a % b) := by
  have hs : slowB .rem (I a) (I b) = I (a % b) := by
    rw [slow_I _ _ _ (by simp) (by simp)]; simp only [slowI, if_neg (show ¬ b = 0 by omega)]
    rw [Int.tmod_eq_emod_of_nonneg h0]; rfl
  refine (binV_eq _ _ _).trans (onNN_I hs fun p q hp hq h1 h2 => ?_)
  have hq0 : q ≠ 0 := by omega
  have : Nat.beq q 0 = false := by
    cases hx : Nat.beq q 0
    · rfl
    · rw [Nat.beq_eq] at hx; exact absurd hx hq0
  rw [this]
  show fN (p % q) V.n = _
  rw [fN_eq, n_I (Nat.lt_of_le_of_lt (Nat.mod_le _ _) h1), hp, hq]; simp
theorem bin_lss (a b : Int) : binV .lss (I a) (I b) = .b (decide (a < b)) :=
  (binV_eq _ _ _).trans <| onNN_I (by rw [slow_I _ _ _ (by simp) (by simp)]; simp only [slowI]; rw [fB_eq]) fun p q hp hq _ _ => by
    show fB _ = _
    rw [fB_eq, hp, hq]; congr 1
    rw [Bool.eq_iff_iff, Nat.blt_eq, decide_eq_true_eq]; omega
theorem bin_leq (a b : Int) : binV .leq (I a) (I b) = .b (decide (a ≤ b)) :=
  (binV_eq _ _ _).trans <| onNN_I (by rw [slow_I _ _ _ (by simp) (by simp)]; simp only [slowI]; rw [fB_eq]) fun p q hp hq _ _ => by
    show fB _ = _
    rw [fB_eq, hp, hq]; congr 1
    rw [Bool.eq_iff_iff, Nat.ble_eq, decide_eq_true_eq]; omega
theorem bin_gtr (a b : Int) : binV .gtr (I a) (I b) = .b (decide (b < a)) :=
  (binV_eq _ _ _).trans <| onNN_I (by rw [slow_I _ _ _ (by simp) (by simp)]; simp only [slowI]; rw [fB_eq]) fun p q hp hq _ _ => by
    show fB _ = _
    rw [fB_eq, hp, hq]; congr 1
    rw [Bool.eq_iff_iff, Nat.blt_eq, decide_eq_true_eq]; omega
theorem bin_geq (a b : Int) : binV .geq (I a) (I b) = .b (decide (b ≤ a)) :=
  (binV_eq _ _ _).trans <| onNN_I (by rw [slow_I _ _ _ (by simp) (by simp)]; simp only [slowI]; rw [fB_eq]) fun p q hp hq _ _ => by
    show fB _ = _
    rw [fB_eq, hp, hq]; congr 1
    rw [Bool.eq_iff_iff, Nat.ble_eq, decide_eq_true_eq]; omega
theorem bin_eql (a b : Int) : binV .eql (I a) (I b) = .b (decide (a = b)) :=
  (binV_eq _ _ _).trans <| onNN_I (by rw [slow_I _ _ _ (by simp) (by simp)]; simp only [slowI]; rw [fB_eq]; congr 1) fun p q hp hq _ _ => by
    show fB _ = _
    rw [fB_eq, hp, hq]; congr 1
    rw [Bool.eq_iff_iff, Nat.beq_eq, decide_eq_true_eq]; omega
theorem bin_neq (a b : Int) : binV .neq (I a) (I b) = .b (!decide (a = b)) :=
  (binV_eq _ _ _).trans <| onNN_I (by rw [slow_I _ _ _ (by simp) (by simp)]; simp only [slowI]; rw [fB_eq]; congr 1) fun p q hp hq _ _ => by
    show (Bool.rec (.b true) (.b false) (Nat.beq p q) : V) = _
    have : Nat.beq p q = decide (a = b) := by rw [Bool.eq_iff_iff, Nat.beq_eq, decide_eq_true_eq]; omega
    rw [this]; cases decide (a = b) <;> rfl
/-! Numbers of another kind. -/
theorem onN_i {β : Type} (k : IntKind) (a : Int) (f : Nat → β) (z : β) : onN (.i k a) f z = z := rfl
theorem bin8_eql (k : IntKind) (a b : Int) : binV .eql (.i k a) (.i k b) = .b (decide (a = b)) := by
  have e : binV .eql (.i k a) (.i k b) = slowI .eql k a b := (binV_eq _ _ _).trans (if_pos rfl)
  rw [e]
  simp only [slowI]
  rw [fB_eq]; congr 1
theorem bin8_neq (k : IntKind) (a b : Int) : binV .neq (.i k a) (.i k b) = .b (!decide (a = b)) := by
  have e : binV .neq (.i k a) (.i k b) = slowI .neq k a b := (binV_eq _ _ _).trans (if_pos rfl)
  rw [e]
  simp only [slowI]
  rw [fB_eq]; congr 1

theorem JQ.step {P : Program} {dr : List Nat} {N lim n : Nat} {F : FF} {qa qb : IC} {K : Rs → Prop} {e : Tr} {h : Hp} (hP : P.follows .mixedOrders = true) (hF : FOK P F) (hM : F.mono) (j : Got (Kseq (JQ P dr N F qb lim K) K) (evC qa F lim e h n)) : JQ P dr N F (.seq qa qb) lim K e h n := JQ.seq (JQ.run hP hF hM j)

/-! Slots. -/
theorem get_st (t : Tr) (x : V) (i j : Nat) (hi : i < 4294967296) (hj : j < 4294967296) : (t.set x (tp i)).get (tp j) = if j = i then x else t.get (tp j) := by
  rw [Tr.get_set]
  by_cases h : j = i
  · subst h; simp
  · rw [if_neg h, if_neg (fun e => h (tp_inj hj hi e))]
theorem get_lf (j : Nat) : Tr.lf.get (tp j) = .bad := Tr.get_lf _
theorem bind_nil (k : Nat) (e : Tr) : bind .nil k e = e := rfl
theorem bind_cons (v : V) (l : L) (k : Nat) (e : Tr) : bind (.cons v l) k e = bind l (k + 1) (e.set v (tp k)) := rfl

/-! Pieces. -/
noncomputable def bindR (r : Res) (d : Option Pos) (l : RL) (F : FF) (lim : Nat) (e : Tr) : Rg :=
  match r with
  | .no => .no
  | .ok v h n => match d with
    | some p => evR l F lim (e.set v p) h n
    | none => evR l F lim e h n
section
variable (F : FF) (lim : Nat) (e : Tr) (h : Hp) (n : Nat)
theorem evR_nil : evR .nil F lim e h n = .ok e h n := rfl
theorem evR_cons (d : Option Pos) (o : O) (l : RL) : evR (.cons d none o l) F lim e h n = bindR (o.ev F e lim h n) d l F lim e := by
  show runR d o (evR l) F lim e h n = _
  unfold runR bindR
  cases o.ev F e lim h n with
  | no => rfl
  | ok v h' n' =>
    show putd d v e (fun e' => evR l F lim e' h' n') = _
    cases d with
    | none => rfl
    | some p => rfl
theorem bindR_ok (v : V) (p : Pos) (l : RL) : bindR (.ok v h n) (some p) l F lim e = evR l F lim (e.set v p) h n := rfl
theorem bindR_okn (v : V) (l : RL) : bindR (.ok v h n) none l F lim e = evR l F lim e h n := rfl
noncomputable def guardB (g : V) (b : Bool) (d : Option Pos) (o : O) (l : RL) : Rg :=
  guardR g b (runR d o (evR l) F lim e h n) (putd d (.tu .nil) e fun e' => evR l F lim e' h n) .no
theorem evR_gd (d : Option Pos) (gd : Pos × Bool) (o : O) (l : RL) : evR (.cons d (some gd) o l) F lim e h n = guardB F lim e h n (e.get gd.1) gd.2 d o l := rfl
theorem guardB_run (t b : Bool) (d : Option Pos) (o : O) (l : RL) (hb : t = b) : guardB F lim e h n (.b t) b d o l = evR (.cons d none o l) F lim e h n := by
  subst hb; cases t <;> rfl
theorem guardB_skip (t b : Bool) (p : Pos) (o : O) (l : RL) (hb : t = !b) : guardB F lim e h n (.b t) b (some p) o l = evR l F lim (e.set (.tu .nil) p) h n := by
  subst hb; cases b <;> rfl
theorem guardB_tt (d : Option Pos) (o : O) (l : RL) : guardB F lim e h n (.b true) true d o l = evR (.cons d none o l) F lim e h n := rfl
theorem guardB_ff (d : Option Pos) (o : O) (l : RL) : guardB F lim e h n (.b false) false d o l = evR (.cons d none o l) F lim e h n := rfl
theorem guardB_tf (p : Pos) (o : O) (l : RL) : guardB F lim e h n (.b true) false (some p) o l = evR l F lim (e.set (.tu .nil) p) h n := guardB_skip F lim e h n true false p o l rfl
theorem guardB_ft (p : Pos) (o : O) (l : RL) : guardB F lim e h n (.b false) true (some p) o l = evR l F lim (e.set (.tu .nil) p) h n := guardB_skip F lim e h n false true p o l rfl
theorem guardB_none (b : Bool) (p : Pos) (o : O) (l : RL) : guardB F lim e h n (.tu .nil) b (some p) o l = evR l F lim (e.set (.tu .nil) p) h n := rfl
noncomputable def seqR (r : Rs) (q : IC) : Rs := match r with | .no => .no | .nor e h n => evC q F lim e h n | .ext i e h n => .ext i e h n | .ret e h n => .ret e h n
theorem evC_seq (a b : IC) : evC (.seq a b) F lim e h n = seqR F lim (evC a F lim e h n) b := by
  show evSeq (evC a) (evC b) F lim e h n = _
  unfold evSeq seqR
  cases evC a F lim e h n <;> rfl
theorem seqR_nor (q : IC) : seqR F lim (.nor e h n) q = evC q F lim e h n := rfl
theorem seqR_ext (i : Nat) (q : IC) : seqR F lim (.ext i e h n) q = .ext i e h n := rfl
theorem seqR_ret (q : IC) : seqR F lim (.ret e h n) q = .ret e h n := rfl
theorem evC_reg (l : RL) : evC (.reg l) F lim e h n = rgRs (evR l F lim e h n) := rfl
theorem evC_draw (l : DR) : evC (.draw l) F lim e h n = rgRs (evDr l F lim e h n) := rfl
theorem rgRs_ok : rgRs (.ok e h n) = .nor e h n := rfl
theorem evC_ret : evC .ret F lim e h n = .ret e h n := rfl
theorem evC_skip : evC .skip F lim e h n = .nor e h n := rfl
theorem evC_exit (i : Nat) : evC (.exit i) F lim e h n = .ext i e h n := rfl
noncomputable def condR (v : V) (a b : IC) : Rs := onB v (fun t => Bool.rec (evC b F lim e h n) (evC a F lim e h n) t) .no
theorem evC_cond (x : X) (a b : IC) : evC (.cond x a b) F lim e h n = condR F lim e h n (evX x e) a b := rfl
theorem condR_true (a b : IC) : condR F lim e h n (.b true) a b = evC a F lim e h n := rfl
theorem condR_false (a b : IC) : condR F lim e h n (.b false) a b = evC b F lim e h n := rfl
noncomputable def blockR (id : Nat) (r : Rs) : Rs := match r with | .no => .no | .nor e h n => .nor e h n | .ext i e h n => if i = id then .nor e h n else .ext i e h n | .ret e h n => .ret e h n
theorem evC_block (id : Nat) (b : IC) : evC (.block id b) F lim e h n = blockR id (evC b F lim e h n) := by
  show evBlock id (evC b) F lim e h n = _
  unfold evBlock blockR
  cases evC b F lim e h n with
  | ext i e h n =>
    show (Bool.rec (.ext i e h n) (.nor e h n) (Nat.beq i id) : Rs) = _
    by_cases hi : i = id
    · subst hi
      have : Nat.beq i i = true := by rw [Nat.beq_eq]
      rw [this]; simp
    · have : Nat.beq i id = false := by
        cases hb : Nat.beq i id
        · rfl
        · rw [Nat.beq_eq] at hb; exact absurd hb hi
      rw [this]; simp [hi]
  | _ => rfl
theorem blockR_nor (id : Nat) : blockR id (.nor e h n) = .nor e h n := rfl
theorem blockR_ext (id i : Nat) : blockR id (.ext i e h n) = if i = id then .nor e h n else .ext i e h n := rfl
theorem blockR_ret (id : Nat) : blockR id (.ret e h n) = .ret e h n := rfl
theorem evX_t (p : Pos) : evX (.t p) e = e.get p := rfl
theorem evX_c (v : V) : evX (.c v) e = v := rfl
theorem evXL_nil : evXL .nil e = .nil := rfl
theorem evXL_cons (x : X) (l : XL) : evXL (.cons x l) e = .cons (evX x e) (evXL l e) := rfl

/-! Operations. -/
theorem O_mv (x : X) : (O.mv x).ev F e lim h n = .ok (evX x e) h n := rfl
theorem O_bin (op : BinOp) (x y : X) : (O.bin op x y).ev F e lim h n = pv (binV op (evX x e) (evX y e)) h n := rfl
theorem O_pick (c a b : X) : (O.pick c a b).ev F e lim h n = pv (onB (evX c e) (fun t => Bool.rec (evX b e) (evX a e) t) .bad) h n := rfl
theorem O_eqb (m : Bool) (x y : X) : (O.eqb m x y).ev F e lim h n = pv (eqbV m (evX x e) (evX y e)) h n := rfl
theorem O_not (x : X) : (O.not x).ev F e lim h n = pv (onB (evX x e) (fun t => Bool.rec (.b true) (.b false) t) .bad) h n := rfl
theorem O_ext (i : Nat) (x : X) : (O.ext i x).ev F e lim h n = pv (onT (evX x e) (fun l => nthL i l) .bad) h n := rfl
theorem O_call (f : Nat) (xs : XL) : (O.call f xs).ev F e lim h n = F f (evXL xs e) lim h n := rfl
theorem O_conv (k : IntKind) (x : X) : (O.conv k x).ev F e lim h n = pv (onK (evX x e) (fun _ z => mkI k (k.wrap z)) .bad) h n := rfl
theorem O_slen (x : X) : (O.slen x).ev F e lim h n = pv (onStr (evX x e) (fun l => small l.length .bad) .bad) h n := rfl
theorem O_six (x i : X) : (O.six x i).ev F e lim h n = pv (onStr (evX x e) (fun l => onI (evX i e) (fun j => nthS l j) .bad) .bad) h n := rfl
theorem O_sbi (op : BinOp) (x y : X) : (O.sbi op x y).ev F e lim h n = pv (onStr (evX x e) (fun l => onStr (evX y e) (fun m => strV op l m) .bad) .bad) h n := rfl
theorem O_build (z : L) (ps : PL) : (O.build z ps).ev F e lim h n = evBuild z ps e lim h n := rfl
theorem O_part (o k : Nat) (a : Bool) (x : X) : (O.part o k a x).ev F e lim h n = evPart o k a x e lim h n := rfl
end
theorem onStr_s {β : Type} (l : List Nat) (f : List Nat → β) (z : β) : onStr (.s l) f z = f l := rfl
theorem onB_b {β : Type} (t : Bool) (f : Bool → β) (z : β) : onB (.b t) f z = f t := rfl
theorem onT_tu {β : Type} (l : L) (f : L → β) (z : β) : onT (.tu l) f z = f l := rfl
theorem eqb_b (m a b : Bool) : eqbV m (.b a) (.b b) = .b (if m then xor a b else !xor a b) := by cases m <;> cases a <;> cases b <;> rfl
theorem not_b (t : Bool) : (Bool.rec (.b true) (.b false) t : V) = .b !t := by cases t <;> rfl
theorem nthL_0 (v : V) (l : L) : nthL 0 (.cons v l) = v := rfl
theorem nthL_1 (u v : V) (l : L) : nthL 1 (.cons u (.cons v l)) = v := rfl
theorem nthL_2 (u v x : V) (l : L) : nthL 2 (.cons u (.cons v (.cons x l))) = x := rfl
theorem small_len {c : Nat} (s : V) (h : c < 9223372036854775808) : small c s = I c := by
  rcases small_or c s with ⟨h', e⟩ | e
  · rw [e, n_I h]
  · rw [← n_I h]
    unfold small
    rw [fN_eq]
    have : Nat.blt c 9223372036854775808 = true := by rw [Nat.blt_eq]; exact h
    rw [this]
/-- A byte of a string. -/
def byt (l : List Nat) (j : Nat) : Int := ((l.getD j 0 % 256 : Nat) : Int)
theorem nthS_at {l : List Nat} {j : Nat} (h : j < l.length) : nthS l j = .i .u8 (byt l j) := by
  rw [nthS_eq, List.getElem?_eq_getElem h]
  simp [byt, List.getD, List.getElem?_eq_getElem h]
theorem known_nil : L.known .nil = true := rfl
theorem known_cons (v : V) (l : L) : L.known (.cons v l) = (v.known && l.known) := rfl
theorem evRVs_nil (e : Tr) (h : Hp) : evRVs e h [] = .nil := rfl
theorem evRVs_cons (e : Tr) (h : Hp) (r : RV) (l : List RV) : evRVs e h (r :: l) = .cons (evRV r e h) (evRVs e h l) := rfl
theorem evRes_1 (e : Tr) (h : Hp) (r : RV) : evRes e h [r] = evRV r e h := rfl
theorem evRes_2 (e : Tr) (h : Hp) (r r' : RV) (l : List RV) : evRes e h (r :: r' :: l) = .tu (evRVs e h (r :: r' :: l)) := rfl
theorem evRV_tmp (p : Pos) (e : Tr) (h : Hp) : evRV (.tmp p) e h = e.get p := rfl
theorem Got_nor (K : Rs → Prop) (e : Tr) (h : Hp) (n : Nat) : Got K (.nor e h n) ↔ (n < big ∧ K (.nor e h n)) := Iff.rfl
theorem Got_ext (K : Rs → Prop) (i : Nat) (e : Tr) (h : Hp) (n : Nat) : Got K (.ext i e h n) ↔ (n < big ∧ K (.ext i e h n)) := Iff.rfl
theorem Got_ret (K : Rs → Prop) (e : Tr) (h : Hp) (n : Nat) : Got K (.ret e h n) ↔ (n < big ∧ K (.ret e h n)) := Iff.rfl
theorem known_b (t : Bool) : (V.b t).known = true := rfl
theorem known_s (t : List Nat) : (V.s t).known = true := rfl
end Go.Proofs.Ythgaekbcmhbbgaa.Ev
/- Contracts with slices: a function run by itself, on blocks of its own numbering. -/
namespace Go.Proofs.Ythgaekbcmhbbgaa.Ev
set_option linter.unusedVariables false
open Go

/-- Blocks at the first free places. -/
noncomputable def hp0 : List Blk → Nat → Hp
  | [], _ => .lf
  | b :: l, i => (hp0 l (i + 1)).put (some b) (tp i)
theorem hp0_get : ∀ (l : List Blk) (i : Nat), i + l.length < 4294967296 → ∀ p b, (hp0 l i).get p = some b → ∃ j, j < l.length ∧ p = tp (i + j) ∧ l[j]? = some b
  | [], i, _, p, b, h => by
    have h : (Hp.get p .lf) = some b := h
    rw [Hp.get_lf] at h; cases h
  | b0 :: l, i, hl, p, b, h => by
    simp only [hp0, Hp.get_put] at h
    simp only [List.length_cons] at hl
    split at h
    · rename_i e; cases h; exact ⟨0, by simp, by simpa using e, rfl⟩
    · obtain ⟨j, h1, h2, h3⟩ := hp0_get l (i + 1) (by omega) p b h
      exact ⟨j + 1, by simp; omega, by rw [h2]; congr 1; omega, by simpa using h3⟩

/-- Places of one's own numbering. -/
def ren (ps : List (Pos × Nat)) (g : Sig) : Sig := fun p => if p.num ≤ 255 then g p else match ps[p.num - 256]? with | some q => (g q.1).map fun x => (x.1, x.2.1 + q.2, x.2.2) | none => none
theorem tp_num {t : Nat} (h : t < 4294967296) : (tp t).num = t + 1 := num_posF 63 (t + 1) (by omega) (by omega)
theorem ren_at {ps : List (Pos × Nat)} {g : Sig} {j : Nat} {q : Pos × Nat} (hj : j < 1000) (h : ps[j]? = some q) : ren ps g (tp (255 + j)) = (g q.1).map fun x => (x.1, x.2.1 + q.2, x.2.2) := by
  unfold ren
  rw [tp_num (by omega), if_neg (by omega), show 255 + j + 1 - 256 = j by omega, h]

section
variable {P : Program}
structure Ins (ps : List (Pos × Nat)) (bs : List Blk) (h : Hp) : Prop where
  len : bs.length = ps.length
  few : ps.length < 1000
  nd : ∀ (i j : Nat) (p q : Pos × Nat), ps[i]? = some p → ps[j]? = some q → p.1 = q.1 → i = j
  lf : ∀ b0 ∈ bs, b0.m = .lf
  le : ∀ (j : Nat) (q : Pos × Nat) (b0 : Blk), ps[j]? = some q → bs[j]? = some b0 → ∃ b, h.get q.1 = some b ∧ b0.el = b.el ∧ q.2 + b0.size ≤ b.size ∧ ∀ k, k < b0.size → ∀ (g g' : Sig) (u : Value), V.rel g (b.cell (q.2 + k)) u → V.rel g' (b0.cell k) u

theorem Ins.mem {ps : List (Pos × Nat)} {bs : List Blk} {h : Hp} (I : Ins ps bs h) {g : Sig} {w : World} (m : Mem g h.get w) : Mem (ren ps g) (hp0 bs 255).get w where
  inj := fun p q bp bq r b1 t1 b2 t2 hp hq e1 e2 => by
    have hlen := I.len; have hfew := I.few
    obtain ⟨i, h1, rfl, h3⟩ := hp0_get bs 255 (by omega) p bp hp
    obtain ⟨j, g1, rfl, g3⟩ := hp0_get bs 255 (by omega) q bq hq
    have hi : ps[i]? = some ps[i] := List.getElem?_eq_getElem (by omega)
    have hj : ps[j]? = some ps[j] := List.getElem?_eq_getElem (by omega)
    rw [ren_at (by omega) hi, Option.map_eq_some_iff] at e1
    rw [ren_at (by omega) hj, Option.map_eq_some_iff] at e2
    obtain ⟨⟨r1, y1, z1⟩, e1, e1'⟩ := e1
    obtain ⟨⟨r2, y2, z2⟩, e2, e2'⟩ := e2
    cases e1'
    cases e2'
    obtain ⟨x, hx, _⟩ := I.le i _ bp hi h3
    obtain ⟨y, hy, _⟩ := I.le j _ bq hj g3
    have := m.inj _ _ x y _ _ _ _ _ hx hy e1 e2
    have hij : i = j := I.nd i j _ _ hi hj this
    rw [hij]
  blk := fun p b0 hp => by
    have hlen := I.len; have hfew := I.few
    obtain ⟨i, h1, rfl, h3⟩ := hp0_get bs 255 (by omega) p b0 hp
    have hi : ps[i]? = some ps[i] := List.getElem?_eq_getElem (by omega)
    obtain ⟨b, hb, e1, e2, e3⟩ := I.le i _ b0 hi h3
    obtain ⟨r, base, tot, cur, c1, c2, c3, c4, c5, c6⟩ := m.blk _ b hb
    refine ⟨r, base + ps[i].2, tot, cur, by rw [ren_at (by omega) hi, c1]; rfl, c2.cut e1 e2 c4 (I.lf _ (List.mem_of_getElem? h3)), c3, by omega, by omega, fun k hk => ?_⟩
    obtain ⟨v, d1, d2, d3⟩ := c6 (ps[i].2 + k) (by omega)
    exact ⟨v, by rw [Nat.add_assoc]; exact d1, d2, e3 k hk _ _ v d3⟩
theorem Ins.dom {ps : List (Pos × Nat)} {bs : List Blk} {h : Hp} (I : Ins ps bs h) : Dom (hp0 bs 255).get (256 + ps.length) := fun p b hp => by
  have hlen := I.len; have hfew := I.few
  obtain ⟨i, h1, rfl, _⟩ := hp0_get bs 255 (by omega) p b hp
  rw [tp_num (by omega)]; omega
theorem ren_fresh (ps : List (Pos × Nat)) (g : Sig) : FreshA (ren ps g) (256 + ps.length) := fun p hp => by
  unfold ren
  rw [if_neg (by omega), List.getElem?_eq_none (by omega)]
theorem ren_gok {ps : List (Pos × Nat)} {g : Sig} (h : GOK g) : GOK (ren ps g) := fun k hk => by
  obtain ⟨tot, e⟩ := h k hk
  refine ⟨tot, ?_⟩
  have := num_posF 63 (k + 1) (by omega) (by unfold gK at hk; omega)
  unfold ren
  rw [this, if_pos (by unfold gK at hk; omega)]; exact e

variable {dr : List Nat} {F : FF} {q : IC} {f : Nat} {fn : Func} {c : Code} {res : List RV} {args args0 : L} {ps : List (Pos × Nat)} {bs : List Blk} {h : Hp}

/-- A function that reads slices, with a plain result. -/
theorem sliceP (hfn : P.funcs[f]? = some fn) (hb : fn.body = some c) (hq : compC P dr fn.ntmps c = some q) (hres : compRVs P fn.results.toList = some res) (hnm : (fn.name == "runtime.NumGoroutine") = false)
    (I : Ins ps bs h) (hal : args0.length < 4294967296) (harg : ∀ g vs, args.rel g vs → args0.rel (ren ps g) vs) {v : V} (hpv : v.pur = true)
    (j : JQ P dr fn.ntmps F q (256 + ps.length) (Kend res fun v' _ _ => v' = v) (bind args0 0 .lf) (hp0 bs 255) (256 + ps.length)) (lim : Nat) (n : Nat) : CallsOK P f args lim h n v h n := by
  intro vs g w ha hgk m hd hf hn
  refine ⟨⟨fn, hfn, hnm, by rw [hb]; rfl⟩, ?_⟩
  refine (JQ.fn hfn hb hq hres hal j (g := ren ps g) (w := w) (harg g vs ha) (ren_gok hgk) (I.mem m) I.dom (ren_fresh ps g)).mono ?_
  rintro e w' ⟨u, g', v', h', n', rfl, rfl, _, hv, _, f⟩
  have keep : ∀ r, r < w.heap.size → w'.heap[r]? = w.heap[r]? := fun r hr => f.keep r hr fun p b base tot hp hl => by
    have := I.dom p b hp; omega
  refine ⟨u, g, rfl, V.pur_rel hpv hv, ⟨m.inj, fun p b hp => ?_⟩, ?_⟩
  · obtain ⟨r, base, tot, cur, c1, c2, c3, c4, c5, c6⟩ := m.blk p b hp
    exact ⟨r, base, tot, cur, c1, c2.keep (keep r (m.lt hp c1)), c3, c4, c5, c6⟩
  · exact { le := Nat.le_refl _, os := f.os, tape := f.tape, output := f.output, size := f.size, keep := fun r hr _ => keep r hr, sig := fun _ _ => rfl,
            dom := fun p b e => ⟨fun _ => ⟨b, e⟩, hd p b e⟩, new := fun _ _ _ _ a b => by omega }

/-- A block that is just a list. -/
def blkL (el : TypeId) (l : L) : Blk := ⟨el, l.length, l.length, l, .lf⟩
theorem blkL_cell (el : TypeId) (l : L) (j : Nat) (hj : j < l.length) : (blkL el l).cell j = l.get j := cell_lst el l j hj

/-- A function that reads slices, and hands back one that it made. -/
theorem sliceR (hfn : P.funcs[f]? = some fn) (hb : fn.body = some c) (hq : compC P dr fn.ntmps c = some q) (hres : compRVs P fn.results.toList = some res) (hnm : (fn.name == "runtime.NumGoroutine") = false)
    (I : Ins ps bs h) (hal : args0.length < 4294967296) (harg : ∀ g vs, args.rel g vs → args0.rel (ren ps g) vs)
    (C : V → V) (hC : ∀ g g' s s', (∀ u, V.rel g s u → V.rel g' s' u) → ∀ u, V.rel g (C s) u → V.rel g' (C s') u)
    {el esz len : Nat} {cap : Option Nat} {l : L} (hlp : l.pur = true) (hll : l.length = len * esz)
    (j : JQ P dr fn.ntmps F q (256 + ps.length) (Kend res fun v' h' n' => ∃ p off b, v' = C (.sl p off esz len cap) ∧ 256 + ps.length ≤ p.num ∧ p.num < n' ∧ h'.get p = some b ∧ b.el = el ∧ off + l.length ≤ b.size ∧ ∀ k, k < l.length → b.cell (off + k) = l.get k)
      (bind args0 0 .lf) (hp0 bs 255) (256 + ps.length)) (lim : Nat) {n : Nat} (hn1 : 1 ≤ n) : CallsOK P f args lim h n (C (.sl (posF 63 n) 0 esz len cap)) (h.put (some (blkL el l)) (posF 63 n)) (n + 1) := by
  intro vs g w ha hgk m hd hf hn
  refine ⟨⟨fn, hfn, hnm, by rw [hb]; rfl⟩, ?_⟩
  refine (JQ.fn hfn hb hq hres hal j (g := ren ps g) (w := w) (harg g vs ha) (ren_gok hgk) (I.mem m) I.dom (ren_fresh ps g)).mono ?_
  rintro e w' ⟨u, g', v', h', n', rfl, ⟨p, off, b, rfl, hp1, hp2, hpb, hel, hsz, hcell⟩, _, hv, m', fr⟩
  have keep : ∀ r, r < w.heap.size → w'.heap[r]? = w.heap[r]? := fun r hr => fr.keep r hr fun p b base tot hp hl => by
    have := I.dom p b hp; omega
  obtain ⟨r, base, tot, cur, c1, c2, c3, c4, c5, c6⟩ := m'.blk p b hpb
  have hr : w.heap.size ≤ r := by
    rcases fr.new p r base tot hp1 hp2 c1 with h1 | ⟨q0, b0, x, y, h1, h2, h3⟩
    · exact h1
    · have := I.dom q0 b0 h1; omega
  have hpn : (posF 63 n).num = n := num_posF 63 n hn1 (by omega)
  have h0 : g (posF 63 n) = none := hf _ (by omega) (by omega)
  have hlpur : ∀ (l : L) k, l.pur = true → (l.get k).pur = true := by
    intro l
    induction l using L.rec (motive_1 := fun _ => True) with
    | nil => intro k _; rfl
    | cons v l _ ih =>
      intro k hk
      simp [L.pur] at hk
      cases k with
      | zero => exact hk.1
      | succ k => exact ih k hk.2
    | _ => trivial
  refine ⟨u, gput g (posF 63 n) (r, base + off, tot), rfl, ?_, ⟨?_, ?_⟩, ?_⟩
  · refine hC g' _ _ _ (fun u hu => ?_) u hv
    rw [V.rel] at hu ⊢
    obtain ⟨r', base', tot', c', o', e1, e2, e3, e4, e5, e6, e7, e8⟩ := hu
    rw [c1] at e1
    cases e1
    exact ⟨r, base + off, tot, c', o', by simp [gput], e2, e3, e4, e5, fun x => by rw [e6 x]; simp, by simpa using e7, by cases cap <;> simpa using e8⟩
  · intro p1 p2 x1 x2 r' b1 t1 b2 t2 hp1' hp2' e1 e2
    have hp1' := (Hp.get_put _ _ _ _).symm.trans hp1'
    have hp2' := (Hp.get_put _ _ _ _).symm.trans hp2'
    unfold gput at e1 e2
    by_cases z1 : p1 = posF 63 n <;> by_cases z2 : p2 = posF 63 n
    · rw [z1, z2]
    · rw [if_pos z1] at e1; rw [if_neg z2] at e2 hp2'
      cases e1
      have := m.lt hp2' e2; omega
    · rw [if_pos z2] at e2; rw [if_neg z1] at e1 hp1'
      cases e2
      have := m.lt hp1' e1; omega
    · rw [if_neg z1] at e1 hp1'; rw [if_neg z2] at e2 hp2'
      exact m.inj p1 p2 x1 x2 r' b1 t1 b2 t2 hp1' hp2' e1 e2
  · intro p1 x hp1'
    have hp1' := (Hp.get_put _ _ _ _).symm.trans hp1'
    by_cases z1 : p1 = posF 63 n
    · rw [if_pos z1] at hp1'
      cases hp1'
      refine ⟨r, base + off, tot, cur, by simp [gput, z1], c2.cut hel.symm hsz c4 rfl, c3, by show l.length = 0 ∨ base + off + l.length ≤ tot; omega, by show l.length ≤ maxSize; omega, fun k hk => ?_⟩
      have hk' : k < l.length := hk
      obtain ⟨v, d1, d2, d3⟩ := c6 (off + k) (by omega)
      refine ⟨v, by rw [Nat.add_assoc]; exact d1, d2, ?_⟩
      rw [blkL_cell el l k hk', ← hcell k hk']
      refine V.pur_rel ?_ d3
      rw [hcell k hk']; exact hlpur l k hlp
    · rw [if_neg z1] at hp1'
      obtain ⟨r', base', tot', cur', d1, d2, d3, d4, d5, d6⟩ := m.blk p1 x hp1'
      refine ⟨r', base', tot', cur', by simp [gput, z1, d1], (d2.mono (gput_le _ h0)).keep (keep r' (m.lt hp1' d1)), d3, d4, d5, fun k hk => ?_⟩
      obtain ⟨v, y1, y2, y3⟩ := d6 k hk
      exact ⟨v, y1, y2, V.rel_mono (gput_le _ h0) _ y3⟩
  · exact {
      le := by omega
      os := fr.os
      tape := fr.tape
      output := fr.output
      size := fr.size
      keep := fun r hr _ => keep r hr
      sig := fun p1 hp => by
        unfold gput
        rw [if_neg (fun e => by subst e; omega)]
      dom := fun p1 x e => by
        have e := (Hp.get_put _ _ _ _).symm.trans e
        by_cases z1 : p1 = posF 63 n
        · exact ⟨fun y => by rw [z1, hpn] at y; omega, by rw [z1, hpn]; omega⟩
        · rw [if_neg z1] at e
          exact ⟨fun _ => ⟨x, e⟩, by have := hd p1 x e; omega⟩
      new := fun p1 r' b' t' x y e => by
        have : p1 = posF 63 n := Pos.num_inj (by omega)
        subst this
        simp only [gput, if_pos] at e
        cases e
        exact .inl hr }

/-- What a call comes to in an empty memory, it comes to in any. -/
theorem callsAny {P : Program} {f : Nat} {args : L} {v : V} {h' : Hp} {n' l0 : Nat} (hl : l0 = 256) (hc : CallsOK P f args l0 .lf 256 v h' n') (hn : n' < 9223372036854775808) (hpa : args.pur = true) (hpv : v.pur = true) (lim : Nat) (h : Hp) (n : Nat) : CallsOK P f args lim h n v h n := by
  subst hl
  intro vs g w ha hgk m hd hf _
  have h0 : ∀ p, (Hp.get p .lf) = none := Hp.get_lf
  obtain ⟨hx, hy⟩ := hc vs (ren [] g) w (L.pur_rel hpa ha) (ren_gok hgk) ⟨fun p q bp bq _ _ _ _ _ hp => (nomatch (h0 _).symm.trans hp), fun p b hp => (nomatch (h0 _).symm.trans hp)⟩
    (fun p b hp => (nomatch (h0 _).symm.trans hp)) ((ren_fresh [] g).to _) hn
  refine ⟨hx, hy.mono ?_⟩
  rintro e w' ⟨u, g', rfl, hv, _, f⟩
  have keep : ∀ r, r < w.heap.size → w'.heap[r]? = w.heap[r]? := fun r hr => f.keep r hr fun p b base tot hp => by
    have := (h0 _).symm.trans hp; cases this
  refine ⟨u, g, rfl, V.pur_rel hpv hv, ⟨m.inj, fun p b hp => ?_⟩, ?_⟩
  · obtain ⟨r, base, tot, cur, c1, c2, c3, c4, c5, c6⟩ := m.blk p b hp
    exact ⟨r, base, tot, cur, c1, c2.keep (keep r (m.lt hp c1)), c3, c4, c5, c6⟩
  · exact { le := Nat.le_refl _, os := f.os, tape := f.tape, output := f.output, size := f.size, keep := fun r hr _ => keep r hr, sig := fun _ _ => rfl,
            dom := fun p b e => ⟨fun _ => ⟨b, e⟩, hd p b e⟩, new := fun _ _ _ _ a b => by omega }

/-- A slice that is handed over, in its own numbering. -/
theorem sl_ren {ps : List (Pos × Nat)} {g : Sig} {j : Nat} {q : Pos} {off esz len : Nat} {cap : Option Nat} {u : Value} (hj : j < 1000) (h : ps[j]? = some (q, off)) (hr : (V.sl q off esz len cap).rel g u) : (V.sl (tp (255 + j)) 0 esz len cap).rel (ren ps g) u := by
  rw [V.rel] at hr ⊢
  obtain ⟨r, base, tot, c, o', h1, h2, h3, h4, h5, h6, h7, h8⟩ := hr
  refine ⟨r, base + off, tot, c, o', by rw [ren_at hj h, h1]; rfl, h2, h3, h4, h5, fun x => by rw [h6 x]; simp, by simpa using h7, by cases cap <;> simpa using h8⟩

end

/-! What a function hands back: a plain value, or a slice that it made, alone or beside a plain one. -/
inductive Out where
  | no | v (x : V) | sl (el esz len : Nat) (cap : Option Nat) (l : L) | slE (el esz len : Nat) (cap : Option Nat) (l : L) (e : V)
noncomputable def Out.res : Out → Hp → Nat → Res
  | .no, _, _ => .no
  | .v x, h, n => .ok x h n
  | .sl el esz len cap l, h, n => if 1 ≤ n then .ok (.sl (tp (n - 1)) 0 esz len cap) (h.put (some (blkL el l)) (tp (n - 1))) (n + 1) else .no
  | .slE el esz len cap l e, h, n => if 1 ≤ n then .ok (.tu (.cons (.sl (tp (n - 1)) 0 esz len cap) (.cons e .nil))) (h.put (some (blkL el l)) (tp (n - 1))) (n + 1) else .no
theorem res_v (x : V) (h : Hp) (n : Nat) : (Out.v x).res h n = .ok x h n := rfl
theorem res_sl (el esz len : Nat) (cap : Option Nat) (l : L) (h : Hp) (n : Nat) (hn : 1 ≤ n) : (Out.sl el esz len cap l).res h n = .ok (.sl (tp (n - 1)) 0 esz len cap) (h.put (some (blkL el l)) (tp (n - 1))) (n + 1) := if_pos hn
theorem res_slE (el esz len : Nat) (cap : Option Nat) (l : L) (e : V) (h : Hp) (n : Nat) (hn : 1 ≤ n) : (Out.slE el esz len cap l e).res h n = .ok (.tu (.cons (.sl (tp (n - 1)) 0 esz len cap) (.cons e .nil))) (h.put (some (blkL el l)) (tp (n - 1))) (n + 1) := if_pos hn
theorem Out.res_ge (o : Out) (h : Hp) (n : Nat) : (o.res h n).ge n := by
  cases o with
  | no => trivial
  | v => exact Nat.le_refl n
  | sl => simp only [Out.res]; split <;> first | exact Nat.le_succ n | trivial
  | slE => simp only [Out.res]; split <;> first | exact Nat.le_succ n | trivial
/-- What a function's own run is to come to. -/
def Good (nb : Nat) : Out → V → Hp → Nat → Prop
  | .no => fun _ _ _ => False
  | .v x => fun v _ _ => v = x ∧ x.pur = true
  | .sl el esz len cap l => fun v h' n' => (l.pur = true ∧ l.length = len * esz) ∧ ∃ p off b, v = .sl p off esz len cap ∧ 256 + nb ≤ p.num ∧ p.num < n' ∧ h'.get p = some b ∧ b.el = el ∧ off + l.length ≤ b.size ∧ ∀ k, k < l.length → b.cell (off + k) = l.get k
  | .slE el esz len cap l e => fun v h' n' => (l.pur = true ∧ l.length = len * esz ∧ e.pur = true) ∧ ∃ p off b, v = .tu (.cons (.sl p off esz len cap) (.cons e .nil)) ∧ 256 + nb ≤ p.num ∧ p.num < n' ∧ h'.get p = some b ∧ b.el = el ∧ off + l.length ≤ b.size ∧ ∀ k, k < l.length → b.cell (off + k) = l.get k

/-- The contract of a function out of its own run. -/
theorem outC {P : Program} {dr : List Nat} {F : FF} {q : IC} {f : Nat} {fn : Func} {c : Code} {res : List RV} {args args0 : L} {ps : List (Pos × Nat)} {bs : List Blk} {h : Hp}
    (hfn : P.funcs[f]? = some fn) (hnm : (fn.name == "runtime.NumGoroutine") = false) (hb : fn.body = some c) (hq : compC P dr fn.ntmps c = some q) (hres : compRVs P fn.results.toList = some res)
    (I : Ins ps bs h) (hal : args0.length < 4294967296) (harg : ∀ g vs, args.rel g vs → args0.rel (ren ps g) vs) (o : Out)
    (ho : match o with | .no => True | .v x => x.pur = true | .sl _ esz len _ l => l.pur = true ∧ l.length = len * esz | .slE _ esz len _ l e => l.pur = true ∧ l.length = len * esz ∧ e.pur = true)
    (j : JQ P dr fn.ntmps F q (256 + ps.length) (Kend res (Good ps.length o)) (bind args0 0 .lf) (hp0 bs 255) (256 + ps.length)) (lim : Nat) (n : Nat) {v : V} {h' : Hp} {n' : Nat} (hr : o.res h n = .ok v h' n') : CallsOK P f args lim h n v h' n' := by
  cases o with
  | no => cases hr
  | v x =>
    cases hr
    exact sliceP hfn hb hq hres hnm I hal harg ho (JQ.mono (fun r hk => by cases r <;> first | exact ⟨hk.1, hk.2.1⟩ | exact hk) j) lim n
  | sl el esz len cap l =>
    simp only [Out.res] at hr
    split at hr
    · rename_i hn
      cases hr
      have e : tp (n - 1) = posF 63 n := by show posF 63 (n - 1 + 1) = _; rw [Nat.sub_add_cancel hn]
      rw [e]
      exact sliceR hfn hb hq hres hnm I hal harg id (fun _ _ _ _ h u hu => h u hu) ho.1 ho.2 (JQ.mono (fun r hk => by cases r <;> first | exact ⟨hk.1, hk.2.2⟩ | exact hk) j) lim hn
    · cases hr
  | slE el esz len cap l x =>
    simp only [Out.res] at hr
    split at hr
    · rename_i hn
      cases hr
      have e : tp (n - 1) = posF 63 n := by show posF 63 (n - 1 + 1) = _; rw [Nat.sub_add_cancel hn]
      rw [e]
      exact sliceR hfn hb hq hres hnm I hal harg (fun s => .tu (.cons s (.cons x .nil))) (fun g g' s s' hs u hu => by
        rw [V.rel] at hu ⊢
        obtain ⟨vs, h1, u1, us, h2, h3, u2, us', h4, h5, h6⟩ := hu
        exact ⟨vs, h1, u1, us, h2, hs u1 h3, u2, us', h4, V.pur_rel ho.2.2 h5, h6⟩) ho.1 ho.2.1 (JQ.mono (fun r hk => by cases r <;> first | exact ⟨hk.1, hk.2.2⟩ | exact hk) j) lim hn
    · cases hr
theorem Ins.none (h : Hp) : Ins [] [] h := ⟨rfl, by simp, by simp, by simp, by simp⟩
theorem ren_nil_rel {args : L} (hp : args.pur = true) : ∀ g vs, args.rel g vs → args.rel (ren [] g) vs := fun g vs h => L.pur_rel hp h

/-! A table of contracts. -/
def F0 : FF := fun _ _ _ _ _ => .no
theorem F0_ok (P : Program) : FOK P F0 := ⟨fun f args lim h n v h' n' hr => (by cases hr), fun p args lim h n v h' n' hr => (by cases hr)⟩
theorem F0_mono : F0.mono := fun _ _ _ _ _ => trivial
def ov (f : Nat) (s : L → Nat → Hp → Nat → Res) (F : FF) : FF := fun g args lim h n => if g = f then s args lim h n else F g args lim h n
def SOK (P : Program) (f : Nat) (s : L → Nat → Hp → Nat → Res) : Prop := ∀ args lim h n v h' n', s args lim h n = .ok v h' n' → CallsOK P f args lim h n v h' n'
def SMo (s : L → Nat → Hp → Nat → Res) : Prop := ∀ args lim h n, (s args lim h n).ge n
theorem ov_ok {P : Program} {f : Nat} {s : L → Nat → Hp → Nat → Res} {F : FF} (hs : SOK P f s) (hF : FOK P F) (hne : YID ≠ f := by decide) : FOK P (ov f s F) := by
  refine ⟨fun g args lim h n v h' n' hr => ?_, fun p args lim h n v h' n' hr => ?_⟩
  · unfold ov at hr
    split at hr
    · rename_i e; subst e; exact hs _ _ _ _ _ _ _ hr
    · exact hF.1 _ _ _ _ _ _ _ _ hr
  · unfold ov at hr
    rw [if_neg hne] at hr
    exact hF.2 _ _ _ _ _ _ _ _ hr
theorem ov_mono {f : Nat} {s : L → Nat → Hp → Nat → Res} {F : FF} (hs : SMo s) (hF : F.mono) : (ov f s F).mono := fun g args lim h n => by
  unfold ov
  split
  · exact hs _ _ _ _
  · exact hF _ _ _ _ _
theorem ov_at (f : Nat) (s : L → Nat → Hp → Nat → Res) (F : FF) (g : Nat) (args : L) (lim : Nat) (h : Hp) (n : Nat) : ov f s F g args lim h n = if g = f then s args lim h n else F g args lim h n := rfl

/-- An int, if it is one. -/
def asI : V → Option Int
  | .n a => if a < 9223372036854775808 then some a else none
  | .i .i64 z => some z
  | _ => none
theorem asI_I (z : Int) : asI (I z) = some z := by
  cases z with
  | ofNat a =>
    simp only [I, mkI, fN_eq]
    cases h : Nat.blt a 9223372036854775808
    · rfl
    · rw [Nat.blt_eq] at h; simp [asI, h]
  | negSucc a => simp only [I, mkI, fN_eq]; rfl
theorem asI_rel {v : V} {z : Int} (h : asI v = some z) {g : Sig} {u : Value} (hr : v.rel g u) : (I z).rel g u := by
  unfold asI at h
  split at h
  · split at h
    · rename_i hlt; cases h; rw [V.rel] at hr; rw [hr.1]; exact I_rel
    · cases h
  · cases h; rw [V.rel] at hr; rw [hr]; exact I_rel
  · cases h
theorem callsArgs {P : Program} {f : Nat} {args args' : L} (h : ∀ g vs, args.rel g vs → args'.rel g vs) {lim n n' : Nat} {hh h' : Hp} {v : V} (hc : CallsOK P f args' lim hh n v h' n') : CallsOK P f args lim hh n v h' n' :=
  fun vs g w ha => hc vs g w (h g vs ha)

noncomputable def spS (f : List Nat → Out) (args : L) (_ : Nat) (h : Hp) (n : Nat) : Res := match args with | .cons (.s bs) .nil => (f bs).res h n | _ => .no
noncomputable def spSI (f : List Nat → Int → Out) (args : L) (_ : Nat) (h : Hp) (n : Nat) : Res := match args with | .cons (.s bs) (.cons v .nil) => (match asI v with | some z => (f bs z).res h n | none => .no) | _ => .no
noncomputable def spSII (f : List Nat → Int → Int → Out) (args : L) (_ : Nat) (h : Hp) (n : Nat) : Res := match args with | .cons (.s bs) (.cons v (.cons u .nil)) => (match asI v, asI u with | some z, some y => (f bs z y).res h n | _, _ => .no) | _ => .no
noncomputable def spI (f : Int → Out) (args : L) (_ : Nat) (h : Hp) (n : Nat) : Res := match args with | .cons v .nil => (match asI v with | some z => (f z).res h n | none => .no) | _ => .no
noncomputable def spII (f : Int → Int → Out) (args : L) (_ : Nat) (h : Hp) (n : Nat) : Res := match args with | .cons v (.cons u .nil) => (match asI v, asI u with | some z, some y => (f z y).res h n | _, _ => .no) | _ => .no
noncomputable def spIII (f : Int → Int → Int → Out) (args : L) (_ : Nat) (h : Hp) (n : Nat) : Res := match args with | .cons v (.cons u (.cons t .nil)) => (match asI v, asI u, asI t with | some z, some y, some x => (f z y x).res h n | _, _, _ => .no) | _ => .no
noncomputable def spIIII (f : Int → Int → Int → Int → Out) (args : L) (_ : Nat) (h : Hp) (n : Nat) : Res := match args with | .cons v (.cons u (.cons t (.cons s .nil))) => (match asI v, asI u, asI t, asI s with | some z, some y, some x, some w => (f z y x w).res h n | _, _, _, _ => .no) | _ => .no
section
variable (lim : Nat) (h : Hp) (n : Nat)
theorem spS_eq (f : List Nat → Out) (bs : List Nat) : spS f (.cons (.s bs) .nil) lim h n = (f bs).res h n := rfl
theorem spSI_eq (f : List Nat → Int → Out) (bs : List Nat) (z : Int) : spSI f (.cons (.s bs) (.cons (I z) .nil)) lim h n = (f bs z).res h n := by simp only [spSI, asI_I]
theorem spSII_eq (f : List Nat → Int → Int → Out) (bs : List Nat) (z y : Int) : spSII f (.cons (.s bs) (.cons (I z) (.cons (I y) .nil))) lim h n = (f bs z y).res h n := by simp only [spSII, asI_I]
theorem spI_eq (f : Int → Out) (z : Int) : spI f (.cons (I z) .nil) lim h n = (f z).res h n := by simp only [spI, asI_I]
theorem spII_eq (f : Int → Int → Out) (z y : Int) : spII f (.cons (I z) (.cons (I y) .nil)) lim h n = (f z y).res h n := by simp only [spII, asI_I]
theorem spIII_eq (f : Int → Int → Int → Out) (z y x : Int) : spIII f (.cons (I z) (.cons (I y) (.cons (I x) .nil))) lim h n = (f z y x).res h n := by simp only [spIII, asI_I]
theorem spIIII_eq (f : Int → Int → Int → Int → Out) (z y x w : Int) : spIIII f (.cons (I z) (.cons (I y) (.cons (I x) (.cons (I w) .nil)))) lim h n = (f z y x w).res h n := by simp only [spIIII, asI_I]
end
theorem ge_no' {n : Nat} : Res.ge n .no := trivial
theorem spS_mo (f : List Nat → Out) : SMo (spS f) := fun args lim h n => by unfold spS; split <;> first | exact Out.res_ge _ _ _ | trivial
theorem spSI_mo (f : List Nat → Int → Out) : SMo (spSI f) := fun args lim h n => by unfold spSI; split <;> (try split) <;> first | exact Out.res_ge _ _ _ | trivial
theorem spSII_mo (f : List Nat → Int → Int → Out) : SMo (spSII f) := fun args lim h n => by unfold spSII; split <;> (try split) <;> first | exact Out.res_ge _ _ _ | trivial
theorem spI_mo (f : Int → Out) : SMo (spI f) := fun args lim h n => by unfold spI; split <;> (try split) <;> first | exact Out.res_ge _ _ _ | trivial
theorem spII_mo (f : Int → Int → Out) : SMo (spII f) := fun args lim h n => by unfold spII; split <;> (try split) <;> first | exact Out.res_ge _ _ _ | trivial
theorem spIII_mo (f : Int → Int → Int → Out) : SMo (spIII f) := fun args lim h n => by unfold spIII; split <;> (try split) <;> first | exact Out.res_ge _ _ _ | trivial
theorem spIIII_mo (f : Int → Int → Int → Int → Out) : SMo (spIIII f) := fun args lim h n => by unfold spIIII; split <;> (try split) <;> first | exact Out.res_ge _ _ _ | trivial
theorem rel_cons {g g' : Sig} {v v' : V} {l l' : L} (h1 : ∀ u, V.rel g v u → V.rel g' v' u) (h2 : ∀ us, L.rel g l us → L.rel g' l' us) : ∀ vs, L.rel g (.cons v l) vs → L.rel g' (.cons v' l') vs := fun vs h => by
  rw [L.rel] at h ⊢
  obtain ⟨u, us, e, a, b⟩ := h
  exact ⟨u, us, e, h1 u a, h2 us b⟩
theorem spS_ok {P : Program} {k : Nat} {f : List Nat → Out} (hc : ∀ bs lim h n v h' n', (f bs).res h n = .ok v h' n' → CallsOK P k (.cons (.s bs) .nil) lim h n v h' n') : SOK P k (spS f) := fun args lim h n v h' n' hr => by
  unfold spS at hr
  split at hr
  · exact hc _ _ _ _ _ _ _ hr
  · cases hr
theorem spSI_ok {P : Program} {k : Nat} {f : List Nat → Int → Out} (hc : ∀ bs z lim h n v h' n', (f bs z).res h n = .ok v h' n' → CallsOK P k (.cons (.s bs) (.cons (I z) .nil)) lim h n v h' n') : SOK P k (spSI f) := fun args lim h n v h' n' hr => by
  unfold spSI at hr
  split at hr
  · split at hr
    · rename_i hz; exact callsArgs (fun g => rel_cons (fun _ h => h) (rel_cons (fun _ => asI_rel hz) fun _ h => h)) (hc _ _ _ _ _ _ _ _ hr)
    · cases hr
  · cases hr
theorem spSII_ok {P : Program} {k : Nat} {f : List Nat → Int → Int → Out} (hc : ∀ bs z y lim h n v h' n', (f bs z y).res h n = .ok v h' n' → CallsOK P k (.cons (.s bs) (.cons (I z) (.cons (I y) .nil))) lim h n v h' n') : SOK P k (spSII f) := fun args lim h n v h' n' hr => by
  unfold spSII at hr
  split at hr
  · split at hr
    · rename_i hz hy; exact callsArgs (fun g => rel_cons (fun _ h => h) (rel_cons (fun _ => asI_rel hz) (rel_cons (fun _ => asI_rel hy) fun _ h => h))) (hc _ _ _ _ _ _ _ _ _ hr)
    · cases hr
  · cases hr
theorem spI_ok {P : Program} {k : Nat} {f : Int → Out} (hc : ∀ z lim h n v h' n', (f z).res h n = .ok v h' n' → CallsOK P k (.cons (I z) .nil) lim h n v h' n') : SOK P k (spI f) := fun args lim h n v h' n' hr => by
  unfold spI at hr
  split at hr
  · split at hr
    · rename_i hz; exact callsArgs (fun g => rel_cons (fun _ => asI_rel hz) fun _ h => h) (hc _ _ _ _ _ _ _ hr)
    · cases hr
  · cases hr
theorem spII_ok {P : Program} {k : Nat} {f : Int → Int → Out} (hc : ∀ z y lim h n v h' n', (f z y).res h n = .ok v h' n' → CallsOK P k (.cons (I z) (.cons (I y) .nil)) lim h n v h' n') : SOK P k (spII f) := fun args lim h n v h' n' hr => by
  unfold spII at hr
  split at hr
  · split at hr
    · rename_i hz hy; exact callsArgs (fun g => rel_cons (fun _ => asI_rel hz) (rel_cons (fun _ => asI_rel hy) fun _ h => h)) (hc _ _ _ _ _ _ _ _ hr)
    · cases hr
  · cases hr
theorem spIII_ok {P : Program} {k : Nat} {f : Int → Int → Int → Out} (hc : ∀ z y x lim h n v h' n', (f z y x).res h n = .ok v h' n' → CallsOK P k (.cons (I z) (.cons (I y) (.cons (I x) .nil))) lim h n v h' n') : SOK P k (spIII f) := fun args lim h n v h' n' hr => by
  unfold spIII at hr
  split at hr
  · split at hr
    · rename_i hz hy hx; exact callsArgs (fun g => rel_cons (fun _ => asI_rel hz) (rel_cons (fun _ => asI_rel hy) (rel_cons (fun _ => asI_rel hx) fun _ h => h))) (hc _ _ _ _ _ _ _ _ _ hr)
    · cases hr
  · cases hr
theorem spIIII_ok {P : Program} {k : Nat} {f : Int → Int → Int → Int → Out} (hc : ∀ z y x w lim h n v h' n', (f z y x w).res h n = .ok v h' n' → CallsOK P k (.cons (I z) (.cons (I y) (.cons (I x) (.cons (I w) .nil)))) lim h n v h' n') : SOK P k (spIIII f) := fun args lim h n v h' n' hr => by
  unfold spIIII at hr
  split at hr
  · split at hr
    · rename_i hz hy hx hw; exact callsArgs (fun g => rel_cons (fun _ => asI_rel hz) (rel_cons (fun _ => asI_rel hy) (rel_cons (fun _ => asI_rel hx) (rel_cons (fun _ => asI_rel hw) fun _ h => h)))) (hc _ _ _ _ _ _ _ _ _ _ hr)
    · cases hr
  · cases hr
end Go.Proofs.Ythgaekbcmhbbgaa.Ev
/- The evaluator, some functions of which are answered by their contracts. -/
namespace Go.Proofs.Ythgaekbcmhbbgaa.Ev
set_option linter.unusedVariables false
open Go Go.RowKit
noncomputable def stepG (cmp : Nat → Code → Option IC) (PR : FT) (ih : FF) : FF := fun f args lim h n => Bool.rec (Bool.rec .no (evY cmp ih args lim h n) (Nat.beq f YID)) (Option.rec (motive := fun _ => Res) .no (fun fi => runF fi ih args lim h n) (PR.at (Nat.succ f))) (and (Nat.ble f 4294967294) (Nat.ble args.length 4294967294))
theorem stepG_mono (cmp : Nat → Code → Option IC) (PR : FT) {G : FF} (hM : G.mono) : (stepG cmp PR G).mono := fun f args lim h n => by
  show (Bool.rec (Bool.rec .no (evY cmp G args lim h n) (Nat.beq f YID)) (Option.rec (motive := fun _ => Res) .no (fun fi => runF fi G args lim h n) (PR.at (Nat.succ f))) (and (Nat.ble f 4294967294) (Nat.ble args.length 4294967294)) : Res).ge n
  refine ge_bool (ge_bool ge_no (evY_ge hM ..)) ?_
  cases PR.at (Nat.succ f) with
  | none => trivial
  | some fi =>
    obtain ⟨bar, drop, q, res⟩ := fi
    show (Bool.rec (runB false q res G args lim h n) (Bool.rec .no (runB drop q res G args n h n) (Nat.ble lim n)) bar : Res).ge n
    cases bar
    · exact ge_runB hM _ _ _ _ _ _ _
    · cases Nat.ble lim n
      · trivial
      · exact ge_runB hM _ _ _ _ _ _ _
theorem stepG_sound {P : Program} (hP : P.follows .mixedOrders = true) {drs : List Nat} {l : List (Nat × FnI)} (hl : Listed P l) {G : FF} (ih : FOK P G) (hM : G.mono) : FOK P (stepG (fun N c => compC P drs N c) (FT.of l) G) := by
  refine ⟨fun f args lim h n v h' n' hr => ?_, fun p args lim h n v h' n' hr => by
    have hr : (Bool.rec (Bool.rec .no (evY (fun N c => compC P drs N c) G (.cons yM (.cons (.yl p) args)) lim h n) (Nat.beq YID YID)) (Option.rec (motive := fun _ => Res) .no (fun fi => runF fi G (.cons yM (.cons (.yl p) args)) lim h n) ((FT.of l).at (Nat.succ YID))) (and (Nat.ble YID 4294967294) (Nat.ble (L.cons yM (.cons (.yl p) args)).length 4294967294)) : Res) = .ok v h' n' := hr
    rw [show Nat.ble YID 4294967294 = false by decide, show Nat.beq YID YID = true by decide] at hr
    exact evY_sound hP ih hM hr⟩
  intro vs g w ha hgk m hd hf hn
  have hr : (Bool.rec (Bool.rec .no (evY (fun N c => compC P drs N c) G args lim h n) (Nat.beq f YID)) (Option.rec (motive := fun _ => Res) .no (fun fi => runF fi G args lim h n) ((FT.of l).at (Nat.succ f))) (and (Nat.ble f 4294967294) (Nat.ble args.length 4294967294)) : Res) = .ok v h' n' := hr
  cases hb : and (Nat.ble f 4294967294) (Nat.ble args.length 4294967294)
  · rw [hb] at hr
    cases hy : Nat.beq f YID
    · rw [hy] at hr; cases hr
    · rw [hy] at hr
      exact (evY_args hr ha).elim
  · rw [hb] at hr
    simp only [Bool.and_eq_true, Nat.ble_eq] at hb
    cases hat : (FT.of l).at (Nat.succ f) with
    | none => rw [hat] at hr; cases hr
    | some fi =>
      rw [hat] at hr
      have hr : runF fi G args lim h n = .ok v h' n' := hr
      have hmem := FT.of_mem l (fun x hx => (hl x hx).1) f fi (by omega) hat
      obtain ⟨_, fn, dr, bar, drop, hfn, hcomp⟩ := hl _ hmem
      have hfn : P.funcs[f]? = some fn := hfn
      have hcomp : compF P dr bar drop fn = some fi := hcomp
      unfold compF at hcomp
      split at hcomp
      case h_2 => cases hcomp
      rename_i c hbody
      split at hcomp
      case h_2 => cases hcomp
      rename_i q res hq hres
      split at hcomp
      case isTrue => cases hcomp
      rename_i hname
      cases hcomp
      refine ⟨⟨fn, hfn, by simpa using hname, by rw [hbody]; rfl⟩, ?_⟩
      have hr : (Bool.rec (runB false q res G args lim h n) (Bool.rec .no (runB drop q res G args n h n) (Nat.ble lim n)) bar : Res) = .ok v h' n' := hr
      cases bar with
      | false => exact runB_sound hP ih hM hfn hbody hq hres false hr (fun h => by cases h) ha hgk (by omega) m hd hf hn
      | true =>
        cases hlim : Nat.ble lim n
        · rw [hlim] at hr; cases hr
        · rw [hlim] at hr
          rw [Nat.ble_eq] at hlim
          refine (runB_sound hP ih hM hfn hbody hq hres drop hr (fun _ => rfl) ha hgk (by omega) m hd hf hn).mono ?_
          rintro e w' ⟨u, g', h1, h2, h3, h4⟩
          exact ⟨u, g', h1, h2, h3, h4.weak hlim⟩
noncomputable def evGo (cmp : Nat → Code → Option IC) (PR : FT) (W : FF → FF) (d : Nat) : FF := Nat.rec (motive := fun _ => FF) F0 (fun _ ih => W (stepG cmp PR ih)) d
theorem evGo_mono (cmp : Nat → Code → Option IC) (PR : FT) {W : FF → FF} (hW : ∀ G, FF.mono G → (W G).mono) : ∀ d, (evGo cmp PR W d).mono
  | 0 => F0_mono
  | d + 1 => hW _ (stepG_mono cmp PR (evGo_mono cmp PR hW d))
theorem evGo_sound {P : Program} (hP : P.follows .mixedOrders = true) {drs : List Nat} {l : List (Nat × FnI)} (hl : Listed P l) {W : FF → FF} (hM : ∀ G, FF.mono G → (W G).mono) (hW : ∀ G, FOK P G → FOK P (W G)) : ∀ d, FOK P (evGo (fun N c => compC P drs N c) (FT.of l) W d)
  | 0 => F0_ok P
  | d + 1 => hW _ (stepG_sound hP hl (evGo_sound hP hl hM hW d) (evGo_mono _ _ hM d))
end Go.Proofs.Ythgaekbcmhbbgaa.Ev
/- The evaluator, quicker: what a piece of code does is worked out once, as a closed term. -/
namespace Go.Proofs.Ythgaekbcmhbbgaa.Ev
set_option linter.unusedVariables false
open Go Go.RowKit

/-! The first slots. -/
noncomputable def gTab (i k : Nat) : G2 := pick8 (pick8 ⟨fun t => t.a0.a0⟩ ⟨fun t => t.a0.a1⟩ ⟨fun t => t.a0.a2⟩ ⟨fun t => t.a0.a3⟩ ⟨fun t => t.a0.a4⟩ ⟨fun t => t.a0.a5⟩ ⟨fun t => t.a0.a6⟩ ⟨fun t => t.a0.a7⟩ k)
  (pick8 ⟨fun t => t.a1.a0⟩ ⟨fun t => t.a1.a1⟩ ⟨fun t => t.a1.a2⟩ ⟨fun t => t.a1.a3⟩ ⟨fun t => t.a1.a4⟩ ⟨fun t => t.a1.a5⟩ ⟨fun t => t.a1.a6⟩ ⟨fun t => t.a1.a7⟩ k)
  (pick8 ⟨fun t => t.a2.a0⟩ ⟨fun t => t.a2.a1⟩ ⟨fun t => t.a2.a2⟩ ⟨fun t => t.a2.a3⟩ ⟨fun t => t.a2.a4⟩ ⟨fun t => t.a2.a5⟩ ⟨fun t => t.a2.a6⟩ ⟨fun t => t.a2.a7⟩ k)
  (pick8 ⟨fun t => t.a3.a0⟩ ⟨fun t => t.a3.a1⟩ ⟨fun t => t.a3.a2⟩ ⟨fun t => t.a3.a3⟩ ⟨fun t => t.a3.a4⟩ ⟨fun t => t.a3.a5⟩ ⟨fun t => t.a3.a6⟩ ⟨fun t => t.a3.a7⟩ k)
  (pick8 ⟨fun t => t.a4.a0⟩ ⟨fun t => t.a4.a1⟩ ⟨fun t => t.a4.a2⟩ ⟨fun t => t.a4.a3⟩ ⟨fun t => t.a4.a4⟩ ⟨fun t => t.a4.a5⟩ ⟨fun t => t.a4.a6⟩ ⟨fun t => t.a4.a7⟩ k)
  (pick8 ⟨fun t => t.a5.a0⟩ ⟨fun t => t.a5.a1⟩ ⟨fun t => t.a5.a2⟩ ⟨fun t => t.a5.a3⟩ ⟨fun t => t.a5.a4⟩ ⟨fun t => t.a5.a5⟩ ⟨fun t => t.a5.a6⟩ ⟨fun t => t.a5.a7⟩ k)
  (pick8 ⟨fun t => t.a6.a0⟩ ⟨fun t => t.a6.a1⟩ ⟨fun t => t.a6.a2⟩ ⟨fun t => t.a6.a3⟩ ⟨fun t => t.a6.a4⟩ ⟨fun t => t.a6.a5⟩ ⟨fun t => t.a6.a6⟩ ⟨fun t => t.a6.a7⟩ k)
  (pick8 ⟨fun t => t.a7.a0⟩ ⟨fun t => t.a7.a1⟩ ⟨fun t => t.a7.a2⟩ ⟨fun t => t.a7.a3⟩ ⟨fun t => t.a7.a4⟩ ⟨fun t => t.a7.a5⟩ ⟨fun t => t.a7.a6⟩ ⟨fun t => t.a7.a7⟩ k) i
noncomputable def gLo (i k : Nat) : TG := pick8 (pick8 ⟨fun t => t.lo.a0.a0⟩ ⟨fun t => t.lo.a0.a1⟩ ⟨fun t => t.lo.a0.a2⟩ ⟨fun t => t.lo.a0.a3⟩ ⟨fun t => t.lo.a0.a4⟩ ⟨fun t => t.lo.a0.a5⟩ ⟨fun t => t.lo.a0.a6⟩ ⟨fun t => t.lo.a0.a7⟩ k)
  (pick8 ⟨fun t => t.lo.a1.a0⟩ ⟨fun t => t.lo.a1.a1⟩ ⟨fun t => t.lo.a1.a2⟩ ⟨fun t => t.lo.a1.a3⟩ ⟨fun t => t.lo.a1.a4⟩ ⟨fun t => t.lo.a1.a5⟩ ⟨fun t => t.lo.a1.a6⟩ ⟨fun t => t.lo.a1.a7⟩ k)
  (pick8 ⟨fun t => t.lo.a2.a0⟩ ⟨fun t => t.lo.a2.a1⟩ ⟨fun t => t.lo.a2.a2⟩ ⟨fun t => t.lo.a2.a3⟩ ⟨fun t => t.lo.a2.a4⟩ ⟨fun t => t.lo.a2.a5⟩ ⟨fun t => t.lo.a2.a6⟩ ⟨fun t => t.lo.a2.a7⟩ k)
  (pick8 ⟨fun t => t.lo.a3.a0⟩ ⟨fun t => t.lo.a3.a1⟩ ⟨fun t => t.lo.a3.a2⟩ ⟨fun t => t.lo.a3.a3⟩ ⟨fun t => t.lo.a3.a4⟩ ⟨fun t => t.lo.a3.a5⟩ ⟨fun t => t.lo.a3.a6⟩ ⟨fun t => t.lo.a3.a7⟩ k)
  (pick8 ⟨fun t => t.lo.a4.a0⟩ ⟨fun t => t.lo.a4.a1⟩ ⟨fun t => t.lo.a4.a2⟩ ⟨fun t => t.lo.a4.a3⟩ ⟨fun t => t.lo.a4.a4⟩ ⟨fun t => t.lo.a4.a5⟩ ⟨fun t => t.lo.a4.a6⟩ ⟨fun t => t.lo.a4.a7⟩ k)
  (pick8 ⟨fun t => t.lo.a5.a0⟩ ⟨fun t => t.lo.a5.a1⟩ ⟨fun t => t.lo.a5.a2⟩ ⟨fun t => t.lo.a5.a3⟩ ⟨fun t => t.lo.a5.a4⟩ ⟨fun t => t.lo.a5.a5⟩ ⟨fun t => t.lo.a5.a6⟩ ⟨fun t => t.lo.a5.a7⟩ k)
  (pick8 ⟨fun t => t.lo.a6.a0⟩ ⟨fun t => t.lo.a6.a1⟩ ⟨fun t => t.lo.a6.a2⟩ ⟨fun t => t.lo.a6.a3⟩ ⟨fun t => t.lo.a6.a4⟩ ⟨fun t => t.lo.a6.a5⟩ ⟨fun t => t.lo.a6.a6⟩ ⟨fun t => t.lo.a6.a7⟩ k)
  (pick8 ⟨fun t => t.lo.a7.a0⟩ ⟨fun t => t.lo.a7.a1⟩ ⟨fun t => t.lo.a7.a2⟩ ⟨fun t => t.lo.a7.a3⟩ ⟨fun t => t.lo.a7.a4⟩ ⟨fun t => t.lo.a7.a5⟩ ⟨fun t => t.lo.a7.a6⟩ ⟨fun t => t.lo.a7.a7⟩ k) i
structure ZC where f : E2 → V → (E2 → Tr) → Tr
noncomputable def w0 : N8 V → V → (N8 V → Tr) → Tr := N8.rec (motive := fun _ => V → (N8 V → Tr) → Tr) (fun _ b1 b2 b3 b4 b5 b6 b7 x k => k ⟨x, b1, b2, b3, b4, b5, b6, b7⟩)
noncomputable def w1 : N8 V → V → (N8 V → Tr) → Tr := N8.rec (motive := fun _ => V → (N8 V → Tr) → Tr) (fun b0 _ b2 b3 b4 b5 b6 b7 x k => k ⟨b0, x, b2, b3, b4, b5, b6, b7⟩)
noncomputable def w2 : N8 V → V → (N8 V → Tr) → Tr := N8.rec (motive := fun _ => V → (N8 V → Tr) → Tr) (fun b0 b1 _ b3 b4 b5 b6 b7 x k => k ⟨b0, b1, x, b3, b4, b5, b6, b7⟩)
noncomputable def w3 : N8 V → V → (N8 V → Tr) → Tr := N8.rec (motive := fun _ => V → (N8 V → Tr) → Tr) (fun b0 b1 b2 _ b4 b5 b6 b7 x k => k ⟨b0, b1, b2, x, b4, b5, b6, b7⟩)
noncomputable def w4 : N8 V → V → (N8 V → Tr) → Tr := N8.rec (motive := fun _ => V → (N8 V → Tr) → Tr) (fun b0 b1 b2 b3 _ b5 b6 b7 x k => k ⟨b0, b1, b2, b3, x, b5, b6, b7⟩)
noncomputable def w5 : N8 V → V → (N8 V → Tr) → Tr := N8.rec (motive := fun _ => V → (N8 V → Tr) → Tr) (fun b0 b1 b2 b3 b4 _ b6 b7 x k => k ⟨b0, b1, b2, b3, b4, x, b6, b7⟩)
noncomputable def w6 : N8 V → V → (N8 V → Tr) → Tr := N8.rec (motive := fun _ => V → (N8 V → Tr) → Tr) (fun b0 b1 b2 b3 b4 b5 _ b7 x k => k ⟨b0, b1, b2, b3, b4, b5, x, b7⟩)
noncomputable def w7 : N8 V → V → (N8 V → Tr) → Tr := N8.rec (motive := fun _ => V → (N8 V → Tr) → Tr) (fun b0 b1 b2 b3 b4 b5 b6 _ x k => k ⟨b0, b1, b2, b3, b4, b5, b6, x⟩)
noncomputable def y00 : E2 → V → (E2 → Tr) → Tr := N8.rec (motive := fun _ => V → (E2 → Tr) → Tr) fun a0 a1 a2 a3 a4 a5 a6 a7 x c => w0 a0 x fun y => c ⟨y, a1, a2, a3, a4, a5, a6, a7⟩
noncomputable def y01 : E2 → V → (E2 → Tr) → Tr := N8.rec (motive := fun _ => V → (E2 → Tr) → Tr) fun a0 a1 a2 a3 a4 a5 a6 a7 x c => w1 a0 x fun y => c ⟨y, a1, a2, a3, a4, a5, a6, a7⟩
noncomputable def y02 : E2 → V → (E2 → Tr) → Tr := N8.rec (motive := fun _ => V → (E2 → Tr) → Tr) fun a0 a1 a2 a3 a4 a5 a6 a7 x c => w2 a0 x fun y => c ⟨y, a1, a2, a3, a4, a5, a6, a7⟩
noncomputable def y03 : E2 → V → (E2 → Tr) → Tr := N8.rec (motive := fun _ => V → (E2 → Tr) → Tr) fun a0 a1 a2 a3 a4 a5 a6 a7 x c => w3 a0 x fun y => c ⟨y, a1, a2, a3, a4, a5, a6, a7⟩
noncomputable def y04 : E2 → V → (E2 → Tr) → Tr := N8.rec (motive := fun _ => V → (E2 → Tr) → Tr) fun a0 a1 a2 a3 a4 a5 a6 a7 x c => w4 a0 x fun y => c ⟨y, a1, a2, a3, a4, a5, a6, a7⟩
noncomputable def y05 : E2 → V → (E2 → Tr) → Tr := N8.rec (motive := fun _ => V → (E2 → Tr) → Tr) fun a0 a1 a2 a3 a4 a5 a6 a7 x c => w5 a0 x fun y => c ⟨y, a1, a2, a3, a4, a5, a6, a7⟩
noncomputable def y06 : E2 → V → (E2 → Tr) → Tr := N8.rec (motive := fun _ => V → (E2 → Tr) → Tr) fun a0 a1 a2 a3 a4 a5 a6 a7 x c => w6 a0 x fun y => c ⟨y, a1, a2, a3, a4, a5, a6, a7⟩
noncomputable def y07 : E2 → V → (E2 → Tr) → Tr := N8.rec (motive := fun _ => V → (E2 → Tr) → Tr) fun a0 a1 a2 a3 a4 a5 a6 a7 x c => w7 a0 x fun y => c ⟨y, a1, a2, a3, a4, a5, a6, a7⟩
noncomputable def y10 : E2 → V → (E2 → Tr) → Tr := N8.rec (motive := fun _ => V → (E2 → Tr) → Tr) fun a0 a1 a2 a3 a4 a5 a6 a7 x c => w0 a1 x fun y => c ⟨a0, y, a2, a3, a4, a5, a6, a7⟩
noncomputable def y11 : E2 → V → (E2 → Tr) → Tr := N8.rec (motive := fun _ => V → (E2 → Tr) → Tr) fun a0 a1 a2 a3 a4 a5 a6 a7 x c => w1 a1 x fun y => c ⟨a0, y, a2, a3, a4, a5, a6, a7⟩
noncomputable def y12 : E2 → V → (E2 → Tr) → Tr := N8.rec (motive := fun _ => V → (E2 → Tr) → Tr) fun a0 a1 a2 a3 a4 a5 a6 a7 x c => w2 a1 x fun y => c ⟨a0, y, a2, a3, a4, a5, a6, a7⟩
noncomputable def y13 : E2 → V → (E2 → Tr) → Tr := N8.rec (motive := fun _ => V → (E2 → Tr) → Tr) fun a0 a1 a2 a3 a4 a5 a6 a7 x c => w3 a1 x fun y => c ⟨a0, y, a2, a3, a4, a5, a6, a7⟩
noncomputable def y14 : E2 → V → (E2 → Tr) → Tr := N8.rec (motive := fun _ => V → (E2 → Tr) → Tr) fun a0 a1 a2 a3 a4 a5 a6 a7 x c => w4 a1 x fun y => c ⟨a0, y, a2, a3, a4, a5, a6, a7⟩
noncomputable def y15 : E2 → V → (E2 → Tr) → Tr := N8.rec (motive := fun _ => V → (E2 → Tr) → Tr) fun a0 a1 a2 a3 a4 a5 a6 a7 x c => w5 a1 x fun y => c ⟨a0, y, a2, a3, a4, a5, a6, a7⟩
noncomputable def y16 : E2 → V → (E2 → Tr) → Tr := N8.rec (motive := fun _ => V → (E2 → Tr) → Tr) fun a0 a1 a2 a3 a4 a5 a6 a7 x c => w6 a1 x fun y => c ⟨a0, y, a2, a3, a4, a5, a6, a7⟩
noncomputable def y17 : E2 → V → (E2 → Tr) → Tr := N8.rec (motive := fun _ => V → (E2 → Tr) → Tr) fun a0 a1 a2 a3 a4 a5 a6 a7 x c => w7 a1 x fun y => c ⟨a0, y, a2, a3, a4, a5, a6, a7⟩
noncomputable def y20 : E2 → V → (E2 → Tr) → Tr := N8.rec (motive := fun _ => V → (E2 → Tr) → Tr) fun a0 a1 a2 a3 a4 a5 a6 a7 x c => w0 a2 x fun y => c ⟨a0, a1, y, a3, a4, a5, a6, a7⟩
noncomputable def y21 : E2 → V → (E2 → Tr) → Tr := N8.rec (motive := fun _ => V → (E2 → Tr) → Tr) fun a0 a1 a2 a3 a4 a5 a6 a7 x c => w1 a2 x fun y => c ⟨a0, a1, y, a3, a4, a5, a6, a7⟩
noncomputable def y22 : E2 → V → (E2 → Tr) → Tr := N8.rec (motive := fun _ => V → (E2 → Tr) → Tr) fun a0 a1 a2 a3 a4 a5 a6 a7 x c => w2 a2 x fun y => c ⟨a0, a1, y, a3, a4, a5, a6, a7⟩
noncomputable def y23 : E2 → V → (E2 → Tr) → Tr := N8.rec (motive := fun _ => V → (E2 → Tr) → Tr) fun a0 a1 a2 a3 a4 a5 a6 a7 x c => w3 a2 x fun y => c ⟨a0, a1, y, a3, a4, a5, a6, a7⟩
noncomputable def y24 : E2 → V → (E2 → Tr) → Tr := N8.rec (motive := fun _ => V → (E2 → Tr) → Tr) fun a0 a1 a2 a3 a4 a5 a6 a7 x c => w4 a2 x fun y => c ⟨a0, a1, y, a3, a4, a5, a6, a7⟩
noncomputable def y25 : E2 → V → (E2 → Tr) → Tr := N8.rec (motive := fun _ => V → (E2 → Tr) → Tr) fun a0 a1 a2 a3 a4 a5 a6 a7 x c => w5 a2 x fun y => c ⟨a0, a1, y, a3, a4, a5, a6, a7⟩
noncomputable def y26 : E2 → V → (E2 → Tr) → Tr := N8.rec (motive := fun _ => V → (E2 → Tr) → Tr) fun a0 a1 a2 a3 a4 a5 a6 a7 x c => w6 a2 x fun y => c ⟨a0, a1, y, a3, a4, a5, a6, a7⟩
noncomputable def y27 : E2 → V → (E2 → Tr) → Tr := N8.rec (motive := fun _ => V → (E2 → Tr) → Tr) fun a0 a1 a2 a3 a4 a5 a6 a7 x c => w7 a2 x fun y => c ⟨a0, a1, y, a3, a4, a5, a6, a7⟩
noncomputable def y30 : E2 → V → (E2 → Tr) → Tr := N8.rec (motive := fun _ => V → (E2 → Tr) → Tr) fun a0 a1 a2 a3 a4 a5 a6 a7 x c => w0 a3 x fun y => c ⟨a0, a1, a2, y, a4, a5, a6, a7⟩
noncomputable def y31 : E2 → V → (E2 → Tr) → Tr := N8.rec (motive := fun _ => V → (E2 → Tr) → Tr) fun a0 a1 a2 a3 a4 a5 a6 a7 x c => w1 a3 x fun y => c ⟨a0, a1, a2, y, a4, a5, a6, a7⟩
noncomputable def y32 : E2 → V → (E2 → Tr) → Tr := N8.rec (motive := fun _ => V → (E2 → Tr) → Tr) fun a0 a1 a2 a3 a4 a5 a6 a7 x c => w2 a3 x fun y => c ⟨a0, a1, a2, y, a4, a5, a6, a7⟩
noncomputable def y33 : E2 → V → (E2 → Tr) → Tr := N8.rec (motive := fun _ => V → (E2 → Tr) → Tr) fun a0 a1 a2 a3 a4 a5 a6 a7 x c => w3 a3 x fun y => c ⟨a0, a1, a2, y, a4, a5, a6, a7⟩
noncomputable def y34 : E2 → V → (E2 → Tr) → Tr := N8.rec (motive := fun _ => V → (E2 → Tr) → Tr) fun a0 a1 a2 a3 a4 a5 a6 a7 x c => w4 a3 x fun y => c ⟨a0, a1, a2, y, a4, a5, a6, a7⟩
noncomputable def y35 : E2 → V → (E2 → Tr) → Tr := N8.rec (motive := fun _ => V → (E2 → Tr) → Tr) fun a0 a1 a2 a3 a4 a5 a6 a7 x c => w5 a3 x fun y => c ⟨a0, a1, a2, y, a4, a5, a6, a7⟩
noncomputable def y36 : E2 → V → (E2 → Tr) → Tr := N8.rec (motive := fun _ => V → (E2 → Tr) → Tr) fun a0 a1 a2 a3 a4 a5 a6 a7 x c => w6 a3 x fun y => c ⟨a0, a1, a2, y, a4, a5, a6, a7⟩
noncomputable def y37 : E2 → V → (E2 → Tr) → Tr := N8.rec (motive := fun _ => V → (E2 → Tr) → Tr) fun a0 a1 a2 a3 a4 a5 a6 a7 x c => w7 a3 x fun y => c ⟨a0, a1, a2, y, a4, a5, a6, a7⟩
noncomputable def y40 : E2 → V → (E2 → Tr) → Tr := N8.rec (motive := fun _ => V → (E2 → Tr) → Tr) fun a0 a1 a2 a3 a4 a5 a6 a7 x c => w0 a4 x fun y => c ⟨a0, a1, a2, a3, y, a5, a6, a7⟩
noncomputable def y41 : E2 → V → (E2 → Tr) → Tr := N8.rec (motive := fun _ => V → (E2 → Tr) → Tr) fun a0 a1 a2 a3 a4 a5 a6 a7 x c => w1 a4 x fun y => c ⟨a0, a1, a2, a3, y, a5, a6, a7⟩
noncomputable def y42 : E2 → V → (E2 → Tr) → Tr := N8.rec (motive := fun _ => V → (E2 → Tr) → Tr) fun a0 a1 a2 a3 a4 a5 a6 a7 x c => w2 a4 x fun y => c ⟨a0, a1, a2, a3, y, a5, a6, a7⟩
noncomputable def y43 : E2 → V → (E2 → Tr) → Tr := N8.rec (motive := fun _ => V → (E2 → Tr) → Tr) fun a0 a1 a2 a3 a4 a5 a6 a7 x c => w3 a4 x fun y => c ⟨a0, a1, a2, a3, y, a5, a6, a7⟩
noncomputable def y44 : E2 → V → (E2 → Tr) → Tr := N8.rec (motive := fun _ => V → (E2 → Tr) → Tr) fun a0 a1 a2 a3 a4 a5 a6 a7 x c => w4 a4 x fun y => c ⟨a0, a1, a2, a3, y, a5, a6, a7⟩
noncomputable def y45 : E2 → V → (E2 → Tr) → Tr := N8.rec (motive := fun _ => V → (E2 → Tr) → Tr) fun a0 a1 a2 a3 a4 a5 a6 a7 x c => w5 a4 x fun y => c ⟨a0, a1, a2, a3, y, a5, a6, a7⟩
noncomputable def y46 : E2 → V → (E2 → Tr) → Tr := N8.rec (motive := fun _ => V → (E2 → Tr) → Tr) fun a0 a1 a2 a3 a4 a5 a6 a7 x c => w6 a4 x fun y => c ⟨a0, a1, a2, a3, y, a5, a6, a7⟩
noncomputable def y47 : E2 → V → (E2 → Tr) → Tr := N8.rec (motive := fun _ => V → (E2 → Tr) → Tr) fun a0 a1 a2 a3 a4 a5 a6 a7 x c => w7 a4 x fun y => c ⟨a0, a1, a2, a3, y, a5, a6, a7⟩
noncomputable def y50 : E2 → V → (E2 → Tr) → Tr := N8.rec (motive := fun _ => V → (E2 → Tr) → Tr) fun a0 a1 a2 a3 a4 a5 a6 a7 x c => w0 a5 x fun y => c ⟨a0, a1, a2, a3, a4, y, a6, a7⟩
noncomputable def y51 : E2 → V → (E2 → Tr) → Tr := N8.rec (motive := fun _ => V → (E2 → Tr) → Tr) fun a0 a1 a2 a3 a4 a5 a6 a7 x c => w1 a5 x fun y => c ⟨a0, a1, a2, a3, a4, y, a6, a7⟩
noncomputable def y52 : E2 → V → (E2 → Tr) → Tr := N8.rec (motive := fun _ => V → (E2 → Tr) → Tr) fun a0 a1 a2 a3 a4 a5 a6 a7 x c => w2 a5 x fun y => c ⟨a0, a1, a2, a3, a4, y, a6, a7⟩
noncomputable def y53 : E2 → V → (E2 → Tr) → Tr := N8.rec (motive := fun _ => V → (E2 → Tr) → Tr) fun a0 a1 a2 a3 a4 a5 a6 a7 x c => w3 a5 x fun y => c ⟨a0, a1, a2, a3, a4, y, a6, a7⟩
noncomputable def y54 : E2 → V → (E2 → Tr) → Tr := N8.rec (motive := fun _ => V → (E2 → Tr) → Tr) fun a0 a1 a2 a3 a4 a5 a6 a7 x c => w4 a5 x fun y => c ⟨a0, a1, a2, a3, a4, y, a6, a7⟩
noncomputable def y55 : E2 → V → (E2 → Tr) → Tr := N8.rec (motive := fun _ => V → (E2 → Tr) → Tr) fun a0 a1 a2 a3 a4 a5 a6 a7 x c => w5 a5 x fun y => c ⟨a0, a1, a2, a3, a4, y, a6, a7⟩
noncomputable def y56 : E2 → V → (E2 → Tr) → Tr := N8.rec (motive := fun _ => V → (E2 → Tr) → Tr) fun a0 a1 a2 a3 a4 a5 a6 a7 x c => w6 a5 x fun y => c ⟨a0, a1, a2, a3, a4, y, a6, a7⟩
noncomputable def y57 : E2 → V → (E2 → Tr) → Tr := N8.rec (motive := fun _ => V → (E2 → Tr) → Tr) fun a0 a1 a2 a3 a4 a5 a6 a7 x c => w7 a5 x fun y => c ⟨a0, a1, a2, a3, a4, y, a6, a7⟩
noncomputable def y60 : E2 → V → (E2 → Tr) → Tr := N8.rec (motive := fun _ => V → (E2 → Tr) → Tr) fun a0 a1 a2 a3 a4 a5 a6 a7 x c => w0 a6 x fun y => c ⟨a0, a1, a2, a3, a4, a5, y, a7⟩
noncomputable def y61 : E2 → V → (E2 → Tr) → Tr := N8.rec (motive := fun _ => V → (E2 → Tr) → Tr) fun a0 a1 a2 a3 a4 a5 a6 a7 x c => w1 a6 x fun y => c ⟨a0, a1, a2, a3, a4, a5, y, a7⟩
noncomputable def y62 : E2 → V → (E2 → Tr) → Tr := N8.rec (motive := fun _ => V → (E2 → Tr) → Tr) fun a0 a1 a2 a3 a4 a5 a6 a7 x c => w2 a6 x fun y => c ⟨a0, a1, a2, a3, a4, a5, y, a7⟩
noncomputable def y63 : E2 → V → (E2 → Tr) → Tr := N8.rec (motive := fun _ => V → (E2 → Tr) → Tr) fun a0 a1 a2 a3 a4 a5 a6 a7 x c => w3 a6 x fun y => c ⟨a0, a1, a2, a3, a4, a5, y, a7⟩
noncomputable def y64 : E2 → V → (E2 → Tr) → Tr := N8.rec (motive := fun _ => V → (E2 → Tr) → Tr) fun a0 a1 a2 a3 a4 a5 a6 a7 x c => w4 a6 x fun y => c ⟨a0, a1, a2, a3, a4, a5, y, a7⟩
noncomputable def y65 : E2 → V → (E2 → Tr) → Tr := N8.rec (motive := fun _ => V → (E2 → Tr) → Tr) fun a0 a1 a2 a3 a4 a5 a6 a7 x c => w5 a6 x fun y => c ⟨a0, a1, a2, a3, a4, a5, y, a7⟩
noncomputable def y66 : E2 → V → (E2 → Tr) → Tr := N8.rec (motive := fun _ => V → (E2 → Tr) → Tr) fun a0 a1 a2 a3 a4 a5 a6 a7 x c => w6 a6 x fun y => c ⟨a0, a1, a2, a3, a4, a5, y, a7⟩
noncomputable def y67 : E2 → V → (E2 → Tr) → Tr := N8.rec (motive := fun _ => V → (E2 → Tr) → Tr) fun a0 a1 a2 a3 a4 a5 a6 a7 x c => w7 a6 x fun y => c ⟨a0, a1, a2, a3, a4, a5, y, a7⟩
noncomputable def y70 : E2 → V → (E2 → Tr) → Tr := N8.rec (motive := fun _ => V → (E2 → Tr) → Tr) fun a0 a1 a2 a3 a4 a5 a6 a7 x c => w0 a7 x fun y => c ⟨a0, a1, a2, a3, a4, a5, a6, y⟩
noncomputable def y71 : E2 → V → (E2 → Tr) → Tr := N8.rec (motive := fun _ => V → (E2 → Tr) → Tr) fun a0 a1 a2 a3 a4 a5 a6 a7 x c => w1 a7 x fun y => c ⟨a0, a1, a2, a3, a4, a5, a6, y⟩
noncomputable def y72 : E2 → V → (E2 → Tr) → Tr := N8.rec (motive := fun _ => V → (E2 → Tr) → Tr) fun a0 a1 a2 a3 a4 a5 a6 a7 x c => w2 a7 x fun y => c ⟨a0, a1, a2, a3, a4, a5, a6, y⟩
noncomputable def y73 : E2 → V → (E2 → Tr) → Tr := N8.rec (motive := fun _ => V → (E2 → Tr) → Tr) fun a0 a1 a2 a3 a4 a5 a6 a7 x c => w3 a7 x fun y => c ⟨a0, a1, a2, a3, a4, a5, a6, y⟩
noncomputable def y74 : E2 → V → (E2 → Tr) → Tr := N8.rec (motive := fun _ => V → (E2 → Tr) → Tr) fun a0 a1 a2 a3 a4 a5 a6 a7 x c => w4 a7 x fun y => c ⟨a0, a1, a2, a3, a4, a5, a6, y⟩
noncomputable def y75 : E2 → V → (E2 → Tr) → Tr := N8.rec (motive := fun _ => V → (E2 → Tr) → Tr) fun a0 a1 a2 a3 a4 a5 a6 a7 x c => w5 a7 x fun y => c ⟨a0, a1, a2, a3, a4, a5, a6, y⟩
noncomputable def y76 : E2 → V → (E2 → Tr) → Tr := N8.rec (motive := fun _ => V → (E2 → Tr) → Tr) fun a0 a1 a2 a3 a4 a5 a6 a7 x c => w6 a7 x fun y => c ⟨a0, a1, a2, a3, a4, a5, a6, y⟩
noncomputable def y77 : E2 → V → (E2 → Tr) → Tr := N8.rec (motive := fun _ => V → (E2 → Tr) → Tr) fun a0 a1 a2 a3 a4 a5 a6 a7 x c => w7 a7 x fun y => c ⟨a0, a1, a2, a3, a4, a5, a6, y⟩
noncomputable def zTab (i k : Nat) : ZC := pick8 (pick8 ⟨y00⟩ ⟨y01⟩ ⟨y02⟩ ⟨y03⟩ ⟨y04⟩ ⟨y05⟩ ⟨y06⟩ ⟨y07⟩ k)
  (pick8 ⟨y10⟩ ⟨y11⟩ ⟨y12⟩ ⟨y13⟩ ⟨y14⟩ ⟨y15⟩ ⟨y16⟩ ⟨y17⟩ k)
  (pick8 ⟨y20⟩ ⟨y21⟩ ⟨y22⟩ ⟨y23⟩ ⟨y24⟩ ⟨y25⟩ ⟨y26⟩ ⟨y27⟩ k)
  (pick8 ⟨y30⟩ ⟨y31⟩ ⟨y32⟩ ⟨y33⟩ ⟨y34⟩ ⟨y35⟩ ⟨y36⟩ ⟨y37⟩ k)
  (pick8 ⟨y40⟩ ⟨y41⟩ ⟨y42⟩ ⟨y43⟩ ⟨y44⟩ ⟨y45⟩ ⟨y46⟩ ⟨y47⟩ k)
  (pick8 ⟨y50⟩ ⟨y51⟩ ⟨y52⟩ ⟨y53⟩ ⟨y54⟩ ⟨y55⟩ ⟨y56⟩ ⟨y57⟩ k)
  (pick8 ⟨y60⟩ ⟨y61⟩ ⟨y62⟩ ⟨y63⟩ ⟨y64⟩ ⟨y65⟩ ⟨y66⟩ ⟨y67⟩ k)
  (pick8 ⟨y70⟩ ⟨y71⟩ ⟨y72⟩ ⟨y73⟩ ⟨y74⟩ ⟨y75⟩ ⟨y76⟩ ⟨y77⟩ k) i
noncomputable def gT (p : Pos) : TG := part6 p.num (gLo (Nat.div p.num 8) (Nat.mod p.num 8)) ⟨fun t => (gTab (Nat.div (p.num - 64) 8) (Nat.mod (p.num - 64) 8)).f t.m1⟩ ⟨fun t => (gTab (Nat.div (p.num - 128) 8) (Nat.mod (p.num - 128) 8)).f t.m2⟩ ⟨fun t => (gTab (Nat.div (p.num - 192) 8) (Nat.mod (p.num - 192) 8)).f t.m3⟩ (Tr.gC p) (Tr.gC p)
noncomputable def pT (p : Pos) : TP := part6 p.num ⟨fun t x => Tr.rec (motive := fun _ => V → Tr) (fun lo m1 m2 m3 hi o x => (zTab (Nat.div p.num 8) (Nat.mod p.num 8)).f lo x fun e => ⟨e, m1, m2, m3, hi, o⟩) t x⟩
  ⟨fun t x => Tr.rec (motive := fun _ => V → Tr) (fun lo m1 m2 m3 hi o x => (zTab (Nat.div (p.num - 64) 8) (Nat.mod (p.num - 64) 8)).f m1 x fun e => ⟨lo, e, m2, m3, hi, o⟩) t x⟩
  ⟨fun t x => Tr.rec (motive := fun _ => V → Tr) (fun lo m1 m2 m3 hi o x => (zTab (Nat.div (p.num - 128) 8) (Nat.mod (p.num - 128) 8)).f m2 x fun e => ⟨lo, m1, e, m3, hi, o⟩) t x⟩
  ⟨fun t x => Tr.rec (motive := fun _ => V → Tr) (fun lo m1 m2 m3 hi o x => (zTab (Nat.div (p.num - 192) 8) (Nat.mod (p.num - 192) 8)).f m3 x fun e => ⟨lo, m1, m2, e, hi, o⟩) t x⟩
  (Tr.pC p) (Tr.pC p)
theorem gLo_eq {i k : Nat} (hi : i < 8) (hk : k < 8) (t : Tr) : (gLo i k).f t = (sel V k).f ((sel E1 i).f t.lo) := by
  rcases lt8 hi with rfl | rfl | rfl | rfl | rfl | rfl | rfl | rfl <;> rcases lt8 hk with rfl | rfl | rfl | rfl | rfl | rfl | rfl | rfl <;> rfl
theorem gTab_eq {i k : Nat} (hi : i < 8) (hk : k < 8) (t : E2) : (gTab i k).f t = (sel V k).f ((sel E1 i).f t) := by
  rcases lt8 hi with rfl | rfl | rfl | rfl | rfl | rfl | rfl | rfl <;> rcases lt8 hk with rfl | rfl | rfl | rfl | rfl | rfl | rfl | rfl <;> rfl
theorem zTab_eq {i k : Nat} (hi : i < 8) (hk : k < 8) (t : E2) (x : V) (c : E2 → Tr) : (zTab i k).f t x c = c ((put E1 i).f t ((put V k).f ((sel E1 i).f t) x)) := by
  obtain ⟨⟨_, _, _, _, _, _, _, _⟩, ⟨_, _, _, _, _, _, _, _⟩, ⟨_, _, _, _, _, _, _, _⟩, ⟨_, _, _, _, _, _, _, _⟩, ⟨_, _, _, _, _, _, _, _⟩, ⟨_, _, _, _, _, _, _, _⟩, ⟨_, _, _, _, _, _, _, _⟩, ⟨_, _, _, _, _, _, _, _⟩⟩ := t
  rcases lt8 hi with rfl | rfl | rfl | rfl | rfl | rfl | rfl | rfl <;> rcases lt8 hk with rfl | rfl | rfl | rfl | rfl | rfl | rfl | rfl <;> rfl
theorem gT_eq (p : Pos) (t : Tr) : (gT p).f t = t.get p := by
  unfold gT
  rcases part6_cases p.num (gLo (Nat.div p.num 8) (Nat.mod p.num 8)) ⟨fun t => (gTab (Nat.div (p.num - 64) 8) (Nat.mod (p.num - 64) 8)).f t.m1⟩ ⟨fun t => (gTab (Nat.div (p.num - 128) 8) (Nat.mod (p.num - 128) 8)).f t.m2⟩ ⟨fun t => (gTab (Nat.div (p.num - 192) 8) (Nat.mod (p.num - 192) 8)).f t.m3⟩ (Tr.gC p) (Tr.gC p) with ⟨h, e⟩ | ⟨h, h', e⟩ | ⟨h, h', e⟩ | ⟨h, h', e⟩ | ⟨h, h', e⟩ | ⟨h, e⟩ <;> rw [e]
  · rcases get_cases p with ⟨g, f⟩ | ⟨g, _⟩ | ⟨g, _⟩ | ⟨g, _⟩ | ⟨g, _⟩ | ⟨g, _⟩ <;> first | omega | (rw [f]; exact gLo_eq (i := p.num / 8) (k := p.num % 8) (by omega) (by omega) t)
  · rcases get_cases p with ⟨g, _⟩ | ⟨g, g', f⟩ | ⟨g, _⟩ | ⟨g, _⟩ | ⟨g, _⟩ | ⟨g, _⟩ <;> first | omega | (rw [f]; have hk : p.num - 64 < 64 := (by omega); generalize p.num - 64 = kk at hk ⊢; exact gTab_eq (i := kk / 8) (k := kk % 8) (by omega) (by omega) t.m1)
  · rcases get_cases p with ⟨g, _⟩ | ⟨g, _⟩ | ⟨g, g', f⟩ | ⟨g, _⟩ | ⟨g, _⟩ | ⟨g, _⟩ <;> first | omega | (rw [f]; have hk : p.num - 128 < 64 := (by omega); generalize p.num - 128 = kk at hk ⊢; exact gTab_eq (i := kk / 8) (k := kk % 8) (by omega) (by omega) t.m2)
  · rcases get_cases p with ⟨g, _⟩ | ⟨g, _⟩ | ⟨g, _⟩ | ⟨g, g', f⟩ | ⟨g, _⟩ | ⟨g, _⟩ <;> first | omega | (rw [f]; have hk : p.num - 192 < 64 := (by omega); generalize p.num - 192 = kk at hk ⊢; exact gTab_eq (i := kk / 8) (k := kk % 8) (by omega) (by omega) t.m3)
  · rfl
  · rfl
theorem pT_eq (p : Pos) (t : Tr) (x : V) : (pT p).f t x = t.set x p := by
  unfold pT
  generalize hx0 : (⟨fun t x => Tr.rec (motive := fun _ => V → Tr) (fun lo m1 m2 m3 hi o x => (zTab (Nat.div p.num 8) (Nat.mod p.num 8)).f lo x fun e => ⟨e, m1, m2, m3, hi, o⟩) t x⟩ : TP) = x0
  generalize hx1 : (⟨fun t x => Tr.rec (motive := fun _ => V → Tr) (fun lo m1 m2 m3 hi o x => (zTab (Nat.div (p.num - 64) 8) (Nat.mod (p.num - 64) 8)).f m1 x fun e => ⟨lo, e, m2, m3, hi, o⟩) t x⟩ : TP) = x1
  generalize hx2 : (⟨fun t x => Tr.rec (motive := fun _ => V → Tr) (fun lo m1 m2 m3 hi o x => (zTab (Nat.div (p.num - 128) 8) (Nat.mod (p.num - 128) 8)).f m2 x fun e => ⟨lo, m1, e, m3, hi, o⟩) t x⟩ : TP) = x2
  generalize hx3 : (⟨fun t x => Tr.rec (motive := fun _ => V → Tr) (fun lo m1 m2 m3 hi o x => (zTab (Nat.div (p.num - 192) 8) (Nat.mod (p.num - 192) 8)).f m3 x fun e => ⟨lo, m1, m2, e, hi, o⟩) t x⟩ : TP) = x3
  rcases part6_cases p.num x0 x1 x2 x3 (Tr.pC p) (Tr.pC p) with ⟨h, e⟩ | ⟨h, h', e⟩ | ⟨h, h', e⟩ | ⟨h, h', e⟩ | ⟨h, h', e⟩ | ⟨h, e⟩ <;> rw [e]
  · rcases set_cases p with ⟨g, f⟩ | ⟨g, _⟩ | ⟨g, _⟩ | ⟨g, _⟩ | ⟨g, _⟩ | ⟨g, _⟩ <;> first | omega | (rw [f, ← hx0]; show (zTab (Nat.div p.num 8) (Nat.mod p.num 8)).f t.lo x (fun e => ⟨e, t.m1, t.m2, t.m3, t.hi, t.o⟩) = _; rw [zTab_eq (by show p.num / 8 < 8; omega) (by show p.num % 8 < 8; omega)]; rfl)
  · rcases set_cases p with ⟨g, _⟩ | ⟨g, g', f⟩ | ⟨g, _⟩ | ⟨g, _⟩ | ⟨g, _⟩ | ⟨g, _⟩ <;> first | omega | (rw [f, ← hx1]; show (zTab (Nat.div (p.num - 64) 8) (Nat.mod (p.num - 64) 8)).f t.m1 x (fun e => ⟨t.lo, e, t.m2, t.m3, t.hi, t.o⟩) = _; rw [zTab_eq (by show (p.num - 64) / 8 < 8; omega) (by show (p.num - 64) % 8 < 8; omega)]; rfl)
  · rcases set_cases p with ⟨g, _⟩ | ⟨g, _⟩ | ⟨g, g', f⟩ | ⟨g, _⟩ | ⟨g, _⟩ | ⟨g, _⟩ <;> first | omega | (rw [f, ← hx2]; show (zTab (Nat.div (p.num - 128) 8) (Nat.mod (p.num - 128) 8)).f t.m2 x (fun e => ⟨t.lo, t.m1, e, t.m3, t.hi, t.o⟩) = _; rw [zTab_eq (by show (p.num - 128) / 8 < 8; omega) (by show (p.num - 128) % 8 < 8; omega)]; rfl)
  · rcases set_cases p with ⟨g, _⟩ | ⟨g, _⟩ | ⟨g, _⟩ | ⟨g, g', f⟩ | ⟨g, _⟩ | ⟨g, _⟩ <;> first | omega | (rw [f, ← hx3]; show (zTab (Nat.div (p.num - 192) 8) (Nat.mod (p.num - 192) 8)).f t.m3 x (fun e => ⟨t.lo, t.m1, t.m2, e, t.hi, t.o⟩) = _; rw [zTab_eq (by show (p.num - 192) / 8 < 8; omega) (by show (p.num - 192) % 8 < 8; omega)]; rfl)
  · rfl
  · rfl

/-! Operands. -/
structure XC where f : Tr → V
structure XLC where f : Tr → L
noncomputable def xC (x : X) : XC := X.rec (motive := fun _ => XC) (fun p => XC.mk (gT p).f) (fun v => ⟨fun _ => v⟩) x
noncomputable def xlC (l : XL) : XLC := XL.rec (motive := fun _ => XLC) ⟨fun _ => .nil⟩ (fun x _ ih => ⟨fun e => .cons ((xC x).f e) (ih.f e)⟩) l
theorem xC_eq (x : X) (e : Tr) : (xC x).f e = evX x e := by
  cases x with
  | t p => exact gT_eq p e
  | c v => rfl
theorem xlC_eq (e : Tr) : ∀ l : XL, (xlC l).f e = evXL l e
  | .nil => rfl
  | .cons x l => by show L.cons ((xC x).f e) ((xlC l).f e) = _; rw [xC_eq, xlC_eq e l]; rfl
structure BC where f : V → V → V
noncomputable def bC (op : BinOp) : BC := BinOp.rec (motive := fun _ => BC) ⟨bAdd'⟩ ⟨bSub'⟩ ⟨bMul'⟩ ⟨bQuo'⟩ ⟨bRem'⟩ ⟨bAnd'⟩ ⟨bOr'⟩ ⟨bXor'⟩ ⟨bShl'⟩ ⟨bShr'⟩ ⟨bAndNot'⟩ ⟨bEq'⟩ ⟨bNe'⟩ ⟨bLt'⟩ ⟨bLe'⟩ ⟨bGt'⟩ ⟨bGe'⟩ op
theorem bC_eq (op : BinOp) (x y : V) : (bC op).f x y = binV op x y := by cases op <;> rfl

/-! Operations. -/
structure OC where f : FF → Tr → Nat → Hp → Nat → Res
noncomputable def oC (o : O) : OC := match o with
  | .bin op x y => ⟨fun _ e _ h n => pv ((bC op).f ((xC x).f e) ((xC y).f e)) h n⟩
  | .eqb m x y => ⟨fun _ e _ h n => pv (eqbV m ((xC x).f e) ((xC y).f e)) h n⟩
  | .not x => ⟨fun _ e _ h n => pv (onB ((xC x).f e) (fun t => Bool.rec (.b true) (.b false) t) .bad) h n⟩
  | .conv k x => ⟨fun _ e _ h n => pv (onK ((xC x).f e) (fun _ z => mkI k (k.wrap z)) .bad) h n⟩
  | .ext i x => ⟨fun _ e _ h n => pv (onT ((xC x).f e) (fun l => nthL i l) .bad) h n⟩
  | .call f xs => ⟨fun F e lim h n => F f ((xlC xs).f e) lim h n⟩
  | .ld k agg x => ⟨fun _ e _ h c => onP ((xC x).f e) (fun a o => Option.rec .no (fun b => Bool.rec .no (Bool.rec (.ok (b.cell o) h c) (.ok (.ag (b.getW o k)) h c) agg) (Nat.ble (Nat.add o k) b.size)) (h.get a)) .no⟩
  | o => ⟨fun F => o.ev F⟩
theorem oC_eq (o : O) (F : FF) (e : Tr) (lim : Nat) (h : Hp) (n : Nat) : (oC o).f F e lim h n = o.ev F e lim h n := by
  cases o <;> first | rfl | skip
  case bin op x y => show pv ((bC op).f ((xC x).f e) ((xC y).f e)) h n = pv (binV op (evX x e) (evX y e)) h n; rw [bC_eq, xC_eq, xC_eq]
  case eqb m x y => show pv (eqbV m ((xC x).f e) ((xC y).f e)) h n = pv (eqbV m (evX x e) (evX y e)) h n; rw [xC_eq, xC_eq]
  case not x => show pv (onB ((xC x).f e) _ .bad) h n = pv (onB (evX x e) _ .bad) h n; rw [xC_eq]
  case conv k x => show pv (onK ((xC x).f e) _ .bad) h n = pv (onK (evX x e) _ .bad) h n; rw [xC_eq]
  case ext i x => show pv (onT ((xC x).f e) _ .bad) h n = pv (onT (evX x e) _ .bad) h n; rw [xC_eq]
  case call f xs => show F f ((xlC xs).f e) lim h n = F f (evXL xs e) lim h n; rw [xlC_eq]
  case ld k agg x => show onP (β := Res) ((xC x).f e) _ .no = onP (β := Res) (evX x e) _ .no; rw [xC_eq]

/-! What comes next is handed over. -/
inductive WV where | no | n (a : Nat) | u (k : IntKind) (m a : Nat)
noncomputable def uwI (k : IntKind) (m : Nat) (i : Int) : WV := Int.rec (motive := fun _ => WV) (fun a => .u k m a) (fun _ => .no) i
noncomputable def V.asW : V → WV := V.rec (motive_1 := fun _ => WV) (motive_2 := fun _ => Unit) .no (fun a => .n a) (fun k i => IntKind.rec (motive := fun _ => Int → WV) (fun _ => .no) (fun _ => .no) (fun _ => .no) (fun _ => .no) (uwI .u8 8) (uwI .u16 16) (uwI .u32 32) (uwI .u64 64) k i) (fun _ => .no) (fun _ _ => .no) .no (fun _ _ _ _ _ => .no)
    .no (fun _ _ => .no) (fun _ _ => .no) (fun _ _ _ _ _ => .no) .no (fun _ => .no) (fun _ _ _ => .no) .no (fun _ => .no) .no (fun _ => .no) (fun _ _ _ _ => .no) () (fun _ _ _ _ => ())
theorem asW_cases (v : V) : (∃ a, v = .n a) ∨ (∃ k a, v = .i k (.ofNat a) ∧ k.signed = false ∧ v.asW = .u k k.bits a) ∨ v.asW = .no := by
  cases v with
  | n a => exact .inl ⟨a, rfl⟩
  | i k z => cases k <;> cases z <;> first | exact .inr (.inr rfl) | exact .inr (.inl ⟨_, _, rfl, rfl, rfl⟩)
  | _ => exact .inr (.inr rfl)
structure NC where f : Tr → WV
noncomputable def nC (x : X) : NC := X.rec (motive := fun _ => NC) (fun p => ⟨fun e => ((gT p).f e).asW⟩) (fun v => WV.rec (motive := fun _ => NC) ⟨fun _ => .no⟩ (fun a => ⟨fun _ => .n a⟩) (fun k m a => ⟨fun _ => .u k m a⟩) v.asW) x
theorem nC_eq (x : X) (e : Tr) : (nC x).f e = (evX x e).asW := by
  cases x with
  | t p => show ((gT p).f e).asW = _; rw [gT_eq]; rfl
  | c v => show (WV.rec (motive := fun _ => NC) ⟨fun _ => .no⟩ (fun a => ⟨fun _ => .n a⟩) (fun k m a => ⟨fun _ => .u k m a⟩) v.asW : NC).f e = v.asW; cases v.asW <;> rfl
noncomputable def uK (k : IntKind) (r : Nat) (c : V → Rs) : Rs := fN r fun r => c (.i k (.ofNat r))
structure BK where f : WV → WV → (V → Rs) → Rs → Rs
noncomputable def bK (op : BinOp) : BK := BinOp.rec (motive := fun _ => BK)
  ⟨fun x y c s => WV.rec (motive := fun _ => Rs) s (fun a => WV.rec (motive := fun _ => Rs) s (fun b => fN (Nat.add a b) fun r => Bool.rec s (c (.n r)) (Nat.blt r 9223372036854775808)) (fun _ _ _ => s) y) (fun k m a => WV.rec (motive := fun _ => Rs) s (fun _ => s) (fun _ m2 b => Bool.rec s (uK k (Nat.mod (Nat.add a b) (Nat.pow 2 m)) c) (Nat.beq m m2)) y) x⟩
  ⟨fun x y c s => WV.rec (motive := fun _ => Rs) s (fun a => WV.rec (motive := fun _ => Rs) s (fun b => Bool.rec s (fN (Nat.sub a b) fun r => c (.n r)) (Nat.ble b a)) (fun _ _ _ => s) y) (fun k m a => WV.rec (motive := fun _ => Rs) s (fun _ => s) (fun _ m2 b => Bool.rec s (uK k (Nat.mod (Nat.add a (Nat.sub (Nat.pow 2 m) (Nat.mod b (Nat.pow 2 m)))) (Nat.pow 2 m)) c) (Nat.beq m m2)) y) x⟩
  ⟨fun x y c s => WV.rec (motive := fun _ => Rs) s (fun a => WV.rec (motive := fun _ => Rs) s (fun b => fN (Nat.mul a b) fun r => Bool.rec s (c (.n r)) (Nat.blt r 9223372036854775808)) (fun _ _ _ => s) y) (fun k m a => WV.rec (motive := fun _ => Rs) s (fun _ => s) (fun _ m2 b => Bool.rec s (uK k (Nat.mod (Nat.mul a b) (Nat.pow 2 m)) c) (Nat.beq m m2)) y) x⟩
  ⟨fun x y c s => WV.rec (motive := fun _ => Rs) s (fun a => WV.rec (motive := fun _ => Rs) s (fun b => Bool.rec (fN (Nat.div a b) fun r => c (.n r)) s (Nat.beq b 0)) (fun _ _ _ => s) y) (fun k m a => WV.rec (motive := fun _ => Rs) s (fun _ => s) (fun _ m2 b => Bool.rec s (s) (Nat.beq m m2)) y) x⟩
  ⟨fun x y c s => WV.rec (motive := fun _ => Rs) s (fun a => WV.rec (motive := fun _ => Rs) s (fun b => Bool.rec (fN (Nat.mod a b) fun r => c (.n r)) s (Nat.beq b 0)) (fun _ _ _ => s) y) (fun k m a => WV.rec (motive := fun _ => Rs) s (fun _ => s) (fun _ m2 b => Bool.rec s (s) (Nat.beq m m2)) y) x⟩
  ⟨fun x y c s => WV.rec (motive := fun _ => Rs) s (fun a => WV.rec (motive := fun _ => Rs) s (fun b => fN (Nat.land a b) fun r => c (.n r)) (fun _ _ _ => s) y) (fun k m a => WV.rec (motive := fun _ => Rs) s (fun _ => s) (fun _ m2 b => Bool.rec s (uK k (Nat.land (Nat.mod a (Nat.pow 2 m)) (Nat.mod b (Nat.pow 2 m))) c) (Nat.beq m m2)) y) x⟩
  ⟨fun x y c s => WV.rec (motive := fun _ => Rs) s (fun a => WV.rec (motive := fun _ => Rs) s (fun b => fN (Nat.lor a b) fun r => Bool.rec s (c (.n r)) (Nat.blt r 9223372036854775808)) (fun _ _ _ => s) y) (fun k m a => WV.rec (motive := fun _ => Rs) s (fun _ => s) (fun _ m2 b => Bool.rec s (uK k (Nat.lor (Nat.mod a (Nat.pow 2 m)) (Nat.mod b (Nat.pow 2 m))) c) (Nat.beq m m2)) y) x⟩
  ⟨fun x y c s => WV.rec (motive := fun _ => Rs) s (fun a => WV.rec (motive := fun _ => Rs) s (fun b => s) (fun _ _ _ => s) y) (fun k m a => WV.rec (motive := fun _ => Rs) s (fun _ => s) (fun _ m2 b => Bool.rec s (uK k (Nat.xor (Nat.mod a (Nat.pow 2 m)) (Nat.mod b (Nat.pow 2 m))) c) (Nat.beq m m2)) y) x⟩
  ⟨fun x y c s => WV.rec (motive := fun _ => Rs) s (fun a => WV.rec (motive := fun _ => Rs) s (fun b => s) (fun _ _ _ => s) y) (fun k m a => WV.rec (motive := fun _ => Rs) s (fun b => Bool.rec s (uK k (Nat.mod (Nat.shiftLeft a b) (Nat.pow 2 m)) c) (Nat.ble b m)) (fun _ _ _ => s) y) x⟩
  ⟨fun x y c s => WV.rec (motive := fun _ => Rs) s (fun a => WV.rec (motive := fun _ => Rs) s (fun b => Bool.rec s (fN (Nat.shiftRight a b) fun r => c (.n r)) (Nat.ble b 64)) (fun _ _ _ => s) y) (fun k m a => WV.rec (motive := fun _ => Rs) s (fun b => Bool.rec s (uK k (Nat.shiftRight a b) c) (Nat.ble b m)) (fun _ _ _ => s) y) x⟩
  ⟨fun x y c s => WV.rec (motive := fun _ => Rs) s (fun a => WV.rec (motive := fun _ => Rs) s (fun b => s) (fun _ _ _ => s) y) (fun k m a => WV.rec (motive := fun _ => Rs) s (fun _ => s) (fun _ m2 b => Bool.rec s (uK k (Nat.land (Nat.mod a (Nat.pow 2 m)) (Nat.sub (Nat.sub (Nat.pow 2 m) 1) (Nat.mod b (Nat.pow 2 m)))) c) (Nat.beq m m2)) y) x⟩
  ⟨fun x y c s => WV.rec (motive := fun _ => Rs) s (fun a => WV.rec (motive := fun _ => Rs) s (fun b => Bool.rec (c (.b false)) (c (.b true)) (Nat.beq a b)) (fun _ _ _ => s) y) (fun k m a => WV.rec (motive := fun _ => Rs) s (fun _ => s) (fun _ m2 b => Bool.rec s (Bool.rec (c (.b false)) (c (.b true)) (Nat.beq a b)) (Nat.beq m m2)) y) x⟩
  ⟨fun x y c s => WV.rec (motive := fun _ => Rs) s (fun a => WV.rec (motive := fun _ => Rs) s (fun b => Bool.rec (c (.b true)) (c (.b false)) (Nat.beq a b)) (fun _ _ _ => s) y) (fun k m a => WV.rec (motive := fun _ => Rs) s (fun _ => s) (fun _ m2 b => Bool.rec s (Bool.rec (c (.b true)) (c (.b false)) (Nat.beq a b)) (Nat.beq m m2)) y) x⟩
  ⟨fun x y c s => WV.rec (motive := fun _ => Rs) s (fun a => WV.rec (motive := fun _ => Rs) s (fun b => Bool.rec (c (.b false)) (c (.b true)) (Nat.blt a b)) (fun _ _ _ => s) y) (fun k m a => WV.rec (motive := fun _ => Rs) s (fun _ => s) (fun _ m2 b => Bool.rec s (Bool.rec (c (.b false)) (c (.b true)) (Nat.blt a b)) (Nat.beq m m2)) y) x⟩
  ⟨fun x y c s => WV.rec (motive := fun _ => Rs) s (fun a => WV.rec (motive := fun _ => Rs) s (fun b => Bool.rec (c (.b false)) (c (.b true)) (Nat.ble a b)) (fun _ _ _ => s) y) (fun k m a => WV.rec (motive := fun _ => Rs) s (fun _ => s) (fun _ m2 b => Bool.rec s (Bool.rec (c (.b false)) (c (.b true)) (Nat.ble a b)) (Nat.beq m m2)) y) x⟩
  ⟨fun x y c s => WV.rec (motive := fun _ => Rs) s (fun a => WV.rec (motive := fun _ => Rs) s (fun b => Bool.rec (c (.b false)) (c (.b true)) (Nat.blt b a)) (fun _ _ _ => s) y) (fun k m a => WV.rec (motive := fun _ => Rs) s (fun _ => s) (fun _ m2 b => Bool.rec s (Bool.rec (c (.b false)) (c (.b true)) (Nat.blt b a)) (Nat.beq m m2)) y) x⟩
  ⟨fun x y c s => WV.rec (motive := fun _ => Rs) s (fun a => WV.rec (motive := fun _ => Rs) s (fun b => Bool.rec (c (.b false)) (c (.b true)) (Nat.ble b a)) (fun _ _ _ => s) y) (fun k m a => WV.rec (motive := fun _ => Rs) s (fun _ => s) (fun _ m2 b => Bool.rec s (Bool.rec (c (.b false)) (c (.b true)) (Nat.ble b a)) (Nat.beq m m2)) y) x⟩
  op
noncomputable def thn (c : V → Hp → Nat → Rs) (r : Res) : Rs := Res.rec (motive := fun _ => Rs) .no c r
theorem thn_mkU (c : V → Hp → Nat → Rs) (k : IntKind) (r : Nat) (h : Hp) (n : Nat) : uK k r (fun v => c v h n) = thn c (pv (mkU k r) h n) := by
  unfold uK mkU
  rw [fN_eq, fN_eq]; rfl
theorem binV_u (op : BinOp) {k : IntKind} (hk : k.signed = false) (a b : Nat) : binV op (.i k (.ofNat a)) (.i k (.ofNat b)) = slowB op (.i k (.ofNat a)) (.i k (.ofNat b)) := by
  rw [binV_eq]; cases op <;> rfl
theorem bK_eq (op : BinOp) (x y : V) (c : V → Hp → Nat → Rs) (h : Hp) (n : Nat) : (bK op).f x.asW y.asW (fun v => c v h n) (thn c (pv (binV op x y) h n)) = thn c (pv (binV op x y) h n) := by
  have no1 : ∀ (yv : WV) (s : Rs), (bK op).f .no yv (fun v => c v h n) s = s := fun yv s => by cases op <;> rfl
  have no2 : ∀ (a : Nat) (s : Rs), (bK op).f (.n a) .no (fun v => c v h n) s = s := fun a s => by cases op <;> rfl
  have no3 : ∀ (k : IntKind) (m a : Nat) (s : Rs), (bK op).f (.u k m a) .no (fun v => c v h n) s = s := fun k m a s => by cases op <;> rfl
  have no4 : ∀ (k : IntKind) (m a b : Nat) (s : Rs), (bK op).f (.n b) (.u k m a) (fun v => c v h n) s = s := fun k m a b s => by cases op <;> rfl
  rcases asW_cases x with ⟨a, rfl⟩ | ⟨k, a, rfl, hk, hx⟩ | hx
  · rcases asW_cases y with ⟨b, rfl⟩ | ⟨k, b, rfl, hk, hy⟩ | hy
    · show (bK op).f (.n a) (.n b) _ _ = _
      cases op <;> try rfl
      case add =>
        have e : binV .add (.n a) (.n b) = small (a + b) (midB .add (.n a) (.n b)) := rfl
        have e2 : small (a + b) (midB .add (.n a) (.n b)) = Bool.rec (midB .add (.n a) (.n b)) (.n (a + b)) (Nat.blt (a + b) 9223372036854775808) := fN_eq _ _
        show fN (a + b) (fun r => (Bool.rec (thn c (pv (binV .add (.n a) (.n b)) h n)) (c (.n r) h n) (Nat.blt r 9223372036854775808) : Rs)) = _
        rw [fN_eq, e, e2]
        cases Nat.blt (a + b) 9223372036854775808 <;> rfl
      case mul =>
        have e : binV .mul (.n a) (.n b) = small (a * b) (midB .mul (.n a) (.n b)) := rfl
        have e2 : small (a * b) (midB .mul (.n a) (.n b)) = Bool.rec (midB .mul (.n a) (.n b)) (.n (a * b)) (Nat.blt (a * b) 9223372036854775808) := fN_eq _ _
        show fN (a * b) (fun r => (Bool.rec (thn c (pv (binV .mul (.n a) (.n b)) h n)) (c (.n r) h n) (Nat.blt r 9223372036854775808) : Rs)) = _
        rw [fN_eq, e, e2]
        cases Nat.blt (a * b) 9223372036854775808 <;> rfl
      case or =>
        have e : binV .or (.n a) (.n b) = small (Nat.lor a b) (midB .or (.n a) (.n b)) := rfl
        have e2 : small (Nat.lor a b) (midB .or (.n a) (.n b)) = Bool.rec (midB .or (.n a) (.n b)) (.n (Nat.lor a b)) (Nat.blt (Nat.lor a b) 9223372036854775808) := fN_eq _ _
        show fN (Nat.lor a b) (fun r => (Bool.rec (thn c (pv (binV .or (.n a) (.n b)) h n)) (c (.n r) h n) (Nat.blt r 9223372036854775808) : Rs)) = _
        rw [fN_eq, e, e2]
        cases Nat.blt (Nat.lor a b) 9223372036854775808 <;> rfl
      case sub =>
        have e : binV .sub (.n a) (.n b) = Bool.rec (midB .sub (.n a) (.n b)) (fN (a - b) V.n) (Nat.ble b a) := rfl
        show (Bool.rec (thn c (pv (binV .sub (.n a) (.n b)) h n)) (fN (a - b) fun r => c (.n r) h n) (Nat.ble b a) : Rs) = _
        rw [e, fN_eq, fN_eq]
        cases Nat.ble b a <;> rfl
      case shr =>
        have e : binV .shr (.n a) (.n b) = Bool.rec (midR (.n a) (.n b)) (fN (Nat.shiftRight a b) V.n) (Nat.ble b 64) := rfl
        show (Bool.rec (thn c (pv (binV .shr (.n a) (.n b)) h n)) (fN (Nat.shiftRight a b) fun r => c (.n r) h n) (Nat.ble b 64) : Rs) = _
        rw [e, fN_eq, fN_eq]
        cases Nat.ble b 64 <;> rfl
      case quo =>
        have e : binV .quo (.n a) (.n b) = Bool.rec (fN (a / b) V.n) .bad (Nat.beq b 0) := rfl
        show (Bool.rec (fN (a / b) fun r => c (.n r) h n) (thn c (pv (binV .quo (.n a) (.n b)) h n)) (Nat.beq b 0) : Rs) = _
        rw [e, fN_eq, fN_eq]
        cases Nat.beq b 0 <;> rfl
      case rem =>
        have e : binV .rem (.n a) (.n b) = Bool.rec (fN (a % b) V.n) .bad (Nat.beq b 0) := rfl
        show (Bool.rec (fN (a % b) fun r => c (.n r) h n) (thn c (pv (binV .rem (.n a) (.n b)) h n)) (Nat.beq b 0) : Rs) = _
        rw [e, fN_eq, fN_eq]
        cases Nat.beq b 0 <;> rfl
      case and =>
        have e : binV .and (.n a) (.n b) = fN (Nat.land a b) V.n := rfl
        show (fN (Nat.land a b) fun r => c (.n r) h n : Rs) = _
        rw [e, fN_eq, fN_eq]; rfl
      case eql =>
        have e : binV .eql (.n a) (.n b) = fB (Nat.beq a b) := rfl
        show (Bool.rec (c (.b false) h n) (c (.b true) h n) (Nat.beq a b) : Rs) = _
        rw [e]; cases Nat.beq a b <;> rfl
      case neq =>
        have e : binV .neq (.n a) (.n b) = Bool.rec (.b true) (.b false) (Nat.beq a b) := rfl
        show (Bool.rec (c (.b true) h n) (c (.b false) h n) (Nat.beq a b) : Rs) = _
        rw [e]; cases Nat.beq a b <;> rfl
      case lss =>
        have e : binV .lss (.n a) (.n b) = fB (Nat.blt a b) := rfl
        show (Bool.rec (c (.b false) h n) (c (.b true) h n) (Nat.blt a b) : Rs) = _
        rw [e]; cases Nat.blt a b <;> rfl
      case leq =>
        have e : binV .leq (.n a) (.n b) = fB (Nat.ble a b) := rfl
        show (Bool.rec (c (.b false) h n) (c (.b true) h n) (Nat.ble a b) : Rs) = _
        rw [e]; cases Nat.ble a b <;> rfl
      case gtr =>
        have e : binV .gtr (.n a) (.n b) = fB (Nat.blt b a) := rfl
        show (Bool.rec (c (.b false) h n) (c (.b true) h n) (Nat.blt b a) : Rs) = _
        rw [e]; cases Nat.blt b a <;> rfl
      case geq =>
        have e : binV .geq (.n a) (.n b) = fB (Nat.ble b a) := rfl
        show (Bool.rec (c (.b false) h n) (c (.b true) h n) (Nat.ble b a) : Rs) = _
        rw [e]; cases Nat.ble b a <;> rfl
    · rw [hy]; exact no4 _ _ _ _ _
    · rw [hy]; exact no2 a _
  · rcases asW_cases y with ⟨b, rfl⟩ | ⟨k', b, rfl, hk', hy⟩ | hy
    · rw [hx]
      show (bK op).f (.u k k.bits a) (.n b) _ _ = _
      have hu : (V.i k (.ofNat a)).asU = .y k k.bits a := by cases k <;> first | exact absurd hk (by decide) | rfl
      cases op <;> try rfl
      case shl =>
        have e : binV .shl (.i k (.ofNat a)) (.n b) = midL (.i k (.ofNat a)) (.n b) := rfl
        have e2 : midL (.i k (.ofNat a)) (.n b) = Bool.rec (slowB .shl (.i k (.ofNat a)) (.n b)) (mkU k (Nat.mod (Nat.shiftLeft a b) (Nat.pow 2 k.bits))) (Nat.ble b k.bits) := by unfold midL; rw [hu]; rfl
        show (Bool.rec (thn c (pv (binV .shl (.i k (.ofNat a)) (.n b)) h n)) (uK k (Nat.mod (Nat.shiftLeft a b) (Nat.pow 2 k.bits)) fun v => c v h n) (Nat.ble b k.bits) : Rs) = _
        rw [thn_mkU, e, e2]
        cases Nat.ble b k.bits <;> rfl
      case shr =>
        have e : binV .shr (.i k (.ofNat a)) (.n b) = midR (.i k (.ofNat a)) (.n b) := rfl
        have e2 : midR (.i k (.ofNat a)) (.n b) = Bool.rec (slowB .shr (.i k (.ofNat a)) (.n b)) (mkU k (Nat.shiftRight a b)) (Nat.ble b k.bits) := by unfold midR; rw [hu]; rfl
        show (Bool.rec (thn c (pv (binV .shr (.i k (.ofNat a)) (.n b)) h n)) (uK k (Nat.shiftRight a b) fun v => c v h n) (Nat.ble b k.bits) : Rs) = _
        rw [thn_mkU, e, e2]
        cases Nat.ble b k.bits <;> rfl
    · rw [hx, hy]
      show (bK op).f (.u k k.bits a) (.u k' k'.bits b) _ _ = _
      cases hb : Nat.beq k.bits k'.bits with
      | false =>
        cases op <;> first | rfl | (show (Bool.rec _ _ (Nat.beq k.bits k'.bits) : Rs) = _; rw [hb])
      | true =>
        have hb' := hb
        rw [Nat.beq_eq] at hb'
        obtain rfl := bits_inj hk hk' hb'
        have key : ∀ v : V, uOp op k (2 ^ k.bits) a b (slowB op (.i k (.ofNat a)) (.i k (.ofNat b))) = v → binV op (.i k (.ofNat a)) (.i k (.ofNat b)) = v := fun v hv => by rw [binV_u op hk, ← uOp_eq op hk]; exact hv
        cases op <;> try rfl
        case add =>
          show (Bool.rec _ (uK k _ fun v => c v h n) (Nat.beq k.bits k.bits) : Rs) = _
          rw [hb, key _ rfl]; exact thn_mkU ..
        case sub =>
          show (Bool.rec _ (uK k _ fun v => c v h n) (Nat.beq k.bits k.bits) : Rs) = _
          rw [hb, key _ rfl]; exact thn_mkU ..
        case mul =>
          show (Bool.rec _ (uK k _ fun v => c v h n) (Nat.beq k.bits k.bits) : Rs) = _
          rw [hb, key _ rfl]; exact thn_mkU ..
        case and =>
          show (Bool.rec _ (uK k _ fun v => c v h n) (Nat.beq k.bits k.bits) : Rs) = _
          rw [hb, key _ rfl]; exact thn_mkU ..
        case or =>
          show (Bool.rec _ (uK k _ fun v => c v h n) (Nat.beq k.bits k.bits) : Rs) = _
          rw [hb, key _ rfl]; exact thn_mkU ..
        case xor =>
          show (Bool.rec _ (uK k _ fun v => c v h n) (Nat.beq k.bits k.bits) : Rs) = _
          rw [hb, key _ rfl]; exact thn_mkU ..
        case andNot =>
          show (Bool.rec _ (uK k _ fun v => c v h n) (Nat.beq k.bits k.bits) : Rs) = _
          rw [hb, key _ rfl]; exact thn_mkU ..
        case eql =>
          show (Bool.rec _ (Bool.rec (c (.b false) h n) (c (.b true) h n) (Nat.beq a b)) (Nat.beq k.bits k.bits) : Rs) = _
          rw [hb, key (fB (Nat.beq a b)) rfl]; cases Nat.beq a b <;> rfl
        case neq =>
          show (Bool.rec _ (Bool.rec (c (.b true) h n) (c (.b false) h n) (Nat.beq a b)) (Nat.beq k.bits k.bits) : Rs) = _
          rw [hb, key (Bool.rec (.b true) (.b false) (Nat.beq a b)) rfl]; cases Nat.beq a b <;> rfl
        case lss =>
          show (Bool.rec _ (Bool.rec (c (.b false) h n) (c (.b true) h n) (Nat.blt a b)) (Nat.beq k.bits k.bits) : Rs) = _
          rw [hb, key (fB (Nat.blt a b)) rfl]; cases Nat.blt a b <;> rfl
        case leq =>
          show (Bool.rec _ (Bool.rec (c (.b false) h n) (c (.b true) h n) (Nat.ble a b)) (Nat.beq k.bits k.bits) : Rs) = _
          rw [hb, key (fB (Nat.ble a b)) rfl]; cases Nat.ble a b <;> rfl
        case gtr =>
          show (Bool.rec _ (Bool.rec (c (.b false) h n) (c (.b true) h n) (Nat.blt b a)) (Nat.beq k.bits k.bits) : Rs) = _
          rw [hb, key (fB (Nat.blt b a)) rfl]; cases Nat.blt b a <;> rfl
        case geq =>
          show (Bool.rec _ (Bool.rec (c (.b false) h n) (c (.b true) h n) (Nat.ble b a)) (Nat.beq k.bits k.bits) : Rs) = _
          rw [hb, key (fB (Nat.ble b a)) rfl]; cases Nat.ble b a <;> rfl
        case quo =>
          show (Bool.rec _ _ (Nat.beq k.bits k.bits) : Rs) = _
          rw [hb]
        case rem =>
          show (Bool.rec _ _ (Nat.beq k.bits k.bits) : Rs) = _
          rw [hb]
    · rw [hx, hy]; exact no3 _ _ _ _
  · rw [hx]; exact no1 _ _
structure OK where f : FF → Tr → Nat → Hp → Nat → (V → Hp → Nat → Rs) → Rs
noncomputable def okC (o : O) : OK := match o with
  | .bin op x y => ⟨fun _ e _ h n c => (bK op).f ((nC x).f e) ((nC y).f e) (fun v => c v h n) (thn c (pv ((bC op).f ((xC x).f e) ((xC y).f e)) h n))⟩
  | .ld k agg x => ⟨fun _ e _ h n c => PV.rec (motive := fun _ => Rs) .no (fun a o => Option.rec (motive := fun _ => Rs) .no (fun b => Bool.rec .no (Bool.rec (c (b.cell o) h n) (c (.ag (b.getW o k)) h n) agg) (Nat.ble (Nat.add o k) b.size)) (h.get a)) ((xC x).f e).asP⟩
  | .call f xs => ⟨fun F e lim h n c => thn c (F f ((xlC xs).f e) lim h n)⟩
  | o => ⟨fun F e lim h n c => thn c ((oC o).f F e lim h n)⟩
theorem okC_eq (o : O) (F : FF) (e : Tr) (lim : Nat) (h : Hp) (n : Nat) (c : V → Hp → Nat → Rs) : (okC o).f F e lim h n c = thn c (o.ev F e lim h n) := by
  have key : ((∃ op x y, o = .bin op x y) ∨ (∃ k agg x, o = .ld k agg x) ∨ ∃ f xs, o = .call f xs) ∨ (okC o).f F e lim h n c = thn c ((oC o).f F e lim h n) := by
    cases o <;> first | exact .inl (.inl ⟨_, _, _, rfl⟩) | exact .inl (.inr (.inl ⟨_, _, _, rfl⟩)) | exact .inl (.inr (.inr ⟨_, _, rfl⟩)) | exact .inr rfl
  rcases key with (⟨op, x, y, rfl⟩ | ⟨k, agg, x, rfl⟩ | ⟨f, xs, rfl⟩) | key
  · show (bK op).f ((nC x).f e) ((nC y).f e) (fun v => c v h n) (thn c (pv ((bC op).f ((xC x).f e) ((xC y).f e)) h n)) = thn c (pv (binV op (evX x e) (evX y e)) h n)
    rw [bC_eq, xC_eq, xC_eq, nC_eq, nC_eq, bK_eq]
  · show (PV.rec (motive := fun _ => Rs) .no (fun a o => Option.rec (motive := fun _ => Rs) .no (fun b => Bool.rec .no (Bool.rec (c (b.cell o) h n) (c (.ag (b.getW o k)) h n) agg) (Nat.ble (Nat.add o k) b.size)) (h.get a)) ((xC x).f e).asP) = thn c (onP (evX x e) (fun a o => Option.rec .no (fun b => Bool.rec .no (Bool.rec (.ok (b.cell o) h n) (.ok (.ag (b.getW o k)) h n) agg) (Nat.ble (Nat.add o k) b.size)) (h.get a)) .no)
    rw [xC_eq]
    unfold onP
    cases (evX x e).asP with
    | no => rfl
    | y a o =>
      show (Option.rec (motive := fun _ => Rs) .no _ (h.get a)) = thn c (Option.rec _ _ (h.get a))
      cases h.get a with
      | none => rfl
      | some b =>
        show (Bool.rec .no (Bool.rec _ _ agg) (Nat.ble (Nat.add o k) b.size) : Rs) = thn c (Bool.rec _ (Bool.rec _ _ agg) (Nat.ble (Nat.add o k) b.size))
        cases Nat.ble (Nat.add o k) b.size <;> cases agg <;> rfl
  · show thn c (F f ((xlC xs).f e) lim h n) = thn c (F f (evXL xs e) lim h n)
    rw [xlC_eq]
  · rw [key, oC_eq]

/-! Code, with what comes next. -/
structure CC where f : FF → Nat → Tr → Hp → Nat → Rs
noncomputable def nK : CC := ⟨fun _ _ e h n => .nor e h n⟩
noncomputable def kO (d : Option Pos) (o : O) (k : CC) : CC := match o, d with
  | .mv x, some p => ⟨fun F lim e h n => k.f F lim ((pT p).f e ((xC x).f e)) h n⟩
  | o, some p => ⟨fun F lim e h n => (okC o).f F e lim h n fun v h' n' => k.f F lim ((pT p).f e v) h' n'⟩
  | o, none => ⟨fun F lim e h n => (okC o).f F e lim h n fun _ h' n' => k.f F lim e h' n'⟩
noncomputable def onR (k : CC) (F : FF) (lim : Nat) (r : Rg) : Rs := Rg.rec (motive := fun _ => Rs) .no (fun e h n => k.f F lim e h n) r
theorem kO_eq (d : Option Pos) (o : O) (k : CC) (F : FF) (lim : Nat) (e : Tr) (h : Hp) (n : Nat) : (kO d o k).f F lim e h n = Res.rec (motive := fun _ => Rs) .no (fun v h' n' => k.f F lim (setD d v e) h' n') (o.ev F e lim h n) := by
  cases d with
  | none =>
    have : (kO none o k).f F lim e h n = (okC o).f F e lim h n fun _ h' n' => k.f F lim e h' n' := by cases o <;> rfl
    rw [this, okC_eq]; rfl
  | some p =>
    have key : (∃ x, o = .mv x) ∨ (kO (some p) o k).f F lim e h n = (okC o).f F e lim h n fun v h' n' => k.f F lim ((pT p).f e v) h' n' := by
      cases o <;> first | exact .inl ⟨_, rfl⟩ | exact .inr rfl
    rcases key with ⟨x, rfl⟩ | key
    · show k.f F lim ((pT p).f e ((xC x).f e)) h n = k.f F lim (e.set (evX x e) p) h n; rw [xC_eq, pT_eq]
    · rw [key, okC_eq]
      unfold thn
      congr 1
      funext v h' n'
      rw [pT_eq]; rfl
noncomputable def kG (g : Pos) (b : Bool) (run : CC) (d : Option Pos) (k : CC) : CC :=
  ⟨fun F lim e h n => onB ((gT g).f e) (fun t => Bool.rec (Bool.rec (run.f F lim e h n) (k.f F lim (setD d (.tu .nil) e) h n) b) (Bool.rec (k.f F lim (setD d (.tu .nil) e) h n) (run.f F lim e h n) b) t) (onR k F lim (onT ((gT g).f e) (fun l => L.rec (motive_1 := fun _ => Unit) (motive_2 := fun _ => Rg) () (fun _ => ()) (fun _ _ => ()) (fun _ => ()) (fun _ _ => ()) () (fun _ _ _ _ _ => ()) () (fun _ _ => ()) (fun _ _ => ()) (fun _ _ _ _ _ => ()) () (fun _ => ()) (fun _ _ _ => ()) () (fun _ => ()) () (fun _ => ()) (fun _ _ _ _ => ()) (.ok (setD d (.tu .nil) e) h n) (fun _ _ _ _ => .no) l) .no))⟩
noncomputable def kR (l : RL) (k : CC) : CC := RL.rec (motive := fun _ => CC) k (fun d g o _ ih => Option.rec (motive := fun _ => CC) (kO d o ih) (fun gd => kG gd.1 gd.2 (kO d o ih) d ih) g) l
theorem runR_eq (d : Option Pos) (o : O) (r : FF → Nat → Tr → Hp → Nat → Rg) (k : CC) (F : FF) (lim : Nat) (e : Tr) (h : Hp) (n : Nat) :
    onR k F lim (runR d o r F lim e h n) = Res.rec (motive := fun _ => Rs) .no (fun v h' n' => onR k F lim (r F lim (setD d v e) h' n')) (o.ev F e lim h n) := by
  unfold runR
  cases o.ev F e lim h n with
  | no => rfl
  | ok v h' n' => show onR k F lim (putd d v e fun e' => r F lim e' h' n') = _; rw [putd_eq]
theorem kR_eq (k : CC) (F : FF) : ∀ (l : RL) (lim : Nat) (e : Tr) (h : Hp) (n : Nat), (kR l k).f F lim e h n = onR k F lim (evR l F lim e h n)
  | .nil, _, _, _, _ => rfl
  | .cons d none o l, lim, e, h, n => by
    show (kO d o (kR l k)).f F lim e h n = onR k F lim (runR d o (evR l) F lim e h n)
    rw [kO_eq, runR_eq]
    congr 1
    funext v h' n'
    exact kR_eq k F l lim _ h' n'
  | .cons d (some (g, b)) o l, lim, e, h, n => by
    have h1 : (kO d o (kR l k)).f F lim e h n = onR k F lim (runR d o (evR l) F lim e h n) := by
      rw [kO_eq, runR_eq]
      congr 1
      funext v h' n'
      exact kR_eq k F l lim _ h' n'
    have h2 : (kR l k).f F lim (setD d (.tu .nil) e) h n = onR k F lim (putd d (.tu .nil) e fun e' => evR l F lim e' h n) := by
      rw [putd_eq]; exact kR_eq k F l lim _ h n
    show onB ((gT g).f e) (fun t => Bool.rec (Bool.rec ((kO d o (kR l k)).f F lim e h n) ((kR l k).f F lim (setD d (.tu .nil) e) h n) b) (Bool.rec ((kR l k).f F lim (setD d (.tu .nil) e) h n) ((kO d o (kR l k)).f F lim e h n) b) t) (onR (kR l k) F lim (onT ((gT g).f e) (fun l => L.rec (motive_1 := fun _ => Unit) (motive_2 := fun _ => Rg) () (fun _ => ()) (fun _ _ => ()) (fun _ => ()) (fun _ _ => ()) () (fun _ _ _ _ _ => ()) () (fun _ _ => ()) (fun _ _ => ()) (fun _ _ _ _ _ => ()) () (fun _ => ()) (fun _ _ _ => ()) () (fun _ => ()) () (fun _ => ()) (fun _ _ _ _ => ()) (.ok (setD d (.tu .nil) e) h n) (fun _ _ _ _ => .no) l) .no))
      = onR k F lim (guardR (e.get g) b (runR d o (evR l) F lim e h n) (putd d (.tu .nil) e fun e' => evR l F lim e' h n) .no)
    rw [show (gT g).f e = e.get g from gT_eq g e, h1, h2]
    generalize e.get g = v
    unfold guardR
    cases v
    case b t => cases t <;> cases b <;> rfl
    case tu m =>
      cases m with
      | nil => exact h2
      | cons => rfl
    all_goals rfl
/-- What comes behind a piece that was left in no other way. -/
noncomputable def onC (k : CC) (F : FF) (lim : Nat) (r : Rs) : Rs := Rs.rec (motive := fun _ => Rs) .no (fun e h n => k.f F lim e h n) (fun id e h n => .ext id e h n) (fun e h n => .ret e h n) r
noncomputable def kC (q : IC) : CC → CC :=
  IC.rec (motive := fun _ => CC → CC) (fun k => k) (fun _ => ⟨fun _ _ e h n => .ret e h n⟩) (fun id _ => ⟨fun _ _ e h n => .ext id e h n⟩)
    (fun _ _ ka kb k => ka (kb k))
    (fun x _ _ ka kb k => ⟨fun F lim e h n => onB ((xC x).f e) (fun t => Bool.rec ((kb k).f F lim e h n) ((ka k).f F lim e h n) t) .no⟩)
    (fun id _ kb k => ⟨fun F lim e h n => Rs.rec (motive := fun _ => Rs) .no (fun e h n => k.f F lim e h n) (fun i e h n => Bool.rec (.ext i e h n) (k.f F lim e h n) (Nat.beq i id)) (fun e h n => .ret e h n) ((kb nK).f F lim e h n)⟩)
    (fun _ kb _ => ⟨fun F lim e h n => Rs.rec (motive := fun _ => Rs) .no (fun _ _ _ => .no) (fun id e h n => .ext id e h n) (fun e h n => .ret e h n) (rep ((kb nK).f F lim) 20 e h n)⟩)
    (fun l k => kR l k) (fun l k => ⟨fun F lim e h n => onR k F lim (evDr l F lim e h n)⟩) (fun x N ps ca cb k => ⟨fun F lim e h n => onC k F lim (evRfn x N ps ca cb F lim e h n)⟩) (fun r r1 el esz b s x dt r2 k => ⟨fun F lim e h n => onR k F lim (evRek r r1 el esz b s x dt r2 F lim e h n)⟩) (fun _ => ⟨fun _ _ _ _ _ => .no⟩) q
theorem onC_nK (F : FF) (lim : Nat) (r : Rs) : onC nK F lim r = r := by cases r <;> rfl
theorem kC_eq (F : FF) : ∀ (q : IC) (k : CC) (lim : Nat) (e : Tr) (h : Hp) (n : Nat), (kC q k).f F lim e h n = onC k F lim (evC q F lim e h n)
  | .skip, k, lim, e, h, n => rfl
  | .ret, k, lim, e, h, n => rfl
  | .exit id, k, lim, e, h, n => rfl
  | .seq a b, k, lim, e, h, n => by
    show (kC a (kC b k)).f F lim e h n = onC k F lim (evSeq (evC a) (evC b) F lim e h n)
    rw [kC_eq F a]
    unfold evSeq
    cases evC a F lim e h n with
    | nor e1 h1 n1 => exact kC_eq F b k lim e1 h1 n1
    | _ => rfl
  | .cond x a b, k, lim, e, h, n => by
    show onB ((xC x).f e) (fun t => Bool.rec ((kC b k).f F lim e h n) ((kC a k).f F lim e h n) t) .no = onC k F lim (evCond x (evC a) (evC b) F lim e h n)
    unfold evCond
    rw [xC_eq, kC_eq F a, kC_eq F b]
    cases evX x e
    case b t => cases t <;> rfl
    all_goals rfl
  | .block id b, k, lim, e, h, n => by
    have hb := kC_eq F b nK lim e h n
    rw [onC_nK] at hb
    show (Rs.rec (motive := fun _ => Rs) .no (fun e h n => k.f F lim e h n) (fun i e h n => Bool.rec (.ext i e h n) (k.f F lim e h n) (Nat.beq i id)) (fun e h n => .ret e h n) ((kC b nK).f F lim e h n)) = onC k F lim (evBlock id (evC b) F lim e h n)
    rw [hb]
    unfold evBlock
    cases evC b F lim e h n with
    | ext i e1 h1 n1 => show (Bool.rec (.ext i e1 h1 n1) (k.f F lim e1 h1 n1) (Nat.beq i id) : Rs) = onC k F lim (Bool.rec (.ext i e1 h1 n1) (.nor e1 h1 n1) (Nat.beq i id)); cases Nat.beq i id <;> rfl
    | _ => rfl
  | .loop b, k, lim, e, h, n => by
    have hb : (kC b nK).f F lim = evC b F lim := by
      funext e h n
      have := kC_eq F b nK lim e h n
      rwa [onC_nK] at this
    show (Rs.rec (motive := fun _ => Rs) .no (fun _ _ _ => .no) (fun id e h n => .ext id e h n) (fun e h n => .ret e h n) (rep ((kC b nK).f F lim) 20 e h n)) = onC k F lim (evLoop (evC b) F lim e h n)
    rw [hb]
    unfold evLoop
    cases rep (evC b F lim) 20 e h n <;> rfl
  | .reg l, k, lim, e, h, n => by
    show (kR l k).f F lim e h n = onC k F lim (rgRs (evR l F lim e h n))
    rw [kR_eq]
    cases evR l F lim e h n <;> rfl
  | .draw l, k, lim, e, h, n => by
    show onR k F lim (evDr l F lim e h n) = onC k F lim (rgRs (evDr l F lim e h n))
    cases evDr l F lim e h n <;> rfl
  | .rfn x N ps ca cb, k, lim, e, h, n => rfl
  | .rek r r1 el esz b s x dt r2, k, lim, e, h, n => by
    show onR k F lim (evRek r r1 el esz b s x dt r2 F lim e h n) = onC k F lim (rgRs (evRek r r1 el esz b s x dt r2 F lim e h n))
    cases evRek r r1 el esz b s x dt r2 F lim e h n <;> rfl
  | .nope, k, lim, e, h, n => rfl

/-! Functions. -/
noncomputable def bindW (l : L) : Nat → Tr → Tr := L.rec (motive_1 := fun _ => Unit) (motive_2 := fun _ => Nat → Tr → Tr) () (fun _ => ()) (fun _ _ => ()) (fun _ => ()) (fun _ _ => ()) () (fun _ _ _ _ _ => ()) () (fun _ _ => ()) (fun _ _ => ()) (fun _ _ _ _ _ => ()) () (fun _ => ()) (fun _ _ _ => ()) () (fun _ => ()) () (fun _ => ()) (fun _ _ _ _ => ())
  (fun _ e => e) (fun v _ _ ih k e => ih (Nat.succ k) ((pT (tp k)).f e v)) l
theorem bindW_eq : ∀ (l : L) (k : Nat) (e : Tr), bindW l k e = bind l k e
  | .nil, _, _ => rfl
  | .cons v l, k, e => by
    show bindW l (k + 1) ((pT (tp k)).f e v) = _
    rw [pT_eq]; exact bindW_eq l (k + 1) (e.set v (tp k))
structure RVC where f : Tr → Hp → V
noncomputable def rvC (r : RV) : RVC := RV.rec (motive := fun _ => RVC) (fun p => ⟨fun e _ => (gT p).f e⟩) (fun p n agg => ⟨fun e h => evRV (.cell p n agg) e h⟩) r
theorem rvC_eq (r : RV) (e : Tr) (h : Hp) : (rvC r).f e h = evRV r e h := by
  cases r with
  | tmp p => exact gT_eq p e
  | cell p k a => rfl
structure RVL where f : Tr → Hp → L
noncomputable def rvL (rs : List RV) : RVL := List.rec (motive := fun _ => RVL) ⟨fun _ _ => .nil⟩ (fun r _ ih => ⟨fun e h => .cons ((rvC r).f e h) (ih.f e h)⟩) rs
theorem rvL_eq (e : Tr) (h : Hp) : ∀ rs : List RV, (rvL rs).f e h = evRVs e h rs
  | [] => rfl
  | r :: rs => by show L.cons ((rvC r).f e h) ((rvL rs).f e h) = _; rw [rvC_eq, rvL_eq e h rs]; rfl
noncomputable def knW (v : V) : Bool := V.rec (motive_1 := fun _ => Bool) (motive_2 := fun _ => Unit) false (fun _ => true) (fun _ _ => true) (fun _ => true) (fun _ _ => true) true (fun _ _ _ _ _ => true) true (fun _ _ => true) (fun _ _ => true) (fun _ _ _ _ _ => true) true (fun _ => true) (fun _ _ _ => true) true (fun _ => true) true (fun _ => true) (fun _ _ _ _ => true) () (fun _ _ _ _ => ()) v
theorem knW_eq (v : V) : knW v = v.known := by cases v <;> rfl
noncomputable def knL (l : L) : Bool := L.rec (motive_1 := fun _ => Unit) (motive_2 := fun _ => Bool) () (fun _ => ()) (fun _ _ => ()) (fun _ => ()) (fun _ _ => ()) () (fun _ _ _ _ _ => ()) () (fun _ _ => ()) (fun _ _ => ()) (fun _ _ _ _ _ => ()) () (fun _ => ()) (fun _ _ _ => ()) () (fun _ => ()) () (fun _ => ()) (fun _ _ _ _ => ()) true (fun v _ _ ih => Bool.rec false ih (knW v)) l
theorem knL_eq : ∀ l : L, knL l = l.known
  | .nil => rfl
  | .cons v l => by
    show (Bool.rec false (knL l) (knW v) : Bool) = (v.known && l.known)
    rw [knW_eq, knL_eq l]; cases v.known <;> rfl
structure EC where f : Hp → Tr → Hp → Nat → Res
/-- What a function hands back; what it did to the memory is kept, or forgotten. -/
noncomputable def eC (drop : Bool) (rs : List RV) : EC := match rs with
  | [r] => Bool.rec ⟨fun _ e h n => Bool.rec .no (.ok ((rvC r).f e h) h n) (knW ((rvC r).f e h))⟩ ⟨fun h0 e h n => Bool.rec .no (.ok ((rvC r).f e h) h0 n) (knW ((rvC r).f e h))⟩ drop
  | rs => Bool.rec ⟨fun _ e h n => Bool.rec .no (.ok (.tu ((rvL rs).f e h)) h n) (knL ((rvL rs).f e h))⟩ ⟨fun h0 e h n => Bool.rec .no (.ok (.tu ((rvL rs).f e h)) h0 n) (knL ((rvL rs).f e h))⟩ drop
theorem eC_eq (drop : Bool) (rs : List RV) (h0 : Hp) (e : Tr) (h : Hp) (n : Nat) : (eC drop rs).f h0 e h n = endF drop h0 rs e h n := by
  match rs with
  | [] => cases drop <;> rfl
  | [r] =>
    have h1 : knW ((rvC r).f e h) = (evRVs e h [r]).known := by
      rw [knW_eq, rvC_eq]; show _ = ((evRV r e h).known && true); rw [Bool.and_true]
    cases drop
    · show (Bool.rec .no (.ok ((rvC r).f e h) h n) (knW ((rvC r).f e h)) : Res) = endF false h0 [r] e h n
      rw [h1, rvC_eq]; rfl
    · show (Bool.rec .no (.ok ((rvC r).f e h) h0 n) (knW ((rvC r).f e h)) : Res) = endF true h0 [r] e h n
      rw [h1, rvC_eq]; rfl
  | r :: r' :: rs =>
    cases drop
    · show (Bool.rec .no (.ok (.tu ((rvL (r :: r' :: rs)).f e h)) h n) (knL ((rvL (r :: r' :: rs)).f e h)) : Res) = endF false h0 (r :: r' :: rs) e h n
      rw [knL_eq, rvL_eq]; rfl
    · show (Bool.rec .no (.ok (.tu ((rvL (r :: r' :: rs)).f e h)) h0 n) (knL ((rvL (r :: r' :: rs)).f e h)) : Res) = endF true h0 (r :: r' :: rs) e h n
      rw [knL_eq, rvL_eq]; rfl
structure FC where f : FF → L → Nat → Hp → Nat → Res
noncomputable def runC (drop : Bool) (q : IC) (rs : List RV) : FC :=
  ⟨fun F args lim h n => Rs.rec (motive := fun _ => Res) .no (fun e h' n' => (eC drop rs).f h e h' n') (fun _ _ _ _ => .no) (fun e h' n' => (eC drop rs).f h e h' n') ((kC q nK).f F lim (bindW args 0 .lf) h n)⟩
theorem runC_eq (drop : Bool) (q : IC) (rs : List RV) (F : FF) (args : L) (lim : Nat) (h : Hp) (n : Nat) : (runC drop q rs).f F args lim h n = runB drop q rs F args lim h n := by
  show (Rs.rec (motive := fun _ => Res) .no (fun e h' n' => (eC drop rs).f h e h' n') (fun _ _ _ _ => .no) (fun e h' n' => (eC drop rs).f h e h' n') ((kC q nK).f F lim (bindW args 0 .lf) h n)) = _
  rw [kC_eq, onC_nK, bindW_eq]
  unfold runB
  cases evC q F lim (bind args 0 .lf) h n with
  | nor e h' n' => exact eC_eq drop rs h e h' n'
  | ret e h' n' => exact eC_eq drop rs h e h' n'
  | _ => rfl
noncomputable def fC (fi : FnI) : FC := FnI.rec (motive := fun _ => FC) (fun bar drop q rs => Bool.rec (runC false q rs) ⟨fun F args lim h n => Bool.rec .no ((runC drop q rs).f F args n h n) (Nat.ble lim n)⟩ bar) fi
theorem fC_eq (fi : FnI) (F : FF) (args : L) (lim : Nat) (h : Hp) (n : Nat) : (fC fi).f F args lim h n = runF fi F args lim h n := by
  obtain ⟨bar, drop, q, rs⟩ := fi
  cases bar
  · exact runC_eq false q rs F args lim h n
  · show (Bool.rec .no ((runC drop q rs).f F args n h n) (Nat.ble lim n) : Res) = Bool.rec .no (runB drop q rs F args n h n) (Nat.ble lim n)
    rw [runC_eq]
/-- The function with a number. -/
noncomputable def tC (PR : FT) (f : Nat) : FC := Option.rec (motive := fun _ => FC) ⟨fun _ _ _ _ _ => .no⟩ (fun fi => fC fi) (PR.at (Nat.succ f))
noncomputable def smF (f : Nat) : Bool := Nat.ble f 4294967294
noncomputable def stepC (cmp : Nat → Code → Option IC) (PR : FT) (ih : FF) : FF := fun f args lim h n => Bool.rec (Bool.rec .no (evY cmp ih args lim h n) (Nat.beq f YID)) (Bool.rec (Bool.rec .no (evY cmp ih args lim h n) (Nat.beq f YID)) ((tC PR f).f ih args lim h n) (Nat.ble (lenW args) 4294967294)) (smF f)
theorem stepC_eq (cmp : Nat → Code → Option IC) (PR : FT) (G : FF) : stepC cmp PR G = stepG cmp PR G := by
  funext f args lim h n
  have h1 : (tC PR f).f G args lim h n = Option.rec (motive := fun _ => Res) .no (fun fi => runF fi G args lim h n) (PR.at (Nat.succ f)) := by
    unfold tC
    cases PR.at (Nat.succ f) with
    | none => rfl
    | some fi => exact fC_eq fi G args lim h n
  show (Bool.rec (Bool.rec .no (evY cmp G args lim h n) (Nat.beq f YID)) (Bool.rec (Bool.rec .no (evY cmp G args lim h n) (Nat.beq f YID)) ((tC PR f).f G args lim h n) (Nat.ble (lenW args) 4294967294)) (Nat.ble f 4294967294) : Res) = (Bool.rec (Bool.rec .no (evY cmp G args lim h n) (Nat.beq f YID)) (Option.rec (motive := fun _ => Res) .no (fun fi => runF fi G args lim h n) (PR.at (Nat.succ f))) (and (Nat.ble f 4294967294) (Nat.ble args.length 4294967294)) : Res)
  rw [h1, lenW_eq]
  cases Nat.ble f 4294967294 <;> cases Nat.ble args.length 4294967294 <;> rfl
/-- The evaluator with contracts, quicker. -/
noncomputable def evQ (cmp : Nat → Code → Option IC) (PR : FT) (W : FF → FF) (d : Nat) : FF := Nat.rec (motive := fun _ => FF) F0 (fun _ ih => W (stepC cmp PR ih)) d
theorem evQ_eq (cmp : Nat → Code → Option IC) (PR : FT) (W : FF → FF) : ∀ d, evQ cmp PR W d = evGo cmp PR W d
  | 0 => rfl
  | d + 1 => by
    show W (stepC cmp PR (evQ cmp PR W d)) = W (stepG cmp PR (evGo cmp PR W d))
    rw [evQ_eq cmp PR W d, stepC_eq]
theorem evQ_mono (cmp : Nat → Code → Option IC) (PR : FT) {W : FF → FF} (hW : ∀ G, FF.mono G → (W G).mono) (d : Nat) : (evQ cmp PR W d).mono := by
  rw [evQ_eq]; exact evGo_mono cmp PR hW d
theorem evQ_sound {P : Program} (hP : P.follows .mixedOrders = true) {drs : List Nat} {l : List (Nat × FnI)} (hl : Listed P l) {W : FF → FF} (hM : ∀ G, FF.mono G → (W G).mono) (hW : ∀ G, FOK P G → FOK P (W G)) (d : Nat) : FOK P (evQ (fun N c => compC P drs N c) (FT.of l) W d) := by
  rw [evQ_eq]; exact evGo_sound hP hl hM hW d
end Go.Proofs.Ythgaekbcmhbbgaa.Ev
