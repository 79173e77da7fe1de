/- A calculus over the evaluator's states: pieces are run, loops go by their states, functions have contracts. -/
import Derived.Test.YtjhgingmbklhaaaEvX
import Derived.LoopN
import Derived.RangeFuncLeaves
namespace Go.Proofs.Ytjhgingmbklhaaa.Ev
set_option linter.unusedVariables false
open Go

def FreshA (g : Sig) (n : Nat) : Prop := ∀ p : Pos, n ≤ p.num → g p = none
theorem FreshA.to {g : Sig} {n : Nat} (h : FreshA g n) (m : Nat) : Fresh g n m := fun p a _ => h p a
section
variable {lim n n' : Nat} {g g' : Sig} {h h' : Hm} {w w' : World}
theorem Fr.freshA (f : Fr lim n g h w n' g' h' w') (hf : FreshA g n) : FreshA g' n' := fun p hp => by
  rw [f.sig p (.inr hp)]; exact hf p (Nat.le_trans f.le hp)
end

/-! States that know less. -/
def EnvLe (e0 e : Tr) : Prop := ∀ t, t < 4294967296 → e0.get (tp t) = .bad ∨ e0.get (tp t) = e.get (tp t)
def BlkLe (b0 b : Blk) : Prop := (b0.m = .lf ∨ b0 = b) ∧ b0.el = b.el ∧ b0.size ≤ b.size ∧ ∀ k, k < b0.size → b0.cell k = .bad ∨ b0.cell k = b.cell k
def HpLe (h0 h : Hp) : Prop := ∀ p b0, h0.get p = some b0 → ∃ b, h.get p = some b ∧ BlkLe b0 b
theorem BlkLe.refl (b : Blk) : BlkLe b b := ⟨.inr rfl, rfl, Nat.le_refl _, fun _ _ => .inr rfl⟩
theorem HpLe.refl (h : Hp) : HpLe h h := fun p b e => ⟨b, e, BlkLe.refl b⟩
theorem HpLe.lf (h : Hp) : HpLe .lf h := fun p b e => by rw [Hp.get_lf] at e; cases e
theorem EnvLe.refl (e : Tr) : EnvLe e e := fun _ _ => .inr rfl
theorem EnvLe.lf (e : Tr) : EnvLe .lf e := fun _ _ => .inl (Tr.get_lf _)
theorem EnvLe.set {e0 e : Tr} {v : V} {t : Nat} (ht : t < 4294967296) (hv : e.get (tp t) = v) (h : EnvLe e0 e) : EnvLe (e0.set v (tp t)) e := fun u hu => by
  rw [Tr.get_set]
  by_cases hut : u = t
  · subst hut; rw [if_pos rfl]; exact .inr hv.symm
  · rw [if_neg (fun e => hut (tp_inj hu ht e))]; exact h u hu
theorem EnvA.weak {N : Nat} {g : Sig} {e0 e : Tr} {a : Act} (hl : EnvLe e0 e) (h : EnvA N g e a) : EnvA N g e0 a := ⟨h.sz, h.glo, fun t ht => by
  rcases hl t ht with e1 | e1
  · rw [e1]; trivial
  · rw [e1]; exact h.rel t ht⟩
theorem Mem.weak {g : Sig} {h0 h : Hp} {w : World} (hl : HpLe h0 h) (m : Mem g h.get w) : Mem g h0.get w where
  inj := fun p q bp bq r b1 t1 b2 t2 hp hq e1 e2 => by
    obtain ⟨x, hx, _⟩ := hl p bp hp
    obtain ⟨y, hy, _⟩ := hl q bq hq
    exact m.inj p q x y r b1 t1 b2 t2 hx hy e1 e2
  blk := fun p b0 hp => by
    obtain ⟨b, hb, e0, e1, e2, e3⟩ := hl p b0 hp
    obtain ⟨r, base, tot, cur, h1, h2, h3, h4, h5, h6⟩ := m.blk p b hb
    refine ⟨r, base, tot, cur, h1, (by
      rcases e0 with e0 | e0
      · have := h2.cut (g' := g) (off := 0) e1 (by omega) h4 e0
        exact this
      · subst e0; exact h2), h3, by omega, by omega, fun k hk => ?_⟩
    obtain ⟨v, c1, c2, c3⟩ := h6 k (by omega)
    refine ⟨v, c1, c2, ?_⟩
    rcases e3 k hk with e | e
    · rw [e]; trivial
    · rw [e]; exact c3
theorem Dom.weak {h0 h : Hp} {n : Nat} (hl : HpLe h0 h) (d : Dom h.get n) : Dom h0.get n := fun p b0 hp => by
  obtain ⟨b, hb, _⟩ := hl p b0 hp
  exact d p b hb
theorem Fr.weakH {lim n n' : Nat} {g g' : Sig} {h0 h : Hp} {h' : Hm} {w w' : World} (hl : HpLe h0 h) (f : Fr lim n g h0.get w n' g' h' w') : Fr lim n g h.get w n' g' h' w' :=
  { f with
    keep := fun r hr hW => f.keep r hr fun p b0 base tot hp hlp => by
      obtain ⟨b, hb, _⟩ := hl p b0 hp
      exact hW p b base tot hb hlp
    dom := fun p b e => ⟨fun hn => by
      obtain ⟨b0, hb0⟩ := (f.dom p b e).1 hn
      obtain ⟨b', hb', _⟩ := hl p b0 hb0
      exact ⟨b', hb'⟩, (f.dom p b e).2⟩
    new := fun p r base tot a b e => (f.new p r base tot a b e).imp id fun ⟨q, b0, x, y, hq, hql, he⟩ => by
      obtain ⟨b', hb', _⟩ := hl q b0 hq
      exact ⟨q, b', x, y, hb', hql, he⟩ }
theorem Fr.weakT {lim n n' : Nat} {g g' : Sig} {h : Hm} {h0 h' : Hp} {w w' : World} (hl : HpLe h0 h') (f : Fr lim n g h w n' g' h'.get w') : Fr lim n g h w n' g' h0.get w' :=
  ⟨f.le, f.os, f.tape, f.output, f.size, f.keep, f.sig, fun p b0 e => by
    obtain ⟨b, hb, _⟩ := hl p b0 e
    exact f.dom p b hb, f.new⟩
theorem Post.weak {N lim n : Nat} {g : Sig} {h0 h : Hp} {w : World} {a : Act} (hl : HpLe h0 h) : ∀ {r : Rs} {ex : Exit} {a' : Act} {w' : World}, Post N lim g h0 w n a r ex a' w' → Post N lim g h w n a r ex a' w'
  | .nor .., _, _, _, ⟨x, k, g', y, z, f⟩ => ⟨x, k, g', y, z, f.weakH hl⟩
  | .ext .., _, _, _, ⟨x, k, g', y, z, f⟩ => ⟨x, k, g', y, z, f.weakH hl⟩
  | .ret .., _, _, _, ⟨x, k, g', y, z, f⟩ => ⟨x, k, g', y, z, f.weakH hl⟩

/-! The judgement. -/
def big : Nat := 9223372036854775808
def JQ (P : Program) (dr : List Nat) (N : Nat) (F : FF) (q : IC) (lim : Nat) (K : Rs → Prop) (e : Tr) (h : Hp) (n : Nat) : Prop :=
  ∀ c, compC P dr N c = some q → ∀ (a : Act) g w, EnvA N g e a → Mem g h.get w → Dom h.get n → FreshA g n →
    c.wp P (fun ex a' w' => ∃ r, K r ∧ r.top < big ∧ Post N lim g h w n a r ex a' w') a w
/-- What a piece comes to is something, and so. -/
def Got (K : Rs → Prop) : Rs → Prop
  | .no => False
  | .nor e h n => n < big ∧ K (.nor e h n)
  | .ext i e h n => n < big ∧ K (.ext i e h n)
  | .ret e h n => n < big ∧ K (.ret e h n)
def Kseq (J : Tr → Hp → Nat → Prop) (K : Rs → Prop) : Rs → Prop
  | .no => False
  | .nor e h n => J e h n
  | .ext i e h n => K (.ext i e h n)
  | .ret e h n => K (.ret e h n)
def Kblk (id : Nat) (K : Rs → Prop) : Rs → Prop
  | .no => False
  | .nor e h n => K (.nor e h n)
  | .ext i e h n => if i = id then K (.nor e h n) else K (.ext i e h n)
  | .ret e h n => K (.ret e h n)

section
variable {P : Program} {dr : List Nat} {N lim n : Nat} {F : FF} {q qa qb : IC} {K K' : Rs → Prop} {e e0 : Tr} {h h0 : Hp}

theorem JQ.mono (hk : ∀ r, K r → K' r) (j : JQ P dr N F q lim K e h n) : JQ P dr N F q lim K' e h n := fun c hc a g w he m hd hf =>
  wp_mono (j c hc a g w he m hd hf) fun _ _ _ ⟨r, k, t, p⟩ => ⟨r, hk r k, t, p⟩
theorem JQ.weak (h1 : EnvLe e0 e) (h2 : HpLe h0 h) (j : JQ P dr N F q lim K e0 h0 n) : JQ P dr N F q lim K e h n := fun c hc a g w he m hd hf =>
  wp_mono (j c hc a g w (he.weak h1) (m.weak h2) (Dom.weak h2 hd) hf) fun _ _ _ ⟨r, k, t, p⟩ => ⟨r, k, t, p.weak h2⟩
theorem JQ.run (hP : P.follows .mixedOrders = true) (hF : FOK P F) (hM : F.mono) (hk : Got K (evC q F lim e h n)) : JQ P dr N F q lim K e h n := fun c hc a g w he m hd hf => by
  cases hr : evC q F lim e h n with
  | no => rw [hr] at hk; exact hk.elim
  | nor e1 h1 n1 =>
    rw [hr] at hk
    exact wp_mono (wpIn_none (evC_sound hP hF hM c q hc lim e h n _ hr (by simp) a g w he m hd (hf.to _) hk.1 none (.inl rfl))) fun _ _ _ hp => ⟨_, hk.2, hk.1, hp⟩
  | ext i e1 h1 n1 =>
    rw [hr] at hk
    exact wp_mono (wpIn_none (evC_sound hP hF hM c q hc lim e h n _ hr (by simp) a g w he m hd (hf.to _) hk.1 none (.inl rfl))) fun _ _ _ hp => ⟨_, hk.2, hk.1, hp⟩
  | ret e1 h1 n1 =>
    rw [hr] at hk
    exact wp_mono (wpIn_none (evC_sound hP hF hM c q hc lim e h n _ hr (by simp) a g w he m hd (hf.to _) hk.1 none (.inl rfl))) fun _ _ _ hp => ⟨_, hk.2, hk.1, hp⟩

/-- Scopes are looked through. -/
theorem JQ.scoped (hj : ∀ c, compC P dr N c = some q → (∀ b, c ≠ .scope b) → ∀ (a : Act) g w, EnvA N g e a → Mem g h.get w → Dom h.get n → FreshA g n →
    c.wp P (fun ex a' w' => ∃ r, K r ∧ r.top < big ∧ Post N lim g h w n a r ex a' w') a w) : JQ P dr N F q lim K e h n
  | .scope b, hc, a, g, w, he, m, hd, hf => by
    refine wp_scope_straight (wp_mono (JQ.scoped hj b (by simpa only [compC] using hc) a g w he m hd hf) ?_)
    rintro ex a' w' ⟨r, k, t, p⟩
    cases r with
    | no => exact p.elim
    | nor => have hx := p.1; subst hx; exact ⟨_, k, t, p⟩
    | ext => have hx := p.1; subst hx; exact ⟨_, k, t, p⟩
    | ret => have hx := p.1; subst hx; exact ⟨_, k, t, p⟩
  | .skip, hc, a, g, w, he, m, hd, hf => hj _ hc (fun b => by simp) a g w he m hd hf
  | .region .., hc, a, g, w, he, m, hd, hf => hj _ hc (fun b => by simp) a g w he m hd hf
  | .seq .., hc, a, g, w, he, m, hd, hf => hj _ hc (fun b => by simp) a g w he m hd hf
  | .cond .., hc, a, g, w, he, m, hd, hf => hj _ hc (fun b => by simp) a g w he m hd hf
  | .block .., hc, a, g, w, he, m, hd, hf => hj _ hc (fun b => by simp) a g w he m hd hf
  | .loop .., hc, a, g, w, he, m, hd, hf => hj _ hc (fun b => by simp) a g w he m hd hf
  | .rangeFunc .., hc, a, g, w, he, m, hd, hf => hj _ hc (fun b => by simp) a g w he m hd hf
  | .exit .., hc, a, g, w, he, m, hd, hf => hj _ hc (fun b => by simp) a g w he m hd hf
  | .label .., hc, a, g, w, he, m, hd, hf => hj _ hc (fun b => by simp) a g w he m hd hf
  | .goto .., hc, a, g, w, he, m, hd, hf => hj _ hc (fun b => by simp) a g w he m hd hf
  | .ret, hc, a, g, w, he, m, hd, hf => hj _ hc (fun b => by simp) a g w he m hd hf
  | .refuse .., hc, a, g, w, he, m, hd, hf => hj _ hc (fun b => by simp) a g w he m hd hf

theorem compC_seq {c : Code} (hc : compC P dr N c = some (.seq qa qb)) (hs : ∀ b, c ≠ .scope b) : ∃ a b, c = .seq a b ∧ compC P dr N a = some qa ∧ compC P dr N b = some qb := by
  cases c with
  | seq a b =>
    simp only [compC] at hc
    split at hc
    · rename_i h1 h2; cases hc; exact ⟨a, b, rfl, h1, h2⟩
    · cases hc
  | scope b => exact absurd rfl (hs b)
  | cond => simp only [compC] at hc; split at hc <;> cases hc
  | block => simp only [compC, Option.map_eq_some_iff] at hc; obtain ⟨_, _, e⟩ := hc; cases e
  | loop => simp only [compC, Option.map_eq_some_iff] at hc; obtain ⟨_, _, e⟩ := hc; cases e
  | region id ops d => cases d <;> (simp only [compC] at hc; split at hc <;> cases hc)
  | rangeFunc => simp only [compC] at hc; split at hc <;> cases hc
  | _ => simp [compC] at hc
theorem compC_cond {x : X} {c : Code} (hc : compC P dr N c = some (.cond x qa qb)) (hs : ∀ b, c ≠ .scope b) : ∃ ox a b, c = .cond ox a b ∧ compX ox = some x ∧ compC P dr N a = some qa ∧ compC P dr N b = some qb := by
  cases c with
  | cond ox a b =>
    simp only [compC] at hc
    split at hc
    · rename_i h1 h2 h3; cases hc; exact ⟨ox, a, b, rfl, h1, h2, h3⟩
    · cases hc
  | scope b => exact absurd rfl (hs b)
  | seq => simp only [compC] at hc; split at hc <;> cases hc
  | block => simp only [compC, Option.map_eq_some_iff] at hc; obtain ⟨_, _, e⟩ := hc; cases e
  | loop => simp only [compC, Option.map_eq_some_iff] at hc; obtain ⟨_, _, e⟩ := hc; cases e
  | region id ops d => cases d <;> (simp only [compC] at hc; split at hc <;> cases hc)
  | rangeFunc => simp only [compC] at hc; split at hc <;> cases hc
  | _ => simp [compC] at hc
theorem compC_block {id : Nat} {c : Code} (hc : compC P dr N c = some (.block id qb)) (hs : ∀ b, c ≠ .scope b) : ∃ b, c = .block id b ∧ compC P dr N b = some qb := by
  cases c with
  | block i b => simp only [compC, Option.map_eq_some_iff] at hc; obtain ⟨_, h1, e⟩ := hc; cases e; exact ⟨b, rfl, h1⟩
  | scope b => exact absurd rfl (hs b)
  | seq => simp only [compC] at hc; split at hc <;> cases hc
  | cond => simp only [compC] at hc; split at hc <;> cases hc
  | loop => simp only [compC, Option.map_eq_some_iff] at hc; obtain ⟨_, _, e⟩ := hc; cases e
  | region id ops d => cases d <;> (simp only [compC] at hc; split at hc <;> cases hc)
  | rangeFunc => simp only [compC] at hc; split at hc <;> cases hc
  | _ => simp [compC] at hc
theorem compC_loop {c : Code} (hc : compC P dr N c = some (.loop qb)) (hs : ∀ b, c ≠ .scope b) : ∃ b, c = .loop b ∧ compC P dr N b = some qb := by
  cases c with
  | loop b => simp only [compC, Option.map_eq_some_iff] at hc; obtain ⟨_, h1, e⟩ := hc; cases e; exact ⟨b, rfl, h1⟩
  | scope b => exact absurd rfl (hs b)
  | seq => simp only [compC] at hc; split at hc <;> cases hc
  | cond => simp only [compC] at hc; split at hc <;> cases hc
  | block => simp only [compC, Option.map_eq_some_iff] at hc; obtain ⟨_, _, e⟩ := hc; cases e
  | region id ops d => cases d <;> (simp only [compC] at hc; split at hc <;> cases hc)
  | rangeFunc => simp only [compC] at hc; split at hc <;> cases hc
  | _ => simp [compC] at hc

theorem JQ.seq (j : JQ P dr N F qa lim (Kseq (JQ P dr N F qb lim K) K) e h n) : JQ P dr N F (.seq qa qb) lim K e h n := by
  refine JQ.scoped fun c hc hs a g w he m hd hf => ?_
  obtain ⟨x, y, rfl, h1, h2⟩ := compC_seq hc hs
  refine wp_seq (wp_mono (j x h1 a g w he m hd hf) ?_)
  rintro ex a' w' ⟨r, k, t, p⟩
  cases r with
  | no => exact p.elim
  | nor e1 h1' n1 =>
    obtain ⟨rfl, k1, g1, he1, m1, f1⟩ := p
    exact wp_mono (k y h2 a' g1 w' he1 m1 f1.dom' (f1.freshA hf)) fun _ _ _ ⟨r, k, t, p⟩ => ⟨r, k, t, p.trans k1 f1⟩
  | ext i e1 h1' n1 => obtain ⟨rfl, p⟩ := p; exact ⟨_, k, t, rfl, p⟩
  | ret e1 h1' n1 => obtain ⟨rfl, p⟩ := p; exact ⟨_, k, t, rfl, p⟩
theorem JQ.cond {x : X} {t : Bool} (hx : evX x e = .b t) (ha : t = true → JQ P dr N F qa lim K e h n) (hb : t = false → JQ P dr N F qb lim K e h n) : JQ P dr N F (.cond x qa qb) lim K e h n := by
  refine JQ.scoped fun c hc hs a g w he m hd hf => ?_
  obtain ⟨ox, y, z, rfl, h1, h2, h3⟩ := compC_cond hc hs
  have rx := he.ok ox x h1
  rw [hx, V.rel] at rx
  cases t
  · exact wp_cond_false rx (hb rfl z h3 a g w he m hd hf)
  · exact wp_cond_true rx (ha rfl y h2 a g w he m hd hf)
theorem JQ.block {id : Nat} (j : JQ P dr N F qb lim (Kblk id K) e h n) : JQ P dr N F (.block id qb) lim K e h n := by
  refine JQ.scoped fun c hc hs a g w he m hd hf => ?_
  obtain ⟨b, rfl, h1⟩ := compC_block hc hs
  refine wp_block (wp_mono (j b h1 a g w he m hd hf) ?_)
  rintro ex a' w' ⟨r, k, t, p⟩
  cases r with
  | no => exact p.elim
  | nor e1 h1' n1 => obtain ⟨rfl, p⟩ := p; exact ⟨_, k, t, rfl, p⟩
  | ext i e1 h1' n1 =>
    obtain ⟨rfl, p⟩ := p
    show if i = id then _ else _
    have k : if i = id then K (.nor e1 h1' n1) else K (.ext i e1 h1' n1) := k
    by_cases hi : i = id
    · rw [if_pos hi] at k ⊢; exact ⟨_, k, t, rfl, p⟩
    · rw [if_neg hi] at k ⊢; exact ⟨_, k, t, rfl, p⟩
  | ret e1 h1' n1 => obtain ⟨rfl, p⟩ := p; exact ⟨_, k, t, rfl, p⟩

/-- A loop by its states: each round ends in another state with a smaller measure, or leaves. -/
def Klp {σ : Type} (I : σ → Prop) (env : σ → Tr) (hp : σ → Hp) (nx : σ → Nat) (m : σ → Nat) (s : σ) (K : Rs → Prop) : Rs → Prop
  | .no => False
  | .nor e' h' n' => ∃ s', I s' ∧ m s' < m s ∧ EnvLe (env s') e' ∧ HpLe (hp s') h' ∧ nx s' = n'
  | .ext i e h n => K (.ext i e h n)
  | .ret e h n => K (.ret e h n)
theorem JQ.loop {σ : Type} (I : σ → Prop) (env : σ → Tr) (hp : σ → Hp) (nx : σ → Nat) (m : σ → Nat) (s0 : σ) (hI : I s0) (h1 : EnvLe (env s0) e) (h2 : HpLe (hp s0) h) (h3 : nx s0 = n)
    (round : ∀ s, I s → JQ P dr N F qb lim (Klp I env hp nx m s K) (env s) (hp s) (nx s)) : JQ P dr N F (.loop qb) lim K e h n := by
  subst h3
  refine JQ.weak h1 h2 (JQ.scoped fun c hc hs a g w he md hd hf => ?_)
  obtain ⟨b, rfl, hb⟩ := compC_loop hc hs
  have key : ∀ (k : Nat) (s : σ), I s → m s < k → ∀ (a1 : Act) (g1 : Sig) (w1 : World), EnvA N g1 (env s) a1 → Mem g1 (hp s).get w1 → Dom (hp s).get (nx s) → FreshA g1 (nx s) →
      Fr lim (nx s0) g (hp s0).get w (nx s) g1 (hp s).get w1 → MkK w a w1 a1 →
      Code.rounds P b (fun ex a' w' => ∃ r, K r ∧ r.top < big ∧ Post N lim g (hp s0) w (nx s0) a r ex a' w') k a1 w1 := by
    intro k
    induction k with
    | zero => intro s _ hm; omega
    | succ k ih =>
      intro s hs hm a1 g1 w1 he1 m1 hd1 hf1 f1 kk1
      rw [rounds_succ]
      refine wp_mono (round s hs b hb a1 g1 w1 he1 m1 hd1 hf1) ?_
      rintro ex a' w' ⟨r, k', t, p⟩
      cases r with
      | no => exact p.elim
      | nor e2 h2' n2 =>
        obtain ⟨rfl, k2, g2, he2, m2, f2⟩ := p
        obtain ⟨s', hI', hms, hle, hph, rfl⟩ := k'
        refine ih s' hI' (by omega) a' g2 w' (he2.weak hle) (m2.weak hph) (Dom.weak hph f2.dom') (f2.freshA hf1) ?_ (kk1.trans k2)
        exact (f1.trans f2).weakT hph
      | ext i e2 h2' n2 => obtain ⟨rfl, p⟩ := p; exact ⟨_, k', t, Post.trans kk1 f1 (r := .ext i e2 h2' n2) ⟨rfl, p⟩⟩
      | ret e2 h2' n2 => obtain ⟨rfl, p⟩ := p; exact ⟨_, k', t, Post.trans kk1 f1 (r := .ret e2 h2' n2) ⟨rfl, p⟩⟩
  exact wp_loop_rounds _ (key _ s0 hI (Nat.lt_succ_self _) a g w he md hd hf (Fr.refl hd) MkK.refl)

/-! A function. -/
def Kend (res : List RV) (Good : V → Hp → Nat → Prop) : Rs → Prop
  | .nor e h n => (evRVs e h res).known = true ∧ Good (evRes e h res) h n
  | .ret e h n => (evRVs e h res).known = true ∧ Good (evRes e h res) h n
  | _ => False
theorem JQ.fn {f : Nat} {fn : Func} {c : Code} (hfn : P.funcs[f]? = some fn) (hb : fn.body = some c) (hq : compC P dr fn.ntmps c = some q) {res : List RV} (hres : compRVs P fn.results.toList = some res)
    {args : L} (hal : args.length < 4294967296) {Good : V → Hp → Nat → Prop} (j : JQ P dr fn.ntmps F q lim (Kend res Good) (bind args 0 .lf) h n)
    {vs : List Value} {g : Sig} {w : World} (ha : args.rel g vs) (hgk : GOK g) (m : Mem g h.get w) (hd : Dom h.get n) (hf : FreshA g n) :
    Calls P f ⟨vs⟩ w fun e w' => ∃ u g' v h' n', e = .returned u ∧ Good v h' n' ∧ n' < big ∧ v.rel g' u ∧ Mem g' h'.get w' ∧ Fr lim n g h.get w n' g' h'.get w' := by
  refine callsIn_wide.1 (callsIn_of_wp_marks (F := Fence.wide) (n := 0) hfn hb trivial (wpIn_mono (wpIn_wide.2 (j c hq _ g w (env_bind hgk ha hal fn.ntmps) m hd hf)) ?_))
  have m0 : Mk w.heap.size w { tmps := (⟨vs⟩ : Array Value) ++ Array.replicate (fn.ntmps - (⟨vs⟩ : Array Value).size) undef, defers := [] } := ⟨List.nodup_nil, fun d hd => by simp at hd⟩
  rintro ex a' w' ⟨r, k, t, p⟩
  have fin : ∀ (e1 : Tr) (h1 : Hp) (n1 : Nat) (g1 : Sig), (evRVs e1 h1 res).known = true → Good (evRes e1 h1 res) h1 n1 → n1 < big → EnvA fn.ntmps g1 e1 a' → Mem g1 h1.get w' → Fr lim n g h.get w n1 g1 h1.get w' → Mk w.heap.size w' a' →
      LeavesInM Fence.wide 0 P fn a'.tmps (fun e w' => ∃ u g' v h' n', e = .returned u ∧ Good v h' n' ∧ n' < big ∧ v.rel g' u ∧ Mem g' h'.get w' ∧ Fr lim n g h.get w n' g' h'.get w') a'.defers .returning w' := by
    intro e1 h1 n1 g1 k1 k2 k3 hE m1 f1 hmk
    refine leave_marks a'.defers w' hmk.1 hmk.2 fun w2 e2 => ?_
    obtain ⟨u, r1, r2⟩ := evRes_sound hE (e2.mem m1) hres k1
    exact ⟨u, r1, u, g1, _, h1, n1, rfl, k2, k3, r2, e2.mem m1, e2.fr f1⟩
  cases r with
  | no => exact p.elim
  | nor e1 h1 n1 => obtain ⟨rfl, kk, g1, hE, m1, f1⟩ := p; exact fin e1 h1 n1 g1 k.1 k.2 t hE m1 f1 (kk.2 _ (Nat.le_refl _) m0)
  | ext => exact k.elim
  | ret e1 h1 n1 => obtain ⟨rfl, kk, g1, hE, m1, f1⟩ := p; exact fin e1 h1 n1 g1 k.1 k.2 t hE m1 f1 (kk.2 _ (Nat.le_refl _) m0)
end

/-! Values without places. -/
mutual
def V.pur : V → Bool
  | .p .. | .sl .. | .mp .. | .yl .. | .lp .. => false
  | .ag l | .tu l => l.pur
  | .fn _ a c => a.pur && c.pur
  | .ifc _ v => v.pur
  | _ => true
def L.pur : L → Bool
  | .nil => true
  | .cons v l => v.pur && l.pur
end
mutual
theorem V.pur_rel {g g' : Sig} : ∀ {v : V} {u : Value}, v.pur = true → v.rel g u → v.rel g' u
  | .bad, _, _, _ => trivial
  | .n _, _, _, h => by simpa [V.rel] using h
  | .i .., _, _, h => by simpa [V.rel] using h
  | .b _, _, _, h => by simpa [V.rel] using h
  | .p .., _, p, _ => by simp [V.pur] at p
  | .np, _, _, h => by simpa [V.rel] using h
  | .sl .., _, p, _ => by simp [V.pur] at p
  | .ns, _, _, h => by simpa [V.rel] using h
  | .ag l, _, p, h => by
    rw [V.rel] at h ⊢
    obtain ⟨vs, h1, h2⟩ := h
    exact ⟨vs, h1, L.pur_rel (by simpa [V.pur] using p) h2⟩
  | .tu l, _, p, h => by
    rw [V.rel] at h ⊢
    obtain ⟨vs, h1, h2⟩ := h
    exact ⟨vs, h1, L.pur_rel (by simpa [V.pur] using p) h2⟩
  | .fn f a c, _, p, h => by
    rw [V.rel] at h ⊢
    obtain ⟨va, vc, h1, h2, h3⟩ := h
    simp [V.pur] at p
    exact ⟨va, vc, h1, L.pur_rel p.1 h2, L.pur_rel p.2 h3⟩
  | .nf, _, _, h => by simpa [V.rel] using h
  | .s _, _, _, h => by simpa [V.rel] using h
  | .ifc t v, _, p, h => by
    rw [V.rel] at h ⊢
    obtain ⟨u, h1, h2⟩ := h
    exact ⟨u, h1, V.pur_rel (by simpa [V.pur] using p) h2⟩
  | .nif, _, _, h => by simpa [V.rel] using h
  | .mp .., _, p, _ => by simp [V.pur] at p
  | .nm, _, _, h => by simpa [V.rel] using h
  | .yl .., _, p, _ => by simp [V.pur] at p
  | .lp .., _, p, _ => by simp [V.pur] at p
theorem L.pur_rel {g g' : Sig} : ∀ {l : L} {vs : List Value}, l.pur = true → l.rel g vs → l.rel g' vs
  | .nil, _, _, h => by simpa [L.rel] using h
  | .cons v l, _, p, h => by
    rw [L.rel] at h ⊢
    simp [L.pur] at p
    obtain ⟨u, us, h1, h2, h3⟩ := h
    exact ⟨u, us, h1, V.pur_rel p.1 h2, L.pur_rel p.2 h3⟩
end

/-- A function of plain values with a plain result, run by itself. -/
theorem pureC {P : Program} {dr : List Nat} {F : FF} {q : IC} {f : Nat} {fn : Func} {c : Code} (hfn : P.funcs[f]? = some fn) (hnm : (fn.name == "runtime.NumGoroutine") = false) (hb : fn.body = some c) (hq : compC P dr fn.ntmps c = some q)
    {res : List RV} (hres : compRVs P fn.results.toList = some res) {args : L} (hal : args.length < 4294967296) (hpa : args.pur = true) {v : V} (hpv : v.pur = true)
    (j : JQ P dr fn.ntmps F q 256 (Kend res fun v' _ _ => v' = v) (bind args 0 .lf) .lf 256) (lim : Nat) (h : Hp) (n : Nat) : CallsOK P f args lim h n v h n := by
  intro vs g w ha hgk m hd hf hn
  refine ⟨⟨fn, hfn, hnm, by rw [hb]; rfl⟩, ?_⟩
  have h0 : ∀ p, (Hp.get p .lf) = none := Hp.get_lf
  have hgr : GOK (fun p => if p.num ≤ 255 then g p else none) := fun k hk => by
    obtain ⟨tot, e⟩ := hgk k hk
    refine ⟨tot, ?_⟩
    have := num_posF 63 (k + 1) (by omega) (by unfold gK at hk; omega)
    show (if (posF 63 (k + 1)).num ≤ 255 then _ else _) = _
    rw [this, if_pos (by unfold gK at hk; omega)]; exact e
  refine (JQ.fn hfn hb hq hres hal j (g := fun p => if p.num ≤ 255 then g p else none) (w := w) (L.pur_rel hpa ha) hgr ⟨fun p q bp bq _ _ _ _ _ hp => ?_, fun p b hp => ?_⟩ (fun p b hp => ?_) (fun p hp => if_neg (by omega))).mono ?_
  · have := (h0 _).symm.trans hp; cases this
  · have := (h0 _).symm.trans hp; cases this
  · have := (h0 _).symm.trans hp; cases this
  · rintro e w' ⟨u, g', v', h', n', rfl, rfl, _, hv, _, f⟩
    have keep : ∀ r, r < w.heap.size → w'.heap[r]? = w.heap[r]? := fun r hr => f.keep r hr fun p b base tot hp => by
      have := (h0 _).symm.trans hp; cases this
    refine ⟨u, g, rfl, V.pur_rel hpv hv, ⟨m.inj, fun p b hp => ?_⟩, ?_⟩
    · obtain ⟨r, base, tot, cur, c1, c2, c3, c4, c5, c6⟩ := m.blk p b hp
      exact ⟨r, base, tot, cur, c1, c2.keep (keep r (m.lt hp c1)), c3, c4, c5, c6⟩
    · exact { le := Nat.le_refl _, os := f.os, tape := f.tape, output := f.output, size := f.size, keep := fun r hr _ => keep r hr, sig := fun _ _ => rfl,
              dom := fun p b e => ⟨fun _ => ⟨b, e⟩, hd p b e⟩, new := fun _ _ _ _ a b => by omega }
end Go.Proofs.Ytjhgingmbklhaaa.Ev
