/- Code and functions. -/
import Derived.Test.YtkdbgkibifigiaaEvW
import Derived.Scope
namespace Go.Proofs.Ytkdbgkibifigiaa.Ev
set_option linter.unusedVariables false
open Go

inductive IC where
  | skip | ret | exit (id : Nat) | seq (a b : IC) | cond (x : X) (a b : IC) | block (id : Nat) (b : IC) | loop (b : IC) | reg (l : RL) | draw (l : DR) | nope
inductive Rs where
  | no | nor (e : Tr) (h : Hp) (n : Nat) | ext (id : Nat) (e : Tr) (h : Hp) (n : Nat) | ret (e : Tr) (h : Hp) (n : Nat)

noncomputable def rgRs (r : Rg) : Rs := Rg.rec (motive := fun _ => Rs) .no (fun e h n => .nor e h n) r
noncomputable def evSeq (ra rb : FF → Nat → Tr → Hp → Nat → Rs) (F : FF) (lim : Nat) (e : Tr) (h : Hp) (n : Nat) : Rs :=
  Rs.rec (motive := fun _ => Rs) .no (fun e h n => rb F lim e h n) (fun id e h n => .ext id e h n) (fun e h n => .ret e h n) (ra F lim e h n)
noncomputable def evCond (x : X) (ra rb : FF → Nat → Tr → Hp → Nat → Rs) (F : FF) (lim : Nat) (e : Tr) (h : Hp) (n : Nat) : Rs :=
  onB (evX x e) (fun t => Bool.rec (rb F lim e h n) (ra F lim e h n) t) .no
noncomputable def evBlock (id : Nat) (rb : FF → Nat → Tr → Hp → Nat → Rs) (F : FF) (lim : Nat) (e : Tr) (h : Hp) (n : Nat) : Rs :=
  Rs.rec (motive := fun _ => Rs) .no (fun e h n => .nor e h n) (fun i e h n => Bool.rec (.ext i e h n) (.nor e h n) (Nat.beq i id)) (fun e h n => .ret e h n) (rb F lim e h n)
noncomputable def rep (r : Tr → Hp → Nat → Rs) (k : Nat) : Tr → Hp → Nat → Rs :=
  Nat.rec (motive := fun _ => Tr → Hp → Nat → Rs) r (fun _ ih e h n => Rs.rec (motive := fun _ => Rs) .no (fun e h n => ih e h n) (fun id e h n => .ext id e h n) (fun e h n => .ret e h n) (ih e h n)) k
noncomputable def evLoop (rb : FF → Nat → Tr → Hp → Nat → Rs) (F : FF) (lim : Nat) (e : Tr) (h : Hp) (n : Nat) : Rs :=
  Rs.rec (motive := fun _ => Rs) .no (fun _ _ _ => .no) (fun id e h n => .ext id e h n) (fun e h n => .ret e h n) (rep (rb F lim) 20 e h n)
noncomputable def evC : IC → FF → Nat → Tr → Hp → Nat → Rs :=
  IC.rec (motive := fun _ => FF → Nat → Tr → Hp → Nat → Rs) (fun _ _ e h n => .nor e h n) (fun _ _ e h n => .ret e h n) (fun id _ _ e h n => .ext id e h n)
    (fun _ _ ra rb => evSeq ra rb) (fun x _ _ ra rb => evCond x ra rb) (fun id _ rb => evBlock id rb) (fun _ rb => evLoop rb) (fun l F lim e h n => rgRs (evR l F lim e h n)) (fun l F lim e h n => rgRs (evDr l F lim e h n)) (fun _ _ _ _ _ => .no)

def Rs.ge (n : Nat) : Rs → Prop
  | .no => True
  | .nor _ _ k | .ext _ _ _ k | .ret _ _ k => n ≤ k
theorem Rs.ge_mono {n m : Nat} (h : n ≤ m) : ∀ {r : Rs}, r.ge m → r.ge n
  | .no, _ => trivial
  | .nor .., e => Nat.le_trans h e
  | .ext .., e => Nat.le_trans h e
  | .ret .., e => Nat.le_trans h e
theorem ge_rgRs {n : Nat} {r : Rg} (h : r.ge n) : (rgRs r).ge n := by cases r <;> exact h
theorem ge_rep {r : Tr → Hp → Nat → Rs} (hr : ∀ e h n, (r e h n).ge n) : ∀ (k : Nat) (e : Tr) (h : Hp) (n : Nat), (rep r k e h n).ge n
  | 0, e, h, n => hr e h n
  | k + 1, e, h, n => by
    have h1 := ge_rep hr k e h n
    show (Rs.rec (motive := fun _ => Rs) .no (fun e h n => rep r k e h n) (fun id e h n => .ext id e h n) (fun e h n => .ret e h n) (rep r k e h n)).ge n
    cases he : rep r k e h n with
    | no => trivial
    | nor e1 h2 n1 => rw [he] at h1; exact Rs.ge_mono h1 (ge_rep hr k e1 h2 n1)
    | ext => rw [he] at h1; exact h1
    | ret => rw [he] at h1; exact h1
theorem evC_ge {F : FF} (hF : F.mono) : ∀ (c : IC) (lim : Nat) (e : Tr) (h : Hp) (n : Nat), (evC c F lim e h n).ge n
  | .skip, _, _, _, n => Nat.le_refl n
  | .ret, _, _, _, n => Nat.le_refl n
  | .exit _, _, _, _, n => Nat.le_refl n
  | .seq a b, lim, e, h, n => by
    have h1 := evC_ge hF a lim e h n
    show (evSeq (evC a) (evC b) F lim e h n).ge n
    unfold evSeq
    cases he : evC a F lim e h n with
    | no => trivial
    | nor e1 h2 n1 => rw [he] at h1; exact Rs.ge_mono h1 (evC_ge hF b lim e1 h2 n1)
    | ext => rw [he] at h1; exact h1
    | ret => rw [he] at h1; exact h1
  | .cond x a b, lim, e, h, n => by
    show (evCond x (evC a) (evC b) F lim e h n).ge n
    unfold evCond
    cases evX x e
    case b t => cases t <;> exact evC_ge hF _ lim e h n
    all_goals trivial
  | .block id b, lim, e, h, n => by
    have h1 := evC_ge hF b lim e h n
    show (evBlock id (evC b) F lim e h n).ge n
    unfold evBlock
    cases he : evC b F lim e h n with
    | no => trivial
    | nor => rw [he] at h1; exact h1
    | ext i e1 h2 n1 =>
      rw [he] at h1
      show (Bool.rec (.ext i e1 h2 n1) (.nor e1 h2 n1) (Nat.beq i id) : Rs).ge n
      cases Nat.beq i id <;> exact h1
    | ret => rw [he] at h1; exact h1
  | .loop b, lim, e, h, n => by
    have h1 := ge_rep (fun e h n => evC_ge hF b lim e h n) 20 e h n
    show (evLoop (evC b) F lim e h n).ge n
    unfold evLoop
    cases he : rep (evC b F lim) 20 e h n with
    | no => trivial
    | nor => trivial
    | ext => rw [he] at h1; exact h1
    | ret => rw [he] at h1; exact h1
  | .nope, _, _, _, _ => trivial
  | .reg l, lim, e, h, n => ge_rgRs (evR_ge hF l lim e h n)
  | .draw l, lim, e, h, n => ge_rgRs (evDr_ge hF l lim e h n)

/-! From code to code. -/
def compC (P : Program) (dr : List Nat) (N : Nat) : Code → Option IC
  | .skip => some .skip
  | .ret => some .ret
  | .exit id => some (.exit id)
  | .seq a b => match compC P dr N a, compC P dr N b with
    | some a, some b => some (.seq a b)
    | _, _ => none
  | .cond x a b => match compX x, compC P dr N a, compC P dr N b with
    | some x, some a, some b => some (.cond x a b)
    | _, _, _ => none
  | .block id b => (compC P dr N b).map (.block id)
  | .loop b => (compC P dr N b).map .loop
  | .region _ ops false => match compR P N ops ops.toList with
    | some r => some (.reg r)
    | none => some .nope
  | .region _ ops true => match compDr P N dr ops with
    | some r => some (.draw r)
    | none => some .nope
  | .scope b => compC P dr N b
  | .label _ => some .skip
  | _ => some .nope

/-- What a piece of code leaves. -/
def Post (N lim : Nat) (g : Sig) (h : Hp) (w : World) (n : Nat) : Rs → Exit → Act → World → Prop
  | .no, _, _, _ => False
  | .nor e' h' n', ex, a', w' => ex = .normal ∧ ∃ g', EnvA N g' e' a' ∧ Mem g' h'.get w' ∧ Fr lim n g h.get w n' g' h'.get w'
  | .ext id e' h' n', ex, a', w' => ex = .exit id ∧ ∃ g', EnvA N g' e' a' ∧ Mem g' h'.get w' ∧ Fr lim n g h.get w n' g' h'.get w'
  | .ret e' h' n', ex, a', w' => ex = .ret ∧ ∃ g', EnvA N g' e' a' ∧ Mem g' h'.get w' ∧ Fr lim n g h.get w n' g' h'.get w'
def Rs.top : Rs → Nat
  | .no => 0
  | .nor _ _ k | .ext _ _ _ k | .ret _ _ k => k
theorem Post.trans {N lim : Nat} {g g1 : Sig} {h h1 : Hp} {w w1 : World} {n n1 : Nat} (f : Fr lim n g h.get w n1 g1 h1.get w1) : ∀ {r : Rs} {ex : Exit} {a' : Act} {w' : World}, Post N lim g1 h1 w1 n1 r ex a' w' → Post N lim g h w n r ex a' w'
  | .nor .., _, _, _, ⟨x, g', y, z, f'⟩ => ⟨x, g', y, z, f.trans f'⟩
  | .ext .., _, _, _, ⟨x, g', y, z, f'⟩ => ⟨x, g', y, z, f.trans f'⟩
  | .ret .., _, _, _, ⟨x, g', y, z, f'⟩ => ⟨x, g', y, z, f.trans f'⟩

def Sound (P : Program) (F : FF) (N : Nat) (c : Code) (q : IC) : Prop :=
  ∀ lim e h n r, evC q F lim e h n = r → r ≠ .no → ∀ (a : Act) g w, EnvA N g e a → Mem g h.get w → Dom h.get n → Fresh g n r.top → r.top < 9223372036854775808 → c.wp P (Post N lim g h w n r) a w

theorem evC_sound {P : Program} (hP : P.follows .mixedOrders = true) {F : FF} (hF : FOK P F) (hM : F.mono) {dr : List Nat} {N : Nat} : ∀ (c : Code) (q : IC), compC P dr N c = some q → Sound P F N c q
  | .skip, q, hc => by
    simp only [compC, Option.some.injEq] at hc; subst hc
    intro lim e h n r hr hne a g w he m hd hf hn
    subst hr
    exact wp_skip ⟨rfl, g, he, m, Fr.refl hd⟩
  | .ret, q, hc => by
    simp only [compC, Option.some.injEq] at hc; subst hc
    intro lim e h n r hr hne a g w he m hd hf hn
    subst hr
    exact wp_ret ⟨rfl, g, he, m, Fr.refl hd⟩
  | .exit id, q, hc => by
    simp only [compC, Option.some.injEq] at hc; subst hc
    intro lim e h n r hr hne a g w he m hd hf hn
    subst hr
    exact wp_exit ⟨rfl, g, he, m, Fr.refl hd⟩
  | .seq a b, q, hc => by
    simp only [compC] at hc
    split at hc
    case h_2 => cases hc
    rename_i qa qb h1 h2
    cases hc
    intro lim e h n r hr hne ac g w he m hd hf hn
    have hr : evSeq (evC qa) (evC qb) F lim e h n = r := hr
    unfold evSeq at hr
    refine wp_seq ?_
    cases hx : evC qa F lim e h n with
    | no => rw [hx] at hr; exact absurd hr.symm hne
    | nor e1 h1' n1 =>
      rw [hx] at hr
      have hr : evC qb F lim e1 h1' n1 = r := hr
      have hg1 : n ≤ n1 := by have := evC_ge hM qa lim e h n; rw [hx] at this; exact this
      have hg2 : n1 ≤ r.top := by
        have := evC_ge hM qb lim e1 h1' n1; rw [hr] at this
        cases r <;> first | exact absurd rfl hne | exact this
      refine wp_mono (evC_sound hP hF hM a qa h1 lim e h n _ hx (by simp) ac g w he m hd (hf.sub (Nat.le_refl _) hg2) (Nat.lt_of_le_of_lt hg2 hn)) ?_
      rintro ex a' w' ⟨rfl, g1, he1, m1, f1⟩
      exact wp_mono (evC_sound hP hF hM b qb h2 lim e1 h1' n1 r hr hne a' g1 w' he1 m1 f1.dom' (f1.fresh hf) hn) fun _ _ _ hp => hp.trans f1
    | ext id e1 h1' n1 =>
      rw [hx] at hr
      have hr : Rs.ext id e1 h1' n1 = r := hr
      subst hr
      refine wp_mono (evC_sound hP hF hM a qa h1 lim e h n _ hx (by simp) ac g w he m hd hf hn) ?_
      rintro ex a' w' ⟨rfl, hp⟩
      exact ⟨rfl, hp⟩
    | ret e1 h1' n1 =>
      rw [hx] at hr
      have hr : Rs.ret e1 h1' n1 = r := hr
      subst hr
      refine wp_mono (evC_sound hP hF hM a qa h1 lim e h n _ hx (by simp) ac g w he m hd hf hn) ?_
      rintro ex a' w' ⟨rfl, hp⟩
      exact ⟨rfl, hp⟩
  | .cond x a b, q, hc => by
    simp only [compC] at hc
    split at hc
    case h_2 => cases hc
    rename_i x' qa qb hx h1 h2
    cases hc
    intro lim e h n r hr hne ac g w he m hd hf hn
    have hr : evCond x' (evC qa) (evC qb) F lim e h n = r := hr
    unfold evCond at hr
    have rx := he.ok x x' hx
    cases hxv : evX x' e <;> rw [hxv] at hr rx <;> dsimp only [onB] at hr
    case b t =>
      rw [V.rel] at rx
      cases t
      · exact wp_cond_false rx (evC_sound hP hF hM b qb h2 lim e h n r hr hne ac g w he m hd hf hn)
      · exact wp_cond_true rx (evC_sound hP hF hM a qa h1 lim e h n r hr hne ac g w he m hd hf hn)
    all_goals exact absurd hr.symm hne
  | .block id b, q, hc => by
    simp only [compC, Option.map_eq_some_iff] at hc
    obtain ⟨qb, h1, rfl⟩ := hc
    intro lim e h n r hr hne ac g w he m hd hf hn
    have hr : evBlock id (evC qb) F lim e h n = r := hr
    unfold evBlock at hr
    refine wp_block ?_
    cases hx : evC qb F lim e h n with
    | no => rw [hx] at hr; exact absurd hr.symm hne
    | nor e1 h1' n1 =>
      rw [hx] at hr
      have hr : Rs.nor e1 h1' n1 = r := hr
      subst hr
      refine wp_mono (evC_sound hP hF hM b qb h1 lim e h n _ hx (by simp) ac g w he m hd hf hn) ?_
      rintro ex a' w' ⟨rfl, hp⟩
      exact ⟨rfl, hp⟩
    | ext i e1 h1' n1 =>
      rw [hx] at hr
      have hr : (Bool.rec (.ext i e1 h1' n1) (.nor e1 h1' n1) (Nat.beq i id) : Rs) = r := hr
      cases hb : Nat.beq i id
      · rw [hb] at hr
        have hr : Rs.ext i e1 h1' n1 = r := hr
        subst hr
        refine wp_mono (evC_sound hP hF hM b qb h1 lim e h n _ hx (by simp) ac g w he m hd hf hn) ?_
        rintro ex a' w' ⟨rfl, hp⟩
        have : i ≠ id := by intro e; subst e; simp at hb
        show if i = id then _ else _
        rw [if_neg this]
        exact ⟨rfl, hp⟩
      · rw [hb] at hr
        have hr : Rs.nor e1 h1' n1 = r := hr
        subst hr
        refine wp_mono (evC_sound hP hF hM b qb h1 lim e h n _ hx (by simp) ac g w he m hd hf hn) ?_
        rintro ex a' w' ⟨rfl, hp⟩
        rw [Nat.beq_eq] at hb
        show if i = id then _ else _
        rw [if_pos hb]
        exact ⟨rfl, hp⟩
    | ret e1 h1' n1 =>
      rw [hx] at hr
      have hr : Rs.ret e1 h1' n1 = r := hr
      subst hr
      refine wp_mono (evC_sound hP hF hM b qb h1 lim e h n _ hx (by simp) ac g w he m hd hf hn) ?_
      rintro ex a' w' ⟨rfl, hp⟩
      exact ⟨rfl, hp⟩
  | .loop b, q, hc => by
    simp only [compC, Option.map_eq_some_iff] at hc
    obtain ⟨qb, h1, rfl⟩ := hc
    have ih := evC_sound hP hF hM b qb h1
    intro lim e h n r hr hne ac g w he m hd hf hn
    have hr : evLoop (evC qb) F lim e h n = r := hr
    unfold evLoop at hr
    intro fb k cs
    -- at the head of the round: what some rounds lead to
    have key : ∀ (j : Nat) (e : Tr) (h : Hp) (n : Nat) (r : Rs), rep (evC qb F lim) j e h n = r → r ≠ .no → ∀ (ac : Act) (g : Sig) (w : World), EnvA N g e ac → Mem g h.get w → Dom h.get n → Fresh g n r.top → r.top < 9223372036854775808 →
        ∃ ex a' w', Post N lim g h w n r ex a' w' ∧ (ex = .normal → Steps P (lone (fb.at ac (.code b :: .inLoop b :: k)) cs w) (lone (fb.at a' (.code b :: .inLoop b :: k)) cs w')) ∧
          (ex ≠ .normal → Arrives P (lone (fb.at ac (.code b :: .inLoop b :: k)) cs w) fb k cs ex a' w') := by
      intro j
      induction j with
      | zero =>
        intro e h n r hr hne ac g w he m hd hf hn
        obtain ⟨ex, a', w', hp, harr⟩ := ih lim e h n r hr hne ac g w he m hd hf hn fb (.inLoop b :: k) cs
        refine ⟨ex, a', w', hp, fun hx => ?_, fun hx => .pass (x := .inLoop b) rfl (fun _ _ => .inl hx) harr⟩
        subst hx
        exact Steps.trans harr (.one step_inLoop)
      | succ j ihj =>
        intro e h n r hr hne ac g w he m hd hf hn
        have hr : (Rs.rec (motive := fun _ => Rs) .no (fun e h n => rep (evC qb F lim) j e h n) (fun id e h n => .ext id e h n) (fun e h n => .ret e h n) (rep (evC qb F lim) j e h n)) = r := hr
        cases hx : rep (evC qb F lim) j e h n with
        | no => rw [hx] at hr; exact absurd hr.symm hne
        | nor e1 h1' n1 =>
          rw [hx] at hr
          have hr : rep (evC qb F lim) j e1 h1' n1 = r := hr
          have hg2 : n1 ≤ r.top := by
            have := ge_rep (fun e h n => evC_ge hM qb lim e h n) j e1 h1' n1; rw [hr] at this
            cases r <;> first | exact absurd rfl hne | exact this
          obtain ⟨ex, a1, w1, ⟨hex, g1, he1, m1, f1⟩, hs, _⟩ := ihj e h n _ hx (by simp) ac g w he m hd (hf.sub (Nat.le_refl _) hg2) (Nat.lt_of_le_of_lt hg2 hn)
          obtain ⟨ex2, a2, w2, hp2, hs2, ha2⟩ := ihj e1 h1' n1 r hr hne a1 g1 w1 he1 m1 f1.dom' (f1.fresh hf) hn
          exact ⟨ex2, a2, w2, hp2.trans f1, fun hx => (hs hex).trans (hs2 hx), fun hx => .of_steps (hs hex) (ha2 hx)⟩
        | ext id e1 h1' n1 =>
          rw [hx] at hr
          have hr : Rs.ext id e1 h1' n1 = r := hr
          subst hr
          exact ihj e h n _ hx (by simp) ac g w he m hd hf hn
        | ret e1 h1' n1 =>
          rw [hx] at hr
          have hr : Rs.ret e1 h1' n1 = r := hr
          subst hr
          exact ihj e h n _ hx (by simp) ac g w he m hd hf hn
    cases hx : rep (evC qb F lim) 20 e h n with
    | no => rw [hx] at hr; exact absurd hr.symm hne
    | nor => rw [hx] at hr; exact absurd hr.symm hne
    | ext id e1 h1' n1 =>
      rw [hx] at hr
      have hr : Rs.ext id e1 h1' n1 = r := hr
      subst hr
      obtain ⟨ex, a', w', hp, _, ha⟩ := key 20 e h n _ hx (by simp) ac g w he m hd hf hn
      refine ⟨ex, a', w', hp, .of_steps (.one step_loop) (ha ?_)⟩
      rw [hp.1]; simp
    | ret e1 h1' n1 =>
      rw [hx] at hr
      have hr : Rs.ret e1 h1' n1 = r := hr
      subst hr
      obtain ⟨ex, a', w', hp, _, ha⟩ := key 20 e h n _ hx (by simp) ac g w he m hd hf hn
      refine ⟨ex, a', w', hp, .of_steps (.one step_loop) (ha ?_)⟩
      rw [hp.1]; simp
  | .region id ops false, q, hc => by
    rw [compC] at hc
    split at hc
    case h_2 => cases hc; intro lim e h n r hr hne; exact absurd hr.symm hne
    rename_i rl h1
    cases hc
    intro lim e h n r hr hne ac g w he m hd hf hn
    have hr : rgRs (evR rl F lim e h n) = r := hr
    cases hx : evR rl F lim e h n with
    | no => rw [hx] at hr; exact absurd hr.symm hne
    | ok e' h' n' =>
      rw [hx] at hr
      have hr : Rs.nor e' h' n' = r := hr
      subst hr
      exact reg_sound hF hM h1 hx he m hd hf hn
  | .region id ops true, q, hc => by
    rw [compC] at hc
    split at hc
    case h_2 => cases hc; intro lim e h n r hr hne; exact absurd hr.symm hne
    rename_i rl h1
    cases hc
    intro lim e h n r hr hne ac g w he m hd hf hn
    have hr : rgRs (evDr rl F lim e h n) = r := hr
    cases hx : evDr rl F lim e h n with
    | no => rw [hx] at hr; exact absurd hr.symm hne
    | ok e' h' n' =>
      rw [hx] at hr
      have hr : Rs.nor e' h' n' = r := hr
      subst hr
      exact draw_sound hP hF hM h1 hx he m hd hf hn
  | .rangeFunc .., q, hc => by
    simp only [compC, Option.some.injEq] at hc; subst hc
    intro lim e h n r hr hne; exact absurd hr.symm hne
  | .scope b, q, hc => by
    simp only [compC] at hc
    intro lim e h n r hr hne a g w he m hd hf hn
    refine wp_scope_straight (wp_mono (evC_sound hP hF hM b q hc lim e h n r hr hne a g w he m hd hf hn) ?_)
    intro ex a' w' hp
    cases r with
    | no => exact hp.elim
    | nor => obtain ⟨rfl, hp⟩ := hp; exact ⟨rfl, hp⟩
    | ext => obtain ⟨rfl, hp⟩ := hp; exact ⟨rfl, hp⟩
    | ret => obtain ⟨rfl, hp⟩ := hp; exact ⟨rfl, hp⟩
  | .label _, q, hc => by
    simp only [compC, Option.some.injEq] at hc; subst hc
    intro lim e h n r hr hne a g w he m hd hf hn
    subst hr
    exact wp_label ⟨rfl, g, he, m, Fr.refl hd⟩
  | .goto _, q, hc => by
    simp only [compC, Option.some.injEq] at hc; subst hc
    intro lim e h n r hr hne; exact absurd hr.symm hne
  | .refuse _, q, hc => by
    simp only [compC, Option.some.injEq] at hc; subst hc
    intro lim e h n r hr hne; exact absurd hr.symm hne
end Go.Proofs.Ytkdbgkibifigiaa.Ev
