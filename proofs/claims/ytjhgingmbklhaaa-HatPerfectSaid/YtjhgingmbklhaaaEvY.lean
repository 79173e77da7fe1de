/- Structs and arrays compared: the model answers as the evaluator. -/
import Derived.Test.YtjhgingmbklhaaaEvK
import Derived.Laws.StructEq
namespace Go.Proofs.Ytjhgingmbklhaaa.Ev
set_option linter.unusedVariables false
open Go

mutual
inductive Sh where
  | int | bool | st (fs : ShL) | ar (len sz : Nat) (agg : Bool) (e : Sh)
inductive ShL where
  | nil | cons (off sz : Nat) (agg : Bool) (sh : Sh) (l : ShL)
end

noncomputable def andV (r : V) (z : V) : V := onB r (fun t => Bool.rec (.b false) z t) .bad
noncomputable def eqAr (f : V → V → V) (sz : Nat) (agg : Bool) (l m : L) : Nat → Nat → V
  | 0, _ => .b true
  | k + 1, i => andV (f (partV (i * sz) sz agg l) (partV (i * sz) sz agg m)) (eqAr f sz agg l m k (i + 1))
mutual
noncomputable def eqSh : Sh → V → V → V
  | .int, x, y => binV .eql x y
  | .bool, x, y => onB x (fun a => onB y (fun b => fB (a == b)) .bad) .bad
  | .st fs, x, y => onA x (fun l => onA y (fun m => eqFs fs l m) .bad) .bad
  | .ar len sz agg e, x, y => onA x (fun l => onA y (fun m => eqAr (eqSh e) sz agg l m len 0) .bad) .bad
noncomputable def eqFs : ShL → L → L → V
  | .nil, _, _ => .b true
  | .cons off sz agg sh fs, l, m => andV (eqSh sh (partV off sz agg l) (partV off sz agg m)) (eqFs fs l m)
end

def compFs (P : Program) (c : TypeId → Option Sh) : List Field → Option ShL
  | [] => some .nil
  | f :: fs => if f.name = "_" then compFs P c fs else match P.info? f.type, P_isAgg P f.type, c f.type, compFs P c fs with
    | some i, some agg, some sh, some l => some (.cons f.offset i.size agg sh l)
    | _, _, _, _ => none
def compSh (P : Program) : Nat → TypeId → Option Sh
  | 0, _ => none
  | f + 1, t => match P.underlying t with
    | some (.int _) => some .int
    | some .bool => some .bool
    | some (.struct fs) => if P.stoodInHeld t = true then none else (compFs P (compSh P f) fs.toList).map .st
    | some (.array len el) => match P.info? el, P_isAgg P el, compSh P f el with
      | some i, some agg, some sh => some (.ar len i.size agg sh)
      | _, _, _ => none
    | _ => none

theorem andV_b {r z : V} {t : Bool} (h : andV r z = .b t) : (r = .b false ∧ t = false) ∨ (r = .b true ∧ z = .b t) := by
  unfold andV at h
  cases r <;> dsimp only [onB, V.asB] at h
  case b x => cases x
              · cases h; exact .inl ⟨rfl, rfl⟩
              · exact .inr ⟨rfl, h⟩
  all_goals cases h

theorem binEq_ints {g : Sig} {x y : V} {a b : Value} (ha : x.rel g a) (hb : y.rel g b) {r : Bool} (h : binV .eql x y = .b r) : ∃ k p q, a = .int k p ∧ b = .int k q ∧ r = (p == q) := by
  have slow : slowB .eql x y = .b r → ∃ k p q, a = .int k p ∧ b = .int k q ∧ r = (p == q) := by
    intro h
    have h : onK x (fun k a => onK y (fun k' b => if k = k' then slowI .eql k a b else .bad) .bad) .bad = .b r := h
    rcases onK_or ha (fun k a => onK y (fun k' b => if k = k' then slowI .eql k a b else .bad) .bad) .bad with ⟨k, z, rfl, e⟩ | e
    · rw [e] at h
      rcases onK_or hb (fun k' b => if k = k' then slowI .eql k z b else .bad) .bad with ⟨k', z', rfl, e'⟩ | e'
      · rw [e'] at h
        split at h
        · rename_i hk
          subst hk
          have h : fB (z == z') = .b r := h
          rw [fB_eq] at h
          cases h
          exact ⟨k, z, z', rfl, rfl, rfl⟩
        · cases h
      · rw [e'] at h; cases h
    · rw [e] at h; cases h
  have h : onNN x y (fun a b => fB (Nat.beq a b)) (slowB .eql x y) = .b r := (binV_eq .eql x y).symm.trans h
  unfold onNN at h
  rcases onN_or x (fun a => onN y (fun b => fB (Nat.beq a b)) (slowB .eql x y)) (slowB .eql x y) with ⟨p, hp, e⟩ | e
  · rw [e] at h
    rcases onN_or y (fun b => fB (Nat.beq p b)) (slowB .eql x y) with ⟨q, hq, e'⟩ | e'
    · rw [e', fB_eq] at h
      cases h
      rw [hp, V.rel] at ha
      rw [hq, V.rel] at hb
      refine ⟨.i64, p, q, ha.1, hb.1, ?_⟩
      rw [Bool.eq_iff_iff]; simp [Nat.beq_eq]; omega
    · rw [e'] at h; exact slow h
  · rw [e] at h; exact slow h

section
variable {P : Program} {w : World} {g : Sig}

theorem eqSh_ne {sh : Sh} {x y : V} {r : Bool} (h : eqSh sh x y = .b r) : x ≠ .bad ∧ y ≠ .bad := by
  have h1 : ∀ y, binV .eql .bad y = .bad := fun y => rfl
  have h2 : ∀ x, binV .eql x .bad = .bad := fun x => by rw [binV_eq]; cases x <;> rfl
  constructor
  · rintro rfl
    cases sh <;> rw [eqSh] at h
    · rw [h1] at h; cases h
    all_goals cases h
  · rintro rfl
    cases sh <;> rw [eqSh] at h
    · rw [h2] at h; cases h
    all_goals (cases x <;> cases h)

/-- What is said of a shape at a depth. -/
def ShOK (P : Program) (w : World) (g : Sig) (f : Nat) (t : TypeId) (sh : Sh) : Prop := ∀ d, f ≤ d → ∀ x y a b r, V.rel g x a → V.rel g y b → eqSh sh x y = .b r → (Op.equalIn d t a b).run P w = .ok r w

theorem eqFs_sound {f d : Nat} (hfd : f ≤ d) {c : TypeId → Option Sh} (hc : ∀ t sh, c t = some sh → ShOK P w g f t sh) {l m : L} {xs ys : List Value} (hl : l.rel g xs) (hm : m.rel g ys) : ∀ (fs : List Field) (q : ShL), compFs P c fs = some q → ∀ r, eqFs q l m = .b r →
    (Op.eqFields d ⟨xs⟩ ⟨ys⟩ fs).run P w = .ok r w
  | [], q, h, r, he => by
    simp only [compFs, Option.some.injEq] at h
    subst h
    rw [eqFs] at he
    cases he; rfl
  | fl :: fs, q, h, r, he => by
    rw [compFs] at h
    rw [Op.eqFields]
    split at h
    · rename_i hn
      rw [if_neg (by simpa using hn)]
      exact eqFs_sound hfd hc hl hm fs q h r he
    · rename_i hn
      rw [if_pos hn]
      split at h
      case h_2 => cases h
      rename_i i agg sh q' h1 h2 h3 h4
      cases h
      rw [eqFs] at he
      have one : ∀ s, eqSh sh (partV fl.offset i.size agg l) (partV fl.offset i.size agg m) = .b s → ∃ a b, (part fl.type ⟨xs⟩ fl.offset).run P w = .ok a w ∧ (part fl.type ⟨ys⟩ fl.offset).run P w = .ok b w ∧ (Op.equalIn d fl.type a b).run P w = .ok s w := by
        intro s hs
        obtain ⟨n1, n2⟩ := eqSh_ne hs
        obtain ⟨a, a1, a2⟩ := partV_run h1 h2 hl fl.offset w n1
        obtain ⟨b, b1, b2⟩ := partV_run h1 h2 hm fl.offset w n2
        exact ⟨a, b, a1, b1, hc _ _ h3 d hfd _ _ a b s a2 b2 hs⟩
      rcases andV_b he with ⟨e1, rfl⟩ | ⟨e1, e2⟩
      · obtain ⟨a, b, r1, r2, r3⟩ := one _ e1
        simp only [Sem.run_bind, r1, r2, r3, Result.andThen_ok]
        rfl
      · obtain ⟨a, b, r1, r2, r3⟩ := one _ e1
        simp only [Sem.run_bind, r1, r2, r3, Result.andThen_ok]
        exact eqFs_sound hfd hc hl hm fs q' h4 r e2

theorem run_loopB (body : Nat → Sem Bool) {sz : Nat} {agg : Bool} {sh : Sh} {l m : L} (hb : ∀ i s, eqSh sh (partV (i * sz) sz agg l) (partV (i * sz) sz agg m) = .b s → (body i).run P w = .ok s w) : ∀ (k i : Nat) (r : Bool), eqAr (eqSh sh) sz agg l m k i = .b r →
    (forIn (List.range' i k) ((none : Option Bool), ()) (fun i __s => do
            let __do_lift ← body i
            if __do_lift = false then pure (ForInStep.done (some false, ())) else pure (ForInStep.yield (none, ()))) : Sem (Option Bool × Unit)).run P w = .ok (if r then (none, ()) else (some false, ())) w
  | 0, i, r, h => by rw [eqAr] at h; cases h; rfl
  | k + 1, i, r, h => by
    rw [eqAr] at h
    rw [List.range'_succ, List.forIn_cons]
    rcases andV_b h with ⟨e1, rfl⟩ | ⟨e1, e2⟩
    · simp only [Sem.run_bind, hb i _ e1, Result.andThen_ok]
      rfl
    · simp only [Sem.run_bind, hb i _ e1, Result.andThen_ok]
      exact run_loopB body hb k (i + 1) r e2

theorem compSh_sound : ∀ (f : Nat) (t : TypeId) (sh : Sh), compSh P f t = some sh → ShOK P w g f t sh
  | 0, t, sh, h => by cases h
  | f + 1, t, sh, h => by
    intro d hd x y a b r ha hb he
    obtain ⟨d, rfl⟩ : ∃ d', d = d' + 1 := ⟨d - 1, by omega⟩
    rw [compSh] at h
    split at h
    · rename_i k hk
      cases h
      rw [eqSh] at he
      obtain ⟨k', p, q, rfl, rfl, rfl⟩ := binEq_ints ha hb he
      exact run_equalIn_int w d t k' k p q hk
    · rename_i hk
      cases h
      rw [eqSh] at he
      rcases onB_or x (fun a => onB y (fun b => fB (a == b)) .bad) .bad with ⟨p, hp, e⟩ | e
      · rw [e] at he
        rcases onB_or y (fun b => fB (p == b)) .bad with ⟨q, hq, e2⟩ | e2
        · rw [e2, fB_eq] at he
          cases he
          rw [hp, V.rel] at ha
          rw [hq, V.rel] at hb
          subst ha hb
          exact run_equalIn_bool' w d t p q hk
        · rw [e2] at he; cases he
      · rw [e] at he; cases he
    · rename_i fs hk
      split at h
      · cases h
      · rename_i hst
        rw [Option.map_eq_some_iff] at h
        obtain ⟨q, hq, rfl⟩ := h
        rw [eqSh] at he
        rcases onA_or x (fun l => onA y (fun m => eqFs q l m) .bad) .bad with ⟨l, hl, e⟩ | e
        · rw [e] at he
          rcases onA_or y (fun m => eqFs q l m) .bad with ⟨m, hm, e2⟩ | e2
          · rw [e2] at he
            rw [hl, V.rel] at ha
            rw [hm, V.rel] at hb
            obtain ⟨xs, rfl, hxs⟩ := ha
            obtain ⟨ys, rfl, hys⟩ := hb
            have hF : P.fieldsOf t = fs := by simp [Program.fieldsOf, hk]
            rw [run_equalIn_struct w d t ⟨xs⟩ ⟨ys⟩ (by rw [hF]; exact hk) (by simpa using hst), hF]
            exact eqFs_sound (by omega) (fun t sh h => compSh_sound f t sh h) hxs hys fs.toList q hq r he
          · rw [e2] at he; cases he
        · rw [e] at he; cases he
    · rename_i len el hk
      split at h
      case h_2 => cases h
      rename_i i agg sh' h1 h2 h3
      cases h
      rw [eqSh] at he
      rcases onA_or x (fun l => onA y (fun m => eqAr (eqSh sh') i.size agg l m len 0) .bad) .bad with ⟨l, hl, e⟩ | e
      · rw [e] at he
        rcases onA_or y (fun m => eqAr (eqSh sh') i.size agg l m len 0) .bad with ⟨m, hm, e2⟩ | e2
        · rw [e2] at he
          rw [hl, V.rel] at ha
          rw [hm, V.rel] at hb
          obtain ⟨xs, rfl, hxs⟩ := ha
          obtain ⟨ys, rfl, hys⟩ := hb
          have hl := run_loopB (P := P) (w := w) (fun j => do Op.equalIn d el (← part el ⟨xs⟩ (j * i.size)) (← part el ⟨ys⟩ (j * i.size))) (fun j s hs => by
            obtain ⟨n1, n2⟩ := eqSh_ne hs
            obtain ⟨a, a1, a2⟩ := partV_run h1 h2 hxs (j * i.size) w n1
            obtain ⟨b, b1, b2⟩ := partV_run h1 h2 hys (j * i.size) w n2
            simp only [Sem.run_bind, a1, b1, Result.andThen_ok]
            exact compSh_sound f el sh' h3 d (by omega) _ _ a b s a2 b2 hs) len 0 r he
          simp only [Op.equalIn, Sem.run_bind, run_underlying hk, Result.andThen_ok, sizeOf, typeInfo, run_program, h1, Sem.run_pure]
          simp only [bind_assoc] at hl
          simp
          rw [hl]; cases r <;> rfl
        · rw [e2] at he; cases he
      · rw [e] at he; cases he
    · cases h
variable {o : Oper}
noncomputable def negV (neg : Bool) (v : V) : V := onB v (fun t => Bool.rec (fB t) (Bool.rec (.b true) (.b false) t) neg) .bad
noncomputable def evEqa (neg : Bool) (sh : Sh) (x y : X) (e : Tr) (_ : Nat) (h : Hp) (n : Nat) : Res := pv (negV neg (eqSh sh (evX x e) (evX y e))) h n
theorem ok_eqa {neg : Bool} {t t' : TypeId} {sh : Sh} {ox oy : Operand} {x y : X} (hx : compX ox = some x) (hy : compX oy = some y) (ht : (∃ fs, P.underlying t = some (.struct fs)) ∨ ∃ len el, P.underlying t = some (.array len el)) (hs : compSh P 20 t = some sh)
    (hg : P.eqGuardType P.depth t = false) (ho : o.op = .binOp (if neg then .neq else .eql) t ox oy t') : OpOK P o (evEqa neg sh x y) :=
  ok_pure (val := fun e => negV neg (eqSh sh (evX x e) (evX y e))) fun e g ρ w he hne => by
    have rx := he ox x hx
    have ry := he oy y hy
    unfold negV at hne ⊢
    rcases onB_or (eqSh sh (evX x e) (evX y e)) (fun t => (Bool.rec (fB t) (Bool.rec (.b true) (.b false) t) neg : V)) .bad with ⟨r, h1, h2⟩ | h2
    · rw [h2]
      have hrun := compSh_sound (P := P) (w := w) (g := g) 20 t sh hs 10000 (by omega) _ _ _ _ r rx ry h1
      have hagg : ∃ xs ys, ρ ox = .agg xs ∧ ρ oy = .agg ys := by
        have hcase : (∃ q, sh = .st q) ∨ ∃ a b c d, sh = .ar a b c d := by
          rw [compSh] at hs
          rcases ht with ⟨fs, hf⟩ | ⟨len, el, hf⟩ <;> rw [hf] at hs <;> dsimp only at hs
          · split at hs
            · cases hs
            · rw [Option.map_eq_some_iff] at hs
              obtain ⟨q, _, rfl⟩ := hs
              exact .inl ⟨q, rfl⟩
          · split at hs
            · cases hs; exact .inr ⟨_, _, _, _, rfl⟩
            · cases hs
        have : ∃ l m, evX x e = .ag l ∧ evX y e = .ag m := by
          rcases hcase with ⟨q, rfl⟩ | ⟨a, b, c, d, rfl⟩ <;> rw [eqSh] at h1
          all_goals
            cases hxv : evX x e <;> rw [hxv] at h1 <;> dsimp only [onA, V.asA] at h1
            case ag l =>
              cases hyv : evX y e <;> rw [hyv] at h1 <;> dsimp only [onA, V.asA] at h1
              case ag m => exact ⟨l, m, rfl, rfl⟩
              all_goals cases h1
            all_goals cases h1
        obtain ⟨l, m, e1, e2⟩ := this
        rw [e1, V.rel] at rx
        rw [e2, V.rel] at ry
        obtain ⟨xs, h3, _⟩ := rx
        obtain ⟨ys, h4, _⟩ := ry
        exact ⟨_, _, h3, h4⟩
      obtain ⟨xs, ys, hxs, hys⟩ := hagg
      rw [hxs, hys] at hrun
      cases neg
      · have ho : o.op = .binOp .eql t ox oy t' := ho
        refine ⟨.bool r, ?_, by show V.rel g (fB r) _; rw [fB_eq]; rfl⟩
        simp only [execOp, ho, hxs, hys, Sem.run_bind, run_eqGuard_agg w .eql t ox oy xs ys hg, run_eql_struct, hrun, Result.andThen_ok, Sem.run_pure]
      · have ho : o.op = .binOp .neq t ox oy t' := ho
        refine ⟨.bool (!r), ?_, by cases r <;> rfl⟩
        simp only [execOp, ho, hxs, hys, Sem.run_bind, run_eqGuard_agg w .neq t ox oy xs ys hg, run_neq_struct, hrun, Result.andThen_ok, Sem.run_pure]
    · rw [h2] at hne; exact absurd rfl hne


/-! Against nil. -/
noncomputable def nilEq (x y : V) : V := onS (β := V) x (fun _ _ _ _ _ => onS (β := V) y (fun _ _ _ _ _ => .bad) (.b false) .bad) (onS (β := V) y (fun _ _ _ _ _ => .b false) (.b true) .bad) .bad
theorem nilEq_sound {x y : V} {a b : Value} (ha : x.rel g a) (hb : y.rel g b) {r : Bool} (h : nilEq x y = .b r) :
    ∃ p n c q n' c', a = .slice p n c ∧ b = .slice q n' c' ∧ ((p = none ∧ r = q.isNone) ∨ (q = none ∧ r = p.isNone)) := by
  unfold nilEq at h
  rcases onS_or x (fun _ _ _ _ (_ : Option Nat) => onS (β := V) y (fun _ _ _ _ _ => .bad) (.b false) .bad) (onS (β := V) y (fun _ _ _ _ _ => .b false) (.b true) .bad) .bad with ⟨a1, o1, e1, l1, c1, hx, e⟩ | ⟨hx, e⟩ | e
  · rw [e] at h
    rcases onS_or y (fun _ _ _ _ (_ : Option Nat) => (.bad : V)) (.b false) .bad with ⟨a2, o2, e2, l2, c2, hy, e'⟩ | ⟨hy, e'⟩ | e'
    · rw [e'] at h; cases h
    · rw [e'] at h
      cases h
      rw [hx] at ha
      rw [hy, V.rel] at hb
      obtain ⟨p, c, hv, _⟩ := sl_len ha
      exact ⟨_, _, _, _, _, _, hv, hb, .inr ⟨rfl, rfl⟩⟩
    · rw [e'] at h; cases h
  · rw [e] at h
    rw [hx, V.rel] at ha
    rcases onS_or y (fun _ _ _ _ (_ : Option Nat) => (.b false : V)) (.b true) .bad with ⟨a2, o2, e2, l2, c2, hy, e'⟩ | ⟨hy, e'⟩ | e'
    · rw [e'] at h
      cases h
      rw [hy] at hb
      obtain ⟨p, c, hv, _⟩ := sl_len hb
      exact ⟨_, _, _, _, _, _, ha, hv, .inl ⟨rfl, rfl⟩⟩
    · rw [e'] at h
      cases h
      rw [hy, V.rel] at hb
      exact ⟨_, _, _, _, _, _, ha, hb, .inl ⟨rfl, rfl⟩⟩
    · rw [e'] at h; cases h
  · rw [e] at h; cases h
theorem run_nilSl {t el : TypeId} (ht : P.underlying t = some (.slice el)) (d : Nat) {p q : Option Addr} {n c n' c' : Nat} {r : Bool} (h : (p = none ∧ r = q.isNone) ∨ (q = none ∧ r = p.isNone)) :
    (Op.equalIn (d + 1) t (.slice p n c) (.slice q n' c')).run P w = .ok r w := by
  rcases h with ⟨rfl, rfl⟩ | ⟨rfl, rfl⟩
  · simp [Op.equalIn, run_underlying ht]
  · cases p <;> simp [Op.equalIn, run_underlying ht]
noncomputable def evEqn (neg : Bool) (x y : X) (e : Tr) (_ : Nat) (h : Hp) (n : Nat) : Res := pv (negV neg (nilEq (evX x e) (evX y e))) h n
theorem ok_eqn {neg : Bool} {t t' el : TypeId} {ox oy : Operand} {x y : X} (hx : compX ox = some x) (hy : compX oy = some y) (ht : P.underlying t = some (.slice el)) (ho : o.op = .binOp (if neg then .neq else .eql) t ox oy t') : OpOK P o (evEqn neg x y) :=
  ok_pure (val := fun e => negV neg (nilEq (evX x e) (evX y e))) fun e g ρ w he hne => by
    unfold negV at hne ⊢
    rcases onB_or (nilEq (evX x e) (evX y e)) (fun t => (Bool.rec (fB t) (Bool.rec (.b true) (.b false) t) neg : V)) .bad with ⟨r, h1, h2⟩ | h2
    · rw [h2]
      obtain ⟨p, n, c, q, n', c', hv1, hv2, hr⟩ := nilEq_sound (he ox x hx) (he oy y hy) h1
      have hrun := run_nilSl (P := P) (w := w) ht 9999 (n := n) (c := c) (n' := n') (c' := c') hr
      have hg : ∀ op, (eqGuard op t ox oy (.slice p n c) (.slice q n' c')).run P w = .ok () w := fun op => by rw [eqGuard_at_slice]; rfl
      have hb1 : (binOp .eql t (.slice p n c) (.slice q n' c')).run P w = ((Op.equalIn 10000 t (.slice p n c) (.slice q n' c')).run P w).andThen fun b w' => .ok (.bool b) w' := by
        have : binOp .eql t (.slice p n c) (.slice q n' c') = (do pure (.bool (← Op.equal t (.slice p n c) (.slice q n' c')))) := rfl
        rw [this, Sem.run_bind]; rfl
      have hb2 : (binOp .neq t (.slice p n c) (.slice q n' c')).run P w = ((Op.equalIn 10000 t (.slice p n c) (.slice q n' c')).run P w).andThen fun b w' => .ok (.bool !b) w' := by
        have : binOp .neq t (.slice p n c) (.slice q n' c') = (do pure (.bool (!(← Op.equal t (.slice p n c) (.slice q n' c'))))) := rfl
        rw [this, Sem.run_bind]; rfl
      cases neg
      · have ho : o.op = .binOp .eql t ox oy t' := ho
        refine ⟨.bool r, ?_, by show V.rel g (fB r) _; rw [fB_eq]; rfl⟩
        simp only [execOp, ho, hv1, hv2, Sem.run_bind, hg, hb1, hrun, Result.andThen_ok, Sem.run_pure]
      · have ho : o.op = .binOp .neq t ox oy t' := ho
        refine ⟨.bool (!r), ?_, by cases r <;> rfl⟩
        simp only [execOp, ho, hv1, hv2, Sem.run_bind, hg, hb2, hrun, Result.andThen_ok, Sem.run_pure]
    · rw [h2] at hne; exact absurd rfl hne
end
end Go.Proofs.Ytjhgingmbklhaaa.Ev
