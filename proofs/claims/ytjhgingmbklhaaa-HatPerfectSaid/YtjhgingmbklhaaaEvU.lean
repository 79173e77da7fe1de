/- Regions whose order is open: any order comes to the same. -/
import Derived.Test.YtjhgingmbklhaaaEvT
namespace Go.Proofs.Ytjhgingmbklhaaa.Ev
set_option linter.unusedVariables false
open Go
variable {Df : List Deferred}

def AN (D : Nat → DO) (i j : Nat) : Prop := j < i ∧ bitL (D i).an i j

structure DrawOK (P : Program) (N : Nat) (ops : Array Oper) (D : Nat → DO) : Prop where
  comp : ∀ i o, ops[i]? = some o → compD N o.dst = some (D i).dst ∧ compG N ops o.guard = some (D i).gd ∧ compO P o = some (D i).o
  k5 : ∀ i o, ops[i]? = some o → ∀ e ∈ o.after.toList, Region.binds .any e = true → e.on < i
  k1 : ∀ i o, ops[i]? = some o → ∀ j, AN D i j → ∃ e ∈ o.after.toList, Region.binds .any e = true ∧ (e.on = j ∨ AN D e.on j)
  k2 : ∀ i j, i < ops.size → j < ops.size → i ≠ j → ∀ p, (D i).dst = some p → (D j).dst ≠ some p
  k3 : ∀ i j, i < ops.size → j < ops.size → j ≠ i → ∀ p ∈ (D i).ts, (D j).dst = some p → AN D i j ∨ AN D j i
  k4 : ∀ i j, i < j → j < ops.size → (D i).pu = false → ∀ a ∈ (D j).st, AN D j i ∨ (a ∈ (D i).us ∧ ∀ k, k < ops.size → (D k).dst ≠ some a) ∨ ((D i).rd ≠ [] ∧ ∀ a ∈ (D i).rd, a ∈ (D j).nd ∧ ∀ k, i ≤ k → k < j → (D k).dst ≠ some a)
  k6 : ∀ i j, i < j → j < ops.size → (D i).pu = false → (D j).ef = true → AN D j i ∨ ((D i).rd ≠ [] ∧ ∀ a ∈ (D i).rd, a ∈ (D j).nd ∧ ∀ k, i ≤ k → k < j → (D k).dst ≠ some a)

theorem step_inv {d : DO} {F : FF} {lim : Nat} {acc : List Dl} {e : Tr} {S : Hp} {n : Nat} {v : V} {dl : Dl} {n' : Nat} (h : stepD d F lim acc e S n = .ok v dl n') (hl : lim ≤ n) (h1 : 1 ≤ n) (hn : n' < 9223372036854775808) (hge : n ≤ n') :
    ∃ b, baseOf d acc e S = some b ∧
      ((∃ p w, d.gd = some (p, w) ∧ ((∃ x, (restr e d.ts).get p = .b x ∧ x ≠ w) ∨ (restr e d.ts).get p = .tu .nil) ∧ v = .tu .nil ∧ dl = .nil ∧ n' = n) ∨
       ((d.gd = none ∨ ∃ p w, d.gd = some (p, w) ∧ (restr e d.ts).get p = .b w) ∧ ∃ limi b' h', d.o.ev F (restr e d.ts) limi b' n = .ok v h' n' ∧ (∀ p x, b'.get p = some x → b.get p = some x) ∧ lim ≤ limi ∧
          (∀ p, dl.has p → dl.look p = h'.get p ∧ ((n ≤ p.num ∧ p.num < n') ∨ (∃ x, b'.get p = some x) ∧ ((∃ a ∈ d.st, blkOf ((restr e d.ts).get a) = some (some p)) ∨ d.ef = true))) ∧
          (∀ p x, b'.get p = some x → limi ≤ p.num → p.num < n → dl.has p ∨ h'.get p = some x))) := by
  have run : ∀ b, runD d F lim b (restr e d.ts) n = .ok v dl n' → ∃ limi b' h', d.o.ev F (restr e d.ts) limi b' n = .ok v h' n' ∧ (∀ p x, b'.get p = some x → b.get p = some x) ∧ lim ≤ limi ∧
          (∀ p, dl.has p → dl.look p = h'.get p ∧ ((n ≤ p.num ∧ p.num < n') ∨ (∃ x, b'.get p = some x) ∧ ((∃ a ∈ d.st, blkOf ((restr e d.ts).get a) = some (some p)) ∨ d.ef = true))) ∧
          (∀ p x, b'.get p = some x → limi ≤ p.num → p.num < n → dl.has p ∨ h'.get p = some x) := by
    intro b h
    unfold runD at h
    split at h
    · rename_i hef
      unfold efD at h
      have hrc : rchOK b lim (rch b 100000 (posS (restr e d.ts) d.ts) (glB b lim d.gl) []) := rch_ok b lim _ _ _ _ ⟨fun p y hp => ⟨(glB_get b lim _ p y hp).1, .inr (glB_get b lim _ p y hp).2⟩, by simp⟩
      split at h
      · rename_i v2 h2 n2 hev
        cases h
        refine ⟨lim, _, h2, hev, fun p y hy => (hrc.1 p y hy).1, Nat.le_refl _, fun p hp => ?_, fun p y hy hl1 _ => ?_⟩
        · rcases (keysL_has (h := h2) (z := if d.fr = true then coll h2 n (n' - n) else .nil) (p := p) _).1 hp with ⟨k1, k2⟩ | ⟨k1, hz⟩
          · exact ⟨k1, .inr ⟨hrc.2 p k2, .inr hef⟩⟩
          · rw [k1]
            by_cases hfr : d.fr = true
            · rw [if_pos hfr] at hz ⊢
              obtain ⟨c1, c2, c3⟩ := coll_has h2 (n' - n) n p h1 (by omega) hz
              exact ⟨c3, .inl ⟨c1, by omega⟩⟩
            · rw [if_neg hfr] at hz; exact hz.elim
        · rcases (hrc.1 p y hy).2 with hm | hm
          · rcases (keysL_has _).2 hm with k1 | ⟨x, k1, k2⟩
            · exact .inl k1
            · rw [hy] at k1; cases k1; exact .inr k2
          · omega
      · cases h
    split at h
    · split at h
      · rename_i v2 h2 n2 hev
        cases h
        refine ⟨n, b, h2, hev, fun _ _ x => x, hl, fun p hp => ?_, fun p x _ h3 h4 => by omega⟩
        by_cases hfr : d.fr = true
        · rw [if_pos hfr] at hp ⊢
          obtain ⟨c1, c2, c3⟩ := coll_has h2 (n' - n) n p h1 (by omega) hp
          exact ⟨c3, .inl ⟨c1, by omega⟩⟩
        · rw [if_neg hfr] at hp; exact hp.elim
      · cases h
    · rename_i x st hst
      split at h
      · rename_i b' hb'
        split at h
        · rename_i v2 h2 n2 hev
          cases h
          refine ⟨lim, b', h2, hev, fun p y hy => (takeB_get _ _ hb' hy).1, Nat.le_refl _, fun p hp => ?_, fun p y hy _ _ => ?_⟩
          · obtain ⟨k1, k2, k3⟩ := keysB_has (er := restr e d.ts) (h := h2) (z := if d.fr = true then coll h2 n (n' - n) else .nil) (p := p) (x :: st)
            by_cases hex : ∃ a ∈ x :: st, blkOf ((restr e d.ts).get a) = some (some p)
            · exact ⟨k2 hex, .inr ⟨takeB_has _ _ hb' hex, .inl (by rw [hst]; exact hex)⟩⟩
            · have hz := (k1.1 hp).resolve_left hex
              rw [k3 hex]
              by_cases hfr : d.fr = true
              · rw [if_pos hfr] at hz ⊢
                obtain ⟨c1, c2, c3⟩ := coll_has h2 (n' - n) n p h1 (by omega) hz
                exact ⟨c3, .inl ⟨c1, by omega⟩⟩
              · rw [if_neg hfr] at hz; exact hz.elim
          · exact .inl ((keysB_has (x :: st)).1.2 (.inl (takeB_get _ _ hb' hy).2))
        · cases h
      · cases h
  replace h := (ndC_ok h).1
  unfold stepD0 at h
  split at h
  · cases h
  · rename_i b hb
    dsimp only at h
    refine ⟨b, hb, ?_⟩
    split at h
    · rename_i hg; exact .inr ⟨.inl hg, run b h⟩
    · rename_i p w hg
      split at h
      · rename_i x hx
        split at h
        · rename_i hxw; subst hxw; exact .inr ⟨.inr ⟨p, x, hg, hx⟩, run b h⟩
        · rename_i hxw; cases h; exact .inl ⟨p, w, hg, .inl ⟨x, hx, hxw⟩, rfl, rfl, rfl⟩
      · rename_i hx; cases h; exact .inl ⟨p, w, hg, .inr hx, rfl, rfl, rfl⟩
      · cases h

def unl : List Bool → Nat
  | [] => 0
  | b :: l => (if b then 0 else 1) + unl l
theorem unl_set : ∀ (l : List Bool) (i : Nat), l[i]? = some false → unl (l.set i true) + 1 = unl l
  | [], i, h => by simp at h
  | b :: l, 0, h => by simp at h; subst h; simp [unl]; omega
  | b :: l, i + 1, h => by
    have := unl_set l i (by simpa using h)
    simp only [List.set_cons_succ, unl]; omega
theorem unl_zero : ∀ (l : List Bool), unl l = 0 → ∀ i, i < l.length → l[i]? = some true
  | [], _, i, h => by simp at h
  | b :: l, h, 0, _ => by cases b <;> simp_all [unl]
  | b :: l, h, i + 1, hi => by
    have := unl_zero l (by simp [unl] at h; omega) i (by simpa using hi)
    simpa using this
theorem unl_rep : ∀ n, unl (List.replicate n false) = n
  | 0 => rfl
  | n + 1 => by simp [List.replicate_succ, unl, unl_rep n]; omega

/-- What is done. -/
def LS (listed : Array Bool) (i : Nat) : Prop := listed[i]? = some true

section
variable {P : Program} {N : Nat} {ops : Array Oper} {D : Nat → DO} {F : FF} {lim : Nat} {e0 : Tr} {S : Hp} {v : Nat → V} {d : Nat → Dl} {ns : Nat → Nat}

/-- All that was worked out. -/
structure Worked (P : Program) (N : Nat) (ops : Array Oper) (D : Nat → DO) (F : FF) (lim : Nat) (e0 : Tr) (S : Hp) (v : Nat → V) (d : Nat → Dl) (ns : Nat → Nat) : Prop where
  st : DrawOK P N ops D
  step : ∀ i, i < ops.size → stepD (D i) F lim (accS d i) (envS e0 D v i) S (ns i) = .ok (v i) (d i) (ns (i + 1))
  mono : ∀ i, i < ops.size → ns i ≤ ns (i + 1)
  lim0 : lim ≤ ns 0
  one : 1 ≤ ns 0
  top : ns ops.size < 9223372036854775808
  dom : ∀ p b, S.get p = some b → p.num < ns 0

theorem Worked.le (W : Worked P N ops D F lim e0 S v d ns) : ∀ j, j ≤ ops.size → ∀ i, i ≤ j → ns i ≤ ns j
  | 0, _, i, hi => by rw [show i = 0 by omega]; exact Nat.le_refl _
  | j + 1, hj, i, hi => by
    by_cases h : i = j + 1
    · subst h; exact Nat.le_refl _
    · exact Nat.le_trans (W.le j (by omega) i (by omega)) (W.mono j (by omega))

theorem Worked.c1 (W : Worked P N ops D F lim e0 S v d ns) (i : Nat) (hi : i < ops.size) : lim ≤ ns i := Nat.le_trans W.lim0 (W.le i (by omega) 0 (by omega))
theorem Worked.c2 (W : Worked P N ops D F lim e0 S v d ns) (i : Nat) (hi : i < ops.size) : 1 ≤ ns i := Nat.le_trans W.one (W.le i (by omega) 0 (by omega))
theorem Worked.c3 (W : Worked P N ops D F lim e0 S v d ns) (i : Nat) (hi : i < ops.size) : ns (i + 1) < 9223372036854775808 := Nat.lt_of_le_of_lt (W.le ops.size (Nat.le_refl _) (i + 1) (by omega)) W.top

/-- What step i was worked out over. -/
theorem base_facts {i : Nat} {b : Hp} (hb : baseOf (D i) (accS d i) (envS e0 D v i) S = some b) {p : Pos} {x : Blk} (hx : b.get p = some x) :
    (D i).pu = false ∧ (∀ u ∈ (D i).us, blkOf ((envS e0 D v i).get u) ≠ some (some p)) ∧ (∀ j, j < i → ¬ bitL (D i).an i j → ¬ (d j).has p) ∧ hLf d (bitL (D i).an i) (fun p => S.get p) i p = some x := by
  unfold baseOf at hb
  split at hb
  · cases hb; have := (Hp.get_lf p).symm.trans hx; cases this
  · rename_i hpu
    have key : ∀ b1, baseU (envS e0 D v i) (D i).us (baseR (accS d i) (D i).an (baseA (accS d i) (D i).an S)) = some b1 → b1.get p = some x → _ := fun b1 hb1 hx1 => (show
      (D i).pu = false ∧ (∀ u ∈ (D i).us, blkOf ((envS e0 D v i).get u) ≠ some (some p)) ∧ (∀ j, j < i → ¬ bitL (D i).an i j → ¬ (d j).has p) ∧ hLf d (bitL (D i).an i) (fun p => S.get p) i p = some x from by
      obtain ⟨h1, h2⟩ := baseU_get _ _ _ hb1 hx1
      obtain ⟨h3, h4⟩ := baseR_get _ _ _ h1
      rw [baseA_get] at h3
      exact ⟨by simpa using hpu, h2, h4, h3⟩)
    unfold rdX at hb
    split at hb
    · exact key b hb hx
    · split at hb
      · rename_i b1 hb1
        exact key b1 hb1 (takeB_get _ _ hb hx).1
      · cases hb
theorem base_rd {i : Nat} {b : Hp} (hb : baseOf (D i) (accS d i) (envS e0 D v i) S = some b) {p : Pos} {x : Blk} (hx : b.get p = some x) (hr : (D i).rd ≠ []) : ∃ a ∈ (D i).rd, blkOf ((envS e0 D v i).get a) = some (some p) := by
  unfold baseOf at hb
  split at hb
  · cases hb; have := (Hp.get_lf p).symm.trans hx; cases this
  · unfold rdX at hb
    split at hb
    · rename_i h; exact absurd h hr
    · rename_i a rd hrd
      split at hb
      · rw [hrd]; exact (takeB_get _ _ hb hx).2
      · cases hb

/-- Where a step turned something: at a new place, or at a place that was there, by a store. -/
theorem Worked.touch (W : Worked P N ops D F lim e0 S v d ns) {i : Nat} (hi : i < ops.size) {p : Pos} (hp : (d i).has p) :
    (ns i ≤ p.num ∧ p.num < ns (i + 1)) ∨ ∃ b, baseOf (D i) (accS d i) (envS e0 D v i) S = some b ∧ (∃ x, b.get p = some x) ∧ ((∃ a ∈ (D i).st, blkOf ((envS e0 D v i).get a) = some (some p)) ∨ (D i).ef = true) := by
  obtain ⟨b, hb, hcase⟩ := step_inv (W.step i hi) (W.c1 i hi) (W.c2 i hi) (W.c3 i hi) (W.mono i hi)
  rcases hcase with ⟨_, _, _, _, _, hdl, _⟩ | ⟨_, limi, b', h', _, hsub, _, hT, _⟩
  · rw [hdl] at hp; exact hp.elim
  · rcases (hT p hp).2 with h | ⟨⟨x, hx⟩, ⟨a, h1, h2⟩ | hef⟩
    · exact .inl h
    · refine .inr ⟨b, hb, ⟨x, hsub p x hx⟩, .inl ⟨a, h1, ?_⟩⟩
      rcases restr_get (envS e0 D v i) (D i).ts a with ⟨h3, _⟩ | h3
      · rw [← h3]; exact h2
      · rw [h3] at h2; cases h2
    · exact .inr ⟨b, hb, ⟨x, hsub p x hx⟩, .inr hef⟩

theorem Worked.base_dom (W : Worked P N ops D F lim e0 S v d ns) : ∀ (k i : Nat), i ≤ k → i < ops.size → ∀ b, baseOf (D i) (accS d i) (envS e0 D v i) S = some b → ∀ p x, b.get p = some x → p.num < ns i
  | 0, i, hk, hi, b, hb, p, x, hx => by
    obtain ⟨_, _, _, h3⟩ := base_facts hb hx
    rcases hLf_some i h3 with h4 | ⟨j, h4, _⟩
    · rw [show i = 0 by omega]; exact W.dom p x h4
    · omega
  | k + 1, i, hk, hi, b, hb, p, x, hx => by
    obtain ⟨_, _, _, h3⟩ := base_facts hb hx
    rcases hLf_some i h3 with h4 | ⟨j, h4, _, h6⟩
    · exact Nat.lt_of_lt_of_le (W.dom p x h4) (W.le i (by omega) 0 (by omega))
    · rcases W.touch (i := j) (by omega) h6 with ⟨_, h7⟩ | ⟨b2, hb2, ⟨x2, hx2⟩, _⟩
      · exact Nat.lt_of_lt_of_le h7 (W.le i (by omega) (j + 1) (by omega))
      · exact Nat.lt_of_lt_of_le (W.base_dom k j (by omega) (by omega) b2 hb2 p x2 hx2) (W.le i (by omega) j (by omega))

/-- Who turned a place that another step made comes after that step. -/
theorem Worked.made (W : Worked P N ops D F lim e0 S v d ns) {L : Nat → Prop} (hdc : ∀ i j, L i → AN D i j → L j) {i : Nat} (hi : i < ops.size) {p : Pos} (hp1 : ns i ≤ p.num) (hp2 : p.num < ns (i + 1)) : ∀ (k j : Nat), j ≤ k → j < ops.size → L j → (d j).has p → L i
  | 0, j, hk, hj, hL, hp => by
    rcases W.touch hj hp with ⟨h1, h2⟩ | ⟨b, hb, ⟨x, hx⟩, _⟩
    · by_cases e : j = i
      · rw [← e]; exact hL
      · rcases Nat.lt_or_gt_of_ne e with e | e
        · have := W.le i (by omega) (j + 1) (by omega); omega
        · have := W.le j (by omega) (i + 1) (by omega); omega
    · obtain ⟨_, _, _, h3⟩ := base_facts hb hx
      rcases hLf_some j h3 with h4 | ⟨m, h4, _⟩
      · have := W.dom p x h4; have := W.le i (by omega) 0 (by omega); omega
      · omega
  | k + 1, j, hk, hj, hL, hp => by
    rcases W.touch hj hp with ⟨h1, h2⟩ | ⟨b, hb, ⟨x, hx⟩, _⟩
    · by_cases e : j = i
      · rw [← e]; exact hL
      · rcases Nat.lt_or_gt_of_ne e with e | e
        · have := W.le i (by omega) (j + 1) (by omega); omega
        · have := W.le j (by omega) (i + 1) (by omega); omega
    · obtain ⟨_, _, _, h3⟩ := base_facts hb hx
      rcases hLf_some j h3 with h4 | ⟨m, h4, h5, h6⟩
      · have := W.dom p x h4; have := W.le i (by omega) 0 (by omega); omega
      · exact W.made hdc hi hp1 hp2 k m (by omega) (by omega) (hdc j m hL ⟨h4, h5⟩) h6

/-- The slots: a slot that no step writes stays. -/
theorem envS_other (e0 : Tr) (D : Nat → DO) (v : Nat → V) {p : Pos} : ∀ (i : Nat), (∀ j, j < i → (D j).dst ≠ some p) → (envS e0 D v i).get p = e0.get p
  | 0, _ => rfl
  | i + 1, h => by
    rw [envS]
    have ih := envS_other e0 D v i (fun j hj => h j (by omega))
    cases hd : (D i).dst with
    | none => exact ih
    | some q =>
      show ((envS e0 D v i).set (v i) q).get p = _
      rw [Tr.get_set, if_neg (fun e => h i (by omega) (by rw [hd, e]))]; exact ih
theorem envS_stay (e0 : Tr) (D : Nat → DO) (v : Nat → V) {p : Pos} (i : Nat) : ∀ (m : Nat), (∀ k, i ≤ k → k < i + m → (D k).dst ≠ some p) → (envS e0 D v i).get p = (envS e0 D v (i + m)).get p
  | 0, _ => rfl
  | m + 1, h => by
    rw [envS_stay e0 D v i m (fun k h1 h2 => h k h1 (by omega))]
    show _ = (envS e0 D v (i + m + 1)).get p
    rw [envS]
    cases hd : (D (i + m)).dst with
    | none => rfl
    | some q =>
      show _ = ((envS e0 D v (i + m)).set (v (i + m)) q).get p
      rw [Tr.get_set, if_neg (fun e => h (i + m) (by omega) (by omega) (by rw [hd, e]))]
theorem envS_at (e0 : Tr) (D : Nat → DO) (v : Nat → V) {p : Pos} : ∀ (i j : Nat), j < i → (D j).dst = some p → (∀ k, k < i → k ≠ j → (D k).dst ≠ some p) → (envS e0 D v i).get p = v j
  | 0, j, h, _, _ => by omega
  | i + 1, j, h, hj, ho => by
    rw [envS]
    by_cases e : j = i
    · subst e
      rw [hj]
      show ((envS e0 D v j).set (v j) p).get p = _
      rw [Tr.get_set, if_pos rfl]
    · have ih := envS_at e0 D v i j (by omega) hj (fun k hk hne => ho k (by omega) hne)
      cases hd : (D i).dst with
      | none => exact ih
      | some q =>
        show ((envS e0 D v i).set (v i) q).get p = _
        rw [Tr.get_set, if_neg (fun e' => ho i (by omega) (by omega) (by rw [hd, e']))]; exact ih

/-- A place that a later step turned, which may come before: it isn't among those that step i was worked out over. -/
theorem Worked.later (W : Worked P N ops D F lim e0 S v d ns) {L : Nat → Prop} (hdc : ∀ i j, L i → AN D i j → L j) {i j : Nat} (hij : i < j) (hj : j < ops.size) (hLi : ¬ L i) (hLj : L j) {p : Pos} (hp : (d j).has p) {b : Hp}
    (hb : baseOf (D i) (accS d i) (envS e0 D v i) S = some b) {x : Blk} (hx : b.get p = some x) : False := by
  have hnum := W.base_dom i i (Nat.le_refl _) (by omega) b hb p x hx
  rcases W.touch hj hp with ⟨h1, _⟩ | ⟨bj, hbj, ⟨xj, hxj⟩, ⟨a, h1, h2⟩ | hef⟩
  · have := W.le j (by omega) i (by omega); omega
  · obtain ⟨hpu, h5, _, _⟩ := base_facts hb hx
    rcases W.st.k4 i j hij hj hpu a h1 with h3 | ⟨h3, h4⟩ | ⟨h3, h4⟩
    · exact hLi (hdc j i hLj h3)
    · refine h5 a h3 ?_
      rw [envS_other e0 D v i (fun k hk => h4 k (by omega)), ← envS_other e0 D v j (fun k hk => h4 k (by omega))]
      exact h2
    · obtain ⟨a, ha, hpa⟩ := base_rd hb hx h3
      refine (ndC_ok (W.step j hj)).2 a (h4 a ha).1 p ?_ hp
      rw [envS_stay e0 D v i (j - i) (fun k h1 h2 => (h4 a ha).2 k h1 (by omega)), show i + (j - i) = j by omega] at hpa
      exact hpa
  · obtain ⟨hpu, _, _, _⟩ := base_facts hb hx
    rcases W.st.k6 i j hij hj hpu hef with h3 | ⟨h3, h4⟩
    · exact hLi (hdc j i hLj h3)
    · obtain ⟨a, ha, hpa⟩ := base_rd hb hx h3
      refine (ndC_ok (W.step j hj)).2 a (h4 a ha).1 p ?_ hp
      rw [envS_stay e0 D v i (j - i) (fun k h1 h2 => (h4 a ha).2 k h1 (by omega)), show i + (j - i) = j by omega] at hpa
      exact hpa

/-- Step i was worked out over what is there. -/
theorem Worked.there (W : Worked P N ops D F lim e0 S v d ns) {L : Nat → Prop} (hdc : ∀ i j, L i → AN D i j → L j) {i : Nat} (hi : i < ops.size) (hLi : ¬ L i) (hr : ∀ j, AN D i j → L j) {b : Hp}
    (hb : baseOf (D i) (accS d i) (envS e0 D v i) S = some b) {p : Pos} {x : Blk} (hx : b.get p = some x) : hLf d L (fun p => S.get p) ops.size p = some x := by
  obtain ⟨_, _, h2, h3⟩ := base_facts hb hx
  have e : ops.size = i + (ops.size - i) := by omega
  rw [e, hLf_short i _ (fun j a c hc => ?_), hLf_congr (L' := bitL (D i).an i) i (fun j hj => ⟨fun ⟨l1, l2⟩ => ⟨Classical.byContradiction fun hn => h2 j hj hn l2, l2⟩, fun ⟨l1, l2⟩ => ⟨hr j ⟨hj, l1⟩, l2⟩⟩)]
  · exact h3
  · by_cases e : j = i
    · subst e; exact hLi hc.1
    · exact W.later hdc (by omega) (by omega) hLi hc.1 hc.2 hb hx

/-- What holds when the steps of L are done. -/
structure Inv (N : Nat) (Df : List Deferred) (ops : Array Oper) (D : Nat → DO) (lim : Nat) (e0 : Tr) (S : Hp) (v : Nat → V) (d : Nat → Dl) (ns : Nat → Nat) (g0 : Sig) (w0 : World) (L : Nat → Prop) (g : Sig) (a : Act) (w : World) : Prop where
  ds : a.defers = Df
  sz : N ≤ a.tmps.size
  glo : GOK g
  done : ∀ i, i < ops.size → L i → ∀ t, t < 4294967296 → (D i).dst = some (tp t) → (v i).rel g (a.tmps.getD t undef)
  old : ∀ t, t < 4294967296 → (∀ i, i < ops.size → L i → (D i).dst ≠ some (tp t)) → (e0.get (tp t)).rel g (a.tmps.getD t undef)
  mem : Mem g (hLf d L (fun p => S.get p) ops.size) w
  fr : Fr lim (ns 0) g0 (fun p => S.get p) w0 (ns ops.size) g (hLf d L (fun p => S.get p) ops.size) w
  fresh : ∀ i, i < ops.size → ¬ L i → Fresh g (ns i) (ns (i + 1))
  dc : ∀ i j, L i → AN D i j → L j

theorem Inv.env (W : Worked P N ops D F lim e0 S v d ns) {g0 : Sig} {w0 : World} {L : Nat → Prop} {g : Sig} {a : Act} {w : World} (I : Inv N Df ops D lim e0 S v d ns g0 w0 L g a w) {i : Nat} (hi : i < ops.size) (hLi : ¬ L i) (hr : ∀ j, AN D i j → L j) :
    EnvA N g (restr (envS e0 D v i) (D i).ts) a := by
  refine ⟨I.sz, I.glo, fun t ht => ?_⟩
  rcases restr_get (envS e0 D v i) (D i).ts (tp t) with ⟨h1, h2⟩ | h1
  · rw [h1]
    by_cases hex : ∃ j, j < ops.size ∧ L j ∧ (D j).dst = some (tp t)
    · obtain ⟨j, hj, hLj, hdst⟩ := hex
      have hne : j ≠ i := by intro e; subst e; exact hLi hLj
      rcases W.st.k3 i j hi hj hne (tp t) h2 hdst with h3 | h3
      · rw [envS_at e0 D v i j h3.1 hdst (fun k hk hkj => W.st.k2 j k hj (by omega) (Ne.symm hkj) _ hdst)]
        exact I.done j hj hLj t ht hdst
      · exact absurd (I.dc j i hLj h3) hLi
    · have hno : ∀ j, j < ops.size → L j → (D j).dst ≠ some (tp t) := fun j hj hL e => hex ⟨j, hj, hL, e⟩
      rw [envS_other e0 D v i (fun j hj e => ?_)]
      · exact I.old t ht hno
      · rcases W.st.k3 i j hi (by omega) (by omega) (tp t) h2 e with h3 | h3
        · exact hno j (by omega) (hr j h3) e
        · have := h3.1; omega
  · rw [h1]; trivial
end
end Go.Proofs.Ytjhgingmbklhaaa.Ev
