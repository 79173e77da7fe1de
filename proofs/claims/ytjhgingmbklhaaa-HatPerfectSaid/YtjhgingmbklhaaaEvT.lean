/- Regions whose order is open: the sequence of steps, and what is there after some of them. -/
import Derived.Test.YtjhgingmbklhaaaEvQ
namespace Go.Proofs.Ytjhgingmbklhaaa.Ev
set_option linter.unusedVariables false
open Go

instance : Inhabited DO := ⟨⟨none, none, false, [], false, [], [], [], .mv (.c .bad), false, [], [], []⟩⟩
def accS (d : Nat → Dl) : Nat → List Dl
  | 0 => []
  | i + 1 => d i :: accS d i
noncomputable def envS (e0 : Tr) (D : Nat → DO) (v : Nat → V) : Nat → Tr
  | 0 => e0
  | i + 1 => setD (D i).dst (v i) (envS e0 D v i)
theorem accS_congr {d d' : Nat → Dl} : ∀ (i : Nat), (∀ j, j < i → d j = d' j) → accS d i = accS d' i
  | 0, _ => rfl
  | i + 1, h => by rw [accS, accS, h i (by omega), accS_congr i (fun j hj => h j (by omega))]
theorem envS_congr {e0 : Tr} {D : Nat → DO} {v v' : Nat → V} : ∀ (i : Nat), (∀ j, j < i → v j = v' j) → envS e0 D v i = envS e0 D v' i
  | 0, _ => rfl
  | i + 1, h => by rw [envS, envS, h i (by omega), envS_congr i (fun j hj => h j (by omega))]

theorem trace {F : FF} {lim : Nat} {S : Hp} {e0 : Tr} {l : List DO} {e' : Tr} {h' : Hp} {n' : Nat} : ∀ (m k : Nat) (v : Nat → V) (d : Nat → Dl) (ns : Nat → Nat), k + m = l.length →
    evDs F lim S (l.drop k) (accS d k) (envS e0 (fun i => l.getD i default) v k) (ns k) = .ok e' h' n' →
    ∃ (v' : Nat → V) (d' : Nat → Dl) (ns' : Nat → Nat), (∀ i, i < k → v' i = v i ∧ d' i = d i) ∧ (∀ i, i ≤ k → ns' i = ns i) ∧
      (∀ i, k ≤ i → i < l.length → stepD (l.getD i default) F lim (accS d' i) (envS e0 (fun i => l.getD i default) v' i) S (ns' i) = .ok (v' i) (d' i) (ns' (i + 1))) ∧
      e' = envS e0 (fun i => l.getD i default) v' l.length ∧ h' = appAll (accS d' l.length) S ∧ n' = ns' l.length
  | 0, k, v, d, ns, hk, h => by
    have hk : k = l.length := by omega
    subst hk
    rw [List.drop_length] at h
    cases h
    exact ⟨v, d, ns, fun _ _ => ⟨rfl, rfl⟩, fun _ _ => rfl, fun i h1 h2 => by omega, rfl, rfl, rfl⟩
  | m + 1, k, v, d, ns, hk, h => by
    have hlt : k < l.length := by omega
    rw [List.drop_eq_getElem_cons hlt] at h
    have hD : l[k] = l.getD k default := by simp [List.getD, List.getElem?_eq_getElem hlt]
    rw [hD] at h
    have h : (match stepD (l.getD k default) F lim (accS d k) (envS e0 (fun i => l.getD i default) v k) S (ns k) with | .ok v1 dl n1 => evDs F lim S (l.drop (k + 1)) (dl :: accS d k) (setD (l.getD k default).dst v1 (envS e0 (fun i => l.getD i default) v k)) n1 | .no => Rg.no) = .ok e' h' n' := h
    cases hs : stepD (l.getD k default) F lim (accS d k) (envS e0 (fun i => l.getD i default) v k) S (ns k) with
    | no => rw [hs] at h; cases h
    | ok v1 dl n1 =>
      rw [hs] at h
      have h : evDs F lim S (l.drop (k + 1)) (dl :: accS d k) (setD (l.getD k default).dst v1 (envS e0 (fun i => l.getD i default) v k)) n1 = .ok e' h' n' := h
      have eA : accS (fun i => if i = k then dl else d i) (k + 1) = dl :: accS d k := by
        rw [accS]
        simp only [if_true]
        rw [accS_congr k (d' := d) (fun j hj => by rw [if_neg (by omega)])]
      have eE : envS e0 (fun i => l.getD i default) (fun i => if i = k then v1 else v i) (k + 1) = setD (l.getD k default).dst v1 (envS e0 (fun i => l.getD i default) v k) := by
        rw [envS]
        simp only [if_true]
        rw [envS_congr k (v' := v) (fun j hj => by rw [if_neg (by omega)])]
      obtain ⟨v', d', ns', h1, h2, h3, h4, h5, h6⟩ := trace (F := F) (lim := lim) (S := S) (e0 := e0) (l := l) m (k + 1) (fun i => if i = k then v1 else v i) (fun i => if i = k then dl else d i) (fun i => if i = k + 1 then n1 else ns i) (by omega) (by rw [eA, eE]; simpa using h)
      refine ⟨v', d', ns', fun i hi => ?_, fun i hi => ?_, fun i hi hil => ?_, h4, h5, h6⟩
      · have := h1 i (by omega)
        rw [if_neg (by omega), if_neg (by omega)] at this
        exact this
      · have := h2 i (by omega)
        rw [if_neg (by omega)] at this
        exact this
      · by_cases he : i = k
        · subst he
          have a1 := h1 i (by omega)
          rw [if_pos rfl, if_pos rfl] at a1
          have a2 := h2 i (by omega)
          rw [if_neg (by omega)] at a2
          have a3 := h2 (i + 1) (by omega)
          rw [if_pos rfl] at a3
          rw [a1.1, a1.2, a2, a3]
          have c1 : accS d' i = accS d i := accS_congr i fun j hj => by
            have := (h1 j (by omega)).2; rw [if_neg (by omega)] at this; exact this
          have c2 : envS e0 (fun i => l.getD i default) v' i = envS e0 (fun i => l.getD i default) v i := envS_congr i fun j hj => by
            have := (h1 j (by omega)).1; rw [if_neg (by omega)] at this; exact this
          rw [c1, c2]; exact hs
        · exact h3 i (by omega) hil

/-! What is there after some of the steps. -/
open Classical in
noncomputable def hLf (d : Nat → Dl) (L : Nat → Prop) (S : Hm) : Nat → Hm
  | 0 => S
  | k + 1 => fun p => if L k ∧ (d k).has p then (d k).look p else hLf d L S k p

section
variable {d : Nat → Dl} {L L' : Nat → Prop} {S : Hm} {p : Pos}
open Classical in
theorem hLf_pos {k : Nat} (h : L k ∧ (d k).has p) : hLf d L S (k + 1) p = (d k).look p := by
  show (if L k ∧ (d k).has p then _ else _) = _
  rw [if_pos h]
open Classical in
theorem hLf_neg {k : Nat} (h : ¬ (L k ∧ (d k).has p)) : hLf d L S (k + 1) p = hLf d L S k p := by
  show (if L k ∧ (d k).has p then _ else _) = _
  rw [if_neg h]
theorem hLf_congr : ∀ (k : Nat), (∀ j, j < k → ((L j ∧ (d j).has p) ↔ (L' j ∧ (d j).has p))) → hLf d L S k p = hLf d L' S k p
  | 0, _ => rfl
  | k + 1, h => by
    have h1 := h k (by omega)
    have h2 := hLf_congr k (fun j hj => h j (by omega))
    by_cases hc : L k ∧ (d k).has p
    · rw [hLf_pos hc, hLf_pos (h1.1 hc)]
    · rw [hLf_neg hc, hLf_neg (fun x => hc (h1.2 x)), h2]
theorem hLf_short (i : Nat) : ∀ (m : Nat), (∀ j, i ≤ j → j < i + m → ¬ (L j ∧ (d j).has p)) → hLf d L S (i + m) p = hLf d L S i p
  | 0, _ => rfl
  | m + 1, h => by
    rw [← Nat.add_assoc, hLf_neg (h (i + m) (by omega) (by omega)), hLf_short i m (fun j a b => h j a (by omega))]
theorem hLf_some {b : Blk} : ∀ (k : Nat), hLf d L S k p = some b → S p = some b ∨ ∃ j, j < k ∧ L j ∧ (d j).has p
  | 0, h => .inl h
  | k + 1, h => by
    by_cases hc : L k ∧ (d k).has p
    · exact .inr ⟨k, by omega, hc.1, hc.2⟩
    · rw [hLf_neg hc] at h
      rcases hLf_some k h with h1 | ⟨j, h1, h2, h3⟩
      · exact .inl h1
      · exact .inr ⟨j, by omega, h2, h3⟩
/-- One step more. -/
theorem hLf_add {i N : Nat} (hi : i < N) (hL : ¬ L i) (hno : (d i).has p → ∀ j, i < j → j < N → L j → ¬ (d j).has p) :
    ((d i).has p → hLf d (fun j => L j ∨ j = i) S N p = (d i).look p) ∧ (¬ (d i).has p → hLf d (fun j => L j ∨ j = i) S N p = hLf d L S N p) := by
  refine ⟨fun hp => ?_, fun hp => ?_⟩
  · have e : N = (i + 1) + (N - (i + 1)) := by omega
    rw [e, hLf_short (i + 1) _ (fun j a b hc => by
      rcases hc.1 with h1 | h1
      · exact hno hp j (by omega) (by omega) h1 hc.2
      · omega), hLf_pos ⟨.inr rfl, hp⟩]
  · refine hLf_congr N fun j hj => ⟨fun ⟨h1, h2⟩ => ⟨h1.resolve_right (fun e => hp (e ▸ h2)), h2⟩, fun ⟨h1, h2⟩ => ⟨.inl h1, h2⟩⟩
end

def bitL (an : List Bool) (i j : Nat) : Prop := an.getD (i - 1 - j) false = true
theorem bitL_cons (a : Bool) (an : List Bool) {i j : Nat} (hj : j < i) : bitL (a :: an) (i + 1) j ↔ bitL an i j := by
  unfold bitL
  rw [show i + 1 - 1 - j = (i - 1 - j) + 1 by omega]
  simp [List.getD]
theorem baseA_get {d : Nat → Dl} {S : Hp} {p : Pos} : ∀ (i : Nat) (an : List Bool), (baseA (accS d i) an S).get p = hLf d (bitL an i) (fun p => S.get p) i p
  | 0, an => by cases an <;> rfl
  | i + 1, [] => by
    show S.get p = _
    have := hLf_congr (d := d) (L := bitL [] (i + 1)) (L' := fun _ => False) (S := fun p => S.get p) (p := p) (i + 1) (fun j _ => by simp [bitL])
    rw [this]
    have : ∀ k, hLf d (fun _ => False) (fun p => S.get p) k p = S.get p := by
      intro k
      induction k with
      | zero => rfl
      | succ k ih => rw [hLf_neg (by simp), ih]
    rw [this]
  | i + 1, a :: an => by
    have ih := baseA_get (d := d) (S := S) (p := p) i an
    have e1 : hLf d (bitL (a :: an) (i + 1)) (fun p => S.get p) i p = hLf d (bitL an i) (fun p => S.get p) i p := hLf_congr i fun j hj => by rw [bitL_cons a an hj]
    show (Bool.rec (baseA (accS d i) an S) ((d i).app (baseA (accS d i) an S)) a : Hp).get p = _
    have hb : bitL (a :: an) (i + 1) i ↔ a = true := by simp [bitL]
    cases a
    · rw [hLf_neg (fun h => by have := hb.1 h.1; cases this), e1, ← ih]
    · show ((d i).app (baseA (accS d i) an S)).get p = _
      rw [app_get, ih]
      by_cases hp : (d i).has p
      · rw [if_pos hp, hLf_pos ⟨hb.2 rfl, hp⟩]
      · rw [if_neg hp, hLf_neg (fun h => hp h.2), e1]
theorem baseR_get {d : Nat → Dl} {p : Pos} {b : Blk} : ∀ (i : Nat) (an : List Bool) (h : Hp), (baseR (accS d i) an h).get p = some b → h.get p = some b ∧ ∀ j, j < i → ¬ bitL an i j → ¬ (d j).has p
  | 0, an, h, e => by
    have : baseR (accS d 0) an h = h := by cases an <;> rfl
    rw [this] at e
    exact ⟨e, fun j hj => by omega⟩
  | i + 1, [], h, e => by
    have e : ((d i).rem (baseR (accS d i) [] h)).get p = some b := e
    rw [rem_get] at e
    split at e
    · cases e
    · rename_i hp
      obtain ⟨h1, h2⟩ := baseR_get i [] h e
      refine ⟨h1, fun j hj hb => ?_⟩
      by_cases he : j = i
      · subst he; exact hp
      · exact h2 j (by omega) (by simp [bitL])
  | i + 1, a :: an, h, e => by
    have e : (Bool.rec ((d i).rem (baseR (accS d i) an h)) (baseR (accS d i) an h) a : Hp).get p = some b := e
    have hb : ∀ j, j < i → (bitL (a :: an) (i + 1) j ↔ bitL an i j) := fun j hj => bitL_cons a an hj
    have hbi : bitL (a :: an) (i + 1) i ↔ a = true := by simp [bitL]
    cases a
    · have e : ((d i).rem (baseR (accS d i) an h)).get p = some b := e
      rw [rem_get] at e
      split at e
      · cases e
      · rename_i hp
        obtain ⟨h1, h2⟩ := baseR_get i an h e
        refine ⟨h1, fun j hj hn => ?_⟩
        by_cases he : j = i
        · subst he; exact hp
        · exact h2 j (by omega) (fun x => hn ((hb j (by omega)).2 x))
    · obtain ⟨h1, h2⟩ := baseR_get i an h e
      refine ⟨h1, fun j hj hn => ?_⟩
      by_cases he : j = i
      · subst he; exact absurd (hbi.2 rfl) hn
      · exact h2 j (by omega) (fun x => hn ((hb j (by omega)).2 x))
theorem baseU_get {e : Tr} {p : Pos} {b : Blk} : ∀ (us : List Pos) (h h' : Hp), baseU e us h = some h' → h'.get p = some b → h.get p = some b ∧ ∀ u ∈ us, blkOf (e.get u) ≠ some (some p)
  | [], h, h', e1, e2 => by cases e1; exact ⟨e2, by simp⟩
  | u :: us, h, h', e1, e2 => by
    rw [baseU] at e1
    split at e1
    · rename_i a hu
      rw [Option.map_eq_some_iff] at e1
      obtain ⟨h1, e3, rfl⟩ := e1
      rw [Hp.get_put] at e2
      split at e2
      · cases e2
      · rename_i hne
        obtain ⟨a1, a2⟩ := baseU_get us h h1 e3 e2
        refine ⟨a1, fun x hx hxo => ?_⟩
        rcases List.mem_cons.1 hx with rfl | hx
        · rw [hu] at hxo; cases hxo; exact hne rfl
        · exact a2 x hx hxo
    · rename_i hu
      obtain ⟨a1, a2⟩ := baseU_get us h h' e1 e2
      refine ⟨a1, fun x hx hxo => ?_⟩
      rcases List.mem_cons.1 hx with rfl | hx
      · rw [hu] at hxo; cases hxo
      · exact a2 x hx hxo
    · cases e1
theorem takeB_get {er : Tr} {b : Hp} {p : Pos} {x : Blk} : ∀ (st : List Pos) (b' : Hp), takeB er b st = some b' → b'.get p = some x → b.get p = some x ∧ ∃ a ∈ st, blkOf (er.get a) = some (some p)
  | [], b', e1, e2 => by cases e1; have := (Hp.get_lf p).symm.trans e2; cases this
  | u :: st, b', e1, e2 => by
    rw [takeB] at e1
    split at e1
    · rename_i a hu
      split at e1
      · rename_i bl hbl
        rw [Option.map_eq_some_iff] at e1
        obtain ⟨b1, e3, rfl⟩ := e1
        rw [Hp.get_put] at e2
        split at e2
        · rename_i hpa
          subst hpa
          cases e2
          exact ⟨hbl, u, List.mem_cons_self .., hu⟩
        · obtain ⟨h1, a', h2, h3⟩ := takeB_get st b1 e3 e2
          exact ⟨h1, a', List.mem_cons_of_mem _ h2, h3⟩
      · cases e1
    · obtain ⟨h1, a', h2, h3⟩ := takeB_get st b' e1 e2
      exact ⟨h1, a', List.mem_cons_of_mem _ h2, h3⟩
    · cases e1
/-- What slots tell of is there. -/
theorem takeB_has {er : Tr} {b : Hp} {p : Pos} : ∀ (st : List Pos) (b' : Hp), takeB er b st = some b' → (∃ a ∈ st, blkOf (er.get a) = some (some p)) → ∃ x, b'.get p = some x
  | [], _, _, ⟨a, h, _⟩ => by simp at h
  | u :: st, b', e1, ⟨a, ha, hp⟩ => by
    rw [takeB] at e1
    split at e1
    · rename_i q hu
      split at e1
      · rename_i bl hbl
        rw [Option.map_eq_some_iff] at e1
        obtain ⟨b1, e3, rfl⟩ := e1
        rw [Hp.get_put]
        by_cases hpq : p = q
        · rw [if_pos hpq]; exact ⟨bl, rfl⟩
        · rw [if_neg hpq]
          rcases List.mem_cons.1 ha with rfl | ha
          · rw [hu] at hp; cases hp; exact absurd rfl hpq
          · exact takeB_has st b1 e3 ⟨a, ha, hp⟩
      · cases e1
    · rename_i hu
      rcases List.mem_cons.1 ha with rfl | ha
      · rw [hu] at hp; cases hp
      · exact takeB_has st b' e1 ⟨a, ha, hp⟩
    · cases e1
theorem keysB_has {er : Tr} {h : Hp} {z : Dl} {p : Pos} : ∀ (st : List Pos), ((keysB er h z st).has p ↔ (∃ a ∈ st, blkOf (er.get a) = some (some p)) ∨ z.has p) ∧ ((∃ a ∈ st, blkOf (er.get a) = some (some p)) → (keysB er h z st).look p = h.get p) ∧ ((¬ ∃ a ∈ st, blkOf (er.get a) = some (some p)) → (keysB er h z st).look p = z.look p)
  | [] => ⟨⟨fun h => .inr h, fun h => h.elim (fun ⟨a, ha, _⟩ => by simp at ha) id⟩, fun ⟨a, ha, _⟩ => by simp at ha, fun _ => rfl⟩
  | u :: st => by
    obtain ⟨i1, i2, i3⟩ := keysB_has (er := er) (h := h) (z := z) (p := p) st
    rw [keysB]
    split
    · rename_i q hu
      refine ⟨⟨fun hh => ?_, fun hh => ?_⟩, fun hex => ?_, fun hn => ?_⟩
      · rcases hh with rfl | hh
        · exact .inl ⟨u, List.mem_cons_self .., hu⟩
        · exact (i1.1 hh).imp (fun ⟨a, ha, hp⟩ => ⟨a, List.mem_cons_of_mem _ ha, hp⟩) id
      · rcases hh with ⟨a, ha, hp⟩ | hh
        · rcases List.mem_cons.1 ha with rfl | ha
          · rw [hu] at hp; cases hp; exact .inl rfl
          · exact .inr (i1.2 (.inl ⟨a, ha, hp⟩))
        · exact .inr (i1.2 (.inr hh))
      · show (if p = q then _ else _) = _
        by_cases hpq : p = q
        · rw [if_pos hpq, hpq]
        · rw [if_neg hpq]
          obtain ⟨a, ha, hp⟩ := hex
          rcases List.mem_cons.1 ha with rfl | ha
          · rw [hu] at hp; cases hp; exact absurd rfl hpq
          · exact i2 ⟨a, ha, hp⟩
      · show (if p = q then _ else _) = _
        rw [if_neg (fun e => hn ⟨u, List.mem_cons_self .., by rw [hu, e]⟩)]
        exact i3 fun ⟨a, ha, hp⟩ => hn ⟨a, List.mem_cons_of_mem _ ha, hp⟩
    · rename_i hne
      have hu : blkOf (er.get u) ≠ some (some p) := fun e => hne p e
      have e : (∃ a ∈ u :: st, blkOf (er.get a) = some (some p)) ↔ ∃ a ∈ st, blkOf (er.get a) = some (some p) :=
        ⟨fun ⟨a, ha, hp⟩ => (List.mem_cons.1 ha).elim (fun h => absurd (h ▸ hp) hu) (fun h => ⟨a, h, hp⟩), fun ⟨a, ha, hp⟩ => ⟨a, List.mem_cons_of_mem _ ha, hp⟩⟩
      rw [e]; exact ⟨i1, i2, i3⟩
theorem restr_get (e : Tr) : ∀ (ts : List Pos) (p : Pos), (restr e ts).get p = e.get p ∧ p ∈ ts ∨ (restr e ts).get p = .bad
  | [], p => .inr (Tr.get_lf p)
  | q :: ts, p => by
    show ((restr e ts).set (e.get q) q).get p = _ ∧ _ ∨ ((restr e ts).set (e.get q) q).get p = _
    rw [Tr.get_set]
    by_cases h : p = q
    · subst h; rw [if_pos rfl]; exact .inl ⟨rfl, List.mem_cons_self ..⟩
    · rw [if_neg h]
      rcases restr_get e ts p with ⟨h1, h2⟩ | h1
      · exact .inl ⟨h1, List.mem_cons_of_mem _ h2⟩
      · exact .inr h1
theorem appAll_get {d : Nat → Dl} {S : Hp} {p : Pos} : ∀ (k : Nat), (appAll (accS d k) S).get p = hLf d (fun _ => True) (fun p => S.get p) k p
  | 0 => rfl
  | k + 1 => by
    show ((d k).app (appAll (accS d k) S)).get p = _
    rw [app_get, appAll_get k]
    by_cases hp : (d k).has p
    · rw [if_pos hp, hLf_pos ⟨trivial, hp⟩]
    · rw [if_neg hp, hLf_neg (fun h => hp h.2)]
end Go.Proofs.Ytjhgingmbklhaaa.Ev
