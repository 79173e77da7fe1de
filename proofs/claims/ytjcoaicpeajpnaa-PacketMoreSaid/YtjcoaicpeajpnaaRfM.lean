/- Plain mathematics: remainders occur early; without a common divisor all great numbers can be made. -/
import Derived.Test.YtjcoaicpeajpnaaPkW3
namespace Go.Proofs.Ytjcoaicpeajpnaa.Pk
/-- Of s + 1 numbers below s two are equal. -/
theorem pigeon (s : Nat) : ∀ f : Nat → Nat, (∀ i, i ≤ s → f i < s) → ∃ i j, i < j ∧ j ≤ s ∧ f i = f j := by
  induction s with
  | zero => intro f h; exact absurd (h 0 (Nat.le_refl _)) (by omega)
  | succ s ih =>
    intro f h
    by_cases he : ∃ i, i ≤ s ∧ f i = f (s + 1)
    · obtain ⟨i, h1, h2⟩ := he
      exact ⟨i, s + 1, by omega, Nat.le_refl _, h2⟩
    · have hne : ∀ i, i ≤ s → f i ≠ f (s + 1) := fun i hi e => he ⟨i, hi, e⟩
      obtain ⟨i, j, hij, hj, e⟩ := ih (fun i => if f i = s then f (s + 1) else f i) (fun i hi => by
        have h1 := h i (by omega)
        have h2 := h (s + 1) (Nat.le_refl _)
        have h3 := hne i hi
        split <;> omega)
      have a1 := hne i (by omega)
      have a2 := hne j hj
      refine ⟨i, j, hij, by omega, ?_⟩
      split at e <;> split at e <;> omega

theorem sum_take_drop (l : List Nat) (i : Nat) : (l.take i).sum + (l.drop i).sum = l.sum := by
  rw [← List.sum_append, List.take_append_drop]

/-- A list that is long enough has a part whose sum is a multiple. -/
theorem part_mul {s : Nat} (hs : 0 < s) (l : List Nat) (hl : s ≤ l.length) : ∃ l1 l2 l3, l = l1 ++ l2 ++ l3 ∧ l2 ≠ [] ∧ l2.sum % s = 0 := by
  obtain ⟨i, j, hij, hj, e⟩ := pigeon s (fun i => (l.take i).sum % s) (fun i _ => Nat.mod_lt _ hs)
  refine ⟨l.take i, (l.drop i).take (j - i), l.drop j, ?_, ?_, ?_⟩
  · have : l.take j = l.take i ++ (l.drop i).take (j - i) := by
      rw [← List.take_add]; congr 1; omega
    rw [← this, List.take_append_drop]
  · intro h
    have := congrArg List.length h
    simp at this
    omega
  · have : l.take j = l.take i ++ (l.drop i).take (j - i) := by
      rw [← List.take_add]; congr 1; omega
    rw [this, List.sum_append] at e
    have := Nat.sub_mod_eq_zero_of_mod_eq e.symm
    rwa [Nat.add_sub_cancel_left] at this

theorem bez (m : Nat) (hm : 0 < m) : ∀ d s : Nat, ∃ a b, (a * d + b * s) % m = Nat.gcd d s % m := by
  intro d
  induction d using Nat.strongRecOn with
  | _ d ih =>
    intro s
    rcases Nat.eq_zero_or_pos d with h0 | h0
    · subst h0; exact ⟨0, 1, by simp⟩
    · obtain ⟨a, b, h⟩ := ih (s % d) (Nat.mod_lt _ h0) d
      refine ⟨b + a * (s / d) * (m - 1), a, ?_⟩
      rw [Nat.gcd_rec, ← h]
      obtain ⟨m', rfl⟩ : ∃ m', m = m' + 1 := ⟨m - 1, by omega⟩
      have e : (b + a * (s / d) * (m' + 1 - 1)) * d + a * s = a * (s % d) + b * d + (a * (s / d) * d) * (m' + 1) := by
        have h1 := Nat.div_add_mod s d
        generalize s / d = q at *
        generalize s % d = r at *
        subst h1
        rw [Nat.add_sub_cancel, Nat.add_mul, Nat.mul_add, Nat.mul_add, Nat.mul_one, Nat.mul_right_comm (a * q) m' d, Nat.mul_comm d q, ← Nat.mul_assoc a q d]
        omega
      rw [e, Nat.add_mul_mod_self_right]

theorem sum_le {l : List Nat} {B : Nat} (h : ∀ x ∈ l, x ≤ B) : l.sum ≤ l.length * B := by
  induction l with
  | nil => simp
  | cons a t ih =>
    have h1 := ih fun x hx => h x (by simp [hx])
    have h2 := h a (by simp)
    rw [List.sum_cons, List.length_cons, Nat.succ_mul]
    omega
/-- Each remainder that occurs occurs early. -/
theorem R_early {P : List Nat} {s B : Nat} (hs : 0 < s) (hB : ∀ x ∈ P, x ≤ B) : ∀ (k : Nat) (l : List Nat), l.length ≤ k → (∀ x ∈ l, x ∈ P) → ∃ y, y ≤ l.sum ∧ y % s = l.sum % s ∧ R P y ∧ y ≤ (s - 1) * B := by
  intro k
  induction k with
  | zero =>
    intro l hl hP
    have : l = [] := List.eq_nil_of_length_eq_zero (by omega)
    subst this
    exact ⟨0, by simp, by simp, ⟨[], by simp, rfl⟩, by omega⟩
  | succ k ih =>
    intro l hl hP
    by_cases hlen : s ≤ l.length
    · obtain ⟨l1, l2, l3, rfl, hne, hm⟩ := part_mul hs l hlen
      have hpos : 0 < l2.length := List.length_pos_iff.2 hne
      obtain ⟨y, h1, h2, h3, h4⟩ := ih (l1 ++ l3) (by simp at hl ⊢; omega) (fun x hx => hP x (by simp at hx ⊢; rcases hx with h | h <;> simp [h]))
      refine ⟨y, ?_, ?_, h3, h4⟩
      · simp only [List.sum_append] at *; omega
      · rw [h2]
        obtain ⟨q, hq⟩ := Nat.dvd_of_mod_eq_zero hm
        simp only [List.sum_append, hq]
        rw [show l1.sum + s * q + l3.sum = l1.sum + l3.sum + s * q by omega, Nat.add_mul_mod_self_left]
    · refine ⟨l.sum, Nat.le_refl _, rfl, ⟨l, hP, rfl⟩, ?_⟩
      have h1 := sum_le fun x hx => hB x (hP x hx)
      exact Nat.le_trans h1 (Nat.mul_le_mul_right B (by omega))
theorem R_early' {P : List Nat} {s B n : Nat} (hs : 0 < s) (hB : ∀ x ∈ P, x ≤ B) (h : R P n) : ∃ y, y ≤ n ∧ y % s = n % s ∧ R P y ∧ y ≤ (s - 1) * B := by
  obtain ⟨l, h1, rfl⟩ := h
  exact R_early hs hB l.length l (Nat.le_refl _) h1
theorem R_sum {P : List Nat} {a b : Nat} (ha : R P a) (hb : R P b) : R P (a + b) := by
  obtain ⟨l, h1, rfl⟩ := ha
  obtain ⟨l', h2, rfl⟩ := hb
  exact ⟨l ++ l', fun x hx => by rcases List.mem_append.1 hx with h | h; exact h1 x h; exact h2 x h, by simp⟩
theorem R_times {P : List Nat} {a : Nat} (ha : R P a) (k : Nat) : R P (k * a) := by
  induction k with
  | zero => rw [Nat.zero_mul]; exact ⟨[], by simp, rfl⟩
  | succ k ih => rw [Nat.succ_mul]; exact R_sum ih ha
/-- Some number that can be made has the divisor's remainder. -/
theorem R_gcd {m : Nat} (hm : 0 < m) (P : List Nat) : ∀ (Q : List Nat) (g : Nat), (∀ x ∈ Q, x ∈ P) → (∃ y, R P y ∧ y % m = g % m) → ∃ y, R P y ∧ y % m = (Q.foldl Nat.gcd g) % m := by
  intro Q
  induction Q with
  | nil => intro g _ h; exact h
  | cons s r ih =>
    intro g hQ ⟨y, hy, e⟩
    refine ih (Nat.gcd g s) (fun x hx => hQ x (by simp [hx])) ?_
    obtain ⟨a, b, hab⟩ := bez m hm g s
    have hs : R P s := ⟨[s], by intro x hx; rw [List.mem_singleton] at hx; subst hx; exact hQ x (by simp), by simp⟩
    refine ⟨a * y + b * s, R_sum (R_times hy a) (R_times hs b), ?_⟩
    rw [← hab, Nat.add_mod, Nat.mul_mod, e, ← Nat.mul_mod, ← Nat.add_mod]
/-- Without a common divisor whatever is great enough can be made. -/
theorem R_all {P : List Nat} {s B n : Nat} (hsP : s ∈ P) (hs : 0 < s) (hB : ∀ x ∈ P, x ≤ B) (hg : P.foldl Nat.gcd 0 = 1) (hn : (s - 1) * B ≤ n) : R P n := by
  obtain ⟨y, hy, e⟩ := R_gcd hs P P 0 (fun x hx => hx) ⟨0, ⟨[], by simp, rfl⟩, rfl⟩
  rw [hg] at e
  have h1 := R_times hy n
  have e1 : (n * y) % s = n % s := by rw [Nat.mul_mod, e, ← Nat.mul_mod, Nat.mul_one]
  obtain ⟨z, _, h2, h3, h4⟩ := R_early' hs hB h1
  rw [e1] at h2
  have h5 : z ≤ n := by omega
  have h6 := Nat.sub_mod_eq_zero_of_mod_eq h2.symm
  obtain ⟨q, hq⟩ := Nat.dvd_of_mod_eq_zero h6
  have hsR : R P s := ⟨[s], by intro x hx; rw [List.mem_singleton] at hx; subst hx; exact hsP, by simp⟩
  have h7 := R_sum h3 (R_times hsR q)
  rwa [show z + q * s = n by rw [Nat.mul_comm]; omega] at h7

theorem fmF_early {ps : List Nat} {s r : Nat} (hsP : s ∈ ps) (hp : ∀ x ∈ ps, 0 < x ∧ x ≤ 30) : fmF 1001 ps s r = fmF 901 ps s r := by
  have hs := hp s hsP
  have hpos : ∀ x ∈ ps, 0 < x := fun x hx => (hp x hx).1
  cases h : (List.range 901).find? (fun x => x % s == r && rB ps x) with
  | some x =>
    rw [List.find?_range_eq_some] at h
    obtain ⟨h1, h2, h3⟩ := h
    have hx := List.mem_range.1 h2
    simp only [Bool.and_eq_true, beq_iff_eq] at h1
    have hno : ∀ y, y < x → y % s = r → rB ps y = false := by
      intro y hy he
      have := h3 y hy
      simpa [he] using this
    rw [fmF_hit (N := 1001) (by omega) h1.1 h1.2 hno, fmF_hit (N := 901) hx h1.1 h1.2 hno]
  | none =>
    rw [List.find?_eq_none] at h
    have hno : ∀ y, y < 901 → y % s = r → rB ps y = false := by
      intro y hy he
      have := h y (List.mem_range.2 hy)
      simpa [he] using this
    rw [fmF_none (N := 901) hno, fmF_none (N := 1001)]
    intro y hy he
    cases hb : rB ps y with
    | false => rfl
    | true =>
      obtain ⟨z, h1, h2, h3, h4⟩ := R_early' hs.1 (fun x hx => (hp x hx).2) ((rB_iff hpos y).1 hb)
      have : (s - 1) * 30 ≤ 29 * 30 := Nat.mul_le_mul_right 30 (by omega)
      have := (rB_iff hpos z).2 h3
      rw [hno z (by omega) (by rw [h2, he])] at this
      cases this
theorem gapL_early {ps : List Nat} (hne : ps ≠ []) (hp : ∀ x ∈ ps, 0 < x ∧ x ≤ 30) (hg : G ps = 1) : gapL ps 1001 = gapL ps 901 := by
  obtain ⟨s, hs⟩ := List.exists_mem_of_ne_nil ps hne
  have hs' := hp s hs
  have hpos : ∀ x ∈ ps, 0 < x := fun x hx => (hp x hx).1
  have hall : ∀ k, gapL ps (901 + k) = gapL ps 901 := by
    intro k
    induction k with
    | zero => rfl
    | succ k ih =>
      rw [← Nat.add_assoc, gapL_miss, ih]
      have : (s - 1) * 30 ≤ 29 * 30 := Nat.mul_le_mul_right 30 (by omega)
      exact (rB_iff hpos _).2 (R_all hs hs'.1 (fun x hx => (hp x hx).2) hg (by omega))
  exact hall 100
theorem gapL_one {ps : List Nat} : gapL ps 1 = [] := by
  rw [show (1 : Nat) = 0 + 1 by rfl, gapL_miss]
  · rfl
  · rfl
theorem G_pos {ps : List Nat} (hne : ps ≠ []) (hp : ∀ x ∈ ps, 0 < x) : 0 < G ps := by
  have h : ∀ (l : List Nat) (g : Nat), (0 < g ∨ l ≠ []) → (∀ x ∈ l, 0 < x) → 0 < l.foldl Nat.gcd g := by
    intro l
    induction l with
    | nil => intro g h _; simpa using h
    | cons a t ih =>
      intro g _ hl
      exact ih _ (.inl (Nat.gcd_pos_of_pos_right _ (hl a (by simp)))) (fun x hx => hl x (by simp [hx]))
  exact h ps 0 (.inr hne) hp
end Go.Proofs.Ytjcoaicpeajpnaa.Pk
