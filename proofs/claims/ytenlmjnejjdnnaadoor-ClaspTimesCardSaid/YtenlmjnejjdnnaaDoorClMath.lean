/-
  Plain mathematics of clasps: positions as lists of bools, numbers along the line, moves. No program in sight.
-/
namespace Go.Proofs.YtenlmjnejjdnnaaDoor.Cl

def bit (l : List Bool) (k : Nat) : Bool := l[k]?.getD false
theorem bit_nil (k : Nat) : bit [] k = false := rfl
theorem bit_zero (b : Bool) (t : List Bool) : bit (b :: t) 0 = b := rfl
theorem bit_succ (b : Bool) (t : List Bool) (k : Nat) : bit (b :: t) (k + 1) = bit t k := by simp [bit]
theorem bit_out {l : List Bool} {k : Nat} (h : l.length ≤ k) : bit l k = false := by simp [bit, List.getElem?_eq_none h]
theorem bit_ext {l m : List Bool} (hl : l.length = m.length) (h : ∀ k, k < l.length → bit l k = bit m k) : l = m := by
  refine List.ext_getElem hl fun k h1 h2 => ?_
  have := h k h1
  simpa [bit, List.getElem?_eq_getElem h1, List.getElem?_eq_getElem h2] using this

/-- Whether a ring can be moved. -/
def can (l : List Bool) (k : Nat) : Bool := decide (∀ i, i < k → bit l i = decide (i + 1 = k))
theorem can_zero (l : List Bool) : can l 0 = true := by simp [can]
theorem can_one (b : Bool) (t : List Bool) : can (b :: t) 1 = b := by
  cases b
  · simp [can, bit_zero]
  · simp only [can, decide_eq_true_eq]
    intro i hi
    obtain rfl : i = 0 := by omega
    simp [bit_zero]
theorem can_two (b : Bool) (t : List Bool) (k : Nat) : can (b :: t) (k + 2) = (!b && can t (k + 1)) := by
  rw [Bool.eq_iff_iff]
  simp only [can, decide_eq_true_eq, Bool.and_eq_true, Bool.not_eq_true']
  constructor
  · intro h
    refine ⟨by have := h 0 (by omega); rw [bit_zero] at this; rw [this]; simp, fun i hi => ?_⟩
    have := h (i + 1) (by omega)
    rw [bit_succ] at this
    rw [this]
    simp
  · rintro ⟨hb, h⟩ i hi
    cases i with
    | zero => rw [bit_zero, hb]; simp
    | succ i => rw [bit_succ, h i (by omega)]; simp

def flip (l : List Bool) (k : Nat) : List Bool := l.set k (!bit l k)
theorem flip_zero (b : Bool) (t : List Bool) : flip (b :: t) 0 = (!b) :: t := rfl
theorem flip_succ (b : Bool) (t : List Bool) (k : Nat) : flip (b :: t) (k + 1) = b :: flip t k := by simp [flip, bit_succ]
theorem flip_len (l : List Bool) (k : Nat) : (flip l k).length = l.length := by simp [flip]
theorem bit_flip (l : List Bool) (k j : Nat) (hk : k < l.length) : bit (flip l k) j = if j = k then !bit l k else bit l j := by
  unfold flip bit
  rw [List.getElem?_set]
  by_cases h : k = j
  · subst h; simp [hk]
  · rw [if_neg h, if_neg (by omega)]
theorem flip_flip (l : List Bool) (k : Nat) (hk : k < l.length) : flip (flip l k) k = l := by
  apply bit_ext (by simp [flip_len])
  intro j hj
  rw [bit_flip _ _ _ (by rw [flip_len]; exact hk), bit_flip _ _ _ hk, bit_flip _ _ _ hk]
  by_cases h : j = k
  · subst h; simp
  · simp [h]
theorem can_flip (l : List Bool) (k : Nat) (hk : k < l.length) : can (flip l k) k = can l k := by
  rw [Bool.eq_iff_iff]
  simp only [can, decide_eq_true_eq]
  constructor <;> intro h i hi
  · have := h i hi; rw [bit_flip _ _ _ hk, if_neg (by omega)] at this; exact this
  · rw [bit_flip _ _ _ hk, if_neg (by omega)]; exact h i hi

/-- How many are on, odd or even. -/
def par : List Bool → Bool
  | [] => false
  | b :: t => b ^^ par t
/-- The number of a position. -/
def num : List Bool → Nat
  | [] => 0
  | b :: t => 2 * num t + (b ^^ par t).toNat

theorem par_num : ∀ l, num l % 2 = (par l).toNat
  | [] => rfl
  | b :: t => by
    have : (b ^^ par t).toNat < 2 := Bool.toNat_lt _
    simp only [num, par]; omega
theorem num_lt : ∀ l, num l < 2 ^ l.length
  | [] => by simp [num]
  | b :: t => by
    have := num_lt t
    have h2 : (b ^^ par t).toNat < 2 := Bool.toNat_lt _
    simp only [num, List.length_cons, Nat.pow_succ]; omega
theorem par_flip : ∀ (l : List Bool) (k : Nat), k < l.length → par (flip l k) = !par l
  | [], k, h => by simp at h
  | b :: t, 0, _ => by rw [flip_zero]; simp only [par]; cases b <;> cases par t <;> rfl
  | b :: t, k + 1, h => by
    rw [flip_succ]; simp only [par]
    rw [par_flip t k (by simpa using h)]
    cases b <;> cases par t <;> rfl

/-- A move of ring 0. -/
theorem move_zero (l : List Bool) (h : 0 < l.length) : if par l then num l = num (flip l 0) + 1 else num (flip l 0) = num l + 1 := by
  cases l with
  | nil => simp at h
  | cons b t =>
    rw [flip_zero]; simp only [num, par]
    rcases Bool.eq_false_or_eq_true (par t) with hp | hp <;> cases b <;> simp [hp]
/-- A move of another ring. -/
theorem move_succ : ∀ (l : List Bool) (k : Nat), k + 1 < l.length → can l (k + 1) = true → if par l then num (flip l (k + 1)) = num l + 1 else num l = num (flip l (k + 1)) + 1
  | [], k, h, _ => by simp at h
  | [b], k, h, _ => by simp at h
  | b :: c :: t, 0, h, hc => by
    rw [can_one] at hc
    subst hc
    rw [flip_succ, flip_zero]
    simp only [num, par]
    rcases Bool.eq_false_or_eq_true (par t) with hp | hp <;> cases c <;> simp [hp] <;> omega
  | b :: t, k + 1, h, hc => by
    rw [can_two] at hc
    simp only [Bool.and_eq_true, Bool.not_eq_true'] at hc
    obtain ⟨rfl, hc⟩ := hc
    have hk : k + 1 < t.length := by simpa using h
    have ih := move_succ t k hk hc
    rw [flip_succ]
    simp only [num, par]
    rw [par_flip t _ hk]
    rcases Bool.eq_false_or_eq_true (par t) with hp | hp <;> simp [hp] at ih ⊢ <;> omega

/-- The greater one of both numbers of a move ends with a 1 and as many zeros as rings are ahead of it. -/
theorem move_tz : ∀ (l : List Bool) (k : Nat), k < l.length → can l k = true → max (num l) (num (flip l k)) % 2 ^ (k + 1) = 2 ^ k
  | [], k, h, _ => by simp at h
  | b :: t, 0, h, _ => by
    rw [flip_zero]; simp only [num, Nat.zero_add, Nat.pow_one, Nat.pow_zero]
    rcases Bool.eq_false_or_eq_true (par t) with hp | hp <;> cases b <;> simp [hp] <;> omega
  | [b], k + 1, h, _ => by simp at h
  | b :: c :: t, 1, h, hc => by
    rw [can_one] at hc
    subst hc
    rw [flip_succ, flip_zero]
    simp only [num, par]
    rcases Bool.eq_false_or_eq_true (par t) with hp | hp <;> cases c <;> simp [hp] <;> omega
  | b :: t, k + 2, h, hc => by
    have hk : k + 1 < t.length := by simp at h; omega
    rw [can_two] at hc
    simp only [Bool.and_eq_true, Bool.not_eq_true'] at hc
    obtain ⟨rfl, hc⟩ := hc
    have ih := move_tz t (k + 1) hk hc
    have hs := move_succ t k hk hc
    rw [flip_succ]
    simp only [num]
    rw [par_flip t _ hk, show (2 : Nat) ^ (k + 2 + 1) = 2 * 2 ^ (k + 1 + 1) from Nat.pow_succ']
    have key : max (2 * num t + (false ^^ par t).toNat) (2 * num (flip t (k + 1)) + (false ^^ !par t).toNat) = 2 * max (num t) (num (flip t (k + 1))) := by
      rcases Bool.eq_false_or_eq_true (par t) with hp | hp <;> simp [hp] at hs ⊢ <;> omega
    rw [key, Nat.mul_mod_mul_left, ih]
    exact Nat.pow_succ'.symm

/-- The number of zeros at a number's end is told by its rest. -/
theorem tz_unique {m j k : Nat} (h1 : m % 2 ^ (j + 1) = 2 ^ j) (h2 : m % 2 ^ (k + 1) = 2 ^ k) : j = k := by
  have key : ∀ {a b : Nat}, a < b → m % 2 ^ (a + 1) = 2 ^ a → m % 2 ^ (b + 1) = 2 ^ b → False := by
    intro a b hab ha hb
    have hd : (2 : Nat) ^ (a + 1) ∣ 2 ^ (b + 1) := Nat.pow_dvd_pow 2 (by omega)
    have hd2 : (2 : Nat) ^ (a + 1) ∣ 2 ^ b := Nat.pow_dvd_pow 2 (by omega)
    have h3 : m % 2 ^ (b + 1) % 2 ^ (a + 1) = m % 2 ^ (a + 1) := Nat.mod_mod_of_dvd m hd
    rw [hb, ha, Nat.mod_eq_zero_of_dvd hd2] at h3
    have : 0 < (2 : Nat) ^ a := Nat.pow_pos (by decide)
    omega
  rcases Nat.lt_trichotomy j k with h | h | h
  · exact (key h h1 h2).elim
  · exact h
  · exact (key h h2 h1).elim

/-- The position of so many rings with a number. -/
def pos : Nat → Nat → List Bool
  | 0, _ => []
  | n + 1, m => (decide (m % 2 ≠ m / 2 % 2)) :: pos n (m / 2)
theorem pos_len : ∀ n m, (pos n m).length = n
  | 0, _ => rfl
  | n + 1, m => by simp [pos, pos_len n]
theorem bit_pos : ∀ (n m k : Nat), k < n → bit (pos n m) k = decide (m / 2 ^ k % 2 ≠ m / 2 ^ (k + 1) % 2)
  | 0, _, k, h => by omega
  | n + 1, m, 0, _ => by rw [pos, bit_zero]; simp
  | n + 1, m, k + 1, h => by
    rw [pos, bit_succ, bit_pos n (m / 2) k (by omega)]
    rw [Nat.div_div_eq_div_mul, Nat.div_div_eq_div_mul, ← Nat.pow_succ', ← Nat.pow_succ']
theorem par_pos : ∀ (n m : Nat), m < 2 ^ n → par (pos n m) = decide (m % 2 = 1)
  | 0, m, h => by
    simp at h; subst h; rfl
  | n + 1, m, h => by
    rw [Nat.pow_succ] at h
    rw [pos, par, par_pos n (m / 2) (by omega)]
    have h1 : m % 2 < 2 := Nat.mod_lt _ (by decide)
    have h2 : m / 2 % 2 < 2 := Nat.mod_lt _ (by decide)
    rcases (by omega : m % 2 = 0 ∨ m % 2 = 1) with h1 | h1 <;> rcases (by omega : m / 2 % 2 = 0 ∨ m / 2 % 2 = 1) with h2 | h2 <;> simp [h1, h2]
theorem num_pos : ∀ (n m : Nat), m < 2 ^ n → num (pos n m) = m
  | 0, m, h => by simp at h; subst h; rfl
  | n + 1, m, h => by
    have hp := par_pos (n + 1) m h
    rw [pos, par] at hp
    rw [Nat.pow_succ] at h
    rw [pos, num, hp, num_pos n (m / 2) (by omega)]
    rcases (by omega : m % 2 = 0 ∨ m % 2 = 1) with h1 | h1 <;> simp [h1] <;> omega
theorem pos_num : ∀ (l : List Bool), pos l.length (num l) = l
  | [] => rfl
  | b :: t => by
    have h2 : (b ^^ par t).toNat < 2 := Bool.toNat_lt _
    have e1 : num (b :: t) % 2 = (b ^^ par t).toNat := by simp only [num]; omega
    have e2 : num (b :: t) / 2 = num t := by simp only [num]; omega
    rw [List.length_cons, pos, e1, e2, pos_num t, par_num t]
    cases b <;> cases par t <;> rfl
theorem num_inj {l m : List Bool} (hl : l.length = m.length) (h : num l = num m) : l = m := by
  rw [← pos_num l, ← pos_num m, hl, h]

/-- Off all. -/
theorem num_off : ∀ (l : List Bool), (∀ i, i < l.length → bit l i = false) → num l = 0 ∧ par l = false
  | [], _ => ⟨rfl, rfl⟩
  | b :: t, h => by
    have h0 : b = false := h 0 (by simp)
    subst h0
    obtain ⟨h1, h2⟩ := num_off t (fun i hi => by have := h (i + 1) (by simpa using hi); rwa [bit_succ] at this)
    simp [num, par, h1, h2]
/-- The first ring that is on, if one is. -/
theorem first_on : ∀ (l : List Bool), (∀ i, i < l.length → bit l i = false) ∨ ∃ j, j < l.length ∧ can l (j + 1) = true
  | [] => .inl (by simp)
  | true :: t => .inr ⟨0, by simp, can_one _ _⟩
  | false :: t => by
    rcases first_on t with h | ⟨j, hj, h⟩
    · left
      intro i hi
      cases i with
      | zero => rfl
      | succ i => rw [bit_succ]; exact h i (by simpa using hi)
    · exact .inr ⟨j + 1, by simpa using hj, by rw [can_two, h]; rfl⟩
/-- The last ring alone. -/
theorem last_on : ∀ (l : List Bool), 0 < l.length → can l l.length = true → num l + 1 = 2 ^ l.length ∧ par l = true
  | [], h, _ => by simp at h
  | [b], _, hc => by
    have : can [b] 1 = true := hc
    rw [can_one] at this; subst this; decide
  | b :: c :: t, _, hc => by
    have hc : can (b :: c :: t) (t.length + 2) = true := hc
    rw [can_two] at hc
    simp only [Bool.and_eq_true, Bool.not_eq_true'] at hc
    obtain ⟨rfl, hc2⟩ := hc
    obtain ⟨h1, h2⟩ := last_on (c :: t) (by simp) hc2
    have e1 : num (false :: c :: t) = 2 * num (c :: t) + (false ^^ par (c :: t)).toNat := rfl
    have e2 : par (false :: c :: t) = (false ^^ par (c :: t)) := rfl
    rw [e1, e2, h2]
    refine ⟨?_, by simp⟩
    simp only [List.length_cons] at h1 ⊢
    rw [Nat.pow_succ]; simp; omega

/-- There is a move to the next number. -/
theorem up_move (l : List Bool) (h : num l + 1 < 2 ^ l.length) : ∃ k, k < l.length ∧ can l k = true ∧ num (flip l k) = num l + 1 := by
  have h0 : 0 < l.length := by
    rcases Nat.eq_zero_or_pos l.length with e | e
    · rw [e] at h; simp at h
    · exact e
  cases hp : par l with
  | false =>
    have := move_zero l h0
    rw [hp] at this
    exact ⟨0, h0, can_zero l, by simpa using this⟩
  | true =>
    rcases first_on l with h1 | ⟨j, hj, hc⟩
    · rw [(num_off l h1).2] at hp; cases hp
    · by_cases hj1 : j + 1 < l.length
      · have := move_succ l j hj1 hc
        rw [hp] at this
        exact ⟨j + 1, hj1, hc, by simpa using this⟩
      · obtain e : j + 1 = l.length := by omega
        rw [e] at hc
        have := (last_on l h0 hc).1
        omega
/-- There is a move to the number before. -/
theorem down_move (l : List Bool) (h : 0 < num l) : ∃ k, k < l.length ∧ can l k = true ∧ num (flip l k) + 1 = num l := by
  have h0 : 0 < l.length := by
    rcases Nat.eq_zero_or_pos l.length with e | e
    · have := List.eq_nil_of_length_eq_zero e; subst this; simp [num] at h
    · exact e
  cases hp : par l with
  | true =>
    have := move_zero l h0
    rw [hp] at this
    exact ⟨0, h0, can_zero l, by have : num l = num (flip l 0) + 1 := by simpa using this
                                 omega⟩
  | false =>
    rcases first_on l with h1 | ⟨j, hj, hc⟩
    · rw [(num_off l h1).1] at h; omega
    · by_cases hj1 : j + 1 < l.length
      · have := move_succ l j hj1 hc
        rw [hp] at this
        exact ⟨j + 1, hj1, hc, by have : num l = num (flip l (j + 1)) + 1 := by simpa using this
                                  omega⟩
      · obtain e : j + 1 = l.length := by omega
        rw [e] at hc
        rw [(last_on l h0 hc).2] at hp; cases hp
/-- A move leads to a neighbour. -/
theorem move_one (l : List Bool) (k : Nat) (hk : k < l.length) (hc : can l k = true) : num (flip l k) = num l + 1 ∨ num (flip l k) + 1 = num l := by
  cases k with
  | zero =>
    have := move_zero l hk
    split at this
    · exact .inr this.symm
    · exact .inl this
  | succ k =>
    have := move_succ l k hk hc
    split at this
    · exact .inl this
    · exact .inr this.symm
end Go.Proofs.YtenlmjnejjdnnaaDoor.Cl
