/-
  Plain mathematics of packets: numbers that can be made, fewest packets, best fillings, nw. No program in sight.
-/
namespace Go.Proofs.Ytjcoaicpeajpnaa.Pk

/-! ### numbers that can be made -/
def R (P : List Nat) (n : Nat) : Prop := ∃ l : List Nat, (∀ x ∈ l, x ∈ P) ∧ l.sum = n

theorem R_zero (P : List Nat) : R P 0 := ⟨[], by simp, rfl⟩

theorem R_add {P : List Nat} {s n : Nat} (hs : s ∈ P) (h : R P n) : R P (s + n) := by
  obtain ⟨l, h1, h2⟩ := h
  refine ⟨s :: l, ?_, by simp [h2]⟩
  intro x hx
  rcases List.mem_cons.1 hx with rfl | hx
  · exact hs
  · exact h1 x hx

theorem R_head {P : List Nat} {n : Nat} : R P n ↔ n = 0 ∨ ∃ s ∈ P, s ≤ n ∧ R P (n - s) := by
  constructor
  · rintro ⟨l, h1, h2⟩
    cases l with
    | nil => left; simpa using h2.symm
    | cons x t =>
      right
      simp at h2
      refine ⟨x, h1 x (by simp), by omega, t, fun y hy => h1 y (by simp [hy]), by omega⟩
  · rintro (rfl | ⟨s, hs, hle, h⟩)
    · exact R_zero P
    · have := R_add hs h
      rwa [show s + (n - s) = n by omega] at this

theorem sum_erase {l : List Nat} {s : Nat} (h : s ∈ l) : (l.erase s).sum + s = l.sum := by
  induction l with
  | nil => simp at h
  | cons a t ih =>
    by_cases e : a = s
    · subst e; simp; omega
    · have hm : s ∈ t := by
        rcases List.mem_cons.1 h with h | h
        · exact absurd h.symm e
        · exact h
      rw [List.erase_cons_tail (by simpa using e)]
      simp [← ih hm]; omega

theorem R_snoc {P : List Nat} {s n : Nat} : R (P ++ [s]) n ↔ R P n ∨ (s ≤ n ∧ R (P ++ [s]) (n - s)) := by
  constructor
  · rintro ⟨l, h1, h2⟩
    by_cases hm : s ∈ l
    · right
      have := sum_erase hm
      exact ⟨by omega, l.erase s, fun x hx => h1 x (List.mem_of_mem_erase hx), by omega⟩
    · left
      refine ⟨l, fun x hx => ?_, h2⟩
      have := h1 x hx
      simp at this
      rcases this with h | h
      · exact h
      · subst h; exact absurd hx hm
  · rintro (⟨l, h1, h2⟩ | ⟨hle, h⟩)
    · exact ⟨l, fun x hx => by simp [h1 x hx], h2⟩
    · have := R_add (P := P ++ [s]) (s := s) (by simp) h
      rwa [show s + (n - s) = n by omega] at this

theorem R_nil {n : Nat} : R [] n ↔ n = 0 := by
  rw [R_head]; simp

theorem R_mono {P Q : List Nat} {n : Nat} (h : ∀ x ∈ P, x ∈ Q) (hr : R P n) : R Q n := by
  obtain ⟨l, h1, h2⟩ := hr
  exact ⟨l, fun x hx => h _ (h1 x hx), h2⟩

/-- A table of what can be made, the newest number first. -/
def rL (P : List Nat) : Nat → List Bool
  | 0 => [true]
  | n + 1 => (P.any fun s => (0 < s) && ((rL P n)[s - 1]?.getD false)) :: rL P n
def rB (P : List Nat) (n : Nat) : Bool := (rL P n).headD false

theorem rL_len (P : List Nat) (n : Nat) : (rL P n).length = n + 1 := by
  induction n with
  | zero => rfl
  | succ n ih => simp [rL, ih]

theorem rL_get (P : List Nat) (hp : ∀ s ∈ P, 0 < s) (n : Nat) : ∀ i, i ≤ n → ((rL P n)[i]?.getD false = true ↔ R P (n - i)) := by
  induction n with
  | zero => intro i hi; obtain rfl : i = 0 := by omega
            simp [rL, R_zero]
  | succ n ih =>
    intro i hi
    cases i with
    | zero =>
      simp only [rL, List.getElem?_cons_zero, Option.getD_some, List.any_eq_true, Bool.and_eq_true, decide_eq_true_eq]
      rw [R_head]
      constructor
      · rintro ⟨s, hs, h0, h⟩
        right
        have hlt : s - 1 < n + 1 := by
          rcases Nat.lt_or_ge (s - 1) (n + 1) with h' | h'
          · exact h'
          · rw [List.getElem?_eq_none (by rw [rL_len]; exact h')] at h
            simp at h
        refine ⟨s, hs, by omega, ?_⟩
        have := (ih (s - 1) (by omega)).1 h
        rwa [show n - (s - 1) = n + 1 - 0 - s by omega] at this
      · rintro (h | ⟨s, hs, hle, h⟩)
        · omega
        · refine ⟨s, hs, hp s hs, (ih (s - 1) (by have := hp s hs; omega)).2 ?_⟩
          rwa [show n - (s - 1) = n + 1 - 0 - s by have := hp s hs; omega]
    | succ i =>
      simp only [rL, List.getElem?_cons_succ]
      rw [ih i (by omega), show n + 1 - (i + 1) = n - i by omega]

theorem rB_iff {P : List Nat} (hp : ∀ s ∈ P, 0 < s) (n : Nat) : rB P n = true ↔ R P n := by
  have := rL_get P hp n 0 (by omega)
  have h2 := rL_len P n
  unfold rB
  cases h : rL P n with
  | nil => rw [h] at h2; simp at h2
  | cons a t => rw [h] at this; simpa using this

theorem rB_snoc {P : List Nat} {s n : Nat} (hp : ∀ x ∈ P, 0 < x) (hs : 0 < s) : rB (P ++ [s]) n = (rB P n || (decide (s ≤ n) && rB (P ++ [s]) (n - s))) := by
  have hp' : ∀ x ∈ P ++ [s], 0 < x := by
    intro x hx; rw [List.mem_append, List.mem_singleton] at hx
    rcases hx with h | h
    · exact hp x h
    · omega
  rw [Bool.eq_iff_iff, rB_iff hp', R_snoc, Bool.or_eq_true, Bool.and_eq_true, decide_eq_true_eq, rB_iff hp, rB_iff hp']
theorem rB_low {P : List Nat} {s n : Nat} (hp : ∀ x ∈ P, 0 < x) (hs : 0 < s) (h : n < s) : rB (P ++ [s]) n = rB P n := by
  rw [rB_snoc hp hs]; simp; omega
theorem rB_high {P : List Nat} {s n : Nat} (hp : ∀ x ∈ P, 0 < x) (hs : 0 < s) (h : s ≤ n) : rB (P ++ [s]) n = (rB P n || rB (P ++ [s]) (n - s)) := by
  rw [rB_snoc hp hs]; simp [h]
theorem rB_nil (n : Nat) : rB [] n = decide (n = 0) := by
  rw [Bool.eq_iff_iff, rB_iff (by simp), R_nil]; simp

/-! ### the fewest packets -/
/-- The smaller one of two numbers, if there are any. -/
def omin : Option Nat → Option Nat → Option Nat
  | none, b => b
  | some a, none => some a
  | some a, some b => some (min a b)

def upTo (f : Nat → Option Nat) (s n : Nat) : Nat → Option Nat
  | 0 => none
  | k + 1 => if k * s ≤ n then omin (upTo f s n k) ((f (n - k * s)).map (k + ·)) else upTo f s n k

/-- The fewest packets of sizes with a stock. -/
def few : List (Nat × Nat) → Nat → Option Nat
  | [], n => if n = 0 then some 0 else none
  | (s, c) :: r, n => upTo (few r) s n (c + 1)

theorem upTo_le {f : Nat → Option Nat} {s n : Nat} (hs : 0 < s) (hf : ∀ m v, f m = some v → v ≤ m) (k : Nat) : ∀ v, upTo f s n k = some v → v ≤ n := by
  induction k with
  | zero => intro v h; simp [upTo] at h
  | succ k ih =>
    intro v h
    simp only [upTo] at h
    split at h
    · rename_i hk
      have hkk : k ≤ k * s := Nat.le_mul_of_pos_right k hs
      cases h1 : upTo f s n k with
      | none =>
        rw [h1] at h
        cases h2 : f (n - k * s) with
        | none => rw [h2] at h; simp [omin] at h
        | some u => rw [h2] at h; simp [omin] at h; have := hf _ _ h2; omega
      | some a =>
        rw [h1] at h
        have := ih a h1
        cases h2 : f (n - k * s) with
        | none => rw [h2] at h; simp [omin] at h; omega
        | some u => rw [h2] at h; simp [omin] at h; have := hf _ _ h2; omega
    · exact ih v h

theorem few_le {l : List (Nat × Nat)} (hl : ∀ p ∈ l, 0 < p.1) : ∀ n v, few l n = some v → v ≤ n := by
  induction l with
  | nil => intro n v h; simp only [few] at h; split at h <;> simp at h; omega
  | cons p r ih =>
    obtain ⟨s, c⟩ := p
    intro n v h
    simp only [few] at h
    exact upTo_le (hl (s, c) (by simp)) (fun m u hu => ih (fun p hp => hl p (by simp [hp])) m u hu) _ v h

/-- Behind a number that stands for 'none'. -/
def fewN (N : Nat) (l : List (Nat × Nat)) (n : Nat) : Nat := (few l n).getD N
def upN (N : Nat) (l : List (Nat × Nat)) (s n k : Nat) : Nat := (upTo (few l) s n k).getD N

theorem upN_zero (N : Nat) (l : List (Nat × Nat)) (s n : Nat) : upN N l s n 0 = N := rfl
theorem upN_stop {N : Nat} {l : List (Nat × Nat)} {s n k : Nat} (h : ¬ k * s ≤ n) : upN N l s n (k + 1) = upN N l s n k := by
  simp [upN, upTo, h]
theorem upN_succ {N : Nat} {l : List (Nat × Nat)} {s n k : Nat} (hl : ∀ p ∈ l, 0 < p.1) (hs : 0 < s) (hn : n ≤ N) (h : k * s ≤ n) :
    upN N l s n (k + 1) = min (upN N l s n k) (k + fewN N l (n - k * s)) := by
  have hkk : k ≤ k * s := Nat.le_mul_of_pos_right k hs
  have h1 := fun v => upTo_le (n := n) hs (few_le hl) k v
  have h2 := fun v => few_le hl (n - k * s) v
  simp only [upN, upTo, if_pos h, fewN]
  cases e1 : upTo (few l) s n k with
  | none =>
    cases e2 : few l (n - k * s) with
    | none => simp [omin]
    | some u => simp [omin]; have := h2 _ e2; omega
  | some a =>
    have := h1 _ e1
    cases e2 : few l (n - k * s) with
    | none => simp [omin]; omega
    | some u => simp [omin]
theorem upN_rest {N : Nat} {l : List (Nat × Nat)} {s n k : Nat} (h : ¬ k * s ≤ n) : ∀ j, upN N l s n (k + j) = upN N l s n k := by
  intro j
  induction j with
  | zero => rfl
  | succ j ih =>
    rw [← Nat.add_assoc, upN_stop, ih]
    intro h'
    have : k * s ≤ (k + j) * s := Nat.mul_le_mul_right s (by omega)
    omega
theorem fewN_nil (N n : Nat) : fewN N [] n = if n = 0 then 0 else N := by
  simp only [fewN, few]; split <;> rfl
theorem fewN_cons (N s c : Nat) (r : List (Nat × Nat)) (n : Nat) : fewN N ((s, c) :: r) n = upN N r s n (c + 1) := rfl
theorem fewN_le {N : Nat} {l : List (Nat × Nat)} (hl : ∀ p ∈ l, 0 < p.1) {n : Nat} (hn : n ≤ N) : fewN N l n ≤ N := by
  unfold fewN
  cases h : few l n with
  | none => simp
  | some v => have := few_le hl n v h; simp; omega
theorem upN_le {N : Nat} {l : List (Nat × Nat)} {s n : Nat} (hl : ∀ p ∈ l, 0 < p.1) (hs : 0 < s) (hn : n ≤ N) (k : Nat) : upN N l s n k ≤ N := by
  unfold upN
  cases h : upTo (few l) s n k with
  | none => simp
  | some v => have := upTo_le hs (few_le hl) k v h; simp; omega
theorem fewN_none {N : Nat} {l : List (Nat × Nat)} (hl : ∀ p ∈ l, 0 < p.1) {n : Nat} (hn : n < N) : fewN N l n = N ↔ few l n = none := by
  unfold fewN
  cases h : few l n with
  | none => simp
  | some v => have := few_le hl n v h; simp; omega
theorem fewN_none' {N : Nat} {l : List (Nat × Nat)} (hl : ∀ p ∈ l, 0 < p.1) {n : Nat} (hn : n < N) : N ≤ fewN N l n ↔ few l n = none := by
  rw [← fewN_none hl hn]; have := fewN_le hl (Nat.le_of_lt hn); omega

/-! ### the best filling -/
/-- The smallest number of packets with which the rest needs no more. -/
def fits (s c : Nat) (r : List (Nat × Nat)) (n p : Nat) : Bool := decide (p * s ≤ n) && ((few r (n - p * s)).map (p + ·) == few ((s, c) :: r) n)
def firstP (s c : Nat) (r : List (Nat × Nat)) (n : Nat) : Nat := ((List.range (c + 1)).find? (fits s c r n)).getD 0
def bestL : List (Nat × Nat) → Nat → List Nat
  | [], _ => []
  | (s, c) :: r, n => firstP s c r n :: bestL r (n - firstP s c r n * s)

theorem upTo_hit {f : Nat → Option Nat} {s n : Nat} (k : Nat) : ∀ v, upTo f s n k = some v → ∃ p, p < k ∧ p * s ≤ n ∧ (f (n - p * s)).map (p + ·) = some v := by
  induction k with
  | zero => intro v h; simp [upTo] at h
  | succ k ih =>
    intro v h
    simp only [upTo] at h
    split at h
    · rename_i hk
      cases h1 : upTo f s n k with
      | none =>
        rw [h1] at h
        exact ⟨k, by omega, hk, by simpa [omin] using h⟩
      | some a =>
        rw [h1] at h
        cases h2 : f (n - k * s) with
        | none =>
          rw [h2] at h
          simp [omin] at h
          subst h
          obtain ⟨p, a1, a2, a3⟩ := ih a h1
          exact ⟨p, by omega, a2, a3⟩
        | some u =>
          rw [h2] at h
          simp [omin] at h
          rcases Nat.le_total a (k + u) with hle | hle
          · rw [Nat.min_eq_left hle] at h
            subst h
            obtain ⟨p, a1, a2, a3⟩ := ih a h1
            exact ⟨p, by omega, a2, a3⟩
          · rw [Nat.min_eq_right hle] at h
            exact ⟨k, by omega, hk, by rw [h2]; simp [h]⟩
    · obtain ⟨p, a1, a2, a3⟩ := ih v h
      exact ⟨p, by omega, a2, a3⟩

theorem firstP_spec {s c : Nat} {r : List (Nat × Nat)} {n v : Nat} (h : few ((s, c) :: r) n = some v) :
    firstP s c r n ≤ c ∧ fits s c r n (firstP s c r n) = true ∧ ∀ p, p < firstP s c r n → fits s c r n p = false := by
  obtain ⟨p, h1, h2, h3⟩ := upTo_hit (f := few r) (s := s) (n := n) (c + 1) v h
  have hp : fits s c r n p = true := by simp [fits, h2, h3, h]
  have hf : ((List.range (c + 1)).find? (fits s c r n)).isSome = true := by
    rw [List.find?_isSome]; exact ⟨p, by simp; omega, hp⟩
  obtain ⟨q, hq⟩ := Option.isSome_iff_exists.1 hf
  have e : firstP s c r n = q := by simp [firstP, hq]
  rw [e]
  have hm := List.mem_of_find?_eq_some hq
  simp at hm
  refine ⟨by omega, List.find?_some hq, fun j hj => ?_⟩
  rw [List.find?_range_eq_some] at hq
  simpa using hq.2.2 j hj

theorem fits_rest {s c : Nat} {r : List (Nat × Nat)} {n v : Nat} (h : few ((s, c) :: r) n = some v) :
    firstP s c r n * s ≤ n ∧ ∃ u, few r (n - firstP s c r n * s) = some u := by
  have := (firstP_spec h).2.1
  simp only [fits, Bool.and_eq_true, decide_eq_true_eq, beq_iff_eq] at this
  refine ⟨this.1, ?_⟩
  have h2 := this.2
  rw [h] at h2
  cases hh : few r (n - firstP s c r n * s) with
  | none => rw [hh] at h2; simp at h2
  | some u => exact ⟨u, rfl⟩

/-- The search's test, as the programs ask it. -/
theorem fits_iff {N s c : Nat} {r : List (Nat × Nat)} {n v p : Nat} (hl : ∀ q ∈ r, 0 < q.1) (hs : 0 < s) (hn : n < N) (h : few ((s, c) :: r) n = some v) :
    fits s c r n p = true ↔ p * s ≤ n ∧ p + fewN N r (n - p * s) = fewN N ((s, c) :: r) n := by
  simp only [fits, Bool.and_eq_true, decide_eq_true_eq, beq_iff_eq]
  refine and_congr_right fun hle => ?_
  have e : fewN N ((s, c) :: r) n = v := by simp [fewN, h]
  rw [h, e]
  cases hh : few r (n - p * s) with
  | none =>
    have hv := few_le (l := (s, c) :: r) (by intro q hq; rcases List.mem_cons.1 hq with rfl | hq; exact hs; exact hl q hq) n v h
    simp [fewN, hh]
    omega
  | some u => simp [fewN, hh]


/-! ### nw -/
/-- How many fillings: the size that comes first in the list is the one that was worked in last. -/
def wayTo (f : Nat → Nat) (s n : Nat) : Nat → Nat
  | 0 => 0
  | k + 1 => (if k * s ≤ n then wayTo f s n k + f (n - k * s) else wayTo f s n k)
def nw : List (Nat × Nat) → Nat → Nat
  | [], n => if n = 0 then 1 else 0
  | (s, c) :: r, n => wayTo (nw r) s n (c + 1)

theorem wayTo_stop {f : Nat → Nat} {s n k : Nat} (h : ¬ k * s ≤ n) : ∀ j, wayTo f s n (k + j) = wayTo f s n k := by
  intro j
  induction j with
  | zero => rfl
  | succ j ih =>
    rw [← Nat.add_assoc]
    have : k * s ≤ (k + j) * s := Nat.mul_le_mul_right s (by omega)
    simp only [wayTo]
    rw [if_neg (by omega), ih]
/-- One packet more, the first one taken off. -/
theorem wayTo_shift {f : Nat → Nat} {s n : Nat} (h : s ≤ n) (k : Nat) : wayTo f s n (k + 1) = f n + wayTo f s (n - s) k := by
  induction k with
  | zero => simp [wayTo]
  | succ k ih =>
    rw [wayTo, ih]
    simp only [wayTo]
    have e : (k + 1) * s = k * s + s := Nat.succ_mul k s
    by_cases hk : k * s ≤ n - s
    · rw [if_pos (by omega), if_pos hk, show n - (k + 1) * s = n - s - k * s by omega]; omega
    · rw [if_neg (by omega), if_neg hk]
theorem wayTo_last {f : Nat → Nat} {s n k : Nat} : wayTo f s n (k + 1) = wayTo f s n k + if k * s ≤ n then f (n - k * s) else 0 := by
  simp only [wayTo]; split <;> simp
/-- The law of the program's table. -/
theorem nw_step (s c : Nat) (r : List (Nat × Nat)) (n : Nat) :
    nw ((s, c) :: r) n + (if (c + 1) * s ≤ n then nw r (n - (c + 1) * s) else 0) = nw r n + (if s ≤ n then nw ((s, c) :: r) (n - s) else 0) := by
  simp only [nw]
  rw [← wayTo_last]
  by_cases h : s ≤ n
  · rw [if_pos h, wayTo_shift h]
  · rw [if_neg h]
    rw [show c + 1 + 1 = 1 + (c + 1) by omega, wayTo_stop (by omega)]
    simp [wayTo]
def prod1 : List (Nat × Nat) → Nat
  | [] => 1
  | (_, c) :: r => (c + 1) * prod1 r
theorem wayTo_bound {f : Nat → Nat} {B s n : Nat} (hf : ∀ m, f m ≤ B) (k : Nat) : wayTo f s n k ≤ k * B := by
  induction k with
  | zero => simp [wayTo]
  | succ k ih =>
    simp only [wayTo]
    have := hf (n - k * s)
    rw [Nat.succ_mul]
    split <;> omega
theorem nw_le (l : List (Nat × Nat)) : ∀ n, nw l n ≤ prod1 l := by
  induction l with
  | nil => intro n; simp only [nw, prod1]; split <;> omega
  | cons p r ih => obtain ⟨s, c⟩ := p; intro n; exact wayTo_bound ih (c + 1)
theorem prod1_le {l : List (Nat × Nat)} (h : ∀ p ∈ l, p.2 ≤ 1001) : prod1 l ≤ 1002 ^ l.length := by
  induction l with
  | nil => simp [prod1]
  | cons p r ih =>
    obtain ⟨s, c⟩ := p
    have h1 := ih fun p hp => h p (by simp [hp])
    have h2 := h (s, c) (by simp)
    simp only [prod1, List.length_cons, Nat.pow_succ]
    rw [Nat.mul_comm]
    exact Nat.mul_le_mul h1 (by simp at h2; omega)

end Go.Proofs.Ytjcoaicpeajpnaa.Pk
