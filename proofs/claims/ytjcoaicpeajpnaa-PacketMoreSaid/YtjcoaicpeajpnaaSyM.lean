/- Plain mathematics of two sizes without a common divisor: of two numbers with the sum a b - a - b just one can be made. -/
import Derived.Test.YtjcoaicpeajpnaaRfM
namespace Go.Proofs.Ytjcoaicpeajpnaa
open Go.RowKit Pk

theorem bezout (a b : Nat) : ∃ u v : Int, (Nat.gcd a b : Int) = u * a + v * b := by
  induction a, b using Nat.gcd.induction with
  | H0 n => exact ⟨0, 1, by simp⟩
  | H1 m n hm ih =>
    obtain ⟨u, v, h⟩ := ih
    refine ⟨v - u * ((n / m : Nat) : Int), u, ?_⟩
    rw [Nat.gcd_rec, h]
    have e : ((n % m : Nat) : Int) = (n : Int) - (m : Int) * ((n / m : Nat) : Int) := by
      have := Nat.div_add_mod n m
      have h2 : ((m * (n / m) + n % m : Nat) : Int) = (n : Int) := by rw [this]
      rw [Int.natCast_add, Int.natCast_mul] at h2
      omega
    rw [e, Int.mul_sub, Int.sub_mul]
    have : u * ((m : Int) * ((n / m : Nat) : Int)) = u * ((n / m : Nat) : Int) * (m : Int) := by
      rw [Int.mul_assoc, Int.mul_comm ((n / m : Nat) : Int) (m : Int)]
    omega

theorem R_two {a b n : Nat} : R [a, b] n ↔ ∃ x y : Nat, n = x * a + y * b := by
  constructor
  · rintro ⟨l, h1, h2⟩
    induction l generalizing n with
    | nil => exact ⟨0, 0, by simp at h2; omega⟩
    | cons s t ih =>
      obtain ⟨x, y, h⟩ := ih (n := t.sum) (fun z hz => h1 z (by simp [hz])) rfl
      have hs := h1 s (by simp)
      simp at hs h2
      rcases hs with rfl | rfl
      · exact ⟨x + 1, y, by rw [Nat.add_mul]; omega⟩
      · exact ⟨x, y + 1, by rw [Nat.add_mul]; omega⟩
  · rintro ⟨x, y, rfl⟩
    induction x with
    | zero =>
      induction y with
      | zero => simpa using R_zero _
      | succ y ih =>
        have := R_add (P := [a, b]) (s := b) (by simp) ih
        rwa [show b + (0 * a + y * b) = 0 * a + (y + 1) * b by rw [Nat.add_mul]; omega] at this
    | succ x ih =>
      have := R_add (P := [a, b]) (s := a) (by simp) ih
      rwa [show a + (x * a + y * b) = (x + 1) * a + y * b by rw [Nat.add_mul]; omega] at this

/-- Every number is x a + y b with x from 0 to b - 1. -/
theorem syl_form {a b : Nat} (hb : 0 < b) (hg : Nat.gcd a b = 1) (n : Int) : ∃ x y : Int, 0 ≤ x ∧ x < b ∧ n = x * a + y * b := by
  obtain ⟨u, v, h⟩ := bezout a b
  rw [hg] at h
  refine ⟨(n * u) % b, n * v + (n * u) / b * a, Int.emod_nonneg _ (by omega), Int.emod_lt_of_pos _ (by omega), ?_⟩
  have e : (n * u) % b = n * u - b * ((n * u) / b) := Int.emod_def _ _
  rw [e]
  have h1 : n = n * (u * a + v * b) := by rw [← h]; simp
  rw [Int.mul_add] at h1
  rw [Int.sub_mul, Int.add_mul]
  have e1 : n * u * a = n * (u * a) := Int.mul_assoc _ _ _
  have e2 : n * v * b = n * (v * b) := Int.mul_assoc _ _ _
  have e3 : (b : Int) * (n * u / b) * a = n * u / b * a * b := by
    rw [Int.mul_comm (b : Int) (n * u / b), Int.mul_assoc, Int.mul_assoc, Int.mul_comm (b : Int) (a : Int)]
  omega
/-- It can be made just if its y is not less than 0. -/
theorem syl_sign {a b n : Nat} (hb : 0 < b) (hg : Nat.gcd a b = 1) {x y : Int} (hx0 : 0 ≤ x) (hx : x < b) (hn : (n : Int) = x * a + y * b) : R [a, b] n ↔ 0 ≤ y := by
  rw [R_two]
  constructor
  · rintro ⟨p, q, h⟩
    have h' : (p : Int) * a + (q : Int) * b = x * a + y * b := by
      rw [← hn, h]; simp
    -- b divides (p - x) a, so it divides p - x
    have hd : (b : Int) ∣ ((p : Int) - x) * a := ⟨y - q, by rw [Int.sub_mul, Int.mul_sub, Int.mul_comm (b : Int) y, Int.mul_comm (b : Int) (q : Int)]; omega⟩
    have hd2 : (b : Int) ∣ (p : Int) - x := by
      obtain ⟨u, v, hu⟩ := bezout a b
      rw [hg] at hu
      obtain ⟨t, ht⟩ := hd
      refine ⟨u * t + v * ((p : Int) - x), ?_⟩
      have h1 : (p : Int) - x = ((p : Int) - x) * (u * a + v * b) := by rw [← hu]; simp
      rw [Int.mul_add] at h1
      have e1 : ((p : Int) - x) * (u * a) = (b : Int) * (u * t) := by
        rw [Int.mul_left_comm, ht, Int.mul_left_comm]
      have e2 : ((p : Int) - x) * (v * b) = (b : Int) * (v * ((p : Int) - x)) := by
        rw [← Int.mul_assoc, Int.mul_comm ((p : Int) - x) v, Int.mul_comm]
      rw [e1, e2] at h1
      rw [Int.mul_add]
      exact h1
    obtain ⟨t, ht⟩ := hd2
    have ht0 : 0 ≤ t := by
      rcases Int.lt_or_le t 0 with h0 | h0
      · have : (b : Int) * t ≤ (b : Int) * (-1) := Int.mul_le_mul_of_nonneg_left (by omega) (by omega)
        omega
      · exact h0
    -- q b = y b - t b a, so y = q + t a
    have hy : y * b = ((q : Int) + t * a) * b := by
      have hp : (p : Int) = x + b * t := by omega
      rw [hp, Int.add_mul] at h'
      rw [Int.add_mul]
      have : (b : Int) * t * a = t * a * b := by rw [Int.mul_comm (b : Int) t, Int.mul_assoc, Int.mul_assoc, Int.mul_comm (b : Int) (a : Int)]
      omega
    have hy2 : y = (q : Int) + t * a := Int.eq_of_mul_eq_mul_right (by omega) hy
    have : 0 ≤ t * (a : Int) := Int.mul_nonneg ht0 (by omega)
    omega
  · intro hy
    obtain ⟨p, rfl⟩ := Int.eq_ofNat_of_zero_le hx0
    obtain ⟨q, rfl⟩ := Int.eq_ofNat_of_zero_le hy
    exact ⟨p, q, by exact_mod_cast hn⟩

/-- Of two numbers with the sum a b - a - b just one can be made. -/
theorem syl_pair {a b n m : Nat} (hb : 0 < b) (hg : Nat.gcd a b = 1) (h : (n : Int) + m = (a : Int) * b - a - b) : R [a, b] n ↔ ¬ R [a, b] m := by
  obtain ⟨x, y, hx0, hx, hn⟩ := syl_form hb hg n
  have hm : (m : Int) = ((b : Int) - 1 - x) * a + (-1 - y) * b := by
    rw [Int.sub_mul, Int.sub_mul, Int.sub_mul, Int.mul_comm (b : Int) (a : Int)]
    omega
  rw [syl_sign hb hg hx0 hx hn, syl_sign hb hg (x := (b : Int) - 1 - x) (y := -1 - y) (by omega) (by omega) hm]
  omega
/-- All greater numbers can be made. -/
theorem syl_above {a b n : Nat} (hb : 0 < b) (hg : Nat.gcd a b = 1) (h : (a : Int) * b - a - b < n) : R [a, b] n := by
  obtain ⟨x, y, hx0, hx, hn⟩ := syl_form hb hg n
  rw [syl_sign hb hg hx0 hx hn]
  rcases Int.lt_or_le y 0 with h0 | h0
  · have h1 : x * (a : Int) ≤ ((b : Int) - 1) * a := Int.mul_le_mul_of_nonneg_right (by omega) (by omega)
    have h2 : y * (b : Int) ≤ (-1) * b := Int.mul_le_mul_of_nonneg_right (by omega) (by omega)
    rw [Int.sub_mul, Int.mul_comm (b : Int) (a : Int)] at h1
    omega
  · exact h0

theorem filter_pair {p : Nat → Bool} {N : Nat} (h : ∀ x, x < N → p (N - 1 - x) = !p x) : 2 * ((List.range N).filter p).length = N := by
  have h1 : ((List.range N).filter p).length = ((List.range N).filter (fun x => !p x)).length := by
    have e : (List.range N).reverse = (List.range N).map (fun x => N - 1 - x) := by
      apply List.ext_getElem (by simp)
      intro i h1 h2
      simp at h1
      simp [List.getElem_reverse]
    rw [← List.countP_eq_length_filter, ← List.countP_eq_length_filter, ← List.countP_reverse, e, List.countP_map]
    exact List.countP_congr fun x hx => by
      have := h x (List.mem_range.1 hx)
      simp [this]
  have h2 := List.length_eq_countP_add_countP p (l := List.range N)
  rw [List.length_range, List.countP_eq_length_filter, List.countP_eq_length_filter] at h2
  have h3 : (List.range N).filter (fun x => decide ¬p x = true) = (List.range N).filter (fun x => !p x) := by
    congr 1; funext x; simp
  rw [h3] at h2
  omega
end Go.Proofs.Ytjcoaicpeajpnaa
