/- Clasps: the next move, and ways. -/
import Derived.Test.YtenlmjnejjdnnaaDoorRcD
namespace Go.Proofs.YtenlmjnejjdnnaaDoor
open Go.RowKit Cl

/-- With how many zeros a number ends. -/
def tzN (v : Nat) : Nat := ((List.range 17).find? fun t => v % 2 ^ (t + 1) == 2 ^ t).getD 0
theorem tzN_of {v t : Nat} (h : v % 2 ^ (t + 1) = 2 ^ t) (ht : t ≤ 16) : tzN v = t := by
  unfold tzN
  cases hf : (List.range 17).find? fun t => v % 2 ^ (t + 1) == 2 ^ t with
  | none =>
    have := List.find?_eq_none.1 hf t (List.mem_range.2 (by omega))
    simp [h] at this
  | some s =>
    have := List.find?_some hf
    simp only [beq_iff_eq] at this
    exact tz_unique this h
/-- The ring that is moved towards a number. -/
def nextN (a b : Nat) : Nat := tzN (if a < b then a + 1 else a)
theorem next_spec {l : List Bool} {b : Nat} (hl : l.length ≤ 16) (hb : b < 2 ^ l.length) (hne : num l ≠ b) :
    nextN (num l) b < l.length ∧ can l (nextN (num l) b) = true ∧ num (flip l (nextN (num l) b)) = if num l < b then num l + 1 else num l - 1 := by
  by_cases h : num l < b
  · obtain ⟨k, h1, h2, h3⟩ := up_move l (by omega)
    have h4 := move_tz l k h1 h2
    rw [h3, show max (num l) (num l + 1) = num l + 1 by omega] at h4
    have e : nextN (num l) b = k := by rw [nextN, if_pos h]; exact tzN_of h4 (by omega)
    rw [e, if_pos h]; exact ⟨h1, h2, h3⟩
  · obtain ⟨k, h1, h2, h3⟩ := down_move l (by omega)
    have h4 := move_tz l k h1 h2
    rw [show max (num l) (num (flip l k)) = num l by omega] at h4
    have e : nextN (num l) b = k := by rw [nextN, if_neg h]; exact tzN_of h4 (by omega)
    rw [e, if_neg h]; exact ⟨h1, h2, by omega⟩
theorem next_uniq {l : List Bool} {b j : Nat} (hl : l.length ≤ 16) (hne : num l ≠ b) (hj : j < l.length) (hc : can l j = true) (hg : gap (num (flip l j)) b ≤ gap (num l) b) : j = nextN (num l) b := by
  have h4 := move_tz l j hj hc
  have h5 := move_one l j hj hc
  unfold gap at hg
  rw [nextN]
  symm
  by_cases h : num l < b
  · rw [if_pos h]
    rw [show max (num l) (num (flip l j)) = num l + 1 by omega] at h4
    exact tzN_of h4 (by omega)
  · rw [if_neg h]
    rw [show max (num l) (num (flip l j)) = num l by omega] at h4
    exact tzN_of h4 (by omega)
theorem gap_step {a b : Nat} (h : a ≠ b) : gap (if a < b then a + 1 else a - 1) b + 1 = gap a b := by
  unfold gap; split <;> omega
theorem gap_zero {a b : Nat} : gap a b = 0 ↔ a = b := by unfold gap; omega

/-- The number after so many moves. -/
def atN (a b i : Nat) : Nat := if b < a then a - i else a + i
theorem atN_zero (a b : Nat) : atN a b 0 = a := by unfold atN; split <;> omega
theorem atN_succ {a b i : Nat} (h : i < gap a b) : atN a b (i + 1) = if atN a b i < b then atN a b i + 1 else atN a b i - 1 := by
  unfold atN gap at *; split <;> split <;> omega
theorem atN_gap {a b i : Nat} (h : i ≤ gap a b) : gap (atN a b i) b = gap a b - i := by
  unfold atN gap at *; split <;> omega
/-- A shortest way. -/
def wayTo (a b i : Nat) : List Int := (List.range i).map fun j => ((nextN (atN a b j) b : Nat) : Int)
theorem wayTo_len (a b i : Nat) : (wayTo a b i).length = i := by simp [wayTo]
theorem wayTo_succ (a b i : Nat) : wayTo a b (i + 1) = wayTo a b i ++ [((nextN (atN a b i) b : Nat) : Int)] := by simp [wayTo, List.range_succ]
theorem At_wayTo {a b i j : Nat} (h : j < i) : At (wayTo a b i) j = ((nextN (atN a b j) b : Nat) : Int) := by simp [At, wayTo, h]

theorem onL_il (l : List Bool) : onL (il l) = l := by
  refine bit_ext (by simp [onL, il]) fun k hk => ?_
  have hk' : k < l.length := by simpa [onL, il] using hk
  rw [bit_onL, At_il l k hk']
  cases bit l k <;> rfl
theorem okTo_il (l : List Bool) (n : Nat) (hn : n ≤ l.length) : okTo (il l) n := fun j hj => by
  rw [At_il l j (by omega)]
  cases bit l j
  · exact .inl rfl
  · exact .inr rfl

set_option maxRecDepth 100000 in
set_option maxHeartbeats 4000000 in
theorem rc_next (A B : Option Addr) (n : Nat) (xs ys : List Int) (ca cb : Nat) (w : World) (hx : Ints w A n xs) (hy : Ints w B n ys) (hl : n ≤ 16) (h1 : okTo xs n) (h2 : okTo ys n) (hne : num (onL xs) ≠ num (onL ys)) :
    Calls Tryd.prog 66 #[.slice A n ca, .slice B n cb] w fun e w' => e = .returned (.int .i64 (nextN (num (onL xs)) (num (onL ys)) : Nat)) ∧ Below w.heap.size w w' := by
  have ex := hx.len
  have ey := hy.len
  have hb : num (onL ys) < 2 ^ (onL xs).length := by
    have := num_lt (onL ys); rw [onL_len, ey] at this; rw [onL_len, ex]; exact this
  have hlx : (onL xs).length = n := by rw [onL_len, ex]
  obtain ⟨s1, s2, s3⟩ := next_spec (l := onL xs) (by omega) hb hne
  have huniq := fun j hj hc hg => next_uniq (l := onL xs) (b := num (onL ys)) (j := j) (by omega) hne hj hc hg
  generalize hK : nextN (num (onL xs)) (num (onL ys)) = K at *
  rw [hlx] at s1
  have S2 := Lib.hid s2
  have S3 := Lib.hid (show gap (num (flip (onL xs) K)) (num (onL ys)) + 1 = gap (num (onL xs)) (num (onL ys)) by rw [s3]; exact gap_step hne)
  have U := Lib.hid huniq
  clear s2 s3 huniq hb hne
  go_enter Tryd.func66, Tryd.ntmps66
  go_wp2_with fail
  go_loopw [5] (fun i wr => ∃ k : Nat, k ≤ K ∧ i = .int .i64 k ∧ Below w.heap.size w wr) (fun i _ => K - (intOf i).toNat)
  case atStart => exact ⟨0, by omega, rfl, Below.refl _ _⟩
  case round =>
    obtain ⟨k, hk, rfl, hw⟩ := hrel
    have HX := hx.below hw
    have HY := hy.below hw
    have hca := rc_can A n xs ca k wr HX (by omega) (by omega)
    have hki : (0 : Int) ≤ (k : Int) := by omega
    have hk1 : (k : Int) ≤ 16 := by omega
    by_cases hc : can (onL xs) k = true
    · have hmv := rc_moved A n xs ca k wr HX hl h1 (by omega)
      rw [hc] at hca
      have hd2 := fun W (hW : Below wr.heap.size wr W) => rc_distance A B n n xs ys ca cb W (HX.below hW) (HY.below hW) hl hl h1 h2
      have hd1 := fun W (hW : Below wr.heap.size wr W) A' c (hI : Ints W A' n (il (flip (onL xs) k))) => rc_distance A' B n n (il (flip (onL xs) k)) ys c cb W hI (HY.below hW) hl hl (okTo_il _ _ (by rw [flip_len, hlx]; exact Nat.le_refl _)) h2
      simp only [onL_il] at hd1
      by_cases hkK : k = K
      · subst hkK
        have hg : ((gap (num (flip (onL xs) k)) (num (onL ys)) : Nat) : Int) < ((gap (num (onL xs)) (num (onL ys)) : Nat) : Int) := by have := S3.out; omega
        clear hc S2 S3 U
        generalize gap (num (flip (onL xs) k)) (num (onL ys)) = g1 at *
        generalize gap (num (onL xs)) (num (onL ys)) = g2 at *
        go_wp2_with fail
        refine hca.mono ?_; rintro e w1 ⟨rfl, rfl⟩
        go_wp2_with fail
        refine hmv.mono ?_; rintro e w1 ⟨A1, c1, rfl, hI1, b1⟩
        have k1 := hd1 w1 b1 A1 c1 hI1
        have k2 := hd2 w1 b1
        go_wp2_with fail
        refine k1.mono ?_; rintro e w2 ⟨rfl, rfl⟩
        go_wp2_with fail
        refine k2.mono ?_; rintro e w2 ⟨rfl, rfl⟩
        go_wp2_with fail
        go_ret
        exact ⟨ret_int rfl, hw.trans (b1.mono hw.size)⟩
      · have hg : ((gap (num (onL xs)) (num (onL ys)) : Nat) : Int) < ((gap (num (flip (onL xs) k)) (num (onL ys)) : Nat) : Int) :=
          Int.ofNat_lt.2 (Nat.lt_of_not_le fun h => hkK (U.out k (by omega) hc h))
        have hkK' : k < K := by omega
        clear hc S2 S3 U
        generalize gap (num (flip (onL xs) k)) (num (onL ys)) = g1 at *
        generalize gap (num (onL xs)) (num (onL ys)) = g2 at *
        go_wp2_with fail
        refine hca.mono ?_; rintro e w1 ⟨rfl, rfl⟩
        go_wp2_with fail
        refine hmv.mono ?_; rintro e w1 ⟨A1, c1, rfl, hI1, b1⟩
        have k1 := hd1 w1 b1 A1 c1 hI1
        have k2 := hd2 w1 b1
        go_wp2_with fail
        refine k1.mono ?_; rintro e w2 ⟨rfl, rfl⟩
        go_wp2_with fail
        refine k2.mono ?_; rintro e w2 ⟨rfl, rfl⟩
        go_wp2_with fail
        exact ⟨⟨k + 1, by omega, by go_num, hw.trans (b1.mono hw.size)⟩, by simp [intOf]; omega⟩
    · have hkK : k < K := by
        rcases Nat.lt_or_ge k K with h | h
        · exact h
        · exfalso; apply hc; have : k = K := by omega
          rw [this]; exact S2.out
      have hc' : can (onL xs) k = false := by simpa using hc
      rw [hc'] at hca
      clear hc hc' S2 S3 U
      go_wp2_with fail
      refine hca.mono ?_; rintro e w1 ⟨rfl, rfl⟩
      go_wp2_with fail
      exact ⟨⟨k + 1, by omega, by go_num, hw⟩, by simp [intOf]; omega⟩
end Go.Proofs.YtenlmjnejjdnnaaDoor
