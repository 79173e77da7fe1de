/- Clasp's reference: two positions. -/
import Derived.Test.YtenlmjnejjdnnaaDoorRcC
namespace Go.Proofs.YtenlmjnejjdnnaaDoor
open Go.RowKit Cl

set_option maxRecDepth 100000 in
set_option maxHeartbeats 1000000 in
theorem rc_both (A B : Option Addr) (n m : Nat) (xs ys : List Int) (ca cb : Nat) (w : World) (hx : Ints w A n xs) (hy : Ints w B m ys) (hl : n ≤ 9223372036854775807) (hl' : m ≤ 9223372036854775807) :
    Calls Tryd.prog 64 #[.slice A n ca, .slice B m cb] w fun e w' => e = .returned (.int .i64 (bothE xs ys)) ∧ w = w' := by
  have k1 := rc_Check A n xs ca w hx hl
  have k2 := rc_Check B m ys cb w hy hl'
  have e1 := hx.len
  have e2 := hy.len
  by_cases h0 : pchk xs = 0
  · rw [h0] at k1
    by_cases h1 : pchk ys = 0
    · rw [h1] at k2
      by_cases h2 : n = m
      · have hE := Lib.hid (show bothE xs ys = 0 by rw [bothE, if_pos h0, if_pos h1, if_pos (by omega)])
        have hne : ((n : Int) != (m : Int)) = false := by simp; omega
        subst h2
        clear h0 h1 e1 e2
        go_enter Tryd.func64, Tryd.ntmps64
        go_wp2_with fail
        refine k1.mono ?_; rintro e w1 ⟨rfl, rfl⟩
        go_wp2_with fail
        refine k2.mono ?_; rintro e w1 ⟨rfl, rfl⟩
        go_wp2_with fail
        go_ret
        exact ⟨ret_int (by rw [hE.out]), rfl⟩
      · have hE := Lib.hid (show bothE xs ys = 5 by rw [bothE, if_pos h0, if_pos h1, if_neg (by omega)])
        have hne : ((n : Int) != (m : Int)) = true := by simp; omega
        clear h0 h1 e1 e2
        go_enter Tryd.func64, Tryd.ntmps64
        go_wp2_with fail
        refine k1.mono ?_; rintro e w1 ⟨rfl, rfl⟩
        go_wp2_with fail
        refine k2.mono ?_; rintro e w1 ⟨rfl, rfl⟩
        go_wp2_with fail
        go_ret
        exact ⟨ret_int (by rw [hE.out]), rfl⟩
    · have hE := Lib.hid (show bothE xs ys = pchk ys by rw [bothE, if_pos h0, if_neg h1])
      have hne : (pchk ys == 0) = false := by simp [h1]
      clear h0 h1 e1 e2
      go_enter Tryd.func64, Tryd.ntmps64
      go_wp2_with fail
      refine k1.mono ?_; rintro e w1 ⟨rfl, rfl⟩
      go_wp2_with fail
      refine k2.mono ?_; rintro e w1 ⟨rfl, rfl⟩
      go_wp2_with fail
      go_ret
      exact ⟨ret_int (by rw [hE.out]), rfl⟩
  · have hE := Lib.hid (show bothE xs ys = pchk xs by rw [bothE, if_neg h0])
    have hne : (pchk xs == 0) = false := by simp [h0]
    clear h0 e1 e2
    go_enter Tryd.func64, Tryd.ntmps64
    go_wp2_with fail
    refine k1.mono ?_; rintro e w1 ⟨rfl, rfl⟩
    go_wp2_with fail
    go_ret
    exact ⟨ret_int (by rw [hE.out]), rfl⟩

/-- How far two numbers are apart. -/
def gap (a b : Nat) : Nat := max a b - min a b
theorem gap_num_lt {xs : List Int} {n : Nat} (h : xs.length = n) (hn : n ≤ 16) : num (onL xs) < 65536 := by
  have h1 := num_lt (onL xs)
  have h2 : 2 ^ (onL xs).length ≤ 2 ^ 16 := Nat.pow_le_pow_right (by decide) (by rw [onL_len]; omega)
  have h3 : (2 : Nat) ^ 16 = 65536 := by decide
  omega

set_option maxRecDepth 100000 in
set_option maxHeartbeats 1000000 in
theorem rc_distance (A B : Option Addr) (n m : Nat) (xs ys : List Int) (ca cb : Nat) (w : World) (hx : Ints w A n xs) (hy : Ints w B m ys) (hl : n ≤ 16) (hl' : m ≤ 16) (h1 : okTo xs n) (h2 : okTo ys m) :
    Calls Tryd.prog 62 #[.slice A n ca, .slice B m cb] w fun e w' => e = .returned (.int .i64 (gap (num (onL xs)) (num (onL ys)) : Nat)) ∧ w = w' := by
  have k1 := rc_number A n xs ca w hx hl h1
  have k2 := rc_number B m ys cb w hy hl' h2
  have g1 := gap_num_lt hx.len hl
  have g2 := gap_num_lt hy.len hl'
  generalize num (onL xs) = a at *
  generalize num (onL ys) = b at *
  have a0 : (0 : Int) ≤ (a : Int) := by omega
  have b0 : (0 : Int) ≤ (b : Int) := by omega
  have w1 : IntKind.i64.wrap ((a : Int) - b) = (a : Int) - b := wrap_ok (by omega) (by omega)
  have w2 : IntKind.i64.wrap ((b : Int) - a) = (b : Int) - a := wrap_ok (by omega) (by omega)
  rcases Nat.le_total a b with h | h
  · have hg := Lib.hid (show ((gap a b : Nat) : Int) = (b : Int) - a by unfold gap; omega)
    have h' : (a : Int) ≤ b := by omega
    clear g1 g2 h1 h2 hl hl' hx hy
    go_enter Tryd.func62, Tryd.ntmps62
    go_wp2_with fail
    refine k1.mono ?_; rintro e w1 ⟨rfl, rfl⟩
    go_wp2_with fail
    refine k2.mono ?_; rintro e w1 ⟨rfl, rfl⟩
    go_wp2_with fail
    all_goals go_ret
    all_goals exact ⟨ret_int (by rw [hg.out]; try omega), rfl⟩
  · have hg := Lib.hid (show ((gap a b : Nat) : Int) = (a : Int) - b by unfold gap; omega)
    have h' : (b : Int) ≤ a := by omega
    clear g1 g2 h1 h2 hl hl' hx hy
    go_enter Tryd.func62, Tryd.ntmps62
    go_wp2_with fail
    refine k1.mono ?_; rintro e w1 ⟨rfl, rfl⟩
    go_wp2_with fail
    refine k2.mono ?_; rintro e w1 ⟨rfl, rfl⟩
    go_wp2_with fail
    all_goals go_ret
    all_goals exact ⟨ret_int (by rw [hg.out]; try omega), rfl⟩

set_option maxRecDepth 100000 in
set_option maxHeartbeats 1000000 in
theorem rc_Distance (A B : Option Addr) (n m : Nat) (xs ys : List Int) (ca cb : Nat) (w : World) (hx : Ints w A n xs) (hy : Ints w B m ys) (hl : n ≤ 9223372036854775807) (hl' : m ≤ 9223372036854775807) :
    Calls Tryd.prog 30 #[.slice A n ca, .slice B m cb] w fun e w' => e = .returned (.tuple #[.int .i64 (if bothE xs ys = 0 then (gap (num (onL xs)) (num (onL ys)) : Nat) else 0), .int .i64 (bothE xs ys)]) ∧ w = w' := by
  have k1 := rc_both A B n m xs ys ca cb w hx hy hl hl'
  by_cases h0 : bothE xs ys = 0
  · have hok : pchk xs = 0 ∧ pchk ys = 0 := by
      unfold bothE at h0
      split at h0
      · rename_i a; split at h0
        · rename_i b; exact ⟨a, b⟩
        · rename_i b; exact absurd h0 b
      · rename_i a; exact absurd h0 a
    obtain ⟨p1, p2, p3⟩ := pchk_ok hx.len hok.1
    obtain ⟨q1, q2, q3⟩ := pchk_ok hy.len hok.2
    have k2 := rc_distance A B n m xs ys ca cb w hx hy p2 q2 p3 q3
    have H0 := Lib.hid h0
    rw [h0] at k1
    clear h0 hok
    go_enter Tryd.func30, Tryd.ntmps30
    go_wp2_with fail
    refine k1.mono ?_; rintro e w1 ⟨rfl, rfl⟩
    go_wp2_with fail
    refine k2.mono ?_; rintro e w1 ⟨rfl, rfl⟩
    go_wp2_with fail
    go_ret2
    exact ⟨rfl, rfl⟩
  · have hne : (bothE xs ys != 0) = true := by simp [h0]
    have H0 := Lib.hid h0
    clear h0
    go_enter Tryd.func30, Tryd.ntmps30
    go_wp2_with fail
    refine k1.mono ?_; rintro e w1 ⟨rfl, rfl⟩
    go_wp2_with fail
    go_ret2
    exact ⟨rfl, rfl⟩
end Go.Proofs.YtenlmjnejjdnnaaDoor
