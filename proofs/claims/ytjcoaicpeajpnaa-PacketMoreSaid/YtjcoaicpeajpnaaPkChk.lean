/- The checks of arguments. -/
import Derived.Test.YtjcoaicpeajpnaaPkKit
namespace Go.Proofs.Ytjcoaicpeajpnaa
open Go.RowKit Pk

/-- The error of the size at a place. -/
def chk1 (xs : List Int) (k : Nat) : Int :=
  if At xs k < 1 ∨ 30 < At xs k then 1 else if 0 < k ∧ At xs k ≤ At xs (k - 1) then 7 else 0
/-- The first error of the first k sizes. -/
def chkTo (xs : List Int) : Nat → Int
  | 0 => 0
  | k + 1 => if chkTo xs k = 0 then chk1 xs k else chkTo xs k
def chk (xs : List Int) : Int := if xs.length = 0 then 4 else if 5 < xs.length then 3 else chkTo xs xs.length

theorem chkTo_stay {xs : List Int} {k : Nat} (h : chkTo xs k ≠ 0) : ∀ j, chkTo xs (k + j) = chkTo xs k := by
  intro j
  induction j with
  | zero => rfl
  | succ j ih => rw [← Nat.add_assoc, chkTo, if_neg (by rw [ih]; exact h), ih]
theorem chkTo_hit {xs : List Int} {k n : Nat} (h0 : chkTo xs k = 0) (h : chk1 xs k ≠ 0) (hk : k < n) : chkTo xs n = chk1 xs k := by
  have e : chkTo xs (k + 1) = chk1 xs k := by rw [chkTo, if_pos h0]
  have := chkTo_stay (xs := xs) (k := k + 1) (by rw [e]; exact h) (n - (k + 1))
  rw [show k + 1 + (n - (k + 1)) = n by omega, e] at this
  exact this
theorem chkTo_pass {xs : List Int} {k : Nat} (h0 : chkTo xs k = 0) (h : chk1 xs k = 0) : chkTo xs (k + 1) = 0 := by
  rw [chkTo, if_pos h0, h]
theorem chk_len {xs : List Int} {n : Nat} (h : xs.length = n) (h1 : n ≠ 0) (h2 : n ≤ 5) : chk xs = chkTo xs n := by
  subst h; rw [chk, if_neg h1, if_neg (by omega)]
theorem chk_hit {xs : List Int} {k n : Nat} {e : Int} (hl : xs.length = n) (h2 : n ≤ 5) (h0 : chkTo xs k = 0) (hk : k < n) (he : chk1 xs k = e) (hne : e ≠ 0) : chk xs = e := by
  rw [chk_len hl (by omega) h2, chkTo_hit h0 (by rw [he]; exact hne) hk, he]

set_option maxHeartbeats 400000 in
theorem pk_Check (A : Option Addr) (n : Nat) (xs : List Int) (ca : Nat) (w : World) (hx : Ints w A n xs) (hl : n ≤ 1000000000) :
    Calls Try.prog 26 #[.slice A n ca] w fun e w' => e = .returned (.int .i64 (chk xs)) ∧ w = w' := by
  have hxl := Lib.hid hx.len
  by_cases h0 : n = 0
  · subst h0
    have hb0 : (((0 : Nat) : Int) == 0) = true := rfl
    go_enter Try.func26, Try.ntmps26
    go_wp2
    go_ret
    exact ⟨ret_int (by rw [chk, if_pos hxl.out]), rfl⟩
  by_cases h5 : 5 < n
  · go_enter Try.func26, Try.ntmps26
    go_wp2
    go_ret
    exact ⟨ret_int (by rw [chk, if_neg (by rw [hxl.out]; exact h0), if_pos (by rw [hxl.out]; exact h5)]), rfl⟩
  have h5' : n ≤ 5 := by omega
  have hb0 : ((n : Int) == 0) = false := by simp; omega
  clear h5
  go_enter Try.func26, Try.ntmps26
  go_wp2
  go_loop [13] (fun i => ∃ k : Nat, k ≤ n ∧ i = .int .i64 k ∧ Hid (chkTo xs k = 0)) (fun i => n - (intOf i).toNat)
  case atStart => exact ⟨0, by omega, rfl, rfl⟩
  case round =>
    obtain ⟨k, hk, rfl, hz⟩ := hrel
    by_cases hlt : k < n
    · obtain ⟨b, off, rfl, hb, hc⟩ := hx.at_ hlt
      have hki : (0 : Int) ≤ (k : Int) := by omega
      have hkn : (k : Int) < n := by omega
      by_cases h1 : At xs k < 1
      · go_wp2
        go_ret
        exact ⟨ret_int (by rw [chk_hit hxl.out h5' hz.out hlt (e := 1) (by rw [chk1, if_pos (.inl h1)]) (by decide)]), rfl⟩
      by_cases h2 : 30 < At xs k
      · go_wp2
        go_ret
        exact ⟨ret_int (by rw [chk_hit hxl.out h5' hz.out hlt (e := 1) (by rw [chk1, if_pos (.inr h2)]) (by decide)]), rfl⟩
      by_cases hk0 : k = 0
      · subst hk0
        rw [Nat.add_zero] at hc
        go_wp2
        go_round
        case rel => exact ⟨1, by omega, by go_num, chkTo_pass hz.out (by rw [chk1, if_neg (by omega), if_neg (by omega)])⟩
        case measure => simp [intOf]; omega
      · obtain ⟨b', off', e, hb', hc'⟩ := hx.at_ (k := k - 1) (by omega)
        cases e
        have hk1 : (1 : Int) ≤ (k : Int) := by omega
        have hk2 : (0 : Int) < (k : Int) := by omega
        by_cases h3 : At xs k ≤ At xs (k - 1)
        · go_wp2
          go_ret
          exact ⟨ret_int (by rw [chk_hit hxl.out h5' hz.out hlt (e := 7) (by rw [chk1, if_neg (by omega), if_pos ⟨by omega, h3⟩]) (by decide)]), rfl⟩
        · go_wp2
          go_round
          case rel => exact ⟨k + 1, by omega, by go_num, chkTo_pass hz.out (by rw [chk1, if_neg (by omega), if_neg (by omega)])⟩
          case measure => simp [intOf]; omega
    · obtain rfl : k = n := by omega
      go_wp2
      go_ret
      exact ⟨ret_int (by rw [chk_len hxl.out h0 h5', hz.out]), rfl⟩

end Go.Proofs.Ytjcoaicpeajpnaa
