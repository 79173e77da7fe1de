/- Clasp's reference: Moves and Move. -/
import Derived.Test.YtenlmjnejjdnnaaDoorRcA
namespace Go.Proofs.YtenlmjnejjdnnaaDoor
open Go.RowKit Cl

set_option maxRecDepth 100000 in
set_option maxHeartbeats 1000000 in
theorem rc_Moves (A : Option Addr) (n : Nat) (xs : List Int) (ca : Nat) (w : World) (hx : Ints w A n xs) (hl : n ≤ 9223372036854775807) :
    Calls Tryd.prog 17 #[.slice A n ca] w fun e w' => GivL e w w' (movsL xs) (pchk xs) := by
  have hck := rc_Check A n xs ca w hx hl
  by_cases h0 : pchk xs = 0
  · obtain ⟨p1, p2, p3⟩ := pchk_ok hx.len h0
    have hV := Lib.hid (show movsL xs = looseTo (onL xs) n by rw [movsL, if_pos h0, hx.len])
    rw [h0] at hck
    have H0 := Lib.hid h0; clear h0
    go_enter Tryd.func17, Tryd.ntmps17
    go_wp2_with fail
    refine hck.mono ?_; rintro e w1 ⟨rfl, rfl⟩
    go_wp2_with fail
    go_loopw [5, 6] (fun v i wr => ∃ k : Nat, k ≤ n ∧ i = .int .i64 k ∧ OwnI wr w.heap.size v (looseTo (onL xs) k) ∧ Below w.heap.size w wr) (fun _ i _ => n - (intOf i).toNat)
    case atStart => exact ⟨0, by omega, rfl, OwnI.nil_ _ _, Below.refl _ _⟩
    case round =>
      obtain ⟨k, hk, rfl, hown, hw⟩ := hrel
      have hsz := hw.size
      have hll := looseTo_len (onL xs) k
      by_cases hlt : k < n
      · have hca := rc_can A n xs ca k wr (hx.below hw) hl (by omega)
        have hki : (0 : Int) ≤ (k : Int) := by omega
        have hkn : (k : Int) < n := by omega
        rcases Bool.eq_false_or_eq_true (can (onL xs) k) with hc | hc <;> rw [hc] at hca
        · have he := Lib.hid (looseTo_hit hc)
          clear hc
          go_wp2_with fail
          refine hca.mono ?_; rintro e w' ⟨rfl, rfl⟩
          go_wp2_with (at_builtin; refine wpList_appI rfl _ _ rfl w.heap.size _ (looseTo (onL xs) k) k (by rfl) hown (by omega) (by omega) (by rfl) ?_; intro v' w' hown' hb')
          exact ⟨⟨k + 1, by omega, by go_num, by rw [he.out]; exact hown', hb' _ hw⟩, by simp [intOf]; omega⟩
        · have he := Lib.hid (looseTo_miss hc)
          clear hc
          go_wp2_with fail
          refine hca.mono ?_; rintro e w' ⟨rfl, rfl⟩
          go_wp2_with fail
          exact ⟨⟨k + 1, by omega, by go_num, by rw [he.out]; exact hown, hw⟩, by simp [intOf]; omega⟩
      · obtain rfl : k = n := by omega
        obtain ⟨A', c', rfl, hI⟩ := hown.form
        go_wp2_with fail
        go_ret2
        unfold GivL
        rw [hV.out, H0.out]
        exact ⟨_, _, rfl, hI, hw⟩
  · have hne : (pchk xs != 0) = true := by simp [h0]
    have hV := Lib.hid (show movsL xs = [] by rw [movsL, if_neg h0])
    clear h0
    go_enter Tryd.func17, Tryd.ntmps17
    go_wp2_with fail
    refine hck.mono ?_; rintro e w1 ⟨rfl, rfl⟩
    go_wp2_with fail
    go_ret2
    unfold GivL
    rw [hV.out]
    exact ⟨none, 0, rfl, Ints.nil_ _ _, Below.refl _ _⟩

set_option maxRecDepth 100000 in
set_option maxHeartbeats 1000000 in
theorem rc_step (A : Option Addr) (n : Nat) (xs : List Int) (ca : Nat) (r : Int) (w : World) (hx : Ints w A n xs) (hl : n ≤ 9223372036854775807) :
    Calls Tryd.prog 54 #[.slice A n ca, .int .i64 r] w fun e w' => e = .returned (.int .i64 (movE (onL xs) r)) ∧ w = w' := by
  have hlen : (onL xs).length = n := by rw [onL_len, hx.len]
  by_cases h0 : r < 0
  · have hV := Lib.hid (show movE (onL xs) r = 2 by rw [movE, if_neg (by omega)])
    go_enter Tryd.func54, Tryd.ntmps54
    go_wp2
    go_ret
    exact ⟨ret_int (by rw [hV.out]), rfl⟩
  by_cases h1 : (n : Int) ≤ r
  · have hV := Lib.hid (show movE (onL xs) r = 2 by rw [movE, if_neg (by omega)])
    go_enter Tryd.func54, Tryd.ntmps54
    go_wp2
    go_ret
    exact ⟨ret_int (by rw [hV.out]), rfl⟩
  · obtain ⟨k, rfl⟩ := Int.eq_ofNat_of_zero_le (show 0 ≤ r by omega)
    have hca := rc_can A n xs ca k w hx hl (by omega)
    have hV : movE (onL xs) (k : Int) = if can (onL xs) k then 0 else 20 := by rw [movE, if_pos (by omega), Int.toNat_natCast]
    have hki : (0 : Int) ≤ (k : Int) := by omega
    have hkn : (k : Int) < n := by omega
    rcases Bool.eq_false_or_eq_true (can (onL xs) k) with hc | hc <;> rw [hc] at hca hV
    · have hV := Lib.hid hV
      clear hc
      go_enter Tryd.func54, Tryd.ntmps54
      go_wp2_with fail
      refine hca.mono ?_; rintro e w' ⟨rfl, rfl⟩
      go_wp2_with fail
      go_ret
      exact ⟨ret_int (by rw [hV.out]; rfl), rfl⟩
    · have hV := Lib.hid hV
      clear hc
      go_enter Tryd.func54, Tryd.ntmps54
      go_wp2_with fail
      refine hca.mono ?_; rintro e w' ⟨rfl, rfl⟩
      go_wp2_with fail
      go_ret
      exact ⟨ret_int (by rw [hV.out]; rfl), rfl⟩

theorem movE_ok {l : List Bool} {r : Int} (h : movE l r = 0) : ∃ k : Nat, r = k ∧ k < l.length ∧ can l k = true := by
  unfold movE at h
  split at h
  · rename_i h1
    obtain ⟨k, rfl⟩ := Int.eq_ofNat_of_zero_le h1.1
    rw [Int.toNat_natCast] at h
    refine ⟨k, rfl, by omega, ?_⟩
    cases hc : can l k
    · rw [hc] at h; simp at h
    · rfl
  · cases h

set_option maxRecDepth 100000 in
set_option maxHeartbeats 1000000 in
theorem rc_Move (A : Option Addr) (n : Nat) (xs : List Int) (ca : Nat) (r : Int) (w : World) (hx : Ints w A n xs) (hl : n ≤ 9223372036854775807) :
    Calls Tryd.prog 19 #[.slice A n ca, .int .i64 r] w fun e w' => GivL e w w' (mveL xs r) (mveE xs r) := by
  have hck := rc_Check A n xs ca w hx hl
  have hst := rc_step A n xs ca r w hx hl
  by_cases h0 : pchk xs = 0
  · obtain ⟨p1, p2, p3⟩ := pchk_ok hx.len h0
    rw [h0] at hck
    by_cases h1 : movE (onL xs) r = 0
    · obtain ⟨k, rfl, hk, hc⟩ := movE_ok h1
      rw [onL_len, hx.len] at hk
      have hE' : mveE xs (k : Int) = 0 := by rw [mveE, if_pos h0, h1]
      have hE := Lib.hid hE'
      have hV := Lib.hid (show mveL xs (k : Int) = il (flip (onL xs) k) by rw [mveL, if_pos hE', Int.toNat_natCast])
      have hmv := rc_moved A n xs ca k w hx p2 p3 hk
      have hln : (il (flip (onL xs) k)).length = n := by rw [il_len, flip_len, onL_len, hx.len]
      rw [h1] at hst
      clear h0 h1 hE'
      go_enter Tryd.func19, Tryd.ntmps19
      go_wp2_with fail
      refine hck.mono ?_; rintro e w1 ⟨rfl, rfl⟩
      go_wp2_with fail
      refine hst.mono ?_; rintro e w1 ⟨rfl, rfl⟩
      go_wp2_with fail
      refine hmv.mono ?_; rintro e w1 ⟨A1, c1, rfl, hI, b⟩
      go_wp2_with fail
      go_ret2
      unfold GivL
      rw [hV.out, hE.out, hln]
      exact ⟨_, _, rfl, hI, b⟩
    · have hE' : mveE xs r = movE (onL xs) r := by rw [mveE, if_pos h0]
      have hne : (movE (onL xs) r != 0) = true := by simp [h1]
      have hE := Lib.hid hE'
      have hV := Lib.hid (show mveL xs r = [] by rw [mveL, hE', if_neg h1])
      clear h0 h1 hE'
      go_enter Tryd.func19, Tryd.ntmps19
      go_wp2_with fail
      refine hck.mono ?_; rintro e w1 ⟨rfl, rfl⟩
      go_wp2_with fail
      refine hst.mono ?_; rintro e w1 ⟨rfl, rfl⟩
      go_wp2_with fail
      go_ret2
      unfold GivL
      rw [hV.out, hE.out]
      exact ⟨none, 0, rfl, Ints.nil_ _ _, Below.refl _ _⟩
  · have hne : (pchk xs != 0) = true := by simp [h0]
    have heq : (pchk xs == 0) = false := by simp [h0]
    have hE' : mveE xs r = pchk xs := by rw [mveE, if_neg h0]
    have hE := Lib.hid hE'
    have hV := Lib.hid (show mveL xs r = [] by rw [mveL, hE', if_neg h0])
    clear h0 hE'
    go_enter Tryd.func19, Tryd.ntmps19
    go_wp2_with fail
    refine hck.mono ?_; rintro e w1 ⟨rfl, rfl⟩
    go_wp2_with fail
    go_ret2
    unfold GivL
    rw [hV.out, hE.out]
    exact ⟨none, 0, rfl, Ints.nil_ _ _, Below.refl _ _⟩
end Go.Proofs.YtenlmjnejjdnnaaDoor
