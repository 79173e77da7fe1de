/- Walks of the reference: in, Check, total, stocked, divisor, made. -/
import Derived.Test.YtjcoaicpeajpnaaPkWc
import Derived.Deep.RegionHeld3
namespace Go.Proofs.Ytjcoaicpeajpnaa
open Go.RowKit Pk

def inR (n lo hi : Int) : Bool := decide (lo ≤ n) && decide (n ≤ hi)
set_option maxHeartbeats 400000 in
theorem rf_in (n lo hi : Int) (w : World) : Calls Try.prog 70 #[.int .i64 n, .int .i64 lo, .int .i64 hi] w fun e w' => e = .returned (.bool (inR n lo hi)) ∧ w = w' := by
  by_cases h : lo ≤ n
  · go_enter Try.func70, Try.ntmps70
    go_wp2
    go_ret
    exact ⟨ret_bool (by simp [inR, h]), rfl⟩
  · go_enter Try.func70, Try.ntmps70
    go_wp2
    go_ret
    exact ⟨ret_bool (by simp [inR]; omega), rfl⟩

set_option maxHeartbeats 1000000 in
theorem rf_Check (A : Option Addr) (n : Nat) (xs : List Int) (ca : Nat) (w : World) (hx : Ints w A n xs) (hl : n ≤ 1000000000) :
    Calls Try.prog 27 #[.slice A n ca] w fun e w' => e = .returned (.int .i64 (chk xs)) ∧ ∃ j, w' = w.drewN j := by
  have hxl := Lib.hid hx.len
  by_cases h0 : n = 0
  · subst h0
    have hb0 : (((0 : Nat) : Int) == 0) = true := rfl
    go_enter Try.func27, Try.ntmps27
    go_wp2
    go_ret
    exact ⟨ret_int (by rw [chk, if_pos hxl.out]), 0, rfl⟩
  by_cases h5 : 5 < n
  · go_enter Try.func27, Try.ntmps27
    go_wp2
    go_ret
    exact ⟨ret_int (by rw [chk, if_neg (by rw [hxl.out]; exact h0), if_pos (by rw [hxl.out]; exact h5)]), 0, rfl⟩
  have h5' : n ≤ 5 := by omega
  have hb0 : ((n : Int) == 0) = false := by simp; omega
  have hb5 : ¬ (5 : Int) < (n : Int) := by omega
  clear h5
  go_enter Try.func27, Try.ntmps27
  go_wp2_with fail
  go_loopw [3] (fun i wr => ∃ k j : Nat, k ≤ n ∧ i = .int .i64 k ∧ wr = w.drewN j ∧ Hid (chkTo xs k = 0)) (fun i _ => n - (intOf i).toNat)
  case atStart => exact ⟨0, 0, by omega, rfl, rfl, rfl⟩
  case round =>
    obtain ⟨k, j, hk, rfl, rfl, hz⟩ := hrel
    by_cases hlt : k < n
    · obtain ⟨b, off, rfl, hb, hc⟩ := hx.at_ hlt
      have hki : (0 : Int) ≤ (k : Int) := by omega
      have hkn : (k : Int) < n := by omega
      by_cases h1 : At xs k < 1 ∨ 30 < At xs k
      · have hin : inR (At xs k) 1 30 = false := by simp [inR]; omega
        have hcall := rf_in (At xs k) 1 30 (w.drewN j)
        rw [hin] at hcall
        have H1 := Lib.hid h1; clear h1 hin
        go_wp2_with fail
        refine hcall.mono ?_; rintro e w' ⟨rfl, rfl⟩
        go_wp2_with fail
        go_ret
        exact ⟨ret_int (by rw [chk_hit hxl.out h5' hz.out hlt (e := 1) (by rw [chk1, if_pos H1.out]) (by decide)]), _, rfl⟩
      · have hin : inR (At xs k) 1 30 = true := by simp [inR]; omega
        have hcall := rf_in (At xs k) 1 30 (w.drewN j)
        rw [hin] at hcall
        have H1 := Lib.hid h1; clear h1 hin
        by_cases hk0 : k = 0
        · subst hk0
          rw [Nat.add_zero] at hc
          have hd : decide ((0 : Int) < (0 : Int)) = false := rfl
          go_wp2_with fail
          refine hcall.mono ?_; rintro e w' ⟨rfl, rfl⟩
          go_wp2_with fail
          go_quiet (fail)
          go_wp2_with fail
          exact ⟨⟨1, _, by omega, by go_num, rfl, chkTo_pass hz.out (by rw [chk1, if_neg H1.out, if_neg (by omega)])⟩, by simp [intOf]; omega⟩
        · obtain ⟨b', off', e, hb', hc'⟩ := hx.at_ (k := k - 1) (by omega)
          cases e
          have hk1 : (1 : Int) ≤ (k : Int) := by omega
          have hk2 : (0 : Int) < (k : Int) := by omega
          have hd : decide (0 < k) = true := by simp; omega
          have hk3 : (0 : Int) ≤ (k : Int) - 1 := by omega
          have hk4 : (k : Int) - 1 < (n : Int) := by omega
          have hk5 : ((k : Int) - 1).toNat = k - 1 := by omega
          have hk6 : IntKind.i64.wrap ((k : Int) - 1) = (k : Int) - 1 := wrap_ok (by omega) (by omega)
          by_cases h3 : At xs k ≤ At xs (k - 1)
          · go_wp2_with fail
            refine hcall.mono ?_; rintro e w' ⟨rfl, rfl⟩
            go_wp2_with fail
            go_quiet (fail)
            go_wp2_with fail
            go_ret
            exact ⟨ret_int (by rw [chk_hit hxl.out h5' hz.out hlt (e := 7) (by rw [chk1, if_neg H1.out, if_pos ⟨by omega, h3⟩]) (by decide)]), _, World.drewN_drewN _ _ _⟩
          · go_wp2_with fail
            refine hcall.mono ?_; rintro e w' ⟨rfl, rfl⟩
            go_wp2_with fail
            go_quiet (fail)
            go_wp2_with fail
            exact ⟨⟨k + 1, _, by omega, by go_num, rfl, chkTo_pass hz.out (by rw [chk1, if_neg H1.out, if_neg (by omega)])⟩, by simp [intOf]; omega⟩
    · obtain rfl : k = n := by omega
      go_wp2_with fail
      go_ret
      exact ⟨ret_int (by rw [chk_len hxl.out h0 h5', hz.out]), _, rfl⟩

/-- An error, or else another one. -/
def thn (er a : Int) : Int := if er = 0 then a else er
set_option maxHeartbeats 400000 in
theorem rf_total (er n : Int) (w : World) : Calls Try.prog 62 #[.int .i64 er, .int .i64 n] w fun e w' => e = .returned (.int .i64 (thn er (tot n))) ∧ w = w' := by
  by_cases h : er = 0
  · subst h
    have hcall := rf_in n 0 1000 w
    by_cases h1 : n < 0 ∨ 1000 < n
    · have hin : inR n 0 1000 = false := by simp [inR]; omega
      rw [hin] at hcall
      have H := Lib.hid h1; clear h1 hin
      go_enter Try.func62, Try.ntmps62
      go_wp2_with fail
      refine hcall.mono ?_; rintro e w' ⟨rfl, rfl⟩
      go_wp2_with fail
      go_ret
      exact ⟨ret_int (by rw [thn, if_pos rfl, tot, if_pos H.out]), rfl⟩
    · have hin : inR n 0 1000 = true := by simp [inR]; omega
      rw [hin] at hcall
      have H := Lib.hid h1; clear h1 hin
      go_enter Try.func62, Try.ntmps62
      go_wp2_with fail
      refine hcall.mono ?_; rintro e w' ⟨rfl, rfl⟩
      go_wp2_with fail
      go_ret
      exact ⟨ret_int (by rw [thn, if_pos rfl, tot, if_neg H.out]), rfl⟩
  · have hb : (er == 0) = false := by simp [h]
    have H := Lib.hid h; clear h
    go_enter Try.func62, Try.ntmps62
    go_wp2_with fail
    go_ret
    exact ⟨ret_int (by rw [thn, if_neg H.out]), rfl⟩

set_option maxHeartbeats 1000000 in
theorem rf_divisor (A : Option Addr) (n : Nat) (ps : List Nat) (ca : Nat) (w : World) (hx : Nats w A n ps) (hp : ∀ s ∈ ps, 0 < s ∧ s ≤ 1000) (hl : n ≤ 1000) :
    Calls Try.prog 73 #[.slice A n ca] w fun e w' => e = .returned (.int .i64 (G ps)) ∧ ∃ j, w' = w.drewN j := by
  go_enter Try.func73, Try.ntmps73
  go_wp2_with fail
  go_loopw [3, 4] (fun d i wr => ∃ k j : Nat, k ≤ n ∧ i = .int .i64 k ∧ d = .int .i64 (G (ps.take k)) ∧ wr = w.drewN j) (fun _ i _ => n - (intOf i).toNat)
  case atStart => exact ⟨0, 0, by omega, rfl, rfl, rfl⟩
  case round =>
    obtain ⟨k, j, hk, rfl, rfl, rfl⟩ := hrel
    by_cases hlt : k < n
    · obtain ⟨b, off, rfl, hb, hc⟩ := hx.at_ hlt
      have hs := hp _ (NAt_mem (hx.len ▸ hlt))
      have hg : G (ps.take k) ≤ 1000 := gcd_le_of_mem (fun x h => hp x (List.mem_of_mem_take h)) 0 (by omega)
      have hts := Lib.hid (take_snoc ps (k := k) (hx.len ▸ hlt))
      have hki : (0 : Int) ≤ (k : Int) := by omega
      have hkn : (k : Int) < n := by omega
      generalize hd0 : G (ps.take k) = d0 at *
      generalize NAt ps k = z0 at *
      have HD := Lib.hid hd0; clear hd0
      go_wp2_with fail
      go_loopw [5, 6] (fun a b wr => ∃ a' b' j : Nat, a = .int .i64 a' ∧ b = .int .i64 b' ∧ a' ≤ 1000 ∧ b' ≤ 1000 ∧ wr = w.drewN j ∧ Hid (Nat.gcd a' b' = Nat.gcd z0 d0)) (fun _ b _ => (intOf b).toNat)
      case atStart => exact ⟨z0, d0, j, rfl, rfl, hs.2, hg, rfl, rfl⟩
      case round =>
        obtain ⟨a', b', j', rfl, rfl, h1, h2, rfl, hgz⟩ := hrel
        by_cases hz : b' = 0
        · have hb0 : ¬ (0 : Int) < (b' : Int) := by omega
          have hz := Lib.hid hz
          go_wp2_with fail
          refine ⟨⟨k + 1, _, by omega, by go_num, ?_, rfl⟩, by simp [intOf]; omega⟩
          have := hgz.out
          rw [hz.out, Nat.gcd_zero_right] at this
          rw [hts.out, G_snoc, HD.out, this, Nat.gcd_comm]
        · have hz1 : (1 : Int) ≤ (b' : Int) := by omega
          have hz2 : (0 : Int) < (b' : Int) := by omega
          have hd1 : (0 : Int) ≤ (a' : Int) := by omega
          have hm : a' % b' < b' := Nat.mod_lt _ (by omega)
          go_wp2_with fail
          go_region
          all_goals go_wp2_with fail
          all_goals exact ⟨⟨b', a' % b', _, rfl, by go_num, by omega, by omega, drew1 _ _, gcd_step.trans hgz.out⟩, by simp [intOf]; omega⟩
    · obtain rfl : k = n := by omega
      go_wp2_with fail
      go_ret
      exact ⟨ret_int (by rw [List.take_of_length_le (by rw [hx.len]; exact Nat.le_refl _)]), _, rfl⟩
end Go.Proofs.Ytjcoaicpeajpnaa
