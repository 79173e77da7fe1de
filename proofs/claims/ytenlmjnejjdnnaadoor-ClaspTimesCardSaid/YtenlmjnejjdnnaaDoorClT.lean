/- bits.TrailingZeros of small numbers. -/
import Derived.Test.YtenlmjnejjdnnaaDoorClTz
namespace Go.Proofs.YtenlmjnejjdnnaaDoor
open Go.RowKit Cl

theorem wrapU (n : Int) : IntKind.u64.wrap n = n % 18446744073709551616 := by simp [IntKind.wrap, IntKind.bits, IntKind.signed]
theorem bits_and (a b : Nat) (ha : a < 18446744073709551616) (hb : b < 18446744073709551616) : bits .and .u64 (a : Int) (b : Int) = ((a &&& b : Nat) : Int) := by
  have hlt : a &&& b < 18446744073709551616 := Nat.lt_of_le_of_lt Nat.and_le_left ha
  simp only [bits]
  show IntKind.u64.wrap (((BitVec.ofInt 64 (a : Int)) &&& (BitVec.ofInt 64 (b : Int))).toNat : Int) = _
  rw [BitVec.ofInt_natCast, BitVec.ofInt_natCast, BitVec.toNat_and, BitVec.toNat_ofNat, BitVec.toNat_ofNat, Nat.mod_eq_of_lt (by omega), Nat.mod_eq_of_lt (by omega), wrapU]
  omega
theorem tz_of {x : Nat} (h0 : 0 < x) (h1 : x < 65536) : tzOK x = true := by
  have := tz_all (x / 256) (by omega) (x % 256) (by omega) (by omega)
  rwa [show 256 * (x / 256) + x % 256 = x by omega] at this

set_option maxRecDepth 100000 in
set_option maxHeartbeats 1000000 in
theorem bits_tz64 (x : Nat) (h0 : 0 < x) (h1 : x < 65536) (w : World) (ht : HasTab w) :
    Calls Tryd.prog 83 #[.int .u64 x] w fun e w' => e = .returned (.int .i64 (tzN x : Nat)) ∧ w = w' := by
  have e0 : ((x : Int) == 0) = false := by simp; omega
  have hz := tz_of h0 h1
  unfold tzOK at hz
  simp only [Bool.and_eq_true, Nat.blt_eq, Nat.beq_eq, decide_eq_true_eq, Nat.ble_eq] at hz
  obtain ⟨⟨⟨z1, z2⟩, z3⟩, z4⟩ := hz
  have hc := ht.cell z1
  have hT := Lib.hid (tzN_of z2 z4)
  obtain ⟨t, ht2⟩ := Int.eq_ofNat_of_zero_le z3
  rw [ht2] at hc hT z4
  rw [Int.toNat_natCast] at hT z4
  obtain ⟨nx, hnx⟩ : ∃ nx : Nat, nx = 18446744073709551616 - x := ⟨_, rfl⟩
  obtain ⟨y, hy⟩ : ∃ y : Nat, y = lowBit x := ⟨_, rfl⟩
  obtain ⟨m, hm⟩ : ∃ m : Nat, m = y * 285870213051353865 % 18446744073709551616 := ⟨_, rfl⟩
  obtain ⟨i, hi⟩ : ∃ i : Nat, i = dbIdx x := ⟨_, rfl⟩
  have q1 : IntKind.u64.wrap (-(x : Int)) = (nx : Int) := by rw [wrapU]; omega
  have q2 : bits .and .u64 (x : Int) (nx : Int) = (y : Int) := by rw [bits_and x nx (by omega) (by omega), hy, lowBit, hnx]
  have q3 : IntKind.u64.wrap ((y : Int) * 285870213051353865) = (m : Int) := by rw [wrapU, hm]; omega
  have q4 : (m : Int) / 288230376151711744 = (i : Int) := by rw [hi, dbIdx, ← hy, ← hm]; omega
  rw [← hi] at hc z1
  have i0 : (0 : Int) ≤ (i : Int) := by omega
  have i1 : (i : Int) < 64 := by omega
  have t1 : (t : Int) ≤ 16 := by omega
  have t0 : (0 : Int) ≤ (t : Int) := by omega
  clear z2 z3 z4 ht2 hnx hy hm hi h1 ht
  go_enter Tryd.func83, Tryd.ntmps83
  go_wp2
  go_ret
  exact ⟨ret_int (by rw [hT.out]), rfl⟩

set_option maxRecDepth 100000 in
set_option maxHeartbeats 1000000 in
theorem bits_tz (x : Nat) (h0 : 0 < x) (h1 : x < 65536) (w : World) (ht : HasTab w) :
    Calls Tryd.prog 76 #[.int .u64 x] w fun e w' => e = .returned (.int .i64 (tzN x : Nat)) ∧ w = w' := by
  have k := bits_tz64 x h0 h1 w ht
  go_enter Tryd.func76, Tryd.ntmps76
  go_wp2_with fail
  refine k.mono ?_; rintro e w1 ⟨rfl, rfl⟩
  go_wp2_with fail
  go_ret
  exact ⟨rfl, rfl⟩
end Go.Proofs.YtenlmjnejjdnnaaDoor
