/- Walks of the reference: Why. -/
import Derived.Test.YtiphgkbnhagkhaaRfH
import Derived.Deep.RegionHeld3
import Derived.Deep.DrawnRows
namespace Go.Proofs.Ytiphgkbnhagkhaa
open Go.RowKit Pk
attribute [local go_sem ↓] Go.wp_at_zero Go.wp_at_succ

set_option maxRecDepth 100000 in
set_option maxHeartbeats 600000 in
theorem rf_Why (A : Option Addr) (n : Nat) (xs : List Int) (ca : Nat) (k : Int) (w : World) (hx : Ints w A n xs) (hl : n ≤ 1000000000) :
    Calls Try.prog 22 #[.slice A n ca, .int .i64 k] w fun e w' => e = .returned (.tuple #[.int .i64 (whyR xs k), .int .i64 (whyM xs k), .int .i64 (whyE xs k)]) ∧ Below w.heap.size w w' := by
  have hc := rf_Can A n xs ca k w hx hl
  by_cases h1 : chkN xs k = 0
  · obtain ⟨h2, h3, h4⟩ := chkN_ok h1
    obtain ⟨s1, s2, hN, hp⟩ := hx.sizes h2
    obtain ⟨k, rfl⟩ := Int.eq_ofNat_of_zero_le h3
    have hv : canV xs k = rB (natL xs) k := by rw [canV, if_pos h1, Int.toNat_natCast]
    by_cases hr : rB (natL xs) k = true
    · have hE' : whyE xs k = 13 := by rw [whyE, if_pos h1, Int.toNat_natCast, if_pos hr]
      have hE := Lib.hid hE'
      have hR := Lib.hid (show whyR xs k = 0 by rw [whyR, if_neg (by rw [hE']; decide)])
      have hM := Lib.hid (show whyM xs k = 0 by rw [whyM, if_neg (by rw [hE']; decide)])
      rw [h1, hv, hr] at hc
      clear h1 h2 hE' hv hr
      go_enter Try.func22, Try.ntmps22
      go_wp2_with fail
      refine hc.mono ?_; rintro e w1 ⟨rfl, hw1⟩
      go_wp2_with fail
      go_ret3
      exact ⟨by rw [hE.out, hR.out, hM.out]; rfl, hw1⟩
    · have hE' : whyE xs k = 0 := by rw [whyE, if_pos h1, Int.toNat_natCast, if_neg hr]
      have hE := Lib.hid hE'
      have hR := Lib.hid (show whyR xs k = ((k % NAt (natL xs) 0 : Nat) : Int) by rw [whyR, if_pos hE', Int.toNat_natCast])
      have hM := Lib.hid (show whyM xs k = fm (natL xs) (NAt (natL xs) 0) (k % NAt (natL xs) 0) by rw [whyM, if_pos hE', Int.toNat_natCast])
      obtain ⟨b, off, rfl, hb, hcl⟩ := hN.at_ (k := 0) (by omega)
      rw [Nat.add_zero] at hcl
      have hs := hp _ (NAt_mem (ps := natL xs) (k := 0) (by rw [hN.len]; omega))
      have hcall : ∀ W, Nats W (some ⟨b, off, none⟩) n (natL xs) → W.cell? ⟨b, off, none⟩ = some (.int .i64 (NAt (natL xs) 0)) → b < W.heap.size → Calls Try.prog 68 #[.slice (some ⟨b, off, none⟩) n ca, .int .i64 0] W fun e w2 =>
          ∃ b2 off2 c2, e = .returned (.slice (some ⟨b2, off2, none⟩) (NAt (natL xs) 0) c2) ∧ w2.cell? ⟨b2, off2 + k % NAt (natL xs) 0, none⟩ = some (.int .i64 (fm (natL xs) (NAt (natL xs) 0) (k % NAt (natL xs) 0))) ∧ w2.cell? ⟨b, off, none⟩ = some (.int .i64 (NAt (natL xs) 0)) ∧ Below W.heap.size W w2 := by
        intro W hW hWc hWb
        refine (rf_remainders (some ⟨b, off, none⟩) n (natL xs) ca 0 W hW hp (by omega) (by omega)).mono ?_
        rintro e w2 ⟨A2, c2, rfl, hI, hb2⟩
        have hlen : (fmL (natL xs) (NAt (natL xs) 0)).length = NAt (natL xs) 0 := by simp [fmL]
        have hmod := Nat.mod_lt k (show 0 < NAt (natL xs) 0 from hs.1)
        rw [hlen] at hI
        obtain ⟨b2, off2, rfl, _, hc2⟩ := hI.at_ hmod
        rw [fmL, At_range _ _ hmod] at hc2
        rw [hlen]
        exact ⟨b2, off2, c2, rfl, hc2, (hb2.cell (p := ⟨b, off, none⟩) hWb).trans hWc, hb2⟩
      rw [h1, hv, show rB (natL xs) k = false by simpa using hr] at hc
      clear h1 h2 hE' hr hv
      go_enter Try.func22, Try.ntmps22
      go_wp2_with fail
      refine hc.mono ?_; rintro e w1 ⟨rfl, hw1⟩
      have hcl1 := (hw1.cell (p := ⟨b, off, none⟩) hb).trans hcl
      have hN1 := hN.below hw1
      have hb1 : b < w1.heap.size := Nat.lt_of_lt_of_le hb hw1.size
      have hmod := Nat.mod_lt k (show 0 < NAt (natL xs) 0 from hs.1)
      generalize NAt (natL xs) 0 = s at *
      have z0 : (1 : Int) ≤ (s : Int) := by omega
      have z1 : (0 : Int) ≤ (k : Int) % (s : Int) := by omega
      have z2 : (k : Int) % (s : Int) < s := by omega
      have z3 : ((k : Int) % (s : Int)).toNat = k % s := by omega
      have z4 : (k : Int).tmod (s : Int) = (k : Int) % (s : Int) := Int.tmod_eq_emod_of_nonneg (by omega)
      have z6 : (0 : Int) < (n : Int) := by omega
      have z7 : ((s : Int) == 0) = false := by simp; omega
      have z8 : ¬ s = 0 := by omega
      have z5 : IntKind.i64.wrap ((k : Int) % (s : Int)) = (k : Int) % (s : Int) := wrap_ok (by omega) (by omega)
      go_wp2_with fail
      go_region_with ((go_at_call 68; refine (hcall _ (by exact hN1.drewN 1) (by exact hcl1) (by exact hb1)).mono ?_; rintro e w2 ⟨b2, off2, c2, rfl, hc2, hc3, hb2⟩))
      all_goals go_wp2_with fail
      all_goals go_ret3
      all_goals exact ⟨by rw [hE.out, hR.out, hM.out]; rfl, hw1.trans ((undrew hb2).mono hw1.size)⟩
  · have hb := ne0 h1
    have hb2 : (chkN xs k == 0) = false := by simp [h1]
    have hv : canV xs k = false := by rw [canV, if_neg h1]
    have hE' : whyE xs k = chkN xs k := by rw [whyE, if_neg h1]
    have hE := Lib.hid hE'
    have hR := Lib.hid (show whyR xs k = 0 by rw [whyR, if_neg (by rw [hE']; exact h1)])
    have hM := Lib.hid (show whyM xs k = 0 by rw [whyM, if_neg (by rw [hE']; exact h1)])
    rw [hv] at hc
    clear h1 hE' hv
    go_enter Try.func22, Try.ntmps22
    go_wp2_with fail
    refine hc.mono ?_; rintro e w1 ⟨rfl, hw1⟩
    go_wp2_with fail
    go_ret3
    exact ⟨by rw [hE.out, hR.out, hM.out]; rfl, hw1⟩
end Go.Proofs.Ytiphgkbnhagkhaa
