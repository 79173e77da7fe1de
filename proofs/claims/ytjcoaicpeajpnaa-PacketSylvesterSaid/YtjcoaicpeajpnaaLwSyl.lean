/- The walk of PacketSylvester. -/
import Derived.Test.YtjcoaicpeajpnaaLwGaps
import Derived.Test.YtjcoaicpeajpnaaLwCommon
import Derived.Test.YtjcoaicpeajpnaaSyS
namespace Go.Proofs.Ytjcoaicpeajpnaa
open Go.RowKit Pk

theorem two_can {a b : Nat} (h1 : 1 ≤ a) (h2 : a < b) (h3 : b ≤ 30) {n : Int} (hn : 0 ≤ n) (hn' : n ≤ 1000) : canV [(a : Int), (b : Int)] n = rB [a, b] n.toNat ∧ chkN [(a : Int), (b : Int)] n = 0 := by
  have hN : chkN [(a : Int), (b : Int)] n = 0 := by rw [chkN, if_pos (two_chk h1 h2 h3), tot, if_neg (by omega)]
  exact ⟨by rw [canV, if_pos hN, two_natL], hN⟩
theorem two_ints (a b : Nat) (w : World) : Ints (w.alloc (.cells #[.int .i64 a, .int .i64 b] 3)) (some ⟨w.heap.size, 0, none⟩) 2 [(a : Int), (b : Int)] :=
  ⟨rfl, fun k hk => ⟨_, 0, rfl, by simp, by
    rw [Nat.zero_add, (Whole.new w 3 #[.int .i64 a, .int .i64 b]).cell k]
    rcases (show k = 0 ∨ k = 1 by omega) with rfl | rfl <;> rfl⟩⟩

set_option maxRecDepth 100000 in
set_option maxHeartbeats 40000000 in
theorem lw_PacketSylvester (p q : Nat) (w : World) (hp : p ≤ 255) (hq : q ≤ 255) :
    Calls Try.prog 7 #[.int .u8 p, .int .u8 q] w fun e w' => e = .returned (.bool true) ∧ Below w.heap.size w w' := by
  have e1 : (p : Int) % 30 = ((p % 30 : Nat) : Int) := by simp
  have e2 : (q : Int) % 30 = ((q % 30 : Nat) : Int) := by simp
  have l1 : p % 30 < 30 := Nat.mod_lt _ (by omega)
  have l2 : q % 30 < 30 := Nat.mod_lt _ (by omega)
  generalize p % 30 = r at *
  generalize q % 30 = s at *
  obtain ⟨a, hra⟩ : ∃ a : Nat, a = 1 + r := ⟨_, rfl⟩
  obtain ⟨b, hsb⟩ : ∃ b : Nat, b = 1 + s := ⟨_, rfl⟩
  have ra : (1 : Int) + (r : Int) = (a : Int) := by omega
  have sb : (1 : Int) + (s : Int) = (b : Int) := by omega
  have ha1 : 1 ≤ a := by omega
  have ha2 : a ≤ 30 := by omega
  have hb1 : 1 ≤ b := by omega
  have hb2 : b ≤ 30 := by omega
  clear hra hsb l1 l2
  by_cases hab : a < b
  · have i1 : (a : Int) < b := by omega
    have i2 : ((a : Int) == b) = false := by simp; omega
    obtain ⟨h1, h2, h3⟩ : 1 ≤ a ∧ a < b ∧ b ≤ 30 := by omega
    have HX := two_ints a b w
    have HN : Nats (w.alloc (.cells #[.int .i64 a, .int .i64 b] 3)) (some ⟨w.heap.size, 0, none⟩) 2 [a, b] := by
      have := HX.nats fun j hj => by
        rcases (show j = 0 ∨ j = 1 by have : j < 2 := hj; omega) with rfl | rfl <;> simp [At]
      rwa [two_natL] at this
    have HB : Below w.heap.size w (w.alloc (.cells #[.int .i64 a, .int .i64 b] 3)) := (Below.refl _ _).alloc (Nat.le_refl _) _
    have hp2 : ∀ s ∈ [a, b], 0 < s ∧ s ≤ 10000 := by intro s hs; simp at hs; omega
    have kG := fun W (h : Ints W (some ⟨w.heap.size, 0, none⟩) 2 [(a : Int), (b : Int)]) => pk_Gaps (some ⟨w.heap.size, 0, none⟩) 2 _ 2 W h (by omega)
    have kT := fun W (h : Ints W (some ⟨w.heap.size, 0, none⟩) 2 [(a : Int), (b : Int)]) => pk_Greatest (some ⟨w.heap.size, 0, none⟩) 2 _ 2 W h (by omega)
    have kE := fun W (h : Ints W (some ⟨w.heap.size, 0, none⟩) 2 [(a : Int), (b : Int)]) => pk_Even (some ⟨w.heap.size, 0, none⟩) 2 _ 2 W h (by omega)
    have kC := fun W (h : Nats W (some ⟨w.heap.size, 0, none⟩) 2 [a, b]) => lw_common (some ⟨w.heap.size, 0, none⟩) 2 _ 2 W h (by omega) (by omega) (fun s hs => ⟨(hp2 s hs).1, by have := (hp2 s hs).2; omega⟩)
    rw [two_G] at kC
    by_cases hg : 1 < Nat.gcd a b
    · obtain ⟨g1, g2, g3⟩ := two_over h1 h2 h3 hg
      simp only [g1, g2, g3] at kG kT kE
      rw [decide_eq_true hg] at kC
      clear hg g1 g2 g3
      go_enter Try.func7, Try.ntmps7
      go_wp2_with fail
      refine (lw_list _ _).mono ?_; rintro e w' ⟨rfl, rfl⟩
      go_wp2_with fail
      refine (kG _ HX).mono ?_; rintro e w1 ⟨A1, c1, rfl, hI1, d⟩
      replace HX := HX.below d; replace HN := HN.below d; replace HB := HB.trans (d.mono HB.size); clear d
      go_wp2_with fail
      refine (kT _ HX).mono ?_; rintro e w2 ⟨rfl, d⟩
      replace HX := HX.below d; replace HN := HN.below d; replace HB := HB.trans (d.mono HB.size); clear d
      go_wp2_with fail
      refine (kE _ HX).mono ?_; rintro e w3 ⟨rfl, d⟩
      replace HX := HX.below d; replace HN := HN.below d; replace HB := HB.trans (d.mono HB.size); clear d
      go_wp2_with fail
      refine (kC _ HN).mono ?_; rintro e w4 ⟨rfl, d⟩
      replace HB := HB.trans (d.mono HB.size); clear d
      go_wp2_with fail
      refine (lw_works _).mono ?_; rintro e w5 ⟨rfl, d⟩
      replace HB := HB.trans (d.mono HB.size); clear d
      go_wp2_with fail
      go_ret
      exact ⟨rfl, HB⟩
    · obtain ⟨g1, g2⟩ := two_gaps h1 h2 h3 hg
      obtain ⟨g3, g4, g5, g6⟩ := two_rest h1 h2 h3 hg
      simp only [g1, g2, g4] at kG kT kE
      rw [decide_eq_false hg] at kC
      have hg1 : Nat.gcd a b = 1 := by have := Nat.gcd_pos_of_pos_left b h1; omega
      have g5 := Lib.hid g5
      have g6 := Lib.hid g6
      clear hg g1 g2 g4
      go_enter Try.func7, Try.ntmps7
      go_wp2_with fail
      refine (lw_list _ _).mono ?_; rintro e w' ⟨rfl, rfl⟩
      go_wp2_with fail
      refine (kG _ HX).mono ?_; rintro e w1 ⟨A1, c1, rfl, hI1, d⟩
      replace HX := HX.below d; replace HN := HN.below d; replace HB := HB.trans (d.mono HB.size); clear d
      go_wp2_with fail
      refine (kT _ HX).mono ?_; rintro e w2 ⟨rfl, d⟩
      replace HX := HX.below d; replace HN := HN.below d; replace hI1 := hI1.below d; replace HB := HB.trans (d.mono HB.size); clear d
      go_wp2_with fail
      refine (kE _ HX).mono ?_; rintro e w3 ⟨rfl, d⟩
      replace HX := HX.below d; replace HN := HN.below d; replace hI1 := hI1.below d; replace HB := HB.trans (d.mono HB.size); clear d
      go_wp2_with fail
      refine (kC _ HN).mono ?_; rintro e w4 ⟨rfl, d⟩
      replace HX := HX.below d; replace HN := HN.below d; replace hI1 := hI1.below d; replace HB := HB.trans (d.mono HB.size); clear d
      go_wp2_with fail
      refine (lw_reach _ 2 _ 2 900 w4 HN hp2 (by omega) (by omega)).mono ?_; rintro e w5 ⟨c5, rfl, hR, d⟩
      replace HX := HX.below d; replace HN := HN.below d; replace hI1 := hI1.below d; replace HB := HB.trans (d.mono HB.size); clear d
      go_wp2_with fail
      go_loopw [15, 87] (fun v i wr => ∃ x : Nat, x ≤ 901 ∧ i = .int .i64 x ∧ OwnI wr w5.heap.size v (gapL [a, b] x) ∧ Below w5.heap.size w5 wr) (fun _ i _ => 901 - (intOf i).toNat)
      case atStart => exact ⟨0, by omega, rfl, OwnI.nil_ _ _, Below.refl _ _⟩
      case round =>
        obtain ⟨x, hx1, rfl, hown, hw⟩ := hrel
        have hsz := hw.size
        have hgl := gapL_len [a, b] x
        by_cases hlt : x < 901
        · obtain ⟨bb, off, e0, hb0, hcl⟩ := (hR.below hw).at_ hlt
          cases e0
          rw [Nat.zero_add] at hcl
          have hi : (x : Int) < 901 := by omega
          have hi0 : (0 : Int) ≤ (x : Int) := by omega
          by_cases hm : rB [a, b] x = true
          · have he := Lib.hid (gapL_miss hm)
            rw [hm] at hcl
            clear hm
            go_wp2_with fail
            exact ⟨⟨x + 1, by omega, by go_num, by rw [he.out]; exact hown, hw⟩, by simp [intOf]; omega⟩
          · have hm' : rB [a, b] x = false := by simpa using hm
            have he := Lib.hid (gapL_hit hm')
            rw [hm'] at hcl
            clear hm hm'
            go_wp2_with (at_builtin; refine wpList_appI rfl _ _ rfl w5.heap.size _ (gapL [a, b] x) x (by rfl) hown hsz (by omega) (by rfl) ?_; intro v' w' hown' hb')
            exact ⟨⟨x + 1, by omega, by go_num, by rw [he.out]; exact hown', hb' _ hw⟩, by simp [intOf]; omega⟩
        · obtain rfl : x = 901 := by omega
          obtain ⟨A', c', rfl, hI⟩ := hown.form
          replace HX := HX.below hw
          replace hI1 := hI1.below hw
          replace hR := hR.below hw
          replace HB := HB.trans (hw.mono HB.size)
          clear hown hw HN kG kT kE kC
          have hmul : a * b ≤ 900 := by have := Nat.mul_le_mul (show a ≤ 30 by omega) (show b ≤ 30 by omega); omega
          have hm1 : (a : Int) * (b : Int) ≤ 900 := by
            have : ((a * b : Nat) : Int) ≤ 900 := by omega
            rwa [Int.natCast_mul] at this
          have hm2 : (0 : Int) ≤ (a : Int) * (b : Int) := Int.mul_nonneg (by omega) (by omega)
          have hS := syl_K (a := a) (b := b) h1 (by omega)
          have hK := two_K h1 h2 h3
          have hSi : (a : Int) * (b : Int) + 1 = (((a - 1) * (b - 1) : Nat) : Int) + a + b := by
            have : ((a * b + 1 : Nat) : Int) = (((a - 1) * (b - 1) + a + b : Nat) : Int) := by rw [hS]
            rw [Int.natCast_add, Int.natCast_mul] at this
            omega
          have hq : ((a : Int) - 1) * ((b : Int) - 1) = 2 * ((gapL [a, b] 901).length : Int) := by
            rw [show ((a : Int) - 1) = ((a - 1 : Nat) : Int) by omega, show ((b : Int) - 1) = ((b - 1 : Nat) : Int) by omega, ← Int.natCast_mul, ← g3, Int.natCast_mul]
            rfl
          obtain ⟨F, hF⟩ : ∃ F : Int, (a : Int) * (b : Int) - a - b = F := ⟨_, rfl⟩
          have g5 := g5.out
          have g6 := g6.out
          rw [hF] at g5 g6
          have hF1 : F ≤ 900 := by omega
          have hF2 : -1 ≤ F := by omega
          have hsum := Lib.hid (show F + a + b = ((a * b : Nat) : Int) by rw [Int.natCast_mul]; omega)
          clear hmul hS hSi hK g3
          by_cases h0 : (gapL [a, b] 901).length = 0
          · obtain ⟨k1, k2⟩ := g5 h0
            rw [k1]
            clear g5 g6
            rw [h0] at hq hgl hI hI1 ⊢
            have hq0 : ((a : Int) - 1) * ((b : Int) - 1) = 0 := by rw [hq]; rfl
            clear hq h0
            go_wp2_with fail
            refine (same_refl hI1 hI (by omega)).mono ?_; rintro e w6 ⟨rfl, d⟩
            replace HB := HB.trans (d.mono HB.size); clear d
            go_wp2_with fail
            refine (lw_works _).mono ?_; rintro e w7 ⟨rfl, d⟩
            replace HB := HB.trans (d.mono HB.size); clear d
            go_wp2_with fail
            go_ret
            exact ⟨rfl, HB⟩
          · obtain ⟨k1, k2, k3⟩ := g6 h0
            rw [k1, k2]
            have z0 : (((gapL [a, b] 901).length : Int) == 0) = false := by rw [beq_eq_false_iff_ne]; omega
            clear g5 g6
            generalize (gapL [a, b] 901).length = L at *
            go_wp2_with fail
            refine (same_refl hI1 hI (by omega)).mono ?_; rintro e w6 ⟨rfl, d⟩
            replace HX := HX.below d; replace hI := hI.below d; replace hR := hR.below d; replace HB := HB.trans (d.mono HB.size); clear d
            obtain ⟨bb, off, rfl, hb0, hcl⟩ := hI.at_ (k := L - 1) (by omega)
            rw [k3] at hcl
            have y1 : (0 : Int) ≤ (L : Int) - 1 := by omega
            have y2 : (1 : Int) ≤ (L : Int) := by omega
            have y3 : (L : Int) - 1 < (L : Int) := by omega
            have y4 : ((L : Int) - 1).toNat = L - 1 := by omega
            go_wp2_with fail
            go_loopw [19] (fun v W => ∃ n : Nat, (n : Int) ≤ F + 1 ∧ v = .int .i64 n ∧ Below w6.heap.size w6 W) (fun v _ => F.toNat + 1 - (intOf v).toNat)
            case atStart => exact ⟨0, by omega, rfl, Below.refl _ _⟩
            case round =>
              obtain ⟨n, hn, rfl, hw⟩ := hrel
              by_cases hnF : (n : Int) ≤ F
              · obtain ⟨m, hm⟩ : ∃ m : Nat, F - (n : Int) = m := ⟨(F - n).toNat, by omega⟩
                obtain ⟨t1, t2⟩ := two_can h1 h2 h3 (n := (n : Int)) (by omega) (by omega)
                obtain ⟨t3, t4⟩ := two_can h1 h2 h3 (n := (m : Int)) (by omega) (by omega)
                have hpr := rB_pair (a := a) (b := b) (n := n) (m := m) h1 (by omega) hg1 (by have := hsum.out; omega)
                have s1 := fun W (h : Ints W (some ⟨w.heap.size, 0, none⟩) 2 [(a : Int), (b : Int)]) => pk_Can (some ⟨w.heap.size, 0, none⟩) 2 _ 2 n W h (by omega)
                have s2 := fun W (h : Ints W (some ⟨w.heap.size, 0, none⟩) 2 [(a : Int), (b : Int)]) => pk_Can (some ⟨w.heap.size, 0, none⟩) 2 _ 2 m W h (by omega)
                rw [Int.toNat_natCast] at t1 t3
                simp only [t1, t2] at s1
                simp only [t3, t4, hpr] at s2
                have hn0 : (0 : Int) ≤ (n : Int) := by omega
                have hn9 : (n : Int) < 901 := by omega
                have hn8 : n < 901 := by omega
                have hR2 := hR.below hw
                clear hpr t1 t2 t3 t4
                generalize rB [a, b] = fr at *
                cases hr : fr n
                all_goals (
                  simp only [hr, Bool.not_false, Bool.not_true] at s1 s2
                  go_wp2_with fail
                  refine (s1 _ (HX.below hw)).mono ?_; rintro e w7 ⟨rfl, d⟩
                  have HX2 := (HX.below hw).below d
                  have hw2 := hw.trans (d.mono hw.size)
                  clear d
                  go_wp2_with fail
                  refine (s2 _ HX2).mono ?_; rintro e w8 ⟨rfl, d⟩
                  have hw3 := hw2.trans (d.mono hw2.size)
                  obtain ⟨bc, offc, e0, hbc, hcc⟩ := (hR.below hw3).at_ hn8
                  cases e0
                  rw [Nat.zero_add, hr] at hcc
                  go_wp2_with fail
                  exact ⟨⟨n + 1, by omega, by go_num, hw3⟩, by simp [intOf]; omega⟩)
              · replace HB := HB.trans (hw.mono HB.size)
                go_wp2_with fail
                refine (lw_works _).mono ?_; rintro e w7 ⟨rfl, d⟩
                replace HB := HB.trans (d.mono HB.size); clear d
                go_wp2_with fail
                go_ret
                exact ⟨rfl, HB⟩
  by_cases hba : b < a
  · have i1 : (b : Int) < a := by omega
    have i2 : ((a : Int) == b) = false := by simp; omega
    have i3 : ¬ (a : Int) < b := by omega
    obtain ⟨h1, h2, h3⟩ : 1 ≤ b ∧ b < a ∧ a ≤ 30 := by omega
    have HX := two_ints b a w
    have HN : Nats (w.alloc (.cells #[.int .i64 b, .int .i64 a] 3)) (some ⟨w.heap.size, 0, none⟩) 2 [b, a] := by
      have := HX.nats fun j hj => by
        rcases (show j = 0 ∨ j = 1 by have : j < 2 := hj; omega) with rfl | rfl <;> simp [At]
      rwa [two_natL] at this
    have HB : Below w.heap.size w (w.alloc (.cells #[.int .i64 b, .int .i64 a] 3)) := (Below.refl _ _).alloc (Nat.le_refl _) _
    have hp2 : ∀ s ∈ [b, a], 0 < s ∧ s ≤ 10000 := by intro s hs; simp at hs; omega
    have kG := fun W (h : Ints W (some ⟨w.heap.size, 0, none⟩) 2 [(b : Int), (a : Int)]) => pk_Gaps (some ⟨w.heap.size, 0, none⟩) 2 _ 2 W h (by omega)
    have kT := fun W (h : Ints W (some ⟨w.heap.size, 0, none⟩) 2 [(b : Int), (a : Int)]) => pk_Greatest (some ⟨w.heap.size, 0, none⟩) 2 _ 2 W h (by omega)
    have kE := fun W (h : Ints W (some ⟨w.heap.size, 0, none⟩) 2 [(b : Int), (a : Int)]) => pk_Even (some ⟨w.heap.size, 0, none⟩) 2 _ 2 W h (by omega)
    have kC := fun W (h : Nats W (some ⟨w.heap.size, 0, none⟩) 2 [b, a]) => lw_common (some ⟨w.heap.size, 0, none⟩) 2 _ 2 W h (by omega) (by omega) (fun s hs => ⟨(hp2 s hs).1, by have := (hp2 s hs).2; omega⟩)
    rw [two_G] at kC
    by_cases hg : 1 < Nat.gcd b a
    · obtain ⟨g1, g2, g3⟩ := two_over h1 h2 h3 hg
      simp only [g1, g2, g3] at kG kT kE
      rw [decide_eq_true hg] at kC
      clear hg g1 g2 g3
      go_enter Try.func7, Try.ntmps7
      go_wp2_with fail
      refine (lw_list _ _).mono ?_; rintro e w' ⟨rfl, rfl⟩
      go_wp2_with fail
      refine (kG _ HX).mono ?_; rintro e w1 ⟨A1, c1, rfl, hI1, d⟩
      replace HX := HX.below d; replace HN := HN.below d; replace HB := HB.trans (d.mono HB.size); clear d
      go_wp2_with fail
      refine (kT _ HX).mono ?_; rintro e w2 ⟨rfl, d⟩
      replace HX := HX.below d; replace HN := HN.below d; replace HB := HB.trans (d.mono HB.size); clear d
      go_wp2_with fail
      refine (kE _ HX).mono ?_; rintro e w3 ⟨rfl, d⟩
      replace HX := HX.below d; replace HN := HN.below d; replace HB := HB.trans (d.mono HB.size); clear d
      go_wp2_with fail
      refine (kC _ HN).mono ?_; rintro e w4 ⟨rfl, d⟩
      replace HB := HB.trans (d.mono HB.size); clear d
      go_wp2_with fail
      refine (lw_works _).mono ?_; rintro e w5 ⟨rfl, d⟩
      replace HB := HB.trans (d.mono HB.size); clear d
      go_wp2_with fail
      go_ret
      exact ⟨rfl, HB⟩
    · obtain ⟨g1, g2⟩ := two_gaps h1 h2 h3 hg
      obtain ⟨g3, g4, g5, g6⟩ := two_rest h1 h2 h3 hg
      simp only [g1, g2, g4] at kG kT kE
      rw [decide_eq_false hg] at kC
      have hg1 : Nat.gcd b a = 1 := by have := Nat.gcd_pos_of_pos_left a h1; omega
      have g5 := Lib.hid g5
      have g6 := Lib.hid g6
      clear hg g1 g2 g4
      go_enter Try.func7, Try.ntmps7
      go_wp2_with fail
      refine (lw_list _ _).mono ?_; rintro e w' ⟨rfl, rfl⟩
      go_wp2_with fail
      refine (kG _ HX).mono ?_; rintro e w1 ⟨A1, c1, rfl, hI1, d⟩
      replace HX := HX.below d; replace HN := HN.below d; replace HB := HB.trans (d.mono HB.size); clear d
      go_wp2_with fail
      refine (kT _ HX).mono ?_; rintro e w2 ⟨rfl, d⟩
      replace HX := HX.below d; replace HN := HN.below d; replace hI1 := hI1.below d; replace HB := HB.trans (d.mono HB.size); clear d
      go_wp2_with fail
      refine (kE _ HX).mono ?_; rintro e w3 ⟨rfl, d⟩
      replace HX := HX.below d; replace HN := HN.below d; replace hI1 := hI1.below d; replace HB := HB.trans (d.mono HB.size); clear d
      go_wp2_with fail
      refine (kC _ HN).mono ?_; rintro e w4 ⟨rfl, d⟩
      replace HX := HX.below d; replace HN := HN.below d; replace hI1 := hI1.below d; replace HB := HB.trans (d.mono HB.size); clear d
      go_wp2_with fail
      refine (lw_reach _ 2 _ 2 900 w4 HN hp2 (by omega) (by omega)).mono ?_; rintro e w5 ⟨c5, rfl, hR, d⟩
      replace HX := HX.below d; replace HN := HN.below d; replace hI1 := hI1.below d; replace HB := HB.trans (d.mono HB.size); clear d
      go_wp2_with fail
      go_loopw [15, 87] (fun v i wr => ∃ x : Nat, x ≤ 901 ∧ i = .int .i64 x ∧ OwnI wr w5.heap.size v (gapL [b, a] x) ∧ Below w5.heap.size w5 wr) (fun _ i _ => 901 - (intOf i).toNat)
      case atStart => exact ⟨0, by omega, rfl, OwnI.nil_ _ _, Below.refl _ _⟩
      case round =>
        obtain ⟨x, hx1, rfl, hown, hw⟩ := hrel
        have hsz := hw.size
        have hgl := gapL_len [b, a] x
        by_cases hlt : x < 901
        · obtain ⟨bb, off, e0, hb0, hcl⟩ := (hR.below hw).at_ hlt
          cases e0
          rw [Nat.zero_add] at hcl
          have hi : (x : Int) < 901 := by omega
          have hi0 : (0 : Int) ≤ (x : Int) := by omega
          by_cases hm : rB [b, a] x = true
          · have he := Lib.hid (gapL_miss hm)
            rw [hm] at hcl
            clear hm
            go_wp2_with fail
            exact ⟨⟨x + 1, by omega, by go_num, by rw [he.out]; exact hown, hw⟩, by simp [intOf]; omega⟩
          · have hm' : rB [b, a] x = false := by simpa using hm
            have he := Lib.hid (gapL_hit hm')
            rw [hm'] at hcl
            clear hm hm'
            go_wp2_with (at_builtin; refine wpList_appI rfl _ _ rfl w5.heap.size _ (gapL [b, a] x) x (by rfl) hown hsz (by omega) (by rfl) ?_; intro v' w' hown' hb')
            exact ⟨⟨x + 1, by omega, by go_num, by rw [he.out]; exact hown', hb' _ hw⟩, by simp [intOf]; omega⟩
        · obtain rfl : x = 901 := by omega
          obtain ⟨A', c', rfl, hI⟩ := hown.form
          replace HX := HX.below hw
          replace hI1 := hI1.below hw
          replace hR := hR.below hw
          replace HB := HB.trans (hw.mono HB.size)
          clear hown hw HN kG kT kE kC
          have hmul : b * a ≤ 900 := by have := Nat.mul_le_mul (show b ≤ 30 by omega) (show a ≤ 30 by omega); omega
          have hm1 : (b : Int) * (a : Int) ≤ 900 := by
            have : ((b * a : Nat) : Int) ≤ 900 := by omega
            rwa [Int.natCast_mul] at this
          have hm2 : (0 : Int) ≤ (b : Int) * (a : Int) := Int.mul_nonneg (by omega) (by omega)
          have hS := syl_K (a := b) (b := a) h1 (by omega)
          have hK := two_K h1 h2 h3
          have hSi : (b : Int) * (a : Int) + 1 = (((b - 1) * (a - 1) : Nat) : Int) + b + a := by
            have : ((b * a + 1 : Nat) : Int) = (((b - 1) * (a - 1) + b + a : Nat) : Int) := by rw [hS]
            rw [Int.natCast_add, Int.natCast_mul] at this
            omega
          have hq : ((b : Int) - 1) * ((a : Int) - 1) = 2 * ((gapL [b, a] 901).length : Int) := by
            rw [show ((b : Int) - 1) = ((b - 1 : Nat) : Int) by omega, show ((a : Int) - 1) = ((a - 1 : Nat) : Int) by omega, ← Int.natCast_mul, ← g3, Int.natCast_mul]
            rfl
          obtain ⟨F, hF⟩ : ∃ F : Int, (b : Int) * (a : Int) - b - a = F := ⟨_, rfl⟩
          have g5 := g5.out
          have g6 := g6.out
          rw [hF] at g5 g6
          have hF1 : F ≤ 900 := by omega
          have hF2 : -1 ≤ F := by omega
          have hsum := Lib.hid (show F + b + a = ((b * a : Nat) : Int) by rw [Int.natCast_mul]; omega)
          clear hmul hS hSi hK g3
          by_cases h0 : (gapL [b, a] 901).length = 0
          · obtain ⟨k1, k2⟩ := g5 h0
            rw [k1]
            clear g5 g6
            rw [h0] at hq hgl hI hI1 ⊢
            have hq0 : ((b : Int) - 1) * ((a : Int) - 1) = 0 := by rw [hq]; rfl
            clear hq h0
            go_wp2_with fail
            refine (same_refl hI1 hI (by omega)).mono ?_; rintro e w6 ⟨rfl, d⟩
            replace HB := HB.trans (d.mono HB.size); clear d
            go_wp2_with fail
            refine (lw_works _).mono ?_; rintro e w7 ⟨rfl, d⟩
            replace HB := HB.trans (d.mono HB.size); clear d
            go_wp2_with fail
            go_ret
            exact ⟨rfl, HB⟩
          · obtain ⟨k1, k2, k3⟩ := g6 h0
            rw [k1, k2]
            have z0 : (((gapL [b, a] 901).length : Int) == 0) = false := by rw [beq_eq_false_iff_ne]; omega
            clear g5 g6
            generalize (gapL [b, a] 901).length = L at *
            go_wp2_with fail
            refine (same_refl hI1 hI (by omega)).mono ?_; rintro e w6 ⟨rfl, d⟩
            replace HX := HX.below d; replace hI := hI.below d; replace hR := hR.below d; replace HB := HB.trans (d.mono HB.size); clear d
            obtain ⟨bb, off, rfl, hb0, hcl⟩ := hI.at_ (k := L - 1) (by omega)
            rw [k3] at hcl
            have y1 : (0 : Int) ≤ (L : Int) - 1 := by omega
            have y2 : (1 : Int) ≤ (L : Int) := by omega
            have y3 : (L : Int) - 1 < (L : Int) := by omega
            have y4 : ((L : Int) - 1).toNat = L - 1 := by omega
            go_wp2_with fail
            go_loopw [19] (fun v W => ∃ n : Nat, (n : Int) ≤ F + 1 ∧ v = .int .i64 n ∧ Below w6.heap.size w6 W) (fun v _ => F.toNat + 1 - (intOf v).toNat)
            case atStart => exact ⟨0, by omega, rfl, Below.refl _ _⟩
            case round =>
              obtain ⟨n, hn, rfl, hw⟩ := hrel
              by_cases hnF : (n : Int) ≤ F
              · obtain ⟨m, hm⟩ : ∃ m : Nat, F - (n : Int) = m := ⟨(F - n).toNat, by omega⟩
                obtain ⟨t1, t2⟩ := two_can h1 h2 h3 (n := (n : Int)) (by omega) (by omega)
                obtain ⟨t3, t4⟩ := two_can h1 h2 h3 (n := (m : Int)) (by omega) (by omega)
                have hpr := rB_pair (a := b) (b := a) (n := n) (m := m) h1 (by omega) hg1 (by have := hsum.out; omega)
                have s1 := fun W (h : Ints W (some ⟨w.heap.size, 0, none⟩) 2 [(b : Int), (a : Int)]) => pk_Can (some ⟨w.heap.size, 0, none⟩) 2 _ 2 n W h (by omega)
                have s2 := fun W (h : Ints W (some ⟨w.heap.size, 0, none⟩) 2 [(b : Int), (a : Int)]) => pk_Can (some ⟨w.heap.size, 0, none⟩) 2 _ 2 m W h (by omega)
                rw [Int.toNat_natCast] at t1 t3
                simp only [t1, t2] at s1
                simp only [t3, t4, hpr] at s2
                have hn0 : (0 : Int) ≤ (n : Int) := by omega
                have hn9 : (n : Int) < 901 := by omega
                have hn8 : n < 901 := by omega
                have hR2 := hR.below hw
                clear hpr t1 t2 t3 t4
                generalize rB [b, a] = fr at *
                cases hr : fr n
                all_goals (
                  simp only [hr, Bool.not_false, Bool.not_true] at s1 s2
                  go_wp2_with fail
                  refine (s1 _ (HX.below hw)).mono ?_; rintro e w7 ⟨rfl, d⟩
                  have HX2 := (HX.below hw).below d
                  have hw2 := hw.trans (d.mono hw.size)
                  clear d
                  go_wp2_with fail
                  refine (s2 _ HX2).mono ?_; rintro e w8 ⟨rfl, d⟩
                  have hw3 := hw2.trans (d.mono hw2.size)
                  obtain ⟨bc, offc, e0, hbc, hcc⟩ := (hR.below hw3).at_ hn8
                  cases e0
                  rw [Nat.zero_add, hr] at hcc
                  go_wp2_with fail
                  exact ⟨⟨n + 1, by omega, by go_num, hw3⟩, by simp [intOf]; omega⟩)
              · replace HB := HB.trans (hw.mono HB.size)
                go_wp2_with fail
                refine (lw_works _).mono ?_; rintro e w7 ⟨rfl, d⟩
                replace HB := HB.trans (d.mono HB.size); clear d
                go_wp2_with fail
                go_ret
                exact ⟨rfl, HB⟩
  obtain rfl : a = b := by omega
  by_cases hab30 : a = 30
  · obtain ⟨c, hc⟩ : ∃ c : Nat, c = 1 := ⟨1, rfl⟩
    have i0 : (a : Int) % 30 + 1 = c := by omega
    have i1 : (c : Int) < a := by omega
    have i3 : ¬ (a : Int) < c := by omega
    obtain ⟨h1, h2, h3⟩ : 1 ≤ c ∧ c < a ∧ a ≤ 30 := by omega
    clear hc hab30
    have HX := two_ints c a w
    have HN : Nats (w.alloc (.cells #[.int .i64 c, .int .i64 a] 3)) (some ⟨w.heap.size, 0, none⟩) 2 [c, a] := by
      have := HX.nats fun j hj => by
        rcases (show j = 0 ∨ j = 1 by have : j < 2 := hj; omega) with rfl | rfl <;> simp [At]
      rwa [two_natL] at this
    have HB : Below w.heap.size w (w.alloc (.cells #[.int .i64 c, .int .i64 a] 3)) := (Below.refl _ _).alloc (Nat.le_refl _) _
    have hp2 : ∀ s ∈ [c, a], 0 < s ∧ s ≤ 10000 := by intro s hs; simp at hs; omega
    have kG := fun W (h : Ints W (some ⟨w.heap.size, 0, none⟩) 2 [(c : Int), (a : Int)]) => pk_Gaps (some ⟨w.heap.size, 0, none⟩) 2 _ 2 W h (by omega)
    have kT := fun W (h : Ints W (some ⟨w.heap.size, 0, none⟩) 2 [(c : Int), (a : Int)]) => pk_Greatest (some ⟨w.heap.size, 0, none⟩) 2 _ 2 W h (by omega)
    have kE := fun W (h : Ints W (some ⟨w.heap.size, 0, none⟩) 2 [(c : Int), (a : Int)]) => pk_Even (some ⟨w.heap.size, 0, none⟩) 2 _ 2 W h (by omega)
    have kC := fun W (h : Nats W (some ⟨w.heap.size, 0, none⟩) 2 [c, a]) => lw_common (some ⟨w.heap.size, 0, none⟩) 2 _ 2 W h (by omega) (by omega) (fun s hs => ⟨(hp2 s hs).1, by have := (hp2 s hs).2; omega⟩)
    rw [two_G] at kC
    by_cases hg : 1 < Nat.gcd c a
    · obtain ⟨g1, g2, g3⟩ := two_over h1 h2 h3 hg
      simp only [g1, g2, g3] at kG kT kE
      rw [decide_eq_true hg] at kC
      clear hg g1 g2 g3
      go_enter Try.func7, Try.ntmps7
      go_wp2_with fail
      refine (lw_list _ _).mono ?_; rintro e w' ⟨rfl, rfl⟩
      go_wp2_with fail
      refine (kG _ HX).mono ?_; rintro e w1 ⟨A1, c1, rfl, hI1, d⟩
      replace HX := HX.below d; replace HN := HN.below d; replace HB := HB.trans (d.mono HB.size); clear d
      go_wp2_with fail
      refine (kT _ HX).mono ?_; rintro e w2 ⟨rfl, d⟩
      replace HX := HX.below d; replace HN := HN.below d; replace HB := HB.trans (d.mono HB.size); clear d
      go_wp2_with fail
      refine (kE _ HX).mono ?_; rintro e w3 ⟨rfl, d⟩
      replace HX := HX.below d; replace HN := HN.below d; replace HB := HB.trans (d.mono HB.size); clear d
      go_wp2_with fail
      refine (kC _ HN).mono ?_; rintro e w4 ⟨rfl, d⟩
      replace HB := HB.trans (d.mono HB.size); clear d
      go_wp2_with fail
      refine (lw_works _).mono ?_; rintro e w5 ⟨rfl, d⟩
      replace HB := HB.trans (d.mono HB.size); clear d
      go_wp2_with fail
      go_ret
      exact ⟨rfl, HB⟩
    · obtain ⟨g1, g2⟩ := two_gaps h1 h2 h3 hg
      obtain ⟨g3, g4, g5, g6⟩ := two_rest h1 h2 h3 hg
      simp only [g1, g2, g4] at kG kT kE
      rw [decide_eq_false hg] at kC
      have hg1 : Nat.gcd c a = 1 := by have := Nat.gcd_pos_of_pos_left a h1; omega
      have g5 := Lib.hid g5
      have g6 := Lib.hid g6
      clear hg g1 g2 g4
      go_enter Try.func7, Try.ntmps7
      go_wp2_with fail
      refine (lw_list _ _).mono ?_; rintro e w' ⟨rfl, rfl⟩
      go_wp2_with fail
      refine (kG _ HX).mono ?_; rintro e w1 ⟨A1, c1, rfl, hI1, d⟩
      replace HX := HX.below d; replace HN := HN.below d; replace HB := HB.trans (d.mono HB.size); clear d
      go_wp2_with fail
      refine (kT _ HX).mono ?_; rintro e w2 ⟨rfl, d⟩
      replace HX := HX.below d; replace HN := HN.below d; replace hI1 := hI1.below d; replace HB := HB.trans (d.mono HB.size); clear d
      go_wp2_with fail
      refine (kE _ HX).mono ?_; rintro e w3 ⟨rfl, d⟩
      replace HX := HX.below d; replace HN := HN.below d; replace hI1 := hI1.below d; replace HB := HB.trans (d.mono HB.size); clear d
      go_wp2_with fail
      refine (kC _ HN).mono ?_; rintro e w4 ⟨rfl, d⟩
      replace HX := HX.below d; replace HN := HN.below d; replace hI1 := hI1.below d; replace HB := HB.trans (d.mono HB.size); clear d
      go_wp2_with fail
      refine (lw_reach _ 2 _ 2 900 w4 HN hp2 (by omega) (by omega)).mono ?_; rintro e w5 ⟨c5, rfl, hR, d⟩
      replace HX := HX.below d; replace HN := HN.below d; replace hI1 := hI1.below d; replace HB := HB.trans (d.mono HB.size); clear d
      go_wp2_with fail
      go_loopw [15, 87] (fun v i wr => ∃ x : Nat, x ≤ 901 ∧ i = .int .i64 x ∧ OwnI wr w5.heap.size v (gapL [c, a] x) ∧ Below w5.heap.size w5 wr) (fun _ i _ => 901 - (intOf i).toNat)
      case atStart => exact ⟨0, by omega, rfl, OwnI.nil_ _ _, Below.refl _ _⟩
      case round =>
        obtain ⟨x, hx1, rfl, hown, hw⟩ := hrel
        have hsz := hw.size
        have hgl := gapL_len [c, a] x
        by_cases hlt : x < 901
        · obtain ⟨bb, off, e0, hb0, hcl⟩ := (hR.below hw).at_ hlt
          cases e0
          rw [Nat.zero_add] at hcl
          have hi : (x : Int) < 901 := by omega
          have hi0 : (0 : Int) ≤ (x : Int) := by omega
          by_cases hm : rB [c, a] x = true
          · have he := Lib.hid (gapL_miss hm)
            rw [hm] at hcl
            clear hm
            go_wp2_with fail
            exact ⟨⟨x + 1, by omega, by go_num, by rw [he.out]; exact hown, hw⟩, by simp [intOf]; omega⟩
          · have hm' : rB [c, a] x = false := by simpa using hm
            have he := Lib.hid (gapL_hit hm')
            rw [hm'] at hcl
            clear hm hm'
            go_wp2_with (at_builtin; refine wpList_appI rfl _ _ rfl w5.heap.size _ (gapL [c, a] x) x (by rfl) hown hsz (by omega) (by rfl) ?_; intro v' w' hown' hb')
            exact ⟨⟨x + 1, by omega, by go_num, by rw [he.out]; exact hown', hb' _ hw⟩, by simp [intOf]; omega⟩
        · obtain rfl : x = 901 := by omega
          obtain ⟨A', c', rfl, hI⟩ := hown.form
          replace HX := HX.below hw
          replace hI1 := hI1.below hw
          replace hR := hR.below hw
          replace HB := HB.trans (hw.mono HB.size)
          clear hown hw HN kG kT kE kC
          have hmul : c * a ≤ 900 := by have := Nat.mul_le_mul (show c ≤ 30 by omega) (show a ≤ 30 by omega); omega
          have hm1 : (c : Int) * (a : Int) ≤ 900 := by
            have : ((c * a : Nat) : Int) ≤ 900 := by omega
            rwa [Int.natCast_mul] at this
          have hm2 : (0 : Int) ≤ (c : Int) * (a : Int) := Int.mul_nonneg (by omega) (by omega)
          have hS := syl_K (a := c) (b := a) h1 (by omega)
          have hK := two_K h1 h2 h3
          have hSi : (c : Int) * (a : Int) + 1 = (((c - 1) * (a - 1) : Nat) : Int) + c + a := by
            have : ((c * a + 1 : Nat) : Int) = (((c - 1) * (a - 1) + c + a : Nat) : Int) := by rw [hS]
            rw [Int.natCast_add, Int.natCast_mul] at this
            omega
          have hq : ((c : Int) - 1) * ((a : Int) - 1) = 2 * ((gapL [c, a] 901).length : Int) := by
            rw [show ((c : Int) - 1) = ((c - 1 : Nat) : Int) by omega, show ((a : Int) - 1) = ((a - 1 : Nat) : Int) by omega, ← Int.natCast_mul, ← g3, Int.natCast_mul]
            rfl
          obtain ⟨F, hF⟩ : ∃ F : Int, (c : Int) * (a : Int) - c - a = F := ⟨_, rfl⟩
          have g5 := g5.out
          have g6 := g6.out
          rw [hF] at g5 g6
          have hF1 : F ≤ 900 := by omega
          have hF2 : -1 ≤ F := by omega
          have hsum := Lib.hid (show F + c + a = ((c * a : Nat) : Int) by rw [Int.natCast_mul]; omega)
          clear hmul hS hSi hK g3
          by_cases h0 : (gapL [c, a] 901).length = 0
          · obtain ⟨k1, k2⟩ := g5 h0
            rw [k1]
            clear g5 g6
            rw [h0] at hq hgl hI hI1 ⊢
            have hq0 : ((c : Int) - 1) * ((a : Int) - 1) = 0 := by rw [hq]; rfl
            clear hq h0
            go_wp2_with fail
            refine (same_refl hI1 hI (by omega)).mono ?_; rintro e w6 ⟨rfl, d⟩
            replace HB := HB.trans (d.mono HB.size); clear d
            go_wp2_with fail
            refine (lw_works _).mono ?_; rintro e w7 ⟨rfl, d⟩
            replace HB := HB.trans (d.mono HB.size); clear d
            go_wp2_with fail
            go_ret
            exact ⟨rfl, HB⟩
          · obtain ⟨k1, k2, k3⟩ := g6 h0
            rw [k1, k2]
            have z0 : (((gapL [c, a] 901).length : Int) == 0) = false := by rw [beq_eq_false_iff_ne]; omega
            clear g5 g6
            generalize (gapL [c, a] 901).length = L at *
            go_wp2_with fail
            refine (same_refl hI1 hI (by omega)).mono ?_; rintro e w6 ⟨rfl, d⟩
            replace HX := HX.below d; replace hI := hI.below d; replace hR := hR.below d; replace HB := HB.trans (d.mono HB.size); clear d
            obtain ⟨bb, off, rfl, hb0, hcl⟩ := hI.at_ (k := L - 1) (by omega)
            rw [k3] at hcl
            have y1 : (0 : Int) ≤ (L : Int) - 1 := by omega
            have y2 : (1 : Int) ≤ (L : Int) := by omega
            have y3 : (L : Int) - 1 < (L : Int) := by omega
            have y4 : ((L : Int) - 1).toNat = L - 1 := by omega
            go_wp2_with fail
            go_loopw [19] (fun v W => ∃ n : Nat, (n : Int) ≤ F + 1 ∧ v = .int .i64 n ∧ Below w6.heap.size w6 W) (fun v _ => F.toNat + 1 - (intOf v).toNat)
            case atStart => exact ⟨0, by omega, rfl, Below.refl _ _⟩
            case round =>
              obtain ⟨n, hn, rfl, hw⟩ := hrel
              by_cases hnF : (n : Int) ≤ F
              · obtain ⟨m, hm⟩ : ∃ m : Nat, F - (n : Int) = m := ⟨(F - n).toNat, by omega⟩
                obtain ⟨t1, t2⟩ := two_can h1 h2 h3 (n := (n : Int)) (by omega) (by omega)
                obtain ⟨t3, t4⟩ := two_can h1 h2 h3 (n := (m : Int)) (by omega) (by omega)
                have hpr := rB_pair (a := c) (b := a) (n := n) (m := m) h1 (by omega) hg1 (by have := hsum.out; omega)
                have s1 := fun W (h : Ints W (some ⟨w.heap.size, 0, none⟩) 2 [(c : Int), (a : Int)]) => pk_Can (some ⟨w.heap.size, 0, none⟩) 2 _ 2 n W h (by omega)
                have s2 := fun W (h : Ints W (some ⟨w.heap.size, 0, none⟩) 2 [(c : Int), (a : Int)]) => pk_Can (some ⟨w.heap.size, 0, none⟩) 2 _ 2 m W h (by omega)
                rw [Int.toNat_natCast] at t1 t3
                simp only [t1, t2] at s1
                simp only [t3, t4, hpr] at s2
                have hn0 : (0 : Int) ≤ (n : Int) := by omega
                have hn9 : (n : Int) < 901 := by omega
                have hn8 : n < 901 := by omega
                have hR2 := hR.below hw
                clear hpr t1 t2 t3 t4
                generalize rB [c, a] = fr at *
                cases hr : fr n
                all_goals (
                  simp only [hr, Bool.not_false, Bool.not_true] at s1 s2
                  go_wp2_with fail
                  refine (s1 _ (HX.below hw)).mono ?_; rintro e w7 ⟨rfl, d⟩
                  have HX2 := (HX.below hw).below d
                  have hw2 := hw.trans (d.mono hw.size)
                  clear d
                  go_wp2_with fail
                  refine (s2 _ HX2).mono ?_; rintro e w8 ⟨rfl, d⟩
                  have hw3 := hw2.trans (d.mono hw2.size)
                  obtain ⟨bc, offc, e0, hbc, hcc⟩ := (hR.below hw3).at_ hn8
                  cases e0
                  rw [Nat.zero_add, hr] at hcc
                  go_wp2_with fail
                  exact ⟨⟨n + 1, by omega, by go_num, hw3⟩, by simp [intOf]; omega⟩)
              · replace HB := HB.trans (hw.mono HB.size)
                go_wp2_with fail
                refine (lw_works _).mono ?_; rintro e w7 ⟨rfl, d⟩
                replace HB := HB.trans (d.mono HB.size); clear d
                go_wp2_with fail
                go_ret
                exact ⟨rfl, HB⟩
  · obtain ⟨c, hc⟩ : ∃ c : Nat, c = a + 1 := ⟨_, rfl⟩
    have i0 : (a : Int) % 30 + 1 = c := by omega
    have i9 : (a : Int) + 1 = c := by omega
    have i1 : (a : Int) < c := by omega
    obtain ⟨h1, h2, h3⟩ : 1 ≤ a ∧ a < c ∧ c ≤ 30 := by omega
    clear hc
    have HX := two_ints a c w
    have HN : Nats (w.alloc (.cells #[.int .i64 a, .int .i64 c] 3)) (some ⟨w.heap.size, 0, none⟩) 2 [a, c] := by
      have := HX.nats fun j hj => by
        rcases (show j = 0 ∨ j = 1 by have : j < 2 := hj; omega) with rfl | rfl <;> simp [At]
      rwa [two_natL] at this
    have HB : Below w.heap.size w (w.alloc (.cells #[.int .i64 a, .int .i64 c] 3)) := (Below.refl _ _).alloc (Nat.le_refl _) _
    have hp2 : ∀ s ∈ [a, c], 0 < s ∧ s ≤ 10000 := by intro s hs; simp at hs; omega
    have kG := fun W (h : Ints W (some ⟨w.heap.size, 0, none⟩) 2 [(a : Int), (c : Int)]) => pk_Gaps (some ⟨w.heap.size, 0, none⟩) 2 _ 2 W h (by omega)
    have kT := fun W (h : Ints W (some ⟨w.heap.size, 0, none⟩) 2 [(a : Int), (c : Int)]) => pk_Greatest (some ⟨w.heap.size, 0, none⟩) 2 _ 2 W h (by omega)
    have kE := fun W (h : Ints W (some ⟨w.heap.size, 0, none⟩) 2 [(a : Int), (c : Int)]) => pk_Even (some ⟨w.heap.size, 0, none⟩) 2 _ 2 W h (by omega)
    have kC := fun W (h : Nats W (some ⟨w.heap.size, 0, none⟩) 2 [a, c]) => lw_common (some ⟨w.heap.size, 0, none⟩) 2 _ 2 W h (by omega) (by omega) (fun s hs => ⟨(hp2 s hs).1, by have := (hp2 s hs).2; omega⟩)
    rw [two_G] at kC
    by_cases hg : 1 < Nat.gcd a c
    · obtain ⟨g1, g2, g3⟩ := two_over h1 h2 h3 hg
      simp only [g1, g2, g3] at kG kT kE
      rw [decide_eq_true hg] at kC
      clear hg g1 g2 g3
      go_enter Try.func7, Try.ntmps7
      go_wp2_with fail
      refine (lw_list _ _).mono ?_; rintro e w' ⟨rfl, rfl⟩
      go_wp2_with fail
      refine (kG _ HX).mono ?_; rintro e w1 ⟨A1, c1, rfl, hI1, d⟩
      replace HX := HX.below d; replace HN := HN.below d; replace HB := HB.trans (d.mono HB.size); clear d
      go_wp2_with fail
      refine (kT _ HX).mono ?_; rintro e w2 ⟨rfl, d⟩
      replace HX := HX.below d; replace HN := HN.below d; replace HB := HB.trans (d.mono HB.size); clear d
      go_wp2_with fail
      refine (kE _ HX).mono ?_; rintro e w3 ⟨rfl, d⟩
      replace HX := HX.below d; replace HN := HN.below d; replace HB := HB.trans (d.mono HB.size); clear d
      go_wp2_with fail
      refine (kC _ HN).mono ?_; rintro e w4 ⟨rfl, d⟩
      replace HB := HB.trans (d.mono HB.size); clear d
      go_wp2_with fail
      refine (lw_works _).mono ?_; rintro e w5 ⟨rfl, d⟩
      replace HB := HB.trans (d.mono HB.size); clear d
      go_wp2_with fail
      go_ret
      exact ⟨rfl, HB⟩
    · obtain ⟨g1, g2⟩ := two_gaps h1 h2 h3 hg
      obtain ⟨g3, g4, g5, g6⟩ := two_rest h1 h2 h3 hg
      simp only [g1, g2, g4] at kG kT kE
      rw [decide_eq_false hg] at kC
      have hg1 : Nat.gcd a c = 1 := by have := Nat.gcd_pos_of_pos_left c h1; omega
      have g5 := Lib.hid g5
      have g6 := Lib.hid g6
      clear hg g1 g2 g4
      go_enter Try.func7, Try.ntmps7
      go_wp2_with fail
      refine (lw_list _ _).mono ?_; rintro e w' ⟨rfl, rfl⟩
      go_wp2_with fail
      refine (kG _ HX).mono ?_; rintro e w1 ⟨A1, c1, rfl, hI1, d⟩
      replace HX := HX.below d; replace HN := HN.below d; replace HB := HB.trans (d.mono HB.size); clear d
      go_wp2_with fail
      refine (kT _ HX).mono ?_; rintro e w2 ⟨rfl, d⟩
      replace HX := HX.below d; replace HN := HN.below d; replace hI1 := hI1.below d; replace HB := HB.trans (d.mono HB.size); clear d
      go_wp2_with fail
      refine (kE _ HX).mono ?_; rintro e w3 ⟨rfl, d⟩
      replace HX := HX.below d; replace HN := HN.below d; replace hI1 := hI1.below d; replace HB := HB.trans (d.mono HB.size); clear d
      go_wp2_with fail
      refine (kC _ HN).mono ?_; rintro e w4 ⟨rfl, d⟩
      replace HX := HX.below d; replace HN := HN.below d; replace hI1 := hI1.below d; replace HB := HB.trans (d.mono HB.size); clear d
      go_wp2_with fail
      refine (lw_reach _ 2 _ 2 900 w4 HN hp2 (by omega) (by omega)).mono ?_; rintro e w5 ⟨c5, rfl, hR, d⟩
      replace HX := HX.below d; replace HN := HN.below d; replace hI1 := hI1.below d; replace HB := HB.trans (d.mono HB.size); clear d
      go_wp2_with fail
      go_loopw [15, 87] (fun v i wr => ∃ x : Nat, x ≤ 901 ∧ i = .int .i64 x ∧ OwnI wr w5.heap.size v (gapL [a, c] x) ∧ Below w5.heap.size w5 wr) (fun _ i _ => 901 - (intOf i).toNat)
      case atStart => exact ⟨0, by omega, rfl, OwnI.nil_ _ _, Below.refl _ _⟩
      case round =>
        obtain ⟨x, hx1, rfl, hown, hw⟩ := hrel
        have hsz := hw.size
        have hgl := gapL_len [a, c] x
        by_cases hlt : x < 901
        · obtain ⟨bb, off, e0, hb0, hcl⟩ := (hR.below hw).at_ hlt
          cases e0
          rw [Nat.zero_add] at hcl
          have hi : (x : Int) < 901 := by omega
          have hi0 : (0 : Int) ≤ (x : Int) := by omega
          by_cases hm : rB [a, c] x = true
          · have he := Lib.hid (gapL_miss hm)
            rw [hm] at hcl
            clear hm
            go_wp2_with fail
            exact ⟨⟨x + 1, by omega, by go_num, by rw [he.out]; exact hown, hw⟩, by simp [intOf]; omega⟩
          · have hm' : rB [a, c] x = false := by simpa using hm
            have he := Lib.hid (gapL_hit hm')
            rw [hm'] at hcl
            clear hm hm'
            go_wp2_with (at_builtin; refine wpList_appI rfl _ _ rfl w5.heap.size _ (gapL [a, c] x) x (by rfl) hown hsz (by omega) (by rfl) ?_; intro v' w' hown' hb')
            exact ⟨⟨x + 1, by omega, by go_num, by rw [he.out]; exact hown', hb' _ hw⟩, by simp [intOf]; omega⟩
        · obtain rfl : x = 901 := by omega
          obtain ⟨A', c', rfl, hI⟩ := hown.form
          replace HX := HX.below hw
          replace hI1 := hI1.below hw
          replace hR := hR.below hw
          replace HB := HB.trans (hw.mono HB.size)
          clear hown hw HN kG kT kE kC
          have hmul : a * c ≤ 900 := by have := Nat.mul_le_mul (show a ≤ 30 by omega) (show c ≤ 30 by omega); omega
          have hm1 : (a : Int) * (c : Int) ≤ 900 := by
            have : ((a * c : Nat) : Int) ≤ 900 := by omega
            rwa [Int.natCast_mul] at this
          have hm2 : (0 : Int) ≤ (a : Int) * (c : Int) := Int.mul_nonneg (by omega) (by omega)
          have hS := syl_K (a := a) (b := c) h1 (by omega)
          have hK := two_K h1 h2 h3
          have hSi : (a : Int) * (c : Int) + 1 = (((a - 1) * (c - 1) : Nat) : Int) + a + c := by
            have : ((a * c + 1 : Nat) : Int) = (((a - 1) * (c - 1) + a + c : Nat) : Int) := by rw [hS]
            rw [Int.natCast_add, Int.natCast_mul] at this
            omega
          have hq : ((a : Int) - 1) * ((c : Int) - 1) = 2 * ((gapL [a, c] 901).length : Int) := by
            rw [show ((a : Int) - 1) = ((a - 1 : Nat) : Int) by omega, show ((c : Int) - 1) = ((c - 1 : Nat) : Int) by omega, ← Int.natCast_mul, ← g3, Int.natCast_mul]
            rfl
          obtain ⟨F, hF⟩ : ∃ F : Int, (a : Int) * (c : Int) - a - c = F := ⟨_, rfl⟩
          have g5 := g5.out
          have g6 := g6.out
          rw [hF] at g5 g6
          have hF1 : F ≤ 900 := by omega
          have hF2 : -1 ≤ F := by omega
          have hsum := Lib.hid (show F + a + c = ((a * c : Nat) : Int) by rw [Int.natCast_mul]; omega)
          clear hmul hS hSi hK g3
          by_cases h0 : (gapL [a, c] 901).length = 0
          · obtain ⟨k1, k2⟩ := g5 h0
            rw [k1]
            clear g5 g6
            rw [h0] at hq hgl hI hI1 ⊢
            have hq0 : ((a : Int) - 1) * ((c : Int) - 1) = 0 := by rw [hq]; rfl
            clear hq h0
            go_wp2_with fail
            refine (same_refl hI1 hI (by omega)).mono ?_; rintro e w6 ⟨rfl, d⟩
            replace HB := HB.trans (d.mono HB.size); clear d
            go_wp2_with fail
            refine (lw_works _).mono ?_; rintro e w7 ⟨rfl, d⟩
            replace HB := HB.trans (d.mono HB.size); clear d
            go_wp2_with fail
            go_ret
            exact ⟨rfl, HB⟩
          · obtain ⟨k1, k2, k3⟩ := g6 h0
            rw [k1, k2]
            have z0 : (((gapL [a, c] 901).length : Int) == 0) = false := by rw [beq_eq_false_iff_ne]; omega
            clear g5 g6
            generalize (gapL [a, c] 901).length = L at *
            go_wp2_with fail
            refine (same_refl hI1 hI (by omega)).mono ?_; rintro e w6 ⟨rfl, d⟩
            replace HX := HX.below d; replace hI := hI.below d; replace hR := hR.below d; replace HB := HB.trans (d.mono HB.size); clear d
            obtain ⟨bb, off, rfl, hb0, hcl⟩ := hI.at_ (k := L - 1) (by omega)
            rw [k3] at hcl
            have y1 : (0 : Int) ≤ (L : Int) - 1 := by omega
            have y2 : (1 : Int) ≤ (L : Int) := by omega
            have y3 : (L : Int) - 1 < (L : Int) := by omega
            have y4 : ((L : Int) - 1).toNat = L - 1 := by omega
            go_wp2_with fail
            go_loopw [19] (fun v W => ∃ n : Nat, (n : Int) ≤ F + 1 ∧ v = .int .i64 n ∧ Below w6.heap.size w6 W) (fun v _ => F.toNat + 1 - (intOf v).toNat)
            case atStart => exact ⟨0, by omega, rfl, Below.refl _ _⟩
            case round =>
              obtain ⟨n, hn, rfl, hw⟩ := hrel
              by_cases hnF : (n : Int) ≤ F
              · obtain ⟨m, hm⟩ : ∃ m : Nat, F - (n : Int) = m := ⟨(F - n).toNat, by omega⟩
                obtain ⟨t1, t2⟩ := two_can h1 h2 h3 (n := (n : Int)) (by omega) (by omega)
                obtain ⟨t3, t4⟩ := two_can h1 h2 h3 (n := (m : Int)) (by omega) (by omega)
                have hpr := rB_pair (a := a) (b := c) (n := n) (m := m) h1 (by omega) hg1 (by have := hsum.out; omega)
                have s1 := fun W (h : Ints W (some ⟨w.heap.size, 0, none⟩) 2 [(a : Int), (c : Int)]) => pk_Can (some ⟨w.heap.size, 0, none⟩) 2 _ 2 n W h (by omega)
                have s2 := fun W (h : Ints W (some ⟨w.heap.size, 0, none⟩) 2 [(a : Int), (c : Int)]) => pk_Can (some ⟨w.heap.size, 0, none⟩) 2 _ 2 m W h (by omega)
                rw [Int.toNat_natCast] at t1 t3
                simp only [t1, t2] at s1
                simp only [t3, t4, hpr] at s2
                have hn0 : (0 : Int) ≤ (n : Int) := by omega
                have hn9 : (n : Int) < 901 := by omega
                have hn8 : n < 901 := by omega
                have hR2 := hR.below hw
                clear hpr t1 t2 t3 t4
                generalize rB [a, c] = fr at *
                cases hr : fr n
                all_goals (
                  simp only [hr, Bool.not_false, Bool.not_true] at s1 s2
                  go_wp2_with fail
                  refine (s1 _ (HX.below hw)).mono ?_; rintro e w7 ⟨rfl, d⟩
                  have HX2 := (HX.below hw).below d
                  have hw2 := hw.trans (d.mono hw.size)
                  clear d
                  go_wp2_with fail
                  refine (s2 _ HX2).mono ?_; rintro e w8 ⟨rfl, d⟩
                  have hw3 := hw2.trans (d.mono hw2.size)
                  obtain ⟨bc, offc, e0, hbc, hcc⟩ := (hR.below hw3).at_ hn8
                  cases e0
                  rw [Nat.zero_add, hr] at hcc
                  go_wp2_with fail
                  exact ⟨⟨n + 1, by omega, by go_num, hw3⟩, by simp [intOf]; omega⟩)
              · replace HB := HB.trans (hw.mono HB.size)
                go_wp2_with fail
                refine (lw_works _).mono ?_; rintro e w7 ⟨rfl, d⟩
                replace HB := HB.trans (d.mono HB.size); clear d
                go_wp2_with fail
                go_ret
                exact ⟨rfl, HB⟩
end Go.Proofs.Ytjcoaicpeajpnaa
