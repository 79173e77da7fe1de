/- Walks of the reference: Gaps, Greatest, Even. -/
import Derived.Test.YtjcoaicpeajpnaaRfB
namespace Go.Proofs.Ytjcoaicpeajpnaa
open Go.RowKit Pk

set_option maxRecDepth 100000 in
set_option maxHeartbeats 2000000 in
theorem rf_Gaps (A : Option Addr) (n : Nat) (xs : List Int) (ca : Nat) (w : World) (hx : Ints w A n xs) (hl : n ≤ 1000000000) :
    Calls Try.prog 29 #[.slice A n ca] w fun e w' => GivesE w w' e (gapV xs) (gapE xs) := by
  have hc := rf_Check A n xs ca w hx hl
  by_cases h1 : chk xs = 0
  · obtain ⟨s1, s2, hN, hp⟩ := hx.sizes h1
    have hG := fun j => rf_divisor A n (natL xs) ca (w.drewN j) (hN.drewN j) (sub1000 hp) (by omega)
    rw [h1] at hc
    by_cases h2 : 1 < G (natL xs)
    · have hE' : gapE xs = 15 := by rw [gapE, if_pos h1, if_pos h2]
      have hL := Lib.hid (show gapV xs = [] by rw [gapV, if_neg (by rw [hE']; decide)])
      have hE := Lib.hid hE'
      have hg2 : (1 : Int) < (G (natL xs) : Int) := by omega
      clear h1 hE'
      go_enter Try.func29, Try.ntmps29
      go_wp2_with fail
      refine hc.mono ?_; rintro e w' ⟨rfl, j, rfl⟩
      go_wp2_with fail
      refine (hG j).mono ?_; rintro e w' ⟨rfl, j', rfl⟩
      go_wp2_with fail
      go_ret2
      rw [hL.out, hE.out]
      exact GivesE.nil (bdrewN (Below.refl _ _) _)
    · have hE' : gapE xs = 0 := by rw [gapE, if_pos h1, if_neg h2]
      have hne : natL xs ≠ [] := by intro h; have := hN.len; rw [h] at this; simp at this; omega
      have hg1 : G (natL xs) = 1 := by have := G_pos hne (fun s h => (hp s h).1); omega
      have hL := Lib.hid (show gapV xs = gapL (natL xs) 901 by rw [gapV, if_pos hE', gapL_early hne hp hg1])
      have hE := Lib.hid hE'
      have hg2 : ¬ (1 : Int) < (G (natL xs) : Int) := by omega
      have hag := fun j => rf_made A n (natL xs) ca 900 (w.drewN j) (hN.drewN j) (sub1000 hp) (by omega) (by omega)
      clear h1 hE' hg1
      go_enter Try.func29, Try.ntmps29
      go_wp2_with fail
      refine hc.mono ?_; rintro e w' ⟨rfl, j, rfl⟩
      go_wp2_with fail
      refine (hG j).mono ?_; rintro e w' ⟨rfl, j', rfl⟩
      go_wp2_with fail
      refine (hag _).mono ?_
      rintro e w1 ⟨c2, rfl, hBo, hb⟩
      have hw1 : Below w.heap.size w w1 := undrewN hb
      clear hb
      go_wp2_with fail
      go_loopw [5, 7] (fun v i wr => ∃ x : Nat, 1 ≤ x ∧ x ≤ 901 ∧ i = .int .i64 x ∧ OwnI wr w1.heap.size v (gapL (natL xs) x) ∧ Below w1.heap.size w1 wr) (fun _ i _ => 901 - (intOf i).toNat)
      case atStart => exact ⟨1, by omega, by omega, rfl, by rw [gapL_one]; exact OwnI.nil_ _ _, Below.refl _ _⟩
      case round =>
        obtain ⟨x, hx0, hx1, rfl, hown, hw⟩ := hrel
        have hsz := hw.size
        have hgl := gapL_len (natL xs) x
        by_cases hlt : x < 901
        · obtain ⟨b, off, e0, hb0, hcl⟩ := (hBo.below hw).at_ hlt
          cases e0
          have hcl : wr.cell? ⟨w.heap.size, x, none⟩ = some (.bool (rB (natL xs) x)) := by rw [Nat.zero_add] at hcl; exact hcl
          have hi : (x : Int) < 901 := by omega
          have hi0 : (0 : Int) ≤ (x : Int) := by omega
          by_cases hm : rB (natL xs) x = true
          · have he := Lib.hid (gapL_miss hm)
            rw [hm] at hcl
            clear hm
            go_wp2_with fail
            exact ⟨⟨x + 1, by omega, by omega, by go_num, by rw [he.out]; exact hown, hw⟩, by simp [intOf]; omega⟩
          · have hm' : rB (natL xs) x = false := by simpa using hm
            have he := Lib.hid (gapL_hit hm')
            rw [hm'] at hcl
            clear hm hm'
            go_wp2_with (at_builtin; refine wpList_appI rfl _ _ rfl w1.heap.size _ (gapL (natL xs) x) x (by rfl) hown hsz (by omega) (by rfl) ?_; intro v' w' hown' hb')
            exact ⟨⟨x + 1, by omega, by omega, by go_num, by rw [he.out]; exact hown', hb' _ hw⟩, by simp [intOf]; omega⟩
        · obtain rfl : x = 901 := by omega
          obtain ⟨A', c', rfl, hI⟩ := hown.form
          go_wp2_with fail
          go_ret2
          unfold GivesE
          rw [hL.out, hE.out]
          exact ⟨_, _, rfl, hI, hw1.trans (hw.mono hw1.size)⟩
  · have hb := ne0 h1
    have hb2 : (chk xs == 0) = false := by simp [h1]
    have hE' : gapE xs = chk xs := by rw [gapE, if_neg h1]
    have hL := Lib.hid (show gapV xs = [] by rw [gapV, if_neg (by rw [hE']; exact h1)])
    have hE := Lib.hid hE'
    clear h1 hE'
    go_enter Try.func29, Try.ntmps29
    go_wp2_with fail
    refine hc.mono ?_; rintro e w' ⟨rfl, j, rfl⟩
    go_wp2_with fail
    go_ret2
    rw [hL.out, hE.out]
    exact GivesE.nil (bdrewN (Below.refl _ _) _)

set_option maxHeartbeats 1000000 in
theorem rf_Greatest (A : Option Addr) (n : Nat) (xs : List Int) (ca : Nat) (w : World) (hx : Ints w A n xs) (hl : n ≤ 1000000000) :
    Calls Try.prog 31 #[.slice A n ca] w fun e w' => e = .returned (.tuple #[.int .i64 (greV xs), .int .i64 (greE xs)]) ∧ Below w.heap.size w w' := by
  have hc := rf_Gaps A n xs ca w hx hl
  have hgl := gapV_len xs
  by_cases h1 : gapE xs = 0
  · by_cases h2 : (gapV xs).length = 0
    · have hE' : greE xs = 12 := by rw [greE, if_pos h1, if_pos h2]
      have hV := Lib.hid (show greV xs = 0 by rw [greV, if_neg (by rw [hE']; decide)])
      have hE := Lib.hid hE'
      rw [h1] at hc
      have h2 := Lib.hid h2
      clear h1 hE'
      go_enter Try.func31, Try.ntmps31
      go_wp2_with fail
      refine hc.mono ?_; rintro e w1 ⟨A1, c1, rfl, hI, hb⟩
      rw [h2.out]
      go_wp2_with fail
      go_ret2
      exact ⟨by rw [hV.out, hE.out]; rfl, hb⟩
    · have hE' : greE xs = 0 := by rw [greE, if_pos h1, if_neg h2]
      have hV := Lib.hid (show greV xs = At (gapV xs) ((gapV xs).length - 1) by rw [greV, if_pos hE'])
      have hE := Lib.hid hE'
      rw [h1] at hc
      clear h1 hE'
      go_enter Try.func31, Try.ntmps31
      go_wp2_with fail
      refine hc.mono ?_; rintro e w1 ⟨A1, c1, rfl, hI, hb⟩
      generalize (gapV xs).length = L at *
      obtain ⟨b, off, rfl, _, hcl⟩ := hI.at_ (k := L - 1) (by omega)
      have z0 : ((L : Int) == 0) = false := by simp; omega
      have z1 : (0 : Int) ≤ (L : Int) - 1 := by omega
      have z2 : (1 : Int) ≤ (L : Int) := by omega
      go_wp2_with fail
      go_ret2
      exact ⟨by rw [hV.out, hE.out]; rfl, hb⟩
  · have hb := ne0 h1
    have hb2 : (gapE xs == 0) = false := by simp [h1]
    have hE' : greE xs = gapE xs := by rw [greE, if_neg h1]
    have hV := Lib.hid (show greV xs = 0 by rw [greV, if_neg (by rw [hE']; exact h1)])
    have hE := Lib.hid hE'
    clear h1 hE'
    go_enter Try.func31, Try.ntmps31
    go_wp2_with fail
    refine hc.mono ?_; rintro e w1 ⟨A1, c1, rfl, hI, hb⟩
    go_wp2_with fail
    go_ret2
    exact ⟨by rw [hV.out, hE.out]; rfl, hb⟩

set_option maxHeartbeats 1000000 in
theorem rf_Even (A : Option Addr) (n : Nat) (xs : List Int) (ca : Nat) (w : World) (hx : Ints w A n xs) (hl : n ≤ 1000000000) :
    Calls Try.prog 33 #[.slice A n ca] w fun e w' => e = .returned (.tuple #[.bool (evnV xs), .int .i64 (gapE xs)]) ∧ Below w.heap.size w w' := by
  have hc := rf_Gaps A n xs ca w hx hl
  have hgl := gapV_len xs
  by_cases h1 : gapE xs = 0
  · by_cases h2 : (gapV xs).length = 0
    · have hV := Lib.hid (show evnV xs = true by rw [evnV, if_pos h1, h2]; simp)
      have hE := Lib.hid h1
      rw [h1] at hc
      have h2 := Lib.hid h2
      clear h1
      go_enter Try.func33, Try.ntmps33
      go_wp2_with fail
      refine hc.mono ?_; rintro e w1 ⟨A1, c1, rfl, hI, hb⟩
      rw [h2.out]
      go_wp2_with fail
      go_ret2
      exact ⟨by rw [hV.out, hE.out]; rfl, hb⟩
    · have hV' : evnV xs = (At (gapV xs) ((gapV xs).length - 1) + 1 - ((gapV xs).length : Int) == ((gapV xs).length : Int)) := by
        rw [evnV, if_pos h1, Bool.eq_iff_iff]; simp [h2]; omega
      have hV := Lib.hid hV'
      have hE := Lib.hid h1
      have hgA := gapV_At xs ((gapV xs).length - 1)
      obtain ⟨hg1, hg2⟩ := hgA
      rw [h1] at hc
      clear h1 hV'
      go_enter Try.func33, Try.ntmps33
      go_wp2_with fail
      refine hc.mono ?_; rintro e w1 ⟨A1, c1, rfl, hI, hb⟩
      generalize (gapV xs).length = L at *
      obtain ⟨b, off, rfl, _, hcl⟩ := hI.at_ (k := L - 1) (by omega)
      generalize At (gapV xs) (L - 1) = top at *
      have z0 : ((L : Int) == 0) = false := by simp; omega
      have z1 : (0 : Int) ≤ (L : Int) - 1 := by omega
      have z2 : (1 : Int) ≤ (L : Int) := by omega
      go_wp2_with fail
      go_ret2
      exact ⟨by rw [hV.out, hE.out]; rfl, hb⟩
  · have hb := ne0 h1
    have hV := Lib.hid (show evnV xs = false by rw [evnV, if_neg h1])
    clear h1
    go_enter Try.func33, Try.ntmps33
    go_wp2_with fail
    refine hc.mono ?_; rintro e w1 ⟨A1, c1, rfl, hI, hb⟩
    go_wp2_with fail
    go_ret2
    exact ⟨by rw [hV.out]; rfl, hb⟩
end Go.Proofs.Ytjcoaicpeajpnaa
