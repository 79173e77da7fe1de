/- Exported functions: Why, Greatest, Even, Needed, Ways, Totals, Least. -/
import Derived.Test.YtjcoaicpeajpnaaPkW9
namespace Go.Proofs.Ytjcoaicpeajpnaa
open Go.RowKit Pk

def whyE (xs : List Int) (n : Int) : Int := if chkN xs n = 0 then (if rB (natL xs) n.toNat then 13 else 0) else chkN xs n
def whyR (xs : List Int) (n : Int) : Int := if whyE xs n = 0 then ((n.toNat % NAt (natL xs) 0 : Nat) : Int) else 0
def whyM (xs : List Int) (n : Int) : Int := if whyE xs n = 0 then fm (natL xs) (NAt (natL xs) 0) (n.toNat % NAt (natL xs) 0) else 0
set_option maxRecDepth 100000 in
set_option maxHeartbeats 1000000 in
theorem pk_Why (A : Option Addr) (n : Nat) (xs : List Int) (ca : Nat) (k : Int) (w : World) (hx : Ints w A n xs) (hl : n ≤ 1000000000) :
    Calls Try.prog 21 #[.slice A n ca, .int .i64 k] w fun e w' => e = .returned (.tuple #[.int .i64 (whyR xs k), .int .i64 (whyM xs k), .int .i64 (whyE xs k)]) ∧ Below w.heap.size w w' := by
  have hc := pk_checkNumber A n xs ca k w hx hl
  by_cases h1 : chkN xs k = 0
  · obtain ⟨h2, h3, h4⟩ := chkN_ok h1
    obtain ⟨s1, s2, hN, hp⟩ := hx.sizes h2
    obtain ⟨k, rfl⟩ := Int.eq_ofNat_of_zero_le h3
    have hmk := makeable_any A n (natL xs) ca w hN (fun s h => (hp s h).1) (by omega) (fun s h => by have := hp s h; omega)
    by_cases hr : rB (natL xs) k = true
    · have hE' : whyE xs k = 13 := by rw [whyE, if_pos h1, Int.toNat_natCast, if_pos hr]
      have hE := Lib.hid hE'
      have hR := Lib.hid (show whyR xs k = 0 by rw [whyR, if_neg (by rw [hE']; decide)])
      have hM := Lib.hid (show whyM xs k = 0 by rw [whyM, if_neg (by rw [hE']; decide)])
      have hin : inTab (rB (natL xs)) (k : Int) = true := by simp [inTab, hr]; omega
      have HIN := Lib.hid hin
      rw [h1] at hc
      clear h1 h2 hE' hin hr
      go_enter Try.func21, Try.ntmps21
      go_wp2_with fail
      refine hc.mono ?_; rintro e w' ⟨rfl, rfl⟩
      go_wp2_with fail
      refine hmk.mono ?_
      rintro e w1 ⟨rfl, ⟨ct, hBt, hT⟩, hw1⟩
      have hcall := pk_made w.heap.size ct (rB (natL xs)) k w1 hBt hT
      rw [HIN.out] at hcall
      go_wp2_with fail
      refine hcall.mono ?_
      rintro e w' ⟨rfl, rfl⟩
      go_wp2_with fail
      go_ret3
      exact ⟨by rw [hE.out, hR.out, hM.out]; rfl, hw1⟩
    · have hE' : whyE xs k = 0 := by rw [whyE, if_pos h1, Int.toNat_natCast, if_neg hr]
      have hE := Lib.hid hE'
      have hR := Lib.hid (show whyR xs k = ((k % NAt (natL xs) 0 : Nat) : Int) by rw [whyR, if_pos hE', Int.toNat_natCast])
      have hM := Lib.hid (show whyM xs k = fm (natL xs) (NAt (natL xs) 0) (k % NAt (natL xs) 0) by rw [whyM, if_pos hE', Int.toNat_natCast])
      have hin : inTab (rB (natL xs)) (k : Int) = false := by simp [inTab, hr]
      have HIN := Lib.hid hin
      obtain ⟨b, off, rfl, hb, hcl⟩ := hN.at_ (k := 0) (by omega)
      rw [Nat.add_zero] at hcl
      have hs := hp _ (NAt_mem (ps := natL xs) (k := 0) (by rw [hN.len]; omega))
      have hfm := fun W (hW : Nats W (some ⟨b, off, none⟩) n (natL xs)) => pk_firstMade (some ⟨b, off, none⟩) n (natL xs) ca 0 W hW (fun s h => (hp s h).1) (fun s h => by have := hp s h; omega) (by omega) (by omega)
      have hcall : ∀ W, Nats W (some ⟨b, off, none⟩) n (natL xs) → Calls Try.prog 67 #[.slice (some ⟨b, off, none⟩) n ca, .int .i64 0] W fun e w2 =>
          ∃ b2 off2 c2, e = .returned (.slice (some ⟨b2, off2, none⟩) (NAt (natL xs) 0) c2) ∧ w2.cell? ⟨b2, off2 + k % NAt (natL xs) 0, none⟩ = some (.int .i64 (fm (natL xs) (NAt (natL xs) 0) (k % NAt (natL xs) 0))) ∧ Below W.heap.size W w2 := by
        intro W hW
        refine (hfm W hW).mono ?_
        rintro e w2 ⟨A2, c2, rfl, hI, hb2⟩
        have hlen : (fmL (natL xs) (NAt (natL xs) 0)).length = NAt (natL xs) 0 := by simp [fmL]
        have hmod := Nat.mod_lt k (show 0 < NAt (natL xs) 0 from hs.1)
        rw [hlen] at hI
        obtain ⟨b2, off2, rfl, _, hc2⟩ := hI.at_ hmod
        rw [fmL, At_range _ _ hmod] at hc2
        rw [hlen]
        exact ⟨b2, off2, c2, rfl, hc2, hb2⟩
      rw [h1] at hc
      clear h1 h2 hE' hin hr hfm
      go_enter Try.func21, Try.ntmps21
      go_wp2_with fail
      refine hc.mono ?_; rintro e w' ⟨rfl, rfl⟩
      go_wp2_with fail
      refine hmk.mono ?_
      rintro e w1 ⟨rfl, ⟨ct, hBt, hT⟩, hw1⟩
      have hcall2 := pk_made w.heap.size ct (rB (natL xs)) k w1 hBt hT
      rw [HIN.out] at hcall2
      have hcl1 := (hw1.cell (p := ⟨b, off, none⟩) hb).trans hcl
      have hN1 := hN.below hw1
      have hmod := Nat.mod_lt k (show 0 < NAt (natL xs) 0 from hs.1)
      generalize NAt (natL xs) 0 = s at *
      have z0 : (1 : Int) ≤ (s : Int) := by omega
      have z1 : (0 : Int) ≤ (k : Int) % (s : Int) := by omega
      have z2 : (k : Int) % (s : Int) < s := by omega
      have z3 : ((k : Int) % (s : Int)).toNat = k % s := by omega
      go_wp2_with fail
      refine hcall2.mono ?_
      rintro e w' ⟨rfl, rfl⟩
      go_wp2_with fail
      go_region_with ((go_at_call 67; refine (hcall _ (by exact hN1.drewN 1)).mono ?_; rintro e w2 ⟨b2, off2, c2, rfl, hc2, hb2⟩))
      all_goals go_wp2_with fail
      all_goals go_ret3
      all_goals exact ⟨by rw [hE.out, hR.out, hM.out]; rfl, hw1.trans ((undrew hb2).mono hw1.size)⟩
  · have hb := ne0 h1
    have hE' : whyE xs k = chkN xs k := by rw [whyE, if_neg h1]
    have hE := Lib.hid hE'
    have hR := Lib.hid (show whyR xs k = 0 by rw [whyR, if_neg (by rw [hE']; exact h1)])
    have hM := Lib.hid (show whyM xs k = 0 by rw [whyM, if_neg (by rw [hE']; exact h1)])
    clear h1 hE'
    go_enter Try.func21, Try.ntmps21
    go_wp2_with fail
    refine hc.mono ?_; rintro e w' ⟨rfl, rfl⟩
    go_wp2_with fail
    go_ret3
    exact ⟨by rw [hE.out, hR.out, hM.out]; rfl, Below.refl _ _⟩

def greE (xs : List Int) : Int := if gapE xs = 0 then (if (gapV xs).length = 0 then 12 else 0) else gapE xs
def greV (xs : List Int) : Int := if greE xs = 0 then At (gapV xs) ((gapV xs).length - 1) else 0
theorem gapV_len (xs : List Int) : (gapV xs).length ≤ 1001 := by
  rw [gapV]; split
  · exact gapL_len _ _
  · simp
set_option maxHeartbeats 1000000 in
theorem pk_Greatest (A : Option Addr) (n : Nat) (xs : List Int) (ca : Nat) (w : World) (hx : Ints w A n xs) (hl : n ≤ 1000000000) :
    Calls Try.prog 30 #[.slice A n ca] w fun e w' => e = .returned (.tuple #[.int .i64 (greV xs), .int .i64 (greE xs)]) ∧ Below w.heap.size w w' := by
  have hc := pk_Gaps A n xs ca w hx hl
  have hgl := gapV_len xs
  by_cases h1 : gapE xs = 0
  · by_cases h2 : (gapV xs).length = 0
    · have hE' : greE xs = 12 := by rw [greE, if_pos h1, if_pos h2]
      have hV := Lib.hid (show greV xs = 0 by rw [greV, if_neg (by rw [hE']; decide)])
      have hE := Lib.hid hE'
      rw [h1] at hc
      have h2 := Lib.hid h2
      clear h1 hE'
      go_enter Try.func30, Try.ntmps30
      go_wp2_with fail
      refine hc.mono ?_; rintro e w1 ⟨A1, c1, rfl, hI, hb⟩
      rw [h2.out]
      go_wp2_with fail
      go_ret2
      exact ⟨by rw [hV.out, hE.out]; rfl, hb⟩
    · have hE' : greE xs = 0 := by rw [greE, if_pos h1, if_neg h2]
      have hV := Lib.hid (show greV xs = At (gapV xs) ((gapV xs).length - 1) by rw [greV, if_pos hE'])
      have hE := Lib.hid hE'
      rw [h1] at hc
      clear h1 hE'
      go_enter Try.func30, Try.ntmps30
      go_wp2_with fail
      refine hc.mono ?_; rintro e w1 ⟨A1, c1, rfl, hI, hb⟩
      generalize (gapV xs).length = L at *
      obtain ⟨b, off, rfl, _, hcl⟩ := hI.at_ (k := L - 1) (by omega)
      have z0 : ((L : Int) == 0) = false := by simp; omega
      have z1 : (0 : Int) ≤ (L : Int) - 1 := by omega
      have z2 : (1 : Int) ≤ (L : Int) := by omega
      go_wp2_with fail
      go_ret2
      exact ⟨by rw [hV.out, hE.out]; rfl, hb⟩
  · have hb := ne0 h1
    have hE' : greE xs = gapE xs := by rw [greE, if_neg h1]
    have hV := Lib.hid (show greV xs = 0 by rw [greV, if_neg (by rw [hE']; exact h1)])
    have hE := Lib.hid hE'
    clear h1 hE'
    go_enter Try.func30, Try.ntmps30
    go_wp2_with fail
    refine hc.mono ?_; rintro e w1 ⟨A1, c1, rfl, hI, hb⟩
    go_wp2_with fail
    go_ret2
    exact ⟨by rw [hV.out, hE.out]; rfl, hb⟩

def evnV (xs : List Int) : Bool := if gapE xs = 0 then (decide ((gapV xs).length = 0) || (At (gapV xs) ((gapV xs).length - 1) + 1 == 2 * ((gapV xs).length : Int))) else false
theorem gapV_At (xs : List Int) (k : Nat) : 0 ≤ At (gapV xs) k ∧ At (gapV xs) k ≤ 1000 := by
  have : ∀ x ∈ gapV xs, 0 ≤ x ∧ x ≤ 1000 := by
    intro x hx
    rw [gapV] at hx; split at hx
    · simp only [gapL, List.mem_map, List.mem_filter, List.mem_range] at hx
      obtain ⟨y, ⟨hy, _⟩, rfl⟩ := hx
      simp; omega
    · simp at hx
  unfold At
  rcases Nat.lt_or_ge k (gapV xs).length with h | h
  · rw [List.getElem?_eq_getElem h]; exact this _ (List.getElem_mem h)
  · rw [List.getElem?_eq_none h]; simp
set_option maxHeartbeats 1000000 in
theorem pk_Even (A : Option Addr) (n : Nat) (xs : List Int) (ca : Nat) (w : World) (hx : Ints w A n xs) (hl : n ≤ 1000000000) :
    Calls Try.prog 32 #[.slice A n ca] w fun e w' => e = .returned (.tuple #[.bool (evnV xs), .int .i64 (gapE xs)]) ∧ Below w.heap.size w w' := by
  have hc := pk_Gaps A n xs ca w hx hl
  have hgl := gapV_len xs
  by_cases h1 : gapE xs = 0
  · by_cases h2 : (gapV xs).length = 0
    · have hV := Lib.hid (show evnV xs = true by rw [evnV, if_pos h1, h2]; simp)
      have hE := Lib.hid h1
      rw [h1] at hc
      have h2 := Lib.hid h2
      clear h1
      go_enter Try.func32, Try.ntmps32
      go_wp2_with fail
      refine hc.mono ?_; rintro e w1 ⟨A1, c1, rfl, hI, hb⟩
      rw [h2.out]
      go_wp2_with fail
      go_ret2
      exact ⟨by rw [hV.out, hE.out]; rfl, hb⟩
    · have hV := Lib.hid (show evnV xs = (At (gapV xs) ((gapV xs).length - 1) + 1 == 2 * ((gapV xs).length : Int)) by rw [evnV, if_pos h1]; simp [h2])
      have hE := Lib.hid h1
      have hgA := gapV_At xs ((gapV xs).length - 1)
      obtain ⟨hg1, hg2⟩ := hgA
      rw [h1] at hc
      clear h1
      go_enter Try.func32, Try.ntmps32
      go_wp2_with fail
      refine hc.mono ?_; rintro e w1 ⟨A1, c1, rfl, hI, hb⟩
      generalize (gapV xs).length = L at *
      obtain ⟨b, off, rfl, _, hcl⟩ := hI.at_ (k := L - 1) (by omega)
      generalize At (gapV xs) (L - 1) = top at *
      have z0 : ((L : Int) == 0) = false := by simp; omega
      have z1 : (0 : Int) ≤ (L : Int) - 1 := by omega
      have z2 : (1 : Int) ≤ (L : Int) := by omega
      go_wp2_with fail
      go_ret2
      exact ⟨by rw [hV.out, hE.out]; rfl, hb⟩
  · have hb := ne0 h1
    have hV := Lib.hid (show evnV xs = false by rw [evnV, if_neg h1])
    clear h1
    go_enter Try.func32, Try.ntmps32
    go_wp2_with fail
    refine hc.mono ?_; rintro e w1 ⟨A1, c1, rfl, hI, hb⟩
    go_wp2_with fail
    go_ret2
    exact ⟨by rw [hV.out]; rfl, hb⟩
end Go.Proofs.Ytjcoaicpeajpnaa
