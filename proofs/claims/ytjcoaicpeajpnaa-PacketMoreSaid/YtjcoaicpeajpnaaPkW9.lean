/- Exported functions: Make, Fill, Why, Remainders, Gaps, Greatest, Even. -/
import Derived.Test.YtjcoaicpeajpnaaPkW8
namespace Go.Proofs.Ytjcoaicpeajpnaa
open Go.RowKit Pk

def enL (xs : List Int) (n : Int) : List Nat := (natL xs).map (n.toNat / ·)
def makL (xs : List Int) (n : Int) : List Int := if chkN xs n = 0 then (bfL (natL xs) (enL xs n) n.toNat).map Int.ofNat else []
def makE (xs : List Int) (n : Int) : Int := if chkN xs n = 0 then bfE (natL xs) (enL xs n) n.toNat else chkN xs n
theorem enL_le (xs : List Int) (n : Int) (h : n ≤ 1000) : ∀ c ∈ enL xs n, c ≤ 1001 := by
  intro c hc
  simp only [enL, List.mem_map] at hc
  obtain ⟨s, _, rfl⟩ := hc
  exact Nat.le_trans (Nat.div_le_self _ _) (by omega)

set_option maxHeartbeats 1000000 in
theorem pk_Make (A : Option Addr) (n : Nat) (xs : List Int) (ca : Nat) (k : Int) (w : World) (hx : Ints w A n xs) (hl : n ≤ 1000000000) :
    Calls Try.prog 19 #[.slice A n ca, .int .i64 k] w fun e w' => GivesE w w' e (makL xs k) (makE xs k) := by
  have hc := pk_checkNumber A n xs ca k w hx hl
  by_cases h1 : chkN xs k = 0
  · obtain ⟨h2, h3, h4⟩ := chkN_ok h1
    obtain ⟨s1, s2, hN, hp⟩ := hx.sizes h2
    have hL := Lib.hid (show makL xs k = (bfL (natL xs) (enL xs k) k.toNat).map Int.ofNat by rw [makL, if_pos h1])
    have hE := Lib.hid (show makE xs k = bfE (natL xs) (enL xs k) k.toNat by rw [makE, if_pos h1])
    rw [h1] at hc
    obtain ⟨k, rfl⟩ := Int.eq_ofNat_of_zero_le h3
    have hen := pk_enough A n (natL xs) ca k w hN (fun s h => (hp s h).1) (by omega) (by omega)
    clear h1 h2 
    go_enter Try.func19, Try.ntmps19
    go_wp2_with fail
    refine hc.mono ?_; rintro e w' ⟨rfl, rfl⟩
    go_wp2_with fail
    refine hen.mono ?_; rintro e w1 ⟨A1, c1, rfl, hN1, hw1⟩
    go_wp2_with fail
    refine (pk_bestFilling A A1 n (natL xs) (enL xs k) ca c1 k w1 (hN.below hw1) (by simpa [enL] using hN1) (sub1000 hp) (enL_le xs k (by omega)) s2 (by omega)).mono ?_
    rintro e w2 hg
    have hg := (hg.toE).trans hw1
    simp only [Int.toNat_natCast] at hL hE
    obtain ⟨A2, c2, rfl, hI, hb⟩ := hg
    go_wp2_with fail
    go_ret2
    unfold GivesE
    rw [hL.out, hE.out]
    exact ⟨A2, c2, by rw [List.length_map]; rfl, hI, hb⟩
  · have hb := ne0 h1
    have hL := Lib.hid (show makL xs k = [] by rw [makL, if_neg h1])
    have hE := Lib.hid (show makE xs k = chkN xs k by rw [makE, if_neg h1])
    clear h1
    go_enter Try.func19, Try.ntmps19
    go_wp2_with fail
    refine hc.mono ?_; rintro e w' ⟨rfl, rfl⟩
    go_wp2_with fail
    go_ret2
    rw [hL.out, hE.out]
    exact GivesE.nil (Below.refl _ _)

def filL (xs cs : List Int) (n : Int) : List Int := if chkO xs cs n = 0 then (bfL (natL xs) (natL cs) n.toNat).map Int.ofNat else []
def filE (xs cs : List Int) (n : Int) : Int := if chkO xs cs n = 0 then bfE (natL xs) (natL cs) n.toNat else chkO xs cs n
set_option maxHeartbeats 1000000 in
theorem pk_Fill (A B : Option Addr) (n m : Nat) (xs cs : List Int) (ca cb : Nat) (k : Int) (w : World) (hx : Ints w A n xs) (hy : Ints w B m cs) (hl : n ≤ 1000000000) (hl' : m ≤ 1000000000) :
    Calls Try.prog 36 #[.slice A n ca, .slice B m cb, .int .i64 k] w fun e w' => GivesE w w' e (filL xs cs k) (filE xs cs k) := by
  have hc := pk_checkOrder A B n m xs cs ca cb k w hx hy hl hl'
  by_cases h1 : chkO xs cs k = 0
  · obtain ⟨h2, h3, h4⟩ := chkO_ok h1
    obtain ⟨h5, h6, h7⟩ := chkS_ok h2
    obtain ⟨s1, s2, hN, hp⟩ := hx.sizes h5
    obtain ⟨hM, hq⟩ := hy.stock h7
    have hL := Lib.hid (show filL xs cs k = (bfL (natL xs) (natL cs) k.toNat).map Int.ofNat by rw [filL, if_pos h1])
    have hE := Lib.hid (show filE xs cs k = bfE (natL xs) (natL cs) k.toNat by rw [filE, if_pos h1])
    rw [h1] at hc
    obtain ⟨k, rfl⟩ := Int.eq_ofNat_of_zero_le h3
    have hnm : m = n := by rw [← hx.len, ← hy.len, h6]
    subst hnm
    clear h1 h2 h5 h6
    have hbf := pk_bestFilling A B m (natL xs) (natL cs) ca cb k w hN hM (sub1000 hp) (fun c h => by have := hq c h; omega) s2 (by omega)
    go_enter Try.func36, Try.ntmps36
    go_wp2_with fail
    refine hc.mono ?_; rintro e w' ⟨rfl, rfl⟩
    go_wp2_with fail
    refine hbf.mono ?_
    rintro e w2 hg
    have hg := hg.toE
    simp only [Int.toNat_natCast] at hL hE
    obtain ⟨A2, c2, rfl, hI, hb⟩ := hg
    go_wp2_with fail
    go_ret2
    unfold GivesE
    rw [hL.out, hE.out]
    exact ⟨A2, c2, by rw [List.length_map]; rfl, hI, hb⟩
  · have hb := ne0 h1
    have hL := Lib.hid (show filL xs cs k = [] by rw [filL, if_neg h1])
    have hE := Lib.hid (show filE xs cs k = chkO xs cs k by rw [filE, if_neg h1])
    clear h1
    go_enter Try.func36, Try.ntmps36
    go_wp2_with fail
    refine hc.mono ?_; rintro e w' ⟨rfl, rfl⟩
    go_wp2_with fail
    go_ret2
    rw [hL.out, hE.out]
    exact GivesE.nil (Below.refl _ _)

def remE (xs : List Int) (k : Int) : Int := if chk xs = 0 then (if isIx xs.length k then 0 else 2) else chk xs
def remL (xs : List Int) (k : Int) : List Int := if remE xs k = 0 then fmL (natL xs) (NAt (natL xs) k.toNat) else []
set_option maxHeartbeats 1000000 in
theorem pk_Remainders (A : Option Addr) (n : Nat) (xs : List Int) (ca : Nat) (k : Int) (w : World) (hx : Ints w A n xs) (hl : n ≤ 1000000000) :
    Calls Try.prog 24 #[.slice A n ca, .int .i64 k] w fun e w' => GivesE w w' e (remL xs k) (remE xs k) := by
  have hc := pk_Check A n xs ca w hx hl
  have hi := pk_isIndex A n ca k w
  by_cases h1 : chk xs = 0
  · obtain ⟨s1, s2, hN, hp⟩ := hx.sizes h1
    by_cases h2 : isIx n k = true
    · have hE' : remE xs k = 0 := by rw [remE, if_pos h1, hx.len, if_pos h2]
      have hL := Lib.hid (show remL xs k = fmL (natL xs) (NAt (natL xs) k.toNat) by rw [remL, if_pos hE'])
      have hE := Lib.hid hE'
      simp only [isIx, Bool.and_eq_true, decide_eq_true_eq] at h2
      obtain ⟨k, rfl⟩ := Int.eq_ofNat_of_zero_le h2.1
      have hk : k < n := by omega
      have hix : isIx n (k : Int) = true := by simp [isIx]; omega
      rw [h1] at hc
      rw [hix] at hi
      have hfm := pk_firstMade A n (natL xs) ca k w hN (fun s h => (hp s h).1) (fun s h => by have := hp s h; omega) (by omega) hk
      clear h1 hE' hix
      go_enter Try.func24, Try.ntmps24
      go_wp2_with fail
      refine hc.mono ?_; rintro e w' ⟨rfl, rfl⟩
      go_wp2_with fail
      refine hi.mono ?_; rintro e w' ⟨rfl, rfl⟩
      go_wp2_with fail
      refine hfm.mono ?_
      rintro e w2 ⟨A2, c2, rfl, hI, hb⟩
      go_wp2_with fail
      go_ret2
      simp only [Int.toNat_natCast] at hL
      unfold GivesE
      rw [hL.out, hE.out]
      exact ⟨A2, c2, rfl, hI, hb⟩
    · have hE' : remE xs k = 2 := by rw [remE, if_pos h1, hx.len, if_neg h2]
      have hL := Lib.hid (show remL xs k = [] by rw [remL, if_neg (by rw [hE']; decide)])
      have hE := Lib.hid hE'
      rw [h1] at hc
      have h2' : isIx n k = false := by simpa using h2
      rw [h2'] at hi
      clear h1 h2 hE' h2'
      go_enter Try.func24, Try.ntmps24
      go_wp2_with fail
      refine hc.mono ?_; rintro e w' ⟨rfl, rfl⟩
      go_wp2_with fail
      refine hi.mono ?_; rintro e w' ⟨rfl, rfl⟩
      go_wp2_with fail
      go_ret2
      rw [hL.out, hE.out]
      exact GivesE.nil (Below.refl _ _)
  · have hb := ne0 h1
    have hE' : remE xs k = chk xs := by rw [remE, if_neg h1]
    have hL := Lib.hid (show remL xs k = [] by rw [remL, if_neg (by rw [hE']; exact h1)])
    have hE := Lib.hid hE'
    clear h1 hE'
    go_enter Try.func24, Try.ntmps24
    go_wp2_with fail
    refine hc.mono ?_; rintro e w' ⟨rfl, rfl⟩
    go_wp2_with fail
    go_ret2
    rw [hL.out, hE.out]
    exact GivesE.nil (Below.refl _ _)

def gapE (xs : List Int) : Int := if chk xs = 0 then (if 1 < G (natL xs) then 15 else 0) else chk xs
def gapV (xs : List Int) : List Int := if gapE xs = 0 then gapL (natL xs) 1001 else []
set_option maxHeartbeats 1000000 in
theorem pk_Gaps (A : Option Addr) (n : Nat) (xs : List Int) (ca : Nat) (w : World) (hx : Ints w A n xs) (hl : n ≤ 1000000000) :
    Calls Try.prog 28 #[.slice A n ca] w fun e w' => GivesE w w' e (gapV xs) (gapE xs) := by
  have hc := pk_Check A n xs ca w hx hl
  by_cases h1 : chk xs = 0
  · obtain ⟨s1, s2, hN, hp⟩ := hx.sizes h1
    have hG := pk_commonDivisor A n (natL xs) ca w hN (sub1000 hp) (by omega)
    rw [h1] at hc
    by_cases h2 : 1 < G (natL xs)
    · have hE' : gapE xs = 15 := by rw [gapE, if_pos h1, if_pos h2]
      have hL := Lib.hid (show gapV xs = [] by rw [gapV, if_neg (by rw [hE']; decide)])
      have hE := Lib.hid hE'
      have hg2 : (1 : Int) < (G (natL xs) : Int) := by omega
      clear h1 hE'
      go_enter Try.func28, Try.ntmps28
      go_wp2_with fail
      refine hc.mono ?_; rintro e w' ⟨rfl, rfl⟩
      go_wp2_with fail
      refine hG.mono ?_; rintro e w' ⟨rfl, j, rfl⟩
      go_wp2_with fail
      go_ret2
      rw [hL.out, hE.out]
      exact GivesE.nil (bdrewN (Below.refl _ _) _)
    · have hE' : gapE xs = 0 := by rw [gapE, if_pos h1, if_neg h2]
      have hL := Lib.hid (show gapV xs = gapL (natL xs) 1001 by rw [gapV, if_pos hE'])
      have hE := Lib.hid hE'
      have hg2 : ¬ (1 : Int) < (G (natL xs) : Int) := by omega
      have hag := fun j => pk_allGaps A n (natL xs) ca (w.drewN j) (hN.drewN j) (fun s h => (hp s h).1) (fun s h => by have := hp s h; omega) (by omega)
      clear h1 hE'
      go_enter Try.func28, Try.ntmps28
      go_wp2_with fail
      refine hc.mono ?_; rintro e w' ⟨rfl, rfl⟩
      go_wp2_with fail
      refine hG.mono ?_; rintro e w' ⟨rfl, j, rfl⟩
      go_wp2_with fail
      refine (hag j).mono ?_
      rintro e w2 ⟨A2, c2, rfl, hI, hb⟩
      go_wp2_with fail
      go_ret2
      unfold GivesE
      rw [hL.out, hE.out]
      exact ⟨A2, c2, rfl, hI, undrewN hb⟩
  · have hb := ne0 h1
    have hE' : gapE xs = chk xs := by rw [gapE, if_neg h1]
    have hL := Lib.hid (show gapV xs = [] by rw [gapV, if_neg (by rw [hE']; exact h1)])
    have hE := Lib.hid hE'
    clear h1 hE'
    go_enter Try.func28, Try.ntmps28
    go_wp2_with fail
    refine hc.mono ?_; rintro e w' ⟨rfl, rfl⟩
    go_wp2_with fail
    go_ret2
    rw [hL.out, hE.out]
    exact GivesE.nil (Below.refl _ _)
end Go.Proofs.Ytjcoaicpeajpnaa
