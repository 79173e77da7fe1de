/- Walks of the reference: Can, Make, remainders, Remainders, Why. -/
import Derived.Test.YtiphgkbnhagkhaaRfG
import Derived.Test.YtiphgkbnhagkhaaRfN
import Derived.Test.YtiphgkbnhagkhaaRfM
import Derived.Test.YtiphgkbnhagkhaaPkWc
namespace Go.Proofs.Ytiphgkbnhagkhaa
open Go.RowKit Pk

theorem chkN_thn (xs : List Int) (n : Int) : thn (chk xs) (tot n) = chkN xs n := rfl
theorem few_enough {xs : List Int} {k : Nat} (h : chk xs = 0) : (few (dp (natL xs) (enL xs k) 0) k).isSome = rB (natL xs) k := by
  obtain ⟨_, _, h3⟩ := chk_ok h rfl
  have hpos : ∀ s ∈ natL xs, 0 < s := natL_all fun k hk => by have := h3 k hk; omega
  rw [Bool.eq_iff_iff, rB_iff hpos]
  have e : dp (natL xs) (enL xs k) 0 = (natL xs).zip (enL xs k) := by simp [dp]
  rw [e]
  refine few_R hpos _ _ (by simp [enL]) fun i hi => ?_
  simp [enL, List.getElem?_map, List.getElem?_eq_getElem hi]

set_option maxHeartbeats 1000000 in
theorem rf_Can (A : Option Addr) (n : Nat) (xs : List Int) (ca : Nat) (k : Int) (w : World) (hx : Ints w A n xs) (hl : n ≤ 1000000000) :
    Calls Try.prog 18 #[.slice A n ca, .int .i64 k] w fun e w' => e = .returned (.tuple #[.bool (canV xs k), .int .i64 (chkN xs k)]) ∧ Below w.heap.size w w' := by
  have hc := rf_Check A n xs ca w hx hl
  have ht := fun W => rf_total (chk xs) k W
  simp only [chkN_thn] at ht
  by_cases h1 : chkN xs k = 0
  · obtain ⟨h2, h3, h4⟩ := chkN_ok h1
    obtain ⟨s1, s2, hN, hp⟩ := hx.sizes h2
    obtain ⟨k, rfl⟩ := Int.eq_ofNat_of_zero_le h3
    have hv : canV xs k = rB (natL xs) k := by rw [canV, if_pos h1, Int.toNat_natCast]
    have hE : (bfE (natL xs) (enL xs k) k == 0) = canV xs k := by
      rw [hv, ← few_enough h2, bfE]
      cases h : (few (dp (natL xs) (enL xs k) 0) k).isSome <;> simp
    have HV := Lib.hid hE
    rw [h1] at ht
    have H1 := Lib.hid h1
    have hen := fun j => rf_enough A n (natL xs) ca k (w.drewN j) (hN.drewN j) (fun s h => (hp s h).1) (by omega) (by omega)
    clear h1 h2 hv hE
    go_enter Try.func18, Try.ntmps18
    go_wp2_with fail
    refine hc.mono ?_; rintro e w' ⟨rfl, j, rfl⟩
    go_wp2_with fail
    refine (ht _).mono ?_; rintro e w' ⟨rfl, rfl⟩
    go_wp2_with fail
    refine (hen j).mono ?_; rintro e w1 ⟨A1, c1, rfl, hN1, hb1⟩
    have hw1 : Below w.heap.size w w1 := undrewN hb1
    clear hb1
    go_wp2_with fail
    refine (rf_best A A1 n (natL xs) (enL xs k) ca c1 k w1 (hN.below hw1) (by simpa [enL] using hN1) (sub1000 hp) (enL_le xs k (by omega)) s2 (by omega)).mono ?_
    rintro e w2 ⟨A2, c2, rfl, _, hb2⟩
    go_wp2_with fail
    go_ret2
    refine ⟨?_, hw1.trans (hb2.mono hw1.size)⟩
    rw [H1.out, ← HV.out]
    rfl
  · have hb := ne0 h1
    have hv : canV xs k = false := by rw [canV, if_neg h1]
    have HV := Lib.hid hv
    clear h1 hv
    go_enter Try.func18, Try.ntmps18
    go_wp2_with fail
    refine hc.mono ?_; rintro e w' ⟨rfl, j, rfl⟩
    go_wp2_with fail
    refine (ht _).mono ?_; rintro e w' ⟨rfl, rfl⟩
    go_wp2_with fail
    go_ret2
    exact ⟨by rw [HV.out]; rfl, bdrewN (Below.refl _ _) _⟩

set_option maxHeartbeats 1000000 in
theorem rf_Make (A : Option Addr) (n : Nat) (xs : List Int) (ca : Nat) (k : Int) (w : World) (hx : Ints w A n xs) (hl : n ≤ 1000000000) :
    Calls Try.prog 20 #[.slice A n ca, .int .i64 k] w fun e w' => GivesE w w' e (makL xs k) (makE xs k) := by
  have hc := rf_Check A n xs ca w hx hl
  have ht := fun W => rf_total (chk xs) k W
  simp only [chkN_thn] at ht
  by_cases h1 : chkN xs k = 0
  · obtain ⟨h2, h3, h4⟩ := chkN_ok h1
    obtain ⟨s1, s2, hN, hp⟩ := hx.sizes h2
    have hL := Lib.hid (show makL xs k = (bfL (natL xs) (enL xs k) k.toNat).map Int.ofNat by rw [makL, if_pos h1])
    have hE := Lib.hid (show makE xs k = bfE (natL xs) (enL xs k) k.toNat by rw [makE, if_pos h1])
    rw [h1] at ht
    obtain ⟨k, rfl⟩ := Int.eq_ofNat_of_zero_le h3
    have hen := fun j => rf_enough A n (natL xs) ca k (w.drewN j) (hN.drewN j) (fun s h => (hp s h).1) (by omega) (by omega)
    clear h1 h2
    go_enter Try.func20, Try.ntmps20
    go_wp2_with fail
    refine hc.mono ?_; rintro e w' ⟨rfl, j, rfl⟩
    go_wp2_with fail
    refine (ht _).mono ?_; rintro e w' ⟨rfl, rfl⟩
    go_wp2_with fail
    refine (hen j).mono ?_; rintro e w1 ⟨A1, c1, rfl, hN1, hb1⟩
    have hw1 : Below w.heap.size w w1 := undrewN hb1
    clear hb1
    go_wp2_with fail
    refine (rf_best A A1 n (natL xs) (enL xs k) ca c1 k w1 (hN.below hw1) (by simpa [enL] using hN1) (sub1000 hp) (enL_le xs k (by omega)) s2 (by omega)).mono ?_
    rintro e w2 hg
    have hg := (hg.toE).trans hw1
    simp only [Int.toNat_natCast] at hL hE
    obtain ⟨A2, c2, rfl, hI, hb⟩ := hg
    go_wp2_with fail
    go_ret2
    unfold GivesE
    rw [hL.out, hE.out]
    exact ⟨A2, c2, by rw [List.length_map]; rfl, hI, hb⟩
  · have hb := ne0 h1
    have hL := Lib.hid (show makL xs k = [] by rw [makL, if_neg h1])
    have hE := Lib.hid (show makE xs k = chkN xs k by rw [makE, if_neg h1])
    clear h1
    go_enter Try.func20, Try.ntmps20
    go_wp2_with fail
    refine hc.mono ?_; rintro e w' ⟨rfl, j, rfl⟩
    go_wp2_with fail
    refine (ht _).mono ?_; rintro e w' ⟨rfl, rfl⟩
    go_wp2_with fail
    go_ret2
    rw [hL.out, hE.out]
    exact GivesE.nil (bdrewN (Below.refl _ _) _)

/-- What the reference's search holds: nothing was found below x, or the first number is found. -/
def Found (ps : List Nat) (s r x : Nat) (q : Int) : Prop := (q = -1 ∧ ∀ y, y < x → y % s = r → rB ps y = false) ∨ (0 ≤ q ∧ fmF 901 ps s r = q)

set_option maxRecDepth 100000 in
set_option maxHeartbeats 2000000 in
theorem rf_remainders (A : Option Addr) (n : Nat) (ps : List Nat) (ca : Nat) (k : Nat) (w : World) (hx : Nats w A n ps) (hp : ∀ s ∈ ps, 0 < s ∧ s ≤ 30) (hl : n ≤ 1000) (hk : k < n) :
    Calls Try.prog 68 #[.slice A n ca, .int .i64 k] w fun e w' => GivesI w w' e (fmL ps (NAt ps k)) := by
  have hmem := NAt_mem (ps := ps) (k := k) (by rw [hx.len]; exact hk)
  have hs := hp _ hmem
  have hfm := Lib.hid (fun r => fmF_early (r := r) hmem hp)
  have hki : (0 : Int) ≤ (k : Int) := by omega
  have hkn : (k : Int) < n := by omega
  obtain ⟨b, off, rfl, hb, hcl⟩ := hx.at_ hk
  have hmade := rf_made (some ⟨b, off, none⟩) n ps ca 900 w hx (sub1000 hp) (by omega) (by omega)
  clear hmem
  generalize NAt ps k = s at *
  go_enter Try.func68, Try.ntmps68
  go_wp2_with fail
  refine hmade.mono ?_
  rintro e w1 ⟨c1, rfl, hBo, hw1⟩
  go_wp2_with fail
  go_loopw [6, 7] (fun v i wr => ∃ r : Nat, r ≤ s ∧ i = .int .i64 r ∧ OwnI wr w1.heap.size v ((List.range r).map (fm ps s)) ∧ Below w1.heap.size w1 wr) (fun _ i _ => s - (intOf i).toNat)
  case atStart => exact ⟨0, by omega, rfl, OwnI.nil_ _ _, Below.refl _ _⟩
  case round =>
    obtain ⟨r, hr, rfl, hown, hw⟩ := hrel
    have hsz := hw.size
    have hB1 := hBo.below hw
    have hcl1 := ((hw1.trans (hw.mono hw1.size)).cell (p := ⟨b, off + k, none⟩) hb).trans hcl
    by_cases hlt : r < s
    · have hri : (0 : Int) ≤ (r : Int) := by omega
      have hrs : (r : Int) < (s : Int) := by omega
      go_wp2_with fail
      obtain ⟨wo, rfl⟩ : ∃ wo : World, wo = wr := ⟨_, rfl⟩
      go_loopw [8, 9] (fun q m wr => wo = wr ∧ ∃ (x : Nat) (qq : Int), r ≤ x ∧ Hid (x % s = r) ∧ x ≤ 1000 ∧ m = .int .i64 x ∧ q = .int .i64 qq ∧ Found ps s r x qq) (fun _ m _ => 2000 - (intOf m).toNat)
      case atStart => exact ⟨rfl, r, -1, Nat.le_refl _, Nat.mod_eq_of_lt hlt, by omega, rfl, rfl, .inl ⟨rfl, fun y hy he => by rw [Nat.mod_eq_of_lt (by omega)] at he; omega⟩⟩
      case round =>
        obtain ⟨rfl, x, qq, hx1, hx2, hx3, rfl, rfl, hf⟩ := hrel
        by_cases hx4 : x < 901
        · rcases hf with ⟨rfl, hno⟩ | ⟨hq0, hq⟩
          · have hno := Lib.hid hno
            obtain ⟨b2, off2, e2, hb2, hc2⟩ := hB1.at_ hx4
            cases e2
            rw [Nat.zero_add] at hc2
            have hx5 : (x : Int) < 901 := by omega
            have hx6 : (0 : Int) ≤ (x : Int) := by omega
            by_cases hm : rB ps x = true
            · have he := Lib.hid (fmF_hit (N := 901) hx4 hx2.out hm hno.out)
              rw [hm] at hc2
              clear hm
              go_wp2_with fail
              exact ⟨⟨trivial, x + s, _, by omega, by unfold Hid; rw [Nat.add_mod_right]; exact hx2.out, by omega, by go_num, rfl, .inr ⟨by omega, he.out⟩⟩, by simp [intOf]; omega⟩
            · have hm' : rB ps x = false := by simpa using hm
              have HM := Lib.hid hm'
              rw [hm'] at hc2
              clear hm hm'
              go_wp2_with fail
              refine ⟨⟨trivial, x + s, -1, by omega, by unfold Hid; rw [Nat.add_mod_right]; exact hx2.out, by omega, by go_num, rfl, .inl ⟨rfl, fun y hy he => ?_⟩⟩, by simp [intOf]; omega⟩
              by_cases h1 : y < x
              · exact hno.out y h1 he
              · by_cases h2 : y = x
                · rw [h2]; exact HM.out
                · exfalso
                  have := mod_gap hx2.out he (by omega)
                  omega
          · have he := Lib.hid ((hfm.out r).trans hq)
            have hx5 : (x : Int) < 901 := by omega
            have hq1 : ¬ qq < 0 := by omega
            have hlen : ((List.range r).map (fm ps s)).length ≤ 1000 := by simp; omega
            have hrange := Lib.hid (show (List.range (r + 1)).map (fm ps s) = (List.range r).map (fm ps s) ++ [fm ps s r] by simp [List.range_succ])
            clear hq
            generalize (List.range r).map (fm ps s) = L at *
            go_wp2_with (at_builtin; refine wpList_appI rfl _ _ rfl w1.heap.size _ L qq (by rfl) hown hsz (by omega) (by rfl) ?_; intro v' w' hown' hb')
            refine ⟨⟨r + 1, by omega, by go_num, ?_, hb' _ hw⟩, by simp [intOf]; omega⟩
            rw [hrange.out, show fm ps s r = qq from he.out]; exact hown'
        · have hx5 : ¬ (x : Int) < 901 := by omega
          have he : fm ps s r = qq := by
            rcases hf with ⟨rfl, hno⟩ | ⟨hq0, hq⟩
            · exact (hfm.out r).trans (fmF_none fun y hy he => hno y (by omega) he)
            · exact (hfm.out r).trans hq
          have he := Lib.hid he
          have hlen : ((List.range r).map (fm ps s)).length ≤ 1000 := by simp; omega
          have hrange := Lib.hid (show (List.range (r + 1)).map (fm ps s) = (List.range r).map (fm ps s) ++ [fm ps s r] by simp [List.range_succ])
          clear hf
          generalize (List.range r).map (fm ps s) = L at *
          go_wp2_with (at_builtin; refine wpList_appI rfl _ _ rfl w1.heap.size _ L qq (by rfl) hown hsz (by omega) (by rfl) ?_; intro v' w' hown' hb')
          refine ⟨⟨r + 1, by omega, by go_num, ?_, hb' _ hw⟩, by simp [intOf]; omega⟩
          rw [hrange.out, show fm ps s r = qq from he.out]; exact hown'
    · obtain rfl : r = s := by omega
      obtain ⟨A', c', rfl, hI⟩ := hown.form
      have e1 := Lib.hid (show (List.range r).map (fm ps r) = fmL ps r from rfl)
      rw [e1.out] at hI
      have el : ((List.range r).map (fm ps r)).length = (fmL ps r).length := rfl
      rw [el] at *
      go_wp2_with fail
      go_ret
      unfold GivesI
      exact ⟨_, _, rfl, hI, hw1.trans (hw.mono hw1.size)⟩

set_option maxHeartbeats 1000000 in
theorem rf_Remainders (A : Option Addr) (n : Nat) (xs : List Int) (ca : Nat) (k : Int) (w : World) (hx : Ints w A n xs) (hl : n ≤ 1000000000) :
    Calls Try.prog 25 #[.slice A n ca, .int .i64 k] w fun e w' => GivesE w w' e (remL xs k) (remE xs k) := by
  have hc := rf_Check A n xs ca w hx hl
  by_cases h1 : chk xs = 0
  · obtain ⟨s1, s2, hN, hp⟩ := hx.sizes h1
    have hi := fun j => rf_in k 0 ((n : Int) - 1) (w.drewN j)
    by_cases h2 : isIx n k = true
    · have hE' : remE xs k = 0 := by rw [remE, if_pos h1, hx.len, if_pos h2]
      have hL := Lib.hid (show remL xs k = fmL (natL xs) (NAt (natL xs) k.toNat) by rw [remL, if_pos hE'])
      have hE := Lib.hid hE'
      simp only [isIx, Bool.and_eq_true, decide_eq_true_eq] at h2
      obtain ⟨k, rfl⟩ := Int.eq_ofNat_of_zero_le h2.1
      have hk : k < n := by omega
      have hix : inR (k : Int) 0 ((n : Int) - 1) = true := by simp [inR]; omega
      rw [h1] at hc
      simp only [hix] at hi
      have hfm := fun j => rf_remainders A n (natL xs) ca k (w.drewN j) (hN.drewN j) hp (by omega) hk
      clear h1 hE' hix
      go_enter Try.func25, Try.ntmps25
      go_wp2_with fail
      refine hc.mono ?_; rintro e w' ⟨rfl, j, rfl⟩
      go_wp2_with fail
      refine (hi j).mono ?_; rintro e w' ⟨rfl, rfl⟩
      go_wp2_with fail
      refine (hfm j).mono ?_
      rintro e w2 ⟨A2, c2, rfl, hI, hb⟩
      go_wp2_with fail
      go_ret2
      simp only [Int.toNat_natCast] at hL
      unfold GivesE
      rw [hL.out, hE.out]
      exact ⟨A2, c2, rfl, hI, undrewN hb⟩
    · have hE' : remE xs k = 2 := by rw [remE, if_pos h1, hx.len, if_neg h2]
      have hL := Lib.hid (show remL xs k = [] by rw [remL, if_neg (by rw [hE']; decide)])
      have hE := Lib.hid hE'
      rw [h1] at hc
      have hix : inR k 0 ((n : Int) - 1) = false := by
        have h2' : isIx n k = false := by simpa using h2
        simp only [isIx, Bool.and_eq_false_iff, decide_eq_false_iff_not] at h2'
        simp [inR]; omega
      simp only [hix] at hi
      clear h1 h2 hE' hix
      go_enter Try.func25, Try.ntmps25
      go_wp2_with fail
      refine hc.mono ?_; rintro e w' ⟨rfl, j, rfl⟩
      go_wp2_with fail
      refine (hi j).mono ?_; rintro e w' ⟨rfl, rfl⟩
      go_wp2_with fail
      go_ret2
      rw [hL.out, hE.out]
      exact GivesE.nil (bdrewN (Below.refl _ _) _)
  · have hb := ne0 h1
    have hb2 : (chk xs == 0) = false := by simp [h1]
    have hE' : remE xs k = chk xs := by rw [remE, if_neg h1]
    have hL := Lib.hid (show remL xs k = [] by rw [remL, if_neg (by rw [hE']; exact h1)])
    have hE := Lib.hid hE'
    clear h1 hE'
    go_enter Try.func25, Try.ntmps25
    go_wp2_with fail
    refine hc.mono ?_; rintro e w' ⟨rfl, j, rfl⟩
    go_wp2_with fail
    go_ret2
    rw [hL.out, hE.out]
    exact GivesE.nil (bdrewN (Below.refl _ _) _)

end Go.Proofs.Ytiphgkbnhagkhaa
