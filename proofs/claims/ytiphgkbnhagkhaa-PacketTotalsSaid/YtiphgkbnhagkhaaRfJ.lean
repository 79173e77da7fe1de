/- Walks of the reference: stocked, Fill, Verify. -/
import Derived.Test.YtiphgkbnhagkhaaRfG
namespace Go.Proofs.Ytiphgkbnhagkhaa
open Go.RowKit Pk

theorem stk_01 (cs : List Int) (k : Nat) : stkTo cs k = 0 ∨ stkTo cs k = 1 := by
  induction k with
  | zero => exact .inl rfl
  | succ k ih =>
    rw [stkTo]
    split
    · split
      · exact .inr rfl
      · exact .inl rfl
    · exact ih

set_option maxHeartbeats 1000000 in
theorem rf_stocked (A B : Option Addr) (n m : Nat) (xs cs : List Int) (ca cb : Nat) (w : World) (hx : Ints w A n xs) (hy : Ints w B m cs) (hl : n ≤ 1000000000) (hl' : m ≤ 1000000000) :
    Calls Try.prog 76 #[.slice A n ca, .slice B m cb] w fun e w' => e = .returned (.int .i64 (chkS xs cs)) ∧ ∃ j, w' = w.drewN j := by
  have hc := rf_Check A n xs ca w hx hl
  by_cases h1 : chk xs = 0
  · rw [h1] at hc
    have H1 := Lib.hid h1; clear h1
    by_cases hnm : m = n
    · subst hnm
      have he : chkS xs cs = stkTo cs m := by rw [chkS, if_pos H1.out, if_pos (by rw [hx.len, hy.len]), hy.len]
      have He := Lib.hid he; clear he
      go_enter Try.func76, Try.ntmps76
      go_wp2_with fail
      refine hc.mono ?_; rintro e w' ⟨rfl, j0, rfl⟩
      go_wp2_with fail
      go_loopw [5, 6] (fun ev i wr => ∃ k j : Nat, k ≤ m ∧ i = .int .i64 k ∧ ev = .int .i64 (stkTo cs k) ∧ wr = w.drewN j) (fun _ i _ => m - (intOf i).toNat)
      case atStart => exact ⟨0, j0, by omega, rfl, rfl, rfl⟩
      case round =>
        obtain ⟨k, j, hk, rfl, rfl, rfl⟩ := hrel
        by_cases hz : stkTo cs k = 0
        · by_cases hlt : k < m
          · obtain ⟨b, off, rfl, hb, hcl⟩ := hy.at_ hlt
            have hki : (0 : Int) ≤ (k : Int) := by omega
            have hkn : (k : Int) < m := by omega
            have hcall := rf_in (At cs k) 0 40 (w.drewN j)
            by_cases h2 : At cs k < 0 ∨ 40 < At cs k
            · rw [show inR (At cs k) 0 40 = false by simp [inR]; omega] at hcall
              have hs := Lib.hid (show stkTo cs (k + 1) = 1 by rw [stkTo, if_pos hz, if_pos h2])
              rw [hz]
              clear hz h2
              go_wp2_with fail
              refine hcall.mono ?_; rintro e w' ⟨rfl, rfl⟩
              go_wp2_with fail
              exact ⟨⟨k + 1, _, by omega, by go_num, by rw [hs.out], rfl⟩, by simp [intOf]; omega⟩
            · rw [show inR (At cs k) 0 40 = true by simp [inR]; omega] at hcall
              have hs := Lib.hid (stkTo_pass hz h2)
              rw [hz]
              clear hz h2
              go_wp2_with fail
              refine hcall.mono ?_; rintro e w' ⟨rfl, rfl⟩
              go_wp2_with fail
              exact ⟨⟨k + 1, _, by omega, by go_num, by rw [hs.out], rfl⟩, by simp [intOf]; omega⟩
          · have hkm : k = m := by omega
            have hkk : ¬ (k : Int) < (m : Int) := by omega
            have Hz := Lib.hid hkm
            clear hkm hz
            go_wp2_with fail
            go_ret
            exact ⟨ret_int (by rw [He.out, Hz.out]), _, rfl⟩
        · have hs := Lib.hid (stkTo_stay hz (m - k))
          have h1' : stkTo cs k = 1 := (stk_01 cs k).resolve_left hz
          rw [h1'] at hs
          rw [h1']
          clear hz h1'
          go_wp2_with fail
          all_goals go_ret
          all_goals exact ⟨ret_int (by have := hs.out; rw [show k + (m - k) = m by omega] at this; rw [He.out, this]), _, rfl⟩
    · have he : chkS xs cs = 5 := by rw [chkS, if_pos H1.out, if_neg (by rw [hx.len, hy.len]; exact hnm)]
      have He := Lib.hid he; clear he
      have hb : ((m : Int) != n) = true := by simp; omega
      go_enter Try.func76, Try.ntmps76
      go_wp2_with fail
      refine hc.mono ?_; rintro e w' ⟨rfl, j0, rfl⟩
      go_wp2_with fail
      go_loopw [5, 6] (fun ev i wr => ev = .int .i64 5 ∧ i = .int .i64 0 ∧ wr = w.drewN j0) (fun _ _ _ => 0)
      case atStart => exact ⟨rfl, rfl, rfl⟩
      case round =>
        obtain ⟨rfl, rfl, rfl⟩ := hrel
        by_cases h0 : (0 : Int) < (m : Int)
        all_goals go_wp2_with fail
        all_goals go_ret
        all_goals exact ⟨ret_int (by rw [He.out]), _, rfl⟩
  · have hb : (chk xs == 0) = false := by simp [h1]
    have H1 := Lib.hid h1; clear h1
    go_enter Try.func76, Try.ntmps76
    go_wp2_with fail
    refine hc.mono ?_; rintro e w' ⟨rfl, j0, rfl⟩
    go_wp2_with fail
    go_loopw [5, 6] (fun ev i wr => ev = .int .i64 (chk xs) ∧ i = .int .i64 0 ∧ wr = w.drewN j0) (fun _ _ _ => 0)
    case atStart => exact ⟨rfl, rfl, rfl⟩
    case round =>
      obtain ⟨rfl, rfl, rfl⟩ := hrel
      by_cases h0 : (0 : Int) < (m : Int)
      all_goals go_wp2_with fail
      all_goals go_ret
      all_goals exact ⟨ret_int (by rw [chkS, if_neg H1.out]), _, rfl⟩
theorem chkO_thn (xs cs : List Int) (n : Int) : thn (chkS xs cs) (tot n) = chkO xs cs n := rfl

set_option maxHeartbeats 1000000 in
theorem rf_Fill (A B : Option Addr) (n m : Nat) (xs cs : List Int) (ca cb : Nat) (k : Int) (w : World) (hx : Ints w A n xs) (hy : Ints w B m cs) (hl : n ≤ 1000000000) (hl' : m ≤ 1000000000) :
    Calls Try.prog 37 #[.slice A n ca, .slice B m cb, .int .i64 k] w fun e w' => GivesE w w' e (filL xs cs k) (filE xs cs k) := by
  have hc := rf_stocked A B n m xs cs ca cb w hx hy hl hl'
  have ht := fun W => rf_total (chkS xs cs) k W
  simp only [chkO_thn] at ht
  by_cases h1 : chkO xs cs k = 0
  · obtain ⟨h2, h3, h4⟩ := chkO_ok h1
    obtain ⟨h5, h6, h7⟩ := chkS_ok h2
    obtain ⟨s1, s2, hN, hp⟩ := hx.sizes h5
    obtain ⟨hM, hq⟩ := hy.stock h7
    have hL := Lib.hid (show filL xs cs k = (bfL (natL xs) (natL cs) k.toNat).map Int.ofNat by rw [filL, if_pos h1])
    have hE := Lib.hid (show filE xs cs k = bfE (natL xs) (natL cs) k.toNat by rw [filE, if_pos h1])
    rw [h1] at ht
    obtain ⟨k, rfl⟩ := Int.eq_ofNat_of_zero_le h3
    have hnm : m = n := by rw [← hx.len, ← hy.len, h6]
    subst hnm
    clear h1 h2 h5 h6
    have hbf := fun j => rf_best A B m (natL xs) (natL cs) ca cb k (w.drewN j) (hN.drewN j) (hM.drewN j) (sub1000 hp) (fun c h => by have := hq c h; omega) s2 (by omega)
    go_enter Try.func37, Try.ntmps37
    go_wp2_with fail
    refine hc.mono ?_; rintro e w' ⟨rfl, j, rfl⟩
    go_wp2_with fail
    refine (ht _).mono ?_; rintro e w' ⟨rfl, rfl⟩
    go_wp2_with fail
    refine (hbf j).mono ?_
    rintro e w2 hg
    have hg := hg.toE
    simp only [Int.toNat_natCast] at hL hE
    obtain ⟨A2, c2, rfl, hI, hb⟩ := hg
    go_wp2_with fail
    go_ret2
    unfold GivesE
    rw [hL.out, hE.out]
    exact ⟨A2, c2, by rw [List.length_map]; rfl, hI, undrewN hb⟩
  · have hb := ne0 h1
    have hL := Lib.hid (show filL xs cs k = [] by rw [filL, if_neg h1])
    have hE := Lib.hid (show filE xs cs k = chkO xs cs k by rw [filE, if_neg h1])
    clear h1
    go_enter Try.func37, Try.ntmps37
    go_wp2_with fail
    refine hc.mono ?_; rintro e w' ⟨rfl, j, rfl⟩
    go_wp2_with fail
    refine (ht _).mono ?_; rintro e w' ⟨rfl, rfl⟩
    go_wp2_with fail
    go_ret2
    rw [hL.out, hE.out]
    exact GivesE.nil (bdrewN (Below.refl _ _) _)

theorem ver_01 (cs fs : List Int) (k : Nat) : verTo cs fs k = 0 ∨ verTo cs fs k = 1 := by
  induction k with
  | zero => exact .inl rfl
  | succ k ih =>
    rw [verTo]
    split
    · split
      · exact .inr rfl
      · exact .inl rfl
    · exact ih

set_option maxRecDepth 100000 in
set_option maxHeartbeats 2000000 in
theorem rf_Verify (A B C : Option Addr) (n m l : Nat) (xs cs fs : List Int) (ca cb cc : Nat) (q : Int) (w : World) (hx : Ints w A n xs) (hy : Ints w B m cs) (hz : Ints w C l fs) (hl : n ≤ 1000000000) (hl' : m ≤ 1000000000) (hl'' : l ≤ 1000000000) :
    Calls Try.prog 39 #[.slice A n ca, .slice B m cb, .int .i64 q, .slice C l cc] w fun e w' => e = .returned (.int .i64 (verE xs cs q fs)) ∧ ∃ j, w' = w.drewN j := by
  have hc := rf_stocked A B n m xs cs ca cb w hx hy hl hl'
  have ht := fun W => rf_total (chkS xs cs) q W
  simp only [chkO_thn] at ht
  by_cases h1 : chkO xs cs q = 0
  · by_cases h2 : l = n
    · subst h2
      obtain ⟨h3, h4, h5⟩ := chkO_ok h1
      obtain ⟨h6, h7, h8⟩ := chkS_ok h3
      obtain ⟨s1, s2, hN, hp⟩ := hx.sizes h6
      have hE := Lib.hid (show verE xs cs q fs = if verTo cs fs l = 0 then (if (dotTo (natL xs) (natL fs) l : Int) = q then 0 else 17) else 1 by rw [verE, if_pos h1, hx.len, if_pos hz.len])
      have hnm : m = l := by rw [← hx.len, ← hy.len, h7]
      subst hnm
      have h8 := Lib.hid (fun k (hk : k < m) => h8 k (by rw [hy.len]; exact hk))
      rw [h1] at ht
      clear h1 h3 h6 h7
      go_enter Try.func39, Try.ntmps39
      go_wp2_with fail
      refine hc.mono ?_; rintro e w' ⟨rfl, j0, rfl⟩
      go_wp2_with fail
      refine (ht _).mono ?_; rintro e w' ⟨rfl, rfl⟩
      go_wp2_with fail
      go_loopw [9, 10, 11] (fun ev sm i wr => ∃ (k j : Nat) (sq : Int), k ≤ m ∧ i = .int .i64 k ∧ ev = .int .i64 (verTo cs fs k) ∧ sm = .int .i64 sq ∧ wr = w.drewN j ∧ Hid (verTo cs fs k = 0 → sq = dotTo (natL xs) (natL fs) k)) (fun _ _ i _ => m - (intOf i).toNat)
      case atStart => exact ⟨0, j0, 0, by omega, rfl, rfl, rfl, rfl, fun _ => rfl⟩
      case round =>
        obtain ⟨k, j, sq, hk, rfl, rfl, rfl, rfl, hsq⟩ := hrel
        by_cases hz0 : verTo cs fs k = 0
        · have hsq' := hsq.out hz0
          have hok := verTo_ok hz0
          by_cases hlt : k < m
          · obtain ⟨b, off, rfl, hb, hcl⟩ := hy.at_ hlt
            obtain ⟨b', off', rfl, hb', hcl'⟩ := hz.at_ hlt
            obtain ⟨b3, off3, rfl, hb3, hcl3⟩ := hN.at_ hlt
            have hki : (0 : Int) ≤ (k : Int) := by omega
            have hkn : (k : Int) < m := by omega
            have hcall := fun W => rf_in (At fs k) 0 (At cs k) W
            by_cases g : At fs k < 0 ∨ At cs k < At fs k
            · have hin : inR (At fs k) 0 (At cs k) = false := by simp [inR]; omega
              simp only [hin] at hcall
              have hs := Lib.hid (show verTo cs fs (k + 1) = 1 by rw [verTo, if_pos hz0, if_pos g])
              rw [hz0]
              clear hz0 g hin hok hsq'
              go_wp2_with fail
              go_quiet ((go_at_call 70; refine (hcall _).mono ?_; rintro e w' ⟨rfl, rfl⟩; exact ⟨rfl, _, rfl⟩))
              go_wp2_with fail
              exact ⟨⟨k + 1, _, sq, by omega, by go_num, by rw [hs.out], rfl, rfl, fun h => absurd h (by rw [hs.out]; decide)⟩, by simp [intOf]; omega⟩
            · have hin : inR (At fs k) 0 (At cs k) = true := by simp [inR]; omega
              simp only [hin] at hcall
              have hs := Lib.hid (verTo_pass hz0 g)
              have h40 := h8.out k hlt
              have hps := hp _ (NAt_mem (ps := natL xs) (k := k) (by rw [hN.len]; exact hlt))
              obtain ⟨f, hf⟩ : ∃ f : Nat, At fs k = f := ⟨(At fs k).toNat, by omega⟩
              have hff : NAt (natL fs) k = f := by rw [NAt_natL, hf, Int.toNat_natCast]
              have hd : dotTo (natL xs) (natL fs) (k + 1) = dotTo (natL xs) (natL fs) k + NAt (natL xs) k * f := by rw [dotTo, hff]
              have hdb : dotTo (natL xs) (natL fs) k ≤ k * 1000000 := by
                have hgen : ∀ i, i ≤ k → dotTo (natL xs) (natL fs) i ≤ i * 1000000 := by
                  intro i
                  induction i with
                  | zero => intro _; simp [dotTo]
                  | succ i ih =>
                    intro hi
                    have a1 := hok i (by omega)
                    have a2 := h8.out i (by omega)
                    have a3 : NAt (natL fs) i ≤ 1000 := by rw [NAt_natL]; omega
                    have a4 : NAt (natL xs) i ≤ 1000 := by have := NAt_le (ps := natL xs) (B := 30) (fun s h => (hp s h).2) i; omega
                    have := Nat.mul_le_mul a4 a3
                    have := ih (by omega)
                    simp only [dotTo]; omega
                exact hgen k (Nat.le_refl _)
              have hD := Lib.hid hd
              rw [hsq', hz0]
              rw [hf] at hcl' hcall
              have hm1 : NAt (natL xs) k * f ≤ 30 * 1000 := Nat.mul_le_mul hps.2 (by omega)
              generalize NAt (natL xs) k = s at *
              generalize dotTo (natL xs) (natL fs) k = d at *
              have hm2 : (f : Int) * (s : Int) = ((s * f : Nat) : Int) := by rw [Int.natCast_mul, Int.mul_comm]
              have y1 : (f : Int) * (s : Int) ≤ 30000 := by rw [hm2]; omega
              have y2 : (0 : Int) ≤ (f : Int) * (s : Int) := by rw [hm2]; omega
              have M2 := Lib.hid hm2
              clear hz0 g hin hok hsq' hsq hf hff hd hm2
              have y3 : IntKind.i64.wrap ((f : Int) * (s : Int)) = (f : Int) * (s : Int) := wrap_ok (by omega) (by omega)
              have y4 : IntKind.i64.wrap ((d : Int) + (f : Int) * (s : Int)) = (d : Int) + (f : Int) * (s : Int) := wrap_ok (by omega) (by omega)
              go_wp2_with fail
              go_quiet ((go_at_call 70; refine (hcall _).mono ?_; rintro e w' ⟨rfl, rfl⟩; exact ⟨rfl, _, rfl⟩))
              go_wp2_with fail
              go_quiet (fail)
              go_wp2_with fail
              refine ⟨⟨k + 1, _, _, by omega, by go_num, by rw [hs.out], rfl, rfl, fun _ => ?_⟩, by simp [intOf]; omega⟩
              rw [hD.out, M2.out, Int.natCast_add]
          · have hkm : k = m := by omega
            have hkk : ¬ (k : Int) < (m : Int) := by omega
            have Hz := Lib.hid hkm
            have HQ := Lib.hid hsq'
            have HZ0 := Lib.hid hz0
            rw [hz0]
            by_cases g : sq = q
            · have hbb : (sq != q) = false := by simp [g]
              have G := Lib.hid g
              clear g hkm hz0 hok hsq' hsq
              go_wp2_with fail
              go_ret
              exact ⟨ret_int (by rw [hE.out, ← Hz.out, HZ0.out, if_pos rfl, ← HQ.out, if_pos G.out]), _, rfl⟩
            · have hbb : (sq != q) = true := by simp [g]
              have G := Lib.hid g
              clear g hkm hz0 hok hsq' hsq
              go_wp2_with fail
              go_ret
              exact ⟨ret_int (by rw [hE.out, ← Hz.out, HZ0.out, if_pos rfl, ← HQ.out, if_neg G.out]), _, rfl⟩
        · have hs := Lib.hid (verTo_stay hz0 (m - k))
          have h1' : verTo cs fs k = 1 := (ver_01 cs fs k).resolve_left hz0
          rw [h1'] at hs
          rw [h1']
          clear hz0 h1' hsq
          by_cases h0 : (k : Int) < (m : Int)
          all_goals go_wp2_with fail
          all_goals go_ret
          all_goals exact ⟨ret_int (by have := hs.out; rw [show k + (m - k) = m by omega] at this; rw [hE.out, this, if_neg (by decide)]), _, rfl⟩
    · have hE := Lib.hid (show verE xs cs q fs = 5 by rw [verE, if_pos h1, if_neg (by rw [hx.len, hz.len]; exact h2)])
      have hb : ((l : Int) != n) = true := by simp; omega
      rw [h1] at ht
      clear h1
      go_enter Try.func39, Try.ntmps39
      go_wp2_with fail
      refine hc.mono ?_; rintro e w' ⟨rfl, j0, rfl⟩
      go_wp2_with fail
      refine (ht _).mono ?_; rintro e w' ⟨rfl, rfl⟩
      go_wp2_with fail
      go_loopw [9, 11] (fun ev i wr => ev = .int .i64 5 ∧ i = .int .i64 0 ∧ wr = w.drewN j0) (fun _ _ _ => 0)
      case atStart => exact ⟨rfl, rfl, rfl⟩
      case round =>
        obtain ⟨rfl, rfl, rfl⟩ := hrel
        by_cases h0 : (0 : Int) < (l : Int)
        all_goals go_wp2_with fail
        all_goals go_ret
        all_goals exact ⟨ret_int (by rw [hE.out]), _, rfl⟩
  · have hb := ne0 h1
    have hb2 : (chkO xs cs q == 0) = false := by simp [h1]
    have hE := Lib.hid (show verE xs cs q fs = chkO xs cs q by rw [verE, if_neg h1])
    clear h1
    go_enter Try.func39, Try.ntmps39
    go_wp2_with fail
    refine hc.mono ?_; rintro e w' ⟨rfl, j0, rfl⟩
    go_wp2_with fail
    refine (ht _).mono ?_; rintro e w' ⟨rfl, rfl⟩
    go_wp2_with fail
    go_loopw [9, 11] (fun ev i wr => ev = .int .i64 (chkO xs cs q) ∧ i = .int .i64 0 ∧ wr = w.drewN j0) (fun _ _ _ => 0)
    case atStart => exact ⟨rfl, rfl, rfl⟩
    case round =>
      obtain ⟨rfl, rfl, rfl⟩ := hrel
      by_cases h0 : (0 : Int) < (l : Int)
      all_goals go_wp2_with fail
      all_goals go_ret
      all_goals exact ⟨ret_int (by rw [hE.out]), _, rfl⟩
end Go.Proofs.Ytiphgkbnhagkhaa
