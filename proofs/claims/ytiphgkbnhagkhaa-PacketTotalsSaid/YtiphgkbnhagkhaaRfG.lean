/- Walks of the reference: best. -/
import Derived.Test.YtiphgkbnhagkhaaRfF
import Derived.Test.YtiphgkbnhagkhaaPkW7
namespace Go.Proofs.Ytiphgkbnhagkhaa
open Go.RowKit Pk

theorem TB.below {w0 w w' : World} {n m k : Nat} {F : Nat → Nat → Nat} (h : TB w0 w n m k F) (hb : Below w.heap.size w w') : TB w0 w' n m k F := by
  obtain ⟨⟨O, h1, h2, h3, h4⟩, h5, h6⟩ := h
  refine ⟨⟨O, h1.below hb h1.lt, h2, h3, h4⟩, fun j hj => ?_, h6.trans (hb.mono h6.size)⟩
  obtain ⟨cs, a, b⟩ := h5 j hj
  exact ⟨cs, a.below hb a.lt, b⟩

theorem bigN : ∃ N : Nat, Hid ((N : Int) = 1048576) ∧ 2000 ≤ N ∧ N ≤ 2000000 := ⟨1048576, rfl, by omega, by omega⟩

set_option maxRecDepth 100000 in
set_option maxHeartbeats 4000000 in
theorem rf_best (A B : Option Addr) (n : Nat) (ps cs : List Nat) (ca cb m : Nat) (w : World) (hx : Nats w A n ps) (hy : Nats w B n cs) (hp : ∀ s ∈ ps, 0 < s ∧ s ≤ 1000) (hc : ∀ c ∈ cs, c ≤ 1001)
    (hl : n ≤ 5) (hm : m ≤ 1000) :
    Calls Try.prog 63 #[.slice A n ca, .slice B n cb, .int .i64 m] w fun e w' => Gives2 w w' e (bfL ps cs m) (bfE ps cs m) := by
  obtain ⟨N, hN, hN1, hN2⟩ := bigN
  have hpos := fun i => dp_pos (ps := ps) (cs := cs) (fun s h => (hp s h).1) i
  have htab := rf_table N hN hN1 hN2 A B n ps cs ca cb m w hx hy hp hc hl hm
  have hm1 : (m : Int) < (m : Int) + 1 := by omega
  have hm0 : (0 : Int) ≤ (m : Int) := by omega
  have hn1 : (0 : Int) < (n : Int) + 1 := by omega
  by_cases hf : (few (dp ps cs 0) m).isSome = true
  · obtain ⟨v0, hv0⟩ := Option.isSome_iff_exists.1 hf
    have hv1 : fewN N (dp ps cs 0) m = v0 := by rw [fewN, hv0]; rfl
    have hv2 := few_le (hpos 0) m v0 hv0
    have hge : (fewN N (dp ps cs 0) m : Int) < 1048576 := by have := hN.out; omega
    have hge2 : decide ((1048576 : Int) ≤ (fewN N (dp ps cs 0) m : Int)) = false := by rw [decide_eq_false_iff_not]; omega
    have hN3 := Lib.hid hN2
    clear hN2
    have HV := Lib.hid hv0; have HF := Lib.hid hf
    clear hv0 hf hv1
    go_enter Try.func63, Try.ntmps63
    go_wp2_with fail
    refine htab.mono ?_
    rintro e w1 ⟨rfl, hT⟩
    have o0 := hT.outer (show 0 < n + 1 by omega)
    rw [Nat.add_zero] at o0
    have r0 := (hT.row (show 0 < n + 1 by omega) (Nat.le_refl m)).1
    rw [Nat.add_zero] at r0
    go_wp2_with fail
    have hN2 := hN3.out
    clear hge hge2
    have hAll := Lib.hid (rs_ok hx.len hy.len ⟨v0, HV.out⟩)
    go_loopw [2, 9, 10] (fun rest v q wr => ∃ i : Nat, i ≤ n ∧ q = .int .i64 i ∧ rest = .int .i64 (rs ps cs m i : Nat) ∧ OwnI wr w1.heap.size v (((List.range i).map (pk ps cs m)).map Int.ofNat) ∧ Below w1.heap.size w1 wr) (fun _ _ q _ => n - (intOf q).toNat)
    case atStart => exact ⟨0, by omega, rfl, rfl, OwnI.nil_ _ _, Below.refl _ _⟩
    case round =>
      obtain ⟨i, hi, rfl, rfl, hown, hw⟩ := hrel
      have hsz := hw.size
      have hTr := hT.below hw
      by_cases hlt : i < n
      · obtain ⟨b, off, eA, hb, hcl0⟩ := hx.at_ hlt
        have hcl := (hTr.bel.cell (p := ⟨b, off + i, none⟩) hb).trans hcl0
        have hcl1 := (hT.bel.cell (p := ⟨b, off + i, none⟩) hb).trans hcl0
        have hb1 : b < w1.heap.size := Nat.lt_of_lt_of_le hb hT.bel.size
        clear hcl0
        subst eA
        have hs := hp _ (NAt_mem (ps := ps) (k := i) (by rw [hx.len]; exact hlt))
        obtain ⟨hr1, v, hv⟩ := hAll.out i hi
        rw [dp_step hx.len hy.len hlt] at hv
        obtain ⟨hP1, hP2, hP3⟩ := firstP_spec hv
        have hfi := fun p => fits_iff (N := N) (p := p) (hpos (i + 1)) hs.1 (by omega) hv
        rw [← dp_step hx.len hy.len hlt] at hfi
        have hP4 := ((hfi _).1 hP2).1
        have hP0 : firstP (NAt ps i) (NAt cs i) (dp ps cs (i + 1)) (rs ps cs m i) = pk ps cs m i := rfl
        have hrs : rs ps cs m (i + 1) = rs ps cs m i - pk ps cs m i * NAt ps i := rfl
        rw [hP0] at hP1 hP2 hP3 hP4
        have hfi' : (pk ps cs m i) + fewN N (dp ps cs (i + 1)) (rs ps cs m i - pk ps cs m i * NAt ps i) = fewN N (dp ps cs i) (rs ps cs m i) := ((hfi _).1 hP2).2
        have hfn : ∀ p, p < pk ps cs m i → p * NAt ps i ≤ rs ps cs m i → ¬ p + fewN N (dp ps cs (i + 1)) (rs ps cs m i - p * NAt ps i) = fewN N (dp ps cs i) (rs ps cs m i) := by
          intro p h1 h2 h3
          have := (hfi p).2 ⟨h2, h3⟩
          rw [hP3 p h1] at this
          cases this
        have HFI := Lib.hid hfi'; have HFN := Lib.hid hfn; have HRS := Lib.hid hrs
        have hcc := hc _ (NAt_mem (ps := cs) (k := i) (by rw [hy.len]; exact hlt))
        clear hfi hfi' hfn hrs hP0 hP2 hP3 hv
        have o1 := hTr.outer (show i + 1 < n + 1 by omega)
        have o2 := hTr.outer (show i < n + 1 by omega)
        have hf0 := fewN_le (N := N) (hpos i) (n := rs ps cs m i) (by omega)
        have hf1 := fun p => fewN_le (N := N) (hpos (i + 1)) (n := rs ps cs m i - p * NAt ps i) (by omega)
        have HF1 := Lib.hid hf1; clear hf1
        have hPs : pk ps cs m i ≤ 1000 := by
          have := Nat.le_mul_of_pos_right (pk ps cs m i) hs.1
          omega
        have hrange := Lib.hid (show (((List.range (i + 1)).map (pk ps cs m)).map Int.ofNat) = (((List.range i).map (pk ps cs m)).map Int.ofNat) ++ [(pk ps cs m i : Int)] by simp [List.range_succ])
        have hlenL : (((List.range i).map (pk ps cs m)).map Int.ofNat).length ≤ 1000 := by simp; omega
        generalize hgs : NAt ps i = s at *
        generalize hgP : pk ps cs m i = P at *
        generalize hgR : rs ps cs m i = R at *
        generalize hgL : ((List.range i).map (pk ps cs m)).map Int.ofNat = L at *
        have GP := Lib.hid hgP; have GR := Lib.hid hgR
        clear hgs hgP hgR hgL
        have hi0 : (0 : Int) ≤ (i : Int) := by omega
        have hi1 : (i : Int) < n := by omega
        have hi2 : (i : Int) < (n : Int) + 1 := by omega
        have hi3 : (i : Int) + 1 < (n : Int) + 1 := by omega
        have hi4 : (0 : Int) ≤ (i : Int) + 1 := by omega
        go_wp2_with fail
        obtain ⟨wo, rfl⟩ : ∃ wo : World, wo = wr := ⟨_, rfl⟩
        go_loopw [11] (fun q wr => ∃ p j : Nat, p ≤ P ∧ q = .int .i64 p ∧ wr = wo.drewN j) (fun q _ => P + 1 - (intOf q).toNat)
        case atStart => exact ⟨0, 0, by omega, rfl, rfl⟩
        case round =>
          obtain ⟨p, j, hpP, rfl, rfl⟩ := hrel
          have hps : p * s ≤ P * s := Nat.mul_le_mul_right s hpP
          have e1 : ((p : Int) * (s : Int)) = ((p * s : Nat) : Int) := by simp
          have hps1 : (p : Int) * (s : Int) ≤ 1000 := by rw [e1]; omega
          have hps2 : (0 : Int) ≤ (p : Int) * (s : Int) := by rw [e1]; omega
          have hps3 : (p : Int) * (s : Int) ≤ (R : Int) := by rw [e1]; omega
          have hps7 : decide ((R : Int) < (p : Int) * (s : Int)) = false := by rw [decide_eq_false_iff_not, e1]; omega
          have hps4 : (0 : Int) ≤ (R : Int) - (p : Int) * (s : Int) := by rw [e1]; omega
          have hps5 : (R : Int) - (p : Int) * (s : Int) < (m : Int) + 1 := by rw [e1]; omega
          have hps6 : ((R : Int) - (p : Int) * (s : Int)).toNat = R - p * s := by rw [e1]; omega
          have E1 := Lib.hid e1; clear e1
          have r1 := (hTr.row (show i + 1 < n + 1 by omega) (show R - p * s ≤ m by omega)).1
          have r2 := (hTr.row (show i < n + 1 by omega) hr1).1
          have hF1 := HF1.out p
          have hR0 : (0 : Int) ≤ (R : Int) := by omega
          have hR1 : (R : Int) < (m : Int) + 1 := by omega
          by_cases hpe : p = P
          · subst hpe
            have hbb : ((p : Int) + (fewN N (dp ps cs (i + 1)) (R - p * s) : Int) != (fewN N (dp ps cs i) R : Int)) = false := by
              have := HFI.out
              simp; omega
            generalize fewN N (dp ps cs (i + 1)) (R - p * s) = F1 at *
            generalize fewN N (dp ps cs i) R = F0 at *
            have z1 : IntKind.i64.wrap ((p : Int) + (F1 : Int)) = (p : Int) + (F1 : Int) := wrap_ok (by omega) (by omega)
            have z2 : IntKind.i64.wrap ((i : Int) + 1) = (i : Int) + 1 := wrap_ok (by omega) (by omega)
            have z3 : ((i : Int) + 1).toNat = i + 1 := by omega
            have z4 : IntKind.i64.wrap ((p : Int) * (s : Int)) = (p : Int) * (s : Int) := wrap_ok (by omega) (by omega)
            have z5 : IntKind.i64.wrap ((R : Int) - (p : Int) * (s : Int)) = (R : Int) - (p : Int) * (s : Int) := wrap_ok (by omega) (by omega)
            go_wp2_with fail
            go_quiet (fail)
            go_wp2_with (at_builtin; refine wpList_appI rfl _ _ rfl w1.heap.size _ L p (by rfl) (hown.below (bdrewN (Below.refl _ _) _)) hsz (by omega) (by rfl) ?_; intro v' w' hown' hb'; have hbw := hb' _ (bdrewN hw _); have hcl2 := (hbw.cell (p := ⟨b, off + i, none⟩) hb1).trans hcl1)
            refine ⟨⟨i + 1, by omega, by go_num, congrArg (Value.int .i64) ?_, by rw [hrange.out]; exact hown', hbw⟩, by simp [intOf]; omega⟩
            have := E1.out
            rw [HRS.out]; omega
          · have hlt' : p < P := by omega
            have hbb : ((p : Int) + (fewN N (dp ps cs (i + 1)) (R - p * s) : Int) != (fewN N (dp ps cs i) R : Int)) = true := by
              have := HFN.out p hlt' (by omega)
              simp; omega
            generalize fewN N (dp ps cs (i + 1)) (R - p * s) = F1 at *
            generalize fewN N (dp ps cs i) R = F0 at *
            have z1 : IntKind.i64.wrap ((p : Int) + (F1 : Int)) = (p : Int) + (F1 : Int) := wrap_ok (by omega) (by omega)
            have z2 : IntKind.i64.wrap ((i : Int) + 1) = (i : Int) + 1 := wrap_ok (by omega) (by omega)
            have z3 : ((i : Int) + 1).toNat = i + 1 := by omega
            have z4 : IntKind.i64.wrap ((p : Int) * (s : Int)) = (p : Int) * (s : Int) := wrap_ok (by omega) (by omega)
            have z5 : IntKind.i64.wrap ((R : Int) - (p : Int) * (s : Int)) = (R : Int) - (p : Int) * (s : Int) := wrap_ok (by omega) (by omega)
            go_wp2_with fail
            go_quiet (fail)
            go_wp2_with fail
            exact ⟨⟨p + 1, _, by omega, by go_num, rfl⟩, by simp [intOf]; omega⟩
      · obtain rfl : i = n := by omega
        have eL : bfL ps cs m = bestF ps cs m := by rw [bfL, if_pos HF.out]
        have eE : bfE ps cs m = 0 := by rw [bfE, if_pos HF.out]
        have el : (bestF ps cs m).length = i := by rw [bestF, List.length_map, List.length_range, hx.len]
        have eb : (List.range i).map (pk ps cs m) = bestF ps cs m := by rw [bestF, hx.len]
        rw [eb] at hown
        obtain ⟨A', c', rfl, hN'⟩ := hown.nats el
        have EL := Lib.hid eL; have EE := Lib.hid eE; have EEL := Lib.hid el
        clear eL eE el eb
        go_wp2_with fail
        go_ret2
        unfold Gives2
        rw [EL.out, EE.out, EEL.out]
        exact ⟨_, _, rfl, hN', hT.bel.trans (hw.mono hT.bel.size)⟩
  · have hv0 : few (dp ps cs 0) m = none := by simpa using hf
    have he : fewN N (dp ps cs 0) m = N := by rw [fewN, hv0]; rfl
    have hge2 : decide ((1048576 : Int) ≤ (fewN N (dp ps cs 0) m : Int)) = true := by rw [decide_eq_true_iff, he]; have := hN.out; omega
    have HF := Lib.hid hf; clear hf hv0 he hN2
    go_enter Try.func63, Try.ntmps63
    go_wp2_with fail
    refine htab.mono ?_
    rintro e w1 ⟨rfl, hT⟩
    have o0 := hT.outer (show 0 < n + 1 by omega)
    rw [Nat.add_zero] at o0
    have r0 := (hT.row (show 0 < n + 1 by omega) (Nat.le_refl m)).1
    rw [Nat.add_zero] at r0
    go_wp2_with fail
    go_ret2
    have eL : bfL ps cs m = [] := by rw [bfL, if_neg HF.out]
    have eE : bfE ps cs m = 12 := by rw [bfE, if_neg HF.out]
    unfold Gives2
    rw [eL, eE]
    exact ⟨none, 0, rfl, ⟨rfl, fun k hk => absurd hk (by simp)⟩, hT.bel⟩
end Go.Proofs.Ytiphgkbnhagkhaa
