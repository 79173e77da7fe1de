/- Walks: bestFilling. -/
import Derived.Test.YtjcoaicpeajpnaaPkW6
import Derived.Test.YtjcoaicpeajpnaaPkW4
namespace Go.Proofs.Ytjcoaicpeajpnaa
open Go.RowKit Pk

/-- What is left when the first i kinds are filled, and how many packets of kind i are taken. -/
def rs (ps cs : List Nat) (m : Nat) : Nat → Nat
  | 0 => m
  | i + 1 => rs ps cs m i - firstP (NAt ps i) (NAt cs i) (dp ps cs (i + 1)) (rs ps cs m i) * NAt ps i
def pk (ps cs : List Nat) (m i : Nat) : Nat := firstP (NAt ps i) (NAt cs i) (dp ps cs (i + 1)) (rs ps cs m i)
def bestF (ps cs : List Nat) (m : Nat) : List Nat := (List.range ps.length).map (pk ps cs m)
theorem rs_ok {ps cs : List Nat} {n m : Nat} (hp : ps.length = n) (hc : cs.length = n) (h : ∃ v, few (dp ps cs 0) m = some v) : ∀ i, i ≤ n → rs ps cs m i ≤ m ∧ ∃ v, few (dp ps cs i) (rs ps cs m i) = some v := by
  intro i
  induction i with
  | zero => intro _; exact ⟨Nat.le_refl _, h⟩
  | succ i ih =>
    intro hi
    obtain ⟨h1, v, h2⟩ := ih (by omega)
    rw [dp_step hp hc (by omega)] at h2
    have := fits_rest h2
    simp only [rs]
    exact ⟨by omega, this.2⟩

/-- The error and the filling that are returned. -/
def bfE (ps cs : List Nat) (m : Nat) : Int := if (few (dp ps cs 0) m).isSome then 0 else 12
def bfL (ps cs : List Nat) (m : Nat) : List Nat := if (few (dp ps cs 0) m).isSome then bestF ps cs m else []

def Gives2 (w w' : World) (e : Ending) (xs : List Nat) (er : Int) : Prop := ∃ A c, e = .returned (.tuple #[.slice A xs.length c, .int .i64 er]) ∧ Nats w' A xs.length xs ∧ Below w.heap.size w w'

set_option maxRecDepth 100000 in
set_option maxHeartbeats 4000000 in
theorem pk_bestFilling (A B : Option Addr) (n : Nat) (ps cs : List Nat) (ca cb m : Nat) (w : World) (hx : Nats w A n ps) (hy : Nats w B n cs) (hp : ∀ s ∈ ps, 0 < s ∧ s ≤ 1000) (hc : ∀ c ∈ cs, c ≤ 1001)
    (hl : n ≤ 5) (hm : m ≤ 1000) :
    Calls Try.prog 65 #[.slice A n ca, .slice B n cb, .int .i64 m] w fun e w' => Gives2 w w' e (bfL ps cs m) (bfE ps cs m) := by
  have hpos := fun i => dp_pos (ps := ps) (cs := cs) (fun s h => (hp s h).1) i
  have hmk := fun W => mkI (n : Int) n rfl (by omega) W
  by_cases hf : (few (dp ps cs 0) m).isSome = true
  · obtain ⟨v0, hv0⟩ := Option.isSome_iff_exists.1 hf
    have hne := mt (fewN_none (N := 1001) (hpos 0) (n := m) (by omega)).1 (by rw [hv0]; simp)
    have hle := fewN_le (N := 1001) (hpos 0) (n := m) (by omega)
    have hne1 : ((fewN 1001 (dp ps cs 0) m : Int) == 1001) = false := by simp; omega
    have HV := Lib.hid hv0; clear hv0
    have HF := Lib.hid hf; clear hf
    clear hne
    go_enter Try.func65, Try.ntmps65
    go_wp2
    go_step3
    go_wp2_with fail
    refine (pk_fewestPackets A B n ps cs ca cb m w hx hy hp hc hl hm).mono ?_
    rintro e w1 ⟨g, rfl, hT, hw1⟩
    obtain ⟨A0, c0, hc0, hN0⟩ := hT.get (j := 0) (Nat.le_refl _) (by omega)
    obtain ⟨b0, off0, rfl, hb0, hcl0⟩ := hN0.at_ (k := m) (by omega)
    rw [NAt_range _ _ (by omega)] at hcl0
    have hm1 : (m : Int) < (m : Int) + 1 := by omega
    have hm0 : (0 : Int) ≤ (m : Int) := by omega
    have hn1 : (0 : Int) < (n : Int) + 1 := by omega
    go_wp2_with fail
    go_step3
    go_wp2_with fail
    have hAll := Lib.hid (rs_ok hx.len hy.len ⟨v0, HV.out⟩)
    go_loopw [10, 32] (fun rest q wr => ∃ i : Nat, i ≤ n ∧ q = .int .i64 i ∧ rest = .int .i64 (rs ps cs m i : Nat) ∧ (∃ cs', Whole wr w1.heap.size 3 cs' ∧ Row cs' n (fun j => if j < i then (pk ps cs m j : Int) else 0)) ∧ Below w1.heap.size w1 wr) (fun _ q _ => n - (intOf q).toNat)
    case atStart => exact ⟨0, by omega, rfl, rfl, ⟨_, Whole.new _ _ _, (Row.zero n).congr fun x hx => by simp⟩, (Below.refl _ _).alloc (Nat.le_refl _) _⟩
    case round =>
      obtain ⟨i, hi, rfl, rfl, ⟨cs', hB, hR⟩, hw⟩ := hrel
      have hww := hw1.trans (hw.mono hw1.size)
      by_cases hlt : i < n
      · obtain ⟨b, off, rfl, hb, hcl⟩ := (hx.below hww).at_ hlt
        obtain ⟨b', off', rfl, hb', hcl'⟩ := (hy.below hww).at_ hlt
        have hs := hp _ (NAt_mem (ps := ps) (k := i) (by rw [hx.len]; exact hlt))
        have hcc := hc _ (NAt_mem (ps := cs) (k := i) (by rw [hy.len]; exact hlt))
        obtain ⟨hr1, v, hv⟩ := hAll.out i hi
        rw [dp_step hx.len hy.len hlt] at hv
        obtain ⟨hP1, hP2, hP3⟩ := firstP_spec hv
        have hfi := fun p => fits_iff (N := 1001) (p := p) (hpos (i + 1)) hs.1 (by omega) hv
        rw [← dp_step hx.len hy.len hlt] at hfi
        have hP4 := ((hfi _).1 hP2).1
        have hP0 : firstP (NAt ps i) (NAt cs i) (dp ps cs (i + 1)) (rs ps cs m i) = pk ps cs m i := rfl
        have hrs : rs ps cs m (i + 1) = rs ps cs m i - pk ps cs m i * NAt ps i := rfl
        rw [hP0] at hP1 hP2 hP3 hP4
        have hfi' : (pk ps cs m i) + fewN 1001 (dp ps cs (i + 1)) (rs ps cs m i - pk ps cs m i * NAt ps i) = fewN 1001 (dp ps cs i) (rs ps cs m i) := ((hfi _).1 hP2).2
        have hfn : ∀ p, p < pk ps cs m i → p * NAt ps i ≤ rs ps cs m i → ¬ p + fewN 1001 (dp ps cs (i + 1)) (rs ps cs m i - p * NAt ps i) = fewN 1001 (dp ps cs i) (rs ps cs m i) := by
          intro p h1 h2 h3
          have := (hfi p).2 ⟨h2, h3⟩
          rw [hP3 p h1] at this
          cases this
        have HFI := Lib.hid hfi'; have HFN := Lib.hid hfn; have HRS := Lib.hid hrs
        clear hfi hfi' hfn hrs hP0 hP2 hP3 hv
        obtain ⟨A1, c1, hc1, hN1⟩ := (hT.below hw).get (j := i + 1) (Nat.zero_le _) (by omega)
        obtain ⟨A2, c2, hc2, hN2⟩ := (hT.below hw).get (j := i) (Nat.zero_le _) (by omega)
        have hf0 := fewN_le (N := 1001) (hpos i) (n := rs ps cs m i) (by omega)
        have hf1 := fun p => fewN_le (N := 1001) (hpos (i + 1)) (n := rs ps cs m i - p * NAt ps i) (by omega)
        have HF1 := Lib.hid hf1; clear hf1
        generalize hgs : NAt ps i = s at *
        generalize hgc : NAt cs i = c at *
        generalize hgP : pk ps cs m i = P at *
        generalize hgR : rs ps cs m i = R at *
        have GS := Lib.hid hgs; have GC := Lib.hid hgc; have GP := Lib.hid hgP; have GR := Lib.hid hgR
        clear hgs hgc hgP hgR
        have hPc : P * s ≤ 1000 := by omega
        have hi0 : (0 : Int) ≤ (i : Int) := by omega
        have hi1 : (i : Int) < n := by omega
        have hi2 : (i : Int) < (n : Int) + 1 := by omega
        have hi3 : (i : Int) + 1 < (n : Int) + 1 := by omega
        have hi4 : (0 : Int) ≤ (i : Int) + 1 := by omega
        have k1 := (hB.cell i).trans (hR.2 i hlt)
        have k2 := hB.frozen i
        go_wp2_with fail
        obtain ⟨wo, rfl⟩ : ∃ wo : World, wo = wr := ⟨_, rfl⟩
        go_loopw [10, 42] (fun rest q wr => ∃ p j : Nat, p ≤ P ∧ q = .int .i64 p ∧ rest = .int .i64 (R : Nat) ∧ wr = wo.drewN j) (fun _ q _ => P + 1 - (intOf q).toNat)
        case atStart => exact ⟨0, 0, by omega, rfl, rfl, rfl⟩
        case round =>
          obtain ⟨p, j, hpP, rfl, rfl, rfl⟩ := hrel
          have hps : p * s ≤ P * s := Nat.mul_le_mul_right s hpP
          have e1 : ((p : Int) * (s : Int)) = ((p * s : Nat) : Int) := by simp
          have hps1 : (p : Int) * (s : Int) ≤ 1000 := by rw [e1]; omega
          have hps2 : (0 : Int) ≤ (p : Int) * (s : Int) := by rw [e1]; omega
          have hps3 : (p : Int) * (s : Int) ≤ (R : Int) := by rw [e1]; omega
          have hps4 : (0 : Int) ≤ (R : Int) - (p : Int) * (s : Int) := by rw [e1]; omega
          have hps5 : (R : Int) - (p : Int) * (s : Int) < (m : Int) + 1 := by rw [e1]; omega
          have hps6 : ((R : Int) - (p : Int) * (s : Int)).toNat = R - p * s := by rw [e1]; omega
          have E1 := Lib.hid e1; clear e1
          obtain ⟨b3, off3, e3, hb3, hcl3⟩ := hN1.at_ (k := R - p * s) (by omega)
          obtain ⟨b4, off4, e4, hb4, hcl4⟩ := hN2.at_ (k := R) (by omega)
          rw [NAt_range _ _ (by omega)] at hcl3 hcl4
          subst e3 e4
          have hF1 := HF1.out p
          have hR0 : (0 : Int) ≤ (R : Int) := by omega
          have hR1 : (R : Int) < (m : Int) + 1 := by omega
          have hpc : (p : Int) < (c : Int) + 1 := by omega
          by_cases hpe : p = P
          · subst hpe
            have hbb : ((p : Int) + (fewN 1001 (dp ps cs (i + 1)) (R - p * s) : Int) == (fewN 1001 (dp ps cs i) R : Int)) = true := by
              have := HFI.out
              simp; omega
            generalize fewN 1001 (dp ps cs (i + 1)) (R - p * s) = F1 at *
            generalize fewN 1001 (dp ps cs i) R = F0 at *
            have z1 : IntKind.i64.wrap ((p : Int) + (F1 : Int)) = (p : Int) + (F1 : Int) := wrap_ok (by omega) (by omega)
            have z2 : IntKind.i64.wrap ((i : Int) + 1) = (i : Int) + 1 := wrap_ok (by omega) (by omega)
            have z3 : ((i : Int) + 1).toNat = i + 1 := by omega
            go_wp2_with fail
            go_quiet (fail)
            go_wp2_with fail
            refine ⟨⟨i + 1, by omega, by go_num, congrArg (Value.int .i64) ?_, ⟨_, (hB.drewN _).set_ i _, (hR.set_ hlt).congr fun j _ => cw_step1 ?_⟩, (bdrewN hw _).setCell (Nat.le_refl _) _⟩, by simp [intOf]; omega⟩
            · have := E1.out
              rw [HRS.out]; omega
            · rw [GP.out]
          · have hlt' : p < P := by omega
            have hbb : ((p : Int) + (fewN 1001 (dp ps cs (i + 1)) (R - p * s) : Int) == (fewN 1001 (dp ps cs i) R : Int)) = false := by
              have := HFN.out p hlt' (by omega)
              simp; omega
            generalize fewN 1001 (dp ps cs (i + 1)) (R - p * s) = F1 at *
            generalize fewN 1001 (dp ps cs i) R = F0 at *
            have z1 : IntKind.i64.wrap ((p : Int) + (F1 : Int)) = (p : Int) + (F1 : Int) := wrap_ok (by omega) (by omega)
            have z2 : IntKind.i64.wrap ((i : Int) + 1) = (i : Int) + 1 := wrap_ok (by omega) (by omega)
            have z3 : ((i : Int) + 1).toNat = i + 1 := by omega
            go_wp2_with fail
            go_quiet (fail)
            go_wp2_with fail
            exact ⟨⟨p + 1, _, by omega, by go_num, rfl, rfl⟩, by simp [intOf]; omega⟩
      · obtain rfl : i = n := by omega
        go_wp2_with fail
        rw [Exit.noGoto_ret]
        go_ret2
        have eL : bfL ps cs m = bestF ps cs m := by rw [bfL, if_pos HF.out]
        have eE : bfE ps cs m = 0 := by rw [bfE, if_pos HF.out]
        have el : (bestF ps cs m).length = i := by rw [bestF, List.length_map, List.length_range, hx.len]
        unfold Gives2
        rw [eL, eE, el]
        refine ⟨_, _, rfl, hB.nats (hR.congr fun j hj => ?_) el, hww⟩
        rw [if_pos hj, bestF, NAt_range _ _ (by rw [hx.len]; exact hj)]
  · have hv0 : few (dp ps cs 0) m = none := by simpa using hf
    have he := (fewN_none (N := 1001) (hpos 0) (n := m) (by omega)).2 hv0
    have HE := Lib.hid he; clear he
    have HF := Lib.hid hf; clear hf hv0
    go_enter Try.func65, Try.ntmps65
    go_wp2
    go_step3
    go_wp2_with fail
    refine (pk_fewestPackets A B n ps cs ca cb m w hx hy hp hc hl hm).mono ?_
    rintro e w1 ⟨g, rfl, hT, hw1⟩
    obtain ⟨A0, c0, hc0, hN0⟩ := hT.get (j := 0) (Nat.le_refl _) (by omega)
    obtain ⟨b0, off0, rfl, hb0, hcl0⟩ := hN0.at_ (k := m) (by omega)
    rw [NAt_range _ _ (by omega), HE.out] at hcl0
    have hm1 : (m : Int) < (m : Int) + 1 := by omega
    have hm0 : (0 : Int) ≤ (m : Int) := by omega
    have hn1 : (0 : Int) < (n : Int) + 1 := by omega
    go_wp2_with fail
    try rw [Exit.noGoto_ret]
    go_ret2
    have eL : bfL ps cs m = [] := by rw [bfL, if_neg HF.out]
    have eE : bfE ps cs m = 12 := by rw [bfE, if_neg HF.out]
    unfold Gives2
    rw [eL, eE]
    exact ⟨none, 0, rfl, ⟨rfl, fun k hk => absurd hk (by simp)⟩, hw1⟩
end Go.Proofs.Ytjcoaicpeajpnaa
