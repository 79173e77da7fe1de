/- Walks: fewestWith. -/
import Derived.Test.YtjcoaicpeajpnaaPkW2
import Derived.Deep.RegionHeld3
namespace Go.Proofs.Ytjcoaicpeajpnaa
open Go.RowKit Pk

theorem fw_step {k j : Nat} {f : Nat → Nat} {a b : Int} {c : Nat} (h : a = c) : (if j = k then a else if j < k then (f j : Int) else if j = k then b else 0) = if j < k then (f j : Int) else if j = k then (c : Int) else 0 := by
  by_cases e : j = k
  · subst e; simp [h]
  · simp [e]
theorem fw_done {k j c : Nat} {f : Nat → Nat} (h : f k = c) : (if j < k then (f j : Int) else if j = k then (c : Int) else 0) = if j < k + 1 then (f j : Int) else 0 := by
  by_cases e : j = k
  · subst e; simp [h]
  · by_cases h1 : j < k
    · rw [if_pos h1, if_pos (by omega)]
    · rw [if_neg h1, if_neg e, if_neg (by omega)]
set_option maxRecDepth 100000 in
set_option maxHeartbeats 2000000 in
theorem pk_fewestWith (A : Option Addr) (n : Nat) (r : List (Nat × Nat)) (s c ca : Nat) (w : World) (hx : Nats w A n ((List.range n).map (fewN 1001 r))) (hr : ∀ p ∈ r, 0 < p.1) (hs : 0 < s) (hs' : s ≤ 1000) (hc : c ≤ 1001)
    (hl : n ≤ 1001) :
    Calls Try.prog 108 #[.slice A n ca, .int .i64 s, .int .i64 c] w fun e w' => ∃ g, e = .returned (.slice (some ⟨g, 0, none⟩) n n) ∧ Nats w' (some ⟨g, 0, none⟩) n ((List.range n).map (fewN 1001 ((s, c) :: r))) ∧ Below w.heap.size w w' := by
  have hmk := fun W => mkI (n : Int) n rfl (by omega) W
  go_enter Try.func108, Try.ntmps108
  go_wp2_with fail
  go_loopw [8, 9, 15] (fun _ _ i wr => ∃ k : Nat, k ≤ n ∧ i = .int .i64 k ∧ (∃ cs, Whole wr w.heap.size 3 cs ∧ Row cs n (fun j => if j < k then (fewN 1001 ((s, c) :: r) j : Int) else 0)) ∧ Below w.heap.size w wr) (fun _ _ i _ => n - (intOf i).toNat)
  case atStart => exact ⟨0, by omega, rfl, ⟨_, Whole.new _ _ _, (Row.zero n).congr fun x hx => by simp⟩, (Below.refl _ _).alloc (Nat.le_refl _) _⟩
  case round =>
    obtain ⟨k, hk, rfl, ⟨cs, hBk, hR⟩, hw⟩ := hrel
    by_cases hlt : k < n
    · have hki : (0 : Int) ≤ (k : Int) := by omega
      have hkn : (k : Int) < n := by omega
      have c1 := (hBk.cell k).trans (hR.2 k hlt)
      have c2 := hBk.frozen k
      go_wp2_with fail
      obtain ⟨wo, hwo⟩ : ∃ wo : World, wo = wr.setCell ⟨w.heap.size, k, none⟩ (.int .i64 1001) := ⟨_, rfl⟩
      have hBo : Whole wo w.heap.size 3 (cs.setIfInBounds k (.int .i64 1001)) := by rw [hwo]; exact hBk.set_ k _
      have hwo' : Below w.heap.size w wo := by rw [hwo]; exact hw.setCell (Nat.le_refl _) _
      rw [← hwo]
      clear hwo c1 c2 hw hBk
      go_loopw [9] (fun q wr => ∃ p : Nat, p ≤ c + 1 ∧ q = .int .i64 p ∧ (∃ cs, Whole wr w.heap.size 3 cs ∧ Row cs n (fun j => if j < k then (fewN 1001 ((s, c) :: r) j : Int) else if j = k then (upN 1001 r s k p : Int) else 0)) ∧ Below w.heap.size w wr) (fun q _ => c + 1 - (intOf q).toNat)
      case atStart => 
        refine ⟨0, by omega, rfl, ⟨_, hBo, (hR.set_ hlt).congr fun j _ => ?_⟩, hwo'⟩
        by_cases e : j = k
        · subst e; simp [upN_zero]
        · simp [e]
      case round =>
        obtain ⟨p, hp, rfl, ⟨cs', hB', hR'⟩, hw'⟩ := hrel
        have c1 := (hB'.cell k).trans (hR'.2 k hlt)
        simp only [if_neg (Nat.lt_irrefl k), if_pos] at c1
        have c2 := hB'.frozen k
        have e1 : ((p : Int) * (s : Int)) = ((p * s : Nat) : Int) := by simp
        have hps0 : p * s ≤ 1002 * 1000 := Nat.mul_le_mul (by omega) hs'
        have hps1 : (p : Int) * (s : Int) ≤ 1002000 := by rw [e1]; omega
        have hps2 : (0 : Int) ≤ (p : Int) * (s : Int) := by rw [e1]; omega
        by_cases hpc : p ≤ c
        · by_cases hps : p * s ≤ k
          · obtain ⟨b, off, e, hb, hcl⟩ := hx.at_ (k := k - p * s) (by omega)
            have hcl := (hw'.cell (p := ⟨b, off + (k - p * s), none⟩) hb).trans hcl
            rw [NAt_range _ _ (by omega)] at hcl
            have hf := fewN_le hr (N := 1001) (n := k - p * s) (by omega)
            have hu := upN_le hr hs (N := 1001) (n := k) (by omega) p
            have hstep := Lib.hid (upN_succ (N := 1001) hr hs (by omega) hps)
            have hne : b ≠ w.heap.size := by omega
            have hps3 : (p : Int) * (s : Int) ≤ k := by rw [e1]; omega
            have hps4 : (k : Int) - (p : Int) * (s : Int) < n := by rw [e1]; omega
            have hps5 : (0 : Int) ≤ (k : Int) - (p : Int) * (s : Int) := by rw [e1]; omega
            have hps6 : ((k : Int) - (p : Int) * (s : Int)).toNat = k - p * s := by rw [e1]; omega
            subst e
            clear e1
            go_wp2_with fail
            go_region
            go_wp2_with fail
            refine ⟨⟨p + 1, by omega, by go_num, ⟨_, hB'.set_ k _, (hR'.set_ hlt).congr fun j _ => fw_step ?_⟩, ?_⟩, by simp [intOf]; omega⟩
            · rw [hstep.out]
              split <;> omega
            · exact (hw'.setCell (Nat.le_refl _) _).drew
          · have hfin := Lib.hid (upN_rest (N := 1001) (l := r) hps (c + 1 - p))
            have hps3 : ¬ (p : Int) * (s : Int) ≤ k := by rw [e1]; omega
            clear e1
            go_wp2_with fail
            refine ⟨⟨k + 1, by omega, by go_num, ⟨_, hB', hR'.congr fun j _ => fw_done ?_⟩, hw'⟩, by simp [intOf]; omega⟩
            have := hfin.out
            rw [show p + (c + 1 - p) = c + 1 by omega] at this
            rw [fewN_cons, this]
        · obtain rfl : p = c + 1 := by omega
          clear e1
          go_wp2_with fail
          exact ⟨⟨k + 1, by omega, by go_num, ⟨_, hB', hR'.congr fun j _ => fw_done rfl⟩, hw'⟩, by simp [intOf]; omega⟩
    · obtain rfl : k = n := by omega
      go_wp2_with fail
      go_ret
      refine ⟨_, rfl, hBk.nats (hR.congr fun j hj => ?_) (by simp), hw⟩
      rw [if_pos hj, NAt_range _ _ hj]
end Go.Proofs.Ytjcoaicpeajpnaa
