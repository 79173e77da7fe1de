/- Walks of the law's own helpers: reach. -/
import Derived.Test.YtjcoaicpeajpnaaRfB
namespace Go.Proofs.Ytjcoaicpeajpnaa
open Go.RowKit Pk

/-- What the helper knows of x after the first k sizes. -/
def accTo (ps : List Nat) (x k : Nat) : Bool := decide (x = 0) || anyTo ps x k
theorem accTo_zero (ps : List Nat) (x : Nat) : accTo ps x 0 = decide (x = 0) := by simp [accTo, anyTo]
theorem accTo_stay {ps : List Nat} {x k : Nat} (hk : k < ps.length) (h : accTo ps x k = true) : accTo ps x (k + 1) = true := by
  rw [accTo, Bool.or_eq_true] at h
  rw [accTo, anyTo_succ hk]
  rcases h with h | h <;> simp [h]
theorem accTo_low {ps : List Nat} {x k : Nat} (hk : k < ps.length) (h : accTo ps x k = false) (hl : ¬ NAt ps k ≤ x) : accTo ps x (k + 1) = false := by
  rw [accTo, Bool.or_eq_false_iff] at h
  rw [accTo, anyTo_succ hk]
  simp [h.1, h.2, hl]
theorem accTo_look {ps : List Nat} {x k : Nat} (hk : k < ps.length) (h : accTo ps x k = false) (hl : NAt ps k ≤ x) : accTo ps x (k + 1) = rB ps (x - NAt ps k) := by
  rw [accTo, Bool.or_eq_false_iff] at h
  rw [accTo, anyTo_succ hk, h.1, h.2]
  simp [hl]
theorem accTo_all {ps : List Nat} {x : Nat} (hp : ∀ s ∈ ps, 0 < s) : accTo ps x ps.length = rB ps x := by
  by_cases hx : x = 0
  · subst hx
    have : rB ps 0 = true := (rB_iff hp 0).2 (R_zero _)
    simp [accTo, this]
  · rw [accTo, anyTo_all hp (by omega)]; simp [hx]

set_option maxRecDepth 100000 in
set_option maxHeartbeats 2000000 in
theorem lw_reach (A : Option Addr) (n : Nat) (ps : List Nat) (ca N : Nat) (w : World) (hx : Nats w A n ps) (hp : ∀ s ∈ ps, 0 < s ∧ s ≤ 10000) (hl : n ≤ 1000) (hN : N ≤ 20000) :
    Calls Try.prog 50 #[.slice A n ca, .int .i64 N] w fun e w' => ∃ c, e = .returned (.slice (some ⟨w.heap.size, 0, none⟩) (N + 1) c) ∧ Bools w' (some ⟨w.heap.size, 0, none⟩) (N + 1) (rB ps) ∧ Below w.heap.size w w' := by
  have hpos : ∀ s ∈ ps, 0 < s := fun s h => (hp s h).1
  have hmk := fun W => mkB ((N : Int) + 1) (N + 1) (by omega) (by omega) W
  go_enter Try.func50, Try.ntmps50
  go_wp2_with fail
  go_loopw [14] (fun v wr => ∃ x : Nat, x ≤ N + 1 ∧ v = .int .i64 x ∧ (∃ cs, Whole wr w.heap.size 4 cs ∧ BRow cs (N + 1) (fun y => decide (y < x) && rB ps y)) ∧ Below w.heap.size w wr) (fun v _ => N + 1 - (intOf v).toNat)
  case atStart =>
    exact ⟨0, by omega, rfl, ⟨_, Whole.new _ _ _, (BRow.zero (N + 1)).congr fun y _ => by simp⟩, (Below.refl _ _).alloc (Nat.le_refl _) _⟩
  case round =>
    obtain ⟨x, hx2, rfl, ⟨cs, hB, hR⟩, hw⟩ := hrel
    by_cases hlt : x < N + 1
    · have hxi : (0 : Int) ≤ (x : Int) := by omega
      have hxn : (x : Int) < (N : Int) + 1 := by omega
      have c1 := (hB.cell x).trans (hR.2 x (by omega))
      have c2 := hB.frozen x
      go_wp2_with fail
      obtain ⟨wo, rfl⟩ : ∃ wo : World, wo = wr := ⟨_, rfl⟩
      go_loopw [24] (fun q wr => ∃ k : Nat, k ≤ n ∧ q = .int .i64 k ∧ (∃ cs, Whole wr w.heap.size 4 cs ∧ BRow cs (N + 1) (fun y => if y < x then rB ps y else if y = x then accTo ps x k else false)) ∧ Below w.heap.size w wr) (fun q _ => n - (intOf q).toNat)
      case atStart =>
        refine ⟨0, by omega, rfl, ⟨_, hB.set_ x _, (hR.set_ (by omega)).congr fun y _ => ?_⟩, hw.setCell (Nat.le_refl _) _⟩
        rw [accTo_zero]
        by_cases e : y = x
        · subst e; simp; rw [Bool.eq_iff_iff]; simp
        · by_cases h1 : y < x <;> simp [h1, e]
      case round =>
        obtain ⟨k, hk, rfl, ⟨cs', hB', hR'⟩, hw'⟩ := hrel
        by_cases hkn : k < n
        · obtain ⟨b, off, rfl, hb, hcl⟩ := (hx.below hw').at_ hkn
          have hkl : k < ps.length := by rw [hx.len]; exact hkn
          have hs := hp _ (NAt_mem (ps := ps) (k := k) hkl)
          have hki : (0 : Int) ≤ (k : Int) := by omega
          have hkn' : (k : Int) < n := by omega
          have d1 := (hB'.cell x).trans (hR'.2 x (by omega))
          have d2 := hB'.frozen x
          simp only [if_neg (Nat.lt_irrefl x), if_pos] at d1
          by_cases ha : accTo ps x k = true
          · have hst := Lib.hid (accTo_stay hkl ha)
            rw [ha] at d1
            clear ha c1 c2
            go_wp2_with fail
            refine ⟨⟨k + 1, by omega, by go_num, ⟨_, hB'.set_ x _, (hR'.set_ (by omega)).congr fun y _ => ?_⟩, hw'.setCell (Nat.le_refl _) _⟩, by simp [intOf]; omega⟩
            rw [hst.out]
            by_cases e : y = x
            · subst e; simp
            · simp [e]
          · have ha' : accTo ps x k = false := by simpa using ha
            rw [ha'] at d1
            by_cases hle : NAt ps k ≤ x
            · have hst := Lib.hid (accTo_look hkl ha' hle)
              have d3 := (hB'.cell (x - NAt ps k)).trans (hR'.2 (x - NAt ps k) (by omega))
              simp only [if_pos (show x - NAt ps k < x by omega)] at d3
              have z1 : (0 : Int) ≤ (x : Int) - (NAt ps k : Int) := by omega
              have z2 : (x : Int) - (NAt ps k : Int) < (N : Int) + 1 := by omega
              clear ha ha' c1 c2
              go_wp2_with fail
              refine ⟨⟨k + 1, by omega, by go_num, ⟨_, hB'.set_ x _, (hR'.set_ (by omega)).congr fun y _ => ?_⟩, hw'.setCell (Nat.le_refl _) _⟩, by simp [intOf]; omega⟩
              rw [hst.out]
              by_cases e : y = x
              · subst e; simp
              · simp [e]
            · have hst := Lib.hid (accTo_low hkl ha' hle)
              have hle' : ¬ (NAt ps k : Int) ≤ (x : Int) := by omega
              clear ha ha' c1 c2
              go_wp2_with fail
              refine ⟨⟨k + 1, by omega, by go_num, ⟨_, hB'.set_ x _, (hR'.set_ (by omega)).congr fun y _ => ?_⟩, hw'.setCell (Nat.le_refl _) _⟩, by simp [intOf]; omega⟩
              rw [hst.out]
              by_cases e : y = x
              · subst e; simp
              · simp [e]
        · obtain rfl : k = n := by omega
          go_wp2_with fail
          refine ⟨⟨x + 1, by omega, by go_num, ⟨_, hB', hR'.congr fun y _ => ?_⟩, hw'⟩, by simp [intOf]; omega⟩
          have hall : accTo ps x k = rB ps x := by rw [← hx.len]; exact accTo_all hpos
          rw [hall]
          by_cases h1 : y < x
          · rw [if_pos h1]; simp; omega
          · by_cases h2 : y = x
            · subst h2; simp
            · rw [if_neg h1, if_neg h2]; simp; omega
    · obtain rfl : x = N + 1 := by omega
      go_wp2_with fail
      go_ret
      exact ⟨_, rfl, hB.bools (hR.congr fun y hy => by simp [hy]), hw⟩
end Go.Proofs.Ytjcoaicpeajpnaa
