/- Clasp: walks along the line. -/
import Derived.Test.YtenlmjnejjdnnaaDoorClT
import Derived.Deep.RegionHeld3
namespace Go.Proofs.YtenlmjnejjdnnaaDoor
open Go.RowKit Cl

abbrev walkA (n a b : Nat) : Array Value := #[.int .i64 (n : Int), .int .i64 (a : Int), .int .i64 (b : Int)]

set_option maxRecDepth 100000 in
set_option maxHeartbeats 1000000 in
theorem walk_length (n a b : Nat) (ha : a < 65536) (hb : b < 65536) (w : World) :
    Calls Tryd.prog 61 #[.agg (walkA n a b)] w fun e w' => e = .returned (.int .i64 (gap a b : Nat)) ∧ Below w.heap.size w w' := by
  have hbe := (Below.refl w.heap.size w).alloc (Nat.le_refl _) (.cells (walkA n a b) 81)
  have w1 : IntKind.i64.wrap ((a : Int) - b) = (a : Int) - b := wrap_ok (by omega) (by omega)
  have w2 : IntKind.i64.wrap ((b : Int) - a) = (b : Int) - a := wrap_ok (by omega) (by omega)
  rcases Nat.le_total a b with h | h
  · have hg := Lib.hid (show ((gap a b : Nat) : Int) = (b : Int) - a by unfold gap; omega)
    have h' : (a : Int) ≤ b := by omega
    have hA := Lib.hid (And.intro ha hb)
    clear ha hb
    go_enter Tryd.func61, Tryd.ntmps61
    go_wp2
    all_goals go_ret
    all_goals exact ⟨ret_int (by have := hA.out; rw [hg.out]; first | omega | (unfold wrap64; omega)), hbe⟩
  · have hg := Lib.hid (show ((gap a b : Nat) : Int) = (a : Int) - b by unfold gap; omega)
    have h' : (b : Int) ≤ a := by omega
    have hA := Lib.hid (And.intro ha hb)
    clear ha hb
    go_enter Tryd.func61, Tryd.ntmps61
    go_wp2
    all_goals go_ret
    all_goals exact ⟨ret_int (by have := hA.out; rw [hg.out]; first | omega | (unfold wrap64; omega)), hbe⟩

set_option maxRecDepth 100000 in
set_option maxHeartbeats 1000000 in
theorem walk_at (n a b i : Nat) (ha : a < 65536) (hb : b < 65536) (hi : i ≤ gap a b) (w : World) :
    Calls Tryd.prog 68 #[.agg (walkA n a b), .int .i64 i] w fun e w' => e = .returned (.int .i64 (atN a b i : Nat)) ∧ Below w.heap.size w w' := by
  have hbe := (Below.refl w.heap.size w).alloc (Nat.le_refl _) (.cells (walkA n a b) 81)
  by_cases h : b < a
  · have hv : (a : Int) - i = ((atN a b i : Nat) : Int) := by unfold atN; rw [if_pos h]; unfold gap at hi; omega
    have hw : IntKind.i64.wrap ((a : Int) - i) = ((atN a b i : Nat) : Int) := by rw [wrap_ok (by omega) (by omega), hv]
    have h' : (b : Int) < a := by omega
    clear hv ha hb hi
    go_enter Tryd.func68, Tryd.ntmps68
    go_wp2
    go_ret
    exact ⟨rfl, hbe⟩
  · have hv : (a : Int) + i = ((atN a b i : Nat) : Int) := by unfold atN; rw [if_neg h]; omega
    have hw : IntKind.i64.wrap ((a : Int) + i) = ((atN a b i : Nat) : Int) := by rw [wrap_ok (by omega) (by unfold gap at hi; omega), hv]
    have h' : ¬ (b : Int) < a := by omega
    clear hv ha hb hi
    go_enter Tryd.func68, Tryd.ntmps68
    go_wp2
    go_ret
    exact ⟨rfl, hbe⟩

theorem keepW {g n a b : Nat} {W0 W W' : World} (hs : W0.heap.size = g + 1) (h0 : W.cell? ⟨g, 0, none⟩ = some (.int .i64 (n : Int))) (h1 : W.cell? ⟨g, 1, none⟩ = some (.int .i64 (a : Int))) (h2 : W.cell? ⟨g, 2, none⟩ = some (.int .i64 (b : Int)))
    (h : Below (g + 1) W0 W) (hb : Below W.heap.size W W') : W'.cell? ⟨g, 0, none⟩ = some (.int .i64 (n : Int)) ∧ W'.cell? ⟨g, 1, none⟩ = some (.int .i64 (a : Int)) ∧ W'.cell? ⟨g, 2, none⟩ = some (.int .i64 (b : Int)) ∧ Below (g + 1) W0 W' := by
  have hsz := h.size
  have hlt : g < W.heap.size := by omega
  exact ⟨(hb.cell (p := ⟨g, 0, none⟩) hlt).trans h0, (hb.cell (p := ⟨g, 1, none⟩) hlt).trans h1, (hb.cell (p := ⟨g, 2, none⟩) hlt).trans h2, h.trans (hb.mono (by omega))⟩

theorem tabOf {w W0 W : World} {B : Nat} (ht : HasTab w) (h0 : Below w.heap.size w W0) (hB : w.heap.size ≤ B) (h : Below B W0 W) : HasTab W := ht.below (h0.trans (h.mono hB))

set_option maxRecDepth 100000 in
set_option maxHeartbeats 4000000 in
theorem walk_ring (n a b i : Nat) (ha : a < 65536) (hb : b < 65536) (hi : i < gap a b) (w : World) (ht : HasTab w) :
    Calls Tryd.prog 65 #[.agg (walkA n a b), .int .i64 i] w fun e w' => e = .returned (.int .i64 (nextN (atN a b i) b : Nat)) ∧ Below w.heap.size w w' := by
  have hB0 := Whole.new w 81 (walkA n a b)
  have hbe := (Below.refl w.heap.size w).alloc (Nat.le_refl _) (.cells (walkA n a b) 81)
  have c0 : (w.alloc (.cells (walkA n a b) 81)).cell? ⟨w.heap.size, 0, none⟩ = some (.int .i64 (n : Int)) := hB0.cell 0
  have c1 : (w.alloc (.cells (walkA n a b) 81)).cell? ⟨w.heap.size, 1, none⟩ = some (.int .i64 (a : Int)) := hB0.cell 1
  have c2 : (w.alloc (.cells (walkA n a b) 81)).cell? ⟨w.heap.size, 2, none⟩ = some (.int .i64 (b : Int)) := hB0.cell 2
  have hsz : (w.alloc (.cells (walkA n a b) 81)).heap.size = w.heap.size + 1 := by simp
  have hle : w.heap.size ≤ w.heap.size + 1 := by omega
  have hS0 : Below (w.heap.size + 1) (w.alloc (.cells (walkA n a b) 81)) (w.alloc (.cells (walkA n a b) 81)).drew := (Below.refl _ _).drew
  have hv2 := atN_succ hi
  have hgp := atN_gap (a := a) (b := b) (i := i) (by omega)
  obtain ⟨v1, hv1⟩ : ∃ v : Nat, v = atN a b i := ⟨_, rfl⟩
  obtain ⟨v2, hv3⟩ : ∃ v : Nat, v = atN a b (i + 1) := ⟨_, rfl⟩
  obtain ⟨j, hj⟩ : ∃ j : Nat, j = i + 1 := ⟨_, rfl⟩
  have k1 := fun W => walk_at n a b i (by omega) hb (by omega) W
  have k2 := fun W => walk_at n a b (i + 1) (by omega) hb (by omega) W
  rw [← hv1, ← hv3] at hv2
  rw [← hv1] at hgp k1
  rw [← hv3, ← hj] at k2
  have hb1 : v1 < 65536 ∧ v2 < 65536 := by
    unfold atN at hv1 hv3; unfold gap at hi; split at hv1 <;> split at hv3 <;> omega
  have x1 : IntKind.i64.wrap ((i : Int) + 1) = (j : Int) := by rw [wrap_ok (by omega) (by unfold gap at hi; omega)]; omega
  have k : ∀ (x v : Nat) (W : World), (x = i ∧ v = v1 ∨ x = j ∧ v = v2) → Calls Tryd.prog 68 #[.agg (walkA n a b), .int .i64 x] W fun e w' => e = .returned (.int .i64 v) ∧ Below W.heap.size W w' := by
    intro x v W hx
    rcases hx with ⟨rfl, rfl⟩ | ⟨rfl, rfl⟩
    · exact k1 W
    · exact k2 W
  have K := Lib.hid k
  have HR := Lib.hid hv1
  have hgpos : 0 < gap v1 b := by omega
  by_cases hc : v1 < b
  · have hN := Lib.hid (show nextN v1 b = tzN v2 by rw [nextN, if_pos hc]; congr 1; rw [if_pos hc] at hv2; exact hv2.symm)
    have hv2' : v2 = v1 + 1 := by rw [if_pos hc] at hv2; exact hv2
    have u1 : IntKind.u64.wrap (v2 : Int) = (v2 : Int) := by rw [wrapU]; omega
    have m1 : (v1 : Int) < v2 := by omega
    have z0 : 0 < v2 := by omega
    have kt := fun W h => bits_tz v2 z0 (by omega) W h
    clear k k1 k2 hv1 hv2 hv2' hv3 hgp hi ha hb hj hb1 hgpos hc
    go_enter Tryd.func65, Tryd.ntmps65
    go_wp2_with fail
    go_region_held3 (fun w' => w'.cell? ⟨w.heap.size, 0, none⟩ = some (.int .i64 (n : Int)) ∧ w'.cell? ⟨w.heap.size, 1, none⟩ = some (.int .i64 (a : Int)) ∧ w'.cell? ⟨w.heap.size, 2, none⟩ = some (.int .i64 (b : Int)) ∧ Below (w.heap.size + 1) (w.alloc (.cells (walkA n a b) 81)) w')
      (first
        | go_keep
        | (go_split_ands; exact keepW hsz (by assumption) (by assumption) (by assumption) (by assumption) (by assumption)))
      ((first
        | (go_at_call 68; refine (K.out _ _ _ (by first | exact .inl ⟨rfl, rfl⟩ | exact .inr ⟨rfl, rfl⟩)).mono ?_; rintro e w3 ⟨rfl, b3⟩)
        | (go_at_call 76; go_split_ands; refine (kt _ (by exact tabOf ht hbe hle (by assumption))).mono ?_; rintro e w3 ⟨rfl, rfl⟩)))
    go_wp2
    go_ret
    exact ⟨ret_int (by rw [← HR.out, hN.out]), by first | exact hbe.trans (Below.mono (by assumption) hle) | (go_split_ands; exact hbe.trans (Below.mono (by assumption) hle))⟩
  · have hN := Lib.hid (show nextN v1 b = tzN v1 by rw [nextN, if_neg hc])
    have hv2' : v2 = v1 - 1 := by rw [if_neg hc] at hv2; exact hv2
    have hp : b < v1 := by unfold gap at hgpos; omega
    have hp' := Lib.hid hp
    have u1 : IntKind.u64.wrap (v1 : Int) = (v1 : Int) := by rw [wrapU]; omega
    have m1 : (v2 : Int) < v1 := by omega
    have m2 : ¬ (v1 : Int) < v2 := by omega
    have m3 : ¬ v1 < v2 := by omega
    have z0 : 0 < v1 := by omega
    have kt := fun W h => bits_tz v1 z0 (by omega) W h
    clear hp
    clear k k1 k2 hv1 hv2 hv2' hv3 hgp hi ha hb hj hb1 hgpos hc
    go_enter Tryd.func65, Tryd.ntmps65
    go_wp2_with fail
    go_region_held3 (fun w' => w'.cell? ⟨w.heap.size, 0, none⟩ = some (.int .i64 (n : Int)) ∧ w'.cell? ⟨w.heap.size, 1, none⟩ = some (.int .i64 (a : Int)) ∧ w'.cell? ⟨w.heap.size, 2, none⟩ = some (.int .i64 (b : Int)) ∧ Below (w.heap.size + 1) (w.alloc (.cells (walkA n a b) 81)) w')
      (first
        | go_keep
        | (go_split_ands; exact keepW hsz (by assumption) (by assumption) (by assumption) (by assumption) (by assumption)))
      ((first
        | (go_at_call 68; refine (K.out _ _ _ (by first | exact .inl ⟨rfl, rfl⟩ | exact .inr ⟨rfl, rfl⟩)).mono ?_; rintro e w3 ⟨rfl, b3⟩)
        | (go_at_call 76; go_split_ands; refine (kt _ (by exact tabOf ht hbe hle (by assumption))).mono ?_; rintro e w3 ⟨rfl, rfl⟩)))
    go_wp2
    go_ret
    exact ⟨ret_int (by rw [← HR.out, hN.out]), by first | exact hbe.trans (Below.mono (by assumption) hle) | (go_split_ands; exact hbe.trans (Below.mono (by assumption) hle))⟩
end Go.Proofs.YtenlmjnejjdnnaaDoor
