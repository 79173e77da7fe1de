/- Clasp: Way. -/
import Derived.Test.YtenlmjnejjdnnaaDoorClJ
namespace Go.Proofs.YtenlmjnejjdnnaaDoor
open Go.RowKit Cl

set_option maxRecDepth 100000 in
set_option maxHeartbeats 4000000 in
theorem cl_Way (A B : Option Addr) (n m : Nat) (xs ys : List Int) (ca cb : Nat) (w : World) (ht : HasTab w) (hx : Ints w A n xs) (hy : Ints w B m ys) (hl : n ≤ 9223372036854775807) (hl' : m ≤ 9223372036854775807) :
    Calls Tryd.prog 33 #[.slice A n ca, .slice B m cb] w fun e w' => GivL e w w' (wayL xs ys) (wayE xs ys) := by
  have k1 := cl_between A B n m xs ys ca cb w hx hy hl hl'
  by_cases h0 : bothE xs ys = 0
  · rw [onE_ok h0, onE_ok h0] at k1
    obtain ⟨p1, p2, p3, p4⟩ := okPair h0 rfl rfl
    have h1 : num (onL xs) < 65536 := gap_num_lt rfl p2
    have h2 : num (onL ys) < 65536 := gap_num_lt rfl (by omega)
    have k2 := fun W => walk_length (onL xs).length (num (onL xs)) (num (onL ys)) h1 h2 W
    have k3 := fun i hi W hT => walk_ring (onL xs).length (num (onL xs)) (num (onL ys)) i h1 h2 hi W hT
    rw [h0] at k1
    by_cases h3 : 1000 < gap (num (onL xs)) (num (onL ys))
    · have hE' : wayE xs ys = 3 := by rw [wayE, if_pos h0, if_pos h3]
      have hE := Lib.hid hE'
      have hV := Lib.hid (show wayL xs ys = [] by rw [wayL, hE']; rfl)
      have h3' : (1000 : Int) < ((gap (num (onL xs)) (num (onL ys)) : Nat) : Int) := by omega
      clear h0 h3 hE' h1 h2 p1 p2 p3 p4 k3
      generalize (onL xs).length = N at *
      generalize hgg : gap (num (onL xs)) (num (onL ys)) = g at *
      generalize num (onL xs) = a at *
      generalize num (onL ys) = b at *
      clear hgg
      go_enter Tryd.func33, Tryd.ntmps33
      go_wp2_with fail
      refine k1.mono ?_; rintro e w1 ⟨rfl, b1⟩
      have hsz := b1.size
      go_wp2_with fail
      refine (k2 _).mono ?_; rintro e w2 ⟨rfl, b2⟩
      go_wp2_with fail
      go_ret2
      unfold GivL
      rw [hV.out, hE.out]
      exact ⟨none, 0, rfl, Ints.nil_ _ _, (b1.alloc hsz _).trans (b2.mono (by simp; omega))⟩
    · have hE' : wayE xs ys = 0 := by rw [wayE, if_pos h0, if_neg h3]
      have hE := Lib.hid hE'
      have hV := Lib.hid (show wayL xs ys = wayTo (num (onL xs)) (num (onL ys)) (gap (num (onL xs)) (num (onL ys))) by rw [wayL, if_pos hE'])
      have h3' : ¬ (1000 : Int) < ((gap (num (onL xs)) (num (onL ys)) : Nat) : Int) := by omega
      have hG1 : gap (num (onL xs)) (num (onL ys)) ≤ 1000 := by omega
      clear h0 h3 hE' h1 h2 p1 p2 p3 p4
      generalize (onL xs).length = N at *
      generalize hgg : gap (num (onL xs)) (num (onL ys)) = G at *
      generalize num (onL xs) = a at *
      generalize num (onL ys) = b at *
      clear hgg
      have K3 := Lib.hid k3
      clear k3
      go_enter Tryd.func33, Tryd.ntmps33
      go_wp2_with fail
      refine k1.mono ?_; rintro e w1 ⟨rfl, b1⟩
      have hsz := b1.size
      have hB1 := Whole.new w1 81 (walkA N a b)
      have bb1 := b1.alloc hsz (.cells (walkA N a b) 81)
      go_wp2_with fail
      refine (k2 _).mono ?_; rintro e w2 ⟨rfl, b2⟩
      have hB2 := hB1.below b2 (by simp)
      have c0 := hB2.cell 0
      have c1 := hB2.cell 1
      have c2 := hB2.cell 2
      simp at c0 c1 c2
      have bb2 := bb1.trans (b2.mono (by simp; omega))
      go_wp2_with fail
      refine (k2 _).mono ?_; rintro e w3 ⟨rfl, b3⟩
      have hB3 := hB2.below b3 hB2.lt
      have bb3 := bb2.trans (b3.mono bb2.size)
      have hmk := mkI (G : Int) G rfl (by omega) w3
      have hL0 := Whole.new w3 3 (Array.replicate G (.int .i64 0))
      have hB4 := hB3.alloc (.cells (Array.replicate G (.int .i64 0)) 3)
      have bb4 := bb3.alloc bb3.size (.cells (Array.replicate G (.int .i64 0)) 3)
      have hlt13 : w1.heap.size < w3.heap.size := hB3.lt
      clear hB1 hB2 hB3 c0 c1 c2 bb1 bb2 b1 b2 b3 k1 k2
      go_wp2_with fail
      go_loopw [27] (fun i wr => ∃ k : Nat, k ≤ G ∧ i = .int .i64 k ∧ Whole wr w1.heap.size 81 (walkA N a b) ∧ (∃ rs, Whole wr w3.heap.size 3 rs ∧ Row rs G (fun x => if x < k then ((nextN (atN a b x) b : Nat) : Int) else 0)) ∧ Below w.heap.size w wr) (fun i _ => G - (intOf i).toNat)
      case atStart => exact ⟨0, by omega, rfl, hB4, ⟨_, hL0, (Row.zero _).congr fun x _ => by simp⟩, bb4⟩
      case round =>
        obtain ⟨k, hk, rfl, hB, ⟨rs, hL, hR⟩, hw⟩ := hrel
        clear hB4 hL0 bb4 hmk bb3
        by_cases hlt : k < G
        · have k4 := K3.out k hlt wr (ht.below hw)
          have hki : (0 : Int) ≤ (k : Int) := by omega
          have hkn : (k : Int) < G := by omega
          have c0 := hB.cell 0
          have c1 := hB.cell 1
          have c2 := hB.cell 2
          simp at c0 c1 c2
          have hHR := Lib.hid (rfl : nextN (atN a b k) b = nextN (atN a b k) b)
          obtain ⟨v, hv⟩ : ∃ v, v = nextN (atN a b k) b := ⟨_, rfl⟩
          rw [← hv] at k4
          have HV := Lib.hid hv
          clear hv hHR
          go_wp2_with fail
          refine k4.mono ?_; rintro e w4 ⟨rfl, b4⟩
          have hB5 := hB.below b4 hB.lt
          have hL5 := hL.below b4 hL.lt
          have f5 := hL5.frozen k
          have c5 : w4.cell? ⟨w3.heap.size, k, none⟩ = some (.int .i64 0) := (hL5.cell k).trans ((hR.2 k hlt).trans (by simp))
          have hw5 := hw.trans (b4.mono hw.size)
          have hge : w.heap.size ≤ w3.heap.size := by omega
          go_wp2_with fail
          refine ⟨⟨k + 1, by omega, by go_num, hB5.far (by simp; omega) _, ⟨_, hL5.set_ k _, (hR.set_ hlt).congr fun x hx => ?_⟩, hw5.setCell hge _⟩, by simp [intOf]; omega⟩
          by_cases e : x = k
          · subst e; rw [if_pos rfl, if_pos (by omega), HV.out]
          · rw [if_neg e]; by_cases h : x < k
            · rw [if_pos h, if_pos (by omega)]
            · rw [if_neg h, if_neg (by omega)]
        · obtain rfl : k = G := by omega
          go_wp2_with fail
          go_ret2
          unfold GivL
          rw [hV.out, hE.out, wayTo_len]
          exact ⟨_, _, rfl, hL.ints (hR.congr fun x hx => by rw [if_pos hx, At_wayTo hx]) (wayTo_len _ _ _), hw⟩
  · have hne : (bothE xs ys != 0) = true := by simp [h0]
    have hE' : wayE xs ys = bothE xs ys := by rw [wayE, if_neg h0]
    have hE := Lib.hid hE'
    have hV := Lib.hid (show wayL xs ys = [] by rw [wayL, hE', if_neg h0])
    clear h0 hE'
    generalize (onE xs ys xs).length = N at *
    generalize num (onE xs ys xs) = a at *
    generalize num (onE xs ys ys) = b at *
    go_enter Tryd.func33, Tryd.ntmps33
    go_wp2_with fail
    refine k1.mono ?_; rintro e w1 ⟨rfl, b1⟩
    have hsz := b1.size
    go_wp2_with fail
    go_ret2
    unfold GivL
    rw [hV.out, hE.out]
    exact ⟨none, 0, rfl, Ints.nil_ _ _, b1.alloc hsz _⟩
end Go.Proofs.YtenlmjnejjdnnaaDoor
