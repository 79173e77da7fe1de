/- Clasp: Distance, Next, Way. -/
import Derived.Test.YtenlmjnejjdnnaaDoorClI
namespace Go.Proofs.YtenlmjnejjdnnaaDoor
open Go.RowKit Cl

theorem onE_ok {xs ys zs : List Int} (h : bothE xs ys = 0) : onE xs ys zs = onL zs := by rw [onE, if_pos h]
theorem onE_err {xs ys zs : List Int} (h : bothE xs ys ≠ 0) : onE xs ys zs = [] := by rw [onE, if_neg h]
theorem num_onE (xs ys zs : List Int) (hz : zs = xs ∨ zs = ys) : num (onE xs ys zs) < 65536 := by
  by_cases h : bothE xs ys = 0
  · rw [onE_ok h]
    obtain ⟨p1, p2, p3, p4⟩ := okPair h rfl rfl
    rcases hz with rfl | rfl
    · exact gap_num_lt rfl p2
    · exact gap_num_lt rfl (by omega)
  · rw [onE_err h]; decide

def distV (xs ys : List Int) : Int := if bothE xs ys = 0 then (gap (num (onL xs)) (num (onL ys)) : Nat) else 0

set_option maxRecDepth 100000 in
set_option maxHeartbeats 1000000 in
theorem cl_Distance (A B : Option Addr) (n m : Nat) (xs ys : List Int) (ca cb : Nat) (w : World) (hx : Ints w A n xs) (hy : Ints w B m ys) (hl : n ≤ 9223372036854775807) (hl' : m ≤ 9223372036854775807) :
    Calls Tryd.prog 29 #[.slice A n ca, .slice B m cb] w fun e w' => e = .returned (.tuple #[.int .i64 (distV xs ys), .int .i64 (bothE xs ys)]) ∧ Below w.heap.size w w' := by
  have k1 := cl_between A B n m xs ys ca cb w hx hy hl hl'
  have h1 := num_onE xs ys xs (.inl rfl)
  have h2 := num_onE xs ys ys (.inr rfl)
  have hV := Lib.hid (show distV xs ys = ((gap (num (onE xs ys xs)) (num (onE xs ys ys)) : Nat) : Int) by
    unfold distV
    by_cases h : bothE xs ys = 0
    · rw [if_pos h, onE_ok h, onE_ok h]
    · rw [if_neg h, onE_err h, onE_err h]; rfl)
  generalize (onE xs ys xs).length = N at *
  generalize num (onE xs ys xs) = a at *
  generalize num (onE xs ys ys) = b at *
  have k2 := fun W => walk_length N a b h1 h2 W
  clear h1 h2
  go_enter Tryd.func29, Tryd.ntmps29
  go_wp2_with fail
  refine k1.mono ?_; rintro e w1 ⟨rfl, b1⟩
  have hsz := b1.size
  go_wp2_with fail
  refine (k2 _).mono ?_; rintro e w2 ⟨rfl, b2⟩
  go_wp2_with fail
  go_ret2
  exact ⟨by rw [hV.out]; rfl, (b1.alloc hsz _).trans (b2.mono (by simp; omega))⟩

set_option maxRecDepth 100000 in
set_option maxHeartbeats 1000000 in
theorem cl_Next (A B : Option Addr) (n m : Nat) (xs ys : List Int) (ca cb : Nat) (w : World) (ht : HasTab w) (hx : Ints w A n xs) (hy : Ints w B m ys) (hl : n ≤ 9223372036854775807) (hl' : m ≤ 9223372036854775807) :
    Calls Tryd.prog 31 #[.slice A n ca, .slice B m cb] w fun e w' => e = .returned (.tuple #[.int .i64 (nextV xs ys), .int .i64 (nextE xs ys)]) ∧ Below w.heap.size w w' := by
  have k1 := cl_between A B n m xs ys ca cb w hx hy hl hl'
  by_cases h0 : bothE xs ys = 0
  · rw [onE_ok h0, onE_ok h0] at k1
    obtain ⟨p1, p2, p3, p4⟩ := okPair h0 rfl rfl
    have h1 : num (onL xs) < 65536 := gap_num_lt rfl p2
    have h2 : num (onL ys) < 65536 := gap_num_lt rfl (by omega)
    have k2 := fun W => walk_length (onL xs).length (num (onL xs)) (num (onL ys)) h1 h2 W
    rw [h0] at k1
    by_cases h3 : num (onL xs) = num (onL ys)
    · have hE' : nextE xs ys = 12 := by rw [nextE, if_pos h0, if_pos h3]
      have hE := Lib.hid hE'
      have hV := Lib.hid (show nextV xs ys = 0 by rw [nextV, hE']; rfl)
      rw [gap_zero.2 h3] at k2
      clear h0 h3 hE' h1 h2 p1 p2 p3 p4
      generalize (onL xs).length = N at *
      generalize num (onL xs) = a at *
      generalize num (onL ys) = b at *
      go_enter Tryd.func31, Tryd.ntmps31
      go_wp2_with fail
      refine k1.mono ?_; rintro e w1 ⟨rfl, b1⟩
      have hsz := b1.size
      go_wp2_with fail
      refine (k2 _).mono ?_; rintro e w2 ⟨rfl, b2⟩
      go_wp2_with fail
      go_ret2
      exact ⟨by rw [hV.out, hE.out]; rfl, (b1.alloc hsz _).trans (b2.mono (by simp; omega))⟩
    · have hE' : nextE xs ys = 0 := by rw [nextE, if_pos h0, if_neg h3]
      have hE := Lib.hid hE'
      have hV := Lib.hid (show nextV xs ys = ((nextN (num (onL xs)) (num (onL ys)) : Nat) : Int) by rw [nextV, if_pos hE'])
      have hpos : 0 < gap (num (onL xs)) (num (onL ys)) := Nat.pos_of_ne_zero fun e => h3 (gap_zero.1 e)
      have hg' : (((gap (num (onL xs)) (num (onL ys)) : Nat) : Int) == 0) = false := by simp; omega
      have k3 := fun W hT => walk_ring (onL xs).length (num (onL xs)) (num (onL ys)) 0 h1 h2 hpos W hT
      simp only [atN_zero] at k3
      have hH := Lib.hid hpos
      clear h0 h3 hE' h1 h2 p1 p2 p3 p4 hpos
      generalize hN : (onL xs).length = N at *
      generalize hgg : gap (num (onL xs)) (num (onL ys)) = g at *
      generalize hnn : nextN (num (onL xs)) (num (onL ys)) = K at *
      generalize ha : num (onL xs) = a at *
      generalize hb : num (onL ys) = b at *
      clear hN hgg hnn ha hb hH
      go_enter Tryd.func31, Tryd.ntmps31
      go_wp2_with fail
      refine k1.mono ?_; rintro e w1 ⟨rfl, b1⟩
      have hsz := b1.size
      have hB1 := Whole.new w1 81 (walkA N a b)
      have bb1 := b1.alloc hsz (.cells (walkA N a b) 81)
      have hs1 : (w1.alloc (.cells (walkA N a b) 81)).heap.size = w1.heap.size + 1 := by simp
      go_wp2_with fail
      refine (k2 _).mono ?_; rintro e w2 ⟨rfl, b2⟩
      have hB2 := hB1.below b2 (by simp)
      have c0 := hB2.cell 0
      have c1 := hB2.cell 1
      have c2 := hB2.cell 2
      simp at c0 c1 c2
      have bb2 := bb1.trans (b2.mono (by simp; omega))
      go_wp2_with fail
      refine (k3 _ (ht.below bb2)).mono ?_; rintro e w3 ⟨rfl, b3⟩
      go_wp2_with fail
      go_ret2
      exact ⟨by rw [hV.out, hE.out]; rfl, bb2.trans (b3.mono bb2.size)⟩
  · have hne : (bothE xs ys != 0) = true := by simp [h0]
    have hE' : nextE xs ys = bothE xs ys := by rw [nextE, if_neg h0]
    have hE := Lib.hid hE'
    have hV := Lib.hid (show nextV xs ys = 0 by rw [nextV, hE', if_neg h0])
    clear h0 hE'
    generalize (onE xs ys xs).length = N at *
    generalize num (onE xs ys xs) = a at *
    generalize num (onE xs ys ys) = b at *
    go_enter Tryd.func31, Tryd.ntmps31
    go_wp2_with fail
    refine k1.mono ?_; rintro e w1 ⟨rfl, b1⟩
    have hsz := b1.size
    go_wp2_with fail
    go_ret2
    exact ⟨by rw [hV.out, hE.out]; rfl, b1.alloc hsz _⟩

theorem rc_Distance' (A B : Option Addr) (n m : Nat) (xs ys : List Int) (ca cb : Nat) (w : World) (hx : Ints w A n xs) (hy : Ints w B m ys) (hl : n ≤ 9223372036854775807) (hl' : m ≤ 9223372036854775807) :
    Calls Tryd.prog 30 #[.slice A n ca, .slice B m cb] w fun e w' => e = .returned (.tuple #[.int .i64 (distV xs ys), .int .i64 (bothE xs ys)]) ∧ w = w' :=
  (rc_Distance A B n m xs ys ca cb w hx hy hl hl').mono fun _ _ h => h
end Go.Proofs.YtenlmjnejjdnnaaDoor
