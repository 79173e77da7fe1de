/- Clasp's reference: Leads. -/
import Derived.Test.YtenlmjnejjdnnaaDoorRcF
namespace Go.Proofs.YtenlmjnejjdnnaaDoor
open Go.RowKit Cl

theorem led_bits : ∀ (ws : List Int) (l : List Bool), (led l ws).2.length = l.length
  | [], l => rfl
  | r :: ws, l => by
    rw [led]; split
    · rw [led_bits ws, flip_len]
    · rfl

set_option maxRecDepth 100000 in
set_option maxHeartbeats 4000000 in
theorem rc_Leads (A B C : Option Addr) (n m q : Nat) (xs ys ws : List Int) (ca cb cc : Nat) (w : World) (hx : Ints w A n xs) (hy : Ints w B m ys) (hw : Ints w C q ws) (hl : n ≤ 9223372036854775807) (hl' : m ≤ 9223372036854775807) (hl'' : q ≤ 9223372036854775807) :
    Calls Tryd.prog 36 #[.slice A n ca, .slice B m cb, .slice C q cc] w fun e w' => e = .returned (.int .i64 (leadsE xs ys ws)) ∧ Below w.heap.size w w' := by
  have k1 := rc_both A B n m xs ys ca cb w hx hy hl hl'
  by_cases h0 : bothE xs ys = 0
  · obtain ⟨rfl, p2, p3, q3⟩ := okPair h0 hx.len hy.len
    have hE := Lib.hid (show leadsE xs ys ws = (if (led (onL xs) ws).1 = 0 then (if (led (onL xs) ws).2 = onL ys then 0 else 14) else (led (onL xs) ws).1) by rw [leadsE, if_pos h0])
    rw [h0] at k1
    have ex := hx.len
    have ey := hy.len
    have hx' : Ints w A m (il (onL xs)) := by rw [il_onL ex p3]; exact hx
    have hlx : (onL xs).length = m := by rw [onL_len, ex]
    have hly : (onL ys).length = m := by rw [onL_len, ey]
    clear h0
    go_enter Tryd.func36, Tryd.ntmps36
    go_wp2_with fail
    refine k1.mono ?_; rintro e w1 ⟨rfl, rfl⟩
    go_wp2_with fail
    go_loopw [0, 7, 8] (fun f er i wr => ∃ (k : Nat) (cur : List Bool) (A' : Option Addr) (c' : Nat) (x : Int), k ≤ q ∧ i = .int .i64 k ∧ er = .int .i64 x ∧ f = .slice A' m c' ∧ Ints wr A' m (il cur) ∧ cur.length = m ∧
        Hid ((x = 0 ∧ led (onL xs) ws = led cur (ws.drop k)) ∨ (x ≠ 0 ∧ (led (onL xs) ws).1 = x)) ∧ Below w.heap.size w wr) (fun _ _ i _ => q - (intOf i).toNat)
    case atStart => exact ⟨0, onL xs, A, ca, 0, by omega, rfl, rfl, rfl, hx', hlx, .inl ⟨rfl, by rw [List.drop_zero]⟩, Below.refl _ _⟩
    case round =>
      obtain ⟨k, cur, A', c', x, hk, rfl, rfl, rfl, hI, hcl, hled, hw2⟩ := hrel
      have hws := (hw.below hw2).len
      have hsz := hw2.size
      by_cases hx0 : x = 0
      · subst hx0
        have hstep : led (onL xs) ws = led cur (ws.drop k) := by
          rcases hled.out with h | h
          · exact h.2
          · exact absurd rfl h.1
        by_cases hlt : k < q
        · obtain ⟨b, off, rfl, hb, hc⟩ := (hw.below hw2).at_ hlt
          have hki : (0 : Int) ≤ (k : Int) := by omega
          have hkn : (k : Int) < q := by omega
          have hst := rc_step A' m (il cur) c' (At ws k) wr hI (by omega)
          rw [onL_il] at hst
          rw [drop_At (by omega), led] at hstep
          by_cases h1 : movE cur (At ws k) = 0
          · obtain ⟨j, hj, hj1, hj2⟩ := movE_ok h1
            rw [if_pos h1] at hstep
            rw [h1] at hst
            rw [hj, Int.toNat_natCast] at hstep
            rw [hj] at hc
            have hmv := rc_moved A' m (il cur) c' j wr hI p2 (okTo_il _ _ (by omega)) (by omega)
            rw [onL_il] at hmv
            rw [hj] at hst
            have hstep := Lib.hid hstep
            clear h1 hled hj hj2
            go_wp2_with fail
            refine hst.mono ?_; rintro e w3 ⟨rfl, rfl⟩
            go_wp2_with fail
            refine hmv.mono ?_; rintro e w3 ⟨A3, c3, rfl, hI3, b3⟩
            go_wp2_with fail
            exact ⟨⟨k + 1, flip cur j, A3, c3, 0, by omega, by go_num, rfl, rfl, hI3, by rw [flip_len]; exact hcl, .inl ⟨rfl, hstep.out⟩, hw2.trans (b3.mono hsz)⟩, by simp [intOf]; omega⟩
          · rw [if_neg h1] at hstep
            have hne : (movE cur (At ws k) == 0) = false := by simp [h1]
            have H1 := Lib.hid h1
            have hstep := Lib.hid hstep
            clear h1 hled
            go_wp2_with fail
            refine hst.mono ?_; rintro e w3 ⟨rfl, rfl⟩
            go_wp2_with fail
            exact ⟨⟨k + 1, cur, A', c', _, by omega, by go_num, rfl, rfl, hI, hcl, .inr ⟨H1.out, by rw [hstep.out]⟩, hw2⟩, by simp [intOf]; omega⟩
        · obtain rfl : k = q := by omega
          rw [List.drop_of_length_le (by omega), led] at hstep
          have kd := rc_distance A' B m m (il cur) ys c' cb wr hI (hy.below hw2) p2 p2 (okTo_il _ _ (by omega)) q3
          rw [onL_il] at kd
          by_cases h1 : cur = onL ys
          · have hV := Lib.hid (show leadsE xs ys ws = 0 by rw [hE.out, hstep, if_pos rfl, if_pos h1])
            rw [h1, gap_zero.2 rfl] at kd
            clear h1 hled hstep
            go_wp2_with fail
            refine kd.mono ?_; rintro e w3 ⟨rfl, rfl⟩
            go_wp2_with fail
            go_ret
            exact ⟨ret_int (by rw [hV.out]), hw2⟩
          · have hV := Lib.hid (show leadsE xs ys ws = 14 by rw [hE.out, hstep, if_pos rfl, if_neg h1])
            have hg : (0 : Int) < ((gap (num cur) (num (onL ys)) : Nat) : Int) := by
              have := fun e => h1 (num_inj (by omega) (gap_zero.1 e))
              rcases Nat.eq_zero_or_pos (gap (num cur) (num (onL ys))) with e | e
              · exact absurd e this
              · omega
            clear h1 hled hstep
            go_wp2_with fail
            refine kd.mono ?_; rintro e w3 ⟨rfl, rfl⟩
            go_wp2_with fail
            go_ret
            exact ⟨ret_int (by rw [hV.out]), hw2⟩
      · have hx1 : (x == 0) = false := by simp [hx0]
        have hV := Lib.hid (show leadsE xs ys ws = x by
          rcases hled.out with h | h
          · exact absurd h.1 hx0
          · rw [hE.out, h.2, if_neg hx0])
        clear hled
        by_cases hlt : k < q
        · have hkn : (k : Int) < q := by omega
          go_wp2_with fail
          go_ret
          exact ⟨ret_int (by rw [hV.out]), hw2⟩
        · have hkn : ¬ (k : Int) < q := by omega
          go_wp2_with fail
          go_ret
          exact ⟨ret_int (by rw [hV.out]), hw2⟩
  · have hE := Lib.hid (show leadsE xs ys ws = bothE xs ys by rw [leadsE, if_neg h0])
    have hne2 : (bothE xs ys == 0) = false := by simp [h0]
    have H0 := Lib.hid h0
    clear h0
    go_enter Tryd.func36, Tryd.ntmps36
    go_wp2_with fail
    refine k1.mono ?_; rintro e w1 ⟨rfl, rfl⟩
    go_wp2_with fail
    go_loopw [0, 7, 8] (fun f er i wr => f = .slice A n ca ∧ er = .int .i64 (bothE xs ys) ∧ i = .int .i64 0 ∧ wr = w) (fun _ _ i _ => q - (intOf i).toNat)
    case atStart => exact ⟨rfl, rfl, rfl, rfl⟩
    case round =>
      obtain ⟨rfl, rfl, rfl, rfl⟩ := hrel
      by_cases hq : 0 < q
      · have hq' : (0 : Int) < q := by omega
        go_wp2_with fail
        go_ret
        exact ⟨ret_int (by rw [hE.out]), Below.refl _ _⟩
      · obtain rfl : q = 0 := by omega
        go_wp2_with fail
        go_ret
        exact ⟨ret_int (by rw [hE.out]), Below.refl _ _⟩
end Go.Proofs.YtenlmjnejjdnnaaDoor
