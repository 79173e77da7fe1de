/- Clasp: Leads. -/
import Derived.Test.YtenlmjnejjdnnaaDoorClX
namespace Go.Proofs.YtenlmjnejjdnnaaDoor
open Go.RowKit Cl

/-- Where rings lead to, and the error of the first one that can't be moved. -/
def led : List Bool → List Int → Int × List Bool
  | l, [] => (0, l)
  | l, r :: ws => if movE l r = 0 then led (flip l r.toNat) ws else (movE l r, l)
def leadsE (xs ys ws : List Int) : Int :=
  if bothE xs ys = 0 then (if (led (onL xs) ws).1 = 0 then (if (led (onL xs) ws).2 = onL ys then 0 else 14) else (led (onL xs) ws).1) else bothE xs ys
theorem drop_At {ws : List Int} {k : Nat} (h : k < ws.length) : ws.drop k = At ws k :: ws.drop (k + 1) := by
  rw [List.drop_eq_getElem_cons h]; simp [At, h]
theorem movL_ok {l : List Bool} {r : Int} (h : movE l r = 0) : movL l r = flip l r.toNat := by rw [movL, if_pos h]

set_option maxRecDepth 100000 in
set_option maxHeartbeats 4000000 in
theorem cl_Leads (A B C : Option Addr) (n m q : Nat) (xs ys ws : List Int) (ca cb cc : Nat) (w : World) (hx : Ints w A n xs) (hy : Ints w B m ys) (hw : Ints w C q ws) (hl : n ≤ 9223372036854775807) (hl' : m ≤ 9223372036854775807) (hl'' : q ≤ 9223372036854775807) :
    Calls Tryd.prog 35 #[.slice A n ca, .slice B m cb, .slice C q cc] w fun e w' => e = .returned (.int .i64 (leadsE xs ys ws)) ∧ Below w.heap.size w w' := by
  have k1 := cl_laidBoth A B n m xs ys ca cb w hx hy hl hl'
  by_cases h0 : bothE xs ys = 0
  · have hE := Lib.hid (show leadsE xs ys ws = (if (led (onL xs) ws).1 = 0 then (if (led (onL xs) ws).2 = onL ys then 0 else 14) else (led (onL xs) ws).1) by rw [leadsE, if_pos h0])
    rw [h0] at k1
    have eo : onE xs ys xs = onL xs := by rw [onE, if_pos h0]
    have eo2 : onE xs ys ys = onL ys := by rw [onE, if_pos h0]
    rw [eo, eo2] at k1
    have heg : Tryd.prog.eqGuardType Tryd.prog.depth 68 = false := by kernel_rfl
    clear h0 eo eo2
    go_enter Tryd.func35, Tryd.ntmps35
    go_wp2_with fail
    refine k1.mono ?_; rintro e w1 ⟨cs, ds, rfl, hC, hD, b1⟩
    have n7 := (Whole.new w1 68 zbar).alloc (.cells zbar 68)
    have n8 := Whole.new (w1.alloc (.cells zbar 68)) 68 zbar
    have sz1 : (w1.alloc (.cells zbar 68)).heap.size = w1.heap.size + 1 := by simp
    rw [sz1] at n8
    have hb1 := (b1.alloc b1.size (.cells zbar 68)).alloc (by rw [sz1]; exact Nat.le_succ_of_le b1.size) (.cells zbar 68)
    have m8 := n8.setRow_far (show w1.heap.size + 1 ≠ w1.heap.size by omega) cs
    have x7 := (n7.setRow cs).setRow_far (show w1.heap.size ≠ w1.heap.size + 1 by omega) ds
    have x8 := m8.setRow ds
    have hbX := belowSetRow (belowSetRow hb1 b1.size cs) (Nat.le_succ_of_le b1.size) ds
    have hsz := b1.size
    go_wp2_with (first
      | (refine wpList_storeB (by rfl) _ _ (by rfl) _ cs (by rfl) (by rfl) _ zbar n7 rfl hC.1 hC.all ?_)
      | (refine wpList_storeB (by rfl) _ _ (by rfl) _ ds (by rfl) (by rfl) _ zbar m8 rfl hD.1 hD.all ?_))
    clear n7 n8 m8 hb1 k1 sz1
    generalize ((((w1.alloc (.cells zbar 68)).alloc (.cells zbar 68)).setRow w1.heap.size cs).setRow (w1.heap.size + 1) ds) = X at *
    go_loopw [24] (fun i wr => ∃ (k : Nat) (cur : List Bool) (bs : Array Value), k ≤ q ∧ i = .int .i64 k ∧ Whole wr w1.heap.size 68 bs ∧ BarC bs cur ∧ Whole wr (w1.heap.size + 1) 68 ds ∧ Hid (led (onL xs) ws = led cur (ws.drop k)) ∧ Below w.heap.size w wr) (fun i _ => q - (intOf i).toNat)
    case atStart => exact ⟨0, onL xs, cs, by omega, rfl, x7, hC, x8, by rw [List.drop_zero]; rfl, hbX⟩
    case round =>
      obtain ⟨k, cur, bs, hk, rfl, h7, hB, h8, hled, hw2⟩ := hrel
      clear x7 x8 hbX hC
      have hws := (hw.below hw2).len
      by_cases hlt : k < q
      · obtain ⟨b, off, rfl, hb, hc⟩ := (hw.below hw2).at_ hlt
        have hki : (0 : Int) ≤ (k : Int) := by omega
        have hkn : (k : Int) < q := by omega
        have hmv := bar_moved bs cur (At ws k) wr hB
        have hstep := hled.out
        rw [drop_At (by omega), led] at hstep
        by_cases h1 : movE cur (At ws k) = 0
        · rw [if_pos h1, ← movL_ok h1] at hstep
          rw [h1] at hmv
          have hstep := Lib.hid hstep
          clear h1 hled
          go_wp2_with (refine wpList_loadB (by rfl) _ (by rfl) _ (by rfl) _ bs h7 hB.1 ?_)
          refine hmv.mono ?_; rintro e w2 ⟨es, rfl, hF, b2⟩
          have h72 := h7.below b2 h7.lt
          have h82 := (h8.below b2 h8.lt).setRow_far (show w1.heap.size + 1 ≠ w1.heap.size by omega) es
          have h73 := h72.setRow es
          have hw3 := belowSetRow (hw2.trans (b2.mono hw2.size)) hsz es
          clear h7 h8 hmv
          go_wp2_with (refine wpList_storeB (by rfl) _ _ (by rfl) _ es (by rfl) (by rfl) _ bs h72 hB.1 hF.1 hF.all ?_)
          exact ⟨⟨k + 1, _, es, by omega, by go_num, h73, hF, h82, hstep.out, hw3⟩, by simp [intOf]; omega⟩
        · rw [if_neg h1] at hstep
          have hne : (movE cur (At ws k) != 0) = true := by simp [h1]
          have hV := Lib.hid (show leadsE xs ys ws = movE cur (At ws k) by rw [hE.out, hstep, if_neg h1])
          clear h1 hled hstep
          go_wp2_with (refine wpList_loadB (by rfl) _ (by rfl) _ (by rfl) _ bs h7 hB.1 ?_)
          refine hmv.mono ?_; rintro e w2 ⟨es, rfl, hF, b2⟩
          have h72 := h7.below b2 h7.lt
          have hw3 := belowSetRow (hw2.trans (b2.mono hw2.size)) hsz es
          clear h7 h8 hmv
          go_wp2_with (refine wpList_storeB (by rfl) _ _ (by rfl) _ es (by rfl) (by rfl) _ bs h72 hB.1 hF.1 hF.all ?_)
          go_ret
          exact ⟨ret_int (by rw [hV.out]), hw3⟩
      · obtain rfl : k = q := by omega
        have hstep := hled.out
        rw [List.drop_of_length_le (by omega), led] at hstep
        have hq := fun W => bar_neq bs ds cur (onL ys) W hB hD
        by_cases h1 : cur = onL ys
        · have hV := Lib.hid (show leadsE xs ys ws = 0 by rw [hE.out, hstep, if_pos rfl, if_pos h1])
          have e1 : (!decide (cur = onL ys)) = false := by simp [h1]
          rw [e1] at hq
          clear h1 hled hstep
          go_wp2_with (first | (refine wpList_loadB (by rfl) _ (by rfl) _ (by rfl) _ bs h7 hB.1 ?_) | (refine wpList_loadB (by rfl) _ (by rfl) _ (by rfl) _ ds h8 hD.1 ?_))
          go_ret
          exact ⟨ret_int (by rw [hV.out]), hw2⟩
        · have hV := Lib.hid (show leadsE xs ys ws = 14 by rw [hE.out, hstep, if_pos rfl, if_neg h1])
          have e1 : (!decide (cur = onL ys)) = true := by simp [h1]
          rw [e1] at hq
          clear h1 hled hstep
          go_wp2_with (first | (refine wpList_loadB (by rfl) _ (by rfl) _ (by rfl) _ bs h7 hB.1 ?_) | (refine wpList_loadB (by rfl) _ (by rfl) _ (by rfl) _ ds h8 hD.1 ?_))
          go_ret
          exact ⟨ret_int (by rw [hV.out]), hw2⟩
  · have hE := Lib.hid (show leadsE xs ys ws = bothE xs ys by rw [leadsE, if_neg h0])
    have hne : (bothE xs ys != 0) = true := by simp [h0]
    clear h0
    go_enter Tryd.func35, Tryd.ntmps35
    go_wp2_with fail
    refine k1.mono ?_; rintro e w1 ⟨cs, ds, rfl, hC, hD, b1⟩
    have n7 := (Whole.new w1 68 zbar).alloc (.cells zbar 68)
    have n8 := Whole.new (w1.alloc (.cells zbar 68)) 68 zbar
    have sz1 : (w1.alloc (.cells zbar 68)).heap.size = w1.heap.size + 1 := by simp
    rw [sz1] at n8
    have hb1 := (b1.alloc b1.size (.cells zbar 68)).alloc (by rw [sz1]; exact Nat.le_succ_of_le b1.size) (.cells zbar 68)
    have m8 := n8.setRow_far (show w1.heap.size + 1 ≠ w1.heap.size by omega) cs
    have hbX := belowSetRow (belowSetRow hb1 b1.size cs) (Nat.le_succ_of_le b1.size) ds
    go_wp2_with (first
      | (refine wpList_storeB (by rfl) _ _ (by rfl) _ cs (by rfl) (by rfl) _ zbar n7 rfl hC.1 hC.all ?_)
      | (refine wpList_storeB (by rfl) _ _ (by rfl) _ ds (by rfl) (by rfl) _ zbar m8 rfl hD.1 hD.all ?_))
    go_ret
    exact ⟨ret_int (by rw [hE.out]), hbX⟩
end Go.Proofs.YtenlmjnejjdnnaaDoor
