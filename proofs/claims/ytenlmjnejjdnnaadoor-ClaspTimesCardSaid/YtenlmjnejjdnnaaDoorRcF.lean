/- Clasp's reference: Way. -/
import Derived.Test.YtenlmjnejjdnnaaDoorRcE
namespace Go.Proofs.YtenlmjnejjdnnaaDoor
open Go.RowKit Cl

def wayE (xs ys : List Int) : Int := if bothE xs ys = 0 then (if 1000 < gap (num (onL xs)) (num (onL ys)) then 3 else 0) else bothE xs ys
def wayL (xs ys : List Int) : List Int := if wayE xs ys = 0 then wayTo (num (onL xs)) (num (onL ys)) (gap (num (onL xs)) (num (onL ys))) else []
def lenOf : Value → Nat
  | .slice _ n _ => n
  | _ => 0

set_option maxRecDepth 100000 in
set_option maxHeartbeats 4000000 in
theorem rc_Way (A B : Option Addr) (n m : Nat) (xs ys : List Int) (ca cb : Nat) (w : World) (hx : Ints w A n xs) (hy : Ints w B m ys) (hl : n ≤ 9223372036854775807) (hl' : m ≤ 9223372036854775807) :
    Calls Tryd.prog 34 #[.slice A n ca, .slice B m cb] w fun e w' => GivL e w w' (wayL xs ys) (wayE xs ys) := by
  have k1 := rc_both A B n m xs ys ca cb w hx hy hl hl'
  by_cases h0 : bothE xs ys = 0
  · obtain ⟨rfl, p2, p3, q3⟩ := okPair h0 hx.len hy.len
    have k2 := rc_distance A B m m xs ys ca cb w hx hy p2 p2 p3 q3
    rw [h0] at k1
    have ex := hx.len
    have ey := hy.len
    by_cases h1 : 1000 < gap (num (onL xs)) (num (onL ys))
    · have hE' : wayE xs ys = 3 := by rw [wayE, if_pos h0, if_pos h1]
      have hE := Lib.hid hE'
      have hV := Lib.hid (show wayL xs ys = [] by rw [wayL, hE']; rfl)
      have h1' : (1000 : Int) < ((gap (num (onL xs)) (num (onL ys)) : Nat) : Int) := by omega
      clear h0 h1 hE'
      generalize gap (num (onL xs)) (num (onL ys)) = g at *
      go_enter Tryd.func34, Tryd.ntmps34
      go_wp2_with fail
      refine k1.mono ?_; rintro e w1 ⟨rfl, rfl⟩
      go_wp2_with fail
      refine k2.mono ?_; rintro e w1 ⟨rfl, rfl⟩
      go_wp2_with fail
      go_ret2
      unfold GivL
      rw [hE.out, hV.out]
      exact ⟨none, 0, rfl, Ints.nil_ _ _, Below.refl _ _⟩
    · have hE' : wayE xs ys = 0 := by rw [wayE, if_pos h0, if_neg h1]
      have hE := Lib.hid hE'
      have hV := Lib.hid (show wayL xs ys = wayTo (num (onL xs)) (num (onL ys)) (gap (num (onL xs)) (num (onL ys))) by rw [wayL, if_pos hE'])
      have hb : num (onL ys) < 2 ^ m := by have := num_lt (onL ys); rwa [onL_len, ey] at this
      have hx' : Ints w A m (il (onL xs)) := by rw [il_onL ex p3]; exact hx
      have h1' : ((gap (num (onL xs)) (num (onL ys)) : Nat) : Int) ≤ 1000 := by omega
      have hlx : (onL xs).length = m := by rw [onL_len, ex]
      generalize hG : gap (num (onL xs)) (num (onL ys)) = G at *
      generalize ha : num (onL xs) = a at *
      generalize hbn : num (onL ys) = bn at *
      have HG := Lib.hid hG
      have HB := Lib.hid hb
      have HA := Lib.hid ha
      clear h0 h1 hE' hG hb ha
      go_enter Tryd.func34, Tryd.ntmps34
      go_wp2_with fail
      refine k1.mono ?_; rintro e w1 ⟨rfl, rfl⟩
      go_wp2_with fail
      refine k2.mono ?_; rintro e w1 ⟨rfl, rfl⟩
      go_wp2_with fail
      go_loopw [0, 7] (fun f v wr => ∃ (i : Nat) (cur : List Bool) (A' : Option Addr) (c' : Nat), f = .slice A' m c' ∧ Ints wr A' m (il cur) ∧ cur.length = m ∧ Hid (num cur = atN a bn i) ∧ i ≤ G ∧ OwnI wr w.heap.size v (wayTo a bn i) ∧ lenOf v = i ∧ Off v A' ∧ Below w.heap.size w wr) (fun _ v => fun _ => G - lenOf v)
      case atStart => exact ⟨0, onL xs, A, ca, rfl, hx', hlx, by rw [atN_zero]; exact HA.out, by omega, OwnI.nil_ _ _, rfl, (fun g b off h => by simp [Value.ownBlock] at h), Below.refl _ _⟩
      case round =>
        obtain ⟨i, cur, A', c', rfl, hI, hcl, hnum, hi, hown, hlen, hoff, hw⟩ := hrel
        have hsz := hw.size
        have kd := rc_distance A' B m m (il cur) ys c' cb wr hI (hy.below hw) p2 p2 (okTo_il _ _ (by omega)) q3
        rw [onL_il, hbn] at kd
        have hgi : gap (num cur) bn = G - i := by rw [hnum.out, atN_gap (by rw [HG.out]; exact hi), HG.out]
        rw [hgi] at kd
        by_cases hlt : i < G
        · have hne : num cur ≠ bn := fun e => by rw [e, gap_zero.2 rfl] at hgi; omega
          have kn := rc_next A' B m (il cur) ys c' cb wr hI (hy.below hw) p2 (okTo_il _ _ (by omega)) q3 (by rw [onL_il, hbn]; exact hne)
          rw [onL_il, hbn, hnum.out] at kn
          obtain ⟨s1, s2, s3⟩ := next_spec (l := cur) (b := bn) (by omega) (by rw [hcl]; exact HB.out) hne
          rw [hnum.out] at s1 s3
          rw [hcl] at s1
          have hs3 := Lib.hid (show num (flip cur (nextN (atN a bn i) bn)) = atN a bn (i + 1) by rw [s3, atN_succ (by rw [HG.out]; exact hlt)])
          have hws := Lib.hid (wayTo_succ a bn i)
          have hwl := wayTo_len a bn i
          have hpos : (0 : Int) < ((G - i : Nat) : Int) := by omega
          clear hne s2 s3 hgi hnum
          generalize nextN (atN a bn i) bn = K at *
          generalize hgg : G - i = gg at *
          go_wp2_with fail
          refine kd.mono ?_; rintro e w1 ⟨rfl, rfl⟩
          go_wp2_with fail
          refine kn.mono ?_; rintro e w1 ⟨rfl, b1⟩
          have hI1 := hI.below b1
          have hown1 := hown.below b1
          have hw1 := hw.trans (b1.mono hsz)
          go_wp2_with (at_builtin; refine wpList_appK rfl _ _ rfl w.heap.size _ (wayTo a bn i) A' m (il cur) K (by rfl) hown1 hI1 hoff hw1.size (by omega) (by rfl) ?_; intro v' w' hown' hI' hb')
          have hw2 := hb' _ hw1
          have km := rc_moved2 A' m (il cur) c' K w' hI' p2 (okTo_il _ _ (by omega)) (by omega)
          rw [onL_il] at km
          refine km.mono ?_; rintro e w3 ⟨g3, c3, rfl, hg3, hI3, b3⟩
          go_wp2_with fail
          have hown3 := hown'.below b3
          rw [← hws.out] at hown3 hown'
          obtain ⟨A4, c4, rfl, _⟩ := hown3.form
          refine ⟨⟨i + 1, flip cur K, some ⟨g3, 0, none⟩, c3, rfl, hI3, by rw [flip_len]; exact hcl, hs3.out, by omega, hown3, by simp [lenOf, wayTo_len], hown'.off hg3, hw2.trans (b3.mono hw2.size)⟩, ?_⟩
          simp [lenOf, wayTo_len]; simp [lenOf] at hlen; omega
        · obtain rfl : i = G := by omega
          have hz : ((i - i : Nat) : Int) = 0 := by omega
          rw [hz] at kd
          obtain ⟨A4, c4, rfl, hI4⟩ := hown.form
          clear hgi hnum
          go_wp2_with fail
          refine kd.mono ?_; rintro e w1 ⟨rfl, rfl⟩
          go_wp2_with fail
          go_ret2
          unfold GivL
          rw [hE.out, hV.out]
          exact ⟨A4, c4, rfl, hI4, hw⟩
  · have hne : (bothE xs ys != 0) = true := by simp [h0]
    have hne2 : (bothE xs ys == 0) = false := by simp [h0]
    have hE' : wayE xs ys = bothE xs ys := by rw [wayE, if_neg h0]
    have hE := Lib.hid hE'
    have hV := Lib.hid (show wayL xs ys = [] by rw [wayL, hE', if_neg h0])
    clear h0 hE'
    go_enter Tryd.func34, Tryd.ntmps34
    go_wp2_with fail
    refine k1.mono ?_; rintro e w1 ⟨rfl, rfl⟩
    go_wp2_with fail
    go_ret2
    unfold GivL
    rw [hE.out, hV.out]
    exact ⟨none, 0, rfl, Ints.nil_ _ _, Below.refl _ _⟩
end Go.Proofs.YtenlmjnejjdnnaaDoor
