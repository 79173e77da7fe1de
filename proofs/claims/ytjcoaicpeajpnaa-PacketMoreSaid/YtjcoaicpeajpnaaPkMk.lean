/- walks -/
import Derived.Test.YtjcoaicpeajpnaaPkKit
namespace Go.Proofs.Ytjcoaicpeajpnaa
open Go.RowKit Pk

theorem zc_size : Try.zeroCells89.size = 1001 := by kernel_rfl
theorem zc_get (x : Nat) (h : x < 1001) : Try.zeroCells89[x]? = some (.bool false) := by
  have e : Try.zeroCells89 = Array.replicate 1001 (.bool false) := by kernel_rfl
  rw [e]; simp [h]

/-- The cells of a table of 1001 answers. -/
def Tab (cs : Array Value) (f : Nat → Bool) : Prop := cs.size = 1001 ∧ ∀ x, x < 1001 → cs[x]? = some (.bool (f x))
theorem Tab.set_ {cs : Array Value} {f : Nat → Bool} (h : Tab cs f) {i : Nat} {b : Bool} (hi : i < 1001) : Tab (cs.setIfInBounds i (.bool b)) (fun x => if x = i then b else f x) := by
  refine ⟨by simp [h.1], fun x hx => ?_⟩
  by_cases e : x = i
  · subst e; simp [h.1, hi]
  · rw [Array.getElem?_setIfInBounds_ne (by omega)]; simp only [if_neg e]; exact h.2 x hx
theorem Tab.congr {cs : Array Value} {f g : Nat → Bool} (h : Tab cs f) (e : ∀ x, x < 1001 → f x = g x) : Tab cs g := ⟨h.1, fun x hx => by rw [← e x hx]; exact h.2 x hx⟩

/-- Half way: below m the size s is worked in. -/
def mid (P : List Nat) (s m x : Nat) : Bool := if x < m then rB (P ++ [s]) x else rB P x

theorem mid_set {cs : Array Value} {P : List Nat} {s x : Nat} {b : Bool} (hp : ∀ x ∈ P, 0 < x) (hs : 0 < s) (hle : s ≤ x) (hx : x < 1001) (h : Tab cs (mid P s x))
    (hb : b = (mid P s x x || mid P s x (x - s))) : Tab (cs.setIfInBounds x (.bool b)) (mid P s (x + 1)) := by
  refine (h.set_ hx).congr fun y _ => ?_
  subst hb
  unfold mid
  by_cases e : y = x
  · subst e; rw [if_pos rfl, if_neg (by omega), if_pos (by omega), if_pos (by omega), rB_high hp hs hle]
  · rw [if_neg e]
    by_cases h1 : y < x
    · rw [if_pos h1, if_pos (by omega)]
    · rw [if_neg h1, if_neg (by omega)]

set_option maxHeartbeats 400000 in
theorem makeable_any (A : Option Addr) (n : Nat) (ps : List Nat) (ca : Nat) (w : World) (hx : Nats w A n ps) (hp : ∀ s ∈ ps, 0 < s)
    (hl : n ≤ 1000000000) (hbig : ∀ s ∈ ps, s ≤ 1000) :
    Calls Try.prog 61 #[.slice A n ca] w fun e w' => e = .returned (.func (.func 91) #[] #[.pointer (some ⟨w.heap.size, 0, none⟩)]) ∧
      (∃ cs, Whole w' w.heap.size 89 cs ∧ Tab cs (rB ps)) ∧ Below w.heap.size w w' := by
    go_enter Try.func61, Try.ntmps61
    go_wp2
    go_loopw [5, 6, 10] (fun _ _ i wr => ∃ k : Nat, k ≤ n ∧ i = .int .i64 k ∧ (∃ cs, Whole wr w.heap.size 89 cs ∧ Tab cs (rB (ps.take k))) ∧ Below w.heap.size w wr) (fun _ _ i _ => n - (intOf i).toNat)
    case atStart => exact ⟨0, by omega, rfl, ⟨_, Whole.new _ _ _, (Tab.set_ (f := fun _ => false) ⟨zc_size, zc_get⟩ (by omega)).congr fun x _ => by simp [rB_nil]⟩, (Below.refl _ _).alloc (Nat.le_refl _) _⟩
    case round =>
      obtain ⟨k, hk, rfl, ⟨cs, hB, hT⟩, hw⟩ := hrel
      by_cases hlt : k < n
      · obtain ⟨b, off, rfl, hb, hc⟩ := (hx.below hw).at_ hlt
        have hs0 := hp _ (NAt_mem (hx.len ▸ hlt))
        have hs1 := hbig _ (NAt_mem (hx.len ▸ hlt))
        have hpk : ∀ x ∈ ps.take k, 0 < x := fun x h => hp x (List.mem_of_mem_take h)
        have hts := Lib.hid (take_snoc ps (k := k) (hx.len ▸ hlt))
        have hki : (0 : Int) ≤ (k : Int) := by omega
        have hkn : (k : Int) < n := by omega
        go_wp2
        obtain ⟨wo, rfl⟩ : ∃ wo : World, wo = wr := ⟨_, rfl⟩
        go_loopw [6] (fun m wr => ∃ x : Nat, NAt ps k ≤ x ∧ x ≤ 1001 ∧ m = .int .i64 x ∧ (∃ cs, Whole wr w.heap.size 89 cs ∧ Tab cs (mid (ps.take k) (NAt ps k) x)) ∧ Below w.heap.size w wr) (fun m _ => 1001 - (intOf m).toNat)
        case atStart => exact ⟨_, Nat.le_refl _, by omega, rfl, ⟨_, hB, hT.congr fun x _ => by unfold mid; split; exact (rB_low hpk hs0 (by assumption)).symm; rfl⟩, hw⟩
        case round =>
          obtain ⟨x, hx1, hx2, rfl, ⟨cs', hB', hT'⟩, hw'⟩ := hrel
          by_cases hxx : x ≤ 1000
          · have c1 := (hB'.cell x).trans (hT'.2 x (by omega))
            have c2 := (hB'.cell (x - NAt ps k)).trans (hT'.2 (x - NAt ps k) (by omega))
            have c3 := hB'.frozen x
            go_wp2
            all_goals
              refine ⟨⟨x + 1, by omega, by omega, by go_num, ⟨_, hB'.set_ x _, mid_set hpk hs0 hx1 (by omega) hT' ?_⟩, hw'.setCell (Nat.le_refl _) _⟩, by simp [intOf]; omega⟩
              simp [*]
          · go_wp2
            refine ⟨⟨k + 1, by omega, by go_num, ⟨_, hB', ?_⟩, hw'⟩, by simp [intOf]; omega⟩
            rw [hts.out]
            exact hT'.congr fun y hy => by unfold mid; rw [if_pos (by omega)]
      · obtain rfl : k = n := by omega
        go_wp2
        go_ret
        refine ⟨rfl, ⟨_, hB, ?_⟩, hw⟩
        rwa [List.take_of_length_le (by rw [hx.len]; exact Nat.le_refl _)] at hT
end Go.Proofs.Ytjcoaicpeajpnaa
