/- Walks of the reference: enough, table. -/
import Derived.Test.YtiphgkbnhagkhaaRfC
import Derived.Deep.RegionHeld3
namespace Go.Proofs.Ytiphgkbnhagkhaa
open Go.RowKit Pk

theorem OwnI.nats {w : World} {base : Nat} {v : Value} {ps : List Nat} {n : Nat} (h : OwnI w base v (ps.map Int.ofNat)) (hn : ps.length = n) : ∃ A c, v = .slice A n c ∧ Nats w A n ps := by
  obtain ⟨A, c, e, hI⟩ := h.form
  rw [List.length_map, hn] at e hI
  refine ⟨A, c, e, ?_⟩
  have h2 := hI.nats fun k _ => by
    rw [At, List.getElem?_map]; cases ps[k]? <;> simp
  have e2 : natL (ps.map Int.ofNat) = ps := by
    rw [natL, List.map_map]
    have : (Int.toNat ∘ Int.ofNat) = (id : Nat → Nat) := funext fun x => by simp
    rw [this, List.map_id]
  rwa [e2] at h2

set_option maxHeartbeats 1000000 in
theorem rf_enough (A : Option Addr) (n : Nat) (ps : List Nat) (ca : Nat) (m : Nat) (w : World) (hx : Nats w A n ps) (hp : ∀ s ∈ ps, 0 < s) (hl : n ≤ 1000) (hm : m ≤ 1000) :
    Calls Try.prog 64 #[.slice A n ca, .int .i64 m] w fun e w' => GivesN w w' e n (ps.map (m / ·)) := by
  go_enter Try.func64, Try.ntmps64
  go_wp2_with fail
  go_loopw [5, 6] (fun v i wr => ∃ k : Nat, k ≤ n ∧ i = .int .i64 k ∧ OwnI wr w.heap.size v (((ps.take k).map (m / ·)).map Int.ofNat) ∧ Below w.heap.size w wr) (fun _ i _ => n - (intOf i).toNat)
  case atStart => exact ⟨0, by omega, rfl, OwnI.nil_ _ _, Below.refl _ _⟩
  case round =>
    obtain ⟨k, hk, rfl, hown, hw⟩ := hrel
    have hsz := hw.size
    by_cases hlt : k < n
    · obtain ⟨b, off, rfl, hb, hc⟩ := (hx.below hw).at_ hlt
      have hs := hp _ (NAt_mem (hx.len ▸ hlt))
      have hki : (0 : Int) ≤ (k : Int) := by omega
      have hkn : (k : Int) < n := by omega
      have q1 : (0 : Int) ≤ (m : Int) / (NAt ps k : Int) := Int.ediv_nonneg (by omega) (by omega)
      have q2 : (m : Int) / (NAt ps k : Int) ≤ 1000 := Int.le_trans (Int.ediv_le_self _ (by omega)) (by omega)
      have hts := Lib.hid (take_snoc ps (k := k) (hx.len ▸ hlt))
      have hlen : (((ps.take k).map (m / ·)).map Int.ofNat).length ≤ 1000 := by simp; omega
      generalize hL : ((ps.take k).map (m / ·)).map Int.ofNat = L at *
      have HL := Lib.hid hL; clear hL
      go_wp2_with (at_builtin; refine wpList_appI rfl _ _ rfl w.heap.size _ L ((m : Int) / (NAt ps k : Int)) (by rfl) hown hsz (by omega) (by rfl) ?_; intro v' w' hown' hb')
      refine ⟨⟨k + 1, by omega, by go_num, ?_, hb' _ hw⟩, by simp [intOf]; omega⟩
      rw [hts.out, List.map_append, List.map_append, HL.out]
      exact hown'
    · obtain rfl : k = n := by omega
      rw [List.take_of_length_le (by rw [hx.len]; exact Nat.le_refl _)] at hown
      obtain ⟨A', c', rfl, hN⟩ := hown.nats (n := k) (by rw [List.length_map, hx.len])
      go_wp2_with fail
      go_ret
      exact ⟨_, _, rfl, hN, hw⟩

/-- The reference's table while it is made: the outer row, and k rows of numbers, each in a block of its own. -/
def TB (w0 w : World) (n m k : Nat) (F : Nat → Nat → Nat) : Prop :=
  (∃ O : Array Value, Whole w w0.heap.size 22 O ∧ O.size = n + 1 ∧ (∀ j, j < k → O[j]? = some (.slice (some ⟨w0.heap.size + 1 + j, 0, none⟩) (m + 1) (m + 1))) ∧ ∀ j, k ≤ j → j ≤ n → O[j]? = some (.slice none 0 0)) ∧
  (∀ j, j < k → ∃ cs, Whole w (w0.heap.size + 1 + j) 3 cs ∧ Row cs (m + 1) (fun x => (F j x : Int))) ∧ Below w0.heap.size w0 w
theorem TB.bel {w0 w : World} {n m k : Nat} {F : Nat → Nat → Nat} (h : TB w0 w n m k F) : Below w0.heap.size w0 w := h.2.2
theorem TB.outer {w0 w : World} {n m k : Nat} {F : Nat → Nat → Nat} (h : TB w0 w n m k F) {j : Nat} (hj : j < k) : w.cell? ⟨w0.heap.size, j, none⟩ = some (.slice (some ⟨w0.heap.size + 1 + j, 0, none⟩) (m + 1) (m + 1)) := by
  obtain ⟨⟨O, h1, _, h3, _⟩, _⟩ := h
  exact (h1.cell j).trans (h3 j hj)
theorem TB.nilat {w0 w : World} {n m k : Nat} {F : Nat → Nat → Nat} (h : TB w0 w n m k F) {j : Nat} (hj : k ≤ j) (hj' : j ≤ n) : w.cell? ⟨w0.heap.size, j, none⟩ = some (.slice none 0 0) ∧ w.frozen? ⟨w0.heap.size, j, none⟩ = false := by
  obtain ⟨⟨O, h1, _, _, h4⟩, _⟩ := h
  exact ⟨(h1.cell j).trans (h4 j hj hj'), h1.frozen j⟩
theorem TB.row {w0 w : World} {n m k : Nat} {F : Nat → Nat → Nat} (h : TB w0 w n m k F) {j x : Nat} (hj : j < k) (hx : x ≤ m) : w.cell? ⟨w0.heap.size + 1 + j, x, none⟩ = some (.int .i64 (F j x)) ∧ w.frozen? ⟨w0.heap.size + 1 + j, x, none⟩ = false := by
  obtain ⟨_, h2, _⟩ := h
  obtain ⟨cs, a, b⟩ := h2 j hj
  exact ⟨(a.cell x).trans (b.2 x (by omega)), a.frozen x⟩
theorem TB.drewN {w0 w : World} {n m k : Nat} {F : Nat → Nat → Nat} (h : TB w0 w n m k F) (d : Nat) : TB w0 (w.drewN d) n m k F := ⟨h.1, h.2.1, bdrewN h.2.2 d⟩
theorem TB.congr {w0 w : World} {n m k : Nat} {F F' : Nat → Nat → Nat} (h : TB w0 w n m k F) (e : ∀ j, j < k → ∀ x, x ≤ m → F j x = F' j x) : TB w0 w n m k F' :=
  ⟨h.1, fun j hj => by obtain ⟨cs, a, b⟩ := h.2.1 j hj; exact ⟨cs, a, b.congr fun x hx => by rw [e j hj x (by omega)]⟩, h.2.2⟩
theorem TB.put {w0 w : World} {n m k : Nat} {F : Nat → Nat → Nat} (h : TB w0 w n m k F) {j x v : Nat} (hj : j < k) (hx : x ≤ m) :
    TB w0 (w.setCell ⟨w0.heap.size + 1 + j, x, none⟩ (.int .i64 v)) n m k (fun i y => if i = j ∧ y = x then v else F i y) := by
  obtain ⟨⟨O, h1, h2, h3, h4⟩, h5, h6⟩ := h
  refine ⟨⟨O, h1.far (by simp; omega) _, h2, h3, h4⟩, fun i hi => ?_, h6.setCell (by show _ ≤ w0.heap.size + 1 + j; omega) _⟩
  obtain ⟨cs, a, b⟩ := h5 i hi
  by_cases e : i = j
  · subst e
    refine ⟨_, a.set_ x _, (b.set_ (by omega)).congr fun y _ => ?_⟩
    by_cases e2 : y = x
    · subst e2; simp
    · simp [e2]
  · exact ⟨cs, a.far (by simp; omega) _, b.congr fun y _ => by simp [e]⟩
theorem TB.more {w0 w : World} {n m k : Nat} {F : Nat → Nat → Nat} (h : TB w0 w n m k F) (hk : k ≤ n) (hs : w.heap.size = w0.heap.size + 1 + k) :
    TB w0 ((w.setCell ⟨w0.heap.size, k, none⟩ (.slice (some ⟨w.heap.size, 0, none⟩) (m + 1) (m + 1))).alloc (.cells (Array.replicate (m + 1) (.int .i64 0)) 3)) n m (k + 1) (fun i y => if i = k then 0 else F i y) ∧
    ((w.setCell ⟨w0.heap.size, k, none⟩ (.slice (some ⟨w.heap.size, 0, none⟩) (m + 1) (m + 1))).alloc (.cells (Array.replicate (m + 1) (.int .i64 0)) 3)).heap.size = w0.heap.size + 1 + (k + 1) := by
  obtain ⟨⟨O, h1, h2, h3, h4⟩, h5, h6⟩ := h
  have hz : (w.setCell ⟨w0.heap.size, k, none⟩ (.slice (some ⟨w.heap.size, 0, none⟩) (m + 1) (m + 1))).heap.size = w.heap.size := by simp [World.setCell]
  refine ⟨⟨⟨_, (h1.set_ k _).alloc _, by simp [h2], fun j hj => ?_, fun j hj hj' => ?_⟩, fun i hi => ?_, (h6.setCell (Nat.le_refl _) _).alloc (by rw [hz]; omega) _⟩, by simp [hz]; omega⟩
  · by_cases e : j = k
    · subst e; simp [h2, show j < n + 1 by omega, hs]
    · rw [Array.getElem?_setIfInBounds_ne (by omega)]; exact h3 j (by omega)
  · rw [Array.getElem?_setIfInBounds_ne (by omega)]; exact h4 j (by omega) hj'
  · by_cases e : i = k
    · subst e
      have hw := Whole.new (w.setCell ⟨w0.heap.size, i, none⟩ (.slice (some ⟨w.heap.size, 0, none⟩) (m + 1) (m + 1))) 3 (Array.replicate (m + 1) (.int .i64 0))
      rw [hz, hs] at hw
      rw [hs]
      exact ⟨_, hw, (Row.zero (m + 1)).congr fun x _ => by simp⟩
    · obtain ⟨cs, a, b⟩ := h5 i (by omega)
      exact ⟨cs, (a.far (by simp; omega) _).alloc _, b.congr fun x _ => by simp [e]⟩
end Go.Proofs.Ytiphgkbnhagkhaa
