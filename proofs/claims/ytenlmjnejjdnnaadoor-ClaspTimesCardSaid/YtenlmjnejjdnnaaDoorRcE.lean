/- Clasp's reference: Next, Way and Leads. -/
import Derived.Test.YtenlmjnejjdnnaaDoorClMatb
namespace Go.Proofs.YtenlmjnejjdnnaaDoor
open Go.RowKit Cl

set_option maxRecDepth 100000 in
set_option maxHeartbeats 1000000 in
theorem rc_moved2 (A : Option Addr) (n : Nat) (xs : List Int) (ca : Nat) (k : Nat) (w : World) (hx : Ints w A n xs) (hl : n ≤ 16) (h01 : okTo xs n) (hk : k < n) :
    Calls Tryd.prog 55 #[.slice A n ca, .int .i64 k] w fun e w' => ∃ g c, e = .returned (.slice (some ⟨g, 0, none⟩) n c) ∧ w.heap.size ≤ g ∧ Ints w' (some ⟨g, 0, none⟩) n (il (flip (onL xs) k)) ∧ Below w.heap.size w w' := by
  have hb0 := (Below.refl w.heap.size w).alloc (Nat.le_refl _) (.cells #[] 3)
  have hown0 : OwnI (w.alloc (.cells #[] 3)) w.heap.size (.slice (some ⟨w.heap.size, 0, none⟩) 0 0) [] := World.ownsRow_made w #[] 0 (Nat.le_refl _) (Nat.zero_le _) rfl
  have hki : (0 : Int) ≤ (k : Int) := by omega
  have hkn : (k : Int) < n := by omega
  have hv1 : 0 ≤ At xs k := by rcases h01 k hk with e | e <;> omega
  have hv2 : At xs k ≤ 1 := by rcases h01 k hk with e | e <;> omega
  have hf := il_flip hx.len h01 hk
  have hxl := hx.len
  go_enter Tryd.func55, Tryd.ntmps55
  go_wp2_with (at_builtin; refine wpList_appS rfl _ _ rfl w.heap.size _ [] (by rfl) hown0 (by simp) A n ca xs (by rfl) (hx.below hb0) (by simp; omega) ?_; intro v' w' hown' hb'; obtain ⟨g, c, cur, rfl, hg, hW, hc1, hc2, hc3⟩ := OwnI.whole (xs := xs) (by simpa using hown') (by intro e; rw [e] at hxl; simp at hxl; omega); have c1 := (hW.cell k).trans (hc3 k (by omega)); have f1 := hW.frozen k; have hr := Lib.hid (ints_set hW (by omega) hc3 (k := k) (by omega) (1 - At xs k)); rw [hxl])
  have hr := hr.out
  rw [hxl, hf] at hr
  have hbb := (hb' _ hb0).setCell (p := ⟨g, k, none⟩) hg (.int .i64 (1 - At xs k))
  go_ret
  exact ⟨_, _, rfl, hg, hr, hbb⟩

/-- A slice lies apart from a row of the call's own. -/
def Off (v : Value) (A : Option Addr) : Prop := ∀ g b off, v.ownBlock = some g → A = some ⟨b, off, none⟩ → b ≠ g
theorem wpList_appK {w : World} {ops : Array Oper} {rest : List Oper} {o : Oper} {a : Act} {Q : Exit → Act → World → Prop} (hgd : o.guard = none) (s x : Operand)
    (ho : o.op = .call { callee := .builtin .append, args := #[s, x], argTypes := #[22, 22] })
    (base : Nat) (v : Value) (xs : List Int) (B : Option Addr) (m : Nat) (ys : List Int) (k : Int) (hs : a.eval s = v) (hown : OwnI w base v xs) (hI : Ints w B m ys) (hoff : Off v B) (hbase : base ≤ w.heap.size) (hlen : xs.length ≤ 1000000000)
    (hx : a.eval x = .slice (some ⟨w.heap.size, 0, none⟩) 1 1)
    (h : ∀ v' w', OwnI w' base v' (xs ++ [k]) → Ints w' B m ys → (∀ w0, Below base w0 w → Below base w0 w') → wpList Tryd.prog ops Q rest (a.put o.dst v') w') :
    wpList Tryd.prog ops Q (o :: rest) a (w.alloc (.cells #[.int .i64 k] 3)) := by
  obtain ⟨i0, hi, hz0, hz1, hz2⟩ := info_parts Tryd.info_int
  refine wpList_append_own_at _ hgd s x 22 ho base 3 i0 (.int .i64 0) 1 8 Tryd.underlying22 hi hz0 hz1 hz2 rfl (by decide) v xs.length _ hs (hown.alloc _) ⟨w.heap.size, 0, none⟩ 1 1 [.int .i64 k] hx rfl ?_ ?_ (by unfold maxLen; omega) (by omega) (by simp; omega) ?_
  · intro j u hj
    cases j with
    | zero =>
      simp at hj
      subst hj
      rw [Addr.add_lit]
      simp
    | succ j => simp at hj
  · intro u hu
    simp at hu
    subst hu
    rfl
  · intro v' w' hown' hgrow _ hblk
    refine h v' w' ?_ ?_ ?_
    · unfold OwnI
      rw [List.length_append, List.map_append]
      exact hown'
    · refine ⟨hI.1, fun q hq => ?_⟩
      obtain ⟨b, off, e, hlt, hc⟩ := hI.2 q hq
      refine ⟨b, off, e, Nat.lt_of_lt_of_le (by simp; omega) hgrow.size, ?_⟩
      refine hgrow.cell (a := ⟨b, off + q, none⟩) ?_ (fun h => hoff b b off h.symm e rfl)
      exact (((Below.refl w.heap.size w).alloc (Nat.le_refl _) _).cell (p := ⟨b, off + q, none⟩) hlt).trans hc
    · intro w0 h0
      exact (h0.alloc hbase _).grown hgrow (by simp; omega) (fun j hj => (World.ownsRow.lt hown j hj).1)
theorem OwnI.off {w : World} {base : Nat} {v : Value} {xs : List Int} (h : OwnI w base v xs) {g o : Nat} (hg : w.heap.size ≤ g) : Off v (some ⟨g, o, none⟩) := by
  intro g' b off h1 h2
  have := (World.ownsRow.lt h g' h1).2
  cases h2
  omega

theorem okPair {xs ys : List Int} {n m : Nat} (h : bothE xs ys = 0) (hx : xs.length = n) (hy : ys.length = m) : m = n ∧ n ≤ 16 ∧ okTo xs n ∧ okTo ys n := by
  unfold bothE at h
  split at h
  · rename_i a
    split at h
    · rename_i b
      split at h
      · rename_i c
        obtain ⟨_, p2, p3⟩ := pchk_ok hx a
        obtain ⟨_, q2, q3⟩ := pchk_ok hy b
        have : m = n := by omega
        exact ⟨this, p2, p3, this ▸ q3⟩
      · cases h
    · rename_i b; exact absurd h b
  · rename_i a; exact absurd h a
def nextE (xs ys : List Int) : Int := if bothE xs ys = 0 then (if num (onL xs) = num (onL ys) then 12 else 0) else bothE xs ys
def nextV (xs ys : List Int) : Int := if nextE xs ys = 0 then ((nextN (num (onL xs)) (num (onL ys)) : Nat) : Int) else 0

set_option maxRecDepth 100000 in
set_option maxHeartbeats 1000000 in
theorem rc_Next (A B : Option Addr) (n m : Nat) (xs ys : List Int) (ca cb : Nat) (w : World) (hx : Ints w A n xs) (hy : Ints w B m ys) (hl : n ≤ 9223372036854775807) (hl' : m ≤ 9223372036854775807) :
    Calls Tryd.prog 32 #[.slice A n ca, .slice B m cb] w fun e w' => e = .returned (.tuple #[.int .i64 (nextV xs ys), .int .i64 (nextE xs ys)]) ∧ Below w.heap.size w w' := by
  have k1 := rc_both A B n m xs ys ca cb w hx hy hl hl'
  by_cases h0 : bothE xs ys = 0
  · obtain ⟨rfl, p2, p3, q3⟩ := okPair h0 hx.len hy.len
    have k2 := rc_distance A B m m xs ys ca cb w hx hy p2 p2 p3 q3
    rw [h0] at k1
    by_cases h1 : num (onL xs) = num (onL ys)
    · have hE' : nextE xs ys = 12 := by rw [nextE, if_pos h0, if_pos h1]
      have hE := Lib.hid hE'
      have hV := Lib.hid (show nextV xs ys = 0 by rw [nextV, hE']; rfl)
      rw [gap_zero.2 h1] at k2
      clear h0 h1 hE'
      go_enter Tryd.func32, Tryd.ntmps32
      go_wp2_with fail
      refine k1.mono ?_; rintro e w1 ⟨rfl, rfl⟩
      go_wp2_with fail
      refine k2.mono ?_; rintro e w1 ⟨rfl, rfl⟩
      go_wp2_with fail
      go_ret2
      exact ⟨by rw [hE.out, hV.out]; rfl, Below.refl _ _⟩
    · have hE' : nextE xs ys = 0 := by rw [nextE, if_pos h0, if_neg h1]
      have hE := Lib.hid hE'
      have hV := Lib.hid (show nextV xs ys = ((nextN (num (onL xs)) (num (onL ys)) : Nat) : Int) by rw [nextV, if_pos hE'])
      have hg : ((gap (num (onL xs)) (num (onL ys)) : Nat) : Int) ≠ 0 := fun e => h1 (gap_zero.1 (by omega))
      have hg' : (((gap (num (onL xs)) (num (onL ys)) : Nat) : Int) == 0) = false := by simpa using hg
      have k3 := rc_next A B m xs ys ca cb w hx hy p2 p3 q3 h1
      clear h0 h1 hE' hg
      generalize gap (num (onL xs)) (num (onL ys)) = g at *
      generalize nextN (num (onL xs)) (num (onL ys)) = K at *
      go_enter Tryd.func32, Tryd.ntmps32
      go_wp2_with fail
      refine k1.mono ?_; rintro e w1 ⟨rfl, rfl⟩
      go_wp2_with fail
      refine k2.mono ?_; rintro e w1 ⟨rfl, rfl⟩
      go_wp2_with fail
      refine k3.mono ?_; rintro e w1 ⟨rfl, b⟩
      go_wp2_with fail
      go_ret2
      exact ⟨by rw [hE.out, hV.out]; rfl, b⟩
  · have hne : (bothE xs ys != 0) = true := by simp [h0]
    have hne2 : (bothE xs ys == 0) = false := by simp [h0]
    have hE' : nextE xs ys = bothE xs ys := by rw [nextE, if_neg h0]
    have hE := Lib.hid hE'
    have hV := Lib.hid (show nextV xs ys = 0 by rw [nextV, hE', if_neg h0])
    clear h0 hE'
    go_enter Tryd.func32, Tryd.ntmps32
    go_wp2_with fail
    refine k1.mono ?_; rintro e w1 ⟨rfl, rfl⟩
    go_wp2_with fail
    go_ret2
    exact ⟨by rw [hE.out, hV.out]; rfl, Below.refl _ _⟩
end Go.Proofs.YtenlmjnejjdnnaaDoor
