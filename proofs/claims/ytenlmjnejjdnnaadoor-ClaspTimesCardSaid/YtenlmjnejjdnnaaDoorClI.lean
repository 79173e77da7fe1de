/- Clasp: the shortest way between two positions. -/
import Derived.Test.YtenlmjnejjdnnaaDoorClH
namespace Go.Proofs.YtenlmjnejjdnnaaDoor
open Go.RowKit Cl

theorem walk_info : (Tryd.prog.info? 81).map (·.size) = some 3 := by kernel_rfl
def storeWalk (x : Addr) (v : Value) : Sem Unit := storeVar 81 x v
theorem storeVar_walk (x : Addr) (v : Value) : storeVar 81 x v = storeWalk x v := rfl
theorem go_storeW (w : World) (g : Nat) (cs : Array Value) (h : ∃ old, Whole w g 81 old ∧ old.size = 3) (h1 : cs.size = 3) (h2 : cs.all (·.oneCell') = true) : (storeWalk ⟨g, 0, none⟩ (.agg cs)).run Tryd.prog w = .ok () (w.setRow g cs) := by
  unfold storeWalk
  obtain ⟨old, h3, h4⟩ := h
  exact run_storeVar_row w g _ 81 old cs h3 (by rw [h1]; exact walk_info) (by rw [h4, h1]) h2
theorem run_loadW {w : World} {g : Nat} {t : TypeId} {cs : Array Value} (hg : Whole w g t cs) (hs : cs.size = 3) : (loadVar 81 ⟨g, 0, none⟩).run Tryd.prog w = .ok (.agg cs) w :=
  run_loadVar_row w g t 81 cs (0, 0) _ hg Tryd.underlying81 rfl (by rw [hs]; exact walk_info)
theorem ret_cellW {fn : Func} {p u : Tmp} (h : fn.results = #[.cell p 81, .tmp u]) {a : Act} {w : World} {R : Ending → World → Prop} {g : Nat} {t : TypeId} {cs : Array Value}
    (hp : a.tmps.getD p undef = .pointer (some ⟨g, 0, none⟩)) (hg : Whole w g t cs) (hs : cs.size = 3) (hd : a.defers = []) (hR : R (.returned (.tuple #[.agg cs, a.tmps.getD u undef])) w) : bodyPost Tryd.prog fn R .ret a w := by
  refine bodyPost_ret (v := .tuple #[.agg cs, a.tmps.getD u undef]) ?_ hd hR
  simp only [results, h]
  have hp' : a.tmps[p]?.getD undef = .pointer (some ⟨g, 0, none⟩) := by simpa using hp
  simp [Sem.run_bind, Result.andThen, hp', asAddr, run_loadW hg hs]
theorem walk_all (n a b : Nat) : (walkA n a b).all (·.oneCell') = true := by simp [walkA, Value.oneCell']
/-- What stands while two numbers are worked out. -/
def BS (w0 : World) (g4 g6 g7 : Nat) (cs ds : Array Value) (w : World) : Prop := Below w0.heap.size w0 w ∧ Whole w g6 68 cs ∧ Whole w g7 68 ds ∧ (∃ old, Whole w g4 81 old ∧ old.size = 3)
theorem BS.below {w0 : World} {g4 g6 g7 : Nat} {cs ds : Array Value} {w w' : World} (h : BS w0 g4 g6 g7 cs ds w) (b : Below w.heap.size w w') : BS w0 g4 g6 g7 cs ds w' := by
  obtain ⟨h1, h2, h3, old, h4, h5⟩ := h
  exact ⟨h1.trans (b.mono h1.size), h2.below b h2.lt, h3.below b h3.lt, old, h4.below b h4.lt, h5⟩
theorem BS.drew {w0 : World} {g4 g6 g7 : Nat} {cs ds : Array Value} {w : World} (h : BS w0 g4 g6 g7 cs ds w) : BS w0 g4 g6 g7 cs ds w.drew := ⟨h.1.drew, h.2.1, h.2.2.1, h.2.2.2⟩
theorem BS.setRow {w0 : World} {g4 g6 g7 : Nat} {cs ds es : Array Value} {w : World} (h : BS w0 g4 g6 g7 cs ds w) (h0 : w0.heap.size ≤ g4) (n6 : g6 ≠ g4) (n7 : g7 ≠ g4) (he : es.size = 3) : BS w0 g4 g6 g7 cs ds (w.setRow g4 es) := by
  obtain ⟨h1, h2, h3, old, h4, h5⟩ := h
  exact ⟨belowSetRow h1 h0 es, h2.setRow_far n6 es, h3.setRow_far n7 es, es, h4.setRow es, he⟩
attribute [local go_sem ↓] loadVar_bar storeVar_walk

theorem num_onE_lt {cs : Array Value} (xs ys zs : List Int) (h : BarC cs (onE xs ys zs)) : num (onE xs ys zs) < 65536 := by
  have h1 := num_lt (onE xs ys zs)
  have h2 : 2 ^ (onE xs ys zs).length ≤ 2 ^ 16 := Nat.pow_le_pow_right (by decide) h.2.2.2
  have h3 : (2 : Nat) ^ 16 = 65536 := by decide
  omega

set_option maxRecDepth 100000 in
set_option maxHeartbeats 4000000 in
theorem cl_between (A B : Option Addr) (n m : Nat) (xs ys : List Int) (ca cb : Nat) (w : World) (hx : Ints w A n xs) (hy : Ints w B m ys) (hl : n ≤ 9223372036854775807) (hl' : m ≤ 9223372036854775807) :
    Calls Tryd.prog 63 #[.slice A n ca, .slice B m cb] w fun e w' => e = .returned (.tuple #[.agg (walkA (onE xs ys xs).length (num (onE xs ys xs)) (num (onE xs ys ys))), .int .i64 (bothE xs ys)]) ∧ Below w.heap.size w w' := by
  have hbe := (Below.refl w.heap.size w).alloc (Nat.le_refl _) (.cells #[.int .i64 0, .int .i64 0, .int .i64 0] 81)
  have h4 := Whole.new w 81 #[.int .i64 0, .int .i64 0, .int .i64 0]
  have k1 := cl_laidBoth A B n m xs ys ca cb _ (hx.below hbe) (hy.below hbe) hl hl'
  go_enter Tryd.func63, Tryd.ntmps63
  go_wp2_with fail
  refine k1.mono ?_; rintro e w1 ⟨cs, ds, rfl, hC, hD, b1⟩
  have hs0 : (w.alloc (.cells #[.int .i64 0, .int .i64 0, .int .i64 0] 81)).heap.size = w.heap.size + 1 := by simp
  have hsz := b1.size
  have n7 := (Whole.new w1 68 zbar).alloc (.cells zbar 68)
  have n8 := Whole.new (w1.alloc (.cells zbar 68)) 68 zbar
  have sz1 : (w1.alloc (.cells zbar 68)).heap.size = w1.heap.size + 1 := by simp
  rw [sz1] at n8
  have hbw := hbe.trans (b1.mono (by omega))
  have hb1 := (hbw.alloc (by omega) (.cells zbar 68)).alloc (by omega) (.cells zbar 68)
  have m8 := n8.setRow_far (show w1.heap.size + 1 ≠ w1.heap.size by omega) cs
  have x7 := (n7.setRow cs).setRow_far (show w1.heap.size ≠ w1.heap.size + 1 by omega) ds
  have x8 := m8.setRow ds
  have hbX := belowSetRow (belowSetRow hb1 (g := w1.heap.size) (by omega) cs) (g := w1.heap.size + 1) (by omega) ds
  have h41 := (((h4.below b1 (by omega)).alloc (.cells zbar 68)).alloc (.cells zbar 68))
  have h42 := (h41.setRow_far (show w.heap.size ≠ w1.heap.size by omega) cs).setRow_far (show w.heap.size ≠ w1.heap.size + 1 by omega) ds
  go_wp2_with (first
    | (refine wpList_storeB (by rfl) _ _ (by rfl) _ cs (by rfl) (by rfl) _ zbar n7 rfl hC.1 hC.all ?_)
    | (refine wpList_storeB (by rfl) _ _ (by rfl) _ ds (by rfl) (by rfl) _ zbar m8 rfl hD.1 hD.all ?_))
  have hS : BS w w.heap.size w1.heap.size (w1.heap.size + 1) cs ds ((((w1.alloc (.cells zbar 68)).alloc (.cells zbar 68)).setRow w1.heap.size cs).setRow (w1.heap.size + 1) ds) := ⟨hbX, x7, x8, _, h42, rfl⟩
  have l6 : ∀ W, BS w w.heap.size w1.heap.size (w1.heap.size + 1) cs ds W → (loadBar ⟨w1.heap.size, 0, none⟩).run Tryd.prog W = .ok (.agg cs) W := fun W h => run_loadB h.2.1 hC.1
  have l7 : ∀ W, BS w w.heap.size w1.heap.size (w1.heap.size + 1) cs ds W → (loadBar ⟨w1.heap.size + 1, 0, none⟩).run Tryd.prog W = .ok (.agg ds) W := fun W h => run_loadB h.2.2.1 hD.1
  have c6 : ∀ W, BS w w.heap.size w1.heap.size (w1.heap.size + 1) cs ds W → W.cell? ⟨w1.heap.size, 0, none⟩ = some (.int .i64 ((onE xs ys xs).length : Int)) := fun W h => (h.2.1.cell 0).trans hC.2.1
  have s4 : ∀ W, BS w w.heap.size w1.heap.size (w1.heap.size + 1) cs ds W → (storeWalk ⟨w.heap.size, 0, none⟩ (.agg (walkA (onE xs ys xs).length (num (onE xs ys xs)) (num (onE xs ys ys))))).run Tryd.prog W = .ok () (W.setRow w.heap.size (walkA (onE xs ys xs).length (num (onE xs ys xs)) (num (onE xs ys ys)))) :=
    fun W h => go_storeW W _ _ h.2.2.2 rfl (walk_all _ _ _)
  have hrow : ∀ W, BS w w.heap.size w1.heap.size (w1.heap.size + 1) cs ds W → BS w w.heap.size w1.heap.size (w1.heap.size + 1) cs ds (W.setRow w.heap.size (walkA (onE xs ys xs).length (num (onE xs ys xs)) (num (onE xs ys ys)))) :=
    fun W h => h.setRow (Nat.le_refl _) (by omega) (by omega) rfl
  have K := Lib.hid (show ∀ (bs : Array Value) (v : Nat) (W : World), (bs = cs ∧ v = num (onE xs ys xs) ∨ bs = ds ∧ v = num (onE xs ys ys)) → Calls Tryd.prog 56 #[.agg bs] W fun e w' => e = .returned (.int .i64 v) ∧ Below W.heap.size W w' by
    intro bs v W h
    rcases h with ⟨rfl, rfl⟩ | ⟨rfl, rfl⟩
    · exact bar_number bs _ W hC
    · exact bar_number bs _ W hD)
  generalize hN : (onE xs ys xs).length = N at *
  generalize ha : num (onE xs ys xs) = a at *
  generalize hb : num (onE xs ys ys) = b at *
  have HN := Lib.hid (And.intro hN (And.intro ha hb))
  clear hN ha hb
  generalize ((((w1.alloc (.cells zbar 68)).alloc (.cells zbar 68)).setRow w1.heap.size cs).setRow (w1.heap.size + 1) ds) = X at *
  have hS1 := hS.drew
  clear n7 n8 m8 x7 x8 hbX h41 h42 hb1 k1 h4 hbe hbw sz1
  go_region_held3 (fun w' => BS w w.heap.size w1.heap.size (w1.heap.size + 1) cs ds w')
    (first
      | exact hS1
      | assumption
      | (exact BS.below (by assumption) (by assumption))
      | (exact hrow _ (by assumption)))
    ((first
      | (go_at_call 56; refine (K.out _ _ _ (by first | exact .inl ⟨rfl, rfl⟩ | exact .inr ⟨rfl, rfl⟩)).mono ?_; rintro e w3 ⟨rfl, b3⟩)))
  go_wp2
  try simp only [Exit.inBlock, Exit.then]
  have hw3 : BS w w.heap.size w1.heap.size (w1.heap.size + 1) cs ds w3 := BS.below (BS.below hS1 (by assumption)) b3
  obtain ⟨f1, _, _, old, f4, _⟩ := hw3
  refine ret_cellW rfl (g := w.heap.size) rfl (f4.setRow _) rfl rfl ?_
  exact ⟨by rw [HN.out.1, HN.out.2.1, HN.out.2.2]; rfl, belowSetRow f1 (Nat.le_refl _) _⟩
end Go.Proofs.YtenlmjnejjdnnaaDoor
