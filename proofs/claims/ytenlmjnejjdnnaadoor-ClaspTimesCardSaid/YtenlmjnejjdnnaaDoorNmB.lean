/- Clasp's reference: the position that is farthest away. -/
import Derived.Test.YtenlmjnejjdnnaaDoorNmA
import Derived.Test.YtenlmjnejjdnnaaDoorClMatb
import Derived.OwnWalk
import Derived.Test.YtenlmjnejjdnnaaDoorClI
import Derived.Deep.CutRange
import Derived.Deep.DeepCutAuto
import Derived.Test.YtenlmjnejjdnnaaDoorLcA
namespace Go.Proofs.YtenlmjnejjdnnaaDoor
open Go.RowKit Cl

/-- The end of the line that is farther away. -/
def farN (a p : Nat) : Nat := if a < p - 1 - a then p - 1 else 0
def farL (xs : List Int) : List Int := if pchk xs = 0 then il (pos xs.length (farN (num (onL xs)) (2 ^ xs.length))) else []
def farD (xs : List Int) : Nat := if pchk xs = 0 then gap (num (onL xs)) (farN (num (onL xs)) (2 ^ xs.length)) else 0
theorem farL_len (xs : List Int) (h : pchk xs = 0) : (farL xs).length = xs.length := by rw [farL, if_pos h, il_len, pos_len]
theorem num_il_pos (n m : Nat) (h : m < 2 ^ n) : num (onL (il (pos n m))) = m := by rw [onL_il, num_pos n m h]
def GivF (e : Ending) (w w' : World) (ys : List Int) (d : Nat) (er : Int) : Prop := ∃ A c, e = .returned (.tuple #[.slice A ys.length c, .int .i64 d, .int .i64 er]) ∧ Ints w' A ys.length ys ∧ Below w.heap.size w w'

/-- What holds while the two ends are made. -/
def PS (w0 : World) (A : Option Addr) (n : Nat) (xs : List Int) (w : World) : Prop := Ints w A n xs ∧ Below w0.heap.size w0 w
theorem PS.below {w0 : World} {A : Option Addr} {n : Nat} {xs : List Int} {w w' : World} (h : PS w0 A n xs w) (b : Below w.heap.size w w') : PS w0 A n xs w' := ⟨h.1.below b, h.2.trans (b.mono h.2.size)⟩
theorem PS.drew {w0 : World} {A : Option Addr} {n : Nat} {xs : List Int} {w : World} (h : PS w0 A n xs w) : PS w0 A n xs w.drew := h.below (Below.refl _ _).drew

set_option maxRecDepth 100000 in
set_option maxHeartbeats 4000000 in
theorem rc_Farthest (A : Option Addr) (n : Nat) (xs : List Int) (ca : Nat) (w : World) (hx : Ints w A n xs) (hl : n ≤ 9223372036854775807) :
    Calls Tryd.prog 28 #[.slice A n ca] w fun e w' => GivF e w w' (farL xs) (farD xs) (pchk xs) := by
  have hck := rc_Check A n xs ca w hx hl
  have hxl := hx.len
  by_cases h0 : pchk xs = 0
  · obtain ⟨p1, p2, p3⟩ := pchk_ok hx.len h0
    rw [h0] at hck
    have H0 := Lib.hid h0
    have hV := Lib.hid (show farL xs = il (pos n (farN (num (onL xs)) (2 ^ n))) by rw [farL, if_pos h0, hxl])
    have hD := Lib.hid (show farD xs = gap (num (onL xs)) (farN (num (onL xs)) (2 ^ n)) by rw [farD, if_pos h0, hxl])
    have h1 := two_pow (n := n) p2
    have hP : (2 : Int) ^ n = ((2 ^ n : Nat) : Int) := by push_cast; rfl
    obtain ⟨q, hq⟩ : ∃ q, 2 ^ n = 2 * q := ⟨2 ^ (n - 1), by rw [← Nat.pow_succ']; congr 1; omega⟩
    have ha : num (onL xs) < 2 ^ n := by have := num_lt (onL xs); rwa [onL_len, hxl] at this
    have hn1 := num_il_pos n 0 (by omega)
    have hn2 := num_il_pos n (2 ^ n - 1) (by omega)
    have hd := fun W H B ys c hy h2 => rc_distance A B n n xs ys ca c W H hy p2 p2 p3 h2
    have hpl := fun m W hm => rc_place n m W p2 hm
    have hlen := fun m => pos_len n m
    have hok := fun m => okTo_il (pos n m) n (by rw [pos_len]; omega)
    clear h0
    generalize hp : 2 ^ n = p at *
    clear hp
    have hS1 : PS w A n xs w.drew := PS.drew ⟨hx, Below.refl _ _⟩
    have K := Lib.hid (show ∀ (m : Int) (v : Nat) (W : World), (m = 0 ∧ v = 0 ∨ m = (p : Int) - 1 ∧ v = p - 1) → Calls Tryd.prog 60 #[.int .i64 n, .int .i64 m] W fun e w' => ∃ A' c, e = .returned (.slice A' n c) ∧ Ints w' A' n (il (pos n v)) ∧ Below W.heap.size W w' by
      intro m v W h
      rcases h with ⟨rfl, rfl⟩ | ⟨rfl, rfl⟩
      · exact hpl 0 W (by omega)
      · rw [show (p : Int) - 1 = ((p - 1 : Nat) : Int) by omega]; exact hpl (p - 1) W (by omega))
    have HD := Lib.hid hd
    have HOK := Lib.hid hok
    have HQ := Lib.hid hq
    clear hpl hd hok hq
    have hn0 : (0 : Int) ≤ (n : Int) := by omega
    have hn16 : (n : Int) ≤ 16 := by omega
    have hp0 : (1 : Int) ≤ (p : Int) := by omega
    have hp1 : (p : Int) ≤ 65536 := by omega
    have W1 : IntKind.i64.wrap (p : Int) = p := by rw [IntKind.wrap_i64]; omega
    have W2 : IntKind.i64.wrap ((p : Int) - 1) = (p : Int) - 1 := by rw [IntKind.wrap_i64]; omega
    go_enter Tryd.func28, Tryd.ntmps28
    go_wp2_with fail
    refine hck.mono ?_; rintro e w1 ⟨rfl, rfl⟩
    go_wp2_with fail
    go_region_held3 (fun w' => PS w A n xs w')
      (first
        | exact hS1
        | assumption
        | (exact PS.below (by assumption) (by assumption)))
      ((first
        | (go_at_call 60; refine (K.out _ _ _ (by first | exact .inl ⟨rfl, rfl⟩ | exact .inr ⟨rfl, rfl⟩)).mono ?_; rintro e w3 ⟨A', c', rfl, hI, b3⟩)))
    rename_i w2 A2 c2 hI2 b2 _
    have hS3 := (hS1.below b2).below b3
    have hJ := hI2.below b3
    have d1 := HD.out w3 hS3.1 A2 _ c2 hJ (HOK.out 0)
    have d2 := HD.out w3 hS3.1 A' _ c' hI (HOK.out (p - 1))
    rw [hn1] at d1
    rw [hn2] at d2
    have g1 : gap (num (onL xs)) 0 = num (onL xs) := by unfold gap; omega
    have g2 : gap (num (onL xs)) (p - 1) = p - 1 - num (onL xs) := by unfold gap; omega
    have hq := HQ.out
    have hB3 := hS3.2
    rw [g1] at d1
    rw [g2] at d2
    by_cases hc : num (onL xs) < p - 1 - num (onL xs)
    · have hF : farN (num (onL xs)) p = p - 1 := by rw [farN, if_pos hc]
      rw [hF] at hV hD
      rw [g2] at hD
      clear W1 W2 hP hq g1 g2 hn1 hn2 hF hS3 hS1 hx HD HOK K HQ hck
      generalize num (onL xs) = a at *
      generalize p - 1 - a = b at *
      go_wp2_with fail
      refine d1.mono ?_; rintro e w4 ⟨rfl, rfl⟩
      go_wp2_with fail
      refine d2.mono ?_; rintro e w4 ⟨rfl, rfl⟩
      go_wp2_with fail
      refine d2.mono ?_; rintro e w4 ⟨rfl, rfl⟩
      go_wp2_with fail
      go_ret3
      unfold GivF
      rw [hV.out, hD.out, H0.out, il_len, hlen]
      exact ⟨_, _, rfl, hI, hB3⟩
    · have hF : farN (num (onL xs)) p = 0 := by rw [farN, if_neg hc]
      have hc2 : p - 1 - num (onL xs) < num (onL xs) := by omega
      rw [hF] at hV hD
      rw [g1] at hD
      clear W1 W2 hP hq g1 g2 hn1 hn2 hF hS3 hS1 hx HD HOK K HQ hck
      generalize num (onL xs) = a at *
      generalize p - 1 - a = b at *
      go_wp2_with fail
      refine d1.mono ?_; rintro e w4 ⟨rfl, rfl⟩
      go_wp2_with fail
      refine d2.mono ?_; rintro e w4 ⟨rfl, rfl⟩
      go_wp2_with fail
      refine d1.mono ?_; rintro e w4 ⟨rfl, rfl⟩
      go_wp2_with fail
      go_ret3
      unfold GivF
      rw [hV.out, hD.out, H0.out, il_len, hlen]
      exact ⟨_, _, rfl, hJ, hB3⟩
  · have hne : (pchk xs != 0) = true := by simp [h0]
    have hV := Lib.hid (show farL xs = [] by rw [farL, if_neg h0])
    have hD := Lib.hid (show farD xs = 0 by rw [farD, if_neg h0])
    clear h0
    go_enter Tryd.func28, Tryd.ntmps28
    go_wp2_with fail
    refine hck.mono ?_; rintro e w1 ⟨rfl, rfl⟩
    go_wp2_with fail
    go_ret3
    unfold GivF
    rw [hV.out, hD.out]
    exact ⟨none, 0, rfl, Ints.nil_ _ _, Below.refl _ _⟩
end Go.Proofs.YtenlmjnejjdnnaaDoor

/-! Clasp: the position that is farthest away. -/
namespace Go.Proofs.YtenlmjnejjdnnaaDoor
open Go.RowKit Cl
attribute [local go_sem ↓] loadVar_bar storeVar_walk

/-- What stands while a bar is numbered. -/
def FS (w0 : World) (g5 : Nat) (cs : Array Value) (w : World) : Prop := Below w0.heap.size w0 w ∧ Whole w g5 68 cs ∧ w0.heap.size ≤ g5
theorem FS.below {w0 : World} {g5 : Nat} {cs : Array Value} {w w' : World} (h : FS w0 g5 cs w) (b : Below w.heap.size w w') : FS w0 g5 cs w' := ⟨h.1.trans (b.mono h.1.size), h.2.1.below b h.2.1.lt, h.2.2⟩
theorem FS.drew {w0 : World} {g5 : Nat} {cs : Array Value} {w : World} (h : FS w0 g5 cs w) : FS w0 g5 cs w.drew := ⟨h.1.drew, h.2.1, h.2.2⟩
theorem FS.alloc {w0 : World} {g5 : Nat} {cs : Array Value} {w : World} (h : FS w0 g5 cs w) (o : Obj) : FS w0 g5 cs (w.alloc o) := h.below ((Below.refl _ _).alloc (Nat.le_refl _) o)

theorem FS.setRow {w0 : World} {g5 : Nat} {cs : Array Value} {w : World} (h : FS w0 g5 cs w) {g : Nat} (h0 : w0.heap.size ≤ g) (hn : g5 ≠ g) (es : Array Value) : FS w0 g5 cs (w.setRow g es) := ⟨belowSetRow h.1 h0 es, h.2.1.setRow_far hn es, h.2.2⟩
def loadWalk (x : Addr) : Sem Value := loadVar 81 x
theorem loadVar_walk (x : Addr) : loadVar 81 x = loadWalk x := rfl
attribute [local go_sem ↓] loadVar_walk
/-- What stands while the way to the end is told. -/
def PW (w0 : World) (g : Nat) (ws : Array Value) (w : World) : Prop := Below w0.heap.size w0 w ∧ Whole w g 81 ws
theorem PW.below {w0 : World} {g : Nat} {ws : Array Value} {w w' : World} (h : PW w0 g ws w) (b : Below w.heap.size w w') : PW w0 g ws w' := ⟨h.1.trans (b.mono h.1.size), h.2.below b h.2.lt⟩
theorem PW.drew {w0 : World} {g : Nat} {ws : Array Value} {w : World} (h : PW w0 g ws w) : PW w0 g ws w.drew := ⟨h.1.drew, h.2⟩
theorem kNumbered (n t : Nat) (z : Int) (hz : z = (t : Int)) (hn : n ≤ 16) (ht : t < 65536) (W : World) :
    Calls Tryd.prog 59 #[.int .i64 n, .int .i64 z] W fun e w' => ∃ cs, e = .returned (.agg cs) ∧ BarC cs (pos n t) ∧ Below W.heap.size W w' := by subst hz; exact cl_numbered n t W hn ht
theorem kList (n t : Nat) (cs : Array Value) (W : World) (h : BarC cs (pos n t)) :
    Calls Tryd.prog 53 #[.agg cs] W fun e w' => ∃ A c, e = .returned (.slice A n c) ∧ Ints w' A n (il (pos n t)) ∧ Below W.heap.size W w' := by
  have := bar_list cs _ W h
  rw [pos_len] at this; exact this
theorem kLength (n a t : Nat) (z : Int) (hz : z = (t : Int)) (ha : a < 65536) (ht : t < 65536) (W : World) :
    Calls Tryd.prog 61 #[.agg #[.int .i64 (n : Int), .int .i64 (a : Int), .int .i64 z]] W fun e w' => e = .returned (.int .i64 (gap a t : Nat)) ∧ Below W.heap.size W w' := by subst hz; exact walk_length n a t ha ht W

set_option maxRecDepth 100000 in
set_option maxHeartbeats 4000000 in
theorem cl_Farthest (A : Option Addr) (n : Nat) (xs : List Int) (ca : Nat) (w : World) (hx : Ints w A n xs) (hl : n ≤ 9223372036854775807) :
    Calls Tryd.prog 27 #[.slice A n ca] w fun e w' => GivF e w w' (farL xs) (farD xs) (pchk xs) := by
  have hlaid := cl_laid A n xs ca w hx hl
  have hxl := hx.len
  by_cases h0 : pchk xs = 0
  · obtain ⟨p1, p2, p3⟩ := pchk_ok hx.len h0
    have H0 := Lib.hid h0
    have hV := Lib.hid (show farL xs = il (pos n (farN (num (onL xs)) (2 ^ n))) by rw [farL, if_pos h0, hxl])
    have hD := Lib.hid (show farD xs = gap (num (onL xs)) (farN (num (onL xs)) (2 ^ n)) by rw [farD, if_pos h0, hxl])
    have h1 := two_pow (n := n) p2
    have ha : num (onL xs) < 2 ^ n := by have := num_lt (onL xs); rwa [onL_len, hxl] at this
    have hlast := fun W => cl_last n (2 ^ n) W p2 rfl
    have hlen := fun m => pos_len n m
    have hol : (onL xs).length = n := by rw [onL_len, hxl]
    rw [h0, if_pos rfl] at hlaid
    clear h0
    go_enter Tryd.func27, Tryd.ntmps27
    go_wp2_with fail
    refine hlaid.mono ?_; rintro e w1 ⟨cs, rfl, hC, b⟩
    have hn := Whole.new w1 68 zbar
    have hB := Whole.new w1 68 cs
    have hb1 := b.alloc b.size (.cells cs 68)
    go_upto_region 4 with (first | (refine wpList_storeB (by rfl) _ _ (by rfl) _ cs (by rfl) (by rfl) _ zbar hn rfl hC.1 hC.all ?_; rw [setRow_alloc]) | (refine wpList_loadB (by rfl) _ (by rfl) _ (by rfl) _ cs hB hC.1 ?_))
    have hS1 : FS w w1.heap.size cs (w1.alloc (.cells cs 68)).drew := FS.drew ⟨hb1, hB, b.size⟩
    have K1 := Lib.hid (fun W => bar_number cs _ W hC)
    have l6 : ∀ W, FS w w1.heap.size cs W → (loadBar ⟨w1.heap.size, 0, none⟩).run Tryd.prog W = .ok (.agg cs) W := fun W h => run_loadB h.2.1 hC.1
    have c6 : ∀ W, FS w w1.heap.size cs W → W.cell? ⟨w1.heap.size, 0, none⟩ = some (.int .i64 (n : Int)) := fun W h => (h.2.1.cell 0).trans (hC.2.1.trans (by rw [hol]))
    have hE7 : ∀ a : Nat, walkA n a 0 = #[.int .i64 (n : Int), .int .i64 (a : Nat), .int .i64 0] := fun _ => rfl
    have s7 : ∀ W : World, (storeWalk ⟨W.heap.size, 0, none⟩ (.agg #[.int .i64 (n : Int), .int .i64 (num (onL xs) : Nat), .int .i64 0])).run Tryd.prog (W.alloc (.cells #[.int .i64 0, .int .i64 0, .int .i64 0] 81)) = .ok () (W.alloc (.cells #[.int .i64 (n : Int), .int .i64 (num (onL xs) : Nat), .int .i64 0] 81)) := fun W => by
      rw [← hE7, go_storeW _ _ _ ⟨_, Whole.new W _ _, rfl⟩ rfl (walk_all n (num (onL xs)) 0), setRow_alloc]
    generalize num (onL xs) = a at *
    generalize hp : 2 ^ n = p at *
    clear hp hlaid hx hn
    have sz : (w1.alloc (.cells cs 68)).heap.size = w1.heap.size + 1 := by simp
    have h81 : Whole ((w1.alloc (.cells cs 68)).alloc (.cells #[.int .i64 0, .int .i64 0, .int .i64 0] 81)).drew (w1.heap.size + 1) 81 #[.int .i64 0, .int .i64 0, .int .i64 0] := by
      have := Whole.new (w1.alloc (.cells cs 68)) 81 #[.int .i64 0, .int .i64 0, .int .i64 0]
      rw [sz] at this; exact this
    have h81l := h81.lt
    have H81 := Lib.hid h81
    have H81l := Lib.hid h81l
    have hS2 : FS w w1.heap.size cs ((w1.alloc (.cells cs 68)).alloc (.cells #[.int .i64 0, .int .i64 0, .int .i64 0] 81)).drew := FS.drew (FS.alloc (w := w1.alloc (.cells cs 68)) ⟨hb1, hB, b.size⟩ _)
    clear h81 h81l sz hb1 hB
    have hal : ∀ (W : World) (o : Obj), FS w w1.heap.size cs W → FS w w1.heap.size cs (W.alloc o) := fun W o h => h.alloc o
    go_cut [7] (fun v wx => ∃ g, v = .pointer (some ⟨g, 0, none⟩) ∧ Whole wx g 81 #[.int .i64 (n : Int), .int .i64 (a : Nat), .int .i64 0] ∧ FS w w1.heap.size cs wx ∧ w.heap.size ≤ g)
    case first =>
      go_region_with ((go_at_call 56; refine (K1.out _).mono ?_; rintro e w3 ⟨rfl, b3⟩; have hF3 := FS.below (by first | exact hS1 | exact hS2) b3; try (have s8 : (storeWalk ⟨w1.heap.size + 1, 0, none⟩ (.agg #[.int .i64 (n : Int), .int .i64 (a : Nat), .int .i64 0])).run Tryd.prog w3 = .ok () (w3.setRow (w1.heap.size + 1) #[.int .i64 (n : Int), .int .i64 (a : Nat), .int .i64 0]) := go_storeW w3 (w1.heap.size + 1) (walkA n a 0) ⟨_, H81.out.below b3 H81l.out, rfl⟩ rfl (walk_all n a 0))))
      all_goals try go_wp2_with fail
      all_goals go_meet
      all_goals first
        | exact ⟨w3.heap.size, rfl, Whole.new _ _ _, FS.alloc hF3 _, hF3.1.size⟩
        | exact ⟨w1.heap.size + 1, rfl, (H81.out.below b3 H81l.out).setRow _, FS.setRow hF3 (by have := hS1.2.2; omega) (by omega) _, by have := hS1.2.2; omega⟩
    case rest =>
      obtain ⟨g, rfl, hW7, hF, hg⟩ := hcut
      have c5 : wc.cell? ⟨w1.heap.size, 0, none⟩ = some (.int .i64 (n : Int)) := (hF.2.1.cell 0).trans (hC.2.1.trans (by rw [hol]))
      have c70 : wc.cell? ⟨g, 0, none⟩ = some (.int .i64 (n : Int)) := hW7.cell 0
      have c71 : wc.cell? ⟨g, 1, none⟩ = some (.int .i64 (a : Nat)) := hW7.cell 1
      have c72 : wc.cell? ⟨g, 2, none⟩ = some (.int .i64 0) := hW7.cell 2
      have f72 := hW7.frozen 2
      have hlastc := hlast wc
      obtain ⟨b, hb⟩ : ∃ b, b = p - 1 - a := ⟨_, rfl⟩
      have W3 : IntKind.i64.wrap ((p : Int) - 1 - (a : Int)) = (b : Int) := by rw [IntKind.wrap_i64]; omega
      clear hlast l6 c6 hS1 hS2 H81 H81l hal s7 hE7 K1
      by_cases hc : a < b
      · have hF9 : farN a p = p - 1 := by rw [farN, if_pos (by omega)]
        rw [hF9] at hV hD
        have hci : (a : Int) < (b : Int) := by omega
        have KN := Lib.hid (kNumbered n (p - 1) ((p : Int) - 1) (by omega) p2 (by omega))
        have KL := Lib.hid (kList n (p - 1))
        have KW := Lib.hid (kLength n a (p - 1) ((p : Int) - 1) (by omega) (by omega) (by omega))
        have hS8 : PW w g #[.int .i64 (n : Int), .int .i64 (a : Nat), .int .i64 ((p : Int) - 1)] (wc.setCell ⟨g, 2, none⟩ (.int .i64 ((p : Int) - 1))).drew := PW.drew ⟨hF.1.setCell hg _, hW7.set_ 2 _⟩
        have r0 : ∀ W, PW w g #[.int .i64 (n : Int), .int .i64 (a : Nat), .int .i64 ((p : Int) - 1)] W → W.cell? ⟨g, 0, none⟩ = some (.int .i64 (n : Int)) := fun W h => h.2.cell 0
        have r2 : ∀ W, PW w g #[.int .i64 (n : Int), .int .i64 (a : Nat), .int .i64 ((p : Int) - 1)] W → W.cell? ⟨g, 2, none⟩ = some (.int .i64 ((p : Int) - 1)) := fun W h => h.2.cell 2
        have r3 : ∀ W, PW w g #[.int .i64 (n : Int), .int .i64 (a : Nat), .int .i64 ((p : Int) - 1)] W → (loadWalk ⟨g, 0, none⟩).run Tryd.prog W = .ok (.agg #[.int .i64 (n : Int), .int .i64 (a : Nat), .int .i64 ((p : Int) - 1)]) W := fun W h => run_loadW h.2 rfl
        go_wp2_with fail
        refine hlastc.mono ?_; rintro e w4 ⟨rfl, rfl⟩
        go_wp2_with fail
        go_region_held3 (fun w' => PW w g #[.int .i64 (n : Int), .int .i64 (a : Nat), .int .i64 ((p : Int) - 1)] w')
          (first
            | exact hS8
            | assumption
            | (exact PW.below hS8 (by assumption))
            | (exact PW.below (PW.below hS8 (by assumption)) (by assumption))
            | (exact PW.below (PW.below (PW.below hS8 (by assumption)) (by assumption)) (by assumption)))
          ((first
            | (go_at_call 59; refine (KN.out _).mono ?_; rintro e w5 ⟨cs5, rfl, hC5, b5⟩)
            | (go_at_call 53; refine (KL.out _ _ (by assumption)).mono ?_; rintro e w6 ⟨A', c', rfl, hI6, b6⟩)
            | (go_at_call 61; refine (KW.out _).mono ?_; rintro e w7 ⟨rfl, b7⟩)))
        go_wp2_with fail
        go_ret3
        unfold GivF
        rw [hV.out, hD.out, H0.out, il_len, hlen]
        exact ⟨A', c', rfl, hI6.below b7, (PW.below (PW.below (PW.below hS8 b5) b6) b7).1⟩
      · have hF9 : farN a p = 0 := by rw [farN, if_neg (by omega)]
        rw [hF9] at hV hD
        have hci : ¬ (a : Int) < (b : Int) := by omega
        have KN := Lib.hid (kNumbered n (0) (0 : Int) (by omega) p2 (by omega))
        have KL := Lib.hid (kList n (0))
        have KW := Lib.hid (kLength n a (0) (0 : Int) (by omega) (by omega) (by omega))
        have hS8 : PW w g #[.int .i64 (n : Int), .int .i64 (a : Nat), .int .i64 (0 : Int)] wc.drew := PW.drew ⟨hF.1, hW7⟩
        have r0 : ∀ W, PW w g #[.int .i64 (n : Int), .int .i64 (a : Nat), .int .i64 (0 : Int)] W → W.cell? ⟨g, 0, none⟩ = some (.int .i64 (n : Int)) := fun W h => h.2.cell 0
        have r2 : ∀ W, PW w g #[.int .i64 (n : Int), .int .i64 (a : Nat), .int .i64 (0 : Int)] W → W.cell? ⟨g, 2, none⟩ = some (.int .i64 (0 : Int)) := fun W h => h.2.cell 2
        have r3 : ∀ W, PW w g #[.int .i64 (n : Int), .int .i64 (a : Nat), .int .i64 (0 : Int)] W → (loadWalk ⟨g, 0, none⟩).run Tryd.prog W = .ok (.agg #[.int .i64 (n : Int), .int .i64 (a : Nat), .int .i64 (0 : Int)]) W := fun W h => run_loadW h.2 rfl
        go_wp2_with fail
        refine hlastc.mono ?_; rintro e w4 ⟨rfl, rfl⟩
        go_wp2_with fail
        go_region_held3 (fun w' => PW w g #[.int .i64 (n : Int), .int .i64 (a : Nat), .int .i64 (0 : Int)] w')
          (first
            | exact hS8
            | assumption
            | (exact PW.below hS8 (by assumption))
            | (exact PW.below (PW.below hS8 (by assumption)) (by assumption))
            | (exact PW.below (PW.below (PW.below hS8 (by assumption)) (by assumption)) (by assumption)))
          ((first
            | (go_at_call 59; refine (KN.out _).mono ?_; rintro e w5 ⟨cs5, rfl, hC5, b5⟩)
            | (go_at_call 53; refine (KL.out _ _ (by assumption)).mono ?_; rintro e w6 ⟨A', c', rfl, hI6, b6⟩)
            | (go_at_call 61; refine (KW.out _).mono ?_; rintro e w7 ⟨rfl, b7⟩)))
        go_wp2_with fail
        go_ret3
        unfold GivF
        rw [hV.out, hD.out, H0.out, il_len, hlen]
        exact ⟨A', c', rfl, hI6.below b7, (PW.below (PW.below (PW.below hS8 b5) b6) b7).1⟩
  · have hne : (pchk xs != 0) = true := by simp [h0]
    have hV := Lib.hid (show farL xs = [] by rw [farL, if_neg h0])
    have hD := Lib.hid (show farD xs = 0 by rw [farD, if_neg h0])
    rw [if_neg h0] at hlaid
    clear h0
    go_enter Tryd.func27, Tryd.ntmps27
    go_wp2_with fail
    refine hlaid.mono ?_; rintro e w1 ⟨cs, rfl, hC, b⟩
    have hn := Whole.new w1 68 zbar
    have hb1 := b.alloc b.size (.cells cs 68)
    go_wp2_with (refine wpList_storeB (by rfl) _ _ (by rfl) _ cs (by rfl) (by rfl) _ zbar hn rfl hC.1 hC.all ?_; rw [setRow_alloc])
    go_ret3
    unfold GivF
    rw [hV.out, hD.out]
    exact ⟨none, 0, rfl, Ints.nil_ _ _, hb1⟩
end Go.Proofs.YtenlmjnejjdnnaaDoor

/-! The walk of ClaspNumbers. -/
namespace Go.Proofs.YtenlmjnejjdnnaaDoor
open Go.RowKit Cl

theorem posV_len (r m : Int) : (posV r m).length ≤ 16 := by
  rw [posV]; split
  · rename_i h
    rw [il_len, pos_len]
    rw [posE] at h
    split at h
    · omega
    · cases h
  · simp
theorem farL_len' (xs : List Int) : (farL xs).length ≤ 16 := by
  rw [farL]; split
  · rename_i h
    rw [il_len, pos_len]
    exact (pchk_ok (xs := xs) rfl h).2.1
  · simp

set_option maxRecDepth 100000 in
set_option maxHeartbeats 4000000 in
theorem lc_ClaspNumbers (A : Option Addr) (n : Nat) (xs : List Int) (ca : Nat) (r m : Int) (w : World) (ht : HasTab w) (hx : Ints w A n xs) (hca : n ≤ ca) (hca' : ca ≤ 9223372036854775807) :
    Calls Tryd.prog 4 #[.slice A n ca, .int .i64 r, .int .i64 m] w fun e w' => e = .returned (.bool true) ∧ Below w.heap.size w w' := by
  have hlg := lc_large A none none n 0 0 ca 0 0 w (by omega) (by omega) (by omega)
  by_cases h40 : 60 < n
  · rw [show decide (60 < n ∨ 60 < 0 ∨ 1200 < 0) = true by simp; omega] at hlg
    go_enter Tryd.func4, Tryd.ntmps4
    go_wp2_with fail
    refine hlg.mono ?_; rintro e w' ⟨rfl, rfl⟩
    go_wp2_with fail
    refine (lc_works _ ht).mono ?_; rintro e w1 ⟨rfl, hb⟩
    go_wp2_with fail
    go_ret
    exact ⟨rfl, hb⟩
  · rw [show decide (60 < n ∨ 60 < 0 ∨ 1200 < 0) = false by simp; omega] at hlg
    have hg1 := posV_len r m
    have hg2 := farL_len' xs
    go_enter Tryd.func4, Tryd.ntmps4
    go_wp2_with fail
    refine hlg.mono ?_; rintro e w' ⟨rfl, rfl⟩
    go_wp2_with fail
    refine (cl_Number A n xs ca w hx (by omega)).mono ?_; rintro e w1 ⟨rfl, HB⟩
    have HX := hx.below HB
    go_wp2_with fail
    refine (rc_Number A n xs ca w1 HX (by omega)).mono ?_; rintro e w2 ⟨rfl, rfl⟩
    go_wp2_with fail
    refine (cl_Position r m w1).mono ?_; rintro e w3 ⟨A3, c3, rfl, hI3, b⟩
    replace HX := HX.below b; replace HB := HB.trans (b.mono HB.size); clear b
    go_wp2_with fail
    refine (rc_Position r m w3).mono ?_; rintro e w4 ⟨A4, c4, rfl, hI4, b⟩
    replace HX := HX.below b; replace hI3 := hI3.below b; replace HB := HB.trans (b.mono HB.size); clear b
    go_wp2_with fail
    refine (cl_Farthest A n xs ca w4 HX (by omega)).mono ?_; rintro e w5 ⟨A5, c5, rfl, hI5, b⟩
    replace HX := HX.below b; replace hI3 := hI3.below b; replace hI4 := hI4.below b; replace HB := HB.trans (b.mono HB.size); clear b
    go_wp2_with fail
    refine (rc_Farthest A n xs ca w5 HX (by omega)).mono ?_; rintro e w6 ⟨A6, c6, rfl, hI6, b⟩
    replace HX := HX.below b; replace hI3 := hI3.below b; replace hI4 := hI4.below b; replace hI5 := hI5.below b; replace HB := HB.trans (b.mono HB.size); clear b
    go_wp2_with fail
    refine (same_refl hI3 hI4 (by omega)).mono ?_; rintro e w7 ⟨rfl, b⟩
    replace HX := HX.below b; replace hI5 := hI5.below b; replace hI6 := hI6.below b; replace HB := HB.trans (b.mono HB.size); clear b
    go_wp2_with fail
    refine (same_refl hI5 hI6 (by omega)).mono ?_; rintro e w8 ⟨rfl, b⟩
    replace HX := HX.below b; replace HB := HB.trans (b.mono HB.size); clear b
    go_wp2_with fail
    refine (lc_works _ (ht.below HB)).mono ?_; rintro e w9 ⟨rfl, b⟩
    replace HB := HB.trans (b.mono HB.size); clear b
    go_wp2_with fail
    go_ret
    exact ⟨rfl, HB⟩
end Go.Proofs.YtenlmjnejjdnnaaDoor
