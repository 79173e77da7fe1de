/- TrayBefore: the numbers are cut down; the pieces are run for each tray. -/
import Derived.Test.YtnpimbpbhbfchaaDoorTrX
namespace Go.Proofs.YtnpimbpbhbfchaaDoor.Ev
set_option linter.unusedVariables false
set_option linter.unusedSimpArgs false
set_option maxRecDepth 100000
open Go Go.Proofs Go.RowKit
noncomputable def i5 : FnI := (.mk true true (.seq (.reg (.cons (some x6x) none (.mv (.c (.b false))) .nil)) (.seq (.reg (.cons (some x21x) none (.mv (.t x0x)) (.cons (some x22x) none (.conv .i64 (.t x21x)) 
  (.cons (some x23x) none (.bin .rem (.t x22x) (.c (.n 6))) (.cons (some x24x) none (.bin .add (.c (.n 1)) (.t x23x)) (.cons (some x7x) none (.mv (.t x24x)) .nil)))))) (.seq (.draw 
  [(.mk (some x25x) none true [] false [] [] [x1x] (.mv (.t x1x)) false [] [] []), (.mk (some x26x) none true [] false [true] [] [x25x] (.conv .i64 (.t x25x)) false [] [] []), (.mk 
  (some x27x) none true [] false [false, false] [] [x7x] (.mv (.t x7x)) false [] [] []), (.mk (some x28x) none true [] false [true, false, false] [] [x27x] (.bin .shl (.c (.n 1)) 
  (.t x27x)) false [] [] []), (.mk (some x29x) none true [] false [true, true, true, true] [] [x26x, x28x] (.bin .rem (.t x26x) (.t x28x)) false [] [] []), (.mk (some x30x) none 
  true [] false [false, false, false, false, false] [] [x2x] (.mv (.t x2x)) false [] [] []), (.mk (some x31x) none true [] false [true, false, false, false, false, false] [] [x30x] 
  (.conv .i64 (.t x30x)) false [] [] []), (.mk (some x32x) none true [] false [false, false, false, false, false, false, false] [] [x7x] (.mv (.t x7x)) false [] [] []), (.mk (some 
  x33x) none true [] false [true, false, false, false, false, false, false, false] [] [x32x] (.bin .shl (.c (.n 1)) (.t x32x)) false [] [] []), (.mk (some x34x) none true [] false 
  [true, true, true, true, false, false, false, false, false] [] [x31x, x33x] (.bin .rem (.t x31x) (.t x33x)) false [] [] []), (.mk (some x8x) none true [] false [false, false, 
  false, false, false, true, true, true, true, true] [] [x29x] (.mv (.t x29x)) false [] [] []), (.mk (some x9x) none true [] false [true, true, true, true, true, true, true, true, 
  true, true, true] [] [x34x] (.mv (.t x34x)) false [] [] [])]) (.seq (.reg (.cons (some x10x) none (.mv (.c (.n 0))) (.cons (some x11x) none (.mv (.c (.n 0))) .nil))) (.seq (.seq 
  (.reg (.cons (some x35x) none (.mv (.t x7x)) (.cons (some x36x) none (.bin .shl (.c (.n 1)) (.t x35x)) (.cons (some x37x) none (.mv (.c (.n 0))) .nil)))) (.block 0 (.loop (.seq 
  (.reg (.cons (some x38x) none (.bin .lss (.t x37x) (.t x36x)) .nil)) (.seq (.cond (.t x38x) .skip (.exit 0)) (.seq (.block 1 (.seq (.reg (.cons (some x39x) none (.mv (.t x37x)) 
  (.cons (some x12x) none (.mv (.t x39x)) .nil))) (.seq (.reg (.cons (some x40x) none (.mv (.t x12x)) (.cons (some x41x) none (.call 14 (.cons (.t x40x) .nil)) (.cons (some x42x) 
  none (.mv (.t x8x)) (.cons (some x43x) none (.call 14 (.cons (.t x42x) .nil)) (.cons (some x44x) none (.bin .eql (.t x41x) (.t x43x)) .nil)))))) (.cond (.t x44x) (.seq (.reg 
  (.cons (some x45x) none (.mv (.t x11x)) (.cons (some x46x) none (.bin .add (.t x45x) (.c (.n 1))) (.cons (some x11x) none (.mv (.t x46x)) .nil)))) (.seq (.reg (.cons (some x47x) 
  none (.mv (.t x12x)) (.cons (some x48x) none (.mv (.t x8x)) (.cons (some x49x) none (.bin .lss (.t x47x) (.t x48x)) .nil)))) (.cond (.t x49x) (.reg (.cons (some x50x) none (.mv 
  (.t x10x)) (.cons (some x51x) none (.bin .add (.t x50x) (.c (.n 1))) (.cons (some x10x) none (.mv (.t x51x)) .nil)))) .skip))) .skip)))) (.reg (.cons (some x52x) none (.bin .add 
  (.t x37x) (.c (.n 1))) (.cons (some x37x) none (.mv (.t x52x)) .nil))))))))) (.seq (.reg (.cons (some x54x) none (.mv (.t x7x)) (.cons (some x55x) none (.mv (.t x8x)) (.cons 
  (some x56x) none (.call 8 (.cons (.t x55x) .nil)) (.cons (some x57x) none (.call 19 (.cons (.t x54x) (.cons (.t x56x) .nil))) (.cons (some x53x) none (.mv (.t x57x)) (.cons (some 
  x58x) none (.ext 0 (.t x53x)) (.cons (some x59x) none (.ext 1 (.t x53x)) (.cons (some x13x) none (.mv (.t x58x)) (.cons (some x14x) none (.mv (.t x59x)) .nil)))))))))) (.seq 
  (.reg (.cons (some x61x) none (.mv (.t x7x)) (.cons (some x62x) none (.mv (.t x8x)) (.cons (some x63x) none (.call 14 (.cons (.t x62x) .nil)) (.cons (some x64x) none (.mv (.t 
  x13x)) (.cons (some x65x) none (.call 16 (.cons (.t x61x) (.cons (.t x63x) (.cons (.t x64x) .nil)))) (.cons (some x60x) none (.mv (.t x65x)) (.cons (some x66x) none (.ext 0 (.t 
  x60x)) (.cons (some x67x) none (.ext 1 (.t x60x)) (.cons (some x15x) none (.mv (.t x66x)) (.cons (some x16x) none (.mv (.t x67x)) .nil))))))))))) (.seq (.reg (.cons (some x69x) 
  none (.mv (.t x7x)) (.cons (some x70x) none (.mv (.t x8x)) (.cons (some x71x) none (.call 14 (.cons (.t x70x) .nil)) (.cons (some x72x) none (.mv (.t x11x)) (.cons (some x73x) 
  none (.call 16 (.cons (.t x69x) (.cons (.t x71x) (.cons (.t x72x) .nil)))) (.cons (some x68x) none (.mv (.t x73x)) (.cons (some x74x) none (.ext 0 (.t x68x)) (.cons (some x75x) 
  none (.ext 1 (.t x68x)) (.cons (some x17x) none (.mv (.t x74x)) (.cons (some x18x) none (.mv (.t x75x)) .nil))))))))))) (.seq (.seq (.reg (.cons (some x76x) none (.mv (.t x14x)) 
  (.cons (some x77x) none (.bin .neq (.t x76x) (.c (.n 0))) (.cons (some x78x) none (.mv (.t x77x)) (.cons (some x79x) (some (.mk x78x false)) (.mv (.t x16x)) (.cons (some x80x) 
  (some (.mk x78x false)) (.bin .neq (.t x79x) (.c (.n 0))) (.cons (some x81x) none (.pick (.t x78x) (.c (.b true)) (.t x80x)) (.cons (some x82x) none (.mv (.t x81x)) (.cons (some 
  x83x) (some (.mk x82x false)) (.mv (.t x18x)) (.cons (some x84x) (some (.mk x82x false)) (.bin .neq (.t x83x) (.c (.n 2))) (.cons (some x85x) none (.pick (.t x82x) (.c (.b true)) 
  (.t x84x)) (.cons (some x86x) none (.mv (.t x85x)) (.cons (some x87x) (some (.mk x86x false)) (.mv (.t x13x)) (.cons (some x88x) (some (.mk x86x false)) (.mv (.t x10x)) (.cons 
  (some x89x) (some (.mk x86x false)) (.bin .neq (.t x87x) (.t x88x)) (.cons (some x90x) none (.pick (.t x86x) (.c (.b true)) (.t x89x)) (.cons (some x91x) none (.mv (.t x90x)) 
  (.cons (some x92x) (some (.mk x91x false)) (.mv (.t x15x)) (.cons (some x93x) (some (.mk x91x false)) (.mv (.t x8x)) (.cons (some x94x) (some (.mk x91x false)) (.call 8 (.cons 
  (.t x93x) .nil)) (.cons (some x95x) (some (.mk x91x false)) (.call 20 (.cons (.t x92x) (.cons (.t x94x) .nil))) (.cons (some x96x) (some (.mk x91x false)) (.not (.t x95x)) (.cons 
  (some x97x) none (.pick (.t x91x) (.c (.b true)) (.t x96x)) .nil))))))))))))))))))))))) (.cond (.t x97x) (.seq (.reg (.cons (some x6x) none (.mv (.c (.b false))) .nil)) .ret) 
  .skip)) (.seq (.reg (.cons (some x99x) none (.mv (.t x7x)) (.cons (some x100x) none (.mv (.t x9x)) (.cons (some x101x) none (.call 8 (.cons (.t x100x) .nil)) (.cons (some x102x) 
  none (.call 19 (.cons (.t x99x) (.cons (.t x101x) .nil))) (.cons (some x98x) none (.mv (.t x102x)) (.cons (some x103x) none (.ext 0 (.t x98x)) (.cons (some x104x) none (.ext 1 
  (.t x98x)) (.cons (some x19x) none (.mv (.t x103x)) (.cons (some x20x) none (.mv (.t x104x)) .nil)))))))))) (.seq (.reg (.cons (some x105x) none (.mv (.t x20x)) (.cons (some 
  x106x) none (.bin .eql (.t x105x) (.c (.n 0))) (.cons (some x107x) none (.mv (.t x106x)) (.cons (some x108x) (some (.mk x107x true)) (.mv (.t x8x)) (.cons (some x109x) (some (.mk 
  x107x true)) (.call 14 (.cons (.t x108x) .nil)) (.cons (some x110x) (some (.mk x107x true)) (.mv (.t x9x)) (.cons (some x111x) (some (.mk x107x true)) (.call 14 (.cons (.t x110x) 
  .nil)) (.cons (some x112x) (some (.mk x107x true)) (.bin .neq (.t x109x) (.t x111x)) (.cons (some x113x) (some (.mk x107x true)) (.mv (.t x112x)) (.cons (some x114x) (some (.mk 
  x113x false)) (.mv (.t x13x)) (.cons (some x115x) (some (.mk x113x false)) (.mv (.t x19x)) (.cons (some x116x) (some (.mk x113x false)) (.bin .lss (.t x114x) (.t x115x)) (.cons 
  (some x117x) (some (.mk x113x false)) (.mv (.t x8x)) (.cons (some x118x) (some (.mk x113x false)) (.mv (.t x9x)) (.cons (some x119x) (some (.mk x113x false)) (.bin .lss (.t 
  x117x) (.t x118x)) (.cons (some x120x) (some (.mk x113x false)) (.eqb false (.t x116x) (.t x119x)) (.cons (some x121x) (some (.mk x107x true)) (.pick (.t x113x) (.c (.b true)) 
  (.t x120x)) (.cons (some x122x) none (.pick (.t x107x) (.t x121x) (.c (.b false))) (.cons (some x123x) none (.mv (.t x122x)) (.cons (some x124x) (some (.mk x123x true)) (.call 13 
  .nil) (.cons (some x125x) none (.pick (.t x123x) (.t x124x) (.c (.b false))) (.cons (some x6x) none (.mv (.t x125x)) .nil))))))))))))))))))))))) .ret))))))))))) [(.tmp x6x)])
noncomputable def q5 : IC := i5.q
noncomputable def q5_t : IC := i5.q.snd.snd.snd.snd.snd.snd.snd.snd.snd.snd
noncomputable def res5 : List RV := i5.r
noncomputable def c5c : Code := match Tryd.f5.body with | some c => c | none => .skip
theorem b5 : Tryd.f5.body = some c5c := by kernel_rfl
theorem k5 : compC Tryd.prog drops Tryd.f5.ntmps c5c = some q5 := by kernel_rfl
theorem r5 : compRVs Tryd.prog Tryd.f5.results.toList = some res5 := by kernel_rfl
noncomputable def q5_p4 : IC := i5.q.snd.snd.snd.fst
noncomputable def q5_p5 : IC := i5.q.snd.snd.snd.snd.fst
noncomputable def q5_p6 : IC := i5.q.snd.snd.snd.snd.snd.fst
noncomputable def q5_p7 : IC := i5.q.snd.snd.snd.snd.snd.snd.fst
noncomputable def q5_p8 : IC := i5.q.snd.snd.snd.snd.snd.snd.snd.fst
noncomputable def q5_p9 : IC := i5.q.snd.snd.snd.snd.snd.snd.snd.snd.fst
noncomputable def q5_p10 : IC := i5.q.snd.snd.snd.snd.snd.snd.snd.snd.snd.fst
theorem q5_eq : q5 = (.seq (.reg (.cons (some (tp 6)) none (.mv (.c (.b false))) .nil)) (.seq (.reg (.cons (some (tp 21)) none (.mv (.t (tp 0))) (.cons (some (tp 22)) none (.conv .i64 (.t (tp 21))) (.cons (some (tp 23)) none (.bin .rem (.t (tp 22)) (.c (I 6))) (.cons (some (tp 24)) none (.bin .add (.c (I 1)) (.t (tp 23))) (.cons (some (tp 7)) none (.mv (.t (tp 24))) .nil)))))) (.seq (.draw [(.mk (some (tp 25)) none true [] false [] [] [(tp 1)] (.mv (.t (tp 1))) false [] [] []), (.mk (some (tp 26)) none true [] false [true] [] [(tp 25)] (.conv .i64 (.t (tp 25))) false [] [] []), (.mk (some (tp 27)) none true [] false [false, false] [] [(tp 7)] (.mv (.t (tp 7))) false [] [] []), (.mk (some (tp 28)) none true [] false [true, false, false] [] [(tp 27)] (.bin .shl (.c (I 1)) (.t (tp 27))) false [] [] []), (.mk (some (tp 29)) none true [] false [true, true, true, true] [] [(tp 26), (tp 28)] (.bin .rem (.t (tp 26)) (.t (tp 28))) false [] [] []), (.mk (some (tp 30)) none true [] false [false, false, false, false, false] [] [(tp 2)] (.mv (.t (tp 2))) false [] [] []), (.mk (some (tp 31)) none true [] false [true, false, false, false, false, false] [] [(tp 30)] (.conv .i64 (.t (tp 30))) false [] [] []), (.mk (some (tp 32)) none true [] false [false, false, false, false, false, false, false] [] [(tp 7)] (.mv (.t (tp 7))) false [] [] []), (.mk (some (tp 33)) none true [] false [true, false, false, false, false, false, false, false] [] [(tp 32)] (.bin .shl (.c (I 1)) (.t (tp 32))) false [] [] []), (.mk (some (tp 34)) none true [] false [true, true, true, true, false, false, false, false, false] [] [(tp 31), (tp 33)] (.bin .rem (.t (tp 31)) (.t (tp 33))) false [] [] []), (.mk (some (tp 8)) none true [] false [false, false, false, false, false, true, true, true, true, true] [] [(tp 29)] (.mv (.t (tp 29))) false [] [] []), (.mk (some (tp 9)) none true [] false [true, true, true, true, true, true, true, true, true, true, true] [] [(tp 34)] (.mv (.t (tp 34))) false [] [] [])]) (.seq q5_p4 (.seq q5_p5 (.seq q5_p6 (.seq q5_p7 (.seq q5_p8 (.seq q5_p9 (.seq q5_p10 q5_t)))))))))) := by kernel_rfl

theorem shl_pow {r : Nat} (h : r < 6) : binV .shl (I 1) (I (1 + (r : Int))) = I (((2 ^ (r + 1) : Nat) : Int)) := by
  have key : (List.range 6).map (fun r : Nat => binV .shl (I 1) (I (1 + (r : Int)))) = (List.range 6).map (fun r : Nat => I (((2 ^ (r + 1) : Nat) : Int))) := by kernel_rfl
  exact List.map_inj_left.1 key r (List.mem_range.2 h)
/-- How many smaller trays have as many dyes. -/
def rkT : List Nat := [0, 0, 1, 0, 2, 1, 2, 0, 3, 3, 4, 1, 5, 2, 3, 0, 4, 6, 7, 4, 8, 5, 6, 1, 9, 7, 8, 2, 9, 3, 4, 0, 5, 10, 11, 10, 12, 11, 12, 5, 13, 13, 14, 6, 15, 7, 8, 1, 14, 16, 17, 9, 18, 10, 11, 2, 19, 12, 13, 3, 14, 4, 5, 0]
def rk (x : Nat) : Nat := rkT.getD x 0
/-- A piece is as good from a later place on. -/
theorem JQ.up {P : Program} {dr : List Nat} {N lim n n2 : Nat} {F : FF} {q : IC} {K : Rs → Prop} {e : Tr} {h : Hp} (hn : n ≤ n2) (j : JQ P dr N F q lim K e h n2) : JQ P dr N F q lim K e h n := fun c hc a g w he m hd hf =>
  wp_mono (j c hc a g w he m (fun p b hp => Nat.lt_of_lt_of_le (hd p b hp) hn) (fun p hp => hf p (Nat.le_trans hn hp))) fun ex a' w' ⟨r, k, t, p⟩ => ⟨r, k, t, by
    have key : ∀ {n' : Nat} {g' : Sig} {h' : Hm} {w' : World}, Fr lim n2 g h.get w n' g' h' w' → Fr lim n g h.get w n' g' h' w' := fun f =>
      { f with
        le := Nat.le_trans hn f.le
        sig := fun p hp => f.sig p (by omega)
        dom := fun p b e => ⟨fun hp => (f.dom p b e).1 (by omega), (f.dom p b e).2⟩
        new := fun p r base tot h1 h2 e => by
          by_cases h3 : n2 ≤ p.num
          · exact f.new p r base tot h3 h2 e
          · rw [f.sig p (.inl (by omega)), hf p h1] at e; cases e }
    cases r with
    | no => exact p
    | nor => obtain ⟨h1, h2, g', h3, h4, h5⟩ := p; exact ⟨h1, h2, g', h3, h4, key h5⟩
    | ext => obtain ⟨h1, h2, g', h3, h4, h5⟩ := p; exact ⟨h1, h2, g', h3, h4, key h5⟩
    | ret => obtain ⟨h1, h2, g', h3, h4, h5⟩ := p; exact ⟨h1, h2, g', h3, h4, key h5⟩⟩
noncomputable def e0 (y : V) (r t : Nat) : Tr := (((Tr.lf.set (.b false) (tp 6)).set (I (1 + (r : Int))) (tp 7)).set (I (t : Int)) (tp 8)).set y (tp 9)
noncomputable def nxt (q : IC) (r : Rs) : Rs := (kC q nK).f (EW 40) (gK + 1) (rsE r) (rsH r) (rsN r)
noncomputable def R4 (el : Nat) (y : V) (p : Nat × Nat) : Rs := (kC q5_p4 nK).f (EW 40) (gK + 1) (e0 y p.1 p.2) (tbH el) (gK + 1)
noncomputable def R5 (el : Nat) (y : V) (p : Nat × Nat) : Rs := nxt q5_p5 (R4 el y p)
noncomputable def R6 (el : Nat) (y : V) (p : Nat × Nat) : Rs := nxt q5_p6 (R5 el y p)
noncomputable def R7 (el : Nat) (y : V) (p : Nat × Nat) : Rs := nxt q5_p7 (R6 el y p)
noncomputable def R8 (el : Nat) (y : V) (p : Nat × Nat) : Rs := nxt q5_p8 (R7 el y p)
noncomputable def R9 (el : Nat) (y : V) (p : Nat × Nat) : Rs := nxt q5_p9 (R8 el y p)
/-- What is to be known behind the pieces up to the ninth. -/
noncomputable def isNor (r : Rs) : Bool := Rs.rec (motive := fun _ => Bool) false (fun _ _ n => Nat.ble n 16384) (fun _ _ _ _ => false) (fun _ _ _ => false) r
noncomputable def tabB (r : Rs) : Option Blk := (rsH r).get (tp 1)
noncomputable def chk9 (el : Nat) (y : V) (p : Nat × Nat) : Bool := and (isNor (R4 el y p)) (and (isNor (R5 el y p)) (and (isNor (R6 el y p)) (and (isNor (R7 el y p)) (and (isNor (R8 el y p)) (isNor (R9 el y p))))))
noncomputable def row9 (el : Nat) (y : V) (p : Nat × Nat) : V × V × V × V × V × Option Blk := ((rsE (R9 el y p)).get (tp 6), (rsE (R9 el y p)).get (tp 7), (rsE (R9 el y p)).get (tp 8), (rsE (R9 el y p)).get (tp 9), (rsE (R9 el y p)).get (tp 13), tabB (R9 el y p))
noncomputable def is9 (el : Nat) (y : V) (p : Nat × Nat) : V × V × V × V × V × Option Blk := (.b false, I (1 + (p.1 : Int)), I (p.2 : Int), y, I (rk p.2 : Nat), some ⟨el, 64, 64, kL .u8 zs64, .lf⟩)
noncomputable def full9 (el : Nat) (y : V) (p : Nat × Nat) : Bool × V × V × V × V × V × Option Blk := (chk9 el y p, row9 el y p)
noncomputable def e1 (a b : V) (r y : Nat) : Tr := ((((Tr.lf.set (.b false) (tp 6)).set (I (1 + (r : Int))) (tp 7)).set a (tp 8)).set (I (y : Int)) (tp 9)).set b (tp 13)
noncomputable def R10 (el : Nat) (a b : V) (p : Nat × Nat) : Rs := (kC q5_p10 nK).f (EW 40) (gK + 1) (e1 a b p.1 p.2) (tbH el) 16384
noncomputable def isNor2 (r : Rs) : Bool := Rs.rec (motive := fun _ => Bool) false (fun _ _ n => Nat.ble n 32768) (fun _ _ _ _ => false) (fun _ _ _ => false) r
noncomputable def full10 (el : Nat) (a b : V) (p : Nat × Nat) : Bool × V × V × V × V × V × V × Option Blk := (isNor2 (R10 el a b p), (rsE (R10 el a b p)).get (tp 6), (rsE (R10 el a b p)).get (tp 8), (rsE (R10 el a b p)).get (tp 9), (rsE (R10 el a b p)).get (tp 13), (rsE (R10 el a b p)).get (tp 19), (rsE (R10 el a b p)).get (tp 20), tabB (R10 el a b p))
noncomputable def is10 (el : Nat) (a b : V) (p : Nat × Nat) : Bool × V × V × V × V × V × V × Option Blk := (true, .b false, a, I (p.2 : Int), b, I (rk p.2 : Nat), I 0, some ⟨el, 64, 64, kL .u8 zs64, .lf⟩)
noncomputable def eT (t y : Nat) : Tr := (((((Tr.lf.set (.b false) (tp 6)).set (I (t : Int)) (tp 8)).set (I (y : Int)) (tp 9)).set (I (rk t : Nat)) (tp 13)).set (I (rk y : Nat)) (tp 19)).set (I 0) (tp 20)
noncomputable def tlB (el t y : Nat) : Bool := finR res5 ((kC q5_t nK).f (EW 40) (gK + 1) (eT t y) (tbH el) 32768)
end Go.Proofs.YtnpimbpbhbfchaaDoor.Ev
