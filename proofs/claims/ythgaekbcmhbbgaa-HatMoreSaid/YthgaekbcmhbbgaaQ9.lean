/- The texts TmQ, TmA, TmB, TmC, TmD, EvPc, EvPd, EvPe, TmE1, TmE0, TmE, TmF. -/
import Derived.Test.YthgaekbcmhbbgaaQ8
import Derived.Test.YthgaekbcmhbbgaaQ6
import Derived.Test.YthgaekbcmhbbgaaQ7
/- The compiled functions of codes, in the calculus' words. -/
namespace Go.Proofs.Ythgaekbcmhbbgaa.Ev
set_option linter.unusedVariables false
set_option maxRecDepth 100000
open Go Go.Proofs Go.RowKit
noncomputable def q15_l0 : IC := (.seq (.seq (.reg (.cons (some (tp 5)) none (.mv (.t (tp 0))) (.cons (some (tp 6)) none (.mv (.t (tp 4))) (.cons (some (tp 7)) none (.bin .shr (.t (tp 5)) (.t (tp 6))) (.cons (some 
  (tp 8)) none (.bin .neq (.t (tp 7)) (.c (I 0))) .nil))))) (.cond (.t (tp 8)) .skip (.exit 0))) (.seq (.block 1 (.seq (.reg (.cons (some (tp 11)) none (.mv (.t (tp 0))) (.cons 
  (some (tp 12)) none (.mv (.t (tp 4))) (.cons (some (tp 13)) none (.bin .shr (.t (tp 11)) (.t (tp 12))) (.cons (some (tp 14)) none (.bin .and (.t (tp 13)) (.c (I 1))) (.cons (some 
  (tp 15)) none (.bin .eql (.t (tp 14)) (.c (I 1))) .nil)))))) (.cond (.t (tp 15)) (.reg (.cons (some (tp 16)) none (.mv (.t (tp 3))) (.cons (some (tp 17)) none (.mv (.t (tp 4))) 
  (.cons (some (tp 18)) none (.bsl 3 1 1 (.cons (I 0) .nil) (.cons 0 1 (.t (tp 17)) .nil)) (.cons (some (tp 19)) none (.app 3 1 8 (.t (tp 16)) (.t (tp 18))) (.cons (some (tp 3)) 
  none (.mv (.t (tp 19))) .nil)))))) .skip))) (.reg (.cons (some (tp 9)) none (.mv (.t (tp 4))) (.cons (some (tp 10)) none (.bin .add (.t (tp 9)) (.c (I 1))) (.cons (some (tp 4)) 
  none (.mv (.t (tp 10))) .nil))))))
noncomputable def q15 : IC := (.seq (.reg (.cons (some (tp 2)) none (.mv (.c .ns)) .nil)) (.seq (.reg (.cons (some (tp 3)) none (.mv (.c .ns)) .nil)) (.seq (.seq (.reg (.cons (some (tp 4)) none (.mv (.c (I 0))) 
  .nil)) (.block 0 (IC.loop q15_l0))) (.seq (.reg (.cons (some (tp 20)) none (.mv (.t (tp 3))) (.cons (some (tp 2)) none (.mv (.t (tp 20))) .nil))) .ret))))
noncomputable def res15 : List RV := [(.tmp (tp 2))]
noncomputable def c15c : Code := match Try.f15.body with | some c => c | none => .skip
theorem b15 : Try.f15.body = some c15c := by kernel_rfl
theorem k15 : compC Try.prog drops Try.f15.ntmps c15c = some q15 := by kernel_rfl
theorem r15 : compRVs Try.prog Try.f15.results.toList = some res15 := by kernel_rfl
theorem n15 : (Try.f15.name == "runtime.NumGoroutine") = false := by kernel_rfl
noncomputable def q44 : IC := (.seq (.reg (.cons (some (tp 2)) none (.mv (.c (.b false))) .nil)) (.seq (.reg (.cons (some (tp 3)) none (.mv (.t (tp 0))) (.cons (some (tp 4)) none (.bin .geq (.t (tp 3)) (.c (I 
  1))) (.cons (some (tp 5)) none (.mv (.t (tp 4))) (.cons (some (tp 6)) (some (.mk (tp 5) true)) (.mv (.t (tp 0))) (.cons (some (tp 7)) (some (.mk (tp 5) true)) (.bin .leq (.t (tp 
  6)) (.c (I 7))) (.cons (some (tp 8)) none (.pick (.t (tp 5)) (.t (tp 7)) (.c (.b false))) (.cons (some (tp 2)) none (.mv (.t (tp 8))) .nil)))))))) .ret))
noncomputable def res44 : List RV := [(.tmp (tp 2))]
noncomputable def c44c : Code := match Try.f44.body with | some c => c | none => .skip
theorem b44 : Try.f44.body = some c44c := by kernel_rfl
theorem k44 : compC Try.prog drops Try.f44.ntmps c44c = some q44 := by kernel_rfl
theorem r44 : compRVs Try.prog Try.f44.results.toList = some res44 := by kernel_rfl
theorem n44 : (Try.f44.name == "runtime.NumGoroutine") = false := by kernel_rfl
noncomputable def q56 : IC := (.seq (.reg (.cons (some (tp 2)) none (.mv (.c (I 0))) .nil)) (.seq (.reg (.cons (some (tp 3)) none (.mv (.t (tp 0))) (.cons (some (tp 4)) none (.bin .shl (.c (I 1)) (.t (tp 3))) 
  (.cons (some (tp 2)) none (.mv (.t (tp 4))) .nil)))) .ret))
noncomputable def res56 : List RV := [(.tmp (tp 2))]
noncomputable def c56c : Code := match Try.f56.body with | some c => c | none => .skip
theorem b56 : Try.f56.body = some c56c := by kernel_rfl
theorem k56 : compC Try.prog drops Try.f56.ntmps c56c = some q56 := by kernel_rfl
theorem r56 : compRVs Try.prog Try.f56.results.toList = some res56 := by kernel_rfl
theorem n56 : (Try.f56.name == "runtime.NumGoroutine") = false := by kernel_rfl
noncomputable def q51 : IC := (.seq (.reg (.cons (some (tp 4)) none (.mv (.c (.b false))) .nil)) (.seq (.reg (.cons (some (tp 5)) none (.mv (.t (tp 1))) (.cons (some (tp 6)) none (.bin .geq (.t (tp 5)) (.c (I 
  0))) (.cons (some (tp 7)) none (.mv (.t (tp 6))) (.cons (some (tp 8)) (some (.mk (tp 7) true)) (.mv (.t (tp 1))) (.cons (some (tp 9)) (some (.mk (tp 7) true)) (.mv (.t (tp 0))) 
  (.cons (some (tp 10)) (some (.mk (tp 7) true)) (.call 56 (.cons (.t (tp 9)) .nil)) (.cons (some (tp 11)) (some (.mk (tp 7) true)) (.bin .lss (.t (tp 8)) (.t (tp 10))) (.cons 
  (some (tp 12)) none (.pick (.t (tp 7)) (.t (tp 11)) (.c (.b false))) (.cons (some (tp 4)) none (.mv (.t (tp 12))) .nil)))))))))) .ret))
noncomputable def res51 : List RV := [(.tmp (tp 4))]
noncomputable def c51c : Code := match Try.f51.body with | some c => c | none => .skip
theorem b51 : Try.f51.body = some c51c := by kernel_rfl
theorem k51 : compC Try.prog drops Try.f51.ntmps c51c = some q51 := by kernel_rfl
theorem r51 : compRVs Try.prog Try.f51.results.toList = some res51 := by kernel_rfl
theorem n51 : (Try.f51.name == "runtime.NumGoroutine") = false := by kernel_rfl
noncomputable def q61 : IC := (.seq (.reg (.cons (some (tp 4)) none (.mv (.c (I 0))) .nil)) (.seq (.reg (.cons (some (tp 5)) none (.mv (.t (tp 0))) (.cons (some (tp 6)) none (.mv (.t (tp 1))) (.cons (some (tp 
  7)) none (.bin .shl (.c (I 1)) (.t (tp 6))) (.cons (some (tp 8)) none (.bin .xor (.t (tp 5)) (.t (tp 7))) (.cons (some (tp 4)) none (.mv (.t (tp 8))) .nil)))))) .ret))
noncomputable def res61 : List RV := [(.tmp (tp 4))]
noncomputable def c61c : Code := match Try.f61.body with | some c => c | none => .skip
theorem b61 : Try.f61.body = some c61c := by kernel_rfl
theorem k61 : compC Try.prog drops Try.f61.ntmps c61c = some q61 := by kernel_rfl
theorem r61 : compRVs Try.prog Try.f61.results.toList = some res61 := by kernel_rfl
theorem n61 : (Try.f61.name == "runtime.NumGoroutine") = false := by kernel_rfl
noncomputable def q32_l0 : IC := (.seq (.reg (.cons (some (tp 13)) none (.bin .lss (.t (tp 12)) (.t (tp 11))) .nil)) (.seq (.cond (.t (tp 13)) .skip (.exit 0)) (.seq (.block 1 (.seq (.reg (.cons (some (tp 14)) 
  none (.mv (.t (tp 12))) (.cons (some (tp 15)) none (.ixs 1 (.t (tp 10)) (.t (tp 12))) (.cons (some (tp 16)) none (.ld 1 false (.t (tp 15))) (.cons (some (tp 5)) none (.mv (.t (tp 
  14))) (.cons (some (tp 6)) none (.mv (.t (tp 16))) .nil)))))) (.seq (.seq (.reg (.cons (some (tp 17)) none (.mv (.t (tp 0))) (.cons (some (tp 18)) none (.mv (.t (tp 6))) (.cons 
  (some (tp 19)) none (.call 51 (.cons (.t (tp 17)) (.cons (.t (tp 18)) .nil))) (.cons (some (tp 20)) none (.not (.t (tp 19))) .nil))))) (.cond (.t (tp 20)) (.seq (.reg (.cons 
  (some (tp 4)) none (.mv (.c (I 2))) .nil)) .ret) .skip)) (.seq (.reg (.cons (some (tp 21)) none (.mv (.t (tp 5))) (.cons (some (tp 22)) none (.bin .gtr (.t (tp 21)) (.c (I 0))) 
  (.cons (some (tp 23)) none (.mv (.t (tp 22))) (.cons (some (tp 24)) (some (.mk (tp 23) true)) (.mv (.t (tp 6))) (.cons (some (tp 25)) (some (.mk (tp 23) true)) (.mv (.t (tp 1))) 
  (.cons (some (tp 26)) (some (.mk (tp 23) true)) (.mv (.t (tp 5))) (.cons (some (tp 27)) (some (.mk (tp 23) true)) (.bin .sub (.t (tp 26)) (.c (I 1))) (.cons (some (tp 28)) (some 
  (.mk (tp 23) true)) (.ixs 1 (.t (tp 25)) (.t (tp 27))) (.cons (some (tp 29)) (some (.mk (tp 23) true)) (.ld 1 false (.t (tp 28))) (.cons (some (tp 30)) (some (.mk (tp 23) true)) 
  (.bin .leq (.t (tp 24)) (.t (tp 29))) (.cons (some (tp 31)) none (.pick (.t (tp 23)) (.t (tp 30)) (.c (.b false))) .nil)))))))))))) (.cond (.t (tp 31)) (.seq (.reg (.cons (some 
  (tp 4)) none (.mv (.c (I 7))) .nil)) .ret) .skip))))) (.reg (.cons (some (tp 32)) none (.bin .add (.t (tp 12)) (.c (I 1))) (.cons (some (tp 12)) none (.mv (.t (tp 32))) 
  .nil))))))
noncomputable def q32 : IC := (.seq (.reg (.cons (some (tp 4)) none (.mv (.c (I 0))) .nil)) (.seq (.seq (.reg (.cons (some (tp 7)) none (.mv (.t (tp 0))) (.cons (some (tp 8)) none (.call 44 (.cons (.t (tp 7)) 
  .nil)) (.cons (some (tp 9)) none (.not (.t (tp 8))) .nil)))) (.cond (.t (tp 9)) (.seq (.reg (.cons (some (tp 4)) none (.mv (.c (I 1))) .nil)) .ret) .skip)) (.seq (.seq (.reg 
  (.cons (some (tp 10)) none (.mv (.t (tp 1))) (.cons (some (tp 11)) none (.len (.t (tp 10))) (.cons (some (tp 12)) none (.mv (.c (I 0))) .nil)))) (.block 0 (IC.loop q32_l0))) 
  (.seq (.reg (.cons (some (tp 4)) none (.mv (.c (I 0))) .nil)) .ret))))
noncomputable def res32 : List RV := [(.tmp (tp 4))]
noncomputable def c32c : Code := match Try.f32.body with | some c => c | none => .skip
theorem b32 : Try.f32.body = some c32c := by kernel_rfl
theorem k32 : compC Try.prog drops Try.f32.ntmps c32c = some q32 := by kernel_rfl
theorem r32 : compRVs Try.prog Try.f32.results.toList = some res32 := by kernel_rfl
theorem n32 : (Try.f32.name == "runtime.NumGoroutine") = false := by kernel_rfl
noncomputable def q33_l0 : IC := (.seq (.reg (.cons (some (tp 26)) none (.bin .lss (.t (tp 25)) (.t (tp 24))) .nil)) (.seq (.cond (.t (tp 26)) .skip (.exit 2)) (.seq (.block 3 (.seq (.reg (.cons (some (tp 27)) 
  none (.mv (.t (tp 25))) (.cons (some (tp 8)) none (.mv (.t (tp 27))) .nil))) (.reg (.cons (some (tp 28)) none (.mv (.t (tp 5))) (.cons (some (tp 29)) none (.mv (.t (tp 7))) 
  (.cons (some (tp 30)) none (.mv (.t (tp 8))) (.cons (some (tp 31)) none (.call 61 (.cons (.t (tp 29)) (.cons (.t (tp 30)) .nil))) (.cons (some (tp 32)) none (.ixs 1 (.t (tp 28)) 
  (.t (tp 31))) (.cons (some (tp 33)) none (.ld 1 false (.t (tp 32))) (.cons (some (tp 34)) none (.bin .add (.t (tp 33)) (.c (I 1))) (.cons (some (tp 35)) none (.ixs 1 (.t (tp 28)) 
  (.t (tp 31))) (.cons none none (.st 1 (.t (tp 35)) (.t (tp 34))) .nil)))))))))))) (.reg (.cons (some (tp 36)) none (.bin .add (.t (tp 25)) (.c (I 1))) (.cons (some (tp 25)) none 
  (.mv (.t (tp 36))) .nil))))))
noncomputable def q33_l1 : IC := (.seq (.reg (.cons (some (tp 15)) none (.bin .lss (.t (tp 14)) (.t (tp 13))) .nil)) (.seq (.cond (.t (tp 15)) .skip (.exit 0)) (.seq (.block 1 (.seq (.reg (.cons (some (tp 16)) 
  none (.ixs 1 (.t (tp 12)) (.t (tp 14))) (.cons (some (tp 17)) none (.ld 1 false (.t (tp 16))) (.cons (some (tp 7)) none (.mv (.t (tp 17))) .nil)))) (.seq (.reg (.cons (some (tp 
  18)) none (.mv (.t (tp 5))) (.cons (some (tp 19)) none (.mv (.t (tp 7))) (.cons (some (tp 20)) none (.ixs 1 (.t (tp 18)) (.t (tp 19))) (.cons (some (tp 21)) none (.ld 1 false (.t 
  (tp 20))) (.cons (some (tp 22)) none (.bin .add (.t (tp 21)) (.c (I 1))) (.cons (some (tp 23)) none (.ixs 1 (.t (tp 18)) (.t (tp 19))) (.cons none none (.st 1 (.t (tp 23)) (.t 
  (tp 22))) .nil)))))))) (.seq (.reg (.cons (some (tp 24)) none (.mv (.t (tp 0))) (.cons (some (tp 25)) none (.mv (.c (I 0))) .nil))) (.block 2 (IC.loop q33_l0)))))) (.reg (.cons 
  (some (tp 37)) none (.bin .add (.t (tp 14)) (.c (I 1))) (.cons (some (tp 14)) none (.mv (.t (tp 37))) .nil))))))
noncomputable def q33 : IC := (.seq (.reg (.cons (some (tp 4)) none (.mv (.c .ns)) .nil)) (.seq (.reg (.cons (some (tp 9)) none (.mv (.t (tp 0))) (.cons (some (tp 10)) none (.call 56 (.cons (.t (tp 9)) .nil)) 
  (.cons (some (tp 11)) none (.mks 3 1 8 1 (.cons (I 0) .nil) (.t (tp 10)) (.t (tp 10))) (.cons (some (tp 5)) none (.mv (.t (tp 11))) .nil))))) (.seq (.seq (.reg (.cons (some (tp 
  12)) none (.mv (.t (tp 1))) (.cons (some (tp 13)) none (.len (.t (tp 12))) (.cons (some (tp 14)) none (.mv (.c (I 0))) .nil)))) (.block 0 (IC.loop q33_l1))) (.seq (.reg (.cons 
  (some (tp 38)) none (.mv (.t (tp 5))) (.cons (some (tp 4)) none (.mv (.t (tp 38))) .nil))) .ret))))
noncomputable def res33 : List RV := [(.tmp (tp 4))]
noncomputable def c33c : Code := match Try.f33.body with | some c => c | none => .skip
theorem b33 : Try.f33.body = some c33c := by kernel_rfl
theorem k33 : compC Try.prog drops Try.f33.ntmps c33c = some q33 := by kernel_rfl
theorem r33 : compRVs Try.prog Try.f33.results.toList = some res33 := by kernel_rfl
theorem n33 : (Try.f33.name == "runtime.NumGoroutine") = false := by kernel_rfl
noncomputable def q7 : IC := (.seq (.reg (.cons (some (tp 4)) none (.mv (.c .ns)) (.cons (some (tp 5)) none (.mv (.c (I 0))) .nil))) (.seq (.seq (.reg (.cons (some (tp 7)) none (.mv (.t (tp 0))) (.cons (some 
  (tp 8)) none (.mv (.t (tp 1))) (.cons (some (tp 9)) none (.call 32 (.cons (.t (tp 7)) (.cons (.t (tp 8)) .nil))) (.cons (some (tp 6)) none (.mv (.t (tp 9))) .nil))))) (.seq (.reg 
  (.cons (some (tp 10)) none (.mv (.t (tp 6))) (.cons (some (tp 11)) none (.bin .neq (.t (tp 10)) (.c (I 0))) .nil))) (.cond (.t (tp 11)) (.seq (.reg (.cons (some (tp 12)) none 
  (.mv (.t (tp 6))) (.cons (some (tp 4)) none (.mv (.c .ns)) (.cons (some (tp 5)) none (.mv (.t (tp 12))) .nil)))) .ret) .skip))) (.seq (.reg (.cons (some (tp 13)) none (.mv (.t 
  (tp 0))) (.cons (some (tp 14)) none (.mv (.t (tp 1))) (.cons (some (tp 15)) none (.call 33 (.cons (.t (tp 13)) (.cons (.t (tp 14)) .nil))) (.cons (some (tp 4)) none (.mv (.t (tp 
  15))) (.cons (some (tp 5)) none (.mv (.c (I 0))) .nil)))))) .ret)))
noncomputable def res7 : List RV := [(.tmp (tp 4)), (.tmp (tp 5))]
noncomputable def c7c : Code := match Try.f7.body with | some c => c | none => .skip
theorem b7 : Try.f7.body = some c7c := by kernel_rfl
theorem k7 : compC Try.prog drops Try.f7.ntmps c7c = some q7 := by kernel_rfl
theorem r7 : compRVs Try.prog Try.f7.results.toList = some res7 := by kernel_rfl
theorem n7 : (Try.f7.name == "runtime.NumGoroutine") = false := by kernel_rfl
noncomputable def q5_l0 : IC := (.seq (.reg (.cons (some (tp 75)) none (.bin .lss (.t (tp 74)) (.t (tp 73))) .nil)) (.seq (.cond (.t (tp 75)) .skip (.exit 0)) (.seq (.block 1 (.seq (.reg (.cons (some (tp 76)) 
  none (.mv (.t (tp 74))) (.cons (some (tp 14)) none (.mv (.t (tp 76))) .nil))) (.seq (.reg (.cons (some (tp 77)) none (.mv (.t (tp 14))) (.cons (some (tp 78)) none (.mv (.t (tp 
  9))) (.cons (some (tp 79)) none (.bin .xor (.t (tp 77)) (.t (tp 78))) (.cons (some (tp 15)) none (.mv (.t (tp 79))) .nil))))) (.seq (.reg (.cons (some (tp 16)) none (.mv (.c (I 
  0))) .nil)) (.seq (.seq (.reg (.cons (some (tp 80)) none (.mv (.t (tp 15))) (.cons (some (tp 81)) none (.mv (.t (tp 15))) (.cons (some (tp 82)) none (.bin .sub (.t (tp 81)) (.c 
  (I 1))) (.cons (some (tp 83)) none (.bin .and (.t (tp 80)) (.t (tp 82))) (.cons (some (tp 84)) none (.bin .eql (.t (tp 83)) (.c (I 0))) .nil)))))) (.cond (.t (tp 84)) (.reg 
  (.cons (some (tp 16)) none (.mv (.c (I 1))) .nil)) .skip)) (.seq (.draw [(.mk (some (tp 85)) none true [] false [] [] [(tp 12)] (.mv (.t (tp 12))) false [] [] []), (.mk (some (tp 
  86)) none true [] false [false] [] [(tp 14)] (.mv (.t (tp 14))) false [] [] []), (.mk (some (tp 87)) none true [] false [true, true] [] [(tp 85), (tp 86)] (.ixs 1 (.t (tp 85)) 
  (.t (tp 86))) false [] [] []), (.mk (some (tp 88)) none false [] false [true, true, true] [] [(tp 87)] (.ld 1 false (.t (tp 87))) false [] [] []), (.mk (some (tp 89)) none true 
  [] false [false, false, false, false] [] [(tp 10)] (.mv (.t (tp 10))) false [] [] []), (.mk (some (tp 90)) none true [] false [false, false, false, false, false] [] [(tp 14)] 
  (.mv (.t (tp 14))) false [] [] []), (.mk (some (tp 91)) none true [] false [true, true, false, false, false, false] [] [(tp 89), (tp 90)] (.ixs 1 (.t (tp 89)) (.t (tp 90))) false 
  [] [] []), (.mk (some (tp 92)) none false [] false [true, true, true, false, false, false, false] [] [(tp 91)] (.ld 1 false (.t (tp 91))) false [] [] []), (.mk (some (tp 93)) 
  none true [] false [true, true, true, true, true, true, true, true] [] [(tp 88), (tp 92)] (.bin .sub (.t (tp 88)) (.t (tp 92))) false [] [] []), (.mk (some (tp 94)) none true [] 
  false [false, false, false, false, false, false, false, false, false] [] [(tp 16)] (.mv (.t (tp 16))) false [] [] []), (.mk (some (tp 95)) none true [] false [true, true, true, 
  true, true, true, true, true, true, true] [] [(tp 93), (tp 94)] (.bin .neq (.t (tp 93)) (.t (tp 94))) false [] [] [])]) (.cond (.t (tp 95)) (.seq (.reg (.cons (some (tp 6)) none 
  (.mv (.c (.b false))) .nil)) .ret) .skip))))))) (.reg (.cons (some (tp 96)) none (.bin .add (.t (tp 74)) (.c (I 1))) (.cons (some (tp 74)) none (.mv (.t (tp 96))) .nil))))))
noncomputable def q5 : IC := (.seq (.reg (.cons (some (tp 6)) none (.mv (.c (.b false))) .nil)) (.seq (.reg (.cons (some (tp 17)) none (.mv (.t (tp 0))) (.cons (some (tp 18)) none (.conv .i64 (.t (tp 17))) 
  (.cons (some (tp 19)) none (.bin .rem (.t (tp 18)) (.c (I 4))) (.cons (some (tp 20)) none (.bin .add (.c (I 1)) (.t (tp 19))) (.cons (some (tp 7)) none (.mv (.t (tp 20))) 
  .nil)))))) (.seq (.reg (.cons (some (tp 21)) none (.mv (.t (tp 1))) (.cons (some (tp 22)) none (.conv .i64 (.t (tp 21))) (.cons (some (tp 23)) none (.mv (.t (tp 7))) (.cons (some 
  (tp 24)) none (.bin .shl (.c (.i .u64 (.ofNat 1))) (.t (tp 23))) (.cons (some (tp 25)) none (.bin .shl (.c (I 1)) (.t (tp 24))) (.cons (some (tp 26)) none (.bin .rem (.t (tp 22)) 
  (.t (tp 25))) (.cons (some (tp 8)) none (.mv (.t (tp 26))) .nil)))))))) (.seq (.reg (.cons (some (tp 27)) none (.mv (.t (tp 2))) (.cons (some (tp 28)) none (.conv .i64 (.t (tp 
  27))) (.cons (some (tp 29)) none (.mv (.t (tp 7))) (.cons (some (tp 30)) none (.bin .shl (.c (I 1)) (.t (tp 29))) (.cons (some (tp 31)) none (.bin .rem (.t (tp 28)) (.t (tp 30))) 
  (.cons (some (tp 9)) none (.mv (.t (tp 31))) .nil))))))) (.seq (.reg (.cons (some (tp 33)) none (.mv (.t (tp 7))) (.cons (some (tp 34)) none (.mv (.t (tp 8))) (.cons (some (tp 
  35)) none (.mv (.t (tp 9))) (.cons (some (tp 36)) none (.bin .shl (.c (I 1)) (.t (tp 35))) (.cons (some (tp 37)) none (.bin .andNot (.t (tp 34)) (.t (tp 36))) (.cons (some (tp 
  38)) none (.call 15 (.cons (.t (tp 37)) .nil)) (.cons (some (tp 39)) none (.call 7 (.cons (.t (tp 33)) (.cons (.t (tp 38)) .nil))) (.cons (some (tp 32)) none (.mv (.t (tp 39))) 
  (.cons (some (tp 40)) none (.ext 0 (.t (tp 32))) (.cons (some (tp 41)) none (.ext 1 (.t (tp 32))) (.cons (some (tp 10)) none (.mv (.t (tp 40))) (.cons (some (tp 11)) none (.mv 
  (.t (tp 41))) .nil))))))))))))) (.seq (.reg (.cons (some (tp 43)) none (.mv (.t (tp 7))) (.cons (some (tp 44)) none (.mv (.t (tp 8))) (.cons (some (tp 45)) none (.mv (.t (tp 9))) 
  (.cons (some (tp 46)) none (.bin .shl (.c (I 1)) (.t (tp 45))) (.cons (some (tp 47)) none (.bin .or (.t (tp 44)) (.t (tp 46))) (.cons (some (tp 48)) none (.call 15 (.cons (.t (tp 
  47)) .nil)) (.cons (some (tp 49)) none (.call 7 (.cons (.t (tp 43)) (.cons (.t (tp 48)) .nil))) (.cons (some (tp 42)) none (.mv (.t (tp 49))) (.cons (some (tp 50)) none (.ext 0 
  (.t (tp 42))) (.cons (some (tp 51)) none (.ext 1 (.t (tp 42))) (.cons (some (tp 12)) none (.mv (.t (tp 50))) (.cons (some (tp 13)) none (.mv (.t (tp 51))) .nil))))))))))))) (.seq 
  (.seq (.reg (.cons (some (tp 52)) none (.mv (.t (tp 11))) (.cons (some (tp 53)) none (.bin .neq (.t (tp 52)) (.c (I 0))) (.cons (some (tp 54)) none (.mv (.t (tp 53))) (.cons 
  (some (tp 55)) (some (.mk (tp 54) false)) (.mv (.t (tp 13))) (.cons (some (tp 56)) (some (.mk (tp 54) false)) (.bin .neq (.t (tp 55)) (.c (I 0))) (.cons (some (tp 57)) none 
  (.pick (.t (tp 54)) (.c (.b true)) (.t (tp 56))) (.cons (some (tp 58)) none (.mv (.t (tp 57))) (.cons (some (tp 59)) (some (.mk (tp 58) false)) (.mv (.t (tp 10))) (.cons (some 
  (tp 60)) (some (.mk (tp 58) false)) (.len (.t (tp 59))) (.cons (some (tp 61)) (some (.mk (tp 58) false)) (.mv (.t (tp 7))) (.cons (some (tp 62)) (some (.mk (tp 58) false)) (.bin 
  .shl (.c (I 1)) (.t (tp 61))) (.cons (some (tp 63)) (some (.mk (tp 58) false)) (.bin .neq (.t (tp 60)) (.t (tp 62))) (.cons (some (tp 64)) none (.pick (.t (tp 58)) (.c (.b true)) 
  (.t (tp 63))) (.cons (some (tp 65)) none (.mv (.t (tp 64))) (.cons (some (tp 66)) (some (.mk (tp 65) false)) (.mv (.t (tp 12))) (.cons (some (tp 67)) (some (.mk (tp 65) false)) 
  (.len (.t (tp 66))) (.cons (some (tp 68)) (some (.mk (tp 65) false)) (.mv (.t (tp 7))) (.cons (some (tp 69)) (some (.mk (tp 65) false)) (.bin .shl (.c (I 1)) (.t (tp 68))) (.cons 
  (some (tp 70)) (some (.mk (tp 65) false)) (.bin .neq (.t (tp 67)) (.t (tp 69))) (.cons (some (tp 71)) none (.pick (.t (tp 65)) (.c (.b true)) (.t (tp 70))) 
  .nil))))))))))))))))))))) (.cond (.t (tp 71)) (.seq (.reg (.cons (some (tp 6)) none (.mv (.c (.b false))) .nil)) .ret) .skip)) (.seq (.seq (.reg (.cons (some (tp 72)) none (.mv 
  (.t (tp 7))) (.cons (some (tp 73)) none (.bin .shl (.c (I 1)) (.t (tp 72))) (.cons (some (tp 74)) none (.mv (.c (I 0))) .nil)))) (.block 0 (IC.loop q5_l0))) (.seq (.reg (.cons 
  (some (tp 97)) none (.call 6 .nil) (.cons (some (tp 6)) none (.mv (.t (tp 97))) .nil))) .ret)))))))))
noncomputable def res5 : List RV := [(.tmp (tp 6))]
noncomputable def c5c : Code := match Try.f5.body with | some c => c | none => .skip
theorem b5 : Try.f5.body = some c5c := by kernel_rfl
theorem k5 : compC Try.prog drops Try.f5.ntmps c5c = some q5 := by kernel_rfl
theorem r5 : compRVs Try.prog Try.f5.results.toList = some res5 := by kernel_rfl
theorem n5 : (Try.f5.name == "runtime.NumGoroutine") = false := by kernel_rfl
end Go.Proofs.Ythgaekbcmhbbgaa.Ev
/- Codes: the elements of a set. -/
namespace Go.Proofs.Ythgaekbcmhbbgaa.Ev
set_option linter.unusedVariables false
set_option linter.unusedSimpArgs false
set_option maxRecDepth 100000
open Go Go.Proofs Go.RowKit
attribute [local go_sem] evC_seq evC_reg evC_cond evC_block evC_skip evC_exit evC_ret evR_cons evR_nil evR_gd guardB_tt guardB_ff guardB_tf guardB_ft guardB_none bindR_ok bindR_okn rgRs_ok seqR_nor seqR_ext seqR_ret condR_true condR_false blockR_nor blockR_ext blockR_ret evX_t evX_c evXL_nil evXL_cons O_mv O_bin O_pick O_eqb O_not O_ext O_call O_conv O_slen O_six O_sbi pv_I pv_i pv_b pv_s pv_ns pv_sl pv_p pv_tu pv_ag bin_lss bin_leq bin_gtr bin_geq bin_eql bin_neq bin8_eql bin8_neq bin_add bin_sub bin_mul get_st get_lf bind_nil bind_cons if_true if_false Got_nor Got_ext Got_ret Kseq Kblk Klp Kend onStr_s onB_b onT_tu onI_I onN_I onK_I eqb_b not_b nthL_0 nthL_1 nthL_2 known_nil known_cons I_known known_b known_s evRVs_nil evRVs_cons evRes_1 evRes_2 evRV_tmp Bool.and_true Bool.true_and Bool.and_self Bool.not_true Bool.not_false decide_true decide_false Int.toNat_natCast true_and and_true big hget_same hget_ne newB_n onP_p onS_sl onS_ns O_fad O_alloc_if O_ixs O_len O_ld O_st O_box boxB_if ldB_if ldB_agif stB_if stB_wif toL_I toL_i toL_b toL_s toL_sl toL_ns toL_ag allC_nil allC_cons isC_i isC_b isC_s isC_sl isC_ns I_isC Llen_nil Llen_cons Lget_0 Lget_1 Lget_2 Lget_3 blkL_size cell_blkL_if getL_blkL_if getL_setL_if setL_sz evRV_cell' rvB_agif rvB_if evPL_cons bldK_if evPL_nil O_build O_part evBuild_ok okL_some onA_ag partV_1 evPart_eq updS_nil updS_cons upd_0 upd_1 upd_2 upd_3 ge_iff_le if_pos and_self Nat.le_refl known_ag known_sl known_ns known_i ov_at spS_eq spSI_eq spSII_eq spI_eq spII_eq spIII_eq spIIII_eq res_v res_sl res_slE Good I_pur pur_b pur_s pur_i pur_ns pur_ag pur_tu purL_nil purL_cons evDr_eq evDs_nil evDs_cons dsR_ok stepD_eq sdB_n sdB_g sdG_tt sdG_ff sdG_tf sdG_ft sdG_none runD_0 rdR_f rdR_t baseOf_pu baseOf_h baseU_nil baseA_nil baseA_0 baseR_nil baseR_0 baseR_00 appAll_nil appAll_0 restr_nil restr_cons setD_some setD_none evC_draw iL_len iL_get iL_allC iL_pur hp0_0 hp0_c rdL_ns rdL_sl List.length_cons List.length_nil O_mks mkB_if O_bsl bslB_if O_app apX_ns apX_sl apN_some apS_some blkL_el Nat.one_mul Nat.mul_one Nat.zero_add n_I onF_fn O_callv app_nil app_cons spLF_eq spL_eq spLL_eq onL_some onLL_ss onLL_ns onLL_sn onLL_nn rdB_blk Int.cast_ofNat_Int tlX_none tlX_some tlOf_cons tlOf_1 tlOf_1t tlM_none tlM_some
/-! Small functions. -/
noncomputable def f44 (z : Int) : Out := .v (.b (decide (1 ≤ z ∧ z ≤ 7)))
theorem run44 (z : Int) : JQ Try.prog drops Try.f44.ntmps F0 q44 256 (Kend res44 (Good 0 (.v (.b (decide (1 ≤ z ∧ z ≤ 7)))))) (bind (.cons (I z) .nil) 0 .lf) .lf 256 := by
  have hF := F0_ok Try.prog
  have hM := F0_mono
  unfold q44
  by_cases h1 : 1 ≤ z
  · have h1' : z ≥ 1 := h1
    by_cases h2 : z ≤ 7
    · have hv : decide (1 ≤ z ∧ z ≤ 7) = true := decide_eq_true ⟨h1, h2⟩
      (refine JQ.run follows hF hM ?_; simp (config := { maxSteps := 4000000 }) (disch := (omega)) only [go_sem, Nat.reduceLT, Nat.reduceEqDiff, reduceIte, Nat.reduceAdd, Nat.reduceSub, Nat.reduceLeDiff, Int.reduceEq, Int.reduceLT, Int.reduceLE, Int.reduceNeg, Int.reduceAdd, Int.reduceSub, Int.reduceToNat, Int.reduceMul, Nat.reduceMul, h1', h2, hv, res44])
    · have hv : decide (1 ≤ z ∧ z ≤ 7) = false := decide_eq_false (fun e => h2 e.2)
      (refine JQ.run follows hF hM ?_; simp (config := { maxSteps := 4000000 }) (disch := (omega)) only [go_sem, Nat.reduceLT, Nat.reduceEqDiff, reduceIte, Nat.reduceAdd, Nat.reduceSub, Nat.reduceLeDiff, Int.reduceEq, Int.reduceLT, Int.reduceLE, Int.reduceNeg, Int.reduceAdd, Int.reduceSub, Int.reduceToNat, Int.reduceMul, Nat.reduceMul, h1', h2, hv, res44])
  · have h1' : ¬ z ≥ 1 := h1
    have hv : decide (1 ≤ z ∧ z ≤ 7) = false := decide_eq_false (fun e => h1 e.1)
    (refine JQ.run follows hF hM ?_; simp (config := { maxSteps := 4000000 }) (disch := (omega)) only [go_sem, Nat.reduceLT, Nat.reduceEqDiff, reduceIte, Nat.reduceAdd, Nat.reduceSub, Nat.reduceLeDiff, Int.reduceEq, Int.reduceLT, Int.reduceLE, Int.reduceNeg, Int.reduceAdd, Int.reduceSub, Int.reduceToNat, Int.reduceMul, Nat.reduceMul, h1', hv, res44, false_and])
theorem ok44 : SOK Try.prog 44 (spI f44) := spI_ok fun z lim h n v h' n' hr =>
  outC Try.func44 n44 b44 k44 r44 (Ins.none h) (by simp [L.length]) (ren_nil_rel (by simp only [purL_cons, purL_nil, I_pur, Bool.and_self])) (f44 z) rfl (run44 z) lim n hr
/-- How many colourings there are. -/
noncomputable def f56 (z : Int) : Out := if 0 ≤ z ∧ z ≤ 20 then .v (I ((1 <<< z.toNat : Nat) : Int)) else .no
theorem shl1 {a : Nat} (h : a ≤ 20) : binV .shl (I 1) (I (a : Int)) = I ((1 <<< a : Nat) : Int) := by
  have h2 : 1 <<< a ≤ 2 ^ 20 := by rw [Nat.one_shiftLeft]; exact Nat.pow_le_pow_right (by omega) h
  exact bin_shlN (a := 1) (b := a) (by omega) (by omega) (by omega)
theorem run56 (a : Nat) (h : a ≤ 20) : JQ Try.prog drops Try.f56.ntmps F0 q56 256 (Kend res56 (Good 0 (.v (I ((1 <<< a : Nat) : Int))))) (bind (.cons (I (a : Int)) .nil) 0 .lf) .lf 256 := by
  have hF := F0_ok Try.prog
  have hM := F0_mono
  have hs := shl1 h
  unfold q56
  (refine JQ.run follows hF hM ?_; simp (config := { maxSteps := 4000000 }) (disch := (omega)) only [go_sem, Nat.reduceLT, Nat.reduceEqDiff, reduceIte, Nat.reduceAdd, Nat.reduceSub, Nat.reduceLeDiff, Int.reduceEq, Int.reduceLT, Int.reduceLE, Int.reduceNeg, Int.reduceAdd, Int.reduceSub, Int.reduceToNat, Int.reduceMul, Nat.reduceMul, hs, res56])
theorem f56_at {a : Nat} (h : a ≤ 20) : f56 (a : Int) = .v (I ((1 <<< a : Nat) : Int)) := by
  unfold f56
  rw [if_pos ⟨by omega, by omega⟩, Int.toNat_natCast]
theorem ok56 : SOK Try.prog 56 (spI f56) := spI_ok fun z lim h n v h' n' hr => by
  by_cases hz : 0 ≤ z ∧ z ≤ 20
  · obtain ⟨a, rfl⟩ := Int.eq_ofNat_of_zero_le hz.1
    have ha : a ≤ 20 := by omega
    have e : f56 ((a : Nat) : Int) = .v (I ((1 <<< a : Nat) : Int)) := f56_at ha
    rw [e] at hr
    exact outC Try.func56 n56 b56 k56 r56 (Ins.none h) (by simp [L.length]) (ren_nil_rel (by simp only [purL_cons, purL_nil, I_pur, Bool.and_self])) (.v (I ((1 <<< a : Nat) : Int))) (I_pur _) (run56 a ha) lim n hr
  · have e : f56 z = .no := if_neg hz
    rw [e] at hr; cases hr
/-- Whether a number is a colouring. -/
noncomputable def f51 (n c : Int) : Out := if 0 ≤ n ∧ n ≤ 20 then .v (.b (decide (0 ≤ c ∧ c < ((1 <<< n.toNat : Nat) : Int)))) else .no
noncomputable def F51 : FF := ov 56 (spI f56) F0
theorem F51_ok : FOK Try.prog F51 := ov_ok ok56 (F0_ok _)
theorem F51_mono : F51.mono := ov_mono (spI_mo _) F0_mono
theorem f51_at {a : Nat} {c : Int} (h : a ≤ 20) : f51 (a : Int) c = .v (.b (decide (0 ≤ c ∧ c < ((1 <<< a : Nat) : Int)))) := by
  unfold f51
  rw [if_pos ⟨by omega, by omega⟩, Int.toNat_natCast]
theorem run51 (a : Nat) (c : Int) (h : a ≤ 20) : JQ Try.prog drops Try.f51.ntmps F51 q51 256 (Kend res51 (Good 0 (.v (.b (decide (0 ≤ c ∧ c < ((1 <<< a : Nat) : Int))))))) (bind (.cons (I (a : Int)) (.cons (I c) .nil)) 0 .lf) .lf 256 := by
  have hF := F51_ok
  have hM := F51_mono
  have hs := f56_at h
  unfold q51
  by_cases h1 : 0 ≤ c
  · have h1' : c ≥ 0 := h1
    by_cases h2 : c < ((1 <<< a : Nat) : Int)
    · have hv : decide (0 ≤ c ∧ c < ((1 <<< a : Nat) : Int)) = true := decide_eq_true ⟨h1, h2⟩
      (refine JQ.run follows hF hM ?_; simp (config := { maxSteps := 4000000 }) (disch := (omega)) only [go_sem, Nat.reduceLT, Nat.reduceEqDiff, reduceIte, Nat.reduceAdd, Nat.reduceSub, Nat.reduceLeDiff, Int.reduceEq, Int.reduceLT, Int.reduceLE, Int.reduceNeg, Int.reduceAdd, Int.reduceSub, Int.reduceToNat, Int.reduceMul, Nat.reduceMul, F51, h1', hs, h2, hv, res51])
    · have hv : decide (0 ≤ c ∧ c < ((1 <<< a : Nat) : Int)) = false := decide_eq_false (fun e => h2 e.2)
      (refine JQ.run follows hF hM ?_; simp (config := { maxSteps := 4000000 }) (disch := (omega)) only [go_sem, Nat.reduceLT, Nat.reduceEqDiff, reduceIte, Nat.reduceAdd, Nat.reduceSub, Nat.reduceLeDiff, Int.reduceEq, Int.reduceLT, Int.reduceLE, Int.reduceNeg, Int.reduceAdd, Int.reduceSub, Int.reduceToNat, Int.reduceMul, Nat.reduceMul, F51, h1', hs, h2, hv, res51])
  · have h1' : ¬ c ≥ 0 := h1
    have hv : decide (0 ≤ c ∧ c < ((1 <<< a : Nat) : Int)) = false := decide_eq_false (fun e => h1 e.1)
    (refine JQ.run follows hF hM ?_; simp (config := { maxSteps := 4000000 }) (disch := (omega)) only [go_sem, Nat.reduceLT, Nat.reduceEqDiff, reduceIte, Nat.reduceAdd, Nat.reduceSub, Nat.reduceLeDiff, Int.reduceEq, Int.reduceLT, Int.reduceLE, Int.reduceNeg, Int.reduceAdd, Int.reduceSub, Int.reduceToNat, Int.reduceMul, Nat.reduceMul, h1', hv, res51, false_and])
theorem ok51 : SOK Try.prog 51 (spII f51) := spII_ok fun z c lim h n v h' n' hr => by
  by_cases hz : 0 ≤ z ∧ z ≤ 20
  · obtain ⟨a, rfl⟩ := Int.eq_ofNat_of_zero_le hz.1
    have ha : a ≤ 20 := by omega
    have e : f51 ((a : Nat) : Int) c = .v (.b (decide (0 ≤ c ∧ c < ((1 <<< a : Nat) : Int)))) := f51_at ha
    rw [e] at hr
    exact outC Try.func51 n51 b51 k51 r51 (Ins.none h) (by simp [L.length]) (ren_nil_rel (by simp only [purL_cons, purL_nil, I_pur, Bool.and_self])) (.v (.b (decide (0 ≤ c ∧ c < ((1 <<< a : Nat) : Int))))) rfl (run51 a c ha) lim n hr
  · have e : f51 z c = .no := if_neg hz
    rw [e] at hr; cases hr
/-- A colouring with one hat changed. -/
noncomputable def f61 (z i : Int) : Out := if (0 ≤ z ∧ z < 1000000) ∧ 0 ≤ i ∧ i ≤ 20 then .v (I ((z.toNat ^^^ 1 <<< i.toNat : Nat) : Int)) else .no
theorem f61_at {a i : Nat} (ha : a < 1000000) (hi : i ≤ 20) : f61 (a : Int) (i : Int) = .v (I ((a ^^^ 1 <<< i : Nat) : Int)) := by
  unfold f61
  rw [if_pos ⟨⟨by omega, by omega⟩, by omega, by omega⟩, Int.toNat_natCast, Int.toNat_natCast]
theorem run61 (a i : Nat) (ha : a < 1000000) (hi : i ≤ 20) : JQ Try.prog drops Try.f61.ntmps F0 q61 256 (Kend res61 (Good 0 (.v (I ((a ^^^ 1 <<< i : Nat) : Int))))) (bind (.cons (I (a : Int)) (.cons (I (i : Int)) .nil)) 0 .lf) .lf 256 := by
  have hF := F0_ok Try.prog
  have hM := F0_mono
  have hs := shl1 hi
  have h2 : 1 <<< i ≤ 2 ^ 20 := by rw [Nat.one_shiftLeft]; exact Nat.pow_le_pow_right (by omega) hi
  have hx := bin_xorN (a := a) (b := 1 <<< i) (by omega) (by omega)
  unfold q61
  (refine JQ.run follows hF hM ?_; simp (config := { maxSteps := 4000000 }) (disch := (omega)) only [go_sem, Nat.reduceLT, Nat.reduceEqDiff, reduceIte, Nat.reduceAdd, Nat.reduceSub, Nat.reduceLeDiff, Int.reduceEq, Int.reduceLT, Int.reduceLE, Int.reduceNeg, Int.reduceAdd, Int.reduceSub, Int.reduceToNat, Int.reduceMul, Nat.reduceMul, hs, hx, res61])
theorem ok61 : SOK Try.prog 61 (spII f61) := spII_ok fun z i lim h n v h' n' hr => by
  by_cases hz : (0 ≤ z ∧ z < 1000000) ∧ 0 ≤ i ∧ i ≤ 20
  · obtain ⟨a, rfl⟩ := Int.eq_ofNat_of_zero_le hz.1.1
    obtain ⟨b, rfl⟩ := Int.eq_ofNat_of_zero_le hz.2.1
    have e : f61 ((a : Nat) : Int) ((b : Nat) : Int) = .v (I ((a ^^^ 1 <<< b : Nat) : Int)) := f61_at (by omega) (by omega)
    rw [e] at hr
    exact outC Try.func61 n61 b61 k61 r61 (Ins.none h) (by simp [L.length]) (ren_nil_rel (by simp only [purL_cons, purL_nil, I_pur, Bool.and_self])) (.v (I ((a ^^^ 1 <<< b : Nat) : Int))) (I_pur _) (run61 a b (by omega) (by omega)) lim n hr
  · have e : f61 z i = .no := if_neg hz
    rw [e] at hr; cases hr
end Go.Proofs.Ythgaekbcmhbbgaa.Ev
/- Codes: the elements of a set, as a contract. -/
namespace Go.Proofs.Ythgaekbcmhbbgaa.Ev
set_option linter.unusedVariables false
set_option linter.unusedSimpArgs false
set_option maxRecDepth 100000
open Go Go.Proofs Go.RowKit
attribute [local go_sem] evC_seq evC_reg evC_cond evC_block evC_skip evC_exit evC_ret evR_cons evR_nil evR_gd guardB_tt guardB_ff guardB_tf guardB_ft guardB_none bindR_ok bindR_okn rgRs_ok seqR_nor seqR_ext seqR_ret condR_true condR_false blockR_nor blockR_ext blockR_ret evX_t evX_c evXL_nil evXL_cons O_mv O_bin O_pick O_eqb O_not O_ext O_call O_conv O_slen O_six O_sbi pv_I pv_i pv_b pv_s pv_ns pv_sl pv_p pv_tu pv_ag bin_lss bin_leq bin_gtr bin_geq bin_eql bin_neq bin8_eql bin8_neq bin_add bin_sub bin_mul get_st get_lf bind_nil bind_cons if_true if_false Got_nor Got_ext Got_ret Kseq Kblk Klp Kend onStr_s onB_b onT_tu onI_I onN_I onK_I eqb_b not_b nthL_0 nthL_1 nthL_2 known_nil known_cons I_known known_b known_s evRVs_nil evRVs_cons evRes_1 evRes_2 evRV_tmp Bool.and_true Bool.true_and Bool.and_self Bool.not_true Bool.not_false decide_true decide_false Int.toNat_natCast true_and and_true big hget_same hget_ne newB_n onP_p onS_sl onS_ns O_fad O_alloc_if O_ixs O_len O_ld O_st O_box boxB_if ldB_if ldB_agif stB_if stB_wif toL_I toL_i toL_b toL_s toL_sl toL_ns toL_ag allC_nil allC_cons isC_i isC_b isC_s isC_sl isC_ns I_isC Llen_nil Llen_cons Lget_0 Lget_1 Lget_2 Lget_3 blkL_size cell_blkL_if getL_blkL_if getL_setL_if setL_sz evRV_cell' rvB_agif rvB_if evPL_cons bldK_if evPL_nil O_build O_part evBuild_ok okL_some onA_ag partV_1 evPart_eq updS_nil updS_cons upd_0 upd_1 upd_2 upd_3 ge_iff_le if_pos and_self Nat.le_refl known_ag known_sl known_ns known_i ov_at spS_eq spSI_eq spSII_eq spI_eq spII_eq spIII_eq spIIII_eq res_v res_sl res_slE Good I_pur pur_b pur_s pur_i pur_ns pur_ag pur_tu purL_nil purL_cons evDr_eq evDs_nil evDs_cons dsR_ok stepD_eq sdB_n sdB_g sdG_tt sdG_ff sdG_tf sdG_ft sdG_none runD_0 rdR_f rdR_t baseOf_pu baseOf_h baseU_nil baseA_nil baseA_0 baseR_nil baseR_0 baseR_00 appAll_nil appAll_0 restr_nil restr_cons setD_some setD_none evC_draw iL_len iL_get iL_allC iL_pur hp0_0 hp0_c rdL_ns rdL_sl List.length_cons List.length_nil O_mks mkB_if O_bsl bslB_if O_app apX_ns apX_sl apN_some apS_some blkL_el Nat.one_mul Nat.mul_one Nat.zero_add n_I onF_fn O_callv app_nil app_cons spLF_eq spL_eq spLL_eq onL_some onLL_ss onLL_ns onLL_sn onLL_nn rdB_blk Int.cast_ofNat_Int tlX_none tlX_some tlOf_cons tlOf_1 tlOf_1t tlM_none tlM_some
structure S3 where
  k : Nat
  q : Nat
  nx : Nat
def zl (l : List Nat) : List Int := l.map fun (x : Nat) => (x : Int)
theorem zl_len (l : List Nat) : (zl l).length = l.length := List.length_map ..
theorem zl_app (l m : List Nat) : zl (l ++ m) = zl l ++ zl m := List.map_append
def eZ (s k : Nat) : List Int := zl (elN s k)
theorem elN_len (s k : Nat) : (elN s k).length ≤ k := by
  unfold elN
  have := List.length_filter_le (fun c => s.testBit c) (List.range k)
  simpa using this
theorem eZ_len (s k : Nat) : (eZ s k).length ≤ k := by unfold eZ; rw [zl_len]; exact elN_len s k
theorem eZ_succ (s k : Nat) : eZ s (k + 1) = if s.testBit k = true then eZ s k ++ [(k : Int)] else eZ s k := by
  unfold eZ
  rw [elN_succ, zl_app]
  cases s.testBit k <;> simp [zl]
noncomputable def oZ (xs : List Int) : Out := if xs.length = 0 then .v .ns else .sl 3 1 xs.length none (iL xs)
def SE (s : Nat) (x : S3) : Prop := x.k ≤ 16 ∧ 256 ≤ x.nx ∧ x.nx ≤ 256 + 2 * x.k ∧ ((eZ s x.k).length ≠ 0 → 256 ≤ x.q + 1 ∧ x.q + 1 < x.nx)
noncomputable def eE (s : Nat) (x : S3) : Tr := ((Tr.lf.set (I (s : Int)) (tp 0)).set (slN x.q 0 (eZ s x.k)) (tp 3)).set (I (x.k : Int)) (tp 4)
noncomputable def hE (s : Nat) (x : S3) : Hp := svH x.q (eZ s x.k) .lf
theorem shr_0 {s k : Nat} (hs : s < 65536) (hk : 16 ≤ k) : s >>> k = 0 := by
  rw [Nat.shiftRight_eq_div_pow]
  refine Nat.div_eq_of_lt (Nat.lt_of_lt_of_le hs ?_)
  have : (2 : Nat) ^ 16 ≤ 2 ^ k := Nat.pow_le_pow_right (by omega) hk
  omega
theorem band1 {a : Nat} (h : a < 2 ^ 62) : binV .and (I (a : Int)) (I 1) = I ((a % 2 : Nat) : Int) := by
  have := bin_andN (a := a) (b := 1) h (by omega)
  rw [Nat.and_one_is_mod] at this
  exact this
set_option maxHeartbeats 4000000 in
theorem run15 (s : Nat) (hs : s < 65536) : JQ Try.prog drops Try.f15.ntmps F0 q15 256 (Kend res15 (Good 0 (oZ (eZ s 16)))) (bind (.cons (I (s : Int)) .nil) 0 .lf) .lf 256 := by
  have hF := F0_ok Try.prog
  have hM := F0_mono
  unfold q15
  (refine JQ.step follows hF hM ?_; simp (config := { maxSteps := 4000000 }) (disch := (omega)) only [go_sem, Nat.reduceLT, Nat.reduceEqDiff, reduceIte, Nat.reduceAdd, Nat.reduceSub, Nat.reduceLeDiff, Int.reduceEq, Int.reduceLT, Int.reduceLE, Int.reduceNeg, Int.reduceAdd, Int.reduceSub, Int.reduceToNat, Int.reduceMul, Nat.reduceMul])
  (refine JQ.step follows hF hM ?_; simp (config := { maxSteps := 4000000 }) (disch := (omega)) only [go_sem, Nat.reduceLT, Nat.reduceEqDiff, reduceIte, Nat.reduceAdd, Nat.reduceSub, Nat.reduceLeDiff, Int.reduceEq, Int.reduceLT, Int.reduceLE, Int.reduceNeg, Int.reduceAdd, Int.reduceSub, Int.reduceToNat, Int.reduceMul, Nat.reduceMul])
  refine JQ.seq ?_
  (refine JQ.step follows hF hM ?_; simp (config := { maxSteps := 4000000 }) (disch := (omega)) only [go_sem, Nat.reduceLT, Nat.reduceEqDiff, reduceIte, Nat.reduceAdd, Nat.reduceSub, Nat.reduceLeDiff, Int.reduceEq, Int.reduceLT, Int.reduceLE, Int.reduceNeg, Int.reduceAdd, Int.reduceSub, Int.reduceToNat, Int.reduceMul, Nat.reduceMul])
  refine JQ.block ?_
  refine JQ.loop (σ := S3) (SE s) (eE s) (hE s) (fun x => x.nx) (fun x => 16 - x.k) ⟨0, 0, 256⟩
    ⟨Nat.zero_le _, Nat.le_refl _, Nat.le_refl _, fun h => absurd rfl h⟩ (by unfold eE; ((repeat' (first | exact EnvLe.lf _ | refine EnvLe.set (by decide) ?_ ?_)) <;> first | exact EnvLe.lf _ | (simp (config := { maxSteps := 4000000 }) (disch := (omega)) only [go_sem, Nat.reduceLT, Nat.reduceEqDiff, reduceIte, Nat.reduceAdd, Nat.reduceSub, Nat.reduceLeDiff, Int.reduceEq, Int.reduceLT, Int.reduceLE, Int.reduceNeg, Int.reduceAdd, Int.reduceSub, Int.reduceToNat, Int.reduceMul, Nat.reduceMul, slN, eZ, elN, zl, List.range_zero, List.filter_nil, List.map_nil, List.length_nil, Int.natCast_add, Int.cast_ofNat_Int]; done) | (simp (config := { maxSteps := 4000000 }) (disch := (omega)) only [go_sem, Nat.reduceLT, Nat.reduceEqDiff, reduceIte, Nat.reduceAdd, Nat.reduceSub, Nat.reduceLeDiff, Int.reduceEq, Int.reduceLT, Int.reduceLE, Int.reduceNeg, Int.reduceAdd, Int.reduceSub, Int.reduceToNat, Int.reduceMul, Nat.reduceMul, slN, eZ, elN, zl, List.range_zero, List.filter_nil, List.map_nil, List.length_nil, Int.natCast_add, Int.cast_ofNat_Int] <;> first | rfl | (congr 1; omega)))) (by unfold hE; exact svH_le' (fun h => absurd rfl h) (HpLe.refl _)) rfl ?_
  rintro ⟨k, q, nx⟩ ⟨k1, n1, n2, p1⟩
  dsimp only at k1 n1 n2 p1 ⊢
  unfold q15_l0 eE hE
  dsimp only
  have hxl := eZ_len s k
  have hs1 := eZ_succ s k
  have hshr := bin_shrN (a := s) (b := k) (by omega) (by omega)
  obtain ⟨xs, hxs⟩ : ∃ xs, xs = eZ s k := ⟨_, rfl⟩
  rw [← hxs] at hxl p1 hs1 ⊢
  obtain ⟨H, hH⟩ : ∃ H, H = svH q xs Hp.lf := ⟨_, rfl⟩
  have gx : xs.length ≠ 0 → H.get (tp q) = some (blkL 3 (iL xs)) := fun hl => by rw [hH]; exact svH_same hl
  rw [← hH]
  by_cases hz : s >>> k = 0
  · have hz' : ((s >>> k : Nat) : Int) = 0 := by omega
    have he : eZ s 16 = xs := by rw [hxs]; unfold eZ; rw [elN_16 k1 hz]
    rw [he]
    by_cases hx : xs.length = 0
    · have ho : oZ xs = .v .ns := if_pos hx
      have hv : slN q 0 xs = .ns := if_pos hx
      (refine JQ.run follows hF hM ?_; simp (config := { maxSteps := 4000000 }) (disch := (omega)) only [go_sem, Nat.reduceLT, Nat.reduceEqDiff, reduceIte, Nat.reduceAdd, Nat.reduceSub, Nat.reduceLeDiff, Int.reduceEq, Int.reduceLT, Int.reduceLE, Int.reduceNeg, Int.reduceAdd, Int.reduceSub, Int.reduceToNat, Int.reduceMul, Nat.reduceMul, hshr, hz', ho, hv, res15])
      refine ⟨by omega, ?_⟩
      (refine JQ.run follows hF hM ?_; simp (config := { maxSteps := 4000000 }) (disch := (omega)) only [go_sem, Nat.reduceLT, Nat.reduceEqDiff, reduceIte, Nat.reduceAdd, Nat.reduceSub, Nat.reduceLeDiff, Int.reduceEq, Int.reduceLT, Int.reduceLE, Int.reduceNeg, Int.reduceAdd, Int.reduceSub, Int.reduceToNat, Int.reduceMul, Nat.reduceMul])
      try omega
    · have ho : oZ xs = .sl 3 1 xs.length none (iL xs) := if_neg hx
      have hv : slN q 0 xs = .sl (tp q) 0 1 xs.length none := if_neg hx
      have := p1 hx
      (refine JQ.run follows hF hM ?_; simp (config := { maxSteps := 4000000 }) (disch := (omega)) only [go_sem, Nat.reduceLT, Nat.reduceEqDiff, reduceIte, Nat.reduceAdd, Nat.reduceSub, Nat.reduceLeDiff, Int.reduceEq, Int.reduceLT, Int.reduceLE, Int.reduceNeg, Int.reduceAdd, Int.reduceSub, Int.reduceToNat, Int.reduceMul, Nat.reduceMul, hshr, hz', ho, hv, res15])
      refine ⟨by omega, ?_⟩
      (refine JQ.run follows hF hM ?_; simp (config := { maxSteps := 4000000 }) (disch := (omega)) only [go_sem, Nat.reduceLT, Nat.reduceEqDiff, reduceIte, Nat.reduceAdd, Nat.reduceSub, Nat.reduceLeDiff, Int.reduceEq, Int.reduceLT, Int.reduceLE, Int.reduceNeg, Int.reduceAdd, Int.reduceSub, Int.reduceToNat, Int.reduceMul, Nat.reduceMul])
      exact ⟨by omega, goodI (nb := 0) (gx hx) (by omega) (by omega) (by omega)⟩
  · have hz' : ¬ ((s >>> k : Nat) : Int) = 0 := by omega
    have hk : k < 16 := by
      rcases Nat.lt_or_ge k 16 with h | h
      · exact h
      · exact absurd (shr_0 hs h) hz
    have hlt : s >>> k ≤ s := by rw [Nat.shiftRight_eq_div_pow]; exact Nat.div_le_self _ _
    have hb1 := band1 (a := s >>> k) (by omega)
    have hbit : s.testBit k = decide ((s >>> k) % 2 = 1) := by
      rw [Nat.testBit_eq_decide_div_mod_eq, Nat.shiftRight_eq_div_pow]
    have ap : ∀ n, apX 3 1 8 (slN q 0 xs) (.sl (tp (nx - 1)) 0 1 1 (some 1)) 256 (H.put (some (blkL 3 (.cons (I k) .nil))) (tp (nx - 1))) n = newB (apB xs 0 k) (fun p' => .sl p' 0 1 (xs.length + 1) none) (apK (H.put (some (blkL 3 (.cons (I k) .nil))) (tp (nx - 1))) q xs) n := fun n => by
      rw [apX_gen (Nat.zero_le _) (by omega) (fun hl => by
        have := p1 hl
        exact ⟨by omega, by omega, by rw [put_other (by omega) (by omega) (by omega)]; exact gx hl⟩) (hget_same _ _ _), List.drop_zero]
    have hle := apB_le (xs := xs) (z := (k : Int)) (Nat.zero_le _) (by omega)
    rw [List.drop_zero] at hle
    by_cases hm : (s >>> k) % 2 = 1
    · have hm' : (((s >>> k) % 2 : Nat) : Int) = 1 := by omega
      rw [if_pos (hbit.trans (decide_eq_true hm))] at hs1
      (refine JQ.run follows hF hM ?_; simp (config := { maxSteps := 4000000 }) (disch := (omega)) only [go_sem, Nat.reduceLT, Nat.reduceEqDiff, reduceIte, Nat.reduceAdd, Nat.reduceSub, Nat.reduceLeDiff, Int.reduceEq, Int.reduceLT, Int.reduceLE, Int.reduceNeg, Int.reduceAdd, Int.reduceSub, Int.reduceToNat, Int.reduceMul, Nat.reduceMul, hshr, hz', hb1, hm', ap])
      refine ⟨by omega, ⟨k + 1, nx, nx + 1 + 1⟩, ⟨by dsimp only; omega, by dsimp only; omega, by dsimp only; omega, fun _ => by dsimp only; omega⟩, by dsimp only; omega, by dsimp only; ((repeat' (first | exact EnvLe.lf _ | refine EnvLe.set (by decide) ?_ ?_)) <;> first | exact EnvLe.lf _ | (simp (config := { maxSteps := 4000000 }) (disch := (omega)) only [go_sem, Nat.reduceLT, Nat.reduceEqDiff, reduceIte, Nat.reduceAdd, Nat.reduceSub, Nat.reduceLeDiff, Int.reduceEq, Int.reduceLT, Int.reduceLE, Int.reduceNeg, Int.reduceAdd, Int.reduceSub, Int.reduceToNat, Int.reduceMul, Nat.reduceMul, hs1, slN_app, Int.natCast_add, Int.cast_ofNat_Int]; done) | (simp (config := { maxSteps := 4000000 }) (disch := (omega)) only [go_sem, Nat.reduceLT, Nat.reduceEqDiff, reduceIte, Nat.reduceAdd, Nat.reduceSub, Nat.reduceLeDiff, Int.reduceEq, Int.reduceLT, Int.reduceLE, Int.reduceNeg, Int.reduceAdd, Int.reduceSub, Int.reduceToNat, Int.reduceMul, Nat.reduceMul, hs1, slN_app, Int.natCast_add, Int.cast_ofNat_Int] <;> first | rfl | (congr 1; omega))), ?_, rfl⟩
      dsimp only
      rw [hs1]
      exact svH_le' (fun _ => ⟨_, hget_same _ _ _, hle⟩) (HpLe.lf _)
    · have hm' : ¬ (((s >>> k) % 2 : Nat) : Int) = 1 := by omega
      rw [if_neg (by rw [hbit, decide_eq_true_eq]; exact hm)] at hs1
      (refine JQ.run follows hF hM ?_; simp (config := { maxSteps := 4000000 }) (disch := (omega)) only [go_sem, Nat.reduceLT, Nat.reduceEqDiff, reduceIte, Nat.reduceAdd, Nat.reduceSub, Nat.reduceLeDiff, Int.reduceEq, Int.reduceLT, Int.reduceLE, Int.reduceNeg, Int.reduceAdd, Int.reduceSub, Int.reduceToNat, Int.reduceMul, Nat.reduceMul, hshr, hz', hb1, hm'])
      refine ⟨by omega, ⟨k + 1, q, nx⟩, ⟨by dsimp only; omega, by dsimp only; omega, by dsimp only; omega, fun hl => by dsimp only at hl; rw [hs1] at hl; have := p1 hl; dsimp only; omega⟩, by dsimp only; omega, by dsimp only; ((repeat' (first | exact EnvLe.lf _ | refine EnvLe.set (by decide) ?_ ?_)) <;> first | exact EnvLe.lf _ | (simp (config := { maxSteps := 4000000 }) (disch := (omega)) only [go_sem, Nat.reduceLT, Nat.reduceEqDiff, reduceIte, Nat.reduceAdd, Nat.reduceSub, Nat.reduceLeDiff, Int.reduceEq, Int.reduceLT, Int.reduceLE, Int.reduceNeg, Int.reduceAdd, Int.reduceSub, Int.reduceToNat, Int.reduceMul, Nat.reduceMul, hs1, Int.natCast_add, Int.cast_ofNat_Int]; done) | (simp (config := { maxSteps := 4000000 }) (disch := (omega)) only [go_sem, Nat.reduceLT, Nat.reduceEqDiff, reduceIte, Nat.reduceAdd, Nat.reduceSub, Nat.reduceLeDiff, Int.reduceEq, Int.reduceLT, Int.reduceLE, Int.reduceNeg, Int.reduceAdd, Int.reduceSub, Int.reduceToNat, Int.reduceMul, Nat.reduceMul, hs1, Int.natCast_add, Int.cast_ofNat_Int] <;> first | rfl | (congr 1; omega))), ?_, rfl⟩
      dsimp only
      rw [hs1]
      exact svH_le' (fun hl => ⟨_, gx hl, BlkLe.refl _⟩) (HpLe.lf _)
theorem oZ_ok (xs : List Int) : OutOK (oZ xs) := by
  unfold oZ
  split
  · exact rfl
  · exact ⟨iL_pur _, by rw [iL_len]; omega⟩
noncomputable def f15 (z : Int) : Out := if 0 ≤ z ∧ z < 65536 then oZ (eZ z.toNat 16) else .no
theorem f15_at {s : Nat} (h : s < 65536) : f15 (s : Int) = oZ (eZ s 16) := by
  unfold f15
  rw [if_pos ⟨by omega, by omega⟩, Int.toNat_natCast]
theorem ok15 : SOK Try.prog 15 (spI f15) := spI_ok fun z lim h n v h' n' hr => by
  by_cases hz : 0 ≤ z ∧ z < 65536
  · obtain ⟨a, rfl⟩ := Int.eq_ofNat_of_zero_le hz.1
    have e : f15 ((a : Nat) : Int) = oZ (eZ a 16) := f15_at (by omega)
    rw [e] at hr
    exact outC Try.func15 n15 b15 k15 r15 (Ins.none h) (by simp [L.length]) (ren_nil_rel (by simp only [purL_cons, purL_nil, I_pur, Bool.and_self])) (oZ (eZ a 16)) (oZ_ok _) (run15 a (by omega)) lim n hr
  · have e : f15 z = .no := if_neg hz
    rw [e] at hr; cases hr
end Go.Proofs.Ythgaekbcmhbbgaa.Ev
/- Codes: how often colourings are covered. -/
namespace Go.Proofs.Ythgaekbcmhbbgaa.Ev
set_option linter.unusedVariables false
set_option linter.unusedSimpArgs false
set_option maxRecDepth 100000
open Go Go.Proofs Go.RowKit
attribute [local go_sem] evC_seq evC_reg evC_cond evC_block evC_skip evC_exit evC_ret evR_cons evR_nil evR_gd guardB_tt guardB_ff guardB_tf guardB_ft guardB_none bindR_ok bindR_okn rgRs_ok seqR_nor seqR_ext seqR_ret condR_true condR_false blockR_nor blockR_ext blockR_ret evX_t evX_c evXL_nil evXL_cons O_mv O_bin O_pick O_eqb O_not O_ext O_call O_conv O_slen O_six O_sbi pv_I pv_i pv_b pv_s pv_ns pv_sl pv_p pv_tu pv_ag bin_lss bin_leq bin_gtr bin_geq bin_eql bin_neq bin8_eql bin8_neq bin_add bin_sub bin_mul get_st get_lf bind_nil bind_cons if_true if_false Got_nor Got_ext Got_ret Kseq Kblk Klp Kend onStr_s onB_b onT_tu onI_I onN_I onK_I eqb_b not_b nthL_0 nthL_1 nthL_2 known_nil known_cons I_known known_b known_s evRVs_nil evRVs_cons evRes_1 evRes_2 evRV_tmp Bool.and_true Bool.true_and Bool.and_self Bool.not_true Bool.not_false decide_true decide_false Int.toNat_natCast true_and and_true big hget_same hget_ne newB_n onP_p onS_sl onS_ns O_fad O_alloc_if O_ixs O_len O_ld O_st O_box boxB_if ldB_if ldB_agif stB_if stB_wif toL_I toL_i toL_b toL_s toL_sl toL_ns toL_ag allC_nil allC_cons isC_i isC_b isC_s isC_sl isC_ns I_isC Llen_nil Llen_cons Lget_0 Lget_1 Lget_2 Lget_3 blkL_size cell_blkL_if getL_blkL_if getL_setL_if setL_sz evRV_cell' rvB_agif rvB_if evPL_cons bldK_if evPL_nil O_build O_part evBuild_ok okL_some onA_ag partV_1 evPart_eq updS_nil updS_cons upd_0 upd_1 upd_2 upd_3 ge_iff_le if_pos and_self Nat.le_refl known_ag known_sl known_ns known_i ov_at spS_eq spSI_eq spSII_eq spI_eq spII_eq spIII_eq spIIII_eq res_v res_sl res_slE Good I_pur pur_b pur_s pur_i pur_ns pur_ag pur_tu purL_nil purL_cons evDr_eq evDs_nil evDs_cons dsR_ok stepD_eq sdB_n sdB_g sdG_tt sdG_ff sdG_tf sdG_ft sdG_none runD_0 rdR_f rdR_t baseOf_pu baseOf_h baseU_nil baseA_nil baseA_0 baseR_nil baseR_0 baseR_00 appAll_nil appAll_0 restr_nil restr_cons setD_some setD_none evC_draw iL_len iL_get iL_allC iL_pur hp0_0 hp0_c rdL_ns rdL_sl List.length_cons List.length_nil O_mks mkB_if O_bsl bslB_if O_app apX_ns apX_sl apN_some apS_some blkL_el Nat.one_mul Nat.mul_one Nat.zero_add n_I onF_fn O_callv app_nil app_cons spLF_eq spL_eq spLL_eq onL_some onLL_ss onLL_ns onLL_sn onLL_nn rdB_blk Int.cast_ofNat_Int tlX_none tlX_some tlOf_cons tlOf_1 tlOf_1t tlM_none tlM_some
/-! A number and a list. -/
noncomputable def spIL (f : Int → List Int → Out) (args : L) (_ : Nat) (h : Hp) (n : Nat) : Res := match args with
  | .cons u (.cons (.sl p off esz len cap) .nil) => (match asI u with | some z => onL (rdL h (.sl p off esz len cap)) (fun xs => f z xs) h n | none => .no)
  | .cons u (.cons .ns .nil) => (match asI u with | some z => (f z []).res h n | none => .no)
  | _ => .no
theorem spIL_mo (f : Int → List Int → Out) : SMo (spIL f) := fun args lim h n => by
  unfold spIL; split <;> (try split) <;> first | exact onL_ge _ _ _ _ | exact Out.res_ge _ _ _ | trivial
theorem spIL_sl (f : Int → List Int → Out) (z : Int) (p : Pos) (off len : Nat) (cap : Option Nat) (lim : Nat) (h : Hp) (n : Nat) : spIL f (.cons (I z) (.cons (.sl p off 1 len cap) .nil)) lim h n = onL (rdB (h.get p) off len) (fun xs => f z xs) h n := by
  simp only [spIL, asI_I]; rfl
theorem spIL_ns (f : Int → List Int → Out) (z : Int) (lim : Nat) (h : Hp) (n : Nat) : spIL f (.cons (I z) (.cons .ns .nil)) lim h n = (f z []).res h n := by
  simp only [spIL, asI_I]
theorem spIL_ok {P : Program} {dr : List Nat} {F : FF} {q : IC} {f : Nat} {fn : Func} {c : Code} {res : List RV} (hfn : P.funcs[f]? = some fn) (hnm : (fn.name == "runtime.NumGoroutine") = false) (hb : fn.body = some c) (hq : compC P dr fn.ntmps c = some q) (hres : compRVs P fn.results.toList = some res)
    {o : Int → List Int → Out} (ho : ∀ z xs, OutOK (o z xs))
    (run : ∀ el z xs cap, o z xs ≠ .no → JQ P dr fn.ntmps F q 257 (Kend res (Good 1 (o z xs))) (bind (.cons (I z) (.cons (.sl (tp 255) 0 1 xs.length cap) .nil)) 0 .lf) (hp0 [blkL el (iL xs)] 255) 257)
    (run0 : ∀ z, o z [] ≠ .no → JQ P dr fn.ntmps F q 256 (Kend res (Good 0 (o z []))) (bind (.cons (I z) (.cons .ns .nil)) 0 .lf) (hp0 [] 255) 256) : SOK P f (spIL o) := fun args lim h n v h' n' hr => by
  have hno : ∀ {x : Out}, x.res h n = .ok v h' n' → x ≠ .no := fun {x} e e' => by subst e'; cases e
  unfold spIL at hr
  split at hr
  · rename_i u p off esz len cap
    split at hr
    · rename_i z hz
      unfold onL at hr
      split at hr
      · rename_i xs hx
        unfold rdL at hx
        split at hx
        · rename_i h1; cases h1
        · rename_i h1
          cases h1
          obtain ⟨el, I1⟩ := Ins.one hx
          obtain ⟨e1, _⟩ := win hx
          subst e1
          exact outC hfn hnm hb hq hres I1 (by simp [L.length]) (fun g => rel_cons (fun u hu => I_any hz g _ u hu) (rel_cons (fun u hu => sl_ren (j := 0) (by omega) rfl hu) fun _ h => L.pur_rel rfl h)) _ (ho z xs) (run el z xs cap (hno hr)) lim n hr
        · cases hx
      · cases hr
    · cases hr
  · rename_i u
    split at hr
    · rename_i z hz
      exact outC hfn hnm hb hq hres (Ins.none h) (by simp [L.length]) (fun g => rel_cons (fun u hu => I_any hz g _ u hu) (fun _ h => L.pur_rel (l := .cons .ns .nil) rfl h)) _ (ho z []) (run0 z (hno hr)) lim n hr
    · cases hr
  · cases hr

/-! How often. -/
/-- A list by a function. -/
def fZ (N : Nat) (f : Nat → Nat) : List Int := (List.range N).map fun (v : Nat) => ((f v : Nat) : Int)
theorem fZ_len (N : Nat) (f : Nat → Nat) : (fZ N f).length = N := by unfold fZ; simp
theorem fZ_at {N v : Nat} (f : Nat → Nat) (h : v < N) : At (fZ N f) v = (f v : Int) := by
  unfold At fZ
  simp [h]
theorem fZ_bump {N u : Nat} (f : Nat → Nat) (h : u < N) : (fZ N f).set u ((f u : Int) + 1) = fZ N fun v => f v + if v = u then 1 else 0 := by
  apply List.ext_getElem
  · simp [fZ]
  · intro i h1 h2
    rw [List.getElem_set]
    simp only [fZ, List.getElem_map, List.getElem_range]
    by_cases hi : u = i
    · subst hi; simp
    · rw [if_neg hi, if_neg (fun e => hi e.symm)]; simp
theorem fZ_zero (N : Nat) : fZ N (fun _ => 0) = List.replicate N 0 := by
  unfold fZ
  apply List.ext_getElem
  · simp
  · intro i h1 h2; simp
theorem fZ_congr {N : Nat} {f g : Nat → Nat} (h : ∀ v, v < N → f v = g v) : fZ N f = fZ N g := by
  unfold fZ
  refine List.map_congr_left fun v hv => ?_
  rw [List.mem_range] at hv
  rw [h v hv]
theorem hitN_0 (e v : Nat) : hitN 0 e v = if v = e then 1 else 0 := by unfold hitN; simp
theorem hitN_succ (n e v : Nat) : hitN (n + 1) e v = hitN n e v + if v = e ^^^ (1 <<< n) then 1 else 0 := by
  unfold hitN
  rw [List.range_succ, List.map_append, List.sum_append]
  simp only [List.map_cons, List.map_nil, List.sum_cons, List.sum_nil]
  omega
theorem cntN_take {n k : Nat} {ns : List Nat} (h : k < ns.length) (v : Nat) : cntN n (ns.take (k + 1)) v = cntN n (ns.take k) v + hitN n ns[k] v := by
  rw [List.take_add_one, cntN_app, List.getElem?_eq_getElem h]
  simp [cntN]
theorem zl_At {ns : List Nat} {k : Nat} (h : k < ns.length) : At (zl ns) k = (ns[k] : Int) := by
  unfold At zl
  simp [h]
def inN (n : Nat) (ns : List Nat) : Prop := ∀ k (h : k < ns.length), ns[k] < 1 <<< n
theorem hitN_le (e v : Nat) : ∀ n, hitN n e v ≤ n + 1
  | 0 => by rw [hitN_0]; split <;> omega
  | n + 1 => by
    have := hitN_le e v n
    rw [hitN_succ]
    split <;> omega
theorem cntN_le (n : Nat) (hn : n ≤ 7) (v : Nat) : ∀ ns : List Nat, cntN n ns v ≤ 8 * ns.length
  | [] => by simp [cntN]
  | e :: ns => by
    have h1 := cntN_le n hn v ns
    have h2 := hitN_le e v n
    have e1 : cntN n (e :: ns) v = hitN n e v + cntN n ns v := by simp [cntN]
    rw [e1, List.length_cons]; omega
theorem xor_lt {n e j : Nat} (he : e < 1 <<< n) (hj : j < n) : e ^^^ 1 <<< j < 1 <<< n := by
  have e1 : 1 <<< n = 2 ^ n := Nat.one_shiftLeft n
  have h2 : 1 <<< j < 2 ^ n := by rw [Nat.one_shiftLeft]; exact Nat.pow_lt_pow_right (by omega) hj
  rw [e1] at he ⊢
  exact Nat.xor_lt_two_pow he h2
noncomputable def F33 : FF := ov 61 (spII f61) (ov 56 (spI f56) F0)
theorem F33_ok : FOK Try.prog F33 := ov_ok ok61 (ov_ok ok56 (F0_ok _))
theorem F33_mono : F33.mono := ov_mono (spII_mo _) (ov_mono (spI_mo _) F0_mono)
noncomputable def oT (n : Nat) (ns : List Nat) : Out := .sl 3 1 (1 <<< n) (some (1 <<< n)) (iL (fZ (1 <<< n) (cntN n ns)))
set_option maxHeartbeats 4000000 in
theorem run33 (el : TypeId) (n : Nat) (ns : List Nat) (cap : Option Nat) (hn : n ≤ 7) (hl : ns.length ≤ 200) (hin : inN n ns) : JQ Try.prog drops Try.f33.ntmps F33 q33 257 (Kend res33 (Good 1 (oT n ns))) (bind (.cons (I (n : Int)) (.cons (.sl (tp 255) 0 1 (zl ns).length cap) .nil)) 0 .lf) (hp0 [blkL el (iL (zl ns))] 255) 257 := by
  have hF := F33_ok
  have hM := F33_mono
  have h56 := f56_at (a := n) (by omega)
  have hN : 1 <<< n ≤ 128 := by rw [Nat.one_shiftLeft]; exact Nat.pow_le_pow_right (n := 2) (by omega) hn
  have hzl := zl_len ns
  unfold q33
  (refine JQ.step follows hF hM ?_; simp (config := { maxSteps := 4000000 }) (disch := (omega)) only [go_sem, Nat.reduceLT, Nat.reduceEqDiff, reduceIte, Nat.reduceAdd, Nat.reduceSub, Nat.reduceLeDiff, Int.reduceEq, Int.reduceLT, Int.reduceLE, Int.reduceNeg, Int.reduceAdd, Int.reduceSub, Int.reduceToNat, Int.reduceMul, Nat.reduceMul])
  obtain ⟨N, hNN⟩ : ∃ N, N = 1 <<< n := ⟨_, rfl⟩
  have hin' : ∀ k (h : k < ns.length), ns[k] < N := fun k h => by rw [hNN]; exact hin k h
  rw [← hNN] at hN h56
  have hoT : oT n ns = .sl 3 1 N (some N) (iL (fZ N (cntN n ns))) := by unfold oT; rw [← hNN]
  (refine JQ.step follows hF hM ?_; simp (config := { maxSteps := 4000000 }) (disch := (omega)) only [go_sem, Nat.reduceLT, Nat.reduceEqDiff, reduceIte, Nat.reduceAdd, Nat.reduceSub, Nat.reduceLeDiff, Int.reduceEq, Int.reduceLT, Int.reduceLE, Int.reduceNeg, Int.reduceAdd, Int.reduceSub, Int.reduceToNat, Int.reduceMul, Nat.reduceMul, F33, h56])
  refine JQ.seq ?_
  (refine JQ.step follows hF hM ?_; simp (config := { maxSteps := 4000000 }) (disch := (omega)) only [go_sem, Nat.reduceLT, Nat.reduceEqDiff, reduceIte, Nat.reduceAdd, Nat.reduceSub, Nat.reduceLeDiff, Int.reduceEq, Int.reduceLT, Int.reduceLE, Int.reduceNeg, Int.reduceAdd, Int.reduceSub, Int.reduceToNat, Int.reduceMul, Nat.reduceMul, hzl])
  refine JQ.block ?_
  refine JQ.loop (σ := Nat) (fun k => k ≤ ns.length) (fun k => (((((Tr.lf.set (I (n : Int)) (tp 0)).set (.sl (tp 255) 0 1 ns.length cap) (tp 1)).set (.sl (tp 256) 0 1 N (some N)) (tp 5)).set (.sl (tp 255) 0 1 ns.length cap) (tp 12)).set (I (ns.length : Int)) (tp 13)).set (I (k : Int)) (tp 14))
    (fun k => (Hp.lf.put (some (blkL el (iL (zl ns)))) (tp 255)).put (some (blkL 3 (iL (fZ N (cntN n (ns.take k)))))) (tp 256)) (fun _ => 258) (fun k => ns.length - k) 0 (Nat.zero_le _) (by ((repeat' (first | exact EnvLe.lf _ | refine EnvLe.set (by decide) ?_ ?_)) <;> first | exact EnvLe.lf _ | (simp (config := { maxSteps := 4000000 }) (disch := (omega)) only [go_sem, Nat.reduceLT, Nat.reduceEqDiff, reduceIte, Nat.reduceAdd, Nat.reduceSub, Nat.reduceLeDiff, Int.reduceEq, Int.reduceLT, Int.reduceLE, Int.reduceNeg, Int.reduceAdd, Int.reduceSub, Int.reduceToNat, Int.reduceMul, Nat.reduceMul, hzl, Int.natCast_add, Int.cast_ofNat_Int]; done) | (simp (config := { maxSteps := 4000000 }) (disch := (omega)) only [go_sem, Nat.reduceLT, Nat.reduceEqDiff, reduceIte, Nat.reduceAdd, Nat.reduceSub, Nat.reduceLeDiff, Int.reduceEq, Int.reduceLT, Int.reduceLE, Int.reduceNeg, Int.reduceAdd, Int.reduceSub, Int.reduceToNat, Int.reduceMul, Nat.reduceMul, hzl, Int.natCast_add, Int.cast_ofNat_Int] <;> first | rfl | (congr 1; omega))))
    (by
      have e : fZ N (cntN n (ns.take 0)) = List.replicate N 0 := by rw [← fZ_zero]; exact fZ_congr fun v _ => by simp [cntN]
      rw [e]
      exact HpLe.put ⟨_, hget_same _ _ _, by have := mk_le (el := 3) N N (Nat.le_refl _) (by omega); simpa using this⟩ (HpLe.put ⟨_, by rw [put_other (by omega) (by omega) (by omega)]; exact hget_same _ _ _, BlkLe.refl _⟩ (HpLe.lf _))) rfl ?_
  intro k hk
  unfold q33_l1
  obtain ⟨g, hg⟩ : ∃ g, g = cntN n (ns.take k) := ⟨_, rfl⟩
  rw [← hg]
  obtain ⟨H, hH⟩ : ∃ H, H = (Hp.lf.put (some (blkL el (iL (zl ns)))) (tp 255)).put (some (blkL 3 (iL (fZ N g)))) (tp 256) := ⟨_, rfl⟩
  have gO : H.get (tp 255) = some (blkL el (iL (zl ns))) := by rw [hH, put_other (by omega) (by omega) (by omega)]; exact hget_same _ _ _
  have gT : H.get (tp 256) = some (blkL 3 (iL (fZ N g))) := by rw [hH]; exact hget_same _ _ _
  have gb : ∀ v, g v ≤ 2000 := fun v => by
    have := cntN_le n hn v (ns.take k)
    rw [hg]
    have h2 : (ns.take k).length ≤ 200 := by rw [List.length_take]; omega
    omega
  rw [← hH]
  have hfl := fZ_len N g
  by_cases hlt : k < ns.length
  · have hlt' : (k : Int) < (ns.length : Int) := by omega
    have hat := zl_At hlt
    have hkN := hin' k hlt
    have hsucc : ∀ v, cntN n (ns.take (k + 1)) v = g v + hitN n ns[k] v := fun v => by rw [cntN_take hlt, hg]
    obtain ⟨e, he⟩ : ∃ e, e = ns[k] := ⟨_, rfl⟩
    rw [← he] at hat hkN hsucc
    have hta := fZ_at g hkN
    have hge := gb e
    have hset := set_le (el := 3) (xs := fZ N g) (k := e) (z := (g e : Int) + 1) (by rw [hfl]; exact hkN) (by rw [hfl]; omega)
    rw [fZ_bump g hkN] at hset
    (refine JQ.step follows hF hM ?_; simp (config := { maxSteps := 4000000 }) (disch := (omega)) only [go_sem, Nat.reduceLT, Nat.reduceEqDiff, reduceIte, Nat.reduceAdd, Nat.reduceSub, Nat.reduceLeDiff, Int.reduceEq, Int.reduceLT, Int.reduceLE, Int.reduceNeg, Int.reduceAdd, Int.reduceSub, Int.reduceToNat, Int.reduceMul, Nat.reduceMul, hlt'])
    (refine JQ.step follows hF hM ?_; simp (config := { maxSteps := 4000000 }) (disch := (omega)) only [go_sem, Nat.reduceLT, Nat.reduceEqDiff, reduceIte, Nat.reduceAdd, Nat.reduceSub, Nat.reduceLeDiff, Int.reduceEq, Int.reduceLT, Int.reduceLE, Int.reduceNeg, Int.reduceAdd, Int.reduceSub, Int.reduceToNat, Int.reduceMul, Nat.reduceMul])
    refine JQ.seq ?_
    refine JQ.block ?_
    (refine JQ.step follows hF hM ?_; simp (config := { maxSteps := 4000000 }) (disch := (omega)) only [go_sem, Nat.reduceLT, Nat.reduceEqDiff, reduceIte, Nat.reduceAdd, Nat.reduceSub, Nat.reduceLeDiff, Int.reduceEq, Int.reduceLT, Int.reduceLE, Int.reduceNeg, Int.reduceAdd, Int.reduceSub, Int.reduceToNat, Int.reduceMul, Nat.reduceMul, gO, hzl, hat])
    (refine JQ.step follows hF hM ?_; simp (config := { maxSteps := 4000000 }) (disch := (omega)) only [go_sem, Nat.reduceLT, Nat.reduceEqDiff, reduceIte, Nat.reduceAdd, Nat.reduceSub, Nat.reduceLeDiff, Int.reduceEq, Int.reduceLT, Int.reduceLE, Int.reduceNeg, Int.reduceAdd, Int.reduceSub, Int.reduceToNat, Int.reduceMul, Nat.reduceMul, gT, hfl, hta])
    (refine JQ.step follows hF hM ?_; simp (config := { maxSteps := 4000000 }) (disch := (omega)) only [go_sem, Nat.reduceLT, Nat.reduceEqDiff, reduceIte, Nat.reduceAdd, Nat.reduceSub, Nat.reduceLeDiff, Int.reduceEq, Int.reduceLT, Int.reduceLE, Int.reduceNeg, Int.reduceAdd, Int.reduceSub, Int.reduceToNat, Int.reduceMul, Nat.reduceMul])
    refine JQ.block ?_
    refine JQ.loop (σ := Nat) (fun j => j ≤ n) (fun j => ((((((((Tr.lf.set (I (n : Int)) (tp 0)).set (.sl (tp 255) 0 1 ns.length cap) (tp 1)).set (.sl (tp 256) 0 1 N (some N)) (tp 5)).set (I (e : Int)) (tp 7)).set (.sl (tp 255) 0 1 ns.length cap) (tp 12)).set (I (ns.length : Int)) (tp 13)).set (I (k : Int)) (tp 14)).set (I (n : Int)) (tp 24)).set (I (j : Int)) (tp 25))
      (fun j => (Hp.lf.put (some (blkL el (iL (zl ns)))) (tp 255)).put (some (blkL 3 (iL (fZ N fun v => g v + hitN j e v)))) (tp 256)) (fun _ => 258) (fun j => n - j) 0 (Nat.zero_le _) (by ((repeat' (first | exact EnvLe.lf _ | refine EnvLe.set (by decide) ?_ ?_)) <;> first | exact EnvLe.lf _ | (simp (config := { maxSteps := 4000000 }) (disch := (omega)) only [go_sem, Nat.reduceLT, Nat.reduceEqDiff, reduceIte, Nat.reduceAdd, Nat.reduceSub, Nat.reduceLeDiff, Int.reduceEq, Int.reduceLT, Int.reduceLE, Int.reduceNeg, Int.reduceAdd, Int.reduceSub, Int.reduceToNat, Int.reduceMul, Nat.reduceMul, Int.natCast_add, Int.cast_ofNat_Int]; done) | (simp (config := { maxSteps := 4000000 }) (disch := (omega)) only [go_sem, Nat.reduceLT, Nat.reduceEqDiff, reduceIte, Nat.reduceAdd, Nat.reduceSub, Nat.reduceLeDiff, Int.reduceEq, Int.reduceLT, Int.reduceLE, Int.reduceNeg, Int.reduceAdd, Int.reduceSub, Int.reduceToNat, Int.reduceMul, Nat.reduceMul, Int.natCast_add, Int.cast_ofNat_Int] <;> first | rfl | (congr 1; omega))))
      (by
        refine HpLe.put ⟨_, hget_same _ _ _, ?_⟩ (HpLe.put ⟨_, by rw [put_other (by omega) (by omega) (by omega)]; exact gO, BlkLe.refl _⟩ (HpLe.lf _))
        have e0 : (fun v => g v + hitN 0 e v) = fun v => g v + if v = e then 1 else 0 := by funext v; rw [hitN_0]
        rw [e0]
        exact hset) rfl ?_
    intro j hj
    unfold q33_l0
    obtain ⟨G, hG⟩ : ∃ G, G = fun v => g v + hitN j e v := ⟨_, rfl⟩
    obtain ⟨K, hK⟩ : ∃ K, K = (Hp.lf.put (some (blkL el (iL (zl ns)))) (tp 255)).put (some (blkL 3 (iL (fZ N G)))) (tp 256) := ⟨_, rfl⟩
    have kO : K.get (tp 255) = some (blkL el (iL (zl ns))) := by rw [hK, put_other (by omega) (by omega) (by omega)]; exact hget_same _ _ _
    have kT : K.get (tp 256) = some (blkL 3 (iL (fZ N G))) := by rw [hK]; exact hget_same _ _ _
    have hGl := fZ_len N G
    have hGb : ∀ v, G v ≤ 3000 := fun v => by
      have h1 := gb v
      have h2 := hitN_le e v j
      rw [hG]; dsimp only; omega
    rw [← hG, ← hK]
    by_cases hjt : j < n
    · have hjt' : (j : Int) < (n : Int) := by omega
      have hu := xor_lt (n := n) (e := e) (j := j) (by rw [← hNN]; exact hkN) hjt
      rw [← hNN] at hu
      have h61 := f61_at (a := e) (i := j) (by omega) (by omega)
      obtain ⟨u, hue⟩ : ∃ u, u = e ^^^ 1 <<< j := ⟨_, rfl⟩
      rw [← hue] at hu h61
      have hta2 := fZ_at G hu
      have hGe := hGb u
      have hset2 := set_le (el := 3) (xs := fZ N G) (k := u) (z := (G u : Int) + 1) (by rw [hGl]; exact hu) (by rw [hGl]; omega)
      rw [fZ_bump G hu] at hset2
      have e2 : (fun v => G v + if v = u then 1 else 0) = fun v => g v + hitN (j + 1) e v := by
        funext v
        rw [hitN_succ, hG, hue]; dsimp only; omega
      rw [e2] at hset2
      (refine JQ.run follows hF hM ?_; simp (config := { maxSteps := 4000000 }) (disch := (omega)) only [go_sem, Nat.reduceLT, Nat.reduceEqDiff, reduceIte, Nat.reduceAdd, Nat.reduceSub, Nat.reduceLeDiff, Int.reduceEq, Int.reduceLT, Int.reduceLE, Int.reduceNeg, Int.reduceAdd, Int.reduceSub, Int.reduceToNat, Int.reduceMul, Nat.reduceMul, hjt', kT, hGl, hta2, h61, F33])
      exact ⟨j + 1, by omega, by omega, by ((repeat' (first | exact EnvLe.lf _ | refine EnvLe.set (by decide) ?_ ?_)) <;> first | exact EnvLe.lf _ | (simp (config := { maxSteps := 4000000 }) (disch := (omega)) only [go_sem, Nat.reduceLT, Nat.reduceEqDiff, reduceIte, Nat.reduceAdd, Nat.reduceSub, Nat.reduceLeDiff, Int.reduceEq, Int.reduceLT, Int.reduceLE, Int.reduceNeg, Int.reduceAdd, Int.reduceSub, Int.reduceToNat, Int.reduceMul, Nat.reduceMul, Int.natCast_add, Int.cast_ofNat_Int]; done) | (simp (config := { maxSteps := 4000000 }) (disch := (omega)) only [go_sem, Nat.reduceLT, Nat.reduceEqDiff, reduceIte, Nat.reduceAdd, Nat.reduceSub, Nat.reduceLeDiff, Int.reduceEq, Int.reduceLT, Int.reduceLE, Int.reduceNeg, Int.reduceAdd, Int.reduceSub, Int.reduceToNat, Int.reduceMul, Nat.reduceMul, Int.natCast_add, Int.cast_ofNat_Int] <;> first | rfl | (congr 1; omega))), HpLe.put ⟨_, hget_same _ _ _, hset2⟩ (HpLe.put ⟨_, by rw [put_other (by omega) (by omega) (by omega)]; exact kO, BlkLe.refl _⟩ (HpLe.lf _))⟩
    · obtain rfl : j = n := by omega
      (refine JQ.run follows hF hM ?_; simp (config := { maxSteps := 4000000 }) (disch := (omega)) only [go_sem, Nat.reduceLT, Nat.reduceEqDiff, reduceIte, Nat.reduceAdd, Nat.reduceSub, Nat.reduceLeDiff, Int.reduceEq, Int.reduceLT, Int.reduceLE, Int.reduceNeg, Int.reduceAdd, Int.reduceSub, Int.reduceToNat, Int.reduceMul, Nat.reduceMul, Int.lt_irrefl])
      have e3 : G = cntN j (ns.take (k + 1)) := by rw [hG]; funext v; rw [hsucc]
      (refine JQ.run follows hF hM ?_; simp (config := { maxSteps := 4000000 }) (disch := (omega)) only [go_sem, Nat.reduceLT, Nat.reduceEqDiff, reduceIte, Nat.reduceAdd, Nat.reduceSub, Nat.reduceLeDiff, Int.reduceEq, Int.reduceLT, Int.reduceLE, Int.reduceNeg, Int.reduceAdd, Int.reduceSub, Int.reduceToNat, Int.reduceMul, Nat.reduceMul])
      exact ⟨k + 1, by omega, by omega, by ((repeat' (first | exact EnvLe.lf _ | refine EnvLe.set (by decide) ?_ ?_)) <;> first | exact EnvLe.lf _ | (simp (config := { maxSteps := 4000000 }) (disch := (omega)) only [go_sem, Nat.reduceLT, Nat.reduceEqDiff, reduceIte, Nat.reduceAdd, Nat.reduceSub, Nat.reduceLeDiff, Int.reduceEq, Int.reduceLT, Int.reduceLE, Int.reduceNeg, Int.reduceAdd, Int.reduceSub, Int.reduceToNat, Int.reduceMul, Nat.reduceMul, Int.natCast_add, Int.cast_ofNat_Int]; done) | (simp (config := { maxSteps := 4000000 }) (disch := (omega)) only [go_sem, Nat.reduceLT, Nat.reduceEqDiff, reduceIte, Nat.reduceAdd, Nat.reduceSub, Nat.reduceLeDiff, Int.reduceEq, Int.reduceLT, Int.reduceLE, Int.reduceNeg, Int.reduceAdd, Int.reduceSub, Int.reduceToNat, Int.reduceMul, Nat.reduceMul, Int.natCast_add, Int.cast_ofNat_Int] <;> first | rfl | (congr 1; omega))), HpLe.put ⟨_, kT, by rw [e3]; exact BlkLe.refl _⟩ (HpLe.put ⟨_, kO, BlkLe.refl _⟩ (HpLe.lf _))⟩
  · obtain rfl : k = ns.length := by omega
    have hz : g = cntN n ns := by rw [hg, List.take_length]
    (refine JQ.run follows hF hM ?_; simp (config := { maxSteps := 4000000 }) (disch := (omega)) only [go_sem, Nat.reduceLT, Nat.reduceEqDiff, reduceIte, Nat.reduceAdd, Nat.reduceSub, Nat.reduceLeDiff, Int.reduceEq, Int.reduceLT, Int.reduceLE, Int.reduceNeg, Int.reduceAdd, Int.reduceSub, Int.reduceToNat, Int.reduceMul, Nat.reduceMul, Int.lt_irrefl])
    (refine JQ.run follows hF hM ?_; simp (config := { maxSteps := 4000000 }) (disch := (omega)) only [go_sem, Nat.reduceLT, Nat.reduceEqDiff, reduceIte, Nat.reduceAdd, Nat.reduceSub, Nat.reduceLeDiff, Int.reduceEq, Int.reduceLT, Int.reduceLE, Int.reduceNeg, Int.reduceAdd, Int.reduceSub, Int.reduceToNat, Int.reduceMul, Nat.reduceMul, hoT, res33])
    rw [hz] at gT
    refine ⟨?_, goodI (nb := 1) gT (by omega) (by omega) (by omega)⟩
    rw [fZ_len]
theorem oT_ok (n : Nat) (ns : List Nat) : OutOK (oT n ns) := by
  unfold oT
  exact ⟨iL_pur _, by rw [iL_len, fZ_len]; omega⟩
set_option maxHeartbeats 4000000 in
theorem run33n (n : Nat) (hn : n ≤ 7) : JQ Try.prog drops Try.f33.ntmps F33 q33 256 (Kend res33 (Good 0 (oT n []))) (bind (.cons (I (n : Int)) (.cons .ns .nil)) 0 .lf) (hp0 [] 255) 256 := by
  have hF := F33_ok
  have hM := F33_mono
  have h56 := f56_at (a := n) (by omega)
  have hN : 1 <<< n ≤ 128 := by rw [Nat.one_shiftLeft]; exact Nat.pow_le_pow_right (n := 2) (by omega) hn
  unfold q33
  (refine JQ.step follows hF hM ?_; simp (config := { maxSteps := 4000000 }) (disch := (omega)) only [go_sem, Nat.reduceLT, Nat.reduceEqDiff, reduceIte, Nat.reduceAdd, Nat.reduceSub, Nat.reduceLeDiff, Int.reduceEq, Int.reduceLT, Int.reduceLE, Int.reduceNeg, Int.reduceAdd, Int.reduceSub, Int.reduceToNat, Int.reduceMul, Nat.reduceMul])
  obtain ⟨N, hNN⟩ : ∃ N, N = 1 <<< n := ⟨_, rfl⟩
  rw [← hNN] at hN h56
  have hoT : oT n [] = .sl 3 1 N (some N) (iL (fZ N (cntN n []))) := by unfold oT; rw [← hNN]
  (refine JQ.step follows hF hM ?_; simp (config := { maxSteps := 4000000 }) (disch := (omega)) only [go_sem, Nat.reduceLT, Nat.reduceEqDiff, reduceIte, Nat.reduceAdd, Nat.reduceSub, Nat.reduceLeDiff, Int.reduceEq, Int.reduceLT, Int.reduceLE, Int.reduceNeg, Int.reduceAdd, Int.reduceSub, Int.reduceToNat, Int.reduceMul, Nat.reduceMul, F33, h56])
  refine JQ.seq ?_
  (refine JQ.step follows hF hM ?_; simp (config := { maxSteps := 4000000 }) (disch := (omega)) only [go_sem, Nat.reduceLT, Nat.reduceEqDiff, reduceIte, Nat.reduceAdd, Nat.reduceSub, Nat.reduceLeDiff, Int.reduceEq, Int.reduceLT, Int.reduceLE, Int.reduceNeg, Int.reduceAdd, Int.reduceSub, Int.reduceToNat, Int.reduceMul, Nat.reduceMul])
  refine JQ.block ?_
  refine JQ.loop (σ := Nat) (fun k => k = 0) (fun k => ((((Tr.lf.set (.sl (tp 255) 0 1 N (some N)) (tp 5)).set .ns (tp 12)).set (I 0) (tp 13)).set (I 0) (tp 14)))
    (fun k => Hp.lf.put (some (blkL 3 (iL (fZ N (cntN n []))))) (tp 255)) (fun _ => 257) (fun k => 0) 0 rfl (by ((repeat' (first | exact EnvLe.lf _ | refine EnvLe.set (by decide) ?_ ?_)) <;> first | exact EnvLe.lf _ | (simp (config := { maxSteps := 4000000 }) (disch := (omega)) only [go_sem, Nat.reduceLT, Nat.reduceEqDiff, reduceIte, Nat.reduceAdd, Nat.reduceSub, Nat.reduceLeDiff, Int.reduceEq, Int.reduceLT, Int.reduceLE, Int.reduceNeg, Int.reduceAdd, Int.reduceSub, Int.reduceToNat, Int.reduceMul, Nat.reduceMul, Int.natCast_add, Int.cast_ofNat_Int]; done) | (simp (config := { maxSteps := 4000000 }) (disch := (omega)) only [go_sem, Nat.reduceLT, Nat.reduceEqDiff, reduceIte, Nat.reduceAdd, Nat.reduceSub, Nat.reduceLeDiff, Int.reduceEq, Int.reduceLT, Int.reduceLE, Int.reduceNeg, Int.reduceAdd, Int.reduceSub, Int.reduceToNat, Int.reduceMul, Nat.reduceMul, Int.natCast_add, Int.cast_ofNat_Int] <;> first | rfl | (congr 1; omega))))
    (by
      have e : fZ N (cntN n []) = List.replicate N 0 := by rw [← fZ_zero]; exact fZ_congr fun v _ => by simp [cntN]
      rw [e]
      exact HpLe.put ⟨_, hget_same _ _ _, by have := mk_le (el := 3) N N (Nat.le_refl _) (by omega); simpa using this⟩ (HpLe.lf _)) rfl ?_
  intro k hk
  unfold q33_l1
  obtain ⟨H, hH⟩ : ∃ H, H = Hp.lf.put (some (blkL 3 (iL (fZ N (cntN n []))))) (tp 255) := ⟨_, rfl⟩
  have gT : H.get (tp 255) = some (blkL 3 (iL (fZ N (cntN n [])))) := by rw [hH]; exact hget_same _ _ _
  rw [← hH]
  (refine JQ.run follows hF hM ?_; simp (config := { maxSteps := 4000000 }) (disch := (omega)) only [go_sem, Nat.reduceLT, Nat.reduceEqDiff, reduceIte, Nat.reduceAdd, Nat.reduceSub, Nat.reduceLeDiff, Int.reduceEq, Int.reduceLT, Int.reduceLE, Int.reduceNeg, Int.reduceAdd, Int.reduceSub, Int.reduceToNat, Int.reduceMul, Nat.reduceMul, Int.lt_irrefl])
  (refine JQ.run follows hF hM ?_; simp (config := { maxSteps := 4000000 }) (disch := (omega)) only [go_sem, Nat.reduceLT, Nat.reduceEqDiff, reduceIte, Nat.reduceAdd, Nat.reduceSub, Nat.reduceLeDiff, Int.reduceEq, Int.reduceLT, Int.reduceLE, Int.reduceNeg, Int.reduceAdd, Int.reduceSub, Int.reduceToNat, Int.reduceMul, Nat.reduceMul, hoT, res33])
  refine ⟨?_, goodI (nb := 0) gT (by omega) (by omega) (by omega)⟩
  rw [fZ_len]
/-- Natural numbers out of a list. -/
def natL (xs : List Int) : List Nat := xs.map Int.toNat
theorem zl_natL {xs : List Int} (h : xs.all (fun z => decide (0 ≤ z)) = true) : zl (natL xs) = xs := by
  unfold zl natL
  rw [List.map_map]
  have : xs.map ((fun (x : Nat) => (x : Int)) ∘ Int.toNat) = xs.map id := List.map_congr_left fun z hz => by
    have := List.all_eq_true.1 h z hz
    have h0 : 0 ≤ z := of_decide_eq_true this
    show ((z.toNat : Nat) : Int) = z
    omega
  rw [this, List.map_id]
def okCd (n : Nat) (xs : List Int) : Bool := and (decide (xs.length ≤ 200)) (xs.all fun z => and (decide (0 ≤ z)) (decide (z < ((1 <<< n : Nat) : Int))))
theorem okCd_nat {n : Nat} {xs : List Int} (h : okCd n xs = true) : zl (natL xs) = xs ∧ (natL xs).length ≤ 200 ∧ inN n (natL xs) := by
  unfold okCd at h
  rw [Bool.and_eq_true, decide_eq_true_eq] at h
  obtain ⟨h1, h2⟩ := h
  have h3 : xs.all (fun z => decide (0 ≤ z)) = true := List.all_eq_true.2 fun z hz => by
    have := List.all_eq_true.1 h2 z hz
    rw [Bool.and_eq_true] at this; exact this.1
  refine ⟨zl_natL h3, by unfold natL; rw [List.length_map]; exact h1, fun k hk => ?_⟩
  have hk' : k < xs.length := by unfold natL at hk; rw [List.length_map] at hk; exact hk
  have := List.all_eq_true.1 h2 xs[k] (List.getElem_mem hk')
  rw [Bool.and_eq_true, decide_eq_true_eq, decide_eq_true_eq] at this
  have e : (natL xs)[k] = xs[k].toNat := by simp [natL]
  rw [e]; omega
noncomputable def f33 (z : Int) (xs : List Int) : Out := if (0 ≤ z ∧ z ≤ 7) ∧ okCd z.toNat xs = true then oT z.toNat (natL xs) else .no
theorem f33_at {n : Nat} {xs : List Int} (hn : n ≤ 7) (h : okCd n xs = true) : f33 (n : Int) xs = oT n (natL xs) := by
  unfold f33
  rw [Int.toNat_natCast, if_pos ⟨⟨by omega, by omega⟩, h⟩]
theorem f33_no {z : Int} {xs : List Int} (h : f33 z xs ≠ .no) : ∃ n : Nat, z = n ∧ n ≤ 7 ∧ okCd n xs = true := by
  unfold f33 at h
  split at h
  · rename_i hc
    exact ⟨z.toNat, by omega, by omega, hc.2⟩
  · exact absurd rfl h
theorem ok33 : SOK Try.prog 33 (spIL f33) := spIL_ok Try.func33 n33 b33 k33 r33 (fun z xs => by
    unfold f33
    split
    · exact oT_ok _ _
    · exact trivial)
  (fun el z xs cap hne => by
    obtain ⟨n, rfl, hn, hc⟩ := f33_no hne
    rw [f33_at hn hc]
    obtain ⟨e1, e2, e3⟩ := okCd_nat hc
    have := run33 el n (natL xs) cap hn e2 e3
    rw [e1] at this
    exact this)
  (fun z hne => by
    obtain ⟨n, rfl, hn, hc⟩ := f33_no hne
    rw [f33_at hn hc]
    exact run33n n hn)
end Go.Proofs.Ythgaekbcmhbbgaa.Ev
/- Codes: checked, and how often colourings are covered. -/
namespace Go.Proofs.Ythgaekbcmhbbgaa.Ev
set_option linter.unusedVariables false
set_option linter.unusedSimpArgs false
set_option maxRecDepth 100000
open Go Go.Proofs Go.RowKit
attribute [local go_sem] evC_seq evC_reg evC_cond evC_block evC_skip evC_exit evC_ret evR_cons evR_nil evR_gd guardB_tt guardB_ff guardB_tf guardB_ft guardB_none bindR_ok bindR_okn rgRs_ok seqR_nor seqR_ext seqR_ret condR_true condR_false blockR_nor blockR_ext blockR_ret evX_t evX_c evXL_nil evXL_cons O_mv O_bin O_pick O_eqb O_not O_ext O_call O_conv O_slen O_six O_sbi pv_I pv_i pv_b pv_s pv_ns pv_sl pv_p pv_tu pv_ag bin_lss bin_leq bin_gtr bin_geq bin_eql bin_neq bin8_eql bin8_neq bin_add bin_sub bin_mul get_st get_lf bind_nil bind_cons if_true if_false Got_nor Got_ext Got_ret Kseq Kblk Klp Kend onStr_s onB_b onT_tu onI_I onN_I onK_I eqb_b not_b nthL_0 nthL_1 nthL_2 known_nil known_cons I_known known_b known_s evRVs_nil evRVs_cons evRes_1 evRes_2 evRV_tmp Bool.and_true Bool.true_and Bool.and_self Bool.not_true Bool.not_false decide_true decide_false Int.toNat_natCast true_and and_true big hget_same hget_ne newB_n onP_p onS_sl onS_ns O_fad O_alloc_if O_ixs O_len O_ld O_st O_box boxB_if ldB_if ldB_agif stB_if stB_wif toL_I toL_i toL_b toL_s toL_sl toL_ns toL_ag allC_nil allC_cons isC_i isC_b isC_s isC_sl isC_ns I_isC Llen_nil Llen_cons Lget_0 Lget_1 Lget_2 Lget_3 blkL_size cell_blkL_if getL_blkL_if getL_setL_if setL_sz evRV_cell' rvB_agif rvB_if evPL_cons bldK_if evPL_nil O_build O_part evBuild_ok okL_some onA_ag partV_1 evPart_eq updS_nil updS_cons upd_0 upd_1 upd_2 upd_3 ge_iff_le if_pos and_self Nat.le_refl known_ag known_sl known_ns known_i ov_at spS_eq spSI_eq spSII_eq spI_eq spII_eq spIII_eq spIIII_eq res_v res_sl res_slE Good I_pur pur_b pur_s pur_i pur_ns pur_ag pur_tu purL_nil purL_cons evDr_eq evDs_nil evDs_cons dsR_ok stepD_eq sdB_n sdB_g sdG_tt sdG_ff sdG_tf sdG_ft sdG_none runD_0 rdR_f rdR_t baseOf_pu baseOf_h baseU_nil baseA_nil baseA_0 baseR_nil baseR_0 baseR_00 appAll_nil appAll_0 restr_nil restr_cons setD_some setD_none evC_draw iL_len iL_get iL_allC iL_pur hp0_0 hp0_c rdL_ns rdL_sl List.length_cons List.length_nil O_mks mkB_if O_bsl bslB_if O_app apX_ns apX_sl apN_some apS_some blkL_el Nat.one_mul Nat.mul_one Nat.zero_add n_I onF_fn O_callv app_nil app_cons spLF_eq spL_eq spLL_eq onL_some onLL_ss onLL_ns onLL_sn onLL_nn rdB_blk Int.cast_ofNat_Int tlX_none tlX_some tlOf_cons tlOf_1 tlOf_1t tlM_none tlM_some
noncomputable def F32 : FF := ov 51 (spII f51) (ov 44 (spI f44) F0)
theorem F32_ok : FOK Try.prog F32 := ov_ok ok51 (ov_ok ok44 (F0_ok _))
theorem F32_mono : F32.mono := ov_mono (spII_mo _) (ov_mono (spI_mo _) F0_mono)
def ascN (ns : List Nat) : Prop := ∀ k (h : k + 1 < ns.length), ns[k] < ns[k + 1]
set_option maxHeartbeats 4000000 in
theorem run32 (el : TypeId) (n : Nat) (ns : List Nat) (cap : Option Nat) (h1 : 1 ≤ n) (hn : n ≤ 7) (hl : ns.length ≤ 200) (hin : inN n ns) (has : ascN ns) :
    JQ Try.prog drops Try.f32.ntmps F32 q32 257 (Kend res32 (Good 1 (.v (I 0)))) (bind (.cons (I (n : Int)) (.cons (.sl (tp 255) 0 1 (zl ns).length cap) .nil)) 0 .lf) (hp0 [blkL el (iL (zl ns))] 255) 257 := by
  have hF := F32_ok
  have hM := F32_mono
  have hzl := zl_len ns
  have d44 : decide (1 ≤ (n : Int) ∧ (n : Int) ≤ 7) = true := decide_eq_true ⟨by omega, by omega⟩
  have e44 : f44 (n : Int) = .v (.b true) := by unfold f44; rw [d44]
  unfold q32
  (refine JQ.step follows hF hM ?_; simp (config := { maxSteps := 4000000 }) (disch := (omega)) only [go_sem, Nat.reduceLT, Nat.reduceEqDiff, reduceIte, Nat.reduceAdd, Nat.reduceSub, Nat.reduceLeDiff, Int.reduceEq, Int.reduceLT, Int.reduceLE, Int.reduceNeg, Int.reduceAdd, Int.reduceSub, Int.reduceToNat, Int.reduceMul, Nat.reduceMul])
  refine JQ.seq ?_
  (refine JQ.step follows hF hM ?_; simp (config := { maxSteps := 4000000 }) (disch := (omega)) only [go_sem, Nat.reduceLT, Nat.reduceEqDiff, reduceIte, Nat.reduceAdd, Nat.reduceSub, Nat.reduceLeDiff, Int.reduceEq, Int.reduceLT, Int.reduceLE, Int.reduceNeg, Int.reduceAdd, Int.reduceSub, Int.reduceToNat, Int.reduceMul, Nat.reduceMul, F32, e44])
  (refine JQ.run follows hF hM ?_; simp (config := { maxSteps := 4000000 }) (disch := (omega)) only [go_sem, Nat.reduceLT, Nat.reduceEqDiff, reduceIte, Nat.reduceAdd, Nat.reduceSub, Nat.reduceLeDiff, Int.reduceEq, Int.reduceLT, Int.reduceLE, Int.reduceNeg, Int.reduceAdd, Int.reduceSub, Int.reduceToNat, Int.reduceMul, Nat.reduceMul])
  refine JQ.seq ?_
  (refine JQ.step follows hF hM ?_; simp (config := { maxSteps := 4000000 }) (disch := (omega)) only [go_sem, Nat.reduceLT, Nat.reduceEqDiff, reduceIte, Nat.reduceAdd, Nat.reduceSub, Nat.reduceLeDiff, Int.reduceEq, Int.reduceLT, Int.reduceLE, Int.reduceNeg, Int.reduceAdd, Int.reduceSub, Int.reduceToNat, Int.reduceMul, Nat.reduceMul, hzl])
  refine JQ.block ?_
  refine JQ.loop (σ := Nat) (fun k => k ≤ ns.length) (fun k => (((((Tr.lf.set (I (n : Int)) (tp 0)).set (.sl (tp 255) 0 1 ns.length cap) (tp 1)).set (.sl (tp 255) 0 1 ns.length cap) (tp 10)).set (I (ns.length : Int)) (tp 11)).set (I (k : Int)) (tp 12)))
    (fun k => Hp.lf.put (some (blkL el (iL (zl ns)))) (tp 255)) (fun _ => 257) (fun k => ns.length - k) 0 (Nat.zero_le _) (by ((repeat' (first | exact EnvLe.lf _ | refine EnvLe.set (by decide) ?_ ?_)) <;> first | exact EnvLe.lf _ | (simp (config := { maxSteps := 4000000 }) (disch := (omega)) only [go_sem, Nat.reduceLT, Nat.reduceEqDiff, reduceIte, Nat.reduceAdd, Nat.reduceSub, Nat.reduceLeDiff, Int.reduceEq, Int.reduceLT, Int.reduceLE, Int.reduceNeg, Int.reduceAdd, Int.reduceSub, Int.reduceToNat, Int.reduceMul, Nat.reduceMul, hzl, Int.natCast_add, Int.cast_ofNat_Int]; done) | (simp (config := { maxSteps := 4000000 }) (disch := (omega)) only [go_sem, Nat.reduceLT, Nat.reduceEqDiff, reduceIte, Nat.reduceAdd, Nat.reduceSub, Nat.reduceLeDiff, Int.reduceEq, Int.reduceLT, Int.reduceLE, Int.reduceNeg, Int.reduceAdd, Int.reduceSub, Int.reduceToNat, Int.reduceMul, Nat.reduceMul, hzl, Int.natCast_add, Int.cast_ofNat_Int] <;> first | rfl | (congr 1; omega)))) (HpLe.refl _) rfl ?_
  intro k hk
  unfold q32_l0
  obtain ⟨H, hH⟩ : ∃ H, H = Hp.lf.put (some (blkL el (iL (zl ns)))) (tp 255) := ⟨_, rfl⟩
  have gO : H.get (tp 255) = some (blkL el (iL (zl ns))) := by rw [hH]; exact hget_same _ _ _
  rw [← hH]
  by_cases hlt : k < ns.length
  · have hlt' : (k : Int) < (ns.length : Int) := by omega
    have hat := zl_At hlt
    have hkN := hin k hlt
    have h51 := f51_at (a := n) (c := (ns[k] : Int)) (by omega)
    have d51 : decide (0 ≤ (ns[k] : Int) ∧ (ns[k] : Int) < ((1 <<< n : Nat) : Int)) = true := decide_eq_true ⟨by omega, by omega⟩
    rw [d51] at h51
    cases k with
    | zero =>
      have hlt0 : (0 : Int) < (ns.length : Int) := by omega
      (refine JQ.run follows hF hM ?_; simp (config := { maxSteps := 4000000 }) (disch := (omega)) only [go_sem, Nat.reduceLT, Nat.reduceEqDiff, reduceIte, Nat.reduceAdd, Nat.reduceSub, Nat.reduceLeDiff, Int.reduceEq, Int.reduceLT, Int.reduceLE, Int.reduceNeg, Int.reduceAdd, Int.reduceSub, Int.reduceToNat, Int.reduceMul, Nat.reduceMul, hlt0, gO, hzl, hat, h51, F32, Int.lt_irrefl])
      exact ⟨1, by omega, by omega, by ((repeat' (first | exact EnvLe.lf _ | refine EnvLe.set (by decide) ?_ ?_)) <;> first | exact EnvLe.lf _ | (simp (config := { maxSteps := 4000000 }) (disch := (omega)) only [go_sem, Nat.reduceLT, Nat.reduceEqDiff, reduceIte, Nat.reduceAdd, Nat.reduceSub, Nat.reduceLeDiff, Int.reduceEq, Int.reduceLT, Int.reduceLE, Int.reduceNeg, Int.reduceAdd, Int.reduceSub, Int.reduceToNat, Int.reduceMul, Nat.reduceMul, Int.natCast_add, Int.cast_ofNat_Int]; done) | (simp (config := { maxSteps := 4000000 }) (disch := (omega)) only [go_sem, Nat.reduceLT, Nat.reduceEqDiff, reduceIte, Nat.reduceAdd, Nat.reduceSub, Nat.reduceLeDiff, Int.reduceEq, Int.reduceLT, Int.reduceLE, Int.reduceNeg, Int.reduceAdd, Int.reduceSub, Int.reduceToNat, Int.reduceMul, Nat.reduceMul, Int.natCast_add, Int.cast_ofNat_Int] <;> first | rfl | (congr 1; omega))), HpLe.refl _⟩
    | succ j =>
      have hj : j < ns.length := by omega
      have hat2 := zl_At hj
      have hasj := has j hlt
      have hgt : ((j + 1 : Nat) : Int) > 0 := by omega
      have hsub : ((j + 1 : Nat) : Int) - 1 = (j : Int) := by omega
      have hle : ¬ ((ns[j + 1] : Nat) : Int) ≤ (ns[j] : Int) := by omega
      (refine JQ.run follows hF hM ?_; simp (config := { maxSteps := 4000000 }) (disch := (omega)) only [go_sem, Nat.reduceLT, Nat.reduceEqDiff, reduceIte, Nat.reduceAdd, Nat.reduceSub, Nat.reduceLeDiff, Int.reduceEq, Int.reduceLT, Int.reduceLE, Int.reduceNeg, Int.reduceAdd, Int.reduceSub, Int.reduceToNat, Int.reduceMul, Nat.reduceMul, hlt', gO, hzl, hat, hat2, h51, F32, hgt, hsub, hle])
      exact ⟨j + 1 + 1, by omega, by omega, by ((repeat' (first | exact EnvLe.lf _ | refine EnvLe.set (by decide) ?_ ?_)) <;> first | exact EnvLe.lf _ | (simp (config := { maxSteps := 4000000 }) (disch := (omega)) only [go_sem, Nat.reduceLT, Nat.reduceEqDiff, reduceIte, Nat.reduceAdd, Nat.reduceSub, Nat.reduceLeDiff, Int.reduceEq, Int.reduceLT, Int.reduceLE, Int.reduceNeg, Int.reduceAdd, Int.reduceSub, Int.reduceToNat, Int.reduceMul, Nat.reduceMul, Int.natCast_add, Int.cast_ofNat_Int]; done) | (simp (config := { maxSteps := 4000000 }) (disch := (omega)) only [go_sem, Nat.reduceLT, Nat.reduceEqDiff, reduceIte, Nat.reduceAdd, Nat.reduceSub, Nat.reduceLeDiff, Int.reduceEq, Int.reduceLT, Int.reduceLE, Int.reduceNeg, Int.reduceAdd, Int.reduceSub, Int.reduceToNat, Int.reduceMul, Nat.reduceMul, Int.natCast_add, Int.cast_ofNat_Int] <;> first | rfl | (congr 1; omega))), HpLe.refl _⟩
  · obtain rfl : k = ns.length := by omega
    (refine JQ.run follows hF hM ?_; simp (config := { maxSteps := 4000000 }) (disch := (omega)) only [go_sem, Nat.reduceLT, Nat.reduceEqDiff, reduceIte, Nat.reduceAdd, Nat.reduceSub, Nat.reduceLeDiff, Int.reduceEq, Int.reduceLT, Int.reduceLE, Int.reduceNeg, Int.reduceAdd, Int.reduceSub, Int.reduceToNat, Int.reduceMul, Nat.reduceMul, Int.lt_irrefl])
    (refine JQ.run follows hF hM ?_; simp (config := { maxSteps := 4000000 }) (disch := (omega)) only [go_sem, Nat.reduceLT, Nat.reduceEqDiff, reduceIte, Nat.reduceAdd, Nat.reduceSub, Nat.reduceLeDiff, Int.reduceEq, Int.reduceLT, Int.reduceLE, Int.reduceNeg, Int.reduceAdd, Int.reduceSub, Int.reduceToNat, Int.reduceMul, Nat.reduceMul, res32])
set_option maxHeartbeats 4000000 in
theorem run32n (n : Nat) (h1 : 1 ≤ n) (hn : n ≤ 7) :
    JQ Try.prog drops Try.f32.ntmps F32 q32 256 (Kend res32 (Good 0 (.v (I 0)))) (bind (.cons (I (n : Int)) (.cons .ns .nil)) 0 .lf) (hp0 [] 255) 256 := by
  have hF := F32_ok
  have hM := F32_mono
  have d44 : decide (1 ≤ (n : Int) ∧ (n : Int) ≤ 7) = true := decide_eq_true ⟨by omega, by omega⟩
  have e44 : f44 (n : Int) = .v (.b true) := by unfold f44; rw [d44]
  unfold q32
  (refine JQ.step follows hF hM ?_; simp (config := { maxSteps := 4000000 }) (disch := (omega)) only [go_sem, Nat.reduceLT, Nat.reduceEqDiff, reduceIte, Nat.reduceAdd, Nat.reduceSub, Nat.reduceLeDiff, Int.reduceEq, Int.reduceLT, Int.reduceLE, Int.reduceNeg, Int.reduceAdd, Int.reduceSub, Int.reduceToNat, Int.reduceMul, Nat.reduceMul])
  refine JQ.seq ?_
  (refine JQ.step follows hF hM ?_; simp (config := { maxSteps := 4000000 }) (disch := (omega)) only [go_sem, Nat.reduceLT, Nat.reduceEqDiff, reduceIte, Nat.reduceAdd, Nat.reduceSub, Nat.reduceLeDiff, Int.reduceEq, Int.reduceLT, Int.reduceLE, Int.reduceNeg, Int.reduceAdd, Int.reduceSub, Int.reduceToNat, Int.reduceMul, Nat.reduceMul, F32, e44])
  (refine JQ.run follows hF hM ?_; simp (config := { maxSteps := 4000000 }) (disch := (omega)) only [go_sem, Nat.reduceLT, Nat.reduceEqDiff, reduceIte, Nat.reduceAdd, Nat.reduceSub, Nat.reduceLeDiff, Int.reduceEq, Int.reduceLT, Int.reduceLE, Int.reduceNeg, Int.reduceAdd, Int.reduceSub, Int.reduceToNat, Int.reduceMul, Nat.reduceMul])
  refine JQ.seq ?_
  (refine JQ.step follows hF hM ?_; simp (config := { maxSteps := 4000000 }) (disch := (omega)) only [go_sem, Nat.reduceLT, Nat.reduceEqDiff, reduceIte, Nat.reduceAdd, Nat.reduceSub, Nat.reduceLeDiff, Int.reduceEq, Int.reduceLT, Int.reduceLE, Int.reduceNeg, Int.reduceAdd, Int.reduceSub, Int.reduceToNat, Int.reduceMul, Nat.reduceMul])
  refine JQ.block ?_
  refine JQ.loop (σ := Nat) (fun k => k = 0) (fun k => ((Tr.lf.set (I 0) (tp 11)).set (I 0) (tp 12)))
    (fun k => Hp.lf) (fun _ => 256) (fun k => 0) 0 rfl (by ((repeat' (first | exact EnvLe.lf _ | refine EnvLe.set (by decide) ?_ ?_)) <;> first | exact EnvLe.lf _ | (simp (config := { maxSteps := 4000000 }) (disch := (omega)) only [go_sem, Nat.reduceLT, Nat.reduceEqDiff, reduceIte, Nat.reduceAdd, Nat.reduceSub, Nat.reduceLeDiff, Int.reduceEq, Int.reduceLT, Int.reduceLE, Int.reduceNeg, Int.reduceAdd, Int.reduceSub, Int.reduceToNat, Int.reduceMul, Nat.reduceMul, Int.natCast_add, Int.cast_ofNat_Int]; done) | (simp (config := { maxSteps := 4000000 }) (disch := (omega)) only [go_sem, Nat.reduceLT, Nat.reduceEqDiff, reduceIte, Nat.reduceAdd, Nat.reduceSub, Nat.reduceLeDiff, Int.reduceEq, Int.reduceLT, Int.reduceLE, Int.reduceNeg, Int.reduceAdd, Int.reduceSub, Int.reduceToNat, Int.reduceMul, Nat.reduceMul, Int.natCast_add, Int.cast_ofNat_Int] <;> first | rfl | (congr 1; omega)))) (HpLe.refl _) rfl ?_
  intro k hk
  unfold q32_l0
  (refine JQ.run follows hF hM ?_; simp (config := { maxSteps := 4000000 }) (disch := (omega)) only [go_sem, Nat.reduceLT, Nat.reduceEqDiff, reduceIte, Nat.reduceAdd, Nat.reduceSub, Nat.reduceLeDiff, Int.reduceEq, Int.reduceLT, Int.reduceLE, Int.reduceNeg, Int.reduceAdd, Int.reduceSub, Int.reduceToNat, Int.reduceMul, Nat.reduceMul, Int.lt_irrefl])
  (refine JQ.run follows hF hM ?_; simp (config := { maxSteps := 4000000 }) (disch := (omega)) only [go_sem, Nat.reduceLT, Nat.reduceEqDiff, reduceIte, Nat.reduceAdd, Nat.reduceSub, Nat.reduceLeDiff, Int.reduceEq, Int.reduceLT, Int.reduceLE, Int.reduceNeg, Int.reduceAdd, Int.reduceSub, Int.reduceToNat, Int.reduceMul, Nat.reduceMul, res32])
def okCk (n : Nat) (xs : List Int) : Bool := and (decide (1 ≤ n ∧ n ≤ 7)) (and (okCd n xs) ((List.range 200).all fun k => decide (k + 1 < (natL xs).length → (natL xs).getD k 0 < (natL xs).getD (k + 1) 0)))
theorem okCk_asc {n : Nat} {xs : List Int} (h : okCk n xs = true) : (1 ≤ n ∧ n ≤ 7) ∧ okCd n xs = true ∧ ascN (natL xs) := by
  unfold okCk at h
  rw [Bool.and_eq_true, Bool.and_eq_true, decide_eq_true_eq, List.all_eq_true] at h
  obtain ⟨h1, h2, h3⟩ := h
  refine ⟨h1, h2, fun k hk => ?_⟩
  have hl := (okCd_nat h2).2.1
  have := of_decide_eq_true (h3 k (List.mem_range.2 (by omega))) hk
  rw [List.getD_eq_getElem?_getD, List.getD_eq_getElem?_getD, List.getElem?_eq_getElem hk, List.getElem?_eq_getElem (show k < (natL xs).length by omega)] at this
  exact this
noncomputable def f32 (z : Int) (xs : List Int) : Out := if 0 ≤ z ∧ okCk z.toNat xs = true then .v (I 0) else .no
theorem f32_at {n : Nat} {xs : List Int} (h : okCk n xs = true) : f32 (n : Int) xs = .v (I 0) := by
  unfold f32
  rw [Int.toNat_natCast, if_pos ⟨by omega, h⟩]
theorem f32_no {z : Int} {xs : List Int} (h : f32 z xs ≠ .no) : ∃ n : Nat, z = n ∧ okCk n xs = true := by
  unfold f32 at h
  split at h
  · rename_i hc
    exact ⟨z.toNat, by omega, hc.2⟩
  · exact absurd rfl h
theorem ok32 : SOK Try.prog 32 (spIL f32) := spIL_ok Try.func32 n32 b32 k32 r32 (fun z xs => by
    unfold f32
    split
    · exact I_pur _
    · exact trivial)
  (fun el z xs cap hne => by
    obtain ⟨n, rfl, hc⟩ := f32_no hne
    rw [f32_at hc]
    obtain ⟨h1, h2, h3⟩ := okCk_asc hc
    obtain ⟨e1, e2, e3⟩ := okCd_nat h2
    have := run32 el n (natL xs) cap h1.1 h1.2 e2 e3 h3
    rw [e1] at this
    exact this)
  (fun z hne => by
    obtain ⟨n, rfl, hc⟩ := f32_no hne
    rw [f32_at hc]
    obtain ⟨h1, h2, h3⟩ := okCk_asc hc
    exact run32n n h1.1 h1.2)
/-! Times. -/
noncomputable def F7 : FF := ov 32 (spIL f32) (ov 33 (spIL f33) F0)
theorem F7_ok : FOK Try.prog F7 := ov_ok ok32 (ov_ok ok33 (F0_ok _))
theorem F7_mono : F7.mono := ov_mono (spIL_mo _) (ov_mono (spIL_mo _) F0_mono)
noncomputable def oTe (n : Nat) (ns : List Nat) : Out := .slE 3 1 (1 <<< n) (some (1 <<< n)) (iL (fZ (1 <<< n) (cntN n ns))) (I 0)
theorem oTe_ok (n : Nat) (ns : List Nat) : OutOK (oTe n ns) := by
  unfold oTe
  exact ⟨iL_pur _, by rw [iL_len, fZ_len]; omega, I_pur _⟩
set_option maxHeartbeats 4000000 in
theorem run7 (el : TypeId) (n : Nat) (xs : List Int) (cap : Option Nat) (hc : okCk n xs = true) :
    JQ Try.prog drops Try.f7.ntmps F7 q7 257 (Kend res7 (Good 1 (oTe n (natL xs)))) (bind (.cons (I (n : Int)) (.cons (.sl (tp 255) 0 1 xs.length cap) .nil)) 0 .lf) (hp0 [blkL el (iL xs)] 255) 257 := by
  have hF := F7_ok
  have hM := F7_mono
  obtain ⟨h1, h2, h3⟩ := okCk_asc hc
  have e32 := f32_at hc
  have e33 := f33_at h1.2 h2
  have hN : 1 <<< n ≤ 128 := by rw [Nat.one_shiftLeft]; exact Nat.pow_le_pow_right (n := 2) (by omega) h1.2
  obtain ⟨N, hNN⟩ : ∃ N, N = 1 <<< n := ⟨_, rfl⟩
  have hoT : oT n (natL xs) = .sl 3 1 N (some N) (iL (fZ N (cntN n (natL xs)))) := by unfold oT; rw [← hNN]
  have hoE : oTe n (natL xs) = .slE 3 1 N (some N) (iL (fZ N (cntN n (natL xs)))) (I 0) := by unfold oTe; rw [← hNN]
  rw [hoT] at e33
  rw [hoE]
  unfold q7
  obtain ⟨H, hH⟩ : ∃ H, H = hp0 [blkL el (iL xs)] 255 := ⟨_, rfl⟩
  have gO : H.get (tp 255) = some (blkL el (iL xs)) := by rw [hH]; exact hget_same _ _ _
  rw [← hH]
  (refine JQ.run follows hF hM ?_; simp (config := { maxSteps := 4000000 }) (disch := (omega)) only [go_sem, Nat.reduceLT, Nat.reduceEqDiff, reduceIte, Nat.reduceAdd, Nat.reduceSub, Nat.reduceLeDiff, Int.reduceEq, Int.reduceLT, Int.reduceLE, Int.reduceNeg, Int.reduceAdd, Int.reduceSub, Int.reduceToNat, Int.reduceMul, Nat.reduceMul, gO, e32, e33, F7, spIL_sl, res7])
  exact ⟨fZ_len _ _, goodIE (nb := 1) (hget_same _ _ _) (by omega) (by omega) (by omega)⟩
set_option maxHeartbeats 4000000 in
theorem run7n (n : Nat) (hc : okCk n [] = true) :
    JQ Try.prog drops Try.f7.ntmps F7 q7 256 (Kend res7 (Good 0 (oTe n (natL [])))) (bind (.cons (I (n : Int)) (.cons .ns .nil)) 0 .lf) (hp0 [] 255) 256 := by
  have hF := F7_ok
  have hM := F7_mono
  obtain ⟨h1, h2, h3⟩ := okCk_asc hc
  have e32 := f32_at hc
  have e33 := f33_at h1.2 h2
  have hN : 1 <<< n ≤ 128 := by rw [Nat.one_shiftLeft]; exact Nat.pow_le_pow_right (n := 2) (by omega) h1.2
  obtain ⟨N, hNN⟩ : ∃ N, N = 1 <<< n := ⟨_, rfl⟩
  have hoT : oT n (natL []) = .sl 3 1 N (some N) (iL (fZ N (cntN n (natL [])))) := by unfold oT; rw [← hNN]
  have hoE : oTe n (natL []) = .slE 3 1 N (some N) (iL (fZ N (cntN n (natL [])))) (I 0) := by unfold oTe; rw [← hNN]
  rw [hoT] at e33
  rw [hoE]
  unfold q7
  (refine JQ.run follows hF hM ?_; simp (config := { maxSteps := 4000000 }) (disch := (omega)) only [go_sem, Nat.reduceLT, Nat.reduceEqDiff, reduceIte, Nat.reduceAdd, Nat.reduceSub, Nat.reduceLeDiff, Int.reduceEq, Int.reduceLT, Int.reduceLE, Int.reduceNeg, Int.reduceAdd, Int.reduceSub, Int.reduceToNat, Int.reduceMul, Nat.reduceMul, e32, e33, F7, spIL_ns, res7])
  exact ⟨fZ_len _ _, goodIE (nb := 0) (hget_same _ _ _) (by omega) (by omega) (by omega)⟩
noncomputable def f7 (z : Int) (xs : List Int) : Out := if 0 ≤ z ∧ okCk z.toNat xs = true then oTe z.toNat (natL xs) else .no
theorem f7_at {n : Nat} {xs : List Int} (h : okCk n xs = true) : f7 (n : Int) xs = oTe n (natL xs) := by
  unfold f7
  rw [Int.toNat_natCast, if_pos ⟨by omega, h⟩]
theorem f7_no {z : Int} {xs : List Int} (h : f7 z xs ≠ .no) : ∃ n : Nat, z = n ∧ okCk n xs = true := by
  unfold f7 at h
  split at h
  · rename_i hc
    exact ⟨z.toNat, by omega, hc.2⟩
  · exact absurd rfl h
theorem ok7 : SOK Try.prog 7 (spIL f7) := spIL_ok Try.func7 n7 b7 k7 r7 (fun z xs => by
    unfold f7
    split
    · exact oTe_ok _ _
    · exact trivial)
  (fun el z xs cap hne => by
    obtain ⟨n, rfl, hc⟩ := f7_no hne
    rw [f7_at hc]
    exact run7 el n xs cap hc)
  (fun z hne => by
    obtain ⟨n, rfl, hc⟩ := f7_no hne
    rw [f7_at hc]
    exact run7n n hc)
end Go.Proofs.Ythgaekbcmhbbgaa.Ev
/- Stages of a law by evaluation alone: a piece is run at each value of an argument; what it leaves is read off its slots. -/
namespace Go.Proofs.Ythgaekbcmhbbgaa.Ev
set_option linter.unusedVariables false
open Go Go.Proofs Go.RowKit

noncomputable def pcE (r : Rs) : Tr := Rs.rec (motive := fun _ => Tr) .lf (fun e _ _ => e) (fun _ _ _ _ => .lf) (fun _ _ _ => .lf) r
noncomputable def pcH (r : Rs) : Hp := Rs.rec (motive := fun _ => Hp) .lf (fun _ h _ => h) (fun _ _ _ _ => .lf) (fun _ _ _ => .lf) r
/-- The piece goes on to the next, and its places stay below m. -/
noncomputable def pcN (m : Nat) (r : Rs) : Bool := Rs.rec (motive := fun _ => Bool) false (fun _ _ n => Nat.ble n m) (fun _ _ _ _ => false) (fun _ _ _ => false) r
theorem pcN_ok {m : Nat} {r : Rs} (h : pcN m r = true) : ∃ n, r = .nor (pcE r) (pcH r) n ∧ n ≤ m := by
  cases r with
  | nor e h' n => exact ⟨n, rfl, Nat.le_of_ble_eq_true h⟩
  | _ => cases h
/-- Some slots with their values. -/
noncomputable def mkE : List (Nat × V) → Tr
  | [] => .lf
  | x :: l => (mkE l).set x.2 (tp x.1)
/-- What is read behind a piece: that it goes on, the slots ts, the tables' blocks. -/
noncomputable def stg (tabs : List (Nat × TypeId × L)) (m : Nat) (ts : List Nat) (r : Rs) : Bool × List V × List (Option Blk) :=
  (pcN m r, ts.map (fun t => (pcE r).get (tp t)), tabs.map fun x => (pcH r).get (tp x.1))
/-- What it should be. -/
noncomputable def stgIs (tabs : List (Nat × TypeId × L)) (l : List (Nat × V)) : Bool × List V × List (Option Blk) :=
  (true, l.map Prod.snd, tabs.map fun x => (tabH tabs).get (tp x.1))
theorem mkE_le {e : Tr} : ∀ {l : List (Nat × V)}, (l.all fun x => decide (x.1 < 4294967296)) = true → (l.map Prod.fst).map (fun t => e.get (tp t)) = l.map Prod.snd → EnvLe (mkE l) e
  | [], _, _ => EnvLe.lf e
  | (t, v) :: l, hl, h => by
    simp only [List.all_cons, Bool.and_eq_true, decide_eq_true_eq] at hl
    simp only [List.map_cons, List.cons.injEq] at h
    exact EnvLe.set hl.1 h.1 (mkE_le hl.2 h.2)
theorem tabH_mem : ∀ (l : List (Nat × TypeId × L)) (p : Pos) (b : Blk), (tabH l).get p = some b → ∃ x ∈ l, p = tp x.1
  | [], p, b, h => by have := (Hp.get_lf p).symm.trans h; cases this
  | (k, el, z) :: l, p, b, h => by
    have h : ((tabH l).put (some ⟨el, z.length, z.length, z, .lf⟩) (tp k)).get p = some b := h
    rw [Hp.get_put] at h
    split at h
    · rename_i e; exact ⟨_, List.mem_cons_self, e⟩
    · obtain ⟨x, hx, e⟩ := tabH_mem l p b h; exact ⟨x, List.mem_cons_of_mem _ hx, e⟩
theorem tabH_le {tabs : List (Nat × TypeId × L)} {h : Hp} (hh : (tabs.map fun x => h.get (tp x.1)) = tabs.map fun x => (tabH tabs).get (tp x.1)) : HpLe (tabH tabs) h := fun p b hp => by
  obtain ⟨x, hx, rfl⟩ := tabH_mem tabs p b hp
  exact ⟨b, (List.map_inj_left.1 hh x hx).trans hp, BlkLe.refl b⟩
/-- A piece is as good from a later place on. -/
theorem JQ.later {P : Program} {dr : List Nat} {N lim n n2 : Nat} {F : FF} {q : IC} {K : Rs → Prop} {e : Tr} {h : Hp} (hn : n ≤ n2) (j : JQ P dr N F q lim K e h n2) : JQ P dr N F q lim K e h n := fun c hc a g w he m hd hf =>
  wp_mono (j c hc a g w he m (fun p b hp => Nat.lt_of_lt_of_le (hd p b hp) hn) (fun p hp => hf p (Nat.le_trans hn hp))) fun ex a' w' ⟨r, k, t, p⟩ => ⟨r, k, t, by
    have key : ∀ {n' : Nat} {g' : Sig} {h' : Hm} {w' : World}, Fr lim n2 g h.get w n' g' h' w' → Fr lim n g h.get w n' g' h' w' := fun f =>
      { f with
        le := Nat.le_trans hn f.le
        sig := fun p hp => f.sig p (by omega)
        dom := fun p b e => ⟨fun hp => (f.dom p b e).1 (by omega), (f.dom p b e).2⟩
        new := fun p r base tot h1 h2 e => by
          by_cases h3 : n2 ≤ p.num
          · exact f.new p r base tot h3 h2 e
          · rw [f.sig p (.inl (by omega)), hf p h1] at e; cases e }
    cases r with
    | no => exact p
    | nor => obtain ⟨h1, h2, g', h3, h4, h5⟩ := p; exact ⟨h1, h2, g', h3, h4, key h5⟩
    | ext => obtain ⟨h1, h2, g', h3, h4, h5⟩ := p; exact ⟨h1, h2, g', h3, h4, key h5⟩
    | ret => obtain ⟨h1, h2, g', h3, h4, h5⟩ := p; exact ⟨h1, h2, g', h3, h4, key h5⟩⟩
/-- A piece evaluated, all that follows kept. -/
theorem JQ.piece {P : Program} (hP : P.follows .mixedOrders = true) {dr : List Nat} {N lim n : Nat} {F : FF} (hF : FOK P F) (hM : F.mono) {qa qb : IC} {K : Rs → Prop} {e : Tr} {h : Hp} {e1 : Tr} {h1 : Hp} {n1 : Nat} (hk : (kC qa nK).f F lim e h n = .nor e1 h1 n1) (hn : n1 < big)
    (j : JQ P dr N F qb lim K e1 h1 n1) : JQ P dr N F (.seq qa qb) lim K e h n := by
  refine JQ.step hP hF hM ?_
  rw [kC_eq, onC_nK] at hk
  rw [hk]; exact ⟨hn, j⟩
/-- A stage: the piece is evaluated; the slots of l and the tables are all that is kept of it. -/
theorem JQ.stage {P : Program} (hP : P.follows .mixedOrders = true) {dr : List Nat} {N lim n m : Nat} {F : FF} (hF : FOK P F) (hM : F.mono) {qa qb : IC} {K : Rs → Prop} {e : Tr} {h : Hp} {tabs : List (Nat × TypeId × L)} {l : List (Nat × V)}
    (hk : stg tabs m (l.map Prod.fst) ((kC qa nK).f F lim e h n) = stgIs tabs l) (hl : (l.all fun x => decide (x.1 < 4294967296)) = true) (hm : m < big)
    (j : JQ P dr N F qb lim K (mkE l) (tabH tabs) m) : JQ P dr N F (.seq qa qb) lim K e h n := by
  have hk' := hk
  unfold stg stgIs at hk'
  simp only [Prod.mk.injEq] at hk'
  obtain ⟨h1, h2, h3⟩ := hk'
  obtain ⟨n1, h4, h5⟩ := pcN_ok h1
  exact JQ.piece hP hF hM h4 (Nat.lt_of_le_of_lt h5 hm) (JQ.later h5 (JQ.weak (mkE_le hl h2) (tabH_le h3) j))
/-- A chunk of values. -/
theorem chunk {α : Type} {f g : Nat → α} {c k t : Nat} (h : (List.range c).map (fun i => f (k + i)) = (List.range c).map fun i => g (k + i)) (h1 : k ≤ t) (h2 : t < k + c) : f t = g t := by
  have := List.map_inj_left.1 h (t - k) (List.mem_range.2 (by omega))
  have e : k + (t - k) = t := by omega
  rwa [e] at this
theorem chunkB {f : Nat → Bool} {c k t : Nat} (h : (List.range c).all (fun i => f (k + i)) = true) (h1 : k ≤ t) (h2 : t < k + c) : f t = true := by
  have := List.all_eq_true.1 h (t - k) (List.mem_range.2 (by omega))
  have e : k + (t - k) = t := by omega
  rwa [e] at this
/-! Several pieces in a row. -/
noncomputable def seqs (ps : List IC) (q : IC) : IC := ps.foldr .seq q
/-- The first so many pieces of a body, and the rest. -/
noncomputable def IC.pcs (q : IC) (k : Nat) : List IC := Nat.rec (motive := fun _ => IC → List IC) (fun _ => []) (fun _ ih q => match q with | .seq a b => a :: ih b | q => [q]) k q
noncomputable def IC.rst (q : IC) (k : Nat) : IC := Nat.rec (motive := fun _ => IC → IC) (fun q => q) (fun _ ih q => match q with | .seq _ b => ih b | q => q) k q
/-- They are run one after the other; each has to go on to the next with its places below m. -/
noncomputable def runP (F : FF) (lim m : Nat) (ps : List IC) : Rs → Rs := List.rec (motive := fun _ => Rs → Rs) (fun r => r)
  (fun p _ ih r => Rs.rec (motive := fun _ => Rs) .no (fun e h n => Bool.rec .no (ih ((kC p nK).f F lim e h n)) (Nat.ble n m)) (fun _ _ _ _ => .no) (fun _ _ _ => .no) r) ps
theorem runP_no (F : FF) (lim m : Nat) {ps : List IC} {r : Rs} {e : Tr} {h : Hp} {n : Nat} (hr : runP F lim m ps r = .nor e h n) : ∃ e1 h1 n1, r = .nor e1 h1 n1 := by
  cases ps with
  | nil => exact ⟨_, _, _, hr⟩
  | cons p ps =>
    cases r with
    | nor e1 h1 n1 => exact ⟨_, _, _, rfl⟩
    | _ => exact absurd (show (Rs.no) = _ from hr) (by simp)
theorem JQ.pieces {P : Program} (hP : P.follows .mixedOrders = true) {dr : List Nat} {N lim m : Nat} {F : FF} (hF : FOK P F) (hM : F.mono) {qb : IC} {K : Rs → Prop} (hm : m < big) {e1 : Tr} {h1 : Hp} {n1 : Nat} (hn1 : n1 ≤ m) (j : JQ P dr N F qb lim K e1 h1 n1) :
    ∀ (ps : List IC) {e : Tr} {h : Hp} {n : Nat}, runP F lim m ps (.nor e h n) = .nor e1 h1 n1 → JQ P dr N F (seqs ps qb) lim K e h n
  | [], e, h, n, hr => by
    have hr : Rs.nor e h n = Rs.nor e1 h1 n1 := hr
    cases hr; exact j
  | p :: ps, e, h, n, hr => by
    have hr : (Bool.rec .no (runP F lim m ps ((kC p nK).f F lim e h n)) (Nat.ble n m) : Rs) = .nor e1 h1 n1 := hr
    cases hb : Nat.ble n m with
    | false => rw [hb] at hr; cases hr
    | true =>
      rw [hb] at hr
      have hr : runP F lim m ps ((kC p nK).f F lim e h n) = .nor e1 h1 n1 := hr
      obtain ⟨e2, h2, n2, h3⟩ := runP_no F lim m hr
      rw [h3] at hr
      have hn2 : n2 ≤ m := by
        cases ps with
        | nil => have hr : Rs.nor e2 h2 n2 = Rs.nor e1 h1 n1 := hr; cases hr; exact hn1
        | cons p' ps' =>
          have hr : (Bool.rec .no (runP F lim m ps' ((kC p' nK).f F lim e2 h2 n2)) (Nat.ble n2 m) : Rs) = .nor e1 h1 n1 := hr
          cases hb2 : Nat.ble n2 m with
          | false => rw [hb2] at hr; cases hr
          | true => exact Nat.le_of_ble_eq_true hb2
      exact JQ.piece hP hF hM h3 (Nat.lt_of_le_of_lt hn2 hm) (JQ.pieces hP hF hM hm hn1 j ps hr)
/-- A stage of several pieces. -/
theorem JQ.stages {P : Program} (hP : P.follows .mixedOrders = true) {dr : List Nat} {N lim n m : Nat} {F : FF} (hF : FOK P F) (hM : F.mono) {q qb : IC} (ps : List IC) {K : Rs → Prop} {e : Tr} {h : Hp} {tabs : List (Nat × TypeId × L)} {l : List (Nat × V)} (hq : q = seqs ps qb)
    (hk : stg tabs m (l.map Prod.fst) (runP F lim m ps (.nor e h n)) = stgIs tabs l) (hl : (l.all fun x => decide (x.1 < 4294967296)) = true) (hm : m < big)
    (j : JQ P dr N F qb lim K (mkE l) (tabH tabs) m) : JQ P dr N F q lim K e h n := by
  subst hq
  have hk' := hk
  unfold stg stgIs at hk'
  simp only [Prod.mk.injEq] at hk'
  obtain ⟨h1, h2, h3⟩ := hk'
  obtain ⟨n1, h4, h5⟩ := pcN_ok h1
  exact JQ.pieces hP hF hM hm h5 (JQ.later h5 (JQ.weak (mkE_le hl h2) (tabH_le h3) j)) ps h4
end Go.Proofs.Ythgaekbcmhbbgaa.Ev
/- Laws over few inputs, where no table is in memory: a stage that keeps its memory, and the run's end. -/
namespace Go.Proofs.Ythgaekbcmhbbgaa.Ev
set_option linter.unusedVariables false
open Go Go.Proofs Go.RowKit
/-- A run's end: true is handed back. -/
noncomputable def finB (res : List RV) (e : Tr) (h : Hp) (n : Nat) : Bool := and (evRVs e h res).known (and (onB (evRes e h res) (fun b => b) false) (Nat.blt n 9223372036854775808))
noncomputable def finR (res : List RV) (r : Rs) : Bool := Rs.rec false (fun e h n => finB res e h n) (fun _ _ _ _ => false) (fun e h n => finB res e h n) r
theorem finB_ok {res : List RV} {e : Tr} {h : Hp} {n : Nat} (hf : finB res e h n = true) : n < big ∧ (evRVs e h res).known = true ∧ evRes e h res = .b true := by
  unfold finB at hf
  simp only [Bool.and_eq_true, Nat.blt_eq] at hf
  refine ⟨hf.2.2, hf.1, ?_⟩
  have := hf.2.1
  cases hx : evRes e h res <;> rw [hx] at this <;> simp [onB, V.asB] at this
  rw [this]
theorem got_fin {res : List RV} {r : Rs} (h : finR res r = true) : Got (Kend res (Good 0 (.v (.b true)))) r := by
  cases r with
  | no => cases h
  | ext => cases h
  | nor e h' n => have := finB_ok h; exact ⟨this.1, this.2.1, this.2.2, rfl⟩
  | ret e h' n => have := finB_ok h; exact ⟨this.1, this.2.1, this.2.2, rfl⟩
/-- A piece run to the law's end. -/
theorem JQ.fin {P : Program} (hP : P.follows .mixedOrders = true) {dr : List Nat} {N lim n : Nat} {F : FF} (hF : FOK P F) (hM : F.mono) {res : List RV} {q : IC} {e : Tr} {h : Hp} (hk : finR res ((kC q nK).f F lim e h n) = true) : JQ P dr N F q lim (Kend res (Good 0 (.v (.b true)))) e h n := by
  refine JQ.run hP hF hM ?_
  rw [kC_eq, onC_nK] at hk; exact got_fin hk
/-- What is looked at behind a stage. -/
noncomputable def obs (m : Nat) (ts : List Nat) (r : Rs) : Bool × List V × Hp := (pcN m r, ts.map (fun t => (pcE r).get (tp t)), pcH r)
noncomputable def lstO (ts : List Nat) (r : Rs) : List (Nat × V) := ts.map fun t => (t, (pcE r).get (tp t))
/-- A stage that comes to what another run of it comes to. -/
theorem JQ.stageX {P : Program} (hP : P.follows .mixedOrders = true) {dr : List Nat} {N lim n m : Nat} {F : FF} (hF : FOK P F) (hM : F.mono) {q qb : IC} (ps : List IC) {K : Rs → Prop} {e : Tr} {h : Hp} (ts : List Nat) (r0 : Rs) (hq : q = seqs ps qb)
    (hk : obs m ts (runP F lim m ps (.nor e h n)) = obs m ts r0) (h0 : pcN m r0 = true) (hl : ((lstO ts r0).all fun x => decide (x.1 < 4294967296)) = true) (hm : m < big)
    (j : JQ P dr N F qb lim K (mkE (lstO ts r0)) (pcH r0) m) : JQ P dr N F q lim K e h n := by
  subst hq
  unfold obs at hk
  simp only [Prod.mk.injEq] at hk
  obtain ⟨h1, h2, h3⟩ := hk
  rw [h0] at h1
  obtain ⟨n1, h4, h5⟩ := pcN_ok h1
  refine JQ.pieces hP hF hM hm h5 (JQ.later h5 (JQ.weak (mkE_le hl ?_) (by rw [h3]; exact HpLe.refl _) j)) ps h4
  unfold lstO
  rw [List.map_map, List.map_map, List.map_map]
  exact h2
/-- A stage that comes to slots and memory that are told. -/
theorem JQ.stageY {P : Program} (hP : P.follows .mixedOrders = true) {dr : List Nat} {N lim n m : Nat} {F : FF} (hF : FOK P F) (hM : F.mono) {q qb : IC} (ps : List IC) {K : Rs → Prop} {e : Tr} {h : Hp} (l : List (Nat × V)) (hh : Hp) (hq : q = seqs ps qb)
    (hk : obs m (l.map Prod.fst) (runP F lim m ps (.nor e h n)) = (true, l.map Prod.snd, hh)) (hl : (l.all fun x => decide (x.1 < 4294967296)) = true) (hm : m < big)
    (j : JQ P dr N F qb lim K (mkE l) hh m) : JQ P dr N F q lim K e h n := by
  subst hq
  unfold obs at hk
  simp only [Prod.mk.injEq] at hk
  obtain ⟨h1, h2, h3⟩ := hk
  obtain ⟨n1, h4, h5⟩ := pcN_ok h1
  exact JQ.pieces hP hF hM hm h5 (JQ.later h5 (JQ.weak (mkE_le hl h2) (by rw [h3]; exact HpLe.refl _) j)) ps h4
/-- A run's end: a plain value is handed back. -/
noncomputable def finXB (x : V) (res : List RV) (e : Tr) (h : Hp) (n : Nat) : Bool := and (evRVs e h res).known (and (eqV (evRes e h res) x) (Nat.blt n 9223372036854775808))
noncomputable def finX (x : V) (res : List RV) (r : Rs) : Bool := Rs.rec false (fun e h n => finXB x res e h n) (fun _ _ _ _ => false) (fun e h n => finXB x res e h n) r
theorem finXB_ok {x : V} {res : List RV} {e : Tr} {h : Hp} {n : Nat} (hf : finXB x res e h n = true) : n < big ∧ (evRVs e h res).known = true ∧ evRes e h res = x := by
  unfold finXB at hf
  simp only [Bool.and_eq_true, Nat.blt_eq] at hf
  exact ⟨hf.2.2, hf.1, eqV_eq _ _ hf.2.1⟩
theorem JQ.finX {P : Program} (hP : P.follows .mixedOrders = true) {dr : List Nat} {N lim n nb : Nat} {F : FF} (hF : FOK P F) (hM : F.mono) {res : List RV} {q : IC} {e : Tr} {h : Hp} {x : V} (hx : x.pur = true) (hk : finX x res ((kC q nK).f F lim e h n) = true) : JQ P dr N F q lim (Kend res (Good nb (.v x))) e h n := by
  refine JQ.run hP hF hM ?_
  rw [kC_eq, onC_nK] at hk
  revert hk
  generalize evC q F lim e h n = r
  intro hk
  cases r with
  | no => cases hk
  | ext => cases hk
  | nor e h' n => have := finXB_ok hk; exact ⟨this.1, this.2.1, this.2.2, hx⟩
  | ret e h' n => have := finXB_ok hk; exact ⟨this.1, this.2.1, this.2.2, hx⟩
/-- Some answers by a contract, all others as before. -/
def ovF (f : Nat) (s : L → Nat → Hp → Nat → Res) (F : FF) : FF := fun g args lim h n => if g = f then (match s args lim h n with | .ok v h' n' => .ok v h' n' | .no => F g args lim h n) else F g args lim h n
theorem ovF_ok {P : Program} {f : Nat} {s : L → Nat → Hp → Nat → Res} {F : FF} (hs : SOK P f s) (hF : FOK P F) (hne : YID ≠ f := by decide) : FOK P (ovF f s F) := by
  refine ⟨fun g args lim h n v h' n' hr => ?_, fun p args lim h n v h' n' hr => ?_⟩
  · unfold ovF at hr
    split at hr
    · rename_i e
      subst e
      split at hr
      · rename_i v1 h1 n1 he
        cases hr
        exact hs _ _ _ _ _ _ _ he
      · exact hF.1 _ _ _ _ _ _ _ _ hr
    · exact hF.1 _ _ _ _ _ _ _ _ hr
  · unfold ovF at hr
    rw [if_neg hne] at hr
    exact hF.2 _ _ _ _ _ _ _ _ hr
theorem ovF_mono {f : Nat} {s : L → Nat → Hp → Nat → Res} {F : FF} (hs : SMo s) (hF : F.mono) : (ovF f s F).mono := fun g args lim h n => by
  unfold ovF
  split
  · have := hs args lim h n
    cases he : s args lim h n with
    | no => exact hF _ _ _ _ _
    | ok v h' n' => rw [he] at this; exact this
  · exact hF _ _ _ _ _
/-- Some blocks with their places. -/
noncomputable def hpL : List (Nat × Blk) → Hp
  | [] => .lf
  | x :: l => (hpL l).put (some x.2) (tp x.1)
theorem hpL_le {h : Hp} : ∀ {l : List (Nat × Blk)}, (l.map fun x => h.get (tp x.1)) = (l.map fun x => some x.2) → HpLe (hpL l) h
  | [], _ => HpLe.lf h
  | x :: l, e => by
    simp only [List.map_cons, List.cons.injEq] at e
    exact HpLe.put ⟨x.2, e.1, BlkLe.refl _⟩ (hpL_le e.2)
noncomputable def obsZ (m : Nat) (ts ks : List Nat) (r : Rs) : Bool × List V × List (Option Blk) := (pcN m r, ts.map (fun t => (pcE r).get (tp t)), ks.map fun k => (pcH r).get (tp k))
noncomputable def isZ (l : List (Nat × V)) (bl : List (Nat × Blk)) : Bool × List V × List (Option Blk) := (true, l.map Prod.snd, bl.map fun x => some x.2)
/-- A stage of which some slots and some blocks are kept. -/
theorem JQ.stageZ {P : Program} (hP : P.follows .mixedOrders = true) {dr : List Nat} {N lim n m : Nat} {F : FF} (hF : FOK P F) (hM : F.mono) {q qb : IC} (ps : List IC) {K : Rs → Prop} {e : Tr} {h : Hp} (l : List (Nat × V)) (bl : List (Nat × Blk)) (hq : q = seqs ps qb)
    (hk : obsZ m (l.map Prod.fst) (bl.map Prod.fst) (runP F lim m ps (.nor e h n)) = isZ l bl) (hl : (l.all fun x => decide (x.1 < 4294967296)) = true) (hm : m < big)
    (j : JQ P dr N F qb lim K (mkE l) (hpL bl) m) : JQ P dr N F q lim K e h n := by
  subst hq
  unfold obsZ isZ at hk
  simp only [Prod.mk.injEq] at hk
  obtain ⟨h1, h2, h3⟩ := hk
  obtain ⟨n1, h4, h5⟩ := pcN_ok h1
  rw [List.map_map] at h3
  exact JQ.pieces hP hF hM hm h5 (JQ.later h5 (JQ.weak (mkE_le hl h2) (hpL_le h3) j)) ps h4
noncomputable def FnI.q (x : FnI) : IC := FnI.rec (motive := fun _ => IC) (fun _ _ q _ => q) x
noncomputable def FnI.r (x : FnI) : List RV := FnI.rec (motive := fun _ => List RV) (fun _ _ _ r => r) x
end Go.Proofs.Ythgaekbcmhbbgaa.Ev
/- One answer for one list of plain arguments, evaluated once and then told. -/
namespace Go.Proofs.Ythgaekbcmhbbgaa.Ev
set_option linter.unusedVariables false
open Go Go.Proofs Go.RowKit
noncomputable def spE (a : L) (x : V) (args : L) (_ : Nat) (h : Hp) (n : Nat) : Res := Bool.rec .no (.ok x h n) (eqL args a)
theorem spE_mo (a : L) (x : V) : SMo (spE a x) := fun args lim h n => by
  unfold spE
  cases eqL args a with
  | false => trivial
  | true => exact Nat.le_refl n
noncomputable def isX (x : V) (r : Res) : Bool := Res.rec false (fun v _ n => and (eqV v x) (Nat.blt n 9223372036854775808)) r
theorem isX_ok {x : V} {r : Res} (h : isX x r = true) : ∃ h' n', r = .ok x h' n' ∧ n' < 9223372036854775808 := by
  cases r with
  | no => cases h
  | ok v h' n' =>
    have h : and (eqV v x) (Nat.blt n' 9223372036854775808) = true := h
    simp only [Bool.and_eq_true, Nat.blt_eq] at h
    exact ⟨h', n', by rw [eqV_eq _ _ h.1], h.2⟩
theorem spE_ok {P : Program} {F : FF} (hF : FOK P F) {f : Nat} {a : L} {x : V} (hk : isX x (F f a 256 .lf 256) = true) (hpa : a.pur = true) (hpx : x.pur = true) : SOK P f (spE a x) := fun args lim h n v h' n' hr => by
  unfold spE at hr
  cases he : eqL args a with
  | false => rw [he] at hr; cases hr
  | true =>
    rw [he] at hr
    cases hr
    rw [eqL_eq _ _ he]
    obtain ⟨h1, n1, e1, e2⟩ := isX_ok hk
    exact callsAny rfl (hF.1 f a 256 .lf 256 x h1 n1 e1) e2 hpa hpx lim _ _
end Go.Proofs.Ythgaekbcmhbbgaa.Ev
/- One more element: the facts. -/
namespace Go.Proofs.Ythgaekbcmhbbgaa.Ev
set_option linter.unusedVariables false
set_option linter.unusedSimpArgs false
set_option maxRecDepth 100000
open Go Go.Proofs Go.RowKit
theorem natL_zl (l : List Nat) : natL (zl l) = l := by
  unfold natL zl
  rw [List.map_map]
  have : (Int.toNat ∘ fun (x : Nat) => (x : Int)) = id := by funext x; simp
  rw [this, List.map_id]
theorem elN_in {n m : Nat} (hm : m < 2 ^ (1 <<< n)) : ∀ x ∈ elN m 16, x < 1 <<< n := fun x hx => by
  have h := elN_lt hx
  rcases Nat.lt_or_ge x (1 <<< n) with h1 | h1
  · exact h1
  · have h2 : m < 2 ^ x := Nat.lt_of_lt_of_le hm (Nat.pow_le_pow_right (by omega) h1)
    rw [Nat.testBit_lt_two_pow h2] at h
    cases h.2
theorem elN_asc (m : Nat) : ascN (elN m 16) := by
  have h : (elN m 16).Pairwise (· < ·) := by
    unfold elN
    exact List.Pairwise.filter _ List.pairwise_lt_range
  intro k hk
  exact List.pairwise_iff_getElem.1 h k (k + 1) (by omega) hk (by omega)
theorem okCk_el {n m : Nat} (h1 : 1 ≤ n) (h4 : n ≤ 4) (hm : m < 2 ^ (1 <<< n)) : okCk n (eZ m 16) = true := by
  have hl := eZ_len m 16
  unfold okCk okCd
  rw [Bool.and_eq_true, Bool.and_eq_true, Bool.and_eq_true, decide_eq_true_eq, decide_eq_true_eq]
  refine ⟨⟨h1, by omega⟩, ⟨by omega, List.all_eq_true.2 fun z hz => ?_⟩, List.all_eq_true.2 fun k hk => decide_eq_true fun hk2 => ?_⟩
  · unfold eZ zl at hz
    rw [List.mem_map] at hz
    obtain ⟨x, hx, rfl⟩ := hz
    have := elN_in hm x hx
    rw [Bool.and_eq_true, decide_eq_true_eq, decide_eq_true_eq]
    omega
  · unfold eZ at hk2 ⊢
    rw [natL_zl] at hk2 ⊢
    have := elN_asc m k hk2
    rw [List.getD_eq_getElem?_getD, List.getD_eq_getElem?_getD, List.getElem?_eq_getElem hk2, List.getElem?_eq_getElem (show k < (elN m 16).length by omega)]
    exact this
theorem shlU {n : Nat} (h1 : 1 ≤ n) (h4 : n ≤ 4) : binV .shl (.i .u64 (.ofNat 1)) (I (n : Int)) = .i .u64 ((1 <<< n : Nat) : Int) := by
  rcases (show n = 1 ∨ n = 2 ∨ n = 3 ∨ n = 4 by omega) with rfl | rfl | rfl | rfl <;> kernel_rfl
theorem shlM {n : Nat} (h1 : 1 ≤ n) (h4 : n ≤ 4) : binV .shl (I 1) (.i .u64 ((1 <<< n : Nat) : Int)) = I ((2 ^ (1 <<< n) : Nat) : Int) := by
  rcases (show n = 1 ∨ n = 2 ∨ n = 3 ∨ n = 4 by omega) with rfl | rfl | rfl | rfl <;> kernel_rfl
theorem pow_M {n : Nat} (h4 : n ≤ 4) : 2 ^ (1 <<< n) ≤ 65536 := by
  have h : 1 <<< n ≤ 16 := by rw [Nat.one_shiftLeft]; exact Nat.pow_le_pow_right (n := 2) (by omega) h4
  exact Nat.pow_le_pow_right (n := 2) (j := 16) (by omega) h
theorem and_pred {d : Nat} (h : d < 1000) : binV .and (I (d : Int)) (I ((d : Int) - 1)) = I ((d &&& (d - 1) : Nat) : Int) := by
  rcases Nat.eq_zero_or_pos d with rfl | h0
  · kernel_rfl
  · have e : (d : Int) - 1 = ((d - 1 : Nat) : Int) := by omega
    rw [e]
    exact bin_andN (by omega) (by omega)
theorem spE_nil (x : V) (lim : Nat) (h : Hp) (n : Nat) : spE .nil x .nil lim h n = .ok x h n := rfl
end Go.Proofs.Ythgaekbcmhbbgaa.Ev
/- The examples that each law of codes asks first. -/
namespace Go.Proofs.Ythgaekbcmhbbgaa.Ev
set_option linter.unusedVariables false
set_option maxRecDepth 100000
open Go Go.Proofs Go.RowKit
noncomputable def a3 (k : Nat) : L := .cons (.n 4) (.cons .ns (.cons (.n k) .nil))
noncomputable def vN : V := .tu (.cons .ns (.cons (.b false) .nil))
theorem mc1 : isX vN (EF 60 67 (a3 1) 256 .lf 256) = true := by kernel_rfl
theorem mc2 : isX vN (EF 60 67 (a3 2) 256 .lf 256) = true := by kernel_rfl
theorem mc3 : isX vN (EF 60 67 (a3 3) 256 .lf 256) = true := by kernel_rfl
/-- With these answers. -/
noncomputable def W3 (G : FF) : FF := ovF 67 (spE (a3 1) vN) (ovF 67 (spE (a3 2) vN) (ovF 67 (spE (a3 3) vN) G))
noncomputable def EB (d : Nat) : FF := EQ W3 d
theorem W3_mono (G : FF) (h : G.mono) : (W3 G).mono := ovF_mono (spE_mo _ _) (ovF_mono (spE_mo _ _) (ovF_mono (spE_mo _ _) h))
theorem W3_ok (G : FF) (h : FOK Try.prog G) : FOK Try.prog (W3 G) := ovF_ok (spE_ok (EF_ok 60) mc1 rfl rfl) (ovF_ok (spE_ok (EF_ok 60) mc2 rfl rfl) (ovF_ok (spE_ok (EF_ok 60) mc3 rfl rfl) h))
theorem EB_ok (d : Nat) : FOK Try.prog (EB d) := EQ_ok W3_mono W3_ok d
theorem EB_mono (d : Nat) : (EB d).mono := EQ_mono W3_mono d
theorem mworks_eval : isX (.b true) (EB 60 6 .nil 256 .lf 256) = true := by kernel_rfl
theorem ok6 : SOK Try.prog 6 (spE .nil (.b true)) := spE_ok (EB_ok 60) mworks_eval rfl rfl
end Go.Proofs.Ythgaekbcmhbbgaa.Ev
/- One more element covers what it covers once more: HatMore's walk. -/
namespace Go.Proofs.Ythgaekbcmhbbgaa.Ev
set_option linter.unusedVariables false
set_option linter.unusedSimpArgs false
set_option maxRecDepth 100000
open Go Go.Proofs Go.RowKit
attribute [local go_sem] evC_seq evC_reg evC_cond evC_block evC_skip evC_exit evC_ret evR_cons evR_nil evR_gd guardB_tt guardB_ff guardB_tf guardB_ft guardB_none bindR_ok bindR_okn rgRs_ok seqR_nor seqR_ext seqR_ret condR_true condR_false blockR_nor blockR_ext blockR_ret evX_t evX_c evXL_nil evXL_cons O_mv O_bin O_pick O_eqb O_not O_ext O_call O_conv O_slen O_six O_sbi pv_I pv_i pv_b pv_s pv_ns pv_sl pv_p pv_tu pv_ag bin_lss bin_leq bin_gtr bin_geq bin_eql bin_neq bin8_eql bin8_neq bin_add bin_sub bin_mul get_st get_lf bind_nil bind_cons if_true if_false Got_nor Got_ext Got_ret Kseq Kblk Klp Kend onStr_s onB_b onT_tu onI_I onN_I onK_I eqb_b not_b nthL_0 nthL_1 nthL_2 known_nil known_cons I_known known_b known_s evRVs_nil evRVs_cons evRes_1 evRes_2 evRV_tmp Bool.and_true Bool.true_and Bool.and_self Bool.not_true Bool.not_false decide_true decide_false Int.toNat_natCast true_and and_true big hget_same hget_ne newB_n onP_p onS_sl onS_ns O_fad O_alloc_if O_ixs O_len O_ld O_st O_box boxB_if ldB_if ldB_agif stB_if stB_wif toL_I toL_i toL_b toL_s toL_sl toL_ns toL_ag allC_nil allC_cons isC_i isC_b isC_s isC_sl isC_ns I_isC Llen_nil Llen_cons Lget_0 Lget_1 Lget_2 Lget_3 blkL_size cell_blkL_if getL_blkL_if getL_setL_if setL_sz evRV_cell' rvB_agif rvB_if evPL_cons bldK_if evPL_nil O_build O_part evBuild_ok okL_some onA_ag partV_1 evPart_eq updS_nil updS_cons upd_0 upd_1 upd_2 upd_3 ge_iff_le if_pos and_self Nat.le_refl known_ag known_sl known_ns known_i ov_at spS_eq spSI_eq spSII_eq spI_eq spII_eq spIII_eq spIIII_eq res_v res_sl res_slE Good I_pur pur_b pur_s pur_i pur_ns pur_ag pur_tu purL_nil purL_cons evDr_eq evDs_nil evDs_cons dsR_ok stepD_eq sdB_n sdB_g sdG_tt sdG_ff sdG_tf sdG_ft sdG_none runD_0 rdR_f rdR_t baseOf_pu baseOf_h baseU_nil baseA_nil baseA_0 baseR_nil baseR_0 baseR_00 appAll_nil appAll_0 restr_nil restr_cons setD_some setD_none evC_draw iL_len iL_get iL_allC iL_pur hp0_0 hp0_c rdL_ns rdL_sl List.length_cons List.length_nil O_mks mkB_if O_bsl bslB_if O_app apX_ns apX_sl apN_some apS_some blkL_el Nat.one_mul Nat.mul_one Nat.zero_add n_I onF_fn O_callv app_nil app_cons spLF_eq spL_eq spLL_eq onL_some onLL_ss onLL_ns onLL_sn onLL_nn rdB_blk Int.cast_ofNat_Int tlX_none tlX_some tlOf_cons tlOf_1 tlOf_1t tlM_none tlM_some
noncomputable def F5 : FF := ov 15 (spI f15) (ov 7 (spIL f7) (ov 6 (spE .nil (.b true)) F0))
theorem F5_ok : FOK Try.prog F5 := ov_ok ok15 (ov_ok ok7 (ov_ok ok6 (F0_ok _)))
theorem F5_mono : F5.mono := ov_mono (spI_mo _) (ov_mono (spIL_mo _) (ov_mono (spE_mo _ _) F0_mono))
noncomputable def q5t : IC := (.seq (.seq (.reg (.cons (some (tp 52)) none (.mv (.t (tp 11))) (.cons (some (tp 53)) none (.bin .neq (.t (tp 52)) (.c (I 0))) (.cons (some (tp 54)) none (.mv (.t (tp
  53))) (.cons (some (tp 55)) (some (.mk (tp 54) false)) (.mv (.t (tp 13))) (.cons (some (tp 56)) (some (.mk (tp 54) false)) (.bin .neq (.t (tp 55)) (.c (I 0))) (.cons
  (some (tp 57)) none (.pick (.t (tp 54)) (.c (.b true)) (.t (tp 56))) (.cons (some (tp 58)) none (.mv (.t (tp 57))) (.cons (some (tp 59)) (some (.mk (tp 58) false)) (.mv
  (.t (tp 10))) (.cons (some (tp 60)) (some (.mk (tp 58) false)) (.len (.t (tp 59))) (.cons (some (tp 61)) (some (.mk (tp 58) false)) (.mv (.t (tp 7))) (.cons (some (tp
  62)) (some (.mk (tp 58) false)) (.bin .shl (.c (I 1)) (.t (tp 61))) (.cons (some (tp 63)) (some (.mk (tp 58) false)) (.bin .neq (.t (tp 60)) (.t (tp 62))) (.cons (some
  (tp 64)) none (.pick (.t (tp 58)) (.c (.b true)) (.t (tp 63))) (.cons (some (tp 65)) none (.mv (.t (tp 64))) (.cons (some (tp 66)) (some (.mk (tp 65) false)) (.mv (.t (tp
  12))) (.cons (some (tp 67)) (some (.mk (tp 65) false)) (.len (.t (tp 66))) (.cons (some (tp 68)) (some (.mk (tp 65) false)) (.mv (.t (tp 7))) (.cons (some (tp 69)) (some
  (.mk (tp 65) false)) (.bin .shl (.c (I 1)) (.t (tp 68))) (.cons (some (tp 70)) (some (.mk (tp 65) false)) (.bin .neq (.t (tp 67)) (.t (tp 69))) (.cons (some (tp 71)) none
  (.pick (.t (tp 65)) (.c (.b true)) (.t (tp 70))) .nil))))))))))))))))))))) (.cond (.t (tp 71)) (.seq (.reg (.cons (some (tp 6)) none (.mv (.c (.b false))) .nil)) .ret)
  .skip)) (.seq (.seq (.reg (.cons (some (tp 72)) none (.mv (.t (tp 7))) (.cons (some (tp 73)) none (.bin .shl (.c (I 1)) (.t (tp 72))) (.cons (some (tp 74)) none (.mv (.c
  (I 0))) .nil)))) (.block 0 (IC.loop q5_l0))) (.seq (.reg (.cons (some (tp 97)) none (.call 6 .nil) (.cons (some (tp 6)) none (.mv (.t (tp 97))) .nil))) .ret)))
set_option maxHeartbeats 4000000 in
theorem tail5 (n c p1 p2 nx : Nat) (g1 g2 : Nat → Nat) (h1 : 1 ≤ n) (h4 : n ≤ 4) (hc : c < 1 <<< n) (b1 : 255 ≤ p1) (b2 : 255 ≤ p2) (b12 : p1 ≠ p2) (b3 : p1 < nx) (b4 : p2 < nx) (b5 : nx < 1000) (hg : ∀ v, v < 1 <<< n → g2 v = g1 v + if nearB v c = true then 1 else 0) (hb : ∀ v, g1 v ≤ 3000) :
    JQ Try.prog drops Try.f5.ntmps F5 q5t 256 (Kend res5 (Good 0 (.v (.b true)))) ((((((Tr.lf.set (I (n : Int)) (tp 7)).set (I (c : Int)) (tp 9)).set (.sl (tp p1) 0 1 (1 <<< n) (some (1 <<< n))) (tp 10)).set (I 0) (tp 11)).set (.sl (tp p2) 0 1 (1 <<< n) (some (1 <<< n))) (tp 12)).set (I 0) (tp 13))
      ((Hp.lf.put (some (blkL 3 (iL (fZ (1 <<< n) g1)))) (tp p1)).put (some (blkL 3 (iL (fZ (1 <<< n) g2)))) (tp p2)) nx := by
  have hF := F5_ok
  have hM := F5_mono
  have hsh := shl1 (a := n) (by omega)
  have hN16 : 1 <<< n ≤ 16 := by rw [Nat.one_shiftLeft]; exact Nat.pow_le_pow_right (n := 2) (by omega) h4
  have hnear : ∀ x, x < 1 <<< n → x ^^^ c < 1 <<< n := fun x hx => by
    rw [Nat.one_shiftLeft] at hx hc ⊢
    exact Nat.xor_lt_two_pow hx hc
  obtain ⟨N, hNN⟩ : ∃ N, N = 1 <<< n := ⟨_, rfl⟩
  rw [← hNN] at hc hg hN16 hnear hsh ⊢
  unfold q5t
  refine JQ.seq ?_
  have bx : nx < 9223372036854775808 := by omega
  (refine JQ.step follows hF hM ?_; simp (config := { maxSteps := 4000000 }) (disch := (omega)) only [go_sem, Nat.reduceLT, Nat.reduceEqDiff, reduceIte, Nat.reduceAdd, Nat.reduceSub, Nat.reduceLeDiff, Int.reduceEq, Int.reduceLT, Int.reduceLE, Int.reduceNeg, Int.reduceAdd, Int.reduceSub, Int.reduceToNat, Int.reduceMul, Nat.reduceMul, hsh, bx])
  try refine ⟨by omega, ?_⟩
  (refine JQ.run follows hF hM ?_; simp (config := { maxSteps := 4000000 }) (disch := (omega)) only [go_sem, Nat.reduceLT, Nat.reduceEqDiff, reduceIte, Nat.reduceAdd, Nat.reduceSub, Nat.reduceLeDiff, Int.reduceEq, Int.reduceLT, Int.reduceLE, Int.reduceNeg, Int.reduceAdd, Int.reduceSub, Int.reduceToNat, Int.reduceMul, Nat.reduceMul, bx])
  try refine ⟨by omega, ?_⟩
  refine JQ.seq ?_
  (refine JQ.step follows hF hM ?_; simp (config := { maxSteps := 4000000 }) (disch := (omega)) only [go_sem, Nat.reduceLT, Nat.reduceEqDiff, reduceIte, Nat.reduceAdd, Nat.reduceSub, Nat.reduceLeDiff, Int.reduceEq, Int.reduceLT, Int.reduceLE, Int.reduceNeg, Int.reduceAdd, Int.reduceSub, Int.reduceToNat, Int.reduceMul, Nat.reduceMul, hsh, bx])
  try refine ⟨by omega, ?_⟩
  refine JQ.block ?_
  refine JQ.loop (σ := Nat) (fun k => k ≤ N) (fun k => ((((((Tr.lf.set (I (n : Int)) (tp 7)).set (I (c : Int)) (tp 9)).set (.sl (tp p1) 0 1 N (some N)) (tp 10)).set (.sl (tp p2) 0 1 N (some N)) (tp 12)).set (I (N : Int)) (tp 73)).set (I (k : Int)) (tp 74)))
    (fun k => (Hp.lf.put (some (blkL 3 (iL (fZ N g1)))) (tp p1)).put (some (blkL 3 (iL (fZ N g2)))) (tp p2)) (fun _ => nx) (fun k => N - k) 0 (Nat.zero_le _) (by ((repeat' (first | exact EnvLe.lf _ | refine EnvLe.set (by decide) ?_ ?_)) <;> first | exact EnvLe.lf _ | (simp (config := { maxSteps := 4000000 }) (disch := (omega)) only [go_sem, Nat.reduceLT, Nat.reduceEqDiff, reduceIte, Nat.reduceAdd, Nat.reduceSub, Nat.reduceLeDiff, Int.reduceEq, Int.reduceLT, Int.reduceLE, Int.reduceNeg, Int.reduceAdd, Int.reduceSub, Int.reduceToNat, Int.reduceMul, Nat.reduceMul, Int.natCast_add, Int.cast_ofNat_Int]; done) | (simp (config := { maxSteps := 4000000 }) (disch := (omega)) only [go_sem, Nat.reduceLT, Nat.reduceEqDiff, reduceIte, Nat.reduceAdd, Nat.reduceSub, Nat.reduceLeDiff, Int.reduceEq, Int.reduceLT, Int.reduceLE, Int.reduceNeg, Int.reduceAdd, Int.reduceSub, Int.reduceToNat, Int.reduceMul, Nat.reduceMul, Int.natCast_add, Int.cast_ofNat_Int] <;> first | rfl | (congr 1; omega)))) (HpLe.refl _) rfl ?_
  intro k hk
  unfold q5_l0
  obtain ⟨H, hH⟩ : ∃ H, H = (Hp.lf.put (some (blkL 3 (iL (fZ N g1)))) (tp p1)).put (some (blkL 3 (iL (fZ N g2)))) (tp p2) := ⟨_, rfl⟩
  have gp1 : H.get (tp p1) = some (blkL 3 (iL (fZ N g1))) := by rw [hH, put_other (by omega) (by omega) (by omega)]; exact hget_same _ _ _
  have gp2 : H.get (tp p2) = some (blkL 3 (iL (fZ N g2))) := by rw [hH]; exact hget_same _ _ _
  have hl1 := fZ_len N g1
  have hl2 := fZ_len N g2
  rw [← hH]
  by_cases hlt : k < N
  · have hlt' : (k : Int) < (N : Int) := by omega
    have hd := hnear k hlt
    have hx := bin_xorN (a := k) (b := c) (by omega) (by omega)
    have hgk := hg k hlt
    have hbk := hb k
    have a1 := fZ_at g1 hlt
    have a2 := fZ_at g2 hlt
    obtain ⟨u1, hu1⟩ : ∃ u, u = g1 k := ⟨_, rfl⟩
    obtain ⟨u2, hu2⟩ : ∃ u, u = g2 k := ⟨_, rfl⟩
    rw [← hu1] at hgk hbk a1
    rw [← hu2] at hgk a2
    unfold nearB at hgk
    obtain ⟨d, hdd⟩ : ∃ d, d = k ^^^ c := ⟨_, rfl⟩
    rw [← hdd] at hd hx hgk
    have hand := and_pred (d := d) (by omega)
    have hsub : -9223372036854775808 ≤ (u2 : Int) - (u1 : Int) ∧ (u2 : Int) - (u1 : Int) < 9223372036854775808 := by
      have : u2 ≤ u1 + 1 := by rw [hgk]; split <;> omega
      omega
    by_cases hz : d &&& (d - 1) = 0
    · rw [if_pos (decide_eq_true hz)] at hgk
      have hz' : ((d &&& (d - 1) : Nat) : Int) = 0 := by rw [hz]; rfl
      have hdf : (u2 : Int) - (u1 : Int) = 1 := by omega
      (refine JQ.run follows hF hM ?_; simp (config := { maxSteps := 4000000 }) (disch := (omega)) only [go_sem, Nat.reduceLT, Nat.reduceEqDiff, reduceIte, Nat.reduceAdd, Nat.reduceSub, Nat.reduceLeDiff, Int.reduceEq, Int.reduceLT, Int.reduceLE, Int.reduceNeg, Int.reduceAdd, Int.reduceSub, Int.reduceToNat, Int.reduceMul, Nat.reduceMul, hlt', hx, hand, hz', gp1, gp2, hl1, hl2, a1, a2, hdf])
      exact ⟨by omega, k + 1, by omega, by omega, by ((repeat' (first | exact EnvLe.lf _ | refine EnvLe.set (by decide) ?_ ?_)) <;> first | exact EnvLe.lf _ | (simp (config := { maxSteps := 4000000 }) (disch := (omega)) only [go_sem, Nat.reduceLT, Nat.reduceEqDiff, reduceIte, Nat.reduceAdd, Nat.reduceSub, Nat.reduceLeDiff, Int.reduceEq, Int.reduceLT, Int.reduceLE, Int.reduceNeg, Int.reduceAdd, Int.reduceSub, Int.reduceToNat, Int.reduceMul, Nat.reduceMul, Int.natCast_add, Int.cast_ofNat_Int]; done) | (simp (config := { maxSteps := 4000000 }) (disch := (omega)) only [go_sem, Nat.reduceLT, Nat.reduceEqDiff, reduceIte, Nat.reduceAdd, Nat.reduceSub, Nat.reduceLeDiff, Int.reduceEq, Int.reduceLT, Int.reduceLE, Int.reduceNeg, Int.reduceAdd, Int.reduceSub, Int.reduceToNat, Int.reduceMul, Nat.reduceMul, Int.natCast_add, Int.cast_ofNat_Int] <;> first | rfl | (congr 1; omega))), HpLe.refl _⟩
    · rw [if_neg (by rw [decide_eq_true_eq]; exact hz)] at hgk
      have hz' : ¬ ((d &&& (d - 1) : Nat) : Int) = 0 := by omega
      have hdf : (u2 : Int) - (u1 : Int) = 0 := by omega
      (refine JQ.run follows hF hM ?_; simp (config := { maxSteps := 4000000 }) (disch := (omega)) only [go_sem, Nat.reduceLT, Nat.reduceEqDiff, reduceIte, Nat.reduceAdd, Nat.reduceSub, Nat.reduceLeDiff, Int.reduceEq, Int.reduceLT, Int.reduceLE, Int.reduceNeg, Int.reduceAdd, Int.reduceSub, Int.reduceToNat, Int.reduceMul, Nat.reduceMul, hlt', hx, hand, hz', gp1, gp2, hl1, hl2, a1, a2, hdf])
      exact ⟨by omega, k + 1, by omega, by omega, by ((repeat' (first | exact EnvLe.lf _ | refine EnvLe.set (by decide) ?_ ?_)) <;> first | exact EnvLe.lf _ | (simp (config := { maxSteps := 4000000 }) (disch := (omega)) only [go_sem, Nat.reduceLT, Nat.reduceEqDiff, reduceIte, Nat.reduceAdd, Nat.reduceSub, Nat.reduceLeDiff, Int.reduceEq, Int.reduceLT, Int.reduceLE, Int.reduceNeg, Int.reduceAdd, Int.reduceSub, Int.reduceToNat, Int.reduceMul, Nat.reduceMul, Int.natCast_add, Int.cast_ofNat_Int]; done) | (simp (config := { maxSteps := 4000000 }) (disch := (omega)) only [go_sem, Nat.reduceLT, Nat.reduceEqDiff, reduceIte, Nat.reduceAdd, Nat.reduceSub, Nat.reduceLeDiff, Int.reduceEq, Int.reduceLT, Int.reduceLE, Int.reduceNeg, Int.reduceAdd, Int.reduceSub, Int.reduceToNat, Int.reduceMul, Nat.reduceMul, Int.natCast_add, Int.cast_ofNat_Int] <;> first | rfl | (congr 1; omega))), HpLe.refl _⟩
  · obtain rfl : k = N := by omega
    (refine JQ.run follows hF hM ?_; simp (config := { maxSteps := 4000000 }) (disch := (omega)) only [go_sem, Nat.reduceLT, Nat.reduceEqDiff, reduceIte, Nat.reduceAdd, Nat.reduceSub, Nat.reduceLeDiff, Int.reduceEq, Int.reduceLT, Int.reduceLE, Int.reduceNeg, Int.reduceAdd, Int.reduceSub, Int.reduceToNat, Int.reduceMul, Nat.reduceMul, Int.lt_irrefl])
    refine ⟨by omega, ?_⟩
    (refine JQ.run follows hF hM ?_; simp (config := { maxSteps := 4000000 }) (disch := (omega)) only [go_sem, Nat.reduceLT, Nat.reduceEqDiff, reduceIte, Nat.reduceAdd, Nat.reduceSub, Nat.reduceLeDiff, Int.reduceEq, Int.reduceLT, Int.reduceLE, Int.reduceNeg, Int.reduceAdd, Int.reduceSub, Int.reduceToNat, Int.reduceMul, Nat.reduceMul, F5, spE_nil, res5])
    try omega
end Go.Proofs.Ythgaekbcmhbbgaa.Ev
/- One more element covers what it covers once more: HatMore's walk. -/
namespace Go.Proofs.Ythgaekbcmhbbgaa.Ev
set_option linter.unusedVariables false
set_option linter.unusedSimpArgs false
set_option maxRecDepth 100000
open Go Go.Proofs Go.RowKit
attribute [local go_sem] evC_seq evC_reg evC_cond evC_block evC_skip evC_exit evC_ret evR_cons evR_nil evR_gd guardB_tt guardB_ff guardB_tf guardB_ft guardB_none bindR_ok bindR_okn rgRs_ok seqR_nor seqR_ext seqR_ret condR_true condR_false blockR_nor blockR_ext blockR_ret evX_t evX_c evXL_nil evXL_cons O_mv O_bin O_pick O_eqb O_not O_ext O_call O_conv O_slen O_six O_sbi pv_I pv_i pv_b pv_s pv_ns pv_sl pv_p pv_tu pv_ag bin_lss bin_leq bin_gtr bin_geq bin_eql bin_neq bin8_eql bin8_neq bin_add bin_sub bin_mul get_st get_lf bind_nil bind_cons if_true if_false Got_nor Got_ext Got_ret Kseq Kblk Klp Kend onStr_s onB_b onT_tu onI_I onN_I onK_I eqb_b not_b nthL_0 nthL_1 nthL_2 known_nil known_cons I_known known_b known_s evRVs_nil evRVs_cons evRes_1 evRes_2 evRV_tmp Bool.and_true Bool.true_and Bool.and_self Bool.not_true Bool.not_false decide_true decide_false Int.toNat_natCast true_and and_true big hget_same hget_ne newB_n onP_p onS_sl onS_ns O_fad O_alloc_if O_ixs O_len O_ld O_st O_box boxB_if ldB_if ldB_agif stB_if stB_wif toL_I toL_i toL_b toL_s toL_sl toL_ns toL_ag allC_nil allC_cons isC_i isC_b isC_s isC_sl isC_ns I_isC Llen_nil Llen_cons Lget_0 Lget_1 Lget_2 Lget_3 blkL_size cell_blkL_if getL_blkL_if getL_setL_if setL_sz evRV_cell' rvB_agif rvB_if evPL_cons bldK_if evPL_nil O_build O_part evBuild_ok okL_some onA_ag partV_1 evPart_eq updS_nil updS_cons upd_0 upd_1 upd_2 upd_3 ge_iff_le if_pos and_self Nat.le_refl known_ag known_sl known_ns known_i ov_at spS_eq spSI_eq spSII_eq spI_eq spII_eq spIII_eq spIIII_eq res_v res_sl res_slE Good I_pur pur_b pur_s pur_i pur_ns pur_ag pur_tu purL_nil purL_cons evDr_eq evDs_nil evDs_cons dsR_ok stepD_eq sdB_n sdB_g sdG_tt sdG_ff sdG_tf sdG_ft sdG_none runD_0 rdR_f rdR_t baseOf_pu baseOf_h baseU_nil baseA_nil baseA_0 baseR_nil baseR_0 baseR_00 appAll_nil appAll_0 restr_nil restr_cons setD_some setD_none evC_draw iL_len iL_get iL_allC iL_pur hp0_0 hp0_c rdL_ns rdL_sl List.length_cons List.length_nil O_mks mkB_if O_bsl bslB_if O_app apX_ns apX_sl apN_some apS_some blkL_el Nat.one_mul Nat.mul_one Nat.zero_add n_I onF_fn O_callv app_nil app_cons spLF_eq spL_eq spLL_eq onL_some onLL_ss onLL_ns onLL_sn onLL_nn rdB_blk Int.cast_ofNat_Int tlX_none tlX_some tlOf_cons tlOf_1 tlOf_1t tlM_none tlM_some
theorem onK_i {β : Type} (k : IntKind) (z : Int) (f : IntKind → Int → β) (s : β) : onK (.i k z) f s = f k z := rfl
theorem mkI_64 (z : Int) : mkI .i64 z = I z := rfl
set_option maxHeartbeats 4000000 in
theorem run5 (a s d : Nat) (ha : a ≤ 255) (hs : s ≤ 65535) (hd : d ≤ 255) : JQ Try.prog drops Try.f5.ntmps F5 q5 256 (Kend res5 (Good 0 (.v (.b true)))) (bind (.cons (.i .u8 (a : Int)) (.cons (.i .u16 (s : Int)) (.cons (.i .u8 (d : Int)) .nil))) 0 .lf) .lf 256 := by
  have hF := F5_ok
  have hM := F5_mono
  have hwa : IntKind.i64.wrap (a : Int) = a := wrap64 (by omega) (by omega)
  have hws : IntKind.i64.wrap (s : Int) = s := wrap64 (by omega) (by omega)
  have hwd : IntKind.i64.wrap (d : Int) = d := wrap64 (by omega) (by omega)
  obtain ⟨n, hn⟩ : ∃ n, n = 1 + a % 4 := ⟨_, rfl⟩
  have hn' : 1 + (a : Int) % 4 = (n : Int) := by omega
  have h1 : 1 ≤ n := by omega
  have h4 : n ≤ 4 := by omega
  have hU := shlU h1 h4
  have hMM := shlM h1 h4
  have hpM := pow_M h4
  have hMp : 0 < 2 ^ (1 <<< n) := Nat.two_pow_pos _
  have hsh := shl1 (a := n) (by omega)
  have hN16 : 1 <<< n ≤ 16 := by rw [Nat.one_shiftLeft]; exact Nat.pow_le_pow_right (n := 2) (by omega) h4
  have hNp : 0 < 1 <<< n := by rw [Nat.one_shiftLeft]; exact Nat.two_pow_pos _
  obtain ⟨s', hs'⟩ : ∃ x, x = s % 2 ^ (1 <<< n) := ⟨_, rfl⟩
  have hsM : s' < 2 ^ (1 <<< n) := by rw [hs']; exact Nat.mod_lt _ hMp
  obtain ⟨c, hc'⟩ : ∃ x, x = d % (1 <<< n) := ⟨_, rfl⟩
  have hc : c < 1 <<< n := by rw [hc']; exact Nat.mod_lt _ hNp
  have hsr : (s : Int) % ((2 ^ (1 <<< n) : Nat) : Int) = (s' : Int) := by rw [hs']; rfl
  have hcr : (d : Int) % ((1 <<< n : Nat) : Int) = (c : Int) := by rw [hc']; rfl
  have hshc := shl1 (a := c) (by omega)
  have hcM : 1 <<< c < 2 ^ (1 <<< n) := by rw [Nat.one_shiftLeft]; exact Nat.pow_lt_pow_right (by omega) hc
  have hbn := bin_bnN (a := s') (b := 1 <<< c) (by omega)
  have hor := bin_orN (a := s') (b := 1 <<< c) (by omega) (by omega)
  have l1 : bnN s' (1 <<< c) < 2 ^ (1 <<< n) := Nat.lt_of_le_of_lt (bnN_le (by omega)) hsM
  have l2 : s' ||| 1 <<< c < 2 ^ (1 <<< n) := Nat.or_lt_two_pow hsM hcM
  have hmore : ∀ v, v < 1 <<< n → cntN n (elN (s' ||| 1 <<< c) 16) v = cntN n (elN (bnN s' (1 <<< c)) 16) v + if nearB v c = true then 1 else 0 := fun v hv => by
    rw [cnt_more (by omega) (by omega)]
    rw [Nat.one_shiftLeft] at hv hc
    rw [hit_near n (by omega) c hc v hv]
  obtain ⟨m1, hm1⟩ : ∃ x, x = bnN s' (1 <<< c) := ⟨_, rfl⟩
  obtain ⟨m2, hm2⟩ : ∃ x, x = s' ||| 1 <<< c := ⟨_, rfl⟩
  rw [← hm1] at hbn l1 hmore
  rw [← hm2] at hor l2 hmore
  have hb : ∀ v, cntN n (elN m1 16) v ≤ 3000 := fun v => by
    have h := cntN_le n (by omega) v (elN m1 16)
    have := elN_len m1 16
    omega
  have e1 := f15_at (s := m1) (by omega)
  have e2 := f15_at (s := m2) (by omega)
  have k1 := okCk_el h1 h4 l1
  have k2 := okCk_el h1 h4 l2
  have t1 := f7_at k1
  have t2 := f7_at k2
  have z1 : natL (eZ m1 16) = elN m1 16 := natL_zl _
  have z2 : natL (eZ m2 16) = elN m2 16 := natL_zl _
  rw [z1] at t1
  rw [z2] at t2
  unfold oTe at t1 t2
  obtain ⟨N, hNN⟩ : ∃ N, N = 1 <<< n := ⟨_, rfl⟩
  have q1 := eZ_len m1 16
  have q2 := eZ_len m2 16
  obtain ⟨xs, hxs⟩ : ∃ x, x = eZ m1 16 := ⟨_, rfl⟩
  obtain ⟨ys, hys⟩ : ∃ x, x = eZ m2 16 := ⟨_, rfl⟩
  rw [← hxs] at e1 t1 q1
  rw [← hys] at e2 t2 q2
  obtain ⟨G1, hG1⟩ : ∃ g, g = cntN n (elN m1 16) := ⟨_, rfl⟩
  obtain ⟨G2, hG2⟩ : ∃ g, g = cntN n (elN m2 16) := ⟨_, rfl⟩
  rw [← hG1, ← hNN] at t1
  rw [← hG2, ← hNN] at t2
  unfold q5
  (refine JQ.step follows hF hM ?_; simp (config := { maxSteps := 4000000 }) (disch := (omega)) only [go_sem, Nat.reduceLT, Nat.reduceEqDiff, reduceIte, Nat.reduceAdd, Nat.reduceSub, Nat.reduceLeDiff, Int.reduceEq, Int.reduceLT, Int.reduceLE, Int.reduceNeg, Int.reduceAdd, Int.reduceSub, Int.reduceToNat, Int.reduceMul, Nat.reduceMul])
  (refine JQ.step follows hF hM ?_; simp (config := { maxSteps := 4000000 }) (disch := (omega)) only [go_sem, Nat.reduceLT, Nat.reduceEqDiff, reduceIte, Nat.reduceAdd, Nat.reduceSub, Nat.reduceLeDiff, Int.reduceEq, Int.reduceLT, Int.reduceLE, Int.reduceNeg, Int.reduceAdd, Int.reduceSub, Int.reduceToNat, Int.reduceMul, Nat.reduceMul, onK_i, mkI_64, hwa, hn', bin_rem])
  have hM2 : binV .rem (I (s : Int)) (I ((2 ^ (1 <<< n) : Nat) : Int)) = I (s' : Int) := by rw [bin_rem (by omega) (by omega), hsr]
  have hN2 : binV .rem (I (d : Int)) (I ((1 <<< n : Nat) : Int)) = I (c : Int) := by rw [bin_rem (by omega) (by omega), hcr]
  (refine JQ.step follows hF hM ?_; simp (config := { maxSteps := 4000000 }) (disch := (omega)) only [go_sem, Nat.reduceLT, Nat.reduceEqDiff, reduceIte, Nat.reduceAdd, Nat.reduceSub, Nat.reduceLeDiff, Int.reduceEq, Int.reduceLT, Int.reduceLE, Int.reduceNeg, Int.reduceAdd, Int.reduceSub, Int.reduceToNat, Int.reduceMul, Nat.reduceMul, onK_i, mkI_64, hws, hU, hMM, hM2])
  (refine JQ.step follows hF hM ?_; simp (config := { maxSteps := 4000000 }) (disch := (omega)) only [go_sem, Nat.reduceLT, Nat.reduceEqDiff, reduceIte, Nat.reduceAdd, Nat.reduceSub, Nat.reduceLeDiff, Int.reduceEq, Int.reduceLT, Int.reduceLE, Int.reduceNeg, Int.reduceAdd, Int.reduceSub, Int.reduceToNat, Int.reduceMul, Nat.reduceMul, onK_i, mkI_64, hwd, hsh, hN2])
  have hyc : c ∈ elN m2 16 := by
    unfold elN
    rw [List.mem_filter, List.mem_range]
    exact ⟨by omega, by rw [hm2, Nat.testBit_or, Nat.one_shiftLeft, Nat.testBit_two_pow_self, Bool.or_true]⟩
  have hy0 : ys.length ≠ 0 := by
    rw [hys]; unfold eZ; rw [zl_len]
    have := List.length_pos_of_mem hyc
    omega
  have o2 : oZ ys = .sl 3 1 ys.length none (iL ys) := if_neg hy0
  rw [o2] at e2
  rw [← hG1, ← hG2] at hmore
  rw [← hG1] at hb
  by_cases hx : xs.length = 0
  · have o1 : oZ xs = .v .ns := if_pos hx
    rw [o1] at e1
    have hx0 : xs = [] := List.length_eq_zero_iff.1 hx
    rw [hx0] at t1
    have tl := tail5 n c 255 257 259 G1 G2 h1 h4 hc (by omega) (by omega) (by omega) (by omega) (by omega) (by omega) hmore hb
    rw [← hNN] at tl
    unfold q5t F5 at tl
    have hpur : (V.b true).pur = true := rfl
    simp only [Good, hpur, and_true] at tl
    (refine JQ.step follows hF hM ?_; simp (config := { maxSteps := 4000000 }) (disch := (omega)) only [go_sem, Nat.reduceLT, Nat.reduceEqDiff, reduceIte, Nat.reduceAdd, Nat.reduceSub, Nat.reduceLeDiff, Int.reduceEq, Int.reduceLT, Int.reduceLE, Int.reduceNeg, Int.reduceAdd, Int.reduceSub, Int.reduceToNat, Int.reduceMul, Nat.reduceMul, hshc, hbn, e1, t1, F5, spIL_ns])
    (refine JQ.step follows hF hM ?_; simp (config := { maxSteps := 4000000 }) (disch := (omega)) only [go_sem, Nat.reduceLT, Nat.reduceEqDiff, reduceIte, Nat.reduceAdd, Nat.reduceSub, Nat.reduceLeDiff, Int.reduceEq, Int.reduceLT, Int.reduceLE, Int.reduceNeg, Int.reduceAdd, Int.reduceSub, Int.reduceToNat, Int.reduceMul, Nat.reduceMul, hshc, hor, e2, t2, F5, spIL_sl])
    refine JQ.weak ?_ ?_ tl
    · ((repeat' (first | exact EnvLe.lf _ | refine EnvLe.set (by decide) ?_ ?_)) <;> first | exact EnvLe.lf _ | (simp (config := { maxSteps := 4000000 }) (disch := (omega)) only [go_sem, Nat.reduceLT, Nat.reduceEqDiff, reduceIte, Nat.reduceAdd, Nat.reduceSub, Nat.reduceLeDiff, Int.reduceEq, Int.reduceLT, Int.reduceLE, Int.reduceNeg, Int.reduceAdd, Int.reduceSub, Int.reduceToNat, Int.reduceMul, Nat.reduceMul, Int.natCast_add, Int.cast_ofNat_Int]; done) | (simp (config := { maxSteps := 4000000 }) (disch := (omega)) only [go_sem, Nat.reduceLT, Nat.reduceEqDiff, reduceIte, Nat.reduceAdd, Nat.reduceSub, Nat.reduceLeDiff, Int.reduceEq, Int.reduceLT, Int.reduceLE, Int.reduceNeg, Int.reduceAdd, Int.reduceSub, Int.reduceToNat, Int.reduceMul, Nat.reduceMul, Int.natCast_add, Int.cast_ofNat_Int] <;> first | rfl | (congr 1; omega)))
    · exact HpLe.put ⟨_, hget_same _ _ _, BlkLe.refl _⟩ (HpLe.put ⟨_, by rw [put_other (by omega) (by omega) (by omega), put_other (by omega) (by omega) (by omega)]; exact hget_same _ _ _, BlkLe.refl _⟩ (HpLe.lf _))
  · have o1 : oZ xs = .sl 3 1 xs.length none (iL xs) := if_neg hx
    rw [o1] at e1
    have tl := tail5 n c 256 258 260 G1 G2 h1 h4 hc (by omega) (by omega) (by omega) (by omega) (by omega) (by omega) hmore hb
    rw [← hNN] at tl
    unfold q5t F5 at tl
    have hpur : (V.b true).pur = true := rfl
    simp only [Good, hpur, and_true] at tl
    (refine JQ.step follows hF hM ?_; simp (config := { maxSteps := 4000000 }) (disch := (omega)) only [go_sem, Nat.reduceLT, Nat.reduceEqDiff, reduceIte, Nat.reduceAdd, Nat.reduceSub, Nat.reduceLeDiff, Int.reduceEq, Int.reduceLT, Int.reduceLE, Int.reduceNeg, Int.reduceAdd, Int.reduceSub, Int.reduceToNat, Int.reduceMul, Nat.reduceMul, hshc, hbn, e1, t1, F5, spIL_sl])
    (refine JQ.step follows hF hM ?_; simp (config := { maxSteps := 4000000 }) (disch := (omega)) only [go_sem, Nat.reduceLT, Nat.reduceEqDiff, reduceIte, Nat.reduceAdd, Nat.reduceSub, Nat.reduceLeDiff, Int.reduceEq, Int.reduceLT, Int.reduceLE, Int.reduceNeg, Int.reduceAdd, Int.reduceSub, Int.reduceToNat, Int.reduceMul, Nat.reduceMul, hshc, hor, e2, t2, F5, spIL_sl])
    refine JQ.weak ?_ ?_ tl
    · ((repeat' (first | exact EnvLe.lf _ | refine EnvLe.set (by decide) ?_ ?_)) <;> first | exact EnvLe.lf _ | (simp (config := { maxSteps := 4000000 }) (disch := (omega)) only [go_sem, Nat.reduceLT, Nat.reduceEqDiff, reduceIte, Nat.reduceAdd, Nat.reduceSub, Nat.reduceLeDiff, Int.reduceEq, Int.reduceLT, Int.reduceLE, Int.reduceNeg, Int.reduceAdd, Int.reduceSub, Int.reduceToNat, Int.reduceMul, Nat.reduceMul, Int.natCast_add, Int.cast_ofNat_Int]; done) | (simp (config := { maxSteps := 4000000 }) (disch := (omega)) only [go_sem, Nat.reduceLT, Nat.reduceEqDiff, reduceIte, Nat.reduceAdd, Nat.reduceSub, Nat.reduceLeDiff, Int.reduceEq, Int.reduceLT, Int.reduceLE, Int.reduceNeg, Int.reduceAdd, Int.reduceSub, Int.reduceToNat, Int.reduceMul, Nat.reduceMul, Int.natCast_add, Int.cast_ofNat_Int] <;> first | rfl | (congr 1; omega)))
    · exact HpLe.put ⟨_, hget_same _ _ _, BlkLe.refl _⟩ (HpLe.put ⟨_, by rw [put_other (by omega) (by omega) (by omega), put_other (by omega) (by omega) (by omega)]; exact hget_same _ _ _, BlkLe.refl _⟩ (HpLe.lf _))
theorem more_walk (a s d : Nat) (ha : a ≤ 255) (hs : s ≤ 65535) (hd : d ≤ 255) (W : World) : Calls Try.prog 5 #[.int .u8 (a : Int), .int .u16 (s : Int), .int .u8 (d : Int)] W fun e w' => e = .returned (.bool true) ∧ Below W.heap.size W w' :=
  lawC Try.func5 n5 b5 k5 r5 (args := .cons (.i .u8 (a : Int)) (.cons (.i .u16 (s : Int)) (.cons (.i .u8 (d : Int)) .nil))) (by simp [L.length]) rfl (run5 a s d ha hs hd) (vs := [.int .u8 (a : Int), .int .u16 (s : Int), .int .u8 (d : Int)]) (fun g => ⟨_, _, rfl, rfl, _, _, rfl, rfl, _, _, rfl, rfl, rfl⟩) W
theorem wf_u8 {b : Int} (h : (Lit.int .u8 b).wf = true) : ∃ a : Nat, b = a ∧ a ≤ 255 := by
  simp [Lit.wf] at h
  have h1 : IntKind.u8.min = 0 := by decide
  have h2 : IntKind.u8.max = 255 := by decide
  rw [h1, h2] at h
  exact ⟨b.toNat, by omega, by omega⟩
theorem wf_u16 {b : Int} (h : (Lit.int .u16 b).wf = true) : ∃ a : Nat, b = a ∧ a ≤ 65535 := by
  simp [Lit.wf] at h
  have h1 : IntKind.u16.min = 0 := by decide
  have h2 : IntKind.u16.max = 65535 := by decide
  rw [h1, h2] at h
  exact ⟨b.toNat, by omega, by omega⟩
end Go.Proofs.Ythgaekbcmhbbgaa.Ev
