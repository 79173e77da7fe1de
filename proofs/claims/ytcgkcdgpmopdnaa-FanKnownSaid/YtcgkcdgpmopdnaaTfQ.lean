/- The compiled functions of the fan: one fan as it is kept. -/
import Derived.Test.YtcgkcdgpmopdnaaTfL
namespace Go.Proofs.Ytcgkcdgpmopdnaa.Ev
set_option linter.unusedVariables false
set_option maxRecDepth 100000
open Go Go.Proofs
/-- An empty fan as it is kept; an empty row. -/
noncomputable def zld : L := (L.cons (I 0) (L.cons (V.b false) (L.cons (I 0) (L.cons (I 0) (L.cons (I 0) (L.cons (I 0) (L.cons (I 0) (L.cons (I 0) (L.cons (I 0) (L.cons (I 0) (L.cons (I 0) (L.cons (I 0) (L.cons (I 0) (L.cons (I 0) (L.cons (I 0) (L.cons (I 0) (L.cons (I 0) (L.cons (I 0) L.nil))))))))))))))))))
noncomputable def z16 : L := (L.cons (I 0) (L.cons (I 0) (L.cons (I 0) (L.cons (I 0) (L.cons (I 0) (L.cons (I 0) (L.cons (I 0) (L.cons (I 0) (L.cons (I 0) (L.cons (I 0) (L.cons (I 0) (L.cons (I 0) (L.cons (I 0) (L.cons (I 0) (L.cons (I 0) (L.cons (I 0) L.nil))))))))))))))))
noncomputable def q90_l0 : IC := ((IC.reg (RL.cons (some (tp 9)) none (O.bin .lss (X.t (tp 8)) (X.c (I 16))) RL.nil)).seq ((IC.cond (X.t (tp 9)) IC.skip (IC.exit 0)).seq ((IC.block 1 ((IC.reg (RL.cons (some (tp 10)) none (O.mv (X.t (tp 8))) (RL.cons (some (tp 11)) none (O.idx 16 1 false (X.t (tp 7)) (X.t (tp 8))) (RL.cons (some (tp 5)) none (O.mv (X.t (tp 10))) (RL.cons (some (tp 6)) none (O.mv (X.t (tp 11))) RL.nil))))).seq ((IC.reg (RL.cons (some (tp 12)) none (O.mv (X.t (tp 6))) (RL.cons (some (tp 13)) none (O.mv (X.t (tp 1))) (RL.cons (some (tp 14)) none (O.bin .eql (X.t (tp 12)) (X.t (tp 13))) RL.nil)))).seq (IC.cond (X.t (tp 14)) (IC.reg (RL.cons (some (tp 15)) none (O.mv (X.t (tp 5))) (RL.cons (some (tp 16)) none (O.ixa 16 1 (X.t (tp 2)) (X.t (tp 15))) (RL.cons none none (O.st 1 (X.t (tp 16)) (X.c (I 0))) RL.nil)))) IC.skip)))).seq (IC.reg (RL.cons (some (tp 17)) none (O.bin .add (X.t (tp 8)) (X.c (I 1))) (RL.cons (some (tp 8)) none (O.mv (X.t (tp 17))) RL.nil))))))
noncomputable def q90 : IC := ((IC.reg (RL.cons (some (tp 2)) none (O.box 79 (X.t (tp 0))) (RL.cons (some (tp 4)) none (O.alloc 79 z16 16) RL.nil))).seq (((IC.reg (RL.cons (some (tp 7)) none (O.ld 16 true (X.t (tp 2))) (RL.cons (some (tp 8)) none (O.mv (X.c (I 0))) RL.nil))).seq (IC.block 0 (IC.loop q90_l0))).seq ((IC.reg (RL.cons (some (tp 18)) none (O.ld 16 true (X.t (tp 2))) (RL.cons none none (O.st 16 (X.t (tp 4)) (X.t (tp 18))) RL.nil))).seq IC.ret)))
noncomputable def res90 : List RV := [RV.cell (tp 4) 16 true]
noncomputable def c90 : Code := match Try.f90.body with | some c => c | none => .skip
theorem b90 : Try.f90.body = some c90 := by kernel_rfl
theorem k90 : compC Try.prog drops Try.f90.ntmps c90 = some q90 := by kernel_rfl
theorem r90 : compRVs Try.prog Try.f90.results.toList = some res90 := by kernel_rfl
theorem n90 : (Try.f90.name == "runtime.NumGoroutine") = false := by kernel_rfl

noncomputable def q57 : IC := ((IC.reg (RL.cons (some (tp 2)) none (O.box 79 (X.t (tp 0))) (RL.cons (some (tp 4)) none (O.mv (X.c (V.b false))) RL.nil))).seq ((IC.draw [{ dst := some (tp 5), gd := none, pu := false, st := [], fr := false, an := [], us := [], ts := [(tp 2)], o := O.ld 16 true (X.t (tp 2)) }, { dst := some (tp 6), gd := none, pu := true, st := [], fr := false, an := [false], us := [], ts := [(tp 1)], o := O.mv (X.t (tp 1)) }, { dst := some (tp 7), gd := none, pu := false, st := [], fr := false, an := [true, true], us := [], ts := [(tp 5), (tp 6)], o := O.call 90 (XL.cons (X.t (tp 5)) (XL.cons (X.t (tp 6)) XL.nil)) }, { dst := some (tp 8), gd := none, pu := false, st := [], fr := false, an := [false, false, false], us := [], ts := [(tp 2)], o := O.ld 16 true (X.t (tp 2)) }, { dst := some (tp 9), gd := none, pu := true, st := [], fr := false, an := [true, true, true, true], us := [], ts := [(tp 7), (tp 8)], o := O.eqa true (Sh.ar 16 1 false Sh.int) (X.t (tp 7)) (X.t (tp 8)) }, { dst := some (tp 4), gd := none, pu := true, st := [], fr := false, an := [true, true, true, true, true], us := [], ts := [(tp 9)], o := O.mv (X.t (tp 9)) }]).seq IC.ret))
noncomputable def res57 : List RV := [RV.tmp (tp 4)]
noncomputable def c57 : Code := match Try.f57.body with | some c => c | none => .skip
theorem b57 : Try.f57.body = some c57 := by kernel_rfl
theorem k57 : compC Try.prog drops Try.f57.ntmps c57 = some q57 := by kernel_rfl
theorem r57 : compRVs Try.prog Try.f57.results.toList = some res57 := by kernel_rfl
theorem n57 : (Try.f57.name == "runtime.NumGoroutine") = false := by kernel_rfl

noncomputable def q85 : IC := ((IC.reg (RL.cons (some (tp 2)) none (O.box 81 (X.t (tp 0))) (RL.cons (some (tp 4)) none (O.mv (X.c (I 0))) RL.nil))).seq (((IC.reg (RL.cons (some (tp 5)) none (O.fad 1 (X.t (tp 2))) (RL.cons (some (tp 6)) none (O.ld 1 false (X.t (tp 5))) RL.nil))).seq (IC.cond (X.t (tp 6)) ((IC.reg (RL.cons (some (tp 7)) none (O.mv (X.t (tp 1))) (RL.cons (some (tp 8)) none (O.bin .add (X.t (tp 7)) (X.c (I 1))) (RL.cons (some (tp 4)) none (O.mv (X.t (tp 8))) RL.nil)))).seq IC.ret) IC.skip)).seq ((IC.reg (RL.cons (some (tp 9)) none (O.mv (X.t (tp 1))) (RL.cons (some (tp 4)) none (O.mv (X.t (tp 9))) RL.nil))).seq IC.ret)))
noncomputable def res85 : List RV := [RV.tmp (tp 4)]
noncomputable def c85 : Code := match Try.f85.body with | some c => c | none => .skip
theorem b85 : Try.f85.body = some c85 := by kernel_rfl
theorem k85 : compC Try.prog drops Try.f85.ntmps c85 = some q85 := by kernel_rfl
theorem r85 : compRVs Try.prog Try.f85.results.toList = some res85 := by kernel_rfl
theorem n85 : (Try.f85.name == "runtime.NumGoroutine") = false := by kernel_rfl

noncomputable def q60 : IC := ((IC.reg (RL.cons (some (tp 2)) none (O.box 81 (X.t (tp 0))) (RL.cons (some (tp 4)) none (O.mv (X.c (V.b false))) RL.nil))).seq ((IC.reg (RL.cons (some (tp 5)) none (O.mv (X.t (tp 1))) (RL.cons (some (tp 6)) none (O.bin .geq (X.t (tp 5)) (X.c (I 0))) (RL.cons (some (tp 7)) none (O.mv (X.t (tp 6))) (RL.cons (some (tp 8)) (some ((tp 7), true)) (O.mv (X.t (tp 1))) (RL.cons (some (tp 9)) (some ((tp 7), true)) (O.ld 18 true (X.t (tp 2))) (RL.cons (some (tp 10)) (some ((tp 7), true)) (O.call 58 (XL.cons (X.t (tp 9)) XL.nil)) (RL.cons (some (tp 11)) (some ((tp 7), true)) (O.bin .lss (X.t (tp 8)) (X.t (tp 10))) (RL.cons (some (tp 12)) none (O.pick (X.t (tp 7)) (X.t (tp 11)) (X.c (V.b false))) (RL.cons (some (tp 4)) none (O.mv (X.t (tp 12))) RL.nil)))))))))).seq IC.ret))
noncomputable def res60 : List RV := [RV.tmp (tp 4)]
noncomputable def c60 : Code := match Try.f60.body with | some c => c | none => .skip
theorem b60 : Try.f60.body = some c60 := by kernel_rfl
theorem k60 : compC Try.prog drops Try.f60.ntmps c60 = some q60 := by kernel_rfl
theorem r60 : compRVs Try.prog Try.f60.results.toList = some res60 := by kernel_rfl
theorem n60 : (Try.f60.name == "runtime.NumGoroutine") = false := by kernel_rfl

noncomputable def q56 : IC := ((IC.reg (RL.cons (some (tp 2)) none (O.box 81 (X.t (tp 0))) (RL.cons (some (tp 4)) none (O.mv (X.c (V.b false))) RL.nil))).seq ((IC.reg (RL.cons (some (tp 5)) none (O.mv (X.t (tp 1))) (RL.cons (some (tp 6)) none (O.bin .geq (X.t (tp 5)) (X.c (I 1))) (RL.cons (some (tp 7)) none (O.mv (X.t (tp 6))) (RL.cons (some (tp 8)) (some ((tp 7), true)) (O.mv (X.t (tp 1))) (RL.cons (some (tp 9)) (some ((tp 7), true)) (O.fad 0 (X.t (tp 2))) (RL.cons (some (tp 10)) (some ((tp 7), true)) (O.ld 1 false (X.t (tp 9))) (RL.cons (some (tp 11)) (some ((tp 7), true)) (O.bin .leq (X.t (tp 8)) (X.t (tp 10))) (RL.cons (some (tp 12)) none (O.pick (X.t (tp 7)) (X.t (tp 11)) (X.c (V.b false))) (RL.cons (some (tp 4)) none (O.mv (X.t (tp 12))) RL.nil)))))))))).seq IC.ret))
noncomputable def res56 : List RV := [RV.tmp (tp 4)]
noncomputable def c56 : Code := match Try.f56.body with | some c => c | none => .skip
theorem b56 : Try.f56.body = some c56 := by kernel_rfl
theorem k56 : compC Try.prog drops Try.f56.ntmps c56 = some q56 := by kernel_rfl
theorem r56 : compRVs Try.prog Try.f56.results.toList = some res56 := by kernel_rfl
theorem n56 : (Try.f56.name == "runtime.NumGoroutine") = false := by kernel_rfl

noncomputable def q58 : IC := ((IC.reg (RL.cons (some (tp 1)) none (O.box 81 (X.t (tp 0))) (RL.cons (some (tp 2)) none (O.mv (X.c (I 0))) RL.nil))).seq ((IC.reg (RL.cons (some (tp 3)) none (O.fad 0 (X.t (tp 1))) (RL.cons (some (tp 4)) none (O.ld 1 false (X.t (tp 3))) (RL.cons (some (tp 5)) none (O.bin .mul (X.c (I 2)) (X.t (tp 4))) (RL.cons (some (tp 2)) none (O.mv (X.t (tp 5))) RL.nil))))).seq IC.ret))
noncomputable def res58 : List RV := [RV.tmp (tp 2)]
noncomputable def c58 : Code := match Try.f58.body with | some c => c | none => .skip
theorem b58 : Try.f58.body = some c58 := by kernel_rfl
theorem k58 : compC Try.prog drops Try.f58.ntmps c58 = some q58 := by kernel_rfl
theorem r58 : compRVs Try.prog Try.f58.results.toList = some res58 := by kernel_rfl
theorem n58 : (Try.f58.name == "runtime.NumGoroutine") = false := by kernel_rfl

noncomputable def q89_l0 : IC := (((IC.reg (RL.cons (some (tp 4)) none (O.mv (X.t (tp 3))) (RL.cons (some (tp 5)) none (O.ld 18 true (X.t (tp 1))) (RL.cons (some (tp 6)) none (O.call 58 (XL.cons (X.t (tp 5)) XL.nil)) (RL.cons (some (tp 7)) none (O.bin .lss (X.t (tp 4)) (X.t (tp 6))) (RL.cons (some (tp 8)) none (O.mv (X.t (tp 7))) (RL.cons (some (tp 9)) (some ((tp 8), true)) (O.mv (X.t (tp 3))) (RL.cons (some (tp 10)) (some ((tp 8), true)) (O.fad 2 (X.t (tp 1))) (RL.cons (some (tp 11)) (some ((tp 8), true)) (O.ixa 16 1 (X.t (tp 10)) (X.t (tp 9))) (RL.cons (some (tp 12)) (some ((tp 8), true)) (O.ld 1 false (X.t (tp 11))) (RL.cons (some (tp 13)) (some ((tp 8), true)) (O.bin .neq (X.t (tp 12)) (X.c (I 0))) (RL.cons (some (tp 14)) none (O.pick (X.t (tp 8)) (X.t (tp 13)) (X.c (V.b false))) RL.nil)))))))))))).seq (IC.cond (X.t (tp 14)) IC.skip (IC.exit 0))).seq (IC.block 1 (IC.reg (RL.cons (some (tp 15)) none (O.mv (X.t (tp 3))) (RL.cons (some (tp 16)) none (O.bin .add (X.t (tp 15)) (X.c (I 1))) (RL.cons (some (tp 3)) none (O.mv (X.t (tp 16))) RL.nil))))))
noncomputable def q89 : IC := ((IC.reg (RL.cons (some (tp 1)) none (O.box 81 (X.t (tp 0))) (RL.cons (some (tp 2)) none (O.mv (X.c (I 0))) RL.nil))).seq ((IC.reg (RL.cons (some (tp 3)) none (O.mv (X.c (I 0))) RL.nil)).seq ((IC.block 0 (IC.loop q89_l0)).seq ((IC.reg (RL.cons (some (tp 17)) none (O.mv (X.t (tp 3))) (RL.cons (some (tp 2)) none (O.mv (X.t (tp 17))) RL.nil))).seq IC.ret))))
noncomputable def res89 : List RV := [RV.tmp (tp 2)]
noncomputable def c89 : Code := match Try.f89.body with | some c => c | none => .skip
theorem b89 : Try.f89.body = some c89 := by kernel_rfl
theorem k89 : compC Try.prog drops Try.f89.ntmps c89 = some q89 := by kernel_rfl
theorem r89 : compRVs Try.prog Try.f89.results.toList = some res89 := by kernel_rfl
theorem n89 : (Try.f89.name == "runtime.NumGoroutine") = false := by kernel_rfl

noncomputable def q59 : IC := ((IC.reg (RL.cons (some (tp 3)) none (O.box 81 (X.t (tp 0))) (RL.cons (some (tp 6)) none (O.alloc 81 zld 18) (RL.cons (some (tp 7)) none (O.mv (X.c (I 0))) RL.nil)))).seq (((IC.reg (RL.cons (some (tp 9)) none (O.fad 2 (X.t (tp 3))) (RL.cons (some (tp 10)) none (O.ld 16 true (X.t (tp 9))) (RL.cons (some (tp 11)) none (O.mv (X.t (tp 1))) (RL.cons (some (tp 12)) none (O.call 57 (XL.cons (X.t (tp 10)) (XL.cons (X.t (tp 11)) XL.nil))) RL.nil))))).seq (IC.cond (X.t (tp 12)) ((IC.reg (RL.cons (some (tp 13)) none (O.build zld PL.nil) (RL.cons none none (O.st 18 (X.t (tp 6)) (X.t (tp 13))) (RL.cons (some (tp 7)) none (O.mv (X.c (I 6))) RL.nil)))).seq IC.ret) IC.skip)).seq ((IC.reg (RL.cons (some (tp 14)) none (O.mv (X.t (tp 2))) (RL.cons (some (tp 15)) none (O.ld 18 true (X.t (tp 3))) (RL.cons (some (tp 16)) none (O.mv (X.t (tp 1))) (RL.cons (some (tp 17)) none (O.call 85 (XL.cons (X.t (tp 15)) (XL.cons (X.t (tp 16)) XL.nil))) (RL.cons (some (tp 18)) none (O.bin .add (X.t (tp 14)) (X.t (tp 17))) (RL.cons (some (tp 8)) none (O.mv (X.t (tp 18))) RL.nil))))))).seq (((IC.reg (RL.cons (some (tp 19)) none (O.ld 18 true (X.t (tp 3))) (RL.cons (some (tp 20)) none (O.mv (X.t (tp 8))) (RL.cons (some (tp 21)) none (O.call 60 (XL.cons (X.t (tp 19)) (XL.cons (X.t (tp 20)) XL.nil))) (RL.cons (some (tp 22)) none (O.not (X.t (tp 21))) RL.nil))))).seq (IC.cond (X.t (tp 22)) ((IC.reg (RL.cons (some (tp 23)) none (O.build zld PL.nil) (RL.cons none none (O.st 18 (X.t (tp 6)) (X.t (tp 23))) (RL.cons (some (tp 7)) none (O.mv (X.c (I 15))) RL.nil)))).seq IC.ret) IC.skip)).seq (((IC.reg (RL.cons (some (tp 24)) none (O.mv (X.t (tp 2))) (RL.cons (some (tp 25)) none (O.fad 2 (X.t (tp 3))) (RL.cons (some (tp 26)) none (O.ixa 16 1 (X.t (tp 25)) (X.t (tp 24))) (RL.cons (some (tp 27)) none (O.ld 1 false (X.t (tp 26))) (RL.cons (some (tp 28)) none (O.bin .neq (X.t (tp 27)) (X.c (I 0))) (RL.cons (some (tp 29)) none (O.mv (X.t (tp 28))) (RL.cons (some (tp 30)) (some ((tp 29), false)) (O.mv (X.t (tp 8))) (RL.cons (some (tp 31)) (some ((tp 29), false)) (O.fad 2 (X.t (tp 3))) (RL.cons (some (tp 32)) (some ((tp 29), false)) (O.ixa 16 1 (X.t (tp 31)) (X.t (tp 30))) (RL.cons (some (tp 33)) (some ((tp 29), false)) (O.ld 1 false (X.t (tp 32))) (RL.cons (some (tp 34)) (some ((tp 29), false)) (O.bin .neq (X.t (tp 33)) (X.c (I 0))) (RL.cons (some (tp 35)) none (O.pick (X.t (tp 29)) (X.c (V.b true)) (X.t (tp 34))) RL.nil))))))))))))).seq (IC.cond (X.t (tp 35)) ((IC.reg (RL.cons (some (tp 36)) none (O.build zld PL.nil) (RL.cons none none (O.st 18 (X.t (tp 6)) (X.t (tp 36))) (RL.cons (some (tp 7)) none (O.mv (X.c (I 16))) RL.nil)))).seq IC.ret) IC.skip)).seq ((IC.reg (RL.cons (some (tp 37)) none (O.mv (X.t (tp 2))) (RL.cons (some (tp 38)) none (O.mv (X.t (tp 8))) (RL.cons (some (tp 39)) none (O.mv (X.t (tp 1))) (RL.cons (some (tp 40)) none (O.mv (X.t (tp 1))) (RL.cons (some (tp 41)) none (O.fad 2 (X.t (tp 3))) (RL.cons (some (tp 42)) none (O.ixa 16 1 (X.t (tp 41)) (X.t (tp 37))) (RL.cons none none (O.st 1 (X.t (tp 42)) (X.t (tp 39))) (RL.cons (some (tp 43)) none (O.fad 2 (X.t (tp 3))) (RL.cons (some (tp 44)) none (O.ixa 16 1 (X.t (tp 43)) (X.t (tp 38))) (RL.cons none none (O.st 1 (X.t (tp 44)) (X.t (tp 40))) RL.nil))))))))))).seq ((IC.reg (RL.cons (some (tp 45)) none (O.ld 18 true (X.t (tp 3))) (RL.cons none none (O.st 18 (X.t (tp 6)) (X.t (tp 45))) (RL.cons (some (tp 7)) none (O.mv (X.c (I 0))) RL.nil)))).seq IC.ret)))))))
noncomputable def res59 : List RV := [RV.cell (tp 6) 18 true, RV.tmp (tp 7)]
noncomputable def c59 : Code := match Try.f59.body with | some c => c | none => .skip
theorem b59 : Try.f59.body = some c59 := by kernel_rfl
theorem k59 : compC Try.prog drops Try.f59.ntmps c59 = some q59 := by kernel_rfl
theorem r59 : compRVs Try.prog Try.f59.results.toList = some res59 := by kernel_rfl
theorem n59 : (Try.f59.name == "runtime.NumGoroutine") = false := by kernel_rfl

end Go.Proofs.Ytcgkcdgpmopdnaa.Ev
