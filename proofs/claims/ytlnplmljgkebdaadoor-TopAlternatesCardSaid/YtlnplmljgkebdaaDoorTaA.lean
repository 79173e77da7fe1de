/- TopAlternates: both positions, and what is left behind them. -/
import Derived.Test.YtlnplmljgkebdaaDoorTaIr
namespace Go.Proofs.YtlnplmljgkebdaaDoor.Ev
set_option linter.unusedVariables false
set_option linter.unusedSimpArgs false
set_option maxRecDepth 100000
open Go Go.Proofs Go.RowKit
noncomputable def q3_l0 : IC := ((IC.reg (RL.cons (some (tp 75)) none (O.bin .lss (X.t (tp 74)) (X.t (tp 73))) RL.nil)).seq ((IC.cond (X.t (tp 75)) IC.skip (IC.exit 0)).seq ((IC.block 1 ((IC.reg (RL.cons (some (tp 76)) none (O.ixs 1 (X.t (tp 72)) (X.t (tp 74))) (RL.cons (some (tp 77)) none (O.ld 1 false (X.t (tp 76))) (RL.cons (some (tp 14)) none (O.mv (X.t (tp 77))) RL.nil)))).seq ((IC.reg (RL.cons (some (tp 78)) none (O.mv (X.t (tp 14))) (RL.cons (some (tp 79)) none (O.bin .eql (X.t (tp 78)) (X.c (I 0))) RL.nil))).seq (IC.cond (X.t (tp 79)) ((IC.reg (RL.cons (some (tp 80)) none (O.mv (X.t (tp 11))) (RL.cons (some (tp 81)) none (O.sbi .add (X.t (tp 80)) (X.c (V.s [99]))) (RL.cons (some (tp 11)) none (O.mv (X.t (tp 81))) RL.nil)))).seq (IC.reg (RL.cons (some (tp 82)) none (O.mv (X.t (tp 12))) (RL.cons (some (tp 83)) none (O.bin .add (X.t (tp 82)) (X.c (I 1))) (RL.cons (some (tp 12)) none (O.mv (X.t (tp 83))) RL.nil))))) (IC.reg (RL.cons (some (tp 84)) none (O.mv (X.t (tp 11))) (RL.cons (some (tp 85)) none (O.sbi .add (X.t (tp 84)) (X.c (V.s [110]))) (RL.cons (some (tp 11)) none (O.mv (X.t (tp 85))) RL.nil)))))))).seq (IC.reg (RL.cons (some (tp 86)) none (O.bin .add (X.t (tp 74)) (X.c (I 1))) (RL.cons (some (tp 74)) none (O.mv (X.t (tp 86))) RL.nil))))))
noncomputable def q3_l1 : IC := ((IC.reg (RL.cons (some (tp 134)) none (O.bin .lss (X.t (tp 133)) (X.t (tp 132))) RL.nil)).seq ((IC.cond (X.t (tp 134)) IC.skip (IC.exit 2)).seq ((IC.block 3 ((IC.reg (RL.cons (some (tp 135)) none (O.mv (X.t (tp 133))) (RL.cons (some (tp 136)) none (O.ixs 1 (X.t (tp 131)) (X.t (tp 133))) (RL.cons (some (tp 137)) none (O.ld 1 false (X.t (tp 136))) (RL.cons (some (tp 18)) none (O.mv (X.t (tp 135))) (RL.cons (some (tp 19)) none (O.mv (X.t (tp 137))) RL.nil)))))).seq ((IC.reg (RL.cons (some (tp 138)) none (O.mv (X.t (tp 19))) (RL.cons (some (tp 139)) none (O.bin .neq (X.t (tp 138)) (X.c (I 1))) (RL.cons (some (tp 140)) none (O.mv (X.t (tp 139))) (RL.cons (some (tp 141)) (some ((tp 140), true)) (O.mv (X.t (tp 19))) (RL.cons (some (tp 142)) (some ((tp 140), true)) (O.mv (X.t (tp 16))) (RL.cons (some (tp 143)) (some ((tp 140), true)) (O.bin .mul (X.c (I 2)) (X.t (tp 142))) (RL.cons (some (tp 144)) (some ((tp 140), true)) (O.bin .sub (X.c (I 2)) (X.t (tp 143))) (RL.cons (some (tp 145)) (some ((tp 140), true)) (O.bin .neq (X.t (tp 141)) (X.t (tp 144))) (RL.cons (some (tp 146)) none (O.pick (X.t (tp 140)) (X.t (tp 145)) (X.c (V.b false))) (RL.cons (some (tp 147)) none (O.mv (X.t (tp 146))) (RL.cons (some (tp 148)) (some ((tp 147), false)) (O.mv (X.t (tp 19))) (RL.cons (some (tp 149)) (some ((tp 147), false)) (O.bin .eql (X.t (tp 148)) (X.c (I 1))) (RL.cons (some (tp 150)) (some ((tp 147), false)) (O.mv (X.t (tp 18))) (RL.cons (some (tp 151)) (some ((tp 147), false)) (O.bin .rem (X.t (tp 150)) (X.c (I 2))) (RL.cons (some (tp 152)) (some ((tp 147), false)) (O.bin .eql (X.t (tp 151)) (X.c (I 1))) (RL.cons (some (tp 153)) (some ((tp 147), false)) (O.eqb true (X.t (tp 149)) (X.t (tp 152))) (RL.cons (some (tp 154)) none (O.pick (X.t (tp 147)) (X.c (V.b true)) (X.t (tp 153))) RL.nil)))))))))))))))))).seq (IC.cond (X.t (tp 154)) ((IC.reg (RL.cons (some (tp 4)) none (O.mv (X.c (V.b false))) RL.nil)).seq IC.ret) IC.skip)))).seq (IC.reg (RL.cons (some (tp 155)) none (O.bin .add (X.t (tp 133)) (X.c (I 1))) (RL.cons (some (tp 133)) none (O.mv (X.t (tp 155))) RL.nil))))))
noncomputable def q3_l2 : IC := ((IC.reg (RL.cons (some (tp 181)) none (O.bin .lss (X.t (tp 180)) (X.t (tp 179))) RL.nil)).seq ((IC.cond (X.t (tp 181)) IC.skip (IC.exit 4)).seq ((IC.block 5 ((IC.reg (RL.cons (some (tp 182)) none (O.mv (X.t (tp 180))) (RL.cons (some (tp 183)) none (O.ixs 2 (X.t (tp 178)) (X.t (tp 180))) (RL.cons (some (tp 184)) none (O.ld 2 true (X.t (tp 183))) (RL.cons (some (tp 23)) none (O.alloc 34 (L.cons (I 0) (L.cons (I 0) L.nil)) 2) (RL.cons (some (tp 22)) none (O.mv (X.t (tp 182))) (RL.cons none none (O.st 2 (X.t (tp 23)) (X.t (tp 184))) RL.nil))))))).seq ((IC.reg (RL.cons (some (tp 185)) none (O.ld 2 true (X.t (tp 23))) (RL.cons (some (tp 186)) none (O.mv (X.t (tp 22))) (RL.cons (some (tp 187)) none (O.bin .mul (X.c (I 2)) (X.t (tp 186))) (RL.cons (some (tp 188)) none (O.mv (X.t (tp 22))) (RL.cons (some (tp 189)) none (O.bin .mul (X.c (I 2)) (X.t (tp 188))) (RL.cons (some (tp 190)) none (O.bin .add (X.t (tp 189)) (X.c (I 1))) (RL.cons (some (tp 191)) none (O.build (L.cons (I 0) (L.cons (I 0) L.nil)) (PL.cons 0 1 (X.t (tp 187)) (PL.cons 1 1 (X.t (tp 190)) PL.nil))) (RL.cons (some (tp 192)) none (O.eqa true (Sh.ar 2 1 false Sh.int) (X.t (tp 185)) (X.t (tp 191))) RL.nil))))))))).seq (IC.cond (X.t (tp 192)) ((IC.reg (RL.cons (some (tp 4)) none (O.mv (X.c (V.b false))) RL.nil)).seq IC.ret) IC.skip)))).seq (IC.reg (RL.cons (some (tp 193)) none (O.bin .add (X.t (tp 180)) (X.c (I 1))) (RL.cons (some (tp 180)) none (O.mv (X.t (tp 193))) RL.nil))))))
noncomputable def q3_t : IC := (((IC.reg (RL.cons (some (tp 38)) none (O.mv (X.t (tp 6))) (RL.cons (some (tp 39)) none (O.bin .neq (X.t (tp 38)) (X.c (I 0))) (RL.cons (some (tp 40)) none (O.mv (X.t (tp 39))) (RL.cons (some (tp 41)) (some ((tp 40), false)) (O.mv (X.t (tp 8))) (RL.cons (some (tp 42)) (some ((tp 40), false)) (O.bin .neq (X.t (tp 41)) (X.c (I 0))) (RL.cons (some (tp 43)) none (O.pick (X.t (tp 40)) (X.c (V.b true)) (X.t (tp 42))) RL.nil))))))).seq (IC.cond (X.t (tp 43)) ((IC.reg (RL.cons (some (tp 4)) none (O.mv (X.c (V.b false))) RL.nil)).seq IC.ret) IC.skip)).seq ((IC.reg (RL.cons (some (tp 45)) none (O.mv (X.t (tp 5))) (RL.cons (some (tp 46)) none (O.mv (X.t (tp 7))) (RL.cons (some (tp 47)) none (O.call 5 (XL.cons (X.t (tp 45)) (XL.cons (X.t (tp 46)) XL.nil))) (RL.cons (some (tp 44)) none (O.mv (X.t (tp 47))) (RL.cons (some (tp 48)) none (O.ext 0 (X.t (tp 44))) (RL.cons (some (tp 49)) none (O.ext 1 (X.t (tp 44))) (RL.cons (some (tp 9)) none (O.mv (X.t (tp 48))) (RL.cons (some (tp 6)) none (O.mv (X.t (tp 49))) RL.nil))))))))).seq ((IC.reg (RL.cons (some (tp 51)) none (O.mv (X.t (tp 5))) (RL.cons (some (tp 52)) none (O.mv (X.t (tp 7))) (RL.cons (some (tp 53)) none (O.call 6 (XL.cons (X.t (tp 51)) (XL.cons (X.t (tp 52)) XL.nil))) (RL.cons (some (tp 50)) none (O.mv (X.t (tp 53))) (RL.cons (some (tp 54)) none (O.ext 0 (X.t (tp 50))) (RL.cons (some (tp 55)) none (O.ext 1 (X.t (tp 50))) (RL.cons (some (tp 10)) none (O.mv (X.t (tp 54))) (RL.cons (some (tp 8)) none (O.mv (X.t (tp 55))) RL.nil))))))))).seq (((IC.reg (RL.cons (some (tp 56)) none (O.mv (X.t (tp 6))) (RL.cons (some (tp 57)) none (O.bin .neq (X.t (tp 56)) (X.c (I 0))) (RL.cons (some (tp 58)) none (O.mv (X.t (tp 57))) (RL.cons (some (tp 59)) (some ((tp 58), false)) (O.mv (X.t (tp 8))) (RL.cons (some (tp 60)) (some ((tp 58), false)) (O.bin .neq (X.t (tp 59)) (X.c (I 0))) (RL.cons (some (tp 61)) none (O.pick (X.t (tp 58)) (X.c (V.b true)) (X.t (tp 60))) (RL.cons (some (tp 62)) none (O.mv (X.t (tp 61))) (RL.cons (some (tp 63)) (some ((tp 62), false)) (O.mv (X.t (tp 9))) (RL.cons (some (tp 64)) (some ((tp 62), false)) (O.len (X.t (tp 63))) (RL.cons (some (tp 65)) (some ((tp 62), false)) (O.bin .gtr (X.t (tp 64)) (X.c (I 15))) (RL.cons (some (tp 66)) none (O.pick (X.t (tp 62)) (X.c (V.b true)) (X.t (tp 65))) (RL.cons (some (tp 67)) none (O.mv (X.t (tp 66))) (RL.cons (some (tp 68)) (some ((tp 67), false)) (O.mv (X.t (tp 10))) (RL.cons (some (tp 69)) (some ((tp 67), false)) (O.len (X.t (tp 68))) (RL.cons (some (tp 70)) (some ((tp 67), false)) (O.bin .neq (X.t (tp 69)) (X.c (I 4))) (RL.cons (some (tp 71)) none (O.pick (X.t (tp 67)) (X.c (V.b true)) (X.t (tp 70))) RL.nil))))))))))))))))).seq (IC.cond (X.t (tp 71)) ((IC.reg (RL.cons (some (tp 4)) none (O.mv (X.c (V.b false))) RL.nil)).seq IC.ret) IC.skip)).seq ((IC.reg (RL.cons (some (tp 11)) none (O.mv (X.c (V.s []))) RL.nil)).seq ((IC.reg (RL.cons (some (tp 12)) none (O.mv (X.c (I 0))) RL.nil)).seq (((IC.reg (RL.cons (some (tp 72)) none (O.mv (X.t (tp 9))) (RL.cons (some (tp 73)) none (O.len (X.t (tp 72))) (RL.cons (some (tp 74)) none (O.mv (X.c (I 0))) RL.nil)))).seq (IC.block 0 (IC.loop q3_l0))).seq ((IC.reg (RL.cons (some (tp 88)) none (O.mv (X.t (tp 11))) (RL.cons (some (tp 89)) none (O.call 7 (XL.cons (X.t (tp 88)) XL.nil)) (RL.cons (some (tp 87)) none (O.mv (X.t (tp 89))) (RL.cons (some (tp 90)) none (O.ext 0 (X.t (tp 87))) (RL.cons (some (tp 91)) none (O.ext 1 (X.t (tp 87))) (RL.cons (some (tp 15)) none (O.mv (X.t (tp 90))) (RL.cons (some (tp 6)) none (O.mv (X.t (tp 91))) RL.nil)))))))).seq ((IC.reg (RL.cons (some (tp 16)) none (O.mv (X.c (I 0))) RL.nil)).seq (((IC.reg (RL.cons (some (tp 92)) none (O.mv (X.t (tp 9))) (RL.cons (some (tp 93)) none (O.len (X.t (tp 92))) (RL.cons (some (tp 94)) none (O.bin .gtr (X.t (tp 93)) (X.c (I 0))) (RL.cons (some (tp 95)) none (O.mv (X.t (tp 94))) (RL.cons (some (tp 96)) (some ((tp 95), true)) (O.mv (X.t (tp 9))) (RL.cons (some (tp 97)) (some ((tp 95), true)) (O.ixs 1 (X.t (tp 96)) (X.c (I 0))) (RL.cons (some (tp 98)) (some ((tp 95), true)) (O.ld 1 false (X.t (tp 97))) (RL.cons (some (tp 99)) (some ((tp 95), true)) (O.bin .neq (X.t (tp 98)) (X.c (I 0))) (RL.cons (some (tp 100)) none (O.pick (X.t (tp 95)) (X.t (tp 99)) (X.c (V.b false))) RL.nil)))))))))).seq (IC.cond (X.t (tp 100)) (IC.reg (RL.cons (some (tp 16)) none (O.mv (X.c (I 1))) RL.nil)) IC.skip)).seq ((IC.reg (RL.cons (some (tp 102)) none (O.mv (X.t (tp 11))) (RL.cons (some (tp 103)) none (O.call 8 (XL.cons (X.t (tp 102)) (XL.cons (X.c (I 1)) XL.nil))) (RL.cons (some (tp 101)) none (O.mv (X.t (tp 103))) (RL.cons (some (tp 104)) none (O.ext 0 (X.t (tp 101))) (RL.cons (some (tp 105)) none (O.ext 1 (X.t (tp 101))) (RL.cons (some (tp 17)) none (O.mv (X.t (tp 104))) (RL.cons (some (tp 8)) none (O.mv (X.t (tp 105))) RL.nil)))))))).seq (((IC.reg (RL.cons (some (tp 106)) none (O.mv (X.t (tp 6))) (RL.cons (some (tp 107)) none (O.bin .neq (X.t (tp 106)) (X.c (I 0))) (RL.cons (some (tp 108)) none (O.mv (X.t (tp 107))) (RL.cons (some (tp 109)) (some ((tp 108), false)) (O.mv (X.t (tp 8))) (RL.cons (some (tp 110)) (some ((tp 108), false)) (O.bin .neq (X.t (tp 109)) (X.c (I 0))) (RL.cons (some (tp 111)) none (O.pick (X.t (tp 108)) (X.c (V.b true)) (X.t (tp 110))) (RL.cons (some (tp 112)) none (O.mv (X.t (tp 111))) (RL.cons (some (tp 113)) (some ((tp 112), false)) (O.mv (X.t (tp 15))) (RL.cons (some (tp 114)) (some ((tp 112), false)) (O.mv (X.t (tp 16))) (RL.cons (some (tp 115)) (some ((tp 112), false)) (O.bin .neq (X.t (tp 113)) (X.t (tp 114))) (RL.cons (some (tp 116)) none (O.pick (X.t (tp 112)) (X.c (V.b true)) (X.t (tp 115))) (RL.cons (some (tp 117)) none (O.mv (X.t (tp 116))) (RL.cons (some (tp 118)) (some ((tp 117), false)) (O.mv (X.t (tp 10))) (RL.cons (some (tp 119)) (some ((tp 117), false)) (O.ixs 1 (X.t (tp 118)) (X.c (I 0))) (RL.cons (some (tp 120)) (some ((tp 117), false)) (O.ld 1 false (X.t (tp 119))) (RL.cons (some (tp 121)) (some ((tp 117), false)) (O.mv (X.t (tp 12))) (RL.cons (some (tp 122)) (some ((tp 117), false)) (O.bin .neq (X.t (tp 120)) (X.t (tp 121))) (RL.cons (some (tp 123)) none (O.pick (X.t (tp 117)) (X.c (V.b true)) (X.t (tp 122))) (RL.cons (some (tp 124)) none (O.mv (X.t (tp 123))) (RL.cons (some (tp 125)) (some ((tp 124), false)) (O.mv (X.t (tp 17))) (RL.cons (some (tp 126)) (some ((tp 124), false)) (O.len (X.t (tp 125))) (RL.cons (some (tp 127)) (some ((tp 124), false)) (O.mv (X.t (tp 9))) (RL.cons (some (tp 128)) (some ((tp 124), false)) (O.len (X.t (tp 127))) (RL.cons (some (tp 129)) (some ((tp 124), false)) (O.bin .neq (X.t (tp 126)) (X.t (tp 128))) (RL.cons (some (tp 130)) none (O.pick (X.t (tp 124)) (X.c (V.b true)) (X.t (tp 129))) RL.nil)))))))))))))))))))))))))).seq (IC.cond (X.t (tp 130)) ((IC.reg (RL.cons (some (tp 4)) none (O.mv (X.c (V.b false))) RL.nil)).seq IC.ret) IC.skip)).seq (((IC.reg (RL.cons (some (tp 131)) none (O.mv (X.t (tp 17))) (RL.cons (some (tp 132)) none (O.len (X.t (tp 131))) (RL.cons (some (tp 133)) none (O.mv (X.c (I 0))) RL.nil)))).seq (IC.block 2 (IC.loop q3_l1))).seq ((IC.reg (RL.cons (some (tp 157)) none (O.mv (X.t (tp 11))) (RL.cons (some (tp 158)) none (O.call 9 (XL.cons (X.t (tp 157)) XL.nil)) (RL.cons (some (tp 156)) none (O.mv (X.t (tp 158))) (RL.cons (some (tp 159)) none (O.ext 0 (X.t (tp 156))) (RL.cons (some (tp 160)) none (O.ext 1 (X.t (tp 156))) (RL.cons (some (tp 20)) none (O.mv (X.t (tp 159))) (RL.cons (some (tp 21)) none (O.mv (X.t (tp 160))) RL.nil)))))))).seq (((IC.reg (RL.cons (some (tp 161)) none (O.mv (X.t (tp 16))) (RL.cons (some (tp 162)) none (O.bin .eql (X.t (tp 161)) (X.c (I 1))) RL.nil))).seq (IC.cond (X.t (tp 162)) ((IC.reg (RL.cons (some (tp 163)) none (O.mv (X.t (tp 21))) (RL.cons (some (tp 164)) none (O.bin .eql (X.t (tp 163)) (X.c (I 14))) (RL.cons (some (tp 165)) none (O.mv (X.t (tp 164))) (RL.cons (some (tp 166)) (some ((tp 165), true)) (O.call 10 XL.nil) (RL.cons (some (tp 167)) none (O.pick (X.t (tp 165)) (X.t (tp 166)) (X.c (V.b false))) (RL.cons (some (tp 4)) none (O.mv (X.t (tp 167))) RL.nil))))))).seq IC.ret) IC.skip)).seq (((IC.reg (RL.cons (some (tp 168)) none (O.mv (X.t (tp 21))) (RL.cons (some (tp 169)) none (O.bin .neq (X.t (tp 168)) (X.c (I 0))) (RL.cons (some (tp 170)) none (O.mv (X.t (tp 169))) (RL.cons (some (tp 171)) (some ((tp 170), false)) (O.mv (X.t (tp 20))) (RL.cons (some (tp 172)) (some ((tp 170), false)) (O.len (X.t (tp 171))) (RL.cons (some (tp 173)) (some ((tp 170), false)) (O.mv (X.t (tp 9))) (RL.cons (some (tp 174)) (some ((tp 170), false)) (O.len (X.t (tp 173))) (RL.cons (some (tp 175)) (some ((tp 170), false)) (O.bin .quo (X.t (tp 174)) (X.c (I 2))) (RL.cons (some (tp 176)) (some ((tp 170), false)) (O.bin .neq (X.t (tp 172)) (X.t (tp 175))) (RL.cons (some (tp 177)) none (O.pick (X.t (tp 170)) (X.c (V.b true)) (X.t (tp 176))) RL.nil))))))))))).seq (IC.cond (X.t (tp 177)) ((IC.reg (RL.cons (some (tp 4)) none (O.mv (X.c (V.b false))) RL.nil)).seq IC.ret) IC.skip)).seq (((IC.reg (RL.cons (some (tp 178)) none (O.mv (X.t (tp 20))) (RL.cons (some (tp 179)) none (O.len (X.t (tp 178))) (RL.cons (some (tp 180)) none (O.mv (X.c (I 0))) RL.nil)))).seq (IC.block 4 (IC.loop q3_l2))).seq ((IC.reg (RL.cons (some (tp 194)) none (O.call 10 XL.nil) (RL.cons (some (tp 4)) none (O.mv (X.t (tp 194))) RL.nil))).seq IC.ret))))))))))))))))))
noncomputable def q3 : IC := ((IC.reg (RL.cons (some (tp 4)) none (O.mv (X.c (V.b false))) RL.nil)).seq ((IC.reg (RL.cons (some (tp 25)) none (O.mv (X.t (tp 0))) (RL.cons (some (tp 26)) none (O.conv .i64 (X.t (tp 25))) (RL.cons (some (tp 27)) none (O.bin .rem (X.t (tp 26)) (X.c (I 16))) (RL.cons (some (tp 28)) none (O.call 4 (XL.cons (X.c (I 4)) (XL.cons (X.t (tp 27)) XL.nil))) (RL.cons (some (tp 24)) none (O.mv (X.t (tp 28))) (RL.cons (some (tp 29)) none (O.ext 0 (X.t (tp 24))) (RL.cons (some (tp 30)) none (O.ext 1 (X.t (tp 24))) (RL.cons (some (tp 5)) none (O.mv (X.t (tp 29))) (RL.cons (some (tp 6)) none (O.mv (X.t (tp 30))) RL.nil)))))))))).seq ((IC.reg (RL.cons (some (tp 32)) none (O.mv (X.t (tp 1))) (RL.cons (some (tp 33)) none (O.conv .i64 (X.t (tp 32))) (RL.cons (some (tp 34)) none (O.bin .rem (X.t (tp 33)) (X.c (I 16))) (RL.cons (some (tp 35)) none (O.call 4 (XL.cons (X.c (I 4)) (XL.cons (X.t (tp 34)) XL.nil))) (RL.cons (some (tp 31)) none (O.mv (X.t (tp 35))) (RL.cons (some (tp 36)) none (O.ext 0 (X.t (tp 31))) (RL.cons (some (tp 37)) none (O.ext 1 (X.t (tp 31))) (RL.cons (some (tp 7)) none (O.mv (X.t (tp 36))) (RL.cons (some (tp 8)) none (O.mv (X.t (tp 37))) RL.nil)))))))))).seq q3_t)))
noncomputable def res3 : List RV := (compRVs Tryd.prog Tryd.f3.results.toList).getD []
noncomputable def c3c : Code := match Tryd.f3.body with | some c => c | none => .skip
theorem b3 : Tryd.f3.body = some c3c := by kernel_rfl
theorem k3 : compC Tryd.prog [3, 7, 10, 11, 12, 14, 15, 16, 17, 19, 20, 21, 23, 25, 26, 27, 28, 29, 30, 31, 32, 33, 36, 37, 38, 39, 40, 41, 43, 44, 45, 47] Tryd.f3.ntmps c3c = some q3 := by kernel_rfl
theorem r3 : compRVs Tryd.prog Tryd.f3.results.toList = some res3 := by kernel_rfl
noncomputable def tbH (el : TypeId) : Hp := tabH [(1, el, kL .u8 zs64)]
/-! The examples, once for all. -/
theorem tw_eval : (fun el => okR (evF (FT.of FS) 20 10 .nil (gK + 1) (tbH el) (gK + 1))) = fun _ => true := by kernel_rfl
noncomputable def tabOK (ob : Option Blk) : Bool := Option.rec false (fun b => and (Nat.ble 64 b.size) (eqL (b.getL 0 64) (kL .u8 zs64))) ob
noncomputable def s10 (args : L) (_ : Nat) (h : Hp) (n : Nat) : Res := match args with
  | .nil => Bool.rec .no (.ok (.b true) h n) (tabOK (h.get (tp 1)))
  | .cons _ _ => .no
theorem s10_mo : SMo s10 := fun args lim h n => by
  unfold s10
  cases args with
  | nil =>
    show (Bool.rec .no (.ok (.b true) h n) (tabOK (h.get (tp 1))) : Res).ge n
    cases tabOK (h.get (tp 1)) with
    | true => exact Nat.le_refl n
    | false => trivial
  | cons => trivial
theorem ok10 : SOK Tryd.prog 10 s10 := fun args lim h n v h' n' hr => by
  cases args with
  | cons => cases hr
  | nil =>
    have hr : (Bool.rec .no (.ok (.b true) h n) (tabOK (h.get (tp 1))) : Res) = .ok v h' n' := hr
    cases ht : tabOK (h.get (tp 1)) with
    | false => rw [ht] at hr; cases hr
    | true =>
      rw [ht] at hr
      cases hr
      cases hb : h.get (tp 1) with
      | none => rw [hb] at ht; cases ht
      | some b =>
        rw [hb] at ht
        have ht : and (Nat.ble 64 b.size) (eqL (b.getL 0 64) (kL .u8 zs64)) = true := ht
        rw [Bool.and_eq_true, Nat.ble_eq] at ht
        have hz := eqL_eq _ _ ht.2
        obtain ⟨h1, n1, he, hn1⟩ := okR_ok (congrFun tw_eval b.el)
        have hc := evF_sound follows listed 20 10 .nil (gK + 1) (tbH b.el) (gK + 1) _ _ _ he
        intro vs g w ha hgk m hd hf _
        have num1 : (tp 1).num = 2 := num_posF 63 2 (by omega) (by omega)
        have g1 : ren [] g (tp 1) = g (tp 1) := by unfold ren; rw [num1, if_pos (by omega)]
        have tg : ∀ p b0, (tbH b.el).get p = some b0 → p = tp 1 ∧ b0 = blkL b.el (kL .u8 zs64) := fun p b0 hp => by
          have hp : (Hp.lf.put (some ⟨b.el, (kL .u8 zs64).length, (kL .u8 zs64).length, kL .u8 zs64, .lf⟩) (tp 1)).get p = some b0 := hp
          rw [Hp.get_put] at hp
          split at hp
          · rename_i e; cases hp; exact ⟨e, rfl⟩
          · rw [Hp.get_lf] at hp; cases hp
        have hlen : (kL .u8 zs64).length = 64 := by rw [kL_length]; rfl
        have hm : Mem (ren [] g) (tbH b.el).get w := by
          refine ⟨fun p q bp bq r b1 t1 b2 t2 hp hq e1 e2 => ?_, fun p b0 hp => ?_⟩
          · rw [(tg p bp hp).1, (tg q bq hq).1]
          · obtain ⟨rfl, rfl⟩ := tg p b0 hp
            obtain ⟨r, base, tot, cur, c1, c2, c3, c4, c5, c6⟩ := m.blk (tp 1) b hb
            have hsz : (blkL b.el (kL .u8 zs64)).size = 64 := by rw [blkL_size, hlen]
            refine ⟨r, base, tot, cur, by rw [g1, c1], ?_, c3, by omega, by omega, fun k hk => ?_⟩
            · have := c2.cut (off := 0) (g' := ren [] g) (b0 := blkL b.el (kL .u8 zs64)) rfl (by omega) c4 rfl
              simpa using this
            · obtain ⟨u, d1, d2, d3⟩ := c6 k (by omega)
              refine ⟨u, d1, d2, ?_⟩
              have hcell : (blkL b.el (kL .u8 zs64)).cell k = b.cell k := by
                rw [blkL_cell _ _ _ (by rw [hlen]; omega), ← hz, getL_get _ _ _ _ (by omega), Nat.zero_add]
              rw [hcell]
              refine V.pur_rel ?_ d3
              rw [← hcell, blkL_cell _ _ _ (by rw [hlen]; omega)]
              have : ∀ (zs : List Int) (j : Nat), j < zs.length → ((kL .u8 zs).get j).pur = true := by
                intro zs
                induction zs with
                | nil => intro j hj; simp at hj
                | cons z l ih =>
                  intro j hj
                  cases j with
                  | zero => rfl
                  | succ j => exact ih j (by simpa using hj)
              exact this zs64 k (by rw [← kL_length .u8]; omega)
        obtain ⟨hx, hy⟩ := hc vs (ren [] g) w (L.pur_rel rfl ha) (ren_gok hgk) hm
          (fun p b0 hp => by rw [(tg p b0 hp).1, num1]; unfold gK; omega) ((ren_fresh [] g).to _) hn1
        refine ⟨hx, hy.mono ?_⟩
        rintro e w' ⟨u, g', rfl, hv, _, f⟩
        have keep : ∀ r, r < w.heap.size → w'.heap[r]? = w.heap[r]? := fun r hr => f.keep r hr fun p b0 base tot hp hl _ => by
          rw [(tg p b0 hp).1, num1] at hl; unfold gK at hl; omega
        refine ⟨u, g, rfl, V.pur_rel rfl hv, ⟨m.inj, fun p b hp => ?_⟩, ?_⟩
        · obtain ⟨r, base, tot, cur, c1, c2, c3, c4, c5, c6⟩ := m.blk p b hp
          exact ⟨r, base, tot, cur, c1, c2.keep (keep r (m.lt hp c1)), c3, c4, c5, c6⟩
        · exact { le := Nat.le_refl _, os := f.os, tape := f.tape, output := f.output, size := f.size, keep := fun r hr _ => keep r hr, sig := fun _ _ => rfl,
                  dom := fun p b e => ⟨fun _ => ⟨b, e⟩, hd p b e⟩, new := fun _ _ _ _ a b => by omega }
noncomputable def FA : FF := ov 10 s10 (evF (FT.of FS) 20)
theorem FA_ok : FOK Tryd.prog FA := ov_ok ok10 (evF_sound follows listed 20)
theorem FA_mono : FA.mono := ov_mono s10_mo (evF_mono (FT.of FS) 20)
/-! What is left behind both positions. -/
noncomputable def rV (r : Res) : V := Res.rec .bad (fun v _ _ => v) r
noncomputable def rH (r : Res) : Hp := Res.rec .lf (fun _ h _ => h) r
noncomputable def rN (r : Res) : Nat := Res.rec 0 (fun _ _ n => n) r
noncomputable def tA (v : V) : V := onT v (fun l => nthL 0 l) .bad
noncomputable def tB (v : V) : V := onT v (fun l => nthL 1 l) .bad
noncomputable def a4 (r : Nat) : L := .cons (I 4) (.cons (I (r : Int)) .nil)
noncomputable def pA (el r : Nat) : Res := FA 4 (a4 r) (gK + 1) (tbH el) (gK + 1)
noncomputable def pB (el r t : Nat) : Res := FA 4 (a4 t) (gK + 1) (rH (pA el r)) (rN (pA el r))
noncomputable def eK (el r t : Nat) : Tr := ((((Tr.lf.set (.b false) (tp 4)).set (tA (rV (pA el r))) (tp 5)).set (tB (rV (pA el r))) (tp 6)).set (tA (rV (pB el r t))) (tp 7)).set (tB (rV (pB el r t))) (tp 8)
noncomputable def finB (e : Tr) (h : Hp) (n : Nat) : Bool := and (evRVs e h res3).known (and (onB (evRes e h res3) (fun b => b) false) (Nat.blt n 9223372036854775808))
noncomputable def finR (r : Rs) : Bool := Rs.rec false (fun e h n => finB e h n) (fun _ _ _ _ => false) (fun e h n => finB e h n) r
theorem finB_ok {e : Tr} {h : Hp} {n : Nat} (hf : finB e h n = true) : n < big ∧ (evRVs e h res3).known = true ∧ evRes e h res3 = .b true := by
  unfold finB at hf
  simp only [Bool.and_eq_true, Nat.blt_eq] at hf
  refine ⟨hf.2.2, hf.1, ?_⟩
  have := hf.2.1
  cases hx : evRes e h res3 <;> rw [hx] at this <;> simp [onB] at this
  rw [this]
theorem got_fin {r : Rs} (h : finR r = true) : Got (Kend res3 fun v _ _ => v = .b true) r := by
  cases r with
  | no => cases h
  | ext => cases h
  | nor e h' n => have := finB_ok h; exact ⟨this.1, this.2⟩
  | ret e h' n => have := finB_ok h; exact ⟨this.1, this.2⟩
noncomputable def tlB (el r t : Nat) : Bool := finR (evC q3_t FA (gK + 1) (eK el r t) (rH (pB el r t)) (rN (pB el r t)))
theorem pA_ok : (fun el => (List.range 16).map (pA el)) = fun el => (List.range 16).map fun r => .ok (.tu (.cons (tA (rV (pA el r))) (.cons (tB (rV (pA el r))) .nil))) (rH (pA el r)) (rN (pA el r)) := by kernel_rfl
end Go.Proofs.YtlnplmljgkebdaaDoor.Ev
