/- The functions that this law reaches, for the evaluator. -/
import Derived.Test.YtlnplmljgkebdaaDoorEvJq
import Derived.Test.YtlnplmljgkebdaaDoorEvCt
import Derived.Test.YtlnplmljgkebdaaDoorEvSh
import Derived.Test.YtlnplmljgkebdaaDoorEvLw
import Derived.Test.YtlnplmljgkebdaaDoorProg
import Derived.KernelRfl
namespace Go.Proofs.YtlnplmljgkebdaaDoor.Ev
open Go Go.Proofs Go.RowKit
noncomputable def i3 : FnI := (compF Tryd.prog [3, 7, 10, 11, 12, 14, 15, 16, 17, 19, 20, 21, 23, 25, 26, 27, 28, 29, 30, 31, 32, 33, 36, 37, 38, 39, 40, 41, 43, 44, 45, 47] true true Tryd.f3).getD (.mk false false .skip [])
theorem c3 : compF Tryd.prog [3, 7, 10, 11, 12, 14, 15, 16, 17, 19, 20, 21, 23, 25, 26, 27, 28, 29, 30, 31, 32, 33, 36, 37, 38, 39, 40, 41, 43, 44, 45, 47] true true Tryd.f3 = some i3 := by kernel_rfl
noncomputable def i4 : FnI := (compF Tryd.prog [3, 7, 10, 11, 12, 14, 15, 16, 17, 19, 20, 21, 23, 25, 26, 27, 28, 29, 30, 31, 32, 33, 36, 37, 38, 39, 40, 41, 43, 44, 45, 47] true false Tryd.f4).getD (.mk false false .skip [])
theorem c4 : compF Tryd.prog [3, 7, 10, 11, 12, 14, 15, 16, 17, 19, 20, 21, 23, 25, 26, 27, 28, 29, 30, 31, 32, 33, 36, 37, 38, 39, 40, 41, 43, 44, 45, 47] true false Tryd.f4 = some i4 := by kernel_rfl
noncomputable def i5 : FnI := (compF Tryd.prog [3, 7, 10, 11, 12, 14, 15, 16, 17, 19, 20, 21, 23, 25, 26, 27, 28, 29, 30, 31, 32, 33, 36, 37, 38, 39, 40, 41, 43, 44, 45, 47] true false Tryd.f5).getD (.mk false false .skip [])
theorem c5 : compF Tryd.prog [3, 7, 10, 11, 12, 14, 15, 16, 17, 19, 20, 21, 23, 25, 26, 27, 28, 29, 30, 31, 32, 33, 36, 37, 38, 39, 40, 41, 43, 44, 45, 47] true false Tryd.f5 = some i5 := by kernel_rfl
noncomputable def i6 : FnI := (compF Tryd.prog [3, 7, 10, 11, 12, 14, 15, 16, 17, 19, 20, 21, 23, 25, 26, 27, 28, 29, 30, 31, 32, 33, 36, 37, 38, 39, 40, 41, 43, 44, 45, 47] true false Tryd.f6).getD (.mk false false .skip [])
theorem c6 : compF Tryd.prog [3, 7, 10, 11, 12, 14, 15, 16, 17, 19, 20, 21, 23, 25, 26, 27, 28, 29, 30, 31, 32, 33, 36, 37, 38, 39, 40, 41, 43, 44, 45, 47] true false Tryd.f6 = some i6 := by kernel_rfl
noncomputable def i7 : FnI := (compF Tryd.prog [3, 7, 10, 11, 12, 14, 15, 16, 17, 19, 20, 21, 23, 25, 26, 27, 28, 29, 30, 31, 32, 33, 36, 37, 38, 39, 40, 41, 43, 44, 45, 47] true true Tryd.f7).getD (.mk false false .skip [])
theorem c7 : compF Tryd.prog [3, 7, 10, 11, 12, 14, 15, 16, 17, 19, 20, 21, 23, 25, 26, 27, 28, 29, 30, 31, 32, 33, 36, 37, 38, 39, 40, 41, 43, 44, 45, 47] true true Tryd.f7 = some i7 := by kernel_rfl
noncomputable def i8 : FnI := (compF Tryd.prog [3, 7, 10, 11, 12, 14, 15, 16, 17, 19, 20, 21, 23, 25, 26, 27, 28, 29, 30, 31, 32, 33, 36, 37, 38, 39, 40, 41, 43, 44, 45, 47] true false Tryd.f8).getD (.mk false false .skip [])
theorem c8 : compF Tryd.prog [3, 7, 10, 11, 12, 14, 15, 16, 17, 19, 20, 21, 23, 25, 26, 27, 28, 29, 30, 31, 32, 33, 36, 37, 38, 39, 40, 41, 43, 44, 45, 47] true false Tryd.f8 = some i8 := by kernel_rfl
noncomputable def i9 : FnI := (compF Tryd.prog [3, 7, 10, 11, 12, 14, 15, 16, 17, 19, 20, 21, 23, 25, 26, 27, 28, 29, 30, 31, 32, 33, 36, 37, 38, 39, 40, 41, 43, 44, 45, 47] true false Tryd.f9).getD (.mk false false .skip [])
theorem c9 : compF Tryd.prog [3, 7, 10, 11, 12, 14, 15, 16, 17, 19, 20, 21, 23, 25, 26, 27, 28, 29, 30, 31, 32, 33, 36, 37, 38, 39, 40, 41, 43, 44, 45, 47] true false Tryd.f9 = some i9 := by kernel_rfl
noncomputable def i10 : FnI := (compF Tryd.prog [3, 7, 10, 11, 12, 14, 15, 16, 17, 19, 20, 21, 23, 25, 26, 27, 28, 29, 30, 31, 32, 33, 36, 37, 38, 39, 40, 41, 43, 44, 45, 47] true true Tryd.f10).getD (.mk false false .skip [])
theorem c10 : compF Tryd.prog [3, 7, 10, 11, 12, 14, 15, 16, 17, 19, 20, 21, 23, 25, 26, 27, 28, 29, 30, 31, 32, 33, 36, 37, 38, 39, 40, 41, 43, 44, 45, 47] true true Tryd.f10 = some i10 := by kernel_rfl
noncomputable def i11 : FnI := (compF Tryd.prog [3, 7, 10, 11, 12, 14, 15, 16, 17, 19, 20, 21, 23, 25, 26, 27, 28, 29, 30, 31, 32, 33, 36, 37, 38, 39, 40, 41, 43, 44, 45, 47] true true Tryd.f11).getD (.mk false false .skip [])
theorem c11 : compF Tryd.prog [3, 7, 10, 11, 12, 14, 15, 16, 17, 19, 20, 21, 23, 25, 26, 27, 28, 29, 30, 31, 32, 33, 36, 37, 38, 39, 40, 41, 43, 44, 45, 47] true true Tryd.f11 = some i11 := by kernel_rfl
noncomputable def i12 : FnI := (compF Tryd.prog [3, 7, 10, 11, 12, 14, 15, 16, 17, 19, 20, 21, 23, 25, 26, 27, 28, 29, 30, 31, 32, 33, 36, 37, 38, 39, 40, 41, 43, 44, 45, 47] true true Tryd.f12).getD (.mk false false .skip [])
theorem c12 : compF Tryd.prog [3, 7, 10, 11, 12, 14, 15, 16, 17, 19, 20, 21, 23, 25, 26, 27, 28, 29, 30, 31, 32, 33, 36, 37, 38, 39, 40, 41, 43, 44, 45, 47] true true Tryd.f12 = some i12 := by kernel_rfl
noncomputable def i13 : FnI := (compF Tryd.prog [3, 7, 10, 11, 12, 14, 15, 16, 17, 19, 20, 21, 23, 25, 26, 27, 28, 29, 30, 31, 32, 33, 36, 37, 38, 39, 40, 41, 43, 44, 45, 47] true false Tryd.f13).getD (.mk false false .skip [])
theorem c13 : compF Tryd.prog [3, 7, 10, 11, 12, 14, 15, 16, 17, 19, 20, 21, 23, 25, 26, 27, 28, 29, 30, 31, 32, 33, 36, 37, 38, 39, 40, 41, 43, 44, 45, 47] true false Tryd.f13 = some i13 := by kernel_rfl
noncomputable def i14 : FnI := (compF Tryd.prog [3, 7, 10, 11, 12, 14, 15, 16, 17, 19, 20, 21, 23, 25, 26, 27, 28, 29, 30, 31, 32, 33, 36, 37, 38, 39, 40, 41, 43, 44, 45, 47] true true Tryd.f14).getD (.mk false false .skip [])
theorem c14 : compF Tryd.prog [3, 7, 10, 11, 12, 14, 15, 16, 17, 19, 20, 21, 23, 25, 26, 27, 28, 29, 30, 31, 32, 33, 36, 37, 38, 39, 40, 41, 43, 44, 45, 47] true true Tryd.f14 = some i14 := by kernel_rfl
noncomputable def i15 : FnI := (compF Tryd.prog [3, 7, 10, 11, 12, 14, 15, 16, 17, 19, 20, 21, 23, 25, 26, 27, 28, 29, 30, 31, 32, 33, 36, 37, 38, 39, 40, 41, 43, 44, 45, 47] true true Tryd.f15).getD (.mk false false .skip [])
theorem c15 : compF Tryd.prog [3, 7, 10, 11, 12, 14, 15, 16, 17, 19, 20, 21, 23, 25, 26, 27, 28, 29, 30, 31, 32, 33, 36, 37, 38, 39, 40, 41, 43, 44, 45, 47] true true Tryd.f15 = some i15 := by kernel_rfl
noncomputable def i16 : FnI := (compF Tryd.prog [3, 7, 10, 11, 12, 14, 15, 16, 17, 19, 20, 21, 23, 25, 26, 27, 28, 29, 30, 31, 32, 33, 36, 37, 38, 39, 40, 41, 43, 44, 45, 47] true true Tryd.f16).getD (.mk false false .skip [])
theorem c16 : compF Tryd.prog [3, 7, 10, 11, 12, 14, 15, 16, 17, 19, 20, 21, 23, 25, 26, 27, 28, 29, 30, 31, 32, 33, 36, 37, 38, 39, 40, 41, 43, 44, 45, 47] true true Tryd.f16 = some i16 := by kernel_rfl
noncomputable def i17 : FnI := (compF Tryd.prog [3, 7, 10, 11, 12, 14, 15, 16, 17, 19, 20, 21, 23, 25, 26, 27, 28, 29, 30, 31, 32, 33, 36, 37, 38, 39, 40, 41, 43, 44, 45, 47] true true Tryd.f17).getD (.mk false false .skip [])
theorem c17 : compF Tryd.prog [3, 7, 10, 11, 12, 14, 15, 16, 17, 19, 20, 21, 23, 25, 26, 27, 28, 29, 30, 31, 32, 33, 36, 37, 38, 39, 40, 41, 43, 44, 45, 47] true true Tryd.f17 = some i17 := by kernel_rfl
noncomputable def i18 : FnI := (compF Tryd.prog [3, 7, 10, 11, 12, 14, 15, 16, 17, 19, 20, 21, 23, 25, 26, 27, 28, 29, 30, 31, 32, 33, 36, 37, 38, 39, 40, 41, 43, 44, 45, 47] true false Tryd.f18).getD (.mk false false .skip [])
theorem c18 : compF Tryd.prog [3, 7, 10, 11, 12, 14, 15, 16, 17, 19, 20, 21, 23, 25, 26, 27, 28, 29, 30, 31, 32, 33, 36, 37, 38, 39, 40, 41, 43, 44, 45, 47] true false Tryd.f18 = some i18 := by kernel_rfl
noncomputable def i19 : FnI := (compF Tryd.prog [3, 7, 10, 11, 12, 14, 15, 16, 17, 19, 20, 21, 23, 25, 26, 27, 28, 29, 30, 31, 32, 33, 36, 37, 38, 39, 40, 41, 43, 44, 45, 47] true true Tryd.f19).getD (.mk false false .skip [])
theorem c19 : compF Tryd.prog [3, 7, 10, 11, 12, 14, 15, 16, 17, 19, 20, 21, 23, 25, 26, 27, 28, 29, 30, 31, 32, 33, 36, 37, 38, 39, 40, 41, 43, 44, 45, 47] true true Tryd.f19 = some i19 := by kernel_rfl
noncomputable def i20 : FnI := (compF Tryd.prog [3, 7, 10, 11, 12, 14, 15, 16, 17, 19, 20, 21, 23, 25, 26, 27, 28, 29, 30, 31, 32, 33, 36, 37, 38, 39, 40, 41, 43, 44, 45, 47] true true Tryd.f20).getD (.mk false false .skip [])
theorem c20 : compF Tryd.prog [3, 7, 10, 11, 12, 14, 15, 16, 17, 19, 20, 21, 23, 25, 26, 27, 28, 29, 30, 31, 32, 33, 36, 37, 38, 39, 40, 41, 43, 44, 45, 47] true true Tryd.f20 = some i20 := by kernel_rfl
noncomputable def i21 : FnI := (compF Tryd.prog [3, 7, 10, 11, 12, 14, 15, 16, 17, 19, 20, 21, 23, 25, 26, 27, 28, 29, 30, 31, 32, 33, 36, 37, 38, 39, 40, 41, 43, 44, 45, 47] true true Tryd.f21).getD (.mk false false .skip [])
theorem c21 : compF Tryd.prog [3, 7, 10, 11, 12, 14, 15, 16, 17, 19, 20, 21, 23, 25, 26, 27, 28, 29, 30, 31, 32, 33, 36, 37, 38, 39, 40, 41, 43, 44, 45, 47] true true Tryd.f21 = some i21 := by kernel_rfl
noncomputable def i22 : FnI := (compF Tryd.prog [3, 7, 10, 11, 12, 14, 15, 16, 17, 19, 20, 21, 23, 25, 26, 27, 28, 29, 30, 31, 32, 33, 36, 37, 38, 39, 40, 41, 43, 44, 45, 47] true false Tryd.f22).getD (.mk false false .skip [])
theorem c22 : compF Tryd.prog [3, 7, 10, 11, 12, 14, 15, 16, 17, 19, 20, 21, 23, 25, 26, 27, 28, 29, 30, 31, 32, 33, 36, 37, 38, 39, 40, 41, 43, 44, 45, 47] true false Tryd.f22 = some i22 := by kernel_rfl
noncomputable def i23 : FnI := (compF Tryd.prog [3, 7, 10, 11, 12, 14, 15, 16, 17, 19, 20, 21, 23, 25, 26, 27, 28, 29, 30, 31, 32, 33, 36, 37, 38, 39, 40, 41, 43, 44, 45, 47] true true Tryd.f23).getD (.mk false false .skip [])
theorem c23 : compF Tryd.prog [3, 7, 10, 11, 12, 14, 15, 16, 17, 19, 20, 21, 23, 25, 26, 27, 28, 29, 30, 31, 32, 33, 36, 37, 38, 39, 40, 41, 43, 44, 45, 47] true true Tryd.f23 = some i23 := by kernel_rfl
noncomputable def i24 : FnI := (compF Tryd.prog [3, 7, 10, 11, 12, 14, 15, 16, 17, 19, 20, 21, 23, 25, 26, 27, 28, 29, 30, 31, 32, 33, 36, 37, 38, 39, 40, 41, 43, 44, 45, 47] true false Tryd.f24).getD (.mk false false .skip [])
theorem c24 : compF Tryd.prog [3, 7, 10, 11, 12, 14, 15, 16, 17, 19, 20, 21, 23, 25, 26, 27, 28, 29, 30, 31, 32, 33, 36, 37, 38, 39, 40, 41, 43, 44, 45, 47] true false Tryd.f24 = some i24 := by kernel_rfl
noncomputable def i25 : FnI := (compF Tryd.prog [3, 7, 10, 11, 12, 14, 15, 16, 17, 19, 20, 21, 23, 25, 26, 27, 28, 29, 30, 31, 32, 33, 36, 37, 38, 39, 40, 41, 43, 44, 45, 47] true true Tryd.f25).getD (.mk false false .skip [])
theorem c25 : compF Tryd.prog [3, 7, 10, 11, 12, 14, 15, 16, 17, 19, 20, 21, 23, 25, 26, 27, 28, 29, 30, 31, 32, 33, 36, 37, 38, 39, 40, 41, 43, 44, 45, 47] true true Tryd.f25 = some i25 := by kernel_rfl
noncomputable def i26 : FnI := (compF Tryd.prog [3, 7, 10, 11, 12, 14, 15, 16, 17, 19, 20, 21, 23, 25, 26, 27, 28, 29, 30, 31, 32, 33, 36, 37, 38, 39, 40, 41, 43, 44, 45, 47] true true Tryd.f26).getD (.mk false false .skip [])
theorem c26 : compF Tryd.prog [3, 7, 10, 11, 12, 14, 15, 16, 17, 19, 20, 21, 23, 25, 26, 27, 28, 29, 30, 31, 32, 33, 36, 37, 38, 39, 40, 41, 43, 44, 45, 47] true true Tryd.f26 = some i26 := by kernel_rfl
noncomputable def i27 : FnI := (compF Tryd.prog [3, 7, 10, 11, 12, 14, 15, 16, 17, 19, 20, 21, 23, 25, 26, 27, 28, 29, 30, 31, 32, 33, 36, 37, 38, 39, 40, 41, 43, 44, 45, 47] true true Tryd.f27).getD (.mk false false .skip [])
theorem c27 : compF Tryd.prog [3, 7, 10, 11, 12, 14, 15, 16, 17, 19, 20, 21, 23, 25, 26, 27, 28, 29, 30, 31, 32, 33, 36, 37, 38, 39, 40, 41, 43, 44, 45, 47] true true Tryd.f27 = some i27 := by kernel_rfl
noncomputable def i28 : FnI := (compF Tryd.prog [3, 7, 10, 11, 12, 14, 15, 16, 17, 19, 20, 21, 23, 25, 26, 27, 28, 29, 30, 31, 32, 33, 36, 37, 38, 39, 40, 41, 43, 44, 45, 47] true true Tryd.f28).getD (.mk false false .skip [])
theorem c28 : compF Tryd.prog [3, 7, 10, 11, 12, 14, 15, 16, 17, 19, 20, 21, 23, 25, 26, 27, 28, 29, 30, 31, 32, 33, 36, 37, 38, 39, 40, 41, 43, 44, 45, 47] true true Tryd.f28 = some i28 := by kernel_rfl
noncomputable def i29 : FnI := (compF Tryd.prog [3, 7, 10, 11, 12, 14, 15, 16, 17, 19, 20, 21, 23, 25, 26, 27, 28, 29, 30, 31, 32, 33, 36, 37, 38, 39, 40, 41, 43, 44, 45, 47] true true Tryd.f29).getD (.mk false false .skip [])
theorem c29 : compF Tryd.prog [3, 7, 10, 11, 12, 14, 15, 16, 17, 19, 20, 21, 23, 25, 26, 27, 28, 29, 30, 31, 32, 33, 36, 37, 38, 39, 40, 41, 43, 44, 45, 47] true true Tryd.f29 = some i29 := by kernel_rfl
noncomputable def i30 : FnI := (compF Tryd.prog [3, 7, 10, 11, 12, 14, 15, 16, 17, 19, 20, 21, 23, 25, 26, 27, 28, 29, 30, 31, 32, 33, 36, 37, 38, 39, 40, 41, 43, 44, 45, 47] true true Tryd.f30).getD (.mk false false .skip [])
theorem c30 : compF Tryd.prog [3, 7, 10, 11, 12, 14, 15, 16, 17, 19, 20, 21, 23, 25, 26, 27, 28, 29, 30, 31, 32, 33, 36, 37, 38, 39, 40, 41, 43, 44, 45, 47] true true Tryd.f30 = some i30 := by kernel_rfl
noncomputable def i31 : FnI := (compF Tryd.prog [3, 7, 10, 11, 12, 14, 15, 16, 17, 19, 20, 21, 23, 25, 26, 27, 28, 29, 30, 31, 32, 33, 36, 37, 38, 39, 40, 41, 43, 44, 45, 47] true true Tryd.f31).getD (.mk false false .skip [])
theorem c31 : compF Tryd.prog [3, 7, 10, 11, 12, 14, 15, 16, 17, 19, 20, 21, 23, 25, 26, 27, 28, 29, 30, 31, 32, 33, 36, 37, 38, 39, 40, 41, 43, 44, 45, 47] true true Tryd.f31 = some i31 := by kernel_rfl
noncomputable def i32 : FnI := (compF Tryd.prog [3, 7, 10, 11, 12, 14, 15, 16, 17, 19, 20, 21, 23, 25, 26, 27, 28, 29, 30, 31, 32, 33, 36, 37, 38, 39, 40, 41, 43, 44, 45, 47] true true Tryd.f32).getD (.mk false false .skip [])
theorem c32 : compF Tryd.prog [3, 7, 10, 11, 12, 14, 15, 16, 17, 19, 20, 21, 23, 25, 26, 27, 28, 29, 30, 31, 32, 33, 36, 37, 38, 39, 40, 41, 43, 44, 45, 47] true true Tryd.f32 = some i32 := by kernel_rfl
noncomputable def i33 : FnI := (compF Tryd.prog [3, 7, 10, 11, 12, 14, 15, 16, 17, 19, 20, 21, 23, 25, 26, 27, 28, 29, 30, 31, 32, 33, 36, 37, 38, 39, 40, 41, 43, 44, 45, 47] true true Tryd.f33).getD (.mk false false .skip [])
theorem c33 : compF Tryd.prog [3, 7, 10, 11, 12, 14, 15, 16, 17, 19, 20, 21, 23, 25, 26, 27, 28, 29, 30, 31, 32, 33, 36, 37, 38, 39, 40, 41, 43, 44, 45, 47] true true Tryd.f33 = some i33 := by kernel_rfl
noncomputable def i34 : FnI := (compF Tryd.prog [3, 7, 10, 11, 12, 14, 15, 16, 17, 19, 20, 21, 23, 25, 26, 27, 28, 29, 30, 31, 32, 33, 36, 37, 38, 39, 40, 41, 43, 44, 45, 47] true false Tryd.f34).getD (.mk false false .skip [])
theorem c34 : compF Tryd.prog [3, 7, 10, 11, 12, 14, 15, 16, 17, 19, 20, 21, 23, 25, 26, 27, 28, 29, 30, 31, 32, 33, 36, 37, 38, 39, 40, 41, 43, 44, 45, 47] true false Tryd.f34 = some i34 := by kernel_rfl
noncomputable def i35 : FnI := (compF Tryd.prog [3, 7, 10, 11, 12, 14, 15, 16, 17, 19, 20, 21, 23, 25, 26, 27, 28, 29, 30, 31, 32, 33, 36, 37, 38, 39, 40, 41, 43, 44, 45, 47] true false Tryd.f35).getD (.mk false false .skip [])
theorem c35 : compF Tryd.prog [3, 7, 10, 11, 12, 14, 15, 16, 17, 19, 20, 21, 23, 25, 26, 27, 28, 29, 30, 31, 32, 33, 36, 37, 38, 39, 40, 41, 43, 44, 45, 47] true false Tryd.f35 = some i35 := by kernel_rfl
noncomputable def i36 : FnI := (compF Tryd.prog [3, 7, 10, 11, 12, 14, 15, 16, 17, 19, 20, 21, 23, 25, 26, 27, 28, 29, 30, 31, 32, 33, 36, 37, 38, 39, 40, 41, 43, 44, 45, 47] true true Tryd.f36).getD (.mk false false .skip [])
theorem c36 : compF Tryd.prog [3, 7, 10, 11, 12, 14, 15, 16, 17, 19, 20, 21, 23, 25, 26, 27, 28, 29, 30, 31, 32, 33, 36, 37, 38, 39, 40, 41, 43, 44, 45, 47] true true Tryd.f36 = some i36 := by kernel_rfl
noncomputable def i37 : FnI := (compF Tryd.prog [3, 7, 10, 11, 12, 14, 15, 16, 17, 19, 20, 21, 23, 25, 26, 27, 28, 29, 30, 31, 32, 33, 36, 37, 38, 39, 40, 41, 43, 44, 45, 47] true true Tryd.f37).getD (.mk false false .skip [])
theorem c37 : compF Tryd.prog [3, 7, 10, 11, 12, 14, 15, 16, 17, 19, 20, 21, 23, 25, 26, 27, 28, 29, 30, 31, 32, 33, 36, 37, 38, 39, 40, 41, 43, 44, 45, 47] true true Tryd.f37 = some i37 := by kernel_rfl
noncomputable def i38 : FnI := (compF Tryd.prog [3, 7, 10, 11, 12, 14, 15, 16, 17, 19, 20, 21, 23, 25, 26, 27, 28, 29, 30, 31, 32, 33, 36, 37, 38, 39, 40, 41, 43, 44, 45, 47] true true Tryd.f38).getD (.mk false false .skip [])
theorem c38 : compF Tryd.prog [3, 7, 10, 11, 12, 14, 15, 16, 17, 19, 20, 21, 23, 25, 26, 27, 28, 29, 30, 31, 32, 33, 36, 37, 38, 39, 40, 41, 43, 44, 45, 47] true true Tryd.f38 = some i38 := by kernel_rfl
noncomputable def i39 : FnI := (compF Tryd.prog [3, 7, 10, 11, 12, 14, 15, 16, 17, 19, 20, 21, 23, 25, 26, 27, 28, 29, 30, 31, 32, 33, 36, 37, 38, 39, 40, 41, 43, 44, 45, 47] true true Tryd.f39).getD (.mk false false .skip [])
theorem c39 : compF Tryd.prog [3, 7, 10, 11, 12, 14, 15, 16, 17, 19, 20, 21, 23, 25, 26, 27, 28, 29, 30, 31, 32, 33, 36, 37, 38, 39, 40, 41, 43, 44, 45, 47] true true Tryd.f39 = some i39 := by kernel_rfl
noncomputable def i40 : FnI := (compF Tryd.prog [3, 7, 10, 11, 12, 14, 15, 16, 17, 19, 20, 21, 23, 25, 26, 27, 28, 29, 30, 31, 32, 33, 36, 37, 38, 39, 40, 41, 43, 44, 45, 47] true true Tryd.f40).getD (.mk false false .skip [])
theorem c40 : compF Tryd.prog [3, 7, 10, 11, 12, 14, 15, 16, 17, 19, 20, 21, 23, 25, 26, 27, 28, 29, 30, 31, 32, 33, 36, 37, 38, 39, 40, 41, 43, 44, 45, 47] true true Tryd.f40 = some i40 := by kernel_rfl
noncomputable def i41 : FnI := (compF Tryd.prog [3, 7, 10, 11, 12, 14, 15, 16, 17, 19, 20, 21, 23, 25, 26, 27, 28, 29, 30, 31, 32, 33, 36, 37, 38, 39, 40, 41, 43, 44, 45, 47] true true Tryd.f41).getD (.mk false false .skip [])
theorem c41 : compF Tryd.prog [3, 7, 10, 11, 12, 14, 15, 16, 17, 19, 20, 21, 23, 25, 26, 27, 28, 29, 30, 31, 32, 33, 36, 37, 38, 39, 40, 41, 43, 44, 45, 47] true true Tryd.f41 = some i41 := by kernel_rfl
noncomputable def i42 : FnI := (compF Tryd.prog [3, 7, 10, 11, 12, 14, 15, 16, 17, 19, 20, 21, 23, 25, 26, 27, 28, 29, 30, 31, 32, 33, 36, 37, 38, 39, 40, 41, 43, 44, 45, 47] true false Tryd.f42).getD (.mk false false .skip [])
theorem c42 : compF Tryd.prog [3, 7, 10, 11, 12, 14, 15, 16, 17, 19, 20, 21, 23, 25, 26, 27, 28, 29, 30, 31, 32, 33, 36, 37, 38, 39, 40, 41, 43, 44, 45, 47] true false Tryd.f42 = some i42 := by kernel_rfl
noncomputable def i43 : FnI := (compF Tryd.prog [3, 7, 10, 11, 12, 14, 15, 16, 17, 19, 20, 21, 23, 25, 26, 27, 28, 29, 30, 31, 32, 33, 36, 37, 38, 39, 40, 41, 43, 44, 45, 47] true true Tryd.f43).getD (.mk false false .skip [])
theorem c43 : compF Tryd.prog [3, 7, 10, 11, 12, 14, 15, 16, 17, 19, 20, 21, 23, 25, 26, 27, 28, 29, 30, 31, 32, 33, 36, 37, 38, 39, 40, 41, 43, 44, 45, 47] true true Tryd.f43 = some i43 := by kernel_rfl
noncomputable def i44 : FnI := (compF Tryd.prog [3, 7, 10, 11, 12, 14, 15, 16, 17, 19, 20, 21, 23, 25, 26, 27, 28, 29, 30, 31, 32, 33, 36, 37, 38, 39, 40, 41, 43, 44, 45, 47] true true Tryd.f44).getD (.mk false false .skip [])
theorem c44 : compF Tryd.prog [3, 7, 10, 11, 12, 14, 15, 16, 17, 19, 20, 21, 23, 25, 26, 27, 28, 29, 30, 31, 32, 33, 36, 37, 38, 39, 40, 41, 43, 44, 45, 47] true true Tryd.f44 = some i44 := by kernel_rfl
noncomputable def i45 : FnI := (compF Tryd.prog [3, 7, 10, 11, 12, 14, 15, 16, 17, 19, 20, 21, 23, 25, 26, 27, 28, 29, 30, 31, 32, 33, 36, 37, 38, 39, 40, 41, 43, 44, 45, 47] true true Tryd.f45).getD (.mk false false .skip [])
theorem c45 : compF Tryd.prog [3, 7, 10, 11, 12, 14, 15, 16, 17, 19, 20, 21, 23, 25, 26, 27, 28, 29, 30, 31, 32, 33, 36, 37, 38, 39, 40, 41, 43, 44, 45, 47] true true Tryd.f45 = some i45 := by kernel_rfl
noncomputable def i46 : FnI := (compF Tryd.prog [3, 7, 10, 11, 12, 14, 15, 16, 17, 19, 20, 21, 23, 25, 26, 27, 28, 29, 30, 31, 32, 33, 36, 37, 38, 39, 40, 41, 43, 44, 45, 47] true false Tryd.f46).getD (.mk false false .skip [])
theorem c46 : compF Tryd.prog [3, 7, 10, 11, 12, 14, 15, 16, 17, 19, 20, 21, 23, 25, 26, 27, 28, 29, 30, 31, 32, 33, 36, 37, 38, 39, 40, 41, 43, 44, 45, 47] true false Tryd.f46 = some i46 := by kernel_rfl
noncomputable def i47 : FnI := (compF Tryd.prog [3, 7, 10, 11, 12, 14, 15, 16, 17, 19, 20, 21, 23, 25, 26, 27, 28, 29, 30, 31, 32, 33, 36, 37, 38, 39, 40, 41, 43, 44, 45, 47] true true Tryd.f47).getD (.mk false false .skip [])
theorem c47 : compF Tryd.prog [3, 7, 10, 11, 12, 14, 15, 16, 17, 19, 20, 21, 23, 25, 26, 27, 28, 29, 30, 31, 32, 33, 36, 37, 38, 39, 40, 41, 43, 44, 45, 47] true true Tryd.f47 = some i47 := by kernel_rfl
noncomputable def i48 : FnI := (compF Tryd.prog [3, 7, 10, 11, 12, 14, 15, 16, 17, 19, 20, 21, 23, 25, 26, 27, 28, 29, 30, 31, 32, 33, 36, 37, 38, 39, 40, 41, 43, 44, 45, 47] true false Tryd.f48).getD (.mk false false .skip [])
theorem c48 : compF Tryd.prog [3, 7, 10, 11, 12, 14, 15, 16, 17, 19, 20, 21, 23, 25, 26, 27, 28, 29, 30, 31, 32, 33, 36, 37, 38, 39, 40, 41, 43, 44, 45, 47] true false Tryd.f48 = some i48 := by kernel_rfl
noncomputable def fs48 : List (Nat × FnI) := (48, i48) :: []
theorem l48 : Listed Tryd.prog fs48 := listed_cons Tryd.func48 c48 listed_nil (by decide)
noncomputable def fs47 : List (Nat × FnI) := (47, i47) :: fs48
theorem l47 : Listed Tryd.prog fs47 := listed_cons Tryd.func47 c47 l48 (by decide)
noncomputable def fs46 : List (Nat × FnI) := (46, i46) :: fs47
theorem l46 : Listed Tryd.prog fs46 := listed_cons Tryd.func46 c46 l47 (by decide)
noncomputable def fs45 : List (Nat × FnI) := (45, i45) :: fs46
theorem l45 : Listed Tryd.prog fs45 := listed_cons Tryd.func45 c45 l46 (by decide)
noncomputable def fs44 : List (Nat × FnI) := (44, i44) :: fs45
theorem l44 : Listed Tryd.prog fs44 := listed_cons Tryd.func44 c44 l45 (by decide)
noncomputable def fs43 : List (Nat × FnI) := (43, i43) :: fs44
theorem l43 : Listed Tryd.prog fs43 := listed_cons Tryd.func43 c43 l44 (by decide)
noncomputable def fs42 : List (Nat × FnI) := (42, i42) :: fs43
theorem l42 : Listed Tryd.prog fs42 := listed_cons Tryd.func42 c42 l43 (by decide)
noncomputable def fs41 : List (Nat × FnI) := (41, i41) :: fs42
theorem l41 : Listed Tryd.prog fs41 := listed_cons Tryd.func41 c41 l42 (by decide)
noncomputable def fs40 : List (Nat × FnI) := (40, i40) :: fs41
theorem l40 : Listed Tryd.prog fs40 := listed_cons Tryd.func40 c40 l41 (by decide)
noncomputable def fs39 : List (Nat × FnI) := (39, i39) :: fs40
theorem l39 : Listed Tryd.prog fs39 := listed_cons Tryd.func39 c39 l40 (by decide)
noncomputable def fs38 : List (Nat × FnI) := (38, i38) :: fs39
theorem l38 : Listed Tryd.prog fs38 := listed_cons Tryd.func38 c38 l39 (by decide)
noncomputable def fs37 : List (Nat × FnI) := (37, i37) :: fs38
theorem l37 : Listed Tryd.prog fs37 := listed_cons Tryd.func37 c37 l38 (by decide)
noncomputable def fs36 : List (Nat × FnI) := (36, i36) :: fs37
theorem l36 : Listed Tryd.prog fs36 := listed_cons Tryd.func36 c36 l37 (by decide)
noncomputable def fs35 : List (Nat × FnI) := (35, i35) :: fs36
theorem l35 : Listed Tryd.prog fs35 := listed_cons Tryd.func35 c35 l36 (by decide)
noncomputable def fs34 : List (Nat × FnI) := (34, i34) :: fs35
theorem l34 : Listed Tryd.prog fs34 := listed_cons Tryd.func34 c34 l35 (by decide)
noncomputable def fs33 : List (Nat × FnI) := (33, i33) :: fs34
theorem l33 : Listed Tryd.prog fs33 := listed_cons Tryd.func33 c33 l34 (by decide)
noncomputable def fs32 : List (Nat × FnI) := (32, i32) :: fs33
theorem l32 : Listed Tryd.prog fs32 := listed_cons Tryd.func32 c32 l33 (by decide)
noncomputable def fs31 : List (Nat × FnI) := (31, i31) :: fs32
theorem l31 : Listed Tryd.prog fs31 := listed_cons Tryd.func31 c31 l32 (by decide)
noncomputable def fs30 : List (Nat × FnI) := (30, i30) :: fs31
theorem l30 : Listed Tryd.prog fs30 := listed_cons Tryd.func30 c30 l31 (by decide)
noncomputable def fs29 : List (Nat × FnI) := (29, i29) :: fs30
theorem l29 : Listed Tryd.prog fs29 := listed_cons Tryd.func29 c29 l30 (by decide)
noncomputable def fs28 : List (Nat × FnI) := (28, i28) :: fs29
theorem l28 : Listed Tryd.prog fs28 := listed_cons Tryd.func28 c28 l29 (by decide)
noncomputable def fs27 : List (Nat × FnI) := (27, i27) :: fs28
theorem l27 : Listed Tryd.prog fs27 := listed_cons Tryd.func27 c27 l28 (by decide)
noncomputable def fs26 : List (Nat × FnI) := (26, i26) :: fs27
theorem l26 : Listed Tryd.prog fs26 := listed_cons Tryd.func26 c26 l27 (by decide)
noncomputable def fs25 : List (Nat × FnI) := (25, i25) :: fs26
theorem l25 : Listed Tryd.prog fs25 := listed_cons Tryd.func25 c25 l26 (by decide)
noncomputable def fs24 : List (Nat × FnI) := (24, i24) :: fs25
theorem l24 : Listed Tryd.prog fs24 := listed_cons Tryd.func24 c24 l25 (by decide)
noncomputable def fs23 : List (Nat × FnI) := (23, i23) :: fs24
theorem l23 : Listed Tryd.prog fs23 := listed_cons Tryd.func23 c23 l24 (by decide)
noncomputable def fs22 : List (Nat × FnI) := (22, i22) :: fs23
theorem l22 : Listed Tryd.prog fs22 := listed_cons Tryd.func22 c22 l23 (by decide)
noncomputable def fs21 : List (Nat × FnI) := (21, i21) :: fs22
theorem l21 : Listed Tryd.prog fs21 := listed_cons Tryd.func21 c21 l22 (by decide)
noncomputable def fs20 : List (Nat × FnI) := (20, i20) :: fs21
theorem l20 : Listed Tryd.prog fs20 := listed_cons Tryd.func20 c20 l21 (by decide)
noncomputable def fs19 : List (Nat × FnI) := (19, i19) :: fs20
theorem l19 : Listed Tryd.prog fs19 := listed_cons Tryd.func19 c19 l20 (by decide)
noncomputable def fs18 : List (Nat × FnI) := (18, i18) :: fs19
theorem l18 : Listed Tryd.prog fs18 := listed_cons Tryd.func18 c18 l19 (by decide)
noncomputable def fs17 : List (Nat × FnI) := (17, i17) :: fs18
theorem l17 : Listed Tryd.prog fs17 := listed_cons Tryd.func17 c17 l18 (by decide)
noncomputable def fs16 : List (Nat × FnI) := (16, i16) :: fs17
theorem l16 : Listed Tryd.prog fs16 := listed_cons Tryd.func16 c16 l17 (by decide)
noncomputable def fs15 : List (Nat × FnI) := (15, i15) :: fs16
theorem l15 : Listed Tryd.prog fs15 := listed_cons Tryd.func15 c15 l16 (by decide)
noncomputable def fs14 : List (Nat × FnI) := (14, i14) :: fs15
theorem l14 : Listed Tryd.prog fs14 := listed_cons Tryd.func14 c14 l15 (by decide)
noncomputable def fs13 : List (Nat × FnI) := (13, i13) :: fs14
theorem l13 : Listed Tryd.prog fs13 := listed_cons Tryd.func13 c13 l14 (by decide)
noncomputable def fs12 : List (Nat × FnI) := (12, i12) :: fs13
theorem l12 : Listed Tryd.prog fs12 := listed_cons Tryd.func12 c12 l13 (by decide)
noncomputable def fs11 : List (Nat × FnI) := (11, i11) :: fs12
theorem l11 : Listed Tryd.prog fs11 := listed_cons Tryd.func11 c11 l12 (by decide)
noncomputable def fs10 : List (Nat × FnI) := (10, i10) :: fs11
theorem l10 : Listed Tryd.prog fs10 := listed_cons Tryd.func10 c10 l11 (by decide)
noncomputable def fs9 : List (Nat × FnI) := (9, i9) :: fs10
theorem l9 : Listed Tryd.prog fs9 := listed_cons Tryd.func9 c9 l10 (by decide)
noncomputable def fs8 : List (Nat × FnI) := (8, i8) :: fs9
theorem l8 : Listed Tryd.prog fs8 := listed_cons Tryd.func8 c8 l9 (by decide)
noncomputable def fs7 : List (Nat × FnI) := (7, i7) :: fs8
theorem l7 : Listed Tryd.prog fs7 := listed_cons Tryd.func7 c7 l8 (by decide)
noncomputable def fs6 : List (Nat × FnI) := (6, i6) :: fs7
theorem l6 : Listed Tryd.prog fs6 := listed_cons Tryd.func6 c6 l7 (by decide)
noncomputable def fs5 : List (Nat × FnI) := (5, i5) :: fs6
theorem l5 : Listed Tryd.prog fs5 := listed_cons Tryd.func5 c5 l6 (by decide)
noncomputable def fs4 : List (Nat × FnI) := (4, i4) :: fs5
theorem l4 : Listed Tryd.prog fs4 := listed_cons Tryd.func4 c4 l5 (by decide)
noncomputable def fs3 : List (Nat × FnI) := (3, i3) :: fs4
theorem l3 : Listed Tryd.prog fs3 := listed_cons Tryd.func3 c3 l4 (by decide)
noncomputable def FS : List (Nat × FnI) := fs3
theorem listed : Listed Tryd.prog FS := l3
theorem follows : Tryd.prog.follows .mixedOrders = true := by kernel_rfl
def zs64 : List Int := [0, 1, 56, 2, 57, 49, 28, 3, 61, 58, 42, 50, 38, 29, 17, 4, 62, 47, 59, 36, 45, 43, 51, 22, 53, 39, 33, 30, 24, 18, 12, 5, 63, 55, 48, 27, 60, 41, 37, 16, 46, 35, 44, 21, 52, 32, 23, 11, 54, 26, 40, 15, 34, 20, 31, 10, 25, 14, 19, 9, 13, 8, 7, 6]
end Go.Proofs.YtlnplmljgkebdaaDoor.Ev
