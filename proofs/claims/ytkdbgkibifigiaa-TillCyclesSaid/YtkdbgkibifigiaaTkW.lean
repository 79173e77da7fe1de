/- The examples of the chapter that every law tries. -/
import Derived.Test.YtkdbgkibifigiaaEvX
import Derived.Test.YtkdbgkibifigiaaProg
import Derived.KernelRfl
namespace Go.Proofs.Ytkdbgkibifigiaa.Tw
open Go Go.Proofs Go.RowKit Ev
def drops : List Nat := [12, 13, 16, 18, 20, 21, 23, 25, 27, 29, 35, 39, 47, 49, 50, 53, 56, 57, 60, 62, 63, 64, 66, 68, 70, 71, 72]
noncomputable def i12 : FnI := (compF Try.prog drops true true Try.f12).getD (.mk false false .skip [])
theorem c12 : compF Try.prog drops true true Try.f12 = some i12 := by kernel_rfl
noncomputable def i13 : FnI := (compF Try.prog drops true true Try.f13).getD (.mk false false .skip [])
theorem c13 : compF Try.prog drops true true Try.f13 = some i13 := by kernel_rfl
noncomputable def i14 : FnI := (compF Try.prog drops true false Try.f14).getD (.mk false false .skip [])
theorem c14 : compF Try.prog drops true false Try.f14 = some i14 := by kernel_rfl
noncomputable def i16 : FnI := (compF Try.prog drops true true Try.f16).getD (.mk false false .skip [])
theorem c16 : compF Try.prog drops true true Try.f16 = some i16 := by kernel_rfl
noncomputable def i18 : FnI := (compF Try.prog drops true true Try.f18).getD (.mk false false .skip [])
theorem c18 : compF Try.prog drops true true Try.f18 = some i18 := by kernel_rfl
noncomputable def i20 : FnI := (compF Try.prog drops true true Try.f20).getD (.mk false false .skip [])
theorem c20 : compF Try.prog drops true true Try.f20 = some i20 := by kernel_rfl
noncomputable def i21 : FnI := (compF Try.prog drops true true Try.f21).getD (.mk false false .skip [])
theorem c21 : compF Try.prog drops true true Try.f21 = some i21 := by kernel_rfl
noncomputable def i23 : FnI := (compF Try.prog drops true true Try.f23).getD (.mk false false .skip [])
theorem c23 : compF Try.prog drops true true Try.f23 = some i23 := by kernel_rfl
noncomputable def i25 : FnI := (compF Try.prog drops true true Try.f25).getD (.mk false false .skip [])
theorem c25 : compF Try.prog drops true true Try.f25 = some i25 := by kernel_rfl
noncomputable def i27 : FnI := (compF Try.prog drops true true Try.f27).getD (.mk false false .skip [])
theorem c27 : compF Try.prog drops true true Try.f27 = some i27 := by kernel_rfl
noncomputable def i29 : FnI := (compF Try.prog drops true true Try.f29).getD (.mk false false .skip [])
theorem c29 : compF Try.prog drops true true Try.f29 = some i29 := by kernel_rfl
noncomputable def i31 : FnI := (compF Try.prog drops true false Try.f31).getD (.mk false false .skip [])
theorem c31 : compF Try.prog drops true false Try.f31 = some i31 := by kernel_rfl
noncomputable def i33 : FnI := (compF Try.prog drops true false Try.f33).getD (.mk false false .skip [])
theorem c33 : compF Try.prog drops true false Try.f33 = some i33 := by kernel_rfl
noncomputable def i35 : FnI := (compF Try.prog drops true true Try.f35).getD (.mk false false .skip [])
theorem c35 : compF Try.prog drops true true Try.f35 = some i35 := by kernel_rfl
noncomputable def i37 : FnI := (compF Try.prog drops true false Try.f37).getD (.mk false false .skip [])
theorem c37 : compF Try.prog drops true false Try.f37 = some i37 := by kernel_rfl
noncomputable def i39 : FnI := (compF Try.prog drops true true Try.f39).getD (.mk false false .skip [])
theorem c39 : compF Try.prog drops true true Try.f39 = some i39 := by kernel_rfl
noncomputable def i46 : FnI := (compF Try.prog drops true false Try.f46).getD (.mk false false .skip [])
theorem c46 : compF Try.prog drops true false Try.f46 = some i46 := by kernel_rfl
noncomputable def i47 : FnI := (compF Try.prog drops true true Try.f47).getD (.mk false false .skip [])
theorem c47 : compF Try.prog drops true true Try.f47 = some i47 := by kernel_rfl
noncomputable def i48 : FnI := (compF Try.prog drops true false Try.f48).getD (.mk false false .skip [])
theorem c48 : compF Try.prog drops true false Try.f48 = some i48 := by kernel_rfl
noncomputable def i49 : FnI := (compF Try.prog drops true true Try.f49).getD (.mk false false .skip [])
theorem c49 : compF Try.prog drops true true Try.f49 = some i49 := by kernel_rfl
noncomputable def i50 : FnI := (compF Try.prog drops true true Try.f50).getD (.mk false false .skip [])
theorem c50 : compF Try.prog drops true true Try.f50 = some i50 := by kernel_rfl
noncomputable def i53 : FnI := (compF Try.prog drops true true Try.f53).getD (.mk false false .skip [])
theorem c53 : compF Try.prog drops true true Try.f53 = some i53 := by kernel_rfl
noncomputable def i56 : FnI := (compF Try.prog drops true true Try.f56).getD (.mk false false .skip [])
theorem c56 : compF Try.prog drops true true Try.f56 = some i56 := by kernel_rfl
noncomputable def i57 : FnI := (compF Try.prog drops true true Try.f57).getD (.mk false false .skip [])
theorem c57 : compF Try.prog drops true true Try.f57 = some i57 := by kernel_rfl
noncomputable def i60 : FnI := (compF Try.prog drops true true Try.f60).getD (.mk false false .skip [])
theorem c60 : compF Try.prog drops true true Try.f60 = some i60 := by kernel_rfl
noncomputable def i62 : FnI := (compF Try.prog drops true true Try.f62).getD (.mk false false .skip [])
theorem c62 : compF Try.prog drops true true Try.f62 = some i62 := by kernel_rfl
noncomputable def i63 : FnI := (compF Try.prog drops true true Try.f63).getD (.mk false false .skip [])
theorem c63 : compF Try.prog drops true true Try.f63 = some i63 := by kernel_rfl
noncomputable def i64 : FnI := (compF Try.prog drops true true Try.f64).getD (.mk false false .skip [])
theorem c64 : compF Try.prog drops true true Try.f64 = some i64 := by kernel_rfl
noncomputable def i65 : FnI := (compF Try.prog drops true false Try.f65).getD (.mk false false .skip [])
theorem c65 : compF Try.prog drops true false Try.f65 = some i65 := by kernel_rfl
noncomputable def i66 : FnI := (compF Try.prog drops true true Try.f66).getD (.mk false false .skip [])
theorem c66 : compF Try.prog drops true true Try.f66 = some i66 := by kernel_rfl
noncomputable def i67 : FnI := (compF Try.prog drops true false Try.f67).getD (.mk false false .skip [])
theorem c67 : compF Try.prog drops true false Try.f67 = some i67 := by kernel_rfl
noncomputable def i68 : FnI := (compF Try.prog drops true true Try.f68).getD (.mk false false .skip [])
theorem c68 : compF Try.prog drops true true Try.f68 = some i68 := by kernel_rfl
noncomputable def i69 : FnI := (compF Try.prog drops true false Try.f69).getD (.mk false false .skip [])
theorem c69 : compF Try.prog drops true false Try.f69 = some i69 := by kernel_rfl
noncomputable def i70 : FnI := (compF Try.prog drops true true Try.f70).getD (.mk false false .skip [])
theorem c70 : compF Try.prog drops true true Try.f70 = some i70 := by kernel_rfl
noncomputable def i71 : FnI := (compF Try.prog drops true true Try.f71).getD (.mk false false .skip [])
theorem c71 : compF Try.prog drops true true Try.f71 = some i71 := by kernel_rfl
noncomputable def i72 : FnI := (compF Try.prog drops true true Try.f72).getD (.mk false false .skip [])
theorem c72 : compF Try.prog drops true true Try.f72 = some i72 := by kernel_rfl
noncomputable def i73 : FnI := (compF Try.prog drops true false Try.f73).getD (.mk false false .skip [])
theorem c73 : compF Try.prog drops true false Try.f73 = some i73 := by kernel_rfl
noncomputable def fs73 : List (Nat × FnI) := (73, i73) :: []
theorem l73 : Listed Try.prog fs73 := listed_cons Try.func73 c73 listed_nil (by decide)
noncomputable def fs72 : List (Nat × FnI) := (72, i72) :: fs73
theorem l72 : Listed Try.prog fs72 := listed_cons Try.func72 c72 l73 (by decide)
noncomputable def fs71 : List (Nat × FnI) := (71, i71) :: fs72
theorem l71 : Listed Try.prog fs71 := listed_cons Try.func71 c71 l72 (by decide)
noncomputable def fs70 : List (Nat × FnI) := (70, i70) :: fs71
theorem l70 : Listed Try.prog fs70 := listed_cons Try.func70 c70 l71 (by decide)
noncomputable def fs69 : List (Nat × FnI) := (69, i69) :: fs70
theorem l69 : Listed Try.prog fs69 := listed_cons Try.func69 c69 l70 (by decide)
noncomputable def fs68 : List (Nat × FnI) := (68, i68) :: fs69
theorem l68 : Listed Try.prog fs68 := listed_cons Try.func68 c68 l69 (by decide)
noncomputable def fs67 : List (Nat × FnI) := (67, i67) :: fs68
theorem l67 : Listed Try.prog fs67 := listed_cons Try.func67 c67 l68 (by decide)
noncomputable def fs66 : List (Nat × FnI) := (66, i66) :: fs67
theorem l66 : Listed Try.prog fs66 := listed_cons Try.func66 c66 l67 (by decide)
noncomputable def fs65 : List (Nat × FnI) := (65, i65) :: fs66
theorem l65 : Listed Try.prog fs65 := listed_cons Try.func65 c65 l66 (by decide)
noncomputable def fs64 : List (Nat × FnI) := (64, i64) :: fs65
theorem l64 : Listed Try.prog fs64 := listed_cons Try.func64 c64 l65 (by decide)
noncomputable def fs63 : List (Nat × FnI) := (63, i63) :: fs64
theorem l63 : Listed Try.prog fs63 := listed_cons Try.func63 c63 l64 (by decide)
noncomputable def fs62 : List (Nat × FnI) := (62, i62) :: fs63
theorem l62 : Listed Try.prog fs62 := listed_cons Try.func62 c62 l63 (by decide)
noncomputable def fs60 : List (Nat × FnI) := (60, i60) :: fs62
theorem l60 : Listed Try.prog fs60 := listed_cons Try.func60 c60 l62 (by decide)
noncomputable def fs57 : List (Nat × FnI) := (57, i57) :: fs60
theorem l57 : Listed Try.prog fs57 := listed_cons Try.func57 c57 l60 (by decide)
noncomputable def fs56 : List (Nat × FnI) := (56, i56) :: fs57
theorem l56 : Listed Try.prog fs56 := listed_cons Try.func56 c56 l57 (by decide)
noncomputable def fs53 : List (Nat × FnI) := (53, i53) :: fs56
theorem l53 : Listed Try.prog fs53 := listed_cons Try.func53 c53 l56 (by decide)
noncomputable def fs50 : List (Nat × FnI) := (50, i50) :: fs53
theorem l50 : Listed Try.prog fs50 := listed_cons Try.func50 c50 l53 (by decide)
noncomputable def fs49 : List (Nat × FnI) := (49, i49) :: fs50
theorem l49 : Listed Try.prog fs49 := listed_cons Try.func49 c49 l50 (by decide)
noncomputable def fs48 : List (Nat × FnI) := (48, i48) :: fs49
theorem l48 : Listed Try.prog fs48 := listed_cons Try.func48 c48 l49 (by decide)
noncomputable def fs47 : List (Nat × FnI) := (47, i47) :: fs48
theorem l47 : Listed Try.prog fs47 := listed_cons Try.func47 c47 l48 (by decide)
noncomputable def fs46 : List (Nat × FnI) := (46, i46) :: fs47
theorem l46 : Listed Try.prog fs46 := listed_cons Try.func46 c46 l47 (by decide)
noncomputable def fs39 : List (Nat × FnI) := (39, i39) :: fs46
theorem l39 : Listed Try.prog fs39 := listed_cons Try.func39 c39 l46 (by decide)
noncomputable def fs37 : List (Nat × FnI) := (37, i37) :: fs39
theorem l37 : Listed Try.prog fs37 := listed_cons Try.func37 c37 l39 (by decide)
noncomputable def fs35 : List (Nat × FnI) := (35, i35) :: fs37
theorem l35 : Listed Try.prog fs35 := listed_cons Try.func35 c35 l37 (by decide)
noncomputable def fs33 : List (Nat × FnI) := (33, i33) :: fs35
theorem l33 : Listed Try.prog fs33 := listed_cons Try.func33 c33 l35 (by decide)
noncomputable def fs31 : List (Nat × FnI) := (31, i31) :: fs33
theorem l31 : Listed Try.prog fs31 := listed_cons Try.func31 c31 l33 (by decide)
noncomputable def fs29 : List (Nat × FnI) := (29, i29) :: fs31
theorem l29 : Listed Try.prog fs29 := listed_cons Try.func29 c29 l31 (by decide)
noncomputable def fs27 : List (Nat × FnI) := (27, i27) :: fs29
theorem l27 : Listed Try.prog fs27 := listed_cons Try.func27 c27 l29 (by decide)
noncomputable def fs25 : List (Nat × FnI) := (25, i25) :: fs27
theorem l25 : Listed Try.prog fs25 := listed_cons Try.func25 c25 l27 (by decide)
noncomputable def fs23 : List (Nat × FnI) := (23, i23) :: fs25
theorem l23 : Listed Try.prog fs23 := listed_cons Try.func23 c23 l25 (by decide)
noncomputable def fs21 : List (Nat × FnI) := (21, i21) :: fs23
theorem l21 : Listed Try.prog fs21 := listed_cons Try.func21 c21 l23 (by decide)
noncomputable def fs20 : List (Nat × FnI) := (20, i20) :: fs21
theorem l20 : Listed Try.prog fs20 := listed_cons Try.func20 c20 l21 (by decide)
noncomputable def fs18 : List (Nat × FnI) := (18, i18) :: fs20
theorem l18 : Listed Try.prog fs18 := listed_cons Try.func18 c18 l20 (by decide)
noncomputable def fs16 : List (Nat × FnI) := (16, i16) :: fs18
theorem l16 : Listed Try.prog fs16 := listed_cons Try.func16 c16 l18 (by decide)
noncomputable def fs14 : List (Nat × FnI) := (14, i14) :: fs16
theorem l14 : Listed Try.prog fs14 := listed_cons Try.func14 c14 l16 (by decide)
noncomputable def fs13 : List (Nat × FnI) := (13, i13) :: fs14
theorem l13 : Listed Try.prog fs13 := listed_cons Try.func13 c13 l14 (by decide)
noncomputable def fs12 : List (Nat × FnI) := (12, i12) :: fs13
theorem l12 : Listed Try.prog fs12 := listed_cons Try.func12 c12 l13 (by decide)
noncomputable def FS : List (Nat × FnI) := fs12
theorem listed : Listed Try.prog FS := l12

theorem follows : Try.prog.follows .mixedOrders = true := by kernel_rfl
theorem works_ok : ∃ h' n', n' < 9223372036854775808 ∧ CallsOK Try.prog 13 .nil 256 .lf 256 (.b true) h' n' := by
  have h : okR (evF (FT.of FS) 40 13 .nil 256 .lf 256) = true := by kernel_rfl
  obtain ⟨h', n', h1, h2⟩ := okR_ok h
  exact ⟨h', n', h2, evF_sound follows listed 40 _ _ _ _ _ _ _ _ h1⟩
end Go.Proofs.Ytkdbgkibifigiaa.Tw
