/- The functions of the trays, for the evaluator. -/
import Derived.Test.YtnpimbpbhbfchaaDoorEvG4
import Derived.Test.YtnpimbpbhbfchaaDoorEvLw
import Derived.Test.YtnpimbpbhbfchaaDoorProg
import Derived.KernelRfl
namespace Go.Proofs.YtnpimbpbhbfchaaDoor.Ev
set_option linter.unusedVariables false
open Go Go.Proofs Go.RowKit
def drops : List Nat := [6, 10, 11, 12, 13, 14, 15, 19, 20, 21, 22, 26, 28, 32, 33, 34, 35, 39, 40, 41, 42, 47, 48, 49, 50, 51, 52, 53, 54, 55, 56, 57, 58, 59, 65, 67, 68, 69, 70, 71, 72, 75, 76, 77, 78, 79, 80, 81, 85, 87, 89, 101]
noncomputable def i6 : FnI := (compF Tryd.prog drops true true Tryd.f6).getD (.mk false false .skip [])
theorem cc6 : compF Tryd.prog drops true true Tryd.f6 = some i6 := by kernel_rfl
noncomputable def i7 : FnI := (compF Tryd.prog drops true false Tryd.f7).getD (.mk false false .skip [])
theorem cc7 : compF Tryd.prog drops true false Tryd.f7 = some i7 := by kernel_rfl
noncomputable def i8 : FnI := (compF Tryd.prog drops true false Tryd.f8).getD (.mk false false .skip [])
theorem cc8 : compF Tryd.prog drops true false Tryd.f8 = some i8 := by kernel_rfl
noncomputable def i9 : FnI := (compF Tryd.prog drops true false Tryd.f9).getD (.mk false false .skip [])
theorem cc9 : compF Tryd.prog drops true false Tryd.f9 = some i9 := by kernel_rfl
noncomputable def i10 : FnI := (compF Tryd.prog drops true true Tryd.f10).getD (.mk false false .skip [])
theorem cc10 : compF Tryd.prog drops true true Tryd.f10 = some i10 := by kernel_rfl
noncomputable def i11 : FnI := (compF Tryd.prog drops true true Tryd.f11).getD (.mk false false .skip [])
theorem cc11 : compF Tryd.prog drops true true Tryd.f11 = some i11 := by kernel_rfl
noncomputable def i12 : FnI := (compF Tryd.prog drops true true Tryd.f12).getD (.mk false false .skip [])
theorem cc12 : compF Tryd.prog drops true true Tryd.f12 = some i12 := by kernel_rfl
noncomputable def i13 : FnI := (compF Tryd.prog drops true true Tryd.f13).getD (.mk false false .skip [])
theorem cc13 : compF Tryd.prog drops true true Tryd.f13 = some i13 := by kernel_rfl
noncomputable def i14 : FnI := (compF Tryd.prog drops true true Tryd.f14).getD (.mk false false .skip [])
theorem cc14 : compF Tryd.prog drops true true Tryd.f14 = some i14 := by kernel_rfl
noncomputable def i15 : FnI := (compF Tryd.prog drops true true Tryd.f15).getD (.mk false false .skip [])
theorem cc15 : compF Tryd.prog drops true true Tryd.f15 = some i15 := by kernel_rfl
noncomputable def i16 : FnI := (compF Tryd.prog drops true false Tryd.f16).getD (.mk false false .skip [])
theorem cc16 : compF Tryd.prog drops true false Tryd.f16 = some i16 := by kernel_rfl
noncomputable def i17 : FnI := (compF Tryd.prog drops true false Tryd.f17).getD (.mk false false .skip [])
theorem cc17 : compF Tryd.prog drops true false Tryd.f17 = some i17 := by kernel_rfl
noncomputable def i18 : FnI := (compF Tryd.prog drops true false Tryd.f18).getD (.mk false false .skip [])
theorem cc18 : compF Tryd.prog drops true false Tryd.f18 = some i18 := by kernel_rfl
noncomputable def i19 : FnI := (compF Tryd.prog drops true true Tryd.f19).getD (.mk false false .skip [])
theorem cc19 : compF Tryd.prog drops true true Tryd.f19 = some i19 := by kernel_rfl
noncomputable def i20 : FnI := (compF Tryd.prog drops true true Tryd.f20).getD (.mk false false .skip [])
theorem cc20 : compF Tryd.prog drops true true Tryd.f20 = some i20 := by kernel_rfl
noncomputable def i21 : FnI := (compF Tryd.prog drops true true Tryd.f21).getD (.mk false false .skip [])
theorem cc21 : compF Tryd.prog drops true true Tryd.f21 = some i21 := by kernel_rfl
noncomputable def i22 : FnI := (compF Tryd.prog drops true true Tryd.f22).getD (.mk false false .skip [])
theorem cc22 : compF Tryd.prog drops true true Tryd.f22 = some i22 := by kernel_rfl
noncomputable def i23 : FnI := (compF Tryd.prog drops true false Tryd.f23).getD (.mk false false .skip [])
theorem cc23 : compF Tryd.prog drops true false Tryd.f23 = some i23 := by kernel_rfl
noncomputable def i24 : FnI := (compF Tryd.prog drops true false Tryd.f24).getD (.mk false false .skip [])
theorem cc24 : compF Tryd.prog drops true false Tryd.f24 = some i24 := by kernel_rfl
noncomputable def i25 : FnI := (compF Tryd.prog drops true false Tryd.f25).getD (.mk false false .skip [])
theorem cc25 : compF Tryd.prog drops true false Tryd.f25 = some i25 := by kernel_rfl
noncomputable def i26 : FnI := (compF Tryd.prog drops true true Tryd.f26).getD (.mk false false .skip [])
theorem cc26 : compF Tryd.prog drops true true Tryd.f26 = some i26 := by kernel_rfl
noncomputable def i27 : FnI := (compF Tryd.prog drops true false Tryd.f27).getD (.mk false false .skip [])
theorem cc27 : compF Tryd.prog drops true false Tryd.f27 = some i27 := by kernel_rfl
noncomputable def i28 : FnI := (compF Tryd.prog drops true true Tryd.f28).getD (.mk false false .skip [])
theorem cc28 : compF Tryd.prog drops true true Tryd.f28 = some i28 := by kernel_rfl
noncomputable def i29 : FnI := (compF Tryd.prog drops true false Tryd.f29).getD (.mk false false .skip [])
theorem cc29 : compF Tryd.prog drops true false Tryd.f29 = some i29 := by kernel_rfl
noncomputable def i30 : FnI := (compF Tryd.prog drops true false Tryd.f30).getD (.mk false false .skip [])
theorem cc30 : compF Tryd.prog drops true false Tryd.f30 = some i30 := by kernel_rfl
noncomputable def i31 : FnI := (compF Tryd.prog drops true false Tryd.f31).getD (.mk false false .skip [])
theorem cc31 : compF Tryd.prog drops true false Tryd.f31 = some i31 := by kernel_rfl
noncomputable def i32 : FnI := (compF Tryd.prog drops true true Tryd.f32).getD (.mk false false .skip [])
theorem cc32 : compF Tryd.prog drops true true Tryd.f32 = some i32 := by kernel_rfl
noncomputable def i33 : FnI := (compF Tryd.prog drops true true Tryd.f33).getD (.mk false false .skip [])
theorem cc33 : compF Tryd.prog drops true true Tryd.f33 = some i33 := by kernel_rfl
noncomputable def i34 : FnI := (compF Tryd.prog drops true true Tryd.f34).getD (.mk false false .skip [])
theorem cc34 : compF Tryd.prog drops true true Tryd.f34 = some i34 := by kernel_rfl
noncomputable def i35 : FnI := (compF Tryd.prog drops true true Tryd.f35).getD (.mk false false .skip [])
theorem cc35 : compF Tryd.prog drops true true Tryd.f35 = some i35 := by kernel_rfl
noncomputable def i36 : FnI := (compF Tryd.prog drops true false Tryd.f36).getD (.mk false false .skip [])
theorem cc36 : compF Tryd.prog drops true false Tryd.f36 = some i36 := by kernel_rfl
noncomputable def i37 : FnI := (compF Tryd.prog drops true false Tryd.f37).getD (.mk false false .skip [])
theorem cc37 : compF Tryd.prog drops true false Tryd.f37 = some i37 := by kernel_rfl
noncomputable def i38 : FnI := (compF Tryd.prog drops true false Tryd.f38).getD (.mk false false .skip [])
theorem cc38 : compF Tryd.prog drops true false Tryd.f38 = some i38 := by kernel_rfl
noncomputable def i39 : FnI := (compF Tryd.prog drops true true Tryd.f39).getD (.mk false false .skip [])
theorem cc39 : compF Tryd.prog drops true true Tryd.f39 = some i39 := by kernel_rfl
noncomputable def i40 : FnI := (compF Tryd.prog drops true true Tryd.f40).getD (.mk false false .skip [])
theorem cc40 : compF Tryd.prog drops true true Tryd.f40 = some i40 := by kernel_rfl
noncomputable def i41 : FnI := (compF Tryd.prog drops true true Tryd.f41).getD (.mk false false .skip [])
theorem cc41 : compF Tryd.prog drops true true Tryd.f41 = some i41 := by kernel_rfl
noncomputable def i42 : FnI := (compF Tryd.prog drops true true Tryd.f42).getD (.mk false false .skip [])
theorem cc42 : compF Tryd.prog drops true true Tryd.f42 = some i42 := by kernel_rfl
noncomputable def i43 : FnI := (compF Tryd.prog drops true false Tryd.f43).getD (.mk false false .skip [])
theorem cc43 : compF Tryd.prog drops true false Tryd.f43 = some i43 := by kernel_rfl
noncomputable def i44 : FnI := (compF Tryd.prog drops true false Tryd.f44).getD (.mk false false .skip [])
theorem cc44 : compF Tryd.prog drops true false Tryd.f44 = some i44 := by kernel_rfl
noncomputable def i45 : FnI := (compF Tryd.prog drops true false Tryd.f45).getD (.mk false false .skip [])
theorem cc45 : compF Tryd.prog drops true false Tryd.f45 = some i45 := by kernel_rfl
noncomputable def i46 : FnI := (compF Tryd.prog drops true false Tryd.f46).getD (.mk false false .skip [])
theorem cc46 : compF Tryd.prog drops true false Tryd.f46 = some i46 := by kernel_rfl
noncomputable def i47 : FnI := (compF Tryd.prog drops true true Tryd.f47).getD (.mk false false .skip [])
theorem cc47 : compF Tryd.prog drops true true Tryd.f47 = some i47 := by kernel_rfl
noncomputable def i48 : FnI := (compF Tryd.prog drops true true Tryd.f48).getD (.mk false false .skip [])
theorem cc48 : compF Tryd.prog drops true true Tryd.f48 = some i48 := by kernel_rfl
noncomputable def i49 : FnI := (compF Tryd.prog drops true true Tryd.f49).getD (.mk false false .skip [])
theorem cc49 : compF Tryd.prog drops true true Tryd.f49 = some i49 := by kernel_rfl
noncomputable def i50 : FnI := (compF Tryd.prog drops true true Tryd.f50).getD (.mk false false .skip [])
theorem cc50 : compF Tryd.prog drops true true Tryd.f50 = some i50 := by kernel_rfl
noncomputable def i51 : FnI := (compF Tryd.prog drops true true Tryd.f51).getD (.mk false false .skip [])
theorem cc51 : compF Tryd.prog drops true true Tryd.f51 = some i51 := by kernel_rfl
noncomputable def i52 : FnI := (compF Tryd.prog drops true true Tryd.f52).getD (.mk false false .skip [])
theorem cc52 : compF Tryd.prog drops true true Tryd.f52 = some i52 := by kernel_rfl
noncomputable def i53 : FnI := (compF Tryd.prog drops true true Tryd.f53).getD (.mk false false .skip [])
theorem cc53 : compF Tryd.prog drops true true Tryd.f53 = some i53 := by kernel_rfl
noncomputable def i54 : FnI := (compF Tryd.prog drops true true Tryd.f54).getD (.mk false false .skip [])
theorem cc54 : compF Tryd.prog drops true true Tryd.f54 = some i54 := by kernel_rfl
noncomputable def i55 : FnI := (compF Tryd.prog drops true true Tryd.f55).getD (.mk false false .skip [])
theorem cc55 : compF Tryd.prog drops true true Tryd.f55 = some i55 := by kernel_rfl
noncomputable def i56 : FnI := (compF Tryd.prog drops true true Tryd.f56).getD (.mk false false .skip [])
theorem cc56 : compF Tryd.prog drops true true Tryd.f56 = some i56 := by kernel_rfl
noncomputable def i57 : FnI := (compF Tryd.prog drops true true Tryd.f57).getD (.mk false false .skip [])
theorem cc57 : compF Tryd.prog drops true true Tryd.f57 = some i57 := by kernel_rfl
noncomputable def i58 : FnI := (compF Tryd.prog drops true true Tryd.f58).getD (.mk false false .skip [])
theorem cc58 : compF Tryd.prog drops true true Tryd.f58 = some i58 := by kernel_rfl
noncomputable def i59 : FnI := (compF Tryd.prog drops true true Tryd.f59).getD (.mk false false .skip [])
theorem cc59 : compF Tryd.prog drops true true Tryd.f59 = some i59 := by kernel_rfl
noncomputable def i60 : FnI := (compF Tryd.prog drops true false Tryd.f60).getD (.mk false false .skip [])
theorem cc60 : compF Tryd.prog drops true false Tryd.f60 = some i60 := by kernel_rfl
noncomputable def i61 : FnI := (compF Tryd.prog drops true false Tryd.f61).getD (.mk false false .skip [])
theorem cc61 : compF Tryd.prog drops true false Tryd.f61 = some i61 := by kernel_rfl
noncomputable def i62 : FnI := (compF Tryd.prog drops true false Tryd.f62).getD (.mk false false .skip [])
theorem cc62 : compF Tryd.prog drops true false Tryd.f62 = some i62 := by kernel_rfl
noncomputable def i63 : FnI := (compF Tryd.prog drops true false Tryd.f63).getD (.mk false false .skip [])
theorem cc63 : compF Tryd.prog drops true false Tryd.f63 = some i63 := by kernel_rfl
noncomputable def i65 : FnI := (compF Tryd.prog drops true true Tryd.f65).getD (.mk false false .skip [])
theorem cc65 : compF Tryd.prog drops true true Tryd.f65 = some i65 := by kernel_rfl
noncomputable def i66 : FnI := (compF Tryd.prog drops true false Tryd.f66).getD (.mk false false .skip [])
theorem cc66 : compF Tryd.prog drops true false Tryd.f66 = some i66 := by kernel_rfl
noncomputable def i67 : FnI := (compF Tryd.prog drops true true Tryd.f67).getD (.mk false false .skip [])
theorem cc67 : compF Tryd.prog drops true true Tryd.f67 = some i67 := by kernel_rfl
noncomputable def i68 : FnI := (compF Tryd.prog drops true true Tryd.f68).getD (.mk false false .skip [])
theorem cc68 : compF Tryd.prog drops true true Tryd.f68 = some i68 := by kernel_rfl
noncomputable def i69 : FnI := (compF Tryd.prog drops true true Tryd.f69).getD (.mk false false .skip [])
theorem cc69 : compF Tryd.prog drops true true Tryd.f69 = some i69 := by kernel_rfl
noncomputable def i70 : FnI := (compF Tryd.prog drops true true Tryd.f70).getD (.mk false false .skip [])
theorem cc70 : compF Tryd.prog drops true true Tryd.f70 = some i70 := by kernel_rfl
noncomputable def i71 : FnI := (compF Tryd.prog drops true true Tryd.f71).getD (.mk false false .skip [])
theorem cc71 : compF Tryd.prog drops true true Tryd.f71 = some i71 := by kernel_rfl
noncomputable def i72 : FnI := (compF Tryd.prog drops true true Tryd.f72).getD (.mk false false .skip [])
theorem cc72 : compF Tryd.prog drops true true Tryd.f72 = some i72 := by kernel_rfl
noncomputable def i73 : FnI := (compF Tryd.prog drops true false Tryd.f73).getD (.mk false false .skip [])
theorem cc73 : compF Tryd.prog drops true false Tryd.f73 = some i73 := by kernel_rfl
noncomputable def i74 : FnI := (compF Tryd.prog drops true false Tryd.f74).getD (.mk false false .skip [])
theorem cc74 : compF Tryd.prog drops true false Tryd.f74 = some i74 := by kernel_rfl
noncomputable def i75 : FnI := (compF Tryd.prog drops true true Tryd.f75).getD (.mk false false .skip [])
theorem cc75 : compF Tryd.prog drops true true Tryd.f75 = some i75 := by kernel_rfl
noncomputable def i76 : FnI := (compF Tryd.prog drops true true Tryd.f76).getD (.mk false false .skip [])
theorem cc76 : compF Tryd.prog drops true true Tryd.f76 = some i76 := by kernel_rfl
noncomputable def i77 : FnI := (compF Tryd.prog drops true true Tryd.f77).getD (.mk false false .skip [])
theorem cc77 : compF Tryd.prog drops true true Tryd.f77 = some i77 := by kernel_rfl
noncomputable def i78 : FnI := (compF Tryd.prog drops true true Tryd.f78).getD (.mk false false .skip [])
theorem cc78 : compF Tryd.prog drops true true Tryd.f78 = some i78 := by kernel_rfl
noncomputable def i79 : FnI := (compF Tryd.prog drops true true Tryd.f79).getD (.mk false false .skip [])
theorem cc79 : compF Tryd.prog drops true true Tryd.f79 = some i79 := by kernel_rfl
noncomputable def i80 : FnI := (compF Tryd.prog drops true true Tryd.f80).getD (.mk false false .skip [])
theorem cc80 : compF Tryd.prog drops true true Tryd.f80 = some i80 := by kernel_rfl
noncomputable def i81 : FnI := (compF Tryd.prog drops true true Tryd.f81).getD (.mk false false .skip [])
theorem cc81 : compF Tryd.prog drops true true Tryd.f81 = some i81 := by kernel_rfl
noncomputable def i82 : FnI := (compF Tryd.prog drops true false Tryd.f82).getD (.mk false false .skip [])
theorem cc82 : compF Tryd.prog drops true false Tryd.f82 = some i82 := by kernel_rfl
noncomputable def i83 : FnI := (compF Tryd.prog drops false false Tryd.f83).getD (.mk false false .skip [])
theorem cc83 : compF Tryd.prog drops false false Tryd.f83 = some i83 := by kernel_rfl
noncomputable def i84 : FnI := (compF Tryd.prog drops false false Tryd.f84).getD (.mk false false .skip [])
theorem cc84 : compF Tryd.prog drops false false Tryd.f84 = some i84 := by kernel_rfl
noncomputable def i85 : FnI := (compF Tryd.prog drops true true Tryd.f85).getD (.mk false false .skip [])
theorem cc85 : compF Tryd.prog drops true true Tryd.f85 = some i85 := by kernel_rfl
noncomputable def i87 : FnI := (compF Tryd.prog drops true true Tryd.f87).getD (.mk false false .skip [])
theorem cc87 : compF Tryd.prog drops true true Tryd.f87 = some i87 := by kernel_rfl
noncomputable def i89 : FnI := (compF Tryd.prog drops true true Tryd.f89).getD (.mk false false .skip [])
theorem cc89 : compF Tryd.prog drops true true Tryd.f89 = some i89 := by kernel_rfl
noncomputable def i90 : FnI := (compF Tryd.prog drops true false Tryd.f90).getD (.mk false false .skip [])
theorem cc90 : compF Tryd.prog drops true false Tryd.f90 = some i90 := by kernel_rfl
noncomputable def i91 : FnI := (compF Tryd.prog drops false false Tryd.f91).getD (.mk false false .skip [])
theorem cc91 : compF Tryd.prog drops false false Tryd.f91 = some i91 := by kernel_rfl
noncomputable def i92 : FnI := (compF Tryd.prog drops false false Tryd.f92).getD (.mk false false .skip [])
theorem cc92 : compF Tryd.prog drops false false Tryd.f92 = some i92 := by kernel_rfl
noncomputable def i93 : FnI := (compF Tryd.prog drops false false Tryd.f93).getD (.mk false false .skip [])
theorem cc93 : compF Tryd.prog drops false false Tryd.f93 = some i93 := by kernel_rfl
noncomputable def i94 : FnI := (compF Tryd.prog drops false false Tryd.f94).getD (.mk false false .skip [])
theorem cc94 : compF Tryd.prog drops false false Tryd.f94 = some i94 := by kernel_rfl
noncomputable def i95 : FnI := (compF Tryd.prog drops false false Tryd.f95).getD (.mk false false .skip [])
theorem cc95 : compF Tryd.prog drops false false Tryd.f95 = some i95 := by kernel_rfl
noncomputable def i96 : FnI := (compF Tryd.prog drops false false Tryd.f96).getD (.mk false false .skip [])
theorem cc96 : compF Tryd.prog drops false false Tryd.f96 = some i96 := by kernel_rfl
noncomputable def i97 : FnI := (compF Tryd.prog drops false false Tryd.f97).getD (.mk false false .skip [])
theorem cc97 : compF Tryd.prog drops false false Tryd.f97 = some i97 := by kernel_rfl
noncomputable def i98 : FnI := (compF Tryd.prog drops false false Tryd.f98).getD (.mk false false .skip [])
theorem cc98 : compF Tryd.prog drops false false Tryd.f98 = some i98 := by kernel_rfl
noncomputable def i99 : FnI := (compF Tryd.prog drops false false Tryd.f99).getD (.mk false false .skip [])
theorem cc99 : compF Tryd.prog drops false false Tryd.f99 = some i99 := by kernel_rfl
noncomputable def i100 : FnI := (compF Tryd.prog drops false false Tryd.f100).getD (.mk false false .skip [])
theorem cc100 : compF Tryd.prog drops false false Tryd.f100 = some i100 := by kernel_rfl
noncomputable def i101 : FnI := (compF Tryd.prog drops true true Tryd.f101).getD (.mk false false .skip [])
theorem cc101 : compF Tryd.prog drops true true Tryd.f101 = some i101 := by kernel_rfl
noncomputable def i102 : FnI := (compF Tryd.prog drops false false Tryd.f102).getD (.mk false false .skip [])
theorem cc102 : compF Tryd.prog drops false false Tryd.f102 = some i102 := by kernel_rfl
noncomputable def i103 : FnI := (compF Tryd.prog drops false false Tryd.f103).getD (.mk false false .skip [])
theorem cc103 : compF Tryd.prog drops false false Tryd.f103 = some i103 := by kernel_rfl
noncomputable def i104 : FnI := (compF Tryd.prog drops false false Tryd.f104).getD (.mk false false .skip [])
theorem cc104 : compF Tryd.prog drops false false Tryd.f104 = some i104 := by kernel_rfl
noncomputable def i105 : FnI := (compF Tryd.prog drops false false Tryd.f105).getD (.mk false false .skip [])
theorem cc105 : compF Tryd.prog drops false false Tryd.f105 = some i105 := by kernel_rfl
noncomputable def fs105 : List (Nat × FnI) := (105, i105) :: []
theorem l105 : Listed Tryd.prog fs105 := listed_cons Tryd.func105 cc105 listed_nil (by decide)
noncomputable def fs104 : List (Nat × FnI) := (104, i104) :: fs105
theorem l104 : Listed Tryd.prog fs104 := listed_cons Tryd.func104 cc104 l105 (by decide)
noncomputable def fs103 : List (Nat × FnI) := (103, i103) :: fs104
theorem l103 : Listed Tryd.prog fs103 := listed_cons Tryd.func103 cc103 l104 (by decide)
noncomputable def fs102 : List (Nat × FnI) := (102, i102) :: fs103
theorem l102 : Listed Tryd.prog fs102 := listed_cons Tryd.func102 cc102 l103 (by decide)
noncomputable def fs101 : List (Nat × FnI) := (101, i101) :: fs102
theorem l101 : Listed Tryd.prog fs101 := listed_cons Tryd.func101 cc101 l102 (by decide)
noncomputable def fs100 : List (Nat × FnI) := (100, i100) :: fs101
theorem l100 : Listed Tryd.prog fs100 := listed_cons Tryd.func100 cc100 l101 (by decide)
noncomputable def fs99 : List (Nat × FnI) := (99, i99) :: fs100
theorem l99 : Listed Tryd.prog fs99 := listed_cons Tryd.func99 cc99 l100 (by decide)
noncomputable def fs98 : List (Nat × FnI) := (98, i98) :: fs99
theorem l98 : Listed Tryd.prog fs98 := listed_cons Tryd.func98 cc98 l99 (by decide)
noncomputable def fs97 : List (Nat × FnI) := (97, i97) :: fs98
theorem l97 : Listed Tryd.prog fs97 := listed_cons Tryd.func97 cc97 l98 (by decide)
noncomputable def fs96 : List (Nat × FnI) := (96, i96) :: fs97
theorem l96 : Listed Tryd.prog fs96 := listed_cons Tryd.func96 cc96 l97 (by decide)
noncomputable def fs95 : List (Nat × FnI) := (95, i95) :: fs96
theorem l95 : Listed Tryd.prog fs95 := listed_cons Tryd.func95 cc95 l96 (by decide)
noncomputable def fs94 : List (Nat × FnI) := (94, i94) :: fs95
theorem l94 : Listed Tryd.prog fs94 := listed_cons Tryd.func94 cc94 l95 (by decide)
noncomputable def fs93 : List (Nat × FnI) := (93, i93) :: fs94
theorem l93 : Listed Tryd.prog fs93 := listed_cons Tryd.func93 cc93 l94 (by decide)
noncomputable def fs92 : List (Nat × FnI) := (92, i92) :: fs93
theorem l92 : Listed Tryd.prog fs92 := listed_cons Tryd.func92 cc92 l93 (by decide)
noncomputable def fs91 : List (Nat × FnI) := (91, i91) :: fs92
theorem l91 : Listed Tryd.prog fs91 := listed_cons Tryd.func91 cc91 l92 (by decide)
noncomputable def fs90 : List (Nat × FnI) := (90, i90) :: fs91
theorem l90 : Listed Tryd.prog fs90 := listed_cons Tryd.func90 cc90 l91 (by decide)
noncomputable def fs89 : List (Nat × FnI) := (89, i89) :: fs90
theorem l89 : Listed Tryd.prog fs89 := listed_cons Tryd.func89 cc89 l90 (by decide)
noncomputable def fs87 : List (Nat × FnI) := (87, i87) :: fs89
theorem l87 : Listed Tryd.prog fs87 := listed_cons Tryd.func87 cc87 l89 (by decide)
noncomputable def fs85 : List (Nat × FnI) := (85, i85) :: fs87
theorem l85 : Listed Tryd.prog fs85 := listed_cons Tryd.func85 cc85 l87 (by decide)
noncomputable def fs84 : List (Nat × FnI) := (84, i84) :: fs85
theorem l84 : Listed Tryd.prog fs84 := listed_cons Tryd.func84 cc84 l85 (by decide)
noncomputable def fs83 : List (Nat × FnI) := (83, i83) :: fs84
theorem l83 : Listed Tryd.prog fs83 := listed_cons Tryd.func83 cc83 l84 (by decide)
noncomputable def fs82 : List (Nat × FnI) := (82, i82) :: fs83
theorem l82 : Listed Tryd.prog fs82 := listed_cons Tryd.func82 cc82 l83 (by decide)
noncomputable def fs81 : List (Nat × FnI) := (81, i81) :: fs82
theorem l81 : Listed Tryd.prog fs81 := listed_cons Tryd.func81 cc81 l82 (by decide)
noncomputable def fs80 : List (Nat × FnI) := (80, i80) :: fs81
theorem l80 : Listed Tryd.prog fs80 := listed_cons Tryd.func80 cc80 l81 (by decide)
noncomputable def fs79 : List (Nat × FnI) := (79, i79) :: fs80
theorem l79 : Listed Tryd.prog fs79 := listed_cons Tryd.func79 cc79 l80 (by decide)
noncomputable def fs78 : List (Nat × FnI) := (78, i78) :: fs79
theorem l78 : Listed Tryd.prog fs78 := listed_cons Tryd.func78 cc78 l79 (by decide)
noncomputable def fs77 : List (Nat × FnI) := (77, i77) :: fs78
theorem l77 : Listed Tryd.prog fs77 := listed_cons Tryd.func77 cc77 l78 (by decide)
noncomputable def fs76 : List (Nat × FnI) := (76, i76) :: fs77
theorem l76 : Listed Tryd.prog fs76 := listed_cons Tryd.func76 cc76 l77 (by decide)
noncomputable def fs75 : List (Nat × FnI) := (75, i75) :: fs76
theorem l75 : Listed Tryd.prog fs75 := listed_cons Tryd.func75 cc75 l76 (by decide)
noncomputable def fs74 : List (Nat × FnI) := (74, i74) :: fs75
theorem l74 : Listed Tryd.prog fs74 := listed_cons Tryd.func74 cc74 l75 (by decide)
noncomputable def fs73 : List (Nat × FnI) := (73, i73) :: fs74
theorem l73 : Listed Tryd.prog fs73 := listed_cons Tryd.func73 cc73 l74 (by decide)
noncomputable def fs72 : List (Nat × FnI) := (72, i72) :: fs73
theorem l72 : Listed Tryd.prog fs72 := listed_cons Tryd.func72 cc72 l73 (by decide)
noncomputable def fs71 : List (Nat × FnI) := (71, i71) :: fs72
theorem l71 : Listed Tryd.prog fs71 := listed_cons Tryd.func71 cc71 l72 (by decide)
noncomputable def fs70 : List (Nat × FnI) := (70, i70) :: fs71
theorem l70 : Listed Tryd.prog fs70 := listed_cons Tryd.func70 cc70 l71 (by decide)
noncomputable def fs69 : List (Nat × FnI) := (69, i69) :: fs70
theorem l69 : Listed Tryd.prog fs69 := listed_cons Tryd.func69 cc69 l70 (by decide)
noncomputable def fs68 : List (Nat × FnI) := (68, i68) :: fs69
theorem l68 : Listed Tryd.prog fs68 := listed_cons Tryd.func68 cc68 l69 (by decide)
noncomputable def fs67 : List (Nat × FnI) := (67, i67) :: fs68
theorem l67 : Listed Tryd.prog fs67 := listed_cons Tryd.func67 cc67 l68 (by decide)
noncomputable def fs66 : List (Nat × FnI) := (66, i66) :: fs67
theorem l66 : Listed Tryd.prog fs66 := listed_cons Tryd.func66 cc66 l67 (by decide)
noncomputable def fs65 : List (Nat × FnI) := (65, i65) :: fs66
theorem l65 : Listed Tryd.prog fs65 := listed_cons Tryd.func65 cc65 l66 (by decide)
noncomputable def fs63 : List (Nat × FnI) := (63, i63) :: fs65
theorem l63 : Listed Tryd.prog fs63 := listed_cons Tryd.func63 cc63 l65 (by decide)
noncomputable def fs62 : List (Nat × FnI) := (62, i62) :: fs63
theorem l62 : Listed Tryd.prog fs62 := listed_cons Tryd.func62 cc62 l63 (by decide)
noncomputable def fs61 : List (Nat × FnI) := (61, i61) :: fs62
theorem l61 : Listed Tryd.prog fs61 := listed_cons Tryd.func61 cc61 l62 (by decide)
noncomputable def fs60 : List (Nat × FnI) := (60, i60) :: fs61
theorem l60 : Listed Tryd.prog fs60 := listed_cons Tryd.func60 cc60 l61 (by decide)
noncomputable def fs59 : List (Nat × FnI) := (59, i59) :: fs60
theorem l59 : Listed Tryd.prog fs59 := listed_cons Tryd.func59 cc59 l60 (by decide)
noncomputable def fs58 : List (Nat × FnI) := (58, i58) :: fs59
theorem l58 : Listed Tryd.prog fs58 := listed_cons Tryd.func58 cc58 l59 (by decide)
noncomputable def fs57 : List (Nat × FnI) := (57, i57) :: fs58
theorem l57 : Listed Tryd.prog fs57 := listed_cons Tryd.func57 cc57 l58 (by decide)
noncomputable def fs56 : List (Nat × FnI) := (56, i56) :: fs57
theorem l56 : Listed Tryd.prog fs56 := listed_cons Tryd.func56 cc56 l57 (by decide)
noncomputable def fs55 : List (Nat × FnI) := (55, i55) :: fs56
theorem l55 : Listed Tryd.prog fs55 := listed_cons Tryd.func55 cc55 l56 (by decide)
noncomputable def fs54 : List (Nat × FnI) := (54, i54) :: fs55
theorem l54 : Listed Tryd.prog fs54 := listed_cons Tryd.func54 cc54 l55 (by decide)
noncomputable def fs53 : List (Nat × FnI) := (53, i53) :: fs54
theorem l53 : Listed Tryd.prog fs53 := listed_cons Tryd.func53 cc53 l54 (by decide)
noncomputable def fs52 : List (Nat × FnI) := (52, i52) :: fs53
theorem l52 : Listed Tryd.prog fs52 := listed_cons Tryd.func52 cc52 l53 (by decide)
noncomputable def fs51 : List (Nat × FnI) := (51, i51) :: fs52
theorem l51 : Listed Tryd.prog fs51 := listed_cons Tryd.func51 cc51 l52 (by decide)
noncomputable def fs50 : List (Nat × FnI) := (50, i50) :: fs51
theorem l50 : Listed Tryd.prog fs50 := listed_cons Tryd.func50 cc50 l51 (by decide)
noncomputable def fs49 : List (Nat × FnI) := (49, i49) :: fs50
theorem l49 : Listed Tryd.prog fs49 := listed_cons Tryd.func49 cc49 l50 (by decide)
noncomputable def fs48 : List (Nat × FnI) := (48, i48) :: fs49
theorem l48 : Listed Tryd.prog fs48 := listed_cons Tryd.func48 cc48 l49 (by decide)
noncomputable def fs47 : List (Nat × FnI) := (47, i47) :: fs48
theorem l47 : Listed Tryd.prog fs47 := listed_cons Tryd.func47 cc47 l48 (by decide)
noncomputable def fs46 : List (Nat × FnI) := (46, i46) :: fs47
theorem l46 : Listed Tryd.prog fs46 := listed_cons Tryd.func46 cc46 l47 (by decide)
noncomputable def fs45 : List (Nat × FnI) := (45, i45) :: fs46
theorem l45 : Listed Tryd.prog fs45 := listed_cons Tryd.func45 cc45 l46 (by decide)
noncomputable def fs44 : List (Nat × FnI) := (44, i44) :: fs45
theorem l44 : Listed Tryd.prog fs44 := listed_cons Tryd.func44 cc44 l45 (by decide)
noncomputable def fs43 : List (Nat × FnI) := (43, i43) :: fs44
theorem l43 : Listed Tryd.prog fs43 := listed_cons Tryd.func43 cc43 l44 (by decide)
noncomputable def fs42 : List (Nat × FnI) := (42, i42) :: fs43
theorem l42 : Listed Tryd.prog fs42 := listed_cons Tryd.func42 cc42 l43 (by decide)
noncomputable def fs41 : List (Nat × FnI) := (41, i41) :: fs42
theorem l41 : Listed Tryd.prog fs41 := listed_cons Tryd.func41 cc41 l42 (by decide)
noncomputable def fs40 : List (Nat × FnI) := (40, i40) :: fs41
theorem l40 : Listed Tryd.prog fs40 := listed_cons Tryd.func40 cc40 l41 (by decide)
noncomputable def fs39 : List (Nat × FnI) := (39, i39) :: fs40
theorem l39 : Listed Tryd.prog fs39 := listed_cons Tryd.func39 cc39 l40 (by decide)
noncomputable def fs38 : List (Nat × FnI) := (38, i38) :: fs39
theorem l38 : Listed Tryd.prog fs38 := listed_cons Tryd.func38 cc38 l39 (by decide)
noncomputable def fs37 : List (Nat × FnI) := (37, i37) :: fs38
theorem l37 : Listed Tryd.prog fs37 := listed_cons Tryd.func37 cc37 l38 (by decide)
noncomputable def fs36 : List (Nat × FnI) := (36, i36) :: fs37
theorem l36 : Listed Tryd.prog fs36 := listed_cons Tryd.func36 cc36 l37 (by decide)
noncomputable def fs35 : List (Nat × FnI) := (35, i35) :: fs36
theorem l35 : Listed Tryd.prog fs35 := listed_cons Tryd.func35 cc35 l36 (by decide)
noncomputable def fs34 : List (Nat × FnI) := (34, i34) :: fs35
theorem l34 : Listed Tryd.prog fs34 := listed_cons Tryd.func34 cc34 l35 (by decide)
noncomputable def fs33 : List (Nat × FnI) := (33, i33) :: fs34
theorem l33 : Listed Tryd.prog fs33 := listed_cons Tryd.func33 cc33 l34 (by decide)
noncomputable def fs32 : List (Nat × FnI) := (32, i32) :: fs33
theorem l32 : Listed Tryd.prog fs32 := listed_cons Tryd.func32 cc32 l33 (by decide)
noncomputable def fs31 : List (Nat × FnI) := (31, i31) :: fs32
theorem l31 : Listed Tryd.prog fs31 := listed_cons Tryd.func31 cc31 l32 (by decide)
noncomputable def fs30 : List (Nat × FnI) := (30, i30) :: fs31
theorem l30 : Listed Tryd.prog fs30 := listed_cons Tryd.func30 cc30 l31 (by decide)
noncomputable def fs29 : List (Nat × FnI) := (29, i29) :: fs30
theorem l29 : Listed Tryd.prog fs29 := listed_cons Tryd.func29 cc29 l30 (by decide)
noncomputable def fs28 : List (Nat × FnI) := (28, i28) :: fs29
theorem l28 : Listed Tryd.prog fs28 := listed_cons Tryd.func28 cc28 l29 (by decide)
noncomputable def fs27 : List (Nat × FnI) := (27, i27) :: fs28
theorem l27 : Listed Tryd.prog fs27 := listed_cons Tryd.func27 cc27 l28 (by decide)
noncomputable def fs26 : List (Nat × FnI) := (26, i26) :: fs27
theorem l26 : Listed Tryd.prog fs26 := listed_cons Tryd.func26 cc26 l27 (by decide)
noncomputable def fs25 : List (Nat × FnI) := (25, i25) :: fs26
theorem l25 : Listed Tryd.prog fs25 := listed_cons Tryd.func25 cc25 l26 (by decide)
noncomputable def fs24 : List (Nat × FnI) := (24, i24) :: fs25
theorem l24 : Listed Tryd.prog fs24 := listed_cons Tryd.func24 cc24 l25 (by decide)
noncomputable def fs23 : List (Nat × FnI) := (23, i23) :: fs24
theorem l23 : Listed Tryd.prog fs23 := listed_cons Tryd.func23 cc23 l24 (by decide)
noncomputable def fs22 : List (Nat × FnI) := (22, i22) :: fs23
theorem l22 : Listed Tryd.prog fs22 := listed_cons Tryd.func22 cc22 l23 (by decide)
noncomputable def fs21 : List (Nat × FnI) := (21, i21) :: fs22
theorem l21 : Listed Tryd.prog fs21 := listed_cons Tryd.func21 cc21 l22 (by decide)
noncomputable def fs20 : List (Nat × FnI) := (20, i20) :: fs21
theorem l20 : Listed Tryd.prog fs20 := listed_cons Tryd.func20 cc20 l21 (by decide)
noncomputable def fs19 : List (Nat × FnI) := (19, i19) :: fs20
theorem l19 : Listed Tryd.prog fs19 := listed_cons Tryd.func19 cc19 l20 (by decide)
noncomputable def fs18 : List (Nat × FnI) := (18, i18) :: fs19
theorem l18 : Listed Tryd.prog fs18 := listed_cons Tryd.func18 cc18 l19 (by decide)
noncomputable def fs17 : List (Nat × FnI) := (17, i17) :: fs18
theorem l17 : Listed Tryd.prog fs17 := listed_cons Tryd.func17 cc17 l18 (by decide)
noncomputable def fs16 : List (Nat × FnI) := (16, i16) :: fs17
theorem l16 : Listed Tryd.prog fs16 := listed_cons Tryd.func16 cc16 l17 (by decide)
noncomputable def fs15 : List (Nat × FnI) := (15, i15) :: fs16
theorem l15 : Listed Tryd.prog fs15 := listed_cons Tryd.func15 cc15 l16 (by decide)
noncomputable def fs14 : List (Nat × FnI) := (14, i14) :: fs15
theorem l14 : Listed Tryd.prog fs14 := listed_cons Tryd.func14 cc14 l15 (by decide)
noncomputable def fs13 : List (Nat × FnI) := (13, i13) :: fs14
theorem l13 : Listed Tryd.prog fs13 := listed_cons Tryd.func13 cc13 l14 (by decide)
noncomputable def fs12 : List (Nat × FnI) := (12, i12) :: fs13
theorem l12 : Listed Tryd.prog fs12 := listed_cons Tryd.func12 cc12 l13 (by decide)
noncomputable def fs11 : List (Nat × FnI) := (11, i11) :: fs12
theorem l11 : Listed Tryd.prog fs11 := listed_cons Tryd.func11 cc11 l12 (by decide)
noncomputable def fs10 : List (Nat × FnI) := (10, i10) :: fs11
theorem l10 : Listed Tryd.prog fs10 := listed_cons Tryd.func10 cc10 l11 (by decide)
noncomputable def fs9 : List (Nat × FnI) := (9, i9) :: fs10
theorem l9 : Listed Tryd.prog fs9 := listed_cons Tryd.func9 cc9 l10 (by decide)
noncomputable def fs8 : List (Nat × FnI) := (8, i8) :: fs9
theorem l8 : Listed Tryd.prog fs8 := listed_cons Tryd.func8 cc8 l9 (by decide)
noncomputable def fs7 : List (Nat × FnI) := (7, i7) :: fs8
theorem l7 : Listed Tryd.prog fs7 := listed_cons Tryd.func7 cc7 l8 (by decide)
noncomputable def fs6 : List (Nat × FnI) := (6, i6) :: fs7
theorem l6 : Listed Tryd.prog fs6 := listed_cons Tryd.func6 cc6 l7 (by decide)
noncomputable def FS : List (Nat × FnI) := fs6
theorem listed : Listed Tryd.prog FS := l6
noncomputable def cmp : Nat → Code → Option IC := fun N c => compC Tryd.prog drops N c
noncomputable def EF (d : Nat) : FF := evG cmp (FT.of FS) d
theorem follows : Tryd.prog.follows .mixedOrders = true := by kernel_rfl
theorem EF_ok (d : Nat) : FOK Tryd.prog (EF d) := evG_sound follows listed d
theorem EF_mono (d : Nat) : (EF d).mono := evG_mono _ _ d
def zs64 : List Int := [0, 1, 56, 2, 57, 49, 28, 3, 61, 58, 42, 50, 38, 29, 17, 4, 62, 47, 59, 36, 45, 43, 51, 22, 53, 39, 33, 30, 24, 18, 12, 5, 63, 55, 48, 27, 60, 41, 37, 16, 46, 35, 44, 21, 52, 32, 23, 11, 54, 26, 40, 15, 34, 20, 31, 10, 25, 14, 19, 9, 13, 8, 7, 6]
noncomputable def tbH (el : TypeId) : Hp := tabH [(1, el, kL .u8 zs64)]
end Go.Proofs.YtnpimbpbhbfchaaDoor.Ev
