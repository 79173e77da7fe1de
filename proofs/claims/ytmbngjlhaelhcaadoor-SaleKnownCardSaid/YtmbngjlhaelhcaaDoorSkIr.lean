/- The functions that this law reaches, for the evaluator; its answer. -/
import Derived.Test.YtmbngjlhaelhcaaDoorEvX
import Derived.Test.YtmbngjlhaelhcaaDoorProg
import Derived.KernelRfl
namespace Go.Proofs.YtmbngjlhaelhcaaDoor.Ev
open Go Go.Proofs Go.RowKit
def drops : List Nat := [14, 16, 19, 21, 23, 24, 30, 36, 37, 50, 58, 1000067, 2000000, 3000001, 68, 69, 70, 74, 1000075, 1000076, 1000078, 81, 1000087, 1000089, 94, 97, 1000098, 1000100, 102, 103, 104, 105, 107, 108, 110, 113, 114, 115, 116, 117, 118, 120, 122]
noncomputable def i14 : FnI := (compF Tryd.prog drops true true Tryd.f14).getD (.mk false false .skip [])
theorem c14 : compF Tryd.prog drops true true Tryd.f14 = some i14 := by kernel_rfl
noncomputable def i16 : FnI := (compF Tryd.prog drops true true Tryd.f16).getD (.mk false false .skip [])
theorem c16 : compF Tryd.prog drops true true Tryd.f16 = some i16 := by kernel_rfl
noncomputable def i17 : FnI := (compF Tryd.prog drops true false Tryd.f17).getD (.mk false false .skip [])
theorem c17 : compF Tryd.prog drops true false Tryd.f17 = some i17 := by kernel_rfl
noncomputable def i19 : FnI := (compF Tryd.prog drops true true Tryd.f19).getD (.mk false false .skip [])
theorem c19 : compF Tryd.prog drops true true Tryd.f19 = some i19 := by kernel_rfl
noncomputable def i21 : FnI := (compF Tryd.prog drops true true Tryd.f21).getD (.mk false false .skip [])
theorem c21 : compF Tryd.prog drops true true Tryd.f21 = some i21 := by kernel_rfl
noncomputable def i23 : FnI := (compF Tryd.prog drops true true Tryd.f23).getD (.mk false false .skip [])
theorem c23 : compF Tryd.prog drops true true Tryd.f23 = some i23 := by kernel_rfl
noncomputable def i24 : FnI := (compF Tryd.prog drops true true Tryd.f24).getD (.mk false false .skip [])
theorem c24 : compF Tryd.prog drops true true Tryd.f24 = some i24 := by kernel_rfl
noncomputable def i26 : FnI := (compF Tryd.prog drops true false Tryd.f26).getD (.mk false false .skip [])
theorem c26 : compF Tryd.prog drops true false Tryd.f26 = some i26 := by kernel_rfl
noncomputable def i28 : FnI := (compF Tryd.prog drops true false Tryd.f28).getD (.mk false false .skip [])
theorem c28 : compF Tryd.prog drops true false Tryd.f28 = some i28 := by kernel_rfl
noncomputable def i30 : FnI := (compF Tryd.prog drops true true Tryd.f30).getD (.mk false false .skip [])
theorem c30 : compF Tryd.prog drops true true Tryd.f30 = some i30 := by kernel_rfl
noncomputable def i32 : FnI := (compF Tryd.prog drops true false Tryd.f32).getD (.mk false false .skip [])
theorem c32 : compF Tryd.prog drops true false Tryd.f32 = some i32 := by kernel_rfl
noncomputable def i34 : FnI := (compF Tryd.prog drops true false Tryd.f34).getD (.mk false false .skip [])
theorem c34 : compF Tryd.prog drops true false Tryd.f34 = some i34 := by kernel_rfl
noncomputable def i36 : FnI := (compF Tryd.prog drops true true Tryd.f36).getD (.mk false false .skip [])
theorem c36 : compF Tryd.prog drops true true Tryd.f36 = some i36 := by kernel_rfl
noncomputable def i37 : FnI := (compF Tryd.prog drops true true Tryd.f37).getD (.mk false false .skip [])
theorem c37 : compF Tryd.prog drops true true Tryd.f37 = some i37 := by kernel_rfl
noncomputable def i39 : FnI := (compF Tryd.prog drops true false Tryd.f39).getD (.mk false false .skip [])
theorem c39 : compF Tryd.prog drops true false Tryd.f39 = some i39 := by kernel_rfl
noncomputable def i41 : FnI := (compF Tryd.prog drops true false Tryd.f41).getD (.mk false false .skip [])
theorem c41 : compF Tryd.prog drops true false Tryd.f41 = some i41 := by kernel_rfl
noncomputable def i49 : FnI := (compF Tryd.prog drops true false Tryd.f49).getD (.mk false false .skip [])
theorem c49 : compF Tryd.prog drops true false Tryd.f49 = some i49 := by kernel_rfl
noncomputable def i50 : FnI := (compF Tryd.prog drops true true Tryd.f50).getD (.mk false false .skip [])
theorem c50 : compF Tryd.prog drops true true Tryd.f50 = some i50 := by kernel_rfl
noncomputable def i58 : FnI := (compF Tryd.prog drops true true Tryd.f58).getD (.mk false false .skip [])
theorem c58 : compF Tryd.prog drops true true Tryd.f58 = some i58 := by kernel_rfl
noncomputable def i61 : FnI := (compF Tryd.prog drops true false Tryd.f61).getD (.mk false false .skip [])
theorem c61 : compF Tryd.prog drops true false Tryd.f61 = some i61 := by kernel_rfl
noncomputable def i62 : FnI := (compF Tryd.prog drops true false Tryd.f62).getD (.mk false false .skip [])
theorem c62 : compF Tryd.prog drops true false Tryd.f62 = some i62 := by kernel_rfl
noncomputable def i63 : FnI := (compF Tryd.prog drops true false Tryd.f63).getD (.mk false false .skip [])
theorem c63 : compF Tryd.prog drops true false Tryd.f63 = some i63 := by kernel_rfl
noncomputable def i64 : FnI := (compF Tryd.prog drops true false Tryd.f64).getD (.mk false false .skip [])
theorem c64 : compF Tryd.prog drops true false Tryd.f64 = some i64 := by kernel_rfl
noncomputable def i65 : FnI := (compF Tryd.prog drops true false Tryd.f65).getD (.mk false false .skip [])
theorem c65 : compF Tryd.prog drops true false Tryd.f65 = some i65 := by kernel_rfl
noncomputable def i67 : FnI := (compF Tryd.prog drops false false Tryd.f67).getD (.mk false false .skip [])
theorem c67 : compF Tryd.prog drops false false Tryd.f67 = some i67 := by kernel_rfl
noncomputable def i68 : FnI := (compF Tryd.prog drops true true Tryd.f68).getD (.mk false false .skip [])
theorem c68 : compF Tryd.prog drops true true Tryd.f68 = some i68 := by kernel_rfl
noncomputable def i69 : FnI := (compF Tryd.prog drops true true Tryd.f69).getD (.mk false false .skip [])
theorem c69 : compF Tryd.prog drops true true Tryd.f69 = some i69 := by kernel_rfl
noncomputable def i70 : FnI := (compF Tryd.prog drops true true Tryd.f70).getD (.mk false false .skip [])
theorem c70 : compF Tryd.prog drops true true Tryd.f70 = some i70 := by kernel_rfl
noncomputable def i74 : FnI := (compF Tryd.prog drops true true Tryd.f74).getD (.mk false false .skip [])
theorem c74 : compF Tryd.prog drops true true Tryd.f74 = some i74 := by kernel_rfl
noncomputable def i75 : FnI := (compF Tryd.prog drops false false Tryd.f75).getD (.mk false false .skip [])
theorem c75 : compF Tryd.prog drops false false Tryd.f75 = some i75 := by kernel_rfl
noncomputable def i76 : FnI := (compF Tryd.prog drops false false Tryd.f76).getD (.mk false false .skip [])
theorem c76 : compF Tryd.prog drops false false Tryd.f76 = some i76 := by kernel_rfl
noncomputable def i78 : FnI := (compF Tryd.prog drops false false Tryd.f78).getD (.mk false false .skip [])
theorem c78 : compF Tryd.prog drops false false Tryd.f78 = some i78 := by kernel_rfl
noncomputable def i81 : FnI := (compF Tryd.prog drops true true Tryd.f81).getD (.mk false false .skip [])
theorem c81 : compF Tryd.prog drops true true Tryd.f81 = some i81 := by kernel_rfl
noncomputable def i82 : FnI := (compF Tryd.prog drops true false Tryd.f82).getD (.mk false false .skip [])
theorem c82 : compF Tryd.prog drops true false Tryd.f82 = some i82 := by kernel_rfl
noncomputable def i85 : FnI := (compF Tryd.prog drops true false Tryd.f85).getD (.mk false false .skip [])
theorem c85 : compF Tryd.prog drops true false Tryd.f85 = some i85 := by kernel_rfl
noncomputable def i87 : FnI := (compF Tryd.prog drops false false Tryd.f87).getD (.mk false false .skip [])
theorem c87 : compF Tryd.prog drops false false Tryd.f87 = some i87 := by kernel_rfl
noncomputable def i89 : FnI := (compF Tryd.prog drops false false Tryd.f89).getD (.mk false false .skip [])
theorem c89 : compF Tryd.prog drops false false Tryd.f89 = some i89 := by kernel_rfl
noncomputable def i94 : FnI := (compF Tryd.prog drops true true Tryd.f94).getD (.mk false false .skip [])
theorem c94 : compF Tryd.prog drops true true Tryd.f94 = some i94 := by kernel_rfl
noncomputable def i97 : FnI := (compF Tryd.prog drops true true Tryd.f97).getD (.mk false false .skip [])
theorem c97 : compF Tryd.prog drops true true Tryd.f97 = some i97 := by kernel_rfl
noncomputable def i98 : FnI := (compF Tryd.prog drops false false Tryd.f98).getD (.mk false false .skip [])
theorem c98 : compF Tryd.prog drops false false Tryd.f98 = some i98 := by kernel_rfl
noncomputable def i100 : FnI := (compF Tryd.prog drops false false Tryd.f100).getD (.mk false false .skip [])
theorem c100 : compF Tryd.prog drops false false Tryd.f100 = some i100 := by kernel_rfl
noncomputable def i101 : FnI := (compF Tryd.prog drops true false Tryd.f101).getD (.mk false false .skip [])
theorem c101 : compF Tryd.prog drops true false Tryd.f101 = some i101 := by kernel_rfl
noncomputable def i102 : FnI := (compF Tryd.prog drops true true Tryd.f102).getD (.mk false false .skip [])
theorem c102 : compF Tryd.prog drops true true Tryd.f102 = some i102 := by kernel_rfl
noncomputable def i103 : FnI := (compF Tryd.prog drops true true Tryd.f103).getD (.mk false false .skip [])
theorem c103 : compF Tryd.prog drops true true Tryd.f103 = some i103 := by kernel_rfl
noncomputable def i104 : FnI := (compF Tryd.prog drops true true Tryd.f104).getD (.mk false false .skip [])
theorem c104 : compF Tryd.prog drops true true Tryd.f104 = some i104 := by kernel_rfl
noncomputable def i105 : FnI := (compF Tryd.prog drops true true Tryd.f105).getD (.mk false false .skip [])
theorem c105 : compF Tryd.prog drops true true Tryd.f105 = some i105 := by kernel_rfl
noncomputable def i106 : FnI := (compF Tryd.prog drops true false Tryd.f106).getD (.mk false false .skip [])
theorem c106 : compF Tryd.prog drops true false Tryd.f106 = some i106 := by kernel_rfl
noncomputable def i107 : FnI := (compF Tryd.prog drops true true Tryd.f107).getD (.mk false false .skip [])
theorem c107 : compF Tryd.prog drops true true Tryd.f107 = some i107 := by kernel_rfl
noncomputable def i108 : FnI := (compF Tryd.prog drops true true Tryd.f108).getD (.mk false false .skip [])
theorem c108 : compF Tryd.prog drops true true Tryd.f108 = some i108 := by kernel_rfl
noncomputable def i110 : FnI := (compF Tryd.prog drops true true Tryd.f110).getD (.mk false false .skip [])
theorem c110 : compF Tryd.prog drops true true Tryd.f110 = some i110 := by kernel_rfl
noncomputable def i113 : FnI := (compF Tryd.prog drops true true Tryd.f113).getD (.mk false false .skip [])
theorem c113 : compF Tryd.prog drops true true Tryd.f113 = some i113 := by kernel_rfl
noncomputable def i114 : FnI := (compF Tryd.prog drops true true Tryd.f114).getD (.mk false false .skip [])
theorem c114 : compF Tryd.prog drops true true Tryd.f114 = some i114 := by kernel_rfl
noncomputable def i115 : FnI := (compF Tryd.prog drops true true Tryd.f115).getD (.mk false false .skip [])
theorem c115 : compF Tryd.prog drops true true Tryd.f115 = some i115 := by kernel_rfl
noncomputable def i116 : FnI := (compF Tryd.prog drops true true Tryd.f116).getD (.mk false false .skip [])
theorem c116 : compF Tryd.prog drops true true Tryd.f116 = some i116 := by kernel_rfl
noncomputable def i117 : FnI := (compF Tryd.prog drops true true Tryd.f117).getD (.mk false false .skip [])
theorem c117 : compF Tryd.prog drops true true Tryd.f117 = some i117 := by kernel_rfl
noncomputable def i118 : FnI := (compF Tryd.prog drops true true Tryd.f118).getD (.mk false false .skip [])
theorem c118 : compF Tryd.prog drops true true Tryd.f118 = some i118 := by kernel_rfl
noncomputable def i120 : FnI := (compF Tryd.prog drops true true Tryd.f120).getD (.mk false false .skip [])
theorem c120 : compF Tryd.prog drops true true Tryd.f120 = some i120 := by kernel_rfl
noncomputable def i122 : FnI := (compF Tryd.prog drops true true Tryd.f122).getD (.mk false false .skip [])
theorem c122 : compF Tryd.prog drops true true Tryd.f122 = some i122 := by kernel_rfl
noncomputable def fs122 : List (Nat × FnI) := (122, i122) :: []
theorem l122 : Listed Tryd.prog fs122 := listed_cons Tryd.func122 c122 listed_nil (by decide)
noncomputable def fs120 : List (Nat × FnI) := (120, i120) :: fs122
theorem l120 : Listed Tryd.prog fs120 := listed_cons Tryd.func120 c120 l122 (by decide)
noncomputable def fs118 : List (Nat × FnI) := (118, i118) :: fs120
theorem l118 : Listed Tryd.prog fs118 := listed_cons Tryd.func118 c118 l120 (by decide)
noncomputable def fs117 : List (Nat × FnI) := (117, i117) :: fs118
theorem l117 : Listed Tryd.prog fs117 := listed_cons Tryd.func117 c117 l118 (by decide)
noncomputable def fs116 : List (Nat × FnI) := (116, i116) :: fs117
theorem l116 : Listed Tryd.prog fs116 := listed_cons Tryd.func116 c116 l117 (by decide)
noncomputable def fs115 : List (Nat × FnI) := (115, i115) :: fs116
theorem l115 : Listed Tryd.prog fs115 := listed_cons Tryd.func115 c115 l116 (by decide)
noncomputable def fs114 : List (Nat × FnI) := (114, i114) :: fs115
theorem l114 : Listed Tryd.prog fs114 := listed_cons Tryd.func114 c114 l115 (by decide)
noncomputable def fs113 : List (Nat × FnI) := (113, i113) :: fs114
theorem l113 : Listed Tryd.prog fs113 := listed_cons Tryd.func113 c113 l114 (by decide)
noncomputable def fs110 : List (Nat × FnI) := (110, i110) :: fs113
theorem l110 : Listed Tryd.prog fs110 := listed_cons Tryd.func110 c110 l113 (by decide)
noncomputable def fs108 : List (Nat × FnI) := (108, i108) :: fs110
theorem l108 : Listed Tryd.prog fs108 := listed_cons Tryd.func108 c108 l110 (by decide)
noncomputable def fs107 : List (Nat × FnI) := (107, i107) :: fs108
theorem l107 : Listed Tryd.prog fs107 := listed_cons Tryd.func107 c107 l108 (by decide)
noncomputable def fs106 : List (Nat × FnI) := (106, i106) :: fs107
theorem l106 : Listed Tryd.prog fs106 := listed_cons Tryd.func106 c106 l107 (by decide)
noncomputable def fs105 : List (Nat × FnI) := (105, i105) :: fs106
theorem l105 : Listed Tryd.prog fs105 := listed_cons Tryd.func105 c105 l106 (by decide)
noncomputable def fs104 : List (Nat × FnI) := (104, i104) :: fs105
theorem l104 : Listed Tryd.prog fs104 := listed_cons Tryd.func104 c104 l105 (by decide)
noncomputable def fs103 : List (Nat × FnI) := (103, i103) :: fs104
theorem l103 : Listed Tryd.prog fs103 := listed_cons Tryd.func103 c103 l104 (by decide)
noncomputable def fs102 : List (Nat × FnI) := (102, i102) :: fs103
theorem l102 : Listed Tryd.prog fs102 := listed_cons Tryd.func102 c102 l103 (by decide)
noncomputable def fs101 : List (Nat × FnI) := (101, i101) :: fs102
theorem l101 : Listed Tryd.prog fs101 := listed_cons Tryd.func101 c101 l102 (by decide)
noncomputable def fs100 : List (Nat × FnI) := (100, i100) :: fs101
theorem l100 : Listed Tryd.prog fs100 := listed_cons Tryd.func100 c100 l101 (by decide)
noncomputable def fs98 : List (Nat × FnI) := (98, i98) :: fs100
theorem l98 : Listed Tryd.prog fs98 := listed_cons Tryd.func98 c98 l100 (by decide)
noncomputable def fs97 : List (Nat × FnI) := (97, i97) :: fs98
theorem l97 : Listed Tryd.prog fs97 := listed_cons Tryd.func97 c97 l98 (by decide)
noncomputable def fs94 : List (Nat × FnI) := (94, i94) :: fs97
theorem l94 : Listed Tryd.prog fs94 := listed_cons Tryd.func94 c94 l97 (by decide)
noncomputable def fs89 : List (Nat × FnI) := (89, i89) :: fs94
theorem l89 : Listed Tryd.prog fs89 := listed_cons Tryd.func89 c89 l94 (by decide)
noncomputable def fs87 : List (Nat × FnI) := (87, i87) :: fs89
theorem l87 : Listed Tryd.prog fs87 := listed_cons Tryd.func87 c87 l89 (by decide)
noncomputable def fs85 : List (Nat × FnI) := (85, i85) :: fs87
theorem l85 : Listed Tryd.prog fs85 := listed_cons Tryd.func85 c85 l87 (by decide)
noncomputable def fs82 : List (Nat × FnI) := (82, i82) :: fs85
theorem l82 : Listed Tryd.prog fs82 := listed_cons Tryd.func82 c82 l85 (by decide)
noncomputable def fs81 : List (Nat × FnI) := (81, i81) :: fs82
theorem l81 : Listed Tryd.prog fs81 := listed_cons Tryd.func81 c81 l82 (by decide)
noncomputable def fs78 : List (Nat × FnI) := (78, i78) :: fs81
theorem l78 : Listed Tryd.prog fs78 := listed_cons Tryd.func78 c78 l81 (by decide)
noncomputable def fs76 : List (Nat × FnI) := (76, i76) :: fs78
theorem l76 : Listed Tryd.prog fs76 := listed_cons Tryd.func76 c76 l78 (by decide)
noncomputable def fs75 : List (Nat × FnI) := (75, i75) :: fs76
theorem l75 : Listed Tryd.prog fs75 := listed_cons Tryd.func75 c75 l76 (by decide)
noncomputable def fs74 : List (Nat × FnI) := (74, i74) :: fs75
theorem l74 : Listed Tryd.prog fs74 := listed_cons Tryd.func74 c74 l75 (by decide)
noncomputable def fs70 : List (Nat × FnI) := (70, i70) :: fs74
theorem l70 : Listed Tryd.prog fs70 := listed_cons Tryd.func70 c70 l74 (by decide)
noncomputable def fs69 : List (Nat × FnI) := (69, i69) :: fs70
theorem l69 : Listed Tryd.prog fs69 := listed_cons Tryd.func69 c69 l70 (by decide)
noncomputable def fs68 : List (Nat × FnI) := (68, i68) :: fs69
theorem l68 : Listed Tryd.prog fs68 := listed_cons Tryd.func68 c68 l69 (by decide)
noncomputable def fs67 : List (Nat × FnI) := (67, i67) :: fs68
theorem l67 : Listed Tryd.prog fs67 := listed_cons Tryd.func67 c67 l68 (by decide)
noncomputable def fs65 : List (Nat × FnI) := (65, i65) :: fs67
theorem l65 : Listed Tryd.prog fs65 := listed_cons Tryd.func65 c65 l67 (by decide)
noncomputable def fs64 : List (Nat × FnI) := (64, i64) :: fs65
theorem l64 : Listed Tryd.prog fs64 := listed_cons Tryd.func64 c64 l65 (by decide)
noncomputable def fs63 : List (Nat × FnI) := (63, i63) :: fs64
theorem l63 : Listed Tryd.prog fs63 := listed_cons Tryd.func63 c63 l64 (by decide)
noncomputable def fs62 : List (Nat × FnI) := (62, i62) :: fs63
theorem l62 : Listed Tryd.prog fs62 := listed_cons Tryd.func62 c62 l63 (by decide)
noncomputable def fs61 : List (Nat × FnI) := (61, i61) :: fs62
theorem l61 : Listed Tryd.prog fs61 := listed_cons Tryd.func61 c61 l62 (by decide)
noncomputable def fs58 : List (Nat × FnI) := (58, i58) :: fs61
theorem l58 : Listed Tryd.prog fs58 := listed_cons Tryd.func58 c58 l61 (by decide)
noncomputable def fs50 : List (Nat × FnI) := (50, i50) :: fs58
theorem l50 : Listed Tryd.prog fs50 := listed_cons Tryd.func50 c50 l58 (by decide)
noncomputable def fs49 : List (Nat × FnI) := (49, i49) :: fs50
theorem l49 : Listed Tryd.prog fs49 := listed_cons Tryd.func49 c49 l50 (by decide)
noncomputable def fs41 : List (Nat × FnI) := (41, i41) :: fs49
theorem l41 : Listed Tryd.prog fs41 := listed_cons Tryd.func41 c41 l49 (by decide)
noncomputable def fs39 : List (Nat × FnI) := (39, i39) :: fs41
theorem l39 : Listed Tryd.prog fs39 := listed_cons Tryd.func39 c39 l41 (by decide)
noncomputable def fs37 : List (Nat × FnI) := (37, i37) :: fs39
theorem l37 : Listed Tryd.prog fs37 := listed_cons Tryd.func37 c37 l39 (by decide)
noncomputable def fs36 : List (Nat × FnI) := (36, i36) :: fs37
theorem l36 : Listed Tryd.prog fs36 := listed_cons Tryd.func36 c36 l37 (by decide)
noncomputable def fs34 : List (Nat × FnI) := (34, i34) :: fs36
theorem l34 : Listed Tryd.prog fs34 := listed_cons Tryd.func34 c34 l36 (by decide)
noncomputable def fs32 : List (Nat × FnI) := (32, i32) :: fs34
theorem l32 : Listed Tryd.prog fs32 := listed_cons Tryd.func32 c32 l34 (by decide)
noncomputable def fs30 : List (Nat × FnI) := (30, i30) :: fs32
theorem l30 : Listed Tryd.prog fs30 := listed_cons Tryd.func30 c30 l32 (by decide)
noncomputable def fs28 : List (Nat × FnI) := (28, i28) :: fs30
theorem l28 : Listed Tryd.prog fs28 := listed_cons Tryd.func28 c28 l30 (by decide)
noncomputable def fs26 : List (Nat × FnI) := (26, i26) :: fs28
theorem l26 : Listed Tryd.prog fs26 := listed_cons Tryd.func26 c26 l28 (by decide)
noncomputable def fs24 : List (Nat × FnI) := (24, i24) :: fs26
theorem l24 : Listed Tryd.prog fs24 := listed_cons Tryd.func24 c24 l26 (by decide)
noncomputable def fs23 : List (Nat × FnI) := (23, i23) :: fs24
theorem l23 : Listed Tryd.prog fs23 := listed_cons Tryd.func23 c23 l24 (by decide)
noncomputable def fs21 : List (Nat × FnI) := (21, i21) :: fs23
theorem l21 : Listed Tryd.prog fs21 := listed_cons Tryd.func21 c21 l23 (by decide)
noncomputable def fs19 : List (Nat × FnI) := (19, i19) :: fs21
theorem l19 : Listed Tryd.prog fs19 := listed_cons Tryd.func19 c19 l21 (by decide)
noncomputable def fs17 : List (Nat × FnI) := (17, i17) :: fs19
theorem l17 : Listed Tryd.prog fs17 := listed_cons Tryd.func17 c17 l19 (by decide)
noncomputable def fs16 : List (Nat × FnI) := (16, i16) :: fs17
theorem l16 : Listed Tryd.prog fs16 := listed_cons Tryd.func16 c16 l17 (by decide)
noncomputable def fs14 : List (Nat × FnI) := (14, i14) :: fs16
theorem l14 : Listed Tryd.prog fs14 := listed_cons Tryd.func14 c14 l16 (by decide)
noncomputable def FS : List (Nat × FnI) := fs14
theorem listed : Listed Tryd.prog FS := l14

set_option maxRecDepth 100000
theorem follows : Tryd.prog.follows .mixedOrders = true := by kernel_rfl
def zs64 : List Int := [0, 1, 56, 2, 57, 49, 28, 3, 61, 58, 42, 50, 38, 29, 17, 4, 62, 47, 59, 36, 45, 43, 51, 22, 53, 39, 33, 30, 24, 18, 12, 5, 63, 55, 48, 27, 60, 41, 37, 16, 46, 35, 44, 21, 52, 32, 23, 11, 54, 26, 40, 15, 34, 20, 31, 10, 25, 14, 19, 9, 13, 8, 7, 6]
theorem known_eval : (fun el => okR (evF (FT.of FS) 40 14 .nil (gK + 1) (tabH [(1, el, kL .u8 zs64)]) (gK + 1))) = fun _ => true := by kernel_rfl
theorem known_walk (w : World) (el : TypeId) (hw : Holds w [(1, el, kL .u8 zs64)]) : Calls Tryd.prog 14 #[] w fun e w' => e = .returned (.bool true) ∧ Below w.heap.size w w' :=
  ranTB follows listed [(1, el, kL .u8 zs64)] (congrFun known_eval el) (vs := []) (fun _ => rfl) w hw
end Go.Proofs.YtmbngjlhaelhcaaDoor.Ev
