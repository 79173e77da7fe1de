/- The functions that this law reaches, for the evaluator; its answer. -/
import Derived.Test.YtenlmjnejjdnnaaDoorEvX
import Derived.Test.YtenlmjnejjdnnaaDoorProg
import Derived.KernelRfl
namespace Go.Proofs.YtenlmjnejjdnnaaDoor.Ev
open Go Go.Proofs Go.RowKit
def drops : List Nat := [13, 14, 15, 20, 21, 23, 29, 31, 35, 41, 47, 56, 58, 61, 65, 68, 70, 75, 76, 77, 78, 81, 82, 83]
noncomputable def i14 : FnI := (compF Tryd.prog drops true true Tryd.f14).getD (.mk false false .skip [])
theorem c14 : compF Tryd.prog drops true true Tryd.f14 = some i14 := by kernel_rfl
noncomputable def i15 : FnI := (compF Tryd.prog drops true true Tryd.f15).getD (.mk false false .skip [])
theorem c15 : compF Tryd.prog drops true true Tryd.f15 = some i15 := by kernel_rfl
noncomputable def i16 : FnI := (compF Tryd.prog drops true false Tryd.f16).getD (.mk false false .skip [])
theorem c16 : compF Tryd.prog drops true false Tryd.f16 = some i16 := by kernel_rfl
noncomputable def i18 : FnI := (compF Tryd.prog drops true false Tryd.f18).getD (.mk false false .skip [])
theorem c18 : compF Tryd.prog drops true false Tryd.f18 = some i18 := by kernel_rfl
noncomputable def i20 : FnI := (compF Tryd.prog drops true true Tryd.f20).getD (.mk false false .skip [])
theorem c20 : compF Tryd.prog drops true true Tryd.f20 = some i20 := by kernel_rfl
noncomputable def i21 : FnI := (compF Tryd.prog drops true true Tryd.f21).getD (.mk false false .skip [])
theorem c21 : compF Tryd.prog drops true true Tryd.f21 = some i21 := by kernel_rfl
noncomputable def i23 : FnI := (compF Tryd.prog drops true true Tryd.f23).getD (.mk false false .skip [])
theorem c23 : compF Tryd.prog drops true true Tryd.f23 = some i23 := by kernel_rfl
noncomputable def i25 : FnI := (compF Tryd.prog drops true false Tryd.f25).getD (.mk false false .skip [])
theorem c25 : compF Tryd.prog drops true false Tryd.f25 = some i25 := by kernel_rfl
noncomputable def i27 : FnI := (compF Tryd.prog drops true false Tryd.f27).getD (.mk false false .skip [])
theorem c27 : compF Tryd.prog drops true false Tryd.f27 = some i27 := by kernel_rfl
noncomputable def i29 : FnI := (compF Tryd.prog drops true true Tryd.f29).getD (.mk false false .skip [])
theorem c29 : compF Tryd.prog drops true true Tryd.f29 = some i29 := by kernel_rfl
noncomputable def i31 : FnI := (compF Tryd.prog drops true true Tryd.f31).getD (.mk false false .skip [])
theorem c31 : compF Tryd.prog drops true true Tryd.f31 = some i31 := by kernel_rfl
noncomputable def i33 : FnI := (compF Tryd.prog drops true false Tryd.f33).getD (.mk false false .skip [])
theorem c33 : compF Tryd.prog drops true false Tryd.f33 = some i33 := by kernel_rfl
noncomputable def i35 : FnI := (compF Tryd.prog drops true true Tryd.f35).getD (.mk false false .skip [])
theorem c35 : compF Tryd.prog drops true true Tryd.f35 = some i35 := by kernel_rfl
noncomputable def i37 : FnI := (compF Tryd.prog drops true false Tryd.f37).getD (.mk false false .skip [])
theorem c37 : compF Tryd.prog drops true false Tryd.f37 = some i37 := by kernel_rfl
noncomputable def i39 : FnI := (compF Tryd.prog drops true false Tryd.f39).getD (.mk false false .skip [])
theorem c39 : compF Tryd.prog drops true false Tryd.f39 = some i39 := by kernel_rfl
noncomputable def i41 : FnI := (compF Tryd.prog drops true true Tryd.f41).getD (.mk false false .skip [])
theorem c41 : compF Tryd.prog drops true true Tryd.f41 = some i41 := by kernel_rfl
noncomputable def i43 : FnI := (compF Tryd.prog drops true false Tryd.f43).getD (.mk false false .skip [])
theorem c43 : compF Tryd.prog drops true false Tryd.f43 = some i43 := by kernel_rfl
noncomputable def i46 : FnI := (compF Tryd.prog drops true false Tryd.f46).getD (.mk false false .skip [])
theorem c46 : compF Tryd.prog drops true false Tryd.f46 = some i46 := by kernel_rfl
noncomputable def i47 : FnI := (compF Tryd.prog drops true true Tryd.f47).getD (.mk false false .skip [])
theorem c47 : compF Tryd.prog drops true true Tryd.f47 = some i47 := by kernel_rfl
noncomputable def i48 : FnI := (compF Tryd.prog drops true false Tryd.f48).getD (.mk false false .skip [])
theorem c48 : compF Tryd.prog drops true false Tryd.f48 = some i48 := by kernel_rfl
noncomputable def i49 : FnI := (compF Tryd.prog drops true false Tryd.f49).getD (.mk false false .skip [])
theorem c49 : compF Tryd.prog drops true false Tryd.f49 = some i49 := by kernel_rfl
noncomputable def i50 : FnI := (compF Tryd.prog drops true false Tryd.f50).getD (.mk false false .skip [])
theorem c50 : compF Tryd.prog drops true false Tryd.f50 = some i50 := by kernel_rfl
noncomputable def i52 : FnI := (compF Tryd.prog drops true false Tryd.f52).getD (.mk false false .skip [])
theorem c52 : compF Tryd.prog drops true false Tryd.f52 = some i52 := by kernel_rfl
noncomputable def i53 : FnI := (compF Tryd.prog drops true false Tryd.f53).getD (.mk false false .skip [])
theorem c53 : compF Tryd.prog drops true false Tryd.f53 = some i53 := by kernel_rfl
noncomputable def i56 : FnI := (compF Tryd.prog drops true true Tryd.f56).getD (.mk false false .skip [])
theorem c56 : compF Tryd.prog drops true true Tryd.f56 = some i56 := by kernel_rfl
noncomputable def i58 : FnI := (compF Tryd.prog drops true true Tryd.f58).getD (.mk false false .skip [])
theorem c58 : compF Tryd.prog drops true true Tryd.f58 = some i58 := by kernel_rfl
noncomputable def i59 : FnI := (compF Tryd.prog drops true false Tryd.f59).getD (.mk false false .skip [])
theorem c59 : compF Tryd.prog drops true false Tryd.f59 = some i59 := by kernel_rfl
noncomputable def i61 : FnI := (compF Tryd.prog drops true true Tryd.f61).getD (.mk false false .skip [])
theorem c61 : compF Tryd.prog drops true true Tryd.f61 = some i61 := by kernel_rfl
noncomputable def i63 : FnI := (compF Tryd.prog drops true false Tryd.f63).getD (.mk false false .skip [])
theorem c63 : compF Tryd.prog drops true false Tryd.f63 = some i63 := by kernel_rfl
noncomputable def i65 : FnI := (compF Tryd.prog drops true true Tryd.f65).getD (.mk false false .skip [])
theorem c65 : compF Tryd.prog drops true true Tryd.f65 = some i65 := by kernel_rfl
noncomputable def i67 : FnI := (compF Tryd.prog drops true false Tryd.f67).getD (.mk false false .skip [])
theorem c67 : compF Tryd.prog drops true false Tryd.f67 = some i67 := by kernel_rfl
noncomputable def i68 : FnI := (compF Tryd.prog drops true true Tryd.f68).getD (.mk false false .skip [])
theorem c68 : compF Tryd.prog drops true true Tryd.f68 = some i68 := by kernel_rfl
noncomputable def i69 : FnI := (compF Tryd.prog drops true false Tryd.f69).getD (.mk false false .skip [])
theorem c69 : compF Tryd.prog drops true false Tryd.f69 = some i69 := by kernel_rfl
noncomputable def i70 : FnI := (compF Tryd.prog drops true true Tryd.f70).getD (.mk false false .skip [])
theorem c70 : compF Tryd.prog drops true true Tryd.f70 = some i70 := by kernel_rfl
noncomputable def i73 : FnI := (compF Tryd.prog drops true false Tryd.f73).getD (.mk false false .skip [])
theorem c73 : compF Tryd.prog drops true false Tryd.f73 = some i73 := by kernel_rfl
noncomputable def i75 : FnI := (compF Tryd.prog drops true true Tryd.f75).getD (.mk false false .skip [])
theorem c75 : compF Tryd.prog drops true true Tryd.f75 = some i75 := by kernel_rfl
noncomputable def i76 : FnI := (compF Tryd.prog drops true true Tryd.f76).getD (.mk false false .skip [])
theorem c76 : compF Tryd.prog drops true true Tryd.f76 = some i76 := by kernel_rfl
noncomputable def i77 : FnI := (compF Tryd.prog drops true true Tryd.f77).getD (.mk false false .skip [])
theorem c77 : compF Tryd.prog drops true true Tryd.f77 = some i77 := by kernel_rfl
noncomputable def i78 : FnI := (compF Tryd.prog drops true true Tryd.f78).getD (.mk false false .skip [])
theorem c78 : compF Tryd.prog drops true true Tryd.f78 = some i78 := by kernel_rfl
noncomputable def i80 : FnI := (compF Tryd.prog drops true false Tryd.f80).getD (.mk false false .skip [])
theorem c80 : compF Tryd.prog drops true false Tryd.f80 = some i80 := by kernel_rfl
noncomputable def i81 : FnI := (compF Tryd.prog drops true true Tryd.f81).getD (.mk false false .skip [])
theorem c81 : compF Tryd.prog drops true true Tryd.f81 = some i81 := by kernel_rfl
noncomputable def i82 : FnI := (compF Tryd.prog drops true true Tryd.f82).getD (.mk false false .skip [])
theorem c82 : compF Tryd.prog drops true true Tryd.f82 = some i82 := by kernel_rfl
noncomputable def i83 : FnI := (compF Tryd.prog drops true true Tryd.f83).getD (.mk false false .skip [])
theorem c83 : compF Tryd.prog drops true true Tryd.f83 = some i83 := by kernel_rfl
noncomputable def fs83 : List (Nat × FnI) := (83, i83) :: []
theorem l83 : Listed Tryd.prog fs83 := listed_cons Tryd.func83 c83 listed_nil (by decide)
noncomputable def fs82 : List (Nat × FnI) := (82, i82) :: fs83
theorem l82 : Listed Tryd.prog fs82 := listed_cons Tryd.func82 c82 l83 (by decide)
noncomputable def fs81 : List (Nat × FnI) := (81, i81) :: fs82
theorem l81 : Listed Tryd.prog fs81 := listed_cons Tryd.func81 c81 l82 (by decide)
noncomputable def fs80 : List (Nat × FnI) := (80, i80) :: fs81
theorem l80 : Listed Tryd.prog fs80 := listed_cons Tryd.func80 c80 l81 (by decide)
noncomputable def fs78 : List (Nat × FnI) := (78, i78) :: fs80
theorem l78 : Listed Tryd.prog fs78 := listed_cons Tryd.func78 c78 l80 (by decide)
noncomputable def fs77 : List (Nat × FnI) := (77, i77) :: fs78
theorem l77 : Listed Tryd.prog fs77 := listed_cons Tryd.func77 c77 l78 (by decide)
noncomputable def fs76 : List (Nat × FnI) := (76, i76) :: fs77
theorem l76 : Listed Tryd.prog fs76 := listed_cons Tryd.func76 c76 l77 (by decide)
noncomputable def fs75 : List (Nat × FnI) := (75, i75) :: fs76
theorem l75 : Listed Tryd.prog fs75 := listed_cons Tryd.func75 c75 l76 (by decide)
noncomputable def fs73 : List (Nat × FnI) := (73, i73) :: fs75
theorem l73 : Listed Tryd.prog fs73 := listed_cons Tryd.func73 c73 l75 (by decide)
noncomputable def fs70 : List (Nat × FnI) := (70, i70) :: fs73
theorem l70 : Listed Tryd.prog fs70 := listed_cons Tryd.func70 c70 l73 (by decide)
noncomputable def fs69 : List (Nat × FnI) := (69, i69) :: fs70
theorem l69 : Listed Tryd.prog fs69 := listed_cons Tryd.func69 c69 l70 (by decide)
noncomputable def fs68 : List (Nat × FnI) := (68, i68) :: fs69
theorem l68 : Listed Tryd.prog fs68 := listed_cons Tryd.func68 c68 l69 (by decide)
noncomputable def fs67 : List (Nat × FnI) := (67, i67) :: fs68
theorem l67 : Listed Tryd.prog fs67 := listed_cons Tryd.func67 c67 l68 (by decide)
noncomputable def fs65 : List (Nat × FnI) := (65, i65) :: fs67
theorem l65 : Listed Tryd.prog fs65 := listed_cons Tryd.func65 c65 l67 (by decide)
noncomputable def fs63 : List (Nat × FnI) := (63, i63) :: fs65
theorem l63 : Listed Tryd.prog fs63 := listed_cons Tryd.func63 c63 l65 (by decide)
noncomputable def fs61 : List (Nat × FnI) := (61, i61) :: fs63
theorem l61 : Listed Tryd.prog fs61 := listed_cons Tryd.func61 c61 l63 (by decide)
noncomputable def fs59 : List (Nat × FnI) := (59, i59) :: fs61
theorem l59 : Listed Tryd.prog fs59 := listed_cons Tryd.func59 c59 l61 (by decide)
noncomputable def fs58 : List (Nat × FnI) := (58, i58) :: fs59
theorem l58 : Listed Tryd.prog fs58 := listed_cons Tryd.func58 c58 l59 (by decide)
noncomputable def fs56 : List (Nat × FnI) := (56, i56) :: fs58
theorem l56 : Listed Tryd.prog fs56 := listed_cons Tryd.func56 c56 l58 (by decide)
noncomputable def fs53 : List (Nat × FnI) := (53, i53) :: fs56
theorem l53 : Listed Tryd.prog fs53 := listed_cons Tryd.func53 c53 l56 (by decide)
noncomputable def fs52 : List (Nat × FnI) := (52, i52) :: fs53
theorem l52 : Listed Tryd.prog fs52 := listed_cons Tryd.func52 c52 l53 (by decide)
noncomputable def fs50 : List (Nat × FnI) := (50, i50) :: fs52
theorem l50 : Listed Tryd.prog fs50 := listed_cons Tryd.func50 c50 l52 (by decide)
noncomputable def fs49 : List (Nat × FnI) := (49, i49) :: fs50
theorem l49 : Listed Tryd.prog fs49 := listed_cons Tryd.func49 c49 l50 (by decide)
noncomputable def fs48 : List (Nat × FnI) := (48, i48) :: fs49
theorem l48 : Listed Tryd.prog fs48 := listed_cons Tryd.func48 c48 l49 (by decide)
noncomputable def fs47 : List (Nat × FnI) := (47, i47) :: fs48
theorem l47 : Listed Tryd.prog fs47 := listed_cons Tryd.func47 c47 l48 (by decide)
noncomputable def fs46 : List (Nat × FnI) := (46, i46) :: fs47
theorem l46 : Listed Tryd.prog fs46 := listed_cons Tryd.func46 c46 l47 (by decide)
noncomputable def fs43 : List (Nat × FnI) := (43, i43) :: fs46
theorem l43 : Listed Tryd.prog fs43 := listed_cons Tryd.func43 c43 l46 (by decide)
noncomputable def fs41 : List (Nat × FnI) := (41, i41) :: fs43
theorem l41 : Listed Tryd.prog fs41 := listed_cons Tryd.func41 c41 l43 (by decide)
noncomputable def fs39 : List (Nat × FnI) := (39, i39) :: fs41
theorem l39 : Listed Tryd.prog fs39 := listed_cons Tryd.func39 c39 l41 (by decide)
noncomputable def fs37 : List (Nat × FnI) := (37, i37) :: fs39
theorem l37 : Listed Tryd.prog fs37 := listed_cons Tryd.func37 c37 l39 (by decide)
noncomputable def fs35 : List (Nat × FnI) := (35, i35) :: fs37
theorem l35 : Listed Tryd.prog fs35 := listed_cons Tryd.func35 c35 l37 (by decide)
noncomputable def fs33 : List (Nat × FnI) := (33, i33) :: fs35
theorem l33 : Listed Tryd.prog fs33 := listed_cons Tryd.func33 c33 l35 (by decide)
noncomputable def fs31 : List (Nat × FnI) := (31, i31) :: fs33
theorem l31 : Listed Tryd.prog fs31 := listed_cons Tryd.func31 c31 l33 (by decide)
noncomputable def fs29 : List (Nat × FnI) := (29, i29) :: fs31
theorem l29 : Listed Tryd.prog fs29 := listed_cons Tryd.func29 c29 l31 (by decide)
noncomputable def fs27 : List (Nat × FnI) := (27, i27) :: fs29
theorem l27 : Listed Tryd.prog fs27 := listed_cons Tryd.func27 c27 l29 (by decide)
noncomputable def fs25 : List (Nat × FnI) := (25, i25) :: fs27
theorem l25 : Listed Tryd.prog fs25 := listed_cons Tryd.func25 c25 l27 (by decide)
noncomputable def fs23 : List (Nat × FnI) := (23, i23) :: fs25
theorem l23 : Listed Tryd.prog fs23 := listed_cons Tryd.func23 c23 l25 (by decide)
noncomputable def fs21 : List (Nat × FnI) := (21, i21) :: fs23
theorem l21 : Listed Tryd.prog fs21 := listed_cons Tryd.func21 c21 l23 (by decide)
noncomputable def fs20 : List (Nat × FnI) := (20, i20) :: fs21
theorem l20 : Listed Tryd.prog fs20 := listed_cons Tryd.func20 c20 l21 (by decide)
noncomputable def fs18 : List (Nat × FnI) := (18, i18) :: fs20
theorem l18 : Listed Tryd.prog fs18 := listed_cons Tryd.func18 c18 l20 (by decide)
noncomputable def fs16 : List (Nat × FnI) := (16, i16) :: fs18
theorem l16 : Listed Tryd.prog fs16 := listed_cons Tryd.func16 c16 l18 (by decide)
noncomputable def fs15 : List (Nat × FnI) := (15, i15) :: fs16
theorem l15 : Listed Tryd.prog fs15 := listed_cons Tryd.func15 c15 l16 (by decide)
noncomputable def fs14 : List (Nat × FnI) := (14, i14) :: fs15
theorem l14 : Listed Tryd.prog fs14 := listed_cons Tryd.func14 c14 l15 (by decide)
noncomputable def FS : List (Nat × FnI) := fs14
theorem listed : Listed Tryd.prog FS := l14

theorem follows : Tryd.prog.follows .mixedOrders = true := by kernel_rfl
def zs64 : List Int := [0, 1, 56, 2, 57, 49, 28, 3, 61, 58, 42, 50, 38, 29, 17, 4, 62, 47, 59, 36, 45, 43, 51, 22, 53, 39, 33, 30, 24, 18, 12, 5, 63, 55, 48, 27, 60, 41, 37, 16, 46, 35, 44, 21, 52, 32, 23, 11, 54, 26, 40, 15, 34, 20, 31, 10, 25, 14, 19, 9, 13, 8, 7, 6]
theorem works_eval : (fun el => okR (evF (FT.of FS) 20 15 .nil (gK + 1) (tabH [(1, el, kL .u8 zs64)]) (gK + 1))) = fun _ => true := by kernel_rfl
theorem works_walk (w : World) (el : TypeId) (hw : Holds w [(1, el, kL .u8 zs64)]) : Calls Tryd.prog 15 #[] w fun e w' => e = .returned (.bool true) ∧ Below w.heap.size w w' :=
  ranTB follows listed [(1, el, kL .u8 zs64)] (congrFun works_eval el) (vs := []) (fun _ => rfl) w hw
/-- What a call keeps. -/
theorem Holds.below {w w' : World} {B : Nat} : ∀ {l : List (Nat × TypeId × L)}, Holds w l → Below B w w' → (∀ x ∈ l, x.1 < B) → Holds w' l
  | [], _, _, _ => trivial
  | (k, el, z) :: l, h, b, hB => by
    obtain ⟨⟨h1, h2, h3, vs, h4, h5⟩, h6⟩ := h
    exact ⟨⟨h1, h2, h3, vs, (b.block k (hB (k, el, z) (List.mem_cons_self ..))).trans h4, h5⟩, Holds.below h6 b fun x hx => hB x (List.mem_cons_of_mem _ hx)⟩
theorem Holds.lt {w : World} {k : Nat} {el : TypeId} {z : L} (h : Holds w [(k, el, z)]) : k < w.heap.size := by
  obtain ⟨⟨_, _, _, vs, h4, _⟩, _⟩ := h
  exact (Array.getElem?_eq_some_iff.1 h4).1
end Go.Proofs.YtenlmjnejjdnnaaDoor.Ev
