/- TopDigits: all states, all numbers. -/
import Derived.Test.YtmgkobjocmgghaaDoorTd1
import Derived.Test.YtmgkobjocmgghaaDoorTd2
import Derived.Test.YtmgkobjocmgghaaDoorTd3
import Derived.Test.YtmgkobjocmgghaaDoorTd4
namespace Go.Proofs.YtmgkobjocmgghaaDoor.Ev
open Go Go.Proofs Go.RowKit
theorem td_all (el : Nat) : ∀ r, r < 32 → tdT el r = true
  | 0, _ => congrFun td_t0 el
  | 1, _ => congrFun td_t1 el
  | 2, _ => congrFun td_t2 el
  | 3, _ => congrFun td_t3 el
  | 4, _ => congrFun td_t4 el
  | 5, _ => congrFun td_t5 el
  | 6, _ => congrFun td_t6 el
  | 7, _ => congrFun td_t7 el
  | 8, _ => congrFun td_t8 el
  | 9, _ => congrFun td_t9 el
  | 10, _ => congrFun td_t10 el
  | 11, _ => congrFun td_t11 el
  | 12, _ => congrFun td_t12 el
  | 13, _ => congrFun td_t13 el
  | 14, _ => congrFun td_t14 el
  | 15, _ => congrFun td_t15 el
  | 16, _ => congrFun td_t16 el
  | 17, _ => congrFun td_t17 el
  | 18, _ => congrFun td_t18 el
  | 19, _ => congrFun td_t19 el
  | 20, _ => congrFun td_t20 el
  | 21, _ => congrFun td_t21 el
  | 22, _ => congrFun td_t22 el
  | 23, _ => congrFun td_t23 el
  | 24, _ => congrFun td_t24 el
  | 25, _ => congrFun td_t25 el
  | 26, _ => congrFun td_t26 el
  | 27, _ => congrFun td_t27 el
  | 28, _ => congrFun td_t28 el
  | 29, _ => congrFun td_t29 el
  | 30, _ => congrFun td_t30 el
  | 31, _ => congrFun td_t31 el
  | _ + 32, h => by omega
theorem td_walk (a : Nat) (ha : a ≤ 255) (w : World) (el : TypeId) (hw : Holds w [(1, el, kL .u8 zs64)]) : Calls Tryd.prog 3 #[.int .u8 a] w fun e w' => e = .returned (.bool true) ∧ Below w.heap.size w w' := by
  have hm : a ∈ List.range 256 := List.mem_range.2 (by omega)
  have h0 := List.map_inj_left.1 (congrFun td_h0 el) a hm
  have h1 := List.map_inj_left.1 (congrFun td_h1 el) a hm
  have h2 := List.map_inj_left.1 (congrFun td_same el) a hm
  have ht := td_all el (a % 32) (Nat.mod_lt _ (by decide))
  unfold tdT at ht
  rw [← h2] at ht
  exact ranK follows listed [(1, el, kL .u8 zs64)] (args := tdArg a) Tryd.func3 td_body td_k0 td_k1 td_k2 td_res (by show 1 < _; decide) [tp 0, tp 16, tp 17] h0 h1 ht (vs := [.int .u8 a]) (fun _ => ⟨_, [], rfl, rfl, rfl⟩) w hw
end Go.Proofs.YtmgkobjocmgghaaDoor.Ev
