/- HatSmallest: all sets, and all numbers of helpers. -/
import Derived.Test.YtjhgingmbklhaaaThS1
import Derived.Test.YtjhgingmbklhaaaThS2
import Derived.Test.YtjhgingmbklhaaaThS3
import Derived.Test.YtjhgingmbklhaaaThS4
import Derived.Test.YtjhgingmbklhaaaThS5
import Derived.Test.YtjhgingmbklhaaaThS6
import Derived.Test.YtjhgingmbklhaaaThS7
import Derived.Test.YtjhgingmbklhaaaThS8
namespace Go.Proofs.Ytjhgingmbklhaaa.Ev
set_option linter.unusedVariables false
set_option maxRecDepth 100000
open Go Go.Proofs Go.RowKit
theorem ok_to {a b c : Nat} (h : ∀ k, k < a → ok k = true) (h2 : ((List.range c).all fun i => ok (a + i)) = true) (hb : b = a + c) (k : Nat) (hk : k < b) : ok k = true := by
  by_cases h1 : k < a
  · exact h k h1
  · exact chunkB h2 (by omega) (by omega)
theorem so102 (k : Nat) (hk : k < 102) : ok k = true := ok_to (a := 0) (c := 102) (fun k hk => absurd hk (Nat.not_lt_zero k)) sk0 rfl k hk
theorem so203 (k : Nat) (hk : k < 203) : ok k = true := ok_to (a := 102) (c := 101) so102 sk102 rfl k hk
theorem so303 (k : Nat) (hk : k < 303) : ok k = true := ok_to (a := 203) (c := 100) so203 sk203 rfl k hk
theorem so403 (k : Nat) (hk : k < 403) : ok k = true := ok_to (a := 303) (c := 100) so303 sk303 rfl k hk
theorem so522 (k : Nat) (hk : k < 522) : ok k = true := ok_to (a := 403) (c := 119) so403 sk403 rfl k hk
theorem so649 (k : Nat) (hk : k < 649) : ok k = true := ok_to (a := 522) (c := 127) so522 sk522 rfl k hk
theorem so817 (k : Nat) (hk : k < 817) : ok k = true := ok_to (a := 649) (c := 168) so649 sk649 rfl k hk
theorem so1066 (k : Nat) (hk : k < 1066) : ok k = true := ok_to (a := 817) (c := 249) so817 sk817 rfl k hk
theorem so1349 (k : Nat) (hk : k < 1349) : ok k = true := ok_to (a := 1066) (c := 283) so1066 sk1066 rfl k hk
theorem so1868 (k : Nat) (hk : k < 1868) : ok k = true := ok_to (a := 1349) (c := 519) so1349 sk1349 rfl k hk
theorem so2193 (k : Nat) (hk : k < 2193) : ok k = true := ok_to (a := 1868) (c := 325) so1868 sk1868 rfl k hk
theorem so2589 (k : Nat) (hk : k < 2589) : ok k = true := ok_to (a := 2193) (c := 396) so2193 sk2193 rfl k hk
theorem so3131 (k : Nat) (hk : k < 3131) : ok k = true := ok_to (a := 2589) (c := 542) so2589 sk2589 rfl k hk
theorem so3841 (k : Nat) (hk : k < 3841) : ok k = true := ok_to (a := 3131) (c := 710) so3131 sk3131 rfl k hk
theorem so4228 (k : Nat) (hk : k < 4228) : ok k = true := ok_to (a := 3841) (c := 387) so3841 sk3841 rfl k hk
theorem so4618 (k : Nat) (hk : k < 4618) : ok k = true := ok_to (a := 4228) (c := 390) so4228 sk4228 rfl k hk
theorem so5153 (k : Nat) (hk : k < 5153) : ok k = true := ok_to (a := 4618) (c := 535) so4618 sk4618 rfl k hk
theorem so5827 (k : Nat) (hk : k < 5827) : ok k = true := ok_to (a := 5153) (c := 674) so5153 sk5153 rfl k hk
theorem so6409 (k : Nat) (hk : k < 6409) : ok k = true := ok_to (a := 5827) (c := 582) so5827 sk5827 rfl k hk
theorem so7203 (k : Nat) (hk : k < 7203) : ok k = true := ok_to (a := 6409) (c := 794) so6409 sk6409 rfl k hk
theorem so8098 (k : Nat) (hk : k < 8098) : ok k = true := ok_to (a := 7203) (c := 895) so7203 sk7203 rfl k hk
theorem so8354 (k : Nat) (hk : k < 8354) : ok k = true := ok_to (a := 8098) (c := 256) so8098 sk8098 rfl k hk
theorem so8753 (k : Nat) (hk : k < 8753) : ok k = true := ok_to (a := 8354) (c := 399) so8354 sk8354 rfl k hk
theorem so9289 (k : Nat) (hk : k < 9289) : ok k = true := ok_to (a := 8753) (c := 536) so8753 sk8753 rfl k hk
theorem so10036 (k : Nat) (hk : k < 10036) : ok k = true := ok_to (a := 9289) (c := 747) so9289 sk9289 rfl k hk
theorem so10625 (k : Nat) (hk : k < 10625) : ok k = true := ok_to (a := 10036) (c := 589) so10036 sk10036 rfl k hk
theorem so11437 (k : Nat) (hk : k < 11437) : ok k = true := ok_to (a := 10625) (c := 812) so10625 sk10625 rfl k hk
theorem so12292 (k : Nat) (hk : k < 12292) : ok k = true := ok_to (a := 11437) (c := 855) so11437 sk11437 rfl k hk
theorem so12865 (k : Nat) (hk : k < 12865) : ok k = true := ok_to (a := 12292) (c := 573) so12292 sk12292 rfl k hk
theorem so13727 (k : Nat) (hk : k < 13727) : ok k = true := ok_to (a := 12865) (c := 862) so12865 sk12865 rfl k hk
theorem so14557 (k : Nat) (hk : k < 14557) : ok k = true := ok_to (a := 13727) (c := 830) so13727 sk13727 rfl k hk
theorem so15435 (k : Nat) (hk : k < 15435) : ok k = true := ok_to (a := 14557) (c := 878) so14557 sk14557 rfl k hk
theorem so16282 (k : Nat) (hk : k < 16282) : ok k = true := ok_to (a := 15435) (c := 847) so15435 sk15435 rfl k hk
theorem so16544 (k : Nat) (hk : k < 16544) : ok k = true := ok_to (a := 16282) (c := 262) so16282 sk16282 rfl k hk
theorem so16933 (k : Nat) (hk : k < 16933) : ok k = true := ok_to (a := 16544) (c := 389) so16544 sk16544 rfl k hk
theorem so17476 (k : Nat) (hk : k < 17476) : ok k = true := ok_to (a := 16933) (c := 543) so16933 sk16933 rfl k hk
theorem so18213 (k : Nat) (hk : k < 18213) : ok k = true := ok_to (a := 17476) (c := 737) so17476 sk17476 rfl k hk
theorem so18803 (k : Nat) (hk : k < 18803) : ok k = true := ok_to (a := 18213) (c := 590) so18213 sk18213 rfl k hk
theorem so19604 (k : Nat) (hk : k < 19604) : ok k = true := ok_to (a := 18803) (c := 801) so18803 sk18803 rfl k hk
theorem so20481 (k : Nat) (hk : k < 20481) : ok k = true := ok_to (a := 19604) (c := 877) so19604 sk19604 rfl k hk
theorem so21030 (k : Nat) (hk : k < 21030) : ok k = true := ok_to (a := 20481) (c := 549) so20481 sk20481 rfl k hk
theorem so21885 (k : Nat) (hk : k < 21885) : ok k = true := ok_to (a := 21030) (c := 855) so21030 sk21030 rfl k hk
theorem so22715 (k : Nat) (hk : k < 22715) : ok k = true := ok_to (a := 21885) (c := 830) so21885 sk21885 rfl k hk
theorem so23592 (k : Nat) (hk : k < 23592) : ok k = true := ok_to (a := 22715) (c := 877) so22715 sk22715 rfl k hk
theorem so24445 (k : Nat) (hk : k < 24445) : ok k = true := ok_to (a := 23592) (c := 853) so23592 sk23592 rfl k hk
theorem so25007 (k : Nat) (hk : k < 25007) : ok k = true := ok_to (a := 24445) (c := 562) so24445 sk24445 rfl k hk
theorem so25815 (k : Nat) (hk : k < 25815) : ok k = true := ok_to (a := 25007) (c := 808) so25007 sk25007 rfl k hk
theorem so26649 (k : Nat) (hk : k < 26649) : ok k = true := ok_to (a := 25815) (c := 834) so25815 sk25815 rfl k hk
theorem so27539 (k : Nat) (hk : k < 27539) : ok k = true := ok_to (a := 26649) (c := 890) so26649 sk26649 rfl k hk
theorem so28393 (k : Nat) (hk : k < 28393) : ok k = true := ok_to (a := 27539) (c := 854) so27539 sk27539 rfl k hk
theorem so29193 (k : Nat) (hk : k < 29193) : ok k = true := ok_to (a := 28393) (c := 800) so28393 sk28393 rfl k hk
theorem so30076 (k : Nat) (hk : k < 30076) : ok k = true := ok_to (a := 29193) (c := 883) so29193 sk29193 rfl k hk
theorem so30906 (k : Nat) (hk : k < 30906) : ok k = true := ok_to (a := 30076) (c := 830) so30076 sk30076 rfl k hk
theorem so31731 (k : Nat) (hk : k < 31731) : ok k = true := ok_to (a := 30906) (c := 825) so30906 sk30906 rfl k hk
theorem so32528 (k : Nat) (hk : k < 32528) : ok k = true := ok_to (a := 31731) (c := 797) so31731 sk31731 rfl k hk
theorem so32880 (k : Nat) (hk : k < 32880) : ok k = true := ok_to (a := 32528) (c := 352) so32528 sk32528 rfl k hk
theorem so33281 (k : Nat) (hk : k < 33281) : ok k = true := ok_to (a := 32880) (c := 401) so32880 sk32880 rfl k hk
theorem so33803 (k : Nat) (hk : k < 33803) : ok k = true := ok_to (a := 33281) (c := 522) so33281 sk33281 rfl k hk
theorem so34426 (k : Nat) (hk : k < 34426) : ok k = true := ok_to (a := 33803) (c := 623) so33803 sk33803 rfl k hk
theorem so35060 (k : Nat) (hk : k < 35060) : ok k = true := ok_to (a := 34426) (c := 634) so34426 sk34426 rfl k hk
theorem so35843 (k : Nat) (hk : k < 35843) : ok k = true := ok_to (a := 35060) (c := 783) so35060 sk35060 rfl k hk
theorem so36716 (k : Nat) (hk : k < 36716) : ok k = true := ok_to (a := 35843) (c := 873) so35843 sk35843 rfl k hk
theorem so37286 (k : Nat) (hk : k < 37286) : ok k = true := ok_to (a := 36716) (c := 570) so36716 sk36716 rfl k hk
theorem so38094 (k : Nat) (hk : k < 38094) : ok k = true := ok_to (a := 37286) (c := 808) so37286 sk37286 rfl k hk
theorem so38929 (k : Nat) (hk : k < 38929) : ok k = true := ok_to (a := 38094) (c := 835) so38094 sk38094 rfl k hk
theorem so39821 (k : Nat) (hk : k < 39821) : ok k = true := ok_to (a := 38929) (c := 892) so38929 sk38929 rfl k hk
theorem so40676 (k : Nat) (hk : k < 40676) : ok k = true := ok_to (a := 39821) (c := 855) so39821 sk39821 rfl k hk
theorem so41228 (k : Nat) (hk : k < 41228) : ok k = true := ok_to (a := 40676) (c := 552) so40676 sk40676 rfl k hk
theorem so42022 (k : Nat) (hk : k < 42022) : ok k = true := ok_to (a := 41228) (c := 794) so41228 sk41228 rfl k hk
theorem so42917 (k : Nat) (hk : k < 42917) : ok k = true := ok_to (a := 42022) (c := 895) so42022 sk42022 rfl k hk
theorem so43756 (k : Nat) (hk : k < 43756) : ok k = true := ok_to (a := 42917) (c := 839) so42917 sk42917 rfl k hk
theorem so44619 (k : Nat) (hk : k < 44619) : ok k = true := ok_to (a := 43756) (c := 863) so43756 sk43756 rfl k hk
theorem so45415 (k : Nat) (hk : k < 45415) : ok k = true := ok_to (a := 44619) (c := 796) so44619 sk44619 rfl k hk
theorem so46294 (k : Nat) (hk : k < 46294) : ok k = true := ok_to (a := 45415) (c := 879) so45415 sk45415 rfl k hk
theorem so47108 (k : Nat) (hk : k < 47108) : ok k = true := ok_to (a := 46294) (c := 814) so46294 sk46294 rfl k hk
theorem so47971 (k : Nat) (hk : k < 47971) : ok k = true := ok_to (a := 47108) (c := 863) so47108 sk47108 rfl k hk
theorem so48768 (k : Nat) (hk : k < 48768) : ok k = true := ok_to (a := 47971) (c := 797) so47971 sk47971 rfl k hk
theorem so49313 (k : Nat) (hk : k < 49313) : ok k = true := ok_to (a := 48768) (c := 545) so48768 sk48768 rfl k hk
theorem so50127 (k : Nat) (hk : k < 50127) : ok k = true := ok_to (a := 49313) (c := 814) so49313 sk49313 rfl k hk
theorem so50974 (k : Nat) (hk : k < 50974) : ok k = true := ok_to (a := 50127) (c := 847) so50127 sk50127 rfl k hk
theorem so51807 (k : Nat) (hk : k < 51807) : ok k = true := ok_to (a := 50974) (c := 833) so50974 sk50974 rfl k hk
theorem so52677 (k : Nat) (hk : k < 52677) : ok k = true := ok_to (a := 51807) (c := 870) so51807 sk51807 rfl k hk
theorem so53464 (k : Nat) (hk : k < 53464) : ok k = true := ok_to (a := 52677) (c := 787) so52677 sk52677 rfl k hk
theorem so54341 (k : Nat) (hk : k < 54341) : ok k = true := ok_to (a := 53464) (c := 877) so53464 sk53464 rfl k hk
theorem so55189 (k : Nat) (hk : k < 55189) : ok k = true := ok_to (a := 54341) (c := 848) so54341 sk54341 rfl k hk
theorem so56035 (k : Nat) (hk : k < 56035) : ok k = true := ok_to (a := 55189) (c := 846) so55189 sk55189 rfl k hk
theorem so56832 (k : Nat) (hk : k < 56832) : ok k = true := ok_to (a := 56035) (c := 797) so56035 sk56035 rfl k hk
theorem so57584 (k : Nat) (hk : k < 57584) : ok k = true := ok_to (a := 56832) (c := 752) so56832 sk56832 rfl k hk
theorem so58462 (k : Nat) (hk : k < 58462) : ok k = true := ok_to (a := 57584) (c := 878) so57584 sk57584 rfl k hk
theorem so59305 (k : Nat) (hk : k < 59305) : ok k = true := ok_to (a := 58462) (c := 843) so58462 sk58462 rfl k hk
theorem so60150 (k : Nat) (hk : k < 60150) : ok k = true := ok_to (a := 59305) (c := 845) so59305 sk59305 rfl k hk
theorem so60950 (k : Nat) (hk : k < 60950) : ok k = true := ok_to (a := 60150) (c := 800) so60150 sk60150 rfl k hk
theorem so61747 (k : Nat) (hk : k < 61747) : ok k = true := ok_to (a := 60950) (c := 797) so60950 sk60950 rfl k hk
theorem so62571 (k : Nat) (hk : k < 62571) : ok k = true := ok_to (a := 61747) (c := 824) so61747 sk61747 rfl k hk
theorem so63351 (k : Nat) (hk : k < 63351) : ok k = true := ok_to (a := 62571) (c := 780) so62571 sk62571 rfl k hk
theorem so64139 (k : Nat) (hk : k < 64139) : ok k = true := ok_to (a := 63351) (c := 788) so63351 sk63351 rfl k hk
theorem so64888 (k : Nat) (hk : k < 64888) : ok k = true := ok_to (a := 64139) (c := 749) so64139 sk64139 rfl k hk
theorem so65536 (k : Nat) (hk : k < 65536) : ok k = true := ok_to (a := 64888) (c := 648) so64888 sk64888 rfl k hk
theorem s_end : exB 0 3000000 [(3, .n 4), (4, slB (bst 65536))] (hpB (bst 65536)) (rn 65536) = true := by kernel_rfl
theorem s_n1 : finR res8 ((kC (q8.rst 3) nK).f (EW 60) 256 (mkE [(3, .n 1), (4, .ns)]) .lf 300) = true := by kernel_rfl
theorem s_n2 : finR res8 ((kC (q8.rst 3) nK).f (EW 60) 256 (mkE [(3, .n 2), (4, .ns)]) .lf 300) = true := by kernel_rfl
theorem s_n3 : finR res8 ((kC (q8.rst 3) nK).f (EW 60) 256 (mkE [(3, .n 3), (4, .ns)]) .lf 300) = true := by kernel_rfl
theorem s_n4 : finR res8 ((kC qC nK).f (EW 60) 256 (mkE [(3, .n 4), (4, slB (bst 65536))]) (hpC (hpB (bst 65536))) 3000000) = true := by kernel_rfl
theorem s_a : obsC 1000 [3, 4, 22, 23] [] (runP (EW 60) 256 1000 [qA] (.nor (mkE [(3, .n 4), (4, .ns)]) .lf 300)) = (true, [.n 4, .ns, .n 65536, .n 0], true) := by kernel_rfl
theorem lS_all (k : Nat) : ((lS k).all fun x => decide (x.1 < 4294967296)) = true := rfl
theorem sm_4 : JQ Try.prog drops Try.f8.ntmps (EW 60) (q8.rst 3) 256 (Kend res8 (Good 0 (.v (.b true)))) (mkE [(3, .n 4), (4, .ns)]) .lf 300 := by
  have hF := EW_ok 60
  have hM := EW_mono 60
  rw [q8_t]
  refine JQ.seq ?_
  refine JQ.stageC follows hF hM (m := 1000) [qA] [(3, .n 4), (4, .ns), (22, .n 65536), (23, .n 0)] [] rfl s_a rfl (by unfold big; omega) ?_
  refine JQ.block ?_
  obtain ⟨e', h', n', hr, he, hh, hn⟩ := exB_ok rfl s_end
  refine JQ.count follows hF hM 65536 (fun k => mkE (lS k)) (fun k => hpC (hpB (bst k))) nN (fun k hk => by unfold big nN; show 1000 + 40 * k < _; omega) (EnvLe.refl _) (HpLe.refl _) (by decide) (fun k hk => ?_) ⟨0, e', h', n', hr, by unfold big; omega, ?_⟩
  · exact rndB_ok (lS_all _) (so65536 k hk)
  · simp only [Kblk, if_true, Kseq]
    exact JQ.later hn (JQ.weak he hh (JQ.fin follows hF hM s_n4))
theorem wf_u8 {b : Int} (h : (Lit.int .u8 b).wf = true) : ∃ a : Nat, b = a ∧ a ≤ 255 := by
  simp [Lit.wf] at h
  have h1 : IntKind.u8.min = 0 := by decide
  have h2 : IntKind.u8.max = 255 := by decide
  rw [h1, h2] at h
  exact ⟨b.toNat, by omega, by omega⟩
theorem sm_run (a : Nat) (ha : a ≤ 255) : JQ Try.prog drops Try.f8.ntmps (EW 60) q8 256 (Kend res8 (Good 0 (.v (.b true)))) (bind (.cons (.i .u8 (a : Int)) .nil) 0 .lf) .lf 256 := by
  have hF := EW_ok 60
  have hM := EW_mono 60
  refine JQ.stages follows hF hM (m := 300) (tabs := []) (l := [(3, .n (a % 4 + 1)), (4, .ns)]) (q8.pcs 3) q8_s (List.map_inj_left.1 hs1 a (List.mem_range.2 (by omega))) rfl (by unfold big; omega) ?_
  have h4 : a % 4 < 4 := Nat.mod_lt _ (by omega)
  generalize a % 4 = r at *
  rcases (show r = 0 ∨ r = 1 ∨ r = 2 ∨ r = 3 by omega) with rfl | rfl | rfl | rfl
  · exact JQ.fin follows hF hM s_n1
  · exact JQ.fin follows hF hM s_n2
  · exact JQ.fin follows hF hM s_n3
  · exact sm_4
theorem smallest_walk (a : Nat) (ha : a ≤ 255) (W : World) : Calls Try.prog 8 #[.int .u8 (a : Int)] W fun e w' => e = .returned (.bool true) ∧ Below W.heap.size W w' :=
  lawC Try.func8 n8 b8 k8 r8 (args := .cons (.i .u8 (a : Int)) .nil) (by simp [L.length]) rfl (sm_run a ha) (vs := [.int .u8 (a : Int)]) (fun g => ⟨_, _, rfl, rfl, rfl⟩) W
end Go.Proofs.Ytjhgingmbklhaaa.Ev
