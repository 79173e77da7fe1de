/- Closed facts for the examples. -/
import Derived.Test.YtjcoaicpeajpnaaPkWc
namespace Go.Proofs.Ytjcoaicpeajpnaa
open Go.RowKit Pk
theorem x1 : gapV [3, 5] = [1, 2, 4, 7] := by decide +kernel
theorem x1e : gapE [3, 5] = 0 := by decide +kernel
theorem x2 : greV [6, 10, 15] = 29 := by decide +kernel
theorem x2e : greE [6, 10, 15] = 0 := by decide +kernel
theorem x3 : remL [6, 10, 15] 0 = [0, 25, 20, 15, 10, 35] := by decide +kernel
theorem x3e : remE [6, 10, 15] 0 = 0 := by decide +kernel
theorem x4 : canV [6, 10, 15] 31 = true := by decide +kernel
theorem x4e : chkN [6, 10, 15] 31 = 0 := by decide +kernel
theorem x5r : whyR [6, 10, 15] 29 = 5 := by decide +kernel
theorem x5m : whyM [6, 10, 15] 29 = 35 := by decide +kernel
theorem x5e : whyE [6, 10, 15] 29 = 0 := by decide +kernel
theorem x6 : makL [1, 4, 6] 8 = [0, 2, 0] := by decide +kernel
theorem x6e : makE [1, 4, 6] 8 = 0 := by decide +kernel
theorem x7 : nedV [3, 5, 6, 8] = [0, 1] := by decide +kernel
theorem x7e : chk [3, 5, 6, 8] = 0 := by decide +kernel
theorem x8 : evnV [3, 4, 5] = false := by decide +kernel
theorem x8e : gapE [3, 4, 5] = 0 := by decide +kernel
theorem x9 : filL [2, 5] [3, 2] 11 = [3, 1] := by decide +kernel
theorem x9e : filE [2, 5] [3, 2] 11 = 0 := by decide +kernel
theorem x10 : wayV [2, 5] [5, 2] 10 = 2 := by decide +kernel
theorem x10e : chkO [2, 5] [5, 2] 10 = 0 := by decide +kernel
theorem x11a : spaA [2, 5] [5, 2] 10 0 = 0 := by decide +kernel
theorem x11b : spaB [2, 5] [5, 2] 10 0 = 5 := by decide +kernel
theorem x11e : spaE [2, 5] [5, 2] 10 0 = 0 := by decide +kernel
theorem x12 : totV [2, 5] [1, 1] = [0, 2, 5, 7] := by decide +kernel
theorem x12e : chkS [2, 5] [1, 1] = 0 := by decide +kernel
theorem x13 : leaV [2, 5] [1, 1] 3 = 5 := by decide +kernel
theorem x13e : leaE [2, 5] [1, 1] 3 = 0 := by decide +kernel
theorem x14e : filE [2, 5] [3, 2] 13 = 12 := by decide +kernel
theorem x14 : filL [2, 5] [3, 2] 13 = [] := by decide +kernel
end Go.Proofs.Ytjcoaicpeajpnaa
