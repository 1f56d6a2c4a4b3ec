/-
  THE DOCUMENT's NUMBERS AS BYTES (castellanref02.size, Num, Int, Flag): at every number. No condition but that a number fits its kind.
-/
import Derived.Test.YthoeajiojdfgdaaDoorSlc
import Derived.Test.YthoeajiojdfgdaaDoorWnum
import Derived.Test.YthoeajiojdfgdaaDoorProg
import Derived.WalkKit
import Derived.WalkSpells
import Derived.Below
import Derived.WalkSmall
namespace Go.Proofs.YthoeajiojdfgdaaDoor
open Go.RowKit




theorem cells_eq (w : World) (a b : List Int) (h : a = b) : w.alloc (.cells (bv a).toArray 5) = w.alloc (.cells (bv b).toArray 5) := by rw [h]






theorem numL_2 {n : Int} (h0 : 64 ≤ n) (h : n < 16384) : [n / 256 % 256 + 64, n % 256] = numL n := by
  rw [numL, if_neg (by omega), if_pos h]
  rw [show n / 256 % 256 = n / 256 by omega]
theorem numL_4 {n : Int} (h0 : 16384 ≤ n) (h : n < 1073741824) : [n / 256 / 256 / 256 % 256 + 128, n / 256 / 256 % 256, n / 256 % 256, n % 256] = numL n := by
  rw [numL, if_neg (by omega), if_neg (by omega), if_pos h]
  rw [show n / 256 / 256 / 256 % 256 = n / 16777216 by omega, show n / 256 / 256 % 256 = n / 65536 % 256 by omega]
theorem numL_8 {n : Int} (h0 : 1073741824 ≤ n) (h : n ≤ 4611686018427387903) :
    [n / 256 / 256 / 256 / 256 / 256 / 256 / 256 % 256 + 192, n / 256 / 256 / 256 / 256 / 256 / 256 % 256, n / 256 / 256 / 256 / 256 / 256 % 256, n / 256 / 256 / 256 / 256 % 256, n / 256 / 256 / 256 % 256, n / 256 / 256 % 256, n / 256 % 256, n % 256] = numL n := by
  rw [numL, if_neg (by omega), if_neg (by omega), if_neg (by omega)]
  rw [show n / 256 / 256 / 256 / 256 / 256 / 256 / 256 % 256 = n / 72057594037927936 by omega, show n / 256 / 256 / 256 / 256 / 256 / 256 % 256 = n / 281474976710656 % 256 by omega, show n / 256 / 256 / 256 / 256 / 256 % 256 = n / 1099511627776 % 256 by omega,
    show n / 256 / 256 / 256 / 256 % 256 = n / 4294967296 % 256 by omega, show n / 256 / 256 / 256 % 256 = n / 16777216 % 256 by omega, show n / 256 / 256 % 256 = n / 65536 % 256 by omega]


end Go.Proofs.YthoeajiojdfgdaaDoor
