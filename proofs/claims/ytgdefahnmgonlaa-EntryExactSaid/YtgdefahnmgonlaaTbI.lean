/- Table: Key of the program; no condition but sizes. -/
import Derived.Test.YtgdefahnmgonlaaOwnU
import Derived.Test.YtgdefahnmgonlaaOrS
import Derived.Test.YtgdefahnmgonlaaTbR
namespace Go.Proofs.Ytgdefahnmgonlaa
open Go.RowKit
set_option linter.unusedVariables false
def keyV (H : List (ByteArray × List Fld)) (M : List Fld) (V : List Bool) (F : List (List Int)) (T : List Int) (ks : List TKy) : List Int := ks.map fun k => bits .and .u32 (getE V F T k.h k.f) (mkB (widE H M k.h k.f))
theorem keyV_len (H : List (ByteArray × List Fld)) (M : List Fld) (V : List Bool) (F : List (List Int)) (T : List Int) (ks : List TKy) : (keyV H M V F T ks).length = ks.length := by simp [keyV]
theorem keyV_at (H : List (ByteArray × List Fld)) (M : List Fld) (V : List Bool) (F : List (List Int)) (T : List Int) (ks : List TKy) (j : Nat) (h : j < ks.length) : (keyV H M V F T ks).getD j 0 = bits .and .u32 (getE V F T (ks.getD j tkz).h (ks.getD j tkz).f) (mkB (widE H M (ks.getD j tkz).h (ks.getD j tkz).f)) := by simp [keyV, h]
end Go.Proofs.Ytgdefahnmgonlaa
