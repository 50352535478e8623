/-
  Configs: the document's example. No program is imported.
-/
import Derived.Test.YtffenndchmcncaaGreatDoorPureConf4
namespace Go.Pantry
open Go.RowKit
def anchT1 : List UInt8 := [115, 105, 116, 101, 32, 97, 46, 98, 32, 123, 32, 116, 116, 108, 32, 53, 32, 54, 48, 59, 32, 107, 101, 121, 32, 112, 97, 116, 104, 32, 104, 101, 97, 100, 101, 114, 32, 97, 99, 99, 101, 112, 116, 59, 32, 125]
def anchT2 : List UInt8 := [115, 105, 116, 101, 32, 97, 32, 123, 10, 32, 111, 114, 105, 103, 105, 110, 32, 48, 59, 32, 125]
def anchS : SiteM := ⟨[97, 46, 98], 1, 5, 60, false, true, [[97, 99, 99, 101, 112, 116]]⟩
theorem anch1 : readM anchT1 = ([anchS], 0, 0) := by decide +kernel
theorem anch2 : readM anchT2 = ([], 11, 2) := by decide +kernel
end Go.Pantry
