/- Texts as lists of bytes. Nothing of the program. -/
import Derived.Test.YtmfbbbnenngehaaB9
import Derived.Lib.AppendStr
import Derived.Laws.BytesArg
namespace Go.Proofs.Ytmfbbbnenngehaa
open Go.RowKit

def strL (l : List UInt8) : ByteArray := ⟨l.toArray⟩

theorem strL_size (l : List UInt8) : (strL l).size = l.length := by simp [strL, ByteArray.size]

theorem strL_append (a b : List UInt8) : strL a ++ strL b = strL (a ++ b) := by
  apply ByteArray.ext
  rw [ByteArray.data_append]
  simp [strL]

theorem strAddS (a b : List UInt8) (h : a.length + b.length ≤ 1000000000) : Op.stringOp .add (strL a) (strL b) = pure (.string (strL (a ++ b))) := by
  have e : ¬ ((((strL a).size + (strL b).size : Nat) : Int) > IntKind.i64.max) := by
    rw [strL_size, strL_size]
    have : IntKind.i64.max = 9223372036854775807 := by decide +kernel
    omega
  unfold Op.stringOp
  simp only [if_neg e, strL_append]

theorem strOfNums_strL (bs : List UInt8) : strOfNums (bs.map fun b => (b.toNat : Int)) = strL bs := by
  unfold strOfNums strL
  congr 2
  rw [List.map_map]
  conv => rhs; rw [← List.map_id bs]
  refine List.map_congr_left fun b _ => ?_
  simp
end Go.Proofs.Ytmfbbbnenngehaa
