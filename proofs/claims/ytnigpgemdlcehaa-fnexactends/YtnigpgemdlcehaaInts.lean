/- What the law's own small functions over numbers do: eqIntS, markIntS, heldIntS. -/
import Derived.Test.YtnigpgemdlcehaaRows
import Derived.Test.YtnigpgemdlcehaaBase
import Derived.BigQuiet
namespace Go.Proofs.Ytnigpgemdlcehaa
open Go.RowKit
set_option linter.unusedVariables false


/-- What is marked: so many numbers, counted on from k. -/
def mki (k : Int) (n : Nat) : List Int := (List.range n).map fun (i : Nat) => k + (i : Int)
theorem mki_length (k : Int) (n : Nat) : (mki k n).length = n := by simp [mki]
theorem mki_get (k : Int) (n i : Nat) (h : i < n) : (mki k n).getD i 0 = k + i := by
  simp [mki, h]
theorem mki_succ (k : Int) (n : Nat) : mki k (n + 1) = mki k n ++ [k + n] := by
  simp [mki, List.range_succ]



theorem info_i64 : (Try.prog.info? 3).map (fun i => (i.zero, i.size, i.bytes)) = some (some (.int .i64 0), 1, 8) := by kernel_rfl

end Go.Proofs.Ytnigpgemdlcehaa
