/- What headNums and letterNums do: the numbers of a letter. -/
import Derived.Test.YtidgiklkgmfmcaaLetter
import Derived.Test.YtidgiklkgmfmcaaFlat
import Derived.Deep.RegionHeld3
import Derived.Deep.AppendLies
namespace Go.Proofs.Ytidgiklkgmfmcaa
open Go.RowKit
set_option linter.unusedVariables false

theorem meth_1 (p : Int)  (w : World) : (method 187 59 (.agg #[.int .i64 p]) "loop.example/g00281/impl.page").run Try.prog w = .ok (51, .int .i64 p) w := by kernel_rfl
set_option maxHeartbeats 400000 in
theorem head_1 (k p : Int) (o : Bool)  (w : World) :
    Calls Try.prog 34 #[.int .i64 k, .iface 59 (.agg #[.int .i64 p]), .bool o] w fun e w' => e = .returned (.slice (some ⟨w.heap.size, 0, none⟩) 3 3) ∧ w' = w.alloc (.cells #[.int .i64 k, .int .i64 p, .int .i64 (bitB o)] 3) := by
  have hm := meth_1
  cases o
  · go_enter Try.func34, Try.ntmps34
    go_wp2
    go_ret
    exact ⟨rfl, rfl⟩
  · go_enter Try.func34, Try.ntmps34
    go_wp2
    go_ret
    exact ⟨rfl, rfl⟩

theorem meth_2 (p : Int)  (w : World) : (method 187 60 (.agg #[.int .i64 p]) "loop.example/g00281/impl.page").run Try.prog w = .ok (51, .int .i64 p) w := by kernel_rfl
set_option maxHeartbeats 400000 in
theorem head_2 (k p : Int) (o : Bool)  (w : World) :
    Calls Try.prog 34 #[.int .i64 k, .iface 60 (.agg #[.int .i64 p]), .bool o] w fun e w' => e = .returned (.slice (some ⟨w.heap.size, 0, none⟩) 3 3) ∧ w' = w.alloc (.cells #[.int .i64 k, .int .i64 p, .int .i64 (bitB o)] 3) := by
  have hm := meth_2
  cases o
  · go_enter Try.func34, Try.ntmps34
    go_wp2
    go_ret
    exact ⟨rfl, rfl⟩
  · go_enter Try.func34, Try.ntmps34
    go_wp2
    go_ret
    exact ⟨rfl, rfl⟩

theorem meth_3 (p : Int) (x0 : Bool) (x1 : Int) (x2 : Int) (x3 : Int) (x4 : Int) (w : World) : (method 187 62 (.agg #[.int .i64 p, .bool x0, .int .i64 x1, .int .i64 x2, .int .i64 x3, .int .i64 x4]) "loop.example/g00281/impl.page").run Try.prog w = .ok (51, .int .i64 p) w := by kernel_rfl
set_option maxHeartbeats 400000 in
theorem head_3 (k p : Int) (o : Bool) (x0 : Bool) (x1 : Int) (x2 : Int) (x3 : Int) (x4 : Int) (w : World) :
    Calls Try.prog 34 #[.int .i64 k, .iface 62 (.agg #[.int .i64 p, .bool x0, .int .i64 x1, .int .i64 x2, .int .i64 x3, .int .i64 x4]), .bool o] w fun e w' => e = .returned (.slice (some ⟨w.heap.size, 0, none⟩) 3 3) ∧ w' = w.alloc (.cells #[.int .i64 k, .int .i64 p, .int .i64 (bitB o)] 3) := by
  have hm := meth_3
  cases o
  · go_enter Try.func34, Try.ntmps34
    go_wp2
    go_ret
    exact ⟨rfl, rfl⟩
  · go_enter Try.func34, Try.ntmps34
    go_wp2
    go_ret
    exact ⟨rfl, rfl⟩

theorem meth_4 (p : Int)  (w : World) : (method 187 63 (.agg #[.int .i64 p]) "loop.example/g00281/impl.page").run Try.prog w = .ok (51, .int .i64 p) w := by kernel_rfl
set_option maxHeartbeats 400000 in
theorem head_4 (k p : Int) (o : Bool)  (w : World) :
    Calls Try.prog 34 #[.int .i64 k, .iface 63 (.agg #[.int .i64 p]), .bool o] w fun e w' => e = .returned (.slice (some ⟨w.heap.size, 0, none⟩) 3 3) ∧ w' = w.alloc (.cells #[.int .i64 k, .int .i64 p, .int .i64 (bitB o)] 3) := by
  have hm := meth_4
  cases o
  · go_enter Try.func34, Try.ntmps34
    go_wp2
    go_ret
    exact ⟨rfl, rfl⟩
  · go_enter Try.func34, Try.ntmps34
    go_wp2
    go_ret
    exact ⟨rfl, rfl⟩

theorem meth_5 (p : Int)  (w : World) : (method 187 64 (.agg #[.int .i64 p]) "loop.example/g00281/impl.page").run Try.prog w = .ok (51, .int .i64 p) w := by kernel_rfl
set_option maxHeartbeats 400000 in
theorem head_5 (k p : Int) (o : Bool)  (w : World) :
    Calls Try.prog 34 #[.int .i64 k, .iface 64 (.agg #[.int .i64 p]), .bool o] w fun e w' => e = .returned (.slice (some ⟨w.heap.size, 0, none⟩) 3 3) ∧ w' = w.alloc (.cells #[.int .i64 k, .int .i64 p, .int .i64 (bitB o)] 3) := by
  have hm := meth_5
  cases o
  · go_enter Try.func34, Try.ntmps34
    go_wp2
    go_ret
    exact ⟨rfl, rfl⟩
  · go_enter Try.func34, Try.ntmps34
    go_wp2
    go_ret
    exact ⟨rfl, rfl⟩

theorem meth_6 (p : Int) (x0 : Bool) (w : World) : (method 187 66 (.agg #[.int .i64 p, .bool x0]) "loop.example/g00281/impl.page").run Try.prog w = .ok (51, .int .i64 p) w := by kernel_rfl
set_option maxHeartbeats 400000 in
theorem head_6 (k p : Int) (o : Bool) (x0 : Bool) (w : World) :
    Calls Try.prog 34 #[.int .i64 k, .iface 66 (.agg #[.int .i64 p, .bool x0]), .bool o] w fun e w' => e = .returned (.slice (some ⟨w.heap.size, 0, none⟩) 3 3) ∧ w' = w.alloc (.cells #[.int .i64 k, .int .i64 p, .int .i64 (bitB o)] 3) := by
  have hm := meth_6
  cases o
  · go_enter Try.func34, Try.ntmps34
    go_wp2
    go_ret
    exact ⟨rfl, rfl⟩
  · go_enter Try.func34, Try.ntmps34
    go_wp2
    go_ret
    exact ⟨rfl, rfl⟩

theorem meth_7 (p : Int) (x0 : Int) (x1 : Int) (x2 : Int) (x3 : Int) (w : World) : (method 187 68 (.agg #[.int .i64 p, .int .i64 x0, .int .i64 x1, .int .i64 x2, .int .i64 x3]) "loop.example/g00281/impl.page").run Try.prog w = .ok (51, .int .i64 p) w := by kernel_rfl
set_option maxHeartbeats 400000 in
theorem head_7 (k p : Int) (o : Bool) (x0 : Int) (x1 : Int) (x2 : Int) (x3 : Int) (w : World) :
    Calls Try.prog 34 #[.int .i64 k, .iface 68 (.agg #[.int .i64 p, .int .i64 x0, .int .i64 x1, .int .i64 x2, .int .i64 x3]), .bool o] w fun e w' => e = .returned (.slice (some ⟨w.heap.size, 0, none⟩) 3 3) ∧ w' = w.alloc (.cells #[.int .i64 k, .int .i64 p, .int .i64 (bitB o)] 3) := by
  have hm := meth_7
  cases o
  · go_enter Try.func34, Try.ntmps34
    go_wp2
    go_ret
    exact ⟨rfl, rfl⟩
  · go_enter Try.func34, Try.ntmps34
    go_wp2
    go_ret
    exact ⟨rfl, rfl⟩

end Go.Proofs.Ytidgiklkgmfmcaa
