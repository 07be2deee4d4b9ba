/-
  A box by way of the interface: its methods.
-/
import Derived.Test.YtkhaiiiioieglaaDoorSeH
namespace Go.Proofs.YtkhaiiiioieglaaDoor
open Go.RowKit
set_option maxRecDepth 100000 in
theorem meth_seal (v : Value) (w : World) : (method 241 27 v "Seal").run Tryd.prog w = .ok (14, v) w := by kernel_rfl
set_option maxRecDepth 100000 in
theorem meth_open (v : Value) (w : World) : (method 241 27 v "Open").run Tryd.prog w = .ok (15, v) w := by kernel_rfl
end Go.Proofs.YtkhaiiiioieglaaDoor
