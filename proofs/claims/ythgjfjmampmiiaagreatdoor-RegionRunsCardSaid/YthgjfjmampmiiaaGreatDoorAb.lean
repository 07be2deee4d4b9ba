import Derived.Lib.Hide
import Derived.Test.YthgjfjmampmiiaaGreatDoorChecked
namespace Go.Proofs.YthgjfjmampmiiaaGreatDoor
open Go.RowKit
abbrev qp (g:Nat):Value:=.pointer (some ⟨g,0,none⟩)
abbrev qo (A:Array Value) (t:TypeId):Option Obj:=some (.cells A t (0,0))
abbrev qw (w y:World):Prop:=Below w.heap.size w y
abbrev qc:=Calls Tryz.prog
theorem qh {p:Prop} (h:p):Hid p:=h
theorem qn {n:Nat}:n≤n:=Nat.le_refl n
theorem qb (w:World) (o:Obj):Below w.heap.size w (w.alloc o):=(Below.refl _ w).alloc (Nat.le_refl _) _
abbrev qz:Array Value:=#[.int .u8 0,.int .u8 0,.int .u8 0,.int .u8 0,.int .u8 0,.int .u8 0,.int .u8 0,.int .u8 0,.int .u8 0,.int .u8 0,.int .u8 0,.int .u8 0,.int .u8 0,.int .u8 0,.int .u8 0,.int .u8 0]
end Go.Proofs.YthgjfjmampmiiaaGreatDoor
