/- A block that was laid, behind the laying of another one. -/
import Derived.Test.YthncbkgklhbcjaaWShape
namespace Go.Proofs.Ythncbkgklhbcjaa
open Go.RowKit

theorem Box.allocd {w : World} {b : Nat} {cs : Array Value} {t : TypeId} (h : Box w b cs t) (o : Obj) : Box (w.alloc o) b cs t := (Below.heap_alloc w o b h.lt).trans h
theorem box_first {w w1 : World} {cs : Array Value} {t : TypeId} (h : Below (w.alloc (.cells cs t)).heap.size (w.alloc (.cells cs t)) w1) : Box w1 w.heap.size cs t ∧ Below w.heap.size w w1 :=
  ⟨(box_new w cs t).below h (by simp), bnew h⟩
theorem box_on {B : Nat} {w w1 : World} {cs : Array Value} {t : TypeId} {o : Obj} (hX : Box w B cs t) (h : Below (w.alloc o).heap.size (w.alloc o) w1) : Box w1 B cs t := (hX.allocd o).below h (hX.allocd o).lt
end Go.Proofs.Ythncbkgklhbcjaa
