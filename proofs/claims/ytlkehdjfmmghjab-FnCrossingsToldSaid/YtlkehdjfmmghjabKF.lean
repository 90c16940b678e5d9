/- A chord is added: the program. -/
import Derived.Test.YtlkehdjfmmghjabKE
namespace Go.Proofs.Ytlkehdjfmmghjab
open Go.RowKit
set_option linter.unusedVariables false

theorem heap_alloc_last_at (W : World) (o1 o2 : Obj) : ((W.alloc o1).alloc o2).heap[W.heap.size + 1]? = some o2 := heap_alloc2_new W o1 o2

end Go.Proofs.Ytlkehdjfmmghjab
