/- Pairings by crossings: the numbers held against each other, by the kernel. Nothing of the program. -/
import Derived.Test.YtnnhjnogebicbabQA
namespace Go.Proofs.Ytnnhjnogebicbab

theorem same4 : sameL 4 = true := by decide +kernel
theorem same6 : sameL 6 = true := by decide +kernel
theorem same8 : sameL 8 = true := by decide +kernel
theorem same10 : sameL 10 = true := by decide +kernel

end Go.Proofs.Ytnnhjnogebicbab
