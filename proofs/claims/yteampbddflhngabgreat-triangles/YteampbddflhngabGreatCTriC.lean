import Derived.Test.YteampbddflhngabGreatCKeepB

/- The star of 18 to 20 nodes, reckoned. -/
namespace Go.Proofs.YteampbddflhngabGreat
set_option maxRecDepth 100000
theorem tri18 : triB 18 = true := by decide +kernel
theorem tri19 : triB 19 = true := by decide +kernel
theorem tri20 : triB 20 = true := by decide +kernel
end Go.Proofs.YteampbddflhngabGreat
