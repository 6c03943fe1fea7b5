import Derived.Test.YteampbddflhngabGreatCKeepB

/- The star of 21 to 23 nodes, reckoned. -/
namespace Go.Proofs.YteampbddflhngabGreat
set_option maxRecDepth 100000
theorem tri21 : triB 21 = true := by decide +kernel
theorem tri22 : triB 22 = true := by decide +kernel
theorem tri23 : triB 23 = true := by decide +kernel
end Go.Proofs.YteampbddflhngabGreat
