import Derived.Test.YteampbddflhngabGreatCKeepB

/- The star of 15 to 17 nodes, reckoned. -/
namespace Go.Proofs.YteampbddflhngabGreat
set_option maxRecDepth 100000
theorem tri15 : triB 15 = true := by decide +kernel
theorem tri16 : triB 16 = true := by decide +kernel
theorem tri17 : triB 17 = true := by decide +kernel
end Go.Proofs.YteampbddflhngabGreat
