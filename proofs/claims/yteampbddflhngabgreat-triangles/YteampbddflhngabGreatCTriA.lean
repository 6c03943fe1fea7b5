import Derived.Test.YteampbddflhngabGreatCKeepB

/- The star of 3 to 14 nodes, reckoned. -/
namespace Go.Proofs.YteampbddflhngabGreat
set_option maxRecDepth 100000
theorem tri3 : triB 3 = true := by decide +kernel
theorem tri4 : triB 4 = true := by decide +kernel
theorem tri5 : triB 5 = true := by decide +kernel
theorem tri6 : triB 6 = true := by decide +kernel
theorem tri7 : triB 7 = true := by decide +kernel
theorem tri8 : triB 8 = true := by decide +kernel
theorem tri9 : triB 9 = true := by decide +kernel
theorem tri10 : triB 10 = true := by decide +kernel
theorem tri11 : triB 11 = true := by decide +kernel
theorem tri12 : triB 12 = true := by decide +kernel
theorem tri13 : triB 13 = true := by decide +kernel
theorem tri14 : triB 14 = true := by decide +kernel
end Go.Proofs.YteampbddflhngabGreat
