import Derived.Test.YteampbddflhngabGreatCKeepD

/- What is known, reckoned. -/
namespace Go.Proofs.YteampbddflhngabGreat
set_option maxRecDepth 100000
theorem known_sizes : (List.range 27).all (fun k => decide ((lotT k).1.size ≤ 500)) = true := by decide +kernel
theorem known_all : (List.range 27).all (fun k => goldB (lotT k).1 (lotT k).2.1 (lotT k).2.2) = true := by decide +kernel
end Go.Proofs.YteampbddflhngabGreat
