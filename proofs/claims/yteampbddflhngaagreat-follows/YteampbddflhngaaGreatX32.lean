import Derived.Test.YteampbddflhngaaGreatX29
namespace Go.Proofs.YteampbddflhngaaGreat
set_option linter.all false
end Go.Proofs.YteampbddflhngaaGreat
