import Derived.Test.YteampbddflhngaaGreatR16
namespace Go.Proofs.YteampbddflhngaaGreat
open List renaming length→List.j
open Option renaming some→Z
set_option linter.all false
open Go.RowKit
section
section
variable {B:Nat} {own:TH} {w:World} {wb:Nat} {M:yZ} {V:Nat->Value}
end
end
section
def FM:∀(rs:List lU) (k:Nat) (a:k<rs.j),(lO rs)[k*3]?=Z (.pointer (Z (δ rs[k].1)))/\(lO rs)[k*3+1]?=Z (.pointer (Z (δ rs[k].2.1)))/\(lO rs)[k*3+2]?=Z (.pointer (Z (δ rs[k].2.2.1)))
 |[],k,a=>by simp at a
 |p::r,0,_=>by simp[lO]
 |p::r,k+1,a=>by
  have:=FM r k (by simpa using a);simp only[lO,uU] at this ⊢;rw[show(k+1)*3=k*3+1+1+1 from by omega];simpa using this
section
variable {B:Nat} {own:TH} {w:World} {wb:Nat} {M:yZ} {V:Nat->Value} {k a b c:Int} {s:ByteArray}
end
end
end Go.Proofs.YteampbddflhngaaGreat
