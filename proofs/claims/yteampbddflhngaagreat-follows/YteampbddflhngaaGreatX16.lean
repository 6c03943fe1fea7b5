import Derived.Test.YteampbddflhngaaGreatX09
namespace Go.Proofs.YteampbddflhngaaGreat
set_option linter.all false
section
variable {v:ByteArray}{vs:List ByteArray}
theorem FI{t:ByteArray}:v∈jz vs t↔v∈vs∨(v=t/\zO v=true):=by
 unfold jz;cases a:zO t with
 |false=>
  exact⟨zg,fun h=>h.elim id fun x=>by have g:=x.2;rw[x.1,a] at g;cases g⟩
 |true=>
  cases b:yZ t vs with
  |true=>
   exact⟨zg,fun h=>h.elim id fun⟨e,_⟩=>by subst e;exact j7.1 b⟩
  |false=>
   simp only[Bool.not_false,Bool.and_true,if_true,zX,xO];exact⟨fun h=>h.elim zg fun e=>ze ⟨e,by rw[e];exact a⟩,fun h=>h.elim zg fun e=>ze e.1⟩
theorem sq{v:ByteArray}:∀{args vs:List ByteArray},v∈xn vs args↔v∈vs∨(v∈args/\zO v=true)
 |[],vs=>by simp[xn]
 |t::r,vs=>by
  show v∈xn (jz vs t) r↔_;rw[sq,FI,zu];constructor
  ·rintro((h|⟨h,g⟩)|⟨h,g⟩)
   ·exact zg h
   ·exact ze ⟨zg h,g⟩
   ·exact ze ⟨ze h,g⟩
  ·rintro(h|⟨h|h,g⟩)
   ·exact zg (zg h)
   ·exact zg (ze ⟨h,g⟩)
   ·exact ze ⟨h,g⟩
theorem Ea{v:ByteArray}:∀{a:List zj} {vs:List ByteArray},v∈a.foldl kt vs↔v∈vs∨(zO v=true/\∃l∈a,v∈l.args)
 |[],vs=>by simp
 |l::r,vs=>by
  rw[un,Ea,kt,sq];simp only[zu,exists_eq_or_imp];constructor
  ·rintro((h|⟨h,g⟩)|⟨g,h⟩)
   ·exact zg h
   ·exact ze ⟨g,zg h⟩
   ·exact ze ⟨g,ze h⟩
  ·rintro(h|⟨g,h|h⟩)
   ·exact zg (zg h)
   ·exact zg (ze ⟨h,g⟩)
   ·exact ze ⟨g,h⟩
theorem EH{v:ByteArray}:∀{a:List zj} {vs:List ByteArray},v∈a.foldl vA vs↔v∈vs∨(zO v=true/\∃l∈a,l.neg=false/\v∈l.args)
 |[],vs=>by simp
 |l::r,vs=>by
  rw[un,EH,vA];simp only[zu,exists_eq_or_imp];cases b:l.neg with
  |true=>simp
  |false=>
   rw[za (by simp),sq];constructor
   ·rintro((h|⟨h,g⟩)|⟨g,h⟩)
    ·exact zg h
    ·exact ze ⟨g,zg ⟨rfl,h⟩⟩
    ·exact ze ⟨g,ze h⟩
   ·rintro(h|⟨g,⟨-,h⟩|h⟩)
    ·exact zg (zg h)
    ·exact zg (ze ⟨h,g⟩)
    ·exact ze ⟨g,h⟩
theorem tU{c:zc}:v∈xI c↔zO v=true/\(v∈c.head.args∨∃l∈c.body,v∈l.args):=by
 unfold xI;rw[Ea,sq];constructor
 ·rintro((h|⟨h,g⟩)|⟨g,h⟩)
  ·exact zB h (by simp)
  ·exact⟨g,zg h⟩
  ·exact⟨g,ze h⟩
 ·rintro⟨g,h|h⟩
  ·exact zg (ze ⟨h,g⟩)
  ·exact ze ⟨g,h⟩
theorem gI{c:zc}:v∈z7 c↔zO v=true/\∃l∈c.body,l.neg=false/\v∈l.args:=by
 unfold z7;rw[EH];simp
theorem mY{args:List ByteArray}:qn vs args=true↔∀t∈args,zO t=true->t∈vs:=by
 unfold qn;rw[lg];constructor
 ·intro h t b a;have:=h t b;rw[a,mj,mX] at this;exact j7.1 this
 ·intro h t b;cases a:zO t with
  |false=>rfl
  |true=>rw[mj,mX];exact j7.2 (h t b a)
end
end Go.Proofs.YteampbddflhngaaGreat
