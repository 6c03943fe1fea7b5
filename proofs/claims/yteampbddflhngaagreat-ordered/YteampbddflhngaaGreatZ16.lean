import Derived.Test.YteampbddflhngaaGreatZ09
namespace Go.Proofs.YteampbddflhngaaGreat
set_option linter.all false
section
variable {v:ByteArray}{vs:κ}
theorem Pb{t:ByteArray}:v∈j9 vs t↔v∈vs∨(v=t/\zO v=true):=by
 unfold j9;cases a:zO t with
 |false=>
  exact⟨zf,fun h=>h.elim id fun x=>by have g:=x.2;rw[x.1,a] at g;cases g⟩
 |true=>
  cases b:xf t vs with
  |true=>
   exact⟨zf,fun h=>h.elim id fun⟨e,_⟩=>by subst e;exact ka.1 b⟩
  |false=>
   simp only[Bool.not_false,Bool.and_true,if_true,zI,xF];exact⟨fun h=>h.elim zf fun e=>zb ⟨e,by rw[e];exact a⟩,fun h=>h.elim zf fun e=>zb e.1⟩
theorem td{v:ByteArray}:∀{args vs:κ},v∈xn vs args↔v∈vs∨(v∈args/\zO v=true)
 |[],vs=>by simp[xn]
 |t::r,vs=>by
  show v∈xn (j9 vs t) r↔_;rw[td,Pb,zx];constructor
  ·rintro((h|⟨h,g⟩)|⟨h,g⟩)
   ·exact zf h
   ·exact zb ⟨zf h,g⟩
   ·exact zb ⟨zb h,g⟩
  ·rintro(h|⟨h|h,g⟩)
   ·exact zf (zf h)
   ·exact zf (zb ⟨h,g⟩)
   ·exact zb ⟨h,g⟩
theorem AE{v:ByteArray}:∀{a:List zj} {vs:κ},v∈a.foldl kO vs↔v∈vs∨(zO v=true/\∃l∈a,v∈l.args)
 |[],vs=>by simp
 |l::r,vs=>by
  rw[ut,AE,kO,td];simp only[zx,exists_eq_or_imp];constructor
  ·rintro((h|⟨h,g⟩)|⟨g,h⟩)
   ·exact zf h
   ·exact zb ⟨g,zf h⟩
   ·exact zb ⟨g,zb h⟩
  ·rintro(h|⟨g,h|h⟩)
   ·exact zf (zf h)
   ·exact zf (zb ⟨h,g⟩)
   ·exact zb ⟨g,h⟩
theorem DR{v:ByteArray}:∀{a:List zj} {vs:κ},v∈a.foldl vS vs↔v∈vs∨(zO v=true/\∃l∈a,l.neg=false/\v∈l.args)
 |[],vs=>by simp
 |l::r,vs=>by
  rw[ut,DR,vS];simp only[zx,exists_eq_or_imp];cases b:l.neg with
  |true=>simp
  |false=>
   rw[za (by simp),td];constructor
   ·rintro((h|⟨h,g⟩)|⟨g,h⟩)
    ·exact zf h
    ·exact zb ⟨g,zf ⟨rfl,h⟩⟩
    ·exact zb ⟨g,zb h⟩
   ·rintro(h|⟨g,⟨-,h⟩|h⟩)
    ·exact zf (zf h)
    ·exact zf (zb ⟨h,g⟩)
    ·exact zb ⟨g,h⟩
theorem tS{c:zd}:v∈xM c↔zO v=true/\(v∈c.head.args∨∃l∈c.body,v∈l.args):=by
 unfold xM;rw[AE,td];constructor
 ·rintro((h|⟨h,g⟩)|⟨g,h⟩)
  ·exact zC h (by simp)
  ·exact⟨g,zf h⟩
  ·exact⟨g,zb h⟩
 ·rintro⟨g,h|h⟩
  ·exact zf (zb ⟨h,g⟩)
  ·exact zb ⟨g,h⟩
theorem gO{c:zd}:v∈zw c↔zO v=true/\∃l∈c.body,l.neg=false/\v∈l.args:=by
 unfold zw;rw[DR];simp
theorem nV{args:κ}:qE vs args=true↔∀t∈args,zO t=true->t∈vs:=by
 unfold qE;rw[ko];constructor
 ·intro h t a b;have:=h t a;rw[b,mm,nJ] at this;exact ka.1 this
 ·intro h t a;cases b:zO t with
  |false=>rfl
  |true=>rw[mm,nJ];exact ka.2 (h t a b)
end
end Go.Proofs.YteampbddflhngaaGreat
