import Derived.Test.YteampbddflhngaaGreatZ09
namespace Go.Proofs.YteampbddflhngaaGreat
set_option linter.all false
section
variable {v:ByteArray}{vs:κ}
theorem GF{t:ByteArray}:v∈jD vs t↔v∈vs∨(v=t/\zP v=true):=by
 unfold jD;cases a:zP t with
 |false=>
  exact⟨zf,fun h=>h.elim id fun x=>by have g:=x.2;rw[x.1,a] at g;cases g⟩
 |true=>
  cases b:xf t vs with
  |true=>
   exact⟨zf,fun h=>h.elim id fun⟨e,_⟩=>by subst e;exact jQ.1 b⟩
  |false=>
   simp only[Bool.not_false,Bool.and_true,if_true,zI,xG];exact⟨fun h=>h.elim zf fun e=>zb ⟨e,by rw[e];exact a⟩,fun h=>h.elim zf fun e=>zb e.1⟩
theorem w9{v:ByteArray}:∀{args vs:κ},v∈xk vs args↔v∈vs∨(v∈args/\zP v=true)
 |[],vs=>by simp[xk]
 |t::r,vs=>by
  show v∈xk (jD vs t) r↔_;rw[w9,GF,zx];constructor
  ·rintro((h|⟨h,g⟩)|⟨h,g⟩)
   ·exact zf h
   ·exact zb ⟨zf h,g⟩
   ·exact zb ⟨zb h,g⟩
  ·rintro(h|⟨h|h,g⟩)
   ·exact zf (zf h)
   ·exact zf (zb ⟨h,g⟩)
   ·exact zb ⟨h,g⟩
theorem Dz{v:ByteArray}:∀{a:List zj} {vs:κ},v∈a.foldl kI vs↔v∈vs∨(zP v=true/\∃l∈a,v∈l.args)
 |[],vs=>by simp
 |l::r,vs=>by
  rw[ut,Dz,kI,w9];simp only[zx,exists_eq_or_imp];constructor
  ·rintro((h|⟨h,g⟩)|⟨g,h⟩)
   ·exact zf h
   ·exact zb ⟨g,zf h⟩
   ·exact zb ⟨g,zb h⟩
  ·rintro(h|⟨g,h|h⟩)
   ·exact zf (zf h)
   ·exact zf (zb ⟨h,g⟩)
   ·exact zb ⟨g,h⟩
theorem C5{v:ByteArray}:∀{a:List zj} {vs:κ},v∈a.foldl vN vs↔v∈vs∨(zP v=true/\∃l∈a,l.neg=false/\v∈l.args)
 |[],vs=>by simp
 |l::r,vs=>by
  rw[ut,C5,vN];simp only[zx,exists_eq_or_imp];cases b:l.neg with
  |true=>simp
  |false=>
   rw[za (by simp),w9];constructor
   ·rintro((h|⟨h,g⟩)|⟨g,h⟩)
    ·exact zf h
    ·exact zb ⟨g,zf ⟨rfl,h⟩⟩
    ·exact zb ⟨g,zb h⟩
   ·rintro(h|⟨g,⟨-,h⟩|h⟩)
    ·exact zf (zf h)
    ·exact zf (zb ⟨h,g⟩)
    ·exact zb ⟨g,h⟩
theorem wl{c:zd}:v∈xM c↔zP v=true/\(v∈c.head.args∨∃l∈c.body,v∈l.args):=by
 unfold xM;rw[Dz,w9];constructor
 ·rintro((h|⟨h,g⟩)|⟨g,h⟩)
  ·exact zC h (by simp)
  ·exact⟨g,zf h⟩
  ·exact⟨g,zb h⟩
 ·rintro⟨g,h|h⟩
  ·exact zf (zb ⟨h,g⟩)
  ·exact zb ⟨g,h⟩
theorem dG{c:zd}:v∈zw c↔zP v=true/\∃l∈c.body,l.neg=false/\v∈l.args:=by
 unfold zw;rw[C5];simp
theorem nm{args:κ}:qr vs args=true↔∀t∈args,zP t=true->t∈vs:=by
 unfold qr;rw[kh];constructor
 ·intro h t a b;have:=h t a;rw[b,m4,np] at this;exact jQ.1 this
 ·intro h t a;cases b:zP t with
  |false=>rfl
  |true=>rw[m4,np];exact jQ.2 (h t a b)
end
end Go.Proofs.YteampbddflhngaaGreat
