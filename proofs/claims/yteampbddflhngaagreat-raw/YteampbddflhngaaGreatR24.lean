import Derived.ChangeMaps5
import Derived.Test.YteampbddflhngaaGreatRows
import Derived.Test.YteampbddflhngaaGreatR23
namespace Go.Proofs.YteampbddflhngaaGreat
open List renaming length→List.j
open _root_.Array renaming size→Array.q
open _root_.ByteArray renaming size→ByteArray.q
open Go.Calls renaming mono→Go.Calls.y
open Option renaming some→Z,none→Y
open Go renaming World→U,Value→O
set_option linter.all false
set_option maxRecDepth 100000
set_option maxHeartbeats 1600000
open Go.Proofs.Tryz Go.ChangeShapes Go.WideShapes Go.ChangeAt Go.RowKit Go.Deep Go.ChangeMaps
section
variable {W:U}
def DH{a:Addr}{i:Nat}{u u0:O}(j:W.cell? (a.add 0)=Z u0)(h:W.cell? (a.add i)=Z u):∃g f,a=(ω g f)/\g<W.heap.q/\W.cell? (ω g (f+i))=Z u:=by
 obtain⟨b,e,d⟩:=a;have c:d=none:=by simpa [Addr.add] using U.cell?_spot j
 subst c;rw[Addr.add_lit] at h;exact⟨b,e,rfl,UZ h,h⟩
def SA:prog.cellsOf 24=1:=χ
def Rc{H:Type}{enc:TypeId×O->H}{p:Nat}{v:O}{x:DataW H×List MemPlace}(s:DataW.trod enc prog W 0 (λ_=>true) true p 24 [v]=Z x):∃o,xV W v o/\v.oneCell'=true/\(o.getD []).j<=9223372036854775807:=by
 rcases open_slice1 underlying24 SO s with⟨b,_⟩|⟨a,c,t,m,n,V,D,G,b,_,I,C,l,J,d⟩
 simp at b;subst b;exact⟨Y,rfl,rfl,zs _⟩;simp at b;subst b;simp only[if_true] at l;subst l;have j:∀i,∃y:Int,i<c->V i=ι y:=λi=>by
  by_cases z:i<c;obtain⟨_,u⟩:=d i η;obtain⟨y,w,_,_⟩:=DataW.trod_int underlying3 u;exact⟨y,λ_=>by simpa using w⟩;exact⟨0,λh=>zB h z⟩
 obtain⟨E,F⟩:=Classical.axiomOfChoice j;refine⟨Z ((List.range c).map E),⟨a,m,ζ,λk B=>?_⟩,rfl,by simp;unfold maxLen at C;omega⟩;have q:k<c:=by simpa using B
 obtain⟨g,f,e,A,r⟩:=DH (d 0 η).1 (d k η).1;exact⟨g,f,e,A,by rw[r,F k q];simp⟩
def Kl{H:Type}{enc:TypeId×O->H}{s:Nat}{v:O}{x:DataW H×List MemPlace}(C:DataW.trod enc prog W 0 (λ_=>true) true s 26 [v]=Z x):∃(j:Γ) (os:List (Option (List Int))) (A:Bool),mM W v j/\j.j=os.j/\(∀u∈j,u.oneCell'=true)/\(∀k (t:k<j.j) (w:k<os.j),xV W j[k] os[k])/\j.j<=9223372036854775807/\(∀o∈os,(o.getD []).j<=9223372036854775807)/\(∀W:U,(binOp .eql 26 v (ν)).run prog W=.ok (.bool A) W)/\(A=true->os=[]):=by
 rcases open_slice1 underlying26 SA C with⟨c,_⟩|⟨a,b,E,m,n,V,D,J,c,_,K,G,q,L,d⟩
 simp at c;subst c;refine⟨[],[],true,⟨Y,0,rfl,λk r=>by simp at r⟩,rfl,ζ,λk r=>by simp at r,ζ,ζ,λW=>?_,λ_=>rfl⟩;have:=run_equal_slice_nil W 26 24 Y 0 0 underlying26;simp[binOp,this];simp at c;subst c;simp only[if_true] at q;subst q;have l:∀i,∃o:Option (List Int),i<b->xV W (V i) o/\(V i).oneCell'=true/\(o.getD []).j<=9223372036854775807:=λi=>by
  by_cases p:i<b;obtain⟨o,z⟩:=Rc (d i η).2;exact⟨o,λ_=>z⟩;exact⟨Y,λh=>zB h p⟩
 obtain⟨I,y⟩:=Classical.axiomOfChoice l;refine⟨(List.range b).map V,(List.range b).map I,false,⟨Z a,m,ζ,λk r=>?_⟩,ζ,λu F=>?_,λk t w=>?_,by simp;unfold maxLen at G;omega,λo z=>?_,λW=>?_,λh=>by cases h⟩;have B:k<b:=by simpa using r
 obtain⟨g,f,e,t,w⟩:=DH (d 0 η).1 (d k η).1;exact⟨g,f,by rw[e],t,by rw[w];simp⟩;obtain⟨i,p,rfl⟩:=zF.1 F;exact(y i (qG.1 p)).2.1;simp only[ub,fR];exact(y k (by simpa using t)).1;obtain⟨i,p,rfl⟩:=zF.1 z;exact(y i (qG.1 p)).2.2;have:=run_equal_slice_nil W 26 24 (Z a) b m underlying26;simp[binOp,this]
def Nm(os:Os)(b:os.Started)(H:Type)(enc:TypeId×O->H):
  ReturnsInHanded {} checked os 10 .any (Rows.rawSpec.pre6 enc prog f10 Rows.rawRow.domain false) (Rows.rawSpec.post enc prog f10 false true false false):=by
 refine returnsInHanded_of_change (C:=checked) SI b χ func10
  (ChangeSpec.witness6 (enc:=enc) (C:=checked) false ⟨#[],#[.string ByteArray.empty,ν,ι 0,ι 0],[]⟩ 8 χ χ χ χ) ?_
 intro W f args ds gs i c D s _;have a:∀(j:Nat) t v,f10.params[j]?=Z t->args[j]?=Z v->O.okWide prog W .any f t v:=c;have d:=D;obtain⟨p,q,g,M,rfl,ac,N⟩:=D;have z:DataW.TrodAll enc prog W 0 (λ_=>true) true f10.params.toList args.toList ds p:=g;rw[params10] at z a;obtain⟨u,S,d0,aa,p0,q0,k,rfl,rfl,h0,r0⟩:=trodAll_cons z;obtain⟨A,ag,P,ah,o,q1,e1,rfl,rfl,E,r1⟩:=trodAll_cons r0;obtain⟨w,ae,d2,ab,p2,q2,e2,rfl,rfl,R,Q⟩:=trodAll_cons r1;obtain⟨B,af,d3,ad,p3,q3,e3,rfl,rfl,h3,K⟩:=trodAll_cons Q;obtain⟨rfl,rfl,rfl⟩:=trodAll_nil K;obtain rfl:args=#[u,A,w,B]:=by cases args;simp_all
 obtain⟨rfl,rfl⟩:=trodVars_none M;obtain⟨a0,rfl,rfl,rfl,y⟩:=open_string underlying9 (a 0 9 u rfl rfl) h0;obtain⟨x2,rfl,rfl,rfl,I⟩:=open_int underlying3 (a 2 3 w rfl rfl) R;obtain⟨V,rfl,rfl,rfl,r⟩:=open_int underlying3 (a 3 3 B rfl rfl) h3;obtain⟨sa,J,T,rfl⟩:=okWide_slice underlying26 (a 1 26 A rfl rfl);have l:=E;obtain⟨G,hf⟩:=E;obtain⟨us,n,nb,u1,u2,u3,u4,u5,u6,u7,u8⟩:=Kl (v:=.slice sa J T) (x:=(P,o)) hf;clear g c;simp only[qb] at d;have m:∀x∈o,x.block<W.heap.q:=λx hx=>d.lt x (by simp[hx]);refine(Jg W a0 (by have:=y;unfold maxLen at this;omega) _ us n u1 u2 u3 u4 u5 u6 x2 V (bounds_i64 I) (bounds_i64 r) nb u7 u8).y λe W' ⟨L,F⟩=>?_;subst L;exact⟨_,rfl,⟨_,_,_,[],_,[],d,trodAll_cons_mk (shut_bool underlying4 true) trodAll_mk0,trodAll_cons_mk (shut_string underlying9 y) (trodAll_cons_mk (Below.trod SX χ (of_decide_eq_true χ) l F m) (trodAll_cons_mk (shut_int underlying3 I) (trodAll_cons_mk (shut_int underlying3 r) trodAll_mk0))),rfl,F.frame _,λh=>by cases h⟩⟩
def Lh:joinedFacts prog 10 f10 Rows.rawSpec Rows.rawRow=true:=by
 unfold joinedFacts;simp only[uK];repeat'(with_reducible apply And.intro)
 all_goals (as_aux_lemma=>kernel_rfl)
theorem raw_holds:Rows.RawSaid:=
 OpenClaim.holds_of_wide 10 f10 rfl rfl rfl rfl rfl rfl rfl ⟨rfl,rfl,rfl,rfl,rfl⟩ rfl rfl rfl rfl rfl χ func10 Lh
  (of_decide_eq_true χ) (by unfold Func.isWrapper;first|(rw[zb (by decide +kernel)];kernel_rfl)|(rw[za (by decide +kernel)];exact⟨rfl,rfl⟩))
  (λc a H b _=>Nm c a H b)
#print axioms raw_holds
end
end Go.Proofs.YteampbddflhngaaGreat
