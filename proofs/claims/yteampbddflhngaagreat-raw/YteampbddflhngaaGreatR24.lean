import Derived.ChangeMaps5
import Derived.Test.YteampbddflhngaaGreatR23
namespace Go.Proofs.YteampbddflhngaaGreat
open List renaming length→List.j
open _root_.Array renaming size→Array.q
open _root_.ByteArray renaming size→ByteArray.q
open Go.Calls renaming mono→Go.Calls.y
open Option renaming some→Z,none→Y
open Go renaming World→U,Value→O
set_option linter.all false
set_option maxRecDepth 100000
set_option maxHeartbeats 1600000
open Go.Proofs.Tryz Go.ChangeShapes Go.WideShapes Go.ChangeAt Go.RowKit Go.Deep Go.ChangeMaps
section
variable {W:U}
def Hr{a:Addr}{i:Nat}{u u0:O}(j:W.cell? (a.add 0)=Z u0)(h:W.cell? (a.add i)=Z u):∃g f,a=(ω g f)/\g<W.heap.q/\W.cell? (ω g (f+i))=Z u:=by
 obtain⟨b,e,d⟩:=a;have c:d=none:=by simpa [Addr.add] using U.cell?_spot j
 subst c;rw[Addr.add_lit] at h;exact⟨b,e,rfl,Ve h,h⟩
def SY:prog.cellsOf 24=1:=χ
def Kv{H:Type}{enc:TypeId×O->H}{p:Nat}{v:O}{x:DataW H×List MemPlace}(u:DataW.trod enc prog W 0 (λ_=>true) true p 24 [v]=Z x):∃o,xQ W v o/\v.oneCell'=true/\(o.getD []).j<=9223372036854775807:=by
 rcases open_slice1 underlying24 SZ u with⟨b,_⟩|⟨a,c,w,m,n,V,D,J,b,_,G,A,l,I,d⟩
 simp at b;subst b;exact⟨Y,rfl,rfl,zs _⟩;simp at b;subst b;simp only[if_true] at l;subst l;have j:∀i,∃y:Int,i<c->V i=ι y:=λi=>by
  by_cases z:i<c;obtain⟨_,r⟩:=d i η;obtain⟨y,t,_,_⟩:=DataW.trod_int underlying3 r;exact⟨y,λ_=>by simpa using t⟩;exact⟨0,λh=>zC h z⟩
 obtain⟨F,C⟩:=Classical.axiomOfChoice j;refine⟨Z ((List.range c).map F),⟨a,m,ζ,λk s=>?_⟩,rfl,by simp;unfold maxLen at A;omega⟩;have q:k<c:=by simpa using s
 obtain⟨g,f,e,B,E⟩:=Hr (d 0 η).1 (d k η).1;exact⟨g,f,e,B,by rw[E,C k q];simp⟩
def P7{H:Type}{enc:TypeId×O->H}{s:Nat}{v:O}{x:DataW H×List MemPlace}(B:DataW.trod enc prog W 0 (λ_=>true) true s 26 [v]=Z x):∃(j:Γ) (os:List (Option (List Int))) (A:Bool),mK W v j/\j.j=os.j/\(∀u∈j,u.oneCell'=true)/\(∀k (t:k<j.j) (y:k<os.j),xQ W j[k] os[k])/\j.j<=9223372036854775807/\(∀o∈os,(o.getD []).j<=9223372036854775807)/\(∀W:U,(binOp .eql 26 v (ν)).run prog W=.ok (.bool A) W)/\(A=true->os=[]):=by
 rcases open_slice1 underlying26 SY B with⟨c,_⟩|⟨a,b,C,m,n,V,D,L,c,_,J,F,q,K,d⟩
 simp at c;subst c;refine⟨[],[],true,⟨Y,0,rfl,λk l=>by simp at l⟩,rfl,ζ,λk l=>by simp at l,ζ,ζ,λW=>?_,λ_=>rfl⟩;have:=run_equal_slice_nil W 26 24 Y 0 0 underlying26;simp[binOp,this];simp at c;subst c;simp only[if_true] at q;subst q;have p:∀i,∃o:Option (List Int),i<b->xQ W (V i) o/\(V i).oneCell'=true/\(o.getD []).j<=9223372036854775807:=λi=>by
  by_cases r:i<b;obtain⟨o,w⟩:=Kv (d i η).2;exact⟨o,λ_=>w⟩;exact⟨Y,λh=>zC h r⟩
 obtain⟨I,z⟩:=Classical.axiomOfChoice p;refine⟨(List.range b).map V,(List.range b).map I,false,⟨Z a,m,ζ,λk l=>?_⟩,ζ,λu G=>?_,λk t y=>?_,by simp;unfold maxLen at F;omega,λo w=>?_,λW=>?_,λh=>by cases h⟩;have E:k<b:=by simpa using l
 obtain⟨g,f,e,t,y⟩:=Hr (d 0 η).1 (d k η).1;exact⟨g,f,by rw[e],t,by rw[y];simp⟩;obtain⟨i,r,rfl⟩:=zF.1 G;exact(z i (qv.1 r)).2.1;simp only[ue,l8];exact(z k (by simpa using t)).1;obtain⟨i,r,rfl⟩:=zF.1 w;exact(z i (qv.1 r)).2.2;have:=run_equal_slice_nil W 26 24 (Z a) b m underlying26;simp[binOp,this]
def P4(os:Os)(c:os.Started)(H:Type)(enc:TypeId×O->H):
  ReturnsInHanded {} checked os 10 .any (Rows.rawSpec.pre6 enc prog f10 Rows.rawRow.domain false) (Rows.rawSpec.post enc prog f10 false true false false):=by
 refine returnsInHanded_of_change (C:=checked) SN c χ func10
  (ChangeSpec.witness6 (enc:=enc) (C:=checked) false ⟨#[],#[.string ByteArray.empty,ν,ι 0,ι 0],[]⟩ 8 χ χ χ χ) ?_
 intro W f args N gs i b G z _;have a:∀(j:Nat) t v,f10.params[j]?=Z t->args[j]?=Z v->O.okWide prog W .any f t v:=b;have d:=G;obtain⟨p,q,g,hV,rfl,J,ab⟩:=G;have D:DataW.TrodAll enc prog W 0 (λ_=>true) true f10.params.toList args.toList N p:=g;rw[params10] at D a;obtain⟨y,P,d0,K,p0,q0,k,rfl,rfl,h0,r0⟩:=trodAll_cons D;obtain⟨I,R,d1,T,B,q1,e1,rfl,rfl,E,r1⟩:=trodAll_cons r0;obtain⟨o,aa,d2,M,p2,q2,e2,rfl,rfl,h2,r2⟩:=trodAll_cons r1;obtain⟨u,ac,d3,S,p3,q3,e3,rfl,rfl,h3,r3⟩:=trodAll_cons r2;obtain⟨rfl,rfl,rfl⟩:=trodAll_nil r3;obtain rfl:args=#[y,I,o,u]:=by cases args;simp_all
 obtain⟨rfl,rfl⟩:=trodVars_none hV;obtain⟨a0,rfl,rfl,rfl,r⟩:=open_string underlying9 (a 0 9 y rfl rfl) h0;obtain⟨x2,rfl,rfl,rfl,A⟩:=open_int underlying3 (a 2 3 o rfl rfl) h2;obtain⟨x3,rfl,rfl,rfl,s⟩:=open_int underlying3 (a 3 3 u rfl rfl) h3;obtain⟨sa,V,L,rfl⟩:=okWide_slice underlying26 (a 1 26 I rfl rfl);have m:=E;obtain⟨F,Q⟩:=E;obtain⟨us,l,nb,u1,u2,u3,u4,u5,u6,u7,u8⟩:=P7 (v:=.slice sa V L) (x:=(d1,B)) Q;clear g b;simp only[qn] at d;have n:∀x∈B,x.block<W.heap.q:=λx hx=>d.lt x (by simp[hx]);refine(MU W a0 (by have:=r;unfold maxLen at this;omega) _ us l u1 u2 u3 u4 u5 u6 x2 x3 (bounds_i64 A) (bounds_i64 s) nb u7 u8).y λe W' ⟨he,w⟩=>?_;subst he;exact⟨_,rfl,⟨_,_,_,[],_,[],d,trodAll_cons_mk (shut_bool underlying4 true) trodAll_mk0,trodAll_cons_mk (shut_string underlying9 r) (trodAll_cons_mk (Below.trod S5 χ (of_decide_eq_true χ) m w n) (trodAll_cons_mk (shut_int underlying3 A) (trodAll_cons_mk (shut_int underlying3 s) trodAll_mk0))),rfl,w.frame _,λh=>by cases h⟩⟩
def Pz:joinedFacts prog 10 f10 Rows.rawSpec Rows.rawRow=true:=by
 unfold joinedFacts;simp only[uI];repeat'(with_reducible apply And.intro)
 all_goals (as_aux_lemma=>kernel_rfl)
theorem raw_holds:Rows.RawSaid:=
 OpenClaim.holds_of_wide 10 f10 rfl rfl rfl rfl rfl rfl rfl ⟨rfl,rfl,rfl,rfl,rfl⟩ rfl rfl rfl rfl rfl χ func10 Pz
  (of_decide_eq_true χ) (by unfold Func.isWrapper;first|(rw[zb (by decide +kernel)];kernel_rfl)|(rw[za (by decide +kernel)];exact⟨rfl,rfl⟩))
  (λc a H b _=>P4 c a H b)
#print axioms raw_holds
end
end Go.Proofs.YteampbddflhngaaGreat
