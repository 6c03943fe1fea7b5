import Derived.Test.YteampbddflhngaaGreatR18
import Derived.Test.YteampbddflhngaaGreatR19
namespace Go.Proofs.YteampbddflhngaaGreat
open List renaming length→List.j,take→List.G,map→List.w,toArray→List.F
open _root_.Array renaming size→Array.q,map→Array.w
open _root_.ByteArray renaming size→ByteArray.q
open Go.RowKit.Below renaming size→Go.RowKit.Below.q,setCell→Go.RowKit.Below.x,mono→Go.RowKit.Below.y,trans→Go.RowKit.Below.A,alloc→Go.RowKit.Below.C
open Go.TypeInfo renaming size→Go.TypeInfo.q
open Go.RowKit.Hid renaming out→Go.RowKit.Hid.l
open Go.Shut renaming out→Go.Shut.l
open Go.World renaming heap→Go.World.o,setCell→Go.World.x,cell?→Go.World.p,alloc→Go.World.C,ownsRow→Go.World.r
open Go.Value renaming slice→Go.Value.k,string→Go.Value.d,cells→Go.Value.E,ownBlock→Go.Value.m,pointer→Go.Value.u
open Go.TypeDesc renaming slice→Go.TypeDesc.k,string→Go.TypeDesc.d,pointer→Go.TypeDesc.u
open Go.Calls renaming mono→Go.Calls.y
open Eq renaming trans→Eq.A,symm→Eq.z
open Iff renaming trans→Iff.A,symm→Iff.z
open Go.Obj renaming cells→Go.Obj.E
open Option renaming map→Option.w,some→Z,none→Y
open Ne renaming symm→Ne.z
open Go.RowKit renaming Hid→X
open Go renaming World→U,Value→O
set_option linter.all false
set_option maxRecDepth 100000
set_option maxHeartbeats 8000000
open Go.RowKit
section
open Go.Proofs.Tryz
section
variable {B:Nat} {own:TI} {w:U} {wb:Nat} {M:yZ} {V:Nat->O}
def AE{z:Nat->Prop}{w:U}{e:Nat}{m c l:O}{a:κ}(k:Ti w e #[m,c,l] 45)(h:Ut z w c a):∃d b,∀W,μ w W->W.p (ω e 1)=Z (.k d a.j b)/\e<W.o.q/\∀i (f:i<a.j),∃g,d=Z (δ g)/\g<W.o.q/\W.p (ω g i)=Z (.d a[i]):=by
 obtain⟨d,b,rfl⟩:=h.1.qy;refine⟨d,b,λW j=>?_⟩;have q:=k.u j;exact⟨by rw[q.H.1];rfl,q.lt,λi f=>(h.1.u j).cell i f⟩
def IQ(h:yA B own w wb M V)(r:lK)(N:r∈M.rs)(a:ByteArray)(E:(zU r.2.2.2.2 a).isSome=false)(hn:M.J.j<=1048577)(G:M.N.j<=1048577):
  Calls prog 19 #[(π wb),.agg #[.u (Z (δ r.1)),.u (Z (δ r.2.1)),.u (Z (δ r.2.2.1))],.d a] w λe T=>mA B own w wb M (V 1) e T:=by
 obtain⟨lo,lp,R,L,k,Q,nv,rv,fv,cv,aa,kv,I,q⟩:=h.inn.ress r N;obtain⟨x,m,s,cs,t⟩:=r;dsimp only at *;have C:=Th λW (l:μ w W)=>K3 W x t (zp cs) R Q nv rv I a (q.res.u l) (zh E);have v:=Th λW (l:μ w W)=>Dh (h.u l) hn G;obtain⟨P,K,n⟩:=AE q.prog q.names;have D:=Th n;have d:=Th ((AA q.ctx.rise a).z.A E);have ac:(Tj t).j<=1000:=by have:=q.told.K.2.1;simp only[Tj,xt];exact this
 have HK:=Th λA (l:μ w A)=>mA.kept h l;have J:∀W:U,(binOp .eql 31 (ν) (ν)).run prog W=.ok (.bool true) W:=λW=>by
  have:=run_equal_slice_nil W 31 30 Y 0 0 underlying31;simp[binOp,this]
 clear h N E q n;generalize Tj t=b at *;go_enter func19,ntmps19;go_upto_region 1 with fail
 have c:X (μ w (w.C (.E #[(π x),(π m),(π s)] 50))):=zO;have H:=Th (Ti.new w #[(π x),(π m),(π s)] 50);generalize w.C (.E #[(π x),(π m),(π s)] 50)=wX at *;obtain⟨xc,xf,ab⟩:=H.l.e;obtain⟨p1,S,o⟩:=D.l _ c.l;have z:=Th o;clear o;go_wp2_with (first|(go_at_call 38;refine(C.l _ c.l).y ?_;rintro e A ⟨rfl,j⟩;obtain rfl:=j.z)|(go_at_call 39;refine(v.l _ c.l).y ?_;rintro e A ⟨rfl,j⟩;obtain rfl:=j.z))
 go_loop [10,11] (λF f=>∃i:Nat,i<=b.j/\f=ι i/\F=.bool (yi a (b.G i))) (λ_ f=>b.j-(intOf f).toNat);exact⟨0,zs _,rfl,rfl⟩;obtain⟨i,hi,rfl,rfl⟩:=hrel;have HM:X (yi a (b.G i)=false):=by
  cases u:yi a (b.G i);exact rfl;have:=vS.2 (gh (vS.1 u));rw[d.l] at this;cases this
 rw[HM.l];by_cases p:i<b.j
 .obtain⟨g,rfl,hg,cg⟩:=z.l i p;have hs:=vU (show b[i]≠a from λe=>by
   have:=vS.2 (e ▸ zq p);rw[d.l] at this;cases this)
  have HT:X (yi a (b.G (i+1))=false):=by
   cases u:yi a (b.G (i+1));exact rfl;have:=vS.2 (gh (vS.1 u));rw[d.l] at this;cases this
  generalize b[i]=y at *;go_wp2;go_round;exact⟨i+1,η,ξ,by rw[HT.l]⟩;simp[intOf];omega
 go_wp2;go_ret;exact HK.l _ c.l
end
def jY(B:Nat)(a:TI)(d:U)(g:Nat)(M:yZ)(h:O)(m:Nat)(wr:U):Prop:=(∃c f e,yA B c wr g {M with ls:=M.ls++e} f/\e.j=m/\(∀b,b<d.o.q->c b=a b)/\f 1=h)/\∃N,zd N d wr/\∀b∈N,a b=(1,0)∨a b=(12,0)∨a b=(13,0)
section
variable {B:Nat} {own own1:TI} {w w1 w2 wr W:U} {wb m:Nat} {M:yZ} {V:Nat->O} {v1:O}
def jY.keep(h:jY B own1 w2 wb M v1 m wr){a e s n:Nat}{v:O}{xs:Γ}(g:w2.r a e s v n xs)(f:∀b,v.m=Z b->(own1 b).1=0∨19<=(own1 b).1):wr.r a e s v n xs:=by
 obtain⟨_,N,i,d⟩:=h;refine yT g i λb j c=>?_;have:=f b j;rcases d b c with q|q|q<;>rw[q] at this<;>simp at this
def jY.u(h:jY B own1 w2 wb M v1 m wr)(b:μ wr W):jY B own1 w2 wb M v1 m W:=by
 obtain⟨⟨a,j,f,d,i,g,k⟩,N,c,e⟩:=h;exact⟨⟨a,j,f,d.u b,i,g,k⟩,N,c.newer (zd.of (M:=[]) b) ζ,e⟩
def jY.next(h:jY B own1 w2 wb M v1 m wr){f g:Nat}{l:κ}{vb:O}(p:own1 g=(22,M.ls.j+m+1))(o:To B w2 (sl g l.j) l)(a:To f w2 vb l)(t:∀b,vb.m=Z b->(own1 b).1=0)(G:l.j<=1000)(H:M.ls.j+m<=2000000000000):
  Calls prog 41 #[(π wb),sl g l.j,vb] wr λe s=>e=ε (.bool true)/\jY B own1 w2 wb M v1 (m+1) s:=by
 have k:=h.keep o (λb q=>by cases q;rw[p];simp);have d:=h.keep a (λb q=>zh (t b q));obtain⟨⟨r,Q,z,F,rfl,j,I⟩,N,n,C⟩:=h;have L:=n.q;refine(IT F (g:=g) (l:=l) (vb:=vb) ?_ k d G (by simpa using H)).y λe s ⟨J,⟨c,i,K,u,D,v⟩,P,x,A⟩=>?_;rw[j g (yF o rfl),p];simp;refine⟨J,⟨c,i,z++[(g,K,l)],by rw[←kT];exact u,ζ,λb q=>(D b η).A (j b q),v.A I⟩,_,tQ n x,λb a=>?_⟩;rcases ya.1 a with a|a;exact C b a;obtain⟨E,y⟩:=xy.1 a;have:=A b E;rw[j b (by simpa using y)] at this;exact this
def Ug(own:TI)(g:Nat)(a:List Nat)(c:Nat):TI:=λb=>if b=g then(19,1) else if b∈a then(22,c+a.idxOf b+1) else own b
def tu{g d b:Nat}{a:Φ}(c:b≠g)(e:b∉a):Ug own g a d b=own b:=by unfold Ug;rw[za c,za e]
def jY.start(h:yA B own w wb M V){g:Nat}{d:Φ}(e:μ w w2)(f:w.o.q<=g/\g<w2.o.q)(a:∀x∈d,w.o.q<=x/\x<w2.o.q):jY B (Ug own g d M.ls.j) w2 wb M (V 1) 0 w2:=by
 refine⟨⟨_,V,[],?_,rfl,λ_ _=>rfl,rfl⟩,[],zd.refl _ _,ζ⟩;rw[qn];exact h.more e (λb q=>tu η λc=>by have:=a b c;omega) λb q=>by
  rw[tu η λc=>by have:=a b c;omega];exact h.hd.new b (zY e.q q)
def yU.lt{z:Nat->Prop}{lo:Nat}{v:O}{fs:Θ}(h:yU z lo w v fs):yU (λb=>z b∨w.o.q<=b) lo w v fs:=by
 obtain⟨c,f,g,d⟩:=h;exact⟨c,f,g,λi a b=>⟨(d i a b).1,λx e q=>q.elim ((d i a b).2 x e) λq=>by have:=yF (d i a b).1 e;omega⟩⟩
structure eY (w2:U) (wb:Nat) (gs:List Nat) (g ar n:Nat) (bv:O) (RW:List (κ)) (B:Nat) (own1:TI) (M:yZ):Prop where
 gl:gs.j=n
 rl:RW.j=n
 a:w2.r B 30 1 (sl g n) n (gs.w (vr ar))
 I:∀k (h:k<n),(RW[k]'(by omega)).j=ar/\own1 (gs[k]'(by omega))=(22,M.ls.j+k+1)/\To B w2 (sl (gs[k]'(by omega)) ar) (RW[k]'(by omega))
 b:∃rvs:List O,rvs.j=n/\w2.r 0 30 1 bv n rvs/\(∀b,bv.m=Z b->(own1 b).1=0)/\∀k (h:k<n) (h2:k<rvs.j),To 0 w2 rvs[k] (RW[k]'(by omega))/\∀b,rvs[k].m=Z b->(own1 b).1=0
 ga:own1 g=(19,1)
def eY.at{g a n:Nat}{j:Φ}{y:Option Addr}{cap Q:Nat}{z:List (κ)}(h:eY w2 wb j g a n (.k y Q cap) z B own1 M){k:Nat}(d:k<n)(t:a<=1000)(hn:M.ls.j+n<=2000000000000):∃f o c,y=Z (δ f)/\∀m wr,jY B own1 w2 wb M v1 m wr->(wr.p (ω g k)=Z (.k (Z ⟨j[k]'(by rw[h.gl];exact d),0,Y⟩) a a)/\wr.p (ω f k)=Z (.k o a c)/\g<wr.o.q/\f<wr.o.q)/\(m=k->Calls prog 41 #[(π wb),.k (Z ⟨j[k]'(by rw[h.gl];exact d),0,Y⟩) a a,.k o a c] wr λe T=>e=ε (.bool true)/\jY B own1 w2 wb M v1 (m+1) T):=by
 have hg:=h.gl;have hR:=h.rl;obtain⟨i,G,R⟩:=h.I k d;obtain⟨s,b1,x,N,L⟩:=h.b;obtain⟨v,E⟩:=L k d η;obtain⟨o,c,p⟩:=v.qy;obtain⟨f,u,J,e2,e3,e4⟩:=nJ x k d;cases J;refine⟨f,o,c,rfl,λm wr r=>⟨?_,λP=>?_⟩⟩;obtain⟨S,C,D,A,f3,K⟩:=nJ (r.keep h.a λb q=>by cases q;rw[h.ga];simp) k d;cases D;obtain⟨S,C,F,I,d3,H⟩:=nJ (r.keep x λb q=>zh (N b q)) k d;cases F;rw[i] at p;exact⟨by rw[K];simp[vr],by rw[H,p],A,I⟩;subst P;have q:=r.next (g:=j[m]) (l:=z[m]) (vb:=s[m]) G (by rw[i];exact R) v E (by rw[i];exact t) η;rw[p,i] at q;exact q
end
end
section
structure ei (B:Nat) (own:TI) (w:U) (wb:Nat) (M:yZ) (ls:List zj) (gs:List Nat) (g0 cb:Nat) (cc:Array O) (k k1:Nat) (wr:U) (own':TI) (V':Nat->O) (hs:List Nat) (xs:List nC):Prop where
 h:yA B own' wr wb {M with ls:=M.ls++xs} V'
 xl:xs.j=k1
 hl:hs.j=k
 old:∀b,b<w.o.q->own' b=own b
 sv:xV own w wr
 g0:own' g0=(19,1)/\wr.r B 90 3 (sl g0 ls.j) ls.j (T4 (hs.w (tL M.N.j)++List.zipWith Gm (ls.drop k) (gs.drop k)))
 cb:own' cb=(0,0)/\Ti wr cb cc 93
 gs:∀j (h1:j<ls.j) (h2:j<gs.j),k1<=j->own' gs[j]=(22,M.ls.j+j+1)/\To B wr (sl gs[j] ls[j].k.j) ls[j].k
def iX(B:Nat)(own:TI)(w:U)(l:Nat)(M:yZ)(h:List zj)(j:List Nat)(e i:Nat)(d:Array O)(k c:Nat)(wr:U):Prop:=∃a g b f,ei B own w l M h j e i d k c wr a g b f
section
variable {B:Nat} {own:TI} {w wr W W2:U} {wb:Nat} {M:yZ} {V:Nat->O} {ls:List zj} {gs:List Nat} {g0 cb k k1:Nat} {cc:Array O}
def xV.same{lo:Nat}{s:U}(h:xV own w wr)(hs:Ui lo s w)(i:s.o.q<=w.o.q)(f:∀b,lo<=b->b<s.o.q->own b=(0,0)):Ui lo s wr:=by
 obtain⟨N,d,g⟩:=h;exact λb a c=>(d.block b η λe=>g b e (f b a c)).A (hs b a c)
def ei.u{own':TI}{e:Nat->O}{hs:Φ}{xs:List nC}(h:ei B own w wb M ls gs g0 cb cc k k1 wr own' e hs xs)(d:μ wr W):ei B own w wb M ls gs g0 cb cc k k1 W own' e hs xs:=
 ⟨h.h.u d,h.xl,h.hl,h.old,h.sv.A (xV.of (own:=own') d) h.old,⟨h.g0.1,zy h.g0.2 d⟩,⟨h.cb.1,h.cb.2.u d⟩,λj a b c=>⟨(h.gs j a b c).1,(h.gs j a b c).2.u d⟩⟩
def iX.u(h:iX B own w wb M ls gs g0 cb cc k k1 wr)(e:μ wr W):iX B own w wb M ls gs g0 cb cc k k1 W:=by
 obtain⟨a,d,b,c,h⟩:=h;exact⟨a,d,b,c,h.u e⟩
end
end
section
open Go.Proofs.Tryz
section
variable {B:Nat} {own:TI} {w W w1 w2:U} {wb:Nat} {M:yZ} {V:Nat->O}
def J4(h:yA B own w wb M V){ns:κ}{m g:Nat}{rs:List zk}{c:Φ}{bv:O}(G:μ w W)(Q:W.o.q<=g)(v:w1.r W.o.q 30 1 (.k (Z (δ g)) rs.j rs.j) rs.j (c.w (vr m)))(y:T9 W.o.q w1 (rs.w (pY ns m)) c)(p:μ W w1)(i:μ w1 w2)(J:xE (λb=>ua own b∨w.o.q<=b) w1.o.q w2 bv (rs.w λr=>zV ns r m 3)):
  eY w2 wb c g m rs.j bv (rs.w λr=>zV ns r m 3) B (Ug own g c M.ls.j) M/\jY B (Ug own g c M.ls.j) w2 wb M (V 1) 0 w2:=by
 have P:=h.hd.q;have K:=G.q;have L:g<w1.o.q:=yF v rfl;have u:c.j=rs.j:=by simpa using y.1
 have l:∀k (o:k<rs.j),W.o.q<=c[k]'η/\c[k]'η<w1.o.q/\To W.o.q w1 (sl (c[k]'η) m) (zV ns rs[k] m 3):=λk o=>by
  obtain⟨n,f⟩:=y.2.2 k (by simpa using o) η;simp only[ue,pY,kN] at f;exact⟨n,yF f rfl,f⟩
 have d:∀x∈c,W.o.q<=x/\x<w1.o.q/\x≠g:=λx D=>by
  obtain⟨k,o,rfl⟩:=vh D;obtain⟨n,f,t⟩:=l k η;exact⟨n,f,λe=>n9 t v θ (show _=Z c[k] from rfl) (by rw[e];rfl)⟩
 have A:c.Nodup:=y.2.1.imp fun{a b} (q:a<b)=>η;have j:∀b,w1.o.q<=b∨b<w.o.q->Ug own g c M.ls.j b=own b:=λb q=>tu η λN=>by have:=d b N;omega
 have I:=i.q;refine⟨⟨u,ζ,yo (zy v i) η,λk o=>⟨by simp[kN],?_,?_⟩,?_,zb rfl⟩,jY.start h (G.A ((Tl p i).y K)) ⟨η,η⟩ λx D=>by have:=d x D;omega⟩;have s:k<c.j:=η;have:=d _ (zq s);unfold Ug;rw[za this.2.2,zb (zq s),A.idxOf_getElem];simp only[ue];exact yo ((l k o).2.2.u i) η;obtain⟨C,n,f,t⟩:=J;simp only[xt] at n f;refine⟨C,n,yo f (zs _),λb z=>?_,λk F H=>⟨(t k (by simpa using F) H).1,λb z=>?_⟩⟩;have:=yW f z;rw[j b (zh this),h.hd.new b (by have:=p.q;omega)];have:=(t k (by simpa using F) H).2 b z;have E:¬ua own b:=λe=>this (zh e);rw[j b (ze (Nat.lt_of_not_le λe=>this (ze e)))];unfold ua at E;rw[Classical.not_not.1 E]
def RR{g n:Nat}{F hs:Φ}{Q wq w5:U}{h:TI}{J:Nat->O}{xs:List nC}{v:O}(r:μ w w2)(hg:w.o.q<=g/\g<w2.o.q)(K:∀x∈F,w.o.q<=x)(h3:yA B h Q wb {M with ls:=M.ls++xs} J)(S:J 1=V 1)(ab:xs.j=n)(hn:n<=1048576)(ht:∀b,b<w2.o.q->h b=Ug own g F M.ls.j b){N:Φ}(hS:zd N w2 Q)(hN:∀b∈N,Ug own g F M.ls.j b=(1,0)∨Ug own g F M.ls.j b=(12,0)∨Ug own g F M.ls.j b=(13,0))(p:zd [g] Q wq)(hl:hs.j=n)
  (I:wq.r B 30 1 (sl g n) n (hs.w (vr (M.J.j+1)))) (E:∀x∈hs,Q.o.q<=x/\∃c,Ti wq x c 9/\c[0]?=Z (.d ByteArray.empty)) (ho:w5.r B 31 1 v (M.J.j+1) (mh M.J++[sl g n])) (R:zd (J 12).m.toList wq w5) (aa:v.m=(J 12).m∨∃b,v.m=Z b/\wq.o.q<=b):mA B own w wb M (V 1) (ε (.bool true)) (w5.x (ω wb 12) v):=by
 have s1:=r.q;have s2:=hS.q;have s3:=p.q;have L:h g=(19,1):=(ht g hg.2).A (zb rfl);have m:∀b,b<w.o.q->h b=own b:=λb q=>(ht b η).A (tu η λo=>by have:=K b o;omega);obtain⟨a,d⟩:∃a:TI,∀b,a b=if b=g then(0,0) else h b:=⟨_,λ_=>rfl⟩
 have P:=(h3.save p λb r=>by rw[xL.1 r];exact L).retag (own':=a) λb q=>by
  rw[d,za λe=>q (by rw[e];exact L)]
 have C:∀x∈hs,a x=(0,0):=λx H=>by
  have:=(E x H).1;rw[d,za η];exact h3.hd.new x this
 have j:∀b,a b=(0,0)->b∉wb::(J 12).m.toList:=λb e o=>(P.tags 12 θ b o).2 e;have y:a g=(0,0):=by rw[d,zb rfl]
 obtain⟨⟨u,r1,r2⟩,_,r3⟩:=P.put (f:=12) (M':={M with ls:=M.ls++xs,J:=M.J++[(g,n)]}) θ (v:=v) (λf hf=>by unfold yZ.f;split<;>first|rfl|omega) (T:=31) (s:=1) (n:=M.J.j+1) (xs:=mh M.J++[sl g n]) (by simp[yZ.f,mh]) ho R (aa.imp_right ze) P.nums λG w' l z A=>⟨l.ints,l.win,l.z,l.lists,λi hi=>by
  by_cases D:i<M.J.j;have:=l.J i D;simp only[uG D];exact this;obtain rfl:i=M.J.j:=by simp at hi;omega
  simp only[pO];refine⟨(A g η).A y,hs,hl,hn,yT I z λb r=>by cases r;exact j g y,λx H=>?_⟩;obtain⟨_,c,k,t⟩:=E x H;exact⟨(A x k.lt).A (C x H),c,k.save z (j x (C x H)),t⟩,l.N,l.pairs,l.ress⟩
 refine⟨rfl,⟨u,_,_,r1,⟨ζ,ζ,ζ,ζ,ζ,by simp;omega,ζ,ζ,rfl⟩,λb q=>?_,rfl,S⟩,⟨_,tQ (tQ (tQ (zd.of (M:=[]) r) hS) p) r3,λb o=>?_⟩⟩;rw[r2 b η,d,za η];exact m b q;simp only[re,ya,xy,decide_eq_true_eq] at o;unfold ua;rcases o with (⟨k,t⟩|⟨k,t⟩)|⟨k,t⟩
 have:=hN b k;rw[tu η λo=>by have:=K b o;omega] at this;rcases this with e|e|e<;>rw[e]<;>decide
 rw[xL.1 k] at t;omega;have:=(P.tags 12 θ b k).2;unfold ua at this;rw[d,za η,m b t] at this;exact this
def SD:(prog.info? 31).w (λi=>(i.zero,i.q,i.bytes))=Z (Z (ν),1,24):=χ
def Ll(h:yA B own w wb M V)(r:lK)(hr:r∈M.rs)(a:ByteArray)(hp:(zU r.2.2.2.2 a).isSome=true)(hn:M.J.j<=1048577)(b4:M.N.j<=1048577)(bF:M.ls.j<=1200000000000):
  Calls prog 19 #[(π wb),.agg #[.u (Z ⟨r.1,0,Y⟩),.u (Z ⟨r.2.1,0,Y⟩),.u (Z ⟨r.2.2.1,0,Y⟩)],.d a] w λe C=>mA B own w wb M (V 1) e C:=by
 obtain⟨lo,lp,R,L,k,pv,nv,rv,fv,cv,bJ,kv,bi,q⟩:=h.inn.ress r hr;obtain⟨x,m,pm,cs,t⟩:=r;dsimp only at *;obtain⟨p,S,aa,A⟩:=JC q.told hp;have ay:zB t a<R.I.j:=by rw[aa,q.told.len];exact S
 obtain⟨aS,hG,aP⟩:=q.told.I ay;have bN:=(q.told.ar S).1;have aI:X (∀W,μ w W->Calls prog 38 #[(π x),.d a] W λe C=>FF (zp cs) (yc t p) (jN R p) W e C):=λW hb=>by
  have:=MB W x t (zp cs) R pv nv rv bi a (q.res.u hb) hp ay aS _ hG (by rw[aa];omega);rw[aa] at this;exact this
 have aN:X (∀W,μ w W->Calls prog 40 #[(π m),.d a] W λe C=>∃v,e=.returned v/\X (xE (λb=>ua own b∨w.o.q<=b) W.o.q C v ((jN R p).w λr=>zV (zp cs) r (yc t p) 3))/\X (μ W C)):=λW hb=>by
  have:=LH W m k fv L a (yc t p) (q.model.u hb) (q.fl.lt.u hb) q.K (by rw[←A];exact Qt q.told q.rep S) η;rw[←A,La q.told q.rep S,A] at this;exact this
 have aD:=Th λW (hb:μ w W)=>Dh (h.u hb) hn b4;obtain⟨bC,b5,a4⟩:=AE q.prog q.names;have aR:=Th a4;have aO:=Th ((AA q.ctx.rise a).z.A hp);have bA:(Tj t).j<=1000:=by have:=q.told.K.2.1;simp only[Tj,xt];exact this
 rw[aa] at aP;have H0:=Th h;clear h hr hp q a4 ay hG aa A S;generalize Tj t=f at *;generalize jN R p=rs at *;generalize yc t p=l at *;generalize zp cs=ns at *;go_enter func19,ntmps19;go_upto_region 1 with fail
 have F:X (μ w (w.C (.E #[(π x),(π m),(π pm)] 50))):=zO;have ar:=Th (Ti.new w #[(π x),(π m),(π pm)] 50);generalize w.C (.E #[(π x),(π m),(π pm)] 50)=wX at *;obtain⟨xc,xf,bp⟩:=ar.l.e;go_wp2_with (first|(go_at_call 38;refine(aI.l _ F.l).y ?_;rintro e w1 ⟨g,I,hg,rfl,ho,aK,ab⟩;have J:=Th (Tl F.l ab);obtain⟨ba,bn,a6⟩:=(ar.l.u ab).e;obtain⟨p1,bx,A⟩:=aR.l _ J.l;have aE:=Th A;clear A)|(go_at_call 39;refine(aD.l _ J.l).y ?_;rintro e w2 ⟨rfl,bk⟩;obtain rfl:=bk.z))
 have HO:=Th ho;have ad:=Th aK;have al:=Th ab;clear ho aK ab xc xf bp aI aD;go_loop [10,11] (λb3 aq=>∃i:Nat,i<=f.j/\aq=ι i/\b3=.bool (yi a (f.G i))) (λ_ aq=>f.j-(intOf aq).toNat);exact⟨0,zs _,rfl,rfl⟩;obtain⟨i,hi,rfl,rfl⟩:=hrel;by_cases a5:i<f.j
 .obtain⟨gn,rfl,bD,cg⟩:=aE.l i a5;have HT:X (yi a (f.G (i+1))=(yi a (f.G i)||(f[i].toList == a.toList))):=by
   rw[X,yN a5,Cf];congr 1;by_cases e:f[i]=a;rw[jq e];simp[e];rw[vU e];simp[e]
  generalize f[i]=y at *;generalize yi a (f.G i)=mb at *;cases mb
  .go_wp2;go_round;exact⟨i+1,η,ξ,by rw[HT.l];rfl⟩;simp[intOf];omega
  go_wp2;go_round;exact⟨i+1,η,ξ,by rw[HT.l];rfl⟩;simp[intOf];omega
 have HT:X (yi a (f.G i)=true):=by rw[X,yV η];exact aO.l
 rw[HT.l];have aH:X (∀w2 bv,xE (λb=>ua own b∨w.o.q<=b) w1.o.q w2 bv (rs.w λr=>zV ns r l 3)->μ w1 w2->(∃ao aJ,bv=.k ao rs.j aJ)/\eY w2 wb I g l rs.j bv (rs.w λr=>zV ns r l 3) B (Ug own g I M.ls.j) M/\jY B (Ug own g I M.ls.j) w2 wb M (V 1) 0 w2):=λw2 bv q1 q2=>⟨by obtain⟨bB,_,q,_⟩:=q1;simpa using zr q,J4 H0.l F.l hg HO.l ad.l al.l q2 q1⟩;have aV:∀x∈I,w.o.q<=x:=λx hx=>by
  obtain⟨k',b2,rfl⟩:=vh hx;have:=(ad.l.2.2 k' (by have:=ad.l.1;omega) b2).1;have:=F.l.q;omega
 have a9:=Th aV;have aG:g<w1.o.q:=yF HO.l rfl;have bq:w.o.q<=g:=zY F.l.q hg;clear aE HO ad aR aO HT aV;go_wp2_with (go_at_call 40;refine(aN.l _ J.l).y ?_;rintro e w2 ⟨bv,rfl,aF,ae⟩;obtain⟨⟨ao,aJ,bs⟩,aM,a8⟩:=aH.l _ _ aF.l ae.l;subst bs;have G:=Th aM;have aL:=Th a8;clear aM a8)
 have a1:=Th (Tl J.l ae.l);have an:=ym aG ae.l.q;clear aN aH aF ae ba bn a6 p1 bx al J ar F;generalize ak:Ug own g I M.ls.j=aj at *;have ap:=Th ak;clear ak;generalize (rs.w λr=>zV ns r l 3)=RW at *;generalize rs.j=n at *;go_loopw [13,14] (λav _ wr=>∃i:Nat,i<=n/\av=ι i/\X (jY B aj w2 wb M (V 1) i wr)) (λav _ _=>n-(intOf av).toNat);exact⟨0,zs _,rfl,aL⟩;clear aL;obtain⟨j,hj,rfl,HR⟩:=hrel;by_cases a3:j<n
 .obtain⟨gb,o,c,aY,a2⟩:=G.l.at a3 η η;subst aY;have ag:=Th a2;clear a2;generalize I[j]'(by rw[G.l.gl];exact a3)=gj at *;obtain⟨⟨c1,c2,l1,l2⟩,_⟩:=ag.l _ _ HR.l;have be:X (∀W,μ wr W->Calls prog 41 #[(π wb),.k (Z ⟨gj,0,Y⟩) l l,.k o l c] W λe C=>e=ε (.bool true)/\X (jY B aj w2 wb M (V 1) (j+1) C)/\C.p ⟨g,j,Y⟩=Z (.k (Z ⟨gj,0,Y⟩) l l)/\C.p ⟨gb,j,Y⟩=Z (.k o l c)):=λW hb=>by
   refine((ag.l _ _ (HR.l.u hb)).2 rfl).y ?_;rintro e C ⟨q1,q2⟩;have q3:=(ag.l _ _ q2).1;exact⟨q1,q2,q3.1,q3.2.1⟩
  clear ag HR;have b8:(j:Int)<(n:Int):=η;go_wp2;go_region_held3 (λC=>C.p ⟨g,j,Y⟩=Z (.k (Z ⟨gj,0,Y⟩) l l)/\C.p ⟨gb,j,Y⟩=Z (.k o l c)) (first|go_keep|(go_simp;done)) (first|(go_at_call 41;refine(be.l _ φ).y ?_;rintro e K ⟨rfl,bw,z0,z1⟩))
  all_goals
   go_wp2;go_roundw;exact⟨j+1,η,ξ,bw⟩;simp[intOf];omega
 obtain rfl:j=n:=η;obtain⟨⟨b6,V3,xs,h3,bg,ht,am⟩,N,hS,hN⟩:=HR.l;have ha:=HR.l.keep G.l.a λb q=>by cases q;rw[G.l.ga];simp
 have s:wr.r B 31 1 (V3 12) M.J.j (mh M.J):=h3.hd.row 12 _ _ _ _ rfl;obtain⟨af,ac,T⟩:=zr s;have ax:=h3.box;rw[T] at ax s;have bm:=ym an hS.q;have b1:g≠wb:=λe=>by have:=vN ha ax θ (show _=Z g from rfl);exact this e
 have a0:∀b,(O.slice af M.J.j ac).m=Z b->b≠g:=λb q e=>n9 s ha θ q (by rw[e];rfl);have Q:=Th λE wq K v (e1:E.j=j) e2 e3 e4 e5 e6 e7=>RR (hs:=E) (wq:=wq) (w5:=K) (v:=v) a1.l ⟨bq,an⟩ a9.l h3 am bg aP (by rw[ap.l];exact ht) hS (by rw[ap.l];exact hN) e2 e1 e3 e4 e5 e6 e7;have HG:=Th G.l.gl;rw[T] at Q;have HA:=Th ha;have ai:=Th s;clear hN hS ht h3 am HR G a1 a9 T ha s H0;generalize M.J.j=d at *;have aU:=λW:U=>run_make_row' (P:=prog) (w:=W) 30 9 (.d ByteArray.empty) 16 underlying30 SG rfl .i64 .i64 (d+1) η η;rw[show((d+1:Nat):Int)=(d:Int)+1 by omega] at aU;obtain⟨w3,rfl⟩:∃w3,w3=wr:=⟨_,rfl⟩;obtain⟨i0,b0,aX,bo,br⟩:=info_parts SD;go_wp2;go_loopw [15] (λaw wq=>∃(i:Nat) (E:Φ),i<=j/\aw=ι i/\X (E.j=i)/\X (wq.r B 30 1 (sl g j) j (E.w (vr (d+1))++(I.drop i).w (vr l)))/\X (∀x∈E,w3.o.q<=x/\∃c,Ti wq x c 9/\c[0]?=Z (.d ByteArray.empty))/\X (zd [g] w3 wq)) (λaw _=>j-(intOf aw).toNat);exact⟨0,[],zs _,rfl,rfl,by simpa [X] using HA.l,by simp[X],zd.refl _ _⟩;obtain⟨i,E,bI,rfl,aQ,D,ah,z⟩:=hrel;have au:=ax.save z.l (by simpa using Ne.symm b1);obtain⟨bc,bf,bl⟩:=au.e;have bd:=ym bm z.l.q;by_cases bu:i<j
 .have bH:=vl D.l;have aZ:X (∃H:Φ,H.j=i+1/\U.ownsRow ((wr.x ⟨g,i,Y⟩ (.k (Z ⟨wr.o.q,0,Y⟩) (d+1) (d+1))).C (.E (madeCells #[.d ByteArray.empty] (d+1)) 9)) B 30 1 (sl g j) j (H.w (vr (d+1))++(I.drop (i+1)).w (vr l))/\(∀x∈H,w3.o.q<=x/\∃c,Ti ((wr.x ⟨g,i,Y⟩ (.k (Z ⟨wr.o.q,0,Y⟩) (d+1) (d+1))).C (.E (madeCells #[.d ByteArray.empty] (d+1)) 9)) x c 9/\c[0]?=Z (.d ByteArray.empty))/\zd [g] w3 ((wr.x ⟨g,i,Y⟩ (.k (Z ⟨wr.o.q,0,Y⟩) (d+1) (d+1))).C (.E (madeCells #[.d ByteArray.empty] (d+1)) 9))):=by
   have hh:=aQ.l;have bE:=HG.l;have bh:=z.l.q;have aT:zd [g] wr (wr.x ⟨g,i,Y⟩ (.k (Z ⟨wr.o.q,0,Y⟩) (d+1) (d+1))):=zd.set _ _ _ _;have hz:(wr.x ⟨g,i,Y⟩ (.k (Z ⟨wr.o.q,0,Y⟩) (d+1) (d+1))).o.q=wr.o.q:=by simp[U.setCell]
   refine⟨E++[wr.o.q],by simp[hh],?_,λx hx=>?_,z.l.A (aT.A (zd.of zO))⟩;have q:=uD D.l i υ (.k (Z ⟨wr.o.q,0,Y⟩) (d+1) (d+1));have e:(E.w (vr (d+1))++(I.drop i).w (vr l)).set i (.k (Z ⟨wr.o.q,0,Y⟩) (d+1) (d+1))=(E++[wr.o.q]).w (vr (d+1))++(I.drop (i+1)).w (vr l):=by
    rw[fY _ _ υ,xp (show i<I.j by omega),uq,xt,hh,j4,rq,qF];simp[vr]
   rw[e] at q;exact zy q zO;rcases ya.1 hx with hx|hx;obtain⟨q1,c,q2,q3⟩:=ah.l x hx;exact⟨q1,c,(q2.save aT υ).u zO,q3⟩;rw[xL.1 hx];exact⟨bh,_,Ti.newAt _ _ _ _ hz.z,by simp[madeCells]⟩
  have aW:∃u,wr.p ⟨g,i,Y⟩=Z u:=by
   obtain⟨g',c',f1,f2,f3,f4⟩:=nJ D.l i bu;cases f1;exact⟨_,f4⟩
  obtain⟨u,hu⟩:=aW;have bG:(i:Int)<(j:Int):=η;clear D ah z;go_wp2;obtain⟨H,d1,d2,d3,d4⟩:=aZ.l;go_roundw;exact⟨i+1,H,η,ξ,d1,d2,d3,d4⟩;simp[intOf];omega
 obtain rfl:i=j:=η;have az:X (wr.r B 30 1 (sl g i) i (E.w (vr (d+1)))):=by
  have q:=D.l;rw[uk (by have:=HG.l;omega)] at q;simpa [X] using q
 have aB:=Th (yT ai.l z.l λb hb=>by simpa using a0 b hb);have HE:=Th λK v=>Q.l E wr K v aQ.l z.l az.l ah.l;have bz:B<=wr.o.q:=zY (Nat.le_of_lt (Nat.lt_of_le_of_lt (yW az.l rfl) bd)) (zf _);have bb:X (∀K,zd (O.slice af d ac).m.toList wr K->Ti K wb #[V3 0,V3 1,V3 2,V3 3,ι M.a,ι M.n,ι M.ex,V3 7,.bool M.nn,V3 9,V3 10,V3 11,.k af d ac,V3 13] 35):=λK q=>au.save q (jt aB.l au θ);clear Q D ah z az HA ai aU;go_wp2_with (at_builtin;refine kd wr _ [.k (Z ⟨g,0,Y⟩) i i] _ rfl (.tmp 116) (.tmp 118) 32 rfl B 31 i0 _ 1 24 underlying32 b0 aX bo br rfl θ (.k af d ac) d (mh M.J) rfl aB.l (zn _ _) _ _ rfl ζ rfl a_ η η bz ?_;intro v5 K aC a7 aA;obtain⟨bL,b7,rfl⟩:=zr aC;have bt:=bb.l _ a7;obtain⟨bK,b9,bM⟩:=bt.e)
 have HF:=Th (HE.l K _ aC a7 aA);go_ret;exact HF.l
end
end
section
open Go.Proofs.Tryz
variable {z:Nat->Prop}
def IS{aD:Nat}(w:U)(x m pm:Nat)(cs:Ξ)(t:Ψ)(lo lp:Nat)(R:zv)(L:Θ)(k:Nat)(pv nv rv fv cv aP kv:O)(a2:Φ)(a:ByteArray)(K:O)(row:κ)(h:VE z w x m pm cs t lo lp R L k pv nv rv fv cv aP kv a2)(hr:To aD w K row)(hl:row.j<=1048576):
  Calls prog 21 #[.agg #[(π x),(π m),(π pm)],.d a,K] w λe w'=>e=ε (.bool true)/\X (μ w w'):=by
 obtain⟨am,a6,rfl⟩:=hr.qy;have aC:=λW:U=>run_make_row' (P:=prog) (w:=W) 30 9 (.d ByteArray.empty) 16 underlying30 SG rfl .i64 .i64 (row.j+2) η η;rw[show((row.j+2:Nat):Int)=(row.j:Int)+2 by omega] at aC;have C:X (∀W,μ w W->0<(row.w O.string).j->∃ad,am=Z ad/\∀j v,(row.w O.string)[j]?=Z v->W.p (ad.add j)=Z v):=λW hW hp=>by
  obtain⟨gb,aF,hv,_,aQ,aJ⟩:=yq hr (by simpa using hp);simp at hv;refine⟨(δ gb),hv.1,λj v hj=>?_⟩;rw[Addr.add_lit,vJ,hW.cell (p:=(ω gb j)) aQ];exact aJ j v hj
 have s:(row.w O.string).j=row.j:=ζ;have al:X (∀v∈row.w O.string,v.oneCell'=true):=λv hv=>by obtain⟨x,_,rfl⟩:=zF.1 hv;rfl
 obtain⟨u,Q⟩:∃u,u=row.w O.string:=⟨_,rfl⟩;have aw:=Th Q;rw[←Q] at C s al;clear Q;have M:X (0+u.j<=(madeCells #[O.string ByteArray.empty] (row.j+2)).toList.j):=by rw[X,s];simp[size_madeCells]
 have J:X (u.j=Nat.min row.j (row.j+2)):=by rw[X,s];exact(dX η).z
 have c:=Th h;have af:=Th λW (n:μ w W)=>hr.u n;clear h hr;go_enter func21,ntmps21;go_upto_region 3 with fail
 have aj:X (μ w (w.C (.E #[(π x),(π m),(π pm)] 50))):=(zn _ _).C (zf _) _;have av:=Th (Ti.new w #[(π x),(π m),(π pm)] 50);have a7:(w.C (.E #[(π x),(π m),(π pm)] 50)).o.q=w.o.q+1:=ζ;generalize w.C (.E #[(π x),(π m),(π pm)] 50)=D at *;have S:X (μ D (D.C (.E (madeCells #[.d ByteArray.empty] (row.j+2)) 9))):=(zn _ _).C (zf _) _;have ap:X (Ti (D.C (.E (madeCells #[.d ByteArray.empty] (row.j+2)) 9)) (w.o.q+1) (madeCells #[.d ByteArray.empty] (row.j+2)).toList.F 9):=by
  rw[X,Array.toArray_toList,←a7];exact Ti.new _ _ _
 generalize D.C (.E (madeCells #[.d ByteArray.empty] (row.j+2)) 9)=wU at *;clear aC;go_upto_region 4 with (first|(refine wpList_copy_splice rfl (.tmp 21) (.tmp 22) 30 30 rfl 9 underlying30 S3 _ _ _ _ _ _ rfl rfl (w.o.q+1) 0 (madeCells #[.d ByteArray.empty] (row.j+2)).toList 9 ap.l u J.l (λhp=>⟨rfl,C.l _ (Tl aj.l S.l) hp⟩) M.l al.l D.o.q D S.l η ?_;intro w2 a9 aB))
 have aa:X (Ti w2 (w.o.q+1) (u++[O.string ByteArray.empty,O.string ByteArray.empty]).F 9):=by
  have q:=a9.l;rw[←s,JI] at q;exact q
 have a8:=Th aB;clear a9 aB M J C al ap S;obtain⟨gc,gf,aH⟩:=aa.l.e;have ab:X (Ti ((w2.x (ω (w.o.q+1) row.j) (.d ⟨#[109,105,110,101]⟩)).x (ω (w.o.q+1) (row.j+1)) (.d ⟨#[116,111,111]⟩)) (w.o.q+1) (row.w O.string++[O.string ⟨#[109,105,110,101]⟩,O.string ⟨#[116,111,111]⟩]).F 9):=by
  have q:=(aa.l.set row.j (.d ⟨#[109,105,110,101]⟩)).set (row.j+1) (.d ⟨#[116,111,111]⟩);have e:((u++[O.string ByteArray.empty,O.string ByteArray.empty]).F.setIfInBounds row.j (.d ⟨#[109,105,110,101]⟩)).setIfInBounds (row.j+1) (.d ⟨#[116,111,111]⟩)=(row.w O.string++[O.string ⟨#[109,105,110,101]⟩,O.string ⟨#[116,111,111]⟩]).F:=by
   rw[←aw.l,←s];simp
  rw[e] at q;exact q
 have V:X (μ D ((w2.x (ω (w.o.q+1) row.j) (.d ⟨#[109,105,110,101]⟩)).x (ω (w.o.q+1) (row.j+1)) (.d ⟨#[116,111,111]⟩))):=(a8.l.x (p:=(ω (w.o.q+1) row.j)) (by show D.o.q<=w.o.q+1;omega) _).x (p:=(ω (w.o.q+1) (row.j+1))) (by show D.o.q<=w.o.q+1;omega) _;have aR:w2.p (ω (w.o.q+1) row.j)=Z (.d ByteArray.empty):=by rw[gc,←s];simp
 have aE:w2.p (ω (w.o.q+1) (row.j+1))=Z (.d ByteArray.empty):=by rw[gc,←s];simp
 clear gc;go_upto_region 6 with fail
 generalize (w2.x (ω (w.o.q+1) row.j) (.d ⟨#[109,105,110,101]⟩)).x (ω (w.o.q+1) (row.j+1)) (.d ⟨#[116,111,111]⟩)=E at *;clear aR aE gf aH aa a8 aw s;have l:=Th (Tl aj.l V.l);have ai:=Th (PX ab.l η);have G:=Th (RH E x t (zp cs) R pv nv rv a2 a row _ (c.l.res.u l.l) ai.l η);rw[Py c.l.ctx c.l.told c.l.rep] at G;have ay:=Th λW n=>Gd W _ _ row (ai.l.u n) (af.l W (Tl l.l n)) η;have A:X (∀W,μ E W->W.p (δ w.o.q)=Z ((π x))/\W.p (ω w.o.q 1)=Z ((π m))/\W.p (ω w.o.q 2)=Z ((π pm))/\w.o.q<W.o.q):=λW n=>by
  have q:=av.l.u (Tl V.l n);exact⟨by rw[q.H.1];rfl,by rw[q.H.1];rfl,by rw[q.H.1];rfl,q.lt⟩
 have ax:X (∀W,μ E W->W.p (ω (w.o.q+1) row.j)=Z (.d ⟨#[109,105,110,101]⟩)/\W.p (ω (w.o.q+1) (row.j+1))=Z (.d ⟨#[116,111,111]⟩)/\w.o.q+1<W.o.q):=λW n=>by
  have q:=ab.l.u n;exact⟨by rw[q.H.1];simp,by rw[q.H.1];simp,q.lt⟩
 obtain⟨aZ,aU,aq⟩:=AE (c.l.prog.u l.l) (c.l.names.u l.l);have aT:=Th aq;clear aq;have ae:X (∀W,μ E W->Calls prog 45 #[(π m),.d a,.k am row.j a6] W λe w'=>e=ε (ι (kg a row L))/\μ W w'):=λW n=>AF W m k fv L a _ row ((c.l.model.u l.l).u n) ((c.l.fl.u l.l).u n).facts (af.l W (Tl l.l n)) (by have:=c.l.K;omega) η (λf F=>by
  obtain⟨p,hp,r,m',_,rfl⟩:=(c.l.rep.mem f).1 F;simp only[kN];have:=c.l.ctx.small p hp;omega)
 have a5:X (∀W i (hi:i<L.j),μ E W->∃g ag,W.p (δ m)=Z (.k (Z (δ g)) L.j ag)/\m<W.o.q/\g<W.o.q/\W.p (ω g (i*3+2))=Z (ι (L[i].2.2:Nat))):=λW i hi n=>by
  obtain⟨ao,ag,e,q⟩:=((c.l.fl.u l.l).u n).facts;obtain⟨g,rv,lo,r1,r2,_,_,r5,_⟩:=q i hi;have q2:=(c.l.model.u l.l).u n;rw[e,r1] at q2;exact⟨g,ag,by rw[q2.H.1];rfl,q2.lt,r2,r5⟩
 have bc:=c.l.K;have aY:(Tj t).j<=1000:=by
  have:=c.l.told.K.2.1;simp only[Tj,xt];exact this
 clear ab V av ai c af aj a7;generalize Tj t=b at *;obtain⟨an,ah⟩:∃an:Nat×Nat,ou (yi a b) (yP a row L) L=an:=⟨_,rfl⟩;rw[ah] at G;have d:=Th ah;clear ah;obtain⟨N,ac⟩:=an;obtain⟨x0,_,_,a3⟩:=A.l E (zn _ _);have be:(row.j:Int)+1<(row.j:Int)+2:=η;go_upto_region 9 with (first|(go_at_call 43;refine G.l.y ?_;rintro e w5 ⟨rfl,ak⟩)|(go_at_call 44;refine(ay.l _ ak).y ?_;rintro e w6 ⟨rfl,aA⟩))
 have o:=Th (Tl ak aA);clear x0 a3 G ay ak aA;obtain⟨a0,a1,aL⟩:=ax.l _ o.l;obtain⟨x0,x1,x2,a3⟩:=A.l _ o.l;obtain⟨p1,bd,az⟩:=aT.l _ o.l;have aK:=Th az;clear az;go_upto_region 11 with fail
 clear a0 a1 aL;go_wp2;go_loopw [13,14] (λaI T wz=>∃i:Nat,i<=b.j/\T=ι i/\aI=.bool (yi a (b.G i))/\wz=w6) (λ_ T _=>b.j-(intOf T).toNat);exact⟨0,zs _,rfl,rfl,rfl⟩;obtain⟨i,hi,rfl,rfl,aN⟩:=hrel;obtain rfl:=aN.z;by_cases ar:i<b.j
 .have aO:(i:Int)<(b.j:Int):=η;obtain⟨g,rfl,hg,cg⟩:=aK.l i ar;have HT:X (yi a (b.G (i+1))=(yi a (b.G i)||decide (b[i]=a))):=by
   rw[X,yN ar,Cf]
  cases I:yi a (b.G i)
  .rw[I] at HT;clear I;by_cases hy:b[i]=a
   .have hs:=jq hy;rw[show decide (b[i]=a)=true by simp[hy]] at HT;clear hy;generalize b[i]=y at *;go_wp2;go_roundw;exact⟨i+1,η,ξ,by rw[HT.l];rfl,trivial⟩;simp[intOf];omega
   have hs:=vU hy;rw[show decide (b[i]=a)=false by simp[hy]] at HT;clear hy;generalize b[i]=y at *;go_wp2;go_roundw;exact⟨i+1,η,ξ,by rw[HT.l];rfl,trivial⟩;simp[intOf];omega
  rw[I] at HT;clear I;generalize b[i]=y at *;go_wp2;go_roundw;exact⟨i+1,η,ξ,by rw[HT.l];rfl,trivial⟩;simp[intOf];omega
 have aO:¬(i:Int)<(b.j:Int):=η;obtain rfl:i=b.j:=η;rw[uY];cases I:yi a b
 .rw[I] at d;have a4:=Th (show N=0 from(congrArg Prod.fst d.l).z);have au:=Th (show ac=11 from(congrArg Prod.snd d.l).z);obtain rfl:=a4.l;obtain rfl:=au.l;clear d a4 au I;go_wp2;go_ret;exact⟨rfl,Tl l.l o.l⟩
 rw[I] at d;clear I;have H:=Th (ae.l _ o.l);rcases F:yP a row L with _|j
 .rw[F] at d;have e1:kg a row L=-1:=by unfold kg;rw[F]
  rw[e1] at H;obtain rfl:N=0:=(congrArg Prod.fst d.l).z;obtain rfl:ac=12:=(congrArg Prod.snd d.l).z;clear d e1 F ae;go_wp2_with (go_at_call 45;refine H.l.y ?_;rintro e w7 ⟨rfl,B⟩)
  go_ret;exact⟨rfl,Tl l.l (Tl o.l B)⟩
 rw[F] at d;obtain⟨hj,_,_⟩:=wY F;have e1:kg a row L=(j:Int):=by unfold kg;rw[F]
 rw[e1] at H;have aS:N=L[j].2.2:=by
  have q:=(congrArg Prod.fst d.l).z;simpa [ou,hj] using q
 obtain rfl:ac=0:=(congrArg Prod.snd d.l).z;subst aS;have aW:(j:Int)<(L.j:Int):=η;have aG:=Th λW n=>a5.l W j hj (Tl o.l n);have aM:X (∀W,μ w6 W->W.p (ω w.o.q 1)=Z ((π m))/\w.o.q<W.o.q):=λW n=>by
  obtain⟨_,q,_,q2⟩:=A.l W (Tl o.l n);exact⟨q,q2⟩
 clear d e1 F ae a5 A;generalize L[j].2.2=wn at *;go_wp2_with (go_at_call 45;refine H.l.y ?_;rintro e w7 ⟨rfl,B⟩;obtain⟨gm,aV,m0,bb,ba,m2⟩:=aG.l _ B;obtain⟨y1,aX⟩:=aM.l _ B)
 go_ret;exact⟨ζ,Tl l.l (Tl o.l B)⟩
end
section
open Go.Proofs.Tryz
section
variable {B:Nat} {own:TI} {w:U} {wb:Nat} {M:yZ} {V:Nat->O} {a b c:Int} {s:ByteArray}
def KH(h:yA B own w wb M V)(r:lK)(y:r∈M.rs)(f:ByteArray){i:Nat}{d:O}{row:κ}(g:To i w d row)(o:row.j<=1048576):
  Calls prog 21 #[.agg #[.u (Z (δ r.1)),.u (Z (δ r.2.1)),.u (Z (δ r.2.2.1))],.d f,d] w λe p=>e=ε (.bool true)/\X (μ w p):=by
 obtain⟨z,A,R,L,k,n,u,v,m,x,l,t,j,q⟩:=h.inn.ress r y;exact IS w _ _ _ _ _ z A R L k n u v m x l t j f d row q g o
def Lg(h:yA B own w wb M V)(r:lK)(p:r∈M.rs):
  Calls prog 20 #[.agg #[.u (Z (δ r.1)),.u (Z (δ r.2.1)),.u (Z (δ r.2.2.1))]] w λe y=>e=ε (.bool true)/\X (μ w y):=by
 obtain⟨C,D,R,L,k,i,l,x,A,F,j,E,v,q⟩:=h.inn.ress r p;obtain⟨n,z,m⟩:=q.cnt;have t:=q.res.box;have g:=q.model;obtain⟨u,_,f,_⟩:=q.fl;obtain⟨o,d,rfl⟩:=zr f;rw[z,n] at g;exact MD w _ _ _ i l x o d _ _ _ t g m
end
end
end Go.Proofs.YteampbddflhngaaGreat
