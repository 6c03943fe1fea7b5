import Derived.Test.YteampbddflhngaaGreatR18
import Derived.Test.YteampbddflhngaaGreatR19
namespace Go.Proofs.YteampbddflhngaaGreat
open List renaming length→List.j,take→List.G,toArray→List.F
open _root_.Array renaming size→Array.q
open _root_.ByteArray renaming size→ByteArray.q
open Go.RowKit.Below renaming size→Go.RowKit.Below.q,setCell→Go.RowKit.Below.x,mono→Go.RowKit.Below.y,trans→Go.RowKit.Below.A,alloc→Go.RowKit.Below.C
open Go.TypeInfo renaming size→Go.TypeInfo.q
open Go.RowKit.Hid renaming out→Go.RowKit.Hid.l
open Go.Shut renaming out→Go.Shut.l
open Go.World renaming heap→Go.World.o,setCell→Go.World.x,cell?→Go.World.p,alloc→Go.World.C,ownsRow→Go.World.r
open Go.Value renaming slice→Go.Value.k,string→Go.Value.d,cells→Go.Value.E,ownBlock→Go.Value.m,pointer→Go.Value.u
open Go.TypeDesc renaming slice→Go.TypeDesc.k,string→Go.TypeDesc.d,pointer→Go.TypeDesc.u
open Go.Calls renaming mono→Go.Calls.y
open Eq renaming trans→Eq.A,symm→Eq.z
open Iff renaming trans→Iff.A,symm→Iff.z
open Go.Obj renaming cells→Go.Obj.E
open Ne renaming symm→Ne.z
open Option renaming some→Z,none→Y
open Go.RowKit renaming Hid→X
open Go renaming World→U,Value→O
set_option linter.all false
set_option maxRecDepth 100000
set_option maxHeartbeats 8000000
open Go.RowKit
section
open Go.Proofs.Tryz
section
variable {B:Nat} {own:TH} {w:U} {wb:Nat} {M:yZ} {V:Nat->O}
def B8{z:Nat->Prop}{w:U}{e:Nat}{l c m:O}{a:κ}(k:Th w e #[l,c,m] 45)(h:Us z w c a):∃d b,∀W,μ w W->W.p (ω e 1)=Z (.k d a.j b)/\e<W.o.q/\∀i (f:i<a.j),∃g,d=Z (δ g)/\g<W.o.q/\W.p (ω g i)=Z (.d a[i]):=by
 obtain⟨d,b,rfl⟩:=h.1.qy;refine⟨d,b,λW j=>?_⟩;have q:=k.u j;exact⟨by rw[q.H.1];rfl,q.lt,λi f=>(h.1.u j).cell i f⟩
def Je(h:y7 B own w wb M V)(r:lU)(N:r∈M.rs)(a:ByteArray)(E:(zU r.2.2.2.2 a).isSome=false)(hn:M.J.j<=1048577)(F:M.N.j<=1048577):
  Calls prog 19 #[(π wb),.agg #[.u (Z (δ r.1)),.u (Z (δ r.2.1)),.u (Z (δ r.2.2.1))],.d a] w λe w'=>m6 B own w wb M (V 1) e w':=by
 obtain⟨lo,lp,R,L,k,pv,nv,rv,fv,cv,S,kv,u,q⟩:=h.inn.ress r N;obtain⟨x,m,I,P,t⟩:=r;dsimp only at *;have A:=Tg λW (p:μ w W)=>RI W x t (zp P) R pv nv rv u a (q.res.u p) (zh E);have G:=Tg λW (p:μ w W)=>Fp (h.u p) hn F;obtain⟨ab,K,o⟩:=B8 q.prog q.names;have H:=Tg o;have j:=Tg ((Bk q.ctx.rise a).z.A E);have Q:(Ti t).j<=1000:=by have:=q.told.K.2.1;simp only[Ti,xu];exact this
 have HK:=Tg λz (p:μ w z)=>m6.kept h p;have J:∀W:U,(binOp .eql 31 (ν) (ν)).run prog W=.ok (.bool true) W:=λW=>by
  have:=run_equal_slice_nil W 31 30 Y 0 0 underlying31;simp[binOp,this]
 clear h N E q o;generalize Ti t=b at *;go_enter func19,ntmps19;go_upto_region 1 with fail
 have c:X (μ w (w.C (.E #[(π x),(π m),(π I)] 50))):=zP;have v:=Tg (Th.new w #[(π x),(π m),(π I)] 50);generalize w.C (.E #[(π x),(π m),(π I)] 50)=wX at *;obtain⟨xc,xf,T⟩:=v.l.e;obtain⟨p1,aa,n⟩:=H.l _ c.l;have s:=Tg n;clear n;go_wp2_with (first|(go_at_call 38;refine(A.l _ c.l).y ?_;rintro e z ⟨rfl,f⟩;obtain rfl:=f.z)|(go_at_call 39;refine(G.l _ c.l).y ?_;rintro e z ⟨rfl,f⟩;obtain rfl:=f.z))
 go_loop [10,11] (λC d=>∃i:Nat,i<=b.j/\d=ι i/\C=.bool (yh a (b.G i))) (λ_ d=>b.j-(intOf d).toNat);exact⟨0,zs _,rfl,rfl⟩;obtain⟨i,hi,rfl,rfl⟩:=hrel;have HM:X (yh a (b.G i)=false):=by
  cases D:yh a (b.G i);exact rfl;have:=vO.2 (gH (vO.1 D));rw[j.l] at this;cases this
 rw[HM.l];by_cases l:i<b.j
 .obtain⟨g,rfl,hg,cg⟩:=s.l i l;have hs:=vV (show b[i]≠a from λe=>by
   have:=vO.2 (e ▸ zq l);rw[j.l] at this;cases this)
  have HT:X (yh a (b.G (i+1))=false):=by
   cases D:yh a (b.G (i+1));exact rfl;have:=vO.2 (gH (vO.1 D));rw[j.l] at this;cases this
  generalize b[i]=y at *;go_wp2;go_round;exact⟨i+1,η,ξ,by rw[HT.l]⟩;simp[intOf];omega
 go_wp2;go_ret;exact HK.l _ c.l
end
def ki(B:Nat)(a:TH)(f:U)(h:Nat)(M:yZ)(g:O)(m:Nat)(wr:U):Prop:=(∃c d e,y7 B c wr h {M with ls:=M.ls++e} d/\e.j=m/\(∀b,b<f.o.q->c b=a b)/\d 1=g)/\∃N,zd N f wr/\∀b∈N,a b=(1,0)∨a b=(12,0)∨a b=(13,0)
section
variable {B:Nat} {own own1:TH} {w w1 w2 wr W:U} {wb m:Nat} {M:yZ} {V:Nat->O} {v1:O}
def ki.keep(h:ki B own1 w2 wb M v1 m wr){a e s n:Nat}{v:O}{xs:Γ}(f:w2.r a e s v n xs)(j:∀b,v.m=Z b->(own1 b).1=0∨19<=(own1 b).1):wr.r a e s v n xs:=by
 obtain⟨_,N,g,c⟩:=h;refine yQ f g λb i d=>?_;have:=j b i;rcases c b d with q|q|q<;>rw[q] at this<;>simp at this
def ki.u(h:ki B own1 w2 wb M v1 m wr)(b:μ wr W):ki B own1 w2 wb M v1 m W:=by
 obtain⟨⟨a,d,e,f,g,j,i⟩,N,k,c⟩:=h;exact⟨⟨a,d,e,f.u b,g,j,i⟩,N,k.newer (zd.of (M:=[]) b) ζ,c⟩
def ki.next(h:ki B own1 w2 wb M v1 m wr){f g:Nat}{l:κ}{vb:O}(o:own1 g=(22,M.ls.j+m+1))(r:Tn B w2 (sl g l.j) l)(c:Tn f w2 vb l)(z:∀b,vb.m=Z b->(own1 b).1=0)(C:l.j<=1000)(E:M.ls.j+m<=2000000000000):
  Calls prog 41 #[(π wb),sl g l.j,vb] wr λe s=>e=ε (.bool true)/\ki B own1 w2 wb M v1 (m+1) s:=by
 have k:=h.keep r (λb q=>by cases q;rw[o];simp);have i:=h.keep c (λb q=>zh (z b q));obtain⟨⟨n,Q,G,H,rfl,j,y⟩,N,p,v⟩:=h;have L:=p.q;refine(La H (g:=g) (l:=l) (vb:=vb) ?_ k i C (by simpa using E)).y λe s ⟨t,⟨a,d,I,K,F,x⟩,P,A,J⟩=>?_;rw[j g (yG r rfl),o];simp;refine⟨t,⟨a,d,G++[(g,I,l)],by rw[←kO];exact K,ζ,λb q=>(F b η).A (j b q),x.A y⟩,_,sI p A,λb c=>?_⟩;rcases ya.1 c with c|c;exact v b c;obtain⟨D,u⟩:=xz.1 c;have:=J b D;rw[j b (by simpa using u)] at this;exact this
def Ue(own:TH)(g:Nat)(a:List Nat)(c:Nat):TH:=λb=>if b=g then(19,1) else if b∈a then(22,c+a.idxOf b+1) else own b
def sK{g c b:Nat}{a:Φ}(e:b≠g)(d:b∉a):Ue own g a c b=own b:=by unfold Ue;rw[za e,za d]
def ki.start(h:y7 B own w wb M V){g:Nat}{d:Φ}(e:μ w w2)(f:w.o.q<=g/\g<w2.o.q)(a:∀x∈d,w.o.q<=x/\x<w2.o.q):ki B (Ue own g d M.ls.j) w2 wb M (V 1) 0 w2:=by
 refine⟨⟨_,V,[],?_,rfl,λ_ _=>rfl,rfl⟩,[],zd.refl _ _,ζ⟩;rw[qb];exact h.more e (λb q=>sK η λc=>by have:=a b c;omega) λb q=>by
  rw[sK η λc=>by have:=a b c;omega];exact h.hd.new b (zY e.q q)
def yX.lt{z:Nat->Prop}{lo:Nat}{v:O}{fs:Θ}(h:yX z lo w v fs):yX (λb=>z b∨w.o.q<=b) lo w v fs:=by
 obtain⟨d,g,f,c⟩:=h;exact⟨d,g,f,λi a b=>⟨(c i a b).1,λx e q=>q.elim ((c i a b).2 x e) λq=>by have:=yG (c i a b).1 e;omega⟩⟩
structure wR (w2:U) (wb:Nat) (gs:List Nat) (g ar n:Nat) (bv:O) (RW:List (κ)) (B:Nat) (own1:TH) (M:yZ):Prop where
 gl:gs.j=n
 rl:RW.j=n
 a:w2.r B 30 1 (sl g n) n (gs.map (vn ar))
 I:∀k (h:k<n),(RW[k]'(by omega)).j=ar/\own1 (gs[k]'(by omega))=(22,M.ls.j+k+1)/\Tn B w2 (sl (gs[k]'(by omega)) ar) (RW[k]'(by omega))
 b:∃rvs:List O,rvs.j=n/\w2.r 0 30 1 bv n rvs/\(∀b,bv.m=Z b->(own1 b).1=0)/\∀k (h:k<n) (h2:k<rvs.j),Tn 0 w2 rvs[k] (RW[k]'(by omega))/\∀b,rvs[k].m=Z b->(own1 b).1=0
 ga:own1 g=(19,1)
def wR.at{g a n:Nat}{j:Φ}{z:Option Addr}{cap K:Nat}{u:List (κ)}(h:wR w2 wb j g a n (.k z K cap) u B own1 M){k:Nat}(d:k<n)(t:a<=1000)(hn:M.ls.j+n<=2000000000000):∃f o c,z=Z (δ f)/\∀m wr,ki B own1 w2 wb M v1 m wr->(wr.p (ω g k)=Z (.k (Z ⟨j[k]'(by rw[h.gl];exact d),0,Y⟩) a a)/\wr.p (ω f k)=Z (.k o a c)/\g<wr.o.q/\f<wr.o.q)/\(m=k->Calls prog 41 #[(π wb),.k (Z ⟨j[k]'(by rw[h.gl];exact d),0,Y⟩) a a,.k o a c] wr λe R=>e=ε (.bool true)/\ki B own1 w2 wb M v1 (m+1) R):=by
 have hg:=h.gl;have hR:=h.rl;obtain⟨i,F,C⟩:=h.I k d;obtain⟨s,b1,y,P,I⟩:=h.b;obtain⟨v,N⟩:=I k d η;obtain⟨o,c,p⟩:=v.qy;obtain⟨f,x,D,e2,e3,e4⟩:=nR y k d;cases D;refine⟨f,o,c,rfl,λm wr r=>⟨?_,λQ=>?_⟩⟩;obtain⟨H,G,S,A,f3,L⟩:=nR (r.keep h.a λb q=>by cases q;rw[h.ga];simp) k d;cases S;obtain⟨H,G,E,J,d3,T⟩:=nR (r.keep y λb q=>zh (P b q)) k d;cases E;rw[i] at p;exact⟨by rw[L];simp[vn],by rw[T,p],A,J⟩;subst Q;have q:=r.next (g:=j[m]) (l:=u[m]) (vb:=s[m]) F (by rw[i];exact C) v N (by rw[i];exact t) η;rw[p,i] at q;exact q
end
end
section
structure eB (B:Nat) (own:TH) (w:U) (wb:Nat) (M:yZ) (ls:List zj) (gs:List Nat) (g0 cb:Nat) (cc:Array O) (k k1:Nat) (wr:U) (own':TH) (V':Nat->O) (hs:List Nat) (xs:List pg):Prop where
 h:y7 B own' wr wb {M with ls:=M.ls++xs} V'
 xl:xs.j=k1
 hl:hs.j=k
 old:∀b,b<w.o.q->own' b=own b
 sv:xO own w wr
 g0:own' g0=(19,1)/\wr.r B 90 3 (sl g0 ls.j) ls.j (T3 (hs.map (wm M.N.j)++List.zipWith If (ls.drop k) (gs.drop k)))
 cb:own' cb=(0,0)/\Th wr cb cc 93
 gs:∀j (h1:j<ls.j) (h2:j<gs.j),k1<=j->own' gs[j]=(22,M.ls.j+j+1)/\Tn B wr (sl gs[j] ls[j].k.j) ls[j].k
def AV(B:Nat)(own:TH)(w:U)(e:Nat)(M:yZ)(i:List zj)(j:List Nat)(l d:Nat)(b:Array O)(k g:Nat)(wr:U):Prop:=∃a f c h,eB B own w e M i j l d b k g wr a f c h
section
variable {B:Nat} {own:TH} {w wr W W2:U} {wb:Nat} {M:yZ} {V:Nat->O} {ls:List zj} {gs:List Nat} {g0 cb k k1:Nat} {cc:Array O}
def xO.same{lo:Nat}{s:U}(h:xO own w wr)(hs:Ug lo s w)(i:s.o.q<=w.o.q)(e:∀b,lo<=b->b<s.o.q->own b=(0,0)):Ug lo s wr:=by
 obtain⟨N,g,f⟩:=h;exact λb a c=>(g.block b η λd=>f b d (e b a c)).A (hs b a c)
def eB.u{own':TH}{e:Nat->O}{hs:Φ}{xs:List pg}(h:eB B own w wb M ls gs g0 cb cc k k1 wr own' e hs xs)(d:μ wr W):eB B own w wb M ls gs g0 cb cc k k1 W own' e hs xs:=
 ⟨h.h.u d,h.xl,h.hl,h.old,h.sv.A (xO.of (own:=own') d) h.old,⟨h.g0.1,zy h.g0.2 d⟩,⟨h.cb.1,h.cb.2.u d⟩,λj a b c=>⟨(h.gs j a b c).1,(h.gs j a b c).2.u d⟩⟩
def AV.u(h:AV B own w wb M ls gs g0 cb cc k k1 wr)(e:μ wr W):AV B own w wb M ls gs g0 cb cc k k1 W:=by
 obtain⟨a,c,b,d,h⟩:=h;exact⟨a,c,b,d,h.u e⟩
end
end
section
open Go.Proofs.Tryz
section
variable {B:Nat} {own:TH} {w W w1 w2:U} {wb:Nat} {M:yZ} {V:Nat->O}
def M9(h:y7 B own w wb M V){ns:κ}{m g:Nat}{rs:List zk}{c:Φ}{bv:O}(F:μ w W)(Q:W.o.q<=g)(A:w1.r W.o.q 30 1 (.k (Z (δ g)) rs.j rs.j) rs.j (c.map (vn m)))(y:T8 W.o.q w1 (rs.map (pB ns m)) c)(p:μ W w1)(i:μ w1 w2)(K:x6 (λb=>uf own b∨w.o.q<=b) w1.o.q w2 bv (rs.map λr=>zW ns r m 3)):
  wR w2 wb c g m rs.j bv (rs.map λr=>zW ns r m 3) B (Ue own g c M.ls.j) M/\ki B (Ue own g c M.ls.j) w2 wb M (V 1) 0 w2:=by
 have P:=h.hd.q;have I:=F.q;have J:g<w1.o.q:=yG A rfl;have v:c.j=rs.j:=by simpa using y.1
 have l:∀k (s:k<rs.j),W.o.q<=c[k]'η/\c[k]'η<w1.o.q/\Tn W.o.q w1 (sl (c[k]'η) m) (zW ns rs[k] m 3):=λk s=>by
  obtain⟨n,f⟩:=y.2.2 k (by simpa using s) η;simp only[ub,pB,kS] at f;exact⟨n,yG f rfl,f⟩
 have d:∀x∈c,W.o.q<=x/\x<w1.o.q/\x≠g:=λx C=>by
  obtain⟨k,s,rfl⟩:=vd C;obtain⟨n,f,t⟩:=l k η;exact⟨n,f,λe=>nO t A θ (show _=Z c[k] from rfl) (by rw[e];rfl)⟩
 have u:c.Nodup:=y.2.1.imp fun{a b} (q:a<b)=>η;have j:∀b,w1.o.q<=b∨b<w.o.q->Ue own g c M.ls.j b=own b:=λb q=>sK η λN=>by have:=d b N;omega
 have L:=i.q;refine⟨⟨v,ζ,yo (zy A i) η,λk s=>⟨by simp[kS],?_,?_⟩,?_,zb rfl⟩,ki.start h (F.A ((Tk p i).y I)) ⟨η,η⟩ λx C=>by have:=d x C;omega⟩;have o:k<c.j:=η;have:=d _ (zq o);unfold Ue;rw[za this.2.2,zb (zq o),u.idxOf_getElem];simp only[ub];exact yo ((l k s).2.2.u i) η;obtain⟨z,n,f,t⟩:=K;simp only[xu] at n f;refine⟨z,n,yo f (zs _),λb D=>?_,λk G E=>⟨(t k (by simpa using G) E).1,λb D=>?_⟩⟩;have:=yU f D;rw[j b (zh this),h.hd.new b (by have:=p.q;omega)];have:=(t k (by simpa using G) E).2 b D;have H:¬uf own b:=λe=>this (zh e);rw[j b (ze (Nat.lt_of_not_le λe=>this (ze e)))];unfold uf at H;rw[Classical.not_not.1 H]
def MS{g n:Nat}{I hs:Φ}{P wq w5:U}{h:TH}{J:Nat->O}{xs:List pg}{v:O}(t:μ w w2)(hg:w.o.q<=g/\g<w2.o.q)(F:∀x∈I,w.o.q<=x)(h3:y7 B h P wb {M with ls:=M.ls++xs} J)(S:J 1=V 1)(ab:xs.j=n)(hn:n<=1048576)(ht:∀b,b<w2.o.q->h b=Ue own g I M.ls.j b){N:Φ}(hS:zd N w2 P)(hN:∀b∈N,Ue own g I M.ls.j b=(1,0)∨Ue own g I M.ls.j b=(12,0)∨Ue own g I M.ls.j b=(13,0))(p:zd [g] P wq)(hl:hs.j=n)
  (z:wq.r B 30 1 (sl g n) n (hs.map (vn (M.J.j+1)))) (D:∀x∈hs,P.o.q<=x/\∃c,Th wq x c 9/\c[0]?=Z (.d ByteArray.empty)) (ho:w5.r B 31 1 v (M.J.j+1) (lJ M.J++[sl g n])) (R:zd (J 12).m.toList wq w5) (aa:v.m=(J 12).m∨∃b,v.m=Z b/\wq.o.q<=b):m6 B own w wb M (V 1) (ε (.bool true)) (w5.x (ω wb 12) v):=by
 have s1:=t.q;have s2:=hS.q;have s3:=p.q;have G:h g=(19,1):=(ht g hg.2).A (zb rfl);have m:∀b,b<w.o.q->h b=own b:=λb q=>(ht b η).A (sK η λl=>by have:=F b l;omega);obtain⟨a,d⟩:∃a:TH,∀b,a b=if b=g then(0,0) else h b:=⟨_,λ_=>rfl⟩
 have Q:=(h3.save p λb t=>by rw[xQ.1 t];exact G).retag (own':=a) λb q=>by
  rw[d,za λe=>q (by rw[e];exact G)]
 have H:∀x∈hs,a x=(0,0):=λx L=>by
  have:=(D x L).1;rw[d,za η];exact h3.hd.new x this
 have j:∀b,a b=(0,0)->b∉wb::(J 12).m.toList:=λb e l=>(Q.tags 12 θ b l).2 e;have E:a g=(0,0):=by rw[d,zb rfl]
 obtain⟨⟨K,r1,r2⟩,_,r3⟩:=Q.put (f:=12) (M':={M with ls:=M.ls++xs,J:=M.J++[(g,n)]}) θ (v:=v) (λf hf=>by unfold yZ.f;split<;>first|rfl|omega) (T:=31) (s:=1) (n:=M.J.j+1) (xs:=lJ M.J++[sl g n]) (by simp[yZ.f,lJ]) ho R (aa.imp_right ze) Q.nums λA w' k y u=>⟨k.ints,k.win,k.z,k.lists,λi hi=>by
  by_cases C:i<M.J.j;have:=k.J i C;simp only[uH C];exact this;obtain rfl:i=M.J.j:=by simp at hi;omega
  simp only[pL];refine⟨(u g η).A E,hs,hl,hn,yQ z y λb t=>by cases t;exact j g E,λx L=>?_⟩;obtain⟨_,c,o,r⟩:=D x L;exact⟨(u x o.lt).A (H x L),c,o.save y (j x (H x L)),r⟩,k.N,k.pairs,k.ress⟩
 refine⟨rfl,⟨K,_,_,r1,⟨ζ,ζ,ζ,ζ,ζ,by simp;omega,ζ,ζ,rfl⟩,λb q=>?_,rfl,S⟩,⟨_,sI (sI (sI (zd.of (M:=[]) t) hS) p) r3,λb l=>?_⟩⟩;rw[r2 b η,d,za η];exact m b q;simp only[rj,ya,xz,decide_eq_true_eq] at l;unfold uf;rcases l with (⟨o,r⟩|⟨o,r⟩)|⟨o,r⟩
 have:=hN b o;rw[sK η λl=>by have:=F b l;omega] at this;rcases this with e|e|e<;>rw[e]<;>decide
 rw[xQ.1 o] at r;omega;have:=(Q.tags 12 θ b o).2;unfold uf at this;rw[d,za η,m b r] at this;exact this
def SW:(prog.info? 31).map (λi=>(i.zero,i.q,i.bytes))=Z (Z (ν),1,24):=χ
def Kc(h:y7 B own w wb M V)(r:lU)(hr:r∈M.rs)(a:ByteArray)(hp:(zU r.2.2.2.2 a).isSome=true)(hn:M.J.j<=1048577)(b2:M.N.j<=1048577)(b8:M.ls.j<=1200000000000):
  Calls prog 19 #[(π wb),.agg #[.u (Z ⟨r.1,0,Y⟩),.u (Z ⟨r.2.1,0,Y⟩),.u (Z ⟨r.2.2.1,0,Y⟩)],.d a] w λe C=>m6 B own w wb M (V 1) e C:=by
 obtain⟨lo,lp,R,L,k,pv,nv,rv,fv,cv,bG,kv,bw,q⟩:=h.inn.ress r hr;obtain⟨x,m,pm,cs,t⟩:=r;dsimp only at *;obtain⟨p,T,aa,A⟩:=QK q.told hp;have au:zC t a<R.I.j:=by rw[aa,q.told.len];exact T
 obtain⟨aV,hG,aF⟩:=q.told.I au;have bN:=(q.told.ar T).1;have aN:X (∀W,μ w W->Calls prog 38 #[(π x),.d a] W λe C=>C5 (zp cs) (yc t p) (jT R p) W e C):=λW hb=>by
  have:=LN W x t (zp cs) R pv nv rv bw a (q.res.u hb) hp au aV _ hG (by rw[aa];omega);rw[aa] at this;exact this
 have aI:X (∀W,μ w W->Calls prog 40 #[(π m),.d a] W λe C=>∃v,e=.returned v/\X (x6 (λb=>uf own b∨w.o.q<=b) W.o.q C v ((jT R p).map λr=>zW (zp cs) r (yc t p) 3))/\X (μ W C)):=λW hb=>by
  have:=P7 W m k fv L a (yc t p) (q.model.u hb) (q.fl.lt.u hb) q.K (by rw[←A];exact Sv q.told q.rep T) η;rw[←A,PU q.told q.rep T,A] at this;exact this
 have aU:=Tg λW (hb:μ w W)=>Fp (h.u hb) hn b2;obtain⟨bL,b7,aT⟩:=B8 q.prog q.names;have aC:=Tg aT;have aR:=Tg ((Bk q.ctx.rise a).z.A hp);have bH:(Ti t).j<=1000:=by have:=q.told.K.2.1;simp only[Ti,xu];exact this
 rw[aa] at aF;have H0:=Tg h;clear h hr hp q aT au hG aa A T;generalize Ti t=f at *;generalize jT R p=rs at *;generalize yc t p=z at *;generalize zp cs=ns at *;go_enter func19,ntmps19;go_upto_region 1 with fail
 have F:X (μ w (w.C (.E #[(π x),(π m),(π pm)] 50))):=zP;have az:=Tg (Th.new w #[(π x),(π m),(π pm)] 50);generalize w.C (.E #[(π x),(π m),(π pm)] 50)=wX at *;obtain⟨xc,xf,be⟩:=az.l.e;go_wp2_with (first|(go_at_call 38;refine(aN.l _ F.l).y ?_;rintro e w1 ⟨g,I,hg,rfl,ho,aB,ab⟩;have J:=Tg (Tk F.l ab);obtain⟨bn,bm,aH⟩:=(az.l.u ab).e;obtain⟨p1,br,A⟩:=aC.l _ J.l;have a1:=Tg A;clear A)|(go_at_call 39;refine(aU.l _ J.l).y ?_;rintro e w2 ⟨rfl,b1⟩;obtain rfl:=b1.z))
 have HO:=Tg ho;have ae:=Tg aB;have ai:=Tg ab;clear ho aB ab xc xf be aN aU;go_loop [10,11] (λbk aq=>∃i:Nat,i<=f.j/\aq=ι i/\bk=.bool (yh a (f.G i))) (λ_ aq=>f.j-(intOf aq).toNat);exact⟨0,zs _,rfl,rfl⟩;obtain⟨i,hi,rfl,rfl⟩:=hrel;by_cases aK:i<f.j
 .obtain⟨gn,rfl,bM,cg⟩:=a1.l i aK;have HT:X (yh a (f.G (i+1))=(yh a (f.G i)||(f[i].toList == a.toList))):=by
   rw[X,yM aK,Df];congr 1;by_cases e:f[i]=a;rw[jt e];simp[e];rw[vV e];simp[e]
  generalize f[i]=y at *;generalize yh a (f.G i)=mb at *;cases mb
  .go_wp2;go_round;exact⟨i+1,η,ξ,by rw[HT.l];rfl⟩;simp[intOf];omega
  go_wp2;go_round;exact⟨i+1,η,ξ,by rw[HT.l];rfl⟩;simp[intOf];omega
 have HT:X (yh a (f.G i)=true):=by rw[X,yV η];exact aR.l
 rw[HT.l];have aA:X (∀w2 bv,x6 (λb=>uf own b∨w.o.q<=b) w1.o.q w2 bv (rs.map λr=>zW ns r z 3)->μ w1 w2->(∃ao a5,bv=.k ao rs.j a5)/\wR w2 wb I g z rs.j bv (rs.map λr=>zW ns r z 3) B (Ue own g I M.ls.j) M/\ki B (Ue own g I M.ls.j) w2 wb M (V 1) 0 w2):=λw2 bv q1 q2=>⟨by obtain⟨bJ,_,q,_⟩:=q1;simpa using zr q,M9 H0.l F.l hg HO.l ae.l ai.l q2 q1⟩;have aL:∀x∈I,w.o.q<=x:=λx hx=>by
  obtain⟨k',aX,rfl⟩:=vd hx;have:=(ae.l.2.2 k' (by have:=ae.l.1;omega) aX).1;have:=F.l.q;omega
 have a9:=Tg aL;have aQ:g<w1.o.q:=yG HO.l rfl;have bp:w.o.q<=g:=zY F.l.q hg;clear a1 HO ae aC aR HT aL;go_wp2_with (go_at_call 40;refine(aI.l _ J.l).y ?_;rintro e w2 ⟨bv,rfl,aE,ag⟩;obtain⟨⟨ao,a5,b3⟩,a0,aO⟩:=aA.l _ _ aE.l ag.l;subst b3;have D:=Tg a0;have aM:=Tg aO;clear a0 aO)
 have aD:=Tg (Tk J.l ag.l);have al:=ym aQ ag.l.q;clear aI aA aE ag bn bm aH p1 br ai J az F;generalize ak:Ue own g I M.ls.j=aj at *;have an:=Tg ak;clear ak;generalize (rs.map λr=>zW ns r z 3)=RW at *;generalize rs.j=n at *;go_loopw [13,14] (λaw _ wr=>∃i:Nat,i<=n/\aw=ι i/\X (ki B aj w2 wb M (V 1) i wr)) (λaw _ _=>n-(intOf aw).toNat);exact⟨0,zs _,rfl,aM⟩;clear aM;obtain⟨j,hj,rfl,HR⟩:=hrel;by_cases a2:j<n
 .obtain⟨gb,o,c,bq,a6⟩:=D.l.at a2 η η;subst bq;have ac:=Tg a6;clear a6;generalize I[j]'(by rw[D.l.gl];exact a2)=gj at *;obtain⟨⟨c1,c2,l1,l2⟩,_⟩:=ac.l _ _ HR.l;have ba:X (∀W,μ wr W->Calls prog 41 #[(π wb),.k (Z ⟨gj,0,Y⟩) z z,.k o z c] W λe C=>e=ε (.bool true)/\X (ki B aj w2 wb M (V 1) (j+1) C)/\C.p ⟨g,j,Y⟩=Z (.k (Z ⟨gj,0,Y⟩) z z)/\C.p ⟨gb,j,Y⟩=Z (.k o z c)):=λW hb=>by
   refine((ac.l _ _ (HR.l.u hb)).2 rfl).y ?_;rintro e C ⟨q1,q2⟩;have q3:=(ac.l _ _ q2).1;exact⟨q1,q2,q3.1,q3.2.1⟩
  clear ac HR;have b9:(j:Int)<(n:Int):=η;go_wp2;go_region_held3 (λC=>C.p ⟨g,j,Y⟩=Z (.k (Z ⟨gj,0,Y⟩) z z)/\C.p ⟨gb,j,Y⟩=Z (.k o z c)) (first|go_keep|(go_simp;done)) (first|(go_at_call 41;refine(ba.l _ φ).y ?_;rintro e H ⟨rfl,b4,z0,z1⟩))
  all_goals
   go_wp2;go_roundw;exact⟨j+1,η,ξ,b4⟩;simp[intOf];omega
 obtain rfl:j=n:=η;obtain⟨⟨b5,V3,xs,h3,aZ,ht,am⟩,N,hS,hN⟩:=HR.l;have ha:=HR.l.keep D.l.a λb q=>by cases q;rw[D.l.ga];simp
 have s:wr.r B 31 1 (V3 12) M.J.j (lJ M.J):=h3.hd.row 12 _ _ _ _ rfl;obtain⟨af,ad,Q⟩:=zr s;have av:=h3.box;rw[Q] at av s;have bd:=ym al hS.q;have bu:g≠wb:=λe=>by have:=vW ha av θ (show _=Z g from rfl);exact this e
 have aP:∀b,(O.slice af M.J.j ad).m=Z b->b≠g:=λb q e=>nO s ha θ q (by rw[e];rfl);have K:=Tg λE wq H v (e1:E.j=j) e2 e3 e4 e5 e6 e7=>MS (hs:=E) (wq:=wq) (w5:=H) (v:=v) aD.l ⟨bp,al⟩ a9.l h3 am aZ aF (by rw[an.l];exact ht) hS (by rw[an.l];exact hN) e2 e1 e3 e4 e5 e6 e7;have HG:=Tg D.l.gl;rw[Q] at K;have HA:=Tg ha;have ap:=Tg s;clear hN hS ht h3 am HR D aD a9 Q ha s H0;generalize M.J.j=d at *;have aG:=λW:U=>run_make_row' (P:=prog) (w:=W) 30 9 (.d ByteArray.empty) 16 underlying30 SL rfl .i64 .i64 (d+1) η η;rw[show((d+1:Nat):Int)=(d:Int)+1 by omega] at aG;obtain⟨w3,rfl⟩:∃w3,w3=wr:=⟨_,rfl⟩;obtain⟨i0,bh,bb,bt,aY⟩:=info_parts SW;go_wp2;go_loopw [15] (λax wq=>∃(i:Nat) (E:Φ),i<=j/\ax=ι i/\X (E.j=i)/\X (wq.r B 30 1 (sl g j) j (E.map (vn (d+1))++(I.drop i).map (vn z)))/\X (∀x∈E,w3.o.q<=x/\∃c,Th wq x c 9/\c[0]?=Z (.d ByteArray.empty))/\X (zd [g] w3 wq)) (λax _=>j-(intOf ax).toNat);exact⟨0,[],zs _,rfl,rfl,by simpa [X] using HA.l,by simp[X],zd.refl _ _⟩;obtain⟨i,E,bK,rfl,a3,G,ah,l⟩:=hrel;have ar:=av.save l.l (by simpa using Ne.symm bu);obtain⟨bc,bf,bl⟩:=ar.e;have bi:=ym bd l.l.q;by_cases bz:i<j
 .have bI:=vg G.l;have bo:X (∃S:Φ,S.j=i+1/\U.ownsRow ((wr.x ⟨g,i,Y⟩ (.k (Z ⟨wr.o.q,0,Y⟩) (d+1) (d+1))).C (.E (madeCells #[.d ByteArray.empty] (d+1)) 9)) B 30 1 (sl g j) j (S.map (vn (d+1))++(I.drop (i+1)).map (vn z))/\(∀x∈S,w3.o.q<=x/\∃c,Th ((wr.x ⟨g,i,Y⟩ (.k (Z ⟨wr.o.q,0,Y⟩) (d+1) (d+1))).C (.E (madeCells #[.d ByteArray.empty] (d+1)) 9)) x c 9/\c[0]?=Z (.d ByteArray.empty))/\zd [g] w3 ((wr.x ⟨g,i,Y⟩ (.k (Z ⟨wr.o.q,0,Y⟩) (d+1) (d+1))).C (.E (madeCells #[.d ByteArray.empty] (d+1)) 9))):=by
   have hh:=a3.l;have bE:=HG.l;have bs:=l.l.q;have aS:zd [g] wr (wr.x ⟨g,i,Y⟩ (.k (Z ⟨wr.o.q,0,Y⟩) (d+1) (d+1))):=zd.set _ _ _ _;have hz:(wr.x ⟨g,i,Y⟩ (.k (Z ⟨wr.o.q,0,Y⟩) (d+1) (d+1))).o.q=wr.o.q:=by simp[U.setCell]
   refine⟨E++[wr.o.q],by simp[hh],?_,λx hx=>?_,l.l.A (aS.A (zd.of zP))⟩;have q:=uB G.l i υ (.k (Z ⟨wr.o.q,0,Y⟩) (d+1) (d+1));have e:(E.map (vn (d+1))++(I.drop i).map (vn z)).set i (.k (Z ⟨wr.o.q,0,Y⟩) (d+1) (d+1))=(E++[wr.o.q]).map (vn (d+1))++(I.drop (i+1)).map (vn z):=by
    rw[l0 _ _ υ,xn (show i<I.j by omega),un,xu,hh,jC,pF,qF];simp[vn]
   rw[e] at q;exact zy q zP;rcases ya.1 hx with hx|hx;obtain⟨q1,c,q2,q3⟩:=ah.l x hx;exact⟨q1,c,(q2.save aS υ).u zP,q3⟩;rw[xQ.1 hx];exact⟨bs,_,Th.newAt _ _ _ _ hz.z,by simp[madeCells]⟩
  have b0:∃u,wr.p ⟨g,i,Y⟩=Z u:=by
   obtain⟨g',c',f1,f2,f3,f4⟩:=nR G.l i bz;cases f1;exact⟨_,f4⟩
  obtain⟨u,hu⟩:=b0;have bC:(i:Int)<(j:Int):=η;clear G ah l;go_wp2;obtain⟨S,d1,d2,d3,d4⟩:=bo.l;go_roundw;exact⟨i+1,S,η,ξ,d1,d2,d3,d4⟩;simp[intOf];omega
 obtain rfl:i=j:=η;have ay:X (wr.r B 30 1 (sl g i) i (E.map (vn (d+1)))):=by
  have q:=G.l;rw[ui (by have:=HG.l;omega)] at q;simpa [X] using q
 have a4:=Tg (yQ ap.l l.l λb hb=>by simpa using aP b hb);have HE:=Tg λH v=>K.l E wr H v a3.l l.l ay.l ah.l;have bg:B<=wr.o.q:=zY (Nat.le_of_lt (Nat.lt_of_le_of_lt (yU ay.l rfl) bi)) (zg _);have bx:X (∀H,zd (O.slice af d ad).m.toList wr H->Th H wb #[V3 0,V3 1,V3 2,V3 3,ι M.a,ι M.n,ι M.ex,V3 7,.bool M.nn,V3 9,V3 10,V3 11,.k af d ad,V3 13] 35):=λH q=>ar.save q (jx a4.l ar θ);clear K G ah l ay HA ap aG;go_wp2_with (at_builtin;refine kc wr _ [.k (Z ⟨g,0,Y⟩) i i] _ rfl (.tmp 116) (.tmp 118) 32 rfl B 31 i0 _ 1 24 underlying32 bh bb bt aY rfl θ (.k af d ad) d (lJ M.J) rfl a4.l (zn _ _) _ _ rfl ζ rfl a_ η η bg ?_;intro v5 H a7 a8 aJ;obtain⟨bF,b6,rfl⟩:=zr a7;have aW:=bx.l _ a8;obtain⟨bB,bA,bD⟩:=aW.e)
 have HF:=Tg (HE.l H _ a7 a8 aJ);go_ret;exact HF.l
end
end
section
open Go.Proofs.Tryz
variable {z:Nat->Prop}
def KS{aI:Nat}(w:U)(x m pm:Nat)(cs:Ξ)(t:Ψ)(lo lp:Nat)(R:zv)(L:Θ)(k:Nat)(pv nv rv fv cv aL kv:O)(a8:Φ)(a:ByteArray)(J:O)(row:κ)(h:VE z w x m pm cs t lo lp R L k pv nv rv fv cv aL kv a8)(hr:Tn aI w J row)(hl:row.j<=1048576):
  Calls prog 21 #[.agg #[(π x),(π m),(π pm)],.d a,J] w λe w'=>e=ε (.bool true)/\X (μ w w'):=by
 obtain⟨a3,am,rfl⟩:=hr.qy;have av:=λW:U=>run_make_row' (P:=prog) (w:=W) 30 9 (.d ByteArray.empty) 16 underlying30 SL rfl .i64 .i64 (row.j+2) η η;rw[show((row.j+2:Nat):Int)=(row.j:Int)+2 by omega] at av;have D:X (∀W,μ w W->0<(row.map O.string).j->∃ad,a3=Z ad/\∀j v,(row.map O.string)[j]?=Z v->W.p (ad.add j)=Z v):=λW hW hp=>by
  obtain⟨gb,aE,hv,_,aR,aT⟩:=yr hr (by simpa using hp);simp at hv;refine⟨(δ gb),hv.1,λj v hj=>?_⟩;rw[Addr.add_lit,vx,hW.cell (p:=(ω gb j)) aR];exact aT j v hj
 have s:(row.map O.string).j=row.j:=ζ;have ac:X (∀v∈row.map O.string,v.oneCell'=true):=λv hv=>by obtain⟨x,_,rfl⟩:=zF.1 hv;rfl
 obtain⟨u,V⟩:∃u,u=row.map O.string:=⟨_,rfl⟩;have ay:=Tg V;rw[←V] at D s ac;clear V;have K:X (0+u.j<=(madeCells #[O.string ByteArray.empty] (row.j+2)).toList.j):=by rw[X,s];simp[size_madeCells]
 have M:X (u.j=Nat.min row.j (row.j+2)):=by rw[X,s];exact(gV η).z
 have c:=Tg h;have aj:=Tg λW (o:μ w W)=>hr.u o;clear h hr;go_enter func21,ntmps21;go_upto_region 3 with fail
 have ae:X (μ w (w.C (.E #[(π x),(π m),(π pm)] 50))):=(zn _ _).C (zg _) _;have a6:=Tg (Th.new w #[(π x),(π m),(π pm)] 50);have a7:(w.C (.E #[(π x),(π m),(π pm)] 50)).o.q=w.o.q+1:=ζ;generalize w.C (.E #[(π x),(π m),(π pm)] 50)=C at *;have ah:X (μ C (C.C (.E (madeCells #[.d ByteArray.empty] (row.j+2)) 9))):=(zn _ _).C (zg _) _;have a9:X (Th (C.C (.E (madeCells #[.d ByteArray.empty] (row.j+2)) 9)) (w.o.q+1) (madeCells #[.d ByteArray.empty] (row.j+2)).toList.F 9):=by
  rw[X,Array.toArray_toList,←a7];exact Th.new _ _ _
 generalize C.C (.E (madeCells #[.d ByteArray.empty] (row.j+2)) 9)=wU at *;clear av;go_upto_region 4 with (first|(refine wpList_copy_splice rfl (.tmp 21) (.tmp 22) 30 30 rfl 9 underlying30 ST _ _ _ _ _ _ rfl rfl (w.o.q+1) 0 (madeCells #[.d ByteArray.empty] (row.j+2)).toList 9 a9.l u M.l (λhp=>⟨rfl,D.l _ (Tk ae.l ah.l) hp⟩) K.l ac.l C.o.q C ah.l η ?_;intro w2 a4 aA))
 have ab:X (Th w2 (w.o.q+1) (u++[O.string ByteArray.empty,O.string ByteArray.empty]).F 9):=by
  have q:=a4.l;rw[←s,Ku] at q;exact q
 have az:=Tg aA;clear a4 aA K M D ac a9 ah;obtain⟨gc,gf,aJ⟩:=ab.l.e;have ak:X (Th ((w2.x (ω (w.o.q+1) row.j) (.d ⟨#[109,105,110,101]⟩)).x (ω (w.o.q+1) (row.j+1)) (.d ⟨#[116,111,111]⟩)) (w.o.q+1) (row.map O.string++[O.string ⟨#[109,105,110,101]⟩,O.string ⟨#[116,111,111]⟩]).F 9):=by
  have q:=(ab.l.set row.j (.d ⟨#[109,105,110,101]⟩)).set (row.j+1) (.d ⟨#[116,111,111]⟩);have e:((u++[O.string ByteArray.empty,O.string ByteArray.empty]).F.setIfInBounds row.j (.d ⟨#[109,105,110,101]⟩)).setIfInBounds (row.j+1) (.d ⟨#[116,111,111]⟩)=(row.map O.string++[O.string ⟨#[109,105,110,101]⟩,O.string ⟨#[116,111,111]⟩]).F:=by
   rw[←ay.l,←s];simp
  rw[e] at q;exact q
 have af:X (μ C ((w2.x (ω (w.o.q+1) row.j) (.d ⟨#[109,105,110,101]⟩)).x (ω (w.o.q+1) (row.j+1)) (.d ⟨#[116,111,111]⟩))):=(az.l.x (p:=(ω (w.o.q+1) row.j)) (by show C.o.q<=w.o.q+1;omega) _).x (p:=(ω (w.o.q+1) (row.j+1))) (by show C.o.q<=w.o.q+1;omega) _;have aK:w2.p (ω (w.o.q+1) row.j)=Z (.d ByteArray.empty):=by rw[gc,←s];simp
 have aF:w2.p (ω (w.o.q+1) (row.j+1))=Z (.d ByteArray.empty):=by rw[gc,←s];simp
 clear gc;go_upto_region 6 with fail
 generalize (w2.x (ω (w.o.q+1) row.j) (.d ⟨#[109,105,110,101]⟩)).x (ω (w.o.q+1) (row.j+1)) (.d ⟨#[116,111,111]⟩)=E at *;clear aK aF gf aJ ab az ay s;have l:=Tg (Tk ae.l af.l);have ag:=Tg (Qd ak.l η);have G:=Tg (Nj E x t (zp cs) R pv nv rv a8 a row _ (c.l.res.u l.l) ag.l η);rw[OE c.l.ctx c.l.told c.l.rep] at G;have aq:=Tg λW o=>DX W _ _ row (ag.l.u o) (aj.l W (Tk l.l o)) η;have A:X (∀W,μ E W->W.p (δ w.o.q)=Z ((π x))/\W.p (ω w.o.q 1)=Z ((π m))/\W.p (ω w.o.q 2)=Z ((π pm))/\w.o.q<W.o.q):=λW o=>by
  have q:=a6.l.u (Tk af.l o);exact⟨by rw[q.H.1];rfl,by rw[q.H.1];rfl,by rw[q.H.1];rfl,q.lt⟩
 have ax:X (∀W,μ E W->W.p (ω (w.o.q+1) row.j)=Z (.d ⟨#[109,105,110,101]⟩)/\W.p (ω (w.o.q+1) (row.j+1))=Z (.d ⟨#[116,111,111]⟩)/\w.o.q+1<W.o.q):=λW o=>by
  have q:=ak.l.u o;exact⟨by rw[q.H.1];simp,by rw[q.H.1];simp,q.lt⟩
 obtain⟨be,aU,aB⟩:=B8 (c.l.prog.u l.l) (c.l.names.u l.l);have aS:=Tg aB;clear aB;have al:X (∀W,μ E W->Calls prog 45 #[(π m),.d a,.slice a3 row.j am] W λe w'=>e=ε (ι (kl a row L))/\μ W w'):=λW o=>A9 W m k fv L a _ row ((c.l.model.u l.l).u o) ((c.l.fl.u l.l).u o).facts (aj.l W (Tk l.l o)) (by have:=c.l.K;omega) η (λf H=>by
  obtain⟨p,hp,r,m',_,rfl⟩:=(c.l.rep.mem f).1 H;simp only[kS];have:=c.l.ctx.small p hp;omega)
 have aC:X (∀W i (hi:i<L.j),μ E W->∃g S,W.p (δ m)=Z (.slice (Z (δ g)) L.j S)/\m<W.o.q/\g<W.o.q/\W.p (ω g (i*3+2))=Z (ι (L[i].2.2:Nat))):=λW i hi o=>by
  obtain⟨ao,S,e,q⟩:=((c.l.fl.u l.l).u o).facts;obtain⟨g,rv,lo,r1,r2,_,_,r5,_⟩:=q i hi;have q2:=(c.l.model.u l.l).u o;rw[e,r1] at q2;exact⟨g,S,by rw[q2.H.1];rfl,q2.lt,r2,r5⟩
 have aZ:=c.l.K;have bc:(Ti t).j<=1000:=by
  have:=c.l.told.K.2.1;simp only[Ti,xu];exact this
 clear ak af a6 ag c aj ae a7;generalize Ti t=b at *;obtain⟨an,Q⟩:∃an:Nat×Nat,An (yh a b) (yP a row L) L=an:=⟨_,rfl⟩;rw[Q] at G;have d:=Tg Q;clear Q;obtain⟨aa,T⟩:=an;obtain⟨x0,_,_,ar⟩:=A.l E (zn _ _);have aX:(row.j:Int)+1<(row.j:Int)+2:=η;go_upto_region 9 with (first|(go_at_call 43;refine G.l.y ?_;rintro e w5 ⟨rfl,N⟩)|(go_at_call 44;refine(aq.l _ N).y ?_;rintro e w6 ⟨rfl,au⟩))
 have n:=Tg (Tk N au);clear x0 ar G aq N au;obtain⟨a0,a1,aO⟩:=ax.l _ n.l;obtain⟨x0,x1,x2,ar⟩:=A.l _ n.l;obtain⟨p1,ba,ap⟩:=aS.l _ n.l;have aD:=Tg ap;clear ap;go_upto_region 11 with fail
 clear a0 a1 aO;go_wp2;go_loopw [13,14] (λaM ai wz=>∃i:Nat,i<=b.j/\ai=ι i/\aM=.bool (yh a (b.G i))/\wz=w6) (λ_ ai _=>b.j-(intOf ai).toNat);exact⟨0,zs _,rfl,rfl,rfl⟩;obtain⟨i,hi,rfl,rfl,aP⟩:=hrel;obtain rfl:=aP.z;by_cases a2:i<b.j
 .have aH:(i:Int)<(b.j:Int):=η;obtain⟨g,rfl,hg,cg⟩:=aD.l i a2;have HT:X (yh a (b.G (i+1))=(yh a (b.G i)||decide (b[i]=a))):=by
   rw[X,yM a2,Df]
  cases F:yh a (b.G i)
  .rw[F] at HT;clear F;by_cases hy:b[i]=a
   .have hs:=jt hy;rw[show decide (b[i]=a)=true by simp[hy]] at HT;clear hy;generalize b[i]=y at *;go_wp2;go_roundw;exact⟨i+1,η,ξ,by rw[HT.l];rfl,trivial⟩;simp[intOf];omega
   have hs:=vV hy;rw[show decide (b[i]=a)=false by simp[hy]] at HT;clear hy;generalize b[i]=y at *;go_wp2;go_roundw;exact⟨i+1,η,ξ,by rw[HT.l];rfl,trivial⟩;simp[intOf];omega
  rw[F] at HT;clear F;generalize b[i]=y at *;go_wp2;go_roundw;exact⟨i+1,η,ξ,by rw[HT.l];rfl,trivial⟩;simp[intOf];omega
 have aH:¬(i:Int)<(b.j:Int):=η;obtain rfl:i=b.j:=η;rw[uW];cases F:yh a b
 .rw[F] at d;have aw:=Tg (show aa=0 from(congrArg Prod.fst d.l).z);have a5:=Tg (show T=11 from(congrArg Prod.snd d.l).z);obtain rfl:=aw.l;obtain rfl:=a5.l;clear d aw a5 F;go_wp2;go_ret;exact⟨rfl,Tk l.l n.l⟩
 rw[F] at d;clear F;have I:=Tg (al.l _ n.l);rcases H:yP a row L with _|j
 .rw[H] at d;have e1:kl a row L=-1:=by unfold kl;rw[H]
  rw[e1] at I;obtain rfl:aa=0:=(congrArg Prod.fst d.l).z;obtain rfl:T=12:=(congrArg Prod.snd d.l).z;clear d e1 H al;go_wp2_with (go_at_call 45;refine I.l.y ?_;rintro e w7 ⟨rfl,B⟩)
  go_ret;exact⟨rfl,Tk l.l (Tk n.l B)⟩
 rw[H] at d;obtain⟨hj,_,_⟩:=eb H;have e1:kl a row L=(j:Int):=by unfold kl;rw[H]
 rw[e1] at I;have aQ:aa=L[j].2.2:=by
  have q:=(congrArg Prod.fst d.l).z;simpa [An,hj] using q
 obtain rfl:T=0:=(congrArg Prod.snd d.l).z;subst aQ;have aY:(j:Int)<(L.j:Int):=η;have aG:=Tg λW o=>aC.l W j hj (Tk n.l o);have aN:X (∀W,μ w6 W->W.p (ω w.o.q 1)=Z ((π m))/\w.o.q<W.o.q):=λW o=>by
  obtain⟨_,q,_,q2⟩:=A.l W (Tk n.l o);exact⟨q,q2⟩
 clear d e1 H al aC A;generalize L[j].2.2=wn at *;go_wp2_with (go_at_call 45;refine I.l.y ?_;rintro e w7 ⟨rfl,B⟩;obtain⟨gm,aV,m0,aW,bb,m2⟩:=aG.l _ B;obtain⟨y1,bd⟩:=aN.l _ B)
 go_ret;exact⟨ζ,Tk l.l (Tk n.l B)⟩
end
section
open Go.Proofs.Tryz
section
variable {B:Nat} {own:TH} {w:U} {wb:Nat} {M:yZ} {V:Nat->O} {a b c:Int} {s:ByteArray}
def LP(h:y7 B own w wb M V)(r:lU)(y:r∈M.rs)(f:ByteArray){i:Nat}{d:O}{row:κ}(g:Tn i w d row)(u:row.j<=1048576):
  Calls prog 21 #[.agg #[.u (Z (δ r.1)),.u (Z (δ r.2.1)),.u (Z (δ r.2.2.1))],.d f,d] w λe t=>e=ε (.bool true)/\X (μ w t):=by
 obtain⟨m,p,R,L,k,v,n,x,o,z,j,A,l,q⟩:=h.inn.ress r y;exact KS w _ _ _ _ _ m p R L k v n x o z j A l f d row q g u
def NT(h:y7 B own w wb M V)(r:lU)(u:r∈M.rs):
  Calls prog 20 #[.agg #[.u (Z (δ r.1)),.u (Z (δ r.2.1)),.u (Z (δ r.2.2.1))]] w λe x=>e=ε (.bool true)/\X (μ w x):=by
 obtain⟨C,D,R,L,k,y,n,l,F,A,j,E,m,q⟩:=h.inn.ress r u;obtain⟨i,z,o⟩:=q.cnt;have p:=q.res.box;have g:=q.model;obtain⟨v,_,f,_⟩:=q.fl;obtain⟨t,d,rfl⟩:=zr f;rw[z,i] at g;exact LM w _ _ _ y n l t d _ _ _ p g o
end
end
end Go.Proofs.YteampbddflhngaaGreat
