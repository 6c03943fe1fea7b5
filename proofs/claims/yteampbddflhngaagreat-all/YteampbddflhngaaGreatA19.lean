import Derived.Test.YteampbddflhngaaGreatA15
import Derived.Test.YteampbddflhngaaGreatA16
import Derived.Test.YteampbddflhngaaGreatA17
import Derived.Test.YteampbddflhngaaGreatA18
namespace Go.Proofs.YteampbddflhngaaGreat
open List renaming length→List.j,take→List.G,toArray→List.F,zipWith→j_
open _root_.Array renaming size→Array.q
open _root_.ByteArray renaming size→ByteArray.q,empty→g_
open Go.RowKit.Below renaming size→Go.RowKit.Below.q,setCell→Go.RowKit.Below.x,mono→Go.RowKit.Below.y,trans→Go.RowKit.Below.A,alloc→Go.RowKit.Below.C
open Go.TypeInfo renaming size→Go.TypeInfo.q
open Go.RowKit.Hid renaming out→Go.RowKit.Hid.l
open Go.Shut renaming out→Go.Shut.l
open Go.World renaming heap→Go.World.o,setCell→Go.World.x,cell?→Go.World.p,alloc→Go.World.C,ownsRow→Go.World.r,cell?_of_block→i_
open Go.Value renaming slice→Go.Value.k,string→Go.Value.g,bool→Go.Value.i,cells→Go.Value.E,ownBlock→Go.Value.m,pointer→Go.Value.u,string→h_
open Go.TypeDesc renaming slice→Go.TypeDesc.k,string→Go.TypeDesc.g,bool→Go.TypeDesc.i,pointer→Go.TypeDesc.u
open Go.Calls renaming mono→Go.Calls.y
open Eq renaming trans→Eq.A,symm→Eq.z
open Iff renaming trans→Iff.A,symm→Iff.z
open Go.Lit renaming bool→Go.Lit.i
open Go.Obj renaming cells→Go.Obj.E
open Int renaming toNat→Int.D
open UInt8 renaming toNat→UInt8.D
open Ne renaming symm→Ne.z
open Prod renaming fst→k_,snd→l_
open Option renaming some→Z,none→Y
open Go.RowKit renaming Hid→X,intOf→d_
open Go renaming World→U,Value→O,Calls→c_
open Go.Proofs.Tryz renaming prog→e_
set_option linter.all false
set_option maxRecDepth 100000
set_option maxHeartbeats 8000000
open Go.Proofs.Tryz Go.RowKit
section
section
variable {B:Nat} {own:UY} {w:U} {wb:Nat} {M:ym} {V:Nat->O}
def oP{z:Nat->Prop}{w:U}{e:Nat}{m c k:O}{a:List Λ}(l:U3 w e #[m,c,k] 45)(f:VK z w c a):∃d b,∀W,μ w W->W.p (ω e 1)=Z (.k d a.j b)/\e<W.o.q/\∀i (j:i<a.j),∃g,d=Z (δ g)/\g<W.o.q/\W.p (ω g i)=Z (.g a[i]):=by
 obtain⟨d,b,rfl⟩:=f.1.qm;refine⟨d,b,λW h=>?_⟩;have q:=l.u h;exact⟨by rw[q.H.1];rfl,q.lt,λi j=>(f.1.u h).cell i j⟩
def RL(h:zH B own w wb M V)(r:dI)(J:r∈M.rs)(a:Λ)(D:(zO r.2.2.2.2 a).isSome=false)(hn:M.F.j<=1048577)(s:M.z.j<=1048577):
  c_ e_ 19 #[(π wb),.agg #[.u (Z (δ r.1)),.u (Z (δ r.2.1)),.u (Z (δ r.2.2.1))],.g a] w λe w'=>mC B own w wb M (V 1) e w':=by
 obtain⟨lo,lp,R,L,k,S,nv,rv,fv,cv,aa,kv,F,q⟩:=h.inn.ress r J;obtain⟨x,m,u,cs,t⟩:=r;dsimp only at *;have E:=U2 λW (l:μ w W)=>KS W x t (zp cs) R S nv rv F a (q.res.u l) (zh D);have I:=U2 λW (l:μ w W)=>tE (h.u l) hn s;obtain⟨Q,K,n⟩:=oP q.prog q.names;have G:=U2 n;have d:=U2 ((Bx q.ctx.rise a).z.A D);have ac:(U4 t).j<=1000:=by have:=q.told.M.2.1;simp only[U4,xv];exact this
 have HK:=U2 λA (l:μ w A)=>mC.kept h l;have N:∀W:U,(binOp .eql 31 (ν) (ν)).run e_ W=.ok (.i true) W:=λW=>by
  have:=run_equal_slice_nil W 31 30 Y 0 0 underlying31;simp[binOp,this]
 clear h J D q n;generalize U4 t=b at *;go_enter func19,ntmps19;go_upto_region 1 with fail
 have c:X (μ w (w.C (.E #[(π x),(π m),(π u)] 50))):=zQ;have H:=U2 (U3.new w #[(π x),(π m),(π u)] 50);generalize w.C (.E #[(π x),(π m),(π u)] 50)=wX at *;obtain⟨xc,xf,ab⟩:=H.l.I;obtain⟨p1,T,o⟩:=G.l _ c.l;have C:=U2 o;clear o;go_wp2_with (first|(go_at_call 38;refine(E.l _ c.l).y ?_;rintro e A ⟨rfl,j⟩;obtain rfl:=j.z)|(go_at_call 39;refine(I.l _ c.l).y ?_;rintro e A ⟨rfl,j⟩;obtain rfl:=j.z))
 go_loop [10,11] (λv f=>∃i:Nat,i<=b.j/\f=ι i/\v=.i (yr a (b.G i))) (λ_ f=>b.j-(d_ f).D);exact⟨0,zs _,rfl,rfl⟩;obtain⟨i,hi,rfl,rfl⟩:=hrel;have P:X (yr a (b.G i)=false):=by
  cases z:yr a (b.G i);exact rfl;have:=qq.2 (gZ (qq.1 z));rw[d.l] at this;cases this
 rw[P.l];by_cases p:i<b.j
 .obtain⟨g,rfl,hg,cg⟩:=C.l i p;have hs:=vn (show b[i]≠a from λe=>by
   have:=qq.2 (e ▸ zr p);rw[d.l] at this;cases this)
  have HT:X (yr a (b.G (i+1))=false):=by
   cases z:yr a (b.G (i+1));exact rfl;have:=qq.2 (gZ (qq.1 z));rw[d.l] at this;cases this
  generalize b[i]=y at *;go_wp2;go_round;exact⟨i+1,η,ξ,by rw[HT.l]⟩;simp[d_];omega
 go_wp2;go_ret;exact HK.l _ c.l
end
end
section
def kp(B:Nat)(a:UY)(e:U)(wb:Nat)(M:ym)(v1:O)(m:Nat)(wr:U):Prop:=(∃c f d,zH B c wr wb {M with ls:=M.ls++d} f/\d.j=m/\(∀b,b<e.o.q->c b=a b)/\f 1=v1)/\∃N,zc N e wr/\∀b∈N,a b=(1,0)∨a b=(12,0)∨a b=(13,0)
section
variable {B:Nat} {own own1:UY} {w w1 w2 wr W:U} {wb m:Nat} {M:ym} {V:Nat->O} {v1:O}
def kp.keep(h:kp B own1 w2 wb M v1 m wr){a e s n:Nat}{v:O}{xs:Γ}(j:w2.r a e s v n xs)(g:∀b,v.m=Z b->(own1 b).1=0∨19<=(own1 b).1):wr.r a e s v n xs:=by
 obtain⟨_,N,c,d⟩:=h;refine yd j c λb f i=>?_;have:=g b f;rcases d b i with q|q|q<;>rw[q] at this<;>simp at this
def kp.u(h:kp B own1 w2 wb M v1 m wr)(b:μ wr W):kp B own1 w2 wb M v1 m W:=by
 obtain⟨⟨a,j,e,f,k,g,i⟩,N,c,d⟩:=h;exact⟨⟨a,j,e,f.u b,k,g,i⟩,N,c.newer (zc.of (M:=[]) b) ζ,d⟩
def kp.next(h:kp B own1 w2 wb M v1 m wr){f g:Nat}{l:List Λ}{vb:O}(o:own1 g=(22,M.ls.j+m+1))(s:U7 B w2 (sl g l.j) l)(a:U7 f w2 vb l)(u:∀b,vb.m=Z b->(own1 b).1=0)(G:l.j<=1000)(H:M.ls.j+m<=2000000000000):
  c_ e_ 41 #[(π wb),sl g l.j,vb] wr λe r=>e=ε (.i true)/\kp B own1 w2 wb M v1 (m+1) r:=by
 have d:=h.keep s (λb q=>by cases q;rw[o];simp);have k:=h.keep a (λb q=>zh (u b q));obtain⟨⟨n,Q,C,v,rfl,j,D⟩,N,p,I⟩:=h;have L:=p.q;refine(Br v (g:=g) (l:=l) (vb:=vb) ?_ d k G (by simpa using H)).y λe r ⟨E,⟨c,i,t,K,F,x⟩,P,z,y⟩=>?_;rw[j g (yb s rfl),o];simp;refine⟨E,⟨c,i,C++[(g,t,l)],by rw[←jt];exact K,ζ,λb q=>(F b η).A (j b q),x.A D⟩,_,tN p z,λb a=>?_⟩;rcases zW.1 a with a|a;exact I b a;obtain⟨J,A⟩:=xw.1 a;have:=y b J;rw[j b (by simpa using A)] at this;exact this
def Vq(own:UY)(g:Nat)(gs:List Nat)(a:Nat):UY:=λb=>if b=g then(19,1) else if b∈gs then(22,a+gs.idxOf b+1) else own b
def nO{g c b:Nat}{gs:Φ}(a:b≠g)(d:b∉gs):Vq own g gs c b=own b:=by unfold Vq;rw[za a,za d]
def kp.start(h:zH B own w wb M V){g:Nat}{gs:Φ}(d:μ w w2)(e:w.o.q<=g/\g<w2.o.q)(a:∀x∈gs,w.o.q<=x/\x<w2.o.q):kp B (Vq own g gs M.ls.j) w2 wb M (V 1) 0 w2:=by
 refine⟨⟨_,V,[],?_,rfl,λ_ _=>rfl,rfl⟩,[],zc.refl _ _,ζ⟩;rw[vD];exact h.more d (λb q=>nO η λc=>by have:=a b c;omega) λb q=>by
  rw[nO η λc=>by have:=a b c;omega];exact h.hd.new b (zX d.q q)
def yX.lt{z:Nat->Prop}{lo:Nat}{v:O}{fs:Θ}(h:yX z lo w v fs):yX (λb=>z b∨w.o.q<=b) lo w v fs:=by
 obtain⟨c,f,g,d⟩:=h;exact⟨c,f,g,λi a b=>⟨(d i a b).1,λx e q=>q.elim ((d i a b).2 x e) λq=>by have:=yb (d i a b).1 e;omega⟩⟩
structure io (w2:U) (wb:Nat) (gs:List Nat) (g ar n:Nat) (bv:O) (RW:List (κ)) (B:Nat) (own1:UY) (M:ym):Prop where
 gl:gs.j=n
 rl:RW.j=n
 a:w2.r B 30 1 (sl g n) n (gs.map (vC ar))
 rows:∀k (h:k<n),(RW[k]'(by omega)).j=ar/\own1 (gs[k]'(by omega))=(22,M.ls.j+k+1)/\U7 B w2 (sl (gs[k]'(by omega)) ar) (RW[k]'(by omega))
 b:∃rvs:List O,rvs.j=n/\w2.r 0 30 1 bv n rvs/\(∀b,bv.m=Z b->(own1 b).1=0)/\∀k (h:k<n) (h2:k<rvs.j),U7 0 w2 rvs[k] (RW[k]'(by omega))/\∀b,rvs[k].m=Z b->(own1 b).1=0
 ga:own1 g=(19,1)
def io.at{g a n:Nat}{gs:Φ}{v:Option Addr}{cap nb:Nat}{t:List (List Λ)}(h:io w2 wb gs g a n (.k v nb cap) t B own1 M){k:Nat}(d:k<n)(p:a<=1000)(hn:M.ls.j+n<=2000000000000):∃f o c,v=Z (δ f)/\∀m wr,kp B own1 w2 wb M v1 m wr->(wr.p (ω g k)=Z (.k (Z ⟨gs[k]'(by rw[h.gl];exact d),0,Y⟩) a a)/\wr.p (ω f k)=Z (.k o a c)/\g<wr.o.q/\f<wr.o.q)/\(m=k->c_ e_ 41 #[(π wb),.k (Z ⟨gs[k]'(by rw[h.gl];exact d),0,Y⟩) a a,.k o a c] wr λe L=>e=ε (.i true)/\kp B own1 w2 wb M v1 (m+1) L):=by
 have T:=h.gl;have hR:=h.rl;obtain⟨i,F,G⟩:=h.rows k d;obtain⟨j,S,x,D,E⟩:=h.b;obtain⟨u,H⟩:=E k d η;obtain⟨o,c,s⟩:=u.qm;obtain⟨f,y,Q,e2,e3,e4⟩:=kL x k d;cases Q;refine⟨f,o,c,rfl,λm wr r=>⟨?_,λC=>?_⟩⟩;obtain⟨J,N,A,R,f3,P⟩:=kL (r.keep h.a λb q=>by cases q;rw[h.ga];simp) k d;cases A;obtain⟨J,N,K,I,d3,z⟩:=kL (r.keep x λb q=>zh (D b q)) k d;cases K;rw[i] at s;exact⟨by rw[P];simp[vC],by rw[z,s],R,I⟩;subst C;have q:=r.next (g:=gs[m]) (l:=t[m]) (vb:=j[m]) F (by rw[i];exact G) u H (by rw[i];exact p) η;rw[s,i] at q;exact q
end
end
section
structure wJ (B:Nat) (own:UY) (w:U) (wb:Nat) (M:ym) (ls:List zk) (gs:List Nat) (g0 cb:Nat) (cc:Array O) (k k1:Nat) (wr:U) (own':UY) (V':Nat->O) (hs:List Nat) (xs:List nU):Prop where
 h:zH B own' wr wb {M with ls:=M.ls++xs} V'
 xl:xs.j=k1
 hl:hs.j=k
 old:∀b,b<w.o.q->own' b=own b
 sv:uw own w wr
 g0:own' g0=(19,1)/\wr.r B 90 3 (sl g0 ls.j) ls.j (UM (hs.map (ka M.z.j)++j_ vO (ls.drop k) (gs.drop k)))
 cb:own' cb=(0,0)/\U3 wr cb cc 93
 gs:∀j (h1:j<ls.j) (h2:j<gs.j),k1<=j->own' gs[j]=(22,M.ls.j+j+1)/\U7 B wr (sl gs[j] ls[j].k.j) ls[j].k
def qt(B:Nat)(own:UY)(w:U)(wb:Nat)(M:ym)(ls:List zk)(gs:List Nat)(e f:Nat)(h:Array O)(k d:Nat)(wr:U):Prop:=∃a g b c,wJ B own w wb M ls gs e f h k d wr a g b c
section
variable {B:Nat} {own:UY} {w wr W W2:U} {wb:Nat} {M:ym} {V:Nat->O} {ls:List zk} {gs:List Nat} {g0 cb k k1:Nat} {cc:Array O}
def uw.same{lo:Nat}{s:U}(h:uw own w wr)(hs:Vw lo s w)(i:s.o.q<=w.o.q)(e:∀b,lo<=b->b<s.o.q->own b=(0,0)):Vw lo s wr:=by
 obtain⟨N,d,g⟩:=h;exact λb c a=>(d.block b η λf=>g b f (e b c a)).A (hs b c a)
def qt.at(h:qt B own w wb M ls gs g0 cb cc k k1 wr)(g:gs.j=ls.j)(i:k<ls.j):
  g0<wr.o.q/\wr.p (ω g0 (k*3))=Z (.i ls[k].i)/\wr.p (ω g0 (k*3+1))=Z (.g ls[k].o)/\wr.p (ω g0 (k*3+2))=Z (.k (Z (δ gs[k])) ls[k].k.j ls[k].k.j):=by
 obtain⟨f,m,d,l,h⟩:=h;have c:k<gs.j:=η;have e:(d.map (ka M.z.j)++j_ vO (ls.drop k) (gs.drop k))[k]?=Z (vO ls[k] gs[k]):=by
  have a:(d.map (ka M.z.j)).j=k:=by simp[h.hl]
  rw[gJ η,a,vF,yK i,yK c];rfl
 obtain⟨b,j⟩:=jB.1 e;have q:=pq h.g0.2 k b;rw[j] at q;exact q
def qt.parts(h:qt B own w wb M ls gs g0 cb cc k k1 wr):
  uw own w wr/\U3 wr cb cc 93/\(∃(a:Nat->O) (b:Option Addr) (cap:Nat),U3 wr wb #[a 0,a 1,a 2,a 3,ι M.a,ι M.n,ι M.ex,a 7,.i M.nn,a 9,a 10,a 11,a 12,.k b M.z.j cap] 35)/\∃c,U3 wr g0 c 90:=by
 obtain⟨d,a,f,g,h⟩:=h;have q:=h.h.box;obtain⟨b,cap,e⟩:=zq (h.h.hd.row 13 _ _ _ _ rfl);rw[e] at q;exact⟨h.sv,h.cb.2,⟨a,b,cap,q⟩,sD h.g0.2⟩
def wJ.u{own':UY}{e:Nat->O}{hs:Φ}{xs:List nU}(h:wJ B own w wb M ls gs g0 cb cc k k1 wr own' e hs xs)(d:μ wr W):wJ B own w wb M ls gs g0 cb cc k k1 W own' e hs xs:=
 ⟨h.h.u d,h.xl,h.hl,h.old,h.sv.A (uw.of (own:=own') d) h.old,⟨h.g0.1,zy h.g0.2 d⟩,⟨h.cb.1,h.cb.2.u d⟩,λj a b c=>⟨(h.gs j a b c).1,(h.gs j a b c).2.u d⟩⟩
def qt.u(h:qt B own w wb M ls gs g0 cb cc k k1 wr)(c:μ wr W):qt B own w wb M ls gs g0 cb cc k k1 W:=by
 obtain⟨a,e,b,d,h⟩:=h;exact⟨a,e,b,d,h.u c⟩
def Ql(h:qt B own w wb M ls gs g0 cb cc k k wr)(K:gs.j=ls.j)(D:k<ls.j)(d:μ wr W2){vb:O}{u:Nat}(Q:U7 u W2 vb ls[k].k)(L:ls[k].k.j<=1000)(R:M.ls.j+k<=2000000000000):
  c_ e_ 41 #[(π wb),sl gs[k] ls[k].k.j,vb] W2 λe p=>e=ε (.i true)/\qt B own w wb M ls gs g0 cb cc k (k+1) p/\(∀b,wr.o.q<=b->b<W2.o.q->p.o[b]?=W2.o[b]?)/\W2.o.q<=p.o.q:=by
 obtain⟨f,V',C,H,z⟩:=h;have q:=z.u d;have s:k<gs.j:=η;obtain⟨G,S⟩:=q.gs k D s (ze _);have n:=q.xl;refine(Br q.h (g:=gs[k]) (l:=ls[k].k) (vb:=vb) (by rw[G,yB,n]) S Q L (by rw[yB,n];exact R)).y λe p ⟨J,⟨i,v,A,P,o,_⟩,N,m,E⟩=>?_;have c:∀b,(f b).1=0∨19<=(f b).1->b∉N:=λb t F=>by rcases E b F with e|e|e<;>rw[e] at t<;>simp at t
 refine⟨J,⟨i,v,C,H++[(gs[k],A,ls[k].k)],⟨by rw[←jt];exact P,by simp[n],q.hl,λb d=>?_,q.sv.A ⟨N,m,λb d e=>c b (zh (by rw[e])) d⟩ q.old,⟨(o _ (yb q.g0.2 rfl)).A q.g0.1,yd q.g0.2 m λb d=>by cases d;exact c _ (zg (by rw[q.g0.1];simp))⟩,⟨(o _ q.cb.2.lt).A q.cb.1,q.cb.2.save m (c _ (zh (by rw[q.cb.1])))⟩,λj r y T=>?_⟩⟩,λb r y=>m.block b y (c b (zh (by rw[z.h.hd.new b r]))),m.q⟩;obtain⟨_,I,_⟩:=q.sv;exact(o b (yh d I.q)).A (q.old b d);obtain⟨a,b⟩:=q.gs j r y η;exact⟨(o _ (yb b rfl)).A a,yd b m λx n=>by cases n;exact c _ (zg (by rw[a];simp))⟩
def qt.next{d r:U}(h:qt B own w wb M ls gs g0 cb cc k (k+1) d)(E:gs.j=ls.j)(y:k<ls.j)(o:Obj)
  (I:r=(((d.x (ω g0 (k*3)) (.i false)).x (ω g0 (k*3+1)) (.g dJ)).x (ω g0 (k*3+2)) (sl d.o.q (M.z.j+1))).C o):qt B own w wb M ls gs g0 cb cc (k+1) (k+1) r:=by
 obtain⟨c,v,l,u,q⟩:=h;have n:k<gs.j:=η;have g:=t7 q.g0.2 k (by simp[q.hl];omega) (.i false) (.g dJ) (sl d.o.q (M.z.j+1));have f:zc [g0] d (((d.x (ω g0 (k*3)) (.i false)).x (ω g0 (k*3+1)) (.g dJ)).x (ω g0 (k*3+2)) (sl d.o.q (M.z.j+1))):=((zc.set _ _ _ _).A (zc.set _ _ _ _)).A (zc.set _ _ _ _);have t:(l.map (ka M.z.j)++j_ vO (ls.drop k) (gs.drop k)).set k (.i false,.g dJ,sl d.o.q (M.z.j+1))=(l++[d.o.q]).map (ka M.z.j)++j_ vO (ls.drop (k+1)) (gs.drop (k+1)):=by
  have p:(l.map (ka M.z.j)).j=k:=by simp[q.hl]
  rw[gz _ _ η,p,vF,yK y,yK n,uY];simp only[l7,ml,xU,List.map_nil,jt,dM,mo,ka]
 rw[t] at g;generalize (((d.x (ω g0 (k*3)) (.i false)).x (ω g0 (k*3+1)) (.g dJ)).x (ω g0 (k*3+2)) (sl d.o.q (M.z.j+1)))=W at *;have C:μ W r:=by rw[I];exact(zn _ _).C (ze _) _
 have s:∀b∈[g0],c b=(19,1):=λb m=>by rw[xo.1 m];exact q.g0.1
 have i:∀b,c b≠(19,1)->b∉[g0]:=λb e A=>e (s b A);have D:wJ B own w wb M ls gs g0 cb cc (k+1) (k+1) W c v (l++[d.o.q]) u:=⟨q.h.save f s,q.xl,by simp[q.hl],q.old,q.sv.A ⟨_,f,λb m=>by unfold xh;rw[s b m];decide⟩ q.old,⟨q.g0.1,g⟩,⟨q.cb.1,q.cb.2.save f (i _ (by rw[q.cb.1];decide))⟩,λj z H F=>by
  obtain⟨a,b⟩:=q.gs j z H F;exact⟨a,yd b f λx G=>by cases G;exact i _ (by rw[a];simp)⟩⟩
 exact⟨c,v,_,u,D.u C⟩
def qt.start(h:zH B own w wb M V)(l:μ w wr)(o:w.o.q<=g0/\g0<wr.o.q)(a:∀x∈gs,w.o.q<=x/\x<cb/\x≠g0)(m:gs.Nodup)(g:w.o.q<=cb/\g0<cb/\cb<wr.o.q)(i:U3 wr cb cc 93)(d:wr.r B 90 3 (sl g0 ls.j) ls.j (UM (j_ vO ls gs)))(hs:∀j (n:j<ls.j) (f:j<gs.j),U7 B wr (sl gs[j] ls[j].k.j) ls[j].k):qt B own w wb M ls gs g0 cb cc 0 0 wr:=by
 have c:∀b,b<w.o.q->Vq own g0 gs M.ls.j b=own b:=λb q=>nO η λe=>by have:=a b e;omega
 refine⟨Vq own g0 gs M.ls.j,V,[],[],⟨?_,rfl,rfl,c,uw.of l,⟨zb rfl,d⟩,⟨?_,i⟩,λj n f _=>⟨?_,hs j n f⟩⟩⟩;rw[vD];exact h.more l c λb q=>by
  rw[nO η λe=>by have:=a b e;omega];exact h.hd.new b (zX l.q q)
 rw[nO η λe=>by have:=a cb e;omega];exact h.hd.new cb g.1;unfold Vq;rw[za (a _ (zr f)).2.2,zb (zr f),m.idxOf_getElem]
def K7(h:qt B own w wb M ls gs g0 cb cc k k wr)(I:k=ls.j)(G:ls.j<=7)(hg:w.o.q<=g0):∃v:O,(∃c:Nat->O,U3 wr wb #[c 0,c 1,c 2,c 3,ι M.a,ι M.n,ι M.ex,c 7,.i M.nn,c 9,c 10,c 11,c 12,v] 35)/\wr.r B 91 1 v M.z.j (kS M.z)/\B<=wr.o.q/\∀y p,y.r B 91 1 p (M.z.j+1) (kS M.z++[sl g0 ls.j])->zc v.m.toList wr y->(p.m=v.m∨∃b,p.m=Z b/\wr.o.q<=b)->U9 B own w wb M (ε (.i true)) (y.x (ω wb 13) p):=by
 subst I;obtain⟨l,c,H,F,q⟩:=h;refine⟨c 13,⟨c,q.h.box⟩,q.h.hd.row 13 _ _ _ _ rfl,q.h.hd.q,λy p N Q E=>?_⟩;obtain⟨a,g⟩:∃a:UY,∀b,a b=if b=g0 then(0,0) else l b:=⟨_,λ_=>rfl⟩
 have z:=q.h.retag (own':=a) λb e=>by
  rw[g,za λR=>e (by rw[R];exact q.g0.1)]
 have u:a g0=(0,0):=by rw[g,zb rfl]
 have r:g0∉wb::(c 13).m.toList:=λJ=>(z.tags 13 θ g0 J).2 u;have d:=q.g0.2;rw[sO (ze _),List.zipWith_nil_left,vD] at d;obtain⟨⟨t,S,K⟩,P,_⟩:=z.put (f:=13) (M':={M with ls:=M.ls++F,z:=M.z++[(g0,ls.j)]}) θ (v:=p) (λf hf=>by unfold ym.f;split<;>first|rfl|omega) (T:=91) (s:=1) (n:=M.z.j+1) (xs:=kS M.z++[sl g0 ls.j]) (by simp[ym.f,kS]) N Q (E.imp_right zg) z.nums λD w' j A C=>⟨j.ints,j.win,j.D,j.lists,j.F,λi hi=>by
  by_cases x:i<M.z.j;have:=j.z i x;simp only[uI x];exact this;obtain rfl:i=M.z.j:=by simp at hi;omega
  simp only[n4];exact⟨(C g0 (yb d rfl)).A u,H,q.hl,η,yd d A λb o=>by cases o;exact r⟩,j.pairs,j.ress⟩
 have m:∀b,b<w.o.q->a b=own b:=λb o=>by rw[g,za η];exact q.old b o
 obtain⟨_,L,_⟩:=q.sv;have hx:=q.xl;exact⟨rfl,⟨t,_,_,S,⟨ζ,ζ,ζ,ζ,ζ,by simp;omega,ζ,ζ,rfl⟩,λb o=>(K b (yh o L.q)).A (m b o)⟩,q.sv.A P m⟩
end
end
section
section
variable {B:Nat} {own:UY} {w:U} {wb:Nat} {M:ym} {V:Nat->O} {a b c:Int} {s:ByteArray}
def PW(p:qE)(i:Int)(h:zH B own w wb M V)(S:p∈M.ps)(u:i<0∨(p.2.2.1.j:Int)<=i)(hn:M.F.j<=1048577)(y:M.z.j<=1048577):
  c_ e_ 137 #[(π wb),.agg #[.u (Z (δ p.1)),.u (Z (δ p.2.1))],ι i] w λe E=>U9 B own w wb M e E:=by
 obtain⟨lo,D,N,v⟩:=(h.inn.pairs p S).both;obtain⟨x,K,cs,t⟩:=p;simp only at D N v u ⊢;obtain⟨_,cv,pv,kv,m,n,C,_⟩:=N;obtain⟨ao,aa,rfl⟩:=n.qm;have o:X (∀W,μ w W->c_ e_ 50 #[(π x),ι i] W λe E=>e=ε (.tuple #[ν,ι 11])/\μ W E):=λW F=>MG W x cs t i (D.u F) v.len u;have r:=U2 λW (F:μ w W)=>tE (h.u F) hn y;have R:=v.len;have L:∀W:U,(binOp .eql 91 (ν) (ν)).run e_ W=.ok (.i true) W:=λW=>by
  have:=run_equal_slice_nil W 91 90 Y 0 0 underlying91;simp[binOp,this]
 clear D v C n;have q:X (∀k,μ w k->U9 B own w wb M (ε (.i true)) k):=λk P=>U9.kept h P;clear h;rcases u with u|u
 .go_enter func137,ntmps137;go_wp2_with (first|(go_at_call 50;refine(o.l _ φ).y ?_;rintro e k ⟨rfl,j⟩;have d:μ w k:=zJ φ j (ze _))|(go_at_call 39;refine(r.l _ d).y ?_;rintro e T ⟨rfl,l⟩;obtain rfl:=l.z;have f:=((U3.new w #[(π x),(π K)] 40).u j);obtain⟨J,A⟩:=f.H;have H:=f.lt;have g:=m.u d;obtain⟨G,z⟩:=g.H;have I:=g.lt))
  go_ret;exact q.l _ d
 have Q:¬i<0:=η;go_enter func137,ntmps137;go_wp2_with (first|(go_at_call 50;refine(o.l _ φ).y ?_;rintro e k ⟨rfl,j⟩;have d:μ w k:=zJ φ j (ze _))|(go_at_call 39;refine(r.l _ d).y ?_;rintro e T ⟨rfl,l⟩;obtain rfl:=l.z;have f:=((U3.new w #[(π x),(π K)] 40).u j);obtain⟨J,A⟩:=f.H;have H:=f.lt;have g:=m.u d;obtain⟨G,z⟩:=g.H;have I:=g.lt))
 go_ret;exact q.l _ d
def JM(p:qE)(k:Nat)(h:zH B own w wb M V)(hp:p∈M.ps)(hk:k<p.2.2.1.j)(hn:M.ls.j<=1200000000000)(b5:M.F.j<=1048577)(cp:M.z.j<=1048576):
  c_ e_ 137 #[.u (Z ⟨wb,0,Y⟩),.agg #[.u (Z ⟨p.1,0,Y⟩),.u (Z ⟨p.2.1,0,Y⟩)],.int .i64 k] w λe y=>U9 B own w wb M e y:=by
 obtain⟨i0,hi,bM,bF,bU⟩:=info_parts Um;obtain⟨iS,bN,bB,bT,bH⟩:=info_parts Uw;have bz:=λW:U=>run_make (P:=e_) (w:=W) 30 9 iS _ underlying30 bN bB .i64 .i64 ((M.z.j:Int)+1) ((M.z.j:Int)+1) η (Int.le_refl _) (by rw[bH];omega) η;rw[bT] at bz;have hB:=h.hd.q;obtain⟨⟨lo,s,_,hP,hR,hT,aq,a6,bq⟩,_⟩:=h.inn.pairs p hp;obtain⟨pb,mb,I,t⟩:=p;simp only at hP hR hT hk ⊢;have b3:=hP.same aq;obtain⟨aK,cv,pv,kv,bb,ay,bD,_⟩:=hR;have be:=bb.same aK aq;obtain⟨ao,cn,rfl⟩:=ay.qm;obtain⟨gm,m,d,v,f,rfl,bo,bv,aV,aU,aQ,ab,aP⟩:=ay.cell k hk;have a7:lo<=gm:=by obtain⟨xs,ho,_⟩:=ay;exact yZ ho rfl
 have S:gm<w.o.q:=yh bo a6;have ak:=aq gm a7 bo;have aN:w.p ⟨gm,k*4,Y⟩=_:=(i_ (w:=s) ak).A bv;have aZ:w.p ⟨gm,k*4+1,Y⟩=_:=(i_ (w:=s) ak).A aV;have aR:w.p ⟨gm,k*4+2,Y⟩=_:=(i_ (w:=s) ak).A aU;have bd:w.p ⟨gm,k*4+3,Y⟩=_:=(i_ (w:=s) ak).A aQ;obtain⟨aC,bR,ch,bE⟩:=hT.fine _ (zr hk);have cq:=hT.len;have aY:X (∀W,Below w.o.q w W->c_ e_ 50 #[.u (Z ⟨pb,0,Y⟩),.int .i64 k] W λe y=>∃g F,W.o.q<=g/\e=.returned (.tuple #[.k (Z ⟨g,0,Y⟩) (1+I[k].d.j) (1+I[k].d.j),.int .i64 0])/\y.r W.o.q 90 3 (.k (Z ⟨g,0,Y⟩) (1+I[k].d.j) (1+I[k].d.j)) (1+I[k].d.j) (UM (j_ vO (zj I[k]) F))/\UN W.o.q y (zj I[k]) F/\Below W.o.q W y):=λW hW=>M2 W pb I t k (b3.u hW) hT.len hk aC;have aS:X (∀W,Below w.o.q w W->c_ e_ 39 #[.u (Z ⟨wb,0,Y⟩)] W λe y=>e=.returned (.i true)/\Below W.o.q W y):=λW hW=>(tE (h.u hW) b5 η).y λe y ⟨q1,q2⟩=>⟨q1,q2 ▸ zn _ _⟩;have HT:=U2 h;have bP:X (∀W,uw own w W->Vw lo s W):=λW q=>q.same aq a6 bq;have bi:X (U7 lo s (.k m I[k].g.k.j d) I[k].g.k):=ab;have bu:X (Vd lo s (.k v I[k].d.j f) I[k].d):=aP;have bx:X (∀l∈zj I[k],mW l):=aC.1;clear hP b3 hT bD ay bv aV aU aQ ak h aq a6 bq ab aP aC bR bE bb;generalize I[k]=c at *;go_enter func137,ntmps137;go_wp2_with (first|(go_at_call 50;refine(aY.l _ φ).y ?_;rintro e w1 ⟨z,F,bO,rfl,x,r,ar⟩;have a9:Below w.o.q w w1:=zJ φ ar (ze _))|(go_at_call 39;refine(aS.l _ a9).y ?_;rintro e w2 ⟨rfl,J⟩;have H:=zJ a9 J (ze _);have aI:=((U3.new w #[.u (Z ⟨pb,0,Y⟩),.u (Z ⟨mb,0,Y⟩)] 40).u ar).u J;obtain⟨bV,bS⟩:=aI.H;have bI:=aI.lt;have aB:=be.u H;obtain⟨b8,bQ⟩:=aB.H;have bK:=aB.lt;have b9:=(H.cell (p:=⟨gm,k*4,Y⟩) S).A aN;have bG:=(H.cell (p:=⟨gm,k*4+1,Y⟩) S).A aZ;have bA:=(H.cell (p:=⟨gm,k*4+2,Y⟩) S).A aR;have b6:=(H.cell (p:=⟨gm,k*4+3,Y⟩) S).A bd;have b0:=H.q;have ba:gm<w2.o.q:=η))
 have e1:1+c.d.j=(zj c).j:=by simp[zj];omega
 rw[e1] at x ⊢;have az:(zj c).j<=7:=η;obtain⟨n,av⟩:∃n,n=zj c:=⟨_,rfl⟩;rw[←av] at x r az ⊢;have aE:X (n=c.g::c.d):=av;have b2:X (∀l∈n,mW l):=by rw[X,av];exact bx.l
 clear av e1 aY aS bx bV bS b8 bQ b9 bG bA b6;have cc:w.o.q<=(w.C (.E #[.u (Z ⟨pb,0,Y⟩),.u (Z ⟨mb,0,Y⟩)] 40)).o.q:=ζ;have ap:F.j=n.j:=r.1;have aX:Below w.o.q w (w2.C (.E #[.i c.g.i,.g c.g.o,.k m c.g.k.j d,.k v c.d.j f] 93)):=H.C b0 _;have ai:Below w1.o.q w1 (w2.C (.E #[.i c.g.i,.g c.g.o,.k m c.g.k.j d,.k v c.d.j f] 93)):=J.C J.q _;have a0:w.o.q<=z:=η;have bt:X (qt B own w wb M n F z w2.o.q #[.i c.g.i,.g c.g.o,.k m c.g.k.j d,.k v c.d.j f] 0 0 (w2.C (.E #[.i c.g.i,.g c.g.o,.k m c.g.k.j d,.k v c.d.j f] 93))):=by
  have ce:=J.q;have cj:z<w1.o.q:=yb x rfl;have bC:∀b∈F,w.o.q<=b/\b<w2.o.q/\b≠z:=λb hb=>by
   obtain⟨j,hj,rfl⟩:=uT hb;have:=(r.2.2 j η hj).1;have:=r.lt _ hb;exact⟨η,η,λe=>mG (r.2.2 j η hj).2 x θ (show _=Z F[j] from rfl) (by rw[e];rfl)⟩
  exact qt.start HT.l aX ⟨a0,by simp;omega⟩ bC (r.2.1.imp Nat.ne_of_lt) ⟨η,η,ζ⟩ (U3.new _ _ _) (yq (zy x ai) η) λj h1 h2=>((r.2.2 j h1 h2).2.u ai).low η
 clear x r ai bO a9 ar J aB aI HT;generalize w2.C (.E #[.i c.g.i,.g c.g.o,.k m c.g.k.j d,.k v c.d.j f] 93)=w3 at *;generalize decide (I.j<=k)=cf;generalize decide ((k:Int)<0)=cl;clear ba b0 bI bK aN aZ aR bd;go_loopw [11] (λaH wr=>∃i:Nat,i<=n.j/\aH=.int .i64 i/\X (qt B own w wb M n F z w2.o.q #[.i c.g.i,.g c.g.o,.k m c.g.k.j d,.k v c.d.j f] i i wr)) (λaH _=>n.j-(d_ aH).D)
 case atStart=>exact⟨0,zs _,rfl,bt⟩
 clear bt aX;obtain⟨i,cb,rfl,HR⟩:=hrel;obtain⟨a1,aJ,⟨V',cs,bW,aA⟩,_⟩:=HR.l.parts;have L:=bP.l _ a1;clear a1;obtain⟨a5,aG⟩:=aJ.H;have aM:=aJ.lt;obtain⟨au,ax⟩:=aA.H;have b4:=aA.lt;by_cases C:i<n.j
 .obtain⟨bX,al,ah,ag⟩:=HR.l.at ap C;have aa:X (∀(W2:U) (vb:O) (bn:Nat),Below wr.o.q wr W2->U7 bn W2 vb n[i].k->c_ e_ 41 #[.u (Z ⟨wb,0,Y⟩),.k (Z ⟨F[i],0,Y⟩) n[i].k.j n[i].k.j,vb] W2 λe y=>e=.returned (.i true)/\qt B own w wb M n F z w2.o.q #[.i c.g.i,.g c.g.o,.k m c.g.k.j d,.k v c.d.j f] i (i+1) y/\(∀b,wr.o.q<=b->b<W2.o.q->y.o[b]?=W2.o[b]?)/\W2.o.q<=y.o.q):=λW2 vb bn h1 h2=>Ql HR.l ap C h1 h2 (b2.l _ (zr C)).2.2.1 η;have G:X (∀W,qt B own w wb M n F z w2.o.q #[.i c.g.i,.g c.g.o,.k m c.g.k.j d,.k v c.d.j f] i (i+1) W->z<W.o.q/\W.p ⟨z,i*3,Y⟩=Z (.i n[i].i)/\W.p ⟨z,i*3+1,Y⟩=Z (.g n[i].o)/\W.p ⟨z,i*3+2,Y⟩=Z (.k (Z ⟨F[i],0,Y⟩) n[i].k.j n[i].k.j)):=λW h=>h.at ap C;have aT:=qH (rfl:n[i].o=n[i].o);rcases i with _|j
  .have e0:n[0]=c.g:=by simp[aE.l]
   have ab:=bi.l.same L;rw[e0] at al ah ag aa G aT;generalize F[0]=gi at *;simp only[Nat.zero_mul,uM] at al ah ag G;clear e0;have a8:Below wr.o.q wr (wr.C (.E #[.i c.g.i,.g c.g.o,.k m c.g.k.j d] 90)):=(zn _ _).C (ze _) _;have E:=U3.new wr #[.i c.g.i,.g c.g.o,.k m c.g.k.j d] 90;go_wp2;go_region_held3 (λy=>y.p ⟨z,2,Y⟩=Z (.k (Z ⟨gi,0,Y⟩) c.g.k.j c.g.k.j)/\y.p ⟨wr.o.q,2,Y⟩=Z (.k m c.g.k.j d)) (go_keep) (first|(go_at_call 41;refine(aa.l _ _ lo φ (ab.u φ)).y ?_;rintro e w4 ⟨rfl,K,an,a4⟩;obtain⟨aF,af,aj,am⟩:=G.l _ K;have N:U3 w4 wr.o.q #[.i c.g.i,.g c.g.o,.k m c.g.k.j d] 90:=(an _ (ze _) ζ).A E;obtain⟨D,ad⟩:=N.H;have ae:=N.lt;have A:=D 2;simp only[l0,li,dS] at A))
   go_wp2;go_quiet (fail)
   have o:=K.u (zG (zn _ _) nq);clear af aj am N D ad ae A an a4 K aF al ah ag aa a5 aG au ax a8 E;generalize w4.drewN nq=w5 at *;obtain⟨_,_,⟨V5,bL,br,u⟩,bm,ac⟩:=o.parts;obtain⟨bs,af,aj,am⟩:=G.l _ o;obtain⟨bf,aL⟩:=u.H;have b1:=u.lt;have bh:=ac.H.2;have bw:z≠wb:=Aj ac u θ;have aD:X (qt B own w wb M n F z w2.o.q #[.i c.g.i,.g c.g.o,.k m c.g.k.j d,.k v c.d.j f] (0) (0+1) w5):=o;clear o;go_wp2;go_roundw
   case rel=>exact⟨0+1,η,ξ,aD.l.next ap C _ rfl⟩
   simp[d_];omega
  have b7:j<c.d.j:=by rw[aE.l] at C;simpa using C
  have e0:n[j+1]=c.d[j]:=by simp[aE.l]
  obtain⟨gb,aw,R,bg,cg,co,ar,J,ab⟩:=(bu.l.same L).cell j b7;subst bg;rw[e0] at al ah ag aa G aT;clear e0;have cr:(0:Int)<=(j:Int)+1:=η;have ck:(j:Int)+1<(n.j:Int):=η;generalize c.d[j]=a at *;generalize F[j+1]=gi at *;have a8:Below wr.o.q wr (wr.C (.E #[.i a.i,.g a.o,.k aw a.k.j R] 90)):=(zn _ _).C (ze _) _;have E:=U3.new wr #[.i a.i,.g a.o,.k aw a.k.j R] 90;go_wp2;go_region_held3 (λy=>y.p ⟨z,(j+1)*3+2,Y⟩=Z (.k (Z ⟨gi,0,Y⟩) a.k.j a.k.j)/\y.p ⟨wr.o.q,2,Y⟩=Z (.k aw a.k.j R)) (go_keep) (first|(go_at_call 41;refine(aa.l _ _ lo φ (ab.u φ)).y ?_;rintro e w4 ⟨rfl,K,an,a4⟩;obtain⟨aF,af,aj,am⟩:=G.l _ K;have N:U3 w4 wr.o.q #[.i a.i,.g a.o,.k aw a.k.j R] 90:=(an _ (ze _) ζ).A E;obtain⟨D,ad⟩:=N.H;have ae:=N.lt;have A:=D 2;simp only[l0,li,dS] at A))
  go_wp2;go_quiet (fail)
  have o:=K.u (zG (zn _ _) nq);clear af aj am N D ad ae A an a4 K aF al ah ag aa a5 aG au ax a8 E;generalize w4.drewN nq=w5 at *;obtain⟨_,_,⟨V5,bL,br,u⟩,bm,ac⟩:=o.parts;obtain⟨bs,af,aj,am⟩:=G.l _ o;obtain⟨bf,aL⟩:=u.H;have b1:=u.lt;have bh:=ac.H.2;have bw:z≠wb:=Aj ac u θ;have aD:X (qt B own w wb M n F z w2.o.q #[.i c.g.i,.g c.g.o,.k m c.g.k.j d,((.k (Z ⟨gb,0,Y⟩) c.d.j f))] (j+1) (j+1+1) w5):=o;clear o;go_wp2;go_roundw
  case rel=>exact⟨j+1+1,η,ξ,aD.l.next ap C _ rfl⟩
  simp[d_];omega
 obtain rfl:i=n.j:=η;clear bi bu bz a5 aG au ax aA aJ L aM;obtain⟨ci,⟨V6,T⟩,Q,cm,a2⟩:=K7 HR.l rfl az a0;have aW:=U2 a2;obtain⟨bJ,bc,rfl⟩:=zq Q;clear HR a2;obtain⟨au,ax⟩:=T.H;clear b4;have b4:=T.lt;go_wp2_with (first|(at_builtin;refine jx _ _ [.k (Z ⟨z,0,Y⟩) n.j n.j] _ rfl (.tmp 131) (.tmp 133) 33 rfl B 91 i0 _ 1 24 underlying33 hi bM bF bU rfl θ (.k bJ M.z.j bc) M.z.j (kS M.z) rfl Q (zn _ _) _ _ rfl ζ rfl a_ η η η ?_;intro v' w7 bp bk aO;obtain⟨ct,bZ,rfl⟩:=zq bp;have a3:=T.save bk (vL Q T θ);obtain⟨cd,ca⟩:=a3.H;have bY:=a3.lt))
 go_ret;exact aW.l _ _ bp bk aO
def Nq(p:qE)(h:zH B own w wb M V)(m:p∈M.ps)(q:M.ls.j<=1200000000000)(f:M.F.j<=1048577)(j:M.z.j<=1048576):
  c_ e_ 96 #[(π wb),.agg #[.u (Z (δ p.1)),.u (Z (δ p.2.1))],.agg #[ι 14,ι a,ι b,ι c,.g s]] w λe l=>U9 B own w wb M e l:=by
 have n:X (∀W,μ w W->c_ e_ 137 #[(π wb),.agg #[.u (Z (δ p.1)),.u (Z (δ p.2.1))],ι b] W λe l=>U9 B own W wb M e l):=λW o=>by
  have d:=h.u o;by_cases r:b<0∨(p.2.2.1.j:Int)<=b;exact PW p b d m r f η;obtain⟨k,rfl⟩:∃k:Nat,b=k:=⟨b.D,η⟩;exact JM p k d m η q f j
 clear h;go_enter func96,ntmps96;go_wp2_with (go_at_call 137;refine(n.l _ φ).y ?_;rintro e t ⟨rfl,i,g⟩)
 go_ret;exact U9.from φ ⟨rfl,i,g⟩
end
end
section
variable {z:Nat->Prop}
def Sg{lo3:Nat}(w:U)(x m pm:Nat)(cs:Ξ)(t:Ψ)(lo lp:Nat)(R:zw)(L:Θ)(k:Nat)(pv nv rv fv cv aQ kv:O)(a5:Φ)(a:Λ)(rowv:O)(row:List Λ)(h:Xi z w x m pm cs t lo lp R L k pv nv rv fv cv aQ kv a5)(hr:U7 lo3 w rowv row)(hl:row.j<=1048576):
  c_ e_ 21 #[.agg #[(π x),(π m),(π pm)],.g a,rowv] w λe w'=>e=ε (.i true)/\X (μ w w'):=by
 obtain⟨az,a6,rfl⟩:=hr.qm;have a8:=λW:U=>run_make_row' (P:=e_) (w:=W) 30 9 (.g g_) 16 underlying30 Uw rfl .i64 .i64 (row.j+2) η η;rw[show((row.j+2:Nat):Int)=(row.j:Int)+2 by omega] at a8;have C:X (∀W,μ w W->0<(row.map h_).j->∃ad,az=Z ad/\∀j v,(row.map h_)[j]?=Z v->W.p (ad.add j)=Z v):=λW hW hp=>by
  obtain⟨gb,aR,hv,_,aH,aP⟩:=yt hr (by simpa using hp);simp at hv;refine⟨(δ gb),hv.1,λj v hj=>?_⟩;rw[Addr.add_lit,uM,hW.cell (p:=(ω gb j)) aH];exact aP j v hj
 have s:(row.map h_).j=row.j:=ζ;have ai:X (∀v∈row.map h_,v.oneCell'=true):=λv hv=>by obtain⟨x,_,rfl⟩:=z9.1 hv;rfl
 obtain⟨u,af⟩:∃u,u=row.map h_:=⟨_,rfl⟩;have ax:=U2 af;rw[←af] at C s ai;clear af;have K:X (0+u.j<=(madeCells #[h_ g_] (row.j+2)).toList.j):=by rw[X,s];simp[size_madeCells]
 have J:X (u.j=Nat.min row.j (row.j+2)):=by rw[X,s];exact(dC η).z
 have c:=U2 h;have aa:=U2 λW (o:μ w W)=>hr.u o;clear h hr;go_enter func21,ntmps21;go_upto_region 3 with fail
 have Q:X (μ w (w.C (.E #[(π x),(π m),(π pm)] 50))):=(zn _ _).C (ze _) _;have av:=U2 (U3.new w #[(π x),(π m),(π pm)] 50);have aq:(w.C (.E #[(π x),(π m),(π pm)] 50)).o.q=w.o.q+1:=ζ;generalize w.C (.E #[(π x),(π m),(π pm)] 50)=D at *;have ae:X (μ D (D.C (.E (madeCells #[.g g_] (row.j+2)) 9))):=(zn _ _).C (ze _) _;have a9:X (U3 (D.C (.E (madeCells #[.g g_] (row.j+2)) 9)) (w.o.q+1) (madeCells #[.g g_] (row.j+2)).toList.F 9):=by
  rw[X,Array.toArray_toList,←aq];exact U3.new _ _ _
 generalize D.C (.E (madeCells #[.g g_] (row.j+2)) 9)=wU at *;clear a8;go_upto_region 4 with (first|(refine wpList_copy_splice rfl (.tmp 21) (.tmp 22) 30 30 rfl 9 underlying30 Uu _ _ _ _ _ _ rfl rfl (w.o.q+1) 0 (madeCells #[.g g_] (row.j+2)).toList 9 a9.l u J.l (λhp=>⟨rfl,C.l _ (U6 Q.l ae.l) hp⟩) K.l ai.l D.o.q D ae.l η ?_;intro w2 a3 ay))
 have V:X (U3 w2 (w.o.q+1) (u++[h_ g_,h_ g_]).F 9):=by
  have q:=a3.l;rw[←s,Sb] at q;exact q
 have au:=U2 ay;clear a3 ay K J C ai a9 ae;obtain⟨gc,gf,aL⟩:=V.l.I;have N:X (U3 ((w2.x (ω (w.o.q+1) row.j) (.g ⟨#[109,105,110,101]⟩)).x (ω (w.o.q+1) (row.j+1)) (.g ⟨#[116,111,111]⟩)) (w.o.q+1) (row.map h_++[h_ ⟨#[109,105,110,101]⟩,h_ ⟨#[116,111,111]⟩]).F 9):=by
  have q:=(V.l.set row.j (.g ⟨#[109,105,110,101]⟩)).set (row.j+1) (.g ⟨#[116,111,111]⟩);have e:((u++[h_ g_,h_ g_]).F.setIfInBounds row.j (.g ⟨#[109,105,110,101]⟩)).setIfInBounds (row.j+1) (.g ⟨#[116,111,111]⟩)=(row.map h_++[h_ ⟨#[109,105,110,101]⟩,h_ ⟨#[116,111,111]⟩]).F:=by
   rw[←ax.l,←s];simp
  rw[e] at q;exact q
 have M:X (μ D ((w2.x (ω (w.o.q+1) row.j) (.g ⟨#[109,105,110,101]⟩)).x (ω (w.o.q+1) (row.j+1)) (.g ⟨#[116,111,111]⟩))):=(au.l.x (p:=(ω (w.o.q+1) row.j)) (by show D.o.q<=w.o.q+1;omega) _).x (p:=(ω (w.o.q+1) (row.j+1))) (by show D.o.q<=w.o.q+1;omega) _;have aE:w2.p (ω (w.o.q+1) row.j)=Z (.g g_):=by rw[gc,←s];simp
 have aN:w2.p (ω (w.o.q+1) (row.j+1))=Z (.g g_):=by rw[gc,←s];simp
 clear gc;go_upto_region 6 with fail
 generalize (w2.x (ω (w.o.q+1) row.j) (.g ⟨#[109,105,110,101]⟩)).x (ω (w.o.q+1) (row.j+1)) (.g ⟨#[116,111,111]⟩)=E at *;clear aE aN gf aL V au ax s;have l:=U2 (U6 Q.l M.l);have ag:=U2 (Qo N.l η);have F:=U2 (Rq E x t (zp cs) R pv nv rv a5 a row _ (c.l.res.u l.l) ag.l η);rw[Ja c.l.ctx c.l.told c.l.rep] at F;have a4:=U2 λW o=>oZ W _ _ row (ag.l.u o) (aa.l W (U6 l.l o)) η;have A:X (∀W,μ E W->W.p (δ w.o.q)=Z ((π x))/\W.p (ω w.o.q 1)=Z ((π m))/\W.p (ω w.o.q 2)=Z ((π pm))/\w.o.q<W.o.q):=λW o=>by
  have q:=av.l.u (U6 M.l o);exact⟨by rw[q.H.1];rfl,by rw[q.H.1];rfl,by rw[q.H.1];rfl,q.lt⟩
 have am:X (∀W,μ E W->W.p (ω (w.o.q+1) row.j)=Z (.g ⟨#[109,105,110,101]⟩)/\W.p (ω (w.o.q+1) (row.j+1))=Z (.g ⟨#[116,111,111]⟩)/\w.o.q+1<W.o.q):=λW o=>by
  have q:=N.l.u o;exact⟨by rw[q.H.1];simp,by rw[q.H.1];simp,q.lt⟩
 obtain⟨aZ,aS,ap⟩:=oP (c.l.prog.u l.l) (c.l.names.u l.l);have aK:=U2 ap;clear ap;have ak:X (∀W,μ E W->c_ e_ 45 #[(π m),.g a,.slice az row.j a6] W λe w'=>e=ε (ι (kg a row L))/\μ W w'):=λW o=>Bi W m k fv L a _ row ((c.l.model.u l.l).u o) ((c.l.fl.u l.l).u o).facts (aa.l W (U6 l.l o)) (by have:=c.l.M;omega) η (λf I=>by
  obtain⟨p,hp,r,m',_,rfl⟩:=(c.l.rep.mem f).1 I;simp only[gM];have:=c.l.ctx.small p hp;omega)
 have aB:X (∀W i (hi:i<L.j),μ E W->∃g ah,W.p (δ m)=Z (.slice (Z (δ g)) L.j ah)/\m<W.o.q/\g<W.o.q/\W.p (ω g (i*3+2))=Z (ι (L[i].2.2:Nat))):=λW i hi o=>by
  obtain⟨ao,ah,e,q⟩:=((c.l.fl.u l.l).u o).facts;obtain⟨g,rv,lo,r1,r2,_,_,r5,_⟩:=q i hi;have q2:=(c.l.model.u l.l).u o;rw[e,r1] at q2;exact⟨g,ah,by rw[q2.H.1];rfl,q2.lt,r2,r5⟩
 have bc:=c.l.M;have aY:(U4 t).j<=1000:=by
  have:=c.l.told.M.2.1;simp only[U4,xv];exact this
 clear N M av ag c aa Q aq;generalize U4 t=b at *;obtain⟨an,aj⟩:∃an:Nat×Nat,oB (yr a b) (yS a row L) L=an:=⟨_,rfl⟩;rw[aj] at F;have d:=U2 aj;clear aj;obtain⟨S,ac⟩:=an;obtain⟨x0,_,_,a2⟩:=A.l E (zn _ _);have ba:(row.j:Int)+1<(row.j:Int)+2:=η;go_upto_region 9 with (first|(go_at_call 43;refine F.l.y ?_;rintro e w5 ⟨rfl,T⟩)|(go_at_call 44;refine(a4.l _ T).y ?_;rintro e w6 ⟨rfl,a7⟩))
 have n:=U2 (U6 T a7);clear x0 a2 F a4 T a7;obtain⟨a0,a1,aC⟩:=am.l _ n.l;obtain⟨x0,x1,x2,a2⟩:=A.l _ n.l;obtain⟨p1,aU,ar⟩:=aK.l _ n.l;have aD:=U2 ar;clear ar;go_upto_region 11 with fail
 clear a0 a1 aC;go_wp2;go_loopw [13,14] (λaI ab wz=>∃i:Nat,i<=b.j/\ab=ι i/\aI=.i (yr a (b.G i))/\wz=w6) (λ_ ab _=>b.j-(d_ ab).D);exact⟨0,zs _,rfl,rfl,rfl⟩;obtain⟨i,hi,rfl,rfl,aJ⟩:=hrel;obtain rfl:=aJ.z;by_cases aw:i<b.j
 .have aG:(i:Int)<(b.j:Int):=η;obtain⟨g,rfl,hg,cg⟩:=aD.l i aw;have HT:X (yr a (b.G (i+1))=(yr a (b.G i)||decide (b[i]=a))):=by
   rw[X,yF aw,FR]
  cases H:yr a (b.G i)
  .rw[H] at HT;clear H;by_cases hy:b[i]=a
   .have hs:=qH hy;rw[show decide (b[i]=a)=true by simp[hy]] at HT;clear hy;generalize b[i]=y at *;go_wp2;go_roundw;exact⟨i+1,η,ξ,by rw[HT.l];rfl,trivial⟩;simp[d_];omega
   have hs:=vn hy;rw[show decide (b[i]=a)=false by simp[hy]] at HT;clear hy;generalize b[i]=y at *;go_wp2;go_roundw;exact⟨i+1,η,ξ,by rw[HT.l];rfl,trivial⟩;simp[d_];omega
  rw[H] at HT;clear H;generalize b[i]=y at *;go_wp2;go_roundw;exact⟨i+1,η,ξ,by rw[HT.l];rfl,trivial⟩;simp[d_];omega
 have aG:¬(i:Int)<(b.j:Int):=η;obtain rfl:i=b.j:=η;rw[ve];cases H:yr a b
 .rw[H] at d;have al:=U2 (show S=0 from(congrArg k_ d.l).z);have aA:=U2 (show ac=11 from(congrArg l_ d.l).z);obtain rfl:=al.l;obtain rfl:=aA.l;clear d al aA H;go_wp2;go_ret;exact⟨rfl,U6 l.l n.l⟩
 rw[H] at d;clear H;have G:=U2 (ak.l _ n.l);rcases I:yS a row L with _|j
 .rw[I] at d;have e1:kg a row L=-1:=by unfold kg;rw[I]
  rw[e1] at G;obtain rfl:S=0:=(congrArg k_ d.l).z;obtain rfl:ac=12:=(congrArg l_ d.l).z;clear d e1 I ak;go_wp2_with (go_at_call 45;refine G.l.y ?_;rintro e w7 ⟨rfl,B⟩)
  go_ret;exact⟨rfl,U6 l.l (U6 n.l B)⟩
 rw[I] at d;obtain⟨hj,_,_⟩:=ie I;have e1:kg a row L=(j:Int):=by unfold kg;rw[I]
 rw[e1] at G;have aO:S=L[j].2.2:=by
  have q:=(congrArg k_ d.l).z;simpa [oB,hj] using q
 obtain rfl:ac=0:=(congrArg l_ d.l).z;subst aO;have aV:(j:Int)<(L.j:Int):=η;have aM:=U2 λW o=>aB.l W j hj (U6 n.l o);have aF:X (∀W,μ w6 W->W.p (ω w.o.q 1)=Z ((π m))/\w.o.q<W.o.q):=λW o=>by
  obtain⟨_,q,_,q2⟩:=A.l W (U6 n.l o);exact⟨q,q2⟩
 clear d e1 I ak aB A;generalize L[j].2.2=wn at *;go_wp2_with (go_at_call 45;refine G.l.y ?_;rintro e w7 ⟨rfl,B⟩;obtain⟨gm,aT,m0,aW,aX,m2⟩:=aM.l _ B;obtain⟨y1,bb⟩:=aF.l _ B)
 go_ret;exact⟨ζ,U6 l.l (U6 n.l B)⟩
end
section
section
variable {B:Nat} {own:UY} {w:U} {wb:Nat} {M:ym} {V:Nat->O} {a b c:Int} {s:ByteArray}
def Kd(h:zH B own w wb M V)(r:dI)(m:r∈M.rs)(d:Λ){lo3:Nat}{rowv:O}{row:List Λ}(f:U7 lo3 w rowv row)(v:row.j<=1048576):
  c_ e_ 21 #[.agg #[.u (Z (δ r.1)),.u (Z (δ r.2.1)),.u (Z (δ r.2.2.1))],.g d,rowv] w λe y=>e=ε (.i true)/\X (μ w y):=by
 obtain⟨j,p,R,L,k,n,u,x,t,o,g,l,i,q⟩:=h.inn.ress r m;exact Sg w _ _ _ _ _ j p R L k n u x t o g l i d rowv row q f v
def Jr(h:zH B own w wb M V)(r:dI)(i:r∈M.rs):
  c_ e_ 20 #[.agg #[.u (Z (δ r.1)),.u (Z (δ r.2.1)),.u (Z (δ r.2.2.1))]] w λe u=>e=ε (.i true)/\X (μ w u):=by
 obtain⟨D,F,R,L,k,l,z,o,A,C,p,E,t,q⟩:=h.inn.ress r i;obtain⟨y,x,v⟩:=q.cnt;have j:=q.res.box;have g:=q.model;obtain⟨m,_,f,_⟩:=q.fl;obtain⟨n,d,rfl⟩:=zq f;rw[x,y] at g;exact NQ w _ _ _ l z o n d _ _ _ j g v
def NI(h:zH B own w wb M V)(r:dI)(C:r∈M.rs)(P:M.row.j<=1048576):
  c_ e_ 97 #[(π wb),.agg #[.u (Z ⟨r.1,0,Y⟩),.u (Z ⟨r.2.1,0,Y⟩),.u (Z ⟨r.2.2.1,0,Y⟩)],.agg #[ι 10,ι a,ι b,ι c,.g s]] w λe f=>U9 B own w wb M e f:=by
 have l:=U2 λW (p:μ w W)=>Kd (h.u p) r C s (rowv:=V 9) (row:=M.row) (lo3:=B) ((h.u p).hd.row 9 _ _ _ _ rfl) P;have H:=U2 h;obtain⟨d,j⟩:∃d,V 9=d:=⟨_,rfl⟩;have n:X (∀W,μ w W->W.p ⟨wb,9,Y⟩=Z d/\wb<W.o.q):=λW p=>by
  have q:=h.box.u p;rw[←j];exact⟨by rw[q.H.1];rfl,q.lt⟩
 rw[j] at l;clear j;clear h C;generalize r.1=o at *;generalize r.2.1=m at *;generalize r.2.2.1=k at *;go_enter func97,ntmps97;go_upto_region 5 with fail
 have x:X (μ w ((w.C (.E #[(π o),(π m),(π k)] 50)).C (.E #[ι 10,ι a,ι b,ι c,.g s] 67))):=(show μ w _ from φ);have g:=U2 ((U3.new w #[(π o),(π m),(π k)] 50).up (.E #[ι 10,ι a,ι b,ι c,.g s] 67));have i:=U2 (U3.newAt (w.C (.E #[(π o),(π m),(π k)] 50)) (w.o.q+1) #[ι 10,ι a,ι b,ι c,.g s] 67 ζ);generalize (w.C (.E #[(π o),(π m),(π k)] 50)).C (.E #[ι 10,ι a,ι b,ι c,.g s] 67)=D at *;obtain⟨w9,F⟩:=n.l _ x.l;have J:=g.l.H.1 0;have I:=g.l.H.1 1;have G:=g.l.H.1 2;have K:=g.l.lt;have R:=i.l.H.1 4;have L:=i.l.lt;simp at J I G R;have z:X (∀W,μ D W->c_ e_ 21 #[.agg #[(π o),(π m),(π k)],.g s,d] W λe f=>e=ε (.i true)/\X (μ w f)/\f.p ⟨wb,9,Y⟩=Z d/\f.p ⟨w.o.q,0,Y⟩=Z ((π o))/\f.p ⟨w.o.q,1,Y⟩=Z ((π m))/\f.p ⟨w.o.q,2,Y⟩=Z ((π k))/\f.p ⟨w.o.q+1,4,Y⟩=Z (.g s)):=λW p=>by
  have v:=U6 x.l p;refine(l.l W v).y ?_;rintro e f ⟨Q,E⟩;have t:=U6 v E.l;have u:=U6 p E.l;have y:=g.l.u u;have N:=i.l.u u;exact⟨Q,t,(n.l _ t).1,by rw[y.H.1];rfl,by rw[y.H.1];rfl,by rw[y.H.1];rfl,by rw[N.H.1];rfl⟩
 clear g i l n;go_region_held3 (λf=>f.p ⟨wb,9,Y⟩=Z d/\f.p ⟨w.o.q,0,Y⟩=Z ((π o))/\f.p ⟨w.o.q,1,Y⟩=Z ((π m))/\f.p ⟨w.o.q,2,Y⟩=Z ((π k))/\f.p ⟨w.o.q+1,4,Y⟩=Z (.g s)) (first|go_keep|(go_simp;done)) (first|(go_at_call 21;refine(z.l _ φ).y ?_;rintro e w5 ⟨rfl,A,T,z2,z3,z4,S⟩))
 all_goals
  go_wp2;go_ret;exact U9.kept H.l A.l
def PG(h:zH B own w wb M V)(r:dI)(g:r∈M.rs):
  c_ e_ 97 #[(π wb),.agg #[.u (Z (δ r.1)),.u (Z (δ r.2.1)),.u (Z (δ r.2.2.1))],.agg #[ι 11,ι a,ι b,ι c,.g s]] w λe k=>U9 B own w wb M e k:=by
 have i:=U2 λW (d:μ w W)=>Jr (h.u d) r g;have j:=U2 λW (d:μ w W)=>U9.kept h d;clear h g;generalize r.1=m at *;generalize r.2.1=l at *;generalize r.2.2.1=o at *;go_enter func97,ntmps97;go_wp2_with (go_at_call 20;refine(i.l _ φ).y ?_;rintro e n ⟨rfl,f⟩)
 go_ret;exact j.l _ (zJ (show μ w _ from φ) f.l (ze _))
end
end
section
section
variable {B:Nat} {own:UY} {w W w1 w2:U} {wb:Nat} {M:ym} {V:Nat->O}
def Qm(h:zH B own w wb M V){ns:List Λ}{l g:Nat}{rs:List zl}{gs:Φ}{bv:O}(G:μ w W)(N:W.o.q<=g)(z:w1.r W.o.q 30 1 (.k (Z (δ g)) rs.j rs.j) rs.j (gs.map (vC l)))(u:UN W.o.q w1 (rs.map (pN ns l)) gs)(o:μ W w1)(d:μ w1 w2)(J:xF (λb=>xh own b∨w.o.q<=b) w1.o.q w2 bv (rs.map λr=>zY ns r l 3)):
  io w2 wb gs g l rs.j bv (rs.map λr=>zY ns r l 3) B (Vq own g gs M.ls.j) M/\kp B (Vq own g gs M.ls.j) w2 wb M (V 1) 0 w2:=by
 have P:=h.hd.q;have K:=G.q;have I:g<w1.o.q:=yb z rfl;have A:gs.j=rs.j:=by simpa using u.1
 have i:∀k (n:k<rs.j),W.o.q<=gs[k]'η/\gs[k]'η<w1.o.q/\U7 W.o.q w1 (sl (gs[k]'η) l) (zY ns rs[k] l 3):=λk n=>by
  obtain⟨m,f⟩:=u.2.2 k (by simpa using n) η;simp only[xM,pN,gM] at f;exact⟨m,yb f rfl,f⟩
 have c:∀x∈gs,W.o.q<=x/\x<w1.o.q/\x≠g:=λx C=>by
  obtain⟨k,n,rfl⟩:=uT C;obtain⟨m,f,s⟩:=i k η;exact⟨m,f,λe=>mG s z θ (show _=Z gs[k] from rfl) (by rw[e];rfl)⟩
 have v:gs.Nodup:=u.2.1.imp fun{a b} (q:a<b)=>η;have j:∀b,w1.o.q<=b∨b<w.o.q->Vq own g gs M.ls.j b=own b:=λb q=>nO η λH=>by have:=c b H;omega
 have L:=d.q;refine⟨⟨A,ζ,yq (zy z d) η,λk n=>⟨by simp[gM],?_,?_⟩,?_,zb rfl⟩,kp.start h (G.A ((U6 o d).y K)) ⟨η,η⟩ λx C=>by have:=c x C;omega⟩;have p:k<gs.j:=η;have:=c _ (zr p);unfold Vq;rw[za this.2.2,zb (zr p),v.idxOf_getElem];simp only[xM];exact yq ((i k n).2.2.u d) η;obtain⟨y,m,f,s⟩:=J;simp only[xv] at m f;refine⟨y,m,yq f (zs _),λb t=>?_,λk E D=>⟨(s k (by simpa using E) D).1,λb t=>?_⟩⟩;have:=yZ f t;rw[j b (zh this),h.hd.new b (by have:=o.q;omega)];have:=(s k (by simpa using E) D).2 b t;have F:¬xh own b:=λe=>this (zh e);rw[j b (zg (Nat.lt_of_not_le λe=>this (zg e)))];unfold xh at F;rw[Classical.not_not.1 F]
def Kq{g n:Nat}{gs hs:Φ}{P wq w5:U}{d:UY}{z:Nat->O}{xs:List nU}{v:O}(r:μ w w2)(hg:w.o.q<=g/\g<w2.o.q)(A:∀x∈gs,w.o.q<=x)(h3:zH B d P wb {M with ls:=M.ls++xs} z)(R:z 1=V 1)(aa:xs.j=n)(hn:n<=1048576)(ht:∀b,b<w2.o.q->d b=Vq own g gs M.ls.j b){N:Φ}(hS:zc N w2 P)(hN:∀b∈N,Vq own g gs M.ls.j b=(1,0)∨Vq own g gs M.ls.j b=(12,0)∨Vq own g gs M.ls.j b=(13,0))(p:zc [g] P wq)(hl:hs.j=n)
  (y:wq.r B 30 1 (sl g n) n (hs.map (vC (M.F.j+1)))) (H:∀x∈hs,P.o.q<=x/\∃c,U3 wq x c 9/\c[0]?=Z (.g g_)) (ho:w5.r B 31 1 v (M.F.j+1) (kS M.F++[sl g n])) (Q:zc (z 12).m.toList wq w5) (S:v.m=(z 12).m∨∃b,v.m=Z b/\wq.o.q<=b):mC B own w wb M (V 1) (ε (.i true)) (w5.x (ω wb 12) v):=by
 have s1:=r.q;have s2:=hS.q;have s3:=p.q;have u:d g=(19,1):=(ht g hg.2).A (zb rfl);have l:∀b,b<w.o.q->d b=own b:=λb q=>(ht b η).A (nO η λk=>by have:=A b k;omega);obtain⟨a,h⟩:∃a:UY,∀b,a b=if b=g then(0,0) else d b:=⟨_,λ_=>rfl⟩
 have L:=(h3.save p λb r=>by rw[xo.1 r];exact u).retag (own':=a) λb q=>by
  rw[h,za λe=>q (by rw[e];exact u)]
 have D:∀x∈hs,a x=(0,0):=λx I=>by
  have:=(H x I).1;rw[h,za η];exact h3.hd.new x this
 have m:∀b,a b=(0,0)->b∉wb::(z 12).m.toList:=λb e k=>(L.tags 12 θ b k).2 e;have J:a g=(0,0):=by rw[h,zb rfl]
 obtain⟨⟨G,r1,r2⟩,_,r3⟩:=L.put (f:=12) (M':={M with ls:=M.ls++xs,F:=M.F++[(g,n)]}) θ (v:=v) (λf hf=>by unfold ym.f;split<;>first|rfl|omega) (T:=31) (s:=1) (n:=M.F.j+1) (xs:=kS M.F++[sl g n]) (by simp[ym.f,kS]) ho Q (S.imp_right zg) L.nums λC w' j E F=>⟨j.ints,j.win,j.D,j.lists,λi hi=>by
  by_cases K:i<M.F.j;have:=j.F i K;simp only[uI K];exact this;obtain rfl:i=M.F.j:=by simp at hi;omega
  simp only[n4];refine⟨(F g η).A J,hs,hl,hn,yd y E λb r=>by cases r;exact m g J,λx I=>?_⟩;obtain⟨_,c,o,t⟩:=H x I;exact⟨(F x o.lt).A (D x I),c,o.save E (m x (D x I)),t⟩,j.z,j.pairs,j.ress⟩
 refine⟨rfl,⟨G,_,_,r1,⟨ζ,ζ,ζ,ζ,ζ,by simp;omega,ζ,ζ,rfl⟩,λb q=>?_,rfl,R⟩,⟨_,tN (tN (tN (zc.of (M:=[]) r) hS) p) r3,λb k=>?_⟩⟩;rw[r2 b η,h,za η];exact l b q;simp only[mo,zW,xw,decide_eq_true_eq] at k;unfold xh;rcases k with (⟨o,t⟩|⟨o,t⟩)|⟨o,t⟩
 have:=hN b o;rw[nO η λk=>by have:=A b k;omega] at this;rcases this with e|e|e<;>rw[e]<;>decide
 rw[xo.1 o] at t;omega;have:=(L.tags 12 θ b o).2;unfold xh at this;rw[h,za η,l b t] at this;exact this
def Uh:(e_.info? 31).map (λi=>(i.zero,i.q,i.bytes))=Z (Z (ν),1,24):=χ
def QC(h:zH B own w wb M V)(r:dI)(hr:r∈M.rs)(a:Λ)(hp:(zO r.2.2.2.2 a).isSome=true)(hn:M.F.j<=1048577)(ba:M.z.j<=1048577)(bB:M.ls.j<=1200000000000):
  c_ e_ 19 #[(π wb),.agg #[.u (Z ⟨r.1,0,Y⟩),.u (Z ⟨r.2.1,0,Y⟩),.u (Z ⟨r.2.2.1,0,Y⟩)],.g a] w λe C=>mC B own w wb M (V 1) e C:=by
 obtain⟨lo,lp,R,L,k,pv,nv,rv,fv,cv,bL,kv,bs,q⟩:=h.inn.ress r hr;obtain⟨x,m,pm,cs,t⟩:=r;dsimp only at *;obtain⟨p,S,aa,A⟩:=P9 q.told hp;have ar:zE t a<R.rows.j:=by rw[aa,q.told.len];exact S
 obtain⟨aS,hG,aL⟩:=q.told.rows ar;have bN:=(q.told.ar S).1;have aF:X (∀W,μ w W->c_ e_ 38 #[(π x),.g a] W λe C=>Dh (zp cs) (ye t p) (kl R p) W e C):=λW hb=>by
  have:=K2 W x t (zp cs) R pv nv rv bs a (q.res.u hb) hp ar aS _ hG (by rw[aa];omega);rw[aa] at this;exact this
 have aA:X (∀W,μ w W->c_ e_ 40 #[(π m),.g a] W λe C=>∃v,e=.returned v/\X (xF (λb=>xh own b∨w.o.q<=b) W.o.q C v ((kl R p).map λr=>zY (zp cs) r (ye t p) 3))/\X (μ W C)):=λW hb=>by
  have:=OC W m k fv L a (ye t p) (q.model.u hb) (q.fl.lt.u hb) q.M (by rw[←A];exact LK q.told q.rep S) η;rw[←A,PC q.told q.rep S,A] at this;exact this
 have a6:=U2 λW (hb:μ w W)=>tE (h.u hb) hn ba;obtain⟨bI,b5,a4⟩:=oP q.prog q.names;have aN:=U2 a4;have aD:=U2 ((Bx q.ctx.rise a).z.A hp);have bH:(U4 t).j<=1000:=by have:=q.told.M.2.1;simp only[U4,xv];exact this
 rw[aa] at aL;have H0:=U2 h;clear h hr hp q a4 ar hG aa A S;generalize U4 t=f at *;generalize kl R p=rs at *;generalize ye t p=z at *;generalize zp cs=ns at *;go_enter func19,ntmps19;go_upto_region 1 with fail
 have D:X (μ w (w.C (.E #[(π x),(π m),(π pm)] 50))):=zQ;have aq:=U2 (U3.new w #[(π x),(π m),(π pm)] 50);generalize w.C (.E #[(π x),(π m),(π pm)] 50)=wX at *;obtain⟨xc,xf,bk⟩:=aq.l.I;go_wp2_with (first|(go_at_call 38;refine(aF.l _ D.l).y ?_;rintro e w1 ⟨g,J,hg,rfl,ho,aE,ab⟩;have Q:=U2 (U6 D.l ab);obtain⟨bd,b0,aI⟩:=(aq.l.u ab).I;obtain⟨p1,aX,A⟩:=aN.l _ Q.l;have a3:=U2 A;clear A)|(go_at_call 39;refine(a6.l _ Q.l).y ?_;rintro e w2 ⟨rfl,bq⟩;obtain rfl:=bq.z))
 have HO:=U2 ho;have ah:=U2 aE;have ap:=U2 ab;clear ho aE ab xc xf bk aF a6;go_loop [10,11] (λaW ay=>∃i:Nat,i<=f.j/\ay=ι i/\aW=.i (yr a (f.G i))) (λ_ ay=>f.j-(d_ ay).D);exact⟨0,zs _,rfl,rfl⟩;obtain⟨i,hi,rfl,rfl⟩:=hrel;by_cases a7:i<f.j
 .obtain⟨gn,rfl,bK,cg⟩:=a3.l i a7;have HT:X (yr a (f.G (i+1))=(yr a (f.G i)||(f[i].toList == a.toList))):=by
   rw[X,yF a7,FR];congr 1;by_cases e:f[i]=a;rw[qH e];simp[e];rw[vn e];simp[e]
  generalize f[i]=y at *;generalize yr a (f.G i)=mb at *;cases mb
  .go_wp2;go_round;exact⟨i+1,η,ξ,by rw[HT.l];rfl⟩;simp[d_];omega
  go_wp2;go_round;exact⟨i+1,η,ξ,by rw[HT.l];rfl⟩;simp[d_];omega
 have HT:X (yr a (f.G i)=true):=by rw[X,yO η];exact aD.l
 rw[HT.l];have aG:X (∀w2 bv,xF (λb=>xh own b∨w.o.q<=b) w1.o.q w2 bv (rs.map λr=>zY ns r z 3)->μ w1 w2->(∃ao aQ,bv=.k ao rs.j aQ)/\io w2 wb J g z rs.j bv (rs.map λr=>zY ns r z 3) B (Vq own g J M.ls.j) M/\kp B (Vq own g J M.ls.j) w2 wb M (V 1) 0 w2):=λw2 bv q1 q2=>⟨by obtain⟨bC,_,q,_⟩:=q1;simpa using zq q,Qm H0.l D.l hg HO.l ah.l ap.l q2 q1⟩;have aB:∀x∈J,w.o.q<=x:=λx hx=>by
  obtain⟨k',aZ,rfl⟩:=uT hx;have:=(ah.l.2.2 k' (by have:=ah.l.1;omega) aZ).1;have:=D.l.q;omega
 have aK:=U2 aB;have a0:g<w1.o.q:=yb HO.l rfl;have br:w.o.q<=g:=zX D.l.q hg;clear a3 HO ah aN aD HT aB;go_wp2_with (go_at_call 40;refine(aA.l _ Q.l).y ?_;rintro e w2 ⟨bv,rfl,a2,ad⟩;obtain⟨⟨ao,aQ,aY⟩,aM,aH⟩:=aG.l _ _ a2.l ad.l;subst aY;have G:=U2 aM;have aO:=U2 aH;clear aM aH)
 have a8:=U2 (U6 Q.l ad.l);have an:=yh a0 ad.l.q;clear aA aG a2 ad bd b0 aI p1 aX ap Q aq D;generalize aj:Vq own g J M.ls.j=ak at *;have ai:=U2 aj;clear aj;generalize (rs.map λr=>zY ns r z 3)=RW at *;generalize rs.j=n at *;go_loopw [13,14] (λav _ wr=>∃i:Nat,i<=n/\av=ι i/\X (kp B ak w2 wb M (V 1) i wr)) (λav _ _=>n-(d_ av).D);exact⟨0,zs _,rfl,aO⟩;clear aO;obtain⟨j,hj,rfl,HR⟩:=hrel;by_cases a5:j<n
 .obtain⟨gb,o,c,bw,aV⟩:=G.l.at a5 η η;subst bw;have ac:=U2 aV;clear aV;generalize J[j]'(by rw[G.l.gl];exact a5)=gj at *;obtain⟨⟨c1,c2,l1,l2⟩,_⟩:=ac.l _ _ HR.l;have bo:X (∀W,μ wr W->c_ e_ 41 #[(π wb),.k (Z ⟨gj,0,Y⟩) z z,.k o z c] W λe C=>e=ε (.i true)/\X (kp B ak w2 wb M (V 1) (j+1) C)/\C.p ⟨g,j,Y⟩=Z (.k (Z ⟨gj,0,Y⟩) z z)/\C.p ⟨gb,j,Y⟩=Z (.k o z c)):=λW hb=>by
   refine((ac.l _ _ (HR.l.u hb)).2 rfl).y ?_;rintro e C ⟨q1,q2⟩;have q3:=(ac.l _ _ q2).1;exact⟨q1,q2,q3.1,q3.2.1⟩
  clear ac HR;have bA:(j:Int)<(n:Int):=η;go_wp2;go_region_held3 (λC=>C.p ⟨g,j,Y⟩=Z (.k (Z ⟨gj,0,Y⟩) z z)/\C.p ⟨gb,j,Y⟩=Z (.k o z c)) (first|go_keep|(go_simp;done)) (first|(go_at_call 41;refine(bo.l _ φ).y ?_;rintro e T ⟨rfl,bx,z0,z1⟩))
  all_goals
   go_wp2;go_roundw;exact⟨j+1,η,ξ,bx⟩;simp[d_];omega
 obtain rfl:j=n:=η;obtain⟨⟨b6,V3,xs,h3,b4,ht,am⟩,N,hS,hN⟩:=HR.l;have ha:=HR.l.keep G.l.a λb q=>by cases q;rw[G.l.ga];simp
 have s:wr.r B 31 1 (V3 12) M.F.j (kS M.F):=h3.hd.row 12 _ _ _ _ rfl;obtain⟨ae,af,H⟩:=zq s;have au:=h3.box;rw[H] at au s;have bb:=yh an hS.q;have bh:g≠wb:=λe=>by have:=uj ha au θ (show _=Z g from rfl);exact this e
 have aP:∀b,(O.slice ae M.F.j af).m=Z b->b≠g:=λb q e=>mG s ha θ q (by rw[e];rfl);have I:=U2 λF wq T v (e1:F.j=j) e2 e3 e4 e5 e6 e7=>Kq (hs:=F) (wq:=wq) (w5:=T) (v:=v) a8.l ⟨br,an⟩ aK.l h3 am b4 aL (by rw[ai.l];exact ht) hS (by rw[ai.l];exact hN) e2 e1 e3 e4 e5 e6 e7;have HG:=U2 G.l.gl;rw[H] at I;have HA:=U2 ha;have al:=U2 s;clear hN hS ht h3 am HR G a8 aK H ha s H0;generalize M.F.j=d at *;have aR:=λW:U=>run_make_row' (P:=e_) (w:=W) 30 9 (.g g_) 16 underlying30 Uw rfl .i64 .i64 (d+1) η η;rw[show((d+1:Nat):Int)=(d:Int)+1 by omega] at aR;obtain⟨w3,rfl⟩:∃w3,w3=wr:=⟨_,rfl⟩;obtain⟨i0,b1,bn,bi,b2⟩:=info_parts Uh;go_wp2;go_loopw [15] (λaz wq=>∃(i:Nat) (F:Φ),i<=j/\az=ι i/\X (F.j=i)/\X (wq.r B 30 1 (sl g j) j (F.map (vC (d+1))++(J.drop i).map (vC z)))/\X (∀x∈F,w3.o.q<=x/\∃c,U3 wq x c 9/\c[0]?=Z (.g g_))/\X (zc [g] w3 wq)) (λaz _=>j-(d_ az).D);exact⟨0,[],zs _,rfl,rfl,by simpa [X] using HA.l,by simp[X],zc.refl _ _⟩;obtain⟨i,F,b8,rfl,a1,E,ag,l⟩:=hrel;have ax:=au.save l.l (by simpa using Ne.symm bh);obtain⟨bc,bf,bl⟩:=ax.I;have bg:=yh bb l.l.q;by_cases bu:i<j
 .have bM:=uv E.l;have bp:X (∃K:Φ,K.j=i+1/\U.ownsRow ((wr.x ⟨g,i,Y⟩ (.k (Z ⟨wr.o.q,0,Y⟩) (d+1) (d+1))).C (.E (madeCells #[.g g_] (d+1)) 9)) B 30 1 (sl g j) j (K.map (vC (d+1))++(J.drop (i+1)).map (vC z))/\(∀x∈K,w3.o.q<=x/\∃c,U3 ((wr.x ⟨g,i,Y⟩ (.k (Z ⟨wr.o.q,0,Y⟩) (d+1) (d+1))).C (.E (madeCells #[.g g_] (d+1)) 9)) x c 9/\c[0]?=Z (.g g_))/\zc [g] w3 ((wr.x ⟨g,i,Y⟩ (.k (Z ⟨wr.o.q,0,Y⟩) (d+1) (d+1))).C (.E (madeCells #[.g g_] (d+1)) 9))):=by
   have hh:=a1.l;have bG:=HG.l;have bm:=l.l.q;have aJ:zc [g] wr (wr.x ⟨g,i,Y⟩ (.k (Z ⟨wr.o.q,0,Y⟩) (d+1) (d+1))):=zc.set _ _ _ _;have hz:(wr.x ⟨g,i,Y⟩ (.k (Z ⟨wr.o.q,0,Y⟩) (d+1) (d+1))).o.q=wr.o.q:=by simp[U.setCell]
   refine⟨F++[wr.o.q],by simp[hh],?_,λx hx=>?_,l.l.A (aJ.A (zc.of zQ))⟩;have q:=um E.l i υ (.k (Z ⟨wr.o.q,0,Y⟩) (d+1) (d+1));have e:(F.map (vC (d+1))++(J.drop i).map (vC z)).set i (.k (Z ⟨wr.o.q,0,Y⟩) (d+1) (d+1))=(F++[wr.o.q]).map (vC (d+1))++(J.drop (i+1)).map (vC z):=by
    rw[gz _ _ υ,yK (show i<J.j by omega),xU,xv,hh,vF,ml,uY];simp[vC]
   rw[e] at q;exact zy q zQ;rcases zW.1 hx with hx|hx;obtain⟨q1,c,q2,q3⟩:=ag.l x hx;exact⟨q1,c,(q2.save aJ υ).u zQ,q3⟩;rw[xo.1 hx];exact⟨bm,_,U3.newAt _ _ _ _ hz.z,by simp[madeCells]⟩
  have bz:∃u,wr.p ⟨g,i,Y⟩=Z u:=by
   obtain⟨g',c',f1,f2,f3,f4⟩:=kL E.l i bu;cases f1;exact⟨_,f4⟩
  obtain⟨u,hu⟩:=bz;have bD:(i:Int)<(j:Int):=η;clear E ag l;go_wp2;obtain⟨K,d1,d2,d3,d4⟩:=bp.l;go_roundw;exact⟨i+1,K,η,ξ,d1,d2,d3,d4⟩;simp[d_];omega
 obtain rfl:i=j:=η;have aw:X (wr.r B 30 1 (sl g i) i (F.map (vC (d+1)))):=by
  have q:=E.l;rw[uk (by have:=HG.l;omega)] at q;simpa [X] using q
 have a9:=U2 (yd al.l l.l λb hb=>by simpa using aP b hb);have HE:=U2 λT v=>I.l F wr T v a1.l l.l aw.l ag.l;have bt:B<=wr.o.q:=zX (Nat.le_of_lt (Nat.lt_of_le_of_lt (yZ aw.l rfl) bg)) (ze _);have b3:X (∀T,zc (O.slice ae d af).m.toList wr T->U3 T wb #[V3 0,V3 1,V3 2,V3 3,ι M.a,ι M.n,ι M.ex,V3 7,.i M.nn,V3 9,V3 10,V3 11,.k ae d af,V3 13] 35):=λT q=>ax.save q (vL a9.l ax θ);clear I E ag l aw HA al aR;go_wp2_with (at_builtin;refine jx wr _ [.k (Z ⟨g,0,Y⟩) i i] _ rfl (.tmp 116) (.tmp 118) 32 rfl B 31 i0 _ 1 24 underlying32 b1 bn bi b2 rfl θ (.k ae d af) d (kS M.F) rfl a9.l (zn _ _) _ _ rfl ζ rfl a_ η η bt ?_;intro v5 T aU aT aC;obtain⟨bE,b7,rfl⟩:=zq aU;have be:=b3.l _ aT;obtain⟨b9,bF,bJ⟩:=be.I)
 have HF:=U2 (HE.l T _ aU aT aC);go_ret;exact HF.l
end
end
section
section
variable {B:Nat} {own:UY} {w:U} {wb:Nat} {M:ym} {V:Nat->O} {a b c:Int} {s:ByteArray}
def NB(h:zH B own w wb M V)(p:qE)(F:p∈M.ps)(J:∀W,μ w W->∃z,lf W (V 7) M.nn z)(y:Vz b)(C:Vz c)(hn:M.rs.j<=1048576):
  c_ e_ 96 #[(π wb),.agg #[.u (Z ⟨p.1,0,Y⟩),.u (Z ⟨p.2.1,0,Y⟩)],.agg #[ι 7,ι a,ι b,ι c,.g s]] w λe d=>U9 B own w wb M e d:=by
 have l:X (∀W,μ w W->c_ e_ 17 #[(π wb),.agg #[.u (Z ⟨p.1,0,Y⟩),.u (Z ⟨p.2.1,0,Y⟩)],V 7,.i M.nn,ι b,ι c] W λe d=>rj B own W wb M V e d):=λW i=>by
  obtain⟨z,ho⟩:=J W i;exact Kr (h.u i) ho p F b c y C hn
 have r:X (∀W,μ w W->W.p ⟨wb,7,Y⟩=Z (V 7)/\W.p ⟨wb,8,Y⟩=Z (.i M.nn)/\wb<W.o.q):=λW i=>by
  have q:=h.box.u i;exact⟨by rw[q.H.1];rfl,by rw[q.H.1];rfl,q.lt⟩
 have G:=U2 h.hd.new;clear h F J y C;generalize p.1=k at *;generalize p.2.1=j at *;go_enter func96,ntmps96;go_upto_region 3 with fail
 have o:X (μ w ((w.C (.E #[(π k),(π j)] 40)).C (.E #[ι 7,ι a,ι b,ι c,.g s] 67))):=(show μ w _ from φ);have g:=U2 ((U3.new w #[(π k),(π j)] 40).up (.E #[ι 7,ι a,ι b,ι c,.g s] 67));have f:=U2 (U3.newAt (w.C (.E #[(π k),(π j)] 40)) (w.o.q+1) #[ι 7,ι a,ι b,ι c,.g s] 67 ζ);generalize (w.C (.E #[(π k),(π j)] 40)).C (.E #[ι 7,ι a,ι b,ι c,.g s] 67)=D at *;obtain⟨w7,w8,L⟩:=r.l _ o.l;have T:=g.l.H.1 0;have R:=g.l.H.1 1;have aa:=g.l.lt;have P:=f.l.H.1 2;have x3:=f.l.H.1 3;have ab:=f.l.lt;simp at T R P x3;have v:X (∀W,μ D W->c_ e_ 17 #[(π wb),.agg #[(π k),(π j)],V 7,.i M.nn,ι b,ι c] W λe d=>e=ε (.i true)/\X (U9 B own w wb M e d)/\d.p ⟨wb,7,Y⟩=Z (V 7)/\d.p ⟨wb,8,Y⟩=Z (.i M.nn)/\d.p ⟨w.o.q,0,Y⟩=Z ((π k))/\d.p ⟨w.o.q,1,Y⟩=Z ((π j))/\d.p ⟨w.o.q+1,2,Y⟩=Z (ι b)/\d.p ⟨w.o.q+1,3,Y⟩=Z (ι c)):=λW i=>by
  have n:=U6 o.l i;refine(l.l W n).y ?_;rintro e d ⟨K,⟨m,Q,v',S,H,N⟩,t⟩;have A:=t.l.box (g.l.u i) (G.l _ (ze _));have I:=t.l.box (f.l.u i) (G.l _ (Nat.le_succ _));have E:=H.box;exact⟨K,U9.from n ⟨K,⟨m,_,_,H,⟨ζ,S,ζ,ζ,ζ,ζ,ζ,ζ,rfl⟩,N⟩,t⟩,by rw[E.H.1];rfl,by rw[E.H.1];rfl,by rw[A.H.1];rfl,by rw[A.H.1];rfl,by rw[I.H.1];rfl,by rw[I.H.1];rfl⟩
 clear g f l r;generalize V 7=x at *;go_region_held3 (λd=>d.p ⟨wb,7,Y⟩=Z x/\d.p ⟨wb,8,Y⟩=Z (.i M.nn)/\d.p ⟨w.o.q,0,Y⟩=Z ((π k))/\d.p ⟨w.o.q,1,Y⟩=Z ((π j))/\d.p ⟨w.o.q+1,2,Y⟩=Z (ι b)/\d.p ⟨w.o.q+1,3,Y⟩=Z (ι c)) (first|go_keep|(go_simp;done)) (first|(go_at_call 17;refine(v.l _ φ).y ?_;rintro e w5 ⟨rfl,u,z1,z2,z3,z4,z5,z6⟩))
 all_goals
  go_wp2;go_ret;exact u.l
def Lm(h:zH B own w wb M V)(r:dI)(i:r∈M.rs)(d:Λ)(k:M.F.j<=1048577)(f:M.z.j<=1048577)(g:M.ls.j<=1200000000000):
  c_ e_ 19 #[(π wb),.agg #[.u (Z (δ r.1)),.u (Z (δ r.2.1)),.u (Z (δ r.2.2.1))],.g d] w λe l=>mC B own w wb M (V 1) e l:=by
 cases j:(zO r.2.2.2.2 d).isSome;exact RL h r i d j k f;exact QC h r i d j k f g
def Tl(h:zH B own w wb M V)(r:dI)(i:r∈M.rs)(m:M.F.j<=1048577)(d:M.z.j<=1048577)(f:M.ls.j<=1200000000000):
  c_ e_ 97 #[(π wb),.agg #[.u (Z (δ r.1)),.u (Z (δ r.2.1)),.u (Z (δ r.2.2.1))],.agg #[ι 8,ι a,ι b,ι c,.g s]] w λe k=>U9 B own w wb M e k:=by
 have l:=U2 λW (j:μ w W)=>(Lm (h.u j) r i s m d f).y λe k q=>U9.from j q.a;clear h i;generalize r.1=o at *;generalize r.2.1=n at *;generalize r.2.2.1=t at *;go_enter func97,ntmps97;go_wp2_with (go_at_call 19;refine(l.l _ φ).y ?_;rintro e p ⟨rfl,g⟩)
 go_ret;exact⟨rfl,g⟩
end
end
def zH.start(w:U)(nb:Bool):zH w.o.q (pL (λ_=>(0,0)) (sl w.o.q 0) (1,0)) (w.C (.E #[ν,ν,ν,ν,ι 0,ι 0,ι 0,ν,.i nb,ν,ν,ν,ν,ν] 35)) w.o.q ⟨[],[],[],[],[],0,0,0,nb,[],[],[]⟩ (λf=>if f=4∨f=5∨f=6 then ι 0 else if f=8 then .i nb else ν):=by
 have a:∀f b,(if f=4∨f=5∨f=6 then O.int .i64 0 else if f=8 then .i nb else ν).m≠Z b:=λf b=>by
  split;simp[O.ownBlock];split<;>simp[O.ownBlock]
 refine⟨⟨λb q=>?_,U3.new _ _ _,Bn rfl,λb q=>AD λe=>?_,λf T s n c q=>?_,λf b q=>zC q (a f b)⟩,⟨ζ,ζ,by unfold Vz;dsimp only;decide,ζ,ζ,ζ,ζ,ζ⟩,rfl,rfl,rfl,rfl⟩;unfold xh pL at q;by_cases e:(sl w.o.q 0).m=Z b;cases e;exact ze _;rw[za e] at q;exact zC rfl q;cases e;simp at q;omega;unfold ym.f at q;split at q<;>first|(cases q;exact xj _ _ _ _)|cases q
structure rp (k:Nat) (M:ym):Prop where
 ps:M.ps.j<=k
 rs:M.rs.j<=k
 row:M.row.j<=k
 ins:M.ins.j<=k
 ord:M.ord.j<=k
 ls:M.ls.j<=k*1048576
 F:M.F.j<=k
 z:M.z.j<=k
def nP.lim{k:Nat}{M M':ym}(h:nP M M')(a:rp k M):rp (k+1) M':=by
 obtain⟨i,s,c,b,m,l,p,j,_⟩:=h;obtain⟨n,d,q,r,g,f,e,o⟩:=a;exact⟨η,η,η,η,η,η,η,η⟩
def FM(P:ym->Prop)(B wb k:Nat)(w:U)(e:Ending)(w':U):Prop:=e=ε (.i true)/\X (∃a M V,zH B a w' wb M V/\rp (k+1) M/\P M)/\X (Below B w w')
def KK(P:ym->Prop)(S:P ⟨[],[],[],[],[],0,0,0,true,[],[],[]⟩)(w:U)(v:O)(l:List VD)(h:Wl w v l)(hl:l.j<=1048576)(HP:X (∀x∈l,∀c W M V k,zH w.o.q c W w.o.q M V->rp k M->k<=1048576->P M->c_ e_ 57 #[.u (Z (δ w.o.q)),.agg #[ι x.kind,ι x.a,ι x.b,ι x.c,.g x.s]] W λe y=>FM P w.o.q w.o.q k W e y)):
  c_ e_ 31 #[v] w λe y=>e=ε (ι (-1))/\μ w y:=by
 obtain⟨ao,ad,rfl⟩:=h.qm;go_enter func31,ntmps31;go_wp2;go_loopw [4] (λv4 wr=>∃k:Nat,k<=l.j/\v4=ι k/\X (∃c M V,zH w.o.q c wr w.o.q M V/\rp k M/\P M)/\μ w wr) (λi _=>l.j-(d_ i).D);exact⟨0,zs _,rfl,⟨_,_,_,zH.start w true,⟨ζ,ζ,ζ,ζ,ζ,ζ,ζ,ζ⟩,S⟩,φ⟩;obtain⟨k,hk,rfl,m,a⟩:=hrel;have J:=a.q;by_cases p:k<l.j
 .obtain⟨b,o,rfl,f,D,H,G,I,C⟩:=h.cell k p;have aa:=zi a f D;have Q:=zi a f H;have ab:=zi a f G;have T:=zi a f I;have R:=zi a f C;have ac:b<wr.o.q:=η;obtain⟨c,M,V,K,E,F⟩:=m.l;have A:=U2 (HP.l _ (zr p) c wr M V k K E η F);clear D H G I C K E F m;generalize l[k]=x at *;go_wp2_with (first|(go_at_call 57;refine A.l.y ?_;rintro e w1 ⟨rfl,q,j⟩;obtain⟨n,N,V',s,d,L⟩:=q.l;have u:=U2 s;have t:=U2 d;have z:=U2 L;have r:=U2 (a.A j.l);have B:=U2 (RM s (by have:=d.F;omega) (by have:=d.z;omega) (by have:=d.ins;omega) (by have:=d.ls;omega));clear s d L q j)|(go_at_call 58;refine B.l.y ?_;rintro e w2 ⟨rfl,g⟩))
  go_roundw;exact⟨k+1,η,ξ,⟨n,N,V',u.l.u g,t.l,z.l⟩,r.l.A (g.y r.l.q)⟩;simp[d_];omega
 go_wp2;go_ret;exact⟨rfl,a⟩
section
section
variable {B:Nat} {own:UY} {w:U} {wb k:Nat} {M:ym} {V:Nat->O}
def tj{k a b c:Int}{s:Λ}(i:X (∀W,μ w W->c_ e_ 94 #[(π wb),.agg #[ι k,ι a,ι b,ι c,.g s]] W λe d=>uU B own W wb M e d)):
  c_ e_ 57 #[(π wb),.agg #[ι k,ι a,ι b,ι c,.g s]] w λe d=>uU B own w wb M e d:=by
 have j:=U2 λW (h:μ w W)=>(i.l W h).y λe d ⟨g,q⟩=>(⟨g,U9.from h q⟩:uU B own w wb M e d);clear i;go_enter func57,ntmps57;go_wp2_with (go_at_call 94;refine(j.l _ φ).y ?_;rintro e l ⟨g,rfl,f⟩)
 go_ret;exact⟨g,rfl,f⟩
def uU.lim(h:zH B own w wb M V)(a:rp k M){e:Ending}{w':U}(q:uU B own w wb M e w'):FM (λ_=>True) B wb k w e w':=by
 obtain⟨l,g,⟨b,c,i,d,j,m⟩,f⟩:=q;exact⟨g,⟨b,c,i,d,j.lim ⟨a.ps,a.rs,a.row,a.ins,a.ord,a.ls,a.F,a.z⟩,trivial⟩,h.down f.l⟩
def Qe(x:VD)(h:zH B own w wb M V)(n:rp k M)(o:k<=1048576)(b:fY [1,7,8,10,11,12,13,14,15,16] x.kind)(g:WZ x)(hs:x.s.q<=1048576):
  c_ e_ 57 #[(π wb),.agg #[ι x.kind,ι x.a,ι x.b,ι x.c,.g x.s]] w λe f=>uU B own w wb M e f:=by
 obtain⟨c,i,m⟩:=g;obtain⟨z,y,C,s,D,t,A,u⟩:=n;have j:∀{e f},U9 B own w wb M e f->uU B own w wb M e f:=λq=>uU.of q;rcases b with b|b|b|b
 .obtain b|b|b|b|b:x.kind=2∨x.kind=3∨x.kind=4∨x.kind=5∨x.kind=6:=η
  all_goals rw[b]
  exact tj λW a=>Oa (h.u a) hs η;exact tj λW a=>RF (h.u a) η c i;exact tj λW a=>NA (h.u a) ⟨c,i,m⟩;exact tj λW a=>Tn (h.u a) c η η;exact tj λW a=>Re (h.u a)
 rw[b];exact(DE λW a=>Km (h.u a) _ _ _ _ η).y λe f q=>j q;rw[b];exact(DE λW a=>Q3 (h.u a) _ _ _ _ η c i).y λe f q=>j q;simp only[z7,n6,or_false] at b;rcases b with b|b|b|b|b|b|b|b|b|b<;>rw[b]<;>refine c_.mono (R:=λe f=>U9 B own w wb M e f) ?_ λe f q=>j q
 exact IU h hs η;exact sF h η c η λW a p d=>NB (h.u a) p d (λv l=>((h.u a).u l).hand η) i m η;exact BI h η c η λW a r g=>Tl (h.u a) r g η η η;exact BI h η c η λW a r g=>NI (h.u a) r g η;exact BI h η c η λW a r g=>PG (h.u a) r g;exact sF h η c η λW a p d=>RU p (h.u a) d η;exact sF h η c η λW a p d=>MH p (h.u a) d;exact sF h η c η λW a p d=>Nq p (h.u a) d η η η;exact sF h η c η λW a p d=>RZ p (h.u a) d η;exact sF h η c η λW a p d=>MX p (h.u a) d
end
def RA(w:U)(v:O)(l:List VD)(h:Wl w v l)(j:∀x∈l,WZ x):
  c_ e_ 9 #[v] w λe g=>e=ε (.i true)/\μ w g:=by
 have c:X (Hm l [1,7,8,10,11,12,13,14,15,16]):=λW s t m f n o=>KK (λ_=>True) trivial W s t m n λx b own W M V k i d r _=>(Qe x i d r (f x b).2 (j x (f x b).1) (o x b)).y λe g q=>uU.lim i d q;obtain⟨y,p,rfl⟩:=h.qm;go_enter func9,ntmps9;go_wp2_with (go_at_call 15;refine(JP _ _ l (by exact h.u φ) _ [1,7,8,10,11,12,13,14,15,16] ⟨_,CV _ [ι 1,ι 7,ι 8,ι 10,ι 11,ι 12,ι 13,ι 14,ι 15,ι 16] _ θ⟩ θ c.l).y ?_;rintro e u ⟨rfl,a⟩)
 go_ret;exact⟨rfl,U6 ((zn w.o.q w).C (ze _) _) a⟩
end
section
open Go.ChangeShapes Go.WideShapes Go.ChangeAt Go.Deep
def Wf(os:Os)(a:os.Started)(H:Type)(enc:TypeId×O->H):
  ReturnsInHanded {} checked os 9 .any (Rows.allSpec.pre6 enc e_ Tryz.f9 Rows.allRow.domain false) (Rows.allSpec.post enc e_ Tryz.f9 false true false false):=by
 refine returnsInHanded_of_change_sized (C:=checked) TJ a χ func9
  (ChangeSpec.witness6 (enc:=enc) (C:=checked) false ⟨#[],#[ν],[]⟩ 8 χ χ χ χ) ?_
 intro W i args z F m b A _ d _;have k:(DataW.weightsEach e_ (Tryz.f9.params.toList++Rows.allSpec.plain.varTypes e_) (z++F)).all (·<=reachBytes)=true:=d;clear d;have c:∀(j:Nat) t v,Tryz.f9.params[j]?=Z t->args[j]?=Z v->O.okWide e_ W .any i t v:=b;have f:=A;obtain⟨p,q,g,G,rfl,_,_⟩:=A;have w:DataW.TrodAll enc e_ W 0 (λ_=>true) true Tryz.f9.params.toList args.toList z p:=g;rw[params9] at w c k;obtain⟨E,B,rfl,rfl,y⟩:=trodAll_one w;obtain⟨rfl,rfl⟩:=trodVars_none G;have r:=y;obtain⟨u,D⟩:=y;clear g b;simp only[vD] at f;have o:∀x∈p,x.block<W.o.q:=λx L=>by simpa using f.lt x L
 obtain⟨N,I,M,rfl⟩:=okWide_slice underlying22 (c 0 22 E rfl rfl);obtain⟨l,K,n⟩:=KQ (x:=(B,p)) D k;refine(RA W _ l K n).y λe P ⟨J,s⟩=>?_;subst J;exact⟨_,rfl,⟨_,_,_,[],_,[],f,trodAll_mk1 (shut_bool underlying4 true),trodAll_mk1 (Below.trod Uk χ (of_decide_eq_true χ) r s o),rfl,s.frame _,λh=>by cases h⟩⟩
def LH:joinedFacts e_ 9 Tryz.f9 Rows.allSpec Rows.allRow=true:=by
 unfold joinedFacts;simp only[uK];repeat'(with_reducible apply And.intro)
 all_goals (as_aux_lemma=>kernel_rfl)
theorem all_holds:Rows.AllSaid:=
 OpenClaim.holds_of_wide 9 Tryz.f9 rfl rfl rfl rfl rfl rfl rfl ⟨rfl,rfl,rfl,rfl,rfl⟩ rfl rfl rfl rfl rfl χ func9 LH
  (of_decide_eq_true χ) (by unfold Func.isWrapper;first|(rw[zb (by decide +kernel)];kernel_rfl)|(rw[za (by decide +kernel)];exact⟨rfl,rfl⟩))
  (λc a H b _=>Wf c a H b)
#print axioms all_holds
end
end Go.Proofs.YteampbddflhngaaGreat
