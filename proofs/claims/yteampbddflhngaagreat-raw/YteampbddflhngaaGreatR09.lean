import Derived.Test.YteampbddflhngaaGreatR02
import Derived.Test.YteampbddflhngaaGreatR06
namespace Go.Proofs.YteampbddflhngaaGreat
open List renaming length→List.j,take→List.G
open _root_.Array renaming size→Array.q
open _root_.ByteArray renaming size→ByteArray.q
open Go.RowKit.Below renaming size→Go.RowKit.Below.q,setCell→Go.RowKit.Below.x,mono→Go.RowKit.Below.y,trans→Go.RowKit.Below.A,alloc→Go.RowKit.Below.C
open Go.TypeInfo renaming size→Go.TypeInfo.q
open Go.RowKit.Hid renaming out→Go.RowKit.Hid.l
open Go.World renaming heap→Go.World.o,setCell→Go.World.x,alloc→Go.World.C,ownsRow→Go.World.r
open Go.Value renaming slice→Go.Value.k,string→Go.Value.d,cells→Go.Value.E
open Go.TypeDesc renaming slice→Go.TypeDesc.k,string→Go.TypeDesc.d
open Go.Calls renaming mono→Go.Calls.y
open Eq renaming trans→Eq.A
open Iff renaming trans→Iff.A
open Go.Obj renaming cells→Go.Obj.E
open Option renaming some→Z,none→Y
open Go.RowKit renaming Hid→X
open Go renaming World→U,Value→O
set_option linter.all false
set_option maxRecDepth 100000
set_option maxHeartbeats 4000000
open Go.Proofs.Tryz Go.RowKit
section
variable {lo:Nat}
def TO.but{b:TypeId}{r:Nat}{w w':U}{v:O}{l:Ξ}(h:TO lo b w v l)(g:Tu r w w'){c:Array O}{T:TypeId}{f:Nat×Nat}(e:w.o[r]?=Z (.E c T f))(i:T≠9)(d:T≠90)(a:T≠b):TO lo b w' v l:=by
 obtain⟨m,h,j⟩:=h;exact⟨m,xL h g e a,j.y (λ_ _ k=>k.but g e i) (λ_ _ k=>k.but g e i d)⟩
structure UM (w:U) (pb:Nat) (cv pv:O) (cs:List zc) (ps:κ) (sv:List Nat) (wr:U):Prop where
 but:Tu pb w wr
 box:Th wr pb #[cv,pv,.k (Z ⟨w.o.q,0,Y⟩) ps.j ps.j] 45
 row:wr.r w.o.q 3 1 (.k (Z ⟨w.o.q,0,Y⟩) ps.j ps.j) ps.j (sv.map TN)
 len:sv.j=ps.j
 low:Vh cs ps sv
 top:∀s∈sv,s<ps.j
def UM.cell{w:U}{pb:Nat}{i d:O}{cs:Ξ}{ps:κ}{sv:Φ}{wr:U}(h:UM w pb i d cs ps sv wr)(k:Nat)(f:k<sv.j):w.o.q<wr.o.q/\wr.cell? (ω w.o.q k)=Z (ι (sv[k]:Int)):=by
 obtain⟨g,b,a,_,c,e⟩:=yr h.row (by have:=h.len;omega);simp at a;obtain⟨rfl,_⟩:=a;exact⟨c,e k _ (by simp[f,TN])⟩
def UM.set{w:U}{pb:Nat}{d c:O}{cs:Ξ}{ps:κ}{sv:Φ}{wr:U}(h:UM w pb d c cs ps sv wr)(e:pb<w.o.q)(k:Nat)(f:k<sv.j)(s:Nat)(hs:s<ps.j)(a:Vh cs ps (sv.set k s)):
  UM w pb d c cs ps (sv.set k s) (wr.x (ω w.o.q k) (ι (s:Int))):=by
 refine⟨h.but.setNew (zg _) _,h.box.set_ne η _ _,?_,by simpa using h.len,a,?_⟩;have:=uB h.row k (by simpa using f) (TN s);rw[lx];exact this;intro x b;rcases lK b with b|b;exact h.top x b;omega
def LL(w:U)(pb:Nat)(c b:O)(cs:List zc)(ps:κ)(e:Ending)(w':U):Prop:=Tu pb w w'/\((e=ε (.bool false)/\¬∃f,Ul cs f)∨∃a,e=ε (.bool true)/\UM w pb c b cs ps a w'/\TT cs (vR ps a))
def RU{sv:Φ}{k s:Nat}(a:k<sv.j)(hs:sv[k]<s):sv.sum<(sv.set k s).sum:=by have:=Do sv k s a;omega
def Ss{ps:κ}{sv:Φ}(b:sv.j=ps.j)(h:∀s∈sv,s<ps.j):sv.sum<=ps.j*ps.j:=by rw[←b] at h ⊢;exact Hf sv sv.j λs a=>by have:=h s a;omega
def TO.ne{e T:TypeId}{w:U}{g n cap pb:Nat}{cs:Ξ}{c:Array O}(h:TO lo e w (.k (Z (δ g)) n cap) cs)(b:Th w pb c T)(f:T≠e):g≠pb:=by
 obtain⟨l,⟨_,⟨a,_⟩|⟨k,d,j,a,_,i,_⟩⟩,_⟩:=h;cases a;simp at a;obtain⟨rfl,_⟩:=a;rintro rfl;unfold Th at b;rw[i] at b;simp at b;exact f b.2.symm
def l8.but{w w':U}{g o:Nat}{c:zc}{k:Option Addr}{cap:Nat}{b:Option Addr}{a r:Nat}(h:l8 w g o c k cap b a)(e:Tu r w w')(i:g≠r){m:Array O}{T:TypeId}(l:Th w r m T)(j:T≠9)(f:T≠90):l8 w' g o c k cap b a:=
 have d:∀o,w'.cell? (ω g o)=w.cell? (ω g o):=λ_=>U.cell?_of_block (w:=w) (e.block g h.lt i)
 ⟨ym h.lt e.q,(d _).A h.c0,(d _).A h.c1,(d _).A h.c2,(d _).A h.c3,h.k.but e l j,h.d.but e l j f⟩
def C4(w:U)(pb:Nat)(cv pv v2:O)(cs:Ξ)(ps:κ)(hp:Th w pb #[cv,pv,v2] 45)(al:TO lo 93 w cv cs){a9:Nat}(an:Tn a9 w pv ps)(a2:∀c∈cs,qo c/\c.d.j<=999)(hl:cs.j<=1000)(z:ps.j<=1000)(a5:∀c∈cs,∀l∈zm c,l.o∈ps):
  Calls prog 70 #[(π pb)] w λe w'=>LL w pb cv pv cs ps e w':=by
 obtain⟨ao,B,rfl⟩:=al.qy;obtain⟨D,q,rfl⟩:=an.qy;obtain⟨a0,a6,aq⟩:=hp.e;have aF:=Tg a2;have av:=Tg a5;have HP:=Tg hp;have aD:=run_make_row' (P:=prog) 24 3 (ι 0) 8 underlying24 S5 rfl .i64 .i64 ps.j η η;clear a2 a5;go_enter func70,ntmps70;go_wp2;clear aD;go_loopg [4] (2*(ps.j*ps.j)+1) (λN v3 wr=>∃(J:Φ) (more:Bool),v3=.bool more/\UM w pb (.k ao cs.j B) (.k D ps.j q) cs ps J wr/\X (more=false->Uq cs ps J cs.j)/\2*(ps.j*ps.j-J.sum)+more.toNat<=N)
 case atStart=>
  have aJ:(w.x (ω pb 2) (.k (Z (δ w.o.q)) ps.j ps.j)).o.q=w.o.q:=by simp[U.setCell]
  have a3:=G3 (w.x (ω pb 2) (.k (Z (δ w.o.q)) ps.j ps.j)) ps.j 3 b_;rw[aJ] at a3;refine⟨List.replicate ps.j 0,true,rfl,⟨ψ,?_,a3,ζ,Su _ _ _,?_⟩,(by intro h;cases h),ζ⟩;exact(hp.set 2 _).u zP;intro s hs;rw[List.mem_replicate] at hs;omega
 clear a0 a6;obtain⟨J,more,rfl,t,HC,hN⟩:=hrel;cases more
 .have K:=Tg (HC.l rfl);clear HC;go_wp2;go_ret;exact⟨t.but,ze ⟨J,rfl,t,KQ t.low K.l⟩⟩
 go_wp2;go_loopw [4,5] (λv3 v4 wi=>∃(k:Nat) (si:Φ) (mi:Bool),k<=cs.j/\v4=ι k/\v3=.bool mi/\UM w pb (.k ao cs.j B) (.k D ps.j q) cs ps si wi/\J.sum<=si.sum/\(mi=true->J.sum<si.sum)/\X (mi=false->Uq cs ps si k)) (λ_ i _=>cs.j-(intOf i).toNat)
 case atStart=>exact⟨0,J,false,zs _,rfl,rfl,t,zg _,ζ,λ_=>Nf _ _ _⟩
 obtain⟨k,si,mi,hk,rfl,rfl,r,aI,ag,ay⟩:=hrel;have F:=r.box;obtain⟨az,a8,aw⟩:=F.e;by_cases E:k<cs.j
 .obtain⟨g,bf,aO,be,aQ,rfl,Q⟩:=al.at k E;have ae:=al.ne hp θ;have u:=Q.but r.but ae hp θ θ;have aa:=an.but r.but HP.l θ;obtain⟨ba,aZ⟩:=aF.l _ (zq E);have C:=av.l _ (zq E);have ad:=zq E;have am:=Tg λs' (h1:Uq cs ps s' k) (h2:nH cs[k] ps s' cs[k].d.j)=>P6 h1 E h2;generalize cs[k]=c at *;have au:=Tg C;have ab:=Tg ad;have aA:=Tg Q;obtain⟨A,W⟩:=iA (C c.g (by simp[zm]));have aP:=(lN W).1;have a7:=Tg W;have aK:X (lc ps c.g.o=(A:Int)):=by unfold X lc;rw[W]
  have aH:=u.c1;have a1:=u.c3;have af:=u.lt;clear W C ad Q;go_wp2_with (go_at_call 111;refine(nW _ pb _ _ _ ps c.g.o F aa z).y ?_;rw[aK.l];rintro e w' ⟨rfl,d⟩;obtain rfl:=d.symm)
  go_loopw [4,8] (λv3 v7 wj=>∃(j:Nat) (b:Φ) (S:Bool),j<=c.d.j/\v7=ι j/\v3=.bool S/\UM w pb (.k (Z (δ g)) cs.j B) (.k D ps.j q) cs ps b wj/\J.sum<=b.sum/\(S=true->J.sum<b.sum)/\X (S=false->Uq cs ps b k/\nH c ps b j)) (λ_ i _=>c.d.j-(intOf i).toNat)
  case atStart=>exact⟨0,si,mi,zs _,rfl,rfl,r,aI,ag,λh=>⟨ay.l h,Qk _ _ _⟩⟩
  clear az a8 aH a1 u aa F aw af;obtain⟨j,b,S,hj,rfl,rfl,a,I,M,x⟩:=hrel;have f:=a.box;obtain⟨az,a8,aR⟩:=f.e;have L:=aA.l.but a.but ae HP.l θ θ;have o:=an.but a.but HP.l θ;have a1:=L.c3;have af:=L.lt;by_cases ai:j<c.d.j
  .obtain⟨gl,aS,aM,aB,bd,ax,aW,_,_⟩:=L.d.cell j ai;subst aB;have ah:=zq ai;obtain⟨kb,V⟩:=iA (au.l c.d[j] (by simp[zm]));have aL:=(lN V).1;have aN:=a.len;have G:kb<b.j:=η;have n:A<b.j:=η;have T:=it V G;have ar:=it a7.l n;have p:X (lc ps c.d[j].o=(kb:Int)):=by unfold X lc;rw[V]
   have v:X (Vh cs ps (b.set A (b[kb]+up c.d[j]))):=by have:=OD a.low ab.l ah a7.l n;rw[T] at this;exact this
   have ap:=Tg λh=>Pc a.low av.l ab.l ah (by rw[T];exact h);have a4:=Tg λh1 h2=>O1 h2 ai (by rw[T,ar];exact h1);have ac:=Tg λs h1 h2=>a.set aq A n s h1 h2;have H:=Tg λs (h:b[A]<s)=>RU n h;obtain⟨aU,bb⟩:=a.cell kb G;obtain⟨_,bg⟩:=a.cell A n;have aY:=vg a.row;have aX:=a.top _ (zq G);have aV:=a.top _ (zq n);clear T ar V ah;generalize b[kb]=R at *;generalize b[A]=sh at *;generalize c.d[j]=l at *;cases m:l.i
   .have y:up l=0:=by simp[up,m]
    rw[m] at ax;clear m;by_cases aj:sh<R
    .by_cases aE:ps.j<=R;omega;have ak:X (UM w pb (.k (Z (δ g)) cs.j B) (.k D ps.j q) cs ps (b.set A (R)) (wr.x (ω w.o.q A) (ι ((R:Nat):Int)))):=ac.l _ η (by have:=v.l;rw[y] at this;exact this);have aG:=H.l (R) aj;go_wp2_with (go_at_call 111;refine(nW _ pb _ _ _ ps l.o f o z).y ?_;rw[p.l];rintro e w' ⟨rfl,d⟩;obtain rfl:=d.symm)
     go_roundw;exact⟨j+1,_,true,η,ξ,rfl,ak.l,η,(λ_=>η),(λh=>by cases h)⟩;simp[intOf];omega
    have K:X (S=false->Uq cs ps b k/\nH c ps b (j+1)):=λh=>⟨(x.l h).1,a4.l (by rw[y];omega) (x.l h).2⟩;go_wp2_with (go_at_call 111;refine(nW _ pb _ _ _ ps l.o f o z).y ?_;rw[p.l];rintro e w' ⟨rfl,d⟩;obtain rfl:=d.symm)
    go_roundw;exact⟨j+1,b,S,η,ξ,rfl,a,I,M,K⟩;simp[intOf];omega
   have y:up l=1:=by simp[up,m]
   rw[m] at ax;clear m;by_cases aj:sh<R+1
   .by_cases aE:ps.j<=R+1
    .have HF:=Tg (ap.l (by rw[y];omega));go_wp2_with (go_at_call 111;refine(nW _ pb _ _ _ ps l.o f o z).y ?_;rw[p.l];rintro e w' ⟨rfl,d⟩;obtain rfl:=d.symm)
     go_ret;exact⟨a.but.setNew (zg _) _,zh ⟨rfl,HF.l⟩⟩
    have ak:X (UM w pb (.k (Z (δ g)) cs.j B) (.k D ps.j q) cs ps (b.set A (R+1)) (wr.x (ω w.o.q A) (ι ((R+1:Nat):Int)))):=ac.l _ η (by have:=v.l;rw[y] at this;exact this);have aG:=H.l (R+1) aj;go_wp2_with (go_at_call 111;refine(nW _ pb _ _ _ ps l.o f o z).y ?_;rw[p.l];rintro e w' ⟨rfl,d⟩;obtain rfl:=d.symm)
    go_roundw;exact⟨j+1,_,true,η,ξ,rfl,ak.l,η,(λ_=>η),(λh=>by cases h)⟩;simp[intOf];omega
   have K:X (S=false->Uq cs ps b k/\nH c ps b (j+1)):=λh=>⟨(x.l h).1,a4.l (by rw[y];omega) (x.l h).2⟩;go_wp2_with (go_at_call 111;refine(nW _ pb _ _ _ ps l.o f o z).y ?_;rw[p.l];rintro e w' ⟨rfl,d⟩;obtain rfl:=d.symm)
   go_roundw;exact⟨j+1,b,S,η,ξ,rfl,a,I,M,K⟩;simp[intOf];omega
  have HE:=Tg λh=>am.l b (x.l h).1 (by have h2:=(x.l h).2;rw[show c.d.j=j from by omega];exact h2);go_wp2;go_roundw;exact⟨k+1,b,S,η,ξ,rfl,a,I,M,HE⟩;simp[intOf];omega
 have aC:k=cs.j:=η;have bc:=Ss r.len r.top;go_wp2;go_roundg (2*(ps.j*ps.j-si.sum)+mi.toNat)
 case measure=>
  have aT:2*(ps.j*ps.j-J.sum)+1<=gk:=hN;clear hN;generalize ps.j*ps.j=nn at *;cases mi;simp only[Bool.toNat_false];omega;have:=ag rfl;simp only[Bool.toNat_true];omega
 exact⟨si,mi,rfl,r,(by rw[←aC];exact ay.l),zg _⟩
end
section
variable {lo:Nat}{l:List To}
def O6:∀{ts:κ} {l:Δ},fY ts l->∀t∈ts,∃y∈l,y.2=t:=by
 intro ts l h;induction h with
 |one=>intro t a;simp at a;exact⟨_,sL,a.symm⟩
 |more _ _ _ c=>
  intro t a;rcases zG.1 a with rfl|a;exact⟨_,sL,rfl⟩;obtain⟨y,b,e⟩:=c t a;exact⟨y,by simp[b],e⟩
def ia{a:zj}(h:qR a l):∀t∈a.k,∃y∈l,y.2=t:=by
 cases h with
 |bare=>intro t b;cases b
 |k _ _ d _=>intro t b;obtain⟨y,c,e⟩:=O6 d t b;exact⟨y,by simp[c],e⟩
def Ek{a:zj}(h:dU a l):∀t∈a.k,∃y∈l,y.2=t:=by
 cases h with
 |qc h=>exact ia h
 |i _ h=>intro t c;obtain⟨y,b,e⟩:=ia h t c;exact⟨y,by simp[b],e⟩
def Qe:∀{b:Ω} {l:Δ},gT b l->∀a∈b,∀t∈a.k,∃y∈l,y.2=t:=by
 intro b l h;induction h with
 |one h=>intro a c;simp at c;subst c;exact Ek h
 |more h _ _ g=>
  intro a c t f;rcases zG.1 c with rfl|c;obtain⟨y,d,e⟩:=Ek h t f;exact⟨y,by simp[d],e⟩;obtain⟨y,d,e⟩:=g a c t f;exact⟨y,by simp[d],e⟩
def Ls{c:zc}(h:fZ c l):∀a∈zm c,∀t∈a.k,∃y∈l,y.2=t:=by
 cases h with
 |fact h=>intro a b;simp[zm] at b;subst b;exact ia h
 |p h _ g=>
  intro a b t f;simp only[zm] at b;rcases zG.1 b with rfl|b;obtain⟨y,d,e⟩:=ia h t f;exact⟨y,by simp[d],e⟩;obtain⟨y,d,e⟩:=Qe g a b t f;exact⟨y,by simp[d],e⟩
def Cc:∀{cs:Ξ} {l:Δ},ly cs l->∀c∈cs,∀a∈zm c,∀t∈a.k,∃y∈l,y.2=t:=by
 intro cs l h;induction h with
 |nil=>intro c b;cases b
 |cons h _ _ i=>
  intro c b a f t g;rcases zG.1 b with rfl|b;obtain⟨y,d,e⟩:=Ls h a f t g;exact⟨y,by simp[d],e⟩;obtain⟨y,d,e⟩:=i c b a f t g;exact⟨y,by simp[d],e⟩
structure I3 (cs:List zc):Prop where
 ok:∀c∈cs,qo c/\c.d.j<=999/\xj (zm c)<=1000/\∀l∈zm c,∀t∈l.k,0<t.q
 len:cs.j<=1000
 N:(cs.flatMap zm).j<=1000
def et{s:ByteArray}{l:κ}(hs:s.q<=500)(h:x9 s.q s=Z l):∃a,Tt s=Z a/\l=zX a/\l.j<=500/\∀y∈l,0<y.q:=by
 rw[sO] at h;rcases b:Tt s with _|a;rw[b] at h;cases h;rw[b] at h;simp only[jZ,zt] at h;subst h;refine⟨a,rfl,rfl,?_,?_⟩;have:=eP b;simp;omega;intro y c;obtain⟨x,d,rfl⟩:=zF.1 c;exact(rE b x d).2
def BC{s:ByteArray}{l:κ}{cs:Ξ}(hs:s.q<=500)(h:x9 s.q s=Z l)(j:vI l=Z cs):I3 cs:=by
 obtain⟨d,b,rfl,r,w⟩:=et hs h;have e:uu d:=λx q=>(rE b x q).1;have k:=(B9 e cs).1 j;have g:yW d.j d.j d=Z cs:=by
  have:=Be s;rw[h,b] at this;simp only[Option.bind_some] at this;rw[←this];exact j
 have v:=ix g;have m:d.j<=500:=by simpa [zX] using r
 have i:=oW (cs:=cs) η;refine⟨λc f=>⟨i c f,?_,?_,?_⟩,by have:=oG cs;omega,by have:=ot cs;omega⟩;have b:=oC f;have p:=wk c.d;unfold US gG at b;omega;have b:=oC f;have p:=wk c.d;unfold US gG at b;simp only[zm,xj] at *;simp;omega;intro a n t u;obtain⟨y,o,rfl⟩:=Cc k c f a n t u;exact(rE b y o).2
def s5(r:Except Int (List zc×κ×List Nat))(w:U)(e:Ending)(w':U):Prop:=
 μ w w'/\match r with
  |.error n=>e=ε (.tuple #[.pointer Y,ι n])
  |.ok (g,h,c)=>∃a d b f,e=ε (.tuple #[(π a),ι 0])/\Th w' a #[d,b,f] 45/\TO w.o.q 93 w' d g/\Tn w.o.q w' b h/\w'.r w.o.q 3 1 f c.j (c.map TN)/\w.o.q<=a
def K8(s:ByteArray)(w:U)(hs:500<s.q)(a:s.q<=9223372036854775807):
  Calls prog 33 #[.d s] w λe b=>s5 (.error 1) w e b:=by
 go_enter func33,ntmps33;go_wp2;go_ret2
 exact⟨zn _ _,rfl⟩
def LA(s:ByteArray)(w:U)(hs:s.q<=500)(h:x9 s.q s=Y):
  Calls prog 33 #[.d s] w λe a=>s5 (.error 2) w e a:=by
 have c:X (∀W,Calls prog 65 #[.d s] W λe a=>μ W a/\e=ε (.tuple #[ν,.bool false])):=λW=>by have:=iD s W hs;rw[h] at this;exact this
 clear h;go_enter func33,ntmps33;go_wp2_with (go_at_call 65;refine(c.l _).y ?_;rintro e d ⟨b,rfl⟩;clear c)
 go_ret2
 exact⟨b,rfl⟩
def PF(s:ByteArray)(w:U)(hs:s.q<=500)(l:κ)(h:x9 s.q s=Z l)(j:vI l=Y):
  Calls prog 33 #[.d s] w λe k=>s5 (.error 3) w e k:=by
 obtain⟨_,_,_,o,m⟩:=et hs h;have d:=Tg λW=>by have:=iD s W hs;rw[h] at this;exact this
 have f:=Tg λW v i=>by have:=A0 W v l i m o;rw[j] at this;exact this
 go_enter func33,ntmps33;go_wp2_with (first|(go_at_call 65;refine(d.l _).y ?_;rintro e q ⟨c,p,rfl,b⟩;clear d)|(go_at_call 66;refine(f.l _ _ (SV.of b)).y ?_;rintro e t ⟨a,r,n,g,rfl⟩;clear f))
 go_ret2
 exact⟨Tk c a,rfl⟩
def Qn(s:ByteArray)(w:U)(hs:s.q<=500)(l:κ)(cs:Ξ)(h:x9 s.q s=Z l)(B:vI l=Z cs)(K:kf cs≠0):
  Calls prog 33 #[.d s] w λe u=>s5 (.error (kf cs)) w e u:=by
 obtain⟨_,_,_,G,E⟩:=et hs h;have d:=BC hs h B;have i:=d.len;have z:=Tg λW=>by have:=iD s W hs;rw[h] at this;exact this
 have A:=Tg λW v C=>by have:=A0 W v l C E G;rw[B] at this;exact this
 have j:X (∀lo W o k n m,Th W o #[k,n,m] 45->TO lo 93 W k cs->Calls prog 67 #[(π o)] W λe u=>e=ε (ι (kf cs))/\μ W u):=λ_ W o k n m F D=>Cp W o k n m cs F D d.ok i;go_enter func33,ntmps33;go_wp2_with (first|(go_at_call 65;refine(z.l _).y ?_;rintro e J ⟨q,n,rfl,r⟩;clear z)|(go_at_call 66;refine(A.l _ _ (SV.of r)).y ?_;rintro e H ⟨t,m,rfl,a⟩;obtain⟨g,b,rfl⟩:=a.qy;have f:=Tk q t;clear A)|(go_at_call 67;refine(j.l _ _ _ _ _ _ (Th.new _ _ _) (by exact a.u φ)).y ?_;rintro e I ⟨rfl,c⟩;have y:=(Th.new H #[.k g cs.j b,ν,ν] 45).u c;have x:=(a.u ((zn _ _).C (zg _) (.E #[.k g cs.j b,ν,ν] 45))).u c;have p:=Tk (f.C f.q _) c;clear j))
 go_ret2
 exact⟨p,rfl⟩
def Qo(w:U)(pb:Nat)(a d o:O)(cs:Ξ)(ps:κ)(y:Th w pb #[a,d,o] 45)(n:TO lo 93 w a cs){i:Nat}(j:Tn i w d ps)(m:∀c∈cs,qo c/\c.d.j<=999)(u:cs.j<=1000)(g:ps.j<=1000)(k:∀c∈cs,∀l∈zm c,l.o∈ps)(t:X (∃f,Ul cs f)):
  Calls prog 70 #[(π pb)] w λe p=>∃b,e=ε (.bool true)/\Tu pb w p/\UM w pb a d cs ps b p/\TT cs (vR ps b):=
 (C4 w pb a d o cs ps y n j m u g k).y λ_ _ ⟨v,q⟩=>q.elim (λh=>zB t.l h.2) fun⟨b,x,s,r⟩=>⟨b,x,v,s,r⟩
def L4(w:U)(pb:Nat)(m d n:O)(cs:Ξ)(ps:κ)(p:Th w pb #[m,d,n] 45)(k:TO lo 93 w m cs){j:Nat}(a:Tn j w d ps)(b:∀c∈cs,qo c/\c.d.j<=999)(o:cs.j<=1000)(g:ps.j<=1000)(i:∀c∈cs,∀l∈zm c,l.o∈ps)(t:X (¬∃f,Ul cs f)):
  Calls prog 70 #[(π pb)] w λe q=>e=ε (.bool false)/\Tu pb w q:=
 (C4 w pb m d n cs ps p k a b o g i).y λ_ _ ⟨s,r⟩=>r.elim (λh=>⟨h.1,s⟩) fun⟨_,_,_,u⟩=>zB ⟨_,u.1⟩ t.l
def QY(cs:Ξ)(k:Nat)(a:k<cs.j):(cs.G (k+1)).flatMap zm=(cs.G k).flatMap zm++zm cs[k]:=by rw[yM a,List.flatMap_append];simp
def LC(s:ByteArray)(w:U)(hs:s.q<=500)(l:κ)(cs:Ξ)(h:x9 s.q s=Z l)(hp:vI l=Z cs)(hx:kf cs=0):
  Calls prog 33 #[.d s] w λe w'=>∃r,hZ s r/\s5 r w e w':=by
 obtain⟨_,_,_,h3,h4⟩:=et hs h;have ae:=BC hs h hp;have Q:=ae.len;have L:=Tg ae;have HW:X (∀W,Calls prog 65 #[.d s] W λe w'=>μ W w'/\∃v,e=ε (.tuple #[v,.bool true])/\w'.r W.o.q 9 1 v l.j (l.map O.string)):=λW=>by have:=iD s W hs;rw[h] at this;exact this
 have HC:X (∀W v,SV W v l->Calls prog 66 #[v] W λe w'=>μ W w'/\∃v,e=ε (.tuple #[v,.bool true])/\TO W.o.q 93 w' v cs):=λW v hv=>by have:=A0 W v l hv h4 h3;rw[hp] at this;exact this
 have aI:X (∀lo W pb cv v1 v2,Th W pb #[cv,v1,v2] 45->TO lo 93 W cv cs->Calls prog 67 #[(π pb)] W λe w'=>e=ε (ι 0)/\μ W w'):=λ_ W pb cv v1 v2 h1 h2=>by rw[←hx];exact Cp W pb cv v1 v2 cs h1 h2 ae.ok Q
 have aU:X ((¬∃f,Ul cs f)->hZ s (.error 7)):=λhn=>.strata η h hp hx hn;have aB:X (∀u sv,y9 u->(∀n,n∈u↔∃x∈cs.flatMap zm,x.o=n)->sv.j=u.j->TT cs (vR u sv)->hZ s (.ok (cs,u,sv))):=λu sv h1 h2 h3 h4=>.ok η h hp hx h1 h2 h3 h4;obtain⟨i0,hi,aQ,ba,aL⟩:=info_parts SL;clear h hp h4 ae hx;go_enter func33,ntmps33;go_wp2_with (first|(go_at_call 65;refine(HW.l _).y ?_;rintro e w1 ⟨ay,v1,rfl,aY⟩;clear HW)|(go_at_call 66;refine(HC.l _ _ (SV.of aY)).y ?_;rintro e w2 ⟨aV,v2,rfl,T⟩;obtain⟨a9,ai,rfl⟩:=T.qy;have I:=Tk ay aV;clear HC)|(go_at_call 67;refine(aI.l _ _ _ _ _ _ (Th.new _ _ _) (by exact T.u φ)).y ?_;rintro e w3 ⟨rfl,av⟩;have a5:=(Th.new w2 #[.k a9 cs.j ai,ν,ν] 45).u av;have R:=(T.u ((zn _ _).C (zg _) (.E #[.k a9 cs.j ai,ν,ν] 45))).u av;have ar:=Tk (I.C I.q _) av;clear aI))
 go_loopw [9,10] (λv8 v9 wr=>∃k:Nat,k<=cs.j/\v9=ι k/\μ w3 wr/\wr.r w3.o.q 9 1 v8 ((cs.G k).flatMap zm).j (((cs.G k).flatMap zm).map λx=>O.string x.o)) (λ_ i _=>cs.j-(intOf i).toNat);exact⟨0,zs _,rfl,zn _ _,xp _ _ _ _⟩;obtain⟨k,hk,rfl,J,B⟩:=hrel;by_cases aq:k<cs.j
 .obtain⟨g,b0,bh,bv,bi,rfl,an⟩:=R.at k aq;have aN:=an.u J;obtain⟨br,bq,_,_⟩:=L.l.ok _ (zq aq);have ap:=QY cs k aq;have aD:=Tg ap;have bs:((cs.G k).flatMap zm).j+(zm cs[k]).j<=1000:=by
   have h1:((cs.G (k+1)).flatMap zm).j<=(cs.flatMap zm).j:=by
    conv=>rhs;rw[←kj (k+1) cs,List.flatMap_append,yN]
    omega
   have h2:=L.l.N;rw[ap,yN] at h1;omega
  clear ap an;generalize cs[k]=c at *;obtain⟨bx,bk,rfl⟩:=zr B;have bp:(zm c).j<=1000:=η;generalize (cs.G k).flatMap zm=E at *;generalize aH:zm c=y at *;have be:=Tg aH;clear aH;obtain⟨w4,rfl⟩:∃w4,w4=wr:=⟨wr,rfl⟩;go_wp2_with (go_at_call 68;refine(iv _ g (k*4) c _ _ _ _ aN η).y ?_;rintro e w5 ⟨lv,rfl,S,ax⟩;rw[be.l] at S;obtain⟨aM,a8,rfl⟩:=S.qy)
  obtain⟨xs,aP,bd⟩:=S;have aT:=Tk J ax;have aw:=zy B ax;go_loopw [9,12] (λv8 aR wj=>∃j:Nat,j<=y.j/\aR=ι j/\μ w3 wj/\wj.r 0 90 3 (.k aM y.j a8) y.j xs/\wj.r w3.o.q 9 1 v8 (E++y.G j).j ((E++y.G j).map λx=>O.string x.o)) (λ_ i _=>y.j-(intOf i).toNat);exact⟨0,zs _,rfl,aT,aP,by simpa using aw⟩;obtain⟨j,hj,rfl,ao,ak,t⟩:=hrel;have aG:=ao.q;obtain⟨bo,bg,rfl⟩:=zr t;by_cases az:j<y.j
  .obtain⟨va,a1,a2,a3,a4⟩:=bd.at j y[j] (by simp[az]);obtain⟨gl,aX,a0,_,bt,a6⟩:=yr ak η;simp at a0;obtain⟨rfl,rfl⟩:=a0;have bm:=a6 _ _ a2;have a7:=yM az;have aA:(y.G j).j=j:=by rw[vc];omega
   have bu:(E++y.G j).j<=1000:=by rw[yN,aA];omega
   clear a1 a2 a3 a4 a6;generalize y[j]=a at *;have HT:=Tg a7;clear a7 aA;have HQ:X (E++y.G (j+1)=(E++y.G j)++[a]):=by rw[X,HT.l,kO]
   clear HT;generalize (E++y.G j)=q at *;go_wp2_with (at_builtin;refine gu _ _ [.d a.o] _ rfl (.tmp 54) (.tmp 60) 30 rfl w3.o.q 9 i0 _ 1 16 underlying30 hi aQ ba aL rfl θ _ _ _ rfl t (zn _ _) _ _ rfl ζ rfl a_ η η aG ?_;intro v' w7 bb D aS aW aZ bn;clear aS aW)
   go_roundw;exact⟨j+1,η,ξ,ao.A D,gW t θ ak aZ,by rw[HQ.l];simpa using bb⟩;simp[intOf];omega
  have he:y.G j=y:=yV η;have aE:X ((cs.G (k+1)).flatMap zm=E++y.G j):=by rw[X,aD.l,he]
  clear he aD;generalize E++y.G j=q at *;go_wp2;go_roundw;exact⟨k+1,η,ξ,ao,by rw[aE.l];exact t⟩;simp[intOf];omega
 have he:cs.G k=cs:=yV η;rw[he] at B;have aa:=L.l.N;clear he;generalize aj:cs.flatMap zm=ah at *;have al:=Tg aj;clear aj;obtain⟨aO,aJ,rfl⟩:=zr B;have aF:Tn w3.o.q wr (.k aO ah.j aJ) (ah.map zj.o):=by simpa [Tn,Function.comp_def] using B
 have N:=a5.u J;obtain⟨bw,bz,bf⟩:=N.e;have ac:=R.u J;have am:X (∀c∈cs,qo c/\c.d.j<=999):=λc hc=>⟨(L.l.ok c hc).1,(L.l.ok c hc).2.1⟩;by_cases hS:∃f,Ul cs f
 .have HS:=Tg hS;clear hS;go_wp2_with (first|(go_at_call 69;refine(F9 _ _ (ah.map zj.o) aF (by simpa using aa)).y ?_;rintro e w6 ⟨v6,u,rfl,V,M,b,o,G⟩;obtain⟨F,m,rfl⟩:=V.qy;have d:=N.u G;obtain⟨aK,bc,aC⟩:=d.e;have H:=ac.u G;have au:=Tk ar (Tk J G);have P:u.j<=1000:=(by simp at o;omega);have A:=(by simpa using d.set 1 (.k F u.j m));have z:=(Tu.refl w2.o.q w6).x 1 (.k F u.j m);have p:=H.but z d θ θ θ;have af:=V.but z d θ;have D:μ w (w6.x (ω w2.o.q 1) (.k F u.j m)):=au.x I.q _;have ad:=Tg (λc hc l hl=>(b _).2 (zF.2 ⟨l,(by rw[←al.l];exact ve.2 ⟨c,hc,hl⟩),rfl⟩));have ab:=Tg (λn=>(b n).A zF);clear b o)|(go_at_call 70;refine(Qo _ w2.o.q _ _ _ cs u (by exact A) (by exact p) (by exact af) am.l Q P ad.l HS).y ?_;rintro e w8 ⟨sv,rfl,C,K,ag⟩))
  go_ret2
  exact⟨_,aB.l u sv M ab.l K.len ag,D.A (C.u I.q D.q),w2.o.q,_,_,_,rfl,K.box,(p.but C A θ θ θ).low ay.q,(af.but C A θ).low (zY ar.q J.q),by rw[K.len];exact yo K.row D.q,I.q⟩
 have HS:=Tg hS;clear hS;go_wp2_with (first|(go_at_call 69;refine(F9 _ _ (ah.map zj.o) aF (by simpa using aa)).y ?_;rintro e w6 ⟨v6,u,rfl,V,M,b,o,G⟩;obtain⟨F,m,rfl⟩:=V.qy;have d:=N.u G;obtain⟨aK,bc,aC⟩:=d.e;have H:=ac.u G;have au:=Tk ar (Tk J G);have P:u.j<=1000:=(by simp at o;omega);have A:=(by simpa using d.set 1 (.k F u.j m));have z:=(Tu.refl w2.o.q w6).x 1 (.k F u.j m);have p:=H.but z d θ θ θ;have af:=V.but z d θ;have D:μ w (w6.x (ω w2.o.q 1) (.k F u.j m)):=au.x I.q _;have ad:=Tg (λc hc l hl=>(b _).2 (zF.2 ⟨l,(by rw[←al.l];exact ve.2 ⟨c,hc,hl⟩),rfl⟩));have ab:=Tg (λn=>(b n).A zF);clear b o)|(go_at_call 70;refine(L4 _ w2.o.q _ _ _ cs u (by exact A) (by exact p) (by exact af) am.l Q P ad.l HS).y ?_;rintro e w8 ⟨rfl,C⟩))
 go_ret2
 exact⟨_,aU.l HS.l,D.A (C.u I.q D.q),rfl⟩
def Iq(s:ByteArray)(w:U)(g:s.q<=9223372036854775807):
  Calls prog 33 #[.d s] w λe c=>∃r,hZ s r/\s5 r w e c:=by
 by_cases b:500<s.q;exact(K8 s w b g).y λe c h=>⟨_,.long b,h⟩;rcases a:x9 s.q s with _|l;exact(LA s w η a).y λe c h=>⟨_,.lex b a,h⟩;rcases d:vI l with _|f;exact(PF s w η l a d).y λe c h=>⟨_,.parse b a d,h⟩;by_cases i:kf f=0;exact LC s w η l f a d i;exact(Qn s w η l f a d i).y λe c h=>⟨_,.wrong b a d i,h⟩
end
section
variable {s:ByteArray}
def SJ:(prog.info? 40).map (λi=>(i.zero,i.q,i.bytes))=Z (Z (.agg #[.pointer Y,.pointer Y]),2,16):=χ
def JW{k:Int}(h:uF s=.error k):(k != 0)=true:=by
 unfold uF at h;repeat'(split at h)
 all_goals first|(cases h;rfl)|cases h
def RV{k:Int}(h:uF s=.error k)(w:U)(a:s.q<=9223372036854775807):Calls prog 33 #[.d s] w λe c=>e=ε (.tuple #[.pointer Y,ι k])/\μ w c:=
 (Iq s w a).y λ_ _ ⟨r,f,d,g⟩=>by
  have b:=FV f;rw[h] at b;simp only[i3] at b;subst b;exact⟨g,d⟩
def jG(lo:Nat)(w:U)(pb:Nat)(cs:List zc)(t:List zf):Prop:=lo<=pb/\∃b a c,Th w pb #[b,a,c] 45/\TO lo 93 w b cs/\Tn lo w a (Ti t)/\w.r lo 3 1 c t.j ((t.map zf.L).map TN)
def Sf{cs:Ξ}{t:Ψ}(h:uF s=.ok (cs,t))(w:U)(b:s.q<=9223372036854775807):Calls prog 33 #[.d s] w λe d=>∃a,e=ε (.tuple #[(π a),ι 0])/\jG w.o.q d a cs t/\μ w d:=
 (Iq s w b).y λ_ _ ⟨r,n,m,o⟩=>by
  have c:=FV n;rw[h] at c;simp only[i3] at c;subst c;obtain⟨a,q,k,u,i,p,j,f,l,g⟩:=o;exact⟨a,i,⟨g,q,k,u,p,j,f,by simpa using l⟩,m⟩
def IF{k:Int}(h:uF s=.error k)(w:U)(a:s.q<=9223372036854775807):Calls prog 32 #[.d s] w λe d=>e=ε (.tuple #[.pointer Y,ι k])/\μ w d:=
 (CQ s w a).y λ_ _ ⟨c,b⟩=>by rw[h] at b;exact⟨b,c⟩
def PW{cs:Ξ}{t:Ψ}(h:uF s=.ok (cs,t))(w:U)(b:s.q<=9223372036854775807):Calls prog 32 #[.d s] w λe c=>∃a,e=ε (.tuple #[(π a),ι 0])/\jq w.o.q c a cs t/\μ w c:=
 (CQ s w b).y λ_ _ ⟨l,d⟩=>by
  rw[h] at d;obtain⟨a,v,j,g,m,i,k,f⟩:=d;exact⟨a,g,⟨f,v,j,m,i,k⟩,l⟩
def CW.u{B:Nat}{w w':U}{e f d:Nat}(h:CW B w e f d)(b:μ w w'):CW B w' e f d:=by
 obtain⟨g,c,a,l,i,k,j,m⟩:=h;exact⟨g,c,a,l,i,k.u b,zy j b,zy m b⟩
end
end Go.Proofs.YteampbddflhngaaGreat
