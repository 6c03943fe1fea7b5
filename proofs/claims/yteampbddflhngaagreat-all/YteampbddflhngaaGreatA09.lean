import Derived.Test.YteampbddflhngaaGreatA02
import Derived.Test.YteampbddflhngaaGreatA06
namespace Go.Proofs.YteampbddflhngaaGreat
open List renaming length→List.j,take→List.G,flatMap_append→g_
open _root_.Array renaming size→Array.q
open _root_.ByteArray renaming size→ByteArray.q
open Go.RowKit.Below renaming size→Go.RowKit.Below.q,setCell→Go.RowKit.Below.x,mono→Go.RowKit.Below.y,trans→Go.RowKit.Below.A,alloc→Go.RowKit.Below.C
open Go.TypeInfo renaming size→Go.TypeInfo.q
open Go.RowKit.Hid renaming out→Go.RowKit.Hid.l
open Go.World renaming heap→Go.World.o,setCell→Go.World.x,alloc→Go.World.C,ownsRow→Go.World.r
open Go.Value renaming slice→Go.Value.k,string→Go.Value.g,cells→Go.Value.E
open Go.TypeDesc renaming slice→Go.TypeDesc.k,string→Go.TypeDesc.g
open Go.Calls renaming mono→Go.Calls.y
open Eq renaming trans→Eq.A
open Iff renaming trans→Iff.A
open Go.Obj renaming cells→Go.Obj.E
open Option renaming some→Z,none→Y
open Go.RowKit renaming Hid→X,intOf→d_
open Go renaming World→U,Value→O,Calls→c_,TypeId→f_
open Go.Proofs.Tryz renaming prog→e_
set_option linter.all false
set_option maxRecDepth 100000
set_option maxHeartbeats 4000000
open Go.RowKit
section
open Go.Proofs.Tryz
variable {lo:Nat}
def Vh.but{a:f_}{r:Nat}{w w':U}{v:O}{l:Ξ}(h:Vh lo a w v l)(b:UF r w w'){c:Array O}{T:f_}{f:Nat×Nat}(d:w.o[r]?=Z (.E c T f))(i:T≠9)(g:T≠90)(e:T≠a):Vh lo a w' v l:=by
 obtain⟨j,h,m⟩:=h;exact⟨j,xJ h b d e,m.y (λ_ _ k=>k.but b d i) (λ_ _ k=>k.but b d i g)⟩
structure Wq (w:U) (pb:Nat) (cv pv:O) (cs:List zd) (ps:κ) (sv:List Nat) (wr:U):Prop where
 but:UF pb w wr
 box:U3 wr pb #[cv,pv,.k (Z ⟨w.o.q,0,Y⟩) ps.j ps.j] 45
 row:wr.r w.o.q 3 1 (.k (Z ⟨w.o.q,0,Y⟩) ps.j ps.j) ps.j (sv.map Vg)
 len:sv.j=ps.j
 low:WI cs ps sv
 top:∀s∈sv,s<ps.j
def Wq.cell{w:U}{pb:Nat}{d c:O}{cs:Ξ}{ps:List Λ}{sv:Φ}{wr:U}(h:Wq w pb d c cs ps sv wr)(k:Nat)(b:k<sv.j):w.o.q<wr.o.q/\wr.cell? (ω w.o.q k)=Z (ι (sv[k]:Int)):=by
 obtain⟨g,e,a,_,i,f⟩:=yt h.row (by have:=h.len;omega);simp at a;obtain⟨rfl,_⟩:=a;exact⟨i,f k _ (by simp[b,Vg])⟩
def Wq.set{w:U}{pb:Nat}{d c:O}{cs:Ξ}{ps:List Λ}{sv:Φ}{wr:U}(h:Wq w pb d c cs ps sv wr)(e:pb<w.o.q)(k:Nat)(f:k<sv.j)(s:Nat)(hs:s<ps.j)(a:WI cs ps (sv.set k s)):
  Wq w pb d c cs ps (sv.set k s) (wr.x (ω w.o.q k) (ι (s:Int))):=by
 refine⟨h.but.setNew (ze _) _,h.box.set_ne η _ _,?_,by simpa using h.len,a,?_⟩;have:=um h.row k (by simpa using f) (Vg s);rw[dY];exact this;intro x b;rcases mA b with b|b;exact h.top x b;omega
def PL(w:U)(pb:Nat)(c b:O)(cs:List zd)(ps:κ)(e:Ending)(w':U):Prop:=UF pb w w'/\((e=ε (.bool false)/\¬∃f,Vx cs f)∨∃a,e=ε (.bool true)/\Wq w pb c b cs ps a w'/\Vl cs (qe ps a))
def JT{sv:Φ}{k s:Nat}(a:k<sv.j)(hs:sv[k]<s):sv.sum<(sv.set k s).sum:=by have:=FK sv k s a;omega
def Ty{ps:List Λ}{sv:Φ}(a:sv.j=ps.j)(h:∀s∈sv,s<ps.j):sv.sum<=ps.j*ps.j:=by rw[←a] at h ⊢;exact FN sv sv.j λs b=>by have:=h s b;omega
def Vh.ne{d T:f_}{w:U}{g n cap pb:Nat}{cs:Ξ}{c:Array O}(h:Vh lo d w (.k (Z (δ g)) n cap) cs)(b:U3 w pb c T)(j:T≠d):g≠pb:=by
 obtain⟨k,⟨_,⟨a,_⟩|⟨l,e,i,a,_,f,_⟩⟩,_⟩:=h;cases a;simp at a;obtain⟨rfl,_⟩:=a;rintro rfl;unfold U3 at b;rw[f] at b;simp at b;exact j b.2.symm
def lx.but{w w':U}{g o:Nat}{c:zd}{j:Option Addr}{cap:Nat}{b:Option Addr}{a r:Nat}(h:lx w g o c j cap b a)(d:UF r w w')(f:g≠r){m:Array O}{T:f_}(k:U3 w r m T)(l:T≠9)(i:T≠90):lx w' g o c j cap b a:=
 have e:∀o,w'.cell? (ω g o)=w.cell? (ω g o):=λ_=>U.cell?_of_block (w:=w) (d.block g h.lt f)
 ⟨yh h.lt d.q,(e _).A h.c0,(e _).A h.c1,(e _).A h.c2,(e _).A h.c3,h.k.but d k l,h.d.but d k l i⟩
def I3(w:U)(pb:Nat)(cv pv v2:O)(cs:Ξ)(ps:List Λ)(hp:U3 w pb #[cv,pv,v2] 45)(ap:Vh lo 93 w cv cs){aF:Nat}(ak:U7 aF w pv ps)(av:∀c∈cs,vV c/\c.d.j<=999)(hl:cs.j<=1000)(x:ps.j<=1000)(a2:∀c∈cs,∀l∈zj c,l.o∈ps):
  c_ e_ 70 #[(π pb)] w λe w'=>PL w pb cv pv cs ps e w':=by
 obtain⟨ao,J,rfl⟩:=ap.qm;obtain⟨Q,q,rfl⟩:=ak.qm;obtain⟨a5,au,aq⟩:=hp.I;have a9:=U2 av;have ar:=U2 a2;have HP:=U2 hp;have aI:=run_make_row' (P:=e_) 24 3 (ι 0) 8 underlying24 TF rfl .i64 .i64 ps.j η η;clear av a2;go_enter func70,ntmps70;go_wp2;clear aI;go_loopg [4] (2*(ps.j*ps.j)+1) (λN v3 wr=>∃(M:Φ) (more:Bool),v3=.bool more/\Wq w pb (.k ao cs.j J) (.k Q ps.j q) cs ps M wr/\X (more=false->VF cs ps M cs.j)/\2*(ps.j*ps.j-M.sum)+more.toNat<=N)
 case atStart=>
  have aD:(w.x (ω pb 2) (.k (Z (δ w.o.q)) ps.j ps.j)).o.q=w.o.q:=by simp[U.setCell]
  have a6:=Et (w.x (ω pb 2) (.k (Z (δ w.o.q)) ps.j ps.j)) ps.j 3 b_;rw[aD] at a6;refine⟨List.replicate ps.j 0,true,rfl,⟨ψ,?_,a6,ζ,Pp _ _ _,?_⟩,(by intro h;cases h),ζ⟩;exact(hp.set 2 _).u zQ;intro s hs;rw[List.mem_replicate] at hs;omega
 clear a5 au;obtain⟨M,more,rfl,t,HC,hN⟩:=hrel;cases more
 .have K:=U2 (HC.l rfl);clear HC;go_wp2;go_ret;exact⟨t.but,zg ⟨M,rfl,t,Ms t.low K.l⟩⟩
 go_wp2;go_loopw [4,5] (λv3 v4 wi=>∃(k:Nat) (si:Φ) (mi:Bool),k<=cs.j/\v4=ι k/\v3=.bool mi/\Wq w pb (.k ao cs.j J) (.k Q ps.j q) cs ps si wi/\M.sum<=si.sum/\(mi=true->M.sum<si.sum)/\X (mi=false->VF cs ps si k)) (λ_ i _=>cs.j-(d_ i).toNat)
 case atStart=>exact⟨0,M,false,zs _,rfl,rfl,t,ze _,ζ,λ_=>Nt _ _ _⟩
 obtain⟨k,si,mi,hk,rfl,rfl,r,aA,ag,ax⟩:=hrel;have I:=r.box;obtain⟨a8,a4,a7⟩:=I.I;by_cases G:k<cs.j
 .obtain⟨g,bg,aQ,bc,aR,rfl,L⟩:=ap.at k G;have aa:=ap.ne hp θ;have u:=L.but r.but aa hp θ θ;have af:=ak.but r.but HP.l θ;obtain⟨aZ,aY⟩:=a9.l _ (zr G);have F:=ar.l _ (zr G);have ae:=zr G;have an:=U2 λs' (h1:VF cs ps s' k) (h2:nK cs[k] ps s' cs[k].d.j)=>QD h1 G h2;generalize cs[k]=c at *;have ay:=U2 F;have ac:=U2 ae;have aB:=U2 L;obtain⟨H,V⟩:=iw (F c.g (by simp[zj]));have aO:=(lM V).1;have a0:=U2 V;have aC:X (l6 ps c.g.o=(H:Int)):=by unfold X l6;rw[V]
  have aG:=u.c1;have aw:=u.c3;have ad:=u.lt;clear V F ae L;go_wp2_with (go_at_call 111;refine(nM _ pb _ _ _ ps c.g.o I af x).y ?_;rw[aC.l];rintro e w' ⟨rfl,d⟩;obtain rfl:=d.symm)
  go_loopw [4,8] (λv3 v7 wj=>∃(j:Nat) (b:Φ) (W:Bool),j<=c.d.j/\v7=ι j/\v3=.bool W/\Wq w pb (.k (Z (δ g)) cs.j J) (.k Q ps.j q) cs ps b wj/\M.sum<=b.sum/\(W=true->M.sum<b.sum)/\X (W=false->VF cs ps b k/\nK c ps b j)) (λ_ i _=>c.d.j-(d_ i).toNat)
  case atStart=>exact⟨0,si,mi,zs _,rfl,rfl,r,aA,ag,λh=>⟨ax.l h,MR _ _ _⟩⟩
  clear a8 a4 aG aw u af I a7 ad;obtain⟨j,b,W,hj,rfl,rfl,a,B,C,z⟩:=hrel;have n:=a.box;obtain⟨a8,a4,aM⟩:=n.I;have D:=aB.l.but a.but aa HP.l θ θ;have p:=ak.but a.but HP.l θ;have aw:=D.c3;have ad:=D.lt;by_cases aj:j<c.d.j
  .obtain⟨gl,aV,aL,aJ,be,a3,aX,_,_⟩:=D.d.cell j aj;subst aJ;have al:=zr aj;obtain⟨kb,T⟩:=iw (ay.l c.d[j] (by simp[zj]));have aN:=(lM T).1;have aP:=a.len;have E:kb<b.j:=η;have f:H<b.j:=η;have S:=iE T E;have az:=iE a0.l f;have o:X (l6 ps c.d[j].o=(kb:Int)):=by unfold X l6;rw[T]
   have v:X (WI cs ps (b.set H (b[kb]+up c.d[j]))):=by have:=NC a.low ac.l al a0.l f;rw[S] at this;exact this
   have am:=U2 λh=>Ra a.low ar.l ac.l al (by rw[S];exact h);have a1:=U2 λh1 h2=>Na h2 aj (by rw[S,az];exact h1);have ab:=U2 λs h1 h2=>a.set aq H f s h1 h2;have A:=U2 λs (h:b[H]<s)=>JT f h;obtain⟨bf,ba⟩:=a.cell kb E;obtain⟨_,bb⟩:=a.cell H f;have aT:=uv a.row;have aS:=a.top _ (zr E);have bd:=a.top _ (zr f);clear S az T al;generalize b[kb]=R at *;generalize b[H]=sh at *;generalize c.d[j]=l at *;cases m:l.i
   .have y:up l=0:=by simp[up,m]
    rw[m] at a3;clear m;by_cases ai:sh<R
    .by_cases aE:ps.j<=R;omega;have ah:X (Wq w pb (.k (Z (δ g)) cs.j J) (.k Q ps.j q) cs ps (b.set H (R)) (wr.x (ω w.o.q H) (ι ((R:Nat):Int)))):=ab.l _ η (by have:=v.l;rw[y] at this;exact this);have aK:=A.l (R) ai;go_wp2_with (go_at_call 111;refine(nM _ pb _ _ _ ps l.o n p x).y ?_;rw[o.l];rintro e w' ⟨rfl,d⟩;obtain rfl:=d.symm)
     go_roundw;exact⟨j+1,_,true,η,ξ,rfl,ah.l,η,(λ_=>η),(λh=>by cases h)⟩;simp[d_];omega
    have K:X (W=false->VF cs ps b k/\nK c ps b (j+1)):=λh=>⟨(z.l h).1,a1.l (by rw[y];omega) (z.l h).2⟩;go_wp2_with (go_at_call 111;refine(nM _ pb _ _ _ ps l.o n p x).y ?_;rw[o.l];rintro e w' ⟨rfl,d⟩;obtain rfl:=d.symm)
    go_roundw;exact⟨j+1,b,W,η,ξ,rfl,a,B,C,K⟩;simp[d_];omega
   have y:up l=1:=by simp[up,m]
   rw[m] at a3;clear m;by_cases ai:sh<R+1
   .by_cases aE:ps.j<=R+1
    .have HF:=U2 (am.l (by rw[y];omega));go_wp2_with (go_at_call 111;refine(nM _ pb _ _ _ ps l.o n p x).y ?_;rw[o.l];rintro e w' ⟨rfl,d⟩;obtain rfl:=d.symm)
     go_ret;exact⟨a.but.setNew (ze _) _,zh ⟨rfl,HF.l⟩⟩
    have ah:X (Wq w pb (.k (Z (δ g)) cs.j J) (.k Q ps.j q) cs ps (b.set H (R+1)) (wr.x (ω w.o.q H) (ι ((R+1:Nat):Int)))):=ab.l _ η (by have:=v.l;rw[y] at this;exact this);have aK:=A.l (R+1) ai;go_wp2_with (go_at_call 111;refine(nM _ pb _ _ _ ps l.o n p x).y ?_;rw[o.l];rintro e w' ⟨rfl,d⟩;obtain rfl:=d.symm)
    go_roundw;exact⟨j+1,_,true,η,ξ,rfl,ah.l,η,(λ_=>η),(λh=>by cases h)⟩;simp[d_];omega
   have K:X (W=false->VF cs ps b k/\nK c ps b (j+1)):=λh=>⟨(z.l h).1,a1.l (by rw[y];omega) (z.l h).2⟩;go_wp2_with (go_at_call 111;refine(nM _ pb _ _ _ ps l.o n p x).y ?_;rw[o.l];rintro e w' ⟨rfl,d⟩;obtain rfl:=d.symm)
   go_roundw;exact⟨j+1,b,W,η,ξ,rfl,a,B,C,K⟩;simp[d_];omega
  have HE:=U2 λh=>an.l b (z.l h).1 (by have h2:=(z.l h).2;rw[show c.d.j=j from by omega];exact h2);go_wp2;go_roundw;exact⟨k+1,b,W,η,ξ,rfl,a,B,C,HE⟩;simp[d_];omega
 have aH:k=cs.j:=η;have aW:=Ty r.len r.top;go_wp2;go_roundg (2*(ps.j*ps.j-si.sum)+mi.toNat)
 case measure=>
  have aU:2*(ps.j*ps.j-M.sum)+1<=gk:=hN;clear hN;generalize ps.j*ps.j=nn at *;cases mi;simp only[Bool.toNat_false];omega;have:=ag rfl;simp only[Bool.toNat_true];omega
 exact⟨si,mi,rfl,r,(by rw[←aH];exact ax.l),ze _⟩
end
section
open Go.Proofs.Tryz
variable {lo:Nat}{l:List UA}
def N6:∀{ts:List Λ} {l:Δ},l8 ts l->∀t∈ts,∃y∈l,y.2=t:=by
 intro ts l h;induction h with
 |one=>intro t a;simp at a;exact⟨_,sP,a.symm⟩
 |more _ _ _ c=>
  intro t a;rcases z7.1 a with rfl|a;exact⟨_,sP,rfl⟩;obtain⟨y,b,e⟩:=c t a;exact⟨y,by simp[b],e⟩
def oy{a:zk}(h:ju a l):∀t∈a.k,∃y∈l,y.2=t:=by
 cases h with
 |bare=>intro t b;cases b
 |k _ _ d _=>intro t b;obtain⟨y,c,e⟩:=N6 d t b;exact⟨y,by simp[c],e⟩
def E4{a:zk}(h:dK a l):∀t∈a.k,∃y∈l,y.2=t:=by
 cases h with
 |qc h=>exact oy h
 |i _ h=>intro t b;obtain⟨y,c,e⟩:=oy h t b;exact⟨y,by simp[c],e⟩
def Sp:∀{b:Ω} {l:Δ},dP b l->∀a∈b,∀t∈a.k,∃y∈l,y.2=t:=by
 intro b l h;induction h with
 |one h=>intro a c;simp at c;subst c;exact E4 h
 |more h _ _ g=>
  intro a c t f;rcases z7.1 c with rfl|c;obtain⟨y,d,e⟩:=E4 h t f;exact⟨y,by simp[d],e⟩;obtain⟨y,d,e⟩:=g a c t f;exact⟨y,by simp[d],e⟩
def JL{c:zd}(h:lF c l):∀a∈zj c,∀t∈a.k,∃y∈l,y.2=t:=by
 cases h with
 |fact h=>intro a b;simp[zj] at b;subst b;exact oy h
 |p h _ g=>
  intro a b t f;simp only[zj] at b;rcases z7.1 b with rfl|b;obtain⟨y,d,e⟩:=oy h t f;exact⟨y,by simp[d],e⟩;obtain⟨y,d,e⟩:=Sp g a b t f;exact⟨y,by simp[d],e⟩
def Fh:∀{cs:Ξ} {l:Δ},ly cs l->∀c∈cs,∀a∈zj c,∀t∈a.k,∃y∈l,y.2=t:=by
 intro cs l h;induction h with
 |nil=>intro c b;cases b
 |cons h _ _ i=>
  intro c b a g t f;rcases z7.1 b with rfl|b;obtain⟨y,d,e⟩:=JL h a g t f;exact⟨y,by simp[d],e⟩;obtain⟨y,d,e⟩:=i c b a g t f;exact⟨y,by simp[d],e⟩
structure QK (cs:List zd):Prop where
 ok:∀c∈cs,vV c/\c.d.j<=999/\xn (zj c)<=1000/\∀l∈zj c,∀t∈l.k,0<t.q
 len:cs.j<=1000
 z:(cs.flatMap zj).j<=1000
def ox{s:Λ}{l:List Λ}(hs:s.q<=500)(h:xC s.q s=Z l):∃b,UG s=Z b/\l=zZ b/\l.j<=500/\∀y∈l,0<y.q:=by
 rw[sU] at h;rcases a:UG s with _|b;rw[a] at h;cases h;rw[a] at h;simp only[jY,zt] at h;subst h;refine⟨b,rfl,rfl,?_,?_⟩;have:=iq a;simp;omega;intro y c;obtain⟨x,d,rfl⟩:=z9.1 c;exact(sG a x d).2
def A8{s:Λ}{l:List Λ}{cs:Ξ}(hs:s.q<=500)(h:xC s.q s=Z l)(j:vS l=Z cs):QK cs:=by
 obtain⟨e,b,rfl,p,w⟩:=ox hs h;have d:uu e:=λx k=>(sG b x k).1;have o:=(BX d cs).1 j;have g:yW e.j e.j e=Z cs:=by
  have:=By s;rw[h,b] at this;simp only[Option.bind_some] at this;rw[←this];exact j
 have v:=oe g;have q:e.j<=500:=by simpa [zZ] using p
 have i:=A3 (cs:=cs) η;refine⟨λc f=>⟨i c f,?_,?_,?_⟩,by have:=AO cs;omega,by have:=oI cs;omega⟩;have b:=Bp f;have r:=tU c.d;unfold Wy gI at b;omega;have b:=Bp f;have r:=tU c.d;unfold Wy gI at b;simp only[zj,xn] at *;simp;omega;intro a u t m;obtain⟨y,n,rfl⟩:=Fh o c f a u t m;exact(sG b y n).2
def rY(r:Except Int (List zd×κ×List Nat))(w:U)(e:Ending)(w':U):Prop:=
 μ w w'/\match r with
  |.error n=>e=ε (.tuple #[.pointer Y,ι n])
  |.ok (g,h,b)=>∃a f d c,e=ε (.tuple #[(π a),ι 0])/\U3 w' a #[f,d,c] 45/\Vh w.o.q 93 w' f g/\U7 w.o.q w' d h/\w'.r w.o.q 3 1 c b.j (b.map Vg)/\w.o.q<=a
def L4(s:Λ)(w:U)(hs:500<s.q)(b:s.q<=9223372036854775807):
  c_ e_ 33 #[.g s] w λe a=>rY (.error 1) w e a:=by
 go_enter func33,ntmps33;go_wp2;go_ret2
 exact⟨zn _ _,rfl⟩
def Ld(s:Λ)(w:U)(hs:s.q<=500)(h:xC s.q s=Y):
  c_ e_ 33 #[.g s] w λe b=>rY (.error 2) w e b:=by
 have c:X (∀W,c_ e_ 65 #[.g s] W λe b=>μ W b/\e=ε (.tuple #[ν,.bool false])):=λW=>by have:=iA s W hs;rw[h] at this;exact this
 clear h;go_enter func33,ntmps33;go_wp2_with (go_at_call 65;refine(c.l _).y ?_;rintro e d ⟨a,rfl⟩;clear c)
 go_ret2
 exact⟨a,rfl⟩
def OV(s:Λ)(w:U)(hs:s.q<=500)(l:List Λ)(h:xC s.q s=Z l)(m:vS l=Y):
  c_ e_ 33 #[.g s] w λe o=>rY (.error 3) w e o:=by
 obtain⟨_,_,_,g,i⟩:=ox hs h;have f:=U2 λW=>by have:=iA s W hs;rw[h] at this;exact this
 have d:=U2 λW v j=>by have:=A0 W v l j i g;rw[m] at this;exact this
 go_enter func33,ntmps33;go_wp2_with (first|(go_at_call 65;refine(f.l _).y ?_;rintro e p ⟨a,t,rfl,b⟩;clear f)|(go_at_call 66;refine(d.l _ _ (SV.of b)).y ?_;rintro e r ⟨c,q,n,k,rfl⟩;clear d))
 go_ret2
 exact⟨U6 a c,rfl⟩
def Q5(s:Λ)(w:U)(hs:s.q<=500)(l:List Λ)(cs:Ξ)(h:xC s.q s=Z l)(z:vS l=Z cs)(K:ko cs≠0):
  c_ e_ 33 #[.g s] w λe u=>rY (.error (ko cs)) w e u:=by
 obtain⟨_,_,_,E,D⟩:=ox hs h;have g:=A8 hs h z;have f:=g.len;have y:=U2 λW=>by have:=iA s W hs;rw[h] at this;exact this
 have B:=U2 λW v G=>by have:=A0 W v l G D E;rw[z] at this;exact this
 have j:X (∀lo W m k o n,U3 W m #[k,o,n] 45->Vh lo 93 W k cs->c_ e_ 67 #[(π m)] W λe u=>e=ε (ι (ko cs))/\μ W u):=λ_ W m k o n C H=>Ip W m k o n cs C H g.ok f;go_enter func33,ntmps33;go_wp2_with (first|(go_at_call 65;refine(y.l _).y ?_;rintro e I ⟨t,o,rfl,x⟩;clear y)|(go_at_call 66;refine(B.l _ _ (SV.of x)).y ?_;rintro e F ⟨q,n,rfl,a⟩;obtain⟨d,b,rfl⟩:=a.qm;have i:=U6 t q;clear B)|(go_at_call 67;refine(j.l _ _ _ _ _ _ (U3.new _ _ _) (by exact a.u φ)).y ?_;rintro e J ⟨rfl,c⟩;have A:=(U3.new F #[.k d cs.j b,ν,ν] 45).u c;have r:=(a.u ((zn _ _).C (ze _) (.E #[.k d cs.j b,ν,ν] 45))).u c;have p:=U6 (i.C i.q _) c;clear j))
 go_ret2
 exact⟨p,rfl⟩
def Ok(w:U)(pb:Nat)(d b v2:O)(cs:Ξ)(ps:List Λ)(v:U3 w pb #[d,b,v2] 45)(i:Vh lo 93 w d cs){m:Nat}(g:U7 m w b ps)(n:∀c∈cs,vV c/\c.d.j<=999)(t:cs.j<=1000)(j:ps.j<=1000)(k:∀c∈cs,∀l∈zj c,l.o∈ps)(p:X (∃f,Vx cs f)):
  c_ e_ 70 #[(π pb)] w λe o=>∃a,e=ε (.bool true)/\UF pb w o/\Wq w pb d b cs ps a o/\Vl cs (qe ps a):=
 (I3 w pb d b v2 cs ps v i g n t j k).y λ_ _ ⟨q,x⟩=>x.elim (λh=>zC p.l h.2) fun⟨a,r,s,u⟩=>⟨a,r,q,s,u⟩
def Nk(w:U)(pb:Nat)(g d v2:O)(cs:Ξ)(ps:List Λ)(r:U3 w pb #[g,d,v2] 45)(b:Vh lo 93 w g cs){k:Nat}(a:U7 k w d ps)(m:∀c∈cs,vV c/\c.d.j<=999)(p:cs.j<=1000)(i:ps.j<=1000)(j:∀c∈cs,∀l∈zj c,l.o∈ps)(n:X (¬∃f,Vx cs f)):
  c_ e_ 70 #[(π pb)] w λe t=>e=ε (.bool false)/\UF pb w t:=
 (I3 w pb g d v2 cs ps r b a m p i j).y λ_ _ ⟨o,s⟩=>s.elim (λh=>⟨h.1,o⟩) fun⟨_,_,_,q⟩=>zC ⟨_,q.1⟩ n.l
def RI(cs:Ξ)(k:Nat)(a:k<cs.j):(cs.G (k+1)).flatMap zj=(cs.G k).flatMap zj++zj cs[k]:=by rw[yF a,g_];simp
def M6(s:Λ)(w:U)(hs:s.q<=500)(l:List Λ)(cs:Ξ)(h:xC s.q s=Z l)(hp:vS l=Z cs)(hx:ko cs=0):
  c_ e_ 33 #[.g s] w λe w'=>∃r,hO s r/\rY r w e w':=by
 obtain⟨_,_,_,h3,h4⟩:=ox hs h;have ah:=A8 hs h hp;have R:=ah.len;have Q:=U2 ah;have HW:X (∀W,c_ e_ 65 #[.g s] W λe w'=>μ W w'/\∃v,e=ε (.tuple #[v,.bool true])/\w'.r W.o.q 9 1 v l.j (l.map O.string)):=λW=>by have:=iA s W hs;rw[h] at this;exact this
 have HC:X (∀W v,SV W v l->c_ e_ 66 #[v] W λe w'=>μ W w'/\∃v,e=ε (.tuple #[v,.bool true])/\Vh W.o.q 93 w' v cs):=λW v hv=>by have:=A0 W v l hv h4 h3;rw[hp] at this;exact this
 have a8:X (∀lo W pb cv v1 v2,U3 W pb #[cv,v1,v2] 45->Vh lo 93 W cv cs->c_ e_ 67 #[(π pb)] W λe w'=>e=ε (ι 0)/\μ W w'):=λ_ W pb cv v1 v2 h1 h2=>by rw[←hx];exact Ip W pb cv v1 v2 cs h1 h2 ah.ok R
 have aP:X ((¬∃f,Vx cs f)->hO s (.error 7)):=λhn=>.strata η h hp hx hn;have aB:X (∀t sv,yw t->(∀n,n∈t↔∃x∈cs.flatMap zj,x.o=n)->sv.j=t.j->Vl cs (qe t sv)->hO s (.ok (cs,t,sv))):=λt sv h1 h2 h3 h4=>.ok η h hp hx h1 h2 h3 h4;obtain⟨i0,hi,aV,aR,bc⟩:=info_parts Uw;clear h hp h4 ah hx;go_enter func33,ntmps33;go_wp2_with (first|(go_at_call 65;refine(HW.l _).y ?_;rintro e w1 ⟨a5,v1,rfl,aT⟩;clear HW)|(go_at_call 66;refine(HC.l _ _ (SV.of aT)).y ?_;rintro e w2 ⟨aU,v2,rfl,T⟩;obtain⟨ax,al,rfl⟩:=T.qm;have F:=U6 a5 aU;clear HC)|(go_at_call 67;refine(a8.l _ _ _ _ _ _ (U3.new _ _ _) (by exact T.u φ)).y ?_;rintro e w3 ⟨rfl,ao⟩;have aC:=(U3.new w2 #[.k ax cs.j al,ν,ν] 45).u ao;have N:=(T.u ((zn _ _).C (ze _) (.E #[.k ax cs.j al,ν,ν] 45))).u ao;have ar:=U6 (F.C F.q _) ao;clear a8))
 go_loopw [9,10] (λv8 v9 wr=>∃k:Nat,k<=cs.j/\v9=ι k/\μ w3 wr/\wr.r w3.o.q 9 1 v8 ((cs.G k).flatMap zj).j (((cs.G k).flatMap zj).map λx=>O.string x.o)) (λ_ i _=>cs.j-(d_ i).toNat);exact⟨0,zs _,rfl,zn _ _,xj _ _ _ _⟩;obtain⟨k,hk,rfl,J,B⟩:=hrel;by_cases au:k<cs.j
 .obtain⟨g,b0,bg,bu,bi,rfl,an⟩:=N.at k au;have be:=an.u J;obtain⟨bt,bn,_,_⟩:=Q.l.ok _ (zr au);have aq:=RI cs k au;have aF:=U2 aq;have br:((cs.G k).flatMap zj).j+(zj cs[k]).j<=1000:=by
   have h1:((cs.G (k+1)).flatMap zj).j<=(cs.flatMap zj).j:=by
    conv=>rhs;rw[←jF (k+1) cs,g_,yB]
    omega
   have h2:=Q.l.z;rw[aq,yB] at h1;omega
  clear aq an;generalize cs[k]=c at *;obtain⟨bv,bk,rfl⟩:=zq B;have bo:(zj c).j<=1000:=η;generalize (cs.G k).flatMap zj=C at *;generalize aA:zj c=y at *;have aW:=U2 aA;clear aA;obtain⟨w4,rfl⟩:∃w4,w4=wr:=⟨wr,rfl⟩;go_wp2_with (go_at_call 68;refine(eS _ g (k*4) c _ _ _ _ be η).y ?_;rintro e w5 ⟨lv,rfl,V,a9⟩;rw[aW.l] at V;obtain⟨aS,a7,rfl⟩:=V.qm)
  obtain⟨xs,aY,bb⟩:=V;have aL:=U6 J a9;have ap:=zy B a9;go_loopw [9,12] (λv8 ba wj=>∃j:Nat,j<=y.j/\ba=ι j/\μ w3 wj/\wj.r 0 90 3 (.k aS y.j a7) y.j xs/\wj.r w3.o.q 9 1 v8 (C++y.G j).j ((C++y.G j).map λx=>O.string x.o)) (λ_ i _=>y.j-(d_ i).toNat);exact⟨0,zs _,rfl,aL,aY,by simpa using ap⟩;obtain⟨j,hj,rfl,av,am,p⟩:=hrel;have aG:=av.q;obtain⟨bp,bh,rfl⟩:=zq p;by_cases a6:j<y.j
  .obtain⟨va,a1,a2,a3,a4⟩:=bb.at j y[j] (by simp[a6]);obtain⟨gl,aZ,aD,_,bx,aI⟩:=yt am η;simp at aD;obtain⟨rfl,rfl⟩:=aD;have bq:=aI _ _ a2;have az:=yF a6;have a0:(y.G j).j=j:=by rw[vi];omega
   have bs:(C++y.G j).j<=1000:=by rw[yB,a0];omega
   clear a1 a2 a3 a4 aI;generalize y[j]=a at *;have HT:=U2 az;clear az a0;have HQ:X (C++y.G (j+1)=(C++y.G j)++[a]):=by rw[X,HT.l,jt]
   clear HT;generalize (C++y.G j)=q at *;go_wp2_with (at_builtin;refine kU _ _ [.g a.o] _ rfl (.tmp 54) (.tmp 60) 30 rfl w3.o.q 9 i0 _ 1 16 underlying30 hi aV aR bc rfl θ _ _ _ rfl p (zn _ _) _ _ rfl ζ rfl a_ η η aG ?_;intro v' w7 aX A aN aK bd bm;clear aN aK)
   go_roundw;exact⟨j+1,η,ξ,av.A A,fe p θ am bd,by rw[HQ.l];simpa using aX⟩;simp[d_];omega
  have he:y.G j=y:=yO η;have ay:X ((cs.G (k+1)).flatMap zj=C++y.G j):=by rw[X,aF.l,he]
  clear he aF;generalize C++y.G j=q at *;go_wp2;go_roundw;exact⟨k+1,η,ξ,av,by rw[ay.l];exact p⟩;simp[d_];omega
 have he:cs.G k=cs:=yO η;rw[he] at B;have ad:=Q.l.z;clear he;generalize ak:cs.flatMap zj=ae at *;have ai:=U2 ak;clear ak;obtain⟨aO,aH,rfl⟩:=zq B;have aE:U7 w3.o.q wr (.k aO ae.j aH) (ae.map zk.o):=by simpa [U7,Function.comp_def] using B
 have P:=aC.u J;obtain⟨bz,bw,bf⟩:=P.I;have M:=N.u J;have aj:X (∀c∈cs,vV c/\c.d.j<=999):=λc hc=>⟨(Q.l.ok c hc).1,(Q.l.ok c hc).2.1⟩;by_cases hS:∃f,Vx cs f
 .have HS:=U2 hS;clear hS;go_wp2_with (first|(go_at_call 69;refine(FL _ _ (ae.map zk.o) aE (by simpa using ad)).y ?_;rintro e w6 ⟨v6,t,rfl,aa,ab,b,m,I⟩;obtain⟨G,o,rfl⟩:=aa.qm;have d:=P.u I;obtain⟨aQ,aM,aJ⟩:=d.I;have H:=M.u I;have aw:=U6 ar (U6 J I);have L:t.j<=1000:=(by simp at m;omega);have E:=(by simpa using d.set 1 (.k G t.j o));have z:=(UF.refl w2.o.q w6).x 1 (.k G t.j o);have u:=H.but z d θ θ θ;have af:=aa.but z d θ;have A:μ w (w6.x (ω w2.o.q 1) (.k G t.j o)):=aw.x F.q _;have S:=U2 (λc hc l hl=>(b _).2 (z9.2 ⟨l,(by rw[←ai.l];exact vg.2 ⟨c,hc,hl⟩),rfl⟩));have ac:=U2 (λn=>(b n).A z9);clear b m)|(go_at_call 70;refine(Ok _ w2.o.q _ _ _ cs t (by exact E) (by exact u) (by exact af) aj.l R L S.l HS).y ?_;rintro e w8 ⟨sv,rfl,D,K,ag⟩))
  go_ret2
  exact⟨_,aB.l t sv ab ac.l K.len ag,A.A (D.u F.q A.q),w2.o.q,_,_,_,rfl,K.box,(u.but D E θ θ θ).low a5.q,(af.but D E θ).low (zX ar.q J.q),by rw[K.len];exact yq K.row A.q,F.q⟩
 have HS:=U2 hS;clear hS;go_wp2_with (first|(go_at_call 69;refine(FL _ _ (ae.map zk.o) aE (by simpa using ad)).y ?_;rintro e w6 ⟨v6,t,rfl,aa,ab,b,m,I⟩;obtain⟨G,o,rfl⟩:=aa.qm;have d:=P.u I;obtain⟨aQ,aM,aJ⟩:=d.I;have H:=M.u I;have aw:=U6 ar (U6 J I);have L:t.j<=1000:=(by simp at m;omega);have E:=(by simpa using d.set 1 (.k G t.j o));have z:=(UF.refl w2.o.q w6).x 1 (.k G t.j o);have u:=H.but z d θ θ θ;have af:=aa.but z d θ;have A:μ w (w6.x (ω w2.o.q 1) (.k G t.j o)):=aw.x F.q _;have S:=U2 (λc hc l hl=>(b _).2 (z9.2 ⟨l,(by rw[←ai.l];exact vg.2 ⟨c,hc,hl⟩),rfl⟩));have ac:=U2 (λn=>(b n).A z9);clear b m)|(go_at_call 70;refine(Nk _ w2.o.q _ _ _ cs t (by exact E) (by exact u) (by exact af) aj.l R L S.l HS).y ?_;rintro e w8 ⟨rfl,D⟩))
 go_ret2
 exact⟨_,aP.l HS.l,A.A (D.u F.q A.q),rfl⟩
def EC(s:Λ)(w:U)(g:s.q<=9223372036854775807):
  c_ e_ 33 #[.g s] w λe d=>∃r,hO s r/\rY r w e d:=by
 by_cases b:500<s.q;exact(L4 s w b g).y λe d h=>⟨_,.long b,h⟩;rcases a:xC s.q s with _|l;exact(Ld s w η a).y λe d h=>⟨_,.lex b a,h⟩;rcases c:vS l with _|i;exact(OV s w η l a c).y λe d h=>⟨_,.parse b a c,h⟩;by_cases f:ko i=0;exact M6 s w η l i a c f;exact(Q5 s w η l i a c f).y λe d h=>⟨_,.wrong b a c f,h⟩
end
section
open Go.Proofs.Tryz
variable {s:ByteArray}
def Ul:(e_.info? 40).map (λi=>(i.zero,i.q,i.bytes))=Z (Z (.agg #[.pointer Y,.pointer Y]),2,16):=χ
def KY{k:Int}(h:uH s=.error k):(k != 0)=true:=by
 unfold uH at h;repeat'(split at h)
 all_goals first|(cases h;rfl)|cases h
def Og{k:Int}(h:uH s=.error k)(w:U)(a:s.q<=9223372036854775807):c_ e_ 33 #[.g s] w λe g=>e=ε (.tuple #[.pointer Y,ι k])/\μ w g:=
 (EC s w a).y λ_ _ ⟨r,c,f,d⟩=>by
  have b:=C0 c;rw[h] at b;simp only[iN] at b;subst b;exact⟨d,f⟩
def jp(lo:Nat)(w:U)(pb:Nat)(cs:List zd)(t:List zf):Prop:=lo<=pb/\∃c b a,U3 w pb #[c,b,a] 45/\Vh lo 93 w c cs/\U7 lo w b (U4 t)/\w.r lo 3 1 a t.j ((t.map zf.L).map Vg)
def Lw{cs:Ξ}{t:Ψ}(h:uH s=.ok (cs,t))(w:U)(c:s.q<=9223372036854775807):c_ e_ 33 #[.g s] w λe d=>∃a,e=ε (.tuple #[(π a),ι 0])/\jp w.o.q d a cs t/\μ w d:=
 (EC s w c).y λ_ _ ⟨r,k,f,n⟩=>by
  have b:=C0 k;rw[h] at b;simp only[iN] at b;subst b;obtain⟨a,m,l,j,u,i,q,g,p,o⟩:=n;exact⟨a,u,⟨o,m,l,j,i,q,g,by simpa using p⟩,f⟩
def IN{k:Int}(h:uH s=.error k)(w:U)(a:s.q<=9223372036854775807):c_ e_ 32 #[.g s] w λe d=>e=ε (.tuple #[.pointer Y,ι k])/\μ w d:=
 (Ho s w a).y λ_ _ ⟨c,b⟩=>by rw[h] at b;exact⟨b,c⟩
def NH{cs:Ξ}{t:Ψ}(h:uH s=.ok (cs,t))(w:U)(b:s.q<=9223372036854775807):c_ e_ 32 #[.g s] w λe d=>∃a,e=ε (.tuple #[(π a),ι 0])/\uE w.o.q d a cs t/\μ w d:=
 (Ho s w b).y λ_ _ ⟨g,c⟩=>by
  rw[h] at c;obtain⟨a,v,i,m,f,l,k,j⟩:=c;exact⟨a,m,⟨j,v,i,f,l,k⟩,g⟩
def CW.u{B:Nat}{w w':U}{wb d e:Nat}(h:CW B w wb d e)(b:μ w w'):CW B w' wb d e:=by
 obtain⟨f,c,a,k,i,g,l,j⟩:=h;exact⟨f,c,a,k,i,g.u b,zy l b,zy j b⟩
def CW.lt{B:Nat}{w:U}{wb c b:Nat}(h:CW B w wb c b):B<=w.o.q:=by
 obtain⟨d,_,_,_,_,a,_⟩:=h;have:=a.lt;omega
end
def CV(w:U)(a:Γ)(T:f_)(b:a.j<=1000):(w.C (.E a.toArray T)).r w.o.q T 1 (.k (Z (δ w.o.q)) a.j a.j) a.j a:=by
 refine⟨ζ,zg ⟨w.o.q,a.j,a.toArray,rfl,ze _,?_,ze _,by unfold maxLen;omega,ζ,ζ⟩⟩;show(w.o.push _)[w.o.q]?=_;simp
end Go.Proofs.YteampbddflhngaaGreat
