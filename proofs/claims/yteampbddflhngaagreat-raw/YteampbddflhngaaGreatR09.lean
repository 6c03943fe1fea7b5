import Derived.Test.YteampbddflhngaaGreatR02
import Derived.Test.YteampbddflhngaaGreatR06
namespace Go.Proofs.YteampbddflhngaaGreat
open List renaming length→List.j,take→List.G
open _root_.Array renaming size→Array.q
open _root_.ByteArray renaming size→ByteArray.q
open Go.RowKit.Below renaming size→Go.RowKit.Below.q,setCell→Go.RowKit.Below.x,mono→Go.RowKit.Below.y,trans→Go.RowKit.Below.A,alloc→Go.RowKit.Below.C
open Go.TypeInfo renaming size→Go.TypeInfo.q
open Go.RowKit.Hid renaming out→Go.RowKit.Hid.l
open Go.World renaming heap→Go.World.o,setCell→Go.World.x,alloc→Go.World.C,ownsRow→Go.World.r
open Go.Value renaming slice→Go.Value.k,string→Go.Value.d,cells→Go.Value.E
open Go.TypeDesc renaming slice→Go.TypeDesc.k,string→Go.TypeDesc.d
open Go.Calls renaming mono→Go.Calls.y
open Eq renaming trans→Eq.A
open Iff renaming trans→Iff.A
open Go.Obj renaming cells→Go.Obj.E
open Option renaming some→Z,none→Y
open Go.RowKit renaming Hid→X
open Go renaming World→U,Value→O
set_option linter.all false
set_option maxRecDepth 100000
set_option maxHeartbeats 4000000
open Go.Proofs.Tryz Go.RowKit
section
variable {lo:Nat}
def TR.but{b:TypeId}{r:Nat}{w w':U}{v:O}{l:Ξ}(h:TR lo b w v l)(d:Tv r w w'){c:Array O}{T:TypeId}{f:Nat×Nat}(g:w.o[r]?=Z (.E c T f))(i:T≠9)(e:T≠90)(a:T≠b):TR lo b w' v l:=by
 obtain⟨j,h,m⟩:=h;exact⟨j,xP h d g a,m.y (λ_ _ k=>k.but d g i) (λ_ _ k=>k.but d g i e)⟩
structure UM (w:U) (pb:Nat) (cv pv:O) (cs:List zc) (ps:κ) (sv:List Nat) (wr:U):Prop where
 but:Tv pb w wr
 box:Ti wr pb #[cv,pv,.k (Z ⟨w.o.q,0,Y⟩) ps.j ps.j] 45
 row:wr.r w.o.q 3 1 (.k (Z ⟨w.o.q,0,Y⟩) ps.j ps.j) ps.j (sv.map TO)
 len:sv.j=ps.j
 low:Vj cs ps sv
 top:∀s∈sv,s<ps.j
def UM.cell{w:U}{pb:Nat}{f c:O}{cs:Ξ}{ps:κ}{sv:Φ}{wr:U}(h:UM w pb f c cs ps sv wr)(k:Nat)(d:k<sv.j):w.o.q<wr.o.q/\wr.cell? (ω w.o.q k)=Z (ι (sv[k]:Int)):=by
 obtain⟨g,b,a,_,i,e⟩:=yq h.row (by have:=h.len;omega);simp at a;obtain⟨rfl,_⟩:=a;exact⟨i,e k _ (by simp[d,TO])⟩
def UM.set{w:U}{pb:Nat}{d c:O}{cs:Ξ}{ps:κ}{sv:Φ}{wr:U}(h:UM w pb d c cs ps sv wr)(f:pb<w.o.q)(k:Nat)(e:k<sv.j)(s:Nat)(hs:s<ps.j)(a:Vj cs ps (sv.set k s)):
  UM w pb d c cs ps (sv.set k s) (wr.x (ω w.o.q k) (ι (s:Int))):=by
 refine⟨h.but.setNew (zf _) _,h.box.set_ne η _ _,?_,by simpa using h.len,a,?_⟩;have:=uD h.row k (by simpa using e) (TO s);rw[lf];exact this;intro x b;rcases mn b with b|b;exact h.top x b;omega
def M2(w:U)(pb:Nat)(c b:O)(cs:List zc)(ps:κ)(e:Ending)(w':U):Prop:=Tv pb w w'/\((e=ε (.bool false)/\¬∃f,Uk cs f)∨∃a,e=ε (.bool true)/\UM w pb c b cs ps a w'/\TU cs (vX ps a))
def Q7{sv:Φ}{k s:Nat}(a:k<sv.j)(hs:sv[k]<s):sv.sum<(sv.set k s).sum:=by have:=GB sv k s a;omega
def N0{ps:κ}{sv:Φ}(a:sv.j=ps.j)(h:∀s∈sv,s<ps.j):sv.sum<=ps.j*ps.j:=by rw[←a] at h ⊢;exact EL sv sv.j λs b=>by have:=h s b;omega
def TR.ne{d T:TypeId}{w:U}{g n cap pb:Nat}{cs:Ξ}{c:Array O}(h:TR lo d w (.k (Z (δ g)) n cap) cs)(b:Ti w pb c T)(f:T≠d):g≠pb:=by
 obtain⟨k,⟨_,⟨a,_⟩|⟨l,e,j,a,_,i,_⟩⟩,_⟩:=h;cases a;simp at a;obtain⟨rfl,_⟩:=a;rintro rfl;unfold Ti at b;rw[i] at b;simp at b;exact f b.2.symm
def hY.but{w w':U}{g o:Nat}{c:zc}{j:Option Addr}{cap:Nat}{b:Option Addr}{a r:Nat}(h:hY w g o c j cap b a)(e:Tv r w w')(i:g≠r){m:Array O}{T:TypeId}(l:Ti w r m T)(k:T≠9)(f:T≠90):hY w' g o c j cap b a:=
 have d:∀o,w'.cell? (ω g o)=w.cell? (ω g o):=λ_=>U.cell?_of_block (w:=w) (e.block g h.lt i)
 ⟨ym h.lt e.q,(d _).A h.c0,(d _).A h.c1,(d _).A h.c2,(d _).A h.c3,h.k.but e l k,h.d.but e l k f⟩
def G9(w:U)(pb:Nat)(cv pv v2:O)(cs:Ξ)(ps:κ)(hp:Ti w pb #[cv,pv,v2] 45)(ai:TR lo 93 w cv cs){aG:Nat}(an:To aG w pv ps)(a3:∀c∈cs,qb c/\c.d.j<=999)(hl:cs.j<=1000)(y:ps.j<=1000)(a2:∀c∈cs,∀l∈zm c,l.o∈ps):
  Calls prog 70 #[(π pb)] w λe w'=>M2 w pb cv pv cs ps e w':=by
 obtain⟨ao,G,rfl⟩:=ai.qy;obtain⟨B,p,rfl⟩:=an.qy;obtain⟨a7,av,ak⟩:=hp.e;have aJ:=Th a3;have az:=Th a2;have HP:=Th hp;have aK:=run_make_row' (P:=prog) 24 3 (ι 0) 8 underlying24 Sy rfl .i64 .i64 ps.j η η;clear a3 a2;go_enter func70,ntmps70;go_wp2;clear aK;go_loopg [4] (2*(ps.j*ps.j)+1) (λN v3 wr=>∃(F:Φ) (more:Bool),v3=.bool more/\UM w pb (.k ao cs.j G) (.k B ps.j p) cs ps F wr/\X (more=false->Up cs ps F cs.j)/\2*(ps.j*ps.j-F.sum)+more.toNat<=N)
 case atStart=>
  have aB:(w.x (ω pb 2) (.k (Z (δ w.o.q)) ps.j ps.j)).o.q=w.o.q:=by simp[U.setCell]
  have ax:=Dr (w.x (ω pb 2) (.k (Z (δ w.o.q)) ps.j ps.j)) ps.j 3 b_;rw[aB] at ax;refine⟨List.replicate ps.j 0,true,rfl,⟨ψ,?_,ax,ζ,Oq _ _ _,?_⟩,(by intro h;cases h),ζ⟩;exact(hp.set 2 _).u zO;intro s hs;rw[List.mem_replicate] at hs;omega
 clear a7 av;obtain⟨F,more,rfl,u,HC,hN⟩:=hrel;cases more
 .have H:=Th (HC.l rfl);clear HC;go_wp2;go_ret;exact⟨u.but,ze ⟨F,rfl,u,KZ u.low H.l⟩⟩
 go_wp2;go_loopw [4,5] (λv3 v4 wi=>∃(k:Nat) (si:Φ) (mi:Bool),k<=cs.j/\v4=ι k/\v3=.bool mi/\UM w pb (.k ao cs.j G) (.k B ps.j p) cs ps si wi/\F.sum<=si.sum/\(mi=true->F.sum<si.sum)/\X (mi=false->Up cs ps si k)) (λ_ i _=>cs.j-(intOf i).toNat)
 case atStart=>exact⟨0,F,false,zs _,rfl,rfl,u,zf _,ζ,λ_=>Rh _ _ _⟩
 obtain⟨k,si,mi,hk,rfl,rfl,r,aH,af,ay⟩:=hrel;have A:=r.box;obtain⟨a4,a6,a1⟩:=A.e;by_cases I:k<cs.j
 .obtain⟨g,aZ,aR,aS,aO,rfl,L⟩:=ai.at k I;have ad:=ai.ne hp θ;have t:=L.but r.but ad hp θ θ;have ae:=an.but r.but HP.l θ;obtain⟨ba,bc⟩:=aJ.l _ (zq I);have J:=az.l _ (zq I);have ac:=zq I;have aq:=Th λs' (h1:Up cs ps s' k) (h2:nE cs[k] ps s' cs[k].d.j)=>Ok h1 I h2;generalize cs[k]=c at *;have au:=Th J;have aa:=Th ac;have aI:=Th L;obtain⟨C,T⟩:=wD (J c.g (by simp[zm]));have aM:=(lM T).1;have a0:=Th T;have aE:X (l6 ps c.g.o=(C:Int)):=by unfold X l6;rw[T]
  have aC:=t.c1;have ar:=t.c3;have ag:=t.lt;clear T J ac L;go_wp2_with (go_at_call 111;refine(nA _ pb _ _ _ ps c.g.o A ae y).y ?_;rw[aE.l];rintro e w' ⟨rfl,d⟩;obtain rfl:=d.symm)
  go_loopw [4,8] (λv3 v7 wj=>∃(j:Nat) (b:Φ) (S:Bool),j<=c.d.j/\v7=ι j/\v3=.bool S/\UM w pb (.k (Z (δ g)) cs.j G) (.k B ps.j p) cs ps b wj/\F.sum<=b.sum/\(S=true->F.sum<b.sum)/\X (S=false->Up cs ps b k/\nE c ps b j)) (λ_ i _=>c.d.j-(intOf i).toNat)
  case atStart=>exact⟨0,si,mi,zs _,rfl,rfl,r,aH,af,λh=>⟨ay.l h,QJ _ _ _⟩⟩
  clear a4 a6 aC ar t ae A a1 ag;obtain⟨j,b,S,hj,rfl,rfl,a,D,Q,x⟩:=hrel;have m:=a.box;obtain⟨a4,a6,aP⟩:=m.e;have K:=aI.l.but a.but ad HP.l θ θ;have o:=an.but a.but HP.l θ;have ar:=K.c3;have ag:=K.lt;by_cases aj:j<c.d.j
  .obtain⟨gl,bd,aN,aA,aY,a8,aV,_,_⟩:=K.d.cell j aj;subst aA;have am:=zq aj;obtain⟨kb,V⟩:=wD (au.l c.d[j] (by simp[zm]));have aL:=(lM V).1;have aQ:=a.len;have E:kb<b.j:=η;have f:C<b.j:=η;have W:=ed V E;have a5:=ed a0.l f;have q:X (l6 ps c.d[j].o=(kb:Int)):=by unfold X l6;rw[V]
   have v:X (Vj cs ps (b.set C (b[kb]+up c.d[j]))):=by have:=Pq a.low aa.l am a0.l f;rw[W] at this;exact this
   have ah:=Th λh=>PK a.low az.l aa.l am (by rw[W];exact h);have aw:=Th λh1 h2=>Qm h2 aj (by rw[W,a5];exact h1);have ab:=Th λs h1 h2=>a.set ak C f s h1 h2;have M:=Th λs (h:b[C]<s)=>Q7 f h;obtain⟨bg,be⟩:=a.cell kb E;obtain⟨_,aU⟩:=a.cell C f;have aX:=vl a.row;have bb:=a.top _ (zq E);have bf:=a.top _ (zq f);clear W a5 V am;generalize b[kb]=R at *;generalize b[C]=sh at *;generalize c.d[j]=l at *;cases n:l.i
   .have z:up l=0:=by simp[up,n]
    rw[n] at a8;clear n;by_cases al:sh<R
    .by_cases aD:ps.j<=R;omega;have ap:X (UM w pb (.k (Z (δ g)) cs.j G) (.k B ps.j p) cs ps (b.set C (R)) (wr.x (ω w.o.q C) (ι ((R:Nat):Int)))):=ab.l _ η (by have:=v.l;rw[z] at this;exact this);have aF:=M.l (R) al;go_wp2_with (go_at_call 111;refine(nA _ pb _ _ _ ps l.o m o y).y ?_;rw[q.l];rintro e w' ⟨rfl,d⟩;obtain rfl:=d.symm)
     go_roundw;exact⟨j+1,_,true,η,ξ,rfl,ap.l,η,(λ_=>η),(λh=>by cases h)⟩;simp[intOf];omega
    have H:X (S=false->Up cs ps b k/\nE c ps b (j+1)):=λh=>⟨(x.l h).1,aw.l (by rw[z];omega) (x.l h).2⟩;go_wp2_with (go_at_call 111;refine(nA _ pb _ _ _ ps l.o m o y).y ?_;rw[q.l];rintro e w' ⟨rfl,d⟩;obtain rfl:=d.symm)
    go_roundw;exact⟨j+1,b,S,η,ξ,rfl,a,D,Q,H⟩;simp[intOf];omega
   have z:up l=1:=by simp[up,n]
   rw[n] at a8;clear n;by_cases al:sh<R+1
   .by_cases aD:ps.j<=R+1
    .have HF:=Th (ah.l (by rw[z];omega));go_wp2_with (go_at_call 111;refine(nA _ pb _ _ _ ps l.o m o y).y ?_;rw[q.l];rintro e w' ⟨rfl,d⟩;obtain rfl:=d.symm)
     go_ret;exact⟨a.but.setNew (zf _) _,zh ⟨rfl,HF.l⟩⟩
    have ap:X (UM w pb (.k (Z (δ g)) cs.j G) (.k B ps.j p) cs ps (b.set C (R+1)) (wr.x (ω w.o.q C) (ι ((R+1:Nat):Int)))):=ab.l _ η (by have:=v.l;rw[z] at this;exact this);have aF:=M.l (R+1) al;go_wp2_with (go_at_call 111;refine(nA _ pb _ _ _ ps l.o m o y).y ?_;rw[q.l];rintro e w' ⟨rfl,d⟩;obtain rfl:=d.symm)
    go_roundw;exact⟨j+1,_,true,η,ξ,rfl,ap.l,η,(λ_=>η),(λh=>by cases h)⟩;simp[intOf];omega
   have H:X (S=false->Up cs ps b k/\nE c ps b (j+1)):=λh=>⟨(x.l h).1,aw.l (by rw[z];omega) (x.l h).2⟩;go_wp2_with (go_at_call 111;refine(nA _ pb _ _ _ ps l.o m o y).y ?_;rw[q.l];rintro e w' ⟨rfl,d⟩;obtain rfl:=d.symm)
   go_roundw;exact⟨j+1,b,S,η,ξ,rfl,a,D,Q,H⟩;simp[intOf];omega
  have HE:=Th λh=>aq.l b (x.l h).1 (by have h2:=(x.l h).2;rw[show c.d.j=j from by omega];exact h2);go_wp2;go_roundw;exact⟨k+1,b,S,η,ξ,rfl,a,D,Q,HE⟩;simp[intOf];omega
 have a9:k=cs.j:=η;have aW:=N0 r.len r.top;go_wp2;go_roundg (2*(ps.j*ps.j-si.sum)+mi.toNat)
 case measure=>
  have aT:2*(ps.j*ps.j-F.sum)+1<=gk:=hN;clear hN;generalize ps.j*ps.j=nn at *;cases mi;simp only[Bool.toNat_false];omega;have:=af rfl;simp only[Bool.toNat_true];omega
 exact⟨si,mi,rfl,r,(by rw[←a9];exact ay.l),zf _⟩
end
section
variable {lo:Nat}{l:List Tp}
def L5:∀{ts:κ} {l:Δ},l5 ts l->∀t∈ts,∃y∈l,y.2=t:=by
 intro ts l h;induction h with
 |one=>intro t a;simp at a;exact⟨_,sM,a.symm⟩
 |more _ _ _ c=>
  intro t a;rcases zG.1 a with rfl|a;exact⟨_,sM,rfl⟩;obtain⟨y,b,e⟩:=c t a;exact⟨y,by simp[b],e⟩
def iG{a:zj}(h:qU a l):∀t∈a.k,∃y∈l,y.2=t:=by
 cases h with
 |bare=>intro t b;cases b
 |k _ _ d _=>intro t b;obtain⟨y,c,e⟩:=L5 d t b;exact⟨y,by simp[c],e⟩
def Em{a:zj}(h:gW a l):∀t∈a.k,∃y∈l,y.2=t:=by
 cases h with
 |qc h=>exact iG h
 |i _ h=>intro t c;obtain⟨y,b,e⟩:=iG h t c;exact⟨y,by simp[b],e⟩
def J3:∀{b:Ω} {l:Δ},dR b l->∀a∈b,∀t∈a.k,∃y∈l,y.2=t:=by
 intro b l h;induction h with
 |one h=>intro a c;simp at c;subst c;exact Em h
 |more h _ _ g=>
  intro a c t f;rcases zG.1 c with rfl|c;obtain⟨y,d,e⟩:=Em h t f;exact⟨y,by simp[d],e⟩;obtain⟨y,d,e⟩:=g a c t f;exact⟨y,by simp[d],e⟩
def Oy{c:zc}(h:hO c l):∀a∈zm c,∀t∈a.k,∃y∈l,y.2=t:=by
 cases h with
 |fact h=>intro a b;simp[zm] at b;subst b;exact iG h
 |p h _ g=>
  intro a b t f;simp only[zm] at b;rcases zG.1 b with rfl|b;obtain⟨y,d,e⟩:=iG h t f;exact⟨y,by simp[d],e⟩;obtain⟨y,d,e⟩:=J3 g a b t f;exact⟨y,by simp[d],e⟩
def Ih:∀{cs:Ξ} {l:Δ},lm cs l->∀c∈cs,∀a∈zm c,∀t∈a.k,∃y∈l,y.2=t:=by
 intro cs l h;induction h with
 |nil=>intro c b;cases b
 |cons h _ _ i=>
  intro c b a g t f;rcases zG.1 b with rfl|b;obtain⟨y,d,e⟩:=Oy h a g t f;exact⟨y,by simp[d],e⟩;obtain⟨y,d,e⟩:=i c b a g t f;exact⟨y,by simp[d],e⟩
structure O7 (cs:List zc):Prop where
 ok:∀c∈cs,qb c/\c.d.j<=999/\xj (zm c)<=1000/\∀l∈zm c,∀t∈l.k,0<t.q
 len:cs.j<=1000
 N:(cs.flatMap zm).j<=1000
def im{s:ByteArray}{l:κ}(hs:s.q<=500)(h:x9 s.q s=Z l):∃a,Tu s=Z a/\l=zX a/\l.j<=500/\∀y∈l,0<y.q:=by
 rw[sK] at h;rcases b:Tu s with _|a;rw[b] at h;cases h;rw[b] at h;simp only[jL,zt] at h;subst h;refine⟨a,rfl,rfl,?_,?_⟩;have:=ip b;simp;omega;intro y d;obtain⟨x,c,rfl⟩:=zF.1 d;exact(sm b x c).2
def AI{s:ByteArray}{l:κ}{cs:Ξ}(hs:s.q<=500)(h:x9 s.q s=Z l)(j:vB l=Z cs):O7 cs:=by
 obtain⟨d,b,rfl,q,v⟩:=im hs h;have e:ut d:=λx m=>(sm b x m).1;have n:=(AB e cs).1 j;have i:yX d.j d.j d=Z cs:=by
  have:=o8 s;rw[h,b] at this;simp only[Option.bind_some] at this;rw[←this];exact j
 have w:=iH i;have o:d.j<=500:=by simpa [zX] using q
 have g:=Bw (cs:=cs) η;refine⟨λc f=>⟨g c f,?_,?_,?_⟩,by have:=oQ cs;omega,by have:=o6 cs;omega⟩;have b:=Ai f;have u:=tp c.d;unfold UQ g5 at b;omega;have b:=Ai f;have u:=tp c.d;unfold UQ g5 at b;simp only[zm,xj] at *;simp;omega;intro a r t k;obtain⟨y,p,rfl⟩:=Ih n c f a r t k;exact(sm b y p).2
def rW(r:Except Int (List zc×κ×List Nat))(w:U)(e:Ending)(w':U):Prop:=
 μ w w'/\match r with
  |.error n=>e=ε (.tuple #[.pointer Y,ι n])
  |.ok (h,g,c)=>∃a f b d,e=ε (.tuple #[(π a),ι 0])/\Ti w' a #[f,b,d] 45/\TR w.o.q 93 w' f h/\To w.o.q w' b g/\w'.r w.o.q 3 1 d c.j (c.map TO)/\w.o.q<=a
def IX(s:ByteArray)(w:U)(hs:500<s.q)(a:s.q<=9223372036854775807):
  Calls prog 33 #[.d s] w λe b=>rW (.error 1) w e b:=by
 go_enter func33,ntmps33;go_wp2;go_ret2
 exact⟨zn _ _,rfl⟩
def OD(s:ByteArray)(w:U)(hs:s.q<=500)(h:x9 s.q s=Y):
  Calls prog 33 #[.d s] w λe b=>rW (.error 2) w e b:=by
 have c:X (∀W,Calls prog 65 #[.d s] W λe b=>μ W b/\e=ε (.tuple #[ν,.bool false])):=λW=>by have:=eR s W hs;rw[h] at this;exact this
 clear h;go_enter func33,ntmps33;go_wp2_with (go_at_call 65;refine(c.l _).y ?_;rintro e d ⟨a,rfl⟩;clear c)
 go_ret2
 exact⟨a,rfl⟩
def MQ(s:ByteArray)(w:U)(hs:s.q<=500)(l:κ)(h:x9 s.q s=Z l)(o:vB l=Y):
  Calls prog 33 #[.d s] w λe m=>rW (.error 3) w e m:=by
 obtain⟨_,_,_,j,k⟩:=im hs h;have d:=Th λW=>by have:=eR s W hs;rw[h] at this;exact this
 have f:=Th λW v i=>by have:=AT W v l i k j;rw[o] at this;exact this
 go_enter func33,ntmps33;go_wp2_with (first|(go_at_call 65;refine(d.l _).y ?_;rintro e q ⟨b,t,rfl,a⟩;clear d)|(go_at_call 66;refine(f.l _ _ (SV.of a)).y ?_;rintro e p ⟨c,r,n,g,rfl⟩;clear f))
 go_ret2
 exact⟨Tl b c,rfl⟩
def Ko(s:ByteArray)(w:U)(hs:s.q<=500)(l:κ)(cs:Ξ)(h:x9 s.q s=Z l)(B:vB l=Z cs)(K:ki cs≠0):
  Calls prog 33 #[.d s] w λe t=>rW (.error (ki cs)) w e t:=by
 obtain⟨_,_,_,F,H⟩:=im hs h;have j:=AI hs h B;have i:=j.len;have z:=Th λW=>by have:=eR s W hs;rw[h] at this;exact this
 have A:=Th λW v C=>by have:=AT W v l C H F;rw[B] at this;exact this
 have d:X (∀lo W m n o k,Ti W m #[n,o,k] 45->TR lo 93 W n cs->Calls prog 67 #[(π m)] W λe t=>e=ε (ι (ki cs))/\μ W t):=λ_ W m n o k E G=>Es W m n o k cs E G j.ok i;go_enter func33,ntmps33;go_wp2_with (first|(go_at_call 65;refine(z.l _).y ?_;rintro e J ⟨r,o,rfl,q⟩;clear z)|(go_at_call 66;refine(A.l _ _ (SV.of q)).y ?_;rintro e D ⟨x,k,rfl,a⟩;obtain⟨g,b,rfl⟩:=a.qy;have f:=Tl r x;clear A)|(go_at_call 67;refine(d.l _ _ _ _ _ _ (Ti.new _ _ _) (by exact a.u φ)).y ?_;rintro e I ⟨rfl,c⟩;have y:=(Ti.new D #[.k g cs.j b,ν,ν] 45).u c;have u:=(a.u ((zn _ _).C (zf _) (.E #[.k g cs.j b,ν,ν] 45))).u c;have p:=Tl (f.C f.q _) c;clear d))
 go_ret2
 exact⟨p,rfl⟩
def IG(w:U)(pb:Nat)(d a o:O)(cs:Ξ)(ps:κ)(s:Ti w pb #[d,a,o] 45)(j:TR lo 93 w d cs){i:Nat}(n:To i w a ps)(g:∀c∈cs,qb c/\c.d.j<=999)(u:cs.j<=1000)(k:ps.j<=1000)(m:∀c∈cs,∀l∈zm c,l.o∈ps)(q:X (∃f,Uk cs f)):
  Calls prog 70 #[(π pb)] w λe p=>∃b,e=ε (.bool true)/\Tv pb w p/\UM w pb d a cs ps b p/\TU cs (vX ps b):=
 (G9 w pb d a o cs ps s j n g u k m).y λ_ _ ⟨t,x⟩=>x.elim (λh=>zC q.l h.2) fun⟨b,v,y,r⟩=>⟨b,v,t,y,r⟩
def OL(w:U)(pb:Nat)(j b n:O)(cs:Ξ)(ps:κ)(u:Ti w pb #[j,b,n] 45)(g:TR lo 93 w j cs){m:Nat}(a:To m w b ps)(d:∀c∈cs,qb c/\c.d.j<=999)(r:cs.j<=1000)(i:ps.j<=1000)(k:∀c∈cs,∀l∈zm c,l.o∈ps)(o:X (¬∃f,Uk cs f)):
  Calls prog 70 #[(π pb)] w λe t=>e=ε (.bool false)/\Tv pb w t:=
 (G9 w pb j b n cs ps u g a d r i k).y λ_ _ ⟨q,s⟩=>s.elim (λh=>⟨h.1,q⟩) fun⟨_,_,_,p⟩=>zC ⟨_,p.1⟩ o.l
def Mw(cs:Ξ)(k:Nat)(a:k<cs.j):(cs.G (k+1)).flatMap zm=(cs.G k).flatMap zm++zm cs[k]:=by rw[yN a,List.flatMap_append];simp
def Q5(s:ByteArray)(w:U)(hs:s.q<=500)(l:κ)(cs:Ξ)(h:x9 s.q s=Z l)(hp:vB l=Z cs)(hx:ki cs=0):
  Calls prog 33 #[.d s] w λe w'=>∃r,hX s r/\rW r w e w':=by
 obtain⟨_,_,_,h3,h4⟩:=im hs h;have ah:=AI hs h hp;have V:=ah.len;have T:=Th ah;have HW:X (∀W,Calls prog 65 #[.d s] W λe w'=>μ W w'/\∃v,e=ε (.tuple #[v,.bool true])/\w'.r W.o.q 9 1 v l.j (l.map O.string)):=λW=>by have:=eR s W hs;rw[h] at this;exact this
 have HC:X (∀W v,SV W v l->Calls prog 66 #[v] W λe w'=>μ W w'/\∃v,e=ε (.tuple #[v,.bool true])/\TR W.o.q 93 w' v cs):=λW v hv=>by have:=AT W v l hv h4 h3;rw[hp] at this;exact this
 have aG:X (∀lo W pb cv v1 v2,Ti W pb #[cv,v1,v2] 45->TR lo 93 W cv cs->Calls prog 67 #[(π pb)] W λe w'=>e=ε (ι 0)/\μ W w'):=λ_ W pb cv v1 v2 h1 h2=>by rw[←hx];exact Es W pb cv v1 v2 cs h1 h2 ah.ok V
 have aP:X ((¬∃f,Uk cs f)->hX s (.error 7)):=λhn=>.strata η h hp hx hn;have a6:X (∀p sv,y6 p->(∀n,n∈p↔∃x∈cs.flatMap zm,x.o=n)->sv.j=p.j->TU cs (vX p sv)->hX s (.ok (cs,p,sv))):=λp sv h1 h2 h3 h4=>.ok η h hp hx h1 h2 h3 h4;obtain⟨i0,hi,aL,aV,aZ⟩:=info_parts SG;clear h hp h4 ah hx;go_enter func33,ntmps33;go_wp2_with (first|(go_at_call 65;refine(HW.l _).y ?_;rintro e w1 ⟨a8,v1,rfl,be⟩;clear HW)|(go_at_call 66;refine(HC.l _ _ (SV.of be)).y ?_;rintro e w2 ⟨aT,v2,rfl,N⟩;obtain⟨a5,an,rfl⟩:=N.qy;have H:=Tl a8 aT;clear HC)|(go_at_call 67;refine(aG.l _ _ _ _ _ _ (Ti.new _ _ _) (by exact N.u φ)).y ?_;rintro e w3 ⟨rfl,ap⟩;have aJ:=(Ti.new w2 #[.k a5 cs.j an,ν,ν] 45).u ap;have M:=(N.u ((zn _ _).C (zf _) (.E #[.k a5 cs.j an,ν,ν] 45))).u ap;have ar:=Tl (H.C H.q _) ap;clear aG))
 go_loopw [9,10] (λv8 v9 wr=>∃k:Nat,k<=cs.j/\v9=ι k/\μ w3 wr/\wr.r w3.o.q 9 1 v8 ((cs.G k).flatMap zm).j (((cs.G k).flatMap zm).map λx=>O.string x.o)) (λ_ i _=>cs.j-(intOf i).toNat);exact⟨0,zs _,rfl,zn _ _,xo _ _ _ _⟩;obtain⟨k,hk,rfl,I,z⟩:=hrel;by_cases av:k<cs.j
 .obtain⟨g,bt,bk,bm,bg,rfl,al⟩:=M.at k av;have aM:=al.u I;obtain⟨bv,b0,_,_⟩:=T.l.ok _ (zq av);have au:=Mw cs k av;have aC:=Th au;have bq:((cs.G k).flatMap zm).j+(zm cs[k]).j<=1000:=by
   have h1:((cs.G (k+1)).flatMap zm).j<=(cs.flatMap zm).j:=by
    conv=>rhs;rw[←jQ (k+1) cs,List.flatMap_append,yK]
    omega
   have h2:=T.l.N;rw[au,yK] at h1;omega
  clear au al;generalize cs[k]=c at *;obtain⟨bu,bf,rfl⟩:=zr z;have bo:(zm c).j<=1000:=η;generalize (cs.G k).flatMap zm=E at *;generalize aF:zm c=y at *;have ba:=Th aF;clear aF;obtain⟨w4,rfl⟩:∃w4,w4=wr:=⟨wr,rfl⟩;go_wp2_with (go_at_call 68;refine(it _ g (k*4) c _ _ _ _ aM η).y ?_;rintro e w5 ⟨lv,rfl,ac,aI⟩;rw[ba.l] at ac;obtain⟨bc,aA,rfl⟩:=ac.qy)
  obtain⟨xs,aO,aK⟩:=ac;have aW:=Tl I aI;have aq:=zy z aI;go_loopw [9,12] (λv8 aQ wj=>∃j:Nat,j<=y.j/\aQ=ι j/\μ w3 wj/\wj.r 0 90 3 (.k bc y.j aA) y.j xs/\wj.r w3.o.q 9 1 v8 (E++y.G j).j ((E++y.G j).map λx=>O.string x.o)) (λ_ i _=>y.j-(intOf i).toNat);exact⟨0,zs _,rfl,aW,aO,by simpa using aq⟩;obtain⟨j,hj,rfl,aw,ai,u⟩:=hrel;have aD:=aw.q;obtain⟨bz,bi,rfl⟩:=zr u;by_cases az:j<y.j
  .obtain⟨va,a1,a2,a3,a4⟩:=aK.at j y[j] (by simp[az]);obtain⟨gl,bb,a0,_,br,aE⟩:=yq ai η;simp at a0;obtain⟨rfl,rfl⟩:=a0;have bn:=aE _ _ a2;have aB:=yN az;have a9:(y.G j).j=j:=by rw[vd];omega
   have bx:(E++y.G j).j<=1000:=by rw[yK,a9];omega
   clear a1 a2 a3 a4 aE;generalize y[j]=a at *;have HT:=Th aB;clear aB a9;have HQ:X (E++y.G (j+1)=(E++y.G j)++[a]):=by rw[X,HT.l,kT]
   clear HT;generalize (E++y.G j)=q at *;go_wp2_with (at_builtin;refine gz _ _ [.d a.o] _ rfl (.tmp 54) (.tmp 60) 30 rfl w3.o.q 9 i0 _ 1 16 underlying30 hi aL aV aZ rfl θ _ _ _ rfl u (zn _ _) _ _ rfl ζ rfl a_ η η aD ?_;intro v' w7 aU D aR bd aS bw;clear aR bd)
   go_roundw;exact⟨j+1,η,ξ,aw.A D,gR u θ ai aS,by rw[HQ.l];simpa using aU⟩;simp[intOf];omega
  have he:y.G j=y:=yV η;have ax:X ((cs.G (k+1)).flatMap zm=E++y.G j):=by rw[X,aC.l,he]
  clear he aC;generalize E++y.G j=q at *;go_wp2;go_roundw;exact⟨k+1,η,ξ,aw,by rw[ax.l];exact u⟩;simp[intOf];omega
 have he:cs.G k=cs:=yV η;rw[he] at z;have Q:=T.l.N;clear he;generalize ak:cs.flatMap zm=ag at *;have aj:=Th ak;clear ak;obtain⟨aN,a7,rfl⟩:=zr z;have ay:To w3.o.q wr (.k aN ag.j a7) (ag.map zj.o):=by simpa [To,Function.comp_def] using z
 have R:=aJ.u I;obtain⟨bs,bp,bh⟩:=R.e;have P:=M.u I;have am:X (∀c∈cs,qb c/\c.d.j<=999):=λc hc=>⟨(T.l.ok c hc).1,(T.l.ok c hc).2.1⟩;by_cases hS:∃f,Uk cs f
 .have HS:=Th hS;clear hS;go_wp2_with (first|(go_at_call 69;refine(EV _ _ (ag.map zj.o) ay (by simpa using Q)).y ?_;rintro e w6 ⟨v6,p,rfl,ab,S,b,m,G⟩;obtain⟨J,o,rfl⟩:=ab.qy;have d:=R.u G;obtain⟨aX,aY,aH⟩:=d.e;have F:=P.u G;have ao:=Tl ar (Tl I G);have ad:p.j<=1000:=(by simp at m;omega);have B:=(by simpa using d.set 1 (.k J p.j o));have C:=(Tv.refl w2.o.q w6).x 1 (.k J p.j o);have t:=F.but C d θ θ θ;have af:=ab.but C d θ;have D:μ w (w6.x (ω w2.o.q 1) (.k J p.j o)):=ao.x H.q _;have L:=Th (λc hc l hl=>(b _).2 (zF.2 ⟨l,(by rw[←aj.l];exact vg.2 ⟨c,hc,hl⟩),rfl⟩));have aa:=Th (λn=>(b n).A zF);clear b m)|(go_at_call 70;refine(IG _ w2.o.q _ _ _ cs p (by exact B) (by exact t) (by exact af) am.l V ad L.l HS).y ?_;rintro e w8 ⟨sv,rfl,A,K,ae⟩))
  go_ret2
  exact⟨_,a6.l p sv S aa.l K.len ae,D.A (A.u H.q D.q),w2.o.q,_,_,_,rfl,K.box,(t.but A B θ θ θ).low a8.q,(af.but A B θ).low (zY ar.q I.q),by rw[K.len];exact yo K.row D.q,H.q⟩
 have HS:=Th hS;clear hS;go_wp2_with (first|(go_at_call 69;refine(EV _ _ (ag.map zj.o) ay (by simpa using Q)).y ?_;rintro e w6 ⟨v6,p,rfl,ab,S,b,m,G⟩;obtain⟨J,o,rfl⟩:=ab.qy;have d:=R.u G;obtain⟨aX,aY,aH⟩:=d.e;have F:=P.u G;have ao:=Tl ar (Tl I G);have ad:p.j<=1000:=(by simp at m;omega);have B:=(by simpa using d.set 1 (.k J p.j o));have C:=(Tv.refl w2.o.q w6).x 1 (.k J p.j o);have t:=F.but C d θ θ θ;have af:=ab.but C d θ;have D:μ w (w6.x (ω w2.o.q 1) (.k J p.j o)):=ao.x H.q _;have L:=Th (λc hc l hl=>(b _).2 (zF.2 ⟨l,(by rw[←aj.l];exact vg.2 ⟨c,hc,hl⟩),rfl⟩));have aa:=Th (λn=>(b n).A zF);clear b m)|(go_at_call 70;refine(OL _ w2.o.q _ _ _ cs p (by exact B) (by exact t) (by exact af) am.l V ad L.l HS).y ?_;rintro e w8 ⟨rfl,A⟩))
 go_ret2
 exact⟨_,aP.l HS.l,D.A (A.u H.q D.q),rfl⟩
def Ct(s:ByteArray)(w:U)(g:s.q<=9223372036854775807):
  Calls prog 33 #[.d s] w λe d=>∃r,hX s r/\rW r w e d:=by
 by_cases b:500<s.q;exact(IX s w b g).y λe d h=>⟨_,.long b,h⟩;rcases a:x9 s.q s with _|l;exact(OD s w η a).y λe d h=>⟨_,.lex b a,h⟩;rcases c:vB l with _|i;exact(MQ s w η l a c).y λe d h=>⟨_,.parse b a c,h⟩;by_cases f:ki i=0;exact Q5 s w η l i a c f;exact(Ko s w η l i a c f).y λe d h=>⟨_,.wrong b a c f,h⟩
end
section
variable {s:ByteArray}
def SO:(prog.info? 40).map (λi=>(i.zero,i.q,i.bytes))=Z (Z (.agg #[.pointer Y,.pointer Y]),2,16):=χ
def Pb{k:Int}(h:uC s=.error k):(k != 0)=true:=by
 unfold uC at h;repeat'(split at h)
 all_goals first|(cases h;rfl)|cases h
def K7{k:Int}(h:uC s=.error k)(w:U)(a:s.q<=9223372036854775807):Calls prog 33 #[.d s] w λe g=>e=ε (.tuple #[.pointer Y,ι k])/\μ w g:=
 (Ct s w a).y λ_ _ ⟨r,c,f,d⟩=>by
  have b:=C8 c;rw[h] at b;simp only[i6] at b;subst b;exact⟨d,f⟩
def jD(lo:Nat)(w:U)(pb:Nat)(cs:List zc)(t:List zg):Prop:=lo<=pb/\∃b a c,Ti w pb #[b,a,c] 45/\TR lo 93 w b cs/\To lo w a (Tj t)/\w.r lo 3 1 c t.j ((t.map zg.L).map TO)
def Qi{cs:Ξ}{t:Ψ}(h:uC s=.ok (cs,t))(w:U)(b:s.q<=9223372036854775807):Calls prog 33 #[.d s] w λe d=>∃a,e=ε (.tuple #[(π a),ι 0])/\jD w.o.q d a cs t/\μ w d:=
 (Ct s w b).y λ_ _ ⟨r,g,o,m⟩=>by
  have c:=C8 g;rw[h] at c;simp only[i6] at c;subst c;obtain⟨a,u,i,k,q,p,n,f,l,j⟩:=m;exact⟨a,q,⟨j,u,i,k,p,n,f,by simpa using l⟩,o⟩
def M3{k:Int}(h:uC s=.error k)(w:U)(a:s.q<=9223372036854775807):Calls prog 32 #[.d s] w λe d=>e=ε (.tuple #[.pointer Y,ι k])/\μ w d:=
 (Fx s w a).y λ_ _ ⟨c,b⟩=>by rw[h] at b;exact⟨b,c⟩
def Ox{cs:Ξ}{t:Ψ}(h:uC s=.ok (cs,t))(w:U)(b:s.q<=9223372036854775807):Calls prog 32 #[.d s] w λe d=>∃a,e=ε (.tuple #[(π a),ι 0])/\qX w.o.q d a cs t/\μ w d:=
 (Fx s w b).y λ_ _ ⟨f,c⟩=>by
  rw[h] at c;obtain⟨a,v,g,m,l,k,j,i⟩:=c;exact⟨a,m,⟨i,v,g,l,k,j⟩,f⟩
def CW.u{B:Nat}{w w':U}{f e d:Nat}(h:CW B w f e d)(c:μ w w'):CW B w' f e d:=by
 obtain⟨l,b,a,i,m,g,k,j⟩:=h;exact⟨l,b,a,i,m,g.u c,zy k c,zy j c⟩
end
end Go.Proofs.YteampbddflhngaaGreat
