import Derived.Deep.MidRow
import Derived.Laws.Cover3
import Derived.Test.YteampbddflhngaaGreatA07
import Derived.Test.YteampbddflhngaaGreatA09
namespace Go.Proofs.YteampbddflhngaaGreat
open List renaming length→List.j,take→List.G,toArray→List.F,zipWith→h_,range→m_,getElem?_eq_getElem→o_,getElem?_eq_none→p_,length→r_
open _root_.Array renaming size→Array.q,toList→Array.v
open _root_.ByteArray renaming size→ByteArray.q,toList→ByteArray.v,size_append→g_,empty→l_
open Go.RowKit.Below renaming size→Go.RowKit.Below.q,setCell→Go.RowKit.Below.x,mono→Go.RowKit.Below.y,trans→Go.RowKit.Below.A,alloc→Go.RowKit.Below.C
open Go.TypeInfo renaming size→Go.TypeInfo.q
open Go.RowKit.Hid renaming out→Go.RowKit.Hid.l
open Go.Shut renaming out→Go.Shut.l
open Go.World renaming heap→Go.World.o,setCell→Go.World.x,cell?→Go.World.p,alloc→Go.World.C,ownsRow→Go.World.r,size_alloc→k_
open Go.Value renaming slice→Go.Value.k,string→Go.Value.g,bool→Go.Value.i,cells→Go.Value.E,ownBlock→Go.Value.m,pointer→Go.Value.u,string→i_,slice→j_
open Go.TypeDesc renaming slice→Go.TypeDesc.k,string→Go.TypeDesc.g,bool→Go.TypeDesc.i,pointer→Go.TypeDesc.u
open Go.Calls renaming mono→Go.Calls.y
open Eq renaming trans→Eq.A
open Iff renaming trans→Iff.A
open Go.Obj renaming cells→Go.Obj.E
open Option renaming toList→Option.v,some→Z,none→Y
open Go.Value.slice renaming injEq→n_
open Int renaming toNat_of_nonneg→q_,natCast_emod→s_
open Go.RowKit renaming Hid→X,intOf→d_
open Go renaming World→U,Value→O,Calls→c_,TypeId→f_
open Go.Proofs.Tryz renaming prog→e_
set_option linter.all false
set_option maxRecDepth 100000
set_option maxHeartbeats 4000000
open Go.RowKit
section
open Go.Proofs.Tryz
variable {lo:Nat}{W w w':U}{cs hvs:List O}{r:zv}{jb k:Nat}{nts:List (Nat×List Nat)}{bps:List (O×Nat×List Nat)}{tv sv bv:O}{ji:List Int}{d:Int}
def vc(W:U)(b:Nat):Prop:=∃c:Array O,U3 W b c 310/\c.q=28
def dH(W:U)(b:Nat)(cs:List O):World:=W.setCells b 0 cs
def U3.sets{T:f_}{b:Nat}:∀(vs:Γ) (o:Nat) (w:U) (l:Γ),U3 w b l.F T->o+vs.j=l.j->U3 (w.setCells b o vs) b (l.G o++vs).F T
 |[],o,w,l,h,e=>by
  simp at e;subst e;simpa [U.setCells] using h
 |v::r,o,w,l,h,e=>by
  simp only[xp] at e;have a:U3 (w.x (ω b o) v) b (l.set o v).F T:=by simpa using h.set o v
  have:=U3.sets r (o+1) _ _ a υ;rw[U.setCells];rw[show l.G o++v::r=(l.set o v).G (o+1)++r from by
   rw[List.take_set,yF (by omega:o<l.j),gz _ _ υ];simp[Nat.min_eq_left (show o<=l.j by omega)]]
  exact this
def rR{b:Nat}(h:vc W b)(e:cs.j=28):U3 (dH W b cs) b cs.F 310:=by
 obtain⟨c,a,f⟩:=h;have:=U3.sets cs 0 W c.v (by simpa using a) υ;simpa [dH] using this
def zc.sets(b:Nat):∀(vs:Γ) (o:Nat) (w:U),zc [b] w (w.setCells b o vs)
 |[],_,w=>zc.refl _ w
 |v::r,o,w=>(zc.set w b o v).A (zc.sets b r (o+1) _)
def tu(W:U)(b:Nat)(cs:Γ):zc [b] W (dH W b cs):=zc.sets b cs 0 W
def gx(W:U)(b:Nat)(cs:Γ)(b' o:Nat)(h:b'≠b):(dH W b cs).p (ω b' o)=W.p (ω b' o):=U.cell?_setCells_out b cs 0 W _ λe=>zC e h
def vc.there{W:U}{b:Nat}(h:vc W b):W.there b 0 28:=λj g=>by
 obtain⟨c,a,i⟩:=h;obtain⟨f,e⟩:=a.H;rw[uM];exact⟨by rw[f,Array.getElem?_eq_getElem η];rfl,e j⟩
def bj(p vs c:Int)(g h:Option Addr)(e b a f:Nat):List Value:=[ι p,.k g e b,ι vs,.k h a f,ν,ν,ν,ν,ν,ν,ι 0,ι 0,ι 0,ι 0,ι 0,ι c,ι 0,ι 0,ι 0,ι 0,ι 0,ι 0,ι 0,ι 0,ι 0,ι 0,ι 0,ι 0]
def tZ(p vs c:Int)(g h:Option Addr)(e b a f:Nat):O.agg #[ι p,.k g e b,ι vs,.k h a f,ν,ν,ν,ν,ν,ν,ι 0,ι 0,ι 0,ι 0,ι 0,ι c,ι 0,ι 0,ι 0,ι 0,ι 0,ι 0,ι 0,ι 0,ι 0,ι 0,ι 0,ι 0]=.agg (bj p vs c g h e b a f).F:=rfl
def Mz(p vs c:Int)(g h:Option Addr)(e b a f:Nat):(bj p vs c g h e b a f).j=28:=rfl
def LY(p vs c:Int)(g h:Option Addr)(e b a f:Nat)(q:Int):(bj p vs c g h e b a f).set 0 (ι q)=bj q vs c g h e b a f:=rfl
def Rt(p vs e:Int)(j g:Option Addr)(i h b f:Nat)(a:Option Addr)(n c:Nat):(bj p vs e j g i h b f).set 1 (.k a n c)=bj p vs e a g n c b f:=rfl
def L9(p vs c:Int)(g h:Option Addr)(e b a f:Nat)(q:Int):(bj p vs c g h e b a f).set 2 (ι q)=bj p q c g h e b a f:=rfl
def Nf(p vs e:Int)(g j:Option Addr)(f b h i:Nat)(a:Option Addr)(n c:Nat):(bj p vs e g j f b h i).set 3 (.k a n c)=bj p vs e g a f b n c:=rfl
def OQ(p vs h:Int)(f g:Option Addr)(c b a e:Nat)(q:Int):(bj p vs h f g c b a e).set 15 (ι q)=bj p vs q f g c b a e:=rfl
def vc.lt{W:U}{b:Nat}(h:vc W b):b<W.o.q:=by obtain⟨c,a,_⟩:=h;exact a.lt
def Uz(W:U)(b:Nat)(p vs f:Int)(l m:Option Addr)(g e a i:Nat)(h:vc W b):(storeCells (δ b) (bj p vs f l m g e a i)).run e_ W=.ok () (dH W b (bj p vs f l m g e a i)):=
 run_storeCells_cells (P:=e_) b 0 (bj p vs f l m g e a i) 0 W (λj c=>(h.there j c).1) (λj c=>(h.there j c).2) (by simp[bj,O.oneCell'])
def Fg(w:U)(b:Nat)(p vs e:Int)(i j:Option Addr)(f c a g:Nat)(h:b=w.o.q):vc (w.C (.E (bj p vs e i j f c a g).F 310)) b:=⟨_,U3.newAt _ _ _ _ h,rfl⟩
def Ca(w:U)(b:Nat)(o:Obj)(h:vc w b):vc (w.C o) b:=by obtain⟨c,a,e⟩:=h;exact⟨c,a.u ((zn _ _).C (ze _) o),e⟩
def JW(w:U)(b:Nat):vc w.drew b↔vc w b:=Iff.rfl
def rW(w:U)(p vs c:Int)(g h:Option Addr)(e b a f:Nat):vc (w.C (.E (bj p vs c g h e b a f).F 310)) w.o.q:=Fg _ _ _ _ _ _ _ _ _ _ _ rfl
def Ha(w:U)(o:Obj)(p vs c:Int)(g h:Option Addr)(e b a f:Nat):vc ((w.C o).C (.E (bj p vs c g h e b a f).F 310)) (w.o.q+1):=Fg _ _ _ _ _ _ _ _ _ _ _ ζ
def iH(w:U)(o:Obj)(p vs c:Int)(g h:Option Addr)(e b a f:Nat):vc ((w.C (.E (bj p vs c g h e b a f).F 310)).C o) w.o.q:=Ca _ _ _ (rW _ _ _ _ _ _ _ _ _ _)
def eD.mk'{a:U}{f:Option Addr}{e b n g:Nat}(i:vc W jb)(m:U3 W g (madeCells #[.u Y,ι 0,ι 0,ι 0] (n*4)) 323)(h:jb≠g)(j:a.o.q<=jb)(l:a.o.q<=g)(c:μ a W):eD a (dH W jb (bj (r.g.o:Nat) (r.m:Nat) (xQ r r.m) f (Z (δ g)) e b n n)) r (.k f e b) n ((π jb)):=by
 refine⟨jb,g,rfl,j,l,rR i rfl,m.save (tu _ _ _) υ,c.A ((tu _ _ _).u υ c.q)⟩
attribute [local go_sem] tZ Mz LY Rt L9 Nf OQ Uz rW Ha iH Ca JW
def mQ(qc:List zm)(k:Nat):Int:=if (qc.G k).any (λT=>T.count == 0) then -1 else 0
def MI(qc:List zm)(k:Nat)(a:k<qc.j):mQ qc (k+1)=if qc[k].count=0 then -1 else mQ qc k:=by
 unfold mQ;rw[yF a,List.any_append];by_cases h:qc[k].count=0;simp[h];simp[h]
def ND(qc:List zm):mQ qc qc.j=gQ qc:=by simp[mQ,gQ]
def Eb(UO:List (Nat×Φ))(n k:Nat)(b:k<=n)(a:n=UO.j):(j6 UO n k).j=n:=by simp[j6];omega
def NK(UO:List (Nat×List Nat))(n k:Nat)(c:k<n)(g:UO.j=n):(yH (j6 UO n k)).set (k*4) (.u (Z ⟨(UO[k]'(by omega)).1,0,Y⟩))=yH (j6 UO n (k+1)):=by
 rw[F2 _ _ (by rw[Eb UO n k (by omega) g.symm];exact c)];congr 1;unfold j6;obtain⟨m,f⟩:∃m,n-k=m+1:=⟨n-k-1,by omega⟩;rw[f,p8,show n-(k+1)=m from by omega,yF (show k<UO.j by omega),uY,jt];have a:((UO.G k).map (λx=>(WK x.1,(ι 0:O),(ι 0:O),(ι 0:O)))).j=k:=by simp;omega
 apply ni;intro i;rw[List.getElem?_modify];by_cases e:k=i;subst e;rw[gJ (by omega),gJ (by omega),a,vF];simp[oJ,WK];rcases dE i k with h|h;rw[sw (by omega),sw (by omega)];simp[e];rw[gJ (by omega),gJ (by omega),a];obtain⟨j,b⟩:∃j,i-k=j+1:=⟨i-k-1,by omega⟩;rw[b];simp[e]
def kz(r:zv)(qx:List zm)(k:Nat):List iG:=((r.qx.zip qx).G k).map λx=>⟨x.1,vo x.1,x.2⟩
def R9(r:zv)(qx:List zm)(k:Nat)(a:k<r.qx.j)(b:k<qx.j):kz r qx (k+1)=kz r qx k++[⟨r.qx[k],vo r.qx[k],qx[k]⟩]:=by
 unfold kz;rw[yF υ,uY];simp
def Pc(r:zv)(qx:List zm)(k:Nat)(a:k<=r.qx.j)(b:k<=qx.j):(kz r qx k).j=k:=by simp[kz];omega
def Rf(r:zv)(qx:List zm)(bps:List (O×Nat×Φ))(k:Nat)(b:k<r.qx.j)(c:k<qx.j)(a:bps.j=k)(tv:O)(tb:Nat)(fp:Φ):yH (h_ dA (kz r qx (k+1)) (bps++[(tv,tb,fp)]))=yH (h_ dA (kz r qx k) bps)++[ι (r.qx[k].o:Nat),tv,ι (vo r.qx[k]:Nat),(π tb)]:=by
 rw[R9 r qx k b c,iT (by rw[Pc r qx k η η,a])];simp only[l7,List.zipWith_nil_right];rw[Ry];rfl
def mE(lo:Nat)(w:U)(r:zv)(nts:List (Nat×List Nat))(bps:List (O×Nat×List Nat))(k:Nat):Prop:=bps.j=k/\∀i (_:i<k) (c:i<bps.j) (b:i<r.qx.j) (a:i<nts.j),yx lo w bps[i].1 r.qx[i].v/\bps[i].2=nts[i]
def mE.snoc(h:mE lo w r nts bps k)(l:k<r.qx.j)(m:k<nts.j)(j:yx lo w tv r.qx[k].v):mE lo w r nts (bps++[(tv,nts[k].1,nts[k].2)]) (k+1):=by
 obtain⟨f,g⟩:=h;refine⟨by simp[f],λi a b c d=>?_⟩;by_cases e:i<k;rw[uI η];exact g i e η c d;obtain rfl:i=k:=η;simp only[←f,n4];subst f;exact⟨j,trivial⟩
def UQ(B:Nat)(w:U)(r:zv)(hvs:List O)(k:Nat):Prop:=∀p (_:p<k) (_:p<hvs.j),w.r B 327 2 hvs[p] (xx r p).j (g5 (xx r p))
def UQ.u{B:Nat}(h:UQ B w r hvs k)(c:μ w w'):UQ B w' r hvs k:=λp a b=>zy (h p a b) c
def UQ.saveT{B:Nat}{T:f_}{M:Φ}(h:UQ B w r hvs k)(hs:zc M w w')(c:UP w T M)(e:327≠T):UQ B w' r hvs k:=λp a b=>yR (h p a b) hs c e
def UQ.set{B:Nat}{w:U}{r:zv}{hvs:Γ}{k:Nat}{c:O}(h:UQ B w r hvs k)(f:w.r B 327 2 c (xx r k).j (g5 (xx r k))):UQ B w r (hvs.set k c) (k+1):=λp a b=>by
 by_cases e:p=k
 .subst e;rw[mY];exact f
 .rw[nD (Ne.symm e)];exact h p η (by simpa using b)
def vr.E{g:U}{f:Nat}(h:vr lo g w f jb r tv sv bv hvs ji d):jb<w.o.q/\(∀o,w.frozen? (ω jb o)=false)/\w.p (ω jb 3)=Z sv/\w.p (ω jb 4)=Z bv/\w.p (ω jb 26)=Z (ι d)/\(∀k,k<5->w.p (ω jb (5+k))=Z (hvs.getD k (.i false)))/\(∀k,k<5->w.p (ω jb (10+k))=Z (ι (ji.getD k 0))):=by
 obtain⟨a,l⟩:=h.box.H;obtain⟨i,m,c,e,j⟩:=KH (r:=r) (tv:=tv) (sv:=sv) (bv:=bv) (d:=d) h.hlen h.blen;exact⟨h.box.lt,l,(a _).A i,(a _).A m,(a _).A c,λk b=>(a _).A (e k b),λk b=>(a _).A (j k b)⟩
def T1(qc:List zm)(UO:List (Nat×Φ))(h:UO.j=qc.j):j6 UO qc.j qc.j=h_ f8 (qc.map λT=>(⟨T,[0,0,0]⟩:xa)) UO:=by
 apply ni;intro i;rw[List.getElem?_zipWith];by_cases a:i<qc.j;simp[j6,←h,f8,WK,List.getElem?_map,o_ (show i<qc.j from a),o_ (show i<UO.j by omega)];simp[j6,←h,p_ (show qc.j<=i by omega),p_ (show UO.j<=i by omega)]
def IK(r:zv)(qx:List zm)(h:qx.j=r.qx.j):kz r qx r.qx.j=(r.qx.zip qx).map λx=>⟨x.1,vo x.1,x.2⟩:=by
 unfold kz;rw[yO υ]
def mE.all(h:mE lo w r nts bps k)(b:k=nts.j/\k=r.qx.j):bps.map (·.2)=nts:=by
 obtain⟨e,a⟩:=h;apply qR;simp[e,b.1];intro i f c;rw[xM];exact(a i η η η c).2
def E2{y C:Nat}{v D o n:O}{g:Nat}{qc qx:List zm}{UO:List (Nat×Φ)}(j:μ w W)(c:lo<=w.o.q)(h:vQ lo w tv v D r)(l:lH y lo w o qc UO)(u:lH C lo w n qx nts)(s:qx.j=r.qx.j)(B:hvs.j=5)
  (A:UQ w.o.q W r hvs 5) (hs:W.r w.o.q 323 4 (sl g qc.j) qc.j (yH (j6 UO qc.j qc.j))) (t:W.r w.o.q 325 4 bv r.qx.j (yH (h_ dA (kz r qx r.qx.j) bps))) (f:mE lo w r nts bps r.qx.j):kd lo W (vG r qc qx d) ⟨tv,sl g qc.j,bv,hvs,UO,bps⟩:=by
 have i:=l.len;have G:=u.len;have F:=f.1;have e:((r.qx.zip qx).map λx=>(⟨x.1,vo x.1,x.2⟩:iG)).j=r.qx.j:=by simp;omega
 refine⟨h.g.u j,?_,by simp[vG,i],?_,by simp[vG],?_,by simp only[vG];omega,?_,⟨B,by simp[vG]⟩,?_,by simp[vG],?_⟩;rw[T1 qc UO i] at hs;have:=yq hs c;simpa [vG] using this;intro k a b;simp only[vG,xv] at a;have:=(l.tries k a b).u j;simpa [vG] using this;rw[IK r qx s] at t;have:=yq t c;simp only[vG];rw[e];exact this;intro k a b;simp only[vG] at a;rw[e] at a;obtain⟨E,m⟩:=f.2 k a b a η;have z:=(u.tries k η η).u j;simp only[vG,xM,List.getElem_zip];exact⟨E.u j,by rw[m];exact z⟩;intro p a b;simp only[vG,xv,pG] at a;have q:=yq (A p a b) c;have m:=KR r p (h.qc.len) η;simp only[vG,xM,fT];exact⟨q,m⟩;simp only[vG,xv];have:=l.M;have:=h.qx.len;have:=h.small.2.1;refine⟨η,by simp;omega,η⟩
def eM{c:Func}{t:Tmp}{f:f_}(h:c.results=#[.cell t f])(a:Array O)(P:Program)(w:U)(b o:Nat)(e:a.getD t undef=.u (Z (ω b o))){v:O}(g:(loadVar f (ω b o)).run P w=.ok v w):(results c a).run P w=.ok v w:=by
 rw[Array.getD_eq_getD_getElem?] at e;simp[results,h,e,asAddr,g]
def U3.range{b:Nat}{T:f_}(h:U3 w b cs.F T):w.rangeAt b 0 cs:=λj v a=>by
 rw[uM,h.H.1];simpa using a
def Fj(r:zv)(tv sv bv:O)(hvs:Γ)(ji:List Int)(d:Int)(a:hvs.j=5)(b:ji.j=5):(jc r tv sv bv hvs ji d).j=28:=by
 simp[jc,a,b]
def Fw(c:tv.oneCell'=true)(f:sv.oneCell'=true)(e:bv.oneCell'=true)(b:∀u∈hvs,u.oneCell'=true):∀u∈jc r tv sv bv hvs ji d,u.oneCell'=true:=by
 intro u a;simp only[jc,zW,z7,z9,n6,or_false] at a;rcases a with ((((((a|a)|⟨_,_,a⟩)|a)|⟨_,_,a⟩)|⟨_,_,a⟩)|a)
 rcases a with rfl|rfl|rfl|rfl|rfl<;>first|rfl|assumption
 exact b u a;subst a;rfl;subst a;rfl;subst a;rfl;subst a;rfl;rcases a with rfl|rfl<;>rfl
def UQ.one{B:Nat}(h:UQ B w r hvs 5)(g:hvs.j=5):∀u∈hvs,u.oneCell'=true:=by
 intro u c;obtain⟨p,b,rfl⟩:=uT c;obtain⟨f,a,e⟩:=zq (h p η b);rw[e];rfl
def rS{b:U}{a:Nat}(h:vr lo b w a jb r tv sv bv hvs ji d):vc w a:=h.res
def yc.saveJ{tb:Nat}{T:zm}{fp M:Φ}(h:yc lo w tb T fp)(hs:zc M w w')(a:UP w 310 M):yc lo w' tb T fp:=h.save hs λb g e=>by
 obtain⟨c,f⟩:=a b e;exact h.notin f θ θ θ g
def kd.saveJ{w w':U}{J:zF}{P:xP}{M:Φ}(h:kd lo w J P)(hs:zc M w w')(c:UP w 310 M):kd lo w' J P:=
 ⟨h.g.saveT hs c θ,yR h.ja hs c θ,h.slen,λk a b=>(h.tries k a b).saveJ hs c,h.B,yR h.bars hs c θ,h.blen,λk a b=>⟨(h.jk k a b).1.saveT hs c θ,(h.jk k a b).2.saveJ hs c⟩,h.hlen,λp a b=>⟨yR (h.jf p a b).1 hs c θ,(h.jf p a b).2⟩,h.jl,h.M⟩
def Qh{b1 b2:Nat}(w:U)(r:zv)(tv pv nv bG bS:O)(qc qx:List zm)(UO nts:List (Nat×List Nat))(h:vQ lo w tv pv nv r)(hp:lH b1 lo w bG qc UO)(hn:lH b2 lo w bS qx nts)(bX:qx.j=r.qx.j)(bE:lo<=w.o.q):
  c_ e_ 214 #[gH r tv pv nv,bG,bS] w λe w'=>∃P,e=ε (.agg (uL (xL r qc qx) P).F)/\kd lo w' (xL r qc qx) P/\P.tbs=UO/\P.bps.map (·.2)=nts/\μ w w':=by
 obtain⟨iS,cQ,cA,cg,ca⟩:=info_parts TQ;obtain⟨iB,cH,da,c0,cz⟩:=info_parts Ux;have HR:=U2 h;have HP:=U2 hp;have HN:=U2 hn;obtain⟨d3,di,rfl⟩:=zq hp.own;obtain⟨d0,dc,rfl⟩:=zq hn.own;obtain⟨j,b,rfl⟩:=h.g.qm;obtain⟨C,o,rfl⟩:=h.qc.qm;obtain⟨D,n,rfl⟩:=h.qx.qm;have d2:=hp.M;have du:=hn.M;have dt:=h.small.2.1;have cj:=λW:U=>run_make (P:=e_) (w:=W) 305 323 iS _ underlying305 cQ cA .i64 .i64 (qc.j:Int) (qc.j:Int) (by omega) (Int.le_refl _) (by rw[ca];omega) (by omega);rw[cg] at cj;have bw:X (∀W (kn:Int),μ w W->c_ e_ 220 #[.agg #[ι r.L,ι r.m,ι r.g.o,.k j r.g.v.j b,.k C r.qc.j o,.k D r.qx.j n],ι kn] W λe w'=>e=ε (ι (xQ r kn))/\μ W w'):=λW kn hW=>Lt W _ _ _ r kn (h.u hW);have bZ:X (∀W (pl:Nat),pl<=1000000->μ w W->c_ e_ 221 #[.agg #[ι r.L,ι r.m,ι r.g.o,.k j r.g.v.j b,.k C r.qc.j o,.k D r.qx.j n],ι pl] W λe w'=>∃hv,e=.returned hv/\w'.r W.o.q 327 2 hv (xx r pl).j (g5 (xx r pl))/\μ W w'):=λW pl cK hW=>SS W _ _ _ r pl (h.u hW) cK;have aY:=U2 bE;have aG:=U2 bX;unfold gH;clear h hp hn bE bX;have ah:=(U3.new w #[ι r.L,ι r.m,ι r.g.o,.k j r.g.v.j b,.k C r.qc.j o,.k D r.qx.j n] 207).u ((zn _ _).C (ze _) (.E (bj 0 0 0 Y Y 0 0 0 0).F 310));have V:=U3.new (w.C (.E #[ι r.L,ι r.m,ι r.g.o,.k j r.g.v.j b,.k C r.qc.j o,.k D r.qx.j n] 207)) (bj 0 0 0 Y Y 0 0 0 0).F 310;have bu:μ w ((w.C (.E #[ι r.L,ι r.m,ι r.g.o,.k j r.g.v.j b,.k C r.qc.j o,.k D r.qx.j n] 207)).C (.E (bj 0 0 0 Y Y 0 0 0 0).F 310)):=(by go_grown);simp only[k_] at V;go_enter func214,ntmps214;go_upto_region 1 with fail
 generalize (w.C (.E #[ι r.L,ι r.m,ι r.g.o,.k j r.g.v.j b,.k C r.qc.j o,.k D r.qx.j n] 207)).C (.E (bj 0 0 0 Y Y 0 0 0 0).F 310)=wA at *;obtain⟨c5,bc,bm⟩:=ah.I;have cI:=bu.q;go_cut [7] from 13 to 24 (λs7 wx=>eD wA wx r (.k j r.g.v.j b) qc.j s7)
 case first=>
  go_region_held3 (λw'=>w'.p ⟨w.o.q,0,Y⟩=Z (ι r.L)/\w'.p ⟨w.o.q,1,Y⟩=Z (ι r.m)/\w'.p ⟨w.o.q,2,Y⟩=Z (ι r.g.o)/\w'.p ⟨w.o.q,3,Y⟩=Z (.k j r.g.v.j b)/\w'.p ⟨w.o.q,4,Y⟩=Z (.k C r.qc.j o)/\w'.p ⟨w.o.q,5,Y⟩=Z (.k D r.qx.j n)) (first|go_keep|(go_simp;done)|(go_split_ands;refine⟨?_,?_,?_,?_,?_,?_⟩<;>(rw[gx _ _ _ _ _ (by simp;omega)];simp[*]))) (first|(go_at_call 220;refine(bw.l _ _ (by exact(by go_grown))).y ?_;rintro e w1 ⟨rfl,J⟩;have be:μ wA w1:=(zJ (by go_grown) J (ze _));have c3:=ah.u be;obtain⟨dd,dq,dn⟩:=c3.I;have cV:=be.q;(first|((with_reducible refine U3.carry (U3.drew (U3.newAt (wA.C (.E (madeCells #[.u Y,ι 0,ι 0,ι 0] (qc.j*4)) 323)) (wA.o.q+1) (bj 0 0 0 Y Y 0 0 0 0).F 310 (k_ _ _).symm)) J ?_);intro ag;have ax:vc w1 (wA.o.q+1):=⟨_,ag,rfl⟩;clear ag;(with_reducible refine U3.carry (U3.drew (U3.u (U3.new wA (madeCells #[.u Y,ι 0,ι 0,ι 0] (qc.j*4)) 323) ((zn _ _).C (ze _) (.E (bj 0 0 0 Y Y 0 0 0 0).F 310)))) J ?_);intro av)|((with_reducible refine U3.carry (U3.drew (U3.u (U3.new wA (bj 0 0 0 Y Y 0 0 0 0).F 310) ((zn _ _).C (ze _) (.E (madeCells #[.u Y,ι 0,ι 0,ι 0] (qc.j*4)) 323)))) J ?_);intro ag;have ax:vc w1 wA.o.q:=⟨_,ag,rfl⟩;clear ag;(with_reducible refine U3.carry (U3.drew (U3.newAt (wA.C (.E (bj 0 0 0 Y Y 0 0 0 0).F 310)) (wA.o.q+1) (madeCells #[.u Y,ι 0,ι 0,ι 0] (qc.j*4)) 323 (k_ _ _).symm)) J ?_);intro av)|((with_reducible refine U3.carry (U3.drew (U3.new wA (bj 0 0 0 Y Y 0 0 0 0).F 310)) J ?_);intro ag;have ax:vc w1 wA.o.q:=⟨_,ag,rfl⟩;clear ag)|((with_reducible refine U3.carry (U3.drew (U3.new wA (madeCells #[.u Y,ι 0,ι 0,ι 0] (qc.j*4)) 323)) J ?_);intro av)|skip)))
  all_goals
   go_wp2_with fail
   go_meet
   apply eD.mk';first|exact Ha _ _ _ _ _ _ _ _ _ _ _|exact iH _ _ _ _ _ _ _ _ _ _ _|exact rW _ _ _ _ _ _ _ _ _ _|exact ax|exact Ca _ _ _ ax
   first|exact av|exact U3.u (U3.new w1 _ _) zQ|exact U3.newAt _ _ _ _ (k_ _ _).symm|exact U3.new w1 _ _|exact U3.u av zQ
   first|omega|(have:=av.lt;omega)|(have:=ax.lt;omega)
   omega;omega;exact(zJ be (by go_grown) (ze _))
 clear cj;obtain⟨jb,g,rfl,db,cD,bx,bn,aI⟩:=hcut;have cr:jb≠w.o.q+1:=by have:=V.lt;omega
 have hM:vr lo w wc (w.o.q+1) jb r (.k j r.g.v.j b) (sl g qc.j) (ν) oa (kO r 0) 0:=⟨bx,rfl,rfl,⟨_,V.u aI,rfl⟩,U6 bu aI,by omega,by omega,cr⟩;have H:=U2 hM;have HH:X (UQ w.o.q wc r oa 0):=λp a=>by omega
 have HG:=U2 bn;have I:=U2 (ah.u aI);have dw:w.o.q<jb:=by omega
 have dz:w.o.q<g:=by omega
 have dx:g≠jb:=by
  intro e;subst e;exact zC (bn.type bx) (by decide)
 have d4:g≠w.o.q+1:=by have:=V.lt;omega
 clear hM bx bn aI ah V bu c5 bc bm cI db cD;go_wp2;go_loopw [25] (λcU wr=>∃(k:Nat) (hvs:List O),k<=5/\cU=ι k/\X (vr lo w wr (w.o.q+1) jb r (.k j r.g.v.j b) (sl g qc.j) (ν) hvs (kO r k) 0)/\X (UQ w.o.q wr r hvs k)/\X (U3 wr g (madeCells #[.u Y,ι 0,ι 0,ι 0] (qc.j*4)) 323)/\X (U3 wr w.o.q #[ι r.L,ι r.m,ι r.g.o,.k j r.g.v.j b,.k C r.qc.j o,.k D r.qx.j n] 207)) (λi _=>5-(d_ i).toNat)
 case atStart=>exact⟨0,oa,by omega,rfl,H,HH,HG,I⟩
 clear H HH HG I;obtain⟨k,hvs,hk,rfl,H,HH,HG,I⟩:=hrel;have E:=H.l.u;have ao:=E.q;by_cases t:k<5
 .have cf:(k:Int)<5:=by omega
  have ar:=I.l;obtain⟨aD,aA,aE⟩:=ar.I;have aK:=U2 λW hW=>bZ.l W k (by omega) (U6 E hW);have bI:=U2 λW hW=>bw.l W (k:Nat) hW;have aV:=U2 (S8 r k t);generalize xQ r (k:Nat)=bk at *;generalize bN:xx r k=hj at *;have cW:=U2 bN;clear bN;go_upto_region 6 with (first|(go_at_call 221;refine(aK.l _ (by exact(by go_grown))).y ?_;rintro e G ⟨hv,rfl,ai,l⟩;obtain⟨a1,ac,rfl⟩:=zq ai;have m:=H.l.next l;obtain⟨a5,a4,_,_,_,cl,_⟩:=m.E;have aR:=cl k t;clear cl;generalize hvs.getD k (.i false)=ov at aR))
  have ab:=ar.u l;have ci:=HG.l.u l;have a2:=HH.l.u l;have cT:=l.q;have A:zc [jb] G (G.x ⟨jb,5+k,Y⟩ (.k a1 hj.j ac)):=zc.set _ _ _ _;have f:=m.hold k t (.k a1 hj.j ac);have aQ:=ab.saveT A (UP.box m.box) (by decide);have bJ:=ci.saveT A (UP.box m.box) (by decide);have L:UQ w.o.q _ r (hvs.set k (.k a1 hj.j ac)) (k+1):=(a2.set (by rw[cW.l];exact yq ai (by omega))).saveT A (UP.box m.box) (by decide);generalize G.x ⟨jb,5+k,Y⟩ (.k a1 hj.j ac)=w3 at *;clear A ab ci a2 m aR a4 a5 ar aD aA aE ai aK;generalize hvs.set k (.k a1 hj.j ac)=ck at *;have b8:=U2 f;have cJ:=U2 L;have cF:=U2 bJ;clear f L bJ H HH HG I;obtain⟨aD,aA,aE⟩:=aQ.I;have ah:=b8.l.u;have ds:=ah.q;go_wp2_with (go_at_call 220;refine(bI.l _ (by exact ah)).y ?_;rintro e w4 ⟨rfl,af⟩;have al:=b8.l.next af;obtain⟨dv,dr,_,_,_,_,bA⟩:=al.E;have cb:=bA k t;clear bA;generalize (kO r k).getD k 0=ob at cb)
  have bd:zc [jb] w4 (w4.x ⟨jb,10+k,Y⟩ (ι bk)):=zc.set _ _ _ _;have bT:=al.back k t bk;rw[aV.l] at bT;go_roundw;exact⟨k+1,ck,by omega,by go_num,bT,(cJ.l.u af).saveT bd (UP.box al.box) (by decide),(cF.l.u af).saveT bd (UP.box al.box) (by decide),(aQ.u af).saveT bd (UP.box al.box) (by decide)⟩;simp[d_];omega
 obtain rfl:k=5:=by omega
 rw[show((5:Nat):Int)=5 from rfl];clear hk t bZ bw;have b4:X (wr.r w.o.q 323 4 (sl g qc.j) qc.j (yH (j6 UO qc.j 0))):=by
  have q:=Ss (lo:=w.o.q) HG.l (by omega) (by unfold maxLen;omega);have e:j6 UO qc.j 0=List.replicate qc.j (O.pointer Y,O.int .i64 0,O.int .i64 0,O.int .i64 0):=by simp[j6,oJ]
  rw[X,e];exact q
 clear HG;have cM:X (mQ qc 0=0):=rfl;go_wp2;have cd:X (vr lo w wr (w.o.q+1) jb r (.k j r.g.v.j b) (sl g qc.j) (ν) hvs (kO r 5) (mQ qc 0)):=H;clear H cM;go_loopw [43] (λc9 wr=>∃(k:Nat),k<=qc.j/\c9=ι k/\X (vr lo w wr (w.o.q+1) jb r (.k j r.g.v.j b) (sl g qc.j) (ν) hvs (kO r 5) (mQ qc k))/\X (UQ w.o.q wr r hvs 5)/\X (wr.r w.o.q 323 4 (sl g qc.j) qc.j (yH (j6 UO qc.j k)))/\X (U3 wr w.o.q #[ι r.L,ι r.m,ι r.g.o,.k j r.g.v.j b,.k C r.qc.j o,.k D r.qx.j n] 207)) (λi _=>qc.j-(d_ i).toNat)
 case atStart=>exact⟨0,zs _,rfl,cd,HH,b4,I⟩
 clear cd HH b4 I E ao;obtain⟨k,hk,rfl,H,HH,HS,I⟩:=hrel;have E:=H.l.u;have ao:=E.q;by_cases t:k<qc.j
 .have b9:k<UO.j:=by have:=HP.l.len;omega
  obtain⟨gp,c6,aW,cL,c2⟩:=HP.l.cell k t b9;simp only[n_] at aW;have ch:=aW.1;clear aW;subst ch;have aX:=zi E cL c2;have dh:gp<wr.o.q:=by omega
  obtain⟨bp,bf,bP,_,_,_,_⟩:=H.l.E;have bB:wr.p ⟨jb,3,Y⟩=Z (.k (Z ⟨g,0,Y⟩) qc.j qc.j):=bP;have hS:wr.r w.o.q 323 4 (.k (Z ⟨g,0,Y⟩) qc.j qc.j) qc.j (yH (j6 UO qc.j k)):=HS.l;have cf:(k:Int)<(qc.j:Int):=by omega
  have cZ:=Eb UO qc.j k hk (by have:=HP.l.len;omega);obtain⟨sx,cC⟩:∃sx,wr.p ⟨g,k*4,Y⟩=Z sx:=by
   obtain⟨g',df,cu,_,_,cx⟩:=yt hS (by omega);simp only[n_,zt,Addr.mk.injEq,and_true] at cu;have cG:=cu.1;subst cG;exact⟨_,cx (k*4) _ (tF (j6 UO qc.j k) k (by omega)).1⟩
  have c8:=uv hS;have az:=um hS (k*4) (by rw[eL];omega) (.u (Z ⟨UO[k].1,0,Y⟩));have cm:X ((yH (j6 UO qc.j k)).set (k*4) (.u (Z ⟨UO[k].1,0,Y⟩))=yH (j6 UO qc.j (k+1))):=NK UO qc.j k t HP.l.len;rw[cm.l] at az;have bF:=U2 λW hW=>DJ W UO[k].1 qc[k] UO[k].2 ((HP.l.tries k t b9).u hW);have aF:=U2 (MI qc k t);have bh:zc [g] wr (wr.x ⟨g,k*4,Y⟩ (.u (Z ⟨UO[k].1,0,Y⟩))):=zc.set _ _ _ _;have bq:UP wr 323 [g]:=λx hx=>by simp at hx;subst hx;exact kx hS rfl
  have m:=H.l.save bh (λx hx=>by simp at hx;omega) ⟨by simp;omega,by simp;omega⟩;have a2:=HH.l.saveT bh bq (by decide);have ab:=I.l.saveT bh bq (by decide);generalize UO[k].1=tb at *;generalize qc[k].count=ct at *;clear bP c2 cm hS cZ;go_upto_region 12 with fail
  generalize wr.x ⟨g,k*4,Y⟩ ((π tb))=G at *;have l:=m.u;clear aX bp bf bB cC c8 H HH HS I;obtain⟨a5,a4,_,_,aL,_,_⟩:=m.E;have am:=U2 m;have a9:=U2 a2;have aN:X (U3 G w.o.q _ 207):=ab;clear m a2 ab bq;generalize cN:mQ qc k=dk at *;clear cN;by_cases b0:ct=0
  .subst b0;simp only[if_true] at aF;have A:zc [jb] G (G.x ⟨jb,26,Y⟩ (ι (-1))):=zc.set _ _ _ _;have f:=am.l.ql (-1);have F:=UP.box am.l.box;go_wp2_with (go_at_call 209;refine(bF.l _ (by exact l)).y ?_;rintro e w3 ⟨rfl,bo⟩;obtain rfl:=bo.symm)
   go_roundw;exact⟨k+1,by omega,by go_num,by rw[aF.l];exact f,a9.l.saveT A F (by decide),yR az A F (by decide),aN.l.saveT A F (by decide)⟩;simp[d_];omega
  rw[za b0] at aF;have d1:((ct:Int) == 0)=false:=by rw[beq_eq_false_iff_ne];omega
  go_wp2_with (go_at_call 209;refine(bF.l _ (by exact l)).y ?_;rintro e w3 ⟨rfl,bo⟩;obtain rfl:=bo.symm)
  go_roundw;exact⟨k+1,by omega,by go_num,by rw[aF.l];exact am,a9,az,aN⟩;simp[d_];omega
 obtain rfl:k=qc.j:=by omega
 rw[ND] at H;clear hk t;have ar:=I.l;obtain⟨aD,aA,aE⟩:=ar.I;go_wp2;clear aD aA aE ar;have bC:X (wr.r w.o.q 325 4 (ν) 0 (yH (h_ dA (kz r qx 0) []))):=xj _ _ _ _;have aM:X (mE lo w r nts [] 0):=⟨rfl,λi a=>by omega⟩;go_loopw [62] (λc4 wr=>∃(k:Nat) (bv:O) (bps:List (O×Nat×List Nat)),k<=r.qx.j/\c4=ι k/\X (vr lo w wr (w.o.q+1) jb r (.k j r.g.v.j b) (sl g qc.j) bv hvs (kO r 5) (gQ qc))/\X (UQ w.o.q wr r hvs 5)/\X (wr.r w.o.q 323 4 (sl g qc.j) qc.j (yH (j6 UO qc.j qc.j)))/\X (wr.r w.o.q 325 4 bv k (yH (h_ dA (kz r qx k) bps)))/\X (mE lo w r nts bps k)) (λi _=>r.qx.j-(d_ i).toNat)
 case atStart=>exact⟨0,_,[],zs _,rfl,H,HH,HS,bC,aM⟩
 clear H HH HS bC aM I E ao;obtain⟨k,bv,bps,hk,rfl,H,HH,HS,HB,a3⟩:=hrel;have E:=H.l.u;have ao:=E.q;by_cases t:k<r.qx.j
 .have bV:k<qx.j:=by rw[aG.l];exact t
  have b7:k<nts.j:=by have:=HN.l.len;omega
  obtain⟨gl,M,z,cX,aS,cp,ce,aC⟩:=HR.l.qx.cell k t;subst cX;obtain⟨gn,cO,bt,bz,b5⟩:=HN.l.cell k bV b7;simp only[n_] at bt;have co:=bt.1;clear bt;subst co;have cf:(k:Int)<(r.qx.j:Int):=by omega
  have dp:(k:Int)<(qx.j:Int):=by omega
  have aX:=zi E aS cp;have cE:=zi E aS ce;have bM:=zi E bz b5;have de:gl<wr.o.q:=by omega
  have cn:gn<wr.o.q:=by omega
  have an:=HB.l;obtain⟨aB,ap,a8⟩:=zq an;subst a8;have cY:=U2 aC;have cv:X (∀W,μ w W->c_ e_ 222 #[.agg #[ι (r.qx[k].o:Nat),.k M r.qx[k].v.j z]] W λe w'=>e=ε (ι (vo r.qx[k]:Nat))/\μ W w'):=λW hW=>Ef W _ r.qx[k].o r.qx[k].v (aC.u hW);have aV:X (yH (h_ dA (kz r qx (k+1)) (bps++[(.k M r.qx[k].v.j z,nts[k].1,nts[k].2)]))=yH (h_ dA (kz r qx k) bps)++[ι (r.qx[k].o:Nat),.k M r.qx[k].v.j z,ι (vo r.qx[k]:Nat),.u (Z ⟨nts[k].1,0,Y⟩)]):=Rf r qx bps k t bV a3.l.1 _ _ _;have aq:=U2 (a3.l.snoc t b7 aC);clear cp ce b5 aC cY;generalize r.qx[k].o=pr at *;generalize r.qx[k].v.j=tl at *;generalize vo r.qx[k]=kn at *;generalize nts[k].1=tb at *;generalize nts[k].2=fp at *;go_upto_region 19 with fail
  have N:μ wr (wr.C (.E #[ι pr,.k M tl z] 204)):=(by go_grown);have aT:=U3.new wr #[ι pr,.k M tl z] 204;have aH:=H.l.next N;have bW:X (UQ _ _ r hvs 5):=HH.l.u N;have bU:X (U.ownsRow _ w.o.q 323 4 (sl g qc.j) qc.j _):=zy HS.l N;have aJ:=zy an N;have ay:=zi N cn bM;clear H HH HS HB an aX cE bM;generalize wr.C (.E #[ι pr,.k M tl z] 204)=w1 at *;generalize wr.o.q=lb at *;clear N E;have J:=aH.u;obtain⟨bp,bf,_,cy,_,_,_⟩:=aH.E;obtain⟨bH,cP,dl⟩:=aT.I;have bY:=U2 aH;clear aH;have cV:=J.q;refine wp_region_noPanic ?_;refine A7 (S:=λw'=>w'.p ⟨jb,4,Y⟩=Z (.k aB k ap)/\w'.p ⟨lb,0,Y⟩=Z (ι pr)/\w'.p ⟨lb,1,Y⟩=Z (.k M tl z)/\w'.p ⟨gn,k,Y⟩=Z ((π tb))) (d:=13) (by kernel_rfl) (by refine⟨cy,?_,?_,ay⟩<;>(show w1.p _=_;rw[bH];rfl)) (λs=>?_);refine uA (i:=0) (v:=?v0) rfl (by kernel_rfl) (by kernel_rfl) (by kernel_rfl) (by kernel_rfl) (λ_ _ _ h=>h) (zh ⟨by rfl,?hy0⟩) s ?rest0
  case hy0=>
   intro wq aa;go_simp
   (try with_reducible rfl)
  refine uA (i:=1) (v:=?v1) rfl (by kernel_rfl) (by kernel_rfl) (by kernel_rfl) (by kernel_rfl) (λ_ _ _ h=>h) (zh ⟨by rfl,?hy1⟩) s ?rest1
  case hy1=>
   intro wq aa;go_simp
   (try with_reducible rfl)
  refine uA (i:=2) (v:=?v2) rfl (by kernel_rfl) (by kernel_rfl) (by kernel_rfl) (by kernel_rfl) (λ_ _ _ h=>h) (zh ⟨by rfl,?hy2⟩) s ?rest2
  case hy2=>
   intro wq aa;go_simp
   (try with_reducible rfl)
  refine uA (i:=3) (v:=?v3) rfl (by kernel_rfl) (by kernel_rfl) (by kernel_rfl) (by kernel_rfl) (λ_ _ _ h=>h) (zh ⟨by rfl,?hy3⟩) s ?rest3
  case hy3=>
   intro wq aa;go_simp
   (try with_reducible rfl)
  refine uA (i:=5) (v:=?v5) rfl (by kernel_rfl) (by kernel_rfl) (by kernel_rfl) (by kernel_rfl) (λ_ _ _ h=>h) (zh ⟨by rfl,?hy5⟩) s ?rest5
  case hy5=>
   intro wq aa;go_simp
   (try with_reducible rfl)
  refine uA (i:=6) (v:=?v6) rfl (by kernel_rfl) (by kernel_rfl) (by kernel_rfl) (by kernel_rfl) (λ_ _ _ h=>h) (zh ⟨by rfl,?hy6⟩) s ?rest6
  case hy6=>
   intro wq aa;go_simp
   (try with_reducible rfl)
  refine uA (i:=7) (v:=?v7) rfl (by kernel_rfl) (by kernel_rfl) (by kernel_rfl) (by kernel_rfl) (λ_ _ _ h=>h) (zh ⟨by rfl,?hy7⟩) s ?rest7
  case hy7=>
   intro wq aa;go_simp
   (try with_reducible rfl)
  refine uA (i:=8) (v:=?v8) rfl (by kernel_rfl) (by kernel_rfl) (by kernel_rfl) (by kernel_rfl) (λ_ _ _ h=>h) (zh ⟨by rfl,?hy8⟩) s ?rest8
  case hy8=>
   intro wq aa;go_simp
   (try with_reducible rfl)
  refine fI (i:=4) (by kernel_rfl) rfl (λK hK=>?_);go_simp
  refine(cv.l _ (by exact(zG J 1))).y ?_;rintro e G ⟨rfl,l⟩;have aj:=U6 (zG (zn _ _) 1) l;have m:=bY.l.next aj;have a9:X (UQ _ _ r hvs 5):=bW.l.u aj;have cS:X (U.ownsRow G w.o.q 323 4 (sl g qc.j) qc.j _):=zy bU.l aj;have B:=zy aJ aj;have aP:=aT.u aj;have a6:=(aj.cell (p:=⟨gn,k,Y⟩) (show gn<w1.o.q by omega)).A ay;have cT:=aj.q;have bQ:=m.u;obtain⟨a5,a4,_,c1,_,_,_⟩:=m.E;have am:=U2 m;obtain⟨ae,bD⟩:=aP.H;refine hK.l _ _ (λ_=>⟨c1,by rw[ae];rfl,by rw[ae];rfl,a6⟩) ?_;have T:G.p ⟨jb,4,Y⟩=Z (.k aB k ap)/\G.p ⟨lb,0,Y⟩=Z (ι pr)/\G.p ⟨lb,1,Y⟩=Z (.k M tl z)/\G.p ⟨gn,k,Y⟩=Z ((π tb)):=⟨c1,by rw[ae];rfl,by rw[ae];rfl,a6⟩;clear hK K s m bH cP bp bf cy ay bY bW bU l ae bD cv;refine uA (i:=9) (v:=?v9) rfl (by kernel_rfl) (by kernel_rfl) (by kernel_rfl) (by kernel_rfl) (λ_ _ _ h=>h) (zh ⟨by rfl,?hy9⟩) T ?rest9
  case hy9=>
   intro wq aa;go_simp
   (try with_reducible rfl)
  refine fI (i:=10) (by kernel_rfl) rfl (λK hK=>?_);go_simp
  refine hK.l _ _ (λ_=>?hS10) ?rest10
  case hS10=>obtain⟨q0,q1,q2,q3⟩:=T;refine⟨?_,?_,?_,?_⟩<;>(rw[U.cell?_alloc_lt _ _ _ (by simp;omega)];assumption)
  clear hK K;refine fI (i:=11) (by kernel_rfl) rfl (λK hK=>?_);refine fU G _ [ι pr,.k M tl z,ι kn,(π tb)] 325 rfl (.tmp 72) (.tmp 81) 306 rfl w.o.q 325 iB _ 4 48 underlying306 cH da c0 cz rfl (by decide) (.k aB k ap) k (yH (h_ dA (kz r qx k) bps)) (by simp[Act.eval]) B (by exact(by go_grown)) G.o.q 1 (by simp[Act.eval]) (by exact U3.new _ _ _) rfl (by simp[O.oneCell']) (by omega) (by omega) (by omega) ?_;intro v' w3 b3 ad dg dy dj;obtain⟨bR,aO,rfl⟩:=zq b3;have bb:=UP.own B;have f:=am.l.save ad (λx hx=>yZ B (yA hx)) ⟨vL B am.l.box (by decide),λhm=>by obtain⟨c,hc,_⟩:=am.l.res;exact vL B hc (by decide) hm⟩;have bK:=aP.saveT ad bb (by decide);have L:=a9.l.saveT ad bb (by decide);have A:=yR cS.l ad bb (by decide);obtain⟨a7,cq⟩:=bK.H;obtain⟨bm,bc,_,bO,_,_,_⟩:=f.E;have aU:=(f.u.cell (p:=⟨gn,k,Y⟩) bz).A ((bQ.cell (p:=⟨gn,k,Y⟩) bz).symm.A a6);have Q:w3.p ⟨jb,4,Y⟩=Z (.k aB k ap)/\w3.p ⟨lb,0,Y⟩=Z (ι pr)/\w3.p ⟨lb,1,Y⟩=Z (.k M tl z)/\w3.p ⟨gn,k,Y⟩=Z ((π tb)):=⟨bO,by rw[a7];rfl,by rw[a7];rfl,aU⟩;refine hK.l _ _ (λ_=>Q) ?_;clear hK K T;refine uA (i:=12) (v:=?v12) rfl (by kernel_rfl) (by kernel_rfl) (by kernel_rfl) (by kernel_rfl) (λ_ _ _ h=>h) (zh ⟨by rfl,?hy12⟩) Q ?rest12
  case hy12=>
   intro wq aa;go_simp
   (try with_reducible rfl)
  refine fI (i:=13) (by kernel_rfl) rfl (λK hK=>?_);go_simp
  refine hK.l _ _ (λhq=>zC rfl hq) ?_;clear hK K;refine Cd (by kernel_rfl) ?_ _;refine NoPanic.normal ?_;have R:zc [jb] w3 (w3.x ⟨jb,4,Y⟩ (.k bR (k+1) aO)):=zc.set _ _ _ _;have F:=UP.box f.box;have al:=f.bars (.k bR (k+1) aO);have c7:=L.saveT R F (by decide);have bL:=yR A R F (by decide);have b6:=yR b3 R F (by decide);rw[←aV.l] at b6;clear Q a7 cq bm bc bO aU;go_wp2;go_roundw;exact⟨k+1,_,_,by omega,by go_num,al,c7,bL,b6,aq⟩;simp[d_];omega
 have cR:k=r.qx.j:=by omega
 subst cR;clear hk t;have hJ:UT lo wr jb (vG r qc qx (gQ qc)) ⟨.k j r.g.v.j b,sl g qc.j,bv,hvs,UO,bps⟩:=kd.join (E2 E aY.l HR.l HP.l HN.l aG.l H.l.hlen HH.l HS.l HB.l a3.l) (by have:=aY.l;omega) H.l.box;have cw:X (c_ e_ 223 #[(π jb),ι 0] wr λe w'=>e=ε (.i (vx (vG r qc qx (gQ qc)) 0))/\μ wr w'):=Ge wr jb _ _ 0 hJ;have au:=U2 (QP r qc qx);have cc:X (∀(W:U) (d:Int),μ w W->UQ w.o.q W r hvs 5->W.r w.o.q 323 4 (sl g qc.j) qc.j (yH (j6 UO qc.j qc.j))->W.r w.o.q 325 4 bv r.qx.j (yH (h_ dA (kz r qx r.qx.j) bps))->kd lo W (vG r qc qx d) ⟨.k j r.g.v.j b,sl g qc.j,bv,hvs,UO,bps⟩):=λW d hW h1 h2 h3=>E2 hW aY.l HR.l HP.l HN.l aG.l H.l.hlen h1 h2 h3 a3.l;have aq:=U2 (mE.all a3.l (by have:=HN.l.len;have:=aG.l;omega));obtain⟨dm,cB,a8⟩:=zq HB.l;clear hJ;generalize vx (vG r qc qx (gQ qc)) 0=ba at *;cases ba
 .simp only[fh,if_false] at au;go_upto_region 23 with (first|(go_at_call 223;refine cw.l.y ?_;rintro e G ⟨rfl,l⟩))
  have f:=H.l.next l;have L:=HH.l.u l;have ad:=zy HS.l l;have aZ:=zy HB.l l;have a0:∀u∈jc r (.k j r.g.v.j b) (sl g qc.j) bv hvs (kO r 5) (gQ qc),u.oneCell'=true:=Fw rfl rfl (by rw[a8];rfl) (UQ.one L f.hlen);have y:=Fj r (.k j r.g.v.j b) (sl g qc.j) bv hvs (kO r 5) (gQ qc) f.hlen f.blen;have ak:=f;have bs:=cc.l G (gQ qc) f.u L ad aZ;have aw:(jc r (.k j r.g.v.j b) (sl g qc.j) bv hvs (kO r 5) (gQ qc))=uL (vG r qc qx (gQ qc)) ⟨.k j r.g.v.j b,sl g qc.j,bv,hvs,UO,bps⟩:=rfl;have br:=U2 aw;clear aw;have bg:=f.box;generalize jc r (.k j r.g.v.j b) (sl g qc.j) bv hvs (kO r 5) (gQ qc)=cs at *;refine wp_region_lit ?_;refine wpList_load_mid rfl 310 (.tmp 7) rfl jb 0 (by rfl) cs _ (bg.range) underlying310 rfl (by rw[y];exact Ug) ?_;refine wpList_store_mid rfl 310 (.tmp 6) (.tmp 87) rfl (w.o.q+1) 0 cs.F (by rfl) (by rfl) (by show U.there _ _ 0 cs.j;rw[y];exact(rS ak).there) (by show _=Z cs.j;rw[y];exact Ug) (all_oneCell_toArray a0) ?_;refine wpList_nil ?_;have R:zc [w.o.q+1] G (G.setCells (w.o.q+1) 0 cs):=zc.sets _ _ _ _;have V:U3 (G.setCells (w.o.q+1) 0 cs) (w.o.q+1) cs.F 310:=rR (rS ak) y;have bi:=bs.saveJ R (UP.box (rS ak).choose_spec.1);have af:=f.u.A (R.u (by simp) f.u.q);generalize G.setCells (w.o.q+1) 0 cs=w5 at *;go_wp2
  (try simp only[Exit.inBlock,Exit.then])
  refine zP (v:=.agg cs.F) (eM rfl _ _ _ _ _ (by rfl) (run_loadVar_mid w5 (w.o.q+1) 0 310 cs _ V.range underlying310 rfl (by rw[y];exact Ug))) rfl ⟨_,by rw[au.l,br.l],by rw[au.l];exact bi,rfl,aq.l,af⟩
 simp only[if_true] at au;go_upto_region 23 with (first|(go_at_call 223;refine cw.l.y ?_;rintro e G ⟨rfl,l⟩;have m:=H.l.next l;obtain⟨a5,a4,_,_,aL,_,_⟩:=m.E))
 have A:zc [jb] G (G.x ⟨jb,26,Y⟩ (ι (-1))):=zc.set _ _ _ _;have F:=UP.box m.box;have f:=m.ql (-1);have L:=(HH.l.u l).saveT A F (by decide);have ad:=yR (zy HS.l l) A F (by decide);have aZ:=yR (zy HB.l l) A F (by decide);generalize G.x ⟨jb,26,Y⟩ (ι (-1))=w3 at *;clear a5 a4 aL A F m l;have a0:∀u∈jc r (.k j r.g.v.j b) (sl g qc.j) bv hvs (kO r 5) (-1),u.oneCell'=true:=Fw rfl rfl (by rw[a8];rfl) (UQ.one L f.hlen);have y:=Fj r (.k j r.g.v.j b) (sl g qc.j) bv hvs (kO r 5) (-1) f.hlen f.blen;have ak:=f;have bs:=cc.l w3 (-1) f.u L ad aZ;have aw:(jc r (.k j r.g.v.j b) (sl g qc.j) bv hvs (kO r 5) (-1))=uL (vG r qc qx (-1)) ⟨.k j r.g.v.j b,sl g qc.j,bv,hvs,UO,bps⟩:=rfl;have br:=U2 aw;clear aw;have bg:=f.box;generalize jc r (.k j r.g.v.j b) (sl g qc.j) bv hvs (kO r 5) (-1)=cs at *;refine wp_region_lit ?_;refine wpList_load_mid rfl 310 (.tmp 7) rfl jb 0 (by rfl) cs _ (bg.range) underlying310 rfl (by rw[y];exact Ug) ?_;refine wpList_store_mid rfl 310 (.tmp 6) (.tmp 87) rfl (w.o.q+1) 0 cs.F (by rfl) (by rfl) (by show U.there _ _ 0 cs.j;rw[y];exact(rS ak).there) (by show _=Z cs.j;rw[y];exact Ug) (all_oneCell_toArray a0) ?_;refine wpList_nil ?_;have R:zc [w.o.q+1] w3 (w3.setCells (w.o.q+1) 0 cs):=zc.sets _ _ _ _;have V:U3 (w3.setCells (w.o.q+1) 0 cs) (w.o.q+1) cs.F 310:=rR (rS ak) y;have bi:=bs.saveJ R (UP.box (rS ak).choose_spec.1);have af:=f.u.A (R.u (by simp) f.u.q);generalize w3.setCells (w.o.q+1) 0 cs=w5 at *;go_wp2
 (try simp only[Exit.inBlock,Exit.then])
 refine zP (v:=.agg cs.F) (eM rfl _ _ _ _ _ (by rfl) (run_loadVar_mid w5 (w.o.q+1) 0 310 cs _ V.range underlying310 rfl (by rw[y];exact Ug))) rfl ⟨_,by rw[au.l,br.l],by rw[au.l];exact bi,rfl,aq.l,af⟩
end
section
open Go.Proofs.Tryz
variable {lo:Nat}
def Hr{l:zk}(h:mW l):0<(xb l).q:=by
 obtain⟨_,b,_,_⟩:=h;have a:0<(gV l).q:=by
  unfold gV;split;rw[g_];omega;exact b
 unfold xb;split;exact a;rw[g_,g_,g_];omega
def rh:ByteArray:=⟨#[46,10]⟩
def QH:rZ++pP=rh:=θ
def Qq{cs:Ξ}{k:Nat}(a:k<cs.j):kP (cs.G (k+1))=kP (cs.G k)++xb cs[k].g++Vi cs[k].d++rh:=by
 rw[Ds a,W9,←QH];simp only[ByteArray.append_assoc]
def jp.u{w w':U}{pb:Nat}{cs:Ξ}{t:Ψ}(h:jp lo w pb cs t)(a:μ w w'):jp lo w' pb cs t:=by
 obtain⟨f,e,c,b,d,j,g,i⟩:=h;exact⟨f,e,c,b,d.u a,j.u a,g.u a,zy i a⟩
def LE(w:U)(pb mb:Nat)(cs:Ξ)(t:Ψ)(hp:uE lo w pb cs t){ax:Nat}(hm:jp ax w mb cs t)(hl:cs.j<=1000)(hf:∀c∈cs,mJ c):
  c_ e_ 22 #[.agg #[(π pb),(π mb)]] w λe w'=>e=ε (.i true)/\μ w w':=by
 have HP:=U2 hp;obtain⟨_,cv,pv,kv,av,I,_,_⟩:=hm;obtain⟨ao,aV,rfl⟩:=I.qm;have HF:=U2 hf;clear hf hp;go_enter func22,ntmps22;go_wp2;go_loopw [3,4] (λv3 v4 wr=>∃(k:Nat) (s:Λ),k<=cs.j/\v4=ι k/\v3=.g s/\s.q<=10000000*k/\X (s=kP (cs.G k))/\μ w wr/\U3 wr w.o.q #[(π pb),(π mb)] 40) (λ_ i _=>cs.j-(d_ i).toNat);exact⟨0,_,zs _,rfl,rfl,ze _,rfl,γ,U3.new _ _ _⟩;obtain⟨k,s,hk,rfl,rfl,aL,H,d,z⟩:=hrel;have aA:=d.q;obtain⟨hc,au,aO⟩:=z.I;have E:=av.u d;obtain⟨aq,a1,aM⟩:=E.I;by_cases Q:k<cs.j
 .obtain⟨g,V,r,S,u,rfl,hg,aj,ae,K,ac,ak,ab⟩:=I.cell k Q;have aY:=zi d hg aj;have aJ:=zi d hg ae;have aP:=zi d hg K;have aW:=zi d hg ac;have aX:g<wr.o.q:=η;have HJ:=Qq Q;have ay:=HF.l _ (zr Q);have D:=ak.u d;have af:=ab.u d;clear aj ae K ac ak ab;generalize cs[k]=c at *;obtain⟨M,aB⟩:=ay;have R:=U2 M;have A:=M c.g (by simp[zj]);have aH:=wD A;have bc:=A.2.2.1;have HH:=U2 λW hW=>Fp W c.g _ (D.u hW) A;clear M A D;have HN:X (∀b,b=Vi c.d->s++xb c.g++b++rh=kP (cs.G (k+1))):=λb hb=>by rw[hb,HJ,H.l]
  clear HJ H;generalize xb c.g=q at *;obtain⟨F,rfl⟩:∃F,F=wr:=⟨wr,rfl⟩;go_wp2_with (go_at_call 46;refine(HH.l _ γ).y ?_;rintro e w5 ⟨rfl,n⟩;have ag:=(U3.new F #[.i c.g.i,.g c.g.o,.k V c.g.k.j r,.k S c.d.j u] 93).u n;have an:=U6 ((zn F.o.q F).C (ze _) (.E #[.i c.g.i,.g c.g.o,.k V c.g.k.j r,.k S c.d.j u] 93)) n)
  go_loopw [7,8] (λv7 v8 wj=>∃(j:Nat) (b:Λ),j<=c.d.j/\v8=ι j/\v7=.g b/\b.q<=8011*j/\X (b=yD ((c.d.G j).map xb))/\μ F wj/\U3 wj F.o.q #[.i c.g.i,.g c.g.o,.k V c.g.k.j r,.k S c.d.j u] 93) (λ_ i _=>c.d.j-(d_ i).toNat);exact⟨0,_,zs _,rfl,rfl,ze _,rfl,an,ag⟩;clear hc au aq a1;obtain⟨j,b,hj,rfl,rfl,aT,J,f,y⟩:=hrel;have aD:=f.q;obtain⟨aG,aU,ba⟩:=y.I;by_cases aa:j<c.d.j
  .obtain⟨gl,aK,a7,a2,T,al,ah,ai,p⟩:=af.cell j aa;subst a2;have aQ:=zi f T al;have aR:=zi f T ah;have aZ:=zi f T ai;have a6:gl<wr.o.q:=η;have o:=wg (l:=c.d.map xb) (k:=j) (by simpa using aa);rw[←we,←we] at o;simp only[xM] at o;have B:=R.l c.d[j] (by simp[zj]);have C:=p.u f;clear al ah ai p;generalize c.d[j]=a at *;have aE:=wD B;have aI:=B.2.2.1;have HA:=U2 λW hW=>Fp W a _ (C.u hW) B;clear C B;generalize xb a=ta at *;by_cases G:j=0
   .have m:b=l_:=by rw[J.l,G];rfl
    have P:X (b++ta=yD ((c.d.G (j+1)).map xb)):=by rw[X,o,zb G,m];simp
    have p:(b.v == [])=true:=by rw[m,ku];rfl
    subst G;clear o J m;go_wp2_with (go_at_call 46;refine(HA.l _ γ).y ?_;rintro e w6 ⟨rfl,v⟩)
    go_roundw;exact⟨1,b++ta,η,ξ,rfl,(by rw[g_];omega),P,U6 f v,y.u v⟩;simp[d_];omega
   have P:X (b++ul++ta=yD ((c.d.G (j+1)).map xb)):=by rw[X,o,za G,J.l]
   have N:0<b.q:=by
    rw[J.l];refine sA (λt ht=>?_) ?_;obtain⟨x,hx,rfl⟩:=z9.1 ht;exact Hr (R.l x (by simp[zj,List.mem_of_mem_take hx]));intro h;have:=congrArg r_ h;rw[xv,vi,jD] at this;omega
   have p:=rE N;have a5:ul.q=2:=rfl;have aN:(b++ul).q=b.q+2:=by rw[g_,a5]
   clear o J;go_wp2_with (go_at_call 46;refine(HA.l _ γ).y ?_;rintro e w6 ⟨rfl,v⟩)
   go_roundw;exact⟨j+1,b++ul++ta,η,ξ,rfl,(by rw[g_];omega),P,U6 f v,y.u v⟩;simp[d_];omega
  have m:b=yD (c.d.map xb):=by rw[J.l,yO η]
  have K:rh.q=2:=rfl;by_cases G:c.d.j=0
  .have p:(b.v == [])=true:=by
    have e:=lK G;rw[m,e,List.map_nil,yD,ku];rfl
   have HE:X (s++q++b++rh=kP (cs.G (k+1))):=HN.l b (by
    have e:=lK G;rw[m,e];rfl)
   have L:(s++q).q=s.q+q.q:=by rw[g_]
   have aw:(s++q++b).q=s.q+q.q+b.q:=by rw[g_,L]
   clear m J HN;go_wp2;go_roundw;exact⟨k+1,s++q++b++rh,η,ξ,rfl,(by rw[g_];omega),HE,U6 d f,z.u f⟩;simp[d_];omega
  have N:0<b.q:=by
   rw[m];refine sA (λt ht=>?_) ?_;obtain⟨x,hx,rfl⟩:=z9.1 ht;exact Hr (R.l x (by simp[zj,hx]));intro h;have:=congrArg r_ h;rw[xv,jD] at this;omega
  have p:=rE N;have ap:fH.q=4:=rfl;have HE:=U2 (HN.l (fH++b) (by unfold Vi;rw[za G,m]));have a0:(fH++b).q=4+b.q:=by rw[g_,ap]
  have L:(s++q).q=s.q+q.q:=by rw[g_]
  have aw:(s++q++(fH++b)).q=s.q+q.q+4+b.q:=by rw[g_,L,a0];omega
  clear m J HN;go_wp2;go_roundw;exact⟨k+1,s++q++(fH++b)++rh,η,ξ,rfl,(by rw[g_];omega),HE,U6 d f,z.u f⟩;simp[d_];omega
 have ar:s=kP cs:=by rw[H.l,yO η]
 have he:=qH (rfl:kP cs=kP cs);subst ar;have a3:=U2 (KX wr pb cs t (HP.l.u d) hl HF.l);have a4:=U2 λW hW=>Q4 W pb cs t ((HP.l.u d).u hW);clear H;generalize kP cs=tt at *;go_wp2_with (first|(go_at_call 47;refine a3.l.y ?_;rintro e w5 ⟨rfl,n⟩;have ad:=z.u n;obtain⟨aF,aS,bb⟩:=ad.I;have am:=E.u n;obtain⟨a9,aC,a8⟩:=am.I)|(go_at_call 48;refine(a4.l _ n).y ?_;rintro e w6 ⟨rfl,az⟩;obtain rfl:=az.symm))
 go_ret;exact⟨rfl,U6 d n⟩
def Un:(e_.info? 30).map (λi=>(i.zero,i.q,i.bytes))=Z (Z (ν),1,24):=χ
def Uu:(e_.info? 9).map (·.q)=Z 1:=χ
def Lf(a cs:Γ)(h:cs.j=a.j):splice a 0 cs=cs:=by unfold splice;simp[h]
def PS{w:U}{g:Nat}{l:List Λ}(h:w.o[g]?=Z (.E (l.map i_).F 9 (0,0)))(a:lo<=g)(b:l.j<=1000):U7 lo w (.k (Z (δ g)) l.j l.j) l:=
 ⟨ζ,zg ⟨g,l.j,_,rfl,a,h,ze _,by unfold maxLen;omega,ζ,by rw[Nat.mul_one];exact yO ζ⟩⟩
def Kb(B:Nat)(w:U)(wb:Nat)(c0 v s r t q m k u p f d i j:O)(n:Nat)(xs o:List O)(g:Nat)(l:κ)(e:Ending)(w':U):Prop:=
 e=ε (.i true)/\∃a c h,U3 w' wb #[c0,v,s,r,t,q,m,k,u,p,a,c,i,j] 35/\w'.r B 30 1 a (n+1) (xs++[.k (Z ⟨g,0,Y⟩) l.j l.j]) ∧
  w'.r B 30 1 c (n+1) (o++[.k (Z ⟨h,0,Y⟩) l.j l.j])/\w.o.q<=h/\U7 w.o.q w' (.k (Z ⟨h,0,Y⟩) l.j l.j) l ∧
  (a.m=f.m∨∃b,a.m=Z b/\w.o.q<=b)/\(c.m=d.m∨∃b,c.m=Z b/\w.o.q<=b) ∧
  (∀b,a.m=Z b->c.m≠Z b)/\zc (wb::(f.m.v++d.m.v)) w w'
def Tw(B:Nat)(w:U)(wb:Nat)(c0 c1 c2 c3 c4 c5 c6 c7 c8 c9 G I F D:O)(n:Nat)(xs ys:Γ)(g:Nat)(l:List Λ)(vb:O)
  (ao:U3 w wb #[c0,c1,c2,c3,c4,c5,c6,c7,c8,c9,G,I,F,D] 35) (h1:w.r B 30 1 G n xs) (h2:w.r B 30 1 I n ys) (hB:B<=wb) (Q:∀b,G.m=Z b->I.m≠Z b)
  (ha:U7 lo w (.k (Z (δ g)) l.j l.j) l) {a9:Nat} (i:U7 a9 w vb l) (hl:l.j<=1000) (hn:n<=2000000000000):
  c_ e_ 41 #[(π wb),.k (Z (δ g)) l.j l.j,vb] w λe w'=>Kb B w wb c0 c1 c2 c3 c4 c5 c6 c7 c8 c9 G I F D n xs ys g l e w':=by
 obtain⟨i0,hi,av,an,a5⟩:=info_parts Un;obtain⟨J,q,rfl⟩:=zq h1;obtain⟨t,f,rfl⟩:=zq h2;obtain⟨aj,aw,rfl⟩:=i.qm;have aQ:=ao.lt;have az:X (c_ e_ 44 #[.k (Z (δ g)) l.j l.j,.k aj l.j aw] w λe w'=>e=ε (.i true)/\μ w w'):=oZ w _ _ l ha i η;have aO:=run_make_row' (P:=e_) 30 9 (.g l_) 16 underlying30 Uw rfl .i64 .i64 l.j η η;have S:X (∀W,μ w W->0<(l.map i_).j->∃ad,aj=Z ad/\∀j v,(l.map i_)[j]?=Z v->W.p (ad.add j)=Z v):=λW hW hp=>by
  obtain⟨gb,aE,hv,_,a7,aD⟩:=yt i (by simpa using hp);simp at hv;refine⟨(δ gb),hv.1,λj v hj=>?_⟩;rw[Addr.add_lit,uM,hW.cell (p:=(ω gb j)) a7];exact aD j v hj
 have H:(l.map i_).j=l.j:=ζ;have ax:∀v∈l.map i_,v.oneCell'=true:=λv hv=>by obtain⟨x,_,rfl⟩:=z9.1 hv;rfl
 have a0:X (∀v∈l.map i_,v.oneCell'=true):=ax;clear ax;obtain⟨cs,ae⟩:∃cs,cs=l.map i_:=⟨_,rfl⟩;have a8:X (cs=l.map i_):=ae;rw[←ae] at S H a0;clear ae;have au:X (0+cs.j<=(madeCells #[i_ l_] l.j).v.j):=by rw[X,H];simp[size_madeCells]
 have ar:X (cs.j=Nat.min l.j l.j):=by rw[X,H];simp
 go_enter func41,ntmps41;go_wp2_with (first|(go_at_call 44;refine az.l.y ?_;rintro e T ⟨rfl,s⟩;clear az)|(refine wpList_copy_splice rfl (.tmp 17) (.tmp 18) 30 30 rfl 9 underlying30 Uu _ _ _ _ _ _ rfl rfl T.o.q 0 (madeCells #[.g l_] l.j).v 9 (by rw[Array.toArray_toList];exact U3.new _ _ _) cs ar.l (λhp=>⟨rfl,S.l _ (by exact s.C s.q _) hp⟩) au.l a0.l w.o.q w (by exact s.C s.q _) s.q ?_;intro w2 aq A;have y:=ao.u A;obtain⟨aR,aP,aF⟩:=y.I;have R:=zy h1 A;have ak:=zy h2 A;have aN:=A.q)|(at_builtin;have hq:=a4;refine jx (u.x (ω wb 10) (.k c (n+1) a)) _ [.k (Z (δ T.o.q)) l.j l.j] _ rfl (.tmp 34) (.tmp 36) 31 rfl B 30 i0 _ 1 24 underlying31 hi av an a5 rfl θ (.k t n f) n ys rfl hq (zn _ _) _ _ rfl ζ rfl a_ η η a6 ?_;intro v5 w5 a2 C N;obtain⟨m,d,rfl⟩:=zq a2;have o:=aa.save C (vL hq aa θ);obtain⟨aJ,aM,aH⟩:=o.I;clear hq)|(at_builtin;refine jx w2 _ [.k (Z (δ g)) l.j l.j] _ rfl (.tmp 23) (.tmp 25) 31 rfl B 30 i0 _ 1 24 underlying31 hi av an a5 rfl θ (.k J n q) n xs rfl R (zn _ _) _ _ rfl ζ rfl a_ η η η ?_;intro v3 u ab z L;obtain⟨c,a,rfl⟩:=zq ab;have r:=y.save z (vL R y θ);obtain⟨aI,aL,aG⟩:=r.I;have ah:=yd ak z (λb i hm=>Q b (yA hm) i);have aa:U3 (u.x (ω wb 10) (.k c (n+1) a)) wb #[c0,c1,c2,c3,c4,c5,c6,c7,c8,c9,.k c (n+1) a,.k t n f,F,D] 35:=(by have hq:=r.set 10 (.k c (n+1) a);simpa using hq);have a4:=xJ ah ((UF.refl wb u).x 10 (.k c (n+1) a)) r θ;have am:=xJ ab ((UF.refl wb u).x 10 (.k c (n+1) a)) r θ;have a6:B<=(u.x (ω wb 10) (.k c (n+1) a)).o.q:=(by rw[show(u.x (ω wb 10) (.k c (n+1) a)).o.q=u.o.q from(by simp[U.setCell])];omega)))
 have a1:=s.q;have aK:=z.q;have af:(u.x (ω wb 10) (.k c (n+1) a)).o.q=u.o.q:=by simp[U.setCell]
 have aB:=C.q;rw[af] at aB;have ag:∀b,(j_ J n q).m=Z b->b<w.o.q:=λb i=>yb h1 i;have V:∀b,(j_ t n f).m=Z b->b<w.o.q:=λb i=>yb h2 i;have ai:∀b,(j_ c (n+1) a).m=Z b->b<u.o.q:=λb i=>yb ab i;have K:∀b,(j_ c (n+1) a).m=Z b->(j_ t n f).m≠Z b:=λb i h=>by
  rcases L with k|⟨g3,k,h4⟩;exact Q b (k ▸ i) h;rw[k] at i;have:=V b h;simp at i;omega
 have ac:=yd am C (λb i hm=>K b i (yA hm));have ay:T.o.q≠wb:=η;have a3:T.o.q<w2.o.q:=(kB.1 aq.l).1;have aC:(w5.x (ω wb 11) (.k m (n+1) d)).o[T.o.q]?=w2.o[T.o.q]?:=by
  rw[(zc.set w5 wb 11 _).block _ η (by simpa using ay),C.block _ (by rw[af];omega) (λhm=>by have:=V _ (yA hm);omega),(zc.set u wb 10 _).block _ η (by simpa using ay),z.block _ a3 (λhm=>by have:=ag _ (yA hm);omega)]
 have al:U7 w.o.q (w5.x (ω wb 11) (.k m (n+1) d)) (.k (Z (δ T.o.q)) l.j l.j) l:=by
  refine PS ?_ a1 hl;rw[aC,aq.l,Lf _ _ (by rw[H];simp[size_madeCells]),a8.l]
 have aA:zc (wb::((j_ J n q).m.v++(j_ t n f).m.v)) w (w5.x (ω wb 11) (.k m (n+1) d)):=by
  have e1:=(zc.of (M:=wb::((j_ J n q).m.v++(j_ t n f).m.v)) A).newer z (λx E=>zh (by simp[E]));have e2:=e1.newer (zc.set u wb 10 (.k c (n+1) a)) (λx E=>zh (by simp at E;simp[E]));have e3:=e2.newer C (λx E=>zh (by simp[E]));exact e3.newer (zc.set w5 wb 11 (.k m (n+1) d)) (λx E=>zh (by simp at E;simp[E]))
 have ap:U3 (w5.x (ω wb 11) (.k m (n+1) d)) wb #[c0,c1,c2,c3,c4,c5,c6,c7,c8,c9,.k c (n+1) a,.k m (n+1) d,F,D] 35:=by have hq:=o.set 11 (.k m (n+1) d);simpa using hq
 go_ret;refine⟨rfl,_,_,T.o.q,ap,xJ ac ((UF.refl wb w5).x 11 _) o θ,xJ a2 ((UF.refl wb w5).x 11 _) o θ,a1,al,?_,?_,?_,aA⟩;rcases L with k|⟨g3,k,h4⟩;exact zh k;exact zg ⟨g3,k,η⟩;rcases N with k|⟨g3,k,h4⟩;exact zh k;exact zg ⟨g3,k,η⟩;intro b i h;rcases N with k|⟨g3,k,h4⟩;exact K b i (k ▸ h);have:=ai b i;rw[k] at h;simp at h;omega
end
section
variable {lo:Nat}{s w:U}
def Vw(lo:Nat)(s w:U):Prop:=∀b,lo<=b->b<s.o.q->w.o[b]?=s.o[b]?
def tz{e:f_}{a:Nat}{v:O}{n:Nat}{xs:Γ}(h:s.r lo e a v n xs)(hs:Vw lo s w):w.r lo e a v n xs:=by
 obtain⟨j,d⟩:=h;refine⟨j,?_⟩;rcases d with d|⟨g,c,b,k,i,f,l⟩;exact zh d;refine zg ⟨g,c,b,k,i,?_,l⟩;rw[hs g i (kB.1 f).1];exact f
def U3.same{b:Nat}{c:Array O}{T:f_}(h:U3 s b c T)(a:lo<=b)(hs:Vw lo s w):U3 w b c T:=by
 have:=h.lt;unfold U3 at *;rw[hs b a this];exact h
def U7.same{v:O}{l:List Λ}(h:U7 lo s v l)(hs:Vw lo s w):U7 lo w v l:=tz h hs
def Vd.same{s w:U}{v:O}{l:Ω}(h:Vd lo s v l)(hs:Vw lo s w):Vd lo w v l:=by
 obtain⟨a,b,c⟩:=h;exact⟨a,tz b hs,c.y λ_ _ q=>q.same hs⟩
def Vh.same{T:f_}{s w:U}{v:O}{l:Ξ}(h:Vh lo T s v l)(hs:Vw lo s w):Vh lo T w v l:=by
 obtain⟨a,b,c⟩:=h;exact⟨a,tz b hs,c.y (λ_ _ q=>q.same hs) (λ_ _ q=>q.same hs)⟩
def uE.same{s w:U}{pb:Nat}{cs:Ξ}{t:Ψ}(h:uE lo s pb cs t)(hs:Vw lo s w):uE lo w pb cs t:=by
 obtain⟨a,v,b,c,e,d⟩:=h;exact⟨a,v,b,c.same a hs,e.same hs,tz d hs⟩
def jp.same{s w:U}{pb:Nat}{cs:Ξ}{t:Ψ}(h:jp lo s pb cs t)(hs:Vw lo s w):jp lo w pb cs t:=by
 obtain⟨a,e,c,b,d,i,f,g⟩:=h;exact⟨a,e,c,b,d.same a hs,i.same hs,f.same hs,tz g hs⟩
def uE.low{a b:Nat}{w:U}{pb:Nat}{cs:Ξ}{t:Ψ}(h:uE b w pb cs t)(c:a<=b):uE a w pb cs t:=by
 obtain⟨i,v,d,e,g,f⟩:=h;exact⟨η,v,d,e,g.low c,yq f c⟩
def jp.low{a b:Nat}{w:U}{pb:Nat}{cs:Ξ}{t:Ψ}(h:jp b w pb cs t)(c:a<=b):jp a w pb cs t:=by
 obtain⟨l,g,e,d,f,k,i,j⟩:=h;exact⟨η,g,e,d,f,k.low c,i.low c,yq j c⟩
structure sj (cs:List zd) (t:List zf):Prop where
 len:cs.j<=1000
 names:t.j<=1000
 fine:∀c∈cs,mJ c/\vV c/\c.d.j<=6/\xn (zj c)<=1000
 rise:yw (U4 t)
abbrev qE:=Nat×Nat×List zd×List zf
def s6(B:Nat)(w:U)(a:List Nat)(p:qE):Prop:=∃(lo:Nat) (s:U),B<=lo/\uE lo s p.1 p.2.2.1 p.2.2.2/\jp lo s p.2.1 p.2.2.1 p.2.2.2/\sj p.2.2.1 p.2.2.2/\Vw lo s w/\s.o.q<=w.o.q/\∀b∈a,b<lo∨s.o.q<=b
def s6.save{B:Nat}{w':U}{e a N:Φ}{p:qE}(h:s6 B w e p)(hs:zc N w w')(i:∀b∈N,b∈e)(d:∀b∈a,b∈e∨w.o.q<=b):s6 B w' a p:=by
 obtain⟨lo,s,l,k,q,m,n,o,g⟩:=h;refine⟨lo,s,l,k,q,m,λb c f=>?_,zX o hs.q,λb j=>?_⟩;rw[hs.block b η (λd=>by have:=g b (i b d);omega)];exact n b c f;rcases d b j with h|h;exact g b h;right;omega
def s6.new{B lo:Nat}{c:Φ}{pb a:Nat}{cs:Ξ}{t:Ψ}(f:B<=lo)(e:uE lo w pb cs t)(i:jp lo w a cs t)(g:sj cs t)(h:∀b∈c,b<lo):s6 B w c (pb,a,cs,t):=
 ⟨lo,w,f,e,i,g,λ_ _ _=>rfl,ze _,λb d=>zh (h b d)⟩
def mD(ps:List qE):List Value:=ps.flatMap λp=>[.u (Z ⟨p.1,0,Y⟩),.u (Z ⟨p.2.1,0,Y⟩)]
abbrev nU:=Nat×Nat×κ
def pz(ls:List nU):List Value:=ls.map λx=>sl x.1 x.2.2.j
def ph(ls:List nU):List Value:=ls.map λx=>sl x.2.1 x.2.2.j
def kS(ls:List (Nat×Nat)):List Value:=ls.map λx=>sl x.1 x.2
def dJ:ByteArray:=⟨#[109,105,110,101]⟩
def ka(i h:Nat):O×O×Value:=(.i false,.g dJ,sl h (i+1))
structure TM where
 ps:List qE
 nr:Nat
 ls:List nU
 z:List (Nat×Nat)
def en(wb:Nat)(d rowv c b a:O)(M:TM):List Nat:=
 wb::(d.m.v++rowv.m.v++c.m.v++b.m.v++a.m.v++M.ls.map (·.1)++M.ls.map (·.2.1)++M.z.map (·.1))
def WU(R:List Nat)(rowv:O)(M:TM):List Nat:=R++(rowv.m.v++(M.ls.map (·.1)++M.ls.map (·.2.1)))
structure Ww (B:Nat) (w:U) (wb:Nat) (M:TM) (R:List Nat) (psv rowv lsv lwv litv:O) (ys:List O):Prop where
 low:B<=wb
 box:U3 w wb #[psv,ν,ν,ν,ι 0,ι 0,ι 0,ν,.i true,rowv,lsv,lwv,ν,litv] 35
 ps:w.r B 40 2 psv M.ps.j (mD M.ps)
 row:w.r B 9 1 rowv M.nr ys
 ls:w.r B 30 1 lsv M.ls.j (pz M.ls)
 lw:w.r B 30 1 lwv M.ls.j (ph M.ls)
 z:w.r B 91 1 litv M.z.j (kS M.z)
 res:∀b∈R,b<w.o.q
 sep:∀b,lsv.m=Z b->lwv.m≠Z b
 apart:(WU R rowv M).Nodup
 lists:∀x∈M.ls,U7 B w (sl x.1 x.2.2.j) x.2.2/\U7 B w (sl x.2.1 x.2.2.j) x.2.2/\x.2.2.j<=1000
 own:∀i (h:i<M.z.j),∃hs:List Nat,hs.j=M.z[i].2/\M.z[i].2<=1000/\w.r B 90 3 (sl M.z[i].1 M.z[i].2) M.z[i].2 (UM (hs.map (ka i)))
 pairs:∀p∈M.ps,s6 B w (R++en wb psv rowv lsv lwv litv M) p
def Ww.lt{B:Nat}{w:U}{wb:Nat}{M:TM}{R:Φ}{g rowv f d c:O}{j:Γ}(h:Ww B w wb M R g rowv f d c j):∀b∈en wb g rowv f d c M,b<w.o.q:=by
 intro b a;simp only[en,z7,zW,z9] at a;rcases a with rfl|((((((((a|a)|a)|a)|a)|⟨x,e,rfl⟩)|⟨x,e,rfl⟩)|⟨x,e,rfl⟩))
 exact h.box.lt;exact yb h.ps (yA a);exact yb h.row (yA a);exact yb h.ls (yA a);exact yb h.lw (yA a);exact yb h.z (yA a);exact yb (h.lists x e).1 rfl;exact yb (h.lists x e).2.1 rfl;obtain⟨i,l,rfl⟩:=uT e;obtain⟨m,_,_,k⟩:=h.own i l;exact yb k rfl
def Ww.u{B:Nat}{w w':U}{wb:Nat}{M:TM}{R:Φ}{f rowv e d c:O}{k:Γ}(h:Ww B w wb M R f rowv e d c k)(a:μ w w'):Ww B w' wb M R f rowv e d c k:=
 ⟨h.low,h.box.u a,zy h.ps a,zy h.row a,zy h.ls a,zy h.lw a,zy h.z a,λb j=>yh (h.res b j) a.q,h.sep,h.apart,λx g=>⟨(h.lists x g).1.u a,(h.lists x g).2.1.u a,(h.lists x g).2.2⟩,λi r=>by
  obtain⟨l,m,q,n⟩:=h.own i r;exact⟨l,m,q,zy n a⟩,λp o=>(h.pairs p o).save (zc.of (M:=[]) a) ζ (λb a=>zh a)⟩
end
section
variable {lo:Nat}
structure Xb (M M':TM):Prop where
 ps:M'.ps.j<=M.ps.j+1
 nr:M'.nr<=M.nr+1
 ls:M'.ls.j<=M.ls.j+7
 z:M'.z.j<=M.z.j+1
def Xb.refl(M:TM):Xb M M:=⟨η,η,η,η⟩
def Ww.q{B:Nat}{w:U}{wb:Nat}{M:TM}{R:Φ}{d rowv c b a:O}{e:Γ}(h:Ww B w wb M R d rowv c b a e):B<=w.o.q:=by have:=h.low;have:=h.box.lt;omega
def Xe(lo:Nat)(w:U)(v:O)(l:List Nat):Prop:=w.r lo 3 1 v l.j (l.map Vg)
def Xe.cell{w:U}{c:Option Addr}{n cap:Nat}{b:Φ}(h:Xe lo w (.k c n cap) b)(k:Nat)(f:k<b.j):∃g,c=Z (δ g)/\g<w.o.q/\w.p (ω g k)=Z (ι (b[k]:Int)):=by
 obtain⟨g,e,d,_,i,a⟩:=yt h η;simp at d;exact⟨g,d.1,i,a k _ (by simp[f,Vg])⟩
def Xh(lo:Nat)(T:f_)(w:U)(v:O)(xs:List O):Prop:=w.r lo T 1 v xs.j xs
def Xh.cell{T:f_}{w:U}{b:Option Addr}{n cap:Nat}{xs:Γ}(h:Xh lo T w (.k b n cap) xs)(k:Nat)(e:k<xs.j):∃g,b=Z (δ g)/\g<w.o.q/\w.p (ω g k)=Z xs[k]:=by
 obtain⟨g,d,c,_,f,a⟩:=yt h η;simp at c;exact⟨g,c.1,f,a k _ (by simp[e])⟩
end
section
variable {lo:Nat}{l:κ}
def U7.mark{w:U}{g:Nat}(h:U7 lo w (sl g l.j) l)(i:Nat)(a:i<l.j)(s:Λ):U7 lo (w.x (ω g i) (.g s)) (sl g (l.set i s).j) (l.set i s):=by
 have:=um h i (by simpa using a) (.g s);unfold U7 sl at *;rw[dG,dY];exact this
def U7.stays{w:U}{g a i:Nat}{u:O}(h:U7 lo w (sl g l.j) l)(d:g≠a):U7 lo (w.x (ω a i) u) (sl g l.j) l:=
 yd h (zc.set w a i u) (λb e c=>by simp[sl,O.ownBlock] at e;simp at c;omega)
def ot{α β:Type}{f:α->β}{l:List α}{k:Nat}(a:k<l.j){x:α}(b:f x=f l[k]):(l.set k x).map f=l.map f:=by
 rw[dY,b,show f l[k]=(l.map f)[k]'(by simpa using a) by simp,tr]
end
section
variable {v:O}{b:Nat}
abbrev W8:=Nat×Nat
abbrev UY:=Nat->W8
def xh(own:UY)(b:Nat):Prop:=own b≠(0,0)
def pL(own:UY)(v:O)(t:W8):UY:=λb=>if v.m=Z b then t else own b
def Bn{own:UY}{t:W8}(h:v.m=Z b):pL own v t b=t:=zb h
def AD{own:UY}{t:W8}(h:v.m≠Z b):pL own v t b=own b:=za h
def uw(own:UY)(w w':U):Prop:=∃N,zc N w w'/\∀b∈N,xh own b
def tN{N e:Φ}{a b c:U}(h:zc N a b)(k:zc e b c):zc (N++e.filter (·<a.o.q)) a c:=(h.more λx d=>zW.2 (zh d)).newer k λx d=>by
 by_cases f:x<a.o.q
 .exact zh (zW.2 (zg (xw.2 ⟨d,by simpa using f⟩)))
 .exact zg η
section
variable {own own':UY} {w w' w2:U}
def uw.of(h:μ w w'):uw own w w':=⟨[],zc.of h,ζ⟩
def uw.A(h:uw own w w')(k:uw own' w' w2)(e:∀b,b<w.o.q->own' b=own b):uw own w w2:=by
 obtain⟨N,g,l⟩:=h;obtain⟨m,j,f⟩:=k;refine⟨_,tN g j,λb a=>?_⟩;rcases zW.1 a with a|a;exact l b a;obtain⟨i,d⟩:=xw.1 a;have c:=f b i;unfold xh at c ⊢;rw[e b (by simpa using d)] at c;exact c
def uw.box(h:uw own w w'){c:Array O}{T:f_}(a:U3 w b c T)(e:own b=(0,0)):U3 w' b c T:=by
 obtain⟨N,d,g⟩:=h;exact a.save d λf=>g b f e
end
abbrev Wv:=Option (f_×Nat×Nat×List O)
structure VU (B:Nat) (own:UY) (w:U) (wb:Nat) (F:Nat->Wv) (V:Nat->O):Prop where
 low:∀b,xh own b->B<=b
 box:U3 w wb ((m_ 14).map V).F 35
 tag:own wb=(1,0)
 new:∀b,w.o.q<=b->own b=(0,0)
 row:∀f T s n xs,F f=Z (T,s,n,xs)->w.r B T s (V f) n xs
 tg:∀f b,(V f).m=Z b->own b=(f+2,0)/\b<w.o.q
def vY(V:Nat->O)(f:Nat)(v:O):Nat->Value:=λg=>if g=f then v else V g
section
variable {B:Nat} {own:UY} {w w' w2:U} {wb:Nat} {F F':Nat->Wv} {V:Nat->O}
def VU.wlow(h:VU B own w wb F V):B<=wb:=h.low wb (by unfold xh;rw[h.tag];decide)
def VU.q(h:VU B own w wb F V):B<=w.o.q:=zX h.wlow (Nat.le_of_lt h.box.lt)
def VU.under(h:VU B own w wb F V)(a:xh own b):b<w.o.q:=by
 apply Classical.byContradiction;intro q;exact a (h.new b η)
def VU.u(h:VU B own w wb F V)(a:μ w w'):VU B own w' wb F V:=
 ⟨h.low,h.box.u a,h.tag,λb q=>h.new b (zX a.q q),λf T s n c q=>zy (h.row f T s n c q) a,λf b q=>⟨(h.tg f b q).1,yh (h.tg f b q).2 a.q⟩⟩
def VU.gen{own':UY}{e:Nat->O}{N:Φ}(C:Φ)(h:VU B own w wb F V)(m:zc N w w')(r:∀b∈N,b=wb∨(∃f∈C,(V f).m=Z b)∨(own b).2≠0)(j:U3 w' wb ((m_ 14).map e).F 35)(k:∀b,b<w.o.q->own' b=own b)(y:∀b,w'.o.q<=b->own' b=(0,0))(l:∀f,f∉C->e f=V f/\F' f=F f)(p:∀f∈C,(∀T s n d,F' f=Z (T,s,n,d)->w'.r B T s (e f) n d)/\∀b,(e f).m=Z b->own' b=(f+2,0)/\b<w'.o.q):VU B own' w' wb F' e:=by
 refine⟨λb q=>?_,j,(k wb h.box.lt).A h.tag,y,λf T s n d q=>?_,λf b q=>?_⟩;by_cases t:b<w.o.q;exact h.low b (by unfold xh at q ⊢;rw[←k b t];exact q);have:=h.q;omega;by_cases a:f∈C;exact(p f a).1 T s n d q;rw[(l f a).2] at q;rw[(l f a).1];refine yd (h.row f T s n d q) m λb j x=>?_;have c:=(h.tg f b j).1;rcases r b x with rfl|⟨g,z,i⟩|i;rw[h.tag] at c;cases c;rw[(h.tg g b i).1] at c;simp at c;exact a (c ▸ z);rw[c] at i;exact i rfl;by_cases a:f∈C;exact(p f a).2 b q;rw[(l f a).1] at q;obtain⟨u,o⟩:=h.tg f b q;exact⟨(k b o).A u,yh o m.q⟩
def O8{f:Nat}{T:f_}(h:U3 w b ((m_ 14).map V).F T):U3 (w.x (ω b f) v) b ((m_ 14).map (vY V f v)).F T:=by
 have q:=h.set f v;have e:((m_ 14).map V).F.setIfInBounds f v=((m_ 14).map (vY V f v)).F:=by
  rw[List.setIfInBounds_toArray];congr 1;refine qR ζ λi a c=>?_;rw[fG];simp only[xM,fT,vY];split;rename_i e;rw[zb e.symm];rename_i e;rw[za (Ne.symm e)]
 rw[e] at q;exact q
def VU.off(h:VU B own w wb F V){f:Nat}(q:(V f).m=Z b):b≠wb:=λe=>by
 have:=(h.tg f b q).1;rw[e,h.tag] at this;cases this
def VU.put(h:VU B own w wb F V){f:Nat}(y:∀g,g≠f->F' g=F g)(d:∀T s n l,F' f=Z (T,s,n,l)->w2.r B T s v n l)(m:zc (V f).m.v w w2)(i:∀b,v.m=Z b->(V f).m=Z b∨(w.o.q<=b/\b<w2.o.q)):
  VU B (pL own v (f+2,0)) (w2.x (ω wb f) v) wb F' (vY V f v)/\zc (wb::(V f).m.v) w (w2.x (ω wb f) v)/\∀b,b<w.o.q->pL own v (f+2,0) b=own b:=by
 have j:zc (wb::(V f).m.v) w (w2.x (ω wb f) v):=(m.more (λx k=>by simp[k])).A ((zc.set w2 wb f v).more (λx k=>by simp at k;simp[k]));have u:(w2.x (ω wb f) v).o.q=w2.o.q:=by simp[U.setCell]
 have z:=m.q;have A:=h.q;have C:=h.box.lt;have a:∀b,v.m=Z b->b≠wb/\b<w2.o.q:=λb q=>by
  rcases i b q with c|c;have:=(h.tg f b c).2;exact⟨h.off c,η⟩;exact⟨η,η⟩
 have t:∀b,b<w.o.q->pL own v (f+2,0) b=own b:=λb q=>by
  by_cases e:v.m=Z b;rw[Bn e];rcases i b e with c|c;exact(h.tg f b c).1.symm;omega;exact AD e
 refine⟨h.gen [f] j (λb o=>?_) (O8 (h.box.save m λp=>h.off (yA p) rfl)) t (λb q=>?_) (λg r=>?_) (λg r=>?_),j,t⟩;rcases z7.1 o with e|e;exact zh e;exact zg (zh ⟨f,ζ,yA e⟩);rw[u] at q;rw[AD λe=>by have:=(a b e).2;omega];exact h.new b η;have:g≠f:=by simpa using r
 exact⟨za this,y g this⟩;obtain rfl:g=f:=by simpa using r
 rw[show vY V g v g=v from zb rfl];exact⟨λT s n l q=>yd (d T s n l q) (zc.set w2 wb g v) λb o p=>(a b o).1 (by simpa using p),λb q=>⟨Bn q,by rw[u];exact(a b q).2⟩⟩
end
end
section
open Go.Proofs.Tryz
variable {lo:Nat}
def kt(c:Int)(n:Nat):Nat:=if c<0 then(-(c+1)).toNat%n else c.toNat%n
def m9(c:Int){n:Nat}(a:0<n):kt c n<n:=by unfold kt;split<;>exact Nat.mod_lt _ a
def lJ(w:U)(c:Int)(n:Nat)(j:0<n)(f:n<=281474976710656)(h:-9223372036854775808<=c/\c<=9223372036854775807):
  c_ e_ 95 #[ι c,ι n] w λe i=>e=ε (ι (kt c n:Int))/\i=w:=by
 obtain⟨g,d⟩:=h;by_cases b:c<0
 .have a:X (-(c+1).tmod (n:Int)=(kt c n:Int)):=by
   unfold kt;rw[X,zb b,←Int.neg_tmod,Int.tmod_eq_emod_of_nonneg η,s_,q_ η]
  go_enter func95,ntmps95;go_wp2;exact zP (v:=ι (-(c+1).tmod (n:Int))) (by simp[results,results95,go_sem]) rfl ⟨by rw[a.l],rfl⟩
 have a:X (c%(n:Int)=(kt c n:Int)):=by unfold kt;rw[X,za b,s_,q_ η]
 go_enter func95,ntmps95;go_wp2;exact zP (v:=ι (c%(n:Int))) (by simp[results,results95,go_sem]) rfl ⟨by rw[a.l],rfl⟩
end
section
variable {lo:Nat}
section
variable {P:Program} {ops:Array Oper} {o:Oper} {a:Act} {K:Act->U->Prop} {Q:Exit->Act->U->Prop}
end
def DZ(s:Λ):∀(n i:Nat) (l:Δ),UJ n s i=Z l->∀x∈l,x.2.q<=6:=by
 intro n;induction n with
 |zero=>intro i l h;simp[UJ] at h;subst h;simp
 |succ n g=>
  intro i l h;by_cases b:i<s.q;cases c:qU (UC s i);generalize e:xy (UC s i) (UC s (i+1))=k;by_cases a:k=0;subst a;rw[eX b c e] at h;exact zC h ζ;by_cases f:6<y7 s i k-i;rw[ek b c e f] at h;exact zC h ζ;rw[eb b c e a f] at h;obtain⟨r,j,rfl⟩:=qG.1 h;intro x d;rcases z7.1 d with rfl|d;rw[ByteArray.size_extract];omega;exact g _ _ j x d;rw[ed b c] at h;exact g _ _ h;rw[sH b] at h;simp at h;subst h;simp
def wW{a:zk}{l:Δ}(h:ju a l):∃y∈l,y.2=a.o:=by
 cases h with
 |bare=>exact⟨_,sP,rfl⟩
 |k=>exact⟨_,sP,rfl⟩
def Iy{a:zk}{l:Δ}(h:dK a l):∃y∈l,y.2=a.o:=by
 cases h with
 |qc h=>exact wW h
 |i _ h=>obtain⟨y,b,e⟩:=wW h;exact⟨y,by simp[b],e⟩
def Qr:∀{b:Ω} {l:Δ},dP b l->∀a∈b,∃y∈l,y.2=a.o:=by
 intro b l h;induction h with
 |one h=>intro a c;simp at c;subst c;exact Iy h
 |more h _ _ f=>
  intro a c;rcases z7.1 c with rfl|c;obtain⟨y,d,e⟩:=Iy h;exact⟨y,by simp[d],e⟩;obtain⟨y,d,e⟩:=f a c;exact⟨y,by simp[d],e⟩
def L1:∀{cs:Ξ} {l:Δ},ly cs l->∀c∈cs,∀a∈zj c,∃y∈l,y.2=a.o:=by
 intro cs l h;induction h with
 |nil=>intro c f;cases f
 |cons h _ _ i=>
  intro c f a d;rcases z7.1 f with rfl|f;cases h with
  |fact h=>simp[zj] at d;subst d;obtain⟨y,b,e⟩:=wW h;exact⟨y,by simp[b],e⟩
  |p h _ g=>
   simp only[zj] at d;rcases z7.1 d with rfl|d;obtain⟨y,b,e⟩:=wW h;exact⟨y,by simp[b],e⟩;obtain⟨y,b,e⟩:=Qr g a d;exact⟨y,by simp[b],e⟩
  obtain⟨y,b,e⟩:=i c f a d;exact⟨y,by simp[b],e⟩
def Ez:∀{ls:Ω} {l:zk},l∈ls->l.k.j<=xn ls
 |[],_,h=>by cases h
 |a::r,l,h=>by
  rcases z7.1 h with rfl|h
  .simp[xn]
  .have:=Ez h;simp[xn] at this ⊢;omega
def NO{s:Λ}{cs:Ξ}{t:Ψ}(h:uH s=.ok (cs,t)):sj cs t:=by
 unfold uH at h;split at h;cases h;rename_i N;split at h;cases h;rename_i n d;split at h;cases h;rename_i a I;split at h;cases h;rename_i F;split at h;cases h;rename_i m v;split at h;split at h;simp only[Except.ok.injEq,yk] at h;obtain⟨rfl,rfl⟩:=h;have g:uu n:=λx K=>(sG d x K).1;have B:xC s.q s=Z (zZ n):=by rw[sU,d];rfl
 have r:vS (zZ n)=Z a:=by
  have:=By s;rw[B,d] at this;simp only[Option.bind_some] at this;rw[this];exact I
 have b:=A8 η B r;have u:=(BX g a).1 r;have w:=(iV v).2;have C:=wt (m.j+1) m a (ir w);have z:m.j<=1000:=by have:=e8 _ _ _ v;have:=b.z;simp only[jD] at *;omega
 refine⟨b.len,?_,λc i=>?_,?_⟩;have:=congrArg r_ C;simp[U4] at this;omega;obtain⟨E,Q,J,G⟩:=b.ok c i;have k:c.d.j<=6:=by
  false_or_by_contra
  rename_i P;apply F;rw[fa];refine⟨c,i,?_⟩;have M:6<c.d.j:=η;unfold yT;simp[M]
 refine⟨⟨λl j=>?_,η⟩,E,k,J⟩;obtain⟨y,A,e⟩:=L1 u c i l j;have o:=DZ s _ _ _ d y A;have p:=(sG d y A).2;refine⟨by rw[←e];exact o,by rw[←e];exact p,?_,λD f=>?_⟩;have:=Ez j;omega;obtain⟨H,q,L⟩:=Fh u c i l j D f;exact⟨G l j D f,by rw[←L];exact DZ s _ _ _ d H q⟩;rw[C];exact w.rise;cases h;cases h
def Gx:∀(ps:List qE) (k:Nat) (a:k<ps.j),(mD ps)[k*2]?=Z (.u (Z (δ ps[k].1)))/\(mD ps)[k*2+1]?=Z (.u (Z (δ ps[k].2.1)))
 |[],k,a=>by simp at a
 |p::r,0,_=>by simp[mD]
 |p::r,k+1,a=>by
  have:=Gx r k (by simpa using a);simp only[mD,uZ] at this ⊢;rw[show(k+1)*2=k*2+1+1 from by omega,show k*2+1+1+1=k*2+1+1+1 from rfl];simpa using this
structure WA (lo:Nat) (s w:U) (ms:List Nat):Prop where
 same:Vw lo s w
 q:s.o.q<=w.o.q
 l:∀b∈ms,b<lo∨s.o.q<=b
def WA.save{s w w':U}{e a N:Φ}(h:WA lo s w e)(hs:zc N w w')(i:∀b∈N,b∈e)(d:∀b∈a,b∈e∨w.o.q<=b):WA lo s w' a:=by
 have k:=h.q;refine⟨λb c f=>?_,zX h.q hs.q,λb j=>?_⟩;rw[hs.block b η (λd=>by have:=h.l b (i b d);omega)];exact h.same b c f;rcases d b j with g|g;exact h.l b g;right;omega
def Ww.write{B:Nat}{w w':U}{wb:Nat}{M:TM}{R:Φ}{m rowv n l c:O}{u:Γ}(h:Ww B w wb M R m rowv n l c u){k:Nat}(H:k∈R){s:Array O}(j:U3 w k s 90)(I:∀x∈M.z,x.1≠k)(hs:zc [k] w w'):Ww B w' wb M R m rowv n l c u:=by
 have d:∀{z:Nat} {e:f_} {E:Nat} {v:O} {A:Nat} {D:Γ},w.r z e E v A D->e≠90->∀b,v.m=Z b->b∉[k]:=λF C b f g=>uj F j C f (by simpa using g);refine⟨h.low,h.box.save hs ?_,yd h.ps hs (d h.ps θ),yd h.row hs (d h.row θ),yd h.ls hs (d h.ls θ),yd h.lw hs (d h.lw θ),yd h.z hs (d h.z θ),λb r=>yh (h.res b r) hs.q,h.sep,h.apart,λx J=>?_,λi y=>?_,λp G=>(h.pairs p G).save hs (by simp[H]) (λb j=>zh j)⟩;intro g;have a:=h.box;simp only[xo] at g;unfold U3 at a j;rw[g,j] at a;simp at a;obtain⟨a,o,t⟩:=h.lists x J;exact⟨yd a hs (d a θ),yd o hs (d o θ),t⟩;obtain⟨q,a,o,t⟩:=h.own i y;refine⟨q,a,o,yd t hs λb f g=>?_⟩;have:=I _ (zr y);simp only[sl,O.ownBlock,zt] at f;simp only[xo] at g;omega
def mt(B:Nat)(w:U)(wb:Nat)(M:TM)(lo:Nat)(s:U)(d rowv a:O)(h:List O)(ls:List zk)(gs:List Nat)(f i:Nat)(l:Array O)(k e:Nat)(wr:U):Prop:=
 ∃(g:List Nat) (L:List nU) (c b:O),g.j=k/\L.j=M.ls.j+e/\Ww B wr wb {M with ls:=L} (gs.drop e++[f]) d rowv c b a h ∧
  wr.r B 90 3 (sl f ls.j) ls.j (UM (g.map (ka M.z.j)++h_ vO (ls.drop k) (gs.drop k))) ∧
  (∀j (n:j<ls.j) (m:j<gs.j),e<=j->U7 B wr (sl gs[j] ls[j].k.j) ls[j].k) ∧
  WA lo s wr (gs.drop e++[f]++en wb d rowv c b a {M with ls:=L})/\U3 wr i l 93/\Below B w wr
def Aj{w:U}{b d:Nat}{c f:Array O}{T e:f_}(h:U3 w b c T)(a:U3 w d f e)(g:T≠e):b≠d:=by
 rintro rfl;unfold U3 at h a;rw[h] at a;simp at a;exact g a.2
def mt.next{B:Nat}{w:U}{wb:Nat}{M:TM}{lo:Nat}{s:U}{m rowv i:O}{R:Γ}{ls:Ω}{gs:Φ}{a T:Nat}{Q:Array O}{k:Nat}{c A:U}(h:mt B w wb M lo s m rowv i R ls gs a T Q k (k+1) c)(aa:gs.j=ls.j)(V:k<ls.j)(J:∀x∈M.z,x.1≠a)(u:Obj)
  (hW:A=(((c.x (ω a (k*3)) (.i false)).x (ω a (k*3+1)) (.g dJ)).x (ω a (k*3+2)) (sl c.o.q (M.z.j+1))).C u):mt B w wb M lo s m rowv i R ls gs a T Q (k+1) (k+1) A:=by
 obtain⟨n,L,G,C,N,h2,S,z,h5,h6,P,h8⟩:=h;have r:k<gs.j:=η;obtain⟨D,E⟩:=sD z;have f:U3 c a D 90:=E;have F:=S.q;have g:=t7 z k υ (.i false) (.g dJ) (sl c.o.q (M.z.j+1));have d:zc [a] c (((c.x (ω a (k*3)) (.i false)).x (ω a (k*3+1)) (.g dJ)).x (ω a (k*3+2)) (sl c.o.q (M.z.j+1))):=((zc.set _ _ _ _).A (zc.set _ _ _ _)).A (zc.set _ _ _ _);have H:(n.map (ka M.z.j)++h_ vO (ls.drop k) (gs.drop k)).set k (.i false,.g dJ,sl c.o.q (M.z.j+1))=(n++[c.o.q]).map (ka M.z.j)++h_ vO (ls.drop (k+1)) (gs.drop (k+1)):=by
  have y:(n.map (ka M.z.j)).j=k:=by simp[N]
  rw[gz _ _ η,y,vF,yK V,yK r,uY];simp only[l7,ml,xU,List.map_nil,jt,dM,mo,ka]
 rw[H] at g;generalize (((c.x (ω a (k*3)) (.i false)).x (ω a (k*3+1)) (.g dJ)).x (ω a (k*3+2)) (sl c.o.q (M.z.j+1)))=W at *;have l:μ W A:=by rw[hW];exact(zn _ _).C (ze _) _
 have nb:∀{b1:Nat} {e:f_} {s1:Nat} {v:O} {n1:Nat} {xs:Γ},c.r b1 e s1 v n1 xs->e≠90->∀b,v.m=Z b->b∉[a]:=λho hT b I hm=>uj ho f hT I (by simpa using hm);refine⟨n++[c.o.q],L,G,C,by simp[N],h2,(S.write ζ f J d).u l,zy g l,λj K p t=>?_,?_,?_,?_⟩;have q:=h5 j K p t;exact U7.u (yd q d (nb q θ)) l;exact(h6.save d ζ (λb o=>zh o)).save (zc.of (M:=[]) l) ζ (λb o=>zh o);exact(P.save d (by simpa using Aj P f θ)).u l;exact(h8.A (d.u (by simpa using yZ z rfl) F)).A (l.y (by have:=d.q;omega))
end
section
open Go.Proofs.Tryz
variable {lo:Nat}
def mt.at{B:Nat}{w:U}{wb:Nat}{M:TM}{lo:Nat}{s:U}{g rowv b:O}{r:Γ}{ls:Ω}{gs:Φ}{a t:Nat}{n:Array O}{k x:Nat}{wr:U}(h:mt B w wb M lo s g rowv b r ls gs a t n k x wr)(o:gs.j=ls.j)(j:k<ls.j):
  a<wr.o.q/\wr.p (ω a (k*3))=Z (.i ls[k].i)/\wr.p (ω a (k*3+1))=Z (.g ls[k].o)/\wr.p (ω a (k*3+2))=Z (.k (Z (δ gs[k])) ls[k].k.j ls[k].k.j):=by
 obtain⟨i,L,v,p,l,E,z,m,A,D,y,C⟩:=h;have c:k<gs.j:=η;have e:(i.map (ka M.z.j)++h_ vO (ls.drop k) (gs.drop k))[k]?=Z (vO ls[k] gs[k]):=by
  have d:(i.map (ka M.z.j)).j=k:=by simp[l]
  rw[gJ η,d,vF,yK j,yK c];rfl
 obtain⟨f,u⟩:=jB.1 e;have q:=pq m k f;rw[u] at q;exact q
def mt.parts{B:Nat}{w:U}{wb:Nat}{M:TM}{lo:Nat}{s:U}{c rowv a:O}{m:Γ}{ls:Ω}{gs:Φ}{f i:Nat}{g:Array O}{k q:Nat}{wr:U}(h:mt B w wb M lo s c rowv a m ls gs f i g k q wr):
  Vw lo s wr/\U3 wr i g 93/\(∃d b,U3 wr wb #[c,ν,ν,ν,ι 0,ι 0,ι 0,ν,.i true,rowv,d,b,ν,a] 35)/\(∃e,U3 wr f e 90)/\Below B w wr:=by
 obtain⟨r,L,d,b,t,v,n,l,u,p,j,o⟩:=h;exact⟨p.same,j,⟨_,_,n.box⟩,sD l,o⟩
def mt.u{B:Nat}{w:U}{wb:Nat}{M:TM}{lo:Nat}{s:U}{f rowv e:O}{n:Γ}{ls:Ω}{gs:Φ}{l p:Nat}{m:Array O}{k q:Nat}{wr w':U}(h:mt B w wb M lo s f rowv e n ls gs l p m k q wr)(d:μ wr w'):mt B w wb M lo s f rowv e n ls gs l p m k q w':=by
 obtain⟨r,L,i,g,t,A,o,v,x,z,u,y⟩:=h;exact⟨r,L,i,g,t,A,o.u d,zy v d,λj a b c=>(x j a b c).u d,z.save (zc.of (M:=[]) d) ζ (λb d=>zh d),u.u d,y.A (d.y o.q)⟩
def Um:(e_.info? 91).map (λi=>(i.zero,i.q,i.bytes))=Z (Z (ν),1,24):=χ
end
end Go.Proofs.YteampbddflhngaaGreat
