import Derived.Deep.MidRow
import Derived.Test.YteampbddflhngaaGreatR07
namespace Go.Proofs.YteampbddflhngaaGreat
open List renaming length→List.j,take→List.G,toArray→List.F
open _root_.Array renaming size→Array.q
open _root_.ByteArray renaming size→ByteArray.q
open Go.RowKit.Below renaming size→Go.RowKit.Below.q,setCell→Go.RowKit.Below.x,mono→Go.RowKit.Below.y,trans→Go.RowKit.Below.A,alloc→Go.RowKit.Below.C
open Go.TypeInfo renaming size→Go.TypeInfo.q
open Go.RowKit.Hid renaming out→Go.RowKit.Hid.l
open Go.Shut renaming out→Go.Shut.l
open Go.World renaming heap→Go.World.o,setCell→Go.World.x,cell?→Go.World.p,alloc→Go.World.C,ownsRow→Go.World.r
open Go.Value renaming slice→Go.Value.k,cells→Go.Value.E,pointer→Go.Value.u
open Go.TypeDesc renaming slice→Go.TypeDesc.k,pointer→Go.TypeDesc.u
open Go.Calls renaming mono→Go.Calls.y
open Eq renaming trans→Eq.A
open Iff renaming trans→Iff.A
open Go.Obj renaming cells→Go.Obj.E
open Option renaming some→Z,none→Y
open Go.RowKit renaming Hid→X
open Go renaming World→U,Value→O
set_option linter.all false
set_option maxRecDepth 100000
set_option maxHeartbeats 4000000
open Go.Proofs.Tryz Go.RowKit
section
variable {lo:Nat}{W w w':U}{cs hvs:List O}{r:zu}{jb k:Nat}{nts:List (Nat×List Nat)}{bps:List (O×Nat×List Nat)}{tv sv bv:O}{ji:List Int}{d:Int}
def uS(W:U)(b:Nat):Prop:=∃c:Array O,Th W b c 310/\c.q=28
def gO(W:U)(b:Nat)(cs:List O):World:=W.setCells b 0 cs
def Th.sets{T:TypeId}{b:Nat}:∀(vs:Γ) (o:Nat) (w:U) (l:Γ),Th w b l.F T->o+vs.j=l.j->Th (w.setCells b o vs) b (l.G o++vs).F T
 |[],o,w,l,h,e=>by
  simp at e;subst e;simpa [U.setCells] using h
 |v::r,o,w,l,h,e=>by
  simp only[xt] at e;have a:Th (w.x (ω b o) v) b (l.set o v).F T:=by simpa using h.set o v
  have:=Th.sets r (o+1) _ _ a υ;rw[U.setCells];rw[show l.G o++v::r=(l.set o v).G (o+1)++r from by
   rw[List.take_set,yM (by omega:o<l.j),l0 _ _ υ];simp[Nat.min_eq_left (show o<=l.j by omega)]]
  exact this
def sw{b:Nat}(h:uS W b)(f:cs.j=28):Th (gO W b cs) b cs.F 310:=by
 obtain⟨c,a,e⟩:=h;have:=Th.sets cs 0 W c.toList (by simpa using a) υ;simpa [gO] using this
def zd.sets(b:Nat):∀(vs:Γ) (o:Nat) (w:U),zd [b] w (w.setCells b o vs)
 |[],_,w=>zd.refl _ w
 |v::r,o,w=>(zd.set w b o v).A (zd.sets b r (o+1) _)
def tx(W:U)(b:Nat)(cs:Γ):zd [b] W (gO W b cs):=zd.sets b cs 0 W
def kM(W:U)(b:Nat)(cs:Γ)(b' o:Nat)(h:b'≠b):(gO W b cs).p (ω b' o)=W.p (ω b' o):=U.cell?_setCells_out b cs 0 W _ λe=>zB e h
def uS.there{W:U}{b:Nat}(h:uS W b):W.there b 0 28:=λj g=>by
 obtain⟨c,f,i⟩:=h;obtain⟨e,a⟩:=f.H;rw[vx];exact⟨by rw[e,Array.getElem?_eq_getElem η];rfl,a j⟩
def bj(p vs c:Int)(h g:Option Addr)(b e a f:Nat):List Value:=[ι p,.k h b e,ι vs,.k g a f,ν,ν,ν,ν,ν,ν,ι 0,ι 0,ι 0,ι 0,ι 0,ι c,ι 0,ι 0,ι 0,ι 0,ι 0,ι 0,ι 0,ι 0,ι 0,ι 0,ι 0,ι 0]
def tK(p vs c:Int)(h g:Option Addr)(b e a f:Nat):O.agg #[ι p,.k h b e,ι vs,.k g a f,ν,ν,ν,ν,ν,ν,ι 0,ι 0,ι 0,ι 0,ι 0,ι c,ι 0,ι 0,ι 0,ι 0,ι 0,ι 0,ι 0,ι 0,ι 0,ι 0,ι 0,ι 0]=.agg (bj p vs c h g b e a f).F:=rfl
def O0(p vs c:Int)(h g:Option Addr)(b e a f:Nat):(bj p vs c h g b e a f).j=28:=rfl
def Kq(p vs c:Int)(h g:Option Addr)(b e a f:Nat)(q:Int):(bj p vs c h g b e a f).set 0 (ι q)=bj q vs c h g b e a f:=rfl
def K2(p vs e:Int)(j g:Option Addr)(h i b f:Nat)(a:Option Addr)(n c:Nat):(bj p vs e j g h i b f).set 1 (.k a n c)=bj p vs e a g n c b f:=rfl
def Qt(p vs c:Int)(h g:Option Addr)(b e a f:Nat)(q:Int):(bj p vs c h g b e a f).set 2 (ι q)=bj p q c h g b e a f:=rfl
def Rl(p vs e:Int)(g j:Option Addr)(b f h i:Nat)(a:Option Addr)(n c:Nat):(bj p vs e g j b f h i).set 3 (.k a n c)=bj p vs e g a b f n c:=rfl
def KR(p vs h:Int)(g f:Option Addr)(b c a e:Nat)(q:Int):(bj p vs h g f b c a e).set 15 (ι q)=bj p vs q g f b c a e:=rfl
def uS.lt{W:U}{b:Nat}(h:uS W b):b<W.o.q:=by obtain⟨c,a,_⟩:=h;exact a.lt
def SH(W:U)(b:Nat)(p vs e:Int)(m l:Option Addr)(c g a i:Nat)(h:uS W b):(storeCells (δ b) (bj p vs e m l c g a i)).run prog W=.ok () (gO W b (bj p vs e m l c g a i)):=
 run_storeCells_cells (P:=prog) b 0 (bj p vs e m l c g a i) 0 W (λj f=>(h.there j f).1) (λj f=>(h.there j f).2) (by simp[bj,O.oneCell'])
def Ia(w:U)(b:Nat)(p vs e:Int)(j i:Option Addr)(c f a g:Nat)(h:b=w.o.q):uS (w.C (.E (bj p vs e j i c f a g).F 310)) b:=⟨_,Th.newAt _ _ _ _ h,rfl⟩
def iY(w:U)(b:Nat)(o:Obj)(h:uS w b):uS (w.C o) b:=by obtain⟨c,e,a⟩:=h;exact⟨c,e.u ((zn _ _).C (zg _) o),a⟩
def NH(w:U)(b:Nat):uS w.drew b↔uS w b:=Iff.rfl
def rX(w:U)(p vs c:Int)(h g:Option Addr)(b e a f:Nat):uS (w.C (.E (bj p vs c h g b e a f).F 310)) w.o.q:=Ia _ _ _ _ _ _ _ _ _ _ _ rfl
def D1(w:U)(o:Obj)(p vs c:Int)(h g:Option Addr)(b e a f:Nat):uS ((w.C o).C (.E (bj p vs c h g b e a f).F 310)) (w.o.q+1):=Ia _ _ _ _ _ _ _ _ _ _ _ ζ
def eD(w:U)(o:Obj)(p vs c:Int)(h g:Option Addr)(b e a f:Nat):uS ((w.C (.E (bj p vs c h g b e a f).F 310)).C o) w.o.q:=iY _ _ _ (rX _ _ _ _ _ _ _ _ _ _)
def iK.mk'{a:U}{e:Option Addr}{b c n g:Nat}(j:uS W jb)(i:Th W g (madeCells #[.u Y,ι 0,ι 0,ι 0] (n*4)) 323)(h:jb≠g)(m:a.o.q<=jb)(l:a.o.q<=g)(f:μ a W):iK a (gO W jb (bj (r.g.o:Nat) (r.m:Nat) (xM r r.m) e (Z (δ g)) b c n n)) r (.k e b c) n ((π jb)):=by
 refine⟨jb,g,rfl,m,l,sw j rfl,i.save (tx _ _ _) υ,f.A ((tx _ _ _).u υ f.q)⟩
attribute [local go_sem] tK O0 Kq K2 Qt Rl KR SH rX D1 eD iY NH
def mG(qc:List zl)(k:Nat):Int:=if (qc.G k).any (λT=>T.count == 0) then -1 else 0
def NU(qc:List zl)(k:Nat)(a:k<qc.j):mG qc (k+1)=if qc[k].count=0 then -1 else mG qc k:=by
 unfold mG;rw[yM a,List.any_append];by_cases h:qc[k].count=0;simp[h];simp[h]
def J7(qc:List zl):mG qc qc.j=kW qc:=by simp[mG,kW]
def CL(T1:List (Nat×Φ))(n k:Nat)(a:k<=n)(b:n=T1.j):(ju T1 n k).j=n:=by simp[ju];omega
def Km(T1:List (Nat×List Nat))(n k:Nat)(g:k<n)(c:T1.j=n):(yE (ju T1 n k)).set (k*4) (.u (Z ⟨(T1[k]'(by omega)).1,0,Y⟩))=yE (ju T1 n (k+1)):=by
 rw[E0 _ _ (by rw[CL T1 n k (by omega) c.symm];exact g)];congr 1;unfold ju;obtain⟨m,b⟩:∃m,n-k=m+1:=⟨n-k-1,by omega⟩;rw[b,sq,show n-(k+1)=m from by omega,yM (show k<T1.j by omega),qF,kO];have a:((T1.G k).map (λx=>(Vg x.1,(ι 0:O),(ι 0:O),(ι 0:O)))).j=k:=by simp;omega
 apply nL;intro i;rw[List.getElem?_modify];by_cases e:k=i;subst e;rw[ff (by omega),ff (by omega),a,jC];simp[oe,Vg];rcases dV i k with h|h;rw[rV (by omega),rV (by omega)];simp[e];rw[ff (by omega),ff (by omega),a];obtain⟨j,f⟩:∃j,i-k=j+1:=⟨i-k-1,by omega⟩;rw[f];simp[e]
def ky(r:zu)(qx:List zl)(k:Nat):List wG:=((r.qx.zip qx).G k).map λx=>⟨x.1,vj x.1,x.2⟩
def J1(r:zu)(qx:List zl)(k:Nat)(b:k<r.qx.j)(a:k<qx.j):ky r qx (k+1)=ky r qx k++[⟨r.qx[k],vj r.qx[k],qx[k]⟩]:=by
 unfold ky;rw[yM υ,qF];simp
def Nr(r:zu)(qx:List zl)(k:Nat)(b:k<=r.qx.j)(a:k<=qx.j):(ky r qx k).j=k:=by simp[ky];omega
def RC(r:zu)(qx:List zl)(bps:List (O×Nat×Φ))(k:Nat)(a:k<r.qx.j)(b:k<qx.j)(c:bps.j=k)(tv:O)(tb:Nat)(fp:Φ):yE (List.zipWith fd (ky r qx (k+1)) (bps++[(tv,tb,fp)]))=yE (List.zipWith fd (ky r qx k) bps)++[ι (r.qx[k].o:Nat),tv,ι (vj r.qx[k]:Nat),(π tb)]:=by
 rw[J1 r qx k a b,Bi (by rw[Nr r qx k η η,c])];simp only[ny,List.zipWith_nil_right];rw[Lk];rfl
def mA(lo:Nat)(w:U)(r:zu)(nts:List (Nat×List Nat))(bps:List (O×Nat×List Nat))(k:Nat):Prop:=bps.j=k/\∀i (_:i<k) (b:i<bps.j) (a:i<r.qx.j) (c:i<nts.j),yu lo w bps[i].1 r.qx[i].v/\bps[i].2=nts[i]
def mA.snoc(h:mA lo w r nts bps k)(m:k<r.qx.j)(l:k<nts.j)(g:yu lo w tv r.qx[k].v):mA lo w r nts (bps++[(tv,nts[k].1,nts[k].2)]) (k+1):=by
 obtain⟨f,j⟩:=h;refine⟨by simp[f],λi a b c d=>?_⟩;by_cases e:i<k;rw[uH η];exact j i e η c d;obtain rfl:i=k:=η;simp only[←f,pL];subst f;exact⟨g,trivial⟩
def T4(B:Nat)(w:U)(r:zu)(hvs:List O)(k:Nat):Prop:=∀p (_:p<k) (_:p<hvs.j),w.r B 327 2 hvs[p] (xy r p).j (kT (xy r p))
def T4.u{B:Nat}(h:T4 B w r hvs k)(c:μ w w'):T4 B w' r hvs k:=λp a b=>zy (h p a b) c
def T4.saveT{B:Nat}{T:TypeId}{M:Φ}(h:T4 B w r hvs k)(hs:zd M w w')(c:T2 w T M)(e:327≠T):T4 B w' r hvs k:=λp a b=>yJ (h p a b) hs c e
def T4.set{B:Nat}{w:U}{r:zu}{hvs:Γ}{k:Nat}{c:O}(h:T4 B w r hvs k)(f:w.r B 327 2 c (xy r k).j (kT (xy r k))):T4 B w r (hvs.set k c) (k+1):=λp a b=>by
 by_cases e:p=k
 .subst e;rw[pU];exact f
 .rw[pW (Ne.symm e)];exact h p η (by simpa using b)
def uZ.E{i:U}{j:Nat}(h:uZ lo i w j jb r tv sv bv hvs ji d):jb<w.o.q/\(∀o,w.frozen? (ω jb o)=false)/\w.p (ω jb 3)=Z sv/\w.p (ω jb 4)=Z bv/\w.p (ω jb 26)=Z (ι d)/\(∀k,k<5->w.p (ω jb (5+k))=Z (hvs.getD k (.bool false)))/\(∀k,k<5->w.p (ω jb (10+k))=Z (ι (ji.getD k 0))):=by
 obtain⟨a,c⟩:=h.box.H;obtain⟨f,m,g,l,e⟩:=Om (r:=r) (tv:=tv) (sv:=sv) (bv:=bv) (d:=d) h.hlen h.blen;exact⟨h.box.lt,c,(a _).A f,(a _).A m,(a _).A g,λk b=>(a _).A (l k b),λk b=>(a _).A (e k b)⟩
def MQ(qc:List zl)(T1:List (Nat×Φ))(h:T1.j=qc.j):ju T1 qc.j qc.j=List.zipWith ft (qc.map λT=>(⟨T,[0,0,0]⟩:xb)) T1:=by
 apply nL;intro i;rw[List.getElem?_zipWith];by_cases a:i<qc.j;simp[ju,←h,ft,Vg,List.getElem?_map,List.getElem?_eq_getElem (show i<qc.j from a),List.getElem?_eq_getElem (show i<T1.j by omega)];simp[ju,←h,List.getElem?_eq_none (show qc.j<=i by omega),List.getElem?_eq_none (show T1.j<=i by omega)]
def Sh(r:zu)(qx:List zl)(h:qx.j=r.qx.j):ky r qx r.qx.j=(r.qx.zip qx).map λx=>⟨x.1,vj x.1,x.2⟩:=by
 unfold ky;rw[yV υ]
def mA.all(h:mA lo w r nts bps k)(c:k=nts.j/\k=r.qx.j):bps.map (·.2)=nts:=by
 obtain⟨a,e⟩:=h;apply jy;simp[a,c.1];intro i f b;rw[ub];exact(e i η η η b).2
def E9{y E:Nat}{G D l s:O}{g:Nat}{qc qx:List zl}{T1:List (Nat×Φ)}(j:μ w W)(c:lo<=w.o.q)(h:vG lo w tv G D r)(o:hX y lo w l qc T1)(t:hX E lo w s qx nts)(n:qx.j=r.qx.j)(A:hvs.j=5)
  (z:T4 w.o.q W r hvs 5) (hs:W.r w.o.q 323 4 (sl g qc.j) qc.j (yE (ju T1 qc.j qc.j))) (u:W.r w.o.q 325 4 bv r.qx.j (yE (List.zipWith fd (ky r qx r.qx.j) bps))) (f:mA lo w r nts bps r.qx.j):jL lo W (vA r qc qx d) ⟨tv,sl g qc.j,bv,hvs,T1,bps⟩:=by
 have e:=o.len;have v:=t.len;have B:=f.1;have i:((r.qx.zip qx).map λx=>(⟨x.1,vj x.1,x.2⟩:wG)).j=r.qx.j:=by simp;omega
 refine⟨h.g.u j,?_,by simp[vA,e],?_,by simp[vA],?_,by simp only[vA];omega,?_,⟨A,by simp[vA]⟩,?_,by simp[vA],?_⟩;rw[MQ qc T1 e] at hs;have:=yo hs c;simpa [vA] using this;intro k a b;simp only[vA,xu] at a;have:=(o.tries k a b).u j;simpa [vA] using this;rw[Sh r qx n] at u;have:=yo u c;simp only[vA];rw[i];exact this;intro k a b;simp only[vA] at a;rw[i] at a;obtain⟨F,m⟩:=f.2 k a b a η;have C:=(t.tries k η η).u j;simp only[vA,ub,List.getElem_zip];exact⟨F.u j,by rw[m];exact C⟩;intro p a b;simp only[vA,xu,pE] at a;have q:=yo (z p a b) c;have m:=IR r p (h.qc.len) η;simp only[vA,ub,fR];exact⟨q,m⟩;simp only[vA,xu];have:=o.K;have:=h.qx.len;have:=h.small.2.1;refine⟨η,by simp;omega,η⟩
def i8{c:Func}{t:Tmp}{f:TypeId}(h:c.results=#[.cell t f])(a:Array O)(P:Program)(w:U)(b o:Nat)(e:a.getD t undef=.u (Z (ω b o))){v:O}(g:(loadVar f (ω b o)).run P w=.ok v w):(results c a).run P w=.ok v w:=by
 rw[Array.getD_eq_getD_getElem?] at e;simp[results,h,e,asAddr,g]
def Th.range{b:Nat}{T:TypeId}(h:Th w b cs.F T):w.rangeAt b 0 cs:=λj v a=>by
 rw[vx,h.H.1];simpa using a
def Dr(r:zu)(tv sv bv:O)(hvs:Γ)(ji:List Int)(d:Int)(b:hvs.j=5)(a:ji.j=5):(jc r tv sv bv hvs ji d).j=28:=by
 simp[jc,b,a]
def DC(e:tv.oneCell'=true)(c:sv.oneCell'=true)(f:bv.oneCell'=true)(b:∀u∈hvs,u.oneCell'=true):∀u∈jc r tv sv bv hvs ji d,u.oneCell'=true:=by
 intro u a;simp only[jc,ya,zG,zF,nB,or_false] at a;rcases a with ((((((a|a)|⟨_,_,a⟩)|a)|⟨_,_,a⟩)|⟨_,_,a⟩)|a)
 rcases a with rfl|rfl|rfl|rfl|rfl<;>first|rfl|assumption
 exact b u a;subst a;rfl;subst a;rfl;subst a;rfl;subst a;rfl;rcases a with rfl|rfl<;>rfl
def T4.one{B:Nat}(h:T4 B w r hvs 5)(g:hvs.j=5):∀u∈hvs,u.oneCell'=true:=by
 intro u c;obtain⟨p,b,rfl⟩:=vd c;obtain⟨f,a,e⟩:=zr (h p η b);rw[e];rfl
def rU{b:U}{a:Nat}(h:uZ lo b w a jb r tv sv bv hvs ji d):uS w a:=h.res
def yb.saveJ{tb:Nat}{T:zl}{fp M:Φ}(h:yb lo w tb T fp)(hs:zd M w w')(e:T2 w 310 M):yb lo w' tb T fp:=h.save hs λb g a=>by
 obtain⟨c,f⟩:=e b a;exact h.notin f θ θ θ g
def jL.saveJ{w w':U}{J:zE}{P:xI}{M:Φ}(h:jL lo w J P)(hs:zd M w w')(c:T2 w 310 M):jL lo w' J P:=
 ⟨h.g.saveT hs c θ,yJ h.ja hs c θ,h.slen,λk a b=>(h.tries k a b).saveJ hs c,h.B,yJ h.bars hs c θ,h.blen,λk a b=>⟨(h.jk k a b).1.saveT hs c θ,(h.jk k a b).2.saveJ hs c⟩,h.hlen,λp a b=>⟨yJ (h.jf p a b).1 hs c θ,(h.jf p a b).2⟩,h.jl,h.K⟩
def JA{b1 b2:Nat}(w:U)(r:zu)(tv pv nv bQ co:O)(qc qx:List zl)(T1 nts:List (Nat×List Nat))(h:vG lo w tv pv nv r)(hp:hX b1 lo w bQ qc T1)(hn:hX b2 lo w co qx nts)(c0:qx.j=r.qx.j)(bZ:lo<=w.o.q):
  Calls prog 214 #[gi r tv pv nv,bQ,co] w λe w'=>∃P,e=ε (.agg (uM (xK r qc qx) P).F)/\jL lo w' (xK r qc qx) P/\P.tbs=T1/\P.bps.map (·.2)=nts/\μ w w':=by
 obtain⟨iS,c4,c8,bI,bX⟩:=info_parts SM;obtain⟨iB,c6,cX,bF,bH⟩:=info_parts Te;have HR:=Tg h;have HP:=Tg hp;have HN:=Tg hn;obtain⟨dt,dq,rfl⟩:=zr hp.own;obtain⟨d3,dj,rfl⟩:=zr hn.own;obtain⟨f,b,rfl⟩:=h.g.qy;obtain⟨C,s,rfl⟩:=h.qc.qy;obtain⟨D,n,rfl⟩:=h.qx.qy;have d4:=hp.K;have dy:=hn.K;have d0:=h.small.2.1;have bV:=λW:U=>run_make (P:=prog) (w:=W) 305 323 iS _ underlying305 c4 c8 .i64 .i64 (qc.j:Int) (qc.j:Int) (by omega) (Int.le_refl _) (by rw[bX];omega) (by omega);rw[bI] at bV;have aW:X (∀W (kn:Int),μ w W->Calls prog 220 #[.agg #[ι r.L,ι r.m,ι r.g.o,.k f r.g.v.j b,.k C r.qc.j s,.k D r.qx.j n],ι kn] W λe w'=>e=ε (ι (xM r kn))/\μ W w'):=λW kn hW=>Ly W _ _ _ r kn (h.u hW);have ck:X (∀W (pl:Nat),pl<=1000000->μ w W->Calls prog 221 #[.agg #[ι r.L,ι r.m,ι r.g.o,.k f r.g.v.j b,.k C r.qc.j s,.k D r.qx.j n],ι pl] W λe w'=>∃hv,e=.returned hv/\w'.r W.o.q 327 2 hv (xy r pl).j (kT (xy r pl))/\μ W w'):=λW pl cV hW=>RM W _ _ _ r pl (h.u hW) cV;have aY:=Tg bZ;have aD:=Tg c0;unfold gi;clear h hp hn bZ c0;have al:=(Th.new w #[ι r.L,ι r.m,ι r.g.o,.k f r.g.v.j b,.k C r.qc.j s,.k D r.qx.j n] 207).u ((zn _ _).C (zg _) (.E (bj 0 0 0 Y Y 0 0 0 0).F 310));have V:=Th.new (w.C (.E #[ι r.L,ι r.m,ι r.g.o,.k f r.g.v.j b,.k C r.qc.j s,.k D r.qx.j n] 207)) (bj 0 0 0 Y Y 0 0 0 0).F 310;have bx:μ w ((w.C (.E #[ι r.L,ι r.m,ι r.g.o,.k f r.g.v.j b,.k C r.qc.j s,.k D r.qx.j n] 207)).C (.E (bj 0 0 0 Y Y 0 0 0 0).F 310)):=(by go_grown);simp only[U.size_alloc] at V;go_enter func214,ntmps214;go_upto_region 1 with fail
 generalize (w.C (.E #[ι r.L,ι r.m,ι r.g.o,.k f r.g.v.j b,.k C r.qc.j s,.k D r.qx.j n] 207)).C (.E (bj 0 0 0 Y Y 0 0 0 0).F 310)=wA at *;obtain⟨cL,aZ,aV⟩:=al.e;have cI:=bx.q;go_cut [7] from 13 to 24 (λs7 wx=>iK wA wx r (.k f r.g.v.j b) qc.j s7)
 case first=>
  go_region_held3 (λw'=>w'.p ⟨w.o.q,0,Y⟩=Z (ι r.L)/\w'.p ⟨w.o.q,1,Y⟩=Z (ι r.m)/\w'.p ⟨w.o.q,2,Y⟩=Z (ι r.g.o)/\w'.p ⟨w.o.q,3,Y⟩=Z (.k f r.g.v.j b)/\w'.p ⟨w.o.q,4,Y⟩=Z (.k C r.qc.j s)/\w'.p ⟨w.o.q,5,Y⟩=Z (.k D r.qx.j n)) (first|go_keep|(go_simp;done)|(go_split_ands;refine⟨?_,?_,?_,?_,?_,?_⟩<;>(rw[kM _ _ _ _ _ (by simp;omega)];simp[*]))) (first|(go_at_call 220;refine(aW.l _ _ (by exact(by go_grown))).y ?_;rintro e w1 ⟨rfl,J⟩;have be:μ wA w1:=(zQ (by go_grown) J (zg _));have cM:=al.u be;obtain⟨de,dm,df⟩:=cM.e;have cW:=be.q;(first|((with_reducible refine Th.carry (Th.drew (Th.newAt (wA.C (.E (madeCells #[.u Y,ι 0,ι 0,ι 0] (qc.j*4)) 323)) (wA.o.q+1) (bj 0 0 0 Y Y 0 0 0 0).F 310 (U.size_alloc _ _).symm)) J ?_);intro ag;have a1:uS w1 (wA.o.q+1):=⟨_,ag,rfl⟩;clear ag;(with_reducible refine Th.carry (Th.drew (Th.u (Th.new wA (madeCells #[.u Y,ι 0,ι 0,ι 0] (qc.j*4)) 323) ((zn _ _).C (zg _) (.E (bj 0 0 0 Y Y 0 0 0 0).F 310)))) J ?_);intro a4)|((with_reducible refine Th.carry (Th.drew (Th.u (Th.new wA (bj 0 0 0 Y Y 0 0 0 0).F 310) ((zn _ _).C (zg _) (.E (madeCells #[.u Y,ι 0,ι 0,ι 0] (qc.j*4)) 323)))) J ?_);intro ag;have a1:uS w1 wA.o.q:=⟨_,ag,rfl⟩;clear ag;(with_reducible refine Th.carry (Th.drew (Th.newAt (wA.C (.E (bj 0 0 0 Y Y 0 0 0 0).F 310)) (wA.o.q+1) (madeCells #[.u Y,ι 0,ι 0,ι 0] (qc.j*4)) 323 (U.size_alloc _ _).symm)) J ?_);intro a4)|((with_reducible refine Th.carry (Th.drew (Th.new wA (bj 0 0 0 Y Y 0 0 0 0).F 310)) J ?_);intro ag;have a1:uS w1 wA.o.q:=⟨_,ag,rfl⟩;clear ag)|((with_reducible refine Th.carry (Th.drew (Th.new wA (madeCells #[.u Y,ι 0,ι 0,ι 0] (qc.j*4)) 323)) J ?_);intro a4)|skip)))
  all_goals
   go_wp2_with fail
   go_meet
   apply iK.mk';first|exact D1 _ _ _ _ _ _ _ _ _ _ _|exact eD _ _ _ _ _ _ _ _ _ _ _|exact rX _ _ _ _ _ _ _ _ _ _|exact a1|exact iY _ _ _ a1
   first|exact a4|exact Th.u (Th.new w1 _ _) zP|exact Th.newAt _ _ _ _ (U.size_alloc _ _).symm|exact Th.new w1 _ _|exact Th.u a4 zP
   first|omega|(have:=a4.lt;omega)|(have:=a1.lt;omega)
   omega;omega;exact(zQ be (by go_grown) (zg _))
 clear bV;obtain⟨jb,g,rfl,cP,cK,bc,bq,aE⟩:=hcut;have cr:jb≠w.o.q+1:=by have:=V.lt;omega
 have hM:uZ lo w wc (w.o.q+1) jb r (.k f r.g.v.j b) (sl g qc.j) (ν) iT (kD r 0) 0:=⟨bc,rfl,rfl,⟨_,V.u aE,rfl⟩,Tk bx aE,by omega,by omega,cr⟩;have F:=Tg hM;have HH:X (T4 w.o.q wc r iT 0):=λp a=>by omega
 have HG:=Tg bq;have H:=Tg (al.u aE);have dv:w.o.q<jb:=by omega
 have dx:w.o.q<g:=by omega
 have dr:g≠jb:=by
  intro e;subst e;exact zB (bq.type bc) (by decide)
 have dz:g≠w.o.q+1:=by have:=V.lt;omega
 clear hM bc bq aE al V bx cL aZ aV cI cP cK;go_wp2;go_loopw [25] (λcF wr=>∃(k:Nat) (hvs:List O),k<=5/\cF=ι k/\X (uZ lo w wr (w.o.q+1) jb r (.k f r.g.v.j b) (sl g qc.j) (ν) hvs (kD r k) 0)/\X (T4 w.o.q wr r hvs k)/\X (Th wr g (madeCells #[.u Y,ι 0,ι 0,ι 0] (qc.j*4)) 323)/\X (Th wr w.o.q #[ι r.L,ι r.m,ι r.g.o,.k f r.g.v.j b,.k C r.qc.j s,.k D r.qx.j n] 207)) (λi _=>5-(intOf i).toNat)
 case atStart=>exact⟨0,iT,by omega,rfl,F,HH,HG,H⟩
 clear F HH HG H;obtain⟨k,hvs,hk,rfl,F,HH,HG,H⟩:=hrel;have E:=F.l.u;have ao:=E.q;by_cases t:k<5
 .have cd:(k:Int)<5:=by omega
  have au:=H.l;obtain⟨a8,aC,a9⟩:=au.e;have aN:=Tg λW hW=>ck.l W k (by omega) (Tk E hW);have bK:=Tg λW hW=>aW.l W (k:Nat) hW;have bi:=Tg (IX r k t);generalize xM r (k:Nat)=bk at *;generalize ch:xy r k=hj at *;have c9:=Tg ch;clear ch;go_upto_region 6 with (first|(go_at_call 221;refine(aN.l _ (by exact(by go_grown))).y ?_;rintro e G ⟨hv,rfl,aj,l⟩;obtain⟨a6,ae,rfl⟩:=zr aj;have m:=F.l.next l;obtain⟨a5,aw,_,_,_,bG,_⟩:=m.E;have aM:=bG k t;clear bG;generalize hvs.getD k (.bool false)=ov at aM))
  have ac:=au.u l;have bL:=HG.l.u l;have a7:=HH.l.u l;have cY:=l.q;have A:zd [jb] G (G.x ⟨jb,5+k,Y⟩ (.k a6 hj.j ae)):=zd.set _ _ _ _;have j:=m.hold k t (.k a6 hj.j ae);have aL:=ac.saveT A (T2.box m.box) (by decide);have bM:=bL.saveT A (T2.box m.box) (by decide);have M:T4 w.o.q _ r (hvs.set k (.k a6 hj.j ae)) (k+1):=(a7.set (by rw[c9.l];exact yo aj (by omega))).saveT A (T2.box m.box) (by decide);generalize G.x ⟨jb,5+k,Y⟩ (.k a6 hj.j ae)=w3 at *;clear A ac bL a7 m aM aw a5 au a8 aC a9 aj aN;generalize hvs.set k (.k a6 hj.j ae)=c1 at *;have c2:=Tg j;have cQ:=Tg M;have cG:=Tg bM;clear j M bM F HH HG H;obtain⟨a8,aC,a9⟩:=aL.e;have al:=c2.l.u;have du:=al.q;go_wp2_with (go_at_call 220;refine(bK.l _ (by exact al)).y ?_;rintro e w4 ⟨rfl,ab⟩;have ai:=c2.l.next ab;obtain⟨ds,d2,_,_,_,_,b6⟩:=ai.E;have b5:=b6 k t;clear b6;generalize (kD r k).getD k 0=ob at b5)
  have bd:zd [jb] w4 (w4.x ⟨jb,10+k,Y⟩ (ι bk)):=zd.set _ _ _ _;have cw:=ai.back k t bk;rw[bi.l] at cw;go_roundw;exact⟨k+1,c1,by omega,by go_num,cw,(cQ.l.u ab).saveT bd (T2.box ai.box) (by decide),(cG.l.u ab).saveT bd (T2.box ai.box) (by decide),(aL.u ab).saveT bd (T2.box ai.box) (by decide)⟩;simp[intOf];omega
 obtain rfl:k=5:=by omega
 rw[show((5:Nat):Int)=5 from rfl];clear hk t ck aW;have bN:X (wr.r w.o.q 323 4 (sl g qc.j) qc.j (yE (ju T1 qc.j 0))):=by
  have q:=O3 (lo:=w.o.q) HG.l (by omega) (by unfold maxLen;omega);have e:ju T1 qc.j 0=List.replicate qc.j (O.pointer Y,O.int .i64 0,O.int .i64 0,O.int .i64 0):=by simp[ju,oe]
  rw[X,e];exact q
 clear HG;have cE:X (mG qc 0=0):=rfl;go_wp2;have cv:X (uZ lo w wr (w.o.q+1) jb r (.k f r.g.v.j b) (sl g qc.j) (ν) hvs (kD r 5) (mG qc 0)):=F;clear F cE;go_loopw [43] (λcJ wr=>∃(k:Nat),k<=qc.j/\cJ=ι k/\X (uZ lo w wr (w.o.q+1) jb r (.k f r.g.v.j b) (sl g qc.j) (ν) hvs (kD r 5) (mG qc k))/\X (T4 w.o.q wr r hvs 5)/\X (wr.r w.o.q 323 4 (sl g qc.j) qc.j (yE (ju T1 qc.j k)))/\X (Th wr w.o.q #[ι r.L,ι r.m,ι r.g.o,.k f r.g.v.j b,.k C r.qc.j s,.k D r.qx.j n] 207)) (λi _=>qc.j-(intOf i).toNat)
 case atStart=>exact⟨0,zs _,rfl,cv,HH,bN,H⟩
 clear cv HH bN H E ao;obtain⟨k,hk,rfl,F,HH,HS,H⟩:=hrel;have E:=F.l.u;have ao:=E.q;by_cases t:k<qc.j
 .have bO:k<T1.j:=by have:=HP.l.len;omega
  obtain⟨gp,cD,bw,cZ,bP⟩:=HP.l.cell k t bO;simp only[O.slice.injEq] at bw;have bW:=bw.1;clear bw;subst bW;have bu:=zi E cZ bP;have dh:gp<wr.o.q:=by omega
  obtain⟨bf,bb,bD,_,_,_,_⟩:=F.l.E;have bY:wr.p ⟨jb,3,Y⟩=Z (.k (Z ⟨g,0,Y⟩) qc.j qc.j):=bD;have hS:wr.r w.o.q 323 4 (.k (Z ⟨g,0,Y⟩) qc.j qc.j) qc.j (yE (ju T1 qc.j k)):=HS.l;have cd:(k:Int)<(qc.j:Int):=by omega
  have cO:=CL T1 qc.j k hk (by have:=HP.l.len;omega);obtain⟨sx,db⟩:∃sx,wr.p ⟨g,k*4,Y⟩=Z sx:=by
   obtain⟨g',dg,cg,_,_,b3⟩:=yr hS (by omega);simp only[O.slice.injEq,zt,Addr.mk.injEq,and_true] at cg;have cB:=cg.1;subst cB;exact⟨_,b3 (k*4) _ (tr (ju T1 qc.j k) k (by omega)).1⟩
  have cU:=vg hS;have ax:=uB hS (k*4) (by rw[i6];omega) (.u (Z ⟨T1[k].1,0,Y⟩));have b0:X ((yE (ju T1 qc.j k)).set (k*4) (.u (Z ⟨T1[k].1,0,Y⟩))=yE (ju T1 qc.j (k+1))):=Km T1 qc.j k t HP.l.len;rw[b0.l] at ax;have cm:=Tg λW hW=>FO W T1[k].1 qc[k] T1[k].2 ((HP.l.tries k t bO).u hW);have aB:=Tg (NU qc k t);have bg:zd [g] wr (wr.x ⟨g,k*4,Y⟩ (.u (Z ⟨T1[k].1,0,Y⟩))):=zd.set _ _ _ _;have bm:T2 wr 323 [g]:=λx hx=>by simp at hx;subst hx;exact jO hS rfl
  have m:=F.l.save bg (λx hx=>by simp at hx;omega) ⟨by simp;omega,by simp;omega⟩;have a7:=HH.l.saveT bg bm (by decide);have ac:=H.l.saveT bg bm (by decide);generalize T1[k].1=tb at *;generalize qc[k].count=ct at *;clear bD bP b0 hS cO;go_upto_region 12 with fail
  generalize wr.x ⟨g,k*4,Y⟩ ((π tb))=G at *;have l:=m.u;clear bu bf bb bY db cU F HH HS H;obtain⟨a5,aw,_,_,aK,_,_⟩:=m.E;have ah:=Tg m;have aF:=Tg a7;have aQ:X (Th G w.o.q _ 207):=ac;clear m a7 ac bm;generalize cN:mG qc k=dk at *;clear cN;by_cases cf:ct=0
  .subst cf;simp only[if_true] at aB;have A:zd [jb] G (G.x ⟨jb,26,Y⟩ (ι (-1))):=zd.set _ _ _ _;have j:=ah.l.ql (-1);have I:=T2.box ah.l.box;go_wp2_with (go_at_call 209;refine(cm.l _ (by exact l)).y ?_;rintro e w3 ⟨rfl,bt⟩;obtain rfl:=bt.symm)
   go_roundw;exact⟨k+1,by omega,by go_num,by rw[aB.l];exact j,aF.l.saveT A I (by decide),yJ ax A I (by decide),aQ.l.saveT A I (by decide)⟩;simp[intOf];omega
  rw[za cf] at aB;have d1:((ct:Int) == 0)=false:=by rw[beq_eq_false_iff_ne];omega
  go_wp2_with (go_at_call 209;refine(cm.l _ (by exact l)).y ?_;rintro e w3 ⟨rfl,bt⟩;obtain rfl:=bt.symm)
  go_roundw;exact⟨k+1,by omega,by go_num,by rw[aB.l];exact ah,aF,ax,aQ⟩;simp[intOf];omega
 obtain rfl:k=qc.j:=by omega
 rw[J7] at F;clear hk t;have au:=H.l;obtain⟨a8,aC,a9⟩:=au.e;go_wp2;clear a8 aC a9 au;have ca:X (wr.r w.o.q 325 4 (ν) 0 (yE (List.zipWith fd (ky r qx 0) []))):=xp _ _ _ _;have aO:X (mA lo w r nts [] 0):=⟨rfl,λi a=>by omega⟩;go_loopw [62] (λc7 wr=>∃(k:Nat) (bv:O) (bps:List (O×Nat×List Nat)),k<=r.qx.j/\c7=ι k/\X (uZ lo w wr (w.o.q+1) jb r (.k f r.g.v.j b) (sl g qc.j) bv hvs (kD r 5) (kW qc))/\X (T4 w.o.q wr r hvs 5)/\X (wr.r w.o.q 323 4 (sl g qc.j) qc.j (yE (ju T1 qc.j qc.j)))/\X (wr.r w.o.q 325 4 bv k (yE (List.zipWith fd (ky r qx k) bps)))/\X (mA lo w r nts bps k)) (λi _=>r.qx.j-(intOf i).toNat)
 case atStart=>exact⟨0,_,[],zs _,rfl,F,HH,HS,ca,aO⟩
 clear F HH HS ca aO H E ao;obtain⟨k,bv,bps,hk,rfl,F,HH,HS,HB,a3⟩:=hrel;have E:=F.l.u;have ao:=E.q;by_cases t:k<r.qx.j
 .have cu:k<qx.j:=by rw[aD.l];exact t
  have bS:k<nts.j:=by have:=HN.l.len;omega
  obtain⟨gl,L,z,cT,aP,bA,bR,aI⟩:=HR.l.qx.cell k t;subst cT;obtain⟨gn,cH,aX,bz,cz⟩:=HN.l.cell k cu bS;simp only[O.slice.injEq] at aX;have b4:=aX.1;clear aX;subst b4;have cd:(k:Int)<(r.qx.j:Int):=by omega
  have dd:(k:Int)<(qx.j:Int):=by omega
  have bu:=zi E aP bA;have cA:=zi E aP bR;have bE:=zi E bz cz;have dl:gl<wr.o.q:=by omega
  have cp:gn<wr.o.q:=by omega
  have ak:=HB.l;obtain⟨aH,ap,aJ⟩:=zr ak;subst aJ;have cR:=Tg aI;have ci:X (∀W,μ w W->Calls prog 222 #[.agg #[ι (r.qx[k].o:Nat),.k L r.qx[k].v.j z]] W λe w'=>e=ε (ι (vj r.qx[k]:Nat))/\μ W w'):=λW hW=>Dq W _ r.qx[k].o r.qx[k].v (aI.u hW);have bi:X (yE (List.zipWith fd (ky r qx (k+1)) (bps++[(.k L r.qx[k].v.j z,nts[k].1,nts[k].2)]))=yE (List.zipWith fd (ky r qx k) bps)++[ι (r.qx[k].o:Nat),.k L r.qx[k].v.j z,ι (vj r.qx[k]:Nat),.u (Z ⟨nts[k].1,0,Y⟩)]):=RC r qx bps k t cu a3.l.1 _ _ _;have aq:=Tg (a3.l.snoc t bS aI);clear bA bR cz aI cR;generalize r.qx[k].o=pr at *;generalize r.qx[k].v.j=tl at *;generalize vj r.qx[k]=kn at *;generalize nts[k].1=tb at *;generalize nts[k].2=fp at *;go_upto_region 19 with fail
  have N:μ wr (wr.C (.E #[ι pr,.k L tl z] 204)):=(by go_grown);have aR:=Th.new wr #[ι pr,.k L tl z] 204;have aA:=F.l.next N;have cj:X (T4 _ _ r hvs 5):=HH.l.u N;have cn:X (U.ownsRow _ w.o.q 323 4 (sl g qc.j) qc.j _):=zy HS.l N;have aG:=zy ak N;have a0:=zi N cp bE;clear F HH HS HB ak bu cA bE;generalize wr.C (.E #[ι pr,.k L tl z] 204)=w1 at *;generalize wr.o.q=lb at *;clear N E;have J:=aA.u;obtain⟨bf,bb,_,cx,_,_,_⟩:=aA.E;obtain⟨b9,cS,dp⟩:=aR.e;have cy:=Tg aA;clear aA;have cW:=J.q;refine wp_region_noPanic ?_;refine BX (S:=λw'=>w'.p ⟨jb,4,Y⟩=Z (.k aH k ap)/\w'.p ⟨lb,0,Y⟩=Z (ι pr)/\w'.p ⟨lb,1,Y⟩=Z (.k L tl z)/\w'.p ⟨gn,k,Y⟩=Z ((π tb))) (d:=13) (by kernel_rfl) (by refine⟨cx,?_,?_,a0⟩<;>(show w1.p _=_;rw[b9];rfl)) (λo=>?_);refine uA (i:=0) (v:=?v0) rfl (by kernel_rfl) (by kernel_rfl) (by kernel_rfl) (by kernel_rfl) (λ_ _ _ h=>h) (zh ⟨by rfl,?hy0⟩) o ?rest0
  case hy0=>
   intro wq R;go_simp
   (try with_reducible rfl)
  refine uA (i:=1) (v:=?v1) rfl (by kernel_rfl) (by kernel_rfl) (by kernel_rfl) (by kernel_rfl) (λ_ _ _ h=>h) (zh ⟨by rfl,?hy1⟩) o ?rest1
  case hy1=>
   intro wq R;go_simp
   (try with_reducible rfl)
  refine uA (i:=2) (v:=?v2) rfl (by kernel_rfl) (by kernel_rfl) (by kernel_rfl) (by kernel_rfl) (λ_ _ _ h=>h) (zh ⟨by rfl,?hy2⟩) o ?rest2
  case hy2=>
   intro wq R;go_simp
   (try with_reducible rfl)
  refine uA (i:=3) (v:=?v3) rfl (by kernel_rfl) (by kernel_rfl) (by kernel_rfl) (by kernel_rfl) (λ_ _ _ h=>h) (zh ⟨by rfl,?hy3⟩) o ?rest3
  case hy3=>
   intro wq R;go_simp
   (try with_reducible rfl)
  refine uA (i:=5) (v:=?v5) rfl (by kernel_rfl) (by kernel_rfl) (by kernel_rfl) (by kernel_rfl) (λ_ _ _ h=>h) (zh ⟨by rfl,?hy5⟩) o ?rest5
  case hy5=>
   intro wq R;go_simp
   (try with_reducible rfl)
  refine uA (i:=6) (v:=?v6) rfl (by kernel_rfl) (by kernel_rfl) (by kernel_rfl) (by kernel_rfl) (λ_ _ _ h=>h) (zh ⟨by rfl,?hy6⟩) o ?rest6
  case hy6=>
   intro wq R;go_simp
   (try with_reducible rfl)
  refine uA (i:=7) (v:=?v7) rfl (by kernel_rfl) (by kernel_rfl) (by kernel_rfl) (by kernel_rfl) (λ_ _ _ h=>h) (zh ⟨by rfl,?hy7⟩) o ?rest7
  case hy7=>
   intro wq R;go_simp
   (try with_reducible rfl)
  refine uA (i:=8) (v:=?v8) rfl (by kernel_rfl) (by kernel_rfl) (by kernel_rfl) (by kernel_rfl) (λ_ _ _ h=>h) (zh ⟨by rfl,?hy8⟩) o ?rest8
  case hy8=>
   intro wq R;go_simp
   (try with_reducible rfl)
  refine fI (i:=4) (by kernel_rfl) rfl (λK hK=>?_);go_simp
  refine(ci.l _ (by exact(zI J 1))).y ?_;rintro e G ⟨rfl,l⟩;have an:=Tk (zI (zn _ _) 1) l;have m:=cy.l.next an;have aF:X (T4 _ _ r hvs 5):=cj.l.u an;have da:X (U.ownsRow G w.o.q 323 4 (sl g qc.j) qc.j _):=zy cn.l an;have B:=zy aG an;have aS:=aR.u an;have a2:=(an.cell (p:=⟨gn,k,Y⟩) (show gn<w1.o.q by omega)).A a0;have cY:=an.q;have b8:=m.u;obtain⟨a5,aw,_,cb,_,_,_⟩:=m.E;have ah:=Tg m;obtain⟨af,bU⟩:=aS.H;refine hK.l _ _ (λ_=>⟨cb,by rw[af];rfl,by rw[af];rfl,a2⟩) ?_;have aa:G.p ⟨jb,4,Y⟩=Z (.k aH k ap)/\G.p ⟨lb,0,Y⟩=Z (ι pr)/\G.p ⟨lb,1,Y⟩=Z (.k L tl z)/\G.p ⟨gn,k,Y⟩=Z ((π tb)):=⟨cb,by rw[af];rfl,by rw[af];rfl,a2⟩;clear hK K o m b9 cS bf bb cx a0 cy cj cn l af bU ci;refine uA (i:=9) (v:=?v9) rfl (by kernel_rfl) (by kernel_rfl) (by kernel_rfl) (by kernel_rfl) (λ_ _ _ h=>h) (zh ⟨by rfl,?hy9⟩) aa ?rest9
  case hy9=>
   intro wq R;go_simp
   (try with_reducible rfl)
  refine fI (i:=10) (by kernel_rfl) rfl (λK hK=>?_);go_simp
  refine hK.l _ _ (λ_=>?hS10) ?rest10
  case hS10=>obtain⟨q0,q1,q2,q3⟩:=aa;refine⟨?_,?_,?_,?_⟩<;>(rw[U.cell?_alloc_lt _ _ _ (by simp;omega)];assumption)
  clear hK K;refine fI (i:=11) (by kernel_rfl) rfl (λK hK=>?_);refine m8 G _ [ι pr,.k L tl z,ι kn,(π tb)] 325 rfl (.tmp 72) (.tmp 81) 306 rfl w.o.q 325 iB _ 4 48 underlying306 c6 cX bF bH rfl (by decide) (.k aH k ap) k (yE (List.zipWith fd (ky r qx k) bps)) (by simp[Act.eval]) B (by exact(by go_grown)) G.o.q 1 (by simp[Act.eval]) (by exact Th.new _ _ _) rfl (by simp[O.oneCell']) (by omega) (by omega) (by omega) ?_;intro v' w3 ce ad dn dw di;obtain⟨bC,aT,rfl⟩:=zr ce;have bo:=T2.own B;have j:=ah.l.save ad (λx hx=>yU B (xa hx)) ⟨jx B ah.l.box (by decide),λhm=>by obtain⟨c,hc,_⟩:=ah.l.res;exact jx B hc (by decide) hm⟩;have bJ:=aS.saveT ad bo (by decide);have M:=aF.l.saveT ad bo (by decide);have A:=yJ da.l ad bo (by decide);obtain⟨av,cq⟩:=bJ.H;obtain⟨aV,aZ,_,cc,_,_,_⟩:=j.E;have aU:=(j.u.cell (p:=⟨gn,k,Y⟩) bz).A ((b8.cell (p:=⟨gn,k,Y⟩) bz).symm.A a2);have T:w3.p ⟨jb,4,Y⟩=Z (.k aH k ap)/\w3.p ⟨lb,0,Y⟩=Z (ι pr)/\w3.p ⟨lb,1,Y⟩=Z (.k L tl z)/\w3.p ⟨gn,k,Y⟩=Z ((π tb)):=⟨cc,by rw[av];rfl,by rw[av];rfl,aU⟩;refine hK.l _ _ (λ_=>T) ?_;clear hK K aa;refine uA (i:=12) (v:=?v12) rfl (by kernel_rfl) (by kernel_rfl) (by kernel_rfl) (by kernel_rfl) (λ_ _ _ h=>h) (zh ⟨by rfl,?hy12⟩) T ?rest12
  case hy12=>
   intro wq R;go_simp
   (try with_reducible rfl)
  refine fI (i:=13) (by kernel_rfl) rfl (λK hK=>?_);go_simp
  refine hK.l _ _ (λhq=>zB rfl hq) ?_;clear hK K;refine iZ (by kernel_rfl) ?_ _;refine NoPanic.normal ?_;have Q:zd [jb] w3 (w3.x ⟨jb,4,Y⟩ (.k bC (k+1) aT)):=zd.set _ _ _ _;have I:=T2.box j.box;have ai:=j.bars (.k bC (k+1) aT);have c3:=M.saveT Q I (by decide);have cl:=yJ A Q I (by decide);have bT:=yJ ce Q I (by decide);rw[←bi.l] at bT;clear T av cq aV aZ cc aU;go_wp2;go_roundw;exact⟨k+1,_,_,by omega,by go_num,ai,c3,cl,bT,aq⟩;simp[intOf];omega
 have cC:k=r.qx.j:=by omega
 subst cC;clear hk t;have hJ:T7 lo wr jb (vA r qc qx (kW qc)) ⟨.k f r.g.v.j b,sl g qc.j,bv,hvs,T1,bps⟩:=jL.join (E9 E aY.l HR.l HP.l HN.l aD.l F.l.hlen HH.l HS.l HB.l a3.l) (by have:=aY.l;omega) F.l.box;have b7:X (Calls prog 223 #[(π jb),ι 0] wr λe w'=>e=ε (.bool (vi (vA r qc qx (kW qc)) 0))/\μ wr w'):=GG wr jb _ _ 0 hJ;have ar:=Tg (Np r qc qx);have bB:X (∀(W:U) (d:Int),μ w W->T4 w.o.q W r hvs 5->W.r w.o.q 323 4 (sl g qc.j) qc.j (yE (ju T1 qc.j qc.j))->W.r w.o.q 325 4 bv r.qx.j (yE (List.zipWith fd (ky r qx r.qx.j) bps))->jL lo W (vA r qc qx d) ⟨.k f r.g.v.j b,sl g qc.j,bv,hvs,T1,bps⟩):=λW d hW h1 h2 h3=>E9 hW aY.l HR.l HP.l HN.l aD.l F.l.hlen h1 h2 h3 a3.l;have aq:=Tg (mA.all a3.l (by have:=HN.l.len;have:=aD.l;omega));obtain⟨dc,c5,aJ⟩:=zr HB.l;clear hJ;generalize vi (vA r qc qx (kW qc)) 0=ba at *;cases ba
 .simp only[gR,if_false] at ar;go_upto_region 23 with (first|(go_at_call 223;refine b7.l.y ?_;rintro e G ⟨rfl,l⟩))
  have j:=F.l.next l;have M:=HH.l.u l;have ad:=zy HS.l l;have bn:=zy HB.l l;have az:∀u∈jc r (.k f r.g.v.j b) (sl g qc.j) bv hvs (kD r 5) (kW qc),u.oneCell'=true:=DC rfl rfl (by rw[aJ];rfl) (T4.one M j.hlen);have y:=Dr r (.k f r.g.v.j b) (sl g qc.j) bv hvs (kD r 5) (kW qc) j.hlen j.blen;have am:=j;have bs:=bB.l G (kW qc) j.u M ad bn;have ay:(jc r (.k f r.g.v.j b) (sl g qc.j) bv hvs (kD r 5) (kW qc))=uM (vA r qc qx (kW qc)) ⟨.k f r.g.v.j b,sl g qc.j,bv,hvs,T1,bps⟩:=rfl;have br:=Tg ay;clear ay;have bh:=j.box;generalize jc r (.k f r.g.v.j b) (sl g qc.j) bv hvs (kD r 5) (kW qc)=cs at *;refine wp_region_lit ?_;refine wpList_load_mid rfl 310 (.tmp 7) rfl jb 0 (by rfl) cs _ (bh.range) underlying310 rfl (by rw[y];exact S8) ?_;refine wpList_store_mid rfl 310 (.tmp 6) (.tmp 87) rfl (w.o.q+1) 0 cs.F (by rfl) (by rfl) (by show U.there _ _ 0 cs.j;rw[y];exact(rU am).there) (by show _=Z cs.j;rw[y];exact S8) (all_oneCell_toArray az) ?_;refine wpList_nil ?_;have Q:zd [w.o.q+1] G (G.setCells (w.o.q+1) 0 cs):=zd.sets _ _ _ _;have V:Th (G.setCells (w.o.q+1) 0 cs) (w.o.q+1) cs.F 310:=sw (rU am) y;have bp:=bs.saveJ Q (T2.box (rU am).choose_spec.1);have ab:=j.u.A (Q.u (by simp) j.u.q);generalize G.setCells (w.o.q+1) 0 cs=w5 at *;go_wp2
  (try simp only[Exit.inBlock,Exit.then])
  refine zO (v:=.agg cs.F) (i8 rfl _ _ _ _ _ (by rfl) (run_loadVar_mid w5 (w.o.q+1) 0 310 cs _ V.range underlying310 rfl (by rw[y];exact S8))) rfl ⟨_,by rw[ar.l,br.l],by rw[ar.l];exact bp,rfl,aq.l,ab⟩
 simp only[if_true] at ar;go_upto_region 23 with (first|(go_at_call 223;refine b7.l.y ?_;rintro e G ⟨rfl,l⟩;have m:=F.l.next l;obtain⟨a5,aw,_,_,aK,_,_⟩:=m.E))
 have A:zd [jb] G (G.x ⟨jb,26,Y⟩ (ι (-1))):=zd.set _ _ _ _;have I:=T2.box m.box;have j:=m.ql (-1);have M:=(HH.l.u l).saveT A I (by decide);have ad:=yJ (zy HS.l l) A I (by decide);have bn:=yJ (zy HB.l l) A I (by decide);generalize G.x ⟨jb,26,Y⟩ (ι (-1))=w3 at *;clear a5 aw aK A I m l;have az:∀u∈jc r (.k f r.g.v.j b) (sl g qc.j) bv hvs (kD r 5) (-1),u.oneCell'=true:=DC rfl rfl (by rw[aJ];rfl) (T4.one M j.hlen);have y:=Dr r (.k f r.g.v.j b) (sl g qc.j) bv hvs (kD r 5) (-1) j.hlen j.blen;have am:=j;have bs:=bB.l w3 (-1) j.u M ad bn;have ay:(jc r (.k f r.g.v.j b) (sl g qc.j) bv hvs (kD r 5) (-1))=uM (vA r qc qx (-1)) ⟨.k f r.g.v.j b,sl g qc.j,bv,hvs,T1,bps⟩:=rfl;have br:=Tg ay;clear ay;have bh:=j.box;generalize jc r (.k f r.g.v.j b) (sl g qc.j) bv hvs (kD r 5) (-1)=cs at *;refine wp_region_lit ?_;refine wpList_load_mid rfl 310 (.tmp 7) rfl jb 0 (by rfl) cs _ (bh.range) underlying310 rfl (by rw[y];exact S8) ?_;refine wpList_store_mid rfl 310 (.tmp 6) (.tmp 87) rfl (w.o.q+1) 0 cs.F (by rfl) (by rfl) (by show U.there _ _ 0 cs.j;rw[y];exact(rU am).there) (by show _=Z cs.j;rw[y];exact S8) (all_oneCell_toArray az) ?_;refine wpList_nil ?_;have Q:zd [w.o.q+1] w3 (w3.setCells (w.o.q+1) 0 cs):=zd.sets _ _ _ _;have V:Th (w3.setCells (w.o.q+1) 0 cs) (w.o.q+1) cs.F 310:=sw (rU am) y;have bp:=bs.saveJ Q (T2.box (rU am).choose_spec.1);have ab:=j.u.A (Q.u (by simp) j.u.q);generalize w3.setCells (w.o.q+1) 0 cs=w5 at *;go_wp2
 (try simp only[Exit.inBlock,Exit.then])
 refine zO (v:=.agg cs.F) (i8 rfl _ _ _ _ _ (by rfl) (run_loadVar_mid w5 (w.o.q+1) 0 310 cs _ V.range underlying310 rfl (by rw[y];exact S8))) rfl ⟨_,by rw[ar.l,br.l],by rw[ar.l];exact bp,rfl,aq.l,ab⟩
end
end Go.Proofs.YteampbddflhngaaGreat
