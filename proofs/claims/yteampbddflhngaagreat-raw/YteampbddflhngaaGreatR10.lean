import Derived.Deep.MidRow
import Derived.Test.YteampbddflhngaaGreatR07
namespace Go.Proofs.YteampbddflhngaaGreat
open List renaming length→List.j,take→List.G,toArray→List.F
open _root_.Array renaming size→Array.q
open _root_.ByteArray renaming size→ByteArray.q
open Go.RowKit.Below renaming size→Go.RowKit.Below.q,setCell→Go.RowKit.Below.x,mono→Go.RowKit.Below.y,trans→Go.RowKit.Below.A,alloc→Go.RowKit.Below.C
open Go.TypeInfo renaming size→Go.TypeInfo.q
open Go.RowKit.Hid renaming out→Go.RowKit.Hid.l
open Go.Shut renaming out→Go.Shut.l
open Go.World renaming heap→Go.World.o,setCell→Go.World.x,cell?→Go.World.p,alloc→Go.World.C,ownsRow→Go.World.r
open Go.Value renaming slice→Go.Value.k,cells→Go.Value.E,pointer→Go.Value.u
open Go.TypeDesc renaming slice→Go.TypeDesc.k,pointer→Go.TypeDesc.u
open Go.Calls renaming mono→Go.Calls.y
open Eq renaming trans→Eq.A
open Iff renaming trans→Iff.A
open Go.Obj renaming cells→Go.Obj.E
open Option renaming some→Z,none→Y
open Go.RowKit renaming Hid→X
open Go renaming World→U,Value→O
set_option linter.all false
set_option maxRecDepth 100000
set_option maxHeartbeats 4000000
open Go.Proofs.Tryz Go.RowKit
section
variable {lo:Nat}{W w w':U}{cs hvs:List O}{r:zu}{jb k:Nat}{nts:List (Nat×List Nat)}{bps:List (O×Nat×List Nat)}{tv sv bv:O}{ji:List Int}{d:Int}
def uO(W:U)(b:Nat):Prop:=∃c:Array O,Ti W b c 310/\c.q=28
def dZ(W:U)(b:Nat)(cs:List O):World:=W.setCells b 0 cs
def Ti.sets{T:TypeId}{b:Nat}:∀(vs:Γ) (o:Nat) (w:U) (l:Γ),Ti w b l.F T->o+vs.j=l.j->Ti (w.setCells b o vs) b (l.G o++vs).F T
 |[],o,w,l,h,e=>by
  simp at e;subst e;simpa [U.setCells] using h
 |v::r,o,w,l,h,e=>by
  simp only[xu] at e;have a:Ti (w.x (ω b o) v) b (l.set o v).F T:=by simpa using h.set o v
  have:=Ti.sets r (o+1) _ _ a υ;rw[U.setCells];rw[show l.G o++v::r=(l.set o v).G (o+1)++r from by
   rw[List.take_set,yN (by omega:o<l.j),fY _ _ υ];simp[Nat.min_eq_left (show o<=l.j by omega)]]
  exact this
def sF{b:Nat}(h:uO W b)(e:cs.j=28):Ti (dZ W b cs) b cs.F 310:=by
 obtain⟨c,a,f⟩:=h;have:=Ti.sets cs 0 W c.toList (by simpa using a) υ;simpa [dZ] using this
def zd.sets(b:Nat):∀(vs:Γ) (o:Nat) (w:U),zd [b] w (w.setCells b o vs)
 |[],_,w=>zd.refl _ w
 |v::r,o,w=>(zd.set w b o v).A (zd.sets b r (o+1) _)
def sI(W:U)(b:Nat)(cs:Γ):zd [b] W (dZ W b cs):=zd.sets b cs 0 W
def kJ(W:U)(b:Nat)(cs:Γ)(b' o:Nat)(h:b'≠b):(dZ W b cs).p (ω b' o)=W.p (ω b' o):=U.cell?_setCells_out b cs 0 W _ λe=>zC e h
def uO.there{W:U}{b:Nat}(h:uO W b):W.there b 0 28:=λj i=>by
 obtain⟨c,a,g⟩:=h;obtain⟨e,f⟩:=a.H;rw[vJ];exact⟨by rw[e,Array.getElem?_eq_getElem η];rfl,f j⟩
def bj(p vs a:Int)(f g:Option Addr)(e h b c:Nat):List Value:=[ι p,.k f e h,ι vs,.k g b c,ν,ν,ν,ν,ν,ν,ι 0,ι 0,ι 0,ι 0,ι 0,ι a,ι 0,ι 0,ι 0,ι 0,ι 0,ι 0,ι 0,ι 0,ι 0,ι 0,ι 0,ι 0]
def tZ(p vs a:Int)(f g:Option Addr)(e h b c:Nat):O.agg #[ι p,.k f e h,ι vs,.k g b c,ν,ν,ν,ν,ν,ν,ι 0,ι 0,ι 0,ι 0,ι 0,ι a,ι 0,ι 0,ι 0,ι 0,ι 0,ι 0,ι 0,ι 0,ι 0,ι 0,ι 0,ι 0]=.agg (bj p vs a f g e h b c).F:=rfl
def IL(p vs a:Int)(f g:Option Addr)(e h b c:Nat):(bj p vs a f g e h b c).j=28:=rfl
def QX(p vs a:Int)(f g:Option Addr)(e h b c:Nat)(q:Int):(bj p vs a f g e h b c).set 0 (ι q)=bj q vs a f g e h b c:=rfl
def Pi(p vs b:Int)(i g:Option Addr)(h j e f:Nat)(a:Option Addr)(n c:Nat):(bj p vs b i g h j e f).set 1 (.k a n c)=bj p vs b a g n c e f:=rfl
def J6(p vs a:Int)(f g:Option Addr)(e h b c:Nat)(q:Int):(bj p vs a f g e h b c).set 2 (ι q)=bj p q a f g e h b c:=rfl
def Jn(p vs b:Int)(f j:Option Addr)(e g h i:Nat)(a:Option Addr)(n c:Nat):(bj p vs b f j e g h i).set 3 (.k a n c)=bj p vs b f a e g n c:=rfl
def Lu(p vs h:Int)(e f:Option Addr)(c g a b:Nat)(q:Int):(bj p vs h e f c g a b).set 15 (ι q)=bj p vs q e f c g a b:=rfl
def uO.lt{W:U}{b:Nat}(h:uO W b):b<W.o.q:=by obtain⟨c,a,_⟩:=h;exact a.lt
def S2(W:U)(b:Nat)(p vs a:Int)(g i:Option Addr)(f l c e:Nat)(h:uO W b):(storeCells (δ b) (bj p vs a g i f l c e)).run prog W=.ok () (dZ W b (bj p vs a g i f l c e)):=
 run_storeCells_cells (P:=prog) b 0 (bj p vs a g i f l c e) 0 W (λj m=>(h.there j m).1) (λj m=>(h.there j m).2) (by simp[bj,O.oneCell'])
def Dc(w:U)(b:Nat)(p vs a:Int)(g i:Option Addr)(f j c e:Nat)(h:b=w.o.q):uO (w.C (.E (bj p vs a g i f j c e).F 310)) b:=⟨_,Ti.newAt _ _ _ _ h,rfl⟩
def Aj(w:U)(b:Nat)(o:Obj)(h:uO w b):uO (w.C o) b:=by obtain⟨c,a,e⟩:=h;exact⟨c,a.u ((zn _ _).C (zf _) o),e⟩
def Pv(w:U)(b:Nat):uO w.drew b↔uO w b:=Iff.rfl
def sj(w:U)(p vs a:Int)(f g:Option Addr)(e h b c:Nat):uO (w.C (.E (bj p vs a f g e h b c).F 310)) w.o.q:=Dc _ _ _ _ _ _ _ _ _ _ _ rfl
def He(w:U)(o:Obj)(p vs a:Int)(f g:Option Addr)(e h b c:Nat):uO ((w.C o).C (.E (bj p vs a f g e h b c).F 310)) (w.o.q+1):=Dc _ _ _ _ _ _ _ _ _ _ _ ζ
def iJ(w:U)(o:Obj)(p vs a:Int)(f g:Option Addr)(e h b c:Nat):uO ((w.C (.E (bj p vs a f g e h b c).F 310)).C o) w.o.q:=Aj _ _ _ (sj _ _ _ _ _ _ _ _ _ _)
def ek.mk'{a:U}{e:Option Addr}{b c n g:Nat}(h:uO W jb)(j:Ti W g (madeCells #[.u Y,ι 0,ι 0,ι 0] (n*4)) 323)(m:jb≠g)(i:a.o.q<=jb)(l:a.o.q<=g)(f:μ a W):ek a (dZ W jb (bj (r.g.o:Nat) (r.m:Nat) (xO r r.m) e (Z (δ g)) b c n n)) r (.k e b c) n ((π jb)):=by
 refine⟨jb,g,rfl,i,l,sF h rfl,j.save (sI _ _ _) υ,f.A ((sI _ _ _).u υ f.q)⟩
attribute [local go_sem] tZ IL QX Pi J6 Jn Lu S2 sj He iJ Aj Pv
def nh(qc:List zl)(k:Nat):Int:=if (qc.G k).any (λT=>T.count == 0) then -1 else 0
def Mm(qc:List zl)(k:Nat)(a:k<qc.j):nh qc (k+1)=if qc[k].count=0 then -1 else nh qc k:=by
 unfold nh;rw[yN a,List.any_append];by_cases h:qc[k].count=0;simp[h];simp[h]
def Ln(qc:List zl):nh qc qc.j=kZ qc:=by simp[nh,kZ]
def Ep(T2:List (Nat×Φ))(n k:Nat)(a:k<=n)(b:n=T2.j):(jj T2 n k).j=n:=by simp[jj];omega
def JL(T2:List (Nat×List Nat))(n k:Nat)(f:k<n)(c:T2.j=n):(yE (jj T2 n k)).set (k*4) (.u (Z ⟨(T2[k]'(by omega)).1,0,Y⟩))=yE (jj T2 n (k+1)):=by
 rw[EK _ _ (by rw[Ep T2 n k (by omega) c.symm];exact f)];congr 1;unfold jj;obtain⟨m,b⟩:∃m,n-k=m+1:=⟨n-k-1,by omega⟩;rw[b,rT,show n-(k+1)=m from by omega,yN (show k<T2.j by omega),qF,kT];have a:((T2.G k).map (λx=>(Vi x.1,(ι 0:O),(ι 0:O),(ι 0:O)))).j=k:=by simp;omega
 apply nI;intro i;rw[List.getElem?_modify];by_cases e:k=i;subst e;rw[fR (by omega),fR (by omega),a,j4];simp[Bt,Vi];rcases gV i k with h|h;rw[r9 (by omega),r9 (by omega)];simp[e];rw[fR (by omega),fR (by omega),a];obtain⟨j,g⟩:∃j,i-k=j+1:=⟨i-k-1,by omega⟩;rw[g];simp[e]
def kB(r:zu)(qx:List zl)(k:Nat):List iC:=((r.qx.zip qx).G k).map λx=>⟨x.1,vm x.1,x.2⟩
def KC(r:zu)(qx:List zl)(k:Nat)(a:k<r.qx.j)(b:k<qx.j):kB r qx (k+1)=kB r qx k++[⟨r.qx[k],vm r.qx[k],qx[k]⟩]:=by
 unfold kB;rw[yN υ,qF];simp
def NP(r:zu)(qx:List zl)(k:Nat)(a:k<=r.qx.j)(b:k<=qx.j):(kB r qx k).j=k:=by simp[kB];omega
def PW(r:zu)(qx:List zl)(bps:List (O×Nat×Φ))(k:Nat)(b:k<r.qx.j)(c:k<qx.j)(a:bps.j=k)(tv:O)(tb:Nat)(fp:Φ):yE (List.zipWith fa (kB r qx (k+1)) (bps++[(tv,tb,fp)]))=yE (List.zipWith fa (kB r qx k) bps)++[ι (r.qx[k].o:Nat),tv,ι (vm r.qx[k]:Nat),(π tb)]:=by
 rw[KC r qx k b c,Ap (by rw[NP r qx k η η,a])];simp only[mJ,List.zipWith_nil_right];rw[PC];rfl
def mC(lo:Nat)(w:U)(r:zu)(nts:List (Nat×List Nat))(bps:List (O×Nat×List Nat))(k:Nat):Prop:=bps.j=k/\∀i (_:i<k) (c:i<bps.j) (b:i<r.qx.j) (a:i<nts.j),yt lo w bps[i].1 r.qx[i].v/\bps[i].2=nts[i]
def mC.snoc(h:mC lo w r nts bps k)(l:k<r.qx.j)(m:k<nts.j)(g:yt lo w tv r.qx[k].v):mC lo w r nts (bps++[(tv,nts[k].1,nts[k].2)]) (k+1):=by
 obtain⟨f,j⟩:=h;refine⟨by simp[f],λi a b c d=>?_⟩;by_cases e:i<k;rw[uG η];exact j i e η c d;obtain rfl:i=k:=η;simp only[←f,pO];subst f;exact⟨g,trivial⟩
def T6(B:Nat)(w:U)(r:zu)(hvs:List O)(k:Nat):Prop:=∀p (_:p<k) (_:p<hvs.j),w.r B 327 2 hvs[p] (xz r p).j (kM (xz r p))
def T6.u{B:Nat}(h:T6 B w r hvs k)(c:μ w w'):T6 B w' r hvs k:=λp a b=>zy (h p a b) c
def T6.saveT{B:Nat}{T:TypeId}{M:Φ}(h:T6 B w r hvs k)(hs:zd M w w')(c:T3 w T M)(e:327≠T):T6 B w' r hvs k:=λp a b=>yL (h p a b) hs c e
def T6.set{B:Nat}{w:U}{r:zu}{hvs:Γ}{k:Nat}{c:O}(h:T6 B w r hvs k)(f:w.r B 327 2 c (xz r k).j (kM (xz r k))):T6 B w r (hvs.set k c) (k+1):=λp a b=>by
 by_cases e:p=k
 .subst e;rw[p7];exact f
 .rw[rn (Ne.symm e)];exact h p η (by simpa using b)
def ve.E{l:U}{e:Nat}(h:ve lo l w e jb r tv sv bv hvs ji d):jb<w.o.q/\(∀o,w.frozen? (ω jb o)=false)/\w.p (ω jb 3)=Z sv/\w.p (ω jb 4)=Z bv/\w.p (ω jb 26)=Z (ι d)/\(∀k,k<5->w.p (ω jb (5+k))=Z (hvs.getD k (.bool false)))/\(∀k,k<5->w.p (ω jb (10+k))=Z (ι (ji.getD k 0))):=by
 obtain⟨a,m⟩:=h.box.H;obtain⟨g,c,f,j,i⟩:=KA (r:=r) (tv:=tv) (sv:=sv) (bv:=bv) (d:=d) h.hlen h.blen;exact⟨h.box.lt,m,(a _).A g,(a _).A c,(a _).A f,λk b=>(a _).A (j k b),λk b=>(a _).A (i k b)⟩
def Ms(qc:List zl)(T2:List (Nat×Φ))(h:T2.j=qc.j):jj T2 qc.j qc.j=List.zipWith fI (qc.map λT=>(⟨T,[0,0,0]⟩:xa)) T2:=by
 apply nI;intro i;rw[List.getElem?_zipWith];by_cases a:i<qc.j;simp[jj,←h,fI,Vi,List.getElem?_map,List.getElem?_eq_getElem (show i<qc.j from a),List.getElem?_eq_getElem (show i<T2.j by omega)];simp[jj,←h,List.getElem?_eq_none (show qc.j<=i by omega),List.getElem?_eq_none (show T2.j<=i by omega)]
def QK(r:zu)(qx:List zl)(h:qx.j=r.qx.j):kB r qx r.qx.j=(r.qx.zip qx).map λx=>⟨x.1,vm x.1,x.2⟩:=by
 unfold kB;rw[yV υ]
def mC.all(h:mC lo w r nts bps k)(a:k=nts.j/\k=r.qx.j):bps.map (·.2)=nts:=by
 obtain⟨b,e⟩:=h;apply jv;simp[b,a.1];intro i f c;rw[ue];exact(e i η η η c).2
def DL{A F:Nat}{v B m l:O}{g:Nat}{qc qx:List zl}{T2:List (Nat×Φ)}(j:μ w W)(c:lo<=w.o.q)(h:vE lo w tv v B r)(s:lB A lo w m qc T2)(u:lB F lo w l qx nts)(o:qx.j=r.qx.j)(D:hvs.j=5)
  (C:T6 w.o.q W r hvs 5) (hs:W.r w.o.q 323 4 (sl g qc.j) qc.j (yE (jj T2 qc.j qc.j))) (t:W.r w.o.q 325 4 bv r.qx.j (yE (List.zipWith fa (kB r qx r.qx.j) bps))) (i:mC lo w r nts bps r.qx.j):kc lo W (vI r qc qx d) ⟨tv,sl g qc.j,bv,hvs,T2,bps⟩:=by
 have f:=s.len;have E:=u.len;have G:=i.1;have e:((r.qx.zip qx).map λx=>(⟨x.1,vm x.1,x.2⟩:iC)).j=r.qx.j:=by simp;omega
 refine⟨h.g.u j,?_,by simp[vI,f],?_,by simp[vI],?_,by simp only[vI];omega,?_,⟨D,by simp[vI]⟩,?_,by simp[vI],?_⟩;rw[Ms qc T2 f] at hs;have:=yo hs c;simpa [vI] using this;intro k a b;simp only[vI,xt] at a;have:=(s.tries k a b).u j;simpa [vI] using this;rw[QK r qx o] at t;have:=yo t c;simp only[vI];rw[e];exact this;intro k a b;simp only[vI] at a;rw[e] at a;obtain⟨y,n⟩:=i.2 k a b a η;have z:=(u.tries k η η).u j;simp only[vI,ue,List.getElem_zip];exact⟨y.u j,by rw[n];exact z⟩;intro p a b;simp only[vI,xt,ri] at a;have q:=yo (C p a b) c;have n:=Qd r p (h.qc.len) η;simp only[vI,ue,l8];exact⟨q,n⟩;simp only[vI,xt];have:=s.K;have:=h.qx.len;have:=h.small.2.1;refine⟨η,by simp;omega,η⟩
def ix{f:Func}{t:Tmp}{c:TypeId}(h:f.results=#[.cell t c])(a:Array O)(P:Program)(w:U)(b o:Nat)(e:a.getD t undef=.u (Z (ω b o))){v:O}(g:(loadVar c (ω b o)).run P w=.ok v w):(results f a).run P w=.ok v w:=by
 rw[Array.getD_eq_getD_getElem?] at e;simp[results,h,e,asAddr,g]
def Ti.range{b:Nat}{T:TypeId}(h:Ti w b cs.F T):w.rangeAt b 0 cs:=λj v a=>by
 rw[vJ,h.H.1];simpa using a
def Ev(r:zu)(tv sv bv:O)(hvs:Γ)(ji:List Int)(d:Int)(a:hvs.j=5)(b:ji.j=5):(jc r tv sv bv hvs ji d).j=28:=by
 simp[jc,a,b]
def D1(c:tv.oneCell'=true)(f:sv.oneCell'=true)(e:bv.oneCell'=true)(b:∀u∈hvs,u.oneCell'=true):∀u∈jc r tv sv bv hvs ji d,u.oneCell'=true:=by
 intro u a;simp only[jc,ya,zG,zF,nQ,or_false] at a;rcases a with ((((((a|a)|⟨_,_,a⟩)|a)|⟨_,_,a⟩)|⟨_,_,a⟩)|a)
 rcases a with rfl|rfl|rfl|rfl|rfl<;>first|rfl|assumption
 exact b u a;subst a;rfl;subst a;rfl;subst a;rfl;subst a;rfl;rcases a with rfl|rfl<;>rfl
def T6.one{B:Nat}(h:T6 B w r hvs 5)(g:hvs.j=5):∀u∈hvs,u.oneCell'=true:=by
 intro u b;obtain⟨p,c,rfl⟩:=vh b;obtain⟨f,a,e⟩:=zr (h p η c);rw[e];rfl
def rK{b:U}{a:Nat}(h:ve lo b w a jb r tv sv bv hvs ji d):uO w a:=h.res
def yb.saveJ{tb:Nat}{T:zl}{fp M:Φ}(h:yb lo w tb T fp)(hs:zd M w w')(f:T3 w 310 M):yb lo w' tb T fp:=h.save hs λb a e=>by
 obtain⟨c,g⟩:=f b e;exact h.notin g θ θ θ a
def kc.saveJ{w w':U}{J:zE}{P:xI}{M:Φ}(h:kc lo w J P)(hs:zd M w w')(c:T3 w 310 M):kc lo w' J P:=
 ⟨h.g.saveT hs c θ,yL h.ja hs c θ,h.slen,λk a b=>(h.tries k a b).saveJ hs c,h.B,yL h.bars hs c θ,h.blen,λk a b=>⟨(h.jk k a b).1.saveT hs c θ,(h.jk k a b).2.saveJ hs c⟩,h.hlen,λp a b=>⟨yL (h.jf p a b).1 hs c θ,(h.jf p a b).2⟩,h.jl,h.K⟩
def Rp{b1 b2:Nat}(w:U)(r:zu)(tv pv nv bP b5:O)(qc qx:List zl)(T2 nts:List (Nat×List Nat))(h:vE lo w tv pv nv r)(hp:lB b1 lo w bP qc T2)(hn:lB b2 lo w b5 qx nts)(ch:qx.j=r.qx.j)(b3:lo<=w.o.q):
  Calls prog 214 #[gH r tv pv nv,bP,b5] w λe w'=>∃P,e=ε (.agg (uM (xK r qc qx) P).F)/\kc lo w' (xK r qc qx) P/\P.tbs=T2/\P.bps.map (·.2)=nts/\μ w w':=by
 obtain⟨iS,cL,cF,bU,c0⟩:=info_parts SW;obtain⟨iB,c4,cR,cx,bA⟩:=info_parts SB;have HR:=Th h;have HP:=Th hp;have HN:=Th hn;obtain⟨dr,df,rfl⟩:=zr hp.own;obtain⟨dt,dl,rfl⟩:=zr hn.own;obtain⟨f,b,rfl⟩:=h.g.qy;obtain⟨C,o,rfl⟩:=h.qc.qy;obtain⟨D,s,rfl⟩:=h.qx.qy;have d3:=hp.K;have d4:=hn.K;have dv:=h.small.2.1;have cy:=λW:U=>run_make (P:=prog) (w:=W) 305 323 iS _ underlying305 cL cF .i64 .i64 (qc.j:Int) (qc.j:Int) (by omega) (Int.le_refl _) (by rw[c0];omega) (by omega);rw[bU] at cy;have aV:X (∀W (kn:Int),μ w W->Calls prog 220 #[.agg #[ι r.L,ι r.m,ι r.g.o,.k f r.g.v.j b,.k C r.qc.j o,.k D r.qx.j s],ι kn] W λe w'=>e=ε (ι (xO r kn))/\μ W w'):=λW kn hW=>Iy W _ _ _ r kn (h.u hW);have cr:X (∀W (pl:Nat),pl<=1000000->μ w W->Calls prog 221 #[.agg #[ι r.L,ι r.m,ι r.g.o,.k f r.g.v.j b,.k C r.qc.j o,.k D r.qx.j s],ι pl] W λe w'=>∃hv,e=.returned hv/\w'.r W.o.q 327 2 hv (xz r pl).j (kM (xz r pl))/\μ W w'):=λW pl cU hW=>NR W _ _ _ r pl (h.u hW) cU;have bb:=Th b3;have aG:=Th ch;unfold gH;clear h hp hn b3 ch;have ah:=(Ti.new w #[ι r.L,ι r.m,ι r.g.o,.k f r.g.v.j b,.k C r.qc.j o,.k D r.qx.j s] 207).u ((zn _ _).C (zf _) (.E (bj 0 0 0 Y Y 0 0 0 0).F 310));have aa:=Ti.new (w.C (.E #[ι r.L,ι r.m,ι r.g.o,.k f r.g.v.j b,.k C r.qc.j o,.k D r.qx.j s] 207)) (bj 0 0 0 Y Y 0 0 0 0).F 310;have aW:μ w ((w.C (.E #[ι r.L,ι r.m,ι r.g.o,.k f r.g.v.j b,.k C r.qc.j o,.k D r.qx.j s] 207)).C (.E (bj 0 0 0 Y Y 0 0 0 0).F 310)):=(by go_grown);simp only[U.size_alloc] at aa;go_enter func214,ntmps214;go_upto_region 1 with fail
 generalize (w.C (.E #[ι r.L,ι r.m,ι r.g.o,.k f r.g.v.j b,.k C r.qc.j o,.k D r.qx.j s] 207)).C (.E (bj 0 0 0 Y Y 0 0 0 0).F 310)=wA at *;obtain⟨cE,bz,bc⟩:=ah.e;have c7:=aW.q;go_cut [7] from 13 to 24 (λs7 wx=>ek wA wx r (.k f r.g.v.j b) qc.j s7)
 case first=>
  go_region_held3 (λw'=>w'.p ⟨w.o.q,0,Y⟩=Z (ι r.L)/\w'.p ⟨w.o.q,1,Y⟩=Z (ι r.m)/\w'.p ⟨w.o.q,2,Y⟩=Z (ι r.g.o)/\w'.p ⟨w.o.q,3,Y⟩=Z (.k f r.g.v.j b)/\w'.p ⟨w.o.q,4,Y⟩=Z (.k C r.qc.j o)/\w'.p ⟨w.o.q,5,Y⟩=Z (.k D r.qx.j s)) (first|go_keep|(go_simp;done)|(go_split_ands;refine⟨?_,?_,?_,?_,?_,?_⟩<;>(rw[kJ _ _ _ _ _ (by simp;omega)];simp[*]))) (first|(go_at_call 220;refine(aV.l _ _ (by exact(by go_grown))).y ?_;rintro e w1 ⟨rfl,J⟩;have aX:μ wA w1:=(zT (by go_grown) J (zf _));have c8:=ah.u aX;obtain⟨dm,dp,dq⟩:=c8.e;have cY:=aX.q;(first|((with_reducible refine Ti.carry (Ti.drew (Ti.newAt (wA.C (.E (madeCells #[.u Y,ι 0,ι 0,ι 0] (qc.j*4)) 323)) (wA.o.q+1) (bj 0 0 0 Y Y 0 0 0 0).F 310 (U.size_alloc _ _).symm)) J ?_);intro ae;have a2:uO w1 (wA.o.q+1):=⟨_,ae,rfl⟩;clear ae;(with_reducible refine Ti.carry (Ti.drew (Ti.u (Ti.new wA (madeCells #[.u Y,ι 0,ι 0,ι 0] (qc.j*4)) 323) ((zn _ _).C (zf _) (.E (bj 0 0 0 Y Y 0 0 0 0).F 310)))) J ?_);intro a7)|((with_reducible refine Ti.carry (Ti.drew (Ti.u (Ti.new wA (bj 0 0 0 Y Y 0 0 0 0).F 310) ((zn _ _).C (zf _) (.E (madeCells #[.u Y,ι 0,ι 0,ι 0] (qc.j*4)) 323)))) J ?_);intro ae;have a2:uO w1 wA.o.q:=⟨_,ae,rfl⟩;clear ae;(with_reducible refine Ti.carry (Ti.drew (Ti.newAt (wA.C (.E (bj 0 0 0 Y Y 0 0 0 0).F 310)) (wA.o.q+1) (madeCells #[.u Y,ι 0,ι 0,ι 0] (qc.j*4)) 323 (U.size_alloc _ _).symm)) J ?_);intro a7)|((with_reducible refine Ti.carry (Ti.drew (Ti.new wA (bj 0 0 0 Y Y 0 0 0 0).F 310)) J ?_);intro ae;have a2:uO w1 wA.o.q:=⟨_,ae,rfl⟩;clear ae)|((with_reducible refine Ti.carry (Ti.drew (Ti.new wA (madeCells #[.u Y,ι 0,ι 0,ι 0] (qc.j*4)) 323)) J ?_);intro a7)|skip)))
  all_goals
   go_wp2_with fail
   go_meet
   apply ek.mk';first|exact He _ _ _ _ _ _ _ _ _ _ _|exact iJ _ _ _ _ _ _ _ _ _ _ _|exact sj _ _ _ _ _ _ _ _ _ _|exact a2|exact Aj _ _ _ a2
   first|exact a7|exact Ti.u (Ti.new w1 _ _) zO|exact Ti.newAt _ _ _ _ (U.size_alloc _ _).symm|exact Ti.new w1 _ _|exact Ti.u a7 zO
   first|omega|(have:=a7.lt;omega)|(have:=a2.lt;omega)
   omega;omega;exact(zT aX (by go_grown) (zf _))
 clear cy;obtain⟨jb,g,rfl,cO,cZ,bx,bw,aI⟩:=hcut;have cb:jb≠w.o.q+1:=by have:=aa.lt;omega
 have hM:ve lo w wc (w.o.q+1) jb r (.k f r.g.v.j b) (sl g qc.j) (ν) eT (ku r 0) 0:=⟨bx,rfl,rfl,⟨_,aa.u aI,rfl⟩,Tl aW aI,by omega,by omega,cb⟩;have H:=Th hM;have HH:X (T6 w.o.q wc r eT 0):=λp a=>by omega
 have HG:=Th bw;have F:=Th (ah.u aI);have dx:w.o.q<jb:=by omega
 have d0:w.o.q<g:=by omega
 have dz:g≠jb:=by
  intro e;subst e;exact zC (bw.type bx) (by decide)
 have du:g≠w.o.q+1:=by have:=aa.lt;omega
 clear hM bx bw aI ah aa aW cE bz bc c7 cO cZ;go_wp2;go_loopw [25] (λcJ wr=>∃(k:Nat) (hvs:List O),k<=5/\cJ=ι k/\X (ve lo w wr (w.o.q+1) jb r (.k f r.g.v.j b) (sl g qc.j) (ν) hvs (ku r k) 0)/\X (T6 w.o.q wr r hvs k)/\X (Ti wr g (madeCells #[.u Y,ι 0,ι 0,ι 0] (qc.j*4)) 323)/\X (Ti wr w.o.q #[ι r.L,ι r.m,ι r.g.o,.k f r.g.v.j b,.k C r.qc.j o,.k D r.qx.j s] 207)) (λi _=>5-(intOf i).toNat)
 case atStart=>exact⟨0,eT,by omega,rfl,H,HH,HG,F⟩
 clear H HH HG F;obtain⟨k,hvs,hk,rfl,H,HH,HG,F⟩:=hrel;have E:=H.l.u;have aq:=E.q;by_cases t:k<5
 .have bJ:(k:Int)<5:=by omega
  have ar:=F.l;obtain⟨aC,a8,aE⟩:=ar.e;have aS:=Th λW hW=>cr.l W k (by omega) (Tl E hW);have bM:=Th λW hW=>aV.l W (k:Nat) hW;have aZ:=Th (Qu r k t);generalize xO r (k:Nat)=bk at *;generalize bK:xz r k=hj at *;have cA:=Th bK;clear bK;go_upto_region 6 with (first|(go_at_call 221;refine(aS.l _ (by exact(by go_grown))).y ?_;rintro e G ⟨hv,rfl,ak,l⟩;obtain⟨a6,ac,rfl⟩:=zr ak;have m:=H.l.next l;obtain⟨a3,aw,_,_,_,bR,_⟩:=m.E;have aT:=bR k t;clear bR;generalize hvs.getD k (.bool false)=ov at aT))
  have ag:=ar.u l;have b9:=HG.l.u l;have a1:=HH.l.u l;have cM:=l.q;have A:zd [jb] G (G.x ⟨jb,5+k,Y⟩ (.k a6 hj.j ac)):=zd.set _ _ _ _;have j:=m.hold k t (.k a6 hj.j ac);have aK:=ag.saveT A (T3.box m.box) (by decide);have bY:=b9.saveT A (T3.box m.box) (by decide);have L:T6 w.o.q _ r (hvs.set k (.k a6 hj.j ac)) (k+1):=(a1.set (by rw[cA.l];exact yo ak (by omega))).saveT A (T3.box m.box) (by decide);generalize G.x ⟨jb,5+k,Y⟩ (.k a6 hj.j ac)=w3 at *;clear A ag b9 a1 m aT aw a3 ar aC a8 aE ak aS;generalize hvs.set k (.k a6 hj.j ac)=bD at *;have bX:=Th j;have cG:=Th L;have cD:=Th bY;clear j L bY H HH HG F;obtain⟨aC,a8,aE⟩:=aK.e;have ah:=bX.l.u;have dw:=ah.q;go_wp2_with (go_at_call 220;refine(bM.l _ (by exact ah)).y ?_;rintro e w4 ⟨rfl,ad⟩;have an:=bX.l.next ad;obtain⟨ds,d2,_,_,_,_,cm⟩:=an.E;have bG:=cm k t;clear cm;generalize (ku r k).getD k 0=ob at bG)
  have bt:zd [jb] w4 (w4.x ⟨jb,10+k,Y⟩ (ι bk)):=zd.set _ _ _ _;have bV:=an.back k t bk;rw[aZ.l] at bV;go_roundw;exact⟨k+1,bD,by omega,by go_num,bV,(cG.l.u ad).saveT bt (T3.box an.box) (by decide),(cD.l.u ad).saveT bt (T3.box an.box) (by decide),(aK.u ad).saveT bt (T3.box an.box) (by decide)⟩;simp[intOf];omega
 obtain rfl:k=5:=by omega
 rw[show((5:Nat):Int)=5 from rfl];clear hk t cr aV;have c1:X (wr.r w.o.q 323 4 (sl g qc.j) qc.j (yE (jj T2 qc.j 0))):=by
  have q:=OY (lo:=w.o.q) HG.l (by omega) (by unfold maxLen;omega);have e:jj T2 qc.j 0=List.replicate qc.j (O.pointer Y,O.int .i64 0,O.int .i64 0,O.int .i64 0):=by simp[jj,Bt]
  rw[X,e];exact q
 clear HG;have cC:X (nh qc 0=0):=rfl;go_wp2;have co:X (ve lo w wr (w.o.q+1) jb r (.k f r.g.v.j b) (sl g qc.j) (ν) hvs (ku r 5) (nh qc 0)):=H;clear H cC;go_loopw [43] (λcH wr=>∃(k:Nat),k<=qc.j/\cH=ι k/\X (ve lo w wr (w.o.q+1) jb r (.k f r.g.v.j b) (sl g qc.j) (ν) hvs (ku r 5) (nh qc k))/\X (T6 w.o.q wr r hvs 5)/\X (wr.r w.o.q 323 4 (sl g qc.j) qc.j (yE (jj T2 qc.j k)))/\X (Ti wr w.o.q #[ι r.L,ι r.m,ι r.g.o,.k f r.g.v.j b,.k C r.qc.j o,.k D r.qx.j s] 207)) (λi _=>qc.j-(intOf i).toNat)
 case atStart=>exact⟨0,zs _,rfl,co,HH,c1,F⟩
 clear co HH c1 F E aq;obtain⟨k,hk,rfl,H,HH,HS,F⟩:=hrel;have E:=H.l.u;have aq:=E.q;by_cases t:k<qc.j
 .have cu:k<T2.j:=by have:=HP.l.len;omega
  obtain⟨gp,cQ,br,cS,cn⟩:=HP.l.cell k t cu;simp only[O.slice.injEq] at br;have cl:=br.1;clear br;subst cl;have bs:=zi E cS cn;have dg:gp<wr.o.q:=by omega
  obtain⟨bq,bp,bW,_,_,_,_⟩:=H.l.E;have cp:wr.p ⟨jb,3,Y⟩=Z (.k (Z ⟨g,0,Y⟩) qc.j qc.j):=bW;have hS:wr.r w.o.q 323 4 (.k (Z ⟨g,0,Y⟩) qc.j qc.j) qc.j (yE (jj T2 qc.j k)):=HS.l;have bJ:(k:Int)<(qc.j:Int):=by omega
  have cB:=Ep T2 qc.j k hk (by have:=HP.l.len;omega);obtain⟨sx,cT⟩:∃sx,wr.p ⟨g,k*4,Y⟩=Z sx:=by
   obtain⟨g',dj,cg,_,_,b8⟩:=yq hS (by omega);simp only[O.slice.injEq,zt,Addr.mk.injEq,and_true] at cg;have cN:=cg.1;subst cN;exact⟨_,b8 (k*4) _ (ti (jj T2 qc.j k) k (by omega)).1⟩
  have cP:=vl hS;have ax:=uD hS (k*4) (by rw[eG];omega) (.u (Z ⟨T2[k].1,0,Y⟩));have cf:X ((yE (jj T2 qc.j k)).set (k*4) (.u (Z ⟨T2[k].1,0,Y⟩))=yE (jj T2 qc.j (k+1))):=JL T2 qc.j k t HP.l.len;rw[cf.l] at ax;have b7:=Th λW hW=>Df W T2[k].1 qc[k] T2[k].2 ((HP.l.tries k t cu).u hW);have aB:=Th (Mm qc k t);have bo:zd [g] wr (wr.x ⟨g,k*4,Y⟩ (.u (Z ⟨T2[k].1,0,Y⟩))):=zd.set _ _ _ _;have bi:T3 wr 323 [g]:=λx hx=>by simp at hx;subst hx;exact jM hS rfl
  have m:=H.l.save bo (λx hx=>by simp at hx;omega) ⟨by simp;omega,by simp;omega⟩;have a1:=HH.l.saveT bo bi (by decide);have ag:=F.l.saveT bo bi (by decide);generalize T2[k].1=tb at *;generalize qc[k].count=ct at *;clear bW cn cf hS cB;go_upto_region 12 with fail
  generalize wr.x ⟨g,k*4,Y⟩ ((π tb))=G at *;have l:=m.u;clear bs bq bp cp cT cP H HH HS F;obtain⟨a3,aw,_,_,aL,_,_⟩:=m.E;have al:=Th m;have aD:=Th a1;have aU:X (Ti G w.o.q _ 207):=ag;clear m a1 ag bi;generalize cV:nh qc k=dk at *;clear cV;by_cases b4:ct=0
  .subst b4;simp only[if_true] at aB;have A:zd [jb] G (G.x ⟨jb,26,Y⟩ (ι (-1))):=zd.set _ _ _ _;have j:=al.l.ql (-1);have I:=T3.box al.l.box;go_wp2_with (go_at_call 209;refine(b7.l _ (by exact l)).y ?_;rintro e w3 ⟨rfl,bm⟩;obtain rfl:=bm.symm)
   go_roundw;exact⟨k+1,by omega,by go_num,by rw[aB.l];exact j,aD.l.saveT A I (by decide),yL ax A I (by decide),aU.l.saveT A I (by decide)⟩;simp[intOf];omega
  rw[za b4] at aB;have dy:((ct:Int) == 0)=false:=by rw[beq_eq_false_iff_ne];omega
  go_wp2_with (go_at_call 209;refine(b7.l _ (by exact l)).y ?_;rintro e w3 ⟨rfl,bm⟩;obtain rfl:=bm.symm)
  go_roundw;exact⟨k+1,by omega,by go_num,by rw[aB.l];exact al,aD,ax,aU⟩;simp[intOf];omega
 obtain rfl:k=qc.j:=by omega
 rw[Ln] at H;clear hk t;have ar:=F.l;obtain⟨aC,a8,aE⟩:=ar.e;go_wp2;clear aC a8 aE ar;have cz:X (wr.r w.o.q 325 4 (ν) 0 (yE (List.zipWith fa (kB r qx 0) []))):=xo _ _ _ _;have aO:X (mC lo w r nts [] 0):=⟨rfl,λi a=>by omega⟩;go_loopw [62] (λcX wr=>∃(k:Nat) (bv:O) (bps:List (O×Nat×List Nat)),k<=r.qx.j/\cX=ι k/\X (ve lo w wr (w.o.q+1) jb r (.k f r.g.v.j b) (sl g qc.j) bv hvs (ku r 5) (kZ qc))/\X (T6 w.o.q wr r hvs 5)/\X (wr.r w.o.q 323 4 (sl g qc.j) qc.j (yE (jj T2 qc.j qc.j)))/\X (wr.r w.o.q 325 4 bv k (yE (List.zipWith fa (kB r qx k) bps)))/\X (mC lo w r nts bps k)) (λi _=>r.qx.j-(intOf i).toNat)
 case atStart=>exact⟨0,_,[],zs _,rfl,H,HH,HS,cz,aO⟩
 clear H HH HS cz aO F E aq;obtain⟨k,bv,bps,hk,rfl,H,HH,HS,HB,a4⟩:=hrel;have E:=H.l.u;have aq:=E.q;by_cases t:k<r.qx.j
 .have bS:k<qx.j:=by rw[aG.l];exact t
  have b6:k<nts.j:=by have:=HN.l.len;omega
  obtain⟨gl,M,z,cI,aQ,cw,bI,aF⟩:=HR.l.qx.cell k t;subst cI;obtain⟨gn,c6,bg,be,bZ⟩:=HN.l.cell k bS b6;simp only[O.slice.injEq] at bg;have bQ:=bg.1;clear bg;subst bQ;have bJ:(k:Int)<(r.qx.j:Int):=by omega
  have di:(k:Int)<(qx.j:Int):=by omega
  have bs:=zi E aQ cw;have c3:=zi E aQ bI;have bC:=zi E be bZ;have dh:gl<wr.o.q:=by omega
  have bB:gn<wr.o.q:=by omega
  have aj:=HB.l;obtain⟨aH,ao,aJ⟩:=zr aj;subst aJ;have db:=Th aF;have bE:X (∀W,μ w W->Calls prog 222 #[.agg #[ι (r.qx[k].o:Nat),.k M r.qx[k].v.j z]] W λe w'=>e=ε (ι (vm r.qx[k]:Nat))/\μ W w'):=λW hW=>Da W _ r.qx[k].o r.qx[k].v (aF.u hW);have aZ:X (yE (List.zipWith fa (kB r qx (k+1)) (bps++[(.k M r.qx[k].v.j z,nts[k].1,nts[k].2)]))=yE (List.zipWith fa (kB r qx k) bps)++[ι (r.qx[k].o:Nat),.k M r.qx[k].v.j z,ι (vm r.qx[k]:Nat),.u (Z ⟨nts[k].1,0,Y⟩)]):=PW r qx bps k t bS a4.l.1 _ _ _;have ap:=Th (a4.l.snoc t b6 aF);clear cw bI bZ aF db;generalize r.qx[k].o=pr at *;generalize r.qx[k].v.j=tl at *;generalize vm r.qx[k]=kn at *;generalize nts[k].1=tb at *;generalize nts[k].2=fp at *;go_upto_region 19 with fail
  have N:μ wr (wr.C (.E #[ι pr,.k M tl z] 204)):=(by go_grown);have aP:=Ti.new wr #[ι pr,.k M tl z] 204;have aA:=H.l.next N;have bL:X (T6 _ _ r hvs 5):=HH.l.u N;have ci:X (U.ownsRow _ w.o.q 323 4 (sl g qc.j) qc.j _):=zy HS.l N;have a9:=zy aj N;have az:=zi N bB bC;clear H HH HS HB aj bs c3 bC;generalize wr.C (.E #[ι pr,.k M tl z] 204)=w1 at *;generalize wr.o.q=lb at *;clear N E;have J:=aA.u;obtain⟨bq,bp,_,cd,_,_,_⟩:=aA.E;obtain⟨ca,cW,dn⟩:=aP.e;have cq:=Th aA;clear aA;have cY:=J.q;refine wp_region_noPanic ?_;refine Ae (S:=λw'=>w'.p ⟨jb,4,Y⟩=Z (.k aH k ao)/\w'.p ⟨lb,0,Y⟩=Z (ι pr)/\w'.p ⟨lb,1,Y⟩=Z (.k M tl z)/\w'.p ⟨gn,k,Y⟩=Z ((π tb))) (d:=13) (by kernel_rfl) (by refine⟨cd,?_,?_,az⟩<;>(show w1.p _=_;rw[ca];rfl)) (λn=>?_);refine uv (i:=0) (v:=?v0) rfl (by kernel_rfl) (by kernel_rfl) (by kernel_rfl) (by kernel_rfl) (λ_ _ _ h=>h) (zh ⟨by rfl,?hy0⟩) n ?rest0
  case hy0=>
   intro wq R;go_simp
   (try with_reducible rfl)
  refine uv (i:=1) (v:=?v1) rfl (by kernel_rfl) (by kernel_rfl) (by kernel_rfl) (by kernel_rfl) (λ_ _ _ h=>h) (zh ⟨by rfl,?hy1⟩) n ?rest1
  case hy1=>
   intro wq R;go_simp
   (try with_reducible rfl)
  refine uv (i:=2) (v:=?v2) rfl (by kernel_rfl) (by kernel_rfl) (by kernel_rfl) (by kernel_rfl) (λ_ _ _ h=>h) (zh ⟨by rfl,?hy2⟩) n ?rest2
  case hy2=>
   intro wq R;go_simp
   (try with_reducible rfl)
  refine uv (i:=3) (v:=?v3) rfl (by kernel_rfl) (by kernel_rfl) (by kernel_rfl) (by kernel_rfl) (λ_ _ _ h=>h) (zh ⟨by rfl,?hy3⟩) n ?rest3
  case hy3=>
   intro wq R;go_simp
   (try with_reducible rfl)
  refine uv (i:=5) (v:=?v5) rfl (by kernel_rfl) (by kernel_rfl) (by kernel_rfl) (by kernel_rfl) (λ_ _ _ h=>h) (zh ⟨by rfl,?hy5⟩) n ?rest5
  case hy5=>
   intro wq R;go_simp
   (try with_reducible rfl)
  refine uv (i:=6) (v:=?v6) rfl (by kernel_rfl) (by kernel_rfl) (by kernel_rfl) (by kernel_rfl) (λ_ _ _ h=>h) (zh ⟨by rfl,?hy6⟩) n ?rest6
  case hy6=>
   intro wq R;go_simp
   (try with_reducible rfl)
  refine uv (i:=7) (v:=?v7) rfl (by kernel_rfl) (by kernel_rfl) (by kernel_rfl) (by kernel_rfl) (λ_ _ _ h=>h) (zh ⟨by rfl,?hy7⟩) n ?rest7
  case hy7=>
   intro wq R;go_simp
   (try with_reducible rfl)
  refine uv (i:=8) (v:=?v8) rfl (by kernel_rfl) (by kernel_rfl) (by kernel_rfl) (by kernel_rfl) (λ_ _ _ h=>h) (zh ⟨by rfl,?hy8⟩) n ?rest8
  case hy8=>
   intro wq R;go_simp
   (try with_reducible rfl)
  refine fy (i:=4) (by kernel_rfl) rfl (λK hK=>?_);go_simp
  refine(bE.l _ (by exact(zI J 1))).y ?_;rintro e G ⟨rfl,l⟩;have am:=Tl (zI (zn _ _) 1) l;have m:=cq.l.next am;have aD:X (T6 _ _ r hvs 5):=bL.l.u am;have da:X (U.ownsRow G w.o.q 323 4 (sl g qc.j) qc.j _):=zy ci.l am;have B:=zy a9 am;have aM:=aP.u am;have av:=(am.cell (p:=⟨gn,k,Y⟩) (show gn<w1.o.q by omega)).A az;have cM:=am.q;have ck:=m.u;obtain⟨a3,aw,_,cj,_,_,_⟩:=m.E;have al:=Th m;obtain⟨af,ce⟩:=aM.H;refine hK.l _ _ (λ_=>⟨cj,by rw[af];rfl,by rw[af];rfl,av⟩) ?_;have T:G.p ⟨jb,4,Y⟩=Z (.k aH k ao)/\G.p ⟨lb,0,Y⟩=Z (ι pr)/\G.p ⟨lb,1,Y⟩=Z (.k M tl z)/\G.p ⟨gn,k,Y⟩=Z ((π tb)):=⟨cj,by rw[af];rfl,by rw[af];rfl,av⟩;clear hK K n m ca cW bq bp cd az cq bL ci l af ce bE;refine uv (i:=9) (v:=?v9) rfl (by kernel_rfl) (by kernel_rfl) (by kernel_rfl) (by kernel_rfl) (λ_ _ _ h=>h) (zh ⟨by rfl,?hy9⟩) T ?rest9
  case hy9=>
   intro wq R;go_simp
   (try with_reducible rfl)
  refine fy (i:=10) (by kernel_rfl) rfl (λK hK=>?_);go_simp
  refine hK.l _ _ (λ_=>?hS10) ?rest10
  case hS10=>obtain⟨q0,q1,q2,q3⟩:=T;refine⟨?_,?_,?_,?_⟩<;>(rw[U.cell?_alloc_lt _ _ _ (by simp;omega)];assumption)
  clear hK K;refine fy (i:=11) (by kernel_rfl) rfl (λK hK=>?_);refine m4 G _ [ι pr,.k M tl z,ι kn,(π tb)] 325 rfl (.tmp 72) (.tmp 81) 306 rfl w.o.q 325 iB _ 4 48 underlying306 c4 cR cx bA rfl (by decide) (.k aH k ao) k (yE (List.zipWith fa (kB r qx k) bps)) (by simp[Act.eval]) B (by exact(by go_grown)) G.o.q 1 (by simp[Act.eval]) (by exact Ti.new _ _ _) rfl (by simp[O.oneCell']) (by omega) (by omega) (by omega) ?_;intro v' w3 b0 ab de d1 dc;obtain⟨bH,aR,rfl⟩:=zr b0;have bu:=T3.own B;have j:=al.l.save ab (λx hx=>yW B (xb hx)) ⟨jt B al.l.box (by decide),λhm=>by obtain⟨c,hc,_⟩:=al.l.res;exact jt B hc (by decide) hm⟩;have cc:=aM.saveT ab bu (by decide);have L:=aD.l.saveT ab bu (by decide);have A:=yL da.l ab bu (by decide);obtain⟨a0,bF⟩:=cc.H;obtain⟨bc,bz,_,bN,_,_,_⟩:=j.E;have aN:=(j.u.cell (p:=⟨gn,k,Y⟩) be).A ((ck.cell (p:=⟨gn,k,Y⟩) be).symm.A av);have V:w3.p ⟨jb,4,Y⟩=Z (.k aH k ao)/\w3.p ⟨lb,0,Y⟩=Z (ι pr)/\w3.p ⟨lb,1,Y⟩=Z (.k M tl z)/\w3.p ⟨gn,k,Y⟩=Z ((π tb)):=⟨bN,by rw[a0];rfl,by rw[a0];rfl,aN⟩;refine hK.l _ _ (λ_=>V) ?_;clear hK K T;refine uv (i:=12) (v:=?v12) rfl (by kernel_rfl) (by kernel_rfl) (by kernel_rfl) (by kernel_rfl) (λ_ _ _ h=>h) (zh ⟨by rfl,?hy12⟩) V ?rest12
  case hy12=>
   intro wq R;go_simp
   (try with_reducible rfl)
  refine fy (i:=13) (by kernel_rfl) rfl (λK hK=>?_);go_simp
  refine hK.l _ _ (λhq=>zC rfl hq) ?_;clear hK K;refine BV (by kernel_rfl) ?_ _;refine NoPanic.normal ?_;have Q:zd [jb] w3 (w3.x ⟨jb,4,Y⟩ (.k bH (k+1) aR)):=zd.set _ _ _ _;have I:=T3.box j.box;have an:=j.bars (.k bH (k+1) aR);have cK:=L.saveT Q I (by decide);have c2:=yL A Q I (by decide);have bO:=yL b0 Q I (by decide);rw[←aZ.l] at bO;clear V a0 bF bc bz bN aN;go_wp2;go_roundw;exact⟨k+1,_,_,by omega,by go_num,an,cK,c2,bO,ap⟩;simp[intOf];omega
 have c5:k=r.qx.j:=by omega
 subst c5;clear hk t;have hJ:T8 lo wr jb (vI r qc qx (kZ qc)) ⟨.k f r.g.v.j b,sl g qc.j,bv,hvs,T2,bps⟩:=kc.join (DL E bb.l HR.l HP.l HN.l aG.l H.l.hlen HH.l HS.l HB.l a4.l) (by have:=bb.l;omega) H.l.box;have bT:X (Calls prog 223 #[(π jb),ι 0] wr λe w'=>e=ε (.bool (vi (vI r qc qx (kZ qc)) 0))/\μ wr w'):=FQ wr jb _ _ 0 hJ;have au:=Th (NY r qc qx);have cv:X (∀(W:U) (d:Int),μ w W->T6 w.o.q W r hvs 5->W.r w.o.q 323 4 (sl g qc.j) qc.j (yE (jj T2 qc.j qc.j))->W.r w.o.q 325 4 bv r.qx.j (yE (List.zipWith fa (kB r qx r.qx.j) bps))->kc lo W (vI r qc qx d) ⟨.k f r.g.v.j b,sl g qc.j,bv,hvs,T2,bps⟩):=λW d hW h1 h2 h3=>DL hW bb.l HR.l HP.l HN.l aG.l H.l.hlen h1 h2 h3 a4.l;have ap:=Th (mC.all a4.l (by have:=HN.l.len;have:=aG.l;omega));obtain⟨dd,c9,aJ⟩:=zr HB.l;clear hJ;generalize vi (vI r qc qx (kZ qc)) 0=ba at *;cases ba
 .simp only[dU,if_false] at au;go_upto_region 23 with (first|(go_at_call 223;refine bT.l.y ?_;rintro e G ⟨rfl,l⟩))
  have j:=H.l.next l;have L:=HH.l.u l;have ab:=zy HS.l l;have bf:=zy HB.l l;have ay:∀u∈jc r (.k f r.g.v.j b) (sl g qc.j) bv hvs (ku r 5) (kZ qc),u.oneCell'=true:=D1 rfl rfl (by rw[aJ];rfl) (T6.one L j.hlen);have y:=Ev r (.k f r.g.v.j b) (sl g qc.j) bv hvs (ku r 5) (kZ qc) j.hlen j.blen;have ai:=j;have aY:=cv.l G (kZ qc) j.u L ab bf;have a5:(jc r (.k f r.g.v.j b) (sl g qc.j) bv hvs (ku r 5) (kZ qc))=uM (vI r qc qx (kZ qc)) ⟨.k f r.g.v.j b,sl g qc.j,bv,hvs,T2,bps⟩:=rfl;have bh:=Th a5;clear a5;have bn:=j.box;generalize jc r (.k f r.g.v.j b) (sl g qc.j) bv hvs (ku r 5) (kZ qc)=cs at *;refine wp_region_lit ?_;refine wpList_load_mid rfl 310 (.tmp 7) rfl jb 0 (by rfl) cs _ (bn.range) underlying310 rfl (by rw[y];exact SP) ?_;refine wpList_store_mid rfl 310 (.tmp 6) (.tmp 87) rfl (w.o.q+1) 0 cs.F (by rfl) (by rfl) (by show U.there _ _ 0 cs.j;rw[y];exact(rK ai).there) (by show _=Z cs.j;rw[y];exact SP) (all_oneCell_toArray ay) ?_;refine wpList_nil ?_;have Q:zd [w.o.q+1] G (G.setCells (w.o.q+1) 0 cs):=zd.sets _ _ _ _;have aa:Ti (G.setCells (w.o.q+1) 0 cs) (w.o.q+1) cs.F 310:=sF (rK ai) y;have bd:=aY.saveJ Q (T3.box (rK ai).choose_spec.1);have ad:=j.u.A (Q.u (by simp) j.u.q);generalize G.setCells (w.o.q+1) 0 cs=w5 at *;go_wp2
  (try simp only[Exit.inBlock,Exit.then])
  refine zP (v:=.agg cs.F) (ix rfl _ _ _ _ _ (by rfl) (run_loadVar_mid w5 (w.o.q+1) 0 310 cs _ aa.range underlying310 rfl (by rw[y];exact SP))) rfl ⟨_,by rw[au.l,bh.l],by rw[au.l];exact bd,rfl,ap.l,ad⟩
 simp only[if_true] at au;go_upto_region 23 with (first|(go_at_call 223;refine bT.l.y ?_;rintro e G ⟨rfl,l⟩;have m:=H.l.next l;obtain⟨a3,aw,_,_,aL,_,_⟩:=m.E))
 have A:zd [jb] G (G.x ⟨jb,26,Y⟩ (ι (-1))):=zd.set _ _ _ _;have I:=T3.box m.box;have j:=m.ql (-1);have L:=(HH.l.u l).saveT A I (by decide);have ab:=yL (zy HS.l l) A I (by decide);have bf:=yL (zy HB.l l) A I (by decide);generalize G.x ⟨jb,26,Y⟩ (ι (-1))=w3 at *;clear a3 aw aL A I m l;have ay:∀u∈jc r (.k f r.g.v.j b) (sl g qc.j) bv hvs (ku r 5) (-1),u.oneCell'=true:=D1 rfl rfl (by rw[aJ];rfl) (T6.one L j.hlen);have y:=Ev r (.k f r.g.v.j b) (sl g qc.j) bv hvs (ku r 5) (-1) j.hlen j.blen;have ai:=j;have aY:=cv.l w3 (-1) j.u L ab bf;have a5:(jc r (.k f r.g.v.j b) (sl g qc.j) bv hvs (ku r 5) (-1))=uM (vI r qc qx (-1)) ⟨.k f r.g.v.j b,sl g qc.j,bv,hvs,T2,bps⟩:=rfl;have bh:=Th a5;clear a5;have bn:=j.box;generalize jc r (.k f r.g.v.j b) (sl g qc.j) bv hvs (ku r 5) (-1)=cs at *;refine wp_region_lit ?_;refine wpList_load_mid rfl 310 (.tmp 7) rfl jb 0 (by rfl) cs _ (bn.range) underlying310 rfl (by rw[y];exact SP) ?_;refine wpList_store_mid rfl 310 (.tmp 6) (.tmp 87) rfl (w.o.q+1) 0 cs.F (by rfl) (by rfl) (by show U.there _ _ 0 cs.j;rw[y];exact(rK ai).there) (by show _=Z cs.j;rw[y];exact SP) (all_oneCell_toArray ay) ?_;refine wpList_nil ?_;have Q:zd [w.o.q+1] w3 (w3.setCells (w.o.q+1) 0 cs):=zd.sets _ _ _ _;have aa:Ti (w3.setCells (w.o.q+1) 0 cs) (w.o.q+1) cs.F 310:=sF (rK ai) y;have bd:=aY.saveJ Q (T3.box (rK ai).choose_spec.1);have ad:=j.u.A (Q.u (by simp) j.u.q);generalize w3.setCells (w.o.q+1) 0 cs=w5 at *;go_wp2
 (try simp only[Exit.inBlock,Exit.then])
 refine zP (v:=.agg cs.F) (ix rfl _ _ _ _ _ (by rfl) (run_loadVar_mid w5 (w.o.q+1) 0 310 cs _ aa.range underlying310 rfl (by rw[y];exact SP))) rfl ⟨_,by rw[au.l,bh.l],by rw[au.l];exact bd,rfl,ap.l,ad⟩
end
end Go.Proofs.YteampbddflhngaaGreat
