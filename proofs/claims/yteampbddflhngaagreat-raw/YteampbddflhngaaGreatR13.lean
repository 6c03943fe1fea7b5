import Derived.Laws.Cover3
import Derived.Test.YteampbddflhngaaGreatR07
import Derived.Test.YteampbddflhngaaGreatR09
namespace Go.Proofs.YteampbddflhngaaGreat
open List renaming length→List.j,take→List.G,toArray→List.F
open _root_.Array renaming size→Array.q,toList→Array.v
open _root_.ByteArray renaming size→ByteArray.q,toList→ByteArray.v
open Go.RowKit.Below renaming size→Go.RowKit.Below.q,setCell→Go.RowKit.Below.x,mono→Go.RowKit.Below.y,trans→Go.RowKit.Below.A,alloc→Go.RowKit.Below.C
open Go.TypeInfo renaming size→Go.TypeInfo.q
open Go.RowKit.Hid renaming out→Go.RowKit.Hid.l
open Go.World renaming heap→Go.World.o,setCell→Go.World.x,alloc→Go.World.C,ownsRow→Go.World.r
open Go.Value renaming slice→Go.Value.k,cells→Go.Value.E,ownBlock→Go.Value.m
open Go.TypeDesc renaming slice→Go.TypeDesc.k
open Go.Calls renaming mono→Go.Calls.y
open Eq renaming trans→Eq.A
open Iff renaming trans→Iff.A
open Go.Obj renaming cells→Go.Obj.E
open Option renaming toList→Option.v,some→Z,none→Y
open Go.RowKit renaming Hid→X
open Go renaming World→U,Value→O
set_option linter.all false
set_option maxRecDepth 100000
set_option maxHeartbeats 4000000
open Go.RowKit
section
open Go.Proofs.Tryz
variable {lo:Nat}
def Ew{l:zj}(h:sB l):0<(xd l).q:=by
 obtain⟨_,b,_,_⟩:=h;have a:0<(gI l).q:=by
  unfold gI;split;rw[ByteArray.size_append];omega;exact b
 unfold xd;split;exact a;rw[ByteArray.size_append,ByteArray.size_append,ByteArray.size_append];omega
def pz:ByteArray:=⟨#[46,10]⟩
def Sn:sD++rg=pz:=θ
def QM{cs:Ξ}{k:Nat}(a:k<cs.j):kF (cs.G (k+1))=kF (cs.G k)++xd cs[k].g++TQ cs[k].d++pz:=by
 rw[Hm a,UW,←Sn];simp only[ByteArray.append_assoc]
def jG.u{w w':U}{pb:Nat}{cs:Ξ}{t:Ψ}(h:jG lo w pb cs t)(a:μ w w'):jG lo w' pb cs t:=by
 obtain⟨b,i,c,j,e,d,g,f⟩:=h;exact⟨b,i,c,j,e.u a,d.u a,g.u a,zy f a⟩
def MX(w:U)(pb mb:Nat)(cs:Ξ)(t:Ψ)(hp:jq lo w pb cs t){aq:Nat}(hm:jG aq w mb cs t)(hl:cs.j<=1000)(hf:∀c∈cs,rf c):
  Calls prog 22 #[.agg #[(π pb),(π mb)]] w λe w'=>e=ε (.bool true)/\μ w w':=by
 have HP:=Tg hp;obtain⟨_,cv,pv,kv,aw,I,_,_⟩:=hm;obtain⟨ao,aJ,rfl⟩:=I.qy;have HF:=Tg hf;clear hf hp;go_enter func22,ntmps22;go_wp2;go_loopw [3,4] (λv3 v4 wr=>∃(k:Nat) (s:ByteArray),k<=cs.j/\v4=ι k/\v3=.string s/\s.q<=10000000*k/\X (s=kF (cs.G k))/\μ w wr/\Th wr w.o.q #[(π pb),(π mb)] 40) (λ_ i _=>cs.j-(intOf i).toNat);exact⟨0,_,zs _,rfl,rfl,zg _,rfl,γ,Th.new _ _ _⟩;obtain⟨k,s,hk,rfl,rfl,bb,H,d,z⟩:=hrel;have a7:=d.q;obtain⟨hc,ax,aV⟩:=z.e;have D:=aw.u d;obtain⟨a3,az,aZ⟩:=D.e;by_cases L:k<cs.j
 .obtain⟨g,V,r,S,u,rfl,hg,ac,ai,M,aa,am,ak⟩:=I.cell k L;have aX:=zi d hg ac;have aI:=zi d hg ai;have aE:=zi d hg M;have aT:=zi d hg aa;have aY:g<wr.o.q:=η;have HJ:=QM L;have ap:=HF.l _ (zq L);have J:=am.u d;have af:=ak.u d;clear ac ai M aa am ak;generalize cs[k]=c at *;obtain⟨N,a6⟩:=ap;have Q:=Tg N;have A:=N c.g (by simp[zm]);have ba:=t7 A;have aF:=A.2.2.1;have HH:=Tg λW hW=>Gt W c.g _ (J.u hW) A;clear N A J;have HN:X (∀b,b=TQ c.d->s++xd c.g++b++pz=kF (cs.G (k+1))):=λb hb=>by rw[hb,HJ,H.l]
  clear HJ H;generalize xd c.g=v at *;obtain⟨C,rfl⟩:∃C,C=wr:=⟨wr,rfl⟩;go_wp2_with (go_at_call 46;refine(HH.l _ γ).y ?_;rintro e w5 ⟨rfl,n⟩;have al:=(Th.new C #[.bool c.g.i,.string c.g.o,.k V c.g.k.j r,.k S c.d.j u] 93).u n;have ay:=Tk ((zn C.o.q C).C (zg _) (.E #[.bool c.g.i,.string c.g.o,.k V c.g.k.j r,.k S c.d.j u] 93)) n)
  go_loopw [7,8] (λv7 v8 wj=>∃(j:Nat) (b:ByteArray),j<=c.d.j/\v8=ι j/\v7=.string b/\b.q<=8011*j/\X (b=y6 ((c.d.G j).map xd))/\μ C wj/\Th wj C.o.q #[.bool c.g.i,.string c.g.o,.k V c.g.k.j r,.k S c.d.j u] 93) (λ_ i _=>c.d.j-(intOf i).toNat);exact⟨0,_,zs _,rfl,rfl,zg _,rfl,ay,al⟩;clear hc ax a3 az;obtain⟨j,b,hj,rfl,rfl,aS,E,f,y⟩:=hrel;have aC:=f.q;obtain⟨aP,aR,bc⟩:=y.e;by_cases ab:j<c.d.j
  .obtain⟨gl,aH,a8,ar,R,ae,ag,ah,o⟩:=af.cell j ab;subst ar;have aM:=zi f R ae;have aG:=zi f R ag;have aQ:=zi f R ah;have aA:gl<wr.o.q:=η;have p:=sE (l:=c.d.map xd) (k:=j) (by simpa using ab);rw[←tB,←tB] at p;simp only[ub] at p;have B:=Q.l c.d[j] (by simp[zm]);have F:=o.u f;clear ae ag ah o;generalize c.d[j]=a at *;have aU:=t7 B;have aW:=B.2.2.1;have HA:=Tg λW hW=>Gt W a _ (F.u hW) B;clear F B;generalize xd a=ta at *;by_cases G:j=0
   .have m:b=ByteArray.empty:=by rw[E.l,G];rfl
    have T:X (b++ta=y6 ((c.d.G (j+1)).map xd)):=by rw[X,p,zb G,m];simp
    have o:(b.v == [])=true:=by rw[m,kd];rfl
    subst G;clear p E m;go_wp2_with (go_at_call 46;refine(HA.l _ γ).y ?_;rintro e w6 ⟨rfl,q⟩)
    go_roundw;exact⟨1,b++ta,η,ξ,rfl,(by rw[ByteArray.size_append];omega),T,Tk f q,y.u q⟩;simp[intOf];omega
   have T:X (b++ug++ta=y6 ((c.d.G (j+1)).map xd)):=by rw[X,p,za G,E.l]
   have K:0<b.q:=by
    rw[E.l];refine rD (λt ht=>?_) ?_;obtain⟨x,hx,rfl⟩:=zF.1 ht;exact Ew (Q.l x (by simp[zm,List.mem_of_mem_take hx]));intro h;have:=congrArg List.length h;rw[xu,vc,qW] at this;omega
   have o:=rC K;have av:ug.q=2:=rfl;have aO:(b++ug).q=b.q+2:=by rw[ByteArray.size_append,av]
   clear p E;go_wp2_with (go_at_call 46;refine(HA.l _ γ).y ?_;rintro e w6 ⟨rfl,q⟩)
   go_roundw;exact⟨j+1,b++ug++ta,η,ξ,rfl,(by rw[ByteArray.size_append];omega),T,Tk f q,y.u q⟩;simp[intOf];omega
  have m:b=y6 (c.d.map xd):=by rw[E.l,yV η]
  have M:pz.q=2:=rfl;by_cases G:c.d.j=0
  .have o:(b.v == [])=true:=by
    have e:=lP G;rw[m,e,List.map_nil,y6,kd];rfl
   have HE:X (s++v++b++pz=kF (cs.G (k+1))):=HN.l b (by
    have e:=lP G;rw[m,e];rfl)
   have P:(s++v).q=s.q+v.q:=by rw[ByteArray.size_append]
   have a1:(s++v++b).q=s.q+v.q+b.q:=by rw[ByteArray.size_append,P]
   clear m E HN;go_wp2;go_roundw;exact⟨k+1,s++v++b++pz,η,ξ,rfl,(by rw[ByteArray.size_append];omega),HE,Tk d f,z.u f⟩;simp[intOf];omega
  have K:0<b.q:=by
   rw[m];refine rD (λt ht=>?_) ?_;obtain⟨x,hx,rfl⟩:=zF.1 ht;exact Ew (Q.l x (by simp[zm,hx]));intro h;have:=congrArg List.length h;rw[xu,qW] at this;omega
  have o:=rC K;have au:fQ.q=4:=rfl;have HE:=Tg (HN.l (fQ++b) (by unfold TQ;rw[za G,m]));have a2:(fQ++b).q=4+b.q:=by rw[ByteArray.size_append,au]
  have P:(s++v).q=s.q+v.q:=by rw[ByteArray.size_append]
  have a1:(s++v++(fQ++b)).q=s.q+v.q+4+b.q:=by rw[ByteArray.size_append,P,a2];omega
  clear m E HN;go_wp2;go_roundw;exact⟨k+1,s++v++(fQ++b)++pz,η,ξ,rfl,(by rw[ByteArray.size_append];omega),HE,Tk d f,z.u f⟩;simp[intOf];omega
 have an:s=kF cs:=by rw[H.l,yV η]
 have he:=jt (rfl:kF cs=kF cs);subst an;have a0:=Tg (R6 wr pb cs t (HP.l.u d) hl HF.l);have a4:=Tg λW hW=>NM W pb cs t ((HP.l.u d).u hW);clear H;generalize kF cs=tt at *;go_wp2_with (first|(go_at_call 47;refine a0.l.y ?_;rintro e w5 ⟨rfl,n⟩;have ad:=z.u n;obtain⟨aL,aK,aN⟩:=ad.e;have aj:=D.u n;obtain⟨aD,a9,aB⟩:=aj.e)|(go_at_call 48;refine(a4.l _ n).y ?_;rintro e w6 ⟨rfl,a5⟩;obtain rfl:=a5.symm))
 go_ret;exact⟨rfl,Tk d n⟩
def SE:(prog.info? 30).map (λi=>(i.zero,i.q,i.bytes))=Z (Z (ν),1,24):=χ
def ST:(prog.info? 9).map (·.q)=Z 1:=χ
def Cd(a cs:Γ)(h:cs.j=a.j):splice a 0 cs=cs:=by unfold splice;simp[h]
def Na{w:U}{g:Nat}{l:κ}(h:w.o[g]?=Z (.E (l.map O.string).F 9 (0,0)))(a:lo<=g)(b:l.j<=1000):Tn lo w (.k (Z (δ g)) l.j l.j) l:=
 ⟨ζ,ze ⟨g,l.j,_,rfl,a,h,zg _,by unfold maxLen;omega,ζ,by rw[Nat.mul_one];exact yV ζ⟩⟩
def OF(B:Nat)(w:U)(k:Nat)(c0 s r u x t m p v q d f h j:O)(n:Nat)(xs o:List O)(g:Nat)(l:κ)(e:Ending)(w':U):Prop:=
 e=ε (.bool true)/\∃c a i,Th w' k #[c0,s,r,u,x,t,m,p,v,q,c,a,h,j] 35/\w'.r B 30 1 c (n+1) (xs++[.k (Z ⟨g,0,Y⟩) l.j l.j]) ∧
  w'.r B 30 1 a (n+1) (o++[.k (Z ⟨i,0,Y⟩) l.j l.j])/\w.o.q<=i/\Tn w.o.q w' (.k (Z ⟨i,0,Y⟩) l.j l.j) l ∧
  (c.m=d.m∨∃b,c.m=Z b/\w.o.q<=b)/\(a.m=f.m∨∃b,a.m=Z b/\w.o.q<=b) ∧
  (∀b,c.m=Z b->a.m≠Z b)/\zd (k::(d.m.v++f.m.v)) w w'
def N9(B:Nat)(w:U)(d:Nat)(c0 c1 c2 c3 c4 c5 c6 c7 c8 c9 G H E K:O)(n:Nat)(xs ys:Γ)(g:Nat)(l:κ)(vb:O)
  (am:Th w d #[c0,c1,c2,c3,c4,c5,c6,c7,c8,c9,G,H,E,K] 35) (h1:w.r B 30 1 G n xs) (h2:w.r B 30 1 H n ys) (hB:B<=d) (Q:∀b,G.m=Z b->H.m≠Z b)
  (ha:Tn lo w (.k (Z (δ g)) l.j l.j) l) {a9:Nat} (k:Tn a9 w vb l) (hl:l.j<=1000) (hn:n<=2000000000000):
  Calls prog 41 #[(π d),.k (Z (δ g)) l.j l.j,vb] w λe w'=>OF B w d c0 c1 c2 c3 c4 c5 c6 c7 c8 c9 G H E K n xs ys g l e w':=by
 obtain⟨i0,hi,ak,a4,ai⟩:=info_parts SE;obtain⟨I,s,rfl⟩:=zr h1;obtain⟨u,i,rfl⟩:=zr h2;obtain⟨a6,ao,rfl⟩:=k.qy;have aM:=am.lt;have az:X (Calls prog 44 #[.k (Z (δ g)) l.j l.j,.k a6 l.j ao] w λe w'=>e=ε (.bool true)/\μ w w'):=DX w _ _ l ha k η;have aQ:=run_make_row' (P:=prog) 30 9 (.string ByteArray.empty) 16 underlying30 SL rfl .i64 .i64 l.j η η;have T:X (∀W,μ w W->0<(l.map O.string).j->∃ad,a6=Z ad/\∀j v,(l.map O.string)[j]?=Z v->W.cell? (ad.add j)=Z v):=λW hW hp=>by
  obtain⟨gb,a8,hv,_,aE,aG⟩:=yr k (by simpa using hp);simp at hv;refine⟨(δ gb),hv.1,λj v hj=>?_⟩;rw[Addr.add_lit,vx,hW.cell (p:=(ω gb j)) aE];exact aG j v hj
 have J:(l.map O.string).j=l.j:=ζ;have a0:∀v∈l.map O.string,v.oneCell'=true:=λv hv=>by obtain⟨x,_,rfl⟩:=zF.1 hv;rfl
 have an:X (∀v∈l.map O.string,v.oneCell'=true):=a0;clear a0;obtain⟨cs,ae⟩:∃cs,cs=l.map O.string:=⟨_,rfl⟩;have aC:X (cs=l.map O.string):=ae;rw[←ae] at T J an;clear ae;have a1:X (0+cs.j<=(madeCells #[O.string ByteArray.empty] l.j).v.j):=by rw[X,J];simp[size_madeCells]
 have a3:X (cs.j=Nat.min l.j l.j):=by rw[X,J];simp
 go_enter func41,ntmps41;go_wp2_with (first|(go_at_call 44;refine az.l.y ?_;rintro e R ⟨rfl,t⟩;clear az)|(refine wpList_copy_splice rfl (.tmp 17) (.tmp 18) 30 30 rfl 9 underlying30 ST _ _ _ _ _ _ rfl rfl R.o.q 0 (madeCells #[.string ByteArray.empty] l.j).v 9 (by rw[Array.toArray_toList];exact Th.new _ _ _) cs a3.l (λhp=>⟨rfl,T.l _ (by exact t.C t.q _) hp⟩) a1.l an.l w.o.q w (by exact t.C t.q _) t.q ?_;intro w2 aw D;have A:=am.u D;obtain⟨aK,aR,aH⟩:=A.e;have V:=zy h1 D;have ap:=zy h2 D;have aT:=D.q)|(at_builtin;have hq:=a2;refine kc (y.x (ω d 10) (.k c (n+1) a)) _ [.k (Z (δ R.o.q)) l.j l.j] _ rfl (.tmp 34) (.tmp 36) 31 rfl B 30 i0 _ 1 24 underlying31 hi ak a4 ai rfl θ (.k u n i) n ys rfl hq (zn _ _) _ _ rfl ζ rfl a_ η η aD ?_;intro v5 L aj z aa;obtain⟨o,f,rfl⟩:=zr aj;have q:=S.save z (jx hq S θ);obtain⟨aO,aN,aI⟩:=q.e;clear hq)|(at_builtin;refine kc w2 _ [.k (Z (δ g)) l.j l.j] _ rfl (.tmp 23) (.tmp 25) 31 rfl B 30 i0 _ 1 24 underlying31 hi ak a4 ai rfl θ (.k I n s) n xs rfl V (zn _ _) _ _ rfl ζ rfl a_ η η η ?_;intro v3 y af C ab;obtain⟨c,a,rfl⟩:=zr af;have r:=A.save C (jx V A θ);obtain⟨aS,aL,aJ⟩:=r.e;have aq:=yQ ap C (λb k hm=>Q b (xa hm) k);have S:Th (y.x (ω d 10) (.k c (n+1) a)) d #[c0,c1,c2,c3,c4,c5,c6,c7,c8,c9,.k c (n+1) a,.k u n i,E,K] 35:=(by have hq:=r.set 10 (.k c (n+1) a);simpa using hq);have a2:=xL aq ((Tu.refl d y).x 10 (.k c (n+1) a)) r θ;have ah:=xL af ((Tu.refl d y).x 10 (.k c (n+1) a)) r θ;have aD:B<=(y.x (ω d 10) (.k c (n+1) a)).o.q:=(by rw[show(y.x (ω d 10) (.k c (n+1) a)).o.q=y.o.q from(by simp[U.setCell])];omega)))
 have a5:=t.q;have aP:=C.q;have al:(y.x (ω d 10) (.k c (n+1) a)).o.q=y.o.q:=by simp[U.setCell]
 have aB:=z.q;rw[al] at aB;have ax:∀b,(O.slice I n s).m=Z b->b<w.o.q:=λb k=>yG h1 k;have N:∀b,(O.slice u n i).m=Z b->b<w.o.q:=λb k=>yG h2 k;have ar:∀b,(O.slice c (n+1) a).m=Z b->b<y.o.q:=λb k=>yG af k;have ac:∀b,(O.slice c (n+1) a).m=Z b->(O.slice u n i).m≠Z b:=λb k h=>by
  rcases ab with m|⟨g3,m,h4⟩;exact Q b (m ▸ k) h;rw[m] at k;have:=N b h;simp at k;omega
 have ag:=yQ ah z (λb k hm=>ac b k (xa hm));have av:R.o.q≠d:=η;have ay:R.o.q<w2.o.q:=(kp.1 aw.l).1;have aF:(L.x (ω d 11) (.k o (n+1) f)).o[R.o.q]?=w2.o[R.o.q]?:=by
  rw[(zd.set L d 11 _).block _ η (by simpa using av),z.block _ (by rw[al];omega) (λhm=>by have:=N _ (xa hm);omega),(zd.set y d 10 _).block _ η (by simpa using av),C.block _ ay (λhm=>by have:=ax _ (xa hm);omega)]
 have a7:Tn w.o.q (L.x (ω d 11) (.k o (n+1) f)) (.k (Z (δ R.o.q)) l.j l.j) l:=by
  refine Na ?_ a5 hl;rw[aF,aw.l,Cd _ _ (by rw[J];simp[size_madeCells]),aC.l]
 have aA:zd (d::((O.slice I n s).m.v++(O.slice u n i).m.v)) w (L.x (ω d 11) (.k o (n+1) f)):=by
  have e1:=(zd.of (M:=d::((O.slice I n s).m.v++(O.slice u n i).m.v)) D).newer C (λx F=>zh (by simp[F]));have e2:=e1.newer (zd.set y d 10 (.k c (n+1) a)) (λx F=>zh (by simp at F;simp[F]));have e3:=e2.newer z (λx F=>zh (by simp[F]));exact e3.newer (zd.set L d 11 (.k o (n+1) f)) (λx F=>zh (by simp at F;simp[F]))
 have au:Th (L.x (ω d 11) (.k o (n+1) f)) d #[c0,c1,c2,c3,c4,c5,c6,c7,c8,c9,.k c (n+1) a,.k o (n+1) f,E,K] 35:=by have hq:=q.set 11 (.k o (n+1) f);simpa using hq
 go_ret;refine⟨rfl,_,_,R.o.q,au,xL ag ((Tu.refl d L).x 11 _) q θ,xL aj ((Tu.refl d L).x 11 _) q θ,a5,a7,?_,?_,?_,aA⟩;rcases ab with m|⟨g3,m,h4⟩;exact zh m;exact ze ⟨g3,m,η⟩;rcases aa with m|⟨g3,m,h4⟩;exact zh m;exact ze ⟨g3,m,η⟩;intro b k h;rcases aa with m|⟨g3,m,h4⟩;exact ac b k (m ▸ h);have:=ar b k;rw[m] at h;simp at h;omega
end
section
variable {lo:Nat}{s w:U}
def Ug(lo:Nat)(s w:U):Prop:=∀b,lo<=b->b<s.o.q->w.o[b]?=s.o[b]?
def wh{e:TypeId}{a:Nat}{v:O}{n:Nat}{xs:Γ}(h:s.r lo e a v n xs)(hs:Ug lo s w):w.r lo e a v n xs:=by
 obtain⟨k,c⟩:=h;refine⟨k,?_⟩;rcases c with c|⟨g,b,d,j,f,i,l⟩;exact zh c;refine ze ⟨g,b,d,j,f,?_,l⟩;rw[hs g f (kp.1 i).1];exact i
def Th.same{b:Nat}{c:Array O}{T:TypeId}(h:Th s b c T)(a:lo<=b)(hs:Ug lo s w):Th w b c T:=by
 have:=h.lt;unfold Th at *;rw[hs b a this];exact h
def Tn.same{v:O}{l:κ}(h:Tn lo s v l)(hs:Ug lo s w):Tn lo w v l:=wh h hs
def TL.same{s w:U}{v:O}{l:Ω}(h:TL lo s v l)(hs:Ug lo s w):TL lo w v l:=by
 obtain⟨c,b,a⟩:=h;exact⟨c,wh b hs,a.y λ_ _ q=>q.same hs⟩
def TO.same{T:TypeId}{s w:U}{v:O}{l:Ξ}(h:TO lo T s v l)(hs:Ug lo s w):TO lo T w v l:=by
 obtain⟨c,b,a⟩:=h;exact⟨c,wh b hs,a.y (λ_ _ q=>q.same hs) (λ_ _ q=>q.same hs)⟩
def jq.same{s w:U}{pb:Nat}{cs:Ξ}{t:Ψ}(h:jq lo s pb cs t)(hs:Ug lo s w):jq lo w pb cs t:=by
 obtain⟨a,v,b,d,c,e⟩:=h;exact⟨a,v,b,d.same a hs,c.same hs,wh e hs⟩
def jG.same{s w:U}{pb:Nat}{cs:Ξ}{t:Ψ}(h:jG lo s pb cs t)(hs:Ug lo s w):jG lo w pb cs t:=by
 obtain⟨a,g,b,i,d,c,f,e⟩:=h;exact⟨a,g,b,i,d.same a hs,c.same hs,f.same hs,wh e hs⟩
def jq.low{a b:Nat}{w:U}{pb:Nat}{cs:Ξ}{t:Ψ}(h:jq b w pb cs t)(c:a<=b):jq a w pb cs t:=by
 obtain⟨i,v,d,f,e,g⟩:=h;exact⟨η,v,d,f,e.low c,yo g c⟩
def jG.low{a b:Nat}{w:U}{pb:Nat}{cs:Ξ}{t:Ψ}(h:jG b w pb cs t)(c:a<=b):jG a w pb cs t:=by
 obtain⟨l,j,d,k,f,e,i,g⟩:=h;exact⟨η,j,d,k,f,e.low c,i.low c,yo g c⟩
structure eN (cs:List zc) (t:List zf):Prop where
 len:cs.j<=1000
 names:t.j<=1000
 fine:∀c∈cs,rf c/\qo c/\c.d.j<=6/\xj (zm c)<=1000
 rise:y9 (Ti t)
abbrev m9:=Nat×Nat×List zc×List zf
def im(B:Nat)(w:U)(a:List Nat)(p:m9):Prop:=∃(lo:Nat) (s:U),B<=lo/\jq lo s p.1 p.2.2.1 p.2.2.2/\jG lo s p.2.1 p.2.2.1 p.2.2.2/\eN p.2.2.1 p.2.2.2/\Ug lo s w/\s.o.q<=w.o.q/\∀b∈a,b<lo∨s.o.q<=b
def im.save{B:Nat}{w':U}{d a N:Φ}{p:m9}(h:im B w d p)(hs:zd N w w')(i:∀b∈N,b∈d)(c:∀b∈a,b∈d∨w.o.q<=b):im B w' a p:=by
 obtain⟨lo,s,j,n,l,o,m,k,g⟩:=h;refine⟨lo,s,j,n,l,o,λb f e=>?_,zY k hs.q,λb q=>?_⟩;rw[hs.block b η (λc=>by have:=g b (i b c);omega)];exact m b f e;rcases c b q with h|h;exact g b h;right;omega
def nz(ps:List m9):List Value:=ps.flatMap λp=>[.pointer (Z ⟨p.1,0,Y⟩),.pointer (Z ⟨p.2.1,0,Y⟩)]
abbrev pg:=Nat×Nat×κ
def wT(a:List pg):List Value:=a.map λx=>sl x.1 x.2.2.j
def wI(a:List pg):List Value:=a.map λx=>sl x.2.1 x.2.2.j
def lJ(a:List (Nat×Nat)):List Value:=a.map λx=>sl x.1 x.2
def Az:ByteArray:=⟨#[109,105,110,101]⟩
def wm(i h:Nat):O×O×Value:=(.bool false,.string Az,sl h (i+1))
structure TM where
 ps:List m9
 nr:Nat
 ls:List pg
 N:List (Nat×Nat)
def Hi(f:Nat)(e b c d a:O)(M:TM):List Nat:=
 f::(e.m.v++b.m.v++c.m.v++d.m.v++a.m.v++M.ls.map (·.1)++M.ls.map (·.2.1)++M.N.map (·.1))
def Vp(R:List Nat)(a:O)(M:TM):List Nat:=R++(a.m.v++(M.ls.map (·.1)++M.ls.map (·.2.1)))
structure Vt (B:Nat) (w:U) (wb:Nat) (M:TM) (R:List Nat) (psv rowv lsv lwv litv:O) (ys:List O):Prop where
 low:B<=wb
 box:Th w wb #[psv,ν,ν,ν,ι 0,ι 0,ι 0,ν,.bool true,rowv,lsv,lwv,ν,litv] 35
 ps:w.r B 40 2 psv M.ps.j (nz M.ps)
 row:w.r B 9 1 rowv M.nr ys
 ls:w.r B 30 1 lsv M.ls.j (wT M.ls)
 lw:w.r B 30 1 lwv M.ls.j (wI M.ls)
 N:w.r B 91 1 litv M.N.j (lJ M.N)
 res:∀b∈R,b<w.o.q
 sep:∀b,lsv.m=Z b->lwv.m≠Z b
 apart:(Vp R rowv M).Nodup
 lists:∀x∈M.ls,Tn B w (sl x.1 x.2.2.j) x.2.2/\Tn B w (sl x.2.1 x.2.2.j) x.2.2/\x.2.2.j<=1000
 own:∀i (h:i<M.N.j),∃hs:List Nat,hs.j=M.N[i].2/\M.N[i].2<=1000/\w.r B 90 3 (sl M.N[i].1 M.N[i].2) M.N[i].2 (T3 (hs.map (wm i)))
 pairs:∀p∈M.ps,im B w (R++Hi wb psv rowv lsv lwv litv M) p
def Vt.u{B:Nat}{w w':U}{m:Nat}{M:TM}{R:Φ}{g d e f c:O}{l:Γ}(h:Vt B w m M R g d e f c l)(a:μ w w'):Vt B w' m M R g d e f c l:=
 ⟨h.low,h.box.u a,zy h.ps a,zy h.row a,zy h.ls a,zy h.lw a,zy h.N a,λb k=>ym (h.res b k) a.q,h.sep,h.apart,λx j=>⟨(h.lists x j).1.u a,(h.lists x j).2.1.u a,(h.lists x j).2.2⟩,λi q=>by
  obtain⟨n,t,r,u⟩:=h.own i q;exact⟨n,t,r,zy u a⟩,λp o=>(h.pairs p o).save (zd.of (M:=[]) a) ζ (λb a=>zh a)⟩
end
section
variable {lo:Nat}
structure V0 (M M':TM):Prop where
 ps:M'.ps.j<=M.ps.j+1
 nr:M'.nr<=M.nr+1
 ls:M'.ls.j<=M.ls.j+7
 N:M'.N.j<=M.N.j+1
def V0.refl(M:TM):V0 M M:=⟨η,η,η,η⟩
def Vt.q{B:Nat}{w:U}{g:Nat}{M:TM}{R:Φ}{e b c d a:O}{f:Γ}(h:Vt B w g M R e b c d a f):B<=w.o.q:=by have:=h.low;have:=h.box.lt;omega
def V9(lo:Nat)(w:U)(v:O)(l:List Nat):Prop:=w.r lo 3 1 v l.j (l.map TN)
def V9.cell{w:U}{e:Option Addr}{n cap:Nat}{b:Φ}(h:V9 lo w (.k e n cap) b)(k:Nat)(i:k<b.j):∃g,e=Z (δ g)/\g<w.o.q/\w.cell? (ω g k)=Z (ι (b[k]:Int)):=by
 obtain⟨g,c,d,_,f,a⟩:=yr h η;simp at d;exact⟨g,d.1,f,a k _ (by simp[i,TN])⟩
def VB(lo:Nat)(T:TypeId)(w:U)(v:O)(xs:List O):Prop:=w.r lo T 1 v xs.j xs
def VB.cell{T:TypeId}{w:U}{d:Option Addr}{n cap:Nat}{xs:Γ}(h:VB lo T w (.k d n cap) xs)(k:Nat)(f:k<xs.j):∃g,d=Z (δ g)/\g<w.o.q/\w.cell? (ω g k)=Z xs[k]:=by
 obtain⟨g,b,c,_,e,a⟩:=yr h η;simp at c;exact⟨g,c.1,e,a k _ (by simp[f])⟩
end
section
variable {v:O}{b:Nat}
abbrev Vw:=Nat×Nat
abbrev TH:=Nat->Vw
def uf(own:TH)(b:Nat):Prop:=own b≠(0,0)
def pZ(own:TH)(v:O)(t:Vw):TH:=λb=>if v.m=Z b then t else own b
def oo{own:TH}{t:Vw}(h:v.m=Z b):pZ own v t b=t:=zb h
def oQ{own:TH}{t:Vw}(h:v.m≠Z b):pZ own v t b=own b:=za h
def xO(own:TH)(w w':U):Prop:=∃N,zd N w w'/\∀b∈N,uf own b
def sI{N e:Φ}{a b c:U}(h:zd N a b)(k:zd e b c):zd (N++e.filter (·<a.o.q)) a c:=(h.more λx d=>ya.2 (zh d)).newer k λx d=>by
 by_cases f:x<a.o.q
 .exact zh (ya.2 (ze (xz.2 ⟨d,by simpa using f⟩)))
 .exact ze η
section
variable {own own':TH} {w w' w2:U}
def xO.of(h:μ w w'):xO own w w':=⟨[],zd.of h,ζ⟩
def xO.A(h:xO own w w')(k:xO own' w' w2)(l:∀b,b<w.o.q->own' b=own b):xO own w w2:=by
 obtain⟨N,g,f⟩:=h;obtain⟨m,e,j⟩:=k;refine⟨_,sI g e,λb a=>?_⟩;rcases ya.1 a with a|a;exact f b a;obtain⟨d,i⟩:=xz.1 a;have c:=j b d;unfold uf at c ⊢;rw[l b (by simpa using i)] at c;exact c
def xO.box(h:xO own w w'){c:Array O}{T:TypeId}(g:Th w b c T)(d:own b=(0,0)):Th w' b c T:=by
 obtain⟨N,f,e⟩:=h;exact g.save f λa=>e b a d
end
abbrev UQ:=Option (TypeId×Nat×Nat×List O)
structure U4 (B:Nat) (own:TH) (w:U) (wb:Nat) (F:Nat->UQ) (V:Nat->O):Prop where
 low:∀b,uf own b->B<=b
 box:Th w wb ((List.range 14).map V).F 35
 tag:own wb=(1,0)
 new:∀b,w.o.q<=b->own b=(0,0)
 row:∀f T s n xs,F f=Z (T,s,n,xs)->w.r B T s (V f) n xs
 tg:∀f b,(V f).m=Z b->own b=(f+2,0)/\b<w.o.q
def gY(V:Nat->O)(f:Nat)(v:O):Nat->Value:=λg=>if g=f then v else V g
section
variable {B:Nat} {own:TH} {w w' w2:U} {wb:Nat} {F F':Nat->UQ} {V:Nat->O}
def U4.wlow(h:U4 B own w wb F V):B<=wb:=h.low wb (by unfold uf;rw[h.tag];decide)
def U4.q(h:U4 B own w wb F V):B<=w.o.q:=zY h.wlow (Nat.le_of_lt h.box.lt)
def U4.under(h:U4 B own w wb F V)(a:uf own b):b<w.o.q:=by
 apply Classical.byContradiction;intro q;exact a (h.new b η)
def U4.u(h:U4 B own w wb F V)(a:μ w w'):U4 B own w' wb F V:=
 ⟨h.low,h.box.u a,h.tag,λb q=>h.new b (zY a.q q),λf T s n c q=>zy (h.row f T s n c q) a,λf b q=>⟨(h.tg f b q).1,ym (h.tg f b q).2 a.q⟩⟩
def U4.gen{own':TH}{d:Nat->O}{N:Φ}(C:Φ)(h:U4 B own w wb F V)(p:zd N w w')(r:∀b∈N,b=wb∨(∃f∈C,(V f).m=Z b)∨(own b).2≠0)(k:Th w' wb ((List.range 14).map d).F 35)(l:∀b,b<w.o.q->own' b=own b)(z:∀b,w'.o.q<=b->own' b=(0,0))(j:∀f,f∉C->d f=V f/\F' f=F f)(o:∀f∈C,(∀T s n e,F' f=Z (T,s,n,e)->w'.r B T s (d f) n e)/\∀b,(d f).m=Z b->own' b=(f+2,0)/\b<w'.o.q):U4 B own' w' wb F' d:=by
 refine⟨λb q=>?_,k,(l wb h.box.lt).A h.tag,z,λf T s n e q=>?_,λf b q=>?_⟩;by_cases u:b<w.o.q;exact h.low b (by unfold uf at q ⊢;rw[←l b u];exact q);have:=h.q;omega;by_cases a:f∈C;exact(o f a).1 T s n e q;rw[(j f a).2] at q;rw[(j f a).1];refine yQ (h.row f T s n e q) p λb k t=>?_;have c:=(h.tg f b k).1;rcases r b t with rfl|⟨g,y,i⟩|i;rw[h.tag] at c;cases c;rw[(h.tg g b i).1] at c;simp at c;exact a (c ▸ y);rw[c] at i;exact i rfl;by_cases a:f∈C;exact(o f a).2 b q;rw[(j f a).1] at q;obtain⟨x,m⟩:=h.tg f b q;exact⟨(l b m).A x,ym m p.q⟩
def LJ{f:Nat}{T:TypeId}(h:Th w b ((List.range 14).map V).F T):Th (w.x (ω b f) v) b ((List.range 14).map (gY V f v)).F T:=by
 have q:=h.set f v;have e:((List.range 14).map V).F.setIfInBounds f v=((List.range 14).map (gY V f v)).F:=by
  rw[List.setIfInBounds_toArray];congr 1;refine jy ζ λi c a=>?_;rw[lV];simp only[ub,fR,gY];split;rename_i e;rw[zb e.symm];rename_i e;rw[za (Ne.symm e)]
 rw[e] at q;exact q
def U4.off(h:U4 B own w wb F V){f:Nat}(q:(V f).m=Z b):b≠wb:=λe=>by
 have:=(h.tg f b q).1;rw[e,h.tag] at this;cases this
def U4.put(h:U4 B own w wb F V){f:Nat}(y:∀g,g≠f->F' g=F g)(j:∀T s n k,F' f=Z (T,s,n,k)->w2.r B T s v n k)(p:zd (V f).m.v w w2)(i:∀b,v.m=Z b->(V f).m=Z b∨(w.o.q<=b/\b<w2.o.q)):
  U4 B (pZ own v (f+2,0)) (w2.x (ω wb f) v) wb F' (gY V f v)/\zd (wb::(V f).m.v) w (w2.x (ω wb f) v)/\∀b,b<w.o.q->pZ own v (f+2,0) b=own b:=by
 have d:zd (wb::(V f).m.v) w (w2.x (ω wb f) v):=(p.more (λx l=>by simp[l])).A ((zd.set w2 wb f v).more (λx l=>by simp at l;simp[l]));have t:(w2.x (ω wb f) v).o.q=w2.o.q:=by simp[U.setCell]
 have A:=p.q;have z:=h.q;have C:=h.box.lt;have a:∀b,v.m=Z b->b≠wb/\b<w2.o.q:=λb q=>by
  rcases i b q with c|c;have:=(h.tg f b c).2;exact⟨h.off c,η⟩;exact⟨η,η⟩
 have u:∀b,b<w.o.q->pZ own v (f+2,0) b=own b:=λb q=>by
  by_cases e:v.m=Z b;rw[oo e];rcases i b e with c|c;exact(h.tg f b c).1.symm;omega;exact oQ e
 refine⟨h.gen [f] d (λb r=>?_) (LJ (h.box.save p λm=>h.off (xa m) rfl)) u (λb q=>?_) (λg o=>?_) (λg o=>?_),d,u⟩;rcases zG.1 r with e|e;exact zh e;exact ze (zh ⟨f,ζ,xa e⟩);rw[t] at q;rw[oQ λe=>by have:=(a b e).2;omega];exact h.new b η;have:g≠f:=by simpa using o
 exact⟨za this,y g this⟩;obtain rfl:g=f:=by simpa using o
 rw[show gY V g v g=v from zb rfl];exact⟨λT s n k q=>yQ (j T s n k q) (zd.set w2 wb g v) λb r m=>(a b r).1 (by simpa using m),λb q=>⟨oo q,by rw[t];exact(a b q).2⟩⟩
end
end
section
variable {lo:Nat}
section
variable {P:Program} {ops:Array Oper} {o:Oper} {a:Act} {K:Act->U->Prop} {Q:Exit->Act->U->Prop}
end
def Hz(s:ByteArray):∀(n i:Nat) (l:Δ),Tx n s i=Z l->∀x∈l,x.2.q<=6:=by
 intro n;induction n with
 |zero=>intro i l h;simp[Tx] at h;subst h;simp
 |succ n g=>
  intro i l h;by_cases a:i<s.q;cases c:qJ (Tr s i);generalize d:xw (Tr s i) (Tr s (i+1))=k;by_cases b:k=0;subst b;rw[ir a c d] at h;exact zB h ζ;by_cases f:6<yv s i k-i;rw[iV a c d f] at h;exact zB h ζ;rw[i5 a c d b f] at h;obtain⟨r,j,rfl⟩:=qn.1 h;intro x e;rcases zG.1 e with rfl|e;rw[ByteArray.size_extract];omega;exact g _ _ j x e;rw[ii a c] at h;exact g _ _ h;rw[sA a] at h;simp at h;subst h;simp
def wu{a:zj}{l:Δ}(h:qR a l):∃y∈l,y.2=a.o:=by
 cases h with
 |bare=>exact⟨_,sL,rfl⟩
 |k=>exact⟨_,sL,rfl⟩
def Hu{a:zj}{l:Δ}(h:dU a l):∃y∈l,y.2=a.o:=by
 cases h with
 |qc h=>exact wu h
 |i _ h=>obtain⟨y,b,e⟩:=wu h;exact⟨y,by simp[b],e⟩
def PS:∀{b:Ω} {l:Δ},gT b l->∀a∈b,∃y∈l,y.2=a.o:=by
 intro b l h;induction h with
 |one h=>intro a c;simp at c;subst c;exact Hu h
 |more h _ _ f=>
  intro a c;rcases zG.1 c with rfl|c;obtain⟨y,d,e⟩:=Hu h;exact⟨y,by simp[d],e⟩;obtain⟨y,d,e⟩:=f a c;exact⟨y,by simp[d],e⟩
def MV:∀{cs:Ξ} {l:Δ},ly cs l->∀c∈cs,∀a∈zm c,∃y∈l,y.2=a.o:=by
 intro cs l h;induction h with
 |nil=>intro c f;cases f
 |cons h _ _ g=>
  intro c f a b;rcases zG.1 f with rfl|f;cases h with
  |fact h=>simp[zm] at b;subst b;obtain⟨y,d,e⟩:=wu h;exact⟨y,by simp[d],e⟩
  |p h _ i=>
   simp only[zm] at b;rcases zG.1 b with rfl|b;obtain⟨y,d,e⟩:=wu h;exact⟨y,by simp[d],e⟩;obtain⟨y,d,e⟩:=PS i a b;exact⟨y,by simp[d],e⟩
  obtain⟨y,d,e⟩:=g c f a b;exact⟨y,by simp[d],e⟩
def CY:∀{b:Ω} {l:zj},l∈b->l.k.j<=xj b
 |[],_,h=>by cases h
 |a::r,l,h=>by
  rcases zG.1 h with rfl|h
  .simp[xj]
  .have:=CY h;simp[xj] at this ⊢;omega
def J5{s:ByteArray}{cs:Ξ}{t:Ψ}(h:uF s=.ok (cs,t)):eN cs t:=by
 unfold uF at h;split at h;cases h;rename_i P;split at h;cases h;rename_i n d;split at h;cases h;rename_i b I;split at h;cases h;rename_i K;split at h;cases h;rename_i k w;split at h;split at h;simp only[Except.ok.injEq,ye] at h;obtain⟨rfl,rfl⟩:=h;have f:uu n:=λx M=>(rE d x M).1;have v:x9 s.q s=Z (zX n):=by rw[sO,d];rfl
 have C:vI (zX n)=Z b:=by
  have:=Be s;rw[v,d] at this;simp only[Option.bind_some] at this;rw[this];exact I
 have a:=BC η v C;have z:=(B9 f b).1 C;have u:=(wD w).2;have B:=iG (k.j+1) k b (wY u);have D:k.j<=1000:=by have:=iO _ _ _ w;have:=a.N;simp only[qW] at *;omega
 refine⟨a.len,?_,λc j=>?_,?_⟩;have:=congrArg List.length B;simp[Ti] at this;omega;obtain⟨H,N,J,G⟩:=a.ok c j;have o:c.d.j<=6:=by
  false_or_by_contra
  rename_i Q;apply K;rw[fc];refine⟨c,j,?_⟩;have E:6<c.d.j:=η;unfold yR;simp[E]
 refine⟨⟨λl i=>?_,η⟩,H,o,J⟩;obtain⟨y,A,e⟩:=MV z c j l i;have m:=Hz s _ _ _ d y A;have q:=(rE d y A).2;refine⟨by rw[←e];exact m,by rw[←e];exact q,?_,λr g=>?_⟩;have:=CY i;omega;obtain⟨F,p,L⟩:=Cc z c j l i r g;exact⟨G l i r g,by rw[←L];exact Hz s _ _ _ d F p⟩;rw[B];exact u.rise;cases h;cases h
def Dj:∀(ps:List m9) (k:Nat) (a:k<ps.j),(nz ps)[k*2]?=Z (.pointer (Z (δ ps[k].1)))/\(nz ps)[k*2+1]?=Z (.pointer (Z (δ ps[k].2.1)))
 |[],k,a=>by simp at a
 |p::r,0,_=>by simp[nz]
 |p::r,k+1,a=>by
  have:=Dj r k (by simpa using a);simp only[nz,uU] at this ⊢;rw[show(k+1)*2=k*2+1+1 from by omega,show k*2+1+1+1=k*2+1+1+1 from rfl];simpa using this
structure Va (lo:Nat) (s w:U) (ms:List Nat):Prop where
 same:Ug lo s w
 q:s.o.q<=w.o.q
 l:∀b∈ms,b<lo∨s.o.q<=b
def Va.save{s w w':U}{d a N:Φ}(h:Va lo s w d)(hs:zd N w w')(i:∀b∈N,b∈d)(c:∀b∈a,b∈d∨w.o.q<=b):Va lo s w' a:=by
 have k:=h.q;refine⟨λb f e=>?_,zY h.q hs.q,λb j=>?_⟩;rw[hs.block b η (λc=>by have:=h.l b (i b c);omega)];exact h.same b f e;rcases c b j with g|g;exact h.l b g;right;omega
def SR(B:Nat)(w:U)(l:Nat)(M:TM)(lo:Nat)(s:U)(f b a:O)(m:List O)(ls:List zj)(e:List Nat)(h o:Nat)(n:Array O)(k g:Nat)(wr:U):Prop:=
 ∃(i:List Nat) (L:List pg) (c d:O),i.j=k/\L.j=M.ls.j+g/\Vt B wr l {M with ls:=L} (e.drop g++[h]) f b c d a m ∧
  wr.r B 90 3 (sl h ls.j) ls.j (T3 (i.map (wm M.N.j)++List.zipWith If (ls.drop k) (e.drop k))) ∧
  (∀j (q:j<ls.j) (p:j<e.j),g<=j->Tn B wr (sl e[j] ls[j].k.j) ls[j].k) ∧
  Va lo s wr (e.drop g++[h]++Hi l f b c d a {M with ls:=L})/\Th wr o n 93/\Below B w wr
end
end Go.Proofs.YteampbddflhngaaGreat
