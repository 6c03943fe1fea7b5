import Derived.Laws.Cover3
import Derived.Test.YteampbddflhngaaGreatR07
import Derived.Test.YteampbddflhngaaGreatR09
namespace Go.Proofs.YteampbddflhngaaGreat
open List renaming length→List.j,take→List.G,map→List.w,toArray→List.F
open _root_.Array renaming size→Array.q,toList→Array.v,map→Array.w
open _root_.ByteArray renaming size→ByteArray.q,toList→ByteArray.v
open Go.RowKit.Below renaming size→Go.RowKit.Below.q,setCell→Go.RowKit.Below.x,mono→Go.RowKit.Below.y,trans→Go.RowKit.Below.A,alloc→Go.RowKit.Below.C
open Go.TypeInfo renaming size→Go.TypeInfo.q
open Go.RowKit.Hid renaming out→Go.RowKit.Hid.l
open Go.World renaming heap→Go.World.o,setCell→Go.World.x,alloc→Go.World.C,ownsRow→Go.World.r
open Go.Value renaming slice→Go.Value.k,cells→Go.Value.E,ownBlock→Go.Value.m
open Go.TypeDesc renaming slice→Go.TypeDesc.k
open Go.Calls renaming mono→Go.Calls.y
open Eq renaming trans→Eq.A
open Iff renaming trans→Iff.A
open Go.Obj renaming cells→Go.Obj.E
open Option renaming toList→Option.v,map→Option.w,some→Z,none→Y
open Go.RowKit renaming Hid→X
open Go renaming World→U,Value→O
set_option linter.all false
set_option maxRecDepth 100000
set_option maxHeartbeats 4000000
open Go.RowKit
section
open Go.Proofs.Tryz
variable {lo:Nat}
def C6{l:zj}(h:rE l):0<(xg l).q:=by
 obtain⟨_,a,_,_⟩:=h;have b:0<(gL l).q:=by
  unfold gL;split;rw[ByteArray.size_append];omega;exact a
 unfold xg;split;exact b;rw[ByteArray.size_append,ByteArray.size_append,ByteArray.size_append];omega
def pw:ByteArray:=⟨#[46,10]⟩
def NV:sg++p9=pw:=θ
def Pu{cs:Ξ}{k:Nat}(a:k<cs.j):kE (cs.G (k+1))=kE (cs.G k)++xg cs[k].g++TQ cs[k].d++pw:=by
 rw[EX a,Vb,←NV];simp only[ByteArray.append_assoc]
def jD.u{w w':U}{pb:Nat}{cs:Ξ}{t:Ψ}(h:jD lo w pb cs t)(a:μ w w'):jD lo w' pb cs t:=by
 obtain⟨d,j,c,e,b,g,f,i⟩:=h;exact⟨d,j,c,e,b.u a,g.u a,f.u a,zy i a⟩
def OV(w:U)(pb mb:Nat)(cs:Ξ)(t:Ψ)(hp:qX lo w pb cs t){a3:Nat}(hm:jD a3 w mb cs t)(hl:cs.j<=1000)(hf:∀c∈cs,rz c):
  Calls prog 22 #[.agg #[(π pb),(π mb)]] w λe w'=>e=ε (.bool true)/\μ w w':=by
 have HP:=Th hp;obtain⟨_,cv,pv,kv,a1,D,_,_⟩:=hm;obtain⟨ao,aS,rfl⟩:=D.qy;have HF:=Th hf;clear hf hp;go_enter func22,ntmps22;go_wp2;go_loopw [3,4] (λv3 v4 wr=>∃(k:Nat) (s:ByteArray),k<=cs.j/\v4=ι k/\v3=.string s/\s.q<=10000000*k/\X (s=kE (cs.G k))/\μ w wr/\Ti wr w.o.q #[(π pb),(π mb)] 40) (λ_ i _=>cs.j-(intOf i).toNat);exact⟨0,_,zs _,rfl,rfl,zf _,rfl,γ,Ti.new _ _ _⟩;obtain⟨k,s,hk,rfl,rfl,aK,H,d,B⟩:=hrel;have aD:=d.q;obtain⟨hc,ax,bb⟩:=B.e;have C:=a1.u d;obtain⟨au,ar,aY⟩:=C.e;by_cases T:k<cs.j
 .obtain⟨g,Q,v,K,r,rfl,hg,ak,aa,R,ah,aj,ag⟩:=D.cell k T;have aT:=zi d hg ak;have aL:=zi d hg aa;have aF:=zi d hg R;have aN:=zi d hg ah;have aO:g<wr.o.q:=η;have HJ:=Pu T;have a5:=HF.l _ (zq T);have G:=aj.u d;have ac:=ag.u d;clear ak aa R ah aj ag;generalize cs[k]=c at *;obtain⟨L,aB⟩:=a5;have S:=Th L;have z:=L c.g (by simp[zm]);have aI:=td z;have aW:=z.2.2.1;have HH:=Th λW hW=>Hb W c.g _ (G.u hW) z;clear L z G;have HN:X (∀b,b=TQ c.d->s++xg c.g++b++pw=kE (cs.G (k+1))):=λb hb=>by rw[hb,HJ,H.l]
  clear HJ H;generalize xg c.g=q at *;obtain⟨E,rfl⟩:∃E,E=wr:=⟨wr,rfl⟩;go_wp2_with (go_at_call 46;refine(HH.l _ γ).y ?_;rintro e w5 ⟨rfl,n⟩;have al:=(Ti.new E #[.bool c.g.i,.string c.g.o,.k Q c.g.k.j v,.k K c.d.j r] 93).u n;have a0:=Tl ((zn E.o.q E).C (zf _) (.E #[.bool c.g.i,.string c.g.o,.k Q c.g.k.j v,.k K c.d.j r] 93)) n)
  go_loopw [7,8] (λv7 v8 wj=>∃(j:Nat) (b:ByteArray),j<=c.d.j/\v8=ι j/\v7=.string b/\b.q<=8011*j/\X (b=yB ((c.d.G j).w xg))/\μ E wj/\Ti wj E.o.q #[.bool c.g.i,.string c.g.o,.k Q c.g.k.j v,.k K c.d.j r] 93) (λ_ i _=>c.d.j-(intOf i).toNat);exact⟨0,_,zs _,rfl,rfl,zf _,rfl,a0,al⟩;clear hc ax au ar;obtain⟨j,b,hj,rfl,rfl,aP,F,f,u⟩:=hrel;have aA:=f.q;obtain⟨aM,ba,aE⟩:=u.e;by_cases ab:j<c.d.j
  .obtain⟨gl,aU,a8,ap,N,am,ad,af,o⟩:=ac.cell j ab;subst ap;have aG:=zi f N am;have aR:=zi f N ad;have aV:=zi f N af;have a9:gl<wr.o.q:=η;have p:=tO (l:=c.d.w xg) (k:=j) (by simpa using ab);rw[←sN,←sN] at p;simp only[ue] at p;have A:=S.l c.d[j] (by simp[zm]);have I:=o.u f;clear am ad af o;generalize c.d[j]=a at *;have aX:=td A;have aJ:=A.2.2.1;have HA:=Th λW hW=>Hb W a _ (I.u hW) A;clear I A;generalize xg a=ta at *;by_cases J:j=0
   .have m:b=ByteArray.empty:=by rw[F.l,J];rfl
    have M:X (b++ta=yB ((c.d.G (j+1)).w xg)):=by rw[X,p,zb J,m];simp
    have o:(b.v == [])=true:=by rw[m,jS];rfl
    subst J;clear p F m;go_wp2_with (go_at_call 46;refine(HA.l _ γ).y ?_;rintro e w6 ⟨rfl,y⟩)
    go_roundw;exact⟨1,b++ta,η,ξ,rfl,(by rw[ByteArray.size_append];omega),M,Tl f y,u.u y⟩;simp[intOf];omega
   have M:X (b++ug++ta=yB ((c.d.G (j+1)).w xg)):=by rw[X,p,za J,F.l]
   have V:0<b.q:=by
    rw[F.l];refine sB (λt ht=>?_) ?_;obtain⟨x,hx,rfl⟩:=zF.1 ht;exact C6 (S.l x (by simp[zm,List.mem_of_mem_take hx]));intro h;have:=congrArg List.length h;rw[xt,vd,jr] at this;omega
   have o:=sA V;have aq:ug.q=2:=rfl;have aQ:(b++ug).q=b.q+2:=by rw[ByteArray.size_append,aq]
   clear p F;go_wp2_with (go_at_call 46;refine(HA.l _ γ).y ?_;rintro e w6 ⟨rfl,y⟩)
   go_roundw;exact⟨j+1,b++ug++ta,η,ξ,rfl,(by rw[ByteArray.size_append];omega),M,Tl f y,u.u y⟩;simp[intOf];omega
  have m:b=yB (c.d.w xg):=by rw[F.l,yV η]
  have R:pw.q=2:=rfl;by_cases J:c.d.j=0
  .have o:(b.v == [])=true:=by
    have e:=lI J;rw[m,e,List.map_nil,yB,jS];rfl
   have HE:X (s++q++b++pw=kE (cs.G (k+1))):=HN.l b (by
    have e:=lI J;rw[m,e];rfl)
   have P:(s++q).q=s.q+q.q:=by rw[ByteArray.size_append]
   have ay:(s++q++b).q=s.q+q.q+b.q:=by rw[ByteArray.size_append,P]
   clear m F HN;go_wp2;go_roundw;exact⟨k+1,s++q++b++pw,η,ξ,rfl,(by rw[ByteArray.size_append];omega),HE,Tl d f,B.u f⟩;simp[intOf];omega
  have V:0<b.q:=by
   rw[m];refine sB (λt ht=>?_) ?_;obtain⟨x,hx,rfl⟩:=zF.1 ht;exact C6 (S.l x (by simp[zm,hx]));intro h;have:=congrArg List.length h;rw[xt,jr] at this;omega
  have o:=sA V;have az:fh.q=4:=rfl;have HE:=Th (HN.l (fh++b) (by unfold TQ;rw[za J,m]));have an:(fh++b).q=4+b.q:=by rw[ByteArray.size_append,az]
  have P:(s++q).q=s.q+q.q:=by rw[ByteArray.size_append]
  have ay:(s++q++(fh++b)).q=s.q+q.q+4+b.q:=by rw[ByteArray.size_append,P,an];omega
  clear m F HN;go_wp2;go_roundw;exact⟨k+1,s++q++(fh++b)++pw,η,ξ,rfl,(by rw[ByteArray.size_append];omega),HE,Tl d f,B.u f⟩;simp[intOf];omega
 have av:s=kE cs:=by rw[H.l,yV η]
 have he:=jq (rfl:kE cs=kE cs);subst av;have a4:=Th (KG wr pb cs t (HP.l.u d) hl HF.l);have a2:=Th λW hW=>JJ W pb cs t ((HP.l.u d).u hW);clear H;generalize kE cs=tt at *;go_wp2_with (first|(go_at_call 47;refine a4.l.y ?_;rintro e w5 ⟨rfl,n⟩;have ai:=B.u n;obtain⟨aZ,aH,bc⟩:=ai.e;have ae:=C.u n;obtain⟨aC,a6,a7⟩:=ae.e)|(go_at_call 48;refine(a2.l _ n).y ?_;rintro e w6 ⟨rfl,aw⟩;obtain rfl:=aw.symm))
 go_ret;exact⟨rfl,Tl d n⟩
def SK:(prog.info? 30).w (λi=>(i.zero,i.q,i.bytes))=Z (Z (ν),1,24):=χ
def S3:(prog.info? 9).w (·.q)=Z 1:=χ
def DK(a cs:Γ)(h:cs.j=a.j):splice a 0 cs=cs:=by unfold splice;simp[h]
def QY{w:U}{g:Nat}{l:κ}(h:w.o[g]?=Z (.E (l.w O.string).F 9 (0,0)))(a:lo<=g)(b:l.j<=1000):To lo w (.k (Z (δ g)) l.j l.j) l:=
 ⟨ζ,ze ⟨g,l.j,_,rfl,a,h,zf _,by unfold maxLen;omega,ζ,by rw[Nat.mul_one];exact yV ζ⟩⟩
def M9(B:Nat)(w:U)(k:Nat)(c0 x p v o r m q u t d f j h:O)(n:Nat)(xs s:List O)(g:Nat)(l:κ)(e:Ending)(w':U):Prop:=
 e=ε (.bool true)/\∃a c i,Ti w' k #[c0,x,p,v,o,r,m,q,u,t,a,c,j,h] 35/\w'.r B 30 1 a (n+1) (xs++[.k (Z ⟨g,0,Y⟩) l.j l.j]) ∧
  w'.r B 30 1 c (n+1) (s++[.k (Z ⟨i,0,Y⟩) l.j l.j])/\w.o.q<=i/\To w.o.q w' (.k (Z ⟨i,0,Y⟩) l.j l.j) l ∧
  (a.m=d.m∨∃b,a.m=Z b/\w.o.q<=b)/\(c.m=f.m∨∃b,c.m=Z b/\w.o.q<=b) ∧
  (∀b,a.m=Z b->c.m≠Z b)/\zd (k::(d.m.v++f.m.v)) w w'
def N3(B:Nat)(w:U)(d:Nat)(c0 c1 c2 c3 c4 c5 c6 c7 c8 c9 F H I J:O)(n:Nat)(xs ys:Γ)(g:Nat)(l:κ)(vb:O)
  (ap:Ti w d #[c0,c1,c2,c3,c4,c5,c6,c7,c8,c9,F,H,I,J] 35) (h1:w.r B 30 1 F n xs) (h2:w.r B 30 1 H n ys) (hB:B<=d) (L:∀b,F.m=Z b->H.m≠Z b)
  (ha:To lo w (.k (Z (δ g)) l.j l.j) l) {aE:Nat} (i:To aE w vb l) (hl:l.j<=1000) (hn:n<=2000000000000):
  Calls prog 41 #[(π d),.k (Z (δ g)) l.j l.j,vb] w λe w'=>M9 B w d c0 c1 c2 c3 c4 c5 c6 c7 c8 c9 F H I J n xs ys g l e w':=by
 obtain⟨i0,hi,ag,aq,ay⟩:=info_parts SK;obtain⟨G,s,rfl⟩:=zr h1;obtain⟨u,k,rfl⟩:=zr h2;obtain⟨aw,au,rfl⟩:=i.qy;have aS:=ap.lt;have az:X (Calls prog 44 #[.k (Z (δ g)) l.j l.j,.k aw l.j au] w λe w'=>e=ε (.bool true)/\μ w w'):=Gd w _ _ l ha i η;have aR:=run_make_row' (P:=prog) 30 9 (.string ByteArray.empty) 16 underlying30 SG rfl .i64 .i64 l.j η η;have aa:X (∀W,μ w W->0<(l.w O.string).j->∃ad,aw=Z ad/\∀j v,(l.w O.string)[j]?=Z v->W.cell? (ad.add j)=Z v):=λW hW hp=>by
  obtain⟨gb,a9,hv,_,aF,aC⟩:=yq i (by simpa using hp);simp at hv;refine⟨(δ gb),hv.1,λj v hj=>?_⟩;rw[Addr.add_lit,vJ,hW.cell (p:=(ω gb j)) aF];exact aC j v hj
 have E:(l.w O.string).j=l.j:=ζ;have al:∀v∈l.w O.string,v.oneCell'=true:=λv hv=>by obtain⟨x,_,rfl⟩:=zF.1 hv;rfl
 have a6:X (∀v∈l.w O.string,v.oneCell'=true):=al;clear al;obtain⟨cs,ae⟩:∃cs,cs=l.w O.string:=⟨_,rfl⟩;have a8:X (cs=l.w O.string):=ae;rw[←ae] at aa E a6;clear ae;have am:X (0+cs.j<=(madeCells #[O.string ByteArray.empty] l.j).v.j):=by rw[X,E];simp[size_madeCells]
 have ah:X (cs.j=Nat.min l.j l.j):=by rw[X,E];simp
 go_enter func41,ntmps41;go_wp2_with (first|(go_at_call 44;refine az.l.y ?_;rintro e N ⟨rfl,t⟩;clear az)|(refine wpList_copy_splice rfl (.tmp 17) (.tmp 18) 30 30 rfl 9 underlying30 S3 _ _ _ _ _ _ rfl rfl N.o.q 0 (madeCells #[.string ByteArray.empty] l.j).v 9 (by rw[Array.toArray_toList];exact Ti.new _ _ _) cs ah.l (λhp=>⟨rfl,aa.l _ (by exact t.C t.q _) hp⟩) am.l a6.l w.o.q w (by exact t.C t.q _) t.q ?_;intro w2 a0 D;have C:=ap.u D;obtain⟨aL,aO,aG⟩:=C.e;have V:=zy h1 D;have a5:=zy h2 D;have aN:=D.q)|(at_builtin;have hq:=ai;refine kd (y.x (ω d 10) (.k c (n+1) a)) _ [.k (Z (δ N.o.q)) l.j l.j] _ rfl (.tmp 34) (.tmp 36) 31 rfl B 30 i0 _ 1 24 underlying31 hi ag aq ay rfl θ (.k u n k) n ys rfl hq (zn _ _) _ _ rfl ζ rfl a_ η η aA ?_;intro v5 w5 ao A T;obtain⟨o,f,rfl⟩:=zr ao;have q:=S.save A (jt hq S θ);obtain⟨aP,aK,aH⟩:=q.e;clear hq)|(at_builtin;refine kd w2 _ [.k (Z (δ g)) l.j l.j] _ rfl (.tmp 23) (.tmp 25) 31 rfl B 30 i0 _ 1 24 underlying31 hi ag aq ay rfl θ (.k G n s) n xs rfl V (zn _ _) _ _ rfl ζ rfl a_ η η η ?_;intro v3 y ac z Q;obtain⟨c,a,rfl⟩:=zr ac;have r:=C.save z (jt V C θ);obtain⟨aJ,aQ,aI⟩:=r.e;have a2:=yT a5 z (λb i hm=>L b (xb hm) i);have S:Ti (y.x (ω d 10) (.k c (n+1) a)) d #[c0,c1,c2,c3,c4,c5,c6,c7,c8,c9,.k c (n+1) a,.k u n k,I,J] 35:=(by have hq:=r.set 10 (.k c (n+1) a);simpa using hq);have ai:=xP a2 ((Tv.refl d y).x 10 (.k c (n+1) a)) r θ;have av:=xP ac ((Tv.refl d y).x 10 (.k c (n+1) a)) r θ;have aA:B<=(y.x (ω d 10) (.k c (n+1) a)).o.q:=(by rw[show(y.x (ω d 10) (.k c (n+1) a)).o.q=y.o.q from(by simp[U.setCell])];omega)))
 have a3:=t.q;have aM:=z.q;have a1:(y.x (ω d 10) (.k c (n+1) a)).o.q=y.o.q:=by simp[U.setCell]
 have aD:=A.q;rw[a1] at aD;have a4:∀b,(O.slice G n s).m=Z b->b<w.o.q:=λb i=>yF h1 i;have ab:∀b,(O.slice u n k).m=Z b->b<w.o.q:=λb i=>yF h2 i;have aj:∀b,(O.slice c (n+1) a).m=Z b->b<y.o.q:=λb i=>yF ac i;have R:∀b,(O.slice c (n+1) a).m=Z b->(O.slice u n k).m≠Z b:=λb i h=>by
  rcases Q with m|⟨g3,m,h4⟩;exact L b (m ▸ i) h;rw[m] at i;have:=ab b h;simp at i;omega
 have af:=yT av A (λb i hm=>R b i (xb hm));have ax:N.o.q≠d:=η;have an:N.o.q<w2.o.q:=(ks.1 a0.l).1;have a7:(w5.x (ω d 11) (.k o (n+1) f)).o[N.o.q]?=w2.o[N.o.q]?:=by
  rw[(zd.set w5 d 11 _).block _ η (by simpa using ax),A.block _ (by rw[a1];omega) (λhm=>by have:=ab _ (xb hm);omega),(zd.set y d 10 _).block _ η (by simpa using ax),z.block _ an (λhm=>by have:=a4 _ (xb hm);omega)]
 have ak:To w.o.q (w5.x (ω d 11) (.k o (n+1) f)) (.k (Z (δ N.o.q)) l.j l.j) l:=by
  refine QY ?_ a3 hl;rw[a7,a0.l,DK _ _ (by rw[E];simp[size_madeCells]),a8.l]
 have aB:zd (d::((O.slice G n s).m.v++(O.slice u n k).m.v)) w (w5.x (ω d 11) (.k o (n+1) f)):=by
  have e1:=(zd.of (M:=d::((O.slice G n s).m.v++(O.slice u n k).m.v)) D).newer z (λx K=>zh (by simp[K]));have e2:=e1.newer (zd.set y d 10 (.k c (n+1) a)) (λx K=>zh (by simp at K;simp[K]));have e3:=e2.newer A (λx K=>zh (by simp[K]));exact e3.newer (zd.set w5 d 11 (.k o (n+1) f)) (λx K=>zh (by simp at K;simp[K]))
 have ar:Ti (w5.x (ω d 11) (.k o (n+1) f)) d #[c0,c1,c2,c3,c4,c5,c6,c7,c8,c9,.k c (n+1) a,.k o (n+1) f,I,J] 35:=by have hq:=q.set 11 (.k o (n+1) f);simpa using hq
 go_ret;refine⟨rfl,_,_,N.o.q,ar,xP af ((Tv.refl d w5).x 11 _) q θ,xP ao ((Tv.refl d w5).x 11 _) q θ,a3,ak,?_,?_,?_,aB⟩;rcases Q with m|⟨g3,m,h4⟩;exact zh m;exact ze ⟨g3,m,η⟩;rcases T with m|⟨g3,m,h4⟩;exact zh m;exact ze ⟨g3,m,η⟩;intro b i h;rcases T with m|⟨g3,m,h4⟩;exact R b i (m ▸ h);have:=aj b i;rw[m] at h;simp at h;omega
end
section
variable {lo:Nat}{s w:U}
def Ui(lo:Nat)(s w:U):Prop:=∀b,lo<=b->b<s.o.q->w.o[b]?=s.o[b]?
def sT{e:TypeId}{a:Nat}{v:O}{n:Nat}{xs:Γ}(h:s.r lo e a v n xs)(hs:Ui lo s w):w.r lo e a v n xs:=by
 obtain⟨j,c⟩:=h;refine⟨j,?_⟩;rcases c with c|⟨g,b,d,l,i,f,k⟩;exact zh c;refine ze ⟨g,b,d,l,i,?_,k⟩;rw[hs g i (ks.1 f).1];exact f
def Ti.same{b:Nat}{c:Array O}{T:TypeId}(h:Ti s b c T)(a:lo<=b)(hs:Ui lo s w):Ti w b c T:=by
 have:=h.lt;unfold Ti at *;rw[hs b a this];exact h
def To.same{v:O}{l:κ}(h:To lo s v l)(hs:Ui lo s w):To lo w v l:=sT h hs
def TN.same{s w:U}{v:O}{l:Ω}(h:TN lo s v l)(hs:Ui lo s w):TN lo w v l:=by
 obtain⟨b,a,c⟩:=h;exact⟨b,sT a hs,c.y λ_ _ q=>q.same hs⟩
def TR.same{T:TypeId}{s w:U}{v:O}{l:Ξ}(h:TR lo T s v l)(hs:Ui lo s w):TR lo T w v l:=by
 obtain⟨b,a,c⟩:=h;exact⟨b,sT a hs,c.y (λ_ _ q=>q.same hs) (λ_ _ q=>q.same hs)⟩
def qX.same{s w:U}{pb:Nat}{cs:Ξ}{t:Ψ}(h:qX lo s pb cs t)(hs:Ui lo s w):qX lo w pb cs t:=by
 obtain⟨a,v,c,b,e,d⟩:=h;exact⟨a,v,c,b.same a hs,e.same hs,sT d hs⟩
def jD.same{s w:U}{pb:Nat}{cs:Ξ}{t:Ψ}(h:jD lo s pb cs t)(hs:Ui lo s w):jD lo w pb cs t:=by
 obtain⟨a,i,c,d,b,f,e,g⟩:=h;exact⟨a,i,c,d,b.same a hs,f.same hs,e.same hs,sT g hs⟩
def qX.low{a b:Nat}{w:U}{pb:Nat}{cs:Ξ}{t:Ψ}(h:qX b w pb cs t)(c:a<=b):qX a w pb cs t:=by
 obtain⟨i,v,e,d,g,f⟩:=h;exact⟨η,v,e,d,g.low c,yo f c⟩
def jD.low{a b:Nat}{w:U}{pb:Nat}{cs:Ξ}{t:Ψ}(h:jD b w pb cs t)(c:a<=b):jD a w pb cs t:=by
 obtain⟨l,k,e,f,d,i,g,j⟩:=h;exact⟨η,k,e,f,d,i.low c,g.low c,yo j c⟩
structure iq (cs:List zc) (t:List zg):Prop where
 len:cs.j<=1000
 names:t.j<=1000
 fine:∀c∈cs,rz c/\qb c/\c.d.j<=6/\xj (zm c)<=1000
 rise:y6 (Tj t)
abbrev nw:=Nat×Nat×List zc×List zg
def ez(B:Nat)(w:U)(a:List Nat)(p:nw):Prop:=∃(lo:Nat) (s:U),B<=lo/\qX lo s p.1 p.2.2.1 p.2.2.2/\jD lo s p.2.1 p.2.2.1 p.2.2.2/\iq p.2.2.1 p.2.2.2/\Ui lo s w/\s.o.q<=w.o.q/\∀b∈a,b<lo∨s.o.q<=b
def ez.save{B:Nat}{w':U}{e a N:Φ}{p:nw}(h:ez B w e p)(hs:zd N w w')(i:∀b∈N,b∈e)(c:∀b∈a,b∈e∨w.o.q<=b):ez B w' a p:=by
 obtain⟨lo,s,k,j,m,l,n,q,g⟩:=h;refine⟨lo,s,k,j,m,l,λb d f=>?_,zY q hs.q,λb o=>?_⟩;rw[hs.block b η (λc=>by have:=g b (i b c);omega)];exact n b d f;rcases c b o with h|h;exact g b h;right;omega
def nc(ps:List nw):List Value:=ps.flatMap λp=>[.pointer (Z ⟨p.1,0,Y⟩),.pointer (Z ⟨p.2.1,0,Y⟩)]
abbrev nC:=Nat×Nat×κ
def iu(a:List nC):List Value:=a.w λx=>sl x.1 x.2.2.j
def iE(a:List nC):List Value:=a.w λx=>sl x.2.1 x.2.2.j
def mh(a:List (Nat×Nat)):List Value:=a.w λx=>sl x.1 x.2
def BC:ByteArray:=⟨#[109,105,110,101]⟩
def tL(i h:Nat):O×O×Value:=(.bool false,.string BC,sl h (i+1))
structure TM where
 ps:List nw
 nr:Nat
 ls:List nC
 N:List (Nat×Nat)
def E6(f:Nat)(c b d e a:O)(M:TM):List Nat:=
 f::(c.m.v++b.m.v++d.m.v++e.m.v++a.m.v++M.ls.w (·.1)++M.ls.w (·.2.1)++M.N.w (·.1))
def Vo(R:List Nat)(a:O)(M:TM):List Nat:=R++(a.m.v++(M.ls.w (·.1)++M.ls.w (·.2.1)))
structure Vu (B:Nat) (w:U) (wb:Nat) (M:TM) (R:List Nat) (psv rowv lsv lwv litv:O) (ys:List O):Prop where
 low:B<=wb
 box:Ti w wb #[psv,ν,ν,ν,ι 0,ι 0,ι 0,ν,.bool true,rowv,lsv,lwv,ν,litv] 35
 ps:w.r B 40 2 psv M.ps.j (nc M.ps)
 row:w.r B 9 1 rowv M.nr ys
 ls:w.r B 30 1 lsv M.ls.j (iu M.ls)
 lw:w.r B 30 1 lwv M.ls.j (iE M.ls)
 N:w.r B 91 1 litv M.N.j (mh M.N)
 res:∀b∈R,b<w.o.q
 sep:∀b,lsv.m=Z b->lwv.m≠Z b
 apart:(Vo R rowv M).Nodup
 lists:∀x∈M.ls,To B w (sl x.1 x.2.2.j) x.2.2/\To B w (sl x.2.1 x.2.2.j) x.2.2/\x.2.2.j<=1000
 own:∀i (h:i<M.N.j),∃hs:List Nat,hs.j=M.N[i].2/\M.N[i].2<=1000/\w.r B 90 3 (sl M.N[i].1 M.N[i].2) M.N[i].2 (T4 (hs.w (tL i)))
 pairs:∀p∈M.ps,ez B w (R++E6 wb psv rowv lsv lwv litv M) p
def Vu.u{B:Nat}{w w':U}{l:Nat}{M:TM}{R:Φ}{e d f g c:O}{m:Γ}(h:Vu B w l M R e d f g c m)(a:μ w w'):Vu B w' l M R e d f g c m:=
 ⟨h.low,h.box.u a,zy h.ps a,zy h.row a,zy h.ls a,zy h.lw a,zy h.N a,λb k=>ym (h.res b k) a.q,h.sep,h.apart,λx j=>⟨(h.lists x j).1.u a,(h.lists x j).2.1.u a,(h.lists x j).2.2⟩,λi q=>by
  obtain⟨n,o,t,r⟩:=h.own i q;exact⟨n,o,t,zy r a⟩,λp u=>(h.pairs p u).save (zd.of (M:=[]) a) ζ (λb a=>zh a)⟩
end
section
variable {lo:Nat}
structure V5 (M M':TM):Prop where
 ps:M'.ps.j<=M.ps.j+1
 nr:M'.nr<=M.nr+1
 ls:M'.ls.j<=M.ls.j+7
 N:M'.N.j<=M.N.j+1
def V5.refl(M:TM):V5 M M:=⟨η,η,η,η⟩
def Vu.q{B:Nat}{w:U}{f:Nat}{M:TM}{R:Φ}{c b d e a:O}{g:Γ}(h:Vu B w f M R c b d e a g):B<=w.o.q:=by have:=h.low;have:=h.box.lt;omega
def VF(lo:Nat)(w:U)(v:O)(l:List Nat):Prop:=w.r lo 3 1 v l.j (l.w TO)
def VF.cell{w:U}{c:Option Addr}{n cap:Nat}{b:Φ}(h:VF lo w (.k c n cap) b)(k:Nat)(f:k<b.j):∃g,c=Z (δ g)/\g<w.o.q/\w.cell? (ω g k)=Z (ι (b[k]:Int)):=by
 obtain⟨g,e,d,_,i,a⟩:=yq h η;simp at d;exact⟨g,d.1,i,a k _ (by simp[f,TO])⟩
def VD(lo:Nat)(T:TypeId)(w:U)(v:O)(xs:List O):Prop:=w.r lo T 1 v xs.j xs
def VD.cell{T:TypeId}{w:U}{b:Option Addr}{n cap:Nat}{xs:Γ}(h:VD lo T w (.k b n cap) xs)(k:Nat)(e:k<xs.j):∃g,b=Z (δ g)/\g<w.o.q/\w.cell? (ω g k)=Z xs[k]:=by
 obtain⟨g,d,c,_,f,a⟩:=yq h η;simp at c;exact⟨g,c.1,f,a k _ (by simp[e])⟩
end
section
variable {v:O}{b:Nat}
abbrev Vv:=Nat×Nat
abbrev TI:=Nat->Vv
def ua(own:TI)(b:Nat):Prop:=own b≠(0,0)
def pD(own:TI)(v:O)(t:Vv):TI:=λb=>if v.m=Z b then t else own b
def A5{own:TI}{t:Vv}(h:v.m=Z b):pD own v t b=t:=zb h
def BN{own:TI}{t:Vv}(h:v.m≠Z b):pD own v t b=own b:=za h
def xV(own:TI)(w w':U):Prop:=∃N,zd N w w'/\∀b∈N,ua own b
def tQ{N e:Φ}{a b c:U}(h:zd N a b)(k:zd e b c):zd (N++e.filter (·<a.o.q)) a c:=(h.more λx d=>ya.2 (zh d)).newer k λx d=>by
 by_cases f:x<a.o.q
 .exact zh (ya.2 (ze (xy.2 ⟨d,by simpa using f⟩)))
 .exact ze η
section
variable {own own':TI} {w w' w2:U}
def xV.of(h:μ w w'):xV own w w':=⟨[],zd.of h,ζ⟩
def xV.A(h:xV own w w')(k:xV own' w' w2)(f:∀b,b<w.o.q->own' b=own b):xV own w w2:=by
 obtain⟨N,d,l⟩:=h;obtain⟨m,e,i⟩:=k;refine⟨_,tQ d e,λb a=>?_⟩;rcases ya.1 a with a|a;exact l b a;obtain⟨g,j⟩:=xy.1 a;have c:=i b g;unfold ua at c ⊢;rw[f b (by simpa using j)] at c;exact c
def xV.box(h:xV own w w'){c:Array O}{T:TypeId}(g:Ti w b c T)(e:own b=(0,0)):Ti w' b c T:=by
 obtain⟨N,a,f⟩:=h;exact g.save a λd=>f b d e
end
abbrev UR:=Option (TypeId×Nat×Nat×List O)
structure U4 (B:Nat) (own:TI) (w:U) (wb:Nat) (F:Nat->UR) (V:Nat->O):Prop where
 low:∀b,ua own b->B<=b
 box:Ti w wb ((List.range 14).w V).F 35
 tag:own wb=(1,0)
 new:∀b,w.o.q<=b->own b=(0,0)
 row:∀f T s n xs,F f=Z (T,s,n,xs)->w.r B T s (V f) n xs
 tg:∀f b,(V f).m=Z b->own b=(f+2,0)/\b<w.o.q
def fd(V:Nat->O)(f:Nat)(v:O):Nat->Value:=λg=>if g=f then v else V g
section
variable {B:Nat} {own:TI} {w w' w2:U} {wb:Nat} {F F':Nat->UR} {V:Nat->O}
def U4.wlow(h:U4 B own w wb F V):B<=wb:=h.low wb (by unfold ua;rw[h.tag];decide)
def U4.q(h:U4 B own w wb F V):B<=w.o.q:=zY h.wlow (Nat.le_of_lt h.box.lt)
def U4.under(h:U4 B own w wb F V)(a:ua own b):b<w.o.q:=by
 apply Classical.byContradiction;intro q;exact a (h.new b η)
def U4.u(h:U4 B own w wb F V)(a:μ w w'):U4 B own w' wb F V:=
 ⟨h.low,h.box.u a,h.tag,λb q=>h.new b (zY a.q q),λf T s n c q=>zy (h.row f T s n c q) a,λf b q=>⟨(h.tg f b q).1,ym (h.tg f b q).2 a.q⟩⟩
def U4.gen{own':TI}{e:Nat->O}{N:Φ}(C:Φ)(h:U4 B own w wb F V)(p:zd N w w')(r:∀b∈N,b=wb∨(∃f∈C,(V f).m=Z b)∨(own b).2≠0)(l:Ti w' wb ((List.range 14).w e).F 35)(j:∀b,b<w.o.q->own' b=own b)(x:∀b,w'.o.q<=b->own' b=(0,0))(k:∀f,f∉C->e f=V f/\F' f=F f)(o:∀f∈C,(∀T s n d,F' f=Z (T,s,n,d)->w'.r B T s (e f) n d)/\∀b,(e f).m=Z b->own' b=(f+2,0)/\b<w'.o.q):U4 B own' w' wb F' e:=by
 refine⟨λb q=>?_,l,(j wb h.box.lt).A h.tag,x,λf T s n d q=>?_,λf b q=>?_⟩;by_cases y:b<w.o.q;exact h.low b (by unfold ua at q ⊢;rw[←j b y];exact q);have:=h.q;omega;by_cases a:f∈C;exact(o f a).1 T s n d q;rw[(k f a).2] at q;rw[(k f a).1];refine yT (h.row f T s n d q) p λb l t=>?_;have c:=(h.tg f b l).1;rcases r b t with rfl|⟨g,z,i⟩|i;rw[h.tag] at c;cases c;rw[(h.tg g b i).1] at c;simp at c;exact a (c ▸ z);rw[c] at i;exact i rfl;by_cases a:f∈C;exact(o f a).2 b q;rw[(k f a).1] at q;obtain⟨u,m⟩:=h.tg f b q;exact⟨(j b m).A u,ym m p.q⟩
def NM{f:Nat}{T:TypeId}(h:Ti w b ((List.range 14).w V).F T):Ti (w.x (ω b f) v) b ((List.range 14).w (fd V f v)).F T:=by
 have q:=h.set f v;have e:((List.range 14).w V).F.setIfInBounds f v=((List.range 14).w (fd V f v)).F:=by
  rw[List.setIfInBounds_toArray];congr 1;refine jv ζ λi a c=>?_;rw[lT];simp only[ue,l8,fd];split;rename_i e;rw[zb e.symm];rename_i e;rw[za (Ne.symm e)]
 rw[e] at q;exact q
def U4.off(h:U4 B own w wb F V){f:Nat}(q:(V f).m=Z b):b≠wb:=λe=>by
 have:=(h.tg f b q).1;rw[e,h.tag] at this;cases this
def U4.put(h:U4 B own w wb F V){f:Nat}(y:∀g,g≠f->F' g=F g)(i:∀T s n l,F' f=Z (T,s,n,l)->w2.r B T s v n l)(o:zd (V f).m.v w w2)(d:∀b,v.m=Z b->(V f).m=Z b∨(w.o.q<=b/\b<w2.o.q)):
  U4 B (pD own v (f+2,0)) (w2.x (ω wb f) v) wb F' (fd V f v)/\zd (wb::(V f).m.v) w (w2.x (ω wb f) v)/\∀b,b<w.o.q->pD own v (f+2,0) b=own b:=by
 have j:zd (wb::(V f).m.v) w (w2.x (ω wb f) v):=(o.more (λx k=>by simp[k])).A ((zd.set w2 wb f v).more (λx k=>by simp at k;simp[k]));have u:(w2.x (ω wb f) v).o.q=w2.o.q:=by simp[U.setCell]
 have z:=o.q;have C:=h.q;have A:=h.box.lt;have a:∀b,v.m=Z b->b≠wb/\b<w2.o.q:=λb q=>by
  rcases d b q with c|c;have:=(h.tg f b c).2;exact⟨h.off c,η⟩;exact⟨η,η⟩
 have t:∀b,b<w.o.q->pD own v (f+2,0) b=own b:=λb q=>by
  by_cases e:v.m=Z b;rw[A5 e];rcases d b e with c|c;exact(h.tg f b c).1.symm;omega;exact BN e
 refine⟨h.gen [f] j (λb p=>?_) (NM (h.box.save o λm=>h.off (xb m) rfl)) t (λb q=>?_) (λg r=>?_) (λg r=>?_),j,t⟩;rcases zG.1 p with e|e;exact zh e;exact ze (zh ⟨f,ζ,xb e⟩);rw[u] at q;rw[BN λe=>by have:=(a b e).2;omega];exact h.new b η;have:g≠f:=by simpa using r
 exact⟨za this,y g this⟩;obtain rfl:g=f:=by simpa using r
 rw[show fd V g v g=v from zb rfl];exact⟨λT s n l q=>yT (i T s n l q) (zd.set w2 wb g v) λb p m=>(a b p).1 (by simpa using m),λb q=>⟨A5 q,by rw[u];exact(a b q).2⟩⟩
end
end
section
variable {lo:Nat}
section
variable {P:Program} {ops:Array Oper} {o:Oper} {a:Act} {K:Act->U->Prop} {Q:Exit->Act->U->Prop}
end
def CM(s:ByteArray):∀(n i:Nat) (l:Δ),Ty n s i=Z l->∀x∈l,x.2.q<=6:=by
 intro n;induction n with
 |zero=>intro i l h;simp[Ty] at h;subst h;simp
 |succ n g=>
  intro i l h;by_cases a:i<s.q;cases c:qS (Tt s i);generalize e:xw (Tt s i) (Tt s (i+1))=k;by_cases b:k=0;subst b;rw[wH a c e] at h;exact zC h ζ;by_cases f:6<yx s i k-i;rw[eZ a c e f] at h;exact zC h ζ;rw[iV a c e b f] at h;obtain⟨r,j,rfl⟩:=qq.1 h;intro x d;rcases zG.1 d with rfl|d;rw[ByteArray.size_extract];omega;exact g _ _ j x d;rw[wT a c] at h;exact g _ _ h;rw[sE a] at h;simp at h;subst h;simp
def wM{a:zj}{l:Δ}(h:qU a l):∃y∈l,y.2=a.o:=by
 cases h with
 |bare=>exact⟨_,sM,rfl⟩
 |k=>exact⟨_,sM,rfl⟩
def Hg{a:zj}{l:Δ}(h:gW a l):∃y∈l,y.2=a.o:=by
 cases h with
 |qc h=>exact wM h
 |i _ h=>obtain⟨y,b,e⟩:=wM h;exact⟨y,by simp[b],e⟩
def QU:∀{b:Ω} {l:Δ},dR b l->∀a∈b,∃y∈l,y.2=a.o:=by
 intro b l h;induction h with
 |one h=>intro a c;simp at c;subst c;exact Hg h
 |more h _ _ f=>
  intro a c;rcases zG.1 c with rfl|c;obtain⟨y,d,e⟩:=Hg h;exact⟨y,by simp[d],e⟩;obtain⟨y,d,e⟩:=f a c;exact⟨y,by simp[d],e⟩
def OM:∀{cs:Ξ} {l:Δ},lm cs l->∀c∈cs,∀a∈zm c,∃y∈l,y.2=a.o:=by
 intro cs l h;induction h with
 |nil=>intro c f;cases f
 |cons h _ _ i=>
  intro c f a d;rcases zG.1 f with rfl|f;cases h with
  |fact h=>simp[zm] at d;subst d;obtain⟨y,b,e⟩:=wM h;exact⟨y,by simp[b],e⟩
  |p h _ g=>
   simp only[zm] at d;rcases zG.1 d with rfl|d;obtain⟨y,b,e⟩:=wM h;exact⟨y,by simp[b],e⟩;obtain⟨y,b,e⟩:=QU g a d;exact⟨y,by simp[b],e⟩
  obtain⟨y,b,e⟩:=i c f a d;exact⟨y,by simp[b],e⟩
def GY:∀{b:Ω} {l:zj},l∈b->l.k.j<=xj b
 |[],_,h=>by cases h
 |a::r,l,h=>by
  rcases zG.1 h with rfl|h
  .simp[xj]
  .have:=GY h;simp[xj] at this ⊢;omega
def J7{s:ByteArray}{cs:Ξ}{t:Ψ}(h:uC s=.ok (cs,t)):iq cs t:=by
 unfold uC at h;split at h;cases h;rename_i N;split at h;cases h;rename_i q d;split at h;cases h;rename_i a F;split at h;cases h;rename_i G;split at h;cases h;rename_i n D;split at h;split at h;simp only[Except.ok.injEq,ye] at h;obtain⟨rfl,rfl⟩:=h;have f:ut q:=λx I=>(sm d x I).1;have z:x9 s.q s=Z (zX q):=by rw[sK,d];rfl
 have A:vB (zX q)=Z a:=by
  have:=o8 s;rw[z,d] at this;simp only[Option.bind_some] at this;rw[this];exact F
 have b:=AI η z A;have u:=(AB f a).1 A;have w:=(i9 D).2;have C:=iy (n.j+1) n a (iU w);have B:n.j<=1000:=by have:=wJ _ _ _ D;have:=b.N;simp only[jr] at *;omega
 refine⟨b.len,?_,λc i=>?_,?_⟩;have:=congrArg List.length C;simp[Tj] at this;omega;obtain⟨H,Q,L,K⟩:=b.ok c i;have m:c.d.j<=6:=by
  false_or_by_contra
  rename_i P;apply G;rw[fg];refine⟨c,i,?_⟩;have E:6<c.d.j:=η;unfold yQ;simp[E]
 refine⟨⟨λl j=>?_,η⟩,H,m,L⟩;obtain⟨y,r,e⟩:=OM u c i l j;have p:=CM s _ _ _ d y r;have k:=(sm d y r).2;refine⟨by rw[←e];exact p,by rw[←e];exact k,?_,λv g=>?_⟩;have:=GY j;omega;obtain⟨J,o,M⟩:=Ih u c i l j v g;exact⟨K l j v g,by rw[←M];exact CM s _ _ _ d J o⟩;rw[C];exact w.rise;cases h;cases h
def Hu:∀(ps:List nw) (k:Nat) (a:k<ps.j),(nc ps)[k*2]?=Z (.pointer (Z (δ ps[k].1)))/\(nc ps)[k*2+1]?=Z (.pointer (Z (δ ps[k].2.1)))
 |[],k,a=>by simp at a
 |p::r,0,_=>by simp[nc]
 |p::r,k+1,a=>by
  have:=Hu r k (by simpa using a);simp only[nc,uX] at this ⊢;rw[show(k+1)*2=k*2+1+1 from by omega,show k*2+1+1+1=k*2+1+1+1 from rfl];simpa using this
structure UY (lo:Nat) (s w:U) (ms:List Nat):Prop where
 same:Ui lo s w
 q:s.o.q<=w.o.q
 l:∀b∈ms,b<lo∨s.o.q<=b
def UY.save{s w w':U}{f a N:Φ}(h:UY lo s w f)(hs:zd N w w')(i:∀b∈N,b∈f)(c:∀b∈a,b∈f∨w.o.q<=b):UY lo s w' a:=by
 have k:=h.q;refine⟨λb d e=>?_,zY h.q hs.q,λb j=>?_⟩;rw[hs.block b η (λc=>by have:=h.l b (i b c);omega)];exact h.same b d e;rcases c b j with g|g;exact h.l b g;right;omega
def S0(B:Nat)(w:U)(l:Nat)(M:TM)(lo:Nat)(s:U)(c b a:O)(o:List O)(ls:List zj)(f:List Nat)(h n:Nat)(m:Array O)(k g:Nat)(wr:U):Prop:=
 ∃(i:List Nat) (L:List nC) (d e:O),i.j=k/\L.j=M.ls.j+g/\Vu B wr l {M with ls:=L} (f.drop g++[h]) c b d e a o ∧
  wr.r B 90 3 (sl h ls.j) ls.j (T4 (i.w (tL M.N.j)++List.zipWith Gm (ls.drop k) (f.drop k))) ∧
  (∀j (p:j<ls.j) (q:j<f.j),g<=j->To B wr (sl f[j] ls[j].k.j) ls[j].k) ∧
  UY lo s wr (f.drop g++[h]++E6 l c b d e a {M with ls:=L})/\Ti wr n m 93/\Below B w wr
end
end Go.Proofs.YteampbddflhngaaGreat
