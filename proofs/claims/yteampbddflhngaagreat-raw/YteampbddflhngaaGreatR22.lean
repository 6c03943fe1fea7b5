import Derived.Test.YteampbddflhngaaGreatR18
import Derived.Test.YteampbddflhngaaGreatR20
namespace Go.Proofs.YteampbddflhngaaGreat
open List renaming length→List.j
open _root_.Array renaming size→Array.q
open _root_.ByteArray renaming size→ByteArray.q
open Go.RowKit.Below renaming size→Go.RowKit.Below.q,mono→Go.RowKit.Below.y,trans→Go.RowKit.Below.A,alloc→Go.RowKit.Below.C
open Go.TypeInfo renaming size→Go.TypeInfo.q
open Go.RowKit.Hid renaming out→Go.RowKit.Hid.l
open Go.World renaming heap→Go.World.o,alloc→Go.World.C
open Go.Calls renaming mono→Go.Calls.y
open Eq renaming trans→Eq.A
open Iff renaming trans→Iff.A
open Go.Obj renaming cells→Go.Obj.E
open Go.Value renaming cells→Go.Value.E
open Option renaming some→Z
open Go.RowKit renaming Hid→X
open Go renaming World→U,Value→O
set_option linter.all false
set_option maxRecDepth 100000
set_option maxHeartbeats 4000000
open Go.RowKit
section
open Go.Proofs.Tryz
variable {os:Option (List (Option (List Int)))}
structure lU (w:U) (orv:O) (nb:Bool) (os:Option (List (Option (List Int)))):Prop where
 len:(os.getD []).j<=2000000
 each:∀o∈os.getD [],(o.getD []).j<=2000000
 hand:∀W,μ w W->Calls Tryz.prog 34 #[orv,.bool nb] W λe w'=>∃hv,e=.returned hv/\X (jZ w' hv os/\∀W2,μ w' W2->Calls Tryz.prog 36 #[hv,orv,.bool nb] W2 λe w3=>e=ε (.bool true)/\X (μ W2 w3))/\X (μ W w')
 ord:∀W,μ w W->∀mb cs t lo,jD lo W mb cs t->(∀c∈cs,c.d.j<=999/\xj (zm c)<=1000/\(zx c).j<=5/\∀l∈zm c,∀t∈l.k,0<t.q)->cs.j<=1000->Calls Tryz.prog 75 #[(π mb),orv,.bool nb] W λe w'=>e=ε (.bool (vw cs os))/\μ W w'
def lU.no(w:U)(a:O):lU w a true none:=
 ⟨zs _,(λo g=>by cases g),λW _=>(Ka W _).y λe d ⟨b,c⟩=>by
  subst c;exact⟨_,b,⟨rfl,λi _=>(JF i _ _).y λe k ⟨h,f⟩=>by subst f;exact⟨h,zn _ _⟩⟩,zn _ _⟩,λW _ j l t m _ _ _=>(KD W _ _).y λe d ⟨b,c⟩=>by subst c;exact⟨b,zn _ _⟩⟩
section
variable {B:Nat} {own:TI} {w:U} {wb:Nat} {M:yZ} {V:Nat->O}
def pB(B:Nat)(own:TI)(w:U)(wb:Nat)(M:yZ)(V:Nat->O)(e:Ending)(w':U):Prop:=e=ε (.bool true)/\X (∃a c d,c.j<=M.rs.j+1/\yA B a w' wb {M with rs:=c} (fd V 1 d)/\∀b,b<w.o.q->a b=own b)/\X (xV own w w')
def On(V:Nat->O)(f:Nat):fd V f (V f)=V:=funext λg=>by
 unfold fd;split
 .rename_i e;rw[e]
 .rfl
def pB.kept{w':U}(h:yA B own w wb M V)(a:μ w w'):pB B own w wb M V (ε (.bool true)) w':=⟨rfl,⟨own,M.rs,V 1,η,by rw[On];exact h.u a,λ_ _=>rfl⟩,xV.of a⟩
def AZ(h:yA B own w wb M V){f:O}{t:Bool}(y:lU w f t os)(x m:Nat)(c p n:Int)(F:n=8∨n=9∨n=10)(H:X (∀W o,μ w W->jZ W o os->Calls prog 35 #[(π x),o,ι c,ι p] W λe i=>e=ε (.tuple #[.pointer none,ι n])/\X (μ W i)))(s:X (∀W,μ w W->Calls prog 37 #[(π m),f,.bool t,ι c,ι p] W λe i=>e=ε (.tuple #[.pointer none,ι n])/\X (μ W i))):
  Calls prog 17 #[(π wb),.agg #[(π x),(π m)],f,.bool t,ι c,ι p] w λe i=>pB B own w wb M V e i:=by
 have D:=Th y.hand;have A:=Th λW=>pB.kept h (w':=W);clear h y;rcases F with rfl|rfl|rfl
 all_goals
  go_enter func17,ntmps17;go_upto_region 1 with fail
  have l:X (μ w (w.C (.E #[(π x),(π m)] 40))):=(zn _ _).C (zf _) _;have d:=Th (Ti.new w #[(π x),(π m)] 40);generalize w.C (.E #[(π x),(π m)] 40)=P at *;go_wp2_with (first|(go_at_call 34;refine(D.l _ l.l).y ?_;rintro e K ⟨o,rfl,z,b⟩;have j:=Th (Tl l.l b.l);obtain⟨J,_,C⟩:=(d.l.u b.l).e)|(go_at_call 35;refine(H.l _ _ j.l z.l.1).y ?_;rintro e L ⟨rfl,a⟩;have r:=Th (Tl j.l a.l);obtain⟨E,_⟩:=((d.l.u b.l).u a.l).H;have v:=((d.l.u b.l).u a.l).lt)|(go_at_call 36;refine(z.l.2 _ a.l).y ?_;rintro e I ⟨rfl,g⟩;have k:=Th (Tl r.l g.l);obtain⟨G,_⟩:=(((d.l.u b.l).u a.l).u g.l).H;have u:=(((d.l.u b.l).u a.l).u g.l).lt)|(go_at_call 37;refine(s.l _ k.l).y ?_;rintro e N ⟨rfl,q⟩))
  go_ret;exact A.l _ (Tl k.l q.l)
def MV(h:yA B own w wb M V){E:O}{nb:Bool}(ho:lU w E nb os)(x m:Nat)(cs:Ξ)(t:Ψ)(j qm:Int)(hn:M.rs.j<=1048576)(P Q:U->U->Nat->Prop)(ad:X (∀W1 W2 W3 W4 p o,μ w W1->P W1 W2 p->μ W2 W3->Q W3 W4 o->μ w W4->μ W2 W4->V0 own W4 (p,o,m,cs,t)))(HR:X (∀W hv,μ w W->jZ W hv os->Calls prog 35 #[(π x),hv,ι j,ι qm] W λe A=>∃p,e=ε (.tuple #[(π p),ι 0])/\X (P W A p)/\X (μ W A)))(aa:X (∀W,μ w W->Calls prog 37 #[(π m),E,.bool nb,ι j,ι qm] W λe A=>∃o,e=ε (.tuple #[(π o),ι 0])/\X (Q W A o)/\X (μ W A))):
  Calls prog 17 #[(π wb),.agg #[(π x),(π m)],E,.bool nb,ι j,ι qm] w λe A=>pB B own w wb M V e A:=by
 obtain⟨i0,hi,ae,al,an⟩:=info_parts SS;have HH:=Th ho.hand;have HW:=Th h;have af:=h.hd.q;clear h ho;go_enter func17,ntmps17;go_upto_region 1 with fail
 have ab:X (μ w (w.C (.E #[(π x),(π m)] 40))):=(zn _ _).C (zf _) _;have g:=Th (Ti.new w #[(π x),(π m)] 40);generalize w.C (.E #[(π x),(π m)] 40)=wX at *;go_upto_region 9 with (first|(go_at_call 34;refine(HH.l _ ab.l).y ?_;rintro e w1 ⟨hv,rfl,HV,a⟩;have G:=Th (Tl ab.l a.l);obtain⟨xc,_,S⟩:=(g.l.u a.l).e)|(go_at_call 35;refine(HR.l _ _ G.l HV.l.1).y ?_;rintro e w2 ⟨p,rfl,K,c⟩;have ag:=Th (Tl G.l c.l);obtain⟨ak,_⟩:=((g.l.u a.l).u c.l).H;have N:=((g.l.u a.l).u c.l).lt)|(go_at_call 36;refine(HV.l.2 _ c.l).y ?_;rintro e w3 ⟨rfl,i⟩;have L:=Th (Tl ag.l i.l);obtain⟨ai,_⟩:=(((g.l.u a.l).u c.l).u i.l).H;have I:=(((g.l.u a.l).u c.l).u i.l).lt)|(go_at_call 37;refine(aa.l _ L.l).y ?_;rintro e w4 ⟨o,rfl,ac,C⟩))
 have k:=Th (Tl L.l C.l);have ah:=Th (ad.l _ _ _ _ p o G.l K.l i.l ac.l k.l (Tl i.l C.l));have l:=Th (HW.l.u k.l);have aj:=(((g.l.u a.l).u c.l).u i.l).u C.l;clear K ac HR aa xc ak ai S N I HH HV ad;obtain⟨xc,_,S⟩:=aj.e;have H:=l.l.box;obtain⟨wc,wf,au⟩:=H.e;have d:w4.ownsRow B 50 3 (V 1) M.rs.j (mj M.rs):=l.l.hd.row 1 _ _ _ _ rfl;have ax:=zY af k.l.q;obtain⟨J,v,F⟩:=zr d;have ay:w4.cell? (ω wb 1)=Z (.slice J M.rs.j v):=by rw[wc,←F];rfl
 rw[F] at d;clear wc;go_region_law (first|(refine m4 w4 _ [(π p),(π o),(π m)] 50 rfl (.tmp 65) (.tmp 71) 29 rfl B 50 i0 _ 3 24 underlying29 hi ae al an rfl θ (.slice J M.rs.j v) M.rs.j (mj M.rs) (by simp[Act.eval]) d φ w4.o.q 1 (by simp[Act.eval]) (by exact Ti.drew (Ti.new _ _ _)) rfl a_ η η η ?_;intro v' w5 R D z a1 az;obtain⟨a0,ar,rfl⟩:=zr R;have ap:=H.save D (jt d H θ);obtain⟨aw,av,aq⟩:=ap.e))
 all_goals
  rw[←F] at D z;have hq:=l.l.put (f:=1) (M':={M with rs:=M.rs++[(p,o,m,cs,t)]}) θ (λf hf=>by unfold yZ.f;split<;>first|rfl|omega) (T:=50) (s:=3) (n:=M.rs.j+1) (by simp[yZ.f,mj]) R D (z.imp_right ze) l.l.nums λy A u ao am=>⟨u.ints,u.win,u.z,u.lists,u.J,u.N,u.pairs,λr hr=>by
   rcases ya.1 hr with q|q;exact u.ress r q;rw[xL.1 q];exact ah.l.keep ao (λb hb=>(l.l.tags 1 θ b hb).2) (λb q1 q2=>(am b q1).A q2)⟩
  have HQ:=Th hq;clear hq;go_wp2;go_ret;obtain⟨⟨y,r1,r2⟩,r3,_⟩:=HQ.l;exact⟨rfl,⟨y,_,_,ζ,r1,λb q=>r2 b (ym q k.l.q)⟩,(xV.of k.l).A r3 λ_ _=>rfl⟩
end
end
section
section
variable {B:Nat} {own:TI} {w w' w2:U} {wb:Nat} {M:yZ} {V:Nat->O}
end
end
section
section
variable {B:Nat} {own:TI} {w:U} {wb:Nat} {M:yZ} {V:Nat->O}
def lU.rd{a:O}{b:Γ}{os:List (Option (List Int))}(s:mK w a b)(u:∀v∈b,v.oneCell'=true)(n:os.j=b.j)(d:∀k (n:k<b.j) (d:k<os.j),xQ w b[k] os[k]/\(os[k].getD []).j<=1048576)(G:b.j<=1048577):lU w a false (Z os):=by
 have f:∀o∈os,(o.getD []).j<=2000000:=λo y=>by
  obtain⟨k,r,rfl⟩:=vQ.1 y;have:=(d k η r).2;omega
 refine⟨by show os.j<=_;omega,f,λW h=>?_,λW h C E t F D q p=>?_⟩;refine(Lv W a b (s.u h) u η).y ?_;rintro e H ⟨z,rfl,j,x⟩;have g:=Tl h x.l;refine⟨_,rfl,⟨⟨_,0,_,by rw[n],j.l.1.lt,λk r=>?_⟩,λA c=>?_⟩,x⟩;refine⟨b[k]'η,?_,((d k η r).1).u g⟩;rw[j.l.1.H.1];have:k<b.j:=η;simp[List.getElem?_append_left this];have i:=Tl g c;exact Su A a b os _ z (s.u i) (j.l.1.u c) (j.l.2.u c) n (λk l m=>⟨((d k l m).1).u i,by have:=(d k l m).2;omega⟩) η;exact L6 W C a E t b os D (s.u h) n.symm (λk l m=>((d k l m).1).u h) f q p
end
end
section
open Go.Proofs.Tryz
def Nl{B:Nat}{own:TI}{w:U}{wb:Nat}{M:yZ}{V:Nat->O}(h:yA B own w wb M V){ah:O}{nb:Bool}{os:Option (List (Option (List Int)))}(T:lU w ah nb os)(p:nw)(hp:p∈M.ps)(f J:Int)(aq:Vc f)(aw:Vc J)(hn:M.rs.j<=1048576):
  Calls prog 17 #[(π wb),.agg #[.pointer (Z (δ p.1)),.pointer (Z (δ p.2.1))],ah,.bool nb,ι f,ι J] w λe Q=>pB B own w wb M V e Q:=by
 unfold Vc at aq aw;by_cases N:f<0∨1048576<f∨J<0∨1048576<J;exact AZ h T _ _ f J 8 (zh rfl) (λW hv _ _=>(KO W _ _ f J η η N).y λe Q ⟨q1,G⟩=>by subst G;exact⟨q1,zn _ _⟩) (λW _=>(MS W _ _ f J N).y λe Q ⟨q1,G⟩=>by subst G;exact⟨q1,zn _ _⟩);obtain⟨n,rfl⟩:∃n:Nat,f=(n:Int):=⟨f.toNat,η⟩;obtain⟨o,rfl⟩:∃o:Nat,J=(o:Int):=⟨J.toNat,η⟩;have r:n<=1048576:=η;have A:o<=1048576:=η;obtain⟨⟨lo,s,hB,hP,hQ,_,E,a4,am⟩,x,hx⟩:=h.inn.pairs p hp;obtain⟨t0,i⟩:=Mk hx;obtain⟨px,pm,m,t⟩:=p;dsimp only at *;have hU:Ul (ua own) w.o.q:=λb q=>h.hd.under q;have ap:∀b,ua own b->b<lo∨s.o.q<=b:=λb q=>by
  apply Classical.byContradiction;intro c;exact q (am b η η)
 obtain⟨ao,av,an,ae,au,af,a2⟩:=hQ.read (z:=ua own) E ap;have aa:=hP.same E;have ai:=hQ.same E;have al:lo<=w.o.q:=by
  obtain⟨q,_,_,G,_⟩:=aa;exact zY q (Nat.le_of_lt G.lt)
 have j:=i.parts.runok.1;have h5:∀c∈m,(zx c).j<=5:=λc hc=>fm (i.parts.many c hc);have ay:∀c∈m,c.d.j<=999/\xj (zm c)<=1000/\(zx c).j<=5/\∀l∈zm c,∀t∈l.k,0<t.q:=λc hc=>by
  have h1:=i.d c hc;have h2:=(j.sums c hc).1;exact⟨η,by simpa [xj,zm] using h2,h5 c hc,λl hl a ha=>(i.k c hc l hl).2 a ha⟩
 have HO:=λW (u:μ w W)=>T.ord W u pm m t lo (ai.u u) ay i.len;cases u:vw m os;rw[u] at HO;have hk:tn m t os:=⟨j.len,j.names,j.fine,j.sums,j.K,j.vals,j.jm,T.len,T.each,(λq=>by rw[u] at q;cases q),λq=>by rw[u] at q;cases q⟩;exact AZ h T _ _ _ _ 9 (ze (zh rfl)) (λW hv F S=>Rw W px m t hv os n o (aa.u F) S hk u r A) (λW F=>JG r A (HO W F));rw[u] at HO;have I:=λW (hv:O) (F:μ w W) (S:jZ W hv os)=>LD W px hx (aa.u F) i.parts (zY al F.q) hv os S u n o r A;have H:=λW (F:μ w W)=>RP (z:=ua own) r A (HO W F) (ynt t m n o) (λW2 aj=>PM W2 pm n o ao av an ae au af m t0 t (hU.up (Tl F aj).q) (a2.u (Tl F aj)) i.parts i.ctx i.len i.names i.low i.d i.k r A i.K);have d:=Ph i.parts i.ctx n o;rcases hA:z0n (vf t (zp m) none m) n o with _|y;rw[hA] at d I;have ad:ynt t m n o=none:=by
  rcases hq:ynt t m n o with _|y;rfl;rw[hq] at d;exact d.elim
 rw[ad] at H;exact AZ h T _ _ _ _ 10 (ze (ze rfl)) I H;obtain⟨D,ee⟩:=y;rw[hA] at d I;obtain⟨L,kk,ad⟩:∃L k,ynt t m n o=Z (L,k):=by
  rcases hq:ynt t m n o with _|y;rw[hq] at d;exact d.elim;exact⟨y.1,y.2,rfl⟩
 rw[ad] at d H;have C:=d.2.card i.ctx;refine MV h T _ _ m t _ _ hn (λW Q rb=>∃R pv nv rv ab,kz W.o.q lo Q rb t (zp m) R pv nv rv ab/\W.cell? (ω px 1)=Z pv/\TT t (zp m) R/\zyx (t.map (·.jh)) R=D/\R.Q=ee/\lA D R.count/\R.count<=1048576/\0<=R.jg) (λW Q mb=>∃fv,W.o.q<=mb/\Ti Q mb #[fv,ι kk] 54/\yU (ua own) W.o.q Q fv L) ?_ I H;intro W1 W2 W3 W4 rb mb b1 ⟨R,pv,nv,rv,ab,P,r0,r2,r3,r4,r5,r6,r7⟩ az ⟨fv,f1,f2,f3⟩ b4 ag;obtain⟨_,cv,ak,kv,k1,k2,k3,k4⟩:=ai;have g:∀b,w.o.q<=b->¬ua own b:=λb q e=>e (h.hd.new b q);have K:=b1.q;have a6:=P.box.lt;have a5:=az.q;have ac:∀b,lo<=b->b<s.o.q->¬ua own b:=λb q1 G e=>e (am b q1 G);have ar:=hP;have a0:=hQ;obtain⟨g1,v0,ax,g2,g3,g4⟩:=ar;obtain⟨e1,a7,a1,a3,e2,e3,e4,e5⟩:=a0;have ec:ak=a1:=by
  have q:=e2.same e1 E;rw[Ti] at q k1;rw[k1] at q;simp only[zt,Obj.cells.injEq,Array.mk.injEq,mS,and_true] at q;exact q.2.1
 have ht:=d.2;rw[←r3] at ht;refine⟨W1.o.q,lo,R,L,kk,pv,nv,rv,fv,cv,ak,kv,ab,P.u ag,⟨g _ (zY K P.low),g mb (by have:=P.low;omega),ac pm e1 e2.lt⟩,?_,λp a c=>?_,r2,ht,⟨(oE C r5),by rw[r4];exact d.1,r7⟩,f2,f3.low (zs _),by rw[oE C r5];exact r6,i.ctx,k1.u b4,zy (yo k3 (zs _)) b4,λb q=>?_⟩;have ep:pv=ax:=by
  have q:=(g2.same g1 E).u b1;rw[q.H.1] at r0;exact(Option.some.inj r0).symm
 rintro v (rfl|rfl|rfl|rfl) b q;subst ep;exact ac b (yW g4 q) (yF g4 q);exact g b (zY K (yW P.vals q));exact g b (zY K (yW P.I q));obtain⟨_,_,G,_⟩:=f3;have:=yW G q;have:=P.low;exact g b η;obtain⟨fp,q⟩:=P.tries p a c;exact⟨fp,q.u ag,λb u=>g b (zY K (q.lt b u).1)⟩;subst ec;exact ac b (yW e4 q) (yF e4 q)
end
end Go.Proofs.YteampbddflhngaaGreat
