import Derived.Test.YteampbddflhngaaGreatR18
import Derived.Test.YteampbddflhngaaGreatR20
namespace Go.Proofs.YteampbddflhngaaGreat
open List renaming length→List.j
open _root_.Array renaming size→Array.q
open _root_.ByteArray renaming size→ByteArray.q
open Go.RowKit.Below renaming size→Go.RowKit.Below.q,mono→Go.RowKit.Below.y,trans→Go.RowKit.Below.A,alloc→Go.RowKit.Below.C
open Go.TypeInfo renaming size→Go.TypeInfo.q
open Go.RowKit.Hid renaming out→Go.RowKit.Hid.l
open Go.World renaming heap→Go.World.o,alloc→Go.World.C
open Go.Calls renaming mono→Go.Calls.y
open Eq renaming trans→Eq.A
open Iff renaming trans→Iff.A
open Go.Obj renaming cells→Go.Obj.E
open Go.Value renaming cells→Go.Value.E
open Option renaming some→Z
open Go.RowKit renaming Hid→X
open Go renaming World→U,Value→O
set_option linter.all false
set_option maxRecDepth 100000
set_option maxHeartbeats 4000000
open Go.RowKit
section
open Go.Proofs.Tryz
variable {os:Option (List (Option (List Int)))}
structure mv (w:U) (orv:O) (nb:Bool) (os:Option (List (Option (List Int)))):Prop where
 len:(os.getD []).j<=2000000
 each:∀o∈os.getD [],(o.getD []).j<=2000000
 hand:∀W,μ w W->Calls Tryz.prog 34 #[orv,.bool nb] W λe w'=>∃hv,e=.returned hv/\X (jU w' hv os/\∀W2,μ w' W2->Calls Tryz.prog 36 #[hv,orv,.bool nb] W2 λe w3=>e=ε (.bool true)/\X (μ W2 w3))/\X (μ W w')
 ord:∀W,μ w W->∀mb cs t lo,jG lo W mb cs t->(∀c∈cs,c.d.j<=999/\xj (zm c)<=1000/\(zx c).j<=5/\∀l∈zm c,∀t∈l.k,0<t.q)->cs.j<=1000->Calls Tryz.prog 75 #[(π mb),orv,.bool nb] W λe w'=>e=ε (.bool (vC cs os))/\μ W w'
def mv.no(w:U)(c:O):mv w c true none:=
 ⟨zs _,(λo h=>by cases h),λW _=>(LH W _).y λe g ⟨a,b⟩=>by
  subst b;exact⟨_,a,⟨rfl,λf _=>(Q8 f _ _).y λe l ⟨d,i⟩=>by subst i;exact⟨d,zn _ _⟩⟩,zn _ _⟩,λW _ m j t k _ _ _=>(MR W _ _).y λe g ⟨a,b⟩=>by subst b;exact⟨a,zn _ _⟩⟩
section
variable {B:Nat} {own:TH} {w:U} {wb:Nat} {M:yZ} {V:Nat->O}
def re(B:Nat)(own:TH)(w:U)(wb:Nat)(M:yZ)(V:Nat->O)(e:Ending)(w':U):Prop:=e=ε (.bool true)/\X (∃a c d,c.j<=M.rs.j+1/\y7 B a w' wb {M with rs:=c} (gY V 1 d)/\∀b,b<w.o.q->a b=own b)/\X (xO own w w')
def Se(V:Nat->O)(f:Nat):gY V f (V f)=V:=funext λg=>by
 unfold gY;split
 .rename_i e;rw[e]
 .rfl
def re.kept{w':U}(h:y7 B own w wb M V)(a:μ w w'):re B own w wb M V (ε (.bool true)) w':=⟨rfl,⟨own,M.rs,V 1,η,by rw[Se];exact h.u a,λ_ _=>rfl⟩,xO.of a⟩
def AN(h:y7 B own w wb M V){g:O}{q:Bool}(y:mv w g q os)(x m:Nat)(c p n:Int)(G:n=8∨n=9∨n=10)(H:X (∀W o,μ w W->jU W o os->Calls prog 35 #[(π x),o,ι c,ι p] W λe i=>e=ε (.tuple #[.pointer none,ι n])/\X (μ W i)))(t:X (∀W,μ w W->Calls prog 37 #[(π m),g,.bool q,ι c,ι p] W λe i=>e=ε (.tuple #[.pointer none,ι n])/\X (μ W i))):
  Calls prog 17 #[(π wb),.agg #[(π x),(π m)],g,.bool q,ι c,ι p] w λe i=>re B own w wb M V e i:=by
 have C:=Tg y.hand;have F:=Tg λW=>re.kept h (w':=W);clear h y;rcases G with rfl|rfl|rfl
 all_goals
  go_enter func17,ntmps17;go_upto_region 1 with fail
  have l:X (μ w (w.C (.E #[(π x),(π m)] 40))):=(zn _ _).C (zg _) _;have d:=Tg (Th.new w #[(π x),(π m)] 40);generalize w.C (.E #[(π x),(π m)] 40)=I at *;go_wp2_with (first|(go_at_call 34;refine(C.l _ l.l).y ?_;rintro e L ⟨o,rfl,z,b⟩;have j:=Tg (Tk l.l b.l);obtain⟨K,_,A⟩:=(d.l.u b.l).e)|(go_at_call 35;refine(H.l _ _ j.l z.l.1).y ?_;rintro e P ⟨rfl,a⟩;have s:=Tg (Tk j.l a.l);obtain⟨D,_⟩:=((d.l.u b.l).u a.l).H;have u:=((d.l.u b.l).u a.l).lt)|(go_at_call 36;refine(z.l.2 _ a.l).y ?_;rintro e J ⟨rfl,f⟩;have k:=Tg (Tk s.l f.l);obtain⟨E,_⟩:=(((d.l.u b.l).u a.l).u f.l).H;have v:=(((d.l.u b.l).u a.l).u f.l).lt)|(go_at_call 37;refine(t.l _ k.l).y ?_;rintro e N ⟨rfl,r⟩))
  go_ret;exact F.l _ (Tk k.l r.l)
def Ll(h:y7 B own w wb M V){D:O}{nb:Bool}(ho:mv w D nb os)(x m:Nat)(cs:Ξ)(t:Ψ)(j qm:Int)(hn:M.rs.j<=1048576)(P Q:U->U->Nat->Prop)(K:X (∀W1 W2 W3 W4 p o,μ w W1->P W1 W2 p->μ W2 W3->Q W3 W4 o->μ w W4->μ W2 W4->V5 own W4 (p,o,m,cs,t)))(HR:X (∀W hv,μ w W->jU W hv os->Calls prog 35 #[(π x),hv,ι j,ι qm] W λe A=>∃p,e=ε (.tuple #[(π p),ι 0])/\X (P W A p)/\X (μ W A)))(R:X (∀W,μ w W->Calls prog 37 #[(π m),D,.bool nb,ι j,ι qm] W λe A=>∃o,e=ε (.tuple #[(π o),ι 0])/\X (Q W A o)/\X (μ W A))):
  Calls prog 17 #[(π wb),.agg #[(π x),(π m)],D,.bool nb,ι j,ι qm] w λe A=>re B own w wb M V e A:=by
 obtain⟨i0,hi,ah,an,ag⟩:=info_parts SD;have HH:=Tg ho.hand;have HW:=Tg h;have al:=h.hd.q;clear h ho;go_enter func17,ntmps17;go_upto_region 1 with fail
 have S:X (μ w (w.C (.E #[(π x),(π m)] 40))):=(zn _ _).C (zg _) _;have g:=Tg (Th.new w #[(π x),(π m)] 40);generalize w.C (.E #[(π x),(π m)] 40)=wX at *;go_upto_region 9 with (first|(go_at_call 34;refine(HH.l _ S.l).y ?_;rintro e w1 ⟨hv,rfl,HV,c⟩;have E:=Tg (Tk S.l c.l);obtain⟨xc,_,N⟩:=(g.l.u c.l).e)|(go_at_call 35;refine(HR.l _ _ E.l HV.l.1).y ?_;rintro e w2 ⟨p,rfl,ac,a⟩;have am:=Tg (Tk E.l a.l);obtain⟨ai,_⟩:=((g.l.u c.l).u a.l).H;have I:=((g.l.u c.l).u a.l).lt)|(go_at_call 36;refine(HV.l.2 _ a.l).y ?_;rintro e w3 ⟨rfl,i⟩;have ad:=Tg (Tk am.l i.l);obtain⟨ak,_⟩:=(((g.l.u c.l).u a.l).u i.l).H;have ab:=(((g.l.u c.l).u a.l).u i.l).lt)|(go_at_call 37;refine(R.l _ ad.l).y ?_;rintro e w4 ⟨o,rfl,aa,G⟩))
 have k:=Tg (Tk ad.l G.l);have aj:=Tg (K.l _ _ _ _ p o E.l ac.l i.l aa.l k.l (Tk i.l G.l));have l:=Tg (HW.l.u k.l);have af:=(((g.l.u c.l).u a.l).u i.l).u G.l;clear ac aa HR R xc ai ak N I ab HH HV K;obtain⟨xc,_,N⟩:=af.e;have F:=l.l.box;obtain⟨wc,wf,au⟩:=F.e;have d:w4.ownsRow B 50 3 (V 1) M.rs.j (lO M.rs):=l.l.hd.row 1 _ _ _ _ rfl;have ax:=zY al k.l.q;obtain⟨L,v,H⟩:=zr d;have az:w4.cell? (ω wb 1)=Z (.slice L M.rs.j v):=by rw[wc,←H];rfl
 rw[H] at d;clear wc;go_region_law (first|(refine m8 w4 _ [(π p),(π o),(π m)] 50 rfl (.tmp 65) (.tmp 71) 29 rfl B 50 i0 _ 3 24 underlying29 hi ah an ag rfl θ (.slice L M.rs.j v) M.rs.j (lO M.rs) (by simp[Act.eval]) d φ w4.o.q 1 (by simp[Act.eval]) (by exact Th.drew (Th.new _ _ _)) rfl a_ η η η ?_;intro v' w5 J C y ay av;obtain⟨aw,ar,rfl⟩:=zr J;have ae:=F.save C (jx d F θ);obtain⟨a1,a0,aq⟩:=ae.e))
 all_goals
  rw[←H] at C y;have hq:=l.l.put (f:=1) (M':={M with rs:=M.rs++[(p,o,m,cs,t)]}) θ (λf hf=>by unfold yZ.f;split<;>first|rfl|omega) (T:=50) (s:=3) (n:=M.rs.j+1) (by simp[yZ.f,lO]) J C (y.imp_right ze) l.l.nums λz A u ap ao=>⟨u.ints,u.win,u.z,u.lists,u.J,u.N,u.pairs,λr hr=>by
   rcases ya.1 hr with q|q;exact u.ress r q;rw[xQ.1 q];exact aj.l.keep ap (λb hb=>(l.l.tags 1 θ b hb).2) (λb q1 q2=>(ao b q1).A q2)⟩
  have HQ:=Tg hq;clear hq;go_wp2;go_ret;obtain⟨⟨z,r1,r2⟩,r3,_⟩:=HQ.l;exact⟨rfl,⟨z,_,_,ζ,r1,λb q=>r2 b (ym q k.l.q)⟩,(xO.of k.l).A r3 λ_ _=>rfl⟩
end
end
section
section
variable {B:Nat} {own:TH} {w w' w2:U} {wb:Nat} {M:yZ} {V:Nat->O}
end
end
section
section
variable {B:Nat} {own:TH} {w:U} {wb:Nat} {M:yZ} {V:Nat->O}
def mv.rd{b:O}{a:Γ}{os:List (Option (List Int))}(u:mM w b a)(s:∀v∈a,v.oneCell'=true)(j:os.j=a.j)(d:∀k (j:k<a.j) (d:k<os.j),xV w a[k] os[k]/\(os[k].getD []).j<=1048576)(G:a.j<=1048577):mv w b false (Z os):=by
 have h:∀o∈os,(o.getD []).j<=2000000:=λo C=>by
  obtain⟨k,r,rfl⟩:=vL.1 C;have:=(d k η r).2;omega
 refine⟨by show os.j<=_;omega,h,λW g=>?_,λW g z y t F D q p=>?_⟩;refine(Kt W b a (u.u g) s η).y ?_;rintro e H ⟨E,rfl,l,x⟩;have f:=Tk g x.l;refine⟨_,rfl,⟨⟨_,0,_,by rw[j],l.l.1.lt,λk r=>?_⟩,λA c=>?_⟩,x⟩;refine⟨a[k]'η,?_,((d k η r).1).u f⟩;rw[l.l.1.H.1];have:k<a.j:=η;simp[List.getElem?_append_left this];have i:=Tk f c;exact Rf A b a os _ E (u.u i) (l.l.1.u c) (l.l.2.u c) j (λk n m=>⟨((d k n m).1).u i,by have:=(d k n m).2;omega⟩) η;exact Js W z b y t a os D (u.u g) j.symm (λk n m=>((d k n m).1).u g) h q p
end
end
section
open Go.Proofs.Tryz
def QN{B:Nat}{own:TH}{w:U}{wb:Nat}{M:yZ}{V:Nat->O}(h:y7 B own w wb M V){af:O}{nb:Bool}{os:Option (List (Option (List Int)))}(ho:mv w af nb os)(p:m9)(hp:p∈M.ps)(f G:Int)(ay:UX f)(a1:UX G)(hn:M.rs.j<=1048576):
  Calls prog 17 #[(π wb),.agg #[.pointer (Z (δ p.1)),.pointer (Z (δ p.2.1))],af,.bool nb,ι f,ι G] w λe Q=>re B own w wb M V e Q:=by
 unfold UX at ay a1;by_cases P:f<0∨1048576<f∨G<0∨1048576<G;exact AN h ho _ _ f G 8 (zh rfl) (λW hv _ _=>(Kd W _ _ f G η η P).y λe Q ⟨q1,J⟩=>by subst J;exact⟨q1,zn _ _⟩) (λW _=>(Sp W _ _ f G P).y λe Q ⟨q1,J⟩=>by subst J;exact⟨q1,zn _ _⟩);obtain⟨o,rfl⟩:∃o:Nat,f=(o:Int):=⟨f.toNat,η⟩;obtain⟨n,rfl⟩:∃n:Nat,G=(n:Int):=⟨G.toNat,η⟩;have C:o<=1048576:=η;have u:n<=1048576:=η;obtain⟨⟨lo,s,hB,hP,hQ,_,A,a5,ae⟩,x,hx⟩:=h.inn.pairs p hp;obtain⟨t0,i⟩:=R7 hx;obtain⟨px,pm,j,t⟩:=p;dsimp only at *;have hU:Uj (uf own) w.o.q:=λb q=>h.hd.under q;have aw:∀b,uf own b->b<lo∨s.o.q<=b:=λb q=>by
  apply Classical.byContradiction;intro c;exact q (ae b η η)
 obtain⟨ao,an,aq,al,az,ak,ap⟩:=hQ.read (z:=uf own) A aw;have ac:=hP.same A;have ah:=hQ.same A;have ad:lo<=w.o.q:=by
  obtain⟨q,_,_,J,_⟩:=ac;exact zY q (Nat.le_of_lt J.lt)
 have m:=i.parts.runok.1;have h5:∀c∈j,(zx c).j<=5:=λc hc=>fL (i.parts.many c hc);have ax:∀c∈j,c.d.j<=999/\xj (zm c)<=1000/\(zx c).j<=5/\∀l∈zm c,∀t∈l.k,0<t.q:=λc hc=>by
  have h1:=i.d c hc;have h2:=(m.sums c hc).1;exact⟨η,by simpa [xj,zm] using h2,h5 c hc,λl hl a ha=>(i.k c hc l hl).2 a ha⟩
 have HO:=λW (E:μ w W)=>ho.ord W E pm j t lo (ah.u E) ax i.len;cases E:vC j os;rw[E] at HO;have hk:tn j t os:=⟨m.len,m.names,m.fine,m.sums,m.K,m.vals,m.jm,ho.len,ho.each,(λq=>by rw[E] at q;cases q),λq=>by rw[E] at q;cases q⟩;exact AN h ho _ _ _ _ 9 (ze (zh rfl)) (λW hv F aa=>JL W px j t hv os o n (ac.u F) aa hk E C u) (λW F=>PM C u (HO W F));rw[E] at HO;have I:=λW (hv:O) (F:μ w W) (aa:jU W hv os)=>JN W px hx (ac.u F) i.parts (zY ad F.q) hv os aa E o n C u;have H:=λW (F:μ w W)=>Kb (z:=uf own) C u (HO W F) (ynt t j o n) (λW2 ag=>RY W2 pm o n ao an aq al az ak j t0 t (hU.up (Tk F ag).q) (ap.u (Tk F ag)) i.parts i.ctx i.len i.names i.low i.d i.k C u i.K);have d:=K0 i.parts i.ctx o n;rcases hA:z0n (vf t (zp j) none j) o n with _|y;rw[hA] at d I;have T:ynt t j o n=none:=by
  rcases hq:ynt t j o n with _|y;rfl;rw[hq] at d;exact d.elim
 rw[T] at H;exact AN h ho _ _ _ _ 10 (ze (ze rfl)) I H;obtain⟨D,ee⟩:=y;rw[hA] at d I;obtain⟨L,kk,T⟩:∃L k,ynt t j o n=Z (L,k):=by
  rcases hq:ynt t j o n with _|y;rw[hq] at d;exact d.elim;exact⟨y.1,y.2,rfl⟩
 rw[T] at d H;have r:=d.2.card i.ctx;refine Ll h ho _ _ j t _ _ hn (λW Q rb=>∃R pv nv rv ab,ko W.o.q lo Q rb t (zp j) R pv nv rv ab/\W.cell? (ω px 1)=Z pv/\TS t (zp j) R/\zyx (t.map (·.jh)) R=D/\R.Q=ee/\l9 D R.count/\R.count<=1048576/\0<=R.jg) (λW Q mb=>∃fv,W.o.q<=mb/\Th Q mb #[fv,ι kk] 54/\yX (uf own) W.o.q Q fv L) ?_ I H;intro W1 W2 W3 W4 rb mb b1 ⟨R,pv,nv,rv,ab,N,r0,r2,r3,r4,r5,r6,r7⟩ am ⟨fv,f1,f2,f3⟩ b4 aj;obtain⟨_,cv,ai,kv,k1,k2,k3,k4⟩:=ah;have g:∀b,w.o.q<=b->¬uf own b:=λb q e=>e (h.hd.new b q);have K:=b1.q;have a6:=N.box.lt;have a2:=am.q;have S:∀b,lo<=b->b<s.o.q->¬uf own b:=λb q1 J e=>e (ae b q1 J);have au:=hP;have a0:=hQ;obtain⟨g1,v0,av,g2,g3,g4⟩:=au;obtain⟨e1,a3,ar,a4,e2,e3,e4,e5⟩:=a0;have ec:ai=ar:=by
  have q:=e2.same e1 A;rw[Th] at q k1;rw[k1] at q;simp only[zt,Obj.cells.injEq,Array.mk.injEq,m4,and_true] at q;exact q.2.1
 have ht:=d.2;rw[←r3] at ht;refine⟨W1.o.q,lo,R,L,kk,pv,nv,rv,fv,cv,ai,kv,ab,N.u aj,⟨g _ (zY K N.low),g mb (by have:=N.low;omega),S pm e1 e2.lt⟩,?_,λp a c=>?_,r2,ht,⟨(Bt r r5),by rw[r4];exact d.1,r7⟩,f2,f3.low (zs _),by rw[Bt r r5];exact r6,i.ctx,k1.u b4,zy (yo k3 (zs _)) b4,λb q=>?_⟩;have ep:pv=av:=by
  have q:=(g2.same g1 A).u b1;rw[q.H.1] at r0;exact(Option.some.inj r0).symm
 rintro v (rfl|rfl|rfl|rfl) b q;subst ep;exact S b (yU g4 q) (yG g4 q);exact g b (zY K (yU N.vals q));exact g b (zY K (yU N.I q));obtain⟨_,_,J,_⟩:=f3;have:=yU J q;have:=N.low;exact g b η;obtain⟨fp,q⟩:=N.tries p a c;exact⟨fp,q.u aj,λb E=>g b (zY K (q.lt b E).1)⟩;subst ec;exact S b (yU e4 q) (yG e4 q)
end
end Go.Proofs.YteampbddflhngaaGreat
