import Derived.Test.YteampbddflhngaaGreatA14
namespace Go.Proofs.YteampbddflhngaaGreat
open List renaming length→List.j
open _root_.Array renaming size→Array.q
open _root_.ByteArray renaming size→ByteArray.q
open Go.RowKit.Below renaming size→Go.RowKit.Below.q,alloc→Go.RowKit.Below.C
open Go.RowKit.Hid renaming out→Go.RowKit.Hid.l
open Go.World renaming heap→Go.World.o,alloc→Go.World.C,size_alloc→g_
open Go.Value renaming string→Go.Value.g,cells→Go.Value.E,pointer→Go.Value.u
open Go.TypeDesc renaming string→Go.TypeDesc.g,pointer→Go.TypeDesc.u
open Go.Calls renaming mono→Go.Calls.y
open Eq renaming trans→Eq.A
open Go.Obj renaming cells→Go.Obj.E
open Option renaming some→Z
open Go.RowKit renaming Hid→X,intOf→d_
open Go renaming World→U,Calls→c_
open Go.Proofs.Tryz renaming prog→e_
set_option linter.all false
set_option maxRecDepth 100000
set_option maxHeartbeats 2000000
open Go.Proofs.Tryz Go.RowKit
section
section
variable {B:Nat} {own:UY} {w:U} {wb:Nat} {M:ym} {V:Nat->Value} {a b c:Int} {s:ByteArray}
def Ir(h:zH B own w wb M V){i:U}(j:μ w i){g:Nat}{l:List Λ}{vb:Value}(H:w.o.q<=g)(hs:U7 w.o.q i (sl g l.j) l){m:Nat}(C:U7 m i vb l)(y:l.j<=1000)(F:M.ls.j<=2000000000000):
  c_ e_ 41 #[(π wb),sl g l.j,vb] i λe o=>U9 B own w wb M e o:=by
 have u:g<i.o.q:=yb hs rfl;have I:=j.q;obtain⟨d,n⟩:∃d:UY,∀x,d x=if g=x then(22,M.ls.j+1) else own x:=⟨_,λ_=>rfl⟩
 have k:∀x,x<w.o.q->d x=own x:=λx q=>by rw[n,za η]
 have p:zH B d i wb M V:=h.more j k λx q=>by rw[n,za η];exact h.hd.new x η
 refine(Br p (g:=g) (by rw[n,zb rfl]) (hs.low h.hd.q) C y F).y λe o ⟨t,⟨f,D,G,E,v,_⟩,N,r,z⟩=>?_;refine⟨t,⟨f,_,D,E,⟨ζ,ζ,ζ,ζ,ζ,ζ,ζ,ζ,rfl⟩,λx q=>(v x η).A (k x q)⟩,(uw.of (own:=own) j).A (own':=d) ⟨N,r,λx A=>?_⟩ k⟩;unfold xh;rcases z x A with q|q|q<;>rw[q]<;>simp
def RU(p:qE)(h:zH B own w wb M V)(J:p∈M.ps)(hn:M.ls.j<=2000000000000):
  c_ e_ 96 #[(π wb),.agg #[.u (Z (δ p.1)),.u (Z (δ p.2.1))],.agg #[ι 12,ι a,ι b,ι c,.g s]] w λe y=>U9 B own w wb M e y:=by
 obtain⟨lo,x,C,k⟩:=(h.inn.pairs p J).both;obtain⟨E,L,P,t⟩:=p;simp only at x C k ⊢;have u:=C;obtain⟨_,cv,F,kv,r,_,i,_⟩:=C;have z:=U2 λW R=>J1 W E P t (x.u R) k.names;have v:X (∀d g,μ w d->w.o.q<=g->U7 w.o.q d (.slice (Z (δ g)) t.j t.j) (t.map zf.name)->c_ e_ 41 #[(π wb),.slice (Z (δ g)) t.j t.j,F] d λe y=>U9 B own w wb M e y):=λd g D h2 N=>by
  have:=Ir h D (l:=t.map zf.name) h2 (by simpa [sl] using N) (i.u D) (by simpa using k.names) hn;simpa [sl] using this
 clear h x u k i;go_enter func96,ntmps96;go_wp2_with (first|(go_at_call 86;refine(z.l _ φ).y ?_;rintro e d ⟨g,K,rfl,A,f⟩;have j:μ w d:=zJ φ f (ze _);have m:=((U3.new w #[(π E),(π L)] 40).u ((zn _ _).C (ze _) (.E #[ι 12,ι a,ι b,ι c,.g s] 67))).u f;obtain⟨Q,I,T⟩:=m.I;have n:=r.u j;obtain⟨S,G,H⟩:=n.I)|(go_at_call 41;refine(v.l _ _ j (by simp only[g_] at K;omega) (A.low (by simp only[g_];omega))).y ?_;rintro e w2 ⟨rfl,q,o⟩))
 go_ret;exact⟨rfl,q,o⟩
def MX(p:qE)(h:zH B own w wb M V)(q:p∈M.ps):
  c_ e_ 96 #[(π wb),.agg #[.u (Z (δ p.1)),.u (Z (δ p.2.1))],.agg #[ι 16,ι a,ι b,ι c,.g s]] w λe v=>U9 B own w wb M e v:=by
 obtain⟨x,i,j,d⟩:=(h.inn.pairs p q).both;obtain⟨o,m,r,t⟩:=p;simp only at i j d ⊢;have k:=U2 λW l=>LE W o m r t (i.u l) (j.u l) d.len (λc u=>(d.fine c u).1);clear i j d;go_enter func96,ntmps96;go_wp2_with (go_at_call 22;refine(k.l _ φ).y ?_;rintro e n ⟨rfl,f⟩)
 have g:μ w n:=zJ φ f (ze _);go_ret;exact U9.kept h g
def RP(p:qE)(i:Int)(h:zH B own w wb M V)(P:p∈M.ps)(r:i<0∨(p.2.2.1.j:Int)<=i):
  c_ e_ 138 #[(π wb),.agg #[.u (Z (δ p.1)),.u (Z (δ p.2.1))],ι i] w λe C=>U9 B own w wb M e C:=by
 obtain⟨lo,A,J,u⟩:=(h.inn.pairs p P).both;obtain⟨v,H,Q,t⟩:=p;simp only at A J u r ⊢;obtain⟨_,cv,T,kv,m,n,z,_⟩:=J;obtain⟨ao,S,rfl⟩:=n.qm;have o:X (∀W,μ w W->c_ e_ 172 #[(π v),ι i] W λe C=>e=ε (.tuple #[ν,ι 11])/\μ W C):=λW R=>IV W v Q t i (A.u R) u.len r;have N:=u.len;have I:∀W:U,(binOp .eql 30 (ν) (ν)).run e_ W=.ok (.bool true) W:=λW=>by
  have:=run_equal_slice_nil W 30 9 none 0 0 underlying30;simp[binOp,this]
 clear A u z n;have l:∀k,μ w k->U9 B own w wb M (ε (.bool true)) k:=λk K=>U9.kept h K;have q:X (∀k,μ w k->U9 B own w wb M (ε (.bool true)) k):=l;clear l h;rcases r with r|r
 .go_enter func138,ntmps138;go_wp2_with (go_at_call 172;refine(o.l _ φ).y ?_;rintro e k ⟨rfl,g⟩;have j:μ w k:=zJ φ g (ze _);have d:=(U3.new w #[(π v),(π H)] 40).u g;obtain⟨G,y⟩:=d.H;have E:=d.lt;have f:=m.u j;obtain⟨D,x⟩:=f.H;have F:=f.lt)
  go_ret;exact q.l _ j
 have L:¬i<0:=η;go_enter func138,ntmps138;go_wp2_with (go_at_call 172;refine(o.l _ φ).y ?_;rintro e k ⟨rfl,g⟩;have j:μ w k:=zJ φ g (ze _);have d:=(U3.new w #[(π v),(π H)] 40).u g;obtain⟨G,y⟩:=d.H;have E:=d.lt;have f:=m.u j;obtain⟨D,x⟩:=f.H;have F:=f.lt)
 go_ret;exact q.l _ j
def Tf(p:qE)(k:Nat)(h:zH B own w wb M V)(hp:p∈M.ps)(F:k<p.2.2.1.j)(hn:M.ls.j<=2000000000000):
  c_ e_ 138 #[(π wb),.agg #[.u (Z (δ p.1)),.u (Z (δ p.2.1))],ι k] w λe i=>U9 B own w wb M e i:=by
 obtain⟨lo,hP,hR,G⟩:=(h.inn.pairs p hp).both;obtain⟨R,mb,d,t⟩:=p;simp only at hP hR G F ⊢;obtain⟨_,cv,pv,kv,N,n,S,_⟩:=hR;obtain⟨ao,aq,rfl⟩:=n.qm;obtain⟨A,j,an,D⟩:=G.fine _ (zr F);have P:=G.len;obtain⟨gm,ag,E,ah,y,rfl,o⟩:=n.at k F;have ae:(zu d[k]).j<=1000:=by have I:=sK d[k].d [];have h2:=j.1;unfold zu;simp at I;omega
 have ac:X (∀W,μ w W->c_ e_ 172 #[(π R),ι k] W λe i=>∃g,W.o.q<=g/\e=ε (.tuple #[.slice (Z (δ g)) (zu d[k]).j (zu d[k]).j,ι 0])/\U7 W.o.q i (.slice (Z (δ g)) (zu d[k]).j (zu d[k]).j) (zu d[k])/\μ W i):=λW hW=>T4 W R d t k (hP.u hW) P F j;have J:X (∀W,μ w W->c_ e_ 108 #[.u (Z (ω gm (k*4))),.bool true] W λe i=>∃v,e=.returned v/\U7 W.o.q i v (zu d[k])/\μ W i):=λW hW=>by
  have:=og W true gm (k*4) d[k] ag E ah y (o.u hW) η D (λl hl t2 K=>(((A.1 l hl).2.2.2) t2 K).1);rw[AV] at this;exact this
 have am:=o.lt;generalize zu d[k]=q at *;have Q:X (∀m g vb,μ w m->w.o.q<=g->U7 w.o.q m (.slice (Z (δ g)) q.j q.j) q->U7 w.o.q m vb q->c_ e_ 41 #[(π wb),.slice (Z (δ g)) q.j q.j,vb] m λe i=>U9 B own w wb M e i):=λm g vb I h2 h3 h4=>Ir h I h2 h3 h4 ae hn;clear hP G S n o A j D h;go_enter func138,ntmps138;go_wp2_with (first|(go_at_call 172;refine(ac.l _ φ).y ?_;rintro e m ⟨g,hg,rfl,ad,z⟩;have f:μ w m:=zJ φ z (ze _);have r:=(U3.new w #[(π R),(π mb)] 40).u z;obtain⟨ar,al⟩:=r.H;have ai:=r.lt;have u:=N.u f;obtain⟨ap,aj⟩:=u.H;have ak:=u.lt;have T:=f.q;have C:=ad.low (show w.o.q<=_ from(by simp only[g_];omega));have L:w.o.q<=g:=(by simp only[g_] at hg;omega))|(go_at_call 108;refine(J.l _ f).y ?_;rintro e w2 ⟨v2,rfl,af,x⟩;have ab:=zJ f x (ze _))|(go_at_call 41;refine(Q.l _ _ _ ab L (C.u x) (af.low T)).y ?_;rintro e w3 ⟨rfl,aa,H⟩))
 go_ret;exact⟨rfl,aa,H⟩
def RZ(p:qE)(h:zH B own w wb M V)(j:p∈M.ps)(n:M.ls.j<=2000000000000):
  c_ e_ 96 #[(π wb),.agg #[.u (Z (δ p.1)),.u (Z (δ p.2.1))],.agg #[ι 15,ι a,ι b,ι c,.g s]] w λe i=>U9 B own w wb M e i:=by
 have m:X (∀W,μ w W->c_ e_ 138 #[(π wb),.agg #[.u (Z (δ p.1)),.u (Z (δ p.2.1))],ι b] W λe i=>U9 B own W wb M e i):=λW l=>by
  have d:=h.u l;by_cases o:b<0∨(p.2.2.1.j:Int)<=b;exact RP p b d j o;obtain⟨k,rfl⟩:∃k:Nat,b=k:=⟨b.toNat,η⟩;exact Tf p k d j η n
 clear h;go_enter func96,ntmps96;go_wp2_with (go_at_call 138;refine(m.l _ φ).y ?_;rintro e q ⟨rfl,g,f⟩)
 go_ret;exact U9.from φ ⟨rfl,g,f⟩
def P3(p:qE)(h:zH B own w wb M V)(S:p∈M.ps)(hs:zO p.2.2.2 s=none):
  c_ e_ 96 #[(π wb),.agg #[.u (Z (δ p.1)),.u (Z (δ p.2.1))],.agg #[ι 13,ι a,ι b,ι c,.g s]] w λe J=>U9 B own w wb M e J:=by
 obtain⟨lo,E,L,q⟩:=(h.inn.pairs p S).both;obtain⟨I,mb,cs,t⟩:=p;simp only at E L q hs ⊢;obtain⟨_,cv,pv,kv,z,C,m,H⟩:=L;obtain⟨aa,N,rfl⟩:=m.qm;have D:=q.names;have ah:(U4 t).j=t.j:=by simp[U4]
 have G:=U2 λW hW=>QL W I cs t s (E.u hW) D hs;have r:X (∀x∈U4 t,x≠s):=λx hx e=>by
  obtain⟨e0,v,rfl⟩:=z9.1 hx;exact mF q.rise hs e0 v e
 have F:X (∀y,μ w y->U9 B own w wb M (ε (.bool true)) y):=λy P=>U9.kept h P;clear E q hs h C H;generalize U4 t=o at *;go_enter func96,ntmps96;go_wp2_with (go_at_call 136;refine(G.l _ φ).y ?_;rintro e J ⟨rfl,A⟩;obtain rfl:=A.symm)
 go_loopw [10] (λi wr=>∃k:Nat,k<=o.j/\i=ι k/\μ w wr/\U3 wr w.o.q #[(π I),(π mb)] 40/\U3 wr (w.o.q+1) #[ι 13,ι a,ι b,ι c,.g s] 67) (λi _=>o.j-(d_ i).toNat);exact⟨0,zs _,rfl,φ,(U3.new w _ _).u zQ,U3.newAt _ _ _ _ ζ⟩;obtain⟨k,hk,rfl,d,f,l⟩:=hrel;have K:=d.q;obtain⟨ab,R,af⟩:=f.I;obtain⟨ac,T,ad⟩:=l.I;have u:=z.u d;obtain⟨ae,Q,aj⟩:=u.I;by_cases j:k<o.j
 .obtain⟨g,rfl,hg,n⟩:=m.cell k j;have ai:=zi d hg n;have ak:g<wr.o.q:=η;have ag:=vn (r.l _ (zr j));clear n;generalize o[k]=x at *;go_wp2;go_quiet (fail)
  go_wp2;go_roundw;exact⟨k+1,η,ξ,zG d _,f.u (zG (zn _ _) _),l.u (zG (zn _ _) _)⟩;simp[d_];omega
 go_wp2;go_ret;exact F.l _ d
def PE(p:qE)(D:zf)(h:zH B own w wb M V)(hp:p∈M.ps)(hs:zO p.2.2.2 s=Z D):
  c_ e_ 96 #[(π wb),.agg #[.u (Z (δ p.1)),.u (Z (δ p.2.1))],.agg #[ι 13,ι a,ι b,ι c,.g s]] w λe w'=>U9 B own w wb M e w':=by
 obtain⟨lo,P,hR,A⟩:=(h.inn.pairs p hp).both;obtain⟨pb,mb,cs,t⟩:=p;simp only at P hR A hs ⊢;obtain⟨_,cv,pv,kv,K,N,q,y⟩:=hR;obtain⟨an,af,rfl⟩:=q.qm;have u:Xe lo w kv (t.map zf.L):=by simpa [Xe] using y
 obtain⟨aj,ah,rfl⟩:=zq u;have ac:=A.names;have aa:(U4 t).j=t.j:=by simp[U4]
 obtain⟨hj,l,v⟩:=qr hs;have T:=U2 λW hW=>Rg W pb cs t s D (P.u hW) ac hs;have ab:zM t s<(U4 t).j:=by rw[aa];exact hj
 have I:zM t s<(t.map zf.L).j:=by simpa using hj
 have r:X ((U4 t)[zM t s]=s):=by simp[X,U4,l,v]
 have Q:X ((t.map zf.L)[zM t s]=D.L):=by simp[X,l]
 have E:X (∀k (F:k<(U4 t).j),k<zM t s->(U4 t)[k]≠s):=λk F n e=>by
  have:=A5 A.rise F ab (e.A r.l.symm);omega
 have R:X (∀J,μ w J->U9 B own w wb M (ε (.bool true)) J):=λJ hb=>U9.kept h hb;clear P A hs h N y l v;generalize U4 t=H at *;generalize t.map zf.L=ks at *;generalize zM t s=C at *;generalize D.L=es at *;go_enter func96,ntmps96;go_wp2_with (go_at_call 136;refine(T.l _ φ).y ?_;rintro e w' ⟨rfl,L⟩;obtain rfl:=L.symm)
 go_loopw [10] (λi wr=>∃k:Nat,k<=C/\i=ι k/\μ w wr/\U3 wr w.o.q #[(π pb),(π mb)] 40/\U3 wr (w.o.q+1) #[ι 13,ι a,ι b,ι c,.g s] 67) (λi _=>C-(d_ i).toNat);exact⟨0,zs _,rfl,φ,(U3.new w _ _).u zQ,U3.newAt _ _ _ _ ζ⟩;obtain⟨k,F,rfl,d,m,o⟩:=hrel;have ag:=d.q;obtain⟨aw,al,ar⟩:=m.I;obtain⟨aq,am,ap⟩:=o.I;have G:=K.u d;obtain⟨ao,ak,av⟩:=G.I;have j:k<H.j:=η;obtain⟨g,rfl,hg,z⟩:=q.cell k j;have au:=zi d hg z;have ax:g<wr.o.q:=η;clear z;by_cases n:k<C
 .have S:=vn (E.l k j n);generalize H[k]=x at *;go_wp2;go_quiet (fail)
  go_wp2;go_roundw;exact⟨k+1,η,ξ,zG d _,m.u (zG (zn _ _) _),o.u (zG (zn _ _) _)⟩;simp[d_];omega
 obtain rfl:k=C:=η;have S:=qH r.l;obtain⟨g2,rfl,ad,f⟩:=u.cell k I;rw[Q.l] at f;have ai:=zi d ad f;have ae:g2<wr.o.q:=η;clear f;generalize H[k]=x at *;go_wp2;go_quiet (fail)
 go_wp2;go_ret;exact R.l _ (zG d _)
def MH(p:qE)(h:zH B own w wb M V)(d:p∈M.ps):
  c_ e_ 96 #[(π wb),.agg #[.u (Z (δ p.1)),.u (Z (δ p.2.1))],.agg #[ι 13,ι a,ι b,ι c,.g s]] w λe i=>U9 B own w wb M e i:=by
 rcases f:zO p.2.2.2 s with _|g;exact P3 p h d f;exact PE p g h d f
end
end
end Go.Proofs.YteampbddflhngaaGreat
