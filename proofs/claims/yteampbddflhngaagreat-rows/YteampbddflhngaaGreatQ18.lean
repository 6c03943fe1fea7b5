import Derived.Test.YteampbddflhngaaGreatQ16
namespace Go.Proofs.YteampbddflhngaaGreat
set_option linter.all false
set_option maxRecDepth 100000
set_option maxHeartbeats 8000000
open Go.Proofs.Tryz Go.RowKit
section
section
variable {B:Nat} {own:Sg} {w:World} {wb:Nat} {M:yT} {V:Nat->Value}
def oS(h:yh B own w wb M V)(hn:M.outer.length<=1048577)(ac:M.lits.length<=1048577):
  Calls prog 39 #[(π wb)] w λe w'=>e=ε (.bool true)/\w'=w:=by
 have R:Hid (∀i,i<M.outer.length->∃g a n x,V 12=.slice (some ⟨g,0,none⟩) M.outer.length a/\g<w.heap.size/\w.cell? ⟨g,i,none⟩=some (.slice (some ⟨x,0,none⟩) n n)/\n<=1048576/\x<w.heap.size/\∀k,k<n->∃y,w.cell? ⟨x,k,none⟩=some (.slice (some ⟨y,0,none⟩) (i+1) (i+1))/\y<w.heap.size/\w.cell? ⟨y,0,none⟩=some (.string ByteArray.empty)):=λi m=>by
  obtain⟨g,a,I,G,Y,u⟩:=g7 (h.hd.row 12 _ _ _ _ rfl) i m;obtain⟨_,F,U,A,s,r4⟩:=h.inn.outer i m;refine⟨g,a,M.outer[i].2,M.outer[i].1,I,G,by rw[u];simp[l6,sl],A,yA s rfl,λk q=>?_⟩;obtain⟨g2,p,r,J,D,T⟩:=g7 s k q;cases r;obtain⟨_,c,S,t2⟩:=r4 _ (zt (l:=F) (n:=k) (by omega));exact⟨F[k],by rw[T];simp[uZ],S.lt,by rw[S.rules.1];exact t2⟩
 have Q:Hid (∀i,i<M.lits.length->∃g a n x,V 13=.slice (some ⟨g,0,none⟩) M.lits.length a/\g<w.heap.size/\w.cell? ⟨g,i,none⟩=some (.slice (some ⟨x,0,none⟩) n n)/\n<=1000/\∀k,k<n->x<w.heap.size/\∃y,w.cell? ⟨x,k*3,none⟩=some (.bool false)/\w.cell? ⟨x,k*3+1,none⟩=some (.string o6)/\w.cell? ⟨x,k*3+2,none⟩=some (.slice (some ⟨y,0,none⟩) (i+1) (i+1))):=λi m=>by
  obtain⟨g,a,I,G,Y,u⟩:=g7 (h.hd.row 13 _ _ _ _ rfl) i m;obtain⟨_,F,U,A,s⟩:=h.inn.lits i m;refine⟨g,a,M.lits[i].2,M.lits[i].1,I,G,by rw[u];simp[l6,sl],A,λk q=>?_⟩;obtain⟨W,r,J,D⟩:=tC s k (by simp;omega);simp only[xV,og,sl] at r J D;exact⟨W,_,r,J,D⟩
 obtain⟨ao,a,E⟩:=zq (h.hd.row 12 _ _ _ _ rfl);obtain⟨aa,p,b⟩:=zq (h.hd.row 13 _ _ _ _ rfl);have f:=h.box;rw[E,b] at f;rw[E] at R;rw[b] at Q;obtain⟨hc,hf,ab⟩:=f.boxed;have Z:(o6.toList == [109,105,110,101])=true:=by rw[lx];rfl
 clear h E b f;generalize M.outer.length=z at *;generalize M.lits.length=t at *;go_enter func39,ntmps39;go_wp2;go_loop [3] (λC=>∃i:Nat,i<=z/\C=ι i) (λC=>z-(intOf C).toNat);exact⟨0,zv _,rfl⟩;obtain⟨i,m,rfl⟩:=hrel;by_cases O:i<z
 .obtain⟨g,cp,n,x,N,e1,e2,e3,e4,o⟩:=R.out i O;cases N;have H:=Ry o;clear o;go_wp2;go_loop [4] (λv=>∃k:Nat,k<=n/\v=ι k) (λv=>n-(intOf v).toNat);exact⟨0,zv _,rfl⟩;obtain⟨k,q,rfl⟩:=hrel;by_cases d:k<n
  .obtain⟨y,X,f2,f3⟩:=H.out k d;go_wp2;go_round;exact⟨k+1,by omega,by go_num⟩;simp[intOf];omega
  go_wp2;go_round;exact⟨i+1,by omega,by go_num⟩;simp[intOf];omega
 go_wp2;go_loop [5] (λK=>∃i:Nat,i<=t/\K=ι i) (λK=>t-(intOf K).toNat);exact⟨0,zv _,rfl⟩;obtain⟨j,hj,rfl⟩:=hrel;by_cases P:j<t
 .obtain⟨g,cp,n,x,N,e1,e2,e3,o⟩:=Q.out j P;cases N;have H:=Ry o;clear o;go_wp2;go_loop [6] (λL=>∃k:Nat,k<=n/\L=ι k) (λL=>n-(intOf L).toNat);exact⟨0,zv _,rfl⟩;obtain⟨k,q,rfl⟩:=hrel;by_cases d:k<n
  .obtain⟨f0,y,X,f2,f3⟩:=H.out k d;go_wp2;go_round;exact⟨k+1,by omega,by go_num⟩;simp[intOf];omega
  go_wp2;go_round;exact⟨j+1,by omega,by go_num⟩;simp[intOf];omega
 go_wp2;go_ret;exact⟨rfl,rfl⟩
def qe.ints{W:World}{g:Nat}{l:List Int}(a:Rz W g (wP l) 3):qe W (.slice (some ⟨g,0,none⟩) l.length l.length) (some l):=⟨_,0,_,rfl,a.lt,λk b=>by rw[a.rules.1];simp[wP,b]⟩
def IF(h:yh B own w wb M V)(hn:M.outer.length<=1048577)(aa:M.lits.length<=1048577)(ac:M.ins.length<=1048577)(ab:M.ls.length<=2000000000000):
  Calls prog 58 #[(π wb)] w λe v=>e=ε (.bool true)/\μ w v:=by
 have HI:Hid (∀i,i<M.ins.length->∃g c f b x y l,V 2=.slice (some ⟨g,0,none⟩) M.ins.length c/\V 3=.slice (some ⟨f,0,none⟩) M.ins.length b/\g<w.heap.size/\f<w.heap.size/\w.cell? ⟨g,i,none⟩=some (.slice (some ⟨x,0,none⟩) l l)/\w.cell? ⟨f,i,none⟩=some (.slice (some ⟨y,0,none⟩) l l)/\∀W,μ w W->Calls prog 18 #[.slice (some ⟨x,0,none⟩) l l,.slice (some ⟨y,0,none⟩) l l] W λe v=>e=ε (.bool true)/\μ W v):=λi j=>by
  obtain⟨g,c,T,S,q3,H⟩:=g7 (h.hd.row 2 _ _ _ _ rfl) i j;obtain⟨f,b,G,O,r3,R⟩:=g7 (h.hd.row 3 _ _ _ _ rfl) i j;obtain⟨⟨_,K⟩,⟨_,U⟩,s3⟩:=h.inn.ints i j;exact⟨g,c,f,b,M.ins[i].1,M.ins[i].2.1,M.ins[i].2.2.length,T,G,S,O,by rw[H];simp[FE,sl],by rw[R];simp[E5,sl],λW m=>JS W _ _ (some _) (qe.ints (K.below m)) (qe.ints (U.below m)) (by show M.ins[i].2.2.length<=_;omega)⟩
 have HL:Hid (∀i,i<M.ls.length->∃g c f b x y l,V 10=.slice (some ⟨g,0,none⟩) M.ls.length c/\V 11=.slice (some ⟨f,0,none⟩) M.ls.length b/\g<w.heap.size/\f<w.heap.size/\w.cell? ⟨g,i,none⟩=some (.slice (some ⟨x,0,none⟩) l l)/\w.cell? ⟨f,i,none⟩=some (.slice (some ⟨y,0,none⟩) l l)/\∀W,μ w W->Calls prog 44 #[.slice (some ⟨x,0,none⟩) l l,.slice (some ⟨y,0,none⟩) l l] W λe v=>e=ε (.bool true)/\μ W v):=λi j=>by
  obtain⟨g,c,T,S,q3,H⟩:=g7 (h.hd.row 10 _ _ _ _ rfl) i j;obtain⟨f,b,G,O,r3,R⟩:=g7 (h.hd.row 11 _ _ _ _ rfl) i j;obtain⟨⟨_,K⟩,⟨_,U⟩,s3⟩:=h.inn.lists i j;exact⟨g,c,f,b,M.ls[i].1,M.ls[i].2.1,M.ls[i].2.2.length,T,G,S,O,by rw[H];simp[mD,sl],by rw[R];simp[mu,sl],λW m=>Dj W _ _ _ (K.below m) (U.below m) (by omega)⟩
 have Y:=Ry λW (m:μ w W)=>oS (h.below m) hn aa;obtain⟨a2,c2,I⟩:=zq (h.hd.row 2 _ _ _ _ rfl);obtain⟨a3,c3,k⟩:=zq (h.hd.row 3 _ _ _ _ rfl);obtain⟨a4,c4,L⟩:=zq (h.hd.row 10 _ _ _ _ rfl);obtain⟨a5,c5,o⟩:=zq (h.hd.row 11 _ _ _ _ rfl);have r:=h.box;rw[I,k,L,o] at r;rw[I,k] at HI;rw[L,o] at HL;clear h I k L o;generalize M.ins.length=Z at *;generalize M.ls.length=F at *;go_enter func58,ntmps58;go_wp2;go_loopw [3] (λk wr=>∃i:Nat,i<=Z/\k=ι i/\μ w wr) (λk _=>Z-(intOf k).toNat);exact⟨0,zv _,rfl,zp _ _⟩;obtain⟨i,j,rfl,a⟩:=hrel;have d:=r.below a;obtain⟨hc,hf,s⟩:=d.boxed;by_cases p:i<Z
 .obtain⟨g,c,f,b,x,y,l,X,P,A,u,t,D,E⟩:=HI.out i p;cases X;cases P;have Q:=zl a A t;have N:=zl a u D;have C:=yE A a.size;have z:=yE u a.size;have q:=Ry E;clear t D E;go_wp2;go_region_with (go_at_call 18;refine(q.out _ (by exact zI a 1)).mono ?_;rintro e w1 ⟨rfl,n⟩)
  all_goals
   go_wp2;go_roundw;exact⟨i+1,by omega,by go_num,R5 (zI a 1) n⟩;simp[intOf];omega
 go_wp2;go_loopw [5] (λo wr=>∃i:Nat,i<=F/\o=ι i/\μ w wr) (λo _=>F-(intOf o).toNat);exact⟨0,zv _,rfl,a⟩;clear hc hf s d a;obtain⟨i,j,rfl,a⟩:=hrel;have d:=r.below a;obtain⟨hc,hf,s⟩:=d.boxed;by_cases p:i<F
 .obtain⟨g,c,f,b,x,y,l,X,P,A,u,t,D,E⟩:=HL.out i p;cases X;cases P;have Q:=zl a A t;have N:=zl a u D;have C:=yE A a.size;have z:=yE u a.size;have q:=Ry E;clear t D E;go_wp2;go_region_with (go_at_call 44;refine(q.out _ (by exact zI a 1)).mono ?_;rintro e w1 ⟨rfl,n⟩)
  all_goals
   go_wp2;go_roundw;exact⟨i+1,by omega,by go_num,R5 (zI a 1) n⟩;simp[intOf];omega
 go_wp2_with (go_at_call 39;refine(Y.out _ a).mono ?_;rintro e w1 ⟨rfl,J⟩;obtain rfl:=J.symm)
 go_ret;exact⟨rfl,a⟩
end
end
section
variable {os:Option (List (Option (List Int)))}
structure nW (w:World) (orv:Value) (nb:Bool) (os:Option (List (Option (List Int)))):Prop where
 len:(os.getD []).length<=2000000
 each:∀o∈os.getD [],(o.getD []).length<=2000000
 hand:∀W,μ w W->Calls Tryz.prog 34 #[orv,.bool nb] W λe w'=>∃hv,e=.returned hv/\Hid (j0 w' hv os/\∀W2,μ w' W2->Calls Tryz.prog 36 #[hv,orv,.bool nb] W2 λe w3=>e=ε (.bool true)/\Hid (μ W2 w3))/\Hid (μ W w')
 ord:∀W,μ w W->∀mb cs t lo,ka lo W mb cs t->(∀c∈cs,c.body.length<=999/\xg (zm c)<=1000/\(zx c).length<=5/\∀l∈zm c,∀t∈l.args,0<t.size)->cs.length<=1000->Calls Tryz.prog 75 #[(π mb),orv,.bool nb] W λe w'=>e=ε (.bool (jK cs os))/\μ W w'
def nW.no(w:World)(b:Value):nW w b true none:=
 ⟨zv _,(λo h=>by cases h),λW _=>(LT W _).mono λe i ⟨c,a⟩=>by
  subst a;exact⟨_,c,⟨rfl,λf _=>(IZ f _ _).mono λe k ⟨d,g⟩=>by subst g;exact⟨d,zp _ _⟩⟩,zp _ _⟩,λW _ m j t l _ _ _=>(GN W _ _).mono λe i ⟨c,a⟩=>by subst a;exact⟨c,zp _ _⟩⟩
section
variable {B:Nat} {own:Sg} {w:World} {wb:Nat} {M:yT} {V:Nat->Value}
def n5(B:Nat)(own:Sg)(w:World)(wb:Nat)(M:yT)(V:Nat->Value)(e:Ending)(w':World):Prop:=e=ε (.bool true)/\Hid (∃a c d,c.length<=M.rs.length+1/\yh B a w' wb {M with rs:=c} (kt V 1 d)/\∀b,b<w.heap.size->a b=own b)/\Hid (jp own w w')
def JL(V:Nat->Value)(f:Nat):kt V f (V f)=V:=funext λg=>by
 unfold kt;split
 .rename_i e;rw[e]
 .rfl
def n5.kept{w':World}(h:yh B own w wb M V)(a:μ w w'):n5 B own w wb M V (ε (.bool true)) w':=⟨rfl,⟨own,M.rs,V 1,by omega,by rw[JL];exact h.below a,λ_ _=>rfl⟩,jp.of a⟩
def i8(h:yh B own w wb M V){f:Value}{p:Bool}(z:nW w f p os)(x m:Nat)(d q n:Int)(D:n=8∨n=9∨n=10)(E:Hid (∀W o,μ w W->j0 W o os->Calls prog 35 #[(π x),o,ι d,ι q] W λe i=>e=ε (.tuple #[.pointer none,ι n])/\Hid (μ W i)))(r:Hid (∀W,μ w W->Calls prog 37 #[(π m),f,.bool p,ι d,ι q] W λe i=>e=ε (.tuple #[.pointer none,ι n])/\Hid (μ W i))):
  Calls prog 17 #[(π wb),.agg #[(π x),(π m)],f,.bool p,ι d,ι q] w λe i=>n5 B own w wb M V e i:=by
 have C:=Ry z.hand;have F:=Ry λW=>n5.kept h (w':=W);clear h z;rcases D with rfl|rfl|rfl
 all_goals
  go_enter func17,ntmps17;go_upto_region 1 with fail
  have k:Hid (μ w (w.alloc (.cells #[(π x),(π m)] 40))):=(zp _ _).alloc (zf _) _;have c:=Ry (Rz.new w #[(π x),(π m)] 40);generalize w.alloc (.cells #[(π x),(π m)] 40)=O at *;go_wp2_with (first|(go_at_call 34;refine(C.out _ k.out).mono ?_;rintro e N ⟨o,rfl,v,a⟩;have l:=Ry (R5 k.out a.out);obtain⟨J,_,H⟩:=(c.out.below a.out).boxed)|(go_at_call 35;refine(E.out _ _ l.out v.out.1).mono ?_;rintro e I ⟨rfl,b⟩;have t:=Ry (R5 l.out b.out);obtain⟨A,_⟩:=((c.out.below a.out).below b.out).rules;have u:=((c.out.below a.out).below b.out).lt)|(go_at_call 36;refine(v.out.2 _ b.out).mono ?_;rintro e L ⟨rfl,g⟩;have j:=Ry (R5 t.out g.out);obtain⟨G,_⟩:=(((c.out.below a.out).below b.out).below g.out).rules;have y:=(((c.out.below a.out).below b.out).below g.out).lt)|(go_at_call 37;refine(r.out _ j.out).mono ?_;rintro e K ⟨rfl,s⟩))
  go_ret;exact F.out _ (R5 j.out s.out)
def Nl(h:yh B own w wb M V){C:Value}{nb:Bool}(ho:nW w C nb os)(x m:Nat)(cs:List zd)(t:List zg)(j qx:Int)(hn:M.rs.length<=1048576)(P Q:World->World->Nat->Prop)(X:Hid (∀W1 O W3 W4 p o,μ w W1->P W1 O p->μ O W3->Q W3 W4 o->μ w W4->μ O W4->TK own W4 (p,o,m,cs,t)))(HR:Hid (∀W hv,μ w W->j0 W hv os->Calls prog 35 #[(π x),hv,ι j,ι qx] W λe z=>∃p,e=ε (.tuple #[(π p),ι 0])/\Hid (P W z p)/\Hid (μ W z)))(J:Hid (∀W,μ w W->Calls prog 37 #[(π m),C,.bool nb,ι j,ι qx] W λe z=>∃o,e=ε (.tuple #[(π o),ι 0])/\Hid (Q W z o)/\Hid (μ W z))):
  Calls prog 17 #[(π wb),.agg #[(π x),(π m)],C,.bool nb,ι j,ι qx] w λe z=>n5 B own w wb M V e z:=by
 obtain⟨i0,hi,ak,ag,aj⟩:=info_parts QT;have HH:=Ry ho.hand;have HW:=Ry h;have aa:=h.hd.size;clear h ho;go_enter func17,ntmps17;go_upto_region 1 with fail
 have I:Hid (μ w (w.alloc (.cells #[(π x),(π m)] 40))):=(zp _ _).alloc (zf _) _;have i:=Ry (Rz.new w #[(π x),(π m)] 40);generalize w.alloc (.cells #[(π x),(π m)] 40)=wX at *;go_upto_region 9 with (first|(go_at_call 34;refine(HH.out _ I.out).mono ?_;rintro e w1 ⟨hv,rfl,HV,a⟩;have D:=Ry (R5 I.out a.out);obtain⟨xc,_,R⟩:=(i.out.below a.out).boxed)|(go_at_call 35;refine(HR.out _ _ D.out HV.out.1).mono ?_;rintro e w2 ⟨p,rfl,N,c⟩;have al:=Ry (R5 D.out c.out);obtain⟨ae,_⟩:=((i.out.below a.out).below c.out).rules;have U:=((i.out.below a.out).below c.out).lt)|(go_at_call 36;refine(HV.out.2 _ c.out).mono ?_;rintro e w3 ⟨rfl,g⟩;have S:=Ry (R5 al.out g.out);obtain⟨ah,_⟩:=(((i.out.below a.out).below c.out).below g.out).rules;have Z:=(((i.out.below a.out).below c.out).below g.out).lt)|(go_at_call 37;refine(J.out _ S.out).mono ?_;rintro e w4 ⟨o,rfl,L,F⟩))
 have k:=Ry (R5 S.out F.out);have af:=Ry (X.out _ _ _ _ p o D.out N.out g.out L.out k.out (R5 g.out F.out));have l:=Ry (HW.out.below k.out);have ai:=(((i.out.below a.out).below c.out).below g.out).below F.out;clear N L HR J xc ae ah R U Z HH HV X;obtain⟨xc,_,R⟩:=ai.boxed;have G:=l.out.box;obtain⟨wc,wf,ao⟩:=G.boxed;have d:w4.ownsRow B 50 3 (V 1) M.rs.length (l0 M.rs):=l.out.hd.row 1 _ _ _ _ rfl;have aq:=zZ aa k.out.size;obtain⟨K,y,E⟩:=zq d;have ax:w4.cell? ⟨wb,1,none⟩=some (.slice K M.rs.length y):=by rw[wc,←E];rfl
 rw[E] at d;clear wc;go_region_law (first|(refine fw w4 _ [(π p),(π o),(π m)] 50 rfl (.tmp 65) (.tmp 71) 29 rfl B 50 i0 _ 3 24 underlying29 hi ak ag aj rfl (by decide) (.slice K M.rs.length y) M.rs.length (l0 M.rs) (by simp[Act.eval]) d (by exact(by repeat'(first|with_reducible(first|apply zR|assumption|apply zN|apply zA|apply zD|apply zS)|go_size))) w4.heap.size 1 (by simp[Act.eval]) (by exact Rz.drew (Rz.new _ _ _)) rfl (by simp[Value.oneCell']) (by omega) (by omega) (by omega) ?_;intro v' w5 Y H u ap ar;obtain⟨aw,an,rfl⟩:=zq Y;have ab:=G.save H (qK d G (by decide));obtain⟨au,av,am⟩:=ab.boxed))
 all_goals
  rw[←E] at H u;have hq:=l.out.put (f:=1) (M':={M with rs:=M.rs++[(p,o,m,cs,t)]}) (by decide) (λf hf=>by unfold yT.f;split<;>first|rfl|omega) (T:=50) (s:=3) (n:=M.rs.length+1) (by simp[yT.f,l0]) Y H (u.imp_right ze) l.out.nums λv z A ac ad=>⟨A.ints,A.win,A.num,A.lists,A.outer,A.lits,A.pairs,λr hr=>by
   rcases zW.1 hr with q|q;exact A.ress r q;rw[xC.1 q];exact af.out.keep ac (λb hb=>(l.out.tags 1 (by decide) b hb).2) (λb q1 q2=>(ad b q1).trans q2)⟩
  have HQ:=Ry hq;clear hq;go_wp2;go_ret;obtain⟨⟨v,r1,r2⟩,r3,_⟩:=HQ.out;exact⟨rfl,⟨v,_,_,by simp,r1,λb q=>r2 b (yE q k.out.size)⟩,(jp.of k.out).trans r3 λ_ _=>rfl⟩
end
end
def N3{B:Nat}{own:Sg}{w:World}{wb:Nat}{M:yT}{V:Nat->Value}(h:yh B own w wb M V){aa:Value}{nb:Bool}{os:Option (List (Option (List Int)))}(X:nW w aa nb os)(p:lR)(hp:p∈M.ps)(f I:Int)(am:ST f)(ar:ST I)(hn:M.rs.length<=1048576):
  Calls prog 17 #[(π wb),.agg #[.pointer (some ⟨p.1,0,none⟩),.pointer (some ⟨p.2.1,0,none⟩)],aa,.bool nb,ι f,ι I] w λe O=>n5 B own w wb M V e O:=by
 unfold ST at am ar;by_cases P:f<0∨1048576<f∨I<0∨1048576<I;exact i8 h X _ _ f I 8 (zh rfl) (λW hv _ _=>(Ox W _ _ f I (by omega) (by omega) P).mono λe O ⟨q1,J⟩=>by subst J;exact⟨q1,zp _ _⟩) (λW _=>(J2 W _ _ f I P).mono λe O ⟨q1,J⟩=>by subst J;exact⟨q1,zp _ _⟩);obtain⟨o,rfl⟩:∃o:Nat,f=(o:Int):=⟨f.toNat,by omega⟩;obtain⟨n,rfl⟩:∃n:Nat,I=(n:Int):=⟨I.toNat,by omega⟩;have u:o<=1048576:=by omega
 have E:n<=1048576:=by omega
 obtain⟨⟨lo,s,hB,hP,hQ,_,C,a0,ae⟩,x,hx⟩:=h.inn.pairs p hp;obtain⟨t0,i⟩:=LH hx;obtain⟨px,pm,m,t⟩:=p;dsimp only at *;have hU:S0 (xI own) w.heap.size:=λb q=>h.hd.under q;have au:∀b,xI own b->b<lo∨s.heap.size<=b:=λb q=>by
  apply Classical.byContradiction;intro c;exact q (ae b (by omega) (by omega))
 obtain⟨ao,aq,ay,ad,an,af,ap⟩:=hQ.read (z:=xI own) C au;have Q:=hP.same C;have ag:=hQ.same C;have ai:lo<=w.heap.size:=by
  obtain⟨q,_,_,J,_⟩:=Q;exact zZ q (Nat.le_of_lt J.lt)
 have j:=i.parts.runok.1;have h5:∀c∈m,(zx c).length<=5:=λc Z=>dA (i.parts.many c Z);have ax:∀c∈m,c.body.length<=999/\xg (zm c)<=1000/\(zx c).length<=5/\∀l∈zm c,∀t∈l.args,0<t.size:=λc Z=>by
  have h1:=i.body c Z;have h2:=(j.sums c Z).1;exact⟨by omega,by simpa [xg,zm] using h2,h5 c Z,λl hl a ha=>(i.args c Z l hl).2 a ha⟩
 have HO:=λW (r:μ w W)=>X.ord W r pm m t lo (ag.below r) ax i.len;cases r:jK m os;rw[r] at HO;have hk:rV m t os:=⟨j.len,j.names,j.fine,j.sums,j.few,j.vals,j.jm,X.len,X.each,(λq=>by rw[r] at q;cases q),λq=>by rw[r] at q;cases q⟩;exact i8 h X _ _ _ _ 9 (ze (zh rfl)) (λW hv F Y=>La W px m t hv os o n (Q.below F) Y hk r u E) (λW F=>JC u E (HO W F));rw[r] at HO;have G:=λW (hv:Value) (F:μ w W) (Y:j0 W hv os)=>P8 W px hx (Q.below F) i.parts (zZ ai F.size) hv os Y r o n u E;have H:=λW (F:μ w W)=>LE (z:=xI own) u E (HO W F) (ymk t m o n) (λW2 ah=>JT W2 pm o n ao aq ay ad an af m t0 t (hU.up (R5 F ah).size) (ap.below (R5 F ah)) i.parts i.ctx i.len i.names i.low i.body i.args u E i.few);have d:=Gv i.parts i.ctx o n;rcases hA:zzm (uQ t (zo m) none m) o n with _|y;rw[hA] at d G;have U:ymk t m o n=none:=by
  rcases hq:ymk t m o n with _|y;rfl;rw[hq] at d;exact d.elim
 rw[U] at H;exact i8 h X _ _ _ _ 10 (ze (ze rfl)) G H;obtain⟨D,ee⟩:=y;rw[hA] at d G;obtain⟨L,kk,U⟩:∃L k,ymk t m o n=some (L,k):=by
  rcases hq:ymk t m o n with _|y;rw[hq] at d;exact d.elim;exact⟨y.1,y.2,rfl⟩
 rw[U] at d H;have A:=d.2.card i.ctx;refine Nl h X _ _ m t _ _ hn (λW O rb=>∃R pv nv rv T,kB W.heap.size lo O rb t (zo m) R pv nv rv T/\W.cell? ⟨px,1,none⟩=some pv/\Sk t (zo m) R/\zxx (t.map (·.ji)) R=D/\R.qx=ee/\fE D R.count/\R.count<=1048576/\0<=R.jg) (λW O mb=>∃fv,W.heap.size<=mb/\Rz O mb #[fv,ι kk] 54/\yR (xI own) W.heap.size O fv L) ?_ G H;intro W1 W2 W3 W4 rb mb b1 ⟨R,pv,nv,rv,T,N,r0,r2,r3,r4,r5,r6,r7⟩ al ⟨fv,f1,f2,f3⟩ b4 ab;obtain⟨_,cv,ac,kv,k1,k2,k3,k4⟩:=ag;have g:∀b,w.heap.size<=b->¬xI own b:=λb q e=>e (h.hd.new b q);have K:=b1.size;have a3:=N.box.lt;have az:=al.size;have S:∀b,lo<=b->b<s.heap.size->¬xI own b:=λb q1 J e=>e (ae b q1 J);have aj:=hP;have aw:=hQ;obtain⟨g1,v0,av,g2,g3,g4⟩:=aj;obtain⟨e1,a1,ak,a2,e2,e3,e4,e5⟩:=aw;have ec:ac=ak:=by
  have q:=e2.same e1 C;rw[Rz] at q k1;rw[k1] at q;simp only[zr,Obj.cells.injEq,Array.mk.injEq,lP,and_true] at q;exact q.2.1
 have ht:=d.2;rw[←r3] at ht;refine⟨W1.heap.size,lo,R,L,kk,pv,nv,rv,fv,cv,ac,kv,T,N.below ab,⟨g _ (zZ K N.low),g mb (by have:=N.low;omega),S pm e1 e2.lt⟩,?_,λp a c=>?_,r2,ht,⟨(eP A r5),by rw[r4];exact d.1,r7⟩,f2,f3.low (zv _),by rw[eP A r5];exact r6,i.ctx,k1.below b4,zB (yk k3 (zv _)) b4,λb q=>?_⟩;have ep:pv=av:=by
  have q:=(g2.same g1 C).below b1;rw[q.rules.1] at r0;exact(Option.some.inj r0).symm
 rintro v (rfl|rfl|rfl|rfl) b q;subst ep;exact S b (yX g4 q) (yA g4 q);exact g b (zZ K (yX N.vals q));exact g b (zZ K (yX N.rows q));obtain⟨_,_,J,_⟩:=f3;have:=yX J q;have:=N.low;exact g b (by omega);obtain⟨fp,q⟩:=N.tries p a c;exact⟨fp,q.below ab,λb r=>g b (zZ K (q.lt b r).1)⟩;subst ec;exact S b (yX e4 q) (yA e4 q)
section
section
variable {B:Nat} {own:Sg} {w:World} {wb:Nat} {M:yT} {V:Nat->Value}
def BH{z:Nat->Prop}{w:World}{e:Nat}{m c k:Value}{a:κ}(l:Rz w e #[m,c,k] 45)(j:SA z w c a):∃d b,∀W,μ w W->W.cell? ⟨e,1,none⟩=some (.slice d a.length b)/\e<W.heap.size/\∀i (h:i<a.length),∃g,d=some ⟨g,0,none⟩/\g<W.heap.size/\W.cell? ⟨g,i,none⟩=some (.string a[i]):=by
 obtain⟨d,b,rfl⟩:=j.1.qy;refine⟨d,b,λW f=>?_⟩;have q:=l.below f;exact⟨by rw[q.rules.1];rfl,q.lt,λi h=>(j.1.below f).cell i h⟩
def Ib(h:yh B own w wb M V)(r:lS)(N:r∈M.rs)(a:ByteArray)(A:(zU r.2.2.2.2 a).isSome=false)(S:M.outer.length<=1048577)(G:M.lits.length<=1048577):
  Calls prog 19 #[(π wb),.agg #[.pointer (some ⟨r.1,0,none⟩),.pointer (some ⟨r.2.1,0,none⟩),.pointer (some ⟨r.2.2.1,0,none⟩)],.string a] w λe X=>RE B own w wb M e X:=by
 obtain⟨lo,lp,R,L,k,pv,nv,T,fv,cv,P,kv,u,q⟩:=h.inn.ress r N;obtain⟨x,m,s,O,t⟩:=r;dsimp only at *;have I:=Ry λW (o:μ w W)=>M5 W x t (zo O) R pv nv T u a (q.res.below o) (zh A);have E:=Ry λW (o:μ w W)=>oS (h.below o) S G;obtain⟨Y,J,l⟩:=BH q.prog q.names;have v:=Ry l;have f:=Ry ((Ej q.ctx.rise a).symm.trans A);have U:(R4 t).length<=1000:=by have:=q.told.few.2.1;simp only[R4,xY];exact this
 have HK:=Ry λC (o:μ w C)=>RE.kept h o;have K:∀W:World,(binOp .eql 31 (ν) (ν)).run prog W=.ok (.bool true) W:=λW=>by
  have:=run_equal_slice_nil W 31 30 none 0 0 underlying31;simp[binOp,this]
 clear h N A q l;generalize R4 t=b at *;go_enter func19,ntmps19;go_upto_region 1 with fail
 have c:Hid (μ w (w.alloc (.cells #[(π x),(π m),(π s)] 50))):=zP;have D:=Ry (Rz.new w #[(π x),(π m),(π s)] 50);generalize w.alloc (.cells #[(π x),(π m),(π s)] 50)=wX at *;obtain⟨xc,xf,aa⟩:=D.out.boxed;obtain⟨p1,Q,n⟩:=v.out _ c.out;have H:=Ry n;clear n;go_wp2_with (first|(go_at_call 38;refine(I.out _ c.out).mono ?_;rintro e C ⟨rfl,d⟩;obtain rfl:=d.symm)|(go_at_call 39;refine(E.out _ c.out).mono ?_;rintro e C ⟨rfl,d⟩;obtain rfl:=d.symm))
 go_loop [10,11] (λF j=>∃i:Nat,i<=b.length/\j=ι i/\F=.bool (yu a (b.take i))) (λ_ j=>b.length-(intOf j).toNat);exact⟨0,zv _,rfl,rfl⟩;obtain⟨i,hi,rfl,rfl⟩:=hrel;have Z:Hid (yu a (b.take i)=false):=by
  cases z:yu a (b.take i);exact rfl;have:=vH.2 (dJ (vH.1 z));rw[f.out] at this;cases this
 rw[Z.out];by_cases p:i<b.length
 .obtain⟨g,rfl,hg,cg⟩:=H.out i p;have hs:=qb (show b[i]≠a from λe=>by
   have:=vH.2 (e ▸ zt p);rw[f.out] at this;cases this)
  have HT:Hid (yu a (b.take (i+1))=false):=by
   cases z:yu a (b.take (i+1));exact rfl;have:=vH.2 (dJ (vH.1 z));rw[f.out] at this;cases this
  generalize b[i]=y at *;go_wp2;go_round;exact⟨i+1,by omega,by go_num,by rw[HT.out]⟩;simp[intOf];omega
 go_wp2;go_ret;exact HK.out _ c.out
end
end
section
def jH(B:Nat)(a:Sg)(e:World)(wb:Nat)(M:yT)(m:Nat)(wr:World):Prop:=(∃c f d,yh B c wr wb {M with ls:=M.ls++d} f/\d.length=m/\∀b,b<e.heap.size->c b=a b)/\∃N,zc N e wr/\∀b∈N,a b=(1,0)∨a b=(12,0)∨a b=(13,0)
section
variable {B:Nat} {own own1:Sg} {w w1 w2 wr W:World} {wb m:Nat} {M:yT} {V:Nat->Value}
def jH.keep(h:jH B own1 w2 wb M m wr){a e s n:Nat}{v:Value}{xs:List Value}(j:w2.ownsRow a e s v n xs)(c:∀b,v.ownBlock=some b->(own1 b).1=0∨19<=(own1 b).1):wr.ownsRow a e s v n xs:=by
 obtain⟨_,N,f,i⟩:=h;refine yK j f λb g d=>?_;have:=c b g;rcases i b d with q|q|q<;>rw[q] at this<;>simp at this
def jH.below(h:jH B own1 w2 wb M m wr)(b:μ wr W):jH B own1 w2 wb M m W:=by
 obtain⟨⟨a,j,c,g,i,e⟩,N,d,f⟩:=h;exact⟨⟨a,j,c,g.below b,i,e⟩,N,d.newer (zc.of (M:=[]) b) (by simp),f⟩
def jH.next(h:jH B own1 w2 wb M m wr){f g:Nat}{l:κ}{vb:Value}(o:own1 g=(22,M.ls.length+m+1))(n:R7 B w2 (sl g l.length) l)(a:R7 f w2 vb l)(D:∀b,vb.ownBlock=some b->(own1 b).1=0)(H:l.length<=1000)(y:M.ls.length+m<=2000000000000):
  Calls prog 41 #[(π wb),sl g l.length,vb] wr λe p=>e=ε (.bool true)/\jH B own1 w2 wb M (m+1) p:=by
 have i:=h.keep n (λb q=>by cases q;rw[o];simp);have d:=h.keep a (λb q=>zh (D b q));obtain⟨⟨s,L,t,C,rfl,j⟩,N,r,v⟩:=h;have J:=r.size;refine(P2 C (g:=g) (l:=l) (vb:=vb) ?_ i d H (by simpa using y)).mono λe p ⟨F,⟨c,k,E,I,G⟩,K,z,x⟩=>?_;rw[j g (yA n rfl),o];simp;refine⟨F,⟨c,k,t++[(g,E,l)],by rw[←kz];exact I,by simp,λb q=>(G b (by omega)).trans (j b q)⟩,_,sL r z,λb a=>?_⟩;rcases zW.1 a with a|a;exact v b a;obtain⟨u,A⟩:=xj.1 a;have:=x b u;rw[j b (by simpa using A)] at this;exact this
def Sx(own:Sg)(g:Nat)(a:List Nat)(c:Nat):Sg:=λb=>if b=g then(19,1) else if b∈a then(22,c+a.idxOf b+1) else own b
def rB{g e b:Nat}{a:List Nat}(d:b≠g)(c:b∉a):Sx own g a e b=own b:=by unfold Sx;rw[za d,za c]
def jH.start(h:yh B own w wb M V){g:Nat}{d:List Nat}(e:μ w w2)(f:w.heap.size<=g/\g<w2.heap.size)(a:∀x∈d,w.heap.size<=x/\x<w2.heap.size):jH B (Sx own g d M.ls.length) w2 wb M 0 w2:=by
 refine⟨⟨_,V,[],?_,rfl,λ_ _=>rfl⟩,[],zc.refl _ _,by simp⟩;rw[vR];exact h.more e (λb q=>rB (by omega) λc=>by have:=a b c;omega) λb q=>by
  rw[rB (by omega) λc=>by have:=a b c;omega];exact h.hd.new b (zZ e.size q)
def yR.lt{z:Nat->Prop}{lo:Nat}{v:Value}{fs:List zC}(h:yR z lo w v fs):yR (λb=>z b∨w.heap.size<=b) lo w v fs:=by
 obtain⟨c,f,g,d⟩:=h;exact⟨c,f,g,λi a b=>⟨(d i a b).1,λx e q=>q.elim ((d i a b).2 x e) λq=>by have:=yA (d i a b).1 e;omega⟩⟩
structure ta (w2:World) (wb:Nat) (gs:List Nat) (g ar n:Nat) (bv:Value) (RW:List (κ)) (B:Nat) (own1:Sg) (M:yT):Prop where
 gl:gs.length=n
 rl:RW.length=n
 a:w2.ownsRow B 30 1 (sl g n) n (gs.map (uZ ar))
 rows:∀k (h:k<n),(RW[k]'(by omega)).length=ar/\own1 (gs[k]'(by omega))=(22,M.ls.length+k+1)/\R7 B w2 (sl (gs[k]'(by omega)) ar) (RW[k]'(by omega))
 b:∃rvs:List Value,rvs.length=n/\w2.ownsRow 0 30 1 bv n rvs/\(∀b,bv.ownBlock=some b->(own1 b).1=0)/\∀k (h:k<n) (h2:k<rvs.length),R7 0 w2 rvs[k] (RW[k]'(by omega))/\∀b,rvs[k].ownBlock=some b->(own1 b).1=0
 ga:own1 g=(19,1)
def ta.at{g a n:Nat}{j:List Nat}{v:Option Addr}{cap K:Nat}{y:List (κ)}(h:ta w2 wb j g a n (.slice v K cap) y B own1 M){k:Nat}(d:k<n)(p:a<=1000)(X:M.ls.length+n<=2000000000000):∃f o c,v=some ⟨f,0,none⟩/\∀m wr,jH B own1 w2 wb M m wr->(wr.cell? ⟨g,k,none⟩=some (.slice (some ⟨j[k]'(by rw[h.gl];exact d),0,none⟩) a a)/\wr.cell? ⟨f,k,none⟩=some (.slice o a c)/\g<wr.heap.size/\f<wr.heap.size)/\(m=k->Calls prog 41 #[(π wb),.slice (some ⟨j[k]'(by rw[h.gl];exact d),0,none⟩) a a,.slice o a c] wr λe H=>e=ε (.bool true)/\jH B own1 w2 wb M (m+1) H):=by
 have U:=h.gl;have hR:=h.rl;obtain⟨i,D,R⟩:=h.rows k d;obtain⟨r,T,u,P,E⟩:=h.b;obtain⟨x,F⟩:=E k d (by omega);obtain⟨o,c,s⟩:=x.qy;obtain⟨f,z,Q,Z,e3,Y⟩:=g7 u k d;cases Q;refine⟨f,o,c,rfl,λm wr t=>⟨?_,λJ=>?_⟩⟩;obtain⟨G,I,A,L,f3,N⟩:=g7 (t.keep h.a λb q=>by cases q;rw[h.ga];simp) k d;cases A;obtain⟨G,I,C,O,d3,S⟩:=g7 (t.keep u λb q=>zh (P b q)) k d;cases C;rw[i] at s;exact⟨by rw[N];simp[uZ],by rw[S,s],L,O⟩;subst J;have q:=t.next (g:=j[m]) (l:=y[m]) (vb:=r[m]) D (by rw[i];exact R) x F (by rw[i];exact p) (by omega);rw[s,i] at q;exact q
end
end
section
section
variable {B:Nat} {own:Sg} {w W w1 w2:World} {wb:Nat} {M:yT} {V:Nat->Value}
def Mk(h:yh B own w wb M V){ns:κ}{m g:Nat}{rs:List zi}{c:List Nat}{bv:Value}(G:μ w W)(O:W.heap.size<=g)(D:w1.ownsRow W.heap.size 30 1 (.slice (some ⟨g,0,none⟩) rs.length rs.length) rs.length (c.map (uZ m)))(C:RS W.heap.size w1 (rs.map (n6 ns m)) c)(p:μ W w1)(f:μ w1 w2)(J:xx (λb=>xI own b∨w.heap.size<=b) w1.heap.size w2 bv (rs.map λr=>zX ns r m 3)):
  ta w2 wb c g m rs.length bv (rs.map λr=>zX ns r m 3) B (Sx own g c M.ls.length) M/\jH B (Sx own g c M.ls.length) w2 wb M 0 w2:=by
 have P:=h.hd.size;have K:=G.size;have I:g<w1.heap.size:=yA D rfl;have z:c.length=rs.length:=by simpa using C.1
 have l:∀k (o:k<rs.length),W.heap.size<=c[k]'(by omega)/\c[k]'(by omega)<w1.heap.size/\R7 W.heap.size w1 (sl (c[k]'(by omega)) m) (zX ns rs[k] m 3):=λk o=>by
  obtain⟨n,i⟩:=C.2.2 k (by simpa using o) (by omega);simp only[xV,n6,gT] at i;exact⟨n,yA i rfl,i⟩
 have d:∀x∈c,W.heap.size<=x/\x<w1.heap.size/\x≠g:=λx y=>by
  obtain⟨k,o,rfl⟩:=uO y;obtain⟨n,i,t⟩:=l k (by omega);exact⟨n,i,λe=>m7 t D (by decide) (show _=some c[k] from rfl) (by rw[e];rfl)⟩
 have A:c.Nodup:=C.2.1.imp fun{a b} (q:a<b)=>by omega
 have j:∀b,w1.heap.size<=b∨b<w.heap.size->Sx own g c M.ls.length b=own b:=λb q=>rB (by omega) λL=>by have:=d b L;omega
 have N:=f.size;refine⟨⟨z,by simp,yk (zB D f) (by omega),λk o=>⟨by simp[gT],?_,?_⟩,?_,zb rfl⟩,jH.start h (G.trans ((R5 p f).mono K)) ⟨by omega,by omega⟩ λx y=>by have:=d x y;omega⟩;have s:k<c.length:=by omega
 have:=d _ (zt s);unfold Sx;rw[za this.2.2,zb (zt s),A.idxOf_getElem];simp only[xV];exact yk ((l k o).2.2.below f) (by omega);obtain⟨u,n,i,t⟩:=J;simp only[xY] at n i;refine⟨u,n,yk i (zv _),λb v=>?_,λk H F=>⟨(t k (by simpa using H) F).1,λb v=>?_⟩⟩;have:=yX i v;rw[j b (zh this),h.hd.new b (by have:=p.size;omega)];have:=(t k (by simpa using H) F).2 b v;have E:¬xI own b:=λe=>this (zh e);rw[j b (ze (Nat.lt_of_not_le λe=>this (ze e)))];unfold xI at E;rw[Classical.not_not.1 E]
def I3{g n:Nat}{y hs:List Nat}{P wq w5:World}{d:Sg}{L:Nat->Value}{xs:List rx}{v:Value}(r:μ w w2)(Z:w.heap.size<=g/\g<w2.heap.size)(I:∀x∈y,w.heap.size<=x)(X:yh B d P wb {M with ls:=M.ls++xs} L)(aa:xs.length=n)(hn:n<=1048576)(S:∀b,b<w2.heap.size->d b=Sx own g y M.ls.length b){N:List Nat}(U:zc N w2 P)(hN:∀b∈N,Sx own g y M.ls.length b=(1,0)∨Sx own g y M.ls.length b=(12,0)∨Sx own g y M.ls.length b=(13,0))(p:zc [g] P wq)(hl:hs.length=n)
  (F:wq.ownsRow B 30 1 (sl g n) n (hs.map (uZ (M.outer.length+1)))) (H:∀x∈hs,P.heap.size<=x/\∃c,Rz wq x c 9/\c[0]?=some (.string ByteArray.empty)) (ho:w5.ownsRow B 31 1 v (M.outer.length+1) (l6 M.outer++[sl g n])) (R:zc (L 12).ownBlock.toList wq w5) (Q:v.ownBlock=(L 12).ownBlock∨∃b,v.ownBlock=some b/\wq.heap.size<=b):RE B own w wb M (ε (.bool true)) (w5.setCell ⟨wb,12,none⟩ v):=by
 have s1:=r.size;have s2:=U.size;have s3:=p.size;have u:d g=(19,1):=(S g Z.2).trans (zb rfl);have m:∀b,b<w.heap.size->d b=own b:=λb q=>(S b (by omega)).trans (rB (by omega) λk=>by have:=I b k;omega);obtain⟨a,h⟩:∃a:Sg,∀b,a b=if b=g then(0,0) else d b:=⟨_,λ_=>rfl⟩
 have O:=(X.save p λb r=>by rw[xC.1 r];exact u).retag (own':=a) λb q=>by
  rw[h,za λe=>q (by rw[e];exact u)]
 have C:∀x∈hs,a x=(0,0):=λx A=>by
  have:=(H x A).1;rw[h,za (by omega)];exact X.hd.new x this
 have o:∀b,a b=(0,0)->b∉wb::(L 12).ownBlock.toList:=λb e k=>(O.tags 12 (by decide) b k).2 e;have K:a g=(0,0):=by rw[h,zb rfl]
 obtain⟨⟨z,Y,r2⟩,_,r3⟩:=O.put (f:=12) (M':={M with ls:=M.ls++xs,outer:=M.outer++[(g,n)]}) (by decide) (v:=v) (λf hf=>by unfold yT.f;split<;>first|rfl|omega) (T:=31) (s:=1) (n:=M.outer.length+1) (xs:=l6 M.outer++[sl g n]) (by simp[yT.f,l6]) ho R (Q.imp_right ze) O.nums λG w' j D E=>⟨j.ints,j.win,j.num,j.lists,λi hi=>by
  by_cases J:i<M.outer.length;have:=j.outer i J;simp only[uD J];exact this;obtain rfl:i=M.outer.length:=by simp at hi;omega
  simp only[nK];refine⟨(E g (by omega)).trans K,hs,hl,hn,yK F D λb r=>by cases r;exact o g K,λx A=>?_⟩;obtain⟨_,c,l,t⟩:=H x A;exact⟨(E x l.lt).trans (C x A),c,l.save D (o x (C x A)),t⟩,j.lits,j.pairs,j.ress⟩
 refine⟨rfl,⟨z,_,_,Y,⟨by simp,by simp,by simp,by simp,by simp,by simp;omega,by simp,by simp,rfl⟩,λb q=>?_⟩,⟨_,sL (sL (sL (zc.of (M:=[]) r) U) p) r3,λb k=>?_⟩⟩;rw[r2 b (by omega),h,za (by omega)];exact m b q;simp only[po,zW,xj,decide_eq_true_eq] at k;unfold xI;rcases k with (⟨l,t⟩|⟨l,t⟩)|⟨l,t⟩
 have:=hN b l;rw[rB (by omega) λk=>by have:=I b k;omega] at this;rcases this with e|e|e<;>rw[e]<;>decide
 rw[xC.1 l] at t;omega;have:=(O.tags 12 (by decide) b l).2;unfold xI at this;rw[h,za (by omega),m b t] at this;exact this
def QI:(prog.info? 31).map (λi=>(i.zero,i.size,i.bytes))=some (some (ν),1,24):=by kernel_rfl
def N6(h:yh B own w wb M V)(r:lS)(hr:r∈M.rs)(a:ByteArray)(hp:(zU r.2.2.2.2 a).isSome=true)(hn:M.outer.length<=1048577)(bx:M.lits.length<=1048577)(b8:M.ls.length<=1200000000000):
  Calls prog 19 #[(π wb),.agg #[.pointer (some ⟨r.1,0,none⟩),.pointer (some ⟨r.2.1,0,none⟩),.pointer (some ⟨r.2.2.1,0,none⟩)],.string a] w λe C=>RE B own w wb M e C:=by
 obtain⟨lo,lp,R,L,k,pv,nv,rv,fv,cv,b4,kv,bg,q⟩:=h.inn.ress r hr;obtain⟨x,m,pm,cs,t⟩:=r;dsimp only at *;obtain⟨p,J,S,A⟩:=NI q.told hp;have an:zF t a<R.rows.length:=by rw[S,q.told.len];exact J
 obtain⟨a3,hG,ay⟩:=q.told.rows an;have bC:=(q.told.ar J).1;have aQ:Hid (∀W,μ w W->Calls prog 38 #[(π x),.string a] W λe C=>FL (zo cs) (yo t p) (jB R p) W e C):=λW X=>by
  have:=PL W x t (zo cs) R pv nv rv bg a (q.res.below X) hp an a3 _ hG (by rw[S];omega);rw[S] at this;exact this
 have aB:Hid (∀W,μ w W->Calls prog 40 #[(π m),.string a] W λe C=>∃v,e=.returned v/\Hid (xx (λb=>xI own b∨w.heap.size<=b) W.heap.size C v ((jB R p).map λr=>zX (zo cs) r (yo t p) 3))/\Hid (μ W C)):=λW X=>by
  have:=JE W m k fv L a (yo t p) (q.model.below X) (q.fl.lt.below X) q.few (by rw[←A];exact MP q.told q.rep J) (by omega);rw[←A,LS q.told q.rep J,A] at this;exact this
 have a5:=Ry λW (X:μ w W)=>oS (h.below X) hn bx;obtain⟨b6,b2,a2⟩:=BH q.prog q.names;have a7:=Ry a2;have aL:=Ry ((Ej q.ctx.rise a).symm.trans hp);have bH:(R4 t).length<=1000:=by have:=q.told.few.2.1;simp only[R4,xY];exact this
 rw[S] at ay;have H0:=Ry h;clear h hr hp q a2 an hG S A J;generalize R4 t=f at *;generalize jB R p=rs at *;generalize yo t p=s at *;generalize zo cs=ns at *;go_enter func19,ntmps19;go_upto_region 1 with fail
 have D:Hid (μ w (w.alloc (.cells #[(π x),(π m),(π pm)] 50))):=zP;have au:=Ry (Rz.new w #[(π x),(π m),(π pm)] 50);generalize w.alloc (.cells #[(π x),(π m),(π pm)] 50)=wX at *;obtain⟨xc,xf,bi⟩:=au.out.boxed;go_wp2_with (first|(go_at_call 38;refine(aQ.out _ D.out).mono ?_;rintro e w1 ⟨g,Q,hg,rfl,ho,aI,aa⟩;have I:=Ry (R5 D.out aa);obtain⟨aX,ba,az⟩:=(au.out.below aa).boxed;obtain⟨p1,bo,A⟩:=a7.out _ I.out;have a6:=Ry A;clear A)|(go_at_call 39;refine(a5.out _ I.out).mono ?_;rintro e w2 ⟨rfl,bm⟩;obtain rfl:=bm.symm))
 have HO:=Ry ho;have Z:=Ry aI;have af:=Ry aa;clear ho aI aa xc xf bi aQ a5;go_loop [10,11] (λbt ap=>∃i:Nat,i<=f.length/\ap=ι i/\bt=.bool (yu a (f.take i))) (λ_ ap=>f.length-(intOf ap).toNat);exact⟨0,zv _,rfl,rfl⟩;obtain⟨i,hi,rfl,rfl⟩:=hrel;by_cases aF:i<f.length
 .obtain⟨gn,rfl,bJ,cg⟩:=a6.out i aF;have HT:Hid (yu a (f.take (i+1))=(yu a (f.take i)||(f[i].toList == a.toList))):=by
   rw[Hid,yP aF,I1];congr 1;by_cases e:f[i]=a;rw[jF e];simp[e];rw[qb e];simp[e]
  generalize f[i]=y at *;generalize yu a (f.take i)=mb at *;cases mb
  .go_wp2;go_round;exact⟨i+1,by omega,by go_num,by rw[HT.out];rfl⟩;simp[intOf];omega
  go_wp2;go_round;exact⟨i+1,by omega,by go_num,by rw[HT.out];rfl⟩;simp[intOf];omega
 have HT:Hid (yu a (f.take i)=true):=by rw[Hid,xk (by omega)];exact aL.out
 rw[HT.out];have aG:Hid (∀w2 bv,xx (λb=>xI own b∨w.heap.size<=b) w1.heap.size w2 bv (rs.map λr=>zX ns r s 3)->μ w1 w2->(∃ao aA,bv=.slice ao rs.length aA)/\ta w2 wb Q g s rs.length bv (rs.map λr=>zX ns r s 3) B (Sx own g Q M.ls.length) M/\jH B (Sx own g Q M.ls.length) w2 wb M 0 w2):=λw2 bv q1 q2=>⟨by obtain⟨bD,_,q,_⟩:=q1;simpa using zq q,Mk H0.out D.out hg HO.out Z.out af.out q2 q1⟩;have a1:∀x∈Q,w.heap.size<=x:=λx hx=>by
  obtain⟨k',be,rfl⟩:=uO hx;have:=(Z.out.2.2 k' (by have:=Z.out.1;omega) be).1;have:=D.out.size;omega
 have a9:=Ry a1;have aD:g<w1.heap.size:=yA HO.out rfl;have b0:w.heap.size<=g:=zZ D.out.size hg;clear a6 HO Z a7 aL HT a1;go_wp2_with (go_at_call 40;refine(aB.out _ I.out).mono ?_;rintro e w2 ⟨bv,rfl,a0,ad⟩;obtain⟨⟨ao,aA,bq⟩,aC,a4⟩:=aG.out _ _ a0.out ad.out;subst bq;have F:=Ry aC;have aP:=Ry a4;clear aC a4)
 have aK:=Ry (R5 I.out ad.out);have ak:=yE aD ad.out.size;clear aB aG a0 ad aX ba az p1 bo af I au D;generalize ai:Sx own g Q M.ls.length=aj at *;have ag:=Ry ai;clear ai;generalize (rs.map λr=>zX ns r s 3)=RW at *;generalize rs.length=n at *;go_loopw [13,14] (λal _ wr=>∃i:Nat,i<=n/\al=ι i/\Hid (jH B aj w2 wb M i wr)) (λal _ _=>n-(intOf al).toNat);exact⟨0,zv _,rfl,aP⟩;clear aP;obtain⟨j,hj,rfl,HR⟩:=hrel;by_cases aH:j<n
 .obtain⟨gb,o,c,aS,aw⟩:=F.out.at aH (by omega) (by omega);subst aS;have ac:=Ry aw;clear aw;generalize Q[j]'(by rw[F.out.gl];exact aH)=gj at *;obtain⟨⟨c1,c2,l1,l2⟩,_⟩:=ac.out _ _ HR.out;have bp:Hid (∀W,μ wr W->Calls prog 41 #[(π wb),.slice (some ⟨gj,0,none⟩) s s,.slice o s c] W λe C=>e=ε (.bool true)/\Hid (jH B aj w2 wb M (j+1) C)/\C.cell? ⟨g,j,none⟩=some (.slice (some ⟨gj,0,none⟩) s s)/\C.cell? ⟨gb,j,none⟩=some (.slice o s c)):=λW X=>by
   refine((ac.out _ _ (HR.out.below X)).2 rfl).mono ?_;rintro e C ⟨q1,q2⟩;have q3:=(ac.out _ _ q2).1;exact⟨q1,q2,q3.1,q3.2.1⟩
  clear ac HR;have bG:(j:Int)<(n:Int):=by omega
  go_wp2;go_region_held3 (λC=>C.cell? ⟨g,j,none⟩=some (.slice (some ⟨gj,0,none⟩) s s)/\C.cell? ⟨gb,j,none⟩=some (.slice o s c)) (first|go_keep|(go_simp;done)) (first|(go_at_call 41;refine(bp.out _ (by exact(by repeat'(first|with_reducible(first|apply zR|assumption|apply zN|apply zA|apply zD|apply zS)|go_size)))).mono ?_;rintro e K ⟨rfl,br,z0,z1⟩))
  all_goals
   go_wp2;go_roundw;exact⟨j+1,by omega,by go_num,br⟩;simp[intOf];omega
 obtain rfl:j=n:=by omega
 obtain⟨⟨b3,U,xs,h3,bz,ht⟩,N,hS,hN⟩:=HR.out;have ha:=HR.out.keep F.out.a λb q=>by cases q;rw[F.out.ga];simp
 have z:wr.ownsRow B 31 1 (U 12) M.outer.length (l6 M.outer):=h3.hd.row 12 _ _ _ _ rfl;obtain⟨ae,Y,T⟩:=zq z;have aq:=h3.box;rw[T] at aq z;have bd:=yE ak hS.size;have bw:g≠wb:=λe=>by have:=vD ha aq (by decide) (show _=some g from rfl);exact this e
 have a8:∀b,(Value.slice ae M.outer.length Y).ownBlock=some b->b≠g:=λb q e=>m7 z ha (by decide) q (by rw[e];rfl);have O:=Ry λE wq K v (e1:E.length=j) e2 e3 e4 e5 e6 e7=>I3 (hs:=E) (wq:=wq) (w5:=K) (v:=v) aK.out ⟨b0,ak⟩ a9.out h3 bz ay (by rw[ag.out];exact ht) hS (by rw[ag.out];exact hN) e2 e1 e3 e4 e5 e6 e7;have HG:=Ry F.out.gl;rw[T] at O;have HA:=Ry ha;have ah:=Ry z;clear hN hS ht h3 HR F aK a9 T ha z H0;generalize M.outer.length=d at *;have aE:=λW:World=>run_make_row' (P:=prog) (w:=W) 30 9 (.string ByteArray.empty) 16 underlying30 QN rfl .i64 .i64 (d+1) (by omega) (by omega);rw[show((d+1:Nat):Int)=(d:Int)+1 by omega] at aE;obtain⟨w3,rfl⟩:∃w3,w3=wr:=⟨_,rfl⟩;obtain⟨i0,aY,bu,bh,bn⟩:=info_parts QI;go_wp2;go_loopw [15] (λav wq=>∃(i:Nat) (E:List Nat),i<=j/\av=ι i/\Hid (E.length=i)/\Hid (wq.ownsRow B 30 1 (sl g j) j (E.map (uZ (d+1))++(Q.drop i).map (uZ s)))/\Hid (∀x∈E,w3.heap.size<=x/\∃c,Rz wq x c 9/\c[0]?=some (.string ByteArray.empty))/\Hid (zc [g] w3 wq)) (λav _=>j-(intOf av).toNat);exact⟨0,[],zv _,rfl,rfl,by simpa [Hid] using HA.out,by simp[Hid],zc.refl _ _⟩;obtain⟨i,E,bE,rfl,aJ,G,ab,l⟩:=hrel;have ar:=aq.save l.out (by simpa using Ne.symm bw);obtain⟨bc,bf,bl⟩:=ar.boxed;have bb:=yE bd l.out.size;by_cases aU:i<j
 .have bI:=uH G.out;have aZ:Hid (∃H:List Nat,H.length=i+1/\World.ownsRow ((wr.setCell ⟨g,i,none⟩ (.slice (some ⟨wr.heap.size,0,none⟩) (d+1) (d+1))).alloc (.cells (madeCells #[.string ByteArray.empty] (d+1)) 9)) B 30 1 (sl g j) j (H.map (uZ (d+1))++(Q.drop (i+1)).map (uZ s))/\(∀x∈H,w3.heap.size<=x/\∃c,Rz ((wr.setCell ⟨g,i,none⟩ (.slice (some ⟨wr.heap.size,0,none⟩) (d+1) (d+1))).alloc (.cells (madeCells #[.string ByteArray.empty] (d+1)) 9)) x c 9/\c[0]?=some (.string ByteArray.empty))/\zc [g] w3 ((wr.setCell ⟨g,i,none⟩ (.slice (some ⟨wr.heap.size,0,none⟩) (d+1) (d+1))).alloc (.cells (madeCells #[.string ByteArray.empty] (d+1)) 9))):=by
   have hh:=aJ.out;have bB:=HG.out;have bs:=l.out.size;have aM:zc [g] wr (wr.setCell ⟨g,i,none⟩ (.slice (some ⟨wr.heap.size,0,none⟩) (d+1) (d+1))):=zc.set _ _ _ _;have hz:(wr.setCell ⟨g,i,none⟩ (.slice (some ⟨wr.heap.size,0,none⟩) (d+1) (d+1))).heap.size=wr.heap.size:=by simp[World.setCell]
   refine⟨E++[wr.heap.size],by simp[hh],?_,λx hx=>?_,l.out.trans (aM.trans (zc.of zP))⟩;have q:=uj G.out i (by simp;omega) (.slice (some ⟨wr.heap.size,0,none⟩) (d+1) (d+1));have e:(E.map (uZ (d+1))++(Q.drop i).map (uZ s)).set i (.slice (some ⟨wr.heap.size,0,none⟩) (d+1) (d+1))=(E++[wr.heap.size]).map (uZ (d+1))++(Q.drop (i+1)).map (uZ s):=by
    rw[fm _ _ (by simp;omega),xh (show i<Q.length by omega),xZ,xY,hh,jv,nZ,vg];simp[uZ]
   rw[e] at q;exact zB q zP;rcases zW.1 hx with hx|hx;obtain⟨q1,c,q2,q3⟩:=ab.out x hx;exact⟨q1,c,(q2.save aM (by simp;omega)).below zP,q3⟩;rw[xC.1 hx];exact⟨bs,_,Rz.newAt _ _ _ _ hz.symm,by simp[madeCells]⟩
  have aV:∃u,wr.cell? ⟨g,i,none⟩=some u:=by
   obtain⟨g',c',f1,f2,f3,f4⟩:=g7 G.out i aU;cases f1;exact⟨_,f4⟩
  obtain⟨u,hu⟩:=aV;have b9:(i:Int)<(j:Int):=by omega
  clear G ab l;go_wp2;obtain⟨H,d1,d2,d3,d4⟩:=aZ.out;go_roundw;exact⟨i+1,H,by omega,by go_num,d1,d2,d3,d4⟩;simp[intOf];omega
 obtain rfl:i=j:=by omega
 have am:Hid (wr.ownsRow B 30 1 (sl g i) i (E.map (uZ (d+1)))):=by
  have q:=G.out;rw[ua (by have:=HG.out;omega)] at q;simpa [Hid] using q
 have aR:=Ry (yK ah.out l.out λb X=>by simpa using a8 b X);have HE:=Ry λK v=>O.out E wr K v aJ.out l.out am.out ab.out;have aT:B<=wr.heap.size:=zZ (Nat.le_of_lt (Nat.lt_of_le_of_lt (yX am.out rfl) bb)) (zf _);have bk:Hid (∀K,zc (Value.slice ae d Y).ownBlock.toList wr K->Rz K wb #[U 0,U 1,U 2,U 3,ι M.a,ι M.n,ι M.ex,U 7,.bool M.nn,U 9,U 10,U 11,.slice ae d Y,U 13] 35):=λK q=>ar.save q (qK aR.out ar (by decide));clear O G ab l am HA ah aE;go_wp2_with (at_builtin;refine ko wr _ [.slice (some ⟨g,0,none⟩) i i] _ rfl (.tmp 116) (.tmp 118) 32 rfl B 31 i0 _ 1 24 underlying32 aY bu bh bn rfl (by decide) (.slice ae d Y) d (l6 M.outer) rfl aR.out (zp _ _) _ _ rfl (by simp) rfl (by simp[Value.oneCell']) (by omega) (by omega) aT ?_;intro v5 K aN aO ax;obtain⟨bF,b1,rfl⟩:=zq aN;have aW:=bk.out _ aO;obtain⟨bA,b5,b7⟩:=aW.boxed)
 have HF:=Ry (HE.out K _ aN aO ax);go_ret;exact HF.out
end
end
end Go.Proofs.YteampbddflhngaaGreat
