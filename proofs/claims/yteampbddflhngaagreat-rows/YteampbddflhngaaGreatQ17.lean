import Derived.Test.YteampbddflhngaaGreatQ16
namespace Go.Proofs.YteampbddflhngaaGreat
set_option linter.all false
set_option maxRecDepth 100000
set_option maxHeartbeats 4000000
open Go.Proofs.Tryz Go.RowKit
section
section
variable {B:Nat} {own:Sg} {w:World} {wb:Nat} {M:yT} {V:Nat->Value}
def Ji(h:yh B own w wb M V)(s:ByteArray)(hs:s.size<=1048576)(ag:M.ps.length<=1048576):
  Calls prog 16 #[(π wb),.string s] w λe Y=>RE B own w wb M e Y:=by
 have g:s.size<=9223372036854775807:=by omega
 have C:=h.hd.size;have J:=Ry h;cases z:ur s with
 |error k=>
  have hk:=GS z;have u:=Ry z;clear z h;go_enter func16,ntmps16;go_wp2_with (first|(go_at_call 32;refine(MX u.out _ g).mono ?_;rintro e w1 ⟨rfl,i⟩)|(go_at_call 33;refine(J0 u.out _ g).mono ?_;rintro e P ⟨rfl,d⟩))
  go_ret;exact RE.kept J.out (R5 i d)
 |ok p=>
  obtain⟨cs,t⟩:=p;obtain⟨i0,hi,O,I,E⟩:=info_parts QX;have u:=Ry z;obtain⟨A,j,H⟩:=zq (h.hd.row 0 _ _ _ _ rfl);have G:Hid (∀W,μ w W->W.ownsRow B 40 2 (.slice A M.ps.length j) M.ps.length (lV M.ps)/\Rz W wb #[.slice A M.ps.length j,V 1,V 2,V 3,ι M.a,ι M.n,ι M.ex,V 7,.bool M.nn,V 9,V 10,V 11,V 12,V 13] 35):=λW X=>by
   rw[←H];exact⟨(h.below X).hd.row 0 _ _ _ _ rfl,(h.below X).box⟩
  have HV:=Ry H;clear z h H;go_enter func16,ntmps16;go_wp2_with (first|(go_at_call 32;refine(Qj u.out _ g).mono ?_;rintro e w1 ⟨Q,rfl,N,i⟩)|(go_at_call 33;refine(K5 u.out _ g).mono ?_;rintro e P ⟨R,rfl,K,d⟩;have c:=R5 i d;obtain⟨r,a⟩:=G.out _ c;obtain⟨ae,af,U⟩:=a.boxed;have aa:=c.size)|(at_builtin;refine ko P _ [(π Q),(π R)] _ rfl (.tmp 35) (.tmp 39) 28 rfl B 40 i0 _ 2 16 underlying28 hi O I E rfl (by decide) _ _ _ rfl r (zp _ _) _ _ rfl (by simp) rfl (by simp[Value.oneCell']) (by omega) (by omega) (by omega) ?_;intro v' w3 y v o;obtain⟨ab,S,rfl⟩:=zq y;have F:=a.save v (qK r a (by decide));obtain⟨ac,ad,Z⟩:=F.boxed))
  go_ret;have x:=J.out.below c;rw[←HV.out] at v o;obtain⟨⟨m,r1,r2⟩,r3,_⟩:=x.put (f:=0) (M':={M with ps:=M.ps++[(Q,R,cs,t)]}) (by decide) (λf hf=>by unfold yT.f;split<;>first|rfl|omega) (T:=40) (s:=2) (n:=M.ps.length+1) (by simp[yT.f,lV]) y v (o.imp_right ze) x.nums λm Y l D L=>⟨l.ints,l.win,l.num,l.lists,l.outer,l.lits,λp hp=>by
   rcases zW.1 hp with q|q;exact l.pairs p q;rw[xC.1 q];exact(nL.new (own:=own) C (N.below d) (K.low i.size) (Jv u.out) ⟨s,u.out⟩ J.out.hd.new).keep D (λb hb=>(x.tags 0 (by decide) b hb).2) (λb q1 q2=>(L b q1).trans q2),l.ress⟩
  exact⟨rfl,⟨m,_,_,r1,⟨by simp,by simp,by simp,by simp,by simp,by simp,by simp,by simp,rfl⟩,λb q=>r2 b (by omega)⟩,(jp.of c).trans r3 λ_ _=>rfl⟩
def yh.turn{d:World}(h:yh B own w wb M V){row':κ}{v':Value}(o:R7 B d v' row')(k:zc (V 9).ownBlock.toList w d)(e:v'.ownBlock=(V 9).ownBlock∨v'.ownBlock=none∨∃g,v'.ownBlock=some g/\w.heap.size<=g)(l:row'.length<=M.row.length+1):RE B own w wb M (ε (.bool true)) (d.setCell ⟨wb,9,none⟩ v')/\∃a,yh B a (d.setCell ⟨wb,9,none⟩ v') wb {M with row:=row'} (kt V 9 v')/\∀b,b<w.heap.size->a b=own b:=by
 obtain⟨⟨a,j,i⟩,m,_⟩:=h.put (f:=9) (M':={M with row:=row'}) (by decide) (λf p=>by unfold yT.f;split<;>first|rfl|omega) (T:=9) (s:=1) (n:=row'.length) rfl o k e h.nums λa q c _ _=>⟨c.ints,c.win,c.num,c.lists,c.outer,c.lits,c.pairs,c.ress⟩;exact⟨⟨rfl,⟨a,_,_,j,⟨by simp,by simp,l,by simp,by simp,by simp,by simp,by simp,rfl⟩,i⟩,m⟩,a,j,i⟩
def LU(h:yh B own w wb M V)(a b c:Int)(s:ByteArray)(ab:M.row.length<=1048576):
  Calls prog 94 #[(π wb),.agg #[ι 9,ι a,ι b,ι c,.string s]] w λe w'=>RE B own w wb M e w':=by
 obtain⟨P,Y,y,u,t⟩:=info_parts QN;have Z:=h.hd.size;obtain⟨L,x,F⟩:=zq (h.hd.row 9 _ _ _ _ rfl);have m:w.ownsRow B 9 1 (V 9) M.row.length (M.row.map Value.string):=h.hd.row 9 _ _ _ _ rfl;have A:=h.box;rw[F] at m A;have R:=Ry h;have HV:=Ry F;obtain⟨hc,hf,ac⟩:=A.boxed;clear h F;cases U:(bits BinOp.and IntKind.i64 a 1 == 1)
 .go_enter func94,ntmps94;go_wp2;go_region_law (first|(refine fw w _ [.string s] 9 rfl (.tmp 177) (.tmp 180) 30 rfl B 9 P _ 1 16 underlying30 Y y u t rfl (by decide) (.slice L M.row.length x) M.row.length (M.row.map Value.string) (by simp[Act.eval]) m (by exact(by repeat'(first|with_reducible(first|apply zR|assumption|apply zN|apply zA|apply zD|apply zS)|go_size))) (w.heap.size+1) 1 (by simp[Act.eval]) (by exact Rz.drew (Rz.newAt _ _ _ _ (by simp))) rfl (by simp[Value.oneCell']) (by omega) (by omega) (by omega) ?_;intro O C i f d I v;obtain⟨k,g,rfl⟩:=zq i;have n:=A.save f (qK m A (by decide));obtain⟨J,K,r⟩:=n.boxed))
  all_goals
   have l:R7 B C (.slice k (M.row.length+1) g) (M.row++[s]):=by
    unfold R7;rw[yC,vg];exact i
   rw[←HV.out] at f d;have N:=Ry (R.out.turn l f (d.imp_right ze) (by simp)).1;go_wp2;go_ret;exact N.out
 have X:=Ry (R.out.turn (row':=[]) (v':=ν) (yW _ _ _ _) (zc.refl _ _) (ze (zh rfl)) (by simp));have z:(w.setCell ⟨wb,9,none⟩ (ν)).heap.size=w.heap.size:=by simp[World.setCell]
 go_enter func94,ntmps94;go_wp2;generalize w.setCell ⟨wb,9,none⟩ (ν)=E at *;obtain⟨⟨_,_,hz⟩,S,D,Q⟩:=X.out;have H:=Ry D;have T:=Ry Q;have p:=D.box;simp only[kt] at p;obtain⟨ad,aa,W⟩:=p.boxed;have G:E.ownsRow B 9 1 (ν) 0 []:=yW _ _ _ _;clear D Q X;go_region_law (first|(refine fw E _ [.string s] 9 rfl (.tmp 177) (.tmp 180) 30 rfl B 9 P _ 1 16 underlying30 Y y u t rfl (by decide) (ν) 0 [] (by simp[Act.eval]) G (by exact(by repeat'(first|with_reducible(first|apply zR|assumption|apply zN|apply zA|apply zD|apply zS)|go_size))) (E.heap.size+1) 1 (by simp[Act.eval,z]) (by exact Rz.drew (Rz.newAt _ _ _ _ (by simp))) rfl (by simp[Value.oneCell']) (by omega) (by omega) (by omega) ?_;intro O C i f d I v;obtain⟨k,g,rfl⟩:=zq i;have n:=p.save f (by simp[Value.ownBlock]);obtain⟨J,K,r⟩:=n.boxed))
 all_goals
  have l:R7 B C (.slice k (0+1) g) [s]:=i;have N:=Ry (H.out.turn l f (d.imp_right ze) (by simp)).1;go_wp2;go_ret;obtain⟨q1,⟨o,M',V',q2,j,q4⟩,q5⟩:=N.out;exact⟨q1,⟨o,M',V',q2,⟨j.ps,j.rs,by have:=j.row;simp at this;omega,j.ins,j.ord,j.ls,j.outer,j.lits,j.nn⟩,λb q=>(q4 b (by omega)).trans (T.out b q)⟩,hz.out.trans q5 T.out⟩
end
end
section
section
variable {B:Nat} {own:Sg} {w:World} {wb:Nat} {M:yT} {V:Nat->Value}
def yh.mark(h:yh B own w wb M V)(k:Nat)(K:k<M.ls.length)(i:Nat)(hi:i<M.ls[k].2.2.length)(s:ByteArray):
  yh B own ((w.setCell ⟨M.ls[k].1,i,none⟩ (.string s)).setCell ⟨M.ls[k].2.1,i,none⟩ (.string s)) wb {M with ls:=M.ls.set k (M.ls[k].1,M.ls[k].2.1,M.ls[k].2.2.set i s)} V/\jp own w ((w.setCell ⟨M.ls[k].1,i,none⟩ (.string s)).setCell ⟨M.ls[k].2.1,i,none⟩ (.string s)):=by
 obtain⟨⟨I,U⟩,⟨Y,N⟩,X⟩:=h.inn.lists k K;have e3:mD (M.ls.set k (M.ls[k].1,M.ls[k].2.1,M.ls[k].2.2.set i s))=mD M.ls:=Fz K (by simp);have e4:mu (M.ls.set k (M.ls[k].1,M.ls[k].2.1,M.ls[k].2.2.set i s))=mu M.ls:=Fz K (by simp);generalize ab:M.ls[k].1=D at *;generalize aa:M.ls[k].2.1=E at *;generalize hl:M.ls[k].2.2=l at *;have y:zc [D,E] w ((w.setCell ⟨D,i,none⟩ (.string s)).setCell ⟨E,i,none⟩ (.string s)):=((zc.set w D i _).more (by simp)).trans ((zc.set _ E i _).more (by simp));have L:∀b∈[D,E],own b=(22,k+1)∨own b=(23,k+1):=λb v=>by
  simp at v;rcases v with rfl|rfl;exact zh I;exact ze Y
 have P:∀b∈[D,E],xI own b:=λb v=>by
  unfold xI;rcases L b v with e|e<;>rw[e]<;>simp
 have q:∀b t,own b=t->t≠(22,k+1)->t≠(23,k+1)->b∉[D,E]:=λb t e H G hm=>by
  rcases L b hm with Q|Q;exact H (e ▸ Q);exact G (e ▸ Q)
 have R:∀{b:Nat} {c:Array Value} {T:TypeId} {t:T2},own b=t/\Rz w b c T->t≠(22,k+1)->t≠(23,k+1)->own b=t/\Rz _ b c T:=λa H G=>⟨a.1,a.2.save y (q _ _ a.1 H G)⟩;have J:∀{g n:Nat} {z:Nat} {e:TypeId} {s m:Nat} {Z:List Value} {t:T2},own g=t->w.ownsRow z e s (sl g n) m Z->t≠(22,k+1)->t≠(23,k+1)->World.ownsRow _ z e s (sl g n) m Z:=λa ho H G=>yK ho y λb v=>by cases v;exact q _ _ a H G
 have F:D≠E:=λe=>by rw[e,Y] at I;simp at I
 refine⟨⟨h.hd.gen [] y (λb v=>ze (ze (by rcases L b v with e|e<;>rw[e]<;>simp))) (h.hd.box.save y (q _ _ h.hd.tag (by simp) (by simp))) (λ_ _=>rfl) (λb q=>h.hd.new b (zZ y.size q)) (λf _=>⟨rfl,?_⟩) (by simp),⟨λj C=>?_,h.inn.win,h.inn.num,λj C=>?_,λj C=>?_,λj C=>?_,λp hp=>(h.inn.pairs p hp).keep y P λ_ _ e=>e,λr hr=>(h.inn.ress r hr).keep y P λ_ _ e=>e⟩,h.nums⟩,⟨_,y,P⟩⟩;unfold yT.f;split<;>simp[e3,e4]
 obtain⟨d,o,A⟩:=h.inn.ints j C;exact⟨R d (by simp) (by simp),R o (by simp) (by simp),A⟩;have O:j<M.ls.length:=by simpa using C
 by_cases u:j=k;subst u;simp only[mw];exact⟨⟨I,(U.mark i hi s).stays F⟩,⟨Y,(N.stays (Ne.symm F)).mark i hi s⟩,by simpa using X⟩;simp only[m8 (Ne.symm u)];obtain⟨d,o,A⟩:=h.inn.lists j O;exact⟨⟨d.1,J d.1 d.2 (by simp[u]) (by simp)⟩,⟨o.1,J o.1 o.2 (by simp) (by simp[u])⟩,A⟩;obtain⟨d,S,o,A,W,a5⟩:=h.inn.outer j C;refine⟨d,S,o,A,J d W (by simp) (by simp),λx hx=>?_⟩;obtain⟨b1,c,b2,b3⟩:=a5 x hx;have b4:=R ⟨b1,b2⟩ (by simp) (by simp);exact⟨b4.1,c,b4.2,b3⟩;obtain⟨d,S,o,A,W⟩:=h.inn.lits j C;exact⟨d,S,o,A,J d W (by simp) (by simp)⟩
def Kh(h:yh B own w wb M V)(a b c:Int)(s:ByteArray)(hn:M.ls.length<=2000000000000)(ha:ST a)(hb:ST b):
  Calls prog 94 #[(π wb),.agg #[ι 17,ι a,ι b,ι c,.string s]] w λe N=>RE B own w wb M e N:=by
 unfold ST at ha hb;have L:=Ry λF (q:μ w F)=>RE.kept h q;have HT:=Ry h;obtain⟨ad,aq,j⟩:=zq (h.hd.row 10 _ _ _ _ rfl);obtain⟨ab,al,m⟩:=zq (h.hd.row 11 _ _ _ _ rfl);have v:=h.box;rw[j,m] at v;obtain⟨hc,hf,a4⟩:=v.boxed;by_cases h0:M.ls.length=0
 .clear h j m;generalize M.ls.length=n at *;subst h0;go_enter func94,ntmps94;go_wp2;go_ret;exact L.out _ (by repeat'(first|with_reducible(first|apply zR|assumption|apply zN|apply zA|apply zD|apply zS)|go_size))
 obtain⟨k,y⟩:∃k,k=f9 a M.ls.length:=⟨_,rfl⟩;have hk:k<M.ls.length:=by rw[y];exact t9 a (by omega)
 have aj:Hid (∀W:World,Calls prog 95 #[ι a,ι M.ls.length] W λe N=>e=ε (ι (k:Int))/\N=W):=λW=>by rw[y];exact wt W a _ (by omega) (by omega) ha
 have HR:Hid (∀W,μ w W->∃E g,ad=some ⟨E,0,none⟩/\ab=some ⟨g,0,none⟩/\E<W.heap.size/\g<W.heap.size/\W.cell? ⟨E,k,none⟩=some (.slice (some ⟨M.ls[k].1,0,none⟩) M.ls[k].2.2.length M.ls[k].2.2.length)/\W.cell? ⟨g,k,none⟩=some (.slice (some ⟨M.ls[k].2.1,0,none⟩) M.ls[k].2.2.length M.ls[k].2.2.length)/\own g=(13,0)):=λW r=>by
  obtain⟨E,c1,q1,q2,q3,q4⟩:=g7 ((h.below r).hd.row 10 _ _ _ _ rfl) k hk;obtain⟨g,c2,r1,r2,r3,r4⟩:=g7 ((h.below r).hd.row 11 _ _ _ _ rfl) k hk;have q5:=q1;have r5:=r1;rw[j] at q5;rw[m] at r5;cases q5;cases r5;exact⟨E,g,rfl,rfl,q2,r2,by rw[q4];simp[mD,sl],by rw[r4];simp[mu,sl],((h.below r).hd.tg 11 g (by rw[r1];rfl)).1⟩
 have H:Hid (∀W,μ w W->∀i,i<M.ls[k].2.2.length->RE B own w wb M (ε (.bool true)) ((W.setCell ⟨M.ls[k].1,i,none⟩ (.string s)).setCell ⟨M.ls[k].2.1,i,none⟩ (.string s))):=λW r i hi=>by
  obtain⟨q1,q2⟩:=(h.below r).mark k hk i hi s;exact RE.from r ⟨rfl,⟨_,_,_,q1,⟨by simp,by simp,by simp,by simp,by simp,by simp,by simp,by simp,rfl⟩,λ_ _=>rfl⟩,q2⟩
 have u:=Ry λW (r:μ w W)=>(h.below r).inn.lists k hk;have Y:=h.hd.tag;have ac:=h.hd.new;clear h y j m;generalize M.ls[k].1=t at *;generalize M.ls[k].2.1=gc at *;generalize M.ls[k].2.2=l at *;go_enter func94,ntmps94;go_wp2;go_quiet ((go_at_call 95;exact Calls.quiet_of_same (aj.out _)))
 have f:μ w ((w.alloc (.cells #[ι 17,ι a,ι b,ι c,.string s] 67)).drewN nq):=zI zP _;have I:Rz ((w.alloc (.cells #[ι 17,ι a,ι b,ι c,.string s] 67)).drewN nq) w.heap.size #[ι 17,ι a,ι b,ι c,.string s] 67:=(Rz.new w _ _).below (zI (zp _ _) _);generalize (w.alloc (.cells #[ι 17,ι a,ι b,ι c,.string s] 67)).drewN nq=F at *;clear hc hf;have p:=v.below f;obtain⟨hc,hf,ak⟩:=p.boxed;obtain⟨T,Q,ax⟩:=I.boxed;obtain⟨E,g,rfl,rfl,S,Z,U,G,_⟩:=HR.out _ f;by_cases hz:l.length=0
 .have a7:¬(0:Int)<(l.length:Int):=by omega
  go_wp2;go_ret;exact L.out _ f
 have a1:(0:Int)<(l.length:Int):=by omega
 obtain⟨⟨o,s1⟩,⟨t2,s2⟩,s3⟩:=u.out _ f;obtain⟨i,z⟩:∃i,i=f9 b l.length:=⟨_,rfl⟩;have A:i<l.length:=by rw[z];exact t9 b (by omega)
 have ai:Hid (∀W:World,Calls prog 95 #[ι b,ι l.length] W λe N=>e=ε (ι (i:Int))/\N=W):=λW=>by rw[z];exact wt W b l.length (by omega) (by omega) hb
 clear z s1 s2;go_wp2;go_quiet ((go_at_call 95;exact Calls.quiet_of_same (ai.out _)))
 clear hc hf T Q;have d:μ F (F.drewN nq):=zI (zp _ _) _;generalize F.drewN nq=D at *;have C:=R5 f d;have K:=p.below d;obtain⟨hc,hf,an⟩:=K.boxed;have P:=I.below d;obtain⟨T,Q,ao⟩:=P.boxed;have a5:=zl d S U;have az:=zl d Z G;have av:=yE S d.size;have am:=yE Z d.size;have ae:=Ry (H.out D C i A);obtain⟨⟨_,X⟩,⟨_,J⟩,_⟩:=u.out _ C;obtain⟨_,_,_,r2,_,_,_,_,r8⟩:=HR.out _ C;cases r2;obtain⟨_,R,au,a6⟩:=R7.cell X i A;obtain⟨_,aa,O,ag⟩:=R7.cell J i A;simp at R aa;subst R;subst aa;have a0:=uH X;have ay:=uH J;have aw:t≠wb:=λe=>by rw[e,Y] at o;simp at o
 have ap:gc≠wb:=λe=>by rw[e,Y] at t2;simp at t2
 have ar:t≠w.heap.size:=λe=>by rw[e,ac _ (zf _)] at o;simp at o
 have a2:t≠g:=λe=>by rw[e,r8] at o;simp at o
 have ah:t≠gc:=λe=>by rw[e,t2] at o;simp at o
 clear H u HR U G o t2;generalize l[i]=x at *;go_wp2;have af:zc [t] D (D.setCell ⟨t,i,none⟩ (.string s)):=zc.set D t i _;have a3:(D.setCell ⟨t,i,none⟩ (.string s)).cell? ⟨gc,i,none⟩=some (.string x):=by
  rw[World.cell?_of_block (w:=D) (af.block gc O (by simp;exact Ne.symm ah))];exact ag
 go_region
 go_wp2;go_region
 go_wp2;go_ret;exact ae.out.more (zp _ _).drew.drew
end
end
section
def EH:∀(rs:List lS) (k:Nat) (a:k<rs.length),(l0 rs)[k*3]?=some (.pointer (some ⟨rs[k].1,0,none⟩))/\(l0 rs)[k*3+1]?=some (.pointer (some ⟨rs[k].2.1,0,none⟩))/\(l0 rs)[k*3+2]?=some (.pointer (some ⟨rs[k].2.2.1,0,none⟩))
 |[],k,a=>by simp at a
 |p::r,0,_=>by simp[l0]
 |p::r,k+1,a=>by
  have:=EH r k (by simpa using a);simp only[l0,uA] at this ⊢;rw[show(k+1)*3=k*3+1+1+1 from by omega];simpa using this
section
variable {B:Nat} {own:Sg} {w:World} {wb:Nat} {M:yT} {V:Nat->Value} {k a b c:Int} {s:ByteArray}
def o9(W:World)(f:k=1∨k=7∨k=8∨k=10∨k=11∨k=12∨k=13∨k=14∨k=15∨k=16):
  Calls prog 94 #[(π wb),.agg #[ι k,ι a,ι b,ι c,.string s]] W λe d=>e=ε (.bool false)/\μ W d:=by
 rcases f with rfl|rfl|rfl|rfl|rfl|rfl|rfl|rfl|rfl|rfl
 all_goals
  go_enter func94,ntmps94;go_wp2;go_ret;exact⟨rfl,(by repeat'(first|with_reducible(first|apply zR|assumption|apply zN|apply zA|apply zD|apply zS)|go_size))⟩
def C0(g:Hid (∀W,μ w W->Calls prog 94 #[(π wb),.agg #[ι k,ι a,ι b,ι c,.string s]] W λe d=>RE B own W wb M e d)):
  Calls prog 57 #[(π wb),.agg #[ι k,ι a,ι b,ι c,.string s]] w λe d=>RE B own w wb M e d:=by
 have i:=Ry λW (h:μ w W)=>(g.out W h).mono λe d q=>RE.from h q;clear g;go_enter func57,ntmps57;go_wp2_with (go_at_call 94;refine(i.out _ (by exact(by repeat'(first|with_reducible(first|apply zR|assumption|apply zN|apply zA|apply zD|apply zS)|go_size)))).mono ?_;rintro e j ⟨rfl,f⟩)
 go_ret;exact⟨rfl,f⟩
def M4(h:yh B own w wb M V)(hs:s.size<=1048576)(i:M.ps.length<=1048576):
  Calls prog 57 #[(π wb),.agg #[ι 1,ι a,ι b,ι c,.string s]] w λe n=>RE B own w wb M e n:=by
 have r:=Ry λW=>o9 (wb:=wb) (k:=1) (a:=a) (b:=b) (c:=c) (s:=s) W (zh rfl);have t:=Ry λW (m:μ w W)=>(Ji (h.below m) s hs i).mono λe n q=>RE.from m q;clear h;go_enter func57,ntmps57;go_wp2_with (first|(go_at_call 94;refine(r.out _).mono ?_;rintro e v ⟨rfl,d⟩;have f:=(Rz.new w #[ι 1,ι a,ι b,ι c,.string s] 67).below d;obtain⟨o,p,l⟩:=f.boxed;have j:=R5 zP d)|(go_at_call 16;refine(t.out _ (by exact j)).mono ?_;rintro e u ⟨rfl,g⟩))
 go_ret;exact⟨rfl,g⟩
def J5(h:yh B own w wb M V)(Y:k=7∨k=12∨k=13∨k=14∨k=15∨k=16)(X:ST a)(hn:M.ps.length<=1048576)(C:Hid (∀W,μ w W->∀p∈M.ps,Calls prog 96 #[(π wb),.agg #[.pointer (some ⟨p.1,0,none⟩),.pointer (some ⟨p.2.1,0,none⟩)],.agg #[ι k,ι a,ι b,ι c,.string s]] W λe g=>RE B own W wb M e g)):
  Calls prog 57 #[(π wb),.agg #[ι k,ι a,ι b,ι c,.string s]] w λe g=>RE B own w wb M e g:=by
 unfold ST at X;have HW:=Ry h;have o:w.ownsRow B 40 2 (V 0) M.ps.length (lV M.ps):=h.hd.row 0 _ _ _ _ rfl;have m:=h.box;obtain⟨ae,z,G⟩:=zq o;rw[G] at o m;have A:=Ry λW=>o9 (wb:=wb) (k:=k) (a:=a) (b:=b) (c:=c) (s:=s) W (by omega);clear h G;have f:0<M.ps.length∨M.ps.length=0:=by omega
 rcases f with f|h0
 .obtain⟨l,u⟩:∃l,l=f9 a M.ps.length:=⟨_,rfl⟩;have v:l<M.ps.length:=by rw[u];exact t9 a f
  have S:Hid (∀W:World,Calls prog 95 #[ι a,ι M.ps.length] W λe g=>e=ε (ι (l:Int))/\g=W):=λW=>by rw[u];exact wt W a M.ps.length f (by omega) X
  clear u;obtain⟨H,P,G,_,E,t⟩:=yw o (by omega);cases G;obtain⟨y,D⟩:=ES M.ps l v;have F:=t _ _ y;have x:=t _ _ D;have Q:=Ry λW (Z:μ w W)=>(C.out W Z _ (zt v)).mono λe g q=>RE.from Z q;clear y D HW o t C;generalize M.ps[l].1=q1 at *;generalize M.ps[l].2.1=q2 at *;generalize M.ps.length=n at *;rcases Y with rfl|rfl|rfl|rfl|rfl|rfl
  all_goals
   go_enter func57,ntmps57;go_wp2_with (go_at_call 94;refine(A.out _).mono ?_;rintro e I ⟨rfl,j⟩;have r:=(Rz.new w #[ι _,ι a,ι b,ι c,.string s] 67).below j;obtain⟨J,T,L⟩:=r.boxed;have d:μ w I:=zM (by repeat'(first|with_reducible(first|apply zR|assumption|apply zN|apply zA|apply zD|apply zS)|go_size)) j (zf _);have i:=m.below d;obtain⟨O,U,K⟩:=i.boxed;have ac:=zl d E F;have ad:=zl d E x;have ab:=d.size;have aa:H<I.heap.size:=(by omega))
   go_region_held3 (λg=>g.cell? ⟨wb,0,none⟩=some (.slice (some ⟨H,0,none⟩) n z)/\g.cell? ⟨w.heap.size,1,none⟩=some (ι a)/\g.cell? ⟨H,l*2,none⟩=some ((π q1))/\g.cell? ⟨H,l*2+1,none⟩=some ((π q2))) (go_keep) (first|(go_at_call 95;refine(S.out _).mono ?_;rintro e g ⟨rfl,N⟩;obtain rfl:=N.symm))
   all_goals
    go_wp2_with (go_at_call 96;refine(Q.out _ (by exact(by repeat'(first|with_reducible(first|apply zR|assumption|apply zN|apply zA|apply zD|apply zS)|go_size)))).mono ?_;rintro e w3 ⟨rfl,R⟩)
    go_ret;exact⟨rfl,R⟩
 rw[h0] at m;rcases Y with rfl|rfl|rfl|rfl|rfl|rfl
 all_goals
  go_enter func57,ntmps57;go_wp2_with (go_at_call 94;refine(A.out _).mono ?_;rintro e I ⟨rfl,j⟩;have r:=(Rz.new w #[ι _,ι a,ι b,ι c,.string s] 67).below j;obtain⟨J,T,L⟩:=r.boxed;have d:μ w I:=zM (by repeat'(first|with_reducible(first|apply zR|assumption|apply zN|apply zA|apply zD|apply zS)|go_size)) j (zf _);have i:=m.below d;obtain⟨O,U,K⟩:=i.boxed)
  go_ret;exact RE.kept HW.out d
def Qn(h:yh B own w wb M V)(hk:k=8∨k=10∨k=11)(Z:ST a)(hn:M.rs.length<=1048576)(D:Hid (∀W,μ w W->∀r∈M.rs,Calls prog 97 #[(π wb),.agg #[.pointer (some ⟨r.1,0,none⟩),.pointer (some ⟨r.2.1,0,none⟩),.pointer (some ⟨r.2.2.1,0,none⟩)],.agg #[ι k,ι a,ι b,ι c,.string s]] W λe g=>RE B own W wb M e g)):
  Calls prog 57 #[(π wb),.agg #[ι k,ι a,ι b,ι c,.string s]] w λe g=>RE B own w wb M e g:=by
 unfold ST at Z;have HW:=Ry h;have m:w.ownsRow B 50 3 (V 1) M.rs.length (l0 M.rs):=h.hd.row 1 _ _ _ _ rfl;have p:=h.box;obtain⟨af,A,J⟩:=zq m;rw[J] at m p;have C:=Ry λW=>o9 (wb:=wb) (k:=k) (a:=a) (b:=b) (c:=c) (s:=s) W (by omega);clear h J;have f:0<M.rs.length∨M.rs.length=0:=by omega
 rcases f with f|h0
 .obtain⟨j,v⟩:∃j,j=f9 a M.rs.length:=⟨_,rfl⟩;have x:j<M.rs.length:=by rw[v];exact t9 a f
  have U:Hid (∀W:World,Calls prog 95 #[ι a,ι M.rs.length] W λe g=>e=ε (ι (j:Int))/\g=W):=λW=>by rw[v];exact wt W a M.rs.length f (by omega) Z
  clear v;obtain⟨E,R,J,_,u,o⟩:=yw m (by omega);cases J;obtain⟨z,H,G⟩:=EH M.rs j x;have I:=o _ _ z;have y:=o _ _ H;have F:=o _ _ G;have S:=Ry λW (hW:μ w W)=>(D.out W hW _ (zt x)).mono λe g q=>RE.from hW q;clear z H G HW m o D;generalize M.rs[j].1=q1 at *;generalize M.rs[j].2.1=q2 at *;generalize M.rs[j].2.2.1=q3 at *;generalize M.rs.length=n at *;rcases hk with rfl|rfl|rfl
  all_goals
   go_enter func57,ntmps57;go_wp2_with (go_at_call 94;refine(C.out _).mono ?_;rintro e K ⟨rfl,l⟩;have t:=(Rz.new w #[ι _,ι a,ι b,ι c,.string s] 67).below l;obtain⟨L,X,O⟩:=t.boxed;have d:μ w K:=zM (by repeat'(first|with_reducible(first|apply zR|assumption|apply zN|apply zA|apply zD|apply zS)|go_size)) l (zf _);have i:=p.below d;obtain⟨Q,Y,N⟩:=i.boxed;have ad:=zl d u I;have ae:=zl d u y;have ab:=zl d u F;have ac:=d.size;have aa:E<K.heap.size:=(by omega))
   go_region_held3 (λg=>g.cell? ⟨wb,1,none⟩=some (.slice (some ⟨E,0,none⟩) n A)/\g.cell? ⟨w.heap.size,1,none⟩=some (ι a)/\g.cell? ⟨E,j*3,none⟩=some ((π q1))/\g.cell? ⟨E,j*3+1,none⟩=some ((π q2))/\g.cell? ⟨E,j*3+2,none⟩=some ((π q3))) (go_keep) (first|(go_at_call 95;refine(U.out _).mono ?_;rintro e g ⟨rfl,P⟩;obtain rfl:=P.symm))
   all_goals
    go_wp2_with (go_at_call 97;refine(S.out _ (by exact(by repeat'(first|with_reducible(first|apply zR|assumption|apply zN|apply zA|apply zD|apply zS)|go_size)))).mono ?_;rintro e w3 ⟨rfl,T⟩)
    go_ret;exact⟨rfl,T⟩
 rw[h0] at p;rcases hk with rfl|rfl|rfl
 all_goals
  go_enter func57,ntmps57;go_wp2_with (go_at_call 94;refine(C.out _).mono ?_;rintro e K ⟨rfl,l⟩;have t:=(Rz.new w #[ι _,ι a,ι b,ι c,.string s] 67).below l;obtain⟨L,X,O⟩:=t.boxed;have d:μ w K:=zM (by repeat'(first|with_reducible(first|apply zR|assumption|apply zN|apply zA|apply zD|apply zS)|go_size)) l (zf _);have i:=p.below d;obtain⟨Q,Y,N⟩:=i.boxed)
  go_ret;exact RE.kept HW.out d
end
end
end Go.Proofs.YteampbddflhngaaGreat
