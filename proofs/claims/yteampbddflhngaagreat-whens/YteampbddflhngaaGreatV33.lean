import Derived.Test.YteampbddflhngaaGreatV29
namespace Go.Proofs.YteampbddflhngaaGreat
set_option linter.all false
set_option maxRecDepth 100000
set_option maxHeartbeats 4000000
open Go.Proofs.Tryz Go.RowKit
section
variable {lo:Nat}
theorem yN.saveT{w d:World}{own:Nat->zn}{ρ:zn}{tb:Nat}{T:zi}{t:TypeId}{M:List Nat}(h:yN lo w own ρ tb T)(k:zd M w d)(f:Px w t M)(m:PU t):yN lo d own ρ tb T:=by
 obtain⟨e,b,i⟩:=h;refine⟨e,b.save k fun x g j=>?_,i⟩;obtain⟨c,l⟩:=f x j;obtain⟨n,o,q,a⟩:=b.typed x g;rw[q.type l] at a;exact a m
theorem rX(w:World)(own:Nat->zn)(ρ:zn)(tb:Nat)(T:zi)(x y z m:Nat)(h:yN lo w own ρ tb T)(a:okT T=true):
  Calls prog 163 #[.pointer (some ⟨tb,0,none⟩),.agg #[.int .i64 x,.int .i64 y,.int .i64 z],.int .i64 m] w fun e b=>e=.returned (.bool (addP T [x,y,z] m).2)/\yN lo b (ext own w.heap.size ρ) ρ tb (addP T [x,y,z] m).1/\Pe lo (onT (·=ρ)) w own b (ext own w.heap.size ρ):=by
 obtain⟨f,c,i⟩:=h;simp only[okT,uZ,decide_eq_true_eq] at a;refine(N0 w tb T f x y z m c a.1 a.2).mono ?_;rintro e b ⟨rfl,d,g⟩;exact⟨rfl,g.mod c i⟩
theorem AE(w:World)(own:Nat->zn)(ρ:zn)(tb:Nat)(T:zi)(n:Nat)(rs:List zk)(h:yN lo w own ρ tb T)(a:rowsG n T=some rs):
  Calls prog 78 #[.pointer (some ⟨tb,0,none⟩)] w fun e d=>∃v,e=.returned v/\Pq w.heap.size d v rs/\Below w.heap.size w d:=by
 obtain⟨f,g,_⟩:=h;unfold rowsG at a;cases c:mP n T with
 |none=>rw[c] at a;cases a
 |some b=>
  rw[c] at a;simp only at a;split at a
  ·simp only[zs] at a;subst a;exact K8 w tb T f g n b c (by assumption)
  ·cases a
theorem Pq.cell{A:Nat}{w:World}{v:Value}{rs:List zk}(h:Pq A w v rs)(k:Nat)(d:k<rs.length):∃g f x y z,v=.slice (some ⟨g,0,none⟩) rs.length f/\g<w.heap.size/\rs[k]=[x,y,z]/\w.cell? ⟨g,k*3,none⟩=some (.int .i64 x)/\w.cell? ⟨g,k*3+1,none⟩=some (.int .i64 y)/\w.cell? ⟨g,k*3+2,none⟩=some (.int .i64 z):=by
 obtain⟨B,n⟩:=h;obtain⟨g,f,s,_,D,m⟩:=y7 B (by omega);obtain⟨x,y,z,e⟩:∃x y z,rs[k]=[x,y,z]:=by
  have:=n rs[k] (zu d);match p:rs[k],this with
  |[x,y,z],_=>exact⟨x,y,z,rfl⟩
 have j:∀(rs:List zk) (k:Nat) (d:k<rs.length),(∀r∈rs,r.length=3)->rs[k]=[x,y,z]->(qX rs)[k*3]?=some (.int .i64 x)/\(qX rs)[k*3+1]?=some (.int .i64 y)/\(qX rs)[k*3+2]?=some (.int .i64 z):=by
  intro rs;induction rs with
  |nil=>intro k d;simp at d
  |cons r l u=>
   intro k d o i;match k,d,i with
   |0,_,i=>simp only[kK] at i;subst i;simp[qX,PF]
   |k+1,d,i=>
    have F:=o r (by simp);match G:r,F with
    |[a,b,c],_=>
     have:=u k (by simpa using d) (fun q p=>o q (by simp[p])) (by simpa using i);simp only[qX,us] at this ⊢;rw[show(k+1)*3=k*3+1+1+1 from by omega,show k*3+1+1+1+1=k*3+1+1+1+1 from rfl,show k*3+1+1+1+2=k*3+2+1+1+1 from by omega];simpa using this
 obtain⟨t,C,E⟩:=j rs k d n e;exact⟨g,f,x,y,z,s,D,e,m _ _ t,m _ _ C,m _ _ E⟩
structure jr where
 tv:Value
 bb:Nat
 fb:Nat
 ab:Nat
def pt(b:Nat):Value:=.pointer (some ⟨b,0,none⟩)
def kI(wd:Nat)(V:yL)(P:jr):List Value:=[.int .i64 V.lit.pred,P.tv,.int .i64 wd,pt P.bb,pt P.fb,pt P.ab]
structure vn (lo:Nat) (w:World) (own:Nat->zn) (k i:Nat) (V:yL) (P:jr):Prop where
 qg:yh lo w P.tv V.lit.qg
 before:yN lo w own (k+1,i,0) P.bb V.before
 qo:yN lo w own (k+1,i,1) P.fb V.qo
 all:yN lo w own (k+1,i,2) P.ab V.all
theorem vn.mod{ok:TypeId->zn->Prop}{w c:World}{own a:Nat->zn}{k i:Nat}{V:yL}{P:jr}(h:vn lo w own k i V P)(p:Pe lo ok w own c a)(b:∀j t,¬PU t->¬ok t (k+1,i,j))(d:∀ρ,¬ok 284 ρ):vn lo c a k i V P:=
 ⟨h.qg.mod p d,h.before.mod p (b 0),h.qo.mod p (b 1),h.all.mod p (b 2)⟩
theorem vn.below{w a:World}{own:Nat->zn}{k i:Nat}{V:yL}{P:jr}(h:vn lo w own k i V P)(b:Below w.heap.size w a):vn lo a own k i V P:=h.mod (Pe.of (ok:=fun _ _=>False) own b) (fun _ _ _=>id) (fun _=>id)
theorem vn.saveT{w d:World}{own:Nat->zn}{k i:Nat}{V:yL}{P:jr}{t:TypeId}{M:List Nat}(h:vn lo w own k i V P)(b:zd M w d)(a:Px w t M)(c:PU t)(e:284≠t):vn lo d own k i V P:=⟨h.qg.saveT b a e,h.before.saveT b a c,h.qo.saveT b a c,h.all.saveT b a c⟩
def Ly(lo:Nat)(w:World)(own:Nat->zn)(k i wd:Nat)(tv:Value)(l:zt)(e:Ending)(c:World):Prop:=∃P a,P.tv=tv/\e=.returned (.agg (kI wd (kh wd l) P).toArray)/\vn lo c a k i (kh wd l) P/\(∀b,b<w.heap.size->a b=own b)/\Below w.heap.size w c
theorem oM(l:zt):yR l<=5:=by
 unfold yR;have:=ri (p:=zL l) (l:=List.range 5);simpa using this
theorem Fj(w:World)(own:Nat->zn)(k i:Nat)(l:zt)(tv:Value)(wd:Nat)(h:yh lo w tv l.qg)(hl:lo<=w.heap.size)(a8:wd<=1000):
  Calls prog 204 #[.agg #[.int .i64 l.pred,tv],.int .i64 wd] w fun e w'=>Ly lo w own k i wd tv l e w':=by
 obtain⟨A,c,rfl⟩:=h.qw;have HD:Hid (∀W,Below w.heap.size w W->Calls prog 212 #[.agg #[.int .i64 l.pred,.slice A l.qg.length c]] W fun e w'=>e=.returned (.int .i64 (yR l:Nat))/\Below W.heap.size W w'):=fun W hW=>BB W _ l.pred l.qg (h.below hW);have HT:=OY h;have aq:Hid (kh wd l=⟨l,yS wd (yR l),yS wd (yR l),yS wd (yR l)⟩):=rfl;have az:=oM l;have HN:=OY fun W=>iw W wd (yR l) a8 (by omega);have HL:=OY hl;clear h hl az;have T:=OZ.new ((w.alloc (.cells #[.int .i64 l.pred,.slice A l.qg.length c] 204)).alloc (.cells #[.int .i64 0,.slice none 0 0,.int .i64 0,.pointer none,.pointer none,.pointer none] 301)) #[.int .i64 l.pred,.slice A l.qg.length c,.int .i64 wd,.pointer none,.pointer none,.pointer none] 301;have a:=(OZ.new (w.alloc (.cells #[.int .i64 l.pred,.slice A l.qg.length c] 204)) #[.int .i64 0,.slice none 0 0,.int .i64 0,.pointer none,.pointer none,.pointer none] 301).below ((zo _ _).alloc (zh _) (.cells #[.int .i64 l.pred,.slice A l.qg.length c,.int .i64 wd,.pointer none,.pointer none,.pointer none] 301));simp only[World.size_alloc] at T a;generalize yR l=dl at *;go_enter func204,ntmps204;go_upto_region 3 with (first|(go_at_call 212;refine(HD.out _ (by exact(by go_grown))).mono ?_;rintro e w1 ⟨rfl,G⟩;have D:Below w.heap.size w w1:=(zM (by go_grown) G (zh _));have Q:=T.below G;have al:=a.below G))
 clear T a G;have aC:lo<=w1.heap.size:=by have:=HL.out;have:=D.size;omega
 obtain⟨t,r,u⟩:=Q.boxed;have aG:=D.size;have au:Hid (yh lo w1 _ l.qg):=HT.out.below D;go_upto_region 4 with (first|(go_at_call 119;refine(HN.out _).mono ?_;rintro e O ⟨f,aI,rfl,Z,s⟩;have y:=Q.below s;have ad:=al.below s;obtain⟨ay,Y,an⟩:=y.boxed))
 have U:=(zX.new own (k+1,i,0) Z aC).set y (by decide) 3 (pt f);have M:zd [w.heap.size+1+1] O (O.setCell ⟨w.heap.size+1+1,3,none⟩ (pt f)):=zd.set _ _ _ _;have N:Hid (yh lo _ _ l.qg):=(au.out.below s).saveT M (Px.box y) (by decide);have E:OZ (O.setCell ⟨w.heap.size+1+1,3,none⟩ (pt f)) (w.heap.size+1+1) #[.int .i64 l.pred,.slice A l.qg.length c,.int .i64 wd,.pointer (some ⟨f,0,none⟩),.pointer none,.pointer none] 301:=by have q:=y.set 3 (pt f);simpa [pt] using q
 have J:=ad.set_ne (show w.heap.size+1≠w.heap.size+1+1 by omega) 3 (pt f);have L:Below w.heap.size w (O.setCell ⟨w.heap.size+1+1,3,none⟩ (pt f)):=(Pc D s).setCell (by simp;omega) _;have aA:(O.setCell ⟨w.heap.size+1+1,3,none⟩ (pt f)).heap.size=O.heap.size:=by simp[World.setCell]
 have a2:=s.size;generalize z:ext own w1.heap.size (k+1,i,0)=n at *;have S:∀b,b<w.heap.size->n b=own b:=fun b hb=>by rw[←z];exact g5 _ _ _ _ (by omega)
 have ag:pt f=.pointer (some ⟨f,0,none⟩):=rfl;rw[ag] at U M N E J L aA;generalize O.setCell ⟨w.heap.size+1+1,3,none⟩ (.pointer (some ⟨f,0,none⟩))=w3 at *;clear z Z s y ad ay Y an t r u Q al au M ag;have a6:lo<=w3.heap.size:=by omega
 obtain⟨t,r,u⟩:=E.boxed;go_upto_region 5 with (first|(go_at_call 119;refine(HN.out _).mono ?_;rintro e P ⟨m,aH,rfl,aw,a⟩;have p:=E.below a;have ar:=J.below a;obtain⟨ab,ao,am⟩:=p.boxed))
 have X:=(U.mod (Pe.extNew (ok:=fun _ _=>False) n (k+1,i,1) a) (fun _ _=>id)).set p (by decide) 4 (.pointer (some ⟨m,0,none⟩));have ap:=(zX.new n (k+1,i,1) aw a6).set p (by decide) 4 (.pointer (some ⟨m,0,none⟩));have ac:zd [w.heap.size+1+1] P (P.setCell ⟨w.heap.size+1+1,4,none⟩ (.pointer (some ⟨m,0,none⟩))):=zd.set _ _ _ _;have V:Hid (yh lo _ _ l.qg):=(N.out.below a).saveT ac (Px.box p) (by decide);have K:OZ (P.setCell ⟨w.heap.size+1+1,4,none⟩ (.pointer (some ⟨m,0,none⟩))) (w.heap.size+1+1) #[.int .i64 l.pred,.slice A l.qg.length c,.int .i64 wd,.pointer (some ⟨f,0,none⟩),.pointer (some ⟨m,0,none⟩),.pointer none] 301:=by have q:=p.set 4 (.pointer (some ⟨m,0,none⟩));simpa using q
 have ae:=ar.set_ne (show w.heap.size+1≠w.heap.size+1+1 by omega) 4 (.pointer (some ⟨m,0,none⟩));have af:Below w.heap.size w (P.setCell ⟨w.heap.size+1+1,4,none⟩ (.pointer (some ⟨m,0,none⟩))):=(Pc L a).setCell (by simp;omega) _;have aF:(P.setCell ⟨w.heap.size+1+1,4,none⟩ (.pointer (some ⟨m,0,none⟩))).heap.size=P.heap.size:=by simp[World.setCell]
 have a7:=a.size;generalize B:ext n w3.heap.size (k+1,i,1)=d at *;have R:∀b,b<w.heap.size->d b=own b:=fun b hb=>by rw[←B,g5 _ _ _ _ (by omega)];exact S b hb
 generalize P.setCell ⟨w.heap.size+1+1,4,none⟩ (.pointer (some ⟨m,0,none⟩))=w5 at *;clear B aw a p ar ab ao am t r u E J U N ac L;have a4:lo<=w5.heap.size:=by omega
 obtain⟨t,r,u⟩:=K.boxed;go_upto_region 6 with (first|(go_at_call 119;refine(HN.out _).mono ?_;rintro e w6 ⟨o,aJ,rfl,aj,j⟩;have g:=K.below j;have ai:=ae.below j;obtain⟨ah,aa,ak⟩:=g.boxed))
 have a5:=(X.mod (Pe.extNew (ok:=fun _ _=>False) d (k+1,i,2) j) (fun _ _=>id)).set g (by decide) 5 (.pointer (some ⟨o,0,none⟩));have a9:=(ap.mod (Pe.extNew (ok:=fun _ _=>False) d (k+1,i,2) j) (fun _ _=>id)).set g (by decide) 5 (.pointer (some ⟨o,0,none⟩));have a0:=(zX.new d (k+1,i,2) aj a4).set g (by decide) 5 (.pointer (some ⟨o,0,none⟩));have ax:zd [w.heap.size+1+1] w6 (w6.setCell ⟨w.heap.size+1+1,5,none⟩ (.pointer (some ⟨o,0,none⟩))):=zd.set _ _ _ _;have a3:Hid (yh lo _ _ l.qg):=(V.out.below j).saveT ax (Px.box g) (by decide);have aD:OZ (w6.setCell ⟨w.heap.size+1+1,5,none⟩ (.pointer (some ⟨o,0,none⟩))) (w.heap.size+1+1) #[.int .i64 l.pred,.slice A l.qg.length c,.int .i64 wd,.pointer (some ⟨f,0,none⟩),.pointer (some ⟨m,0,none⟩),.pointer (some ⟨o,0,none⟩)] 301:=by have q:=g.set 5 (.pointer (some ⟨o,0,none⟩));simpa using q
 have av:=ai.set_ne (show w.heap.size+1≠w.heap.size+1+1 by omega) 5 (.pointer (some ⟨o,0,none⟩));have aB:Below w.heap.size w (w6.setCell ⟨w.heap.size+1+1,5,none⟩ (.pointer (some ⟨o,0,none⟩))):=(Pc af j).setCell (by simp;omega) _;generalize x:ext d w5.heap.size (k+1,i,2)=H at *;have I:∀b,b<w.heap.size->H b=own b:=fun b hb=>by rw[←x,g5 _ _ _ _ (by omega)];exact R b hb
 generalize w6.setCell ⟨w.heap.size+1+1,5,none⟩ (.pointer (some ⟨o,0,none⟩))=w7 at *;clear x aj j g ai ah aa ak t r u K ae X ap V ax af;obtain⟨t,r,u⟩:=aD.boxed;obtain⟨a1,aK,aE⟩:=av.boxed;go_wp2
 (try simp only[Exit.inBlock,Exit.then])
 have F:zd [w.heap.size+1] w7 ((((((w7.setCell ⟨w.heap.size+1,0,none⟩ (.int .i64 l.pred)).setCell ⟨w.heap.size+1,1,none⟩ (.slice A l.qg.length c)).setCell ⟨w.heap.size+1,2,none⟩ (.int .i64 wd)).setCell ⟨w.heap.size+1,3,none⟩ (.pointer (some ⟨f,0,none⟩))).setCell ⟨w.heap.size+1,4,none⟩ (.pointer (some ⟨m,0,none⟩))).setCell ⟨w.heap.size+1,5,none⟩ (.pointer (some ⟨o,0,none⟩))):=(((((zd.set _ _ _ _).trans (zd.set _ _ _ _)).trans (zd.set _ _ _ _)).trans (zd.set _ _ _ _)).trans (zd.set _ _ _ _)).trans (zd.set _ _ _ _);have C:=Px.box av;refine zJ (v:=.agg #[.int .i64 l.pred,.slice A l.qg.length c,.int .i64 wd,.pointer (some ⟨f,0,none⟩),.pointer (some ⟨m,0,none⟩),.pointer (some ⟨o,0,none⟩)]) (by simp[results,results204,go_sem,a1]) rfl ⟨⟨.slice A l.qg.length c,f,m,o⟩,H,rfl,by rw[aq.out];rfl,?_,I,?_⟩
 ·rw[aq.out];exact⟨a3.out.saveT F C (by decide),a5.saveT F C (by decide),a9.saveT F C (by decide),a0.saveT F C (by decide)⟩
 ·exact(((((aB.setCell (by simp) _).setCell (by simp) _).setCell (by simp) _).setCell (by simp) _).setCell (by simp) _).setCell (by simp) _
end
section
variable {lo:Nat}{b0 wd bb fb ab:Nat}{w w':World}{c:Array Value}{tv:Value}{own2 own3:Nat->zn}
theorem Pq.below'{v:Value}{rs:List zk}(h:Pq b0 w v rs)(a:Below w.heap.size w w'):Pq b0 w' v rs:=⟨zE h.1 a,h.2⟩
structure VC (c:Array Value) (o wd pred:Nat) (tv:Value) (bb fb ab:Nat):Prop where
 c0:c[o]?=some (.int .i64 pred)
 c1:c[o+1]?=some tv
 c2:c[o+2]?=some (.int .i64 wd)
 c3:c[o+3]?=some (.pointer (some ⟨bb,0,none⟩))
 c4:c[o+4]?=some (.pointer (some ⟨fb,0,none⟩))
 c5:c[o+5]?=some (.pointer (some ⟨ab,0,none⟩))
theorem VC.set{o a:Nat}(h:VC c o wd a tv bb fb ab)(b:Nat):VC (c.setIfInBounds (o+4) (.pointer (some ⟨b,0,none⟩))) o wd a tv bb b ab:=by
 obtain⟨g,j,i,k,f,e⟩:=h;have d:=(kD.1 f).1;refine⟨?_,?_,?_,?_,?_,?_⟩
 ·rw[pK (by omega)];exact g
 ·rw[pK (by omega)];exact j
 ·rw[pK (by omega)];exact i
 ·rw[pK (by omega)];exact k
 ·simp[d]
 ·rw[pK (by omega)];exact e
theorem VC.cells{g:Nat}{T:TypeId}{o a:Nat}(h:VC c o wd a tv bb fb ab)(d:OZ w g c T):g<w.heap.size/\(∀q,w.frozen? ⟨g,q,none⟩=false)/\w.cell? ⟨g,o,none⟩=some (.int .i64 a)/\w.cell? ⟨g,o+1,none⟩=some tv/\w.cell? ⟨g,o+2,none⟩=some (.int .i64 wd)/\w.cell? ⟨g,o+3,none⟩=some (.pointer (some ⟨bb,0,none⟩))/\w.cell? ⟨g,o+4,none⟩=some (.pointer (some ⟨fb,0,none⟩))/\w.cell? ⟨g,o+5,none⟩=some (.pointer (some ⟨ab,0,none⟩)):=by
 obtain⟨b,e⟩:=d.rules;exact⟨d.lt,e,(b _).trans h.c0,(b _).trans h.c1,(b _).trans h.c2,(b _).trans h.c3,(b _).trans h.c4,(b _).trans h.c5⟩
def fj(k i:Nat)(ρg:zn):TypeId->zn->Prop:=fun t ρ=>(¬PU t/\∃j,ρ=(k+1,i,j))∨(t=301/\ρ=ρg)
theorem Pe.one{own a:Nat->zn}{k i j:Nat}{ρg:zn}(h:Pe lo (onT (·=(k+1,i,j))) w own w' a):Pe lo (fj k i ρg) w own w' a:=h.more fun _ _ q=>zf ⟨q.1,j,q.2⟩
theorem Dl:∀(l:List zk) (T R:zi) (m:Nat),xW l T=some R->∃b,xW (l.take m) T=some b/\∀h:m<l.length,okT b=true/\xW (l.take (m+1)) T=some (addP b l[m] 0).1
 |[],T,R,m,h=>⟨T,by simp[xW],fun h=>by simp at h⟩
 |x::l,T,R,0,h=>by
  rw[xW] at h;by_cases a:okT T=true
  ·exact⟨T,rfl,fun _=>⟨a,by simp[xW,a]⟩⟩
  ·rw[za a] at h;cases h
 |x::l,T,R,m+1,h=>by
  rw[xW] at h;by_cases a:okT T=true
  ·rw[zb a] at h;obtain⟨b,e,d⟩:=Dl l _ R m h;refine⟨b,by rw[nh,xW,zb a];exact e,fun i=>?_⟩;obtain⟨g,f⟩:=d (by simpa using i);exact⟨g,by rw[nh,xW,zb a];simpa using f⟩
  ·rw[za a] at h;cases h
theorem wZ:∀(l:List zk) (T R:zi) (x:zk),xW (l++[x]) T=some R->∃b,xW l T=some b/\okT b=true/\R=(addP b x 0).1
 |[],T,R,x,h=>by
  simp only[n4,xW] at h;by_cases a:okT T=true
  ·rw[zb a] at h;exact⟨T,rfl,a,by simpa using h.symm⟩
  ·rw[za a] at h;cases h
 |y::l,T,R,x,h=>by
  rw[f5,xW] at h;by_cases a:okT T=true
  ·rw[zb a] at h;obtain⟨b,e,d,f⟩:=wZ l _ R x h;exact⟨b,by rw[xW,zb a];exact e,d,f⟩
  ·rw[za a] at h;cases h
theorem et:∀(l l2:List zk) (T R:zi),xW (l++l2) T=some R->∃a,xW l T=some a
 |[],_,T,_,_=>⟨T,rfl⟩
 |y::l,l2,T,R,h=>by
  rw[f5,xW] at h;by_cases b:okT T=true
  ·rw[zb b] at h;obtain⟨a,d⟩:=et l l2 _ R h;exact⟨a,by rw[xW,zb b];exact d⟩
  ·rw[za b] at h;cases h
theorem A9{g:Nat}{V i:yL}{d:List zk}(h:fL g wd V d=some i):∃e b f a,rowsG g V.qo=some e/\xW e V.before=some b/\xW (d.filterMap (xx V.lit)) (yS wd (yR V.lit))=some f/\xW (d.filterMap (xx V.lit)) V.all=some a/\i={V with before:=b,qo:=f,all:=a}:=by
 unfold fL at h;split at h
 ·cases h
 ·rename_i e j;split at h
  ·rename_i b f a l m k;exact⟨e,b,f,a,j,l,m,k,by simpa using h.symm⟩
  ·cases h
def Fo(W a:World)(b:Option zk)(d e:Value):Prop:=∃fb x y z:Nat,d=.pointer (some ⟨fb,0,none⟩)/\e=.bool b.isSome/\[x,y,z]=b.getD [0,0,0]/\W.heap.size<=fb/\OZ a fb #[.int .i64 x,.int .i64 y,.int .i64 z] 165/\Below W.heap.size W a
structure dV (lo b0:Nat) (w wr:World) (own own2:Nat->zn) (k i g:Nat) (c:Array Value) (l:zt) (bb fb ab:Nat) (B F A:zi) (tv rv:Value) (rows:List zk):Prop where
 before:yN lo wr own2 (k+1,i,0) bb B
 qo:yN lo wr own2 (k+1,i,1) fb F
 all:yN lo wr own2 (k+1,i,2) ab A
 qg:yh lo wr tv l.qg
 mod:Pe lo (fj k i (own g)) w own wr own2
 box:OZ wr g c 301
 rows:Pq b0 wr rv rows
theorem dV.below{b0:Nat}{w wr w':World}{own own2:Nat->zn}{k i g:Nat}{c:Array Value}{l:zt}{bb fb ab:Nat}{B F A:zi}{tv d:Value}{a:List zk}(h:dV lo b0 w wr own own2 k i g c l bb fb ab B F A tv d a)(b:Below wr.heap.size wr w'):dV lo b0 w w' own own2 k i g c l bb fb ab B F A tv d a:=
 ⟨h.before.below b,h.qo.below b,h.all.below b,h.qg.below b,h.mod.trans (Pe.of own2 b),h.box.below b,h.rows.below' b⟩
theorem dV.addF{wr W:World}{own:Nat->zn}{k i g:Nat}{l:zt}{B F A e:zi}{f:Value}{a:List zk}(h:dV lo b0 w wr own own2 k i g c l bb fb ab B F A tv f a)(j:Below wr.heap.size wr W)(m:yN lo w' own3 (k+1,i,1) fb e)(d:Pe lo (onT (·=(k+1,i,1))) W own2 w' own3):dV lo b0 w w' own own3 k i g c l bb fb ab B e A tv f a:=by
 have b:=h.below j;exact⟨b.before.onT d (by simp),m,b.all.onT d (by simp),b.qg.mod d (qG (by decide)),b.mod.trans d.one,b.box.mod d (qG (by decide) _),b.rows.mod d (qG (by decide))⟩
theorem dV.addA{wr W:World}{own:Nat->zn}{k i g:Nat}{l:zt}{B F A e:zi}{f:Value}{a:List zk}(h:dV lo b0 w wr own own2 k i g c l bb fb ab B F A tv f a)(j:Below wr.heap.size wr W)(m:yN lo w' own3 (k+1,i,2) ab e)(d:Pe lo (onT (·=(k+1,i,2))) W own2 w' own3):dV lo b0 w w' own own3 k i g c l bb fb ab B F e tv f a:=by
 have b:=h.below j;exact⟨b.before.onT d (by simp),b.qo.onT d (by simp),m,b.qg.mod d (qG (by decide)),b.mod.trans d.one,b.box.mod d (qG (by decide) _),b.rows.mod d (qG (by decide))⟩
theorem Gq{b:Nat}{T:TypeId}(h:OZ w b #[.int .i64 0,.int .i64 0,.int .i64 0] T)(x y z:Nat):OZ (((w.setCell ⟨b,0,none⟩ (.int .i64 x)).setCell ⟨b,1,none⟩ (.int .i64 y)).setCell ⟨b,2,none⟩ (.int .i64 z)) b #[.int .i64 x,.int .i64 y,.int .i64 z] T:=by
 have q:=((h.set 0 (.int .i64 x)).set 1 (.int .i64 y)).set 2 (.int .i64 z);simpa using q
def Jf(lo:Nat)(w:World)(own:Nat->zn)(k i g o:Nat)(c:Array Value)(d:yL)(P:jr)(ρg:zn)(e:Ending)(w':World):Prop:=e=.returned (.tuple #[])/\∃b a,vn lo w' a k i d ⟨P.tv,P.bb,b,P.ab⟩/\OZ w' g (c.setIfInBounds (o+4) (.pointer (some ⟨b,0,none⟩))) 301/\Pe lo (fj k i ρg) w own w' a
theorem Bq(w:World)(own:Nat->zn)(k i g o wd a7:Nat)(c:Array Value)(V V':yL)(P:jr)(rv:Value)(a:List zk)(a1:OZ w g c 301)(aP:VC c o wd V.lit.pred P.tv P.bb P.fb P.ab)(hv:vn lo w own k i V P)(hr:Pq b0 w rv a)(cw:lo<=g)(cC:lo<=w.heap.size)(cz:wd<=1000)(cD:a.length<=1048577)(hV:fL a7 wd V a=some V'):
  Calls prog 206 #[.pointer (some ⟨g,o,none⟩),rv] w fun e w'=>Jf lo w own k i g o c V' P (own g) e w':=by
 obtain⟨n,bN,fN,aN,d,bW,b6,aX,ce⟩:=A9 hV;obtain⟨b3,aC,rfl⟩:=zq hr.1;have HV:=OY hv;have HR:=OY hr;have aZ:=OY fun W hW=>AE W own (k+1,i,1) P.fb V.qo a7 n (hv.qo.below hW) d;have ac:=OY aP;have aR:=OY bW;have bZ:=OY b6;have bU:=OY aX;have cy:=OY ce;have cB:n.length<=1048576:=by
  unfold rowsG at d;split at d
  ·cases d
  ·split at d
   ·simp at d;subst d;assumption
   ·cases d
 obtain⟨Y,M,u,s,E,O,G,v⟩:=aP.cells a1;clear hV hr d bW b6 aX ce aP;go_enter func206,ntmps206;go_upto_region 1 with (first|(go_at_call 78;refine(aZ.out _ (by exact(by go_grown))).mono ?_;rintro e w1 ⟨ov,rfl,aK,aw⟩;obtain⟨ci,b9,rfl⟩:=zq aK.1))
 clear u s E O G v M aZ hv;have bc:Hid (Pe lo (onT (·=(k+1,i,0))) w own w1 own):=Pe.of own aw;have bL:=OY (HV.out.before.below aw);have aY:=OY (a1.below aw);have aD:=OY aK;have cp:=aw.size;clear aK aw;go_loopw [16] (fun c0 wr=>∃(m:Nat) (T:zi) (b:Nat->zn),m<=n.length/\c0=.int .i64 m/\w.heap.size<=wr.heap.size/\Hid (xW (n.take m) V.before=some T)/\Hid (yN lo wr b (k+1,i,0) P.bb T)/\Hid (Pe lo (onT (·=(k+1,i,0))) w own wr b)/\Hid (OZ wr g c 301)/\Hid (Pq w.heap.size wr (.slice ci n.length b9) n)) (fun i _=>n.length-(intOf i).toNat)
 case atStart=>exact⟨0,V.before,own,zv _,rfl,cp,rfl,bL,bc,aY,aD⟩
 case round=>
  clear bc bL aY aD;obtain⟨m,T,b,hm,rfl,bd,HA,HT,HM,HG,aV⟩:=hrel;by_cases av:m<n.length
  ·obtain⟨go,cc,x,y,z,t,bG,K,aH,aL,aT⟩:=aV.out.cell m av;simp only[Value.slice.injEq] at t;have ar:=t.1;clear t;subst ar;obtain⟨Tm,aM,bQ⟩:=Dl n V.before bN m aR.out;rw[HA.out] at aM;obtain rfl:T=Tm:=by simpa using aM
   obtain⟨b7,aQ⟩:=bQ av;rw[K] at aQ;have co:=OY b7;have ct:=OY aQ;clear aM bQ aQ b7 K;obtain⟨Y,M,u,s,E,O,G,v⟩:=ac.out.cells HG.out;have ap:=OZ.new wr #[.int .i64 x,.int .i64 y,.int .i64 z] 165;have h:Hid (∀W,Below wr.heap.size wr W->Calls prog 163 #[.pointer (some ⟨P.bb,0,none⟩),.agg #[.int .i64 x,.int .i64 y,.int .i64 z],.int .i64 0] W fun e w'=>e=.returned (.bool (addP T [x,y,z] 0).2)/\yN lo w' (ext b W.heap.size (k+1,i,0)) (k+1,i,0) P.bb (addP T [x,y,z] 0).1/\Pe lo (onT (·=(k+1,i,0))) W b w' (ext b W.heap.size (k+1,i,0))):=fun W hW=>rX W b (k+1,i,0) P.bb T x y z 0 (HT.out.below hW) co.out;clear u s E G v;go_wp2;go_region_held3 (fun w'=>w'.cell? ⟨g,o+3,none⟩=some (.pointer (some ⟨P.bb,0,none⟩))/\w'.cell? ⟨wr.heap.size,0,none⟩=some (.int .i64 x)/\w'.cell? ⟨wr.heap.size,1,none⟩=some (.int .i64 y)/\w'.cell? ⟨wr.heap.size,2,none⟩=some (.int .i64 z)) (first|go_keep|(go_simp;done)) (first|(go_at_call 163;refine(h.out _ (by exact(by go_grown))).mono ?_;rintro e w4 ⟨rfl,a0,H⟩;have bB:=(HG.out.below (show Below wr.heap.size wr _ from(by go_grown))).mod H (qG (by decide) _);have bJ:=(ap.drew).mod H (qG (by decide) _);obtain⟨bV,bY⟩:=bJ.rules;obtain⟨_,_,_,_,_,b8,_,_⟩:=ac.out.cells bB))
   have bk:=HM.out.trans ((Pe.of b (show Below wr.heap.size wr _ from(by go_grown))).trans H);have cj:=(aV.out.below' (show Below wr.heap.size wr _ from(by go_grown))).mod H (qG (by decide));have ck:=bk.size;generalize (addP T [x,y,z] 0).2=cF at *;clear bJ bV bY b8 ap H aH aL aT h;go_wp2;go_roundw
   case rel=>exact⟨m+1,_,_,by omega,by go_num,ck,ct,a0,bk,bB,cj⟩
   case measure=>simp[intOf];omega
  ·have af:n.take m=n:=xk (by omega);rw[af,aR.out] at HA;obtain rfl:bN=T:=by have:=HA.out;simpa using this
   clear HA af hm aV aR;obtain⟨R,l,a3⟩:=HV.out.qg.qw;have ao:=OY a3;obtain⟨Y,M,u,s,E,O,G,v⟩:=ac.out.cells HG.out;rw[a3] at s;have aF:Hid (yh lo wr (.slice R V.lit.qg.length l) V.lit.qg):=by have q:=HV.out.qg.mod HM.out (qG (by decide));rw[a3] at q;exact q
   have bm:=OY (HV.out.all.onT HM.out (by simp));have aG:=OY (HR.out.mod HM.out (qG (by decide)));have ch:=oM V.lit;have HD:Hid (∀W,Below wr.heap.size wr W->Calls prog 212 #[.agg #[.int .i64 V.lit.pred,.slice R V.lit.qg.length l]] W fun e w'=>e=.returned (.int .i64 (yR V.lit:Nat))/\Below W.heap.size W w'):=fun W hW=>BB W _ V.lit.pred V.lit.qg (aF.out.below hW);have HN:=OY fun W=>iw W wd (yR V.lit) cz (by omega);clear a3 O v ch;generalize bP:yR V.lit=dl at *;clear bP;go_wp2;go_region_held3 (fun w'=>w'.cell? ⟨g,o,none⟩=some (.int .i64 V.lit.pred)/\w'.cell? ⟨g,o+1,none⟩=some (.slice R V.lit.qg.length l)/\w'.cell? ⟨g,o+2,none⟩=some (.int .i64 wd)) (first|go_keep|(go_simp;done)) (first|(go_at_call 212;refine(HD.out _ (by exact(by go_grown))).mono ?_;rintro e L ⟨rfl,al⟩;have j:Below wr.heap.size wr L:=(zM (by go_grown) al (zh _));have ai:=HG.out.below j;obtain⟨_,_,ah,J,bx,_,_,_⟩:=ac.out.cells ai;rw[ao.out] at J)|(go_at_call 119;refine(HN.out _).mono ?_;rintro e w3 ⟨tf,cE,rfl,bq,az⟩;have aq:=ai.below az;obtain⟨b5,bt,bi,aB,bC,_,bv,_⟩:=ac.out.cells aq;rw[ao.out] at aB))
   have bo:lo<=L.heap.size:=by have:=j.size;have:=HM.out.size;omega
   have t:=HM.out.old g a1.lt;have bp:dV lo b0 w (w3.setCell ⟨g,o+4,none⟩ (.pointer (some ⟨tf,0,none⟩))) own (ext b L.heap.size (k+1,i,1)) k i g (c.setIfInBounds (o+4) (.pointer (some ⟨tf,0,none⟩))) V.lit P.bb tf P.ab bN (yS wd dl) V.all (.slice R V.lit.qg.length l) (.slice b3 a.length aC) a:=by
    have aj:zd [g] w3 (w3.setCell ⟨g,o+4,none⟩ (.pointer (some ⟨tf,0,none⟩))):=zd.set _ _ _ _;have ag:=Px.box aq;have br:=Pc j az;have bX:Pe lo (fun _ _=>False) L b w3 (ext b L.heap.size (k+1,i,1)):=Pe.extNew b (k+1,i,1) az;have cg:ext b L.heap.size (k+1,i,1) g=own g:=by rw[g5 _ _ _ _ (by have:=HM.out.size;have:=j.size;have:=a1.lt;omega)];exact t
    refine⟨?_,?_,?_,?_,?_,?_,?_⟩
    ·exact((HT.out.below j).mod bX (fun _ _=>id)).saveT aj ag (by decide)
    ·exact(zX.new b (k+1,i,1) bq bo).saveT aj ag (by decide)
    ·exact((bm.out.below j).mod bX (fun _ _=>id)).saveT aj ag (by decide)
    ·exact((aF.out.below br)).saveT aj ag (by decide)
    ·exact((HM.out.one (ρg:=own g)).trans ((Pe.of b j).trans (Pe.extNew b (k+1,i,1) az))).trans (Pe.set _ aq cw (ze ⟨rfl,cg⟩) _ _)
    ·exact aq.set _ _
    ·exact⟨yE (zE aG.out.1 br) aj ag (by decide),aG.out.2⟩
   have N:=OY (ac.out.set tf);generalize bz:c.setIfInBounds (o+4) (.pointer (some ⟨tf,0,none⟩))=c2 at *;have c1:=OY bz;clear bz;have aU:=OY bp;clear bp;generalize ext b L.heap.size (k+1,i,1)=own2 at *;generalize w3.setCell ⟨g,o+4,none⟩ (.pointer (some ⟨tf,0,none⟩))=w5 at *;clear bi aB bC bv b5 bt az bq aq ai j ah J bx HT bm aF aG HM HG HD HN t bo Y M u s E G;have b2:=aU.out.mod.size;go_wp2;go_loopw [42] (fun cs wr=>∃(m:Nat) (F A:zi) (own2:Nat->zn),m<=a.length/\cs=.int .i64 m/\w.heap.size<=wr.heap.size/\Hid (xW ((a.take m).filterMap (xx V.lit)) (yS wd dl)=some F)/\Hid (xW ((a.take m).filterMap (xx V.lit)) V.all=some A)/\Hid (dV lo b0 w wr own own2 k i g c2 V.lit P.bb tf P.ab bN F A (.slice R V.lit.qg.length l) (.slice b3 a.length aC) a)) (fun i _=>a.length-(intOf i).toNat)
   case atStart=>exact⟨0,_,_,own2,zv _,rfl,b2,rfl,rfl,aU⟩
   case round=>
    clear aU b2;obtain⟨m,F,A,own2,hm,rfl,bd,HF,HA,Q⟩:=hrel;by_cases av:m<a.length
    ·obtain⟨go,cc,x,y,z,t,bG,K,aH,aL,aT⟩:=Q.out.rows.cell m av;simp only[Value.slice.injEq] at t;have ar:=t.1;clear t;subst ar;have ad:Hid ((a.take (m+1)).filterMap (xx V.lit)=(a.take m).filterMap (xx V.lit)++(xx V.lit [x,y,z]).toList):=by
      rw[Hid,yM av,rE,K];cases hq:xx V.lit [x,y,z]<;>simp[hq]
     have aW:Hid (a.filterMap (xx V.lit)=(a.take (m+1)).filterMap (xx V.lit)++(a.drop (m+1)).filterMap (xx V.lit)):=by rw[Hid,←rE,qO]
     obtain⟨F1,bK⟩:=et _ _ _ _ (by have q:=bZ.out;rw[aW.out] at q;exact q);obtain⟨A1,cb⟩:=et _ _ _ _ (by have q:=bU.out;rw[aW.out] at q;exact q);have be:=OY bK;have bs:=OY cb;clear bK cb aW K;have ba:Hid (∀W,Below wr.heap.size wr W->Calls prog 213 #[.agg #[.int .i64 V.lit.pred,.slice R V.lit.qg.length l],.agg #[.int .i64 x,.int .i64 y,.int .i64 z]] W fun r w'=>(∃D B I:Nat,r=.returned (.tuple #[.agg #[.int .i64 D,.int .i64 B,.int .i64 I],.bool (xx V.lit [x,y,z]).isSome])/\[D,B,I]=(xx V.lit [x,y,z]).getD [0,0,0])/\Below W.heap.size W w'):=fun W hW=>L8 W _ V.lit.pred V.lit.qg x y z (Q.out.qg.below hW);generalize xx V.lit [x,y,z]=om at *;obtain⟨Y,M,u,s,E,O,G,v⟩:=N.out.cells Q.out.box;rw[ao.out] at s;have ap:=OZ.new wr #[.int .i64 x,.int .i64 y,.int .i64 z] 165;clear E O G v;go_wp2;go_cut [8,9] from 46 to 54 (fun s8 s9 wx=>Fo wr wx om s8 s9)
     case first=>
      go_region_held3 (fun w'=>w'.cell? ⟨g,o,none⟩=some (.int .i64 V.lit.pred)/\w'.cell? ⟨g,o+1,none⟩=some (.slice R V.lit.qg.length l)/\w'.cell? ⟨wr.heap.size,0,none⟩=some (.int .i64 x)/\w'.cell? ⟨wr.heap.size,1,none⟩=some (.int .i64 y)/\w'.cell? ⟨wr.heap.size,2,none⟩=some (.int .i64 z)) (first|(exact⟨(Below.cell (p:=⟨g,o,none⟩) (show Below (wr.heap.size+1) L _ from(by go_grown)) (show g<wr.heap.size+1 by omega)).trans ah,(Below.cell (p:=⟨g,o+1,none⟩) (show Below (wr.heap.size+1) L _ from(by go_grown)) (show g<wr.heap.size+1 by omega)).trans J,(Below.cell (p:=⟨wr.heap.size,0,none⟩) (show Below (wr.heap.size+1) L _ from(by go_grown)) (show wr.heap.size<wr.heap.size+1 by omega)).trans ak,(Below.cell (p:=⟨wr.heap.size,1,none⟩) (show Below (wr.heap.size+1) L _ from(by go_grown)) (show wr.heap.size<wr.heap.size+1 by omega)).trans ay,(Below.cell (p:=⟨wr.heap.size,2,none⟩) (show Below (wr.heap.size+1) L _ from(by go_grown)) (show wr.heap.size<wr.heap.size+1 by omega)).trans au⟩)|go_keep|(go_simp;done)) (first|(go_at_call 213;refine(ba.out _ (by exact(by go_grown))).mono ?_;rintro e L ⟨⟨D,B,I,rfl,ae⟩,al⟩;have j:Below wr.heap.size wr L:=(zM (by go_grown) al (zh _));have ai:=Q.out.box.below j;obtain⟨_,_,ah,J,_,_,_,_⟩:=N.out.cells ai;rw[ao.out] at J;have bI:=OY ae;clear ae;have aA:=ap.below (show Below (wr.alloc (.cells #[.int .i64 x,.int .i64 y,.int .i64 z] 165)).heap.size (wr.alloc (.cells #[.int .i64 x,.int .i64 y,.int .i64 z] 165)) L from zM (by go_grown) al (zh _));have cu:wr.heap.size+1<=L.heap.size:=aA.lt;obtain⟨C,cl⟩:=aA.rules;have ak:=C 0;have ay:=C 1;have au:=C 2;clear C;simp only[hZ,gY,fY] at ak ay au;(first|((with_reducible refine OZ.carry (OZ.drew (OZ.newAt (wr.alloc (.cells #[.int .i64 x,.int .i64 y,.int .i64 z] 165)) (wr.heap.size+1) #[.int .i64 0,.int .i64 0,.int .i64 0] 165 (World.size_alloc _ _).symm)) al ?_);intro bf;obtain⟨c9,c3,c5⟩:=bf.boxed)|skip)))
      all_goals
       go_wp2_with fail
       go_meet
       case rel=>first|exact⟨L.heap.size,D,B,I,rfl,rfl,bI.out,by omega,OZ.new _ _ _,zM j (by go_grown) (zh _)⟩|exact⟨wr.heap.size+1,D,B,I,rfl,rfl,bI.out,by omega,Gq bf D B I,((j.setCell (by simp) _).setCell (by simp) _).setCell (by simp) _⟩
     case rest=>
      clear u s M ap aH aL aT ba;obtain⟨fb,D,B,I,rfl,rfl,ae,cn,b1,aI⟩:=hcut;have am:=OY (Q.out.below aI);have bM:w.heap.size<=wc.heap.size:=by have:=aI.size;omega
      have a2:=OY b1;clear Q aI b1;cases om with
      |none=>
       clear ae;simp only[Option.toList_none,qA] at ad;simp only[jW];go_wp2;go_roundw
       case rel=>exact⟨m+1,F,A,own2,by omega,by go_num,bM,by rw[Hid,ad.out];exact HF.out,by rw[Hid,ad.out];exact HA.out,am⟩
       case measure=>simp[intOf];omega
      |some f=>
       simp only[uo] at ae;subst ae;simp only[Option.toList_some] at ad;simp only[qJ];obtain⟨Fm,aa,ax,bO⟩:=wZ _ _ _ _ (by have q:=be.out;rw[ad.out] at q;exact q);obtain⟨Am,aS,bg,bw⟩:=wZ _ _ _ _ (by have q:=bs.out;rw[ad.out] at q;exact q);rw[HF.out] at aa;rw[HA.out] at aS;obtain rfl:F=Fm:=by simpa using aa
       obtain rfl:A=Am:=by simpa using aS
       have bT:=OY bO;have bu:=OY bw;have cr:=OY ax;have cm:=OY bg;clear aa aS bO bw ax bg;obtain⟨Y,M,u,s,E,O,G,v⟩:=N.out.cells am.out.box;obtain⟨a4,cx⟩:=a2.out.rules;have bS:=a4 0;have aa:=a4 1;have ax:=a4 2;simp only[hZ,gY,fY] at bS aa ax;have cv:=a2.out.lt;clear a4 cx u s E O;have h:Hid (∀W,Below wc.heap.size wc W->Calls prog 163 #[.pointer (some ⟨tf,0,none⟩),.agg #[.int .i64 D,.int .i64 B,.int .i64 I],.int .i64 0] W fun e w'=>e=.returned (.bool (addP F [D,B,I] 0).2)/\yN lo w' (ext own2 W.heap.size (k+1,i,1)) (k+1,i,1) tf (addP F [D,B,I] 0).1/\Pe lo (onT (·=(k+1,i,1))) W own2 w' (ext own2 W.heap.size (k+1,i,1))):=fun W hW=>rX W own2 (k+1,i,1) tf F D B I 0 (am.out.qo.below hW) cr.out;go_wp2;go_region_held3 (fun w'=>w'.cell? ⟨g,o+4,none⟩=some (.pointer (some ⟨tf,0,none⟩))/\w'.cell? ⟨fb,0,none⟩=some (.int .i64 D)/\w'.cell? ⟨fb,1,none⟩=some (.int .i64 B)/\w'.cell? ⟨fb,2,none⟩=some (.int .i64 I)) (first|go_keep|(go_simp;done)) (first|(go_at_call 163;refine(h.out _ (by exact(by go_grown))).mono ?_;rintro e w4 ⟨rfl,a0,H⟩;have Z:Below wc.heap.size wc _:=(show Below wc.heap.size wc wc.drew from(by go_grown));have an:=am.out.addF Z a0 H;have a5:=(a2.out.below Z).mod H (qG (by decide) _);obtain⟨U,bE⟩:=a5.rules;have b4:=U 0;have ca:=U 1;have bH:=U 2;clear U;simp only[hZ,gY,fY] at b4 ca bH;obtain⟨_,_,_,_,_,_,c7,c8⟩:=N.out.cells an.box))
       have cA:=an.mod.size;have c6:=an.box.lt;have c4:=a5.lt;have aO:=OY an;have cf:=OY a5;rw[←bT.out] at aO;generalize (addP F [D,B,I] 0).2=bF at *;generalize ext own2 wc.drew.heap.size (k+1,i,1)=S at *;clear an a5 a0 H am a2 G v bS aa ax Y M cv Z h bT bE bM cn;have h:Hid (∀W,Below w4.heap.size w4 W->Calls prog 163 #[.pointer (some ⟨P.ab,0,none⟩),.agg #[.int .i64 D,.int .i64 B,.int .i64 I],.int .i64 0] W fun e w'=>e=.returned (.bool (addP A [D,B,I] 0).2)/\yN lo w' (ext S W.heap.size (k+1,i,2)) (k+1,i,2) P.ab (addP A [D,B,I] 0).1/\Pe lo (onT (·=(k+1,i,2))) W S w' (ext S W.heap.size (k+1,i,2))):=fun W hW=>rX W S (k+1,i,2) P.ab A D B I 0 (aO.out.all.below hW) cm.out;go_wp2;go_region_held3 (fun w'=>w'.cell? ⟨g,o+5,none⟩=some (.pointer (some ⟨P.ab,0,none⟩))/\w'.cell? ⟨fb,0,none⟩=some (.int .i64 D)/\w'.cell? ⟨fb,1,none⟩=some (.int .i64 B)/\w'.cell? ⟨fb,2,none⟩=some (.int .i64 I)) (first|go_keep|(go_simp;done)) (first|(go_at_call 163;refine(h.out _ (by exact(by go_grown))).mono ?_;rintro e w6 ⟨rfl,bn,aJ⟩;have Z:Below w4.heap.size w4 _:=(show Below w4.heap.size w4 w4.drew from(by go_grown));have a6:=aO.out.addA Z bn aJ;have bR:=(cf.out.below Z).mod aJ (qG (by decide) _);obtain⟨X,bD⟩:=bR.rules;have aE:=X 0;have a9:=X 1;have a8:=X 2;clear X;simp only[hZ,gY,fY] at aE a9 a8;obtain⟨_,_,_,_,_,_,cd,bh⟩:=N.out.cells a6.box))
       rw[←bu.out] at a6;have cq:=a6.mod.size;generalize (addP A [D,B,I] 0).2=bA at *;clear bn aJ h bu bR aE a9 a8 cd bh bD;go_wp2;go_roundw
       case rel=>exact⟨m+1,F1,A1,_,by omega,by go_num,cq,be,bs,a6⟩
       case measure=>simp[intOf];omega
    ·have af:a.take m=a:=xk (by omega);rw[af,bZ.out] at HF;rw[af,bU.out] at HA;obtain rfl:fN=F:=by have:=HF.out;simpa using this
     obtain rfl:aN=A:=by have:=HA.out;simpa using this
     clear HF HA af;go_wp2
     (try simp only[Exit.inBlock,Exit.then])
     have h2:=Q.out;refine zJ (results_none rfl _ _ _) rfl ⟨rfl,tf,own2,?_,?_,h2.mod⟩
     ·rw[cy.out];exact⟨by show yh lo wr P.tv V.lit.qg;rw[ao.out];exact h2.qg,h2.before,h2.qo,h2.all⟩
     ·rw[c1.out];exact h2.box
end
section
variable {lo:Nat}{w:World}{rb wd mr mx:Nat}{R:zx}
structure ua where
 rv:Value
 tbs:List Nat
 fv:Value
 fvs:List Value
def Pu(a:List Nat):List Value:=a.map pt
structure zU (lo:Nat) (w:World) (own:Nat->zn) (rb:Nat) (R:zx) (wd mr mx:Nat) (Q:ua):Prop where
 low:lo<=rb
 box:OZ w rb #[Q.rv,.int .i64 R.count,.int .i64 R.qx,.int .i64 R.jh,.int .i64 wd,.int .i64 mr,.int .i64 mx,Q.fv] 214
 rows:w.ownsRow lo 162 1 Q.rv R.rows.length (Pu Q.tbs)
 tlen:Q.tbs.length=R.rows.length
 tries:∀p (_:p<R.rows.length) (_:p<Q.tbs.length),yN lo w own (0,p,0) Q.tbs[p] R.rows[p]
 qo:w.ownsRow lo 161 1 Q.fv R.qo.length Q.fvs
 flen:Q.fvs.length=R.qo.length
 jl:∀p (_:p<R.qo.length) (_:p<Q.fvs.length),Pq lo w Q.fvs[p] R.qo[p]/\∀b,Q.fvs[p].ownBlock=some b->own b=(0,p,1)
 few:R.rows.length<=1000/\R.qo.length<=1000/\R.count<=1048577/\R.qx<=1048576
 small:wd<=1000/\mr<=1048576/\mx<=1048576
theorem Pq.modR{d:Nat}{ok:TypeId->zn->Prop}{e:World}{own c:Nat->zn}{v:Value}{a:List zk}(h:Pq d w v a)(p:Pe lo ok w own e c)(f:∀b,v.ownBlock=some b->¬ok 165 (own b)):Pq d e v a:=⟨pz h.1 p f,h.2⟩
theorem zU.mod{ok:TypeId->zn->Prop}{w e:World}{own c:Nat->zn}{rb:Nat}{R:zx}{wd mr mx:Nat}{Q:ua}(h:zU lo w own rb R wd mr mx Q)(p:Pe lo ok w own e c)(j:∀ρ,¬ok 214 ρ)(i:∀ρ,¬ok 162 ρ)(k:∀ρ,¬ok 161 ρ)(g:∀q,¬ok 165 (0,q,1))(f:∀q t,¬PU t->¬ok t (0,q,0)):zU lo e c rb R wd mr mx Q:=by
 refine⟨h.low,h.box.mod p (j _),vd h.rows p i,h.tlen,fun q a b=>(h.tries q a b).mod p (f q),vd h.qo p k,h.flen,fun q a b=>⟨(h.jl q a b).1.modR p fun x d=>by rw[(h.jl q a b).2 x d];exact g q,fun x d=>?_⟩,h.few,h.small⟩;rw[p.old x (yO (h.jl q a b).1.1 d)];exact(h.jl q a b).2 x d
theorem zU.below{a:World}{own:Nat->zn}{Q:ua}(h:zU lo w own rb R wd mr mx Q)(b:Below w.heap.size w a):zU lo a own rb R wd mr mx Q:=h.mod (Pe.of (ok:=fun _ _=>False) own b) (fun _=>id) (fun _=>id) (fun _=>id) (fun _=>id) (fun _ _ _=>id)
theorem zU.at{own:Nat->zn}{Q:ua}(h:zU lo w own rb R wd mr mx Q):rb<w.heap.size/\(∀o,w.frozen? ⟨rb,o,none⟩=false)/\w.cell? ⟨rb,0,none⟩=some Q.rv/\w.cell? ⟨rb,1,none⟩=some (.int .i64 R.count)/\w.cell? ⟨rb,2,none⟩=some (.int .i64 R.qx)/\w.cell? ⟨rb,3,none⟩=some (.int .i64 R.jh)/\w.cell? ⟨rb,4,none⟩=some (.int .i64 wd)/\w.cell? ⟨rb,5,none⟩=some (.int .i64 mr)/\w.cell? ⟨rb,6,none⟩=some (.int .i64 mx)/\w.cell? ⟨rb,7,none⟩=some Q.fv:=by
 obtain⟨a,b⟩:=h.box.rules;exact⟨h.box.lt,b,a 0,a 1,a 2,a 3,a 4,a 5,a 6,a 7⟩
theorem zU.trie{own:Nat->zn}{Q:ua}(h:zU lo w own rb R wd mr mx Q)(p:Nat)(f:p<R.rows.length)(b:p<Q.tbs.length):∃g a,Q.rv=.slice (some ⟨g,0,none⟩) R.rows.length a/\g<w.heap.size/\w.cell? ⟨g,p,none⟩=some (.pointer (some ⟨Q.tbs[p],0,none⟩)):=by
 obtain⟨g,a,c,_,d,e⟩:=y7 h.rows (by omega);exact⟨g,a,c,d,e p _ (by simp[Pu,b,pt])⟩
theorem zU.frow{own:Nat->zn}{Q:ua}(h:zU lo w own rb R wd mr mx Q)(p:Nat)(f:p<R.qo.length)(b:p<Q.fvs.length):∃g a,Q.fv=.slice (some ⟨g,0,none⟩) R.qo.length a/\g<w.heap.size/\w.cell? ⟨g,p,none⟩=some Q.fvs[p]:=by
 obtain⟨g,a,c,_,d,e⟩:=y7 h.qo (by omega);exact⟨g,a,c,d,e p _ (by simp[b])⟩
theorem Ov:(prog.info? 161).map (fun i=>(i.zero,i.size,i.bytes))=some (some (.slice none 0 0),1,24):=by kernel_rfl
theorem sO(w:World)(n:Nat)(T:TypeId)(z:Value)(b:n<=maxLen):(w.alloc (.cells (madeCells #[z] n) T)).ownsRow w.heap.size T 1 (.slice (some ⟨w.heap.size,0,none⟩) n n) n (List.replicate n z):=by
 refine⟨by simp,ze ⟨w.heap.size,n,madeCells #[z] n,rfl,zh _,?_,zh _,b,by rw[size_madeCells];omega,?_⟩⟩
 ·show(w.heap.push _)[w.heap.size]?=_;simp
 ·apply mo;intro i;by_cases a:i<n
  ·simp[a,madeCells,Nat.mod_one]
  ·simp[List.getElem?_take,a]
def Ih(lo:Nat)(w:World)(own:Nat->zn)(rb:Nat)(R:zx)(wd mr mx:Nat)(Q:ua)(e:Ending)(b:World):Prop:=e=.returned (.tuple #[])/\∃c a,zU lo b own rb (qv R) wd mr mx ⟨Q.rv,Q.tbs,c,a⟩/\Pe lo (gd [214]) w own b own
theorem Qf(w:World)(own:Nat->zn)(rb:Nat)(R:zx)(wd mr mx:Nat)(Q:ua)(h:zU lo w own rb R wd mr mx Q)(s:lo<=w.heap.size):
  Calls prog 120 #[.pointer (some ⟨rb,0,none⟩)] w fun e A=>Ih lo w own rb R wd mr mx Q e A:=by
 obtain⟨D,E,r,z,o⟩:=info_parts Ov;obtain⟨M,N,J,S,O,T,L,I,U,K⟩:=h.at;obtain⟨F,t,B⟩:=zq h.rows;have j:=h.few.1;have H:=OY h;have G:=fun W:World=>run_make (P:=prog) (w:=W) 212 161 D _ underlying212 E r .i64 .i64 (R.rows.length:Int) (R.rows.length:Int) (by omega) (Int.le_refl _) (by rw[o];omega) (by omega);generalize y:R.rows.length=n at *;have C:=OY y;go_enter func120,ntmps120;go_wp2;refine zJ (results_none rfl _ _ _) rfl ⟨rfl,.slice (some ⟨w.heap.size,0,none⟩) n n,List.replicate n (.slice none 0 0),?_,?_⟩
 ·have l:zd [rb] w (w.setCell ⟨rb,7,none⟩ (.slice (some ⟨w.heap.size,0,none⟩) n n)):=zd.set _ _ _ _;have u:=Px.box H.out.box;have k:(w.setCell ⟨rb,7,none⟩ (.slice (some ⟨w.heap.size,0,none⟩) n n)).heap.size=w.heap.size:=by simp[World.setCell]
  have p:=H.out.box.set 7 (.slice (some ⟨w.heap.size,0,none⟩) n n);have f:=yE H.out.rows l u (by decide);have m:=fun q a b=>(H.out.tries q a b).saveT l u (by decide);have d:=sO (w.setCell ⟨rb,7,none⟩ (.slice (some ⟨w.heap.size,0,none⟩) n n)) n 161 (.slice none 0 0) (by unfold maxLen;omega);rw[k] at d;have g:Below (w.setCell ⟨rb,7,none⟩ (.slice (some ⟨w.heap.size,0,none⟩) n n)).heap.size (w.setCell ⟨rb,7,none⟩ (.slice (some ⟨w.heap.size,0,none⟩) n n)) ((w.setCell ⟨rb,7,none⟩ (.slice (some ⟨w.heap.size,0,none⟩) n n)).alloc (.cells (madeCells #[.slice none 0 0] n) 161)):=(by go_grown);have i:(qv R).qo=List.replicate n []:=by rw[qv,C.out]
  have c:(qv R).qo.length=n:=by rw[i,List.length_replicate]
  refine⟨H.out.low,by simpa [qv] using p.below g,zE f g,H.out.tlen,fun q a b=>(m q a b).below g,by rw[c];exact yr d s,by rw[c];simp,fun q a b=>?_,⟨H.out.few.1,by rw[c];exact j,H.out.few.2.2⟩,H.out.small⟩;simp only[i,we];exact⟨⟨yK _ _ _ _,by simp⟩,fun x v=>by cases v⟩
 ·have k:(w.setCell ⟨rb,7,none⟩ (.slice (some ⟨w.heap.size,0,none⟩) n n)).heap.size=w.heap.size:=by simp[World.setCell]
  exact(Pe.set own H.out.box H.out.low (show gd [214] 214 (own rb) from ud.2 rfl) 7 _).trans (Pe.of own (by go_grown))
theorem Cg(w:World)(own:Nat->zn)(rb:Nat)(R:zx)(wd mr mx:Nat)(Q:ua)(p:Nat)(h:zU lo w own rb R wd mr mx Q)(r:p<R.rows.length)(b:p<Q.tbs.length):
  Calls prog 205 #[.pointer (some ⟨rb,0,none⟩),.int .i64 p] w fun e j=>e=.returned (.pointer (some ⟨Q.tbs[p],0,none⟩))/\j=w:=by
 obtain⟨v,x,f,o,n,q,l,d,s,k⟩:=h.at;obtain⟨g,m,a,y,u⟩:=h.trie p r b;rw[a] at f;have i:(p:Int)<(R.rows.length:Int):=by omega
 have c:=h.few.1;clear h a o n q l d s k;generalize Q.tbs[p]=t at *;go_enter func205,ntmps205;go_wp2;go_ret;exact⟨rfl,rfl⟩
end
end Go.Proofs.YteampbddflhngaaGreat
