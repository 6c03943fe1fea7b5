import Derived.Laws.AppendOwnNone
import Derived.Test.YteampbddflhngaaGreatQ06
import Derived.Test.YteampbddflhngaaGreatQ12
import Derived.Test.YteampbddflhngaaGreatQ13
namespace Go.Proofs.YteampbddflhngaaGreat
set_option linter.all false
set_option maxRecDepth 100000
set_option maxHeartbeats 4000000
section
open Go.Proofs.Tryz Go.RowKit
variable {lo:Nat}{Ws:List yb}{Ps:List xe}
def QM:(prog.info? 292).map (λi=>(i.zero,i.size,i.bytes))=some (some (.agg #[ι 0,ι 0,ι 0,ν,ν,ν,ν,ν]),8,144):=by kernel_rfl
def lO{t:TypeId}(h:Su t)(a:t∉[214,161,165,310,323,301]):∀ρ,¬uY t ρ:=λρ q=>by
 rcases q with q|q
 .exact q.1 h
 .exact a q
def qA.mod{c:Nat}{ok:TypeId->zn->Prop}{w w':World}{own own':Nat->zn}{v:Value}{rs:List zs}{ps:List (Value×Value×Value)}(h:qA c w v rs ps)(m:R9 lo ok w own w' own')(e:∀ρ,¬ok 284 ρ)(d:∀ρ,¬ok 204 ρ)(f:∀ρ,¬ok 207 ρ):qA c w' v rs ps:=⟨vC h.own m f,h.len,λk a b=>(h.rule k a b).mod m e d,h.few⟩
def ux.make{w w':World}{own own':Nat->zn}{wd:Nat}{c:Value}(h:ux lo w own wd c Ws Ps)(m:R9 lo (fO Ws.length) w own w' own'):ux lo w' own' wd c Ws Ps:=
 ⟨vC h.arr m (nG (by decide) (by decide)),h.plen,λk a b=>(h.work k a b).mod m (nG (by decide) (by decide)) (nG (by decide) (by decide)) (An (by omega) (by omega)) (nG (by decide) (by decide)) (λi j t d q=>by
  rcases q with q|⟨rfl,_⟩
  .exact pY (by omega) q
  .exact d (by decide)),h.few⟩
def Q3(Ws:List yb)(Ps:List xe)(h:Ps.length=Ws.length)(W:yb)(P:xe):gC (Ws++[W]) (Ps++[P])=gC Ws Ps++qZ W.rule P:=by
 simp[gC,List.zipWith_append h.symm]
def ux.push{w w':World}{own:Nat->zn}{wd:Nat}{i v':Value}{W:yb}{P:xe}(h:ux lo w own wd i Ws Ps)(v:uo lo w own Ws.length wd W P)(s:Ws.length+1<=1000)(r:w'.ownsRow lo 292 8 v' (Ws.length+1) (gC Ws Ps++qZ W.rule P))(hs:zc i.ownBlock.toList w w'):ux lo w' own wd v' (Ws++[W]) (Ps++[P])/\R9 lo (gO [292]) w own w' own:=by
 have m:R9 lo (gO [292]) w own w' own:=R9.ofSave own hs λb p=>by
  have d:i.ownBlock=some b:=by simpa using p
  obtain⟨c,u⟩:=jL h.arr d;exact⟨yX h.arr d,yA h.arr d,c,_,u,xC.2 rfl⟩
 have f:∀t,t∉[292]->∀ρ,¬gO [292] t ρ:=λt g ρ q=>g q;have l:=λk W P (q:uo lo w own k wd W P)=>q.mod m (f _ (by decide)) (f _ (by decide)) (f _ (by decide) _) (f _ (by decide)) (λ_ _ t g q=>by rw[xC.1 q] at g;exact g (by decide));refine⟨⟨?_,by simp[h.plen],λk a b=>?_,by simpa using s⟩,m⟩;rw[Q3 Ws Ps h.plen,yC];exact r;simp only[yC,xr,g5] at a b;by_cases j:k<Ws.length;have e:k<Ps.length:=by rw[h.plen];exact j
 rw[uD j,uD e];exact l _ _ _ (h.work k j e);obtain rfl:k=Ws.length:=by omega
 have n:(Ws++[W])[Ws.length]=W:=by simp
 have o:(Ps++[P])[Ws.length]=P:=by simp[←h.plen]
 rw[n,o];exact l _ _ _ v
def kZ.push{c:List Nat}{n:Nat}(h:kZ c n Ws Ps)(f:Ps.length=Ws.length){W:yb}{P:xe}(i:dD c n W.rule P.nbs):kZ c n (Ws++[W]) (Ps++[P]):=by
 intro k a b;simp only[yC,xr,g5] at a b;by_cases e:k<Ws.length;have d:k<Ps.length:=by rw[f];exact e
 rw[uD e,uD d];exact h k e d;obtain rfl:k=Ws.length:=by omega
 have g:(Ws++[W])[Ws.length]=W:=by simp
 have j:(Ps++[P])[Ws.length]=P:=by simp[←f]
 rw[g,j];exact i
def tB(n:Nat)(rs:List zs):Prop:=∀r∈rs,(∀l∈r.qc,l.pred<n)/\∀l∈r.qw,l.pred<n/\l.pred≠r.head.pred
def PW(lo:Nat)(w:World)(own:Nat->zn)(d:Nat)(R:zu)(b:List yb)(wd mr mx:Nat)(Q:um)(e:Ending)(w':World):Prop:=∃c a Ps,e=.returned c/\ux lo w' a wd c b Ps/\kZ Q.tbs R.rows.length b Ps/\zY lo w' a d R wd mr mx Q/\R9 lo uY w own w' a
def IA(w:World)(own:Nat->zn)(rb s:Nat)(R:zu)(rv:Value)(rs:List zs)(ps:List (Value×Value×Value))(Y:List yb)(wd mr mx:Nat)(Q:um)(j:Nat)(h:zY lo w own rb R wd mr mx Q)(hr:qA lo w rv rs ps)(a5:lo<=w.heap.size)(u:tB R.rows.length rs)(hv:RY j wd R s rs=some Y):
  Calls prog 164 #[(π rb),rv,ι s] w λe w'=>PW lo w own rb R Y wd mr mx Q e w':=by
 obtain⟨i0,hi,aS,aK,aO⟩:=info_parts QM;have HH:=Ry h;have aJ:=Ry hr;have aM:=Ry a5;have aP:=Ry u;have a6:Hid (RY j wd R s (rs.drop 0)=some Y):=hv;have bf:=hr.few;obtain⟨bb,aU,aG⟩:=zq hr.own;subst aG;clear h hr a5 u hv;go_enter func164,ntmps164;go_upto_region 3 with fail
 go_loopw [7,13] (λv7 aB wr=>∃m:Nat,m<=rs.length/\aB=ι m/\∃l rest c Ps,Hid (ux lo wr c wd v7 l Ps)/\Hid (kZ Q.tbs R.rows.length l Ps)/\Hid (zY lo wr c rb R wd mr mx Q)/\Hid (R9 lo uY w own wr c)/\Hid (RY j wd R s (rs.drop m)=some rest)/\Hid (l++rest=Y)/\Hid (l.length<=m)/\Hid (∀b,v7.ownBlock=some b->w.heap.size<=b)) (λ_ i _=>rs.length-(intOf i).toNat);exact⟨0,zv _,rfl,[],Y,own,[],⟨yW _ _ _ _,rfl,λk a=>by simp at a,by simp⟩,(λk a=>by simp at a),HH,R9.refl _ _,a6,rfl,zf _,λb z=>by cases z⟩;clear a6;obtain⟨m,hm,rfl,l,rest,c,Ps,V,ab,X,F,aw,an,aj,ao⟩:=hrel;have a2:=F.out.size;have Z:=zZ aM.out a2;obtain⟨aN,au,aE⟩:=zq V.out.arr;subst aE;by_cases K:m<rs.length
 .have am:=Ry (aJ.out.mod F.out (lO (by decide) (by decide)) (lO (by decide) (by decide)) (lO (by decide) (by decide)));have az:m<ps.length:=by rw[am.out.len];exact K
  obtain⟨g,aA,hg,q0,q1,q2,q3,q4,q5⟩:=am.out.cell m K az;subst aA;have o:=am.out.rule m K az;obtain⟨ap,U,ai⟩:=o.head.qy;obtain⟨ar,B,ag⟩:=o.qc.qy;obtain⟨af,M,ae⟩:=o.qw.qy;rw[ai] at q3;rw[ag] at q4;rw[ae] at q5;rw[ai,ag,ae] at o;have d:=aw.out;rw[xh K] at d;unfold RY at d;have aX:(m:Int)<(rs.length:Int):=by omega
  have u:=aP.out _ (zt K);clear ai ag ae;generalize rs[m]=r at *;by_cases ak:r.qh=s
  .rw[zb ak] at d;subst ak;obtain⟨vs,n,a1,aa,E⟩:∃vs n,d8 j wd R r.qc=some vs/\RY j wd R r.qh (rs.drop (m+1))=some n/\rest=⟨r,vs⟩::n:=by
    split at d;rename_i vs n h1 h2;exact⟨vs,n,h1,h2,by simpa using d.symm⟩;cases d
   have ah:=Ry aa;have aH:Hid ((l++[⟨r,vs⟩])++n=Y):=show(l++[⟨r,vs⟩])++n=Y by rw[←an.out,E];simp
   have aR:Hid (∀W0,μ wr W0->Calls prog 192 #[(π rb),.agg #[ι r.qh,ι r.vars,ι r.head.pred,.slice ap r.head.qg.length U,.slice ar r.qc.length B,.slice af r.qw.length M]] W0 λe w'=>∃A I G N L S C D J O v p f,e=ε (.agg #[ι r.qh,ι r.vars,ι r.head.pred,.slice A r.head.qg.length I,.slice G r.qc.length N,.slice L r.qw.length S,.slice C vs.length D,.slice J r.qw.length O])/\Hid (uo lo w' f l.length wd ⟨r,vs⟩ ⟨.slice A r.head.qg.length I,.slice G r.qc.length N,.slice L r.qw.length S,.slice C vs.length D,.slice J r.qw.length O,v,p⟩/\dD Q.tbs R.rows.length r p/\R9 lo (fO l.length) W0 c w' f)):=λW0 z=>by
    refine(N0 W0 c rb l.length R r _ _ _ vs wd mr mx Q j (X.out.below z) (o.below z) (zZ Z z.size) u.1 u.2 a1).mono ?_;rintro e w' ⟨⟨tv,pv,nv,vv,aZ,v,p⟩,f,rfl,y,aI,aL⟩;obtain⟨A,I,e1⟩:=y.rule.head.qy;obtain⟨G,N,e2⟩:=y.rule.qc.qy;obtain⟨L,S,e3⟩:=y.rule.qw.qy;obtain⟨C,D,e4⟩:=zq y.qm;obtain⟨J,O,e5⟩:=zq y.qw;dsimp only at e1 e2 e3 e4 e5;subst e1 e2 e3 e4 e5;exact⟨A,I,G,N,L,S,C,D,J,O,v,p,f,rfl,y,aI,aL⟩
   have T:μ wr (wr.alloc (.cells #[ι r.qh,ι r.vars,ι r.head.pred,.slice ap r.head.qg.length U,.slice ar r.qc.length B,.slice af r.qw.length M] 207)):=(by go_grown);have x:=Ry T;have bh:l.length<=999:=by have:=aj.out;omega
   clear d o T u E aa a1;go_upto_region 7 with (first|(go_at_call 192;refine(aR.out _ x.out).mono ?_;rintro e w5 ⟨A,I,G,N,L,S,C,D,J,O,v,p,f,rfl,HX⟩))
   have aq:μ w5 (w5.alloc (.cells #[ι r.qh,ι r.vars,ι r.head.pred,.slice A r.head.qg.length I,.slice G r.qc.length N,.slice L r.qw.length S,.slice C vs.length D,.slice J r.qw.length O] 292)):=(by go_grown);have ax:=Rz.new w5 #[ι r.qh,ι r.vars,ι r.head.pred,.slice A r.head.qg.length I,.slice G r.qc.length N,.slice L r.qw.length S,.slice C vs.length D,.slice J r.qw.length O] 292;have ay:=(R9.of c x.out).trans HX.out.2.2;have H:=Ry (ay.trans (R9.of f aq));have aC:=Ry (HX.out.1.mod (R9.of (ok:=λ_ _=>False) f aq) (λ_=>id) (λ_=>id) id (λ_=>id) (λ_ _ _ _=>id));clear ay aq;obtain⟨bd,ba,be⟩:=ax.boxed;generalize aD:w5.alloc (.cells #[ι r.qh,ι r.vars,ι r.head.pred,.slice A r.head.qg.length I,.slice G r.qc.length N,.slice L r.qw.length S,.slice C vs.length D,.slice J r.qw.length O] 292)=W6 at *;clear aD ax;have ac:=Ry (V.out.make H.out);have ad:=ac.out.arr;generalize w5.heap.size=bg at *;have aW:=zZ Z H.out.size;go_wp2_with (at_builtin;refine ko W6 _ [ι r.qh,ι r.vars,ι r.head.pred,.slice A r.head.qg.length I,.slice G r.qc.length N,.slice L r.qw.length S,.slice C vs.length D,.slice J r.qw.length O] _ rfl (.tmp 24) (.tmp 26) 265 rfl lo 292 i0 _ 8 144 underlying265 hi aS aK aO rfl (by decide) (.slice aN l.length au) l.length (gC l Ps) rfl ad (by exact(by go_grown)) _ _ rfl (by simp) rfl (by simp[Value.oneCell']) (by omega) (by omega) (by omega) ?_;intro v' w7 al a4 a7;obtain⟨aV,aF,av⟩:=zq al;subst av;have a9:Hid (zc _ W6 w7):=a4;have aQ:Hid (_∨_):=a7;have aT:Hid (World.ownsRow w7 lo 292 8 _ _ _):=al;clear a4 a7 al)
   have a8:=ac.out.push (W:=⟨r,vs⟩) (P:=⟨.slice A r.head.qg.length I,.slice G r.qc.length N,.slice L r.qw.length S,.slice C vs.length D,.slice J r.qw.length O,v,p⟩) aC.out (by omega) aT.out a9.out;have a3:=(X.out.make H.out).mod a8.2 (gd (by decide)) (gd (by decide)) (gd (by decide)) (λ_=>gd (by decide) _) (λ_ t ht q=>by rw[xC.1 q] at ht;exact ht (by decide));have a0:=(F.out.trans (H.out.more λ_ _ q=>Le q)).newer a9.out λb z=>ao.out b (by simpa using z);have bi:=H.out.size;exact⟨⟨m+1,by omega,by go_num,l++[(⟨r,vs⟩:yb)],n,f,Ps++[(⟨.slice A r.head.qg.length I,.slice G r.qc.length N,.slice L r.qw.length S,.slice C vs.length D,.slice J r.qw.length O,v,p⟩:xe)],a8.1,ab.out.push ac.out.plen HX.out.2.1,a3,a0,ah,aH,show(l++[(⟨r,vs⟩:yb)]).length<=m+1 by have:=aj.out;simp;omega,λb z=>by
    rcases aQ.out with e|⟨g',e,aY⟩;rw[e] at z;exact ao.out b z;rw[e] at z;simp at z;omega⟩,by simp[intOf];omega⟩
  rw[za ak] at d;have ah:=Ry d;have bc:¬(r.qh:Int)=(s:Int):=by omega
  have T:μ wr (wr.alloc (.cells #[ι r.qh,ι r.vars,ι r.head.pred,.slice ap r.head.qg.length U,.slice ar r.qc.length B,.slice af r.qw.length M] 207)):=(by go_grown);have x:Hid (μ wr _):=T;clear d o T u;go_wp2;exact⟨⟨m+1,by omega,by go_num,l,rest,c,Ps,V.out.below x.out,ab,X.out.below x.out,F.out.trans (R9.of c x.out),ah,an,Nat.le_succ_of_le aj.out,ao⟩,by simp[intOf];omega⟩
 obtain rfl:m=rs.length:=by omega
 have d:=aw.out;rw[List.drop_length] at d;simp only[RY,zr] at d;have HE:Hid (l=Y):=show l=Y by rw[←an.out,←d];simp
 clear d;go_wp2;go_ret;exact⟨_,c,Ps,rfl,by rw[←HE.out];exact V.out,by rw[←HE.out];exact ab.out,X.out,F.out⟩
end
section
open Go.Proofs.Tryz Go.RowKit
variable {lo:Nat}
def P9(lo:Nat)(w:World)(own:Nat->zn)(f:Nat)(R R':zu)(wd mr mx:Nat)(Q:um)(b:Bool)(e:Ending)(w':World):Prop:=e=ε (.bool b)/\∃a d c,zY lo w' a f R' wd mr mx ⟨Q.rv,Q.tbs,d,c⟩/\R'.rows.length=R.rows.length/\R9 lo uY w own w' a
def JW(w:World)(own:Nat->zn)(F s:Nat)(R R':zu)(rv:Value)(rs:List zs)(ps:List (Value×Value×Value))(wd mr mx:Nat)(Q:um)(d:Nat)(b:Bool)(h:zY lo w own F R wd mr mx Q)(hr:qA lo w rv rs ps)(J:lo<=w.heap.size)(ab:tB R.rows.length rs)(c:pj d wd mr mx rs R s=some (R',b)):
  Calls prog 122 #[(π F),rv,ι s] w λe w'=>P9 lo w own F R R' wd mr mx Q b e w':=by
 unfold pj at c;rcases v:RY d wd R s rs with _|G;rw[v] at c;cases c;rw[v] at c;have ai:=Ry (IA w own F s R rv rs ps G wd mr mx Q d h hr J ab v);have af:=Ry J;have an:=h.small;obtain⟨al,aj,ad⟩:=zq hr.own;subst ad;have N:Hid (if decide (0<G.length)=true then kL wd mr mx d true G R=some (R',b) else(R=R'/\true=b)):=by
  by_cases hz:G.length>0;rw[Hid,zb (by simpa using hz)];simpa [hz] using c;rw[Hid,za (by simpa using hz)];simpa [hz] using c
 clear h hr J ab v c;go_enter func122,ntmps122;go_upto_region 4 with (first|(go_at_call 164;refine ai.out.mono ?_;rintro e w2 ⟨wv,U,Ps,rfl,E,X,W,O⟩;obtain⟨ag,P,ac⟩:=zq E.arr;subst ac;have u:=Ry E;have t:=Ry X;have i:=Ry W;have f:=Ry O;clear E X W O))
 go_loopg [8,9] d (λk v8 v9 wr=>∃(first more:Bool) (g:zu) (a:Nat->zn) (z:Value) (y:List Value) (H:List yb) (Pk:List xe),v8=.bool first/\v9=.bool more/\Hid (zY lo wr a F g wd mr mx ⟨Q.rv,Q.tbs,z,y⟩)/\Hid (ux lo wr a wd (.slice ag G.length P) H Pk)/\Hid (kZ Q.tbs R.rows.length H Pk)/\Hid (R9 lo uY w own wr a)/\Hid (g.rows.length=R.rows.length)/\Hid (if more=true then kL wd mr mx k first H g=some (R',b) else(g=R'/\true=b)))
 case atStart=>exact⟨true,decide (0<G.length),R,U,Q.fv,Q.fvs,G,Ps,rfl,rfl,i,u,t,f,rfl,N⟩
 clear u t i f N;obtain⟨first,more,g,a,z,y,H,Pk,rfl,rfl,i,u,t,f,n,N⟩:=hrel;cases more
 .have c:g=R'/\true=b:=by simpa using N.out
  have o:=Ry c;clear c;go_wp2;go_ret;exact⟨by rw[←o.out.2];rfl,a,z,y,by rw[←o.out.1];exact i.out,by rw[←o.out.1];exact n.out,f.out⟩
 have c:kL wd mr mx gk first H g=some (R',b):=by simpa using N.out
 clear N;rcases gk with _|m;simp[kL] at c;unfold kL at c;obtain⟨hl,hf,h0,h1,h2,h3,h4,h5,h6,h7⟩:=i.out.at;have V:=zZ af.out f.out.size;clear h0 h3 h4 h5 h7;by_cases aa:g.qx≥mx
 .rw[zb aa] at c;have o:=Ry (show g=R'/\false=b by simpa using c);have ah:(mx:Int)<=(g.qx:Int):=by omega
  clear c;go_upto_region 5 with fail
  go_quiet (fail)
  have K:μ wr (wr.drewN nq):=zI (zp _ _) nq;have M:=Ry K;clear K;generalize wr.drewN nq=w3 at *;go_wp2;go_ret;exact⟨by rw[←o.out.2];rfl,a,z,y,by rw[←o.out.1];exact i.out.below M.out,by rw[←o.out.1];exact n.out,f.out.trans (R9.of a M.out)⟩
 rw[za aa] at c;have ah:¬(mx:Int)<=(g.qx:Int):=by omega
 rcases B:nX m wd mr first H g with _|x;rw[B] at c;cases c;obtain⟨p,C,b3⟩:=x;rw[B] at c;have Y:=Ry λW0 hb=>JD W0 a F _ g p H C Pk wd mr mx _ m first b3 (i.out.below hb) (u.out.below hb) (by rw[n.out];exact t.out) (zZ V hb.size) (by omega) B
 clear B;have D:Hid ((b3=false->p=R'/\false=b)/\(b3=true->(if p.count>g.count then kL wd mr mx m false C p else some (p,true))=some (R',b))):=⟨λe=>by subst e;simpa using c,λe=>by subst e;exact c⟩;clear c;go_upto_region 5 with fail
 go_quiet (fail)
 have K:μ wr (wr.drewN nq):=zI (zp _ _) nq;have x1:=zl K hl h1;have M:=Ry K;have am:=yE hl K.size;clear K;generalize wr.drewN nq=w3 at *;clear h1 h2 h6 hf hl;cases b3
 .have o:=Ry (D.out.1 rfl);go_wp2_with (go_at_call 165;refine(Y.out _ M.out).mono ?_;rintro e w4 ⟨rfl,l,A,j,S,r,T,Z,I,L⟩)
  go_ret;exact⟨by rw[←o.out.2];rfl,l,A,j,by rw[←o.out.1];exact r,by rw[←o.out.1];exact I.trans n.out,(f.out.trans (R9.of a M.out)).trans L⟩
 have o:Hid (if decide (g.count<p.count)=true then kL wd mr mx m false C p=some (R',b) else(p=R'/\true=b)):=by
  have q:=D.out.2 rfl;by_cases hc:p.count>g.count;rw[Hid,zb (by simpa using hc)];simpa [hc] using q;rw[Hid,za (by simpa using hc)];simpa [hc] using q
 clear D;go_wp2_with (go_at_call 165;refine(Y.out _ M.out).mono ?_;rintro e w4 ⟨rfl,l,A,j,S,r,T,Z,I,L⟩;obtain⟨ak,_,_,y1,_⟩:=r.at;have ae:Hid (zY lo w4 l F p wd mr mx ⟨Q.rv,Q.tbs,A,j⟩):=r;clear r)
 go_roundg m
 case measure=>omega
 exact⟨false,decide (g.count<p.count),p,l,A,j,C,S,rfl,by simp,ae,T,by rw[←n.out];exact Z,(f.out.trans (R9.of a M.out)).trans L,I.trans n.out,o⟩
end
section
open Go.Proofs.Tryz Go.RowKit
variable {lo:Nat}{w0 w:World}{own0:Nat->zn}{t8 wd mr mx:Nat}{tbs:List Nat}
structure fI (lo:Nat) (w0 w:World) (own0 own:Nat->zn) (t8 g n wd mr mx:Nat) (ar:List Nat) (tbs:List Nat):Prop where
 low:w0.heap.size<=t8
 lowg:w0.heap.size<=g
 ne:t8≠g
 box:Rz w t8 #[.slice (some ⟨g,0,none⟩) n n,ι 0,ι 0,ι 0,ι wd,ι mr,ι mx,ν] 214
 rows:w.ownsRow lo 162 1 (.slice (some ⟨g,0,none⟩) n n) n (RO tbs++List.replicate (n-tbs.length) (.pointer none))
 tries:∀i (_:i<ar.length) (_:i<tbs.length),xa lo w own (0,i,0) tbs[i] (xd wd ar[i])
 mod:R9 lo uY w0 own0 w own
def Do:TypeId->zn->Prop:=λ_ _=>False
def fI.step{w':World}{own own':Nat->zn}{g n:Nat}{c:List Nat}(h:fI lo w0 w own0 own t8 g n wd mr mx c tbs)(m:R9 lo Do w own w' own'):fI lo w0 w' own0 own' t8 g n wd mr mx c tbs:=
 ⟨h.low,h.lowg,h.ne,h.box.mod m id,vC h.rows m (λ_=>id),λi a b=>(h.tries i a b).mod m (λ_ _=>id),h.mod.trans (m.more λ_ _ q=>q.elim)⟩
def fI.push{w':World}{own:Nat->zn}{g n tb:Nat}{d fp:List Nat}(h:fI lo w0 w own0 own t8 g n wd mr mx d tbs)(l:lo<=w.heap.size)(x:tbs.length<n)(r:ya w.heap.size w' tb (xd wd (d.getD tbs.length 0)) fp)(j:μ w w'):
  fI lo w0 (w'.setCell ⟨g,tbs.length,none⟩ ((π tb))) own0 (ext own w.heap.size (0,tbs.length,0)) t8 g n wd mr mx d (tbs++[tb]):=by
 have u:=R9.extNew (lo:=lo) (ok:=Do) own (0,tbs.length,0) j;have c:=h.step u;have f:zc [g] w' (w'.setCell ⟨g,tbs.length,none⟩ ((π tb))):=zc.set _ _ _ _;obtain⟨y,m⟩:=jL c.rows rfl;have o:=RL.box m;refine⟨h.low,h.lowg,h.ne,c.box.saveT f o (by decide),?_,λi a b=>?_,c.mod.newer f λb j=>by simp at j;rw[j];exact h.lowg⟩;have q:=uj c.rows tbs.length (by simp[RO];omega) ((π tb));have e:(RO tbs++List.replicate (n-tbs.length) (Value.pointer none)).set tbs.length ((π tb))=RO (tbs++[tb])++List.replicate (n-(tbs++[tb]).length) (Value.pointer none):=by
  obtain⟨k,t⟩:∃k,n-tbs.length=k+1:=⟨n-tbs.length-1,by omega⟩;rw[List.set_append,za (by simp[RO]),t,re];have s:n-(tbs++[tb]).length=k:=by simp;omega
  rw[s];simp[RO,pt]
 rw[e] at q;exact q;simp only[yC,xr,g5] at b;by_cases p:i<tbs.length;rw[uD p];exact(c.tries i a p).saveT f o (by decide);obtain rfl:i=tbs.length:=by omega
 have v:(tbs++[tb])[tbs.length]=tb:=by simp
 rw[v];have q:=r.new own (0,tbs.length,0) l;rw[show d.getD tbs.length 0=d[tbs.length] by simp[List.getD,a]] at q;exact q.saveT f o (by decide)
def fI.done{own:Nat->zn}{g:Nat}{c:List Nat}(h:fI lo w0 w own0 own t8 g c.length wd mr mx c tbs)(f:lo<=w0.heap.size)(d:tbs.length=c.length)(hs:c.length<=1000)(e:wd<=1000/\mr<=1048576/\mx<=1048576):zY lo w own t8 ⟨c.map (xd wd),0,0,0,[]⟩ wd mr mx ⟨.slice (some ⟨g,0,none⟩) c.length c.length,tbs,ν,[]⟩:=by
 refine⟨zZ f h.low,h.box,?_,by simp[d],λp a b=>?_,yW _ _ _ _,rfl,λp a=>by simp at a,⟨by simpa using hs,by simp,by simp,by simp⟩,e⟩;have q:=h.rows;rw[d,jv] at q;simpa using q;simp only[xY] at a;simp only[xV];exact h.tries p a b
def NK(lo:Nat)(w:World)(own:Nat->zn)(wd mr mx:Nat)(b:Option zu)(e:Ending)(w':World):Prop:=match b with
 |none=>e=ε (.tuple #[.agg #[ν,ι 0,ι 0,ι 0],.bool false])/\∃a,R9 lo uY w own w' a
 |some R=>∃a c Q,e=ε (.tuple #[.agg #[Q.rv,ι R.count,ι R.qx,ι R.jg],.bool true])/\zY lo w' a c R wd mr mx Q/\R9 lo uY w own w' a
def kP:Nat->zn:=λ_=>(0,0,7)
def Tx(w:World)(S:qJ)(ps:List (Value×Value×Value))(av fv rv:Value)(mr mx F:Nat)(V:Option zu)(h:gK lo w av fv rv S ps)(bb:lo<=w.heap.size)(br:tB S.qj.length S.rules)(b8:S.qj.length<=1000)(a2:∀a∈S.qj,a<=100000000)(M:∀f∈S.facts,f.row.length=3)(bL:S.facts.length<=1000000)(aZ:S.qf<=1000/\mr<=1048576/\mx<=1048576)(hr:mz F S mr mx=some V):
  Calls prog 74 #[.agg #[ι S.qf,av,fv,rv],ι mr,ι mx] w λe w'=>NK lo w kP S.qf mr mx V e w':=by
 obtain⟨i0,hi,bJ,bC,bF⟩:=info_parts Rr;have HS:=Ry h;have ae:=Ry bb;have bG:=Ry br;have b6:=Ry a2;have b0:=Ry M;have HR:=Ry hr;obtain⟨u,d,b7⟩:=zq h.ari;obtain⟨H,j,bx⟩:=zq h.fac;obtain⟨C,k,b5⟩:=zq h.rul.own;subst b7 bx b5;have bN:=h.rul.few;have aY:=λW0:World=>run_make (P:=prog) (w:=W0) 150 162 i0 _ underlying150 hi bJ .i64 .i64 (S.qj.length:Int) (S.qj.length:Int) (by omega) (Int.le_refl _) (by rw[bF];omega) (by omega);rw[bC] at aY;clear h bb br a2 M hr;go_enter func74,ntmps74;go_upto_region 4 with fail
 have bk:μ w ((((w.alloc (.cells #[ι S.qf,.slice u S.qj.length d,.slice H S.facts.length j,.slice C S.rules.length k] 146)).alloc (.cells #[ν,ι 0,ι 0,ι 0] 152)).alloc (.cells #[.slice (some ⟨w.heap.size+1+1+1,0,none⟩) S.qj.length S.qj.length,ι 0,ι 0,ι 0,ι S.qf,ι mr,ι mx,ν] 214)).alloc (.cells (madeCells #[.pointer none] S.qj.length) 162)):=(by go_grown);have aO:=(((Rz.new w #[ι S.qf,.slice u S.qj.length d,.slice H S.facts.length j,.slice C S.rules.length k] 146).up (.cells #[ν,ι 0,ι 0,ι 0] 152)).up (.cells #[.slice (some ⟨w.heap.size+1+1+1,0,none⟩) S.qj.length S.qj.length,ι 0,ι 0,ι 0,ι S.qf,ι mr,ι mx,ν] 214)).up (.cells (madeCells #[.pointer none] S.qj.length) 162);have aR:=(((Rz.new (w.alloc (.cells #[ι S.qf,.slice u S.qj.length d,.slice H S.facts.length j,.slice C S.rules.length k] 146)) #[ν,ι 0,ι 0,ι 0] 152).up (.cells #[.slice (some ⟨w.heap.size+1+1+1,0,none⟩) S.qj.length S.qj.length,ι 0,ι 0,ι 0,ι S.qf,ι mr,ι mx,ν] 214)).up (.cells (madeCells #[.pointer none] S.qj.length) 162)).at' (b':=w.heap.size+1) (by simp);have aP:=((Rz.new ((w.alloc (.cells #[ι S.qf,.slice u S.qj.length d,.slice H S.facts.length j,.slice C S.rules.length k] 146)).alloc (.cells #[ν,ι 0,ι 0,ι 0] 152)) #[.slice (some ⟨w.heap.size+1+1+1,0,none⟩) S.qj.length S.qj.length,ι 0,ι 0,ι 0,ι S.qf,ι mr,ι mx,ν] 214).up (.cells (madeCells #[.pointer none] S.qj.length) 162)).at' (b':=w.heap.size+1+1) (by simp);have ab:=pJ (((w.alloc (.cells #[ι S.qf,.slice u S.qj.length d,.slice H S.facts.length j,.slice C S.rules.length k] 146)).alloc (.cells #[ν,ι 0,ι 0,ι 0] 152)).alloc (.cells #[.slice (some ⟨w.heap.size+1+1+1,0,none⟩) S.qj.length S.qj.length,ι 0,ι 0,ι 0,ι S.qf,ι mr,ι mx,ν] 214)) S.qj.length 162 (.pointer none) (by unfold maxLen;omega);have be:(((w.alloc (.cells #[ι S.qf,.slice u S.qj.length d,.slice H S.facts.length j,.slice C S.rules.length k] 146)).alloc (.cells #[ν,ι 0,ι 0,ι 0] 152)).alloc (.cells #[.slice (some ⟨w.heap.size+1+1+1,0,none⟩) S.qj.length S.qj.length,ι 0,ι 0,ι 0,ι S.qf,ι mr,ι mx,ν] 214)).heap.size=w.heap.size+1+1+1:=by simp
 rw[be] at ab;have a6:Hid (fI lo w ((((w.alloc (.cells #[ι S.qf,.slice u S.qj.length d,.slice H S.facts.length j,.slice C S.rules.length k] 146)).alloc (.cells #[ν,ι 0,ι 0,ι 0] 152)).alloc (.cells #[.slice (some ⟨w.heap.size+1+1+1,0,none⟩) S.qj.length S.qj.length,ι 0,ι 0,ι 0,ι S.qf,ι mr,ι mx,ν] 214)).alloc (.cells (madeCells #[.pointer none] S.qj.length) 162)) kP kP (w.heap.size+1+1) (w.heap.size+1+1+1) S.qj.length S.qf mr mx S.qj []):=⟨by omega,by omega,by omega,aP,yk ab (by have:=ae.out;omega),(λi a b=>by simp at b),R9.of kP bk⟩;have s:=Ry aO;have A:=Ry aR;clear bk aO aR aP ab be aY;generalize ((((w.alloc (.cells #[ι S.qf,.slice u S.qj.length d,.slice H S.facts.length j,.slice C S.rules.length k] 146)).alloc (.cells #[ν,ι 0,ι 0,ι 0] 152)).alloc (.cells #[.slice (some ⟨w.heap.size+1+1+1,0,none⟩) S.qj.length S.qj.length,ι 0,ι 0,ι 0,ι S.qf,ι mr,ι mx,ν] 214)).alloc (.cells (madeCells #[.pointer none] S.qj.length) 162))=w1 at *;generalize hg:w.heap.size+1+1+1=g at *;generalize h8:w.heap.size+1+1=t8 at *;generalize h6:w.heap.size+1=t6 at *;have bD:t6≠t8:=by omega
 have bQ:w.heap.size<t6:=by omega
 have bS:t8<g:=by omega
 have bM:t6<g:=by omega
 clear hg h8 h6;go_loopw [28] (λbs wr=>∃m:Nat,m<=S.qj.length/\bs=ι m/\∃l tbs,Hid (fI lo w wr kP l t8 g S.qj.length S.qf mr mx S.qj tbs)/\Hid (tbs.length=m)/\Hid (Rz wr w.heap.size #[ι S.qf,.slice u S.qj.length d,.slice H S.facts.length j,.slice C S.rules.length k] 146)/\Hid (Rz wr t6 #[ν,ι 0,ι 0,ι 0] 152)) (λi _=>S.qj.length-(intOf i).toNat);exact⟨0,zv _,rfl,kP,[],a6,rfl,s,A⟩;clear a6 s A;obtain⟨m,hm,rfl,l,tbs,T,aC,s,A⟩:=hrel;have I:=T.out.mod.size;have E:=zZ ae.out I;by_cases N:m<S.qj.length
 .have a5:wr.ownsRow lo 3 1 (.slice u S.qj.length d) S.qj.length (S.qj.map Sf):=r9 HS.out.ari T.out.mod (λb _ q=>by
   rcases q with q|q;exact q.2 rfl;revert q;decide)
  obtain⟨ga,bI,Z,_,bO,bi⟩:=yw a5 (by omega);simp only[Value.slice.injEq] at Z;have aD:=Z.1;clear Z;subst aD;have q0:=bi m (ι (S.qj[m]:Nat)) (by simp[N,Sf]);have bw:S.qj[m]<=100000000:=b6.out _ (zt _);obtain⟨aX,bq,aM⟩:=T.out.box.boxed;obtain⟨Q,M,aa⟩:=s.out.boxed;have a8:(m:Int)<(S.qj.length:Int):=by omega
  have HN:Hid (∀W0,μ wr W0->Calls prog 119 #[ι S.qf,ι (S.qj[m]:Nat)] W0 λe w'=>∃tb,e=ε ((π tb))/\w'.cell? ⟨t8,0,none⟩=some (.slice (some ⟨g,0,none⟩) S.qj.length S.qj.length)/\w'.cell? ⟨w.heap.size,0,none⟩=some (ι S.qf)/\w'.cell? ⟨g,m,none⟩=some (.pointer none)/\(∀o,w'.frozen? ⟨g,o,none⟩=false)/\g<w'.heap.size/\Hid (μ wr w'/\∃ak,fI lo w (w'.setCell ⟨g,m,none⟩ ((π tb))) kP ak t8 g S.qj.length S.qf mr mx S.qj (tbs++[tb]))):=λW0 X=>by
   refine(oO W0 S.qf S.qj[m] aZ.1 bw).mono ?_;rintro e w' ⟨tb,fp,rfl,ht,aW⟩;have hB:=R5 X aW;have h0:=T.out.step (R9.of l X);have h1:=T.out.step (R9.of l hB);have a9:=aC.out;have hp:=h0.push (tb:=tb) (fp:=fp) (zZ E X.size) (by omega) (by rw[a9,show S.qj.getD m 0=S.qj[m] by simp[List.getD,N]];exact ht) aW;rw[a9] at hp;refine⟨tb,rfl,h1.box.rules.1 0,(hB.cell aa).trans (Q 0),?_,uH h1.rows,yA h1.rows rfl,hB,_,hp⟩;obtain⟨g',bK,bg,_,_,b4⟩:=yw h1.rows (by omega);simp only[Value.slice.injEq,zr,Addr.mk.injEq,and_true] at bg;have e:=bg.1;subst e;refine b4 m _ ?_;rw[d9 (by simp[RO,a9]),List.getElem?_replicate,zb (by simp only[RO,xY];omega)]
  have x8:wr.cell? ⟨t8,0,none⟩=some (.slice (some ⟨g,0,none⟩) S.qj.length S.qj.length):=aX 0;have x3:wr.cell? ⟨w.heap.size,0,none⟩=some (ι S.qf):=Q 0;clear aX Q bi a5;generalize S.qj[m]=am at *;go_upto_region 6 with fail
  go_region_held3 (λw'=>w'.cell? ⟨t8,0,none⟩=some (.slice (some ⟨g,0,none⟩) S.qj.length S.qj.length)/\w'.cell? ⟨w.heap.size,0,none⟩=some (ι S.qf)) (first|go_keep|(go_simp;done)) (first|(go_at_call 119;refine(HN.out _ (by exact(zI (zp _ _) 1))).mono ?_;rintro e w2 ⟨tb,rfl,y8,y3,yg,yf,yl,HX⟩))
  have aF:=HX.out.1;obtain⟨ak,aL⟩:=HX.out.2;have b9:=Ry aL;have aK:Hid (Rz (w2.setCell ⟨g,m,none⟩ ((π tb))) w.heap.size _ 146):=(s.out.below aF).set_ne (by omega) _ _;have bh:Hid (Rz (w2.setCell ⟨g,m,none⟩ ((π tb))) t6 _ 152):=(A.out.below aF).set_ne (by omega) _ _;clear aF aL HX y8 y3 yg yf yl HN x8 x3 bq aM M aa q0;generalize w2.setCell ⟨g,m,none⟩ ((π tb))=W3 at *;go_wp2;exact⟨⟨m+1,by omega,by go_num,ak,tbs++[tb],b9,show(tbs++[tb]).length=m+1 by simp[aC.out],aK,bh⟩,by simp[intOf];omega⟩
 obtain rfl:m=S.qj.length:=by omega
 have aw:=Ry (T.out.done ae.out aC.out b8 aZ);have ay:=Ry T.out.mod;have bn:=Ry (SE wr l t8 _ S.qf mr mx _ aw.out E);clear T N hm;go_upto_region 9 with (first|(go_at_call 120;refine bn.out.mono ?_;rintro e w2 ⟨rfl,aN,ax,aI,ap⟩))
 have al:=Ry (s.out.mod ap (gd (by decide) _));have a3:Hid (Rz w2 t6 _ 152):=A.out.mod ap (gd (by decide) _);have a4:Hid (zY lo w2 l t8 (fH S) S.qf mr mx ⟨.slice (some ⟨g,0,none⟩) S.qj.length S.qj.length,tbs,aN,ax⟩):=aI;have au:=Ry (ay.out.trans (ap.more λ_ _ q=>EZ q));clear s A aw ay bn aI ap I E;obtain⟨R1,b1,hF,hE⟩:∃R1 b1,kO mr S.facts (fH S)=some (R1,b1)/\(b1=false/\V=none∨b1=true/\∃R2 b2,ku F S.qf mr mx S.rules S.qj.length 0 R1=some (R2,b2)/\V=if b2 then some R2 else none):=by
  have hr:=HR.out;unfold mz at hr;split at hr;cases hr;rename_i R1 hA;simp at hr;exact⟨R1,false,hA,zh ⟨rfl,hr.symm⟩⟩;rename_i R1 hA;rw[vK] at hr;obtain⟨⟨R2,b2⟩,h1,h2⟩:=hr;exact⟨R1,true,hA,ze ⟨rfl,R2,b2,h1,h2.symm⟩⟩
 have HE:=Ry hE;have aS:Hid (kO mr (S.facts.drop 0) (fH S)=some (R1,b1)):=hF;clear hE hF;obtain⟨Q,M,aa⟩:=al.out.boxed;go_upto_region 10 with fail
 clear Q M aa;generalize bH:w2=w5 at *;clear bH;have bd:=Ry (show(fH S).rows.length=S.qj.length by simp[fH,qD]);go_loopw [47] (λbB wr=>∃m:Nat,m<=S.facts.length/\bB=ι m/\∃Rk l ad aj,Hid (zY lo wr l t8 Rk S.qf mr mx ⟨.slice (some ⟨g,0,none⟩) S.qj.length S.qj.length,tbs,ad,aj⟩)/\Hid (R9 lo uY w kP wr l)/\Hid (Rk.rows.length=S.qj.length)/\Hid (Rz wr w.heap.size #[ι S.qf,.slice u S.qj.length d,.slice H S.facts.length j,.slice C S.rules.length k] 146)/\Hid (Rz wr t6 #[ν,ι 0,ι 0,ι 0] 152)/\Hid (kO mr (S.facts.drop m) Rk=some (R1,b1))) (λi _=>S.facts.length-(intOf i).toNat);exact⟨0,zv _,rfl,fH S,l,aN,ax,a4,au,bd,al,a3,aS⟩;clear a4 au bd al a3 aS;obtain⟨m,hm,rfl,Rk,R,ad,aj,Y,L,ac,s,A,aG⟩:=hrel;have I:=L.out.size;have E:=zZ ae.out I;by_cases N:m<S.facts.length
 .have a7:=vC HS.out.fac L.out (lO (by decide) (by decide));obtain⟨gf,bE,Z,_,bR,ah⟩:=yw a7 (by omega);simp only[Value.slice.injEq] at Z;have aD:=Z.1;clear Z;subst aD;obtain⟨k0,k1,k2,k3⟩:=D5 S.facts m N;have q0:=ah _ _ k0;have q1:=ah _ _ k1;have q2:=ah _ _ k2;have q3:=ah _ _ k3;have n:=aG.out;rw[xh N] at n;unfold kO at n;have h3:=b0.out _ (zt N);obtain⟨x,y,z,az⟩:∃x y z,S.facts[m].row=[x,y,z]:=by
   match ab:S.facts[m].row,h3 with
   |[x,y,z],_=>exact⟨x,y,z,rfl⟩
  rw[az] at q1 q2 q3 n;simp only[List.getD_cons_zero,List.getD_cons_succ] at q1 q2 q3;have a8:(m:Int)<(S.facts.length:Int):=by omega
  clear h3 k0 k1 k2 k3 ah a7 az;generalize S.facts[m].pred=p at *;rcases ha:jM mr Rk p [x,y,z] with _|ar;rw[ha] at n;cases n;obtain⟨R3,b3⟩:=ar;rw[ha] at n;have bz:=Ry ((eI ha).trans ac.out);have aU:=Ry λW0 X=>Eb W0 R t8 Rk R3 S.qf mr mx _ p x y z b3 (Y.out.below X) (zZ E X.size) ha;have bo:μ wr (wr.alloc (.cells #[ι p,ι x,ι y,ι z] 210)):=(by go_grown);have aB:=Ry bo;have ag:Hid (∀O c,R9 lo (fT p) (wr.alloc (.cells #[ι p,ι x,ι y,ι z] 210)) R O c->R9 lo uY w kP O c/\Rz O w.heap.size #[ι S.qf,.slice u S.qj.length d,.slice (some ⟨gf,0,none⟩) S.facts.length j,.slice C S.rules.length k] 146/\Rz O t6 #[ν,ι 0,ι 0,ι 0] 152):=λO c D=>by
   have aE:R9 lo (kl p) wr R O c:=(R9.of R aB.out).trans (D.more λ_ _ q=>zh q);exact⟨L.out.trans (aE.more λ_ _ q=>iy q),s.out.mod aE (mF (by decide) (by decide) _),A.out.mod aE (mF (by decide) (by decide) _)⟩
  clear ha bo;cases b3
  .simp only[zr,yc] at n;have HQ:=Ry n.2;clear n;go_wp2_with (go_at_call 121;refine(aU.out _ aB.out).mono ?_;rintro e O ⟨rfl,c,W,U,D⟩;obtain⟨K,_,J⟩:=ag.out _ _ D;obtain⟨ai,bf,aA⟩:=J.boxed)
   have B:V=none:=by
    have hE:=HE.out;rw[←HQ.out] at hE;rcases hE with⟨_,hE⟩|⟨hx,_⟩
    exact hE;cases hx
   have af:Hid (R9 lo uY w kP _ c):=K.newer (zc.sets t6 [ν,ι 0,ι 0,ι 0] 0 O) (λb X=>by simp at X;omega);refine zO (v:=.tuple #[.agg #[ν,ι 0,ι 0,ι 0],.bool false]) (by simp[results,results74,go_sem,ai]) rfl ?_;rw[B];exact⟨rfl,c,af.out⟩
  have HQ:Hid (kO mr (S.facts.drop (m+1)) R3=some (R1,b1)):=n;clear n;go_wp2_with (go_at_call 121;refine(aU.out _ aB.out).mono ?_;rintro e O ⟨rfl,c,W,U,D⟩)
  obtain⟨K,ao,J⟩:=ag.out _ _ D;exact⟨⟨m+1,by omega,by go_num,R3,c,ad,W,U,K,bz,ao,J,HQ⟩,by simp[intOf];omega⟩
 obtain rfl:m=S.facts.length:=by omega
 have n:=aG.out;rw[List.drop_length] at n;simp only[kO,zr,yc] at n;obtain⟨R2,b2,aQ,B⟩:∃R2 b2,ku F S.qf mr mx S.rules S.qj.length 0 Rk=some (R2,b2)/\V=if b2 then some R2 else none:=by
  have hE:=HE.out;rw[←n.2,←n.1] at hE;rcases hE with⟨hx,_⟩|⟨_,hE⟩
  cases hx;exact hE
 have a0:Hid (ku F S.qf mr mx S.rules (S.qj.length-0) 0 Rk=some (R2,b2)):=aQ;have an:=Ry B;clear n aQ B aG HE N hm I E;obtain⟨Q,M,aa⟩:=s.out.boxed;go_upto_region 16 with fail
 clear Q M aa;generalize bu:wr=w6 at *;clear bu;go_loopw [62] (λbt wr=>∃m:Nat,m<=S.qj.length/\bt=ι m/\∃Rk l ad aj,Hid (zY lo wr l t8 Rk S.qf mr mx ⟨.slice (some ⟨g,0,none⟩) S.qj.length S.qj.length,tbs,ad,aj⟩)/\Hid (R9 lo uY w kP wr l)/\Hid (Rk.rows.length=S.qj.length)/\Hid (Rz wr w.heap.size #[ι S.qf,.slice u S.qj.length d,.slice H S.facts.length j,.slice C S.rules.length k] 146)/\Hid (Rz wr t6 #[ν,ι 0,ι 0,ι 0] 152)/\Hid (ku F S.qf mr mx S.rules (S.qj.length-m) m Rk=some (R2,b2))) (λi _=>S.qj.length-(intOf i).toNat);exact⟨0,zv _,rfl,Rk,R,ad,aj,Y,L,ac,s,A,a0⟩;clear Y L ac s A a0;obtain⟨m,hm,rfl,Ri,G,aJ,bc,Y,L,ac,s,A,bm⟩:=hrel;have I:=L.out.size;have E:=zZ ae.out I;by_cases N:m<S.qj.length
 .have r:=bm.out;rw[show S.qj.length-m=(S.qj.length-(m+1))+1 from by omega] at r;unfold ku at r;rcases aq:pj F S.qf mr mx S.rules Ri m with _|ar;rw[aq] at r;cases r;obtain⟨R3,b3⟩:=ar;rw[aq] at r;have aV:=HS.out.rul.mod L.out (lO (by decide) (by decide)) (lO (by decide) (by decide)) (lO (by decide) (by decide));have aT:=Ry (JW wr G t8 m Ri R3 _ S.rules ps S.qf mr mx _ F b3 Y.out aV E (by rw[ac.out];exact bG.out) aq);have ag:Hid (∀O c,R9 lo uY wr G O c->R9 lo uY w kP O c/\Rz O w.heap.size #[ι S.qf,.slice u S.qj.length d,.slice H S.facts.length j,.slice C S.rules.length k] 146/\Rz O t6 #[ν,ι 0,ι 0,ι 0] 152):=λO c D=>⟨L.out.trans D,s.out.mod D (lO (by decide) (by decide) _),A.out.mod D (lO (by decide) (by decide) _)⟩;obtain⟨Q,M,aa⟩:=s.out.boxed;have a8:(m:Int)<(S.qj.length:Int):=by omega
  clear aq aV;cases b3
  .simp only[zr,yc] at r;have HQ:=Ry r.2;clear r;go_wp2_with (go_at_call 122;refine aT.out.mono ?_;rintro e O ⟨rfl,c,ba,W,U,a1,D⟩;obtain⟨K,_,J⟩:=ag.out _ _ D;obtain⟨ai,bf,aA⟩:=J.boxed)
   have B:V=none:=by rw[an.out,←HQ.out];rfl
   have af:Hid (R9 lo uY w kP _ c):=K.newer (zc.sets t6 [ν,ι 0,ι 0,ι 0] 0 O) (λb X=>by simp at X;omega);refine zO (v:=.tuple #[.agg #[ν,ι 0,ι 0,ι 0],.bool false]) (by simp[results,results74,go_sem,ai]) rfl ?_;rw[B];exact⟨rfl,c,af.out⟩
  have HQ:Hid (ku F S.qf mr mx S.rules (S.qj.length-(m+1)) (m+1) R3=some (R2,b2)):=r;clear r;go_wp2_with (go_at_call 122;refine aT.out.mono ?_;rintro e O ⟨rfl,c,ba,W,U,a1,D⟩)
  obtain⟨K,ao,J⟩:=ag.out _ _ D;exact⟨⟨m+1,by omega,by go_num,R3,c,ba,W,U,K,a1.trans ac.out,ao,J,HQ⟩,by simp[intOf];omega⟩
 obtain rfl:m=S.qj.length:=by omega
 have r:=bm.out;rw[jv] at r;simp only[ku,zr,yc] at r;have B:V=some Ri:=by rw[an.out,←r.2,←r.1];rfl
 have bA:=Ry B;clear r B an;obtain⟨aM,bq,d0,d1,d2,d3,d4,d5,d6,d7⟩:=Y.out.at;obtain⟨ai,bf,aA⟩:=A.out.boxed;dsimp only at d0;clear d4 d5 d6 d7;have bP:t8≠t6:=λe=>bD e.symm;go_wp2;have aH:=zc.sets t6 [.slice (some ⟨g,0,none⟩) S.qj.length S.qj.length,ι Ri.count,ι Ri.qx,ι Ri.jg] 0 wr;have bp:R9 lo (gO [152]) wr G _ G:=R9.ofSave G aH (λb X=>by
  simp at X;subst X;exact⟨by have:=ae.out;omega,aA,_,_,A.out,xC.2 rfl⟩)
 have bv:Hid (zY lo _ G t8 Ri S.qf mr mx ⟨.slice (some ⟨g,0,none⟩) S.qj.length S.qj.length,tbs,aJ,bc⟩):=Y.out.mod bp (gd (by decide)) (gd (by decide)) (gd (by decide)) (λ_=>gd (by decide) _) (λ_ t ht q=>by rw[xC.1 q] at ht;exact ht (by decide));have af:Hid (R9 lo uY w kP _ G):=L.out.newer aH (λb X=>by simp at X;omega);clear aH bp;refine zO (v:=.tuple #[.agg #[.slice (some ⟨g,0,none⟩) S.qj.length S.qj.length,ι Ri.count,ι Ri.qx,ι Ri.jg],.bool true]) (by simp[results,results74,go_sem,ai]) rfl ?_;rw[bA.out];exact⟨G,t8,⟨.slice (some ⟨g,0,none⟩) S.qj.length S.qj.length,tbs,aJ,bc⟩,rfl,bv.out,af.out⟩
end
section
open Go.Proofs.Tryz Go.RowKit
variable {lo:Nat}
def zX(ns:κ)(row:zi)(a m:Nat):κ:=(List.range a).map λi=>if i<m then ns.getD (row.getD i 0) ByteArray.empty else ByteArray.empty
def gT(ns:κ)(row:zi)(a m:Nat):(zX ns row a m).length=a:=by simp[zX]
def GI(ns:κ)(row:zi)(a:Nat):zX ns row a 0=List.replicate a ByteArray.empty:=by
 apply j7;simp[zX];intro i c b;simp[zX]
def OA(ns:κ)(row:zi)(a m:Nat):(zX ns row a m).set m (ns.getD (row.getD m 0) ByteArray.empty)=zX ns row a (m+1):=by
 apply j7;simp[zX];intro i d c;simp only[lg];by_cases e:m=i;subst e;simp[zX];rw[za e];simp only[zX,xV,fc];by_cases b:i<m;rw[zb b,zb (by omega)];rw[za b,za (by omega)]
def MJ(ns:κ)(row:zi)(a m:Nat)(h:a<=m):zX ns row a (m+1)=zX ns row a m:=by
 apply j7;simp[zX];intro i b c;rw[gT] at b;simp only[zX,xV,fc];rw[zb (by omega),zb (by omega)]
attribute [local go_sem] QJ QH Rn
def GO(w:World)(C a x y z:Nat)(ns:κ)(h:TE lo w C 1 ns)(L:a<=1000):
  Calls prog 79 #[(π C),.agg #[ι x,ι y,ι z],ι a] w λe D=>∃g,w.heap.size<=g/\e=ε (.slice (some ⟨g,0,none⟩) a a)/\R7 w.heap.size D (.slice (some ⟨g,0,none⟩) a a) (zX ns [x,y,z] a 3)/\μ w D:=by
 have S:=Ry h;have I:=h.1;obtain⟨Q,Y,H,E,A⟩:=info_parts QN;have r:=λU:World=>run_make (P:=prog) (w:=U) 30 9 Q _ underlying30 Y H .i64 .i64 (a:Int) (a:Int) (by omega) (Int.le_refl _) (by rw[A];omega) (by omega);rw[E] at r;clear h;go_enter func79,ntmps79;go_upto_region 3 with fail
 have s:μ w ((w.alloc (.cells #[ι x,ι y,ι z] 165)).alloc (.cells (madeCells #[.string ByteArray.empty] a) 9)):=(by go_grown);have f:=pJ (w.alloc (.cells #[ι x,ι y,ι z] 165)) a 9 (.string ByteArray.empty) (by unfold maxLen;omega);have l:(w.alloc (.cells #[ι x,ι y,ι z] 165)).heap.size=w.heap.size+1:=by simp
 rw[l] at f;have o:Hid (World.ownsRow ((w.alloc (.cells #[ι x,ι y,ι z] 165)).alloc (.cells (madeCells #[.string ByteArray.empty] a) 9)) w.heap.size 9 1 (.slice (some ⟨w.heap.size+1,0,none⟩) a a) a ((zX ns [x,y,z] a 0).map Value.string)):=by
  rw[Hid,GI,List.map_replicate];exact yk f (by omega)
 clear f l r;generalize ((w.alloc (.cells #[ι x,ι y,ι z] 165)).alloc (.cells (madeCells #[.string ByteArray.empty] a) 9))=w1 at *;generalize M:w.heap.size+1=g at *;have N:w.heap.size<g:=by omega
 clear M;go_loopw [13] (λB wr=>∃m:Nat,m<=3/\B=ι m/\μ w wr/\Hid (wr.ownsRow w.heap.size 9 1 (.slice (some ⟨g,0,none⟩) a a) a ((zX ns [x,y,z] a m).map Value.string))) (λi _=>3-(intOf i).toNat);exact⟨0,by omega,rfl,s,o⟩;clear o s;obtain⟨m,hm,rfl,c,j⟩:=hrel;have R:g<wr.heap.size:=yA j.out rfl;have X:=uH j.out;have T:=yE I c.size;by_cases V:m<3
 .have W:=Ry λv=>Pt wr C 1 ns v (S.out.below c);by_cases Z:m<a
  .obtain⟨J,O⟩:∃J,wr.cell? ⟨g,m,none⟩=some J:=by
    obtain⟨g',K,n,_,_,t⟩:=yw j.out (by omega);simp only[Value.slice.injEq,zr,Addr.mk.injEq,and_true] at n;have e:=n.1;subst e;exact⟨_,t m _ (yi (by simp[zX];omega))⟩
   have d:=uj j.out m (by simp[zX];omega) (.string (ns.getD ([x,y,z].getD m 0) ByteArray.empty));rw[←gA,OA] at d;have G:(m:Int)<(a:Int):=by omega
   have p:μ w (wr.setCell ⟨g,m,none⟩ (.string (ns.getD ([x,y,z].getD m 0) ByteArray.empty))):=c.setCell (by simp;omega) _;have b:Hid (_/\_):=And.intro d p;clear d p;have F:m=0∨m=1∨m=2:=by omega
   rcases F with rfl|rfl|rfl
   all_goals (
    go_wp2_with (go_at_call 128;refine(W.out _).mono ?_;rintro e D ⟨rfl,u⟩;obtain rfl:=u.symm))
   exact⟨⟨1,by omega,rfl,by simpa [List.getD] using b.out.2,by have q:=b.out.1;simpa [Hid,List.getD] using q⟩,by simp[intOf]⟩;exact⟨⟨2,by omega,rfl,by simpa [List.getD] using b.out.2,by have q:=b.out.1;simpa [Hid,List.getD] using q⟩,by simp[intOf]⟩;exact⟨⟨3,by omega,rfl,by simpa [List.getD] using b.out.2,by have q:=b.out.1;simpa [Hid,List.getD] using q⟩,by simp[intOf]⟩
  have k:Hid (wr.ownsRow w.heap.size 9 1 (.slice (some ⟨g,0,none⟩) a a) a ((zX ns [x,y,z] a (m+1)).map Value.string)):=by
   rw[MJ ns [x,y,z] a m (by omega)];exact j
  have G:¬(m:Int)<(a:Int):=by omega
  have F:m=0∨m=1∨m=2:=by omega
  clear j;rcases F with rfl|rfl|rfl
  all_goals go_wp2
  exact⟨⟨1,by omega,rfl,c,k⟩,by simp[intOf]⟩;exact⟨⟨2,by omega,rfl,c,k⟩,by simp[intOf]⟩;exact⟨⟨3,by omega,rfl,c,k⟩,by simp[intOf]⟩
 obtain rfl:m=3:=by omega
 go_wp2;go_ret;have q:=j.out;exact⟨g,by omega,rfl,by unfold R7;rw[gT];exact q,c⟩
end
section
open Go.RowKit
variable {lo:Nat}
def ld(ns:κ):κ->Nat->zi->Option zi
 |[],_,r=>some r
 |t::a,i,r=>match uy ns t with
  |none=>none
  |some v=>if i≥3 then none else ld ns a (i+1) (r.set i v)
end
section
open Go.RowKit
variable {lo lp:Nat}{ns:κ}{tbs:List Nat}
structure kB (lo lp:Nat) (w:World) (rb:Nat) (t:List zg) (ns:κ) (R:zu) (pv nv rv:Value) (tbs:List Nat):Prop where
 low:lo<=rb
 box:Rz w rb #[pv,nv,rv,ι R.count,ι R.qx,ι R.jg] 156
 preds:w.ownsRow lp 221 3 pv t.length (uh t)
 vals:R7 lo w nv ns
 rows:w.ownsRow lo 162 1 rv R.rows.length (RO tbs)
 tlen:tbs.length=R.rows.length
 tries:∀p (_:p<R.rows.length) (_:p<tbs.length),∃fp,ya lo w tbs[p] R.rows[p] fp
 few:t.length<=1000/\ns.length<=1000/\R.rows.length<=1000
def kB.below{w w':World}{g:Nat}{t:List zg}{ns:κ}{R:zu}{f d e:Value}{tbs:List Nat}(h:kB lo lp w g t ns R f d e tbs)(c:μ w w'):kB lo lp w' g t ns R f d e tbs:=
 ⟨h.low,h.box.below c,zB h.preds c,h.vals.below c,zB h.rows c,h.tlen,λp a b=>by obtain⟨i,q⟩:=h.tries p a b;exact⟨i,q.below c⟩,h.few⟩
def kB.tg{w:World}{b:Nat}{t:List zg}{R:zu}{a c d:Value}(h:kB lo lp w b t ns R a c d tbs):TG lp w b 0 t:=⟨a,h.box.lt,h.box.rules.1 0,h.preds⟩
def kB.cat{w:World}{b:Nat}{t:List zg}{R:zu}{c a d:Value}(h:kB lo lp w b t ns R c a d tbs):TE lo w b 1 ns:=⟨h.box.lt,a,h.box.rules.1 1,h.vals⟩
end
section
open Classical
def Qo{S:qJ}(P:DB->Prop)(l:P (zy3 S.facts))(hs:∀s k D,P D->P (zx4 (S.rules.filter λr=>decide (r.qh=s)) k D)){mr mx:Nat}{D:DB}{k:Nat}(h:zzm S mr mx=some (D,k)):P D:=by
 have j:∀s (left k:Nat) (D a:DB) (b:Nat),P D->zxo (S.rules.filter λr=>decide (r.qh=s)) mr left k D=some (a,b)->P a:=by
  intro s left;induction left with
  |zero=>intro k D a b _ h;cases h
  |succ left d=>
   intro k D a b c h;unfold zxo at h;split at h;split at h;simp only[zr,yc] at h;rw[←h.1];exact hs s _ D c;exact d (k+1) _ a b (hs s _ D c) h;cases h
 have g:∀(n s k:Nat) (D a:DB) (b:Nat),P D->zxr S.rules mr mx n s k D=some (a,b)->P a:=by
  intro n;induction n with
  |zero=>
   intro s k D a b c h;unfold zxr at h;simp only[zr,yc] at h;rw[←h.1];exact c
  |succ n d=>
   intro s k D a b c h;unfold zxr at h;split at h;exact d (s+1) k D a b c h;split at h;cases h;rename_i f e i;exact d (s+1) e f a b (j s _ k D f e c i) h
 unfold zzm at h;split at h;exact g _ 0 0 _ D k l h;cases h
def ew(a:List Nat)(n:Nat)(D:DB):Prop:=∀p x,RB D p x->∀i,i<a.getD p 0->x.getD i 0<n
def BI{cs:List zd}{c:zd}(n:c∈cs){l:zk}(j:l∈zm c)(t:List zg)(vs:κ)(e:List Nat):∀x∈(zK t (zo cs) vs e l).qg,x.var=false->x.num<(zo cs).length:=by
 intro x b d;unfold zK at b;simp only[zE] at b;obtain⟨z,f,rfl⟩:=b;unfold uf at f;obtain⟨y,g,rfl⟩:=zE.1 f;obtain⟨o,p⟩:=nA 0 (uf (zo cs) vs e l) (uF (zo cs) vs e y);obtain⟨i,h⟩:=dR cs;unfold uF at d ⊢;by_cases a:zQ y=true;rw[zb a] at d;cases d;rw[za a];obtain⟨v,m,k⟩:=EV i ((h y).2 ⟨c,n,l,j,g,by simpa using a⟩);rw[m];exact k
def DO{l:zw}{a W n:Nat}(h:qo l a W)(c:∀x∈l.qg,x.var=false->x.num<n){y:List Nat}(f:∀p,zJ l p=true->y.getD p 0<n):∀i,i<a->(zG l y).getD i 0<n:=by
 intro i g;have b:i<l.qg.length:=by rw[h.len];exact g
 rw[sE l y (by have:=h.le3;omega)];unfold R0;rw[zb b,show l.qg.getD i ⟨false,0,0⟩=l.qg[i] by simp[List.getD,b]];have d:=zt b;unfold SG;cases e:l.qg[i].var;rw[za (by simp)];exact c _ d e;rw[zb (by simp[(h.lev _ d e).1])];exact f _ ((gS l _).2 ⟨_,d,e,rfl⟩)
def Lh{cs:List zd}{Z t:List zg}(h:RI cs Z t)(os:Option (List (Option (List Int))))(W:∀i (z:i<cs.length),jA (yG ((ue os i).getD [])) (zx cs[i]).length){mr mx:Nat}{D:DB}{k:Nat}(X:zzm (uQ t (zo cs) os cs) mr mx=some (D,k)):ew (t.map (·.ji)) (zo cs).length D:=by
 have q:=rT h (zo cs) os W;refine Qo (S:=uQ t (zo cs) os cs) (λD=>ew (t.map (·.ji)) (zo cs).length D) ?_ ?_ X;intro p x g i z;unfold RB zy3 at g;split at g;rename_i hf;obtain⟨f,R,rfl,rfl⟩:=hf;have u:=R;unfold vo at u;obtain⟨c,N,rfl⟩:=zE.1 u;have b:=(xj.1 N).1;have U:c.body=[]:=by
  have:=(xj.1 N).2;simp at this;exact this
 obtain⟨e,_,_,q3,Q,_⟩:=h.lit b (l:=c.head) (by simp[zm]);have G:i<c.head.args.length:=by
  have a:i<(t.map (·.ji)).getD (zF t c.head.pred) 0:=z;rw[Q] at a;exact a
 have d:qo (zK t (zo cs) [] [0,0,0,0,0] c.head) c.head.args.length (zL (zo cs).length):=eo t _ [] _ c.head (λk=>by
  by_cases hk:k<5;have:k=0∨k=1∨k=2∨k=3∨k=4:=by omega
  rcases this with rfl|rfl|rfl|rfl|rfl<;>decide
  simp[List.getD,List.getElem?_eq_none (show([0,0,0,0,0]:List Nat).length<=k by simp;omega)]) (lB (h.many c b)).1
 refine DO d (BI b (by simp[zm]) t [] _) (λp o=>?_) i G;obtain⟨y,F,M,_⟩:=iG.1 o;have K:=h.safe c b;simp only[xt,uG] at K;have:=mG.1 K.1 y F M;have w:zx c=[]:=by unfold zx;rw[U];rfl
 rw[w] at this;cases this;cases g;intro s k D J p x g i z;unfold RB zx4 at g;rcases v:D p x with _|m;rw[v] at g;simp only at g;split at g;rename_i E;obtain⟨r,C,rfl,y,F,M,rfl⟩:=E;have n:=(xj.1 C).1;have d:=q.rules.rules r n;unfold uC at n;obtain⟨⟨c,j⟩,V,B⟩:=lL.1 n;have Y:=pG.1 V;have b:=gU Y;split at B;simp only[zr] at B;subst B;refine DO d.head (BI b (by simp[zm]) t _ _) (λp o=>?_) i z;obtain⟨l,I,P⟩:=d.fine.safe p (d.fine.head p o);obtain⟨tm,L,O,T⟩:=(gS l p).1 P;obtain⟨H,a,rfl⟩:=uO L;obtain⟨w1,A⟩:=d.qc l I;have:=J l.pred (zG l y) (F l I) H (by have:=A.len;have v:=a;rw[this] at v;exact v);rw[sE l y (by have:=A.len;have:=A.le3;omega)] at this;unfold R0 at this;rw[zb a,show l.qg.getD H ⟨false,0,0⟩=l.qg[H] by simp[List.getD,a]] at this;unfold SG at this;rw[zb (by simp[O,(A.lev _ L O).1]),T] at this;exact this;cases B;cases g;exact J p x (by unfold RB;rw[v];rfl) i z
def lG{ns:κ}(l:yz ns){d:Nat}(o:d<=3){r:zi}(j:RK d r)(n:∀i,i<d->r.getD i 0<ns.length):ld ns (zX ns r d 3) 0 [0,0,0]=some r:=by
 obtain⟨x,y,z,rfl⟩:∃x y z,r=[x,y,z]:=by
  match r,j.1 with
  |[x,y,z],_=>exact⟨x,y,z,rfl⟩
 have e:=j.2;have f:=λi (q:i<d)=>s5 l (n i q);have k:d=0∨d=1∨d=2∨d=3:=by omega
 rcases k with rfl|rfl|rfl|rfl;have a:=e 0 (by omega);have b:=e 1 (by omega);have c:=e 2 (by omega);simp at a b c;subst a;subst b;subst c;rfl;have b:=e 1 (by omega);have c:=e 2 (by omega);simp at b c;subst b;subst c;have g:uy ns (ns[x]?.getD ByteArray.empty)=some x:=by have:=f 0 (by omega);simpa using this
 simp[zX,ld,g];have c:=e 2 (by omega);simp at c;subst c;have g:uy ns (ns[x]?.getD ByteArray.empty)=some x:=by have:=f 0 (by omega);simpa using this
 have h:uy ns (ns[y]?.getD ByteArray.empty)=some y:=by have:=f 1 (by omega);simpa using this
 simp[zX,ld,g,h,List.range_succ];have g:uy ns (ns[x]?.getD ByteArray.empty)=some x:=by have:=f 0 (by omega);simpa using this
 have h:uy ns (ns[y]?.getD ByteArray.empty)=some y:=by have:=f 1 (by omega);simpa using this
 have m:uy ns (ns[z]?.getD ByteArray.empty)=some z:=by have:=f 2 (by omega);simpa using this
 simp[zX,ld,g,h,m,List.range_succ]
end
section
open Go.Proofs.Tryz Go.RowKit
variable {lo lp:Nat}{a1 a2 a3:Option Addr}{ps:List (Value×Value×Value)}
structure Km (S:qJ):Prop where
 rules:tB S.qj.length S.rules
 many:S.qj.length<=1000
 small:∀a∈S.qj,a<=100000000
 rows:∀f∈S.facts,f.row.length=3
 facts:S.facts.length<=1000000
 qf:S.qf<=1000
structure rV (cs:List zd) (t:List zg) (os:Option (List (Option (List Int)))):Prop where
 len:cs.length<=1000
 names:t.length<=1000
 fine:∀c∈cs,vT c
 sums:∀c∈cs,c.head.args.length+xg c.body<=1000/\c.body.length<=900
 few:BR cs
 vals:(zo cs).length<=1000
 jm:∀n,xH t n<=1000000
 ords:(os.getD []).length<=2000000
 each:∀o∈os.getD [],(o.getD []).length<=2000000
 ordok:jK cs os=true->∀o∈os.getD [],(o.getD []).length<=1000
 set:jK cs os=true->Km (uQ t (zo cs) os cs)
def pc(a w:World)(S:qJ)(s:Value):Prop:=∃(b c:Nat) (a1:Option Addr) (f:Nat) (a2:Option Addr) (d:Nat) (a3:Option Addr) (e:Nat) (ps:List (Value×Value×Value)),s=(π c)/\a.heap.size<=c/\a.heap.size<=b/\b<=w.heap.size/\Rz w c #[ι S.qf,.slice a1 S.qj.length f,.slice a2 S.facts.length d,.slice a3 S.rules.length e] 146/\Hid (gK b w (.slice a1 S.qj.length f) (.slice a2 S.facts.length d) (.slice a3 S.rules.length e) S ps)/\Hid (μ a w)
def gK.saveT{w w':World}{e f d:Value}{S:qJ}{ps:List (Value×Value×Value)}{T:TypeId}{M:List Nat}(h:gK lo w e f d S ps)(hs:zc M w w')(c:RL w T M)(i:3≠T)(g:210≠T)(j:284≠T)(b:204≠T)(a:207≠T):gK lo w' e f d S ps:=⟨yI h.ari hs c i,yI h.fac hs c g,h.rul.saveT hs c j b a⟩
def gK.below{w w':World}{b c d:Value}{S:qJ}{ps:List (Value×Value×Value)}(h:gK lo w b c d S ps)(a:μ w w'):gK lo w' b c d S ps:=⟨zB h.ari a,zB h.fac a,h.rul.below a⟩
def pc.one{e W a:World}{S:qJ}{d b c:Nat}(i:μ e W)(g:μ W a)(h:gK W.heap.size a (.slice a1 S.qj.length d) (.slice a2 S.facts.length b) (.slice a3 S.rules.length c) S ps):pc e (a.alloc (.cells #[ι S.qf,.slice a1 S.qj.length d,.slice a2 S.facts.length b,.slice a3 S.rules.length c] 146)) S (.pointer (some ⟨a.heap.size,0,none⟩)):=by
 have f:μ a (a.alloc (.cells #[ι S.qf,.slice a1 S.qj.length d,.slice a2 S.facts.length b,.slice a3 S.rules.length c] 146)):=(zp _ _).alloc (zf _) _;have j:=i.size;have l:=g.size;have k:=f.size;exact⟨W.heap.size,a.heap.size,a1,d,a2,b,a3,c,ps,rfl,by omega,j,by omega,Rz.new _ _ _,h.below f,R5 (R5 i g) f⟩
def pc.two{g W f:World}{a:Nat}{t q u s:Value}{S:qJ}{c d e:Nat}(b:g.heap.size<=a)(k:μ g W)(l:μ W f)(m:Rz f a #[t,q,u,s] 146)(h:gK W.heap.size f (.slice a1 S.qj.length c) (.slice a2 S.facts.length d) (.slice a3 S.rules.length e) S ps):pc g ((((f.setCell ⟨a,0,none⟩ (ι S.qf)).setCell ⟨a,1,none⟩ (.slice a1 S.qj.length c)).setCell ⟨a,2,none⟩ (.slice a2 S.facts.length d)).setCell ⟨a,3,none⟩ (.slice a3 S.rules.length e)) S ((π a)):=by
 have r:=k.size;have v:=l.size;have j:=m.set 0 (ι S.qf);have i:=j.set 1 (.slice a1 S.qj.length c);have n:=i.set 2 (.slice a2 S.facts.length d);have p:=n.set 3 (.slice a3 S.rules.length e);have o:gK W.heap.size ((((f.setCell ⟨a,0,none⟩ (ι S.qf)).setCell ⟨a,1,none⟩ (.slice a1 S.qj.length c)).setCell ⟨a,2,none⟩ (.slice a2 S.facts.length d)).setCell ⟨a,3,none⟩ (.slice a3 S.rules.length e)) (.slice a1 S.qj.length c) (.slice a2 S.facts.length d) (.slice a3 S.rules.length e) S ps:=(((h.saveT (zc.set _ _ _ (ι S.qf)) (RL.box m) (by decide) (by decide) (by decide) (by decide) (by decide)).saveT (zc.set _ _ _ (.slice a1 S.qj.length c)) (RL.box j) (by decide) (by decide) (by decide) (by decide) (by decide)).saveT (zc.set _ _ _ (.slice a2 S.facts.length d)) (RL.box i) (by decide) (by decide) (by decide) (by decide) (by decide)).saveT (zc.set _ _ _ (.slice a3 S.rules.length e)) (RL.box n) (by decide) (by decide) (by decide) (by decide) (by decide);exact⟨W.heap.size,a,a1,c,a2,d,a3,e,ps,rfl,b,r,by simp;omega,by simpa using p,o,((((R5 k l).setCell b _).setCell b _).setCell b _).setCell b _⟩
def R9.belowLo{ok:TypeId->zn->Prop}{w w':World}{own own':Nat->zn}(h:R9 lo ok w own w' own')(a:lo<=w.heap.size):Below lo w w':=by
 obtain⟨_,M,c,e⟩:=h;exact c.below (λb d=>(e b d).1) a
def NC(lp pb:Nat)(t:List zg)(ns:κ)(b:Option zu)(w:World)(e:Ending)(w':World):Prop:=match b with
 |none=>e=ε (.tuple #[.pointer none,ι 10])/\μ w w'
 |some R=>∃d c f g a,w.cell? ⟨pb,1,none⟩=some c/\e=ε (.tuple #[(π d),ι 0])/\kB w.heap.size lp w' d t ns R c f g a/\μ w w'
def Ox(w:World)(f c:Value)(a b:Int)(d:-9223372036854775808<=a/\a<9223372036854775808)(g:-9223372036854775808<=b/\b<9223372036854775808)(h:a<0∨1048576<a∨b<0∨1048576<b):
  Calls prog 35 #[f,c,ι a,ι b] w λe i=>e=ε (.tuple #[.pointer none,ι 8])/\i=w:=by
 go_enter func35,ntmps35;by_cases l:a<0
 .go_wp2;go_ret2
  exact⟨rfl,rfl⟩
 by_cases m:1048576<a
 .go_wp2;go_ret2
  exact⟨rfl,rfl⟩
 by_cases k:b<0
 .go_wp2;go_ret2
  exact⟨rfl,rfl⟩
 have j:1048576<b:=by omega
 go_wp2;go_ret2
 exact⟨rfl,rfl⟩
def La(w:World)(pb:Nat)(cs:List zd)(t:List zg)(d:Value)(os:Option (List (Option (List Int))))(a j:Nat)(m:jX lp w pb cs t)(o:j0 w d os)(c:rV cs t os)(i:jK cs os=false)(q:a<=1048576)(p:j<=1048576):
  Calls prog 35 #[(π pb),d,ι a,ι j] w λe l=>e=ε (.tuple #[.pointer none,ι 9])/\μ w l:=by
 obtain⟨_,k,s,h,f,_⟩:=m;have b:=Ry (CC w k d cs os f c.fine c.len o c.ords c.each);rw[i] at b;obtain⟨u,v,n⟩:=h.boxed;clear i;go_enter func35,ntmps35;go_wp2_with (go_at_call 71;refine b.out.mono ?_;rintro e r ⟨rfl,g⟩)
 go_ret2
 exact⟨rfl,g⟩
def OL(w:World)(pb:Nat)(cs:List zd)(t:List zg)(ov:Value)(os:Option (List (Option (List Int))))(h qx O:Nat)(K:Option zu)(hP:jX lp w pb cs t)(ho:j0 w ov os)(j:rV cs t os)(E:jK cs os=true)(h1:h<=1048576)(n:qx<=1048576)(a8:lp<=w.heap.size)(hr:mz O (uQ t (zo cs) os cs) h qx=some K):
  Calls prog 35 #[(π pb),ov,ι h,ι qx] w λe i=>NC lp pb t (zo cs) K w e i:=by
 have HP:=Ry hP;obtain⟨_,cv,pv,z,L,ab⟩:=hP;have aj:=Ry (CC w cv ov cs os L j.fine j.len ho j.ords j.each);rw[E] at aj;have ar:=Ry λW hW=>Pd W cv cs (L.below hW) j.few;have ao:=Ry λW cb hW hC=>Je W pb 1 cb t (zo cs) cs cv ov os ⟨pv,(z.below hW).lt,(z.below hW).rules.1 1,zB ab hW⟩ hC j.names j.vals (L.below hW) j.sums j.len (ho.below hW) j.ords (j.ordok E) j.jm;have l:=Ry (j.set E);have a4:Hid ((zo cs).length<=1000/\t.length<=1000):=⟨j.vals,j.names⟩;have a0:=Ry hr;obtain⟨hc,hf,v⟩:=z.boxed;have d0:=hc 0;have d1:=hc 1;simp only[lT,fz,lZ] at d0 d1;clear E hr hc j L ho;generalize uQ t (zo cs) os cs=S at *;generalize zo cs=P at *;have aL:=Ry z;have aw:=Ry ab;clear z ab;go_enter func35,ntmps35;go_upto_region 6 with (first|(go_at_call 71;refine aj.out.mono ?_;rintro e w1 ⟨rfl,s⟩;have y0:=zl s v d0;have yl:=yE v s.size)|(go_at_call 72;refine(ar.out _ s).mono ?_;rintro e w2 ⟨v2,rfl,an,a5⟩;obtain⟨k,f,rfl⟩:=an.qy))
 obtain⟨W3,ac⟩:∃W3,W3=w2.alloc (.cells #[.slice k P.length f] 141):=⟨_,rfl⟩;have ag:μ w2 (w2.alloc (.cells #[.slice k P.length f] 141)):=(by go_grown);have I:=Rz.new w2 #[.slice k P.length f] 141;have am:=(an.below ag).low (show w.heap.size<=w1.heap.size from s.size);have ae:=R5 s a5;have r:=R5 ae ag;have aF:=ae.size;rw[←ac] at I am r;rw[←ac];generalize w2.heap.size=cb at *;have ak:=Ry I;have af:=Ry am;have x0:=zl r v d0;have ap:=I.lt;have xl:=yE v r.size;have N:Hid (∀W,μ W3 W->Calls prog 73 #[cv,.pointer (some ⟨pb,1,none⟩),(π cb),ov] W λe i=>∃a1 T a2 U a3 Y ps,e=ε (.agg #[ι S.qf,.slice a1 S.qj.length T,.slice a2 S.facts.length U,.slice a3 S.rules.length Y])/\Hid (gK W.heap.size i (.slice a1 S.qj.length T) (.slice a2 S.facts.length U) (.slice a3 S.rules.length Y) S ps)/\μ W i/\i.cell? ⟨pb,0,none⟩=some cv):=λW E=>by
  refine(ao.out W cb (R5 r E) ⟨zZ a8 aF,_,ak.out.below E,(af.out.below E).low a8⟩).mono ?_;rintro e i ⟨av,fv,rv,ps,h1,n,h3⟩;have hq:=R5 E h3;obtain⟨a1,T,rfl⟩:=zq n.ari;obtain⟨a2,U,rfl⟩:=zq n.fac;obtain⟨a3,Y,rfl⟩:=zq n.rul.own;exact⟨a1,T,a2,U,a3,Y,ps,h1,n,h3,(hq.cell xl).trans x0⟩
 clear ac I am ag ar aj ao y0 yl an a5 s ae w1 w2 d0;go_cut [11] from 40 to 48 (λaG wx=>pc W3 wx S aG)
 .go_region_held3 (λi=>i.cell? ⟨pb,0,none⟩=some cv) (first|go_keep|(go_simp;done)) (first|(go_at_call 73;refine(N.out _ (by exact(by go_grown))).mono ?_;rintro e w4 ⟨a1,T,a2,U,a3,Y,ps,rfl,A,aa,z0⟩;(try (with_reducible refine Rz.carry (Rz.drew (Rz.new W3 #[ι 0,ν,ν,ν] 146)) aa ?_;intro a7;obtain⟨aJ,aH,aI⟩:=a7.boxed))))
  all_goals
   go_wp2_with fail
   go_meet
   first|exact pc.one (W:=W3.drew) (by go_grown) aa A.out|exact pc.two (zf _) (W:=(W3.alloc (.cells #[ι 0,ν,ν,ν] 146)).drew) (by go_grown) aa a7 A.out
 clear N x0;obtain⟨fl,sb,a1,T,a2,U,a3,Y,ps,rfl,aM,a9,ai,a6,A,ah⟩:=hcut;have F:=Ry (Tx wc S ps _ _ _ h qx O K A.out ai l.out.rules l.out.many l.out.small l.out.rows l.out.facts ⟨l.out.qf,h1,n⟩ a0.out);obtain⟨aC,aE,aD⟩:=a6.boxed;have ad:=R5 r ah.out;have aK:=Ry ap;have M:=zZ r.size a9;clear A l a0 ap xl;rcases K with _|R
 .have o:Hid (Calls prog 74 #[.agg #[ι S.qf,.slice a1 S.qj.length T,.slice a2 S.facts.length U,.slice a3 S.rules.length Y],ι h,ι qx] wc λe i=>e=ε (.tuple #[.agg #[ν,ι 0,ι 0,ι 0],.bool false])/\Below fl wc i):=by
   refine F.out.mono ?_;rintro e i ⟨h1,ax,n⟩;exact⟨h1,n.belowLo ai⟩
  clear F;go_wp2_with (go_at_call 74;refine o.out.mono ?_;rintro e G ⟨rfl,y⟩)
  go_ret2
  exact⟨rfl,zM (ad.trans (y.mono M)) (by go_grown) (zf _)⟩
 have o:Hid (Calls prog 74 #[.agg #[ι S.qf,.slice a1 S.qj.length T,.slice a2 S.facts.length U,.slice a3 S.rules.length Y],ι h,ι qx] wc λe i=>∃d c g,e=ε (.tuple #[.agg #[.slice d R.rows.length c,ι R.count,ι R.qx,ι R.jg],.bool true])/\Hid (i.ownsRow fl 162 1 (.slice d R.rows.length c) R.rows.length (RO g)/\g.length=R.rows.length/\(∀p (_:p<R.rows.length) (_:p<g.length),∃J,ya fl i g[p] R.rows[p] J)/\R.rows.length<=1000)/\Below fl wc i):=by
  refine F.out.mono ?_;rintro e i ⟨ax,rb,Q,h1,n,h3⟩;obtain⟨d,c,au⟩:=zq n.rows;refine⟨d,c,Q.tbs,by rw[h1,au],⟨by rw[←au];exact n.rows,n.tlen,λp a b=>?_,n.few.1⟩,h3.belowLo ai⟩;obtain⟨J,q,_⟩:=n.tries p a b;exact⟨J,q⟩
 clear F;go_upto_region 10 with (first|(go_at_call 74;refine o.out.mono ?_;rintro e G ⟨d,c,g,rfl,ay,y⟩))
 have aq:=ad.trans (y.mono M);have C:=ah.out.trans (y.mono a9);have x:μ G (G.alloc (.cells #[.slice d R.rows.length c,ι R.count,ι R.qx,ι R.jg] 152)):=(by go_grown);have V:=Rz.new G #[.slice d R.rows.length c,ι R.count,ι R.qx,ι R.jg] 152;have X:=(ak.out.below C).below x;have aA:=Ry ((af.out.below C).below x);have B:=R5 aq x;have az:=Ry (zB aw.out B);have D:Hid (World.ownsRow (G.alloc (.cells #[.slice d R.rows.length c,ι R.count,ι R.qx,ι R.jg] 152)) w.heap.size 162 1 (.slice d R.rows.length c) R.rows.length (RO g)/\g.length=R.rows.length/\(∀p (_:p<R.rows.length) (_:p<g.length),∃J,ya w.heap.size (G.alloc (.cells #[.slice d R.rows.length c,ι R.count,ι R.qx,ι R.jg] 152)) g[p] R.rows[p] J)/\R.rows.length<=1000):=by
  obtain⟨q1,q2,q3,q4⟩:=ay.out;refine⟨yk (zB q1 x) M,q2,λp a b=>?_,q4⟩;obtain⟨J,q⟩:=q3 p a b;exact⟨J,(q.below x).low M⟩
 obtain⟨H,m,aB⟩:=zq aw.out;subst aB;have y1:=zl B v d1;have yl:=yE v B.size;have al:=B.size;clear x C aq ay o y ad ah af ak a6 aC aE aD;generalize G.alloc (.cells #[.slice d R.rows.length c,ι R.count,ι R.qx,ι R.jg] 152)=W6 at *;generalize G.heap.size=ob at *;obtain⟨oc,of,ol⟩:=V.boxed;have o0:=oc 0;have o1:=oc 1;have o2:=oc 2;have o3:=oc 3;obtain⟨bc,bf,bl⟩:=X.boxed;have b0:=bc 0;simp only[lT,fz,lZ] at o0 o1 o2 o3 b0;clear oc bc V X;go_region
 have u:μ W6 (W6.alloc (.cells #[.slice H t.length m,.slice k P.length f,.slice d R.rows.length c,ι R.count,ι R.qx,ι R.jg] 156)).drew:=(by go_grown);have Z:Hid (kB w.heap.size lp (W6.alloc (.cells #[.slice H t.length m,.slice k P.length f,.slice d R.rows.length c,ι R.count,ι R.qx,ι R.jg] 156)).drew W6.heap.size t P R (.slice H t.length m) (.slice k P.length f) (.slice d R.rows.length c) g/\μ w (W6.alloc (.cells #[.slice H t.length m,.slice k P.length f,.slice d R.rows.length c,ι R.count,ι R.qx,ι R.jg] 156)).drew):=by
  refine⟨⟨al,Rz.drew (Rz.new _ _ _),zB az.out u,aA.out.below u,zB D.out.1 u,D.out.2.1,λp a b=>?_,⟨a4.out.2,a4.out.1,D.out.2.2.2⟩⟩,R5 B u⟩;obtain⟨J,q⟩:=D.out.2.2.1 p a b;exact⟨J,q.below u⟩
 clear u az aA D o0 o1 o2 o3 b0;go_wp2;go_ret2
 exact⟨W6.heap.size,_,_,_,g,d1,rfl,Z.out.1,Z.out.2⟩
end
section
open Go.RowKit
def RI.runok{cs:List zd}{v t:List zg}(h:RI cs v t):rV cs t none/\p9 (uQ t (zo cs) none cs):=by
 have b:p9 (uQ t (zo cs) none cs):=rT h _ none (λi w=>nz (dA (h.many _ (zt w))));obtain⟨_,j,p⟩:=h.low;have s:=h.few;have q:=eC cs;have o:=Dk cs;have m:(zo cs).length<=500:=by
  have:=eE cs [];simp only[g5,vn] at this;show(cs.foldl vV []).length<=500;omega
 have e:=As (cs:=cs) (by omega);have d:∀c∈cs,c.body.length<=6:=λc g=>(lB (h.many c g)).2.1;refine⟨⟨by omega,by omega,e,λc g=>⟨(e c g).1,by have:=d c g;omega⟩,⟨by omega,by omega,λc g=>(e c g).2⟩,by omega,λn=>by have:=p n;omega,by simp,by simp,λ_=>by simp,λ_=>⟨λr k=>⟨λl j=>((b.rules.rules r k).qc l j).1,λl j=>⟨((b.rules.rules r k).qw l j).1,b.rules.apart r k r k rfl l j⟩⟩,?_,λa u=>by have:=b.small a u;omega,λf s=>(b.facts f s).2.1.1,?_,by show(zo cs).length<=1000;omega⟩⟩,b⟩;show(t.map (·.ji)).length<=1000;simp;omega;show(vo t (zo cs) cs).length<=1000000;have:(vo t (zo cs) cs).length<=cs.length:=by
  unfold vo;rw[xY];exact pL _ _
 omega
end
section
open Go.RowKit
variable {a b:κ}
def lX(w:World)(m:Nat):μ w (w.drewN m):=zI (zp _ _) m
def yN:κ->κ->Bool
 |a::x,b::y=>if a=b then yN x y else RX a b
 |_,_=>false
def Oi{k:Nat}(d:k<a.length)(c:k<b.length):yN (a.drop k) (b.drop k)=if a[k]=b[k] then yN (a.drop (k+1)) (b.drop (k+1)) else RX a[k] b[k]:=by
 rw[xh d,xh c];rfl
def Hd{k:Nat}(h:¬(k<a.length/\k<b.length)):yN (a.drop k) (b.drop k)=false:=by
 by_cases c:k<a.length;rw[ua (show b.length<=k by omega)];cases a.drop k<;>rfl
 rw[ua (show a.length<=k by omega)];rfl
abbrev zC:=ByteArray×κ×Nat
def yU(c:ByteArray)(row:κ):List zC->Option Nat
 |[]=>none
 |f::d=>if f.1=c/\f.2.1=row then some 0 else(yU c row d).map (·+1)
def dK(c:ByteArray)(row:κ)(fs:List zC):Int:=match yU c row fs with
 |none=>-1
 |some k=>k
def FX{c:ByteArray}{row:κ}{fs:List zC}{k:Nat}(d:k<fs.length):yU c row (fs.drop k)=if fs[k].1=c/\fs[k].2.1=row then some 0 else(yU c row (fs.drop (k+1))).map (·+1):=by
 rw[xh d];rfl
end
section
variable {t:List zg}{ns:κ}
structure Sk (t:List zg) (ns:κ) (R:zu):Prop where
 rise:yz (R4 t)
 nrise:yz ns
 inv:qv (t.map (·.ji)) (zL ns.length) R
 small:∀a∈t.map (·.ji),a<=3
 inside:ew (t.map (·.ji)) ns.length (zxx (t.map (·.ji)) R)
 few:R.count<=1048576/\t.length<=1000/\ns.length<=1000
def jB(R:zu)(p:Nat):List zi:=(RV (R.rows.getD p zj.zero)).map λk=>S1 k (R.rows.getD p zj.zero).ql
def vj(t:List zg)(p:Nat):ByteArray:=(R4 t).getD p ByteArray.empty
def Sk.len{t:List zg}{ns:κ}{R:zu}(h:Sk t ns R):R.rows.length=t.length:=by have:=h.inv.len;simpa using this
def Sk.name{t:List zg}{ns:κ}{R:zu}(h:Sk t ns R){p:Nat}(e:p<t.length):(zU t (vj t p)).isSome=true/\zF t (vj t p)=p/\vj t p=t[p].name:=by
 have f:vj t p=t[p].name:=by unfold vj R4;simp[List.getD,e]
 have b:zT t t[p].name=p:=by
  rcases pg (zT t t[p].name) p with q|q|q;have a:=rD t t[p].name h.rise t[zT t t[p].name] (by
   rw[qE];exact⟨0,by simp;omega,by simp⟩)
  have c:=nT.1 h.rise (zT t t[p].name) p (by simp[R4];omega) (by simp[R4];omega) q;simp only[R4,xV] at c;rw[c] at a;cases a;exact q;have a:=rU t t[p].name t[p] (by
   rw[qE];exact⟨p,by simp;omega,by simp⟩)
  rw[RF] at a;cases a
 have d:zU t t[p].name=some t[p]:=by
  unfold zU;rw[b,yi e];simp
 rw[f];exact⟨by rw[d];rfl,by unfold zF;rw[d,b];rfl,rfl⟩
def Sk.ar{R:zu}(h:Sk t ns R){p:Nat}(a:p<t.length):yo t p<=3/\(t.map (·.ji)).getD p 0=yo t p:=by
 refine⟨?_,rfl⟩;unfold yo;rw[R6 _ (by simpa using a)];exact h.small _ (zt _)
def Sk.row{R:zu}(h:Sk t ns R){p:Nat}(d:p<t.length){r:zi}(c:r∈jB R p):RB (zxx (t.map (·.ji)) R) p r/\RK (yo t p) r/\∀i,i<yo t p->r.getD i 0<ns.length:=by
 have b:p<R.rows.length:=by rw[h.len];exact d
 have a:RB (zxx (t.map (·.ji)) R) p r:=by
  refine(pU h.inv h.small b r).1 ?_;unfold jB at c;rw[R6 _ b] at c;exact c
 exact⟨a,(s6 _ R p r a).2,h.inside p r a⟩
def Sk.rows{t:List zg}{ns:κ}{R:zu}(h:Sk t ns R){p:Nat}(b:p<R.rows.length):∃a,rowsG a R.rows[p]=some (jB R p)/\(jB R p).length<=1048576:=by
 obtain⟨d,g,f,e⟩:=h.inv.tries p b;have c:=tQ R.rows p b;rw[←h.inv.cnt] at c;have:=h.few.1;refine⟨3*(R.rows[p].qf+1),?_,?_⟩;rw[d.rowsG _ (zf _) (by omega)];unfold jB;rw[R6 _ b];unfold jB;rw[R6 _ b,xY,d.cnt];omega
def Fn{ns:κ}(f:yz ns):∀(a b:zi),(∀v∈a,v<ns.length)->(∀v∈b,v<ns.length)->TJ a b->yN (a.map λv=>ns.getD v ByteArray.empty) (b.map λv=>ns.getD v ByteArray.empty)=true
 |x::a,y::b,i,g,h=>by
  simp only[xZ,yN];rcases h with h|⟨rfl,h⟩
  .have c:=rC f h (g y (by simp));rw[za]
   .exact c
   .intro e;rw[e,RF] at c;cases c
  .rw[zb rfl];exact Fn f a b (λv d=>i v (by simp[d])) (λv d=>g v (by simp[d])) h
 |[],_,_,_,h=>h.elim
 |_::_,[],_,_,h=>h.elim
def Dy{k:zi}{a:Nat}(c:k.length=a)(e:a<=3):zX ns (S1 k a) a 3=k.map λv=>ns.getD v ByteArray.empty:=by
 refine j7 (by simp[zX,c]) λi b d=>?_;have f:i<a:=by rw[gT] at b;exact b
 simp only[zX,xV,fc];rw[zb (by omega)];congr 1;unfold S1;rw[ks,rm (by omega),yi (by omega)];rfl
def Sk.sorted{R:zu}(h:Sk t ns R){p:Nat}(m:p<t.length){i j:Nat}(w:i<j)(l:j<(jB R p).length):yN (zX ns ((jB R p)[i]'(by omega)) (yo t p) 3) (zX ns (jB R p)[j] (yo t p) 3)=true:=by
 have e:p<R.rows.length:=by rw[h.len];exact m
 obtain⟨I,H,o,G⟩:=h.inv.tries p e;obtain⟨c,q⟩:=h.ar m;have z:R.rows.getD p zj.zero=R.rows[p]:=R6 _ e;have b:=(h.row m (zt (show i<(jB R p).length by omega))).2;have a:=(h.row m (zt l)).2;simp only[jB,z,xY] at l;simp only[jB,z,xV] at b a ⊢;have n:=nT.1 (i3 R.rows[p] R.rows[p].ql 0 0) i j (show i<(RV R.rows[p]).length by omega) l w;have d:=((qB R.rows[p] _).1 (zt (show i<(RV R.rows[p]).length by omega))).1;have f:=((qB R.rows[p] _).1 (zt l)).1;change TJ (RV R.rows[p])[i] (RV R.rows[p])[j] at n;generalize (RV R.rows[p])[i]=s at *;generalize (RV R.rows[p])[j]=r at *;rw[q] at o;by_cases u:yo t p=0;have x:R.rows[p].ql=1:=by rw[o,u];rfl
 rw[x] at d f b a;have A:∀k:zi,k.length=1->RK 0 (S1 k 1)->k=[0]:=by
  intro k y D;match k,y with
  |[v],_=>
   have:=D.2 0 (zf _);simp[S1] at this;rw[this]
 rw[u] at b a;rw[A s d b.1,A r f a.1] at n;exact z9 n (oU _);have E:R.rows[p].ql=yo t p:=by rw[o,sM u c]
 rw[E] at d f b a ⊢;rw[Dy d c,Dy f c];have g:∀k:zi,k.length=yo t p->(∀i,i<yo t p->(S1 k (yo t p)).getD i 0<ns.length)->∀v∈k,v<ns.length:=by
  intro k y B v C;obtain⟨i,F,rfl⟩:=uO C;have:=B i (by omega);unfold S1 at this;rw[ks,rm (by omega),yi F] at this;exact this
 exact Fn h.nrise s r (g s d b.2) (g r f a.2) n
end
section
open Go.Proofs.Tryz Go.RowKit
variable {lo lp:Nat}
def Rx:(prog.info? 30).map (λi=>(i.zero,i.size,i.bytes))=some (some (ν),1,24):=by kernel_rfl
def Q9(w:World)(tb:Nat)(T:zj)(fp:List Nat)(n:Nat)(rs:List zi)(h:ya lo w tb T fp)(a:rowsG n T=some rs):
  Calls prog 78 #[(π tb)] w λe d=>∃v,e=.returned v/\RG w.heap.size d v rs/\μ w d:=by
 unfold rowsG at a;rcases b:lD n T with _|c;rw[b] at a;cases a;rw[b] at a;simp only at a;split at a;simp only[zr] at a;subst a;exact Ga w tb T fp h n c b (by assumption);cases a
def MB{n:Nat}{T:zj}{rs:List zi}(a:rowsG n T=some rs):rs.length<=1048576:=by
 unfold rowsG at a;rcases b:lD n T with _|c;rw[b] at a;cases a;rw[b] at a;simp only at a;split at a;simp only[zr] at a;subst a;assumption
 cases a
def n6(ns:κ)(a:Nat)(r:zi):zk:=⟨false,ByteArray.empty,zX ns r a 3⟩
def uZ(a g:Nat):Value:=.slice (some ⟨g,0,none⟩) a a
def FL(ns:κ)(b:Nat)(rs:List zi)(w:World)(e:Ending)(w':World):Prop:=∃g a,w.heap.size<=g/\e=ε (.tuple #[.slice (some ⟨g,0,none⟩) rs.length rs.length,ι 0])/\w'.ownsRow w.heap.size 30 1 (.slice (some ⟨g,0,none⟩) rs.length rs.length) rs.length (a.map (uZ b))/\RS w.heap.size w' (rs.map (n6 ns b)) a/\μ w w'
def M5(w:World)(g:Nat)(t:List zg)(ns:κ)(R:zu)(v y r:Value)(i:List Nat)(a:ByteArray)(h:kB lo lp w g t ns R v y r i)(j:(zU t a).isSome=false∨zF t a≥R.rows.length):
  Calls prog 38 #[(π g),.string a] w λe l=>e=ε (.tuple #[ν,ι 11])/\l=w:=by
 have b:Hid (Calls prog 77 #[(π g),.string a] w λe l=>e=ε (.tuple #[ι (zF t a:Nat),.bool (zU t a).isSome])/\l=w):=eW lp w g 0 t a h.tg h.few.1;obtain⟨n,B⟩:=h.box.rules;have z:=h.box.lt;obtain⟨A,m,k⟩:=zq h.rows;subst k;have C:=n 2;clear h n;by_cases d:(zU t a).isSome=false
 .rw[d] at b;clear d j;generalize zF t a=x at *;go_enter func38,ntmps38;go_wp2_with (go_at_call 77;refine b.out.mono ?_;rintro e u ⟨rfl,c⟩;obtain rfl:=c.symm)
  go_ret2
  exact⟨rfl,rfl⟩
 have f:(zU t a).isSome=true:=by cases s:(zU t a).isSome with|true=>rfl|false=>exact z9 s d
 rw[f] at b;have p:zF t a≥R.rows.length:=by rcases j with q|q;exact z9 q d;exact q
 have o:(R.rows.length:Int)<=(zF t a:Int):=by omega
 clear d f j;generalize zF t a=x at *;go_enter func38,ntmps38;go_wp2_with (go_at_call 77;refine b.out.mono ?_;rintro e u ⟨rfl,c⟩;obtain rfl:=c.symm)
 go_ret2
 exact⟨rfl,rfl⟩
def PL(w:World)(D:Nat)(t:List zg)(ns:κ)(R:zu)(pv nv rv:Value)(E:List Nat)(c:ByteArray)(h:kB lo lp w D t ns R pv nv rv E)(am:(zU t c).isSome=true)(ao:zF t c<R.rows.length)(n:Nat)(rs:List zi)(hr:rowsG n R.rows[zF t c]=some rs)(aH:yo t (zF t c)<=1000):
  Calls prog 38 #[(π D),.string c] w λe f=>FL ns (yo t (zF t c)) rs w e f:=by
 have Z:Hid (Calls prog 77 #[(π D),.string c] w λe f=>e=ε (.tuple #[ι (zF t c:Nat),.bool (zU t c).isSome])/\f=w):=eW lp w D 0 t c h.tg h.few.1;rw[am] at Z;have H:Hid (kB lo lp w D t ns R pv nv rv E):=h;obtain⟨hc,hf⟩:=h.box.rules;have aM:=h.box.lt;obtain⟨be,aW,aD⟩:=zq h.rows;subst aD;have d2:=hc 2;have aY:=h.few.2.2;have bh:¬(R.rows.length:Int)<=(zF t c:Int):=by omega
 clear h hc am;have aS:Hid (∀W,μ w W->Calls prog 80 #[(π D),ι (zF t c:Nat)] W λe f=>e=ε (ι (yo t (zF t c):Nat))/\f=W):=λW B=>Fk lp W D 0 t _ (H.out.below B).tg;generalize zF t c=s at *;have a4:s<E.length:=by rw[H.out.tlen];exact ao
 obtain⟨gr,aO,ai,_,bk,aq⟩:=yw H.out.rows (by omega);simp only[Value.slice.injEq] at ai;have aa:=ai.1;clear ai;subst aa;have bg:=aq s (.pointer (some ⟨E[s],0,none⟩)) (by simp[RO,a4,pt]);have aw:Hid (Calls prog 78 #[.pointer (some ⟨E[s],0,none⟩)] w λe f=>∃v,e=.returned v/\RG w.heap.size f v rs/\μ w f):=by
  obtain⟨fp,q⟩:=H.out.tries s ao a4;exact Q9 w _ _ fp n rs q hr
 have bf:=MB hr;have aX:(s:Int)<(R.rows.length:Int):=by omega
 obtain⟨i0,hi,aU,aI,aP⟩:=info_parts Rx;have a3:=λW0:World=>run_make (P:=prog) (w:=W0) 31 30 i0 _ underlying31 hi aU .i64 .i64 (rs.length:Int) (rs.length:Int) (by omega) (Int.le_refl _) (by rw[aP];omega) (by omega);rw[aI] at a3;have aB:Hid (∀W (x y z:Nat),μ w W->Calls prog 79 #[(π D),.agg #[ι (x:Nat),ι (y:Nat),ι (z:Nat)],ι (yo t s)] W λe f=>∃g,W.heap.size<=g/\e=ε (.slice (some ⟨g,0,none⟩) (yo t s) (yo t s))/\R7 W.heap.size f (.slice (some ⟨g,0,none⟩) (yo t s) (yo t s)) (zX ns [x,y,z] (yo t s) 3)/\μ W f):=λW x y z B=>GO W D _ x y z ns (H.out.below B).cat aH;generalize yo t s=d at *;generalize E[s]=tb at *;clear aq hr;go_enter func38,ntmps38;go_wp2_with (first|(go_at_call 77;refine Z.out.mono ?_;rintro e G ⟨rfl,ah⟩;obtain rfl:=ah.symm)|(go_at_call 78;refine aw.out.mono ?_;rintro e G ⟨v1,rfl,O,N⟩;obtain⟨az,C,rfl⟩:=zq O.1))
 have ae:μ G (G.alloc (.cells (madeCells #[ν] rs.length) 30)):=(by go_grown);have a8:μ w (G.alloc (.cells (madeCells #[ν] rs.length) 30)):=zM N ae (zf _);have S:=yk (pJ G rs.length 30 (ν) (by unfold maxLen;omega)) N.size;have ar:Hid (World.ownsRow (G.alloc (.cells (madeCells #[ν] rs.length) 30)) w.heap.size 30 1 (.slice (some ⟨G.heap.size,0,none⟩) rs.length rs.length) rs.length (([]:List Nat).map (uZ d)++List.replicate (rs.length-0) (ν))):=S;have al:Hid (RG w.heap.size (G.alloc (.cells (madeCells #[ν] rs.length) 30)) (.slice az rs.length C) rs):=⟨zB O.1 ae,O.2⟩;have ay:w.heap.size<=G.heap.size:=N.size;clear S a3 aw O ae Z;generalize G.alloc (.cells (madeCells #[ν] rs.length) 30)=w2 at *;generalize G.heap.size=g at *;clear N;go_loopw [46] (λaQ wr=>∃(m:Nat) (A:List Nat),m<=rs.length/\aQ=ι m/\μ w wr/\A.length=m/\Hid (wr.ownsRow w.heap.size 30 1 (.slice (some ⟨g,0,none⟩) rs.length rs.length) rs.length (A.map (uZ d)++List.replicate (rs.length-m) (ν)))/\Hid (RS w.heap.size wr ((rs.take m).map (n6 ns d)) A)/\Hid (RG w.heap.size wr (.slice az rs.length C) rs)) (λi _=>rs.length-(intOf i).toNat);exact⟨0,[],zv _,rfl,a8,rfl,ar,RS.nil _,al⟩;clear ar al a8;obtain⟨m,A,hm,rfl,I,an,HR,HC,HV⟩:=hrel;have F:Hid (A.length=m):=an;clear an;have aZ:g<wr.heap.size:=yA HR.out rfl;have aN:=uH HR.out;have bb:D<wr.heap.size:=yE aM I.size;by_cases av:m<rs.length
 .obtain⟨gv,cv,x,y,z,hv,aL,Q,c0,c1,c2⟩:=HV.out.cell m av;simp only[Value.slice.injEq] at hv;have aa:=hv.1;clear hv;subst aa;have bi:(m:Int)<(rs.length:Int):=by omega
  have aF:Hid (rs.take (m+1)=rs.take m++[[x,y,z]]):=show rs.take (m+1)=rs.take m++[[x,y,z]] by rw[yP av,Q]
  clear Q;have T:Hid (∀W,μ wr W->Calls prog 79 #[(π D),.agg #[ι x,ι y,ι z],ι d] W λe f=>∃g,W.heap.size<=g/\e=ε (.slice (some ⟨g,0,none⟩) d d)/\Hid (R7 W.heap.size f (.slice (some ⟨g,0,none⟩) d d) (zX ns [x,y,z] d 3))/\μ W f):=λW B=>aB.out W x y z (zM I B (zf _));have U:Hid (∀W,μ wr W->Calls prog 80 #[(π D),ι s] W λe f=>e=ε (ι d)/\f=W):=λW B=>aS.out W (zM I B (zf _));go_upto_region 9 with fail
  have u:μ wr (wr.alloc (.cells #[ι x,ι y,ι z] 165)):=(by go_grown);have r:=Rz.new wr #[ι x,ι y,ι z] 165;generalize wr.alloc (.cells #[ι x,ι y,ι z] 165)=p at *;have v0:p.cell? ⟨wr.heap.size,0,none⟩=some (ι x):=by rw[r.rules.1];rfl
  have v1:p.cell? ⟨wr.heap.size,1,none⟩=some (ι y):=by rw[r.rules.1];rfl
  have v2:p.cell? ⟨wr.heap.size,2,none⟩=some (ι z):=by rw[r.rules.1];rfl
  have ab:wr.heap.size<p.heap.size:=r.lt;have J:=zB HR.out u;have a9:g<p.heap.size:=yA J rfl;obtain⟨sx,aR⟩:∃sx,p.cell? ⟨g,m,none⟩=some sx:=by
   obtain⟨g',ba,a7,_,_,a5⟩:=yw J (by omega);simp only[Value.slice.injEq,zr,Addr.mk.injEq,and_true] at a7;have e:=a7.1;subst e;exact⟨_,a5 m _ (yi (by simp[F.out];omega))⟩
  have bd:=uH J;have ad:Hid (p.ownsRow w.heap.size 30 1 (.slice (some ⟨g,0,none⟩) rs.length rs.length) rs.length (A.map (uZ d)++List.replicate (rs.length-m) (ν))):=J;have V:Hid (RS w.heap.size p ((rs.take m).map (n6 ns d)) A):=HC.out.mono (λ_ _ q=>q.below u);have ac:Hid (RG w.heap.size p (.slice (some ⟨gv,0,none⟩) rs.length C) rs):=HV.out.below' u;have ap:μ w p:=zM I u (zf _);have a6:Hid (∀W,μ p W->Calls prog 79 #[(π D),.agg #[ι x,ι y,ι z],ι d] W λe f=>∃j,p.heap.size<=j/\e=ε (.slice (some ⟨j,0,none⟩) d d)/\Hid (R7 p.heap.size f (.slice (some ⟨j,0,none⟩) d d) (zX ns [x,y,z] d 3))/\Hid (μ p f)/\f.cell? ⟨wr.heap.size,0,none⟩=some (ι x)/\f.cell? ⟨wr.heap.size,1,none⟩=some (ι y)/\f.cell? ⟨wr.heap.size,2,none⟩=some (ι z)/\f.cell? ⟨g,m,none⟩=some sx/\g<f.heap.size/\∀o,f.frozen? ⟨g,o,none⟩=false):=λW B=>by
   refine(T.out W (zM u B (zf _))).mono ?_;rintro e f ⟨j,h1,h2,h3,h4⟩;have hq:=zM B h4 (zf _);have hs:=B.size;exact⟨j,by omega,h2,h3.out.low B.size,hq,(hq.cell ab).trans v0,(hq.cell ab).trans v1,(hq.cell ab).trans v2,(hq.cell a9).trans aR,yE a9 hq.size,uH (zB ad.out hq)⟩
  have aA:Hid (∀W,μ p W->Calls prog 80 #[(π D),ι s] W λe f=>e=ε (ι d)/\f=W):=λW B=>U.out W (zM u B (zf _));clear T U J r u HR HC HV c0 c1 c2 aL aN;go_region_held3 (λf=>f.cell? ⟨wr.heap.size,0,none⟩=some (ι x)/\f.cell? ⟨wr.heap.size,1,none⟩=some (ι y)/\f.cell? ⟨wr.heap.size,2,none⟩=some (ι z)) (first|go_keep|(go_simp;done)) (first|(go_at_call 79;refine(a6.out _ (by exact(by go_grown))).mono ?_;rintro e M ⟨j,bc,rfl,ak,L,a0,a1,a2,ax,ag,af⟩)|(go_at_call 80;refine(aA.out _ (by exact(by go_grown))).mono ?_;rintro e w6 ⟨rfl,ah⟩;obtain rfl:=ah.symm))
  have X:=zB ad.out L.out;have aJ:Hid ((A.map (uZ d)++List.replicate (rs.length-m) (Value.slice none 0 0)).set m (uZ d j)=(A++[j]).map (uZ d)++List.replicate (rs.length-(m+1)) (Value.slice none 0 0)):=show _=_ by
   obtain⟨k,hk⟩:∃k,rs.length-m=k+1:=⟨rs.length-m-1,by omega⟩;have aK:rs.length-(m+1)=k:=by omega
   rw[List.set_append,za (by simp[F.out]),hk,aK,re];simp[F.out]
  have K:=uj X m (by simp[F.out];omega) (uZ d j);rw[aJ.out] at K;have aj:zc [g] M (M.setCell ⟨g,m,none⟩ (.slice (some ⟨j,0,none⟩) d d)):=zc.set _ _ _ _;obtain⟨cg,aE⟩:=jL X (b:=g) rfl;have Y:=RL.box aE;have aG:Hid (World.ownsRow (M.setCell ⟨g,m,none⟩ (.slice (some ⟨j,0,none⟩) d d)) w.heap.size 30 1 (.slice (some ⟨g,0,none⟩) rs.length rs.length) rs.length ((A++[j]).map (uZ d)++List.replicate (rs.length-(m+1)) (ν))):=K;have aV:Hid (RS w.heap.size (M.setCell ⟨g,m,none⟩ (.slice (some ⟨j,0,none⟩) d d)) ((rs.take (m+1)).map (n6 ns d)) (A++[j])):=show RS _ _ _ _ by
   rw[aF.out,vg];have hz:=ap.size;refine RS.mono (w:=M) ?_ (λ_ _ q=>yI q aj Y (by decide));refine(V.out.mono (λ_ _ q=>q.below L.out)).snoc (l:=n6 ns d [x,y,z]) (λa ha=>by have:=V.out.lt a ha;omega) (by omega) ?_;show R7 w.heap.size M (.slice (some ⟨j,0,none⟩) (zX ns [x,y,z] d 3).length (zX ns [x,y,z] d 3).length) (zX ns [x,y,z] d 3);rw[gT];exact ak.out.low (by omega)
  have aC:Hid (RG w.heap.size (M.setCell ⟨g,m,none⟩ (.slice (some ⟨j,0,none⟩) d d)) (.slice (some ⟨gv,0,none⟩) rs.length C) rs):=⟨yI (ac.out.below' L.out).1 aj Y (by decide),ac.out.2⟩;have aT:μ w (M.setCell ⟨g,m,none⟩ (.slice (some ⟨j,0,none⟩) d d)):=(zM ap L.out (zf _)).setCell (by simpa using ay) _;have au:Hid ((A++[j]).length=m+1):=show(A++[j]).length=m+1 by simp[F.out]
  clear K X aj Y ad V ac ak L a0 a1 a2 ax ag af v0 v1 v2;generalize M.setCell ⟨g,m,none⟩ (.slice (some ⟨j,0,none⟩) d d)=w7 at *;go_wp2;go_roundw;exact⟨m+1,A++[j],by omega,by go_num,aT,au.out,aG,aV,aC⟩;simp[intOf];omega
 obtain rfl:m=rs.length:=by omega
 have q1:=HR.out;have q2:=HC.out;rw[jv,List.replicate_zero,vR] at q1;rw[uR] at q2;have HQ:Hid (_/\_):=And.intro q1 q2;clear q1 q2 HR HC HV F;go_wp2;go_ret2
 exact⟨g,A,ay,rfl,HQ.out.1,HQ.out.2,I⟩
end
section
open Go.RowKit
def RI.told{cs:List zd}{a t:List zg}(h:RI cs a t){R:zu}{D:DB}{k mr mx:Nat}(c:qv (t.map (·.ji)) (zL (zo cs).length) R)(j:zxx (t.map (·.ji)) R=D)(l:zzm (uQ t (zo cs) none cs) mr mx=some (D,k))(n:R.count<=1048576):Sk t (zo cs) R:=by
 have g:∀i (c:i<cs.length),jA (yG ((ue none i).getD [])) (zx cs[i]).length:=λi c=>nz (dA (h.many _ (zt c)));have b:=rT h (zo cs) none g;have e:Sy t=Sy a:=by have:=nB (a.length+1) a cs;rw[h.jm] at this;exact this
 have m:R4 t=R4 a:=by
  have:=congrArg (List.map Prod.fst) e;simpa [Sy,R4,Function.comp_def] using this
 obtain⟨_,p,_⟩:=h.low;have o:=h.few;have f:=Dk cs;have d:(zo cs).length<=500:=by
  have:=eE cs [];simp only[g5,vn] at this;show(cs.foldl vV []).length<=500;omega
 exact⟨by rw[m];exact h.tab.rise,(dR cs).1,c,b.small,by rw[j];exact Lh h none g l,n,by omega,by omega⟩
def Gi:∀a:κ,yN a a=false
 |[]=>rfl
 |x::a=>by unfold yN;rw[zb rfl];exact Gi a
def RI.runos{cs:List zd}{m t:List zg}(h:RI cs m t){os:Option (List (Option (List Int)))}(g:jK cs os=true):rV cs t os/\p9 (uQ t (zo cs) os cs):=by
 have a:p9 (uQ t (zo cs) os cs):=rT h _ os (eF g λc n=>dA (h.many c n));obtain⟨b,_⟩:=h.runok;have j:(os.getD []).length<=cs.length/\∀o∈os.getD [],(o.getD []).length<=5:=by
  rcases os with _|l;simp;unfold jK at g;simp only[uG,beq_iff_eq,fL] at g;refine⟨by simp;omega,λo j=>?_⟩;obtain⟨i,q,rfl⟩:=qE.1 (show o∈l from j);have:=g.2 (cs[i]'(by omega),l[i]) (by
   rw[qE];exact⟨i,by simp;omega,by simp⟩)
  rcases k:l[i] with _|o;simp;rw[k] at this;simp only[kD,uG,beq_iff_eq] at this;have p:=dA (h.many cs[i] (zt (by omega)));simp only[uL];omega
 have e:=b.len;refine⟨⟨b.len,b.names,b.fine,b.sums,b.few,b.vals,b.jm,by omega,λo h=>by have:=j.2 o h;omega,λ_ o h=>by have:=j.2 o h;omega,λ_=>?_⟩,a⟩;have d:=b.set rfl;exact⟨λr f=>⟨λl e=>((a.rules.rules r f).qc l e).1,λl e=>⟨((a.rules.rules r f).qw l e).1,a.rules.apart r f r f rfl l e⟩⟩,d.many,d.small,d.rows,d.facts,d.qf⟩
end
section
open Classical
variable {t t0:List zg}{cs:List zd}
def P6{b:List zg}{l:zk}(c:∀e∈t,e.qh=0)(h:vz t l=some b):∀e∈b,e.qh=0:=by
 unfold vz at h;split at h;split at h;simp only[zr] at h;subst h;exact c;cases h;simp only[zr] at h;subst h;intro e a;rcases sI.1 a with rfl|a;rfl;exact c e a
def Gr:∀(b done:List zk) (t:List zg),SH t done->(∀e∈t,e.qh=0)->(∀x∈done++b,∀y∈done++b,x.pred=y.pred->x.args.length=y.args.length)->∃d,b.foldl uv (some t)=some d/\SH d (done++b)/\∀e∈d,e.qh=0
 |[],done,t,h,i,_=>⟨t,rfl,by simpa using h,i⟩
 |l::b,done,t,h,i,j=>by
  rw[uu];cases a:vz t l with
  |none=>
   exfalso;unfold vz at a;split at a
   .rename_i e q;obtain⟨k,o⟩:=pi q;split at a
    .cases a
    .rename_i g;obtain⟨m,c,f⟩:=(h.names e.name).1 (zE.2 ⟨e,k,rfl⟩);apply g;rw[←h.ji e k m c f];exact j m (by simp[c]) l (by simp) (f.trans o)
   .cases a
  |some n=>
   rw[show uv (some t) l=some n from a];obtain⟨d,r,s,p⟩:=Gr b (done++[l]) n (h.step a) (P6 i a) (by simpa [List.append_assoc] using j);exact⟨d,r,by simpa [List.append_assoc] using s,p⟩
def NE{c:List zk}(h:SH t c){x y:zk}(f:x∈c)(g:y∈c)(e:x.pred=y.pred):x.args.length=y.args.length:=by
 obtain⟨a,d,b⟩:=zE.1 ((h.names x.pred).2 ⟨x,f,rfl⟩);rw[h.ji a d x f b.symm,h.ji a d y g (e.symm.trans b.symm)]
def D9(h:SH t (cs.flatMap zm)):kw t cs:=by
 intro c g l f;rcases d:zU t l.pred with _|e;obtain⟨e,b,a⟩:=zE.1 ((h.names l.pred).2 ⟨l,uP.2 ⟨c,g,f⟩,rfl⟩);exact z9 a (nJ h.rise d e b);rfl
def PK(h:∀e∈t,e.qh=0)(n:ByteArray):val t n=0:=by
 unfold val;split;rename_i e a;exact h e (pi a).1;rfl
def Jn(h:uq cs=some t0):∀e∈t0,e.qh=0:=by
 have d:=Bu h;obtain⟨u,u1,u2,u3⟩:=Gr (cs.flatMap zm) [] [] tq (λe b=>by cases b) (λx c y a e=>NE d (by simpa using c) (by simpa using a) e);have f:u=t0:=by unfold uq at h;rw[u1] at h;simpa using h
 subst f;exact u3
def RI.least(h:RI cs t0 t):Sj cs (val t):=by
 have:=(eA (D9 h.tab) (PK (Jn h.coll))).2 (by rw[h.jm]);rwa [h.jm] at this
def RI.nam(h:RI cs t0 t):R4 t=R4 t0/\Sy t=Sy t0:=by
 have b:=tY (t0.length+1) t0 cs (D9 h.tab);have a:=nB (t0.length+1) t0 cs;rw[h.jm] at b a;exact⟨b,a⟩
end
section
open Classical
def Du{cs:List zd}{b t:List zg}(h:RI cs b t){c:zd}(d:c∈cs){l:zk}(a:l∈zm c):l.pred∈R4 t:=by
 rw[h.nam.1];exact(h.tab.names l.pred).2 ⟨l,uP.2 ⟨c,d,a⟩,rfl⟩
def Cu{t:List zg}{ns:κ}(cs:List zd)(s:Nat):((uC t ns none cs).filter λr=>decide (r.qh=s))=[]↔¬∃c∈cs,0<c.body.length/\xH t c.head.pred=s:=by
 rw[ed];constructor;rintro q ⟨c,g,a,d⟩;obtain⟨i,b,rfl⟩:=qE.1 g;have:=q _ (pB.2 ⟨i,b,a,rfl⟩);exact this (decide_eq_true d);intro q r f;obtain⟨i,b,a,rfl⟩:=pB.1 f;exact λe=>q ⟨_,zt b,a,of_decide_eq_true e⟩
def Ks{rs:List zs}{k:Nat}{D:DB}{p:Nat}{x:zi}{m:Nat}(h:D p x=some m):zx4 rs k D p x=some m:=by
 unfold zx4;rw[h]
end
section
open Classical
variable {ns:κ}
def Sa(σ:ByteArray->ByteArray)(l:zk):κ:=l.args.map λa=>if zQ a=true then σ a else a
def eR{i:Nat}(h:i<ns.length):ns.getD i ByteArray.empty∈ns:=by
 rw[R6 _ h];exact zt h
def t7{cs:List zd}{c:zd}(m:c∈cs){l:zk}(h:l∈zm c)(n:l.args.length<=3)(σ:ByteArray->Nat):zX (zo cs) (qd (zo cs) σ l) l.args.length 3=Sa (λv=>(zo cs).getD (σ v) ByteArray.empty) l:=by
 have b:=dR cs;have a:∀i (d:i<l.args.length),(zo cs).getD ((qd (zo cs) σ l).getD i 0) ByteArray.empty=if zQ l.args[i]=true then(zo cs).getD (σ l.args[i]) ByteArray.empty else l.args[i]:=by
  intro i d;have e:(qd (zo cs) σ l).getD i 0=jV (zo cs) σ l i:=by
   have:i=0∨i=1∨i=2:=by omega
   rcases this with rfl|rfl|rfl<;>rfl
  rw[e];unfold jV;rw[yi d];simp only;split;rfl;rename_i j;have g:=(b.2 _).2 ⟨c,m,l,h,zt d,by simpa using j⟩;obtain⟨v,f,o⟩:=EV b.1 g;rw[f];exact(KG f).2
 apply j7;simp[zX,Sa];intro i k p;have d:i<l.args.length:=by simpa [zX] using k
 simp only[zX,Sa,xV,fc];rw[zb (by omega),a i d]
def Hn(n:yz ns){l:zk}{r:zi}(g:RK l.args.length r)(k:∀i,i<l.args.length->r.getD i 0<ns.length){σ:ByteArray->ByteArray}(h:zX ns r l.args.length 3=Sa σ l):r=qd ns (λv=>(uy ns (σ v)).getD 0) l:=by
 have d:∀i,i<3->r.getD i 0=jV ns (λv=>(uy ns (σ v)).getD 0) l i:=by
  intro i q;unfold jV;by_cases j:i<l.args.length;have e:(zX ns r l.args.length 3)[i]'(by rw[gT];exact j)=(Sa σ l)[i]'(by simp[Sa];exact j):=by simp only[h]
  simp only[zX,Sa,xV,fc] at e;rw[zb (by omega)] at e;have m:=s5 n (k i j);rw[yi j];simp only;split;rename_i f;rw[zb f] at e;rw[←e,m];rfl;rename_i f;rw[za f] at e;rw[←e,m];rfl;rw[kM (by omega)];exact g.2 i (by omega)
 match r,g.1 with
 |[a,b,c],_=>
  have p:=d 0 (by omega);have o:=d 1 (by omega);have s:=d 2 (by omega);unfold qd;rw[←p,←o,←s];rfl
end
section
open Classical
abbrev y9:=List (ByteArray×ByteArray)
def RJ:y9->ByteArray->Option ByteArray
 |[],_=>none
 |x::B,t=>if x.1=t then some x.2 else RJ B t
def ym(B:y9)(t:ByteArray):ByteArray:=if zQ t=true then(RJ B t).getD ByteArray.empty else t
def xy:y9->κ->κ->Option y9
 |B,[],_=>some B
 |B,a::b,row=>if ym B a=ByteArray.empty then xy (B++[(a,row.headD ByteArray.empty)]) b row.tail else if ym B a=row.headD ByteArray.empty then xy B b row.tail else none
def yD(B:y9)(args:κ):κ:=args.map (ym B)
def sm(B C:y9)(t:ByteArray):RJ (B++C) t=(RJ B t).or (RJ C t):=by
 induction B with
 |nil=>rfl
 |cons x B a=>
  rw[hO,RJ,RJ];split;rfl;exact a
def qn(B:y9):Prop:=∀v x,RJ B v=some x->x≠ByteArray.empty
def Tu(B C:y9):Prop:=∀v x,RJ B v=some x->RJ C v=some x
def Tu.trans{A B C:y9}(h:Tu A B)(k:Tu B C):Tu A C:=λv x q=>k v x (h v x q)
def n7{B C:y9}(h:Tu B C){t:ByteArray}(a:ym B t≠ByteArray.empty):ym C t=ym B t:=by
 unfold ym at *;split;rename_i q;rw[zb q] at a;rcases b:RJ B t with _|x;rw[b] at a;exact z9 rfl a;rw[h t x b];rfl
def pQ:∀(args row:κ) (B b:y9),args.length=row.length->(∀x∈row,x≠ByteArray.empty)->(∀a∈args,a≠ByteArray.empty)->qn B->xy B args row=some b->qn b/\Tu B b/\yD b args=row
 |[],row,B,b,l,_,_,i,h=>by
  simp only[xy,zr] at h;subst h;have:row=[]:=by cases row with|nil=>rfl|cons a r=>simp at l
  subst this;exact⟨i,λv x q=>q,rfl⟩
 |a::g,[],B,b,l,_,_,_,_=>by simp at l
 |a::g,r::j,B,b,l,t,o,i,h=>by
  have n:g.length=j.length:=by simpa using l
  have s:=t r (by simp);have z:=o a (by simp);unfold xy at h;change (if ym B a=ByteArray.empty then xy (B++[(a,r)]) g j else if ym B a=r then xy B g j else none)=some b at h;split at h
  .rename_i c;have d:zQ a=true:=by
    false_or_by_contra
    rename_i q;unfold ym at c;rw[za q] at c;exact z c
   have w:RJ B a=none:=by
    unfold ym at c;rw[zb d] at c;cases f:RJ B a with
    |none=>rfl
    |some x=>rw[f] at c;exact z9 c (i a x f)
   have p:qn (B++[(a,r)]):=by
    intro v x q;rw[sm] at q;cases f:RJ B v with
    |some y=>rw[f] at q;simp only[Option.some_or,zr] at q;rw[←q];exact i v y f
    |none=>
     rw[f] at q;simp only[Option.none_or,RJ] at q;split at q
     .simp only[zr] at q;rw[←q];exact s
     .cases q
   have C:Tu B (B++[(a,r)]):=by
    intro v x q;rw[sm,q];rfl
   obtain⟨A,m,k⟩:=pQ g j _ b n (λx e=>t x (by simp[e])) (λx e=>o x (by simp[e])) p h;refine⟨A,C.trans m,?_⟩;unfold yD at k ⊢;rw[xZ,k];congr 1;have:RJ (B++[(a,r)]) a=some r:=by
    rw[sm,w];simp[RJ]
   unfold ym;rw[zb d,m a r this];rfl
  .rename_i c;by_cases u:ym B a=r
   .rw[zb u] at h;obtain⟨A,m,k⟩:=pQ g j B b n (λx e=>t x (by simp[e])) (λx e=>o x (by simp[e])) i h;refine⟨A,m,?_⟩;unfold yD at k ⊢;rw[xZ,k,n7 m c,u]
   .rw[za u] at h;cases h
def SQ(B:y9)(σ:ByteArray->ByteArray):Prop:=∀v x,RJ B v=some x->σ v=x
def wn{σ:ByteArray->ByteArray}(c:∀a,σ a≠ByteArray.empty):∀(args:κ) (B:y9),(∀a∈args,a≠ByteArray.empty)->SQ B σ->∃l,xy B args (args.map λa=>if zQ a=true then σ a else a)=some l/\SQ l σ
 |[],B,_,h=>⟨B,rfl,h⟩
 |a::i,B,g,h=>by
  unfold xy;simp only[xZ,List.headD_cons,lU];by_cases b:zQ a=true
  .rw[zb b];cases j:RJ B a with
   |none=>
    have f:ym B a=ByteArray.empty:=by unfold ym;rw[zb b,j];rfl
    rw[zb f];refine wn c i _ (λx d=>g x (by simp[d])) λv x q=>?_;rw[sm] at q;cases k:RJ B v with
    |some y=>rw[k] at q;simp only[Option.some_or,zr] at q;rw[←q];exact h v y k
    |none=>
     rw[k] at q;simp only[Option.none_or,RJ] at q;split at q
     .rename_i e;simp only[zr] at q;rw[←q,e]
     .cases q
   |some x=>
    have d:=h a x j;have f:ym B a=x:=by unfold ym;rw[zb b,j];rfl
    rw[f,za (by rw[←d];exact c a),zb d.symm];exact wn c i B (λx d=>g x (by simp[d])) h
  .have f:ym B a=a:=by unfold ym;rw[za b]
   rw[za b,f,za (g a (by simp)),zb rfl];exact wn c i B (λx d=>g x (by simp[d])) h
def Bi{a:ByteArray}{row:κ}:∀{fs:List zC} {k:Nat},yU a row fs=some k->∃e:k<fs.length,fs[k].1=a/\fs[k].2.1=row
 |[],_,h=>by cases h
 |f::fs,k,h=>by
  unfold yU at h;split at h
  .rename_i q;simp only[zr] at h;subst h;exact⟨by simp,by simpa using q⟩
  .obtain⟨j,d,rfl⟩:=vK.1 h;obtain⟨c,b⟩:=Bi d;exact⟨by simpa using c,by simpa using b⟩
def CW{a:ByteArray}{row:κ}:∀{fs:List zC},yU a row fs=none->∀m,(a,row,m)∉fs
 |[],_,m,h=>by cases h
 |f::fs,b,m,h=>by
  unfold yU at b;split at b
  .cases b
  .rename_i q;rw[Option.map_eq_none_iff] at b;rcases zy.1 h with e|h
   .rw[←e] at q;exact q ⟨rfl,rfl⟩
   .exact CW b m h
def SQ.val{B:y9}{σ:ByteArray->ByteArray}(h:SQ B σ){a:ByteArray}(b:ym B a≠ByteArray.empty):ym B a=if zQ a=true then σ a else a:=by
 unfold ym at *;split;rename_i q;rw[zb q] at b;rcases c:RJ B a with _|x;rw[c] at b;exact z9 rfl b;rw[h a x c];rfl;rfl
end
section
open Go.RowKit
def x6(B:y9):κ:=B.map (·.1)
def uc(B:y9):κ:=B.map (·.2)
def Kf{B:y9}{k:Nat}(a:k<B.length)(t:ByteArray):RJ (B.drop k) t=if B[k].1=t then some B[k].2 else RJ (B.drop (k+1)) t:=by
 rw[xh a];rfl
end
section
open Go.Proofs.Tryz Go.RowKit
section
variable {ops:Array Oper} {rest:List Oper} {o:Oper} {a:Act} {Q:Exit->Act->World->Prop}
def Dr{lo:Nat}{w:World}(c:o.guard=none)(s x:Operand)
  (D:o.op=.call {callee:=.builtin .append,args:=#[s,x],argTypes:=#[30,30]})
  (b:κ) (v:Value) (C:a.eval s=ν) (z:a.eval x=v) (M:R7 lo w v b) (P:b.length<=1000000)
  (h:∀i n,R7 w.heap.size n i b->μ w n->wpList prog ops Q rest (a.put o.dst i) n):
  wpList prog ops Q (o::rest) a w:=by
 obtain⟨A,E,q,p,f⟩:=info_parts QN;obtain⟨_,⟨m,K⟩|⟨B,d,H,m,F,J,I,N,L,t⟩⟩:=M;have l:b=[]:=pA K;refine wpList_append_own_none c s x 30 D w.heap.size 9 A 1 underlying30 E _ 0 [] C (yW _ _ _ _) (by rw[z,m]) ?_;refine h _ _ ?_ (zp _ _);rw[l];exact yW _ _ _ _;have r:∀j u,(b.map Value.string)[j]?=some u->w.cell? (Addr.add ⟨B,0,none⟩ j)=some u:=λj u e=>by
  rw[Addr.add_lit,vn];unfold World.cell?;rw[J];simp only;rw[←t,mp] at e;split at e;simpa using e;simp at e
 refine wpList_append_own _ c s x 30 D w.heap.size 9 A _ 1 16 underlying30 E q p f rfl (by decide) _ 0 [] C (yW _ _ _ _) ⟨B,0,none⟩ b.length d (b.map Value.string) (by rw[z,m]) (by simp) r (by simp[Value.oneCell']) (by unfold maxLen;omega) (by omega) (zf _) ?_;intro i O g y _;refine h _ _ ?_ ((zp _ _).grown y (zf _) (λk G=>by cases G));simpa [R7] using g
end
def ie{w:World}{b:Nat}{c:Array Value}{T:TypeId}(h:Rz w b c T)(o:Obj):Rz (w.alloc o) b c T:=h.below ((zp _ _).alloc (zf _) o)
def ib(B:y9):(x6 B).length=B.length:=by simp[x6]
def oj(B:y9):(uc B).length=B.length:=by simp[uc]
def OX{B:y9}{args row:κ}{k:Nat}(c:k<args.length)(b:k<row.length):xy B (args.drop k) (row.drop k)=if ym B args[k]=ByteArray.empty then xy (B++[(args[k],row[k])]) (args.drop (k+1)) (row.drop (k+1)) else if ym B args[k]=row[k] then xy B (args.drop (k+1)) (row.drop (k+1)) else none:=by
 rw[xh c,xh b];rfl
end
section
open Classical
def yp(fs:List zC)(h:zk)(body:List zk):List zk->y9->List (κ)
 |[],B=>if (body.any λl=>l.neg&&(yU l.pred (yD B l.args) fs).isSome)=true then [] else [yD B h.args]
 |l::rest,B=>if l.neg=true then yp fs h body rest B else fs.flatMap λf=>if f.1=l.pred then(match xy B l.args f.2.1 with|none=>[]|some a=>yp fs h body rest a) else []
structure rP (cs:List zd) (fs:List zC):Prop where
 ji:∀f∈fs,∀c∈cs,∀l∈zm c,l.pred=f.1->f.2.1.length=l.args.length
 ne:∀f∈fs,∀x∈f.2.1,x≠ByteArray.empty
def ri(fs:List zC)(c:zd)(x:κ):Prop:=∃σ:ByteArray->ByteArray,(∀a,σ a≠ByteArray.empty)/\(∀l∈c.body,l.neg=false->∃m,(l.pred,Sa σ l,m)∈fs)/\(∀l∈c.body,l.neg=true->∀m,(l.pred,Sa σ l,m)∉fs)/\x=Sa σ c.head
def rk{fs:List zC}{p:ByteArray}{r:κ}:(yU p r fs).isSome=true↔∃m,(p,r,m)∈fs:=by
 rcases a:yU p r fs with _|k;exact⟨λq=>(by cases q),fun⟨m,d⟩=>z9 d (CW a m)⟩;obtain⟨e,b,c⟩:=Bi a;exact⟨λ_=>⟨fs[k].2.2,by rw[←b,←c];exact zt e⟩,λ_=>rfl⟩
def eD{cs:List zd}{fs:List zC}(t:rP cs fs){c:zd}(C:c∈cs)(n:∀l∈zm c,∀a∈l.args,a≠ByteArray.empty)(h:∀l∈zm c,∀y∈l.args,zQ y=true->y∈zx c){x:κ}:∀(rest done:List zk) (B:y9),c.body=done++rest->qn B->(∀l∈done,l.neg=false->(∃m,(l.pred,yD B l.args,m)∈fs)/\∀a∈l.args,ym B a≠ByteArray.empty)->x∈yp fs c.head c.body rest B->ri fs c x
 |[],done,B,e,z,u,d=>by
  rw[vR] at e;unfold yp at d;split at d
  .cases d
  .rename_i D;rw[xC] at d;have b:∀l∈zm c,yD B l.args=Sa (λv=>if (RJ B v).getD ByteArray.empty=ByteArray.empty then⟨#[0]⟩ else(RJ B v).getD ByteArray.empty) l:=by
    intro l p;refine kU λa k=>?_;unfold ym;split
    .rename_i F;obtain⟨_,o,i,f,A⟩:=gY.1 (h l p a k F);have:=(u o (by rw[←e];exact i) f).2 a A;unfold ym at this;rw[zb F] at this;exact(za this).symm
    .rfl
   refine⟨_,λa=>?_,λl p s=>?_,λl p s m I=>D ?_,d.trans (b _ (by simp[zm]))⟩
   .split
    .decide
    .assumption
   .rw[←b l (by simp[zm,p])];exact(u l (by rw[←e];exact p) s).1
   .rw[←b l (by simp[zm,p])] at I;rw[gi];exact⟨l,p,by rw[s,mQ];exact rk.2 ⟨m,I⟩⟩
 |l::rest,done,B,e,z,u,d=>by
  have H:c.body=(done++[l])++rest:=by rw[e];simp
  have r:l∈zm c:=by simp[zm,e]
  unfold yp at d;split at d
  .rename_i s;refine eD t C n h rest (done++[l]) B H z (λo i f=>?_) d;rcases zW.1 i with q|q
   .exact u o q f
   .rw[xC.1 q,s] at f;cases f
  .obtain⟨g,j,d⟩:=uP.1 d;split at d
   .rename_i G;split at d
    .cases d
    .rename_i w M;obtain⟨N,K,J⟩:=pQ l.args g.2.1 B w (t.ji g j c C l r G.symm).symm (t.ne g j) (n l r) z M;refine eD t C n h rest (done++[l]) w H N (λo i f=>?_) d;rcases zW.1 i with q|q
     .obtain⟨⟨m,L⟩,E⟩:=u o q f;have b:yD w o.args=yD B o.args:=kU λa k=>n7 K (E a k);exact⟨⟨m,by rw[b];exact L⟩,λa k=>by rw[n7 K (E a k)];exact E a k⟩
     .rw[xC.1 q];refine⟨⟨g.2.2,by rw[J,←G];exact j⟩,λa k=>?_⟩;have:ym w a∈yD w l.args:=zE.2 ⟨a,k,rfl⟩;rw[J] at this;exact t.ne g j _ this
   .cases d
def Ao{fs:List zC}{c:zd}(d:∀l∈zm c,∀a∈l.args,a≠ByteArray.empty)(f:∀l∈zm c,∀y∈l.args,zQ y=true->y∈zx c){σ:ByteArray->ByteArray}(k:∀a,σ a≠ByteArray.empty)(h:∀l∈c.body,l.neg=false->∃m,(l.pred,Sa σ l,m)∈fs)(i:∀l∈c.body,l.neg=true->∀m,(l.pred,Sa σ l,m)∉fs):∀(rest done:List zk) (B:y9),c.body=done++rest->qn B->SQ B σ->(∀l∈done,l.neg=false->∀a∈l.args,ym B a≠ByteArray.empty)->Sa σ c.head∈yp fs c.head c.body rest B
 |[],done,B,e,D,z,v=>by
  rw[vR] at e;have n:∀l∈zm c,yD B l.args=Sa σ l:=by
   intro l u;refine kU λa j=>z.val ?_;by_cases H:zQ a=true
   .obtain⟨_,p,g,b,F⟩:=gY.1 (f l u a j H);exact v p (by rw[←e];exact g) b a F
   .unfold ym;rw[za H];exact d l u a j
  unfold yp;rw[za]
  .rw[n c.head (by simp[zm])];simp
  .intro q;rw[gi] at q;obtain⟨l,u,G⟩:=q;rw[uG,n l (by simp[zm,u])] at G;obtain⟨m,K⟩:=rk.1 G.2;exact i l u G.1 m K
 |l::rest,done,B,e,D,z,v=>by
  have I:c.body=(done++[l])++rest:=by rw[e];simp
  have r:l∈c.body:=by rw[e];simp
  have o:l∈zm c:=by simp[zm,r]
  unfold yp;split
  .rename_i C;refine Ao d f k h i rest (done++[l]) B I D z λp g b=>?_;rcases zW.1 g with q|q
   .exact v p q b
   .rw[xC.1 q,C] at b;cases b
  .rename_i C;obtain⟨m,M⟩:=h l r (by simpa using C);obtain⟨w,E,A⟩:=wn k l.args B (d l o) z;have s:xy B l.args (Sa σ l)=some w:=E;have t:∀x∈Sa σ l,x≠ByteArray.empty:=by
    intro x J;obtain⟨a,j,rfl⟩:=zE.1 J;split
    .exact k a
    .exact d l o a j
   obtain⟨N,O,L⟩:=pQ l.args (Sa σ l) B w (by simp[Sa]) t (d l o) D s;refine uP.2 ⟨_,M,?_⟩;rw[zb rfl,s];refine Ao d f k h i rest (done++[l]) w I N A λp g b a j=>?_;rcases zW.1 g with q|q
   .rw[n7 O (v p q b a j)];exact v p q b a j
   .rw[xC.1 q] at j;have:ym w a∈yD w l.args:=zE.2 ⟨a,j,rfl⟩;rw[L] at this;exact t _ this
def Gs{cs:List zd}{fs:List zC}(h:rP cs fs){c:zd}(k:c∈cs)(d:∀l∈zm c,∀a∈l.args,a≠ByteArray.empty)(b:∀l∈zm c,∀y∈l.args,zQ y=true->y∈zx c){x:κ}:x∈yp fs c.head c.body c.body []↔ri fs c x:=
 ⟨eD h k d b c.body [] [] rfl (λv x q=>by cases q) (λl e=>by cases e),fun⟨_,i,j,g,f⟩=>f ▸ Ao d b i j g c.body [] [] rfl (λv x q=>by cases q) (λv x q=>by cases q) (λl e=>by cases e)⟩
end
section
open Classical
variable {t:List zg}{cs:List zd}{L:List zC}{D:DB}{c:zd}
def iw(a:yz (R4 t)){p:Nat}(f:p<t.length):zU t t[p].name=some t[p]/\zT t t[p].name=p:=by
 have d:zT t t[p].name=p:=by
  rcases pg (zT t t[p].name) p with q|q|q;have b:=rD t t[p].name a t[zT t t[p].name] (by
   rw[qE];exact⟨0,by simp;omega,by simp⟩)
  have e:=nT.1 a (zT t t[p].name) p (by simp[R4];omega) (by simp[R4];omega) q;simp only[R4,xV] at e;rw[e] at b;cases b;exact q;have b:=rU t t[p].name t[p] (by
   rw[qE];exact⟨p,by simp;omega,by simp⟩)
  rw[RF] at b;cases b
 refine⟨?_,d⟩;unfold zU;rw[d,yi f];simp
def fo(a:yz (R4 t)){p:Nat}(d:p<t.length):zF t (vj t p)=p/\vj t p=t[p].name:=by
 have e:vj t p=t[p].name:=by unfold vj R4;simp[List.getD,d]
 obtain⟨f,b⟩:=iw a d;rw[e];exact⟨by unfold zF;rw[f,b];rfl,rfl⟩
structure Sq (t:List zg) (ns:κ) (L:List zC) (D:DB):Prop where
 mem:∀f,f∈L↔∃p,p<t.length/\∃r m,D p r=some m/\f=(vj t p,zX ns r (yo t p) 3,m)
 once:L.Nodup
 ok:sG (t.map (·.ji)) D
 inside:ew (t.map (·.ji)) ns.length D
structure ul (cs:List zd) (t:List zg):Prop where
 words:∀c∈cs,nO c
 lit:∀c∈cs,∀l∈zm c,zF t l.pred<t.length/\yo t (zF t l.pred)=l.args.length/\vj t (zF t l.pred)=l.pred/\l.args.length<=3
 rise:yz (R4 t)
 small:∀p,p<t.length->yo t p<=3
 cov:∀c∈cs,∀l∈zm c,∀y∈l.args,zQ y=true->y∈zx c
def ul.of{a:List zg}(w:∀c∈cs,nO c)(h:RI cs a t):ul cs t:=by
 have d:Sy t=Sy a:=by have:=nB (a.length+1) a cs;rw[h.jm] at this;exact this
 have o:R4 t=R4 a:=by
  have:=congrArg (List.map Prod.fst) d;simpa [Sy,R4,Function.comp_def] using this
 have g:yz (R4 t):=by rw[o];exact h.tab.rise
 have u:∀i (k:i<cs.length),jA (yG ((ue none i).getD [])) (zx cs[i]).length:=λi k=>nz (dA (h.many _ (zt k)));refine⟨w,λc b l j=>?_,g,λp q=>?_,λc b=>h.covered b⟩;obtain⟨e,x,v,f,s,r⟩:=h.lit b j;obtain⟨z,y,B⟩:=jj x;refine⟨f,s,?_,?_⟩;rw[(fo g f).2];have:t[zF t l.pred]=e:=by simp only[r,y]
 rw[this,v];obtain⟨m,A,n,_⟩:=lB (h.many c b);rcases zy.1 j with rfl|q;exact m;exact n l q;unfold yo;rw[R6 _ (by simpa using q)];exact(rT h (zo cs) none u).small _ (zt _)
def ul.ne{cs:List zd}{t:List zg}(h:ul cs t){c:zd}(d:c∈cs):∀l∈zm c,∀a∈l.args,a≠ByteArray.empty:=by
 intro l f a g e;have b:mO l:=by
  rcases zy.1 f with rfl|q;exact(h.words c d).2.1;exact(h.words c d).2.2 l q
 have:=(b.2 a g).ne;rw[e] at this;exact this rfl
def ul.nsz(h:ul cs t):∀y∈zo cs,y≠ByteArray.empty:=by
 intro y d;obtain⟨c,e,l,b,a,_⟩:=((dR cs).2 y).1 d;exact h.ne e l b y a
def Sq.lit{cs:List zd}{t:List zg}{L:List zC}{D:DB}(d:ul cs t)(h:Sq t (zo cs) L D){c:zd}(n:c∈cs){l:zk}(j:l∈zm c)(row:κ)(m:Nat):(l.pred,row,m)∈L↔∃r,D (zF t l.pred) r=some m/\row=zX (zo cs) r l.args.length 3:=by
 obtain⟨g,b,i,q⟩:=d.lit c n l j;rw[h.mem];constructor;rintro⟨p,k,r,s,a,e⟩;simp only[yc] at e;obtain⟨f,o,rfl⟩:=e;have:zF t l.pred=p:=by rw[f];exact(fo d.rise k).1
 subst this;exact⟨r,a,by rw[o,b]⟩;rintro⟨r,a,rfl⟩;exact⟨zF t l.pred,g,r,m,a,by rw[b,i]⟩
def Sq.can(g:ul cs t)(h:Sq t (zo cs) L D)(j:c∈cs){l:zk}(f:l∈zm c){r:zi}(a:RB D (zF t l.pred) r):RK l.args.length r/\∀i,i<l.args.length->r.getD i 0<(zo cs).length:=by
 have d:=(h.ok _ _ a).2;have b:=h.inside _ _ a;have e:(t.map (·.ji)).getD (zF t l.pred) 0=l.args.length:=(g.lit c j l f).2.1;rw[e] at d b;exact⟨d,b⟩
def Sq.fs(d:ul cs t)(h:Sq t (zo cs) L D):rP cs L:=by
 refine⟨?_,?_⟩;intro f b c q l k e;obtain⟨s,row,m⟩:=f;simp only at e ⊢;subst e;obtain⟨r,_,rfl⟩:=(h.lit d q k row m).1 b;rw[gT];intro f b x a;obtain⟨p,o,r,m,n,rfl⟩:=(h.mem f).1 b;have g:=h.inside p r (by unfold RB;rw[n];rfl);simp only[zX,zE,kx] at a;obtain⟨i,j,rfl⟩:=a;have:=d.small p o;rw[zb (by omega)];exact d.nsz _ (eR (g i j))
def eK(ns:κ)(σ:ByteArray->Nat)(l:zk){i:Nat}(a:i<3):(qd ns σ l).getD i 0=jV ns σ l i:=by
 have:i=0∨i=1∨i=2:=by omega
 rcases this with rfl|rfl|rfl<;>rfl
def ul.can(n:ul cs t)(m:c∈cs){σ:ByteArray->Nat}(g:∀v∈zx c,σ v<(zo cs).length):∀l∈zm c,RK l.args.length (qd (zo cs) σ l)/\∀i,i<l.args.length->(qd (zo cs) σ l).getD i 0<(zo cs).length:=by
 have a:=dR cs;intro l j;have q:=(n.lit c m l j).2.2.2;refine⟨⟨rfl,λi b=>?_⟩,λi b=>?_⟩;by_cases p:i<3;rw[eK _ _ _ p];unfold jV;rw[kM b];rw[List.getD,kM (by simp[qd];omega)];rfl;rw[eK _ _ _ (by omega)];unfold jV;rw[yi b];simp only;split;rename_i h;exact g _ (n.cov c m l j _ (zt b) h);rename_i h;have o:=(a.2 _).2 ⟨c,m,l,j,zt b,by simpa using h⟩;obtain⟨k,f,e⟩:=qE.1 o;have d:=s5 a.1 f;rw[List.getD,yi f,uL,e] at d;rw[d];exact f
def Sq.der1(f:ul cs t)(h:Sq t (zo cs) L D)(g:c∈cs){r:zi}(M:tj t (zo cs) c D r):ri L c (zX (zo cs) r c.head.args.length 3)/\RK c.head.args.length r/\∀i,i<c.head.args.length->r.getD i 0<(zo cs).length:=by
 obtain⟨σ,E,K,B⟩:=M;have k:=dR cs;have p:∀v∈zx c,σ v<(zo cs).length:=by
  intro v w;obtain⟨n,l,d,o,A⟩:=gY.1 w;have b:l∈zm c:=by simp[zm,d]
  obtain⟨u,z⟩:=h.can f g b (E l d o);obtain⟨i,F,rfl⟩:=qE.1 A;have y:=(f.lit c g l b).2.2.2;have:=z i F;rw[eK _ _ _ (by omega)] at this;unfold jV at this;rw[yi F] at this;simpa only[zb n] using this
 have e:=f.can g p;have j:∀l∈zm c,Sa (λv=>if v∈zx c then(zo cs).getD (σ v) ByteArray.empty else⟨#[0]⟩) l=zX (zo cs) (qd (zo cs) σ l) l.args.length 3:=by
  intro l d;rw[t7 g d (f.lit c g l d).2.2.2];unfold Sa;refine kU λa G=>?_;split;rename_i w;exact zb (f.cov c g l d a G w);rfl
 have s:c.head∈zm c:=by simp[zm]
 refine⟨⟨_,λa=>?_,λl d o=>?_,λl d o m x=>?_,by rw[j _ s,B]⟩,by rw[B];exact e _ s⟩;split;rename_i q;exact f.nsz _ (eR (p a q));decide;have b:l∈zm c:=by simp[zm,d]
 obtain⟨m,x⟩:=hX.1 (E l d o);exact⟨m,(h.lit f g b _ m).2 ⟨_,x,j l b⟩⟩;have b:l∈zm c:=by simp[zm,d]
 obtain⟨H,u,z⟩:=(h.lit f g b _ m).1 x;obtain⟨I,N⟩:=h.can f g b (r:=H) (by unfold RB;rw[u];rfl);have y:=(f.lit c g l b).2.2.2;have C:=lG k.1 y I N;have J:=lG k.1 y (e l b).1 (e l b).2;rw[←z,j l b,J,zr] at C;rw[←C,K l d o] at u;cases u
def Sq.der2(g:ul cs t)(h:Sq t (zo cs) L D)(d:c∈cs){x:κ}(J:ri L c x):∃r,tj t (zo cs) c D r/\x=zX (zo cs) r c.head.args.length 3:=by
 obtain⟨σ,_,C,H,rfl⟩:=J;have n:=dR cs;have I:∀l∈c.body,l.neg=false->RB D (zF t l.pred) (qd (zo cs) (λv=>(uy (zo cs) (σ v)).getD 0) l):=by
  intro l f q;have b:l∈zm c:=by simp[zm,f]
  obtain⟨m,y⟩:=C l f q;obtain⟨r,p,e⟩:=(h.lit g d b _ m).1 y;have E:RB D (zF t l.pred) r:=by unfold RB;rw[p];rfl
  obtain⟨F,z⟩:=h.can g d b E;rw[←Hn n.1 F z e.symm];exact E
 have s:∀v∈zx c,(zo cs).getD ((uy (zo cs) (σ v)).getD 0) ByteArray.empty=σ v:=by
  intro v u;obtain⟨o,l,f,q,A⟩:=gY.1 u;have b:l∈zm c:=by simp[zm,f]
  obtain⟨m,y⟩:=C l f q;obtain⟨r,p,e⟩:=(h.lit g d b _ m).1 y;obtain⟨F,z⟩:=h.can g d b (r:=r) (by unfold RB;rw[p];rfl);have K:=(g.lit c d l b).2.2.2;obtain⟨i,B,rfl⟩:=qE.1 A;have w:(zX (zo cs) r l.args.length 3)[i]'(by rw[gT];exact B)=(Sa σ l)[i]'(by simp[Sa];exact B):=by simp only[←e]
  simp only[zX,Sa,xV,fc] at w;rw[zb (by omega),zb o] at w;rw[←w,s5 n.1 (z i B)];rfl
 have k:∀l∈zm c,Sa (λv=>(zo cs).getD ((uy (zo cs) (σ v)).getD 0) ByteArray.empty) l=Sa σ l:=by
  intro l f;refine kU λa G=>?_;split;rename_i u;exact s a (g.cov c d l f a G u);rfl
 have j:c.head∈zm c:=by simp[zm]
 refine⟨_,⟨_,I,λl f q=>?_,rfl⟩,by rw[t7 d j (g.lit c d c.head j).2.2.2,k c.head j]⟩;have b:l∈zm c:=by simp[zm,f]
 rcases p:D (zF t l.pred) (qd (zo cs) (λv=>(uy (zo cs) (σ v)).getD 0) l) with _|m;rfl;exfalso;refine H l f q m ((h.lit g d b _ m).2 ⟨_,p,?_⟩);rw[t7 d b (g.lit c d l b).2.2.2,k l b]
end
section
open Classical
variable {cs:List zd}{t:List zg}{L:List zC}
def ug(fs l:List zC)(f:zC):List zC:=if (yU f.1 f.2.1 fs).isSome=true∨(yU f.1 f.2.1 l).isSome=true then l else l++[f]
def tR{fs:List zC}{k:Nat}:∀(d l:List zC),(∀g∈d,g.2.2=k)->(∀g∈l,g.2.2=k)->l.Nodup->(∀g∈l,¬∃m,(g.1,g.2.1,m)∈fs)->(d.foldl (ug fs) l).Nodup/\∀f,f∈d.foldl (ug fs) l↔f∈l∨(f∈d/\¬∃m,(f.1,f.2.1,m)∈fs)
 |[],l,_,_,o,_=>⟨o,λf=>by simp⟩
 |g::d,l,w,p,o,v=>by
  have u:=w g (by simp);have j:∀g∈d,g.2.2=k:=λx n=>w x (by simp[n]);rw[uu];by_cases q:(∃m,(g.1,g.2.1,m)∈fs)∨∃m,(g.1,g.2.1,m)∈l
  .rw[show ug fs l g=l from zb (q.imp rk.2 rk.2)];obtain⟨r,s⟩:=tR d l j p o v;refine⟨r,λf=>(s f).trans ⟨λh=>h.imp_right λh=>⟨by simp[h.1],h.2⟩,λh=>?_⟩⟩;rcases h with h|⟨c,i⟩
   .exact zh h
   .rcases zy.1 c with rfl|c
    .rcases q with q|⟨m,q⟩
     .exact z9 q i
     .have:f=(f.1,f.2.1,m):=Prod.ext rfl (Prod.ext rfl (u.trans (p _ q).symm));exact zh (by rw[this];exact q)
    .exact ze ⟨c,i⟩
  .rw[show ug fs l g=l++[g] from za λz=>q (z.imp rk.1 rk.1)];have y:¬∃m,(g.1,g.2.1,m)∈fs:=λz=>q (zh z);have C:g∉l:=λz=>q (ze ⟨g.2.2,z⟩);obtain⟨r,s⟩:=tR d (l++[g]) j (λx n=>by
    rcases zW.1 n with z|z
    .exact p x z
    .rw[xC.1 z];exact u) (pz.2 ⟨o,by simp,λa A b B e=>by rw[xC.1 B] at e;exact C (e ▸ A)⟩) (λx n=>by
    rcases zW.1 n with z|z
    .exact v x z
    .rw[xC.1 z];exact y)
   refine⟨r,λf=>(s f).trans ⟨λh=>?_,λh=>?_⟩⟩
   .rcases h with h|⟨c,i⟩
    .rcases zW.1 h with z|z
     .exact zh z
     .rw[xC.1 z];exact ze ⟨by simp,y⟩
    .exact ze ⟨by simp[c],i⟩
   .rcases h with h|⟨c,i⟩
    .exact zh (List.mem_append_left _ h)
    .rcases zy.1 c with rfl|c
     .exact zh (by simp)
     .exact ze ⟨c,i⟩
def xM(fs:List zC)(k:Nat)(a:List zd)(l:List zC):List zC:=a.foldl (λl c=>(yp fs c.head c.body c.body []).foldl (λl r=>ug fs l (c.head.pred,r,k)) l) l
def D4(fs:List zC)(k:Nat):∀(a:List zd) (l:List zC),xM fs k a l=(a.flatMap λc=>(yp fs c.head c.body c.body []).map λr=>(c.head.pred,r,k)).foldl (ug fs) l
 |[],l=>rfl
 |c::a,l=>by
  rw[uA,jr,List.foldl_map,←D4 fs k a];rfl
def yt(t:List zg)(cs:List zd)(s:Nat):List zd:=cs.filter λc=>decide (xH t c.head.pred=s/\0<c.body.length)
def Sq.round{t0:List zg}(w:RI cs t0 t)(o:ul cs t){D:DB}(h:Sq t (zo cs) L D)(s k:Nat):Sq t (zo cs) (L++xM L k (yt t cs s) []) (zx4 ((uC t (zo cs) none cs).filter λr=>decide (r.qh=s)) k D)/\(xM L k (yt t cs s) []=[]↔∀p x,RB (zx4 ((uC t (zo cs) none cs).filter λr=>decide (r.qh=s)) k D) p x->RB D p x):=by
 have u:∀i (hi:i<cs.length),jA (yG ((ue none i).getD [])) (zx cs[i]).length:=λi hi=>nz (dA (w.many _ (zt hi)));have O:=Av w (zo cs) none u s D;generalize (uC t (zo cs) none cs).filter (λr=>decide (r.qh=s))=N at *;have J:=(dR cs).1;obtain⟨n1,n2⟩:(xM L k (yt t cs s) []).Nodup/\∀f,f∈xM L k (yt t cs s) []↔(∃c∈cs,xH t c.head.pred=s/\0<c.body.length/\∃x,ri L c x/\f=(c.head.pred,x,k))/\¬∃m,(f.1,f.2.1,m)∈L:=by
  rw[D4];obtain⟨i1,i2⟩:=tR (fs:=L) (k:=k) ((yt t cs s).flatMap λc=>(yp L c.head c.body c.body []).map λr=>(c.head.pred,r,k)) [] (λg B=>by
   obtain⟨c,_,B⟩:=uP.1 B;obtain⟨r,_,rfl⟩:=zE.1 B;rfl) (λg B=>by cases B) List.nodup_nil (λg B=>by cases B)
  refine⟨i1,λf=>(i2 f).trans ?_⟩;simp only[lY,false_or];refine and_congr_left λ_=>?_;rw[uP];constructor;rintro⟨c,n,F⟩;obtain⟨H,G⟩:=xj.1 n;obtain⟨r,Q,rfl⟩:=zE.1 F;have G:=of_decide_eq_true G;exact⟨c,H,G.1,G.2,r,(Gs (h.fs o) H (o.ne H) (o.cov c H)).1 Q,rfl⟩;rintro⟨c,n,H,G,r,Q,rfl⟩;exact⟨c,xj.2 ⟨n,decide_eq_true ⟨H,G⟩⟩,zE.2 ⟨r,(Gs (h.fs o) n (o.ne n) (o.cov c n)).2 Q,rfl⟩⟩
 generalize xM L k (yt t cs s) []=l at *;have q:∀p r,qU N D p r->∃c∈cs,xH t c.head.pred=s/\0<c.body.length/\p=zF t c.head.pred/\ri L c (zX (zo cs) r (yo t p) 3)/\vj t p=c.head.pred/\p<t.length/\RK (yo t p) r/\∀i,i<yo t p->r.getD i 0<(zo cs).length:=by
  intro p r j;obtain⟨c,n,C,P,rfl,T⟩:=(O p r).1 j;obtain⟨V,I,X,l4⟩:=o.lit c n c.head (by simp[zm]);obtain⟨d1,d2,d3⟩:=h.der1 o n T;exact⟨c,n,P,C,rfl,by rw[I];exact d1,X,V,by rw[I];exact d2,by rw[I];exact d3⟩
 have A:∀p r,D p r=none->qU N D p r->(vj t p,zX (zo cs) r (yo t p) 3,k)∈l:=by
  intro p r d j;obtain⟨c,n,P,C,aa,T,U,u,S,K⟩:=q p r j;refine(n2 _).2 ⟨⟨c,n,P,C,_,T,by rw[U]⟩,fun⟨m,hm⟩=>?_⟩;obtain⟨p',W,M,m',R,e⟩:=(h.mem _).1 hm;simp only[yc] at e;have:p=p':=by rw[←(fo o.rise u).1,←(fo o.rise W).1,e.1]
  subst this;have hI:RB D p M:=by unfold RB;rw[R];rfl
  have e1:=lG J (o.small p u) S K;have Y:=lG J (o.small p u) (h.ok p M hI).2 (h.inside p M hI);rw[e.2.1] at e1;change ld (zo cs) (zX (zo cs) M (yo t p) 3) 0 [0,0,0]=some M at Y;rw[e1,zr] at Y;rw[Y,R] at d;cases d
 have y:∀f∈l,∃p,p<t.length/\∃r,D p r=none/\qU N D p r/\f=(vj t p,zX (zo cs) r (yo t p) 3,k):=by
  intro f F;obtain⟨⟨c,n,P,C,x,T,rfl⟩,Z⟩:=(n2 f).1 F;obtain⟨r,Q,rfl⟩:=h.der2 o n T;have hh:c.head∈zm c:=by simp[zm]
  obtain⟨V,I,X,l4⟩:=o.lit c n c.head hh;refine⟨zF t c.head.pred,V,r,?_,(O _ r).2 ⟨c,n,C,P,rfl,Q⟩,by rw[I,X]⟩;rcases d:D (zF t c.head.pred) r with _|m;rfl;exact z9 ⟨m,(h.lit o n hh _ m).2 ⟨r,d,rfl⟩⟩ Z
 have E:∀p r,RB (zx4 N k D) p r->RB D p r∨(D p r=none/\qU N D p r):=by
  intro p r j;unfold RB zx4 at j;rcases d:D p r with _|m;rw[d] at j;simp only at j;split at j;rename_i z;exact ze ⟨rfl,z⟩;cases j;exact zh (by unfold RB;rw[d];rfl)
 refine⟨⟨λf=>?_,pz.2 ⟨h.once,n1,λa ha b C e=>?_⟩,λp r j=>?_,λp r j=>?_⟩,λe p r j=>?_,λe=>?_⟩;rw[zW];constructor;rintro(F|F);obtain⟨p,w,r,m,d,rfl⟩:=(h.mem f).1 F;exact⟨p,w,r,m,Ks d,rfl⟩;obtain⟨p,w,r,d,j,rfl⟩:=y f F;refine⟨p,w,r,k,?_,rfl⟩;unfold zx4;rw[d];exact zb j;rintro⟨p,w,r,m,d,rfl⟩;unfold zx4 at d;rcases v:D p r with _|m';rw[v] at d;simp only at d;split at d;rename_i z;cases d;exact ze (A p r v z);cases d;rw[v] at d;cases d;exact zh ((h.mem _).2 ⟨p,w,r,m,v,rfl⟩);subst e;exact((n2 a).1 C).2 ⟨a.2.2,ha⟩;rcases E p r j with z|⟨_,z⟩;exact h.ok p r z;obtain⟨c,_,_,_,_,_,_,q1,q2,_⟩:=q p r z;exact⟨by simpa using q1,q2⟩;rcases E p r j with z|⟨_,z⟩;exact h.inside p r z;obtain⟨c,_,_,_,_,_,_,q1,q2,q3⟩:=q p r z;exact q3;rcases E p r j with z|⟨z1,z2⟩;exact z;have:=A p r z1 z2;rw[e] at this;cases this;rcases l with _|⟨f,l⟩;rfl;obtain⟨p,_,r,d,j,_⟩:=y f (by simp);have:=e p r (BS p r j);unfold RB at this;rw[d] at this;cases this
def Sq.card(s:ul cs t){D:DB}(h:Sq t (zo cs) L D):fE D L.length:=by
 have o:=(dR cs).1;have d:=λp r (i:RB D p r)=>lG o (s.small p (by have:=(h.ok p r i).1;simpa using this)) (h.ok p r i).2 (h.inside p r i);have c:∀f∈L,∃p r m,D p r=some m/\f=(vj t p,zX (zo cs) r (yo t p) 3,m)/\(zF t f.1,(ld (zo cs) f.2.1 0 [0,0,0]).getD [])=(p,r):=by
  intro f u;obtain⟨p,n,r,m,k,rfl⟩:=(h.mem f).1 u;exact⟨p,r,m,k,rfl,by rw[(fo s.rise n).1,d p r (by unfold RB;rw[k];rfl)];rfl⟩
 refine⟨L.map λf=>(zF t f.1,(ld (zo cs) f.2.1 0 [0,0,0]).getD []),?_,λp x=>?_,by simp⟩;rw[pe,mP];have:=h.once;rw[pe] at this;refine this.imp_of_mem fun{a b} v z q e=>q ?_;obtain⟨p,r,m,k,E,A⟩:=c a v;obtain⟨y,w,C,j,l,g⟩:=c b z;rw[A,g] at e;cases e;rw[j] at k;cases k;rw[E,l];rw[zE];constructor;rintro⟨f,u,e⟩;obtain⟨y,w,C,j,l,g⟩:=c f u;rw[g] at e;cases e;unfold RB;rw[j];rfl;intro i;obtain⟨m,B⟩:=hX.1 i;have n:p<t.length:=by have:=(h.ok p x i).1;simpa using this
 refine⟨_,(h.mem _).2 ⟨p,n,x,m,B,rfl⟩,?_⟩;rw[(fo s.rise n).1,d p x i];rfl
def Sq.small(a:ul cs t){D:DB}(h:Sq t (zo cs) L D)(mr:Nat):l9 D mr↔L.length<=mr:=
 ⟨fun⟨n,b,c⟩=>by rw[←eP c (h.card a)];exact b,λq=>⟨_,q,h.card a⟩⟩
end
section
open Classical
variable {t:List zg}{cs:List zd}
noncomputable def z0g(t:List zg)(cs:List zd)(mr s:Nat):Nat->Nat->List zC->Option (List zC×Nat)
 |0,_,_=>none
 |left+1,k,L=>
  if (L++xM L (k+1) (yt t cs s) []).length<=mr then
   if xM L (k+1) (yt t cs s) []=[] then some (L++xM L (k+1) (yt t cs s) [],k+1)
   else z0g t cs mr s left (k+1) (L++xM L (k+1) (yt t cs s) [])
  else none
noncomputable def zyk(t:List zg)(cs:List zd)(mr mx:Nat):Nat->Nat->Nat->List zC->Option (List zC×Nat)
 |0,_,k,L=>some (L,k)
 |n+1,s,k,L=>
  if yt t cs s=[] then zyk t cs mr mx n (s+1) k L
  else match z0g t cs mr s (mx-k) k L with
   |none=>none
   |some (L',k')=>zyk t cs mr mx n (s+1) k' L'
def xP(cs:List zd):List zC:=((cs.filter λc=>decide (c.body.length=0)).map λc=>(c.head.pred,c.head.args,0)).foldl (ug []) []
noncomputable def ymk(t:List zg)(cs:List zd)(mr mx:Nat):Option (List zC×Nat):=if (xP cs).length<=mr then zyk t cs mr mx t.length 0 0 (xP cs) else none
def ig(t:List zg)(ns:κ):Option (List zC×Nat)->Option (DB×Nat)->Prop
 |none,none=>True
 |some (L,k),some (D,e)=>k=e/\Sq t ns L D
 |_,_=>False
def Df{cs:List zd}{f t:List zg}(e:RI cs f t)(a:ul cs t)(mr s:Nat):∀(left k:Nat) (L:List zC) (D:DB),Sq t (zo cs) L D->ig t (zo cs) (z0g t cs mr s left k L) (zxo ((uC t (zo cs) none cs).filter λr=>decide (r.qh=s)) mr left k D)
 |0,k,L,D,h=>trivial
 |left+1,k,L,D,h=>by
  obtain⟨b,d⟩:=h.round e a s (k+1);have c:=b.small a mr;unfold z0g zxo;by_cases q:(L++xM L (k+1) (yt t cs s) []).length<=mr
  .rw[zb q,zb (c.2 q)];by_cases z:xM L (k+1) (yt t cs s) []=[]
   .rw[zb z,zb (d.1 z)];exact⟨rfl,b⟩
   .rw[za z,za λy=>z (d.2 y)];exact Df e a mr s left (k+1) _ _ b
  .rw[za q,za λy=>q (c.1 y)];trivial
def DP{s:Nat}:yt t cs s=[]↔¬∃c∈cs,0<c.body.length/\xH t c.head.pred=s:=by
 unfold yt;rw[ed];exact⟨λh ⟨c,a,d,b⟩=>h c a (decide_eq_true ⟨b,d⟩),λh c a q=>h ⟨c,a,(of_decide_eq_true q).2,(of_decide_eq_true q).1⟩⟩
def eH{cs:List zd}{g t:List zg}(e:RI cs g t)(c:ul cs t)(mr mx:Nat):∀(n s k:Nat) (L:List zC) (D:DB),Sq t (zo cs) L D->ig t (zo cs) (zyk t cs mr mx n s k L) (zxr (uC t (zo cs) none cs) mr mx n s k D)
 |0,s,k,L,D,h=>⟨rfl,h⟩
 |n+1,s,k,L,D,h=>by
  unfold zyk zxr;by_cases q:yt t cs s=[]
  .rw[zb q,zb ((Cu cs s).2 (DP.1 q))];exact eH e c mr mx n (s+1) k L D h
  .rw[za q,za λz=>q (DP.2 ((Cu cs s).1 z))];have a:=Df e c mr s (mx-k) k L D h;cases d:z0g t cs mr s (mx-k) k L with
   |none=>
    cases b:zxo ((uC t (zo cs) none cs).filter λr=>decide (r.qh=s)) mr (mx-k) k D with
    |none=>trivial
    |some y=>rw[d,b] at a;exact a.elim
   |some x=>
    cases b:zxo ((uC t (zo cs) none cs).filter λr=>decide (r.qh=s)) mr (mx-k) k D with
    |none=>rw[d,b] at a;exact a.elim
    |some y=>
     rw[d,b] at a;obtain⟨f,i⟩:=x;obtain⟨j,l⟩:=y;obtain⟨rfl,a⟩:=a;exact eH e c mr mx n (s+1) i f j a
def td(g:ul cs t){c:zd}(f:c∈cs)(o:c.body.length=0):zX (zo cs) (vO t (zo cs) c).row c.head.args.length 3=c.head.args/\RK c.head.args.length (vO t (zo cs) c).row/\∀i,i<c.head.args.length->(vO t (zo cs) c).row.getD i 0<(zo cs).length:=by
 have b:c.head∈zm c:=by simp[zm]
 have m:∀k,([0,0,0,0,0]:List Nat).getD k 0<5:=by
  intro k;rcases k with _|_|_|_|_|k<;>simp
 have h:=nf.1 o;have e:∀v,v∉zx c:=by
  intro v d;rw[gY,h] at d;obtain⟨_,l,n,_⟩:=d;cases n
 unfold vO;rw[rF t (zo cs) [] m];refine⟨?_,g.can f (λv d=>z9 d (e v)) c.head b⟩;rw[t7 f b (g.lit c f c.head b).2.2.2];unfold Sa;conv=>rhs;rw[←List.map_id c.head.args]
 refine kU λa j=>?_;rw[za λd=>e a (g.cov c f c.head b a j d)];rfl
def DM(d:ul cs t):Sq t (zo cs) (xP cs) (zy3 (vo t (zo cs) cs)):=by
 have s:∀p x,zy3 (vo t (zo cs) cs) p x=if ∃c∈cs,c.body.length=0/\p=zF t c.head.pred/\(vO t (zo cs) c).row=x then some 0 else none:=by
  intro p x;unfold zy3;congr 1;apply propext;unfold vo;simp only[zE,xj];constructor;rintro⟨f,⟨c,⟨a,b⟩,rfl⟩,v,u⟩;exact⟨c,a,by simpa using b,v.symm,u⟩;rintro⟨c,a,b,v,u⟩;exact⟨_,⟨c,⟨a,by simp[b]⟩,rfl⟩,v.symm,u⟩
 have j:∀p x,RB (zy3 (vo t (zo cs) cs)) p x->∃c∈cs,c.body.length=0/\p=zF t c.head.pred/\(vO t (zo cs) c).row=x:=by
  intro p x h;unfold RB at h;rw[s] at h;split at h;assumption
  cases h
 obtain⟨z,A⟩:=tR (fs:=[]) (k:=0) ((cs.filter λc:zd=>decide (c.body.length=0)).map λc:zd=>((c.head.pred,c.head.args,0):zC)) [] (λg n=>by
  obtain⟨c,_,rfl⟩:=zE.1 n;rfl) (λg n=>by cases n) List.nodup_nil (λg n=>by cases n)
 refine⟨λf=>(A f).trans ?_,z,λp x h=>?_,λp x h=>?_⟩;simp only[lY,false_or,exists_false,not_false_eq_true,and_true,zE,xj,decide_eq_true_eq];constructor;rintro⟨c,⟨a,b⟩,rfl⟩;obtain⟨l,e,o,q⟩:=d.lit c a c.head (by simp[zm]);exact⟨_,l,(vO t (zo cs) c).row,0,by rw[s];exact zb ⟨c,a,b,rfl,rfl⟩,by rw[e,o,(td d a b).1]⟩;rintro⟨p,B,r,m,w,rfl⟩;have y:RB (zy3 (vo t (zo cs) cs)) p r:=by unfold RB;rw[w];rfl
 obtain⟨c,a,b,rfl,rfl⟩:=j p r y;rw[s,zb ⟨c,a,b,rfl,rfl⟩] at w;cases w;obtain⟨l,e,o,q⟩:=d.lit c a c.head (by simp[zm]);exact⟨c,⟨a,b⟩,by rw[e,o,(td d a b).1]⟩;obtain⟨c,a,b,rfl,rfl⟩:=j p x h;obtain⟨l,e,o,q⟩:=d.lit c a c.head (by simp[zm]);refine⟨by simpa using l,?_⟩;change RK (yo t _) _;rw[e];exact(td d a b).2.1;obtain⟨c,a,b,rfl,rfl⟩:=j p x h;obtain⟨l,e,o,q⟩:=d.lit c a c.head (by simp[zm]);change ∀i,i<yo t _->_;rw[e];exact(td d a b).2.2
def Gv{d:List zg}(f:RI cs d t)(b:ul cs t)(mr mx:Nat):ig t (zo cs) (ymk t cs mr mx) (zzm (uQ t (zo cs) none cs) mr mx):=by
 have h:=DM b;have c:=h.small b mr;unfold ymk zzm;have e:(uQ t (zo cs) none cs).qj.length=t.length:=by simp[uQ]
 rw[e];by_cases q:(xP cs).length<=mr;rw[zb q];have a:l9 (zy3 (uQ t (zo cs) none cs).facts) mr:=c.2 q;rw[zb a];exact eH f b mr mx _ 0 0 _ _ h;rw[za q];have a:¬l9 (zy3 (uQ t (zo cs) none cs).facts) mr:=λy=>q (c.1 y);rw[za a];trivial
end
section
open Classical
variable {cs:List zd}{t:List zg}
def oP{α β:Type}(f:α->List β)(m:Nat):∀(l:List α),(∀x∈l,(f x).length=m)->(l.flatMap f).length=l.length*m
 |[],_=>by simp
 |a::l,h=>by
  rw[uA,yC,oP f m l (λx b=>h x (by simp[b])),h a (by simp),xr,Nat.succ_mul];omega
def mI{α:Type}(ns:List α):Nat->List (List α)
 |0=>[[]]
 |k+1=>ns.flatMap λx=>(mI ns k).map (x::·)
def iA{α:Type}(ns:List α):∀k,(mI ns k).length=ns.length ^ k
 |0=>rfl
 |k+1=>by
  unfold mI;rw[oP _ (ns.length ^ k) ns (λx _=>by rw[xY];exact iA ns k),Nat.pow_succ,Nat.mul_comm]
def im{α:Type}{ns:List α}:∀(l:List α),(∀x∈l,x∈ns)->l∈mI ns l.length
 |[],_=>by simp[mI]
 |x::l,h=>by
  rw[xr];unfold mI;exact uP.2 ⟨x,h x (by simp),zE.2 ⟨l,im l (λy a=>h y (by simp[a])),rfl⟩⟩
def K6(a:ul cs t){L:List zC}{D:DB}(h:Sq t (zo cs) L D):L.length<=t.length*((zo cs).length+1) ^ 3:=by
 obtain⟨l,m,o,k⟩:=h.card a;rw[←k];have j:(((List.range t.length).flatMap λp=>(mI (List.range ((zo cs).length+1)) 3).map λr=>(p,r))).length=t.length*((zo cs).length+1) ^ 3:=by
  rw[oP _ (((zo cs).length+1) ^ 3) _ (λx _=>by rw[xY,iA,rY]),rY]
 rw[←j];refine nU m λx b=>?_;obtain⟨p,r⟩:=x;have c:=(o p r).1 b;obtain⟨n,d⟩:=h.ok p r c;have g:=h.inside p r c;refine uP.2 ⟨p,kx.2 (by simpa using n),zE.2 ⟨r,?_,rfl⟩⟩;have:=im (ns:=List.range ((zo cs).length+1)) r (λx a=>?_);rw[d.1] at this;exact this;obtain⟨i,e,rfl⟩:=qE.1 a;rw[kx];by_cases f:i<(t.map (·.ji)).getD p 0;have:=g i f;rw[List.getD,yi e,uL] at this;omega;have:=d.2 i (by omega);rw[List.getD,yi e,uL] at this;omega
def vY(fs:List zC):List zk->y9->List y9
 |[],B=>[B]
 |l::rest,B=>if l.neg=true then vY fs rest B else fs.flatMap λf=>if f.1=l.pred then(match xy B l.args f.2.1 with|none=>[]|some a=>vY fs rest a) else []
def oA(fs:List zC)(h:zk)(body:List zk):∀(rest:List zk) (B:y9),(yp fs h body rest B).length<=(vY fs rest B).length
 |[],B=>by
  unfold yp vY;split<;>simp
 |l::rest,B=>by
  unfold yp vY;split
  .exact oA fs h body rest B
  .have:∀a:List zC,(a.flatMap λf=>if f.1=l.pred then(match xy B l.args f.2.1 with|none=>[]|some b=>yp fs h body rest b) else []).length<=(a.flatMap λf=>if f.1=l.pred then(match xy B l.args f.2.1 with|none=>[]|some b=>vY fs rest b) else []).length:=by
    intro a;induction a with
    |nil=>simp
    |cons g a c=>
     rw[uA,uA,yC,yC];refine Nat.add_le_add ?_ c;split
     .split
      .exact zf _
      .exact oA fs h body rest _
     .exact zf _
   exact this fs
def dG(body:List zk)(B:y9):List (κ):=body.map λl=>if l.neg=true then [] else yD B l.args
def Ax{cs:List zd}{fs:List zC}(J:rP cs fs){c:zd}(Y:c∈cs)(D:∀l∈zm c,∀a∈l.args,a≠ByteArray.empty)(ho:∀f∈fs,∀g∈fs,f.1=g.1->f.2.1=g.2.1->f=g)(S:fs.Nodup):∀(rest done:List zk) (B:y9),c.body=done++rest->qn B->(∀l∈done,l.neg=false->∀a∈l.args,ym B a≠ByteArray.empty)->(∀k∈vY fs rest B,qn k/\Tu B k/\∀l∈rest,l.neg=false->(∃m,(l.pred,yD k l.args,m)∈fs)/\∀a∈l.args,ym k a≠ByteArray.empty)/\((vY fs rest B).map (dG rest)).Nodup
 |[],done,B,e,O,Q=>by
  unfold vY;refine⟨λk d=>?_,by simp⟩;rw[xC.1 d];exact⟨O,λv x q=>q,λl hl=>by cases hl⟩
 |l::rest,done,B,e,O,Q=>by
  have e2:c.body=(done++[l])++rest:=by rw[e];simp
  have I:l∈zm c:=by simp[zm,e]
  unfold vY;split
  .rename_i i;obtain⟨N,P⟩:=Ax J Y D ho S rest (done++[l]) B e2 O (λu r j=>by
    rcases zW.1 r with q|q
    .exact Q u q j
    .rw[xC.1 q,i] at j;cases j)
   refine⟨λk d=>⟨(N k d).1,(N k d).2.1,λu r j=>?_⟩,?_⟩
   .rcases zy.1 r with rfl|q
    .rw[i] at j;cases j
    .exact(N k d).2.2 u q j
   .have:(vY fs rest B).map (dG (l::rest))=((vY fs rest B).map (dG rest)).map ([]::·):=by
     rw[mT];refine kU λk _=>?_;simp[dG,i]
    rw[this,pe,mP];rw[pe] at P;exact P.imp λh q=>h (by simpa using q)
  .rename_i i;have i:l.neg=false:=by simpa using i
   have n:∀f∈fs,f.1=l.pred->∀o,xy B l.args f.2.1=some o->(∀k∈vY fs rest o,qn k/\Tu B k/\yD k l.args=f.2.1/\(∀a∈l.args,ym k a≠ByteArray.empty)/\∀u∈rest,u.neg=false->(∃m,(u.pred,yD k u.args,m)∈fs)/\∀a∈u.args,ym k a≠ByteArray.empty)/\((vY fs rest o).map (dG rest)).Nodup:=by
    intro f w z o E;obtain⟨j1,j2,j3⟩:=pQ l.args f.2.1 B o (J.ji f w c Y l I z.symm).symm (J.ne f w) (D l I) O E;have y:∀a∈l.args,ym o a≠ByteArray.empty:=λa s=>by
     have:ym o a∈yD o l.args:=zE.2 ⟨a,s,rfl⟩;rw[j3] at this;exact J.ne f w _ this
    obtain⟨N,P⟩:=Ax J Y D ho S rest (done++[l]) o e2 j1 (λu r j a s=>by
     rcases zW.1 r with q|q
     .rw[n7 j2 (Q u q j a s)];exact Q u q j a s
     .rw[xC.1 q] at s;exact y a s)
    refine⟨λk d=>?_,P⟩;obtain⟨V,M,T⟩:=N k d;exact⟨V,j2.trans M,by rw[←j3];exact kU λa s=>n7 M (y a s),λa s=>by rw[n7 M (y a s)];exact y a s,T⟩
   refine⟨λk d=>?_,?_⟩
   .obtain⟨f,w,d⟩:=uP.1 d;split at d
    .rename_i z;split at d
     .cases d
     .rename_i o E;obtain⟨V,M,T,k4,k5⟩:=(n f w z o E).1 k d;refine⟨V,M,λu r j=>?_⟩;rcases zy.1 r with rfl|q
      .exact⟨⟨f.2.2,by rw[T,←z];exact w⟩,k4⟩
      .exact k5 u q j
    .cases d
   .have R:∀G:List zC,G.Nodup->(∀g∈G,g∈fs)->((G.flatMap λf=>if f.1=l.pred then(match xy B l.args f.2.1 with|none=>[]|some k=>vY fs rest k) else []).map (dG (l::rest))).Nodup:=by
     intro G;induction G with
     |nil=>intro _ _;simp
     |cons g G ih=>
      intro W C;obtain⟨U,Z⟩:=jN.1 W;rw[uA,vg,pz];have F:=C g (by simp);refine⟨?_,ih Z (λx hx=>C x (by simp[hx])),?_⟩
      .split
       .rename_i z;split
        .simp
        .rename_i o E;obtain⟨s1,s2⟩:=n g F z o E;have:(vY fs rest o).map (dG (l::rest))=((vY fs rest o).map (dG rest)).map (g.2.1::·):=by
          rw[mT];refine kU λk d=>?_;simp[dG,i,(s1 k d).2.2.1]
         rw[this,pe,mP];rw[pe] at s2;exact s2.imp λh q=>h (by simpa using q)
       .simp
      .intro a s b hb K;obtain⟨A,H,rfl⟩:=zE.1 s;obtain⟨A2,p,rfl⟩:=zE.1 hb;obtain⟨f,w,p⟩:=uP.1 p;split at H
       .rename_i z;split at H
        .cases H
        .rename_i o E;split at p
         .rename_i L;split at p
          .cases p
          .rename_i B2 aa;have r1:=((n g F z o E).1 A H).2.2.1;have r2:=((n f (C f (by simp[w])) L B2 aa).1 A2 p).2.2.1;have:yD A l.args=yD A2 l.args:=by
            simp only[dG,xZ,i,lP] at K;simpa using K.1
           have X:=ho g F f (C f (by simp[w])) (z.trans L.symm) (by rw[←r1,←r2,this]);exact U (X ▸ w)
         .cases p
       .cases H
    exact R fs S (λg R=>R)
def O6(d:ul cs t){L:List zC}{D:DB}(h:Sq t (zo cs) L D){c:zd}(A:c∈cs):(yp L c.head c.body c.body []).length<=(zo cs).length ^ (zx c).length:=by
 refine zZ (oA L c.head c.body c.body []) ?_;have ho:∀f∈L,∀g∈L,f.1=g.1->f.2.1=g.2.1->f=g:=by
  intro f hf g Y V U;obtain⟨p,P,r,m,s,rfl⟩:=(h.mem f).1 hf;obtain⟨p',H,u,m',z,rfl⟩:=(h.mem g).1 Y;simp only at V U;have:p=p':=by rw[←(fo d.rise P).1,←(fo d.rise H).1,V]
  subst this;have W:RB D p r:=by unfold RB;rw[s];rfl
  have X:RB D p u:=by unfold RB;rw[z];rfl
  have E:=lG (dR cs).1 (d.small p P) (h.ok p r W).2 (h.inside p r W);have C:=lG (dR cs).1 (d.small p P) (h.ok p u X).2 (h.inside p u X);change ld (zo cs) (zX (zo cs) r (yo t p) 3) 0 [0,0,0]=some r at E;change ld (zo cs) (zX (zo cs) u (yo t p) 3) 0 [0,0,0]=some u at C;rw[U,C,zr] at E;subst E;rw[z] at s;cases s;rfl
 obtain⟨h1,S⟩:=Ax (h.fs d) A (d.ne A) ho h.once c.body [] [] rfl (λv x q=>by cases q) (λl n=>by cases n);have w:∀B∈vY L c.body [],∀v∈zx c,ym B v∈zo cs:=by
  intro B J v k;obtain⟨T,l,n,K,R⟩:=gY.1 k;obtain⟨⟨m,Q⟩,_⟩:=(h1 B J).2.2 l n K;have j:l∈zm c:=by simp[zm,n]
  obtain⟨r,s,Z⟩:=(h.lit d A j _ m).1 Q;obtain⟨E,C⟩:=h.can d A j (r:=r) (by unfold RB;rw[s];rfl);have:ym B v∈yD B l.args:=zE.2 ⟨v,R,rfl⟩;rw[Z] at this;simp only[zX,zE,kx] at this;obtain⟨i,hi,e⟩:=this;have h3:=(d.lit c A l j).2.2.2;rw[zb (by omega)] at e;rw[←e];exact eR (C i hi)
 have o:∀N∈vY L c.body [],∀I∈vY L c.body [],(zx c).map (ym N)=(zx c).map (ym I)->dG c.body N=dG c.body I:=by
  intro N _ I _ e;refine kU λl n=>?_;split;rfl;rename_i K;refine kU λa F=>?_;by_cases k:zQ a=true;have Q:=gY.2 ⟨k,l,n,by simpa using K,F⟩;exact List.map_inj_left.1 e a Q;unfold ym;rw[za k,za k]
 have O:((vY L c.body []).map λB=>(zx c).map (ym B)).Nodup:=by
  rw[pe,mP] at S ⊢;exact S.imp_of_mem fun{a b} F hb M e=>M (o a F b hb e)
 have:=nU O (l2:=mI (zo cs) (zx c).length) (λx G=>by
  obtain⟨B,J,rfl⟩:=zE.1 G;have:=im (ns:=zo cs) ((zx c).map (ym B)) (λy hy=>by
   obtain⟨v,k,rfl⟩:=zE.1 hy;exact w B J v k)
  rw[xY] at this;exact this)
 rw[xY,iA] at this;exact this
def JJ{j:List zg}(m:RI cs j t)(a:ul cs t)(e:t.length<=1000)(f:(zo cs).length<=250):∀L D,Sq t (zo cs) L D->L.length<1000000000000/\∀c∈cs,(yp L c.head c.body c.body []).length<=1000000000000:=by
 intro L D h;refine⟨?_,λc d=>?_⟩;have l:=K6 a h;have b:((zo cs).length+1) ^ 3<=251 ^ 3:=Nat.pow_le_pow_left (by omega) 3;have k:=Nat.mul_le_mul e b;have i:(1000*251 ^ 3:Nat)=15813251000:=by decide
 omega;have l:=O6 a h d;have g:=dA (m.many c d);have b:(zo cs).length ^ (zx c).length<=250 ^ (zx c).length:=Nat.pow_le_pow_left f _;have k:250 ^ (zx c).length<=250 ^ 5:=Nat.pow_le_pow_right (by omega) g;have i:(250 ^ 5:Nat)=976562500000:=by decide
 omega
def Mm{s:ByteArray}(h:ur s=.ok (cs,t)):(zo cs).length<=250:=by
 obtain⟨b,a⟩:=CZ h;have d:=Bf h;have e:=oY cs a.many;have c:=Fx cs;omega
end
section
open Go.RowKit
def Jd{s:ByteArray}{cs:List zd}{t:List zg}(h:ur s=.ok (cs,t)):∀c∈cs,nO c:=by
 unfold ur at h;split at h;cases h;split at h;cases h;rename_i l e;split at h;cases h;rename_i d b;have f:=E9 _ b (Qz e);have a:d=cs:=by
  repeat'(split at h)
  all_goals first|(cases h;done)|(simp only[Except.ok.injEq,yc] at h;exact h.1)
 subst a;exact f
def ni.sz{x:ByteArray}(h:ni (bl x)):0<x.size/\x.size<=6:=by
 have d:=h.ne;have b:=h.six;have e:(bl x).length=x.size:=rfl;rcases c:bl x with _|⟨a,r⟩;exact z9 c d;rw[c] at e b;simp only[xr] at e b;omega
def mO.fine{l:zk}(h:mO l)(b:l.args.length<=3):C8 l:=
 ⟨h.1.1.sz.2,h.1.1.sz.1,by omega,λx a=>h.2 x a |>.sz⟩
def nO.fine{c:zd}(h:nO c)(b:yM c=false):eG c:=by
 unfold yM at b;simp only[n8,decide_eq_false_iff_not] at b;obtain⟨⟨⟨e,f⟩,d⟩,_⟩:=b;refine⟨λl a=>?_,by omega⟩;rcases zy.1 a with rfl|a;exact h.2.1.fine (by omega);have:=List.any_eq_false.1 d l a;simp only[decide_eq_true_eq] at this;exact(h.2.2 l a).fine (by omega)
end
section
open Go.Proofs.Tryz Go.RowKit
def Jb{lo B:Nat}(w:World)(G vb:Value)(a b:κ)(z:R7 lo w G a)(A:R7 B w vb b)(P:b.length=a.length)(Y:a.length<=1000000):
  Calls prog 81 #[G,vb] w λe O=>e=ε (.bool (yN a b))/\μ w O:=by
 obtain⟨X,R,rfl⟩:=z.qy;obtain⟨Q,H,rfl⟩:=A.qy;have T:=Ry z;have L:=Ry A;have S:Hid (yN a b=yN (a.drop 0) (b.drop 0)):=show yN a b=_ from rfl
 clear z A;generalize yN a b=r at *;go_enter func81,ntmps81;go_wp2;go_loopw [5] (λi wr=>∃k:Nat,k<=a.length/\i=ι k/\Hid (r=yN (a.drop k) (b.drop k))/\μ w wr) (λi _=>a.length-(intOf i).toNat);exact⟨0,zv _,rfl,S,zp _ _⟩;obtain⟨k,V,rfl,D,c⟩:=hrel;have I:=c.size;by_cases m:k<a.length
 .have j:k<b.length:=by omega
  have q:=D.out;rw[Oi m j] at q;have u:=Ry q;clear q D;obtain⟨g,rfl,K,t⟩:=T.out.cell k m;obtain⟨M,rfl,E,l⟩:=L.out.cell k j;have p:=zl c K t;have f:=zl c E l;have s:g<wr.heap.size:=by omega
  have h:M<wr.heap.size:=by omega
  clear t l;by_cases n:a[k]=b[k]
  .have C:=jF n;have o:=Ry (show r=_ by rw[u.out,zb n]);clear n u;generalize a[k]=x at *;generalize b[k]=y at *;go_wp2;go_quiet (fail)
   go_wp2;go_roundw;exact⟨k+1,by omega,by go_num,o,zI c _⟩;simp[intOf];omega
  have C:=qb n;have o:=Ry (show r=_ by rw[u.out,za n]);clear n u;unfold RX at o;generalize a[k]=x at *;generalize b[k]=y at *;go_wp2;go_quiet (fail)
  have d:=lX wr nq;have U:=zl d s p;have J:=zl d h f;have N:=yE s d.size;have F:=yE h d.size;have v:μ w (wr.drewN nq):=zI c _;clear p f;generalize wr.drewN nq=W at *;go_wp2;go_quiet (fail)
  go_wp2;go_ret;exact⟨by rw[o.out];rfl,zI v _⟩
 have o:Hid (r=false):=show r=false by rw[D.out];exact Hd (λq=>m q.1)
 go_wp2;go_ret;exact⟨by rw[o.out];rfl,c⟩
end
def jy:List (κ)->Nat->List (κ)
 |l,0=>l
 |l,k+1=>if yN (l.getD (k+1) []) (l.getD k []) then jy ((l.set (k+1) (l.getD k [])).set k (l.getD (k+1) [])) k else l
def hY(L:List zC)(n:ByteArray):List (κ):=L.foldl (λa f=>if f.1=n then jy (a++[f.2.1]) a.length else a) []
def tr:∀(a b c:κ),yN a b=true->yN b c=true->yN a c=true
 |[],_,_,h,_=>by simp[yN] at h
 |_::_,[],_,h,_=>by simp[yN] at h
 |_::_,_::_,[],_,h=>by simp[yN] at h
 |a::x,b::y,c::z,e,d=>by
  simp only[yN] at e d ⊢;by_cases g:a=b
  .subst g;rw[zb rfl] at e;by_cases f:a=c
   .subst f;rw[zb rfl] at d ⊢;exact tr x y z e d
   .rw[za f] at d ⊢;exact d
  .rw[za g] at e;by_cases f:b=c
   .subst f;rw[za g];exact e
   .rw[za f] at d;have i:=lt_trans e d;rw[za]
    .exact i
    .rintro rfl;rw[RF] at i;cases i
def BO:∀(a b:κ),a.length=b.length->a≠b->yN a b=false->yN b a=true
 |[],[],_,h,_=>z9 rfl h
 |[],_::_,h,_,_=>by simp at h
 |_::_,[],h,_,_=>by simp at h
 |a::x,b::y,d,c,h=>by
  simp only[yN] at h ⊢;by_cases e:a=b
  .subst e;rw[zb rfl] at h ⊢;exact BO x y (by simpa using d) (λq=>c (by rw[q])) h
  .rw[za e] at h;rw[za (Ne.symm e)];cases f:RX b a with
   |true=>rfl
   |false=>exact z9 (sw h f) e
def FJ(x:κ):∀(n:Nat) (p s:List (κ)),p.length=n->p.Pairwise (λa b=>yN a b=true)->jy (p++x::s) p.length=p.filter (λy=>!yN x y)++x::(p.filter (yN x ·)++s)
 |0,p,s,f,_=>by
  obtain rfl:=pA f;simp[jy]
 |n+1,p,s,f,t=>by
  obtain⟨q,y,rfl⟩:∃q y,p=q++[y]:=⟨p.dropLast,p.getLast (by intro e;simp[e] at f),(Ar _).symm⟩;have l:q.length=n:=by simpa using f
  have c:=lH.1 t;have m:(q++[y]++x::s).getD (q.length+1) []=x:=by simp[List.getD_eq_getElem?_getD]
  have k:(q++[y]++x::s).getD q.length []=y:=by simp[List.getD_eq_getElem?_getD]
  rw[yC,List.length_singleton];simp only[jy];rw[m,k];by_cases d:yN x y=true
  .rw[zb d];have e:((q++[y]++x::s).set (q.length+1) y).set q.length x=q++x::(y::s):=by simp
   rw[e,FJ x n q (y::s) l c.1];simp[List.filter_append,d]
  .rw[za d];have i:yN x y=false:=by simpa using d
   have g:∀z∈q,yN x z=false:=λz g=>by
    cases j:yN x z with
    |false=>rfl
    |true=>exact z9 (tr _ _ _ j (c.2.2 z g y (by simp))) d
   have r:q.filter (λy=>!yN x y)=q:=List.filter_eq_self.2 λz h=>by simp[g z h]
   have o:q.filter (yN x ·)=[]:=ed.2 λz h=>by simp[g z h]
   simp[List.filter_append,r,o,i]
def Gw{p:List (κ)}{x:κ}(f:p.Pairwise (λa b=>yN a b=true))(k:∀y∈p,x.length=y.length)(j:x∉p):(jy (p++[x]) p.length).Pairwise (λa b=>yN a b=true)/\∀y,y∈jy (p++[x]) p.length↔y=x∨y∈p:=by
 rw[FJ x _ p [] rfl f];have i:∀y∈p,yN x y=false->yN y x=true:=λy c h=>BO x y (k y c) (λe=>j (e ▸ c)) h;refine⟨lH.2 ⟨f.filter _,fR.2 ⟨λy c=>?_,by simpa using f.filter _⟩,λy c z d=>?_⟩,λy=>?_⟩;simp at c;exact c.2;simp at c d;have g:=i y c.1 c.2;rcases d with rfl|d;exact g;exact tr _ _ _ g d.2;simp only[zW,zy,xj,vR,sC];constructor;rintro(h|h|h);exact ze h.1;exact zh h;exact ze h.1;rintro(h|h);exact ze (zh h);cases l:yN x y;exact zh ⟨h,rfl⟩;exact ze (ze ⟨h,rfl⟩)
def eO(n:ByteArray)(k:Nat):∀(L:List zC) (c:List (κ)),c.Pairwise (λa b=>yN a b=true)->(∀y∈c,y.length=k)->(∀f∈L,f.1=n->f.2.1.length=k/\f.2.1∉c)->L.Pairwise (λf g=>f.1=g.1->f.2.1≠g.2.1)->(L.foldl (λc f=>if f.1=n then jy (c++[f.2.1]) c.length else c) c).Pairwise (λa b=>yN a b=true)/\∀y,y∈L.foldl (λc f=>if f.1=n then jy (c++[f.2.1]) c.length else c) c↔y∈c∨∃f∈L,f.1=n/\f.2.1=y
 |[],c,r,_,_,_=>⟨r,λy=>by simp⟩
 |f::L,c,r,t,p,A=>by
  obtain⟨v,o⟩:=fR.1 A;rw[uu];by_cases i:f.1=n
  .rw[zb i];obtain⟨w,x⟩:=p f (by simp) i;obtain⟨z,m⟩:=Gw r (λy j=>by rw[w,t y j]) x;obtain⟨u,s⟩:=eO n k L _ z (λy j=>by
    rcases(m y).1 j with rfl|j
    .exact w
    .exact t y j) (λg d e=>⟨(p g (by simp[d]) e).1,λl=>by
    rcases(m _).1 l with l|l
    .exact v g d (by rw[i,e]) l.symm
    .exact(p g (by simp[d]) e).2 l⟩) o
   refine⟨u,λy=>(s y).trans ⟨λh=>?_,λh=>?_⟩⟩
   .rcases h with h|⟨g,d,e,q⟩
    .rcases(m y).1 h with rfl|h
     .exact ze ⟨f,by simp,i,rfl⟩
     .exact zh h
    .exact ze ⟨g,by simp[d],e,q⟩
   .rcases h with h|⟨g,d,e,q⟩
    .exact zh ((m y).2 (ze h))
    .rcases zy.1 d with rfl|d
     .exact zh ((m y).2 (zh q.symm))
     .exact ze ⟨g,d,e,q⟩
  .rw[za i];obtain⟨u,s⟩:=eO n k L c r t (λg d e=>p g (by simp[d]) e) o;refine⟨u,λy=>(s y).trans ⟨λh=>?_,λh=>?_⟩⟩
   .rcases h with h|⟨g,d,q⟩
    .exact zh h
    .exact ze ⟨g,by simp[d],q⟩
   .rcases h with h|⟨g,d,q⟩
    .exact zh h
    .rcases zy.1 d with rfl|d
     .exact z9 q.1 i
     .exact ze ⟨g,d,q⟩
def ML{L:List zC}{n:ByteArray}{k:Nat}(c:∀f∈L,f.1=n->f.2.1.length=k)(i:L.Pairwise (λf g=>f.1=g.1->f.2.1≠g.2.1)):(hY L n).Pairwise (λa b=>yN a b=true)/\∀y,y∈hY L n↔∃f∈L,f.1=n/\f.2.1=y:=by
 obtain⟨h,j⟩:=eO n k L [] List.Pairwise.nil (by simp) (λf d e=>⟨c f d e,by simp⟩) i;exact⟨h,λy=>by simpa [hY] using j y⟩
section
variable {t:List zg}
def CA{α:Type}{lt:α->α->Prop}(c:∀a b,lt a b->¬lt b a):∀{l m:List α},l.Pairwise lt->m.Pairwise lt->(∀x,x∈l↔x∈m)->l=m
 |[],[],_,_,_=>rfl
 |[],y::m,_,_,h=>by have:=(h y).2 (by simp);cases this
 |x::l,[],_,_,h=>by have:=(h x).1 (by simp);cases this
 |x::l,y::m,n,i,h=>by
  obtain⟨g,j⟩:=fR.1 n;obtain⟨f,k⟩:=fR.1 i;obtain rfl:x=y:=by
   rcases zy.1 ((h x).1 (by simp)) with q|q
   .exact q
   .rcases zy.1 ((h y).2 (by simp)) with e|e
    .exact e.symm
    .exact z9 (g y e) (c _ _ (f x q))
  rw[CA c j k λz=>⟨λd=>?_,λd=>?_⟩]
  .rcases zy.1 ((h z).1 (by simp[d])) with rfl|q
   .exact z9 (g z d) (λq=>c _ _ q q)
   .exact q
  .rcases zy.1 ((h z).2 (by simp[d])) with rfl|q
   .exact z9 (f z d) (λq=>c _ _ q q)
   .exact q
def LS{cs:List zd}{L:List zC}{R:zu}(d:Sk t (zo cs) R)(h:Sq t (zo cs) L (zxx (t.map (·.ji)) R)){p:Nat}(z:p<t.length):hY L (vj t p)=(jB R p).map λr=>zX (zo cs) r (yo t p) 3:=by
 have l:∀{q x:Nat},q<t.length->x<t.length->vj t q=vj t x->q=x:=fun{q x} a b e=>by
  have A:=(d.name a).2.1;rw[e,(d.name b).2.1] at A;exact A.symm
 have w:∀{q:Nat} {r s:zi} {m E:Nat},q<t.length->zxx (t.map (·.ji)) R q r=some m->zxx (t.map (·.ji)) R q s=some E->zX (zo cs) r (yo t q) 3=zX (zo cs) s (yo t q) 3->r=s:=fun{q r s m E} a b c e=>by
  have I:=s6 _ R q r (by unfold RB;rw[b];rfl);have P:=s6 _ R q s (by unfold RB;rw[c];rfl);have H:=d.inside q r (by unfold RB;rw[b];rfl);have Q:=d.inside q s (by unfold RB;rw[c];rfl);have A:=lG d.nrise (d.ar a).1 I.2 H;rw[e,lG d.nrise (d.ar a).1 P.2 Q] at A;exact(Option.some.inj A).symm
 obtain⟨K,T⟩:=ML (L:=L) (n:=vj t p) (k:=yo t p) (λf B e=>by
  obtain⟨q,o,r,m,u,rfl⟩:=(h.mem f).1 B;obtain rfl:=l o z e;exact gT _ _ _ _) (by
  refine h.once.imp_of_mem fun{f g} B J C e O=>C ?_;obtain⟨q,o,r,m,u,rfl⟩:=(h.mem f).1 B;obtain⟨x,F,s,E,v,rfl⟩:=(h.mem g).1 J;obtain rfl:=l o F e;obtain rfl:=w o u v O;rw[u] at v;cases v;rfl)
 refine CA (lt:=λa b=>yN a b=true) (λa b N M=>?_) K ?_ λy=>?_;have:=tr a b a N M;rw[Gi] at this;cases this;rw[nT];intro i j U G D;simp only[xY] at U G;simp only[xV];exact d.sorted z D G;rw[T,zE];constructor;rintro⟨f,B,e,rfl⟩;obtain⟨q,o,r,m,u,rfl⟩:=(h.mem f).1 B;obtain rfl:=l o z e;refine⟨r,?_,rfl⟩;have:=(pU d.inv d.small (by rw[d.len];exact o) r).2 (by unfold RB;rw[u];rfl);unfold jB;rw[R6 _ (by rw[d.len];exact o)];exact this;rintro⟨r,u,rfl⟩;have q:=(d.row z u).1;unfold RB at q;obtain⟨m,S⟩:=hX.1 q;exact⟨_,(h.mem _).2 ⟨p,z,r,m,S,rfl⟩,rfl,rfl⟩
def MP{cs:List zd}{L:List zC}{R:zu}(b:Sk t (zo cs) R)(h:Sq t (zo cs) L (zxx (t.map (·.ji)) R)){p:Nat}(g:p<t.length):∀f∈L,f.1=vj t p->f.2.1.length=yo t p:=λf d e=>by
 obtain⟨q,c,r,m,i,rfl⟩:=(h.mem f).1 d;have a:=(b.name c).2.1;rw[show vj t q=vj t p from e,(b.name g).2.1] at a;subst a;exact gT _ _ _ _
def NI{ns:κ}{R:zu}(j:Sk t ns R){a:ByteArray}(i:(zU t a).isSome=true):∃p,p<t.length/\zF t a=p/\vj t p=a:=by
 obtain⟨e,h⟩:=hX.1 i;obtain⟨c,f,g⟩:=jj h;obtain⟨_,d,b⟩:=j.name c;rw[f,g] at b;exact⟨_,c,by rw[b] at d;exact d,b⟩
end
end Go.Proofs.YteampbddflhngaaGreat
