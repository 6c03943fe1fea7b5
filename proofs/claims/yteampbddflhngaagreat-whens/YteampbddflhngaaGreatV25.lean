import Derived.Test.YteampbddflhngaaGreatV11
import Derived.Test.YteampbddflhngaaGreatV14
import Derived.Test.YteampbddflhngaaGreatV23
namespace Go.Proofs.YteampbddflhngaaGreat
set_option linter.all false
set_option maxRecDepth 100000
set_option maxHeartbeats 40000000
section
open Go.Proofs.Tryz Go.RowKit
variable {lo:Nat}
def tx(c:zc):Bool:=decide (6<c.body.length)||decide (5<(xU c).length)
def lH(l:zj):Bool:=decide (3<l.args.length)
def fJ(c:zc):Bool:=tx c||(zm c).any lH
def lI(c:zc):Bool:=(xU c).all fun v=>yt v (zy c)
def mu(cs:List zc)(c:zc):Bool:=(zm c).any (j7 cs)
def qZ(cs:List zc):Int:=if cs.any fJ then 4 else if cs.any (mu cs) then 5 else if cs.all lI then 0 else 6
theorem tr{α:Type}(l:List α)(p:α->Bool)(k:Nat)(a:k<l.length):(l.take (k+1)).any p=((l.take k).any p||p l[k]):=by rw[yM a,List.any_append];simp
theorem Dd{α:Type}(l:List α)(p:α->Bool)(k:Nat)(a:k<l.length):(l.take (k+1)).all p=((l.take k).all p&&p l[k]):=by rw[yM a,List.all_append];simp
theorem Cs(w:World)(pb:Nat)(cv v1 v2:Value)(cs:List zc)(hp:OZ w pb #[cv,v1,v2] 45)(N:PE lo 93 w cv cs)(H:∀c∈cs,vD c/\c.body.length<=999/\xi (zm c)<=1000/\∀l∈zm c,∀t∈l.args,0<t.size)(hl:cs.length<=1000):
  Calls prog 67 #[.pointer (some ⟨pb,0,none⟩)] w fun e w'=>e=.returned (.int .i64 (qZ cs))/\Below w.heap.size w w':=by
 obtain⟨ao,a0,rfl⟩:=N.qw;have V:=OY H;have al:=OY fun c hc=>(H c hc).1;clear H;go_enter func67,ntmps67;go_wp2;go_loopw [3,4,5,6] (fun v3 v4 v5 v6 wr=>∃(k:Nat) (m a s:Bool),k<=cs.length/\v6=.int .i64 k/\v3=.bool m/\v4=.bool a/\v5=.bool s/\Below w.heap.size w wr/\OZ wr pb #[.slice ao cs.length a0,v1,v2] 45/\Hid (m=(cs.take k).any fJ)/\Hid (a=(cs.take k).any (mu cs))/\Hid (s=(cs.take k).all lI)) (fun _ _ _ i _=>cs.length-(intOf i).toNat)
 case atStart=>exact⟨0,false,false,true,zv _,rfl,rfl,rfl,rfl,zo _ _,hp,rfl,rfl,rfl⟩
 case round=>
  obtain⟨k,m,a,s,hk,rfl,rfl,rfl,rfl,f,Z,HM,HA,HS⟩:=hrel;obtain⟨aP,aM⟩:=Z.rules;have a6:=f.size;by_cases n:k<cs.length
  ·obtain⟨g,aI,a5,aK,aF,rfl,L⟩:=N.at k n;obtain⟨⟨aT,aU⟩,aW,ae,ac⟩:=V.out _ (zu n);have aw:=OY (tr cs fJ k n);have ap:=OY (tr cs (mu cs) k n);have av:=OY (Dd cs lI k n);generalize cs[k]=c at *;have B:=OY ae;have X:=OY ac;have aS:(zy c).length<=1000:=by have:=tG c.body [];unfold zy;simp at this;omega
   have aO:(xU c).length<=1000:=by have h1:=DN c.body (xp [] c.head.args);have h2:=mA c.head.args [];unfold xU;simp at h2;omega
   have aQ:(zm c).length<=1000:=by simp[zm];omega
   clear ae ac;obtain⟨A,ah⟩:∃A,Hid (A=((cs.take k).any fJ||tx c)):=⟨_,rfl⟩;have HW:(m=true/\Hid (A=true))∨(m=false/\6<c.body.length/\Hid (A=true))∨(m=false/\¬6<c.body.length/\5<(xU c).length/\Hid (A=true))∨(m=false/\¬6<c.body.length/\¬5<(xU c).length/\Hid (A=false)):=by
    simp only[Hid,ah.out,←HM.out,tx];cases m<;>by_cases h6:6<c.body.length<;>by_cases h5:5<(xU c).length<;>simp[h6,h5]
   rcases HW with⟨rfl,x⟩|⟨rfl,h6,x⟩|⟨rfl,h6,h5,x⟩|⟨rfl,h6,h5,x⟩
   all_goals
    go_wp2_with (first|(go_at_call 108;have O:=Q;refine(A6 _ true g (k*4) c _ _ _ _ (by exact L.below O) (by omega) B.out X.out).mono ?_;rintro e w2 ⟨aJ,rfl,E,I⟩;rw[Hq] at E;obtain⟨aZ,aD,rfl⟩:=E.qw;have M:=Pc Q I;have S:=G.below I;have h:=L.below M;have aL:=h.c3;have aC:=h.lt;have ba:=M.size;have ab:=(Z.below ag).below I;clear O)|(go_at_call 108;have O:=f;refine(A6 _ false g (k*4) c _ _ _ _ (by exact L.below O) (by omega) B.out X.out).mono ?_;rintro e w1 ⟨aX,rfl,G,ag⟩;rw[K2] at G;obtain⟨aN,a9,rfl⟩:=G.qw;have Q:=Pc f ag;clear f O))
    go_loopw [5,10] (fun v5 ax wj=>∃(j:Nat) (F:Bool),j<=(xU c).length/\ax=.int .i64 j/\v5=.bool F/\Below w2.heap.size w2 wj/\Hid (F=(s&&((xU c).take j).all fun v=>yt v (zy c)))) (fun _ i _=>(xU c).length-(intOf i).toNat)
    case atStart=>exact⟨0,s,zv _,rfl,rfl,zo _ _,(by simp[Hid])⟩
    case round=>
     obtain⟨j,F,hj,rfl,rfl,d,p⟩:=hrel;have aE:=d.size;by_cases af:j<(xU c).length
     ·obtain⟨ga,rfl,au,R⟩:=S.cell j af;have bc:=zl d au R;have a7:ga<wr.heap.size:=by omega
      have o:=Dd (xU c) (fun v=>yt v (zy c)) j af;clear R;generalize (xU c)[j]=x1 at *;have ak:Hid ((s&&((xU c).take (j+1)).all fun v=>yt v (zy c))=(F&&yt x1 (zy c))):=by rw[Hid,o,p.out,Bool.and_assoc]
      clear o p;cases F
      all_goals
       go_wp2_with (first|(go_at_call 109;refine(s5 _ _ (zy c) x1 (by exact E.below d) (by omega)).mono ?_;rintro e w' ⟨rfl,aj⟩;obtain rfl:=aj.symm))
       go_roundw
       case rel=>exact⟨j+1,_,by omega,by go_num,rfl,d,(by rw[Hid,ak.out];rfl)⟩
       case measure=>simp[intOf];omega
     ·have an:(xU c).take j=xU c:=xk (by omega);have a4:Hid (F=(cs.take (k+1)).all lI):=by rw[Hid,p.out,an,av.out,HS.out];rfl
      clear p;go_wp2_with (first|(go_at_call 68;refine(sI _ g (k*4) c _ _ _ _ (by exact h.below d) (by omega)).mono ?_;rintro e w3 ⟨lv,rfl,z,ai⟩;obtain⟨aH,aB,rfl⟩:=z.qw;have T:=Pc M (Pc d ai);have y:=(ab.below d).below ai))
      go_loopw [3,4,13] (fun v3 v4 ar wq=>∃(q:Nat) (J C:Bool),q<=(zm c).length/\ar=.int .i64 q/\v3=.bool J/\v4=.bool C/\Below w3.heap.size w3 wq/\Hid (J=(A||((zm c).take q).any lH))/\Hid (C=(a||((zm c).take q).any (j7 cs)))) (fun _ _ i _=>(zm c).length-(intOf i).toNat)
      case atStart=>exact⟨0,_,a,zv _,rfl,rfl,rfl,zo _ _,(by simp[Hid,x.out]<;>omega),(by simp[Hid])⟩
      case round=>
       obtain⟨q,J,C,O,rfl,rfl,rfl,b,r,u⟩:=hrel;have a8:=b.size;by_cases K:q<(zm c).length
       ·obtain⟨gl,aV,aA,rfl,D,W,Y,ad,ay⟩:=z.cell q K;have aY:=zl b D W;have aR:=zl b D Y;have aG:=zl b D ad;have bb:gl<wr.heap.size:=by omega
        have o:=tr (zm c) lH q K;have P:=tr (zm c) (j7 cs) q K;clear W Y ad;generalize (zm c)[q]=a1 at *;have a3:Hid ((A||((zm c).take (q+1)).any lH)=(J||lH a1)):=by rw[Hid,o,r.out,Bool.or_assoc]
        have am:Hid ((a||((zm c).take (q+1)).any (j7 cs))=(C||j7 cs a1)):=by rw[Hid,P,u.out,Bool.or_assoc]
        clear o P r u;cases J
        all_goals cases C
        all_goals
         go_wp2_with (first|(go_at_call 110;refine(KP _ pb _ _ _ cs a1 _ (by exact y.below b) (by exact N.below (Pc T b)) al.out hl (by exact ay.below b)).mono ?_;rintro e w5 ⟨rfl,az⟩))
         go_roundw
         case rel=>exact⟨q+1,_,_,by omega,by go_num,rfl,rfl,Pc b az,(by rw[Hid,a3.out];first|rfl|(simp[lH];done)|(simp[lH];omega)),(by rw[Hid,am.out];rfl)⟩
         case measure=>simp[intOf];omega
       ·have U:(zm c).take q=zm c:=xk (by omega);have a2:Hid (J=(cs.take (k+1)).any fJ):=by rw[Hid,r.out,U,aw.out,ah.out,fJ,Bool.or_assoc]
        have aq:Hid (C=(cs.take (k+1)).any (mu cs)):=by rw[Hid,u.out,U,ap.out,HA.out];rfl
        clear r u;go_wp2;go_roundw
        case rel=>exact⟨k+1,J,C,F,by omega,by go_num,rfl,rfl,rfl,Pc T b,y.below b,a2,aq,a4⟩
        case measure=>simp[intOf];omega
  ·have aa:cs.take k=cs:=xk (by omega);rw[aa] at HM HA HS;have HW:Hid (qZ cs=if m then 4 else if a then 5 else if s then 0 else 6):=by unfold Hid qZ;rw[←HM.out,←HA.out,←HS.out]
   clear HM HA HS aa;cases m
   all_goals cases a
   all_goals cases s
   all_goals
    go_wp2;go_ret;exact⟨by rw[HW.out];rfl,f⟩
end
theorem GQ(c:zc):fJ c=yG c:=by
 unfold fJ tx yG zm lH;rw[List.any_cons];generalize decide (6<c.body.length)=a;generalize decide (5<(xU c).length)=b;generalize decide (3<c.head.args.length)=d;generalize (c.body.any fun l=>decide (3<l.args.length))=e;cases a<;>cases b<;>cases d<;>cases e<;>rfl
theorem Fy(c:zc):lI c=xe c:=by
 rw[Bool.eq_iff_iff];unfold lI xe;rw[lq,uZ,mp,lq];constructor
 ·intro h;have f:=fun v (a:v∈xU c)=>qS.1 (h v a);refine⟨fun t e a=>f t (tY.2 ⟨a,zf e⟩),fun l b=>?_⟩;cases d:l.neg with
  |false=>rfl
  |true=>rw[mt,mE,mp];exact fun t e a=>f t (tY.2 ⟨a,ze ⟨l,b,e⟩⟩)
 ·rintro⟨j,i⟩ v a;rw[qS];obtain⟨g,h|⟨l,b,h⟩⟩:=tY.1 a
  ·exact j v h g
  ·cases d:l.neg with
   |false=>exact gJ.2 ⟨g,l,b,d,h⟩
   |true=>
    have:=i l b;rw[d,mt,mE,mp] at this;exact this v h g
theorem Il(cs:List zc):cs.any fJ=cs.any yG:=by rw[show fJ=yG from funext GQ]
theorem Kq(cs:List zc):cs.all lI=cs.all xe:=by rw[show lI=xe from funext Fy]
section
variable {t:List zg}
theorem Qk.stop{g:List zj}{l:zj}(h:Qk t g)(b:vg t l=none):∃d∈g,qV l d=true:=by
 unfold vg at b;split at b
 ·rename_i e k;obtain⟨i,j⟩:=mB k;split at b
  ·cases b
  ·rename_i f;obtain⟨d,a,c⟩:=(h.names e.name).1 (zB.2 ⟨e,i,rfl⟩);refine⟨d,a,?_⟩;unfold qV;rw[uZ,decide_eq_true_eq,decide_eq_true_eq];refine⟨by rw[c,j],?_⟩;rw[h.jf e i d a c];exact f
 ·cases b
theorem eJ:∀(a done:List zj) (t:List zg),Qk t done->match a.foldl uk (some t) with
  |some f=>Qk f (done++a)
  |none=>∃x∈done++a,∃y∈done++a,qV x y=true
 |[],done,t,h=>by simpa using h
 |l::a,done,t,h=>by
  rw[uv];cases b:vg t l with
  |none=>
   rw[show uk (some t) l=none from b,nO];obtain⟨g,c,e⟩:=h.stop b;exact⟨l,by simp,g,by simp[c],e⟩
  |some d=>
   rw[show uk (some t) l=some d from b];have:=eJ a (done++[l]) d (h.step b);rwa [ki] at this
theorem IN{b:List zj}(h:Qk t b){x y:zj}(d:x∈b)(g:y∈b):qV x y=false:=by
 obtain⟨e,f,a⟩:=zB.1 ((h.names x.pred).2 ⟨x,d,rfl⟩);unfold qV;cases c:decide (y.pred=x.pred) with
 |false=>rfl
 |true=>
  rw[decide_eq_true_eq] at c;rw[ml,decide_eq_false_iff_not,h.jf e f x d a.symm,h.jf e f y g (c.trans a.symm)];simp
theorem DI(cs:List zc):cs.any (mu cs)=true↔∃x∈cs.flatMap zm,∃y∈cs.flatMap zm,qV x y=true:=by
 simp only[mu,j7,kY,uX];constructor
 ·rintro⟨c,b,x,d,y,a,h⟩;exact⟨x,⟨c,b,d⟩,y,a,h⟩
 ·rintro⟨x,⟨c,b,d⟩,y,a,h⟩;exact⟨c,b,x,d,y,a,h⟩
theorem KG{cs:List zc}(h:uh cs=none):cs.any (mu cs)=true:=by
 have:=eJ (cs.flatMap zm) [] [] rS;unfold uh at h;rw[h] at this;rw[DI];simpa using this
theorem tq{cs:List zc}(h:uh cs=some t):cs.any (mu cs)=false/\Qk t (cs.flatMap zm):=by
 have:=eJ (cs.flatMap zm) [] [] rS;unfold uh at h;rw[h] at this;simp only[n4] at this;refine⟨?_,this⟩;rw[←nE,DI];rintro⟨x,c,y,b,a⟩;rw[IN this c b] at a;cases a
end
section
open Go.Proofs.Tryz Go.RowKit
variable {lo:Nat}{l out:List ByteArray}{i:Nat}
def gC(out:List ByteArray)(y:ByteArray):Bool:=match out.getLast? with
 |none=>true
 |some z=>P5 z y
theorem t9(o:List ByteArray)(z y:ByteArray):gC (o++[z]) y=P5 z y:=by simp[gC]
def gF(l out:List ByteArray)(i:Nat)(k:Int):Prop:=
 (k=-1/\∀j (a:j<l.length),j<i->gC out l[j]=false)∨∃(q:Nat) (b:q<l.length),k=q/\q<i/\gC out l[q]=true/\∀j (a:j<l.length),j<i->gC out l[j]=true->P5 l[j] l[q]=false
theorem MI(l out:List ByteArray):gF l out 0 (-1):=zf ⟨rfl,fun _ _ h=>by omega⟩
theorem J3{k:Int}(h:gF l out i k)(o:i<l.length)(f:gC out l[i]=false):gF l out (i+1) k:=by
 rcases h with⟨d,e⟩|⟨q,m,d,e,n,g⟩
 ·refine zf ⟨d,fun j b c=>?_⟩;rcases gA j i with h|h
  ·exact e j b h
  ·obtain rfl:j=i:=by omega
   exact f
 ·refine ze ⟨q,m,d,by omega,n,fun j b c a=>?_⟩;rcases gA j i with h|h
  ·exact g j b h a
  ·obtain rfl:j=i:=by omega
   rw[f] at a;cases a
theorem DR(h:gF l out i (-1))(b:i<l.length)(f:gC out l[i]=true):gF l out (i+1) i:=by
 rcases h with⟨_,e⟩|⟨q,_,g,_⟩
 ·refine ze ⟨i,b,rfl,by omega,f,fun j c d a=>?_⟩;rcases gA j i with h|h
  ·rw[e j c h] at a;cases a
  ·obtain rfl:j=i:=by omega
   exact Pr _
 ·omega
theorem Ai{q:Nat}(h:gF l out i q)(c:i<l.length)(s:q<l.length)(n:gC out l[i]=true)(m:P5 l[i] l[q]=true):gF l out (i+1) i:=by
 rcases h with⟨k,_⟩|⟨e,o,k,r,p,g⟩
 ·omega
 ·obtain rfl:q=e:=by omega
  refine ze ⟨i,c,rfl,by omega,n,fun j b d a=>?_⟩;rcases gA j i with h|h
  ·cases f:P5 l[j] l[i] with
   |false=>rfl
   |true=>have:=lt_trans f m;rw[g j b h a] at this;cases this
  ·obtain rfl:j=i:=by omega
   exact Pr _
theorem Bj{q:Nat}(h:gF l out i q)(o:i<l.length)(g:q<l.length)(m:P5 l[i] l[q]=false):gF l out (i+1) q:=by
 rcases h with⟨k,_⟩|⟨d,n,k,p,e,f⟩
 ·omega
 ·obtain rfl:q=d:=by omega
  refine ze ⟨q,g,rfl,by omega,e,fun j b c a=>?_⟩;rcases gA j i with h|h
  ·exact f j b h a
  ·obtain rfl:j=i:=by omega
   exact m
structure Qs (l out:List ByteArray):Prop where
 rising:y5 out
 sub:∀x∈out,x∈l
 left:∀y∈l,y∉out->∀z∈out,P5 z y=true
 room:out.length+fE l out<=l.length
theorem MB(l:List ByteArray):Qs l []:=⟨List.Pairwise.nil,fun _ h=>(by cases h),fun _ _ _ _ h=>(by cases h),by rw[Bo];simp⟩
theorem I5{y:ByteArray}(b:y5 out)(h:gC out y=true):∀z∈out,P5 z y=true:=by
 intro z a;rcases rR out with e|⟨o,x,e⟩
 ·subst e;cases a
 ·rw[sm] at e;subst e;rw[t9] at h;rcases zW.1 a with a|a
  ·exact lt_trans ((nG.1 b).2.2 z a x (by simp)) h
  ·simp at a;subst a;exact h
theorem BA{y:ByteArray}(h:∀z∈out,P5 z y=true):gC out y=true:=by
 rcases rR out with e|⟨o,x,e⟩
 ·subst e;rfl
 ·rw[sm] at e;subst e;rw[t9];exact h x (by simp)
theorem NC{q:Nat}(h:Qs l out)(s:q<l.length)(B:gF l out l.length q):Qs l (out++[l[q]])/\fE l (out++[l[q]])<fE l out:=by
 rcases B with⟨C,_⟩|⟨E,v,C,_,D,w⟩
 ·omega
 ·obtain rfl:q=E:=by omega
  have d:=I5 h.rising D;have f:l[q]∉out:=fun p=>by have:=d _ p;rw[Pr] at this;cases this
  have m:=Lx (zu s) f;refine⟨⟨?_,?_,?_,?_⟩,m⟩
  ·exact nG.2 ⟨h.rising,List.pairwise_singleton _ _,fun a A b u=>by simp at u;subst u;exact d a A⟩
  ·intro x c;rcases zW.1 c with c|c
   ·exact h.sub x c
   ·simp at c;subst c;exact zu s
  ·intro y o k z e;have g:y∉out:=fun p=>k (zW.2 (zf p));rcases zW.1 e with e|e
   ·exact h.left y o g z e
   ·simp at e;subst e;obtain⟨j,t,rfl⟩:=vl o;have n:=BA (h.left _ o g);have r:=w j t t n;cases c:P5 l[q] l[j] with
    |true=>rfl
    |false=>exact zC (zW.2 (ze (by simp[sG r c]))) k
  ·have:=h.room;simp;omega
theorem Iw(h:Qs l out)(e:gF l out l.length (-1)):∀x,x∈out↔x∈l:=by
 intro x;refine⟨h.sub x,fun b=>?_⟩;rcases e with⟨_,d⟩|⟨q,_,f,_⟩
 ·false_or_by_contra
  rename_i c;obtain⟨j,a,rfl⟩:=vl b;have:=BA (h.left _ b c);rw[d j a a] at this;cases this
 ·omega
theorem D9(w:World)(v:Value)(l:List ByteArray)(M:Pg lo w v l)(hl:l.length<=1000):
  Calls prog 69 #[v] w fun e w'=>∃v' r,e=.returned v'/\Pg w.heap.size w' v' r/\y5 r/\(∀x,x∈r↔x∈l)/\r.length<=l.length/\Below w.heap.size w w':=by
 obtain⟨i0,hi,V,S,T⟩:=info_parts O4;obtain⟨ao,aq,rfl⟩:=M.qw;go_enter func69,ntmps69;go_wp2;go_loopg [3] (l.length) (fun n v3 wr=>∃out:List ByteArray,Hid (Qs l out)/\fE l out<=n/\Below w.heap.size w wr/\wr.ownsRow w.heap.size 9 1 v3 out.length (out.map Value.string))
 case atStart=>exact⟨[],MB l,by rw[Bo];omega,zo _ _,yK _ _ _ _⟩
 case round=>
  obtain⟨out,P,aw,ac,E⟩:=hrel;obtain⟨al,ai,rfl⟩:=zq E;have H:=P.out.room;go_wp2;go_loopw [4,5] (fun v4 v5 wj=>∃(i:Nat) (G:Int),i<=l.length/\v5=.int .i64 i/\v4=.int .i64 G/\Below wr.heap.size wr wj/\Hid (gF l out i G)/\Hid (G=-1∨∃(q:Nat) (_:q<l.length),G=q)) (fun _ i _=>l.length-(intOf i).toNat)
  case atStart=>exact⟨0,-1,zv _,rfl,rfl,zo _ _,MI l out,zf rfl⟩
  case round=>
   obtain⟨i,G,aj,rfl,rfl,a,d,u⟩:=hrel;have p:=Pc ac a;have O:=p.size;have s:=zE E a;by_cases b:i<l.length
   ·obtain⟨g,rfl,hg,J⟩:=M.cell i b;have am:=zl p hg J;have W:g<wr.heap.size:=by omega
    clear J;rcases rR out with e|⟨o,z,e⟩
    ·subst e;have c:gC [] l[i]=true:=rfl;rcases u.out with D|⟨q,A,B⟩
     ·subst D;have t:=OY (DR d.out b c);clear d u c;generalize l[i]=x at *;go_wp2;go_quiet (fail)
      go_wp2;go_roundw
      case rel=>exact⟨i+1,(i:Int),by omega,by go_num,rfl,zI a _,t,ze ⟨i,b,rfl⟩⟩
      case measure=>simp[intOf];omega
     ·subst B;obtain⟨gq,C,m,k⟩:=M.cell q A;simp at C;subst C;have L:=zl p m k;have ad:decide ((q:Int)<0)=false:=by rw[decide_eq_false_iff_not];omega
      clear k;cases f:P5 l[i] l[q] with
      |true=>
       have t:=OY (Ai d.out b A c f);unfold P5 at f;clear d u c;generalize l[i]=x at *;generalize l[q]=y at *;go_wp2;go_quiet (fail)
       go_wp2;go_roundw
       case rel=>exact⟨i+1,(i:Int),by omega,by go_num,rfl,zI a _,t,ze ⟨i,b,rfl⟩⟩
       case measure=>simp[intOf];omega
      |false=>
       have t:=OY (Bj d.out b A f);unfold P5 at f;clear d u c;generalize l[i]=x at *;generalize l[q]=y at *;go_wp2;go_quiet (fail)
       go_wp2;go_roundw
       case rel=>exact⟨i+1,(q:Int),by omega,by go_num,rfl,zI a _,t,ze ⟨q,A,rfl⟩⟩
       case measure=>simp[intOf];omega
    ·rw[sm] at e;subst e;obtain⟨go,ae,I,_,Q,F⟩:=y7 s (by simp);simp at I;obtain⟨rfl,_⟩:=I;have av:=F o.length (.string z) (by simp);have R:((o.length:Int)+1 == 0)=false:=by rw[beq_eq_false_iff_ne];omega
     have ag:o.length<o.length+1:=by omega
     have ah:=Q;have ar:o.length<=1000:=by simp at H;omega
     have an:IntKind.i64.wrap (o.length:Int)=(o.length:Int):=IntWalk.i64_in _ (by omega);clear F;cases j:P5 z l[i] with
     |true=>
      have c:gC (o++[z]) l[i]=true:=by rw[t9];exact j
      have K:Op.bytesLess l[i].toList z.toList=false:=NU j;have af:(l[i].toList == z.toList)=false:=qz (fun h=>by rw[h,Pr] at j;cases j);clear j;rcases u.out with D|⟨q,A,B⟩
      ·subst D;have t:=OY (DR d.out b c);clear d u c;generalize l[i]=x at *;go_wp2;go_quiet (fail)
       go_wp2;go_roundw
       case rel=>exact⟨i+1,(i:Int),by omega,by go_num,rfl,zI a _,t,ze ⟨i,b,rfl⟩⟩
       case measure=>simp[intOf];omega
      ·subst B;obtain⟨gq,C,m,k⟩:=M.cell q A;simp at C;subst C;have L:=zl p m k;have ad:decide ((q:Int)<0)=false:=by rw[decide_eq_false_iff_not];omega
       clear k;cases f:P5 l[i] l[q] with
       |true=>
        have t:=OY (Ai d.out b A c f);unfold P5 at f;clear d u c;generalize l[i]=x at *;generalize l[q]=y at *;go_wp2;go_quiet (fail)
        go_wp2;go_roundw
        case rel=>exact⟨i+1,(i:Int),by omega,by go_num,rfl,zI a _,t,ze ⟨i,b,rfl⟩⟩
        case measure=>simp[intOf];omega
       |false=>
        have t:=OY (Bj d.out b A f);unfold P5 at f;clear d u c;generalize l[i]=x at *;generalize l[q]=y at *;go_wp2;go_quiet (fail)
        go_wp2;go_roundw
        case rel=>exact⟨i+1,(q:Int),by omega,by go_num,rfl,zI a _,t,ze ⟨q,A,rfl⟩⟩
        case measure=>simp[intOf];omega
     |false=>
      have t:=OY (J3 d.out b (by rw[t9];exact j));cases K:Op.bytesLess l[i].toList z.toList with
      |true=>
       clear d j;generalize l[i]=x at *;go_wp2;go_quiet (fail)
       go_wp2;go_roundw
       case rel=>exact⟨i+1,G,by omega,by go_num,rfl,zI a _,t,u⟩
       case measure=>simp[intOf];omega
      |false=>
       have af:=ka (sG K j);clear d j;generalize l[i]=x at *;go_wp2;go_quiet (fail)
       go_wp2;go_roundw
       case rel=>exact⟨i+1,G,by omega,by go_num,rfl,zI a _,t,u⟩
       case measure=>simp[intOf];omega
   ·have aa:i=l.length:=by omega
    subst aa;rcases u.out with D|⟨q,A,B⟩
    ·subst D;have HD:=OY (Iw P.out d.out);clear d u;go_wp2;go_ret;exact⟨_,out,rfl,s,P.out.rising,HD.out,by omega,p⟩
    ·subst B;obtain⟨gq,rfl,m,k⟩:=M.cell q A;have L:=zl p m k;have W:gq<wr.heap.size:=by omega
     obtain⟨N,ap⟩:=NC P.out A d.out;have U:=OY N;clear d u k N;generalize l[q]=y at *;go_wp2_with (first|(at_builtin;refine jY _ _ _ _ rfl (.tmp 47) (.tmp 52) 30 rfl w.heap.size 9 i0 _ 1 16 underlying30 hi V S T rfl (by decide) _ _ _ rfl s (zo _ _) _ _ rfl (by simp) rfl (by simp[Value.oneCell']) (by omega) (by omega) O ?_;intro v' w2 X Z ab Y au ak;clear ab Y))
     go_roundg (fE l (out++[y]))
     case measure=>omega
     case rel=>exact⟨out++[y],U,zh _,p.trans Z,by simpa using X⟩
end
section
variable {ps:List ByteArray}{sv:List Nat}{k:Nat}{cs:List zc}
def vm(ps:List ByteArray)(sv:List Nat)(n:ByteArray):Nat:=match yu ps n with
 |some k=>sv.getD k 0
 |none=>0
theorem tP:∀{ps:List ByteArray} {n:ByteArray},n∈ps->∃k,yu ps n=some k
 |[],_,h=>by cases h
 |y::r,n,h=>by
  unfold yu;by_cases e:y=n
  ·exact⟨0,by rw[zb e]⟩
  ·rw[za e];rcases zw.1 h with h|h
   ·exact zC h.symm e
   ·obtain⟨k,a⟩:=tP h;exact⟨k+1,by rw[a];rfl⟩
theorem th{n:ByteArray}(h:yu ps n=some k)(a:k<sv.length):vm ps sv n=sv[k]:=by
 unfold vm;rw[h];simp[List.getD_eq_getElem?_getD,a]
theorem LR{m:ByteArray}(h:yu ps m=some k)(f:k<sv.length)(s:Nat)(n:ByteArray):vm ps (sv.set k s) n=if n=m then s else vm ps sv n:=by
 by_cases a:n=m
 ·subst a;rw[zb rfl,th h (by simpa using f)];simp
 ·rw[za a];unfold vm;cases c:yu ps n with
  |none=>rfl
  |some j=>
   have b:k≠j:=by
    rintro rfl;obtain⟨g,e⟩:=fo h;obtain⟨i,d⟩:=fo c;exact a (d.symm.trans e)
   simp[List.getD_eq_getElem?_getD,b]
theorem Kd(ps:List ByteArray)(k:Nat)(n:ByteArray):vm ps (List.replicate k 0) n=0:=by
 unfold vm;split
 ·simp[List.getD_eq_getElem?_getD,List.getElem?_replicate];split<;>rfl
 ·rfl
def QO(cs:List zc)(ps:List ByteArray)(sv:List Nat):Prop:=∀f,PW cs f->∀n,vm ps sv n<=f n
theorem Kh(cs:List zc)(ps:List ByteArray)(k:Nat):QO cs ps (List.replicate k 0):=fun f _ n=>by rw[Kd];omega
theorem F3(h:QO cs ps sv){c:zc}(g:c∈cs){l:zj}(d:l∈c.body)(i:yu ps c.head.pred=some k)(a:k<sv.length):QO cs ps (sv.set k (vm ps sv l.pred+up l)):=by
 intro f b n;rw[LR i a];split
 ·rename_i e;have:=b c g l d;have:=h f b l.pred;rw[e];omega
 ·exact h f b n
theorem FL(h:QO cs ps sv)(a:∀c∈cs,∀l∈zm c,l.pred∈ps){c:zc}(d:c∈cs){l:zj}(i:l∈c.body)(j:ps.length<=vm ps sv l.pred+up l):¬∃f,PW cs f:=by
 rintro⟨g,e⟩;obtain⟨f,b⟩:=D8 e;have n:=ed b a (a c d c.head (by simp[zm]));have m:=b.1 c d l i;have o:=h f b.1 l.pred;omega
def Qd(cs:List zc)(ps:List ByteArray)(sv:List Nat)(i:Nat):Prop:=∀c∈cs.take i,∀l∈c.body,vm ps sv l.pred+up l<=vm ps sv c.head.pred
def mj(c:zc)(ps:List ByteArray)(sv:List Nat)(k:Nat):Prop:=∀l∈c.body.take k,vm ps sv l.pred+up l<=vm ps sv c.head.pred
theorem IF(cs:List zc)(ps:List ByteArray)(sv:List Nat):Qd cs ps sv 0:=fun c a=>by simp at a
theorem Fs(c:zc)(ps:List ByteArray)(sv:List Nat):mj c ps sv 0:=fun l a=>by simp at a
theorem K1{c:zc}(h:mj c ps sv k)(b:k<c.body.length)(d:vm ps sv c.body[k].pred+up c.body[k]<=vm ps sv c.head.pred):mj c ps sv (k+1):=by
 intro l a;rw[yM b,zW] at a;rcases a with a|a
 ·exact h l a
 ·simp at a;subst a;exact d
theorem Fl{i:Nat}(h:Qd cs ps sv i)(d:i<cs.length)(e:mj cs[i] ps sv cs[i].body.length):Qd cs ps sv (i+1):=by
 intro c a;rw[yM d,zW] at a;rcases a with a|a
 ·exact h c a
 ·simp at a;subst a;intro l b;exact e l (by rw[xk (zh _)];exact b)
theorem FC(h:Qd cs ps sv cs.length):PW cs (vm ps sv):=fun c a=>h c (by rw[xk (zh _)];exact a)
theorem I8(a:QO cs ps sv)(h:Qd cs ps sv cs.length):PH cs (vm ps sv):=⟨FC h,a⟩
theorem Cl:∀(sv:List Nat) (k s:Nat) (b:k<sv.length),(sv.set k s).sum+sv[k]=sv.sum+s
 |a::r,0,s,_=>by simp;omega
 |a::r,k+1,s,b=>by
  have:=Cl r k s (by simpa using b);simp;omega
theorem D2:∀(sv:List Nat) (M:Nat),(∀s∈sv,s<=M)->sv.sum<=sv.length*M
 |[],M,_=>by simp
 |a::r,M,h=>by
  have d:=D2 r M fun s b=>h s (by simp[b]);have c:=h a (by simp);simp only[mW,yZ,Nat.add_mul,Nat.one_mul];omega
theorem ES{f g:ByteArray->Nat}(b:PH cs f)(a:PH cs g)(n:ByteArray):f n=g n:=Nat.le_antisymm (b.2 g a.1 n) (a.2 f b.1 n)
end
section
variable {ps:List ByteArray}{t:List zg}{cs:List zc}
theorem Bk(h:y5 ps){i j:Nat}(b:i<ps.length)(c:j<ps.length)(e:ps[i]=ps[j]):i=j:=by
 unfold y5 at h;rw[sd] at h;rcases nQ i j with a|a|a
 ·have:=h i j b c a;rw[e,Pr] at this;cases this
 ·exact a
 ·have:=h j i c b a;rw[e,Pr] at this;cases this
theorem KL{sv:List Nat}(h:y5 ps)(e:sv.length=ps.length){k:Nat}(b:k<ps.length):vm ps sv ps[k]=sv[k]:=by
 obtain⟨j,a⟩:=tP (zu b);obtain⟨d,c⟩:=fo a;have:=Bk h d b c;subst this;exact th a (by omega)
theorem On(h:y5 (Pb t)){k:Nat}(c:k<t.length):val t t[k].name=t[k].qh:=by
 unfold val;cases a:zY t t[k].name with
 |none=>exact zC rfl (mI h a t[k] (zu c))
 |some e=>
  obtain⟨d,b,f⟩:=qI a;have g:=Bk h (by simpa [Pb] using d) (by simpa [Pb] using c) (by simp[Pb,b,f]);simp only;rw[←b];congr 1;congr 1
theorem sJ(h:Qk t (cs.flatMap zm)):jS t cs:=by
 intro c g l f;cases b:zY t l.pred with
 |some e=>rfl
 |none=>
  obtain⟨e,d,a⟩:=zB.1 ((h.names l.pred).2 ⟨l,uX.2 ⟨c,g,f⟩,rfl⟩);exact zC a (mI h.rise b e d)
theorem Df(h:∀e∈t,e.qh<=0)(n:ByteArray):val t n=0:=by
 unfold val;split
 ·rename_i e a;have:=h e (mB a).1;omega
 ·rfl
inductive dQ (s:ByteArray):Except Int (List zc×List ByteArray×List Nat)->Prop
 |long:500<s.size->dQ s (.error 1)
 |lex:¬500<s.size->xh s.size s=none->dQ s (.error 2)
 |parse {l:List ByteArray}:¬500<s.size->xh s.size s=some l->uQ l=none->dQ s (.error 3)
 |wrong {l:List ByteArray} {cs:List zc}:¬500<s.size->xh s.size s=some l->uQ l=some cs->qZ cs≠0->dQ s (.error (qZ cs))
 |strata {l:List ByteArray} {cs:List zc}:¬500<s.size->xh s.size s=some l->uQ l=some cs->qZ cs=0->(¬∃f,PW cs f)->dQ s (.error 7)
 |ok {l:List ByteArray} {cs:List zc} {ps:List ByteArray} {sv:List Nat}:¬500<s.size->xh s.size s=some l->uQ l=some cs->qZ cs=0->y5 ps->(∀n,n∈ps↔∃x∈cs.flatMap zm,x.pred=n)->sv.length=ps.length->PH cs (vm ps sv)->dQ s (.ok (cs,ps,sv))
def sF:Except Int (List zc×List zg)->Except Int (List zc×List ByteArray×List Nat)
 |.error k=>.error k
 |.ok (cs,t)=>.ok (cs,Pb t,t.map zg.qh)
theorem tK{s:ByteArray}{l:List ByteArray}(h:xh s.size s=some l):∃a,Pl s=some a/\uQ l=yH a.length a.length a:=by
 have b:=ey s;rw[h] at b;cases c:Pl s with
 |none=>rw[pQ,c] at h;cases h
 |some a=>rw[c] at b;exact⟨a,rfl,b⟩
theorem ow:(qZ cs=4/\cs.any yG=true)∨(qZ cs=5/\cs.any yG=false/\uh cs=none)∨(∃t,cs.any yG=false/\uh cs=some t/\((qZ cs=6/\cs.all xe=false)∨(qZ cs=0/\cs.all xe=true))):=by
 unfold qZ;rw[Il,Kq];cases b:cs.any yG with
 |true=>exact zf ⟨rfl,rfl⟩
 |false=>
  right;cases a:uh cs with
  |none=>left;rw[KG a];exact⟨rfl,rfl,rfl⟩
  |some t=>
   right;refine⟨t,rfl,rfl,?_⟩;rw[(tq a).1];cases c:cs.all xe with
   |true=>exact ze ⟨rfl,rfl⟩
   |false=>exact zf ⟨rfl,rfl⟩
theorem AI(h:uh cs=some t):∀e∈t,e.qh<=0:=s6 _ [] (fun e a=>by cases a) t h
theorem CK{s:ByteArray}{r:Except Int (List zc×List ByteArray×List Nat)}(h:dQ s r):sF (uu s)=r:=by
 cases h with
 |long h=>unfold uu;rw[zb h];rfl
 |lex h d=>
  unfold uu;rw[za h];rw[pQ] at d;cases F:Pl s with
  |none=>rfl
  |some q=>rw[F] at d;cases d
 |parse h d j=>
  obtain⟨q,i,f⟩:=tK d;rw[j] at f;unfold uu;rw[za h,i];simp only;rw[←f];rfl
 |wrong h d j g=>
  rename_i cs;obtain⟨q,i,f⟩:=tK d;rw[j] at f;unfold uu;rw[za h,i];simp only;rw[←f];simp only;rcases ow (cs:=cs) with⟨e,a⟩|⟨e,a,b⟩|⟨t,a,b,⟨e,c⟩|⟨e,c⟩⟩
  ·rw[e,a];rfl
  ·rw[e,a,b];rfl
  ·rw[e,a,b];simp only;rw[c];rfl
  ·exact zC e g
 |strata h d j g v=>
  rename_i cs;obtain⟨q,i,f⟩:=tK d;rw[j] at f;unfold uu;rw[za h,i];simp only;rw[←f];simp only;rcases ow (cs:=cs) with⟨e,a⟩|⟨e,a,b⟩|⟨t,a,b,⟨e,c⟩|⟨e,c⟩⟩
  ·rw[g] at e;cases e
  ·rw[g] at e;cases e
  ·rw[g] at e;cases e
  ·rw[a,b];simp only;rw[c];have p:=tL (sJ (tq b).2) (Df (AI b));have:(xK (t.length+1) t cs).2=false:=by rw[←nE];exact fun e=>v (p.1.1 e)
   rw[this];rfl
 |ok h d j g w H C B=>
  rename_i l cs ps E;obtain⟨q,i,f⟩:=tK d;rw[j] at f;unfold uu;rw[za h,i];simp only;rw[←f];simp only;rcases ow (cs:=cs) with⟨e,a⟩|⟨e,a,b⟩|⟨t,a,b,⟨e,c⟩|⟨e,c⟩⟩
  ·rw[g] at e;cases e
  ·rw[g] at e;cases e
  ·rw[g] at e;cases e
  ·rw[a,b];simp only;rw[c];have u:=(tq b).2;have p:=tL (sJ u) (Df (AI b));have o:=p.1.2 ⟨_,B.1⟩;have m:=p.2 o;have A:=tn (t.length+1) t cs (sJ u);rw[o];simp only[if_true,kL,if_false,sF];generalize (xK (t.length+1) t cs).1=D at m A;have z:=A.trans (Cq u.rise w fun n=>(u.names n).trans (H n).symm);subst z;have x:D.map zg.qh=E:=by
    apply kJ (by rw[C];simp[Pb]);intro k y J;have G:k<D.length:=by simpa using y
    have I:=KL w C (k:=k) (by omega);have K:=On w G;rw[←I,ES B m];simp only[Pb,vO];exact K.symm
   rw[x]
end
end Go.Proofs.YteampbddflhngaaGreat
