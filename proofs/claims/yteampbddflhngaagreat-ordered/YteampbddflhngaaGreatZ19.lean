import Derived.Laws.AppendOwnNone
import Derived.Laws.Cover3
import Derived.Test.YteampbddflhngaaGreatZ11
import Derived.Test.YteampbddflhngaaGreatZ12
import Derived.Test.YteampbddflhngaaGreatZ18
namespace Go.Proofs.YteampbddflhngaaGreat
set_option linter.all false
set_option maxRecDepth 100000
set_option maxHeartbeats 40000000
section
open Go.Proofs.Tryz Go.RowKit
variable {lo:Nat}
theorem wk(w:World)(v:Value)(vs:κ)(t:ByteArray)(hs:QF lo w v vs)(o:vs.length<=1000):
  Calls prog 109 #[v,.string t] w fun e l=>e=ε (.bool (xf t vs))/\l=w:=by
 obtain⟨q,h,rfl⟩:=hs.qx;go_enter func109,ntmps109;go_wp2;go_loop [5] (fun i=>∃k:Nat,k<=vs.length/\i=ι k/\Hid (t∈vs↔t∈vs.drop k)) (fun i=>vs.length-(intOf i).toNat)
 case atStart=>exact⟨0,zv _,rfl,by simp[Hid]⟩
 case round=>
  obtain⟨k,n,rfl,H⟩:=hrel;by_cases b:k<vs.length
  ·obtain⟨g,rfl,p,j⟩:=hs.cell k b;have d:=xn b;generalize vs[k]=x at *;have f:=Q7 d;by_cases c:x=t
   ·have m:=gE c;have a:Hid (t∈vs):=by rw[Hid,H.out,f.out,c];simp
    go_wp2;go_ret;exact⟨by rw[jQ.2 a.out];rfl,rfl⟩
   ·have m:=j5 c;have a:Hid (t∈vs↔t∈vs.drop (k+1)):=by rw[Hid,H.out,f.out];simp[Ne.symm c]
    go_wp2;go_round
    ·exact⟨k+1,by omega,by go_num,a⟩
    ·simp[intOf];omega
  ·have a:Hid (t∉vs):=by rw[Hid,H.out,uj (by omega)];simp
   go_wp2;go_ret;exact⟨by rw[rf.2 a.out];rfl,rfl⟩
theorem uL.one{w:World}:∀{b:List zj} {xs:List Value},uL lo w b xs->∀u∈xs,u.oneCell'=true
 |[],_,h,u,a=>by simp only[uL] at h;subst h;cases a
 |_::b,_,h,u,a=>by
  obtain⟨v,r,rfl,e,d⟩:=h;obtain⟨f,c,rfl⟩:=e.qx;simp only[zx] at a;rcases a with rfl|rfl|rfl|a
  ·rfl
  ·rfl
  ·rfl
  ·exact uL.one d u a
structure dU (w:World) (g o:Nat) (c:zd) (ao:Option Addr) (cap:Nat) (aob:Option Addr) (capb:Nat):Prop where
 lt:g<w.heap.size
 c0:w.cell? ⟨g,o,none⟩=some (.bool c.head.neg)
 c1:w.cell? ⟨g,o+1,none⟩=some (.string c.head.pred)
 c2:w.cell? ⟨g,o+2,none⟩=some (.slice ao c.head.args.length cap)
 c3:w.cell? ⟨g,o+3,none⟩=some (.slice aob c.body.length capb)
 args:QF 0 w (.slice ao c.head.args.length cap) c.head.args
 body:Rg 0 w (.slice aob c.body.length capb) c.body
theorem dU.below{w w':World}{g o:Nat}{c:zd}{e:Option Addr}{cap:Nat}{d:Option Addr}{a:Nat}(h:dU w g o c e cap d a)(b:μ w w'):dU w' g o c e cap d a:=
 ⟨xP h.lt b.size,(b.cell (p:=⟨g,o,none⟩) h.lt).trans h.c0,(b.cell (p:=⟨g,o+1,none⟩) h.lt).trans h.c1,(b.cell (p:=⟨g,o+2,none⟩) h.lt).trans h.c2,(b.cell (p:=⟨g,o+3,none⟩) h.lt).trans h.c3,h.args.below b,h.body.below b⟩
theorem Rl.at{T:TypeId}{w:World}{e:Option Addr}{n cap:Nat}{cs:List zd}(h:Rl lo T w (.slice e n cap) cs)(k:Nat)(l:k<cs.length):∃g d a c b,e=some ⟨g,0,none⟩/\dU w g (k*4) cs[k] d a c b:=by
 obtain⟨g,d,a,c,b,q,o,p,i,f,j,r,m⟩:=h.cell k l;exact⟨g,d,a,c,b,q,o,p,i,f,j,r.low (zv _),m.low (zv _)⟩
theorem tS(w:World)(g o:Nat)(c:zd)(m:Option Addr)(cap:Nat)(D:Option Addr)(f:Nat)(h:dU w g o c m cap D f)(hl:c.body.length<=1000):
  Calls prog 68 #[.pointer (some ⟨g,o,none⟩)] w fun e l=>∃v,e=.returned v/\Rg 0 l v (zk c)/\μ w l:=by
 obtain⟨N,Q,I,F,z⟩:=info_parts PU;have Z:=h.lt;have h0:=h.c0;have h1:=h.c1;have h2:=h.c2;have h3:=h.c3;obtain⟨y,t,r⟩:=h.body;have d:=(zo w.heap.size w).alloc (zg _) (.cells #[.bool c.head.neg,.string c.head.pred,.slice m c.head.args.length cap] 90);have b:(w.alloc (.cells #[.bool c.head.neg,.string c.head.pred,.slice m c.head.args.length cap] 90)).ownsRow w.heap.size 90 3 (.slice (some ⟨w.heap.size,0,none⟩) 1 1) 1 [.bool c.head.neg,.string c.head.pred,.slice m c.head.args.length cap]:=
  ⟨rfl,zb ⟨w.heap.size,1,_,rfl,zg _,Q8.new w _ _,zg _,by unfold maxLen;omega,rfl,rfl⟩⟩
 have L:=t.1;have A:=uL.one r;have i:∀l,μ w l->uL 0 l (zk c) ([.bool c.head.neg,.string c.head.pred,.slice m c.head.args.length cap]++y):=fun l O=>⟨_,_,rfl,h.args.below O,r.mono fun _ _ q=>q.below O⟩;have a:=Q7 i;have s:=t;obtain⟨_,⟨n,hn⟩|⟨K,P,T,n,W,S,Y,aa,U,V⟩⟩:=s
 ·simp at n;obtain⟨rfl,J,rfl⟩:=n;have H:y=[]:=rg (by omega);go_enter func68,ntmps68;go_wp2_with (at_builtin;refine wpList_append_own_none rfl (.tmp 9) (.tmp 13) 91 rfl w.heap.size 90 N 3 underlying91 Q _ _ _ rfl b rfl ?_)
  go_ret;refine⟨_,rfl,⟨_,?_,a.out _ d⟩,d⟩;rw[H,qM];simpa [zk,J] using yt b (zv _)
 ·simp at n;obtain⟨rfl,_,rfl⟩:=n;have B:∀j u,y[j]?=some u->(w.alloc (.cells #[.bool c.head.neg,.string c.head.pred,.slice m c.head.args.length cap] 90)).cell? (Addr.add ⟨K,0,none⟩ j)=some u:=fun j u x=>by
   rw[Addr.add_lit,vB,d.cell (p:=⟨K,j,none⟩) (kz.1 S).1];unfold World.cell?;rw[S];simp;rw[←V,lF] at x;split at x
   ·simpa using x
   ·simp at x
  have G:=Q7 B;have M:=Q7 A;go_enter func68,ntmps68;go_wp2_with (at_builtin;refine wpList_append_own _ rfl (.tmp 9) (.tmp 13) 91 rfl w.heap.size 90 N _ 3 48 underlying91 Q I F z rfl (by decide) _ _ _ rfl b ⟨K,0,none⟩ c.body.length f y rfl L G.out M.out (by unfold maxLen;omega) (by omega) (by simp) ?_;intro v' w2 E C _)
  go_ret;have R:=d.grown C (by simp) (fun k X=>by cases X;exact zg _);refine⟨_,rfl,⟨_,?_,a.out _ R⟩,R⟩;rw[show(zk c).length=1+c.body.length by simp[zk];omega];exact yt E (zv _)
def nF(qc first:Bool)(vs:κ)(l:zj):κ:=if qc&&(first||l.neg) then vs else xk vs l.args
def jr(qc:Bool)(a:List zj):Nat->κ
 |0=>[]
 |k+1=>match a[k]? with
  |none=>jr qc a k
  |some l=>nF qc (k == 0) (jr qc a k) l
theorem tx(qc:Bool)(a:List zj)(k:Nat)(b:k<a.length):jr qc a (k+1)=nF qc (k == 0) (jr qc a k) a[k]:=by
 rw[jr,yp b]
theorem M2(qc first:Bool)(vs:κ)(l:zj):(nF qc first vs l).length<=vs.length+l.args.length:=by
 unfold nF;split
 ·omega
 ·exact nB l.args vs
theorem Bq(qc:Bool)(a:List zj):∀k,k<=a.length->(jr qc a k).length<=yS (a.take k)
 |0,_=>by simp[jr]
 |k+1,b=>by
  rw[tx qc a k (by omega),yL (by omega),Ht];have c:=Bq qc a k (by omega);have d:=M2 qc (k == 0) (jr qc a k) a[k];omega
theorem LT(c:zd):jr false (zk c) (zk c).length=xM c:=by
 have a:∀k,k<=c.body.length->jr false (zk c) (k+1)=(c.body.take k).foldl kI (xk [] c.head.args):=by
  intro k;induction k with
  |zero=>intro _;rfl
  |succ k b=>
   intro d;rw[tx _ _ _ (by simp[zk];omega),b (by omega),yL (by omega),j8];rfl
 have:=a c.body.length (zg _);rw[vr] at this;exact this
theorem B8(c:zd):jr true (zk c) (zk c).length=zw c:=by
 have a:∀k,k<=c.body.length->jr true (zk c) (k+1)=(c.body.take k).foldl vN []:=by
  intro k;induction k with
  |zero=>intro _;rfl
  |succ k b=>
   intro d;rw[tx _ _ _ (by simp[zk];omega),b (by omega),yL (by omega),j8];simp only[ut,List.foldl_nil,nF,vN,zk,nh];simp
 have:=a c.body.length (zg _);rw[vr] at this;exact this
theorem iJ(w:World)(qc:Bool)(g o:Nat)(c:zd)(ao:Option Addr)(cap:Nat)(K:Option Addr)(A:Nat)(h:dU w g o c ao cap K A)(hl:c.body.length<=999)(aq:yS (zk c)<=1000)(hz:∀l∈zk c,∀t∈l.args,0<t.size):
  Calls prog 108 #[.pointer (some ⟨g,o,none⟩),.bool qc] w fun e D=>∃v,e=.returned v/\QF w.heap.size D v (jr qc (zk c) (zk c).length)/\μ w D:=by
 obtain⟨i0,hi,aa,af,ah⟩:=info_parts Q0;have az:(zk c).length<=1000:=by simp[zk];omega
 have HZ:=Q7 hz;have L:=tS w g o c ao cap K A h (by omega);clear hz;generalize zk c=p at *;go_enter func108,ntmps108;go_wp2_with (go_at_call 68;refine L.mono ?_;rintro e H ⟨lv,rfl,C,T⟩;obtain⟨a1,au,rfl⟩:=C.qx;clear L)
 go_loopw [5,7] (fun v5 v7 wr=>∃k:Nat,k<=p.length/\v7=ι k/\μ H wr/\wr.ownsRow H.heap.size 9 1 v5 (jr qc p k).length ((jr qc p k).map Value.string)) (fun _ i _=>p.length-(intOf i).toNat)
 case atStart=>exact⟨0,zv _,rfl,zo _ _,yD _ _ _ _⟩
 case round=>
  obtain⟨k,hk,rfl,m,b⟩:=hrel;have U:=m.size;by_cases y:k<p.length
  ·obtain⟨gl,ax,an,rfl,E,R,aj,x,ak⟩:=C.cell k y;have I:=zl m E R;have P:=zl m E x;have X:gl<wr.heap.size:=by omega
   have z:=tx qc p k y;have ay:=Bq qc p k (by omega);have N:=pW p k y;rw[yp y] at N;simp only[jA,ux] at N;have ac:=Q7 (HZ.out _ (zs y));generalize p[k]=a at *;generalize ab:jr qc p k=vs at *;have V:=Q7 z;clear z ab R aj;by_cases d:(qc&&((k == 0)||a.neg))=true
   ·have W:Hid (jr qc p (k+1)=vs):=by rw[Hid,V.out,nF,d];rfl
    simp only[uw,dX,beq_iff_eq] at d;obtain⟨rfl,d⟩:=d;clear V x;by_cases Q:k=0
    ·subst Q;go_wp2;go_roundw
     ·exact⟨0+1,by omega,by go_num,m,by rw[W.out];exact b⟩
     ·simp[intOf];omega
    ·have ad:((k:Int) == 0)=false:=by rw[beq_eq_false_iff_ne];omega
     have r:=d.resolve_left Q;rw[r] at I;go_wp2;go_roundw
     ·exact⟨k+1,by omega,by go_num,m,by rw[W.out];exact b⟩
     ·simp[intOf];omega
   ·have W:Hid (jr qc p (k+1)=xk vs a.args):=by rw[Hid,V.out,nF,za d]
    clear V;have M:qc=false∨(qc=true/\((k:Int) == 0)=false/\a.neg=false):=by
     cases qc with
     |false=>exact zf rfl
     |true=>
      right;simp only[mF,dX,beq_iff_eq,not_or,pS] at d;exact⟨rfl,by rw[beq_eq_false_iff_ne];omega,d.2⟩
    clear d;rcases M with rfl|⟨rfl,ad,r⟩
    all_goals
     (try rw[r] at I)
     go_wp2;go_loopw [5,8] (fun v5 v8 wj=>∃j:Nat,j<=a.args.length/\v8=ι j/\μ H wj/\wj.ownsRow H.heap.size 9 1 v5 (xk vs (a.args.take j)).length ((xk vs (a.args.take j)).map Value.string)) (fun _ i _=>a.args.length-(intOf i).toNat)
     case atStart=>exact⟨0,zv _,rfl,m,b⟩
     case round=>
      clear I P b m U X;obtain⟨j,hj,rfl,n,b⟩:=hrel;have ar:=n.size;have P:=zl n E x;have a0:gl<wr.heap.size:=by omega
      by_cases G:j<a.args.length
      ·obtain⟨ga,rfl,ag,O⟩:=ak.cell j G;have aw:=zl n ag O;have am:ga<wr.heap.size:=by omega
       have F:=ac.out _ (zs G);have z:=DZ vs a.args j G;have al:=nB (a.args.take j) vs;have S:(a.args.take j).length=j:=by simp;omega
       rw[S] at al;clear O S;generalize a.args[j]=B at *;generalize xk vs (a.args.take j)=J at *;have q:=Q7 z;clear z;have s:zP B=vR (QG B 0):=rfl;cases hT:vR (QG B 0) with
       |false=>
        have u:Hid (xk vs (a.args.take (j+1))=J):=by rw[Hid,q.out,AL (by rw[s,hT])]
        clear q s;go_wp2_with (first|(go_at_call 154;refine(wh _ _ F).mono ?_;rintro e D ⟨rfl,f⟩;obtain rfl:=f.symm)|(go_at_call 109;refine(wk _ _ J B b (by omega)).mono ?_;rintro e D ⟨rfl,f⟩;obtain rfl:=f.symm))
        go_roundw
        ·exact⟨j+1,by omega,by go_num,n,by rw[u.out];exact b⟩
        ·simp[intOf];omega
       |true=>
        cases hM:xf B J with
        |true=>
         have u:Hid (xk vs (a.args.take (j+1))=J):=by rw[Hid,q.out,Cy hM]
         clear q s;go_wp2_with (first|(go_at_call 154;refine(wh _ _ F).mono ?_;rintro e D ⟨rfl,f⟩;obtain rfl:=f.symm)|(go_at_call 109;refine(wk _ _ J B b (by omega)).mono ?_;rintro e D ⟨rfl,f⟩;obtain rfl:=f.symm))
         go_roundw
         ·exact⟨j+1,by omega,by go_num,n,by rw[u.out];exact b⟩
         ·simp[intOf];omega
        |false=>
         have u:Hid (xk vs (a.args.take (j+1))=J++[B]):=by rw[Hid,q.out,Fu (by rw[s,hT]) hM]
         clear q s;go_wp2_with (first|(go_at_call 154;refine(wh _ _ F).mono ?_;rintro e D ⟨rfl,f⟩;obtain rfl:=f.symm)|(go_at_call 109;refine(wk _ _ J B b (by omega)).mono ?_;rintro e D ⟨rfl,f⟩;obtain rfl:=f.symm)|(at_builtin;refine ki _ _ _ _ rfl (.tmp 65) (.tmp 74) 30 rfl H.heap.size 9 i0 _ 1 16 underlying30 hi aa af ah rfl (by decide) _ _ _ rfl b (zo _ _) _ _ rfl (by simp) rfl (by simp[Value.oneCell']) (by omega) (by omega) n.size ?_;intro v' w2 ae Y x Z av ap;clear x Z))
         go_roundw
         ·exact⟨j+1,by omega,by go_num,n.trans Y,by rw[u.out];simpa using ae⟩
         ·simp[intOf];omega
      ·have hE:a.args.take j=a.args:=xg (by omega);rw[hE] at b;clear hE;go_wp2;go_roundw
       ·exact⟨k+1,by omega,by go_num,n,by rw[W.out];exact b⟩
       ·simp[intOf];omega
  ·have ai:k=p.length:=by omega
   subst ai;go_wp2;go_ret;exact⟨_,rfl,yt b T.size,QB T m⟩
def js(x l:zj):Bool:=decide (l.pred=x.pred)&&decide (l.args.length≠x.args.length)
def ke(cs:List zd)(x:zj):Bool:=(cs.flatMap zk).any (js x)
theorem ND(cs:List zd)(k:Nat)(a:k<cs.length):(cs.drop k).flatMap zk=zk cs[k]++(cs.drop (k+1)).flatMap zk:=by rw[xn a,us]
theorem Km(w:World)(pb:Nat)(cv v1 v2:Value)(cs:List zd)(x:zj)(Y:Value)(hp:Q8 w pb #[cv,v1,v2] 45)(s:Rl lo 93 w cv cs)(u:∀c∈cs,vP c)(hl:cs.length<=1000){M:Nat}(hs:QF M w Y x.args):
  Calls prog 110 #[(π pb),.agg #[.bool x.neg,.string x.pred,Y]] w fun e w'=>e=ε (.bool (ke cs x))/\μ w w':=by
 obtain⟨ao,T,rfl⟩:=s.qx;obtain⟨O,G,rfl⟩:=hs.qx;have K:=Q7 u;clear u;go_enter func110,ntmps110;go_wp2;go_loopw [5] (fun i wr=>∃k:Nat,k<=cs.length/\i=ι k/\μ w wr/\Q8 wr w.heap.size #[.bool x.neg,.string x.pred,.slice O x.args.length G] 90/\Q8 wr pb #[.slice ao cs.length T,v1,v2] 45/\Hid (ke cs x=((cs.drop k).flatMap zk).any (js x))) (fun i _=>cs.length-(intOf i).toNat)
 case atStart=>exact⟨0,zv _,rfl,(by go_grown),Q8.new _ _ _,hp.below (by go_grown),rfl⟩
 case round=>
  obtain⟨k,hk,rfl,m,S,A,H⟩:=hrel;obtain⟨J,Q⟩:=A.rules;have ad:=m.size;by_cases q:k<cs.length
  ·obtain⟨g,aq,Z,aj,X,rfl,N⟩:=s.at k q;obtain⟨af,al⟩:=K.out _ (zs q);have v:=ND cs k q;generalize cs[k]=c at *;generalize hR:(cs.drop (k+1)).flatMap zk=rest at *;have HR:=Q7 hR;have H1:Hid (ke cs x=(zk c++rest).any (js x)):=by rw[Hid,H.out,v]
   clear hR H v;have ag:(zk c).length<=1001:=by simp[zk];omega
   go_wp2_with (go_at_call 68;refine(tS _ g (k*4) c _ _ _ _ (by exact N.below m) (by omega)).mono ?_;rintro e w1 ⟨lv,rfl,o,r⟩;obtain⟨ap,ac,rfl⟩:=o.qx;have z:=QB m r;have F:=S.below r;have D:=A.below r)
   generalize W:zk c=n at *;clear W;go_loopw [7] (fun i wj=>∃j:Nat,j<=n.length/\i=ι j/\μ w1 wj/\Hid (ke cs x=(n.drop j++rest).any (js x))) (fun i _=>n.length-(intOf i).toNat)
   case atStart=>exact⟨0,zv _,rfl,zo _ _,H1⟩
   case round=>
    clear J Q;obtain⟨j,hj,rfl,b,I⟩:=hrel;have aa:=b.size;have p:=F.below b;obtain⟨ae,ai⟩:=p.rules;by_cases y:j<n.length
    ·obtain⟨gl,ah,ab,rfl,t,V,C,E,R⟩:=o.cell j y;have am:=zl b t C;have ak:=zl b t E;have an:gl<wr.heap.size:=by omega
     have B:=xn y;clear V C E R;generalize n[j]=a at *;have f:Hid (ke cs x=(js x a||(n.drop (j+1)++rest).any (js x))):=by rw[Hid,I.out,B];rfl
     clear B I;by_cases d:a.pred=x.pred
     ·have L:=gE d;by_cases l:a.args.length=x.args.length
      ·have h:Hid (ke cs x=(n.drop (j+1)++rest).any (js x)):=by rw[Hid,f.out,js];simp[l]
       have P:((a.args.length:Int) == (x.args.length:Int))=true:=by rw[beq_iff_eq];omega
       clear f d l;generalize a.args.length=na at *;generalize a.pred=pa at *;go_wp2;go_quiet (fail)
       go_wp2;go_roundw
       ·exact⟨j+1,by omega,by go_num,zJ b _,h⟩
       ·simp[intOf];omega
      ·have h:Hid (ke cs x=true):=by rw[Hid,f.out,js];simp[d,l]
       have P:((a.args.length:Int) == (x.args.length:Int))=false:=by rw[beq_eq_false_iff_ne];omega
       clear f d l;generalize a.args.length=na at *;generalize a.pred=pa at *;go_wp2;go_quiet (fail)
       go_wp2;go_ret;exact⟨by rw[h.out];rfl,zJ (QB z b) _⟩
     ·have L:=j5 d;have h:Hid (ke cs x=(n.drop (j+1)++rest).any (js x)):=by rw[Hid,f.out,js];simp[d]
      clear f d;generalize a.pred=pa at *;go_wp2;go_quiet (fail)
      go_wp2;go_roundw
      ·exact⟨j+1,by omega,by go_num,zJ b _,h⟩
      ·simp[intOf];omega
    ·have U:Hid (ke cs x=((cs.drop (k+1)).flatMap zk).any (js x)):=by rw[Hid,I.out,uj (by omega),HR.out];rfl
     clear I;go_wp2;go_roundw
     ·exact⟨k+1,by omega,by go_num,QB z b,p,D.below b,U⟩
     ·simp[intOf];omega
  ·have U:Hid (ke cs x=false):=by rw[Hid,H.out,uj (by omega)];rfl
   clear H;go_wp2;go_ret;exact⟨by rw[U.out];rfl,m⟩
theorem mV(w:World)(pb:Nat)(c0 d h:Value)(l:κ)(n:ByteArray)(o:Q8 w pb #[c0,d,h] 45)(hs:QF lo w d l)(s:l.length<=1000):
  Calls prog 111 #[(π pb),.string n] w fun e m=>e=ε (ι (fw l n))/\m=w:=by
 obtain⟨q,u⟩:=o.rules;obtain⟨v,f,rfl⟩:=hs.qx;go_enter func111,ntmps111;go_wp2;go_loop [5] (fun i=>∃k:Nat,k<=l.length/\i=ι k/\Hid (yu l n=(yu (l.drop k) n).map (·+k))) (fun i=>l.length-(intOf i).toNat)
 case atStart=>exact⟨0,zv _,rfl,by simp[Hid]⟩
 case round=>
  obtain⟨k,r,rfl,H⟩:=hrel;by_cases a:k<l.length
  ·obtain⟨g,rfl,t,j⟩:=hs.cell k a;by_cases c:l[k]=n
   ·have p:=gE c;have b:Hid (fw l n=(k:Int)):=by unfold Hid fw;rw[H.out,oK a c];simp
    go_wp2;go_ret;exact⟨by rw[b.out];rfl,rfl⟩
   ·have p:=j5 c;have b:Hid (yu l n=(yu (l.drop (k+1)) n).map (·+(k+1))):=by
     rw[Hid,H.out,oR a c];cases yu (l.drop (k+1)) n<;>simp;omega
    go_wp2;go_round
    ·exact⟨k+1,by omega,by go_num,b⟩
    ·simp[intOf];omega
  ·have b:Hid (fw l n=-1):=by unfold Hid fw;rw[H.out,uj (by omega)];rfl
   go_wp2;go_ret;exact⟨by rw[b.out];rfl,rfl⟩
def sY(c:zd):Bool:=decide (6<c.body.length)||decide (5<(xM c).length)
def mW(l:zj):Bool:=decide (3<l.args.length)
def fO(c:zd):Bool:=sY c||(zk c).any mW
def mU(c:zd):Bool:=(xM c).all fun v=>xf v (zw c)
def mG(cs:List zd)(c:zd):Bool:=(zk c).any (ke cs)
def j6(cs:List zd):Int:=if cs.any fO then 4 else if cs.any (mG cs) then 5 else if cs.all mU then 0 else 6
theorem wP{α:Type}(l:List α)(p:α->Bool)(k:Nat)(a:k<l.length):(l.take (k+1)).any p=((l.take k).any p||p l[k]):=by rw[yL a,List.any_append];simp
theorem ES{α:Type}(l:List α)(p:α->Bool)(k:Nat)(a:k<l.length):(l.take (k+1)).all p=((l.take k).all p&&p l[k]):=by rw[yL a,List.all_append];simp
theorem Ck(w:World)(pb:Nat)(cv v1 v2:Value)(cs:List zd)(hp:Q8 w pb #[cv,v1,v2] 45)(F:Rl lo 93 w cv cs)(K:∀c∈cs,vP c/\c.body.length<=999/\yS (zk c)<=1000/\∀l∈zk c,∀t∈l.args,0<t.size)(hl:cs.length<=1000):
  Calls prog 67 #[(π pb)] w fun e w'=>e=ε (ι (j6 cs))/\μ w w':=by
 obtain⟨ao,ay,rfl⟩:=F.qx;have Z:=Q7 K;have aj:=Q7 fun c hc=>(K c hc).1;clear K;go_enter func67,ntmps67;go_wp2;go_loopw [3,4,5,6] (fun v3 v4 v5 v6 wr=>∃(k:Nat) (m a s:Bool),k<=cs.length/\v6=ι k/\v3=.bool m/\v4=.bool a/\v5=.bool s/\μ w wr/\Q8 wr pb #[.slice ao cs.length ay,v1,v2] 45/\Hid (m=(cs.take k).any fO)/\Hid (a=(cs.take k).any (mG cs))/\Hid (s=(cs.take k).all mU)) (fun _ _ _ i _=>cs.length-(intOf i).toNat)
 case atStart=>exact⟨0,false,false,true,zv _,rfl,rfl,rfl,rfl,zo _ _,hp,rfl,rfl,rfl⟩
 case round=>
  obtain⟨k,m,a,s,hk,rfl,rfl,rfl,rfl,n,V,HM,HA,HS⟩:=hrel;obtain⟨aO,aZ⟩:=V.rules;have aF:=n.size;by_cases o:k<cs.length
  ·obtain⟨g,aT,a7,aX,aB,rfl,L⟩:=F.at k o;obtain⟨⟨bc,aK⟩,aU,Y,P⟩:=Z.out _ (zs o);have al:=Q7 (wP cs fO k o);have ak:=Q7 (wP cs (mG cs) k o);have am:=Q7 (ES cs mU k o);generalize cs[k]=c at *;have B:=Q7 Y;have X:=Q7 P;have aQ:(zw c).length<=1000:=by have:=tg c.body [];unfold zw;simp at this;omega
   have ba:(xM c).length<=1000:=by have h1:=Dq c.body (xk [] c.head.args);have h2:=nB c.head.args [];unfold xM;simp at h2;omega
   have aV:(zk c).length<=1000:=by simp[zk];omega
   clear Y P;obtain⟨z,af⟩:∃z,Hid (z=((cs.take k).any fO||sY c)):=⟨_,rfl⟩;have HW:(m=true/\Hid (z=true))∨(m=false/\6<c.body.length/\Hid (z=true))∨(m=false/\¬6<c.body.length/\5<(xM c).length/\Hid (z=true))∨(m=false/\¬6<c.body.length/\¬5<(xM c).length/\Hid (z=false)):=by
    simp only[Hid,af.out,←HM.out,sY];cases m<;>by_cases h6:6<c.body.length<;>by_cases h5:5<(xM c).length<;>simp[h6,h5]
   rcases HW with⟨rfl,p⟩|⟨rfl,h6,p⟩|⟨rfl,h6,h5,p⟩|⟨rfl,h6,h5,p⟩
   all_goals
    go_wp2_with (first|(go_at_call 108;have O:=U;refine(iJ _ true g (k*4) c _ _ _ _ (by exact L.below O) (by omega) B.out X.out).mono ?_;rintro e w2 ⟨aH,rfl,N,J⟩;rw[B8] at N;obtain⟨aN,a9,rfl⟩:=N.qx;have D:=QB U J;have R:=G.below J;have f:=L.below D;have aP:=f.c3;have a5:=f.lt;have aM:=D.size;have ah:=(V.below ag).below J;clear O)|(go_at_call 108;have O:=n;refine(iJ _ false g (k*4) c _ _ _ _ (by exact L.below O) (by omega) B.out X.out).mono ?_;rintro e w1 ⟨aS,rfl,G,ag⟩;rw[LT] at G;obtain⟨aW,aD,rfl⟩:=G.qx;have U:=QB n ag;clear n O))
    go_loopw [5,10] (fun v5 aq wj=>∃(j:Nat) (E:Bool),j<=(xM c).length/\aq=ι j/\v5=.bool E/\μ w2 wj/\Hid (E=(s&&((xM c).take j).all fun v=>xf v (zw c)))) (fun _ i _=>(xM c).length-(intOf i).toNat)
    case atStart=>exact⟨0,s,zv _,rfl,rfl,zo _ _,(by simp[Hid])⟩
    case round=>
     obtain⟨j,E,hj,rfl,rfl,d,r⟩:=hrel;have aC:=d.size;by_cases T:j<(xM c).length
     ·obtain⟨ga,rfl,aw,W⟩:=R.cell j T;have aR:=zl d aw W;have a6:ga<wr.heap.size:=by omega
      have h:=ES (xM c) (fun v=>xf v (zw c)) j T;clear W;generalize (xM c)[j]=x1 at *;have az:Hid ((s&&((xM c).take (j+1)).all fun v=>xf v (zw c))=(E&&xf x1 (zw c))):=by rw[Hid,h,r.out,Bool.and_assoc]
      clear h r;cases E
      all_goals
       go_wp2_with (go_at_call 109;refine(wk _ _ (zw c) x1 (by exact N.below d) (by omega)).mono ?_;rintro e w' ⟨rfl,au⟩;obtain rfl:=au.symm)
       go_roundw
       ·exact⟨j+1,_,by omega,by go_num,rfl,d,(by rw[Hid,az.out];rfl)⟩
       ·simp[intOf];omega
     ·have a0:(xM c).take j=xM c:=xg (by omega);have an:Hid (E=(cs.take (k+1)).all mU):=by rw[Hid,r.out,a0,am.out,HS.out];rfl
      clear r;go_wp2_with (go_at_call 68;refine(tS _ g (k*4) c _ _ _ _ (by exact f.below d) (by omega)).mono ?_;rintro e w3 ⟨lv,rfl,A,ae⟩;obtain⟨bb,aE,rfl⟩:=A.qx;have ai:=QB D (QB d ae);have y:=(ah.below d).below ae)
      go_loopw [3,4,13] (fun v3 v4 a3 wq=>∃(q:Nat) (I M:Bool),q<=(zk c).length/\a3=ι q/\v3=.bool I/\v4=.bool M/\μ w3 wq/\Hid (I=(z||((zk c).take q).any mW))/\Hid (M=(a||((zk c).take q).any (ke cs)))) (fun _ _ i _=>(zk c).length-(intOf i).toNat)
      case atStart=>exact⟨0,_,a,zv _,rfl,rfl,rfl,zo _ _,(by simp[Hid,p.out]<;>omega),(by simp[Hid])⟩
      case round=>
       obtain⟨q,I,M,O,rfl,rfl,rfl,b,x,u⟩:=hrel;have aA:=b.size;by_cases H:q<(zk c).length
       ·obtain⟨gl,aL,a8,rfl,C,ab,S,Q,a4⟩:=A.cell q H;have aI:=zl b C ab;have aY:=zl b C S;have aJ:=zl b C Q;have aG:gl<wr.heap.size:=by omega
        have h:=wP (zk c) mW q H;have aa:=wP (zk c) (ke cs) q H;clear ab S Q;generalize (zk c)[q]=a1 at *;have a2:Hid ((z||((zk c).take (q+1)).any mW)=(I||mW a1)):=by rw[Hid,h,x.out,Bool.or_assoc]
        have ap:Hid ((a||((zk c).take (q+1)).any (ke cs))=(M||ke cs a1)):=by rw[Hid,aa,u.out,Bool.or_assoc]
        clear h aa x u;cases I
        all_goals cases M
        all_goals
         go_wp2_with (go_at_call 110;refine(Km _ pb _ _ _ cs a1 _ (by exact y.below b) (by exact F.below (QB ai b)) aj.out hl (by exact a4.below b)).mono ?_;rintro e w5 ⟨rfl,ax⟩)
         go_roundw
         ·exact⟨q+1,_,_,by omega,by go_num,rfl,rfl,QB b ax,(by rw[Hid,a2.out];first|rfl|(simp[mW];done)|(simp[mW];omega)),(by rw[Hid,ap.out];rfl)⟩
         ·simp[intOf];omega
       ·have ad:(zk c).take q=zk c:=xg (by omega);have av:Hid (I=(cs.take (k+1)).any fO):=by rw[Hid,x.out,ad,al.out,af.out,fO,Bool.or_assoc]
        have ar:Hid (M=(cs.take (k+1)).any (mG cs)):=by rw[Hid,u.out,ad,ak.out,HA.out];rfl
        clear x u;go_wp2;go_roundw
        ·exact⟨k+1,I,M,E,by omega,by go_num,rfl,rfl,rfl,QB ai b,y.below b,av,ar,an⟩
        ·simp[intOf];omega
  ·have ac:cs.take k=cs:=xg (by omega);rw[ac] at HM HA HS;have HW:Hid (j6 cs=if m then 4 else if a then 5 else if s then 0 else 6):=by unfold Hid j6;rw[←HM.out,←HA.out,←HS.out]
   clear HM HA HS ac;cases m
   all_goals cases a
   all_goals cases s
   all_goals
    go_wp2;go_ret;exact⟨by rw[HW.out];rfl,n⟩
end
theorem Jv(c:zd):fO c=yE c:=by
 unfold fO sY yE zk mW;rw[List.any_cons];generalize decide (6<c.body.length)=a;generalize decide (5<(xM c).length)=b;generalize decide (3<c.head.args.length)=d;generalize (c.body.any fun l=>decide (3<l.args.length))=e;cases a<;>cases b<;>cases d<;>cases e<;>rfl
theorem Gz(c:zd):mU c=xo c:=by
 rw[Bool.eq_iff_iff];unfold mU xo;rw[kh,uw,nm,kh];constructor
 ·intro h;have f:=fun v (a:v∈xM c)=>jQ.1 (h v a);refine⟨fun t d a=>f t (wl.2 ⟨a,zf d⟩),fun l b=>?_⟩;cases e:l.neg with
  |false=>rfl
  |true=>rw[m4,np,nm];exact fun t d a=>f t (wl.2 ⟨a,zb ⟨l,b,d⟩⟩)
 ·rintro⟨j,i⟩ v a;rw[jQ];obtain⟨g,h|⟨l,b,h⟩⟩:=wl.1 a
  ·exact j v h g
  ·cases e:l.neg with
   |false=>exact dG.2 ⟨g,l,b,e,h⟩
   |true=>
    have:=i l b;rw[e,m4,np,nm] at this;exact this v h g
theorem KS(cs:List zd):cs.any fO=cs.any yE:=by rw[show fO=yE from funext Jv]
theorem PD(cs:List zd):cs.all mU=cs.all xo:=by rw[show mU=xo from funext Gz]
section
variable {t:List zh}
theorem RK.stop{g:List zj}{l:zj}(h:RK t g)(c:vE t l=none):∃d∈g,js l d=true:=by
 unfold vE at c;split at c
 ·rename_i e k;obtain⟨i,j⟩:=nA k;split at c
  ·cases c
  ·rename_i f;obtain⟨d,b,a⟩:=(h.names e.name).1 (z7.2 ⟨e,i,rfl⟩);refine⟨d,b,?_⟩;unfold js;rw[uw,decide_eq_true_eq,decide_eq_true_eq];refine⟨by rw[a,j],?_⟩;rw[h.jh e i d b a];exact f
 ·cases c
theorem iO:∀(a done:List zj) (t:List zh),RK t done->match a.foldl um (some t) with
  |some f=>RK f (done++a)
  |none=>∃x∈done++a,∃y∈done++a,js x y=true
 |[],done,t,h=>by simpa using h
 |l::a,done,t,h=>by
  rw[ut];cases b:vE t l with
  |none=>
   rw[show um (some t) l=none from b,pc];obtain⟨e,c,g⟩:=h.stop b;exact⟨l,by simp,e,by simp[c],g⟩
  |some d=>
   rw[show um (some t) l=some d from b];have:=iO a (done++[l]) d (h.step b);rwa [ky] at this
theorem Ll{b:List zj}(h:RK t b){x y:zj}(d:x∈b)(g:y∈b):js x y=false:=by
 obtain⟨e,c,a⟩:=z7.1 ((h.names x.pred).2 ⟨x,d,rfl⟩);unfold js;cases f:decide (y.pred=x.pred) with
 |false=>rfl
 |true=>
  rw[decide_eq_true_eq] at f;rw[mF,decide_eq_false_iff_not,h.jh e c x d a.symm,h.jh e c y g (f.trans a.symm)];simp
theorem Fh(cs:List zd):cs.any (mG cs)=true↔∃x∈cs.flatMap zk,∃y∈cs.flatMap zk,js x y=true:=by
 simp only[mG,ke,gM,uS];constructor
 ·rintro⟨c,d,x,b,y,a,h⟩;exact⟨x,⟨c,d,b⟩,y,a,h⟩
 ·rintro⟨x,⟨c,d,b⟩,y,a,h⟩;exact⟨c,d,x,b,y,a,h⟩
theorem Oq{cs:List zd}(h:ui cs=none):cs.any (mG cs)=true:=by
 have:=iO (cs.flatMap zk) [] [] tz;unfold ui at h;rw[h] at this;rw[Fh];simpa using this
theorem ww{cs:List zd}(h:ui cs=some t):cs.any (mG cs)=false/\RK t (cs.flatMap zk):=by
 have:=iO (cs.flatMap zk) [] [] tz;unfold ui at h;rw[h] at this;simp only[pB] at this;refine⟨?_,this⟩;rw[←pS,Fh];rintro⟨x,c,y,b,a⟩;rw[Ll this c b] at a;cases a
end
section
open Go.Proofs.Tryz Go.RowKit
variable {lo:Nat}{l out:κ}{i:Nat}
def dI(out:κ)(y:ByteArray):Bool:=match out.getLast? with
 |none=>true
 |some z=>Ra z y
theorem tc(o:κ)(z y:ByteArray):dI (o++[z]) y=Ra z y:=by simp[dI]
def dO(l out:κ)(i:Nat)(k:Int):Prop:=
 (k=-1/\∀j (a:j<l.length),j<i->dI out l[j]=false)∨∃(q:Nat) (b:q<l.length),k=q/\q<i/\dI out l[q]=true/\∀j (a:j<l.length),j<i->dI out l[j]=true->Ra l[j] l[q]=false
theorem LY(l out:κ):dO l out 0 (-1):=zf ⟨rfl,fun _ _ h=>by omega⟩
theorem Jl{k:Int}(h:dO l out i k)(o:i<l.length)(e:dI out l[i]=false):dO l out (i+1) k:=by
 rcases h with⟨b,f⟩|⟨q,m,b,f,n,g⟩
 ·refine zf ⟨b,fun j c d=>?_⟩;rcases gV j i with h|h
  ·exact f j c h
  ·obtain rfl:j=i:=by omega
   exact e
 ·refine zb ⟨q,m,b,by omega,n,fun j c d a=>?_⟩;rcases gV j i with h|h
  ·exact g j c h a
  ·obtain rfl:j=i:=by omega
   rw[e] at a;cases a
theorem ED(h:dO l out i (-1))(e:i<l.length)(b:dI out l[i]=true):dO l out (i+1) i:=by
 rcases h with⟨_,d⟩|⟨q,_,g,_⟩
 ·refine zb ⟨i,e,rfl,by omega,b,fun j c f a=>?_⟩;rcases gV j i with h|h
  ·rw[d j c h] at a;cases a
  ·obtain rfl:j=i:=by omega
   exact QM _
 ·omega
theorem DL{q:Nat}(h:dO l out i q)(k:i<l.length)(p:q<l.length)(c:dI out l[i]=true)(d:Ra l[i] l[q]=true):dO l out (i+1) i:=by
 rcases h with⟨n,_⟩|⟨e,g,n,r,s,b⟩
 ·omega
 ·obtain rfl:q=e:=by omega
  refine zb ⟨i,k,rfl,by omega,c,fun j f o a=>?_⟩;rcases gV j i with h|h
  ·cases m:Ra l[j] l[i] with
   |false=>rfl
   |true=>have:=lt_trans m d;rw[b j f h a] at this;cases this
  ·obtain rfl:j=i:=by omega
   exact QM _
theorem Ba{q:Nat}(h:dO l out i q)(o:i<l.length)(c:q<l.length)(d:Ra l[i] l[q]=false):dO l out (i+1) q:=by
 rcases h with⟨m,_⟩|⟨e,g,m,p,k,b⟩
 ·omega
 ·obtain rfl:q=e:=by omega
  refine zb ⟨q,c,rfl,by omega,k,fun j f n a=>?_⟩;rcases gV j i with h|h
  ·exact b j f h a
  ·obtain rfl:j=i:=by omega
   exact d
structure RT (l out:κ):Prop where
 rising:yC out
 sub:∀x∈out,x∈l
 left:∀y∈l,y∉out->∀z∈out,Ra z y=true
 room:out.length+hX l out<=l.length
theorem Hc(l:κ):RT l []:=⟨List.Pairwise.nil,fun _ h=>(by cases h),fun _ _ _ _ h=>(by cases h),by rw[D1];simp⟩
theorem Gd{y:ByteArray}(b:yC out)(h:dI out y=true):∀z∈out,Ra z y=true:=by
 intro z a;rcases tJ out with e|⟨o,x,e⟩
 ·subst e;cases a
 ·rw[tX] at e;subst e;rw[tc] at h;rcases zI.1 a with a|a
  ·exact lt_trans ((py.1 b).2.2 z a x (by simp)) h
  ·simp at a;subst a;exact h
theorem E7{y:ByteArray}(h:∀z∈out,Ra z y=true):dI out y=true:=by
 rcases tJ out with e|⟨o,x,e⟩
 ·subst e;rfl
 ·rw[tX] at e;subst e;rw[tc];exact h x (by simp)
theorem Lh{q:Nat}(h:RT l out)(s:q<l.length)(B:dO l out l.length q):RT l (out++[l[q]])/\hX l (out++[l[q]])<hX l out:=by
 rcases B with⟨v,_⟩|⟨A,C,v,_,E,D⟩
 ·omega
 ·obtain rfl:q=A:=by omega
  have d:=Gd h.rising E;have f:l[q]∉out:=fun p=>by have:=d _ p;rw[QM] at this;cases this
  have o:=Oy (zs s) f;refine⟨⟨?_,?_,?_,?_⟩,o⟩
  ·exact py.2 ⟨h.rising,List.pairwise_singleton _ _,fun a w b t=>by simp at t;subst t;exact d a w⟩
  ·intro x c;rcases zI.1 c with c|c
   ·exact h.sub x c
   ·simp at c;subst c;exact zs s
  ·intro y r g z e;have k:y∉out:=fun p=>g (zI.2 (zf p));rcases zI.1 e with e|e
   ·exact h.left y r k z e
   ·simp at e;subst e;obtain⟨j,u,rfl⟩:=qk r;have m:=E7 (h.left _ r k);have n:=D j u u m;cases c:Ra l[q] l[j] with
    |true=>rfl
    |false=>exact zC (zI.2 (zb (by simp[t9 n c]))) g
  ·have:=h.room;simp;omega
theorem LZ(h:RT l out)(e:dO l out l.length (-1)):∀x,x∈out↔x∈l:=by
 intro x;refine⟨h.sub x,fun b=>?_⟩;rcases e with⟨_,d⟩|⟨q,_,f,_⟩
 ·false_or_by_contra
  rename_i c;obtain⟨j,a,rfl⟩:=qk b;have:=E7 (h.left _ b c);rw[d j a a] at this;cases this
 ·omega
theorem DH(w:World)(v:Value)(l:κ)(hs:QF lo w v l)(hl:l.length<=1000):
  Calls prog 69 #[v] w fun e w'=>∃v' r,e=.returned v'/\QF w.heap.size w' v' r/\yC r/\(∀x,x∈r↔x∈l)/\r.length<=l.length/\μ w w':=by
 obtain⟨i0,hi,aa,W,Q⟩:=info_parts Q0;obtain⟨ao,au,rfl⟩:=hs.qx;go_enter func69,ntmps69;go_wp2;go_loopg [3] (l.length) (fun n v3 wr=>∃out:κ,Hid (RT l out)/\hX l out<=n/\μ w wr/\wr.ownsRow w.heap.size 9 1 v3 out.length (out.map Value.string))
 case atStart=>exact⟨[],Hc l,by rw[D1];omega,zo _ _,yD _ _ _ _⟩
 case round=>
  obtain⟨out,O,al,S,E⟩:=hrel;obtain⟨av,ah,rfl⟩:=zp E;have H:=O.out.room;go_wp2;go_loopw [4,5] (fun v4 v5 wj=>∃(i:Nat) (G:Int),i<=l.length/\v5=ι i/\v4=ι G/\μ wr wj/\Hid (dO l out i G)/\Hid (G=-1∨∃(q:Nat) (_:q<l.length),G=q)) (fun _ i _=>l.length-(intOf i).toNat)
  case atStart=>exact⟨0,-1,zv _,rfl,rfl,zo _ _,LY l out,zf rfl⟩
  case round=>
   obtain⟨i,G,ai,rfl,rfl,a,d,u⟩:=hrel;have s:=QB S a;have J:=s.size;have p:=zB E a;by_cases b:i<l.length
   ·obtain⟨g,rfl,hg,M⟩:=hs.cell i b;have ak:=zl s hg M;have R:g<wr.heap.size:=by omega
    clear M;rcases tJ out with e|⟨o,z,e⟩
    ·subst e;have c:dI [] l[i]=true:=rfl;rcases u.out with B|⟨q,A,D⟩
     ·subst B;have t:=Q7 (ED d.out b c);clear d u c;generalize l[i]=x at *;go_wp2;go_quiet (fail)
      go_wp2;go_roundw
      ·exact⟨i+1,(i:Int),by omega,by go_num,rfl,zJ a _,t,zb ⟨i,b,rfl⟩⟩
      ·simp[intOf];omega
     ·subst D;obtain⟨gq,C,m,k⟩:=hs.cell q A;simp at C;subst C;have K:=zl s m k;have ae:decide ((q:Int)<0)=false:=by rw[decide_eq_false_iff_not];omega
      clear k;cases j:Ra l[i] l[q] with
      |true=>
       have t:=Q7 (DL d.out b A c j);unfold Ra at j;clear d u c;generalize l[i]=x at *;generalize l[q]=y at *;go_wp2;go_quiet (fail)
       go_wp2;go_roundw
       ·exact⟨i+1,(i:Int),by omega,by go_num,rfl,zJ a _,t,zb ⟨i,b,rfl⟩⟩
       ·simp[intOf];omega
      |false=>
       have t:=Q7 (Ba d.out b A j);unfold Ra at j;clear d u c;generalize l[i]=x at *;generalize l[q]=y at *;go_wp2;go_quiet (fail)
       go_wp2;go_roundw
       ·exact⟨i+1,(q:Int),by omega,by go_num,rfl,zJ a _,t,zb ⟨q,A,rfl⟩⟩
       ·simp[intOf];omega
    ·rw[tX] at e;subst e;obtain⟨go,Z,I,_,T,F⟩:=yx p (by simp);simp at I;obtain⟨rfl,_⟩:=I;have ar:=F o.length (.string z) (by simp);have ac:((o.length:Int)+1 == 0)=false:=by rw[beq_eq_false_iff_ne];omega
     have ag:o.length<o.length+1:=by omega
     have af:=T;have am:o.length<=1000:=by simp at H;omega
     have aq:IntKind.i64.wrap (o.length:Int)=(o.length:Int):=IntWalk.i64_in _ (by omega);clear F;cases f:Ra z l[i] with
     |true=>
      have c:dI (o++[z]) l[i]=true:=by rw[tc];exact f
      have N:Op.bytesLess l[i].toList z.toList=false:=P2 f;have V:(l[i].toList == z.toList)=false:=j5 (fun h=>by rw[h,QM] at f;cases f);clear f;rcases u.out with B|⟨q,A,D⟩
      ·subst B;have t:=Q7 (ED d.out b c);clear d u c;generalize l[i]=x at *;go_wp2;go_quiet (fail)
       go_wp2;go_roundw
       ·exact⟨i+1,(i:Int),by omega,by go_num,rfl,zJ a _,t,zb ⟨i,b,rfl⟩⟩
       ·simp[intOf];omega
      ·subst D;obtain⟨gq,C,m,k⟩:=hs.cell q A;simp at C;subst C;have K:=zl s m k;have ae:decide ((q:Int)<0)=false:=by rw[decide_eq_false_iff_not];omega
       clear k;cases j:Ra l[i] l[q] with
       |true=>
        have t:=Q7 (DL d.out b A c j);unfold Ra at j;clear d u c;generalize l[i]=x at *;generalize l[q]=y at *;go_wp2;go_quiet (fail)
        go_wp2;go_roundw
        ·exact⟨i+1,(i:Int),by omega,by go_num,rfl,zJ a _,t,zb ⟨i,b,rfl⟩⟩
        ·simp[intOf];omega
       |false=>
        have t:=Q7 (Ba d.out b A j);unfold Ra at j;clear d u c;generalize l[i]=x at *;generalize l[q]=y at *;go_wp2;go_quiet (fail)
        go_wp2;go_roundw
        ·exact⟨i+1,(q:Int),by omega,by go_num,rfl,zJ a _,t,zb ⟨q,A,rfl⟩⟩
        ·simp[intOf];omega
     |false=>
      have t:=Q7 (Jl d.out b (by rw[tc];exact f));cases N:Op.bytesLess l[i].toList z.toList with
      |true=>
       clear d f;generalize l[i]=x at *;go_wp2;go_quiet (fail)
       go_wp2;go_roundw
       ·exact⟨i+1,G,by omega,by go_num,rfl,zJ a _,t,u⟩
       ·simp[intOf];omega
      |false=>
       have V:=gE (t9 N f);clear d f;generalize l[i]=x at *;go_wp2;go_quiet (fail)
       go_wp2;go_roundw
       ·exact⟨i+1,G,by omega,by go_num,rfl,zJ a _,t,u⟩
       ·simp[intOf];omega
   ·have ab:i=l.length:=by omega
    subst ab;rcases u.out with B|⟨q,A,D⟩
    ·subst B;have HD:=Q7 (LZ O.out d.out);clear d u;go_wp2;go_ret;exact⟨_,out,rfl,p,O.out.rising,HD.out,by omega,s⟩
    ·subst D;obtain⟨gq,rfl,m,k⟩:=hs.cell q A;have K:=zl s m k;have R:gq<wr.heap.size:=by omega
     obtain⟨L,an⟩:=Lh O.out A d.out;have P:=Q7 L;clear d u k L;generalize l[q]=y at *;go_wp2_with (at_builtin;refine ki _ _ _ _ rfl (.tmp 47) (.tmp 52) 30 rfl w.heap.size 9 i0 _ 1 16 underlying30 hi aa W Q rfl (by decide) _ _ _ rfl p (zo _ _) _ _ rfl (by simp) rfl (by simp[Value.oneCell']) (by omega) (by omega) J ?_;intro v' w2 U X ad Y ap aj;clear ad Y)
     go_roundg (hX l (out++[y]))
     case measure=>omega
     case rel=>exact⟨out++[y],P,zg _,s.trans X,by simpa using U⟩
end
section
variable {ps:κ}{sv:List Nat}{k:Nat}{cs:List zd}
def vz(ps:κ)(sv:List Nat)(n:ByteArray):Nat:=match yu ps n with
 |some k=>sv.getD k 0
 |none=>0
theorem sH:∀{ps:κ} {n:ByteArray},n∈ps->∃k,yu ps n=some k
 |[],_,h=>by cases h
 |y::r,n,h=>by
  unfold yu;by_cases e:y=n
  ·exact⟨0,by rw[zc e]⟩
  ·rw[za e];rcases zx.1 h with h|h
   ·exact zC h.symm e
   ·obtain⟨k,a⟩:=sH h;exact⟨k+1,by rw[a];rfl⟩
theorem wG{n:ByteArray}(h:yu ps n=some k)(a:k<sv.length):vz ps sv n=sv[k]:=by
 unfold vz;rw[h];simp[List.getD_eq_getElem?_getD,a]
theorem KN{m:ByteArray}(h:yu ps m=some k)(e:k<sv.length)(s:Nat)(n:ByteArray):vz ps (sv.set k s) n=if n=m then s else vz ps sv n:=by
 by_cases a:n=m
 ·subst a;rw[zc rfl,wG h (by simpa using e)];simp
 ·rw[za a];unfold vz;cases f:yu ps n with
  |none=>rfl
  |some j=>
   have c:k≠j:=by
    rintro rfl;obtain⟨i,d⟩:=hO h;obtain⟨g,b⟩:=hO f;exact a (b.symm.trans d)
   simp[List.getD_eq_getElem?_getD,c]
theorem Kk(ps:κ)(k:Nat)(n:ByteArray):vz ps (List.replicate k 0) n=0:=by
 unfold vz;split
 ·simp[List.getD_eq_getElem?_getD,List.getElem?_replicate];split<;>rfl
 ·rfl
def S4(cs:List zd)(ps:κ)(sv:List Nat):Prop:=∀f,R7 cs f->∀n,vz ps sv n<=f n
theorem PL(cs:List zd)(ps:κ)(k:Nat):S4 cs ps (List.replicate k 0):=fun f _ n=>by rw[Kk];omega
theorem GK(h:S4 cs ps sv){c:zd}(d:c∈cs){l:zj}(g:l∈c.body)(i:yu ps c.head.pred=some k)(b:k<sv.length):S4 cs ps (sv.set k (vz ps sv l.pred+up l)):=by
 intro f a n;rw[KN i b];split
 ·rename_i e;have:=a c d l g;have:=h f a l.pred;rw[e];omega
 ·exact h f a n
theorem Jc(h:S4 cs ps sv)(a:∀c∈cs,∀l∈zk c,l.pred∈ps){c:zd}(d:c∈cs){l:zj}(i:l∈c.body)(e:ps.length<=vz ps sv l.pred+up l):¬∃f,R7 cs f:=by
 rintro⟨g,j⟩;obtain⟨f,b⟩:=Ef j;have o:=i6 b a (a c d c.head (by simp[zk]));have n:=b.1 c d l i;have m:=h f b.1 l.pred;omega
def RC(cs:List zd)(ps:κ)(sv:List Nat)(i:Nat):Prop:=∀c∈cs.take i,∀l∈c.body,vz ps sv l.pred+up l<=vz ps sv c.head.pred
def mt(c:zd)(ps:κ)(sv:List Nat)(k:Nat):Prop:=∀l∈c.body.take k,vz ps sv l.pred+up l<=vz ps sv c.head.pred
theorem Iz(cs:List zd)(ps:κ)(sv:List Nat):RC cs ps sv 0:=fun c a=>by simp at a
theorem N5(c:zd)(ps:κ)(sv:List Nat):mt c ps sv 0:=fun l a=>by simp at a
theorem GJ{c:zd}(h:mt c ps sv k)(b:k<c.body.length)(d:vz ps sv c.body[k].pred+up c.body[k]<=vz ps sv c.head.pred):mt c ps sv (k+1):=by
 intro l a;rw[yL b,zI] at a;rcases a with a|a
 ·exact h l a
 ·simp at a;subst a;exact d
theorem On{i:Nat}(h:RC cs ps sv i)(b:i<cs.length)(e:mt cs[i] ps sv cs[i].body.length):RC cs ps sv (i+1):=by
 intro c a;rw[yL b,zI] at a;rcases a with a|a
 ·exact h c a
 ·simp at a;subst a;intro l d;exact e l (by rw[xg (zg _)];exact d)
theorem MD(h:RC cs ps sv cs.length):R7 cs (vz ps sv):=fun c a=>h c (by rw[xg (zg _)];exact a)
theorem MA(a:S4 cs ps sv)(h:RC cs ps sv cs.length):Rp cs (vz ps sv):=⟨MD h,a⟩
theorem Aq:∀(sv:List Nat) (k s:Nat) (b:k<sv.length),(sv.set k s).sum+sv[k]=sv.sum+s
 |a::r,0,s,_=>by simp;omega
 |a::r,k+1,s,b=>by
  have:=Aq r k s (by simpa using b);simp;omega
theorem F8:∀(sv:List Nat) (M:Nat),(∀s∈sv,s<=M)->sv.sum<=sv.length*M
 |[],M,_=>by simp
 |a::r,M,h=>by
  have d:=F8 r M fun s b=>h s (by simp[b]);have c:=h a (by simp);simp only[vT,xi,fS,Nat.one_mul];omega
theorem NE{f g:ByteArray->Nat}(a:Rp cs f)(b:Rp cs g)(n:ByteArray):f n=g n:=Nat.le_antisymm (a.2 g b.1 n) (b.2 f a.1 n)
end
section
open Go.Proofs.Tryz Go.RowKit
variable {lo:Nat}
theorem Rl.but{e:TypeId}{r:Nat}{w w':World}{v:Value}{l:List zd}(h:Rl lo e w v l)(d:QJ r w w'){c:Array Value}{T:TypeId}{f:Nat×Nat}(g:w.heap[r]?=some (.cells c T f))(i:T≠9)(b:T≠90)(a:T≠e):Rl lo e w' v l:=by
 obtain⟨m,h,j⟩:=h;exact⟨m,xO h d g a,j.mono (fun _ _ k=>k.but d g i) (fun _ _ k=>k.but d g i b)⟩
structure Sn (w:World) (pb:Nat) (cv pv:Value) (cs:List zd) (ps:κ) (sv:List Nat) (wr:World):Prop where
 but:QJ pb w wr
 box:Q8 wr pb #[cv,pv,.slice (some ⟨w.heap.size,0,none⟩) ps.length ps.length] 45
 row:wr.ownsRow w.heap.size 3 1 (.slice (some ⟨w.heap.size,0,none⟩) ps.length ps.length) ps.length (sv.map Rm)
 len:sv.length=ps.length
 low:S4 cs ps sv
 top:∀s∈sv,s<ps.length
theorem Sn.cell{w:World}{pb:Nat}{c e:Value}{cs:List zd}{ps:κ}{sv:List Nat}{wr:World}(h:Sn w pb c e cs ps sv wr)(k:Nat)(i:k<sv.length):w.heap.size<wr.heap.size/\wr.cell? ⟨w.heap.size,k,none⟩=some (ι (sv[k]:Int)):=by
 obtain⟨g,b,a,_,f,d⟩:=yx h.row (by have:=h.len;omega);simp at a;obtain⟨rfl,_⟩:=a;exact⟨f,d k _ (by simp[i,Rm])⟩
theorem Sn.set{w:World}{pb:Nat}{c d:Value}{cs:List zd}{ps:κ}{sv:List Nat}{wr:World}(h:Sn w pb c d cs ps sv wr)(f:pb<w.heap.size)(k:Nat)(e:k<sv.length)(s:Nat)(hs:s<ps.length)(a:S4 cs ps (sv.set k s)):
  Sn w pb c d cs ps (sv.set k s) (wr.setCell ⟨w.heap.size,k,none⟩ (ι (s:Int))):=by
 refine⟨h.but.setNew (zg _) _,h.box.set_ne (by omega) _ _,?_,by simpa using h.len,a,?_⟩
 ·have:=uW h.row k (by simpa using e) (Rm s);rw[fu];exact this
 ·intro x b;rcases pG b with b|b
  ·exact h.top x b
  ·omega
def GR(w:World)(pb:Nat)(b c:Value)(cs:List zd)(ps:κ)(e:Ending)(w':World):Prop:=QJ pb w w'/\((e=ε (.bool false)/\¬∃f,R7 cs f)∨∃a,e=ε (.bool true)/\Sn w pb b c cs ps a w'/\Rp cs (vz ps a))
theorem IS{sv:List Nat}{k s:Nat}(a:k<sv.length)(hs:sv[k]<s):sv.sum<(sv.set k s).sum:=by have:=Aq sv k s a;omega
theorem NX{ps:κ}{sv:List Nat}(a:sv.length=ps.length)(h:∀s∈sv,s<ps.length):sv.sum<=ps.length*ps.length:=by rw[←a] at h ⊢;exact F8 sv sv.length fun s b=>by have:=h s b;omega
theorem Rl.ne{d T:TypeId}{w:World}{g n cap pb:Nat}{cs:List zd}{c:Array Value}(h:Rl lo d w (.slice (some ⟨g,0,none⟩) n cap) cs)(b:Q8 w pb c T)(j:T≠d):g≠pb:=by
 obtain⟨k,⟨_,⟨a,_⟩|⟨l,e,f,a,_,i,_⟩⟩,_⟩:=h
 ·cases a
 ·simp at a;obtain⟨rfl,_⟩:=a;rintro rfl;unfold Q8 at b;rw[i] at b;simp at b;exact j b.2.symm
theorem dU.but{w w':World}{g o:Nat}{c:zd}{k:Option Addr}{cap:Nat}{b:Option Addr}{a r:Nat}(h:dU w g o c k cap b a)(d:QJ r w w')(f:g≠r){m:Array Value}{T:TypeId}(l:Q8 w r m T)(j:T≠9)(i:T≠90):dU w' g o c k cap b a:=
 have e:∀o,w'.cell? ⟨g,o,none⟩=w.cell? ⟨g,o,none⟩:=fun _=>World.cell?_of_block (w:=w) (d.block g h.lt f)
 ⟨xP h.lt d.size,(e _).trans h.c0,(e _).trans h.c1,(e _).trans h.c2,(e _).trans h.c3,h.args.but d l j,h.body.but d l j i⟩
theorem AK(w:World)(pb:Nat)(cv pv v2:Value)(cs:List zd)(ps:κ)(hp:Q8 w pb #[cv,pv,v2] 45)(ah:Rl lo 93 w cv cs){a6:Nat}(aj:QF a6 w pv ps)(a1:∀c∈cs,vP c/\c.body.length<=999)(hl:cs.length<=1000)(x:ps.length<=1000)(ar:∀c∈cs,∀l∈zk c,l.pred∈ps):
  Calls prog 70 #[(π pb)] w fun e w'=>GR w pb cv pv cs ps e w':=by
 obtain⟨ao,F,rfl⟩:=ah.qx;obtain⟨C,o,rfl⟩:=aj.qx;obtain⟨av,an,ad⟩:=hp.boxed;have a5:=Q7 a1;have a0:=Q7 ar;have HP:=Q7 hp;have aF:=run_make_row' (P:=prog) 24 3 (ι 0) 8 underlying24 Q2 rfl .i64 .i64 ps.length (by omega) (by omega);clear a1 ar;go_enter func70,ntmps70;go_wp2;clear aF;go_loopg [4] (2*(ps.length*ps.length)+1) (fun N v3 wr=>∃(E:List Nat) (more:Bool),v3=.bool more/\Sn w pb (.slice ao cs.length F) (.slice C ps.length o) cs ps E wr/\Hid (more=false->RC cs ps E cs.length)/\2*(ps.length*ps.length-E.sum)+more.toNat<=N)
 case atStart=>
  have a8:(w.setCell ⟨pb,2,none⟩ (.slice (some ⟨w.heap.size,0,none⟩) ps.length ps.length)).heap.size=w.heap.size:=by simp[World.setCell]
  have au:=E6 (w.setCell ⟨pb,2,none⟩ (.slice (some ⟨w.heap.size,0,none⟩) ps.length ps.length)) ps.length 3 (by unfold maxLen;omega);rw[a8] at au;refine⟨List.replicate ps.length 0,true,rfl,⟨(by repeat'(first|with_reducible(first|apply xR|assumption|apply xN|apply xA|apply xD|apply xS|apply xT)|go_size)),?_,au,by simp,PL _ _ _,?_⟩,(by intro h;cases h),(by simp)⟩
  ·exact(hp.set 2 _).below zT
  ·intro s hs;rw[List.mem_replicate] at hs;omega
 case round=>
  clear av an;obtain⟨E,more,rfl,t,HC,hN⟩:=hrel;cases more with
  |false=>
   have G:=Q7 (HC.out rfl);clear HC;go_wp2;go_ret;exact⟨t.but,zb ⟨E,rfl,t,MA t.low G.out⟩⟩
  |true=>
   go_wp2;go_loopw [4,5] (fun v3 v4 wi=>∃(k:Nat) (si:List Nat) (Z:Bool),k<=cs.length/\v4=ι k/\v3=.bool Z/\Sn w pb (.slice ao cs.length F) (.slice C ps.length o) cs ps si wi/\E.sum<=si.sum/\(Z=true->E.sum<si.sum)/\Hid (Z=false->RC cs ps si k)) (fun _ i _=>cs.length-(intOf i).toNat)
   case atStart=>exact⟨0,E,false,zv _,rfl,rfl,t,zg _,(by simp),fun _=>Iz _ _ _⟩
   case round=>
    obtain⟨k,si,Z,hk,rfl,rfl,r,aG,ab,am⟩:=hrel;have A:=r.box;obtain⟨ap,a3,ay⟩:=A.boxed;by_cases L:k<cs.length
    ·obtain⟨g,aU,aK,aY,aL,rfl,H⟩:=ah.at k L;have X:=ah.ne hp (by decide);have u:=H.but r.but X hp (by decide) (by decide);have V:=aj.but r.but HP.out (by decide);obtain⟨bb,aW⟩:=a5.out _ (zs L);have O:=a0.out _ (zs L);have aa:=zs L;have ag:=Q7 fun s' (h1:RC cs ps s' k) (h2:mt cs[k] ps s' cs[k].body.length)=>On h1 L h2;generalize cs[k]=c at *;have ax:=Q7 O;have ac:=Q7 aa;have a9:=Q7 H;obtain⟨D,R⟩:=sH (O c.head (by simp[zk]));have aI:=(hO R).1;have a2:=Q7 R;have a7:Hid (fw ps c.head.pred=(D:Int)):=by unfold Hid fw;rw[R]
     have aE:=u.c1;have aq:=u.c3;have W:=u.lt;clear R O aa H;go_wp2_with (go_at_call 111;refine(mV _ pb _ _ _ ps c.head.pred A V x).mono ?_;rw[a7.out];rintro e w' ⟨rfl,b⟩;obtain rfl:=b.symm)
     go_loopw [4,8] (fun v3 v7 wj=>∃(j:Nat) (d:List Nat) (T:Bool),j<=c.body.length/\v7=ι j/\v3=.bool T/\Sn w pb (.slice (some ⟨g,0,none⟩) cs.length F) (.slice C ps.length o) cs ps d wj/\E.sum<=d.sum/\(T=true->E.sum<d.sum)/\Hid (T=false->RC cs ps d k/\mt c ps d j)) (fun _ i _=>c.body.length-(intOf i).toNat)
     case atStart=>exact⟨0,si,Z,zv _,rfl,rfl,r,aG,ab,fun h=>⟨am.out h,N5 _ _ _⟩⟩
     case round=>
      clear ap a3 aE aq u V A ay W;obtain⟨j,d,T,hj,rfl,rfl,a,M,I,y⟩:=hrel;have m:=a.box;obtain⟨ap,a3,aH⟩:=m.boxed;have K:=a9.out.but a.but X HP.out (by decide) (by decide);have q:=aj.but a.but HP.out (by decide);have aq:=K.c3;have W:=K.lt;by_cases ai:j<c.body.length
      ·obtain⟨gl,ba,aM,aA,aO,az,aT,_,_⟩:=K.body.cell j ai;subst aA;have af:=zs ai;obtain⟨kb,S⟩:=sH (ax.out c.body[j] (by simp[zk]));have aN:=(hO S).1;have aJ:=a.len;have J:kb<d.length:=by omega
       have n:D<d.length:=by omega
       have U:=wG S J;have a4:=wG a2.out n;have p:Hid (fw ps c.body[j].pred=(kb:Int)):=by unfold Hid fw;rw[S]
       have v:Hid (S4 cs ps (d.set D (d[kb]+up c.body[j]))):=by have:=GK a.low ac.out af a2.out n;rw[U] at this;exact this
       have ae:=Q7 fun h=>Jc a.low a0.out ac.out af (by rw[U];exact h);have aw:=Q7 fun h1 h2=>GJ h2 ai (by rw[U,a4];exact h1);have Y:=Q7 fun s h1 h2=>a.set ad D n s h1 h2;have B:=Q7 fun s (h:d[D]<s)=>IS n h;obtain⟨bc,aQ⟩:=a.cell kb J;obtain⟨_,aZ⟩:=a.cell D n;have aP:=qO a.row;have aX:=a.top _ (zs J);have aV:=a.top _ (zs n);clear U a4 S af;generalize d[kb]=Q at *;generalize d[D]=sh at *;generalize c.body[j]=l at *;cases f:l.neg with
       |false=>
        have z:up l=0:=by simp[up,f]
        rw[f] at az;clear f;by_cases al:sh<Q
        ·by_cases aD:ps.length<=Q
         ·omega
         ·have ak:Hid (Sn w pb (.slice (some ⟨g,0,none⟩) cs.length F) (.slice C ps.length o) cs ps (d.set D (Q)) (wr.setCell ⟨w.heap.size,D,none⟩ (ι ((Q:Nat):Int)))):=Y.out _ (by omega) (by have:=v.out;rw[z] at this;exact this);have aB:=B.out (Q) al;go_wp2_with (go_at_call 111;refine(mV _ pb _ _ _ ps l.pred m q x).mono ?_;rw[p.out];rintro e w' ⟨rfl,b⟩;obtain rfl:=b.symm)
          go_roundw
          ·exact⟨j+1,_,true,by omega,by go_num,rfl,ak.out,by omega,(fun _=>by omega),(fun h=>by cases h)⟩
          ·simp[intOf];omega
        ·have G:Hid (T=false->RC cs ps d k/\mt c ps d (j+1)):=fun h=>⟨(y.out h).1,aw.out (by rw[z];omega) (y.out h).2⟩;go_wp2_with (go_at_call 111;refine(mV _ pb _ _ _ ps l.pred m q x).mono ?_;rw[p.out];rintro e w' ⟨rfl,b⟩;obtain rfl:=b.symm)
         go_roundw
         ·exact⟨j+1,d,T,by omega,by go_num,rfl,a,M,I,G⟩
         ·simp[intOf];omega
       |true=>
        have z:up l=1:=by simp[up,f]
        rw[f] at az;clear f;by_cases al:sh<Q+1
        ·by_cases aD:ps.length<=Q+1
         ·have HF:=Q7 (ae.out (by rw[z];omega));go_wp2_with (go_at_call 111;refine(mV _ pb _ _ _ ps l.pred m q x).mono ?_;rw[p.out];rintro e w' ⟨rfl,b⟩;obtain rfl:=b.symm)
          go_ret;exact⟨a.but.setNew (zg _) _,zf ⟨rfl,HF.out⟩⟩
         ·have ak:Hid (Sn w pb (.slice (some ⟨g,0,none⟩) cs.length F) (.slice C ps.length o) cs ps (d.set D (Q+1)) (wr.setCell ⟨w.heap.size,D,none⟩ (ι ((Q+1:Nat):Int)))):=Y.out _ (by omega) (by have:=v.out;rw[z] at this;exact this);have aB:=B.out (Q+1) al;go_wp2_with (go_at_call 111;refine(mV _ pb _ _ _ ps l.pred m q x).mono ?_;rw[p.out];rintro e w' ⟨rfl,b⟩;obtain rfl:=b.symm)
          go_roundw
          ·exact⟨j+1,_,true,by omega,by go_num,rfl,ak.out,by omega,(fun _=>by omega),(fun h=>by cases h)⟩
          ·simp[intOf];omega
        ·have G:Hid (T=false->RC cs ps d k/\mt c ps d (j+1)):=fun h=>⟨(y.out h).1,aw.out (by rw[z];omega) (y.out h).2⟩;go_wp2_with (go_at_call 111;refine(mV _ pb _ _ _ ps l.pred m q x).mono ?_;rw[p.out];rintro e w' ⟨rfl,b⟩;obtain rfl:=b.symm)
         go_roundw
         ·exact⟨j+1,d,T,by omega,by go_num,rfl,a,M,I,G⟩
         ·simp[intOf];omega
      ·have HE:=Q7 fun h=>ag.out d (y.out h).1 (by have h2:=(y.out h).2;rw[show c.body.length=j from by omega];exact h2);go_wp2;go_roundw
       ·exact⟨k+1,d,T,by omega,by go_num,rfl,a,M,I,HE⟩
       ·simp[intOf];omega
    ·have aC:k=cs.length:=by omega
     have aS:=NX r.len r.top;go_wp2;go_roundg (2*(ps.length*ps.length-si.sum)+Z.toNat)
     case measure=>
      have aR:2*(ps.length*ps.length-E.sum)+1<=gk:=hN;clear hN;generalize ps.length*ps.length=nn at *;cases Z with
      |false=>simp only[Bool.toNat_false];omega
      |true=>have:=ab rfl;simp only[Bool.toNat_true];omega
     case rel=>exact⟨si,Z,rfl,r,(by rw[←aC];exact am.out),zg _⟩
end
section
variable {ps:κ}{t:List zh}{cs:List zd}
theorem F9(h:yC ps){i j:Nat}(c:i<ps.length)(b:j<ps.length)(e:ps[i]=ps[j]):i=j:=by
 unfold yC at h;rw[sK] at h;rcases pD i j with a|a|a
 ·have:=h i j c b a;rw[e,QM] at this;cases this
 ·exact a
 ·have:=h j i b c a;rw[e,QM] at this;cases this
theorem K3{sv:List Nat}(h:yC ps)(e:sv.length=ps.length){k:Nat}(b:k<ps.length):vz ps sv ps[k]=sv[k]:=by
 obtain⟨j,a⟩:=sH (zs b);obtain⟨d,c⟩:=hO a;have:=F9 h d b c;subst this;exact wG a (by omega)
theorem MH(h:yC (QA t)){k:Nat}(a:k<t.length):val t t[k].name=t[k].qh:=by
 unfold val;cases c:yo t t[k].name with
 |none=>exact zC rfl (nY h c t[k] (zs a))
 |some e=>
  obtain⟨f,b,d⟩:=jV c;have g:=F9 h (by simpa [QA] using f) (by simpa [QA] using a) (by simp[QA,b,d]);simp only;rw[←b];congr 1;congr 1
theorem sS(h:RK t (cs.flatMap zk)):km t cs:=by
 intro c a l d;cases g:yo t l.pred with
 |some e=>rfl
 |none=>
  obtain⟨e,b,f⟩:=z7.1 ((h.names l.pred).2 ⟨l,uS.2 ⟨c,a,d⟩,rfl⟩);exact zC f (nY h.rise g e b)
theorem F6(h:∀e∈t,e.qh<=0)(n:ByteArray):val t n=0:=by
 unfold val;split
 ·rename_i e a;have:=h e (nA a).1;omega
 ·rfl
inductive ff (s:ByteArray):Except Int (List zd×κ×List Nat)->Prop
 |long:500<s.size->ff s (.error 1)
 |lex:¬500<s.size->xh s.size s=none->ff s (.error 2)
 |parse {l:κ}:¬500<s.size->xh s.size s=some l->vj l=none->ff s (.error 3)
 |wrong {l:κ} {cs:List zd}:¬500<s.size->xh s.size s=some l->vj l=some cs->j6 cs≠0->ff s (.error (j6 cs))
 |strata {l:κ} {cs:List zd}:¬500<s.size->xh s.size s=some l->vj l=some cs->j6 cs=0->(¬∃f,R7 cs f)->ff s (.error 7)
 |ok {l:κ} {cs:List zd} {ps:κ} {sv:List Nat}:¬500<s.size->xh s.size s=some l->vj l=some cs->j6 cs=0->yC ps->(∀n,n∈ps↔∃x∈cs.flatMap zk,x.pred=n)->sv.length=ps.length->Rp cs (vz ps sv)->ff s (.ok (cs,ps,sv))
def tt:Except Int (List zd×List zh)->Except Int (List zd×κ×List Nat)
 |.error k=>.error k
 |.ok (cs,t)=>.ok (cs,QA t,t.map zh.qh)
theorem tG{s:ByteArray}{l:κ}(h:xh s.size s=some l):∃a,QI s=some a/\vj l=yI a.length a.length a:=by
 have b:=o8 s;rw[h] at b;cases c:QI s with
 |none=>rw[ra,c] at h;cases h
 |some a=>rw[c] at b;exact⟨a,rfl,b⟩
theorem oW:(j6 cs=4/\cs.any yE=true)∨(j6 cs=5/\cs.any yE=false/\ui cs=none)∨(∃t,cs.any yE=false/\ui cs=some t/\((j6 cs=6/\cs.all xo=false)∨(j6 cs=0/\cs.all xo=true))):=by
 unfold j6;rw[KS,PD];cases b:cs.any yE with
 |true=>exact zf ⟨rfl,rfl⟩
 |false=>
  right;cases a:ui cs with
  |none=>left;rw[Oq a];exact⟨rfl,rfl,rfl⟩
  |some t=>
   right;refine⟨t,rfl,rfl,?_⟩;rw[(ww a).1];cases c:cs.all xo with
   |true=>exact zb ⟨rfl,rfl⟩
   |false=>exact zf ⟨rfl,rfl⟩
theorem EU(h:ui cs=some t):∀e∈t,e.qh<=0:=wn _ [] (fun e a=>by cases a) t h
theorem BK{s:ByteArray}{r:Except Int (List zd×κ×List Nat)}(h:ff s r):tt (xL s)=r:=by
 cases h with
 |long h=>unfold xL;rw[zc h];rfl
 |lex h f=>
  unfold xL;rw[za h];rw[ra] at f;cases E:QI s with
  |none=>rfl
  |some p=>rw[E] at f;cases f
 |parse h f i=>
  obtain⟨p,j,d⟩:=tG f;rw[i] at d;unfold xL;rw[za h,j];simp only;rw[←d];rfl
 |wrong h f i g=>
  rename_i cs;obtain⟨p,j,d⟩:=tG f;rw[i] at d;unfold xL;rw[za h,j];simp only;rw[←d];simp only;rcases oW (cs:=cs) with⟨e,a⟩|⟨e,a,b⟩|⟨t,a,b,⟨e,c⟩|⟨e,c⟩⟩
  ·rw[e,a];rfl
  ·rw[e,a,b];rfl
  ·rw[e,a,b];simp only;rw[c];rfl
  ·exact zC e g
 |strata h f i g z=>
  rename_i cs;obtain⟨p,j,d⟩:=tG f;rw[i] at d;unfold xL;rw[za h,j];simp only;rw[←d];simp only;rcases oW (cs:=cs) with⟨e,a⟩|⟨e,a,b⟩|⟨t,a,b,⟨e,c⟩|⟨e,c⟩⟩
  ·rw[g] at e;cases e
  ·rw[g] at e;cases e
  ·rw[g] at e;cases e
  ·rw[a,b];simp only;rw[c];have q:=sQ (sS (ww b).2) (F6 (EU b));have:(xJ (t.length+1) t cs).2=false:=by rw[←pS];exact fun e=>z (q.1.1 e)
   rw[this];rfl
 |ok h f i g x K A D=>
  rename_i l cs ps I;obtain⟨p,j,d⟩:=tG f;rw[i] at d;unfold xL;rw[za h,j];simp only;rw[←d];simp only;rcases oW (cs:=cs) with⟨e,a⟩|⟨e,a,b⟩|⟨t,a,b,⟨e,c⟩|⟨e,c⟩⟩
  ·rw[g] at e;cases e
  ·rw[g] at e;cases e
  ·rw[g] at e;cases e
  ·rw[a,b];simp only;rw[c];have u:=(ww b).2;have q:=sQ (sS u) (F6 (EU b));have m:=q.1.2 ⟨_,D.1⟩;have o:=q.2 m;have C:=wD (t.length+1) t cs (sS u);rw[m];simp only[if_true,gJ,if_false,tt];generalize (xJ (t.length+1) t cs).1=B at o C;have v:=C.trans (Fj u.rise x fun n=>(u.names n).trans (K n).symm);subst v;have w:B.map zh.qh=I:=by
    apply kX (by rw[A];simp[QA]);intro k y G;have F:k<B.length:=by simpa using y
    have H:=K3 x A (k:=k) (by omega);have J:=MH x F;rw[←H,NE D o];simp only[QA,uJ];exact J.symm
   rw[w]
end
section
open Go.Proofs.Tryz Go.RowKit
variable {lo:Nat}{l:List QC}
theorem JG:∀{ts:κ} {l:List QC},fa ts l->∀t∈ts,∃y∈l,y.2=t:=by
 intro ts l h;induction h with
 |one=>intro t a;simp at a;exact⟨_,ry,a.symm⟩
 |more _ _ _ b=>
  intro t a;rcases zx.1 a with rfl|a
  ·exact⟨_,ry,rfl⟩
  ·obtain⟨y,c,e⟩:=b t a;exact⟨y,by simp[c],e⟩
theorem sq{a:zj}(h:qt a l):∀t∈a.args,∃y∈l,y.2=t:=by
 cases h with
 |bare=>intro t b;cases b
 |args _ _ d _=>intro t b;obtain⟨y,c,e⟩:=JG d t b;exact⟨y,by simp[c],e⟩
theorem Da{a:zj}(h:gN a l):∀t∈a.args,∃y∈l,y.2=t:=by
 cases h with
 |qc h=>exact sq h
 |neg _ h=>intro t b;obtain⟨y,c,e⟩:=sq h t b;exact⟨y,by simp[c],e⟩
theorem Lv:∀{b:List zj} {l:List QC},gy b l->∀a∈b,∀t∈a.args,∃y∈l,y.2=t:=by
 intro b l h;induction h with
 |one h=>intro a c;simp at c;subst c;exact Da h
 |more h _ _ g=>
  intro a c t f;rcases zx.1 c with rfl|c
  ·obtain⟨y,d,e⟩:=Da h t f;exact⟨y,by simp[d],e⟩
  ·obtain⟨y,d,e⟩:=g a c t f;exact⟨y,by simp[d],e⟩
theorem LR{c:zd}(h:dW c l):∀a∈zk c,∀t∈a.args,∃y∈l,y.2=t:=by
 cases h with
 |fact h=>intro a b;simp[zk] at b;subst b;exact sq h
 |rule h _ g=>
  intro a b t f;simp only[zk] at b;rcases zx.1 b with rfl|b
  ·obtain⟨y,d,e⟩:=sq h t f;exact⟨y,by simp[d],e⟩
  ·obtain⟨y,d,e⟩:=Lv g a b t f;exact⟨y,by simp[d],e⟩
theorem Fd:∀{cs:List zd} {l:List QC},f9 cs l->∀c∈cs,∀a∈zk c,∀t∈a.args,∃y∈l,y.2=t:=by
 intro cs l h;induction h with
 |nil=>intro c b;cases b
 |cons h _ _ i=>
  intro c b a g t f;rcases zx.1 b with rfl|b
  ·obtain⟨y,d,e⟩:=LR h a g t f;exact⟨y,by simp[d],e⟩
  ·obtain⟨y,d,e⟩:=i c b a g t f;exact⟨y,by simp[d],e⟩
structure JM (cs:List zd):Prop where
 ok:∀c∈cs,vP c/\c.body.length<=999/\yS (zk c)<=1000/\∀l∈zk c,∀t∈l.args,0<t.size
 len:cs.length<=1000
 lits:(cs.flatMap zk).length<=1000
theorem tU{s:ByteArray}{l:κ}(hs:s.size<=500)(h:xh s.size s=some l):∃a,QI s=some a/\l=zU a/\l.length<=500/\∀y∈l,0<y.size:=by
 rw[ra] at h;cases b:QI s with
 |none=>rw[b] at h;cases h
 |some a=>
  rw[b] at h;simp only[jA,zt] at h;subst h;refine⟨a,rfl,rfl,?_,?_⟩
  ·have:=sA b;simp;omega
  ·intro y c;obtain⟨x,d,rfl⟩:=z7.1 c;exact(p5 b x d).2
theorem es{s:ByteArray}{l:κ}{cs:List zd}(hs:s.size<=500)(h:xh s.size s=some l)(j:vj l=some cs):JM cs:=by
 obtain⟨e,b,rfl,u,v⟩:=tU hs h;have d:xQ e:=fun x o=>(p5 b x o).1;have k:=(oh d cs).1 j;have g:yI e.length e.length e=some cs:=by
  have:=o8 s;rw[h,b] at this;simp only[Option.bind_some] at this;rw[←this];exact j
 have w:=tF g;have m:e.length<=500:=by simpa [zU] using u
 have i:=eF (cs:=cs) (by omega);refine⟨fun c f=>⟨i c f,?_,?_,?_⟩,by have:=oX cs;omega,by have:=i8 cs;omega⟩
 ·have b:=oL f;have q:=re c.body;unfold Sr kF at b;omega
 ·have b:=oL f;have q:=re c.body;unfold Sr kF at b;simp only[zk,yS] at *;simp;omega
 ·intro a r t n;obtain⟨y,p,rfl⟩:=Fd k c f a r t n;exact(p5 b y p).2
def po(r:Except Int (List zd×κ×List Nat))(w:World)(e:Ending)(w':World):Prop:=
 μ w w'/\match r with
  |.error n=>e=ε (.tuple #[.pointer none,ι n])
  |.ok (h,g,f)=>∃a b c d,e=ε (.tuple #[(π a),ι 0])/\Q8 w' a #[b,c,d] 45/\Rl w.heap.size 93 w' b h/\QF w.heap.size w' c g/\w'.ownsRow w.heap.size 3 1 d f.length (f.map Rm)/\w.heap.size<=a
theorem G7(s:ByteArray)(w:World)(hs:500<s.size)(a:s.size<=9223372036854775807):
  Calls prog 33 #[.string s] w fun e b=>po (.error 1) w e b:=by
 go_enter func33,ntmps33;go_wp2;go_ret2
 exact⟨zo _ _,rfl⟩
theorem J1(s:ByteArray)(w:World)(hs:s.size<=500)(h:xh s.size s=none):
  Calls prog 33 #[.string s] w fun e a=>po (.error 2) w e a:=by
 have c:Hid (∀W,Calls prog 65 #[.string s] W fun e a=>μ W a/\e=ε (.tuple #[ν,.bool false])):=fun W=>by have:=sE s W hs;rw[h] at this;exact this
 clear h;go_enter func33,ntmps33;go_wp2_with (go_at_call 65;refine(c.out _).mono ?_;rintro e d ⟨b,rfl⟩;clear c)
 go_ret2
 exact⟨b,rfl⟩
theorem Pb(s:ByteArray)(w:World)(hs:s.size<=500)(l:κ)(h:xh s.size s=some l)(m:vj l=none):
  Calls prog 33 #[.string s] w fun e k=>po (.error 3) w e k:=by
 obtain⟨_,_,_,o,i⟩:=tU hs h;have d:=Q7 fun W=>by have:=sE s W hs;rw[h] at this;exact this
 have f:=Q7 fun W v j=>by have:=Ab W v l j i o;rw[m] at this;exact this
 go_enter func33,ntmps33;go_wp2_with (first|(go_at_call 65;refine(d.out _).mono ?_;rintro e t ⟨b,p,rfl,a⟩;clear d)|(go_at_call 66;refine(f.out _ _ (SV.of a)).mono ?_;rintro e r ⟨c,q,n,g,rfl⟩;clear f))
 go_ret2
 exact⟨QB b c,rfl⟩
theorem KF(s:ByteArray)(w:World)(hs:s.size<=500)(l:κ)(cs:List zd)(h:xh s.size s=some l)(B:vj l=some cs)(I:j6 cs≠0):
  Calls prog 33 #[.string s] w fun e r=>po (.error (j6 cs)) w e r:=by
 obtain⟨_,_,_,H,G⟩:=tU hs h;have i:=es hs h B;have d:=i.len;have A:=Q7 fun W=>by have:=sE s W hs;rw[h] at this;exact this
 have z:=Q7 fun W v D=>by have:=Ab W v l D G H;rw[B] at this;exact this
 have j:Hid (∀lo W o m n k,Q8 W o #[m,n,k] 45->Rl lo 93 W m cs->Calls prog 67 #[(π o)] W fun e r=>e=ε (ι (j6 cs))/\μ W r):=fun _ W o m n k C F=>Ck W o m n k cs C F i.ok d;go_enter func33,ntmps33;go_wp2_with (first|(go_at_call 65;refine(A.out _).mono ?_;rintro e K ⟨u,n,rfl,t⟩;clear A)|(go_at_call 66;refine(z.out _ _ (SV.of t)).mono ?_;rintro e E ⟨p,k,rfl,a⟩;obtain⟨g,b,rfl⟩:=a.qx;have f:=QB u p;clear z)|(go_at_call 67;refine(j.out _ _ _ _ _ _ (Q8.new _ _ _) (by exact a.below (by repeat'(first|with_reducible(first|apply zR|assumption|apply zN|apply zA|apply zD|apply zS)|go_size)))).mono ?_;rintro e J ⟨rfl,c⟩;have y:=(Q8.new E #[.slice g cs.length b,ν,ν] 45).below c;have q:=(a.below ((zo _ _).alloc (zg _) (.cells #[.slice g cs.length b,ν,ν] 45))).below c;have x:=QB (f.alloc f.size _) c;clear j))
 go_ret2
 exact⟨x,rfl⟩
theorem JH(w:World)(pb:Nat)(a b v2:Value)(cs:List zd)(ps:κ)(u:Q8 w pb #[a,b,v2] 45)(i:Rl lo 93 w a cs){n:Nat}(k:QF n w b ps)(m:∀c∈cs,vP c/\c.body.length<=999)(r:cs.length<=1000)(g:ps.length<=1000)(j:∀c∈cs,∀l∈zk c,l.pred∈ps)(x:Hid (∃f,R7 cs f)):
  Calls prog 70 #[(π pb)] w fun e o=>∃d,e=ε (.bool true)/\QJ pb w o/\Sn w pb a b cs ps d o/\Rp cs (vz ps d):=
 (AK w pb a b v2 cs ps u i k m r g j).mono fun _ _ ⟨v,t⟩=>t.elim (fun h=>zC x.out h.2) fun⟨d,s,q,p⟩=>⟨d,s,v,q,p⟩
theorem Nh(w:World)(pb:Nat)(a j v2:Value)(cs:List zd)(ps:κ)(r:Q8 w pb #[a,j,v2] 45)(d:Rl lo 93 w a cs){m:Nat}(i:QF m w j ps)(k:∀c∈cs,vP c/\c.body.length<=999)(o:cs.length<=1000)(b:ps.length<=1000)(g:∀c∈cs,∀l∈zk c,l.pred∈ps)(t:Hid (¬∃f,R7 cs f)):
  Calls prog 70 #[(π pb)] w fun e p=>e=ε (.bool false)/\QJ pb w p:=
 (AK w pb a j v2 cs ps r d i k o b g).mono fun _ _ ⟨s,q⟩=>q.elim (fun h=>⟨h.1,s⟩) fun⟨_,_,_,n⟩=>zC ⟨_,n.1⟩ t.out
theorem M0(cs:List zd)(k:Nat)(a:k<cs.length):(cs.take (k+1)).flatMap zk=(cs.take k).flatMap zk++zk cs[k]:=by rw[yL a,List.flatMap_append];simp
theorem Pi(s:ByteArray)(w:World)(hs:s.size<=500)(l:κ)(cs:List zd)(h:xh s.size s=some l)(hp:vj l=some cs)(hx:j6 cs=0):
  Calls prog 33 #[.string s] w fun e w'=>∃r,ff s r/\po r w e w':=by
 obtain⟨_,_,_,h3,h4⟩:=tU hs h;have ac:=es hs h hp;have Q:=ac.len;have V:=Q7 ac;have HW:Hid (∀W,Calls prog 65 #[.string s] W fun e w'=>μ W w'/\∃v,e=ε (.tuple #[v,.bool true])/\w'.ownsRow W.heap.size 9 1 v l.length (l.map Value.string)):=fun W=>by have:=sE s W hs;rw[h] at this;exact this
 have HC:Hid (∀W v,SV W v l->Calls prog 66 #[v] W fun e w'=>μ W w'/\∃v,e=ε (.tuple #[v,.bool true])/\Rl W.heap.size 93 w' v cs):=fun W v hv=>by have:=Ab W v l hv h4 h3;rw[hp] at this;exact this
 have aE:Hid (∀lo W pb cv v1 v2,Q8 W pb #[cv,v1,v2] 45->Rl lo 93 W cv cs->Calls prog 67 #[(π pb)] W fun e w'=>e=ε (ι 0)/\μ W w'):=fun _ W pb cv v1 v2 h1 h2=>by rw[←hx];exact Ck W pb cv v1 v2 cs h1 h2 ac.ok Q
 have aN:Hid ((¬∃f,R7 cs f)->ff s (.error 7)):=fun hn=>.strata (by omega) h hp hx hn;have a0:Hid (∀t sv,yC t->(∀n,n∈t↔∃x∈cs.flatMap zk,x.pred=n)->sv.length=t.length->Rp cs (vz t sv)->ff s (.ok (cs,t,sv))):=fun t sv h1 h2 h3 h4=>.ok (by omega) h hp hx h1 h2 h3 h4;obtain⟨i0,hi,aI,aQ,aV⟩:=info_parts Q0;clear h hp h4 ac hx;go_enter func33,ntmps33;go_wp2_with (first|(go_at_call 65;refine(HW.out _).mono ?_;rintro e w1 ⟨aD,v1,rfl,aU⟩;clear HW)|(go_at_call 66;refine(HC.out _ _ (SV.of aU)).mono ?_;rintro e w2 ⟨aW,v2,rfl,U⟩;obtain⟨aC,ai,rfl⟩:=U.qx;have G:=QB aD aW;clear HC)|(go_at_call 67;refine(aE.out _ _ _ _ _ _ (Q8.new _ _ _) (by exact U.below (by repeat'(first|with_reducible(first|apply zR|assumption|apply zN|apply zA|apply zD|apply zS)|go_size)))).mono ?_;rintro e w3 ⟨rfl,an⟩;have av:=(Q8.new w2 #[.slice aC cs.length ai,ν,ν] 45).below an;have R:=(U.below ((zo _ _).alloc (zg _) (.cells #[.slice aC cs.length ai,ν,ν] 45))).below an;have ap:=QB (G.alloc G.size _) an;clear aE))
 go_loopw [9,10] (fun v8 v9 wr=>∃k:Nat,k<=cs.length/\v9=ι k/\μ w3 wr/\wr.ownsRow w3.heap.size 9 1 v8 ((cs.take k).flatMap zk).length (((cs.take k).flatMap zk).map fun x=>Value.string x.pred)) (fun _ i _=>cs.length-(intOf i).toNat)
 case atStart=>exact⟨0,zv _,rfl,zo _ _,yD _ _ _ _⟩
 case round=>
  obtain⟨k,hk,rfl,I,D⟩:=hrel;by_cases ao:k<cs.length
  ·obtain⟨g,bo,bb,br,bd,rfl,ag⟩:=R.at k ao;have aX:=ag.below I;obtain⟨bu,bg,_,_⟩:=V.out.ok _ (zs ao);have am:=M0 cs k ao;have au:=Q7 am;have bn:((cs.take k).flatMap zk).length+(zk cs[k]).length<=1000:=by
    have h1:((cs.take (k+1)).flatMap zk).length<=(cs.flatMap zk).length:=by
     conv=>rhs;rw[←jt (k+1) cs,List.flatMap_append,yq]
     omega
    have h2:=V.out.lits;rw[am,yq] at h1;omega
   clear am ag;generalize cs[k]=c at *;obtain⟨bt,bc,rfl⟩:=zp D;have bq:(zk c).length<=1000:=by omega
   generalize (cs.take k).flatMap zk=B at *;generalize ar:zk c=y at *;have aK:=Q7 ar;clear ar;obtain⟨w4,rfl⟩:∃w4,w4=wr:=⟨wr,rfl⟩;go_wp2_with (go_at_call 68;refine(tS _ g (k*4) c _ _ _ _ aX (by omega)).mono ?_;rintro e w5 ⟨lv,rfl,X,a6⟩;rw[aK.out] at X;obtain⟨aY,aB,rfl⟩:=X.qx)
   obtain⟨xs,aS,aP⟩:=X;have aH:=QB I a6;have aj:=zB D a6;go_loopw [9,12] (fun v8 aR wj=>∃j:Nat,j<=y.length/\aR=ι j/\μ w3 wj/\wj.ownsRow 0 90 3 (.slice aY y.length aB) y.length xs/\wj.ownsRow w3.heap.size 9 1 v8 (B++y.take j).length ((B++y.take j).map fun x=>Value.string x.pred)) (fun _ i _=>y.length-(intOf i).toNat)
   case atStart=>exact⟨0,zv _,rfl,aH,aS,by simpa using aj⟩
   case round=>
    obtain⟨j,hj,rfl,al,af,u⟩:=hrel;have aA:=al.size;obtain⟨bh,ba,rfl⟩:=zp u;by_cases ax:j<y.length
    ·obtain⟨va,a1,a2,a3,a4⟩:=aP.at j y[j] (by simp[ax]);obtain⟨gl,aO,a7,_,bf,aw⟩:=yx af (by omega);simp at a7;obtain⟨rfl,rfl⟩:=a7;have bs:=aw _ _ a2;have aq:=yL ax;have a8:(y.take j).length=j:=by rw[qC];omega
     have bm:(B++y.take j).length<=1000:=by rw[yq,a8];omega
     clear a1 a2 a3 a4 aw;generalize y[j]=a at *;have HT:=Q7 aq;clear aq a8;have HQ:Hid (B++y.take (j+1)=(B++y.take j)++[a]):=by rw[Hid,HT.out,ky]
     clear HT;generalize (B++y.take j)=q at *;go_wp2_with (at_builtin;refine ki _ _ [.string a.pred] _ rfl (.tmp 54) (.tmp 60) 30 rfl w3.heap.size 9 i0 _ 1 16 underlying30 hi aI aQ aV rfl (by decide) _ _ _ rfl u (zo _ _) _ _ rfl (by simp) rfl (by simp[Value.oneCell']) (by omega) (by omega) aA ?_;intro v' w7 aM E aZ aT aF bk;clear aZ aT)
     go_roundw
     ·exact⟨j+1,by omega,by go_num,al.trans E,gx u (by decide) af aF,by rw[HQ.out];simpa using aM⟩
     ·simp[intOf];omega
    ·have he:y.take j=y:=xg (by omega);have ay:Hid ((cs.take (k+1)).flatMap zk=B++y.take j):=by rw[Hid,au.out,he]
     clear he au;generalize B++y.take j=q at *;go_wp2;go_roundw
     ·exact⟨k+1,by omega,by go_num,al,by rw[ay.out];exact u⟩
     ·simp[intOf];omega
  ·have he:cs.take k=cs:=xg (by omega);rw[he] at D;have L:=V.out.lits;clear he;generalize ad:cs.flatMap zk=Z at *;have ah:=Q7 ad;clear ad;obtain⟨aJ,a5,rfl⟩:=zp D;have az:QF w3.heap.size wr (.slice aJ Z.length a5) (Z.map zj.pred):=by simpa [QF,Function.comp_def] using D
   have S:=av.below I;obtain⟨bp,bi,be⟩:=S.boxed;have M:=R.below I;have ae:Hid (∀c∈cs,vP c/\c.body.length<=999):=fun c hc=>⟨(V.out.ok c hc).1,(V.out.ok c hc).2.1⟩;by_cases hS:∃f,R7 cs f
   ·have HS:=Q7 hS;clear hS;go_wp2_with (first|(go_at_call 69;refine(DH _ _ (Z.map zj.pred) az (by simpa using L)).mono ?_;rintro e w6 ⟨v6,t,rfl,N,T,b,m,J⟩;obtain⟨F,o,rfl⟩:=N.qx;have d:=S.below J;obtain⟨aL,aG,a9⟩:=d.boxed;have H:=M.below J;have ak:=QB ap (QB I J);have O:t.length<=1000:=(by simp at m;omega);have C:=(by simpa using d.set 1 (.slice F t.length o));have A:=(QJ.refl w2.heap.size w6).setCell 1 (.slice F t.length o);have p:=H.but A d (by decide) (by decide) (by decide);have ab:=N.but A d (by decide);have E:μ w (w6.setCell ⟨w2.heap.size,1,none⟩ (.slice F t.length o)):=ak.setCell G.size _;have P:=Q7 (fun c hc l hl=>(b _).2 (z7.2 ⟨l,(by rw[←ah.out];exact uS.2 ⟨c,hc,hl⟩),rfl⟩));have Y:=Q7 (fun n=>(b n).trans z7);clear b m)|(go_at_call 70;refine(JH _ w2.heap.size _ _ _ cs t (by exact C) (by exact p) (by exact ab) ae.out Q O P.out HS).mono ?_;rintro e w8 ⟨sv,rfl,z,K,aa⟩))
    go_ret2
    exact⟨_,a0.out t sv T Y.out K.len aa,E.trans (z.below G.size E.size),w2.heap.size,_,_,_,rfl,K.box,(p.but z C (by decide) (by decide) (by decide)).low aD.size,(ab.but z C (by decide)).low (yc ap.size I.size),by rw[K.len];exact yt K.row E.size,G.size⟩
   ·have HS:=Q7 hS;clear hS;go_wp2_with (first|(go_at_call 69;refine(DH _ _ (Z.map zj.pred) az (by simpa using L)).mono ?_;rintro e w6 ⟨v6,t,rfl,N,T,b,m,J⟩;obtain⟨F,o,rfl⟩:=N.qx;have d:=S.below J;obtain⟨aL,aG,a9⟩:=d.boxed;have H:=M.below J;have ak:=QB ap (QB I J);have O:t.length<=1000:=(by simp at m;omega);have C:=(by simpa using d.set 1 (.slice F t.length o));have A:=(QJ.refl w2.heap.size w6).setCell 1 (.slice F t.length o);have p:=H.but A d (by decide) (by decide) (by decide);have ab:=N.but A d (by decide);have E:μ w (w6.setCell ⟨w2.heap.size,1,none⟩ (.slice F t.length o)):=ak.setCell G.size _;have P:=Q7 (fun c hc l hl=>(b _).2 (z7.2 ⟨l,(by rw[←ah.out];exact uS.2 ⟨c,hc,hl⟩),rfl⟩));have Y:=Q7 (fun n=>(b n).trans z7);clear b m)|(go_at_call 70;refine(Nh _ w2.heap.size _ _ _ cs t (by exact C) (by exact p) (by exact ab) ae.out Q O P.out HS).mono ?_;rintro e w8 ⟨rfl,z⟩))
    go_ret2
    exact⟨_,aN.out HS.out,E.trans (z.below G.size E.size),rfl⟩
theorem Et(s:ByteArray)(w:World)(f:s.size<=9223372036854775807):
  Calls prog 33 #[.string s] w fun e d=>∃r,ff s r/\po r w e d:=by
 by_cases b:500<s.size
 ·exact(G7 s w b f).mono fun e d h=>⟨_,.long b,h⟩
 ·cases a:xh s.size s with
  |none=>exact(J1 s w (by omega) a).mono fun e d h=>⟨_,.lex b a,h⟩
  |some l=>
   cases c:vj l with
   |none=>exact(Pb s w (by omega) l a c).mono fun e d h=>⟨_,.parse b a c,h⟩
   |some g=>
    by_cases i:j6 g=0
    ·exact Pi s w (by omega) l g a c i
    ·exact(KF s w (by omega) l g a c i).mono fun e d h=>⟨_,.wrong b a c i,h⟩
end
section
open Go.Proofs.Tryz Go.RowKit
variable {s:ByteArray}
theorem Qd:(prog.info? 40).map (fun i=>(i.zero,i.size,i.bytes))=some (some (.agg #[.pointer none,.pointer none]),2,16):=by kernel_rfl
theorem Pn{k:Int}(h:xL s=.error k):(k != 0)=true:=by
 unfold xL at h;repeat'(split at h)
 all_goals first|(cases h;rfl)|cases h
theorem KK{k:Int}(h:xL s=.error k)(w:World)(b:s.size<=9223372036854775807):Calls prog 33 #[.string s] w fun e c=>e=ε (.tuple #[.pointer none,ι k])/\μ w c:=
 (Et s w b).mono fun _ _ ⟨r,g,d,f⟩=>by
  have a:=BK g;rw[h] at a;simp only[tt] at a;subst a;exact⟨f,d⟩
def jS(lo:Nat)(w:World)(pb:Nat)(cs:List zd)(t:List zh):Prop:=lo<=pb/\∃a c b,Q8 w pb #[a,c,b] 45/\Rl lo 93 w a cs/\QF lo w c (QA t)/\w.ownsRow lo 3 1 b t.length ((t.map zh.qh).map Rm)
theorem Nk{cs:List zd}{t:List zh}(h:xL s=.ok (cs,t))(w:World)(c:s.size<=9223372036854775807):Calls prog 33 #[.string s] w fun e d=>∃a,e=ε (.tuple #[(π a),ι 0])/\jS w.heap.size d a cs t/\μ w d:=
 (Et s w c).mono fun _ _ ⟨r,q,n,o⟩=>by
  have b:=BK q;rw[h] at b;simp only[tt] at b;subst b;obtain⟨a,f,k,j,u,m,g,i,p,l⟩:=o;exact⟨a,u,⟨l,f,k,j,m,g,i,by simpa using p⟩,n⟩
theorem Nr{k:Int}(h:xL s=.error k)(w:World)(a:s.size<=9223372036854775807):Calls prog 32 #[.string s] w fun e c=>e=ε (.tuple #[.pointer none,ι k])/\μ w c:=
 (Aw s w a).mono fun _ _ ⟨d,b⟩=>by rw[h] at b;exact⟨b,d⟩
theorem J3{cs:List zd}{t:List zh}(h:xL s=.ok (cs,t))(w:World)(b:s.size<=9223372036854775807):Calls prog 32 #[.string s] w fun e d=>∃a,e=ε (.tuple #[(π a),ι 0])/\ks w.heap.size d a cs t/\μ w d:=
 (Aw s w b).mono fun _ _ ⟨l,c⟩=>by
  rw[h] at c;obtain⟨a,v,i,m,j,f,k,g⟩:=c;exact⟨a,m,⟨g,v,i,j,f,k⟩,l⟩
end
section
open Go.RowKit
variable {lo:Nat}
theorem jS.below{w w':World}{pb:Nat}{cs:List zd}{t:List zh}(h:jS lo w pb cs t)(a:μ w w'):jS lo w' pb cs t:=by
 obtain⟨d,b,f,e,j,g,i,c⟩:=h;exact⟨d,b,f,e,j.below a,g.below a,i.below a,zB c a⟩
end
section
open Go.RowKit
variable {lo:Nat}{s w:World}
def RL(lo:Nat)(s w:World):Prop:=∀b,lo<=b->b<s.heap.size->w.heap[b]?=s.heap[b]?
theorem rz{e:TypeId}{a:Nat}{v:Value}{n:Nat}{xs:List Value}(h:s.ownsRow lo e a v n xs)(hs:RL lo s w):w.ownsRow lo e a v n xs:=by
 obtain⟨l,d⟩:=h;refine⟨l,?_⟩;rcases d with d|⟨g,c,b,j,i,f,k⟩
 ·exact zf d
 ·refine zb ⟨g,c,b,j,i,?_,k⟩;rw[hs g i (kz.1 f).1];exact f
theorem Q8.same{b:Nat}{c:Array Value}{T:TypeId}(h:Q8 s b c T)(a:lo<=b)(hs:RL lo s w):Q8 w b c T:=by
 have:=h.lt;unfold Q8 at *;rw[hs b a this];exact h
theorem QF.same{v:Value}{l:κ}(h:QF lo s v l)(hs:RL lo s w):QF lo w v l:=rz h hs
theorem Rg.same{s w:World}{v:Value}{l:List zj}(h:Rg lo s v l)(hs:RL lo s w):Rg lo w v l:=by
 obtain⟨a,b,c⟩:=h;exact⟨a,rz b hs,c.mono fun _ _ q=>q.same hs⟩
theorem Rl.same{T:TypeId}{s w:World}{v:Value}{l:List zd}(h:Rl lo T s v l)(hs:RL lo s w):Rl lo T w v l:=by
 obtain⟨a,b,c⟩:=h;exact⟨a,rz b hs,c.mono (fun _ _ q=>q.same hs) (fun _ _ q=>q.same hs)⟩
theorem ks.same{s w:World}{pb:Nat}{cs:List zd}{t:List zh}(h:ks lo s pb cs t)(hs:RL lo s w):ks lo w pb cs t:=by
 obtain⟨a,v,c,b,d,e⟩:=h;exact⟨a,v,c,b.same a hs,d.same hs,rz e hs⟩
theorem jS.same{s w:World}{pb:Nat}{cs:List zd}{t:List zh}(h:jS lo s pb cs t)(hs:RL lo s w):jS lo w pb cs t:=by
 obtain⟨a,b,e,d,i,f,g,c⟩:=h;exact⟨a,b,e,d,i.same a hs,f.same hs,g.same hs,rz c hs⟩
theorem ks.low{a b:Nat}{w:World}{pb:Nat}{cs:List zd}{t:List zh}(h:ks b w pb cs t)(c:a<=b):ks a w pb cs t:=by
 obtain⟨i,v,d,g,e,f⟩:=h;exact⟨by omega,v,d,g,e.low c,yt f c⟩
theorem jS.low{a b:Nat}{w:World}{pb:Nat}{cs:List zd}{t:List zh}(h:jS b w pb cs t)(c:a<=b):jS a w pb cs t:=by
 obtain⟨l,d,g,f,k,i,j,e⟩:=h;exact⟨by omega,d,g,f,k,i.low c,j.low c,yt e c⟩
structure oi (cs:List zd) (t:List zh):Prop where
 len:cs.length<=1000
 names:t.length<=1000
 fine:∀c∈cs,ir c/\vP c/\c.body.length<=6/\yS (zk c)<=1000
 rise:yC (QA t)
abbrev lm:=Nat×Nat×List zd×List zh
def lw(B:Nat)(w:World)(a:List Nat)(p:lm):Prop:=∃(lo:Nat) (s:World),B<=lo/\ks lo s p.1 p.2.2.1 p.2.2.2/\jS lo s p.2.1 p.2.2.1 p.2.2.2/\oi p.2.2.1 p.2.2.2/\RL lo s w/\s.heap.size<=w.heap.size/\∀b∈a,b<lo∨s.heap.size<=b
theorem lw.save{B:Nat}{w':World}{d a N:List Nat}{p:lm}(h:lw B w d p)(hs:ze N w w')(n:∀b∈N,b∈d)(c:∀b∈a,b∈d∨w.heap.size<=b):lw B w' a p:=by
 obtain⟨lo,s,l,k,o,q,i,j,g⟩:=h;refine⟨lo,s,l,k,o,q,fun b f e=>?_,yc j hs.size,fun b m=>?_⟩
 ·rw[hs.block b (by omega) (fun c=>by have:=g b (n b c);omega)];exact i b f e
 ·rcases c b m with h|h
  ·exact g b h
  ·right;omega
theorem lw.new{B lo:Nat}{a:List Nat}{pb c:Nat}{cs:List zd}{t:List zh}(d:B<=lo)(i:ks lo w pb cs t)(g:jS lo w c cs t)(h:oi cs t)(e:∀b∈a,b<lo):lw B w a (pb,c,cs,t):=
 ⟨lo,w,d,i,g,h,fun _ _ _=>rfl,zg _,fun b f=>zf (e b f)⟩
def kZ(ps:List lm):List Value:=ps.flatMap fun p=>[.pointer (some ⟨p.1,0,none⟩),.pointer (some ⟨p.2.1,0,none⟩)]
end
end Go.Proofs.YteampbddflhngaaGreat
