import Derived.Laws.AppendOwnNone
import Derived.Laws.Cover3
import Derived.Test.YteampbddflhngaaGreatZ11
import Derived.Test.YteampbddflhngaaGreatZ12
import Derived.Test.YteampbddflhngaaGreatZ18
namespace Go.Proofs.YteampbddflhngaaGreat
set_option linter.all false
set_option maxRecDepth 100000
set_option maxHeartbeats 40000000
section
open Go.Proofs.Tryz Go.RowKit
variable {lo:Nat}
theorem tM(w:World)(v:Value)(vs:κ)(t:ByteArray)(hs:QD lo w v vs)(n:vs.length<=1000):
  Calls prog 109 #[v,.string t] w fun e l=>e=ε (.bool (xf t vs))/\l=w:=by
 obtain⟨p,j,rfl⟩:=hs.qx;go_enter func109,ntmps109;go_wp2;go_loop [5] (fun i=>∃k:Nat,k<=vs.length/\i=ι k/\Hid (t∈vs↔t∈vs.drop k)) (fun i=>vs.length-(intOf i).toNat)
 case atStart=>exact⟨0,zv _,rfl,by simp[Hid]⟩
 case round=>
  obtain⟨k,q,rfl,H⟩:=hrel;by_cases a:k<vs.length
  ·obtain⟨g,rfl,o,m⟩:=hs.cell k a;have d:=xp a;generalize vs[k]=x at *;have f:=Q5 d;by_cases c:x=t
   ·have h:=gi c;have b:Hid (t∈vs):=by rw[Hid,H.out,f.out,c];simp
    go_wp2;go_ret;exact⟨by rw[ka.2 b.out];rfl,rfl⟩
   ·have h:=jz c;have b:Hid (t∈vs↔t∈vs.drop (k+1)):=by rw[Hid,H.out,f.out];simp[Ne.symm c]
    go_wp2;go_round
    case rel=>exact⟨k+1,by omega,by go_num,b⟩
    case measure=>simp[intOf];omega
  ·have b:Hid (t∉vs):=by rw[Hid,H.out,ue (by omega)];simp
   go_wp2;go_ret;exact⟨by rw[ru.2 b.out];rfl,rfl⟩
theorem uI.one{w:World}:∀{b:List zj} {xs:List Value},uI lo w b xs->∀u∈xs,u.oneCell'=true
 |[],_,h,u,a=>by simp only[uI] at h;subst h;cases a
 |_::b,_,h,u,a=>by
  obtain⟨v,r,rfl,c,e⟩:=h;obtain⟨f,d,rfl⟩:=c.qx;simp only[zx] at a;rcases a with rfl|rfl|rfl|a
  ·rfl
  ·rfl
  ·rfl
  ·exact uI.one e u a
structure dY (w:World) (g o:Nat) (c:zd) (ao:Option Addr) (cap:Nat) (aob:Option Addr) (capb:Nat):Prop where
 lt:g<w.heap.size
 c0:w.cell? ⟨g,o,none⟩=some (.bool c.head.neg)
 c1:w.cell? ⟨g,o+1,none⟩=some (.string c.head.pred)
 c2:w.cell? ⟨g,o+2,none⟩=some (.slice ao c.head.args.length cap)
 c3:w.cell? ⟨g,o+3,none⟩=some (.slice aob c.body.length capb)
 args:QD 0 w (.slice ao c.head.args.length cap) c.head.args
 body:Re 0 w (.slice aob c.body.length capb) c.body
theorem dY.below{w w':World}{g o:Nat}{c:zd}{e:Option Addr}{cap:Nat}{d:Option Addr}{a:Nat}(h:dY w g o c e cap d a)(b:μ w w'):dY w' g o c e cap d a:=
 ⟨xP h.lt b.size,(b.cell (p:=⟨g,o,none⟩) h.lt).trans h.c0,(b.cell (p:=⟨g,o+1,none⟩) h.lt).trans h.c1,(b.cell (p:=⟨g,o+2,none⟩) h.lt).trans h.c2,(b.cell (p:=⟨g,o+3,none⟩) h.lt).trans h.c3,h.args.below b,h.body.below b⟩
theorem Rh.at{T:TypeId}{w:World}{e:Option Addr}{n cap:Nat}{cs:List zd}(h:Rh lo T w (.slice e n cap) cs)(k:Nat)(o:k<cs.length):∃g c b d a,e=some ⟨g,0,none⟩/\dY w g (k*4) cs[k] c b d a:=by
 obtain⟨g,c,b,d,a,i,m,l,r,p,j,f,q⟩:=h.cell k o;exact⟨g,c,b,d,a,i,m,l,r,p,j,f.low (zv _),q.low (zv _)⟩
theorem tG(w:World)(g o:Nat)(c:zd)(l:Option Addr)(cap:Nat)(z:Option Addr)(f:Nat)(h:dY w g o c l cap z f)(hl:c.body.length<=1000):
  Calls prog 68 #[.pointer (some ⟨g,o,none⟩)] w fun e m=>∃v,e=.returned v/\Re 0 m v (zk c)/\μ w m:=by
 obtain⟨S,N,A,K,B⟩:=info_parts Q2;have Z:=h.lt;have h0:=h.c0;have h1:=h.c1;have h2:=h.c2;have h3:=h.c3;obtain⟨x,r,n⟩:=h.body;have d:=(zo w.heap.size w).alloc (zg _) (.cells #[.bool c.head.neg,.string c.head.pred,.slice l c.head.args.length cap] 90);have b:(w.alloc (.cells #[.bool c.head.neg,.string c.head.pred,.slice l c.head.args.length cap] 90)).ownsRow w.heap.size 90 3 (.slice (some ⟨w.heap.size,0,none⟩) 1 1) 1 [.bool c.head.neg,.string c.head.pred,.slice l c.head.args.length cap]:=
  ⟨rfl,zb ⟨w.heap.size,1,_,rfl,zg _,Q6.new w _ _,zg _,by unfold maxLen;omega,rfl,rfl⟩⟩
 have E:=r.1;have D:=uI.one n;have i:∀m,μ w m->uI 0 m (zk c) ([.bool c.head.neg,.string c.head.pred,.slice l c.head.args.length cap]++x):=fun m P=>⟨_,_,rfl,h.args.below P,n.mono fun _ _ q=>q.below P⟩;have a:=Q5 i;have t:=r;obtain⟨_,⟨s,hn⟩|⟨F,Q,V,s,X,R,aa,U,Y,W⟩⟩:=t
 ·simp at s;obtain⟨rfl,M,rfl⟩:=s;have C:x=[]:=rW (by omega);go_enter func68,ntmps68;go_wp2_with (at_builtin;refine wpList_append_own_none rfl (.tmp 9) (.tmp 13) 91 rfl w.heap.size 90 S 3 underlying91 N _ _ _ rfl b rfl ?_)
  go_ret;refine⟨_,rfl,⟨_,?_,a.out _ d⟩,d⟩;rw[C,qQ];simpa [zk,M] using yr b (zv _)
 ·simp at s;obtain⟨rfl,_,rfl⟩:=s;have J:∀j u,x[j]?=some u->(w.alloc (.cells #[.bool c.head.neg,.string c.head.pred,.slice l c.head.args.length cap] 90)).cell? (Addr.add ⟨F,0,none⟩ j)=some u:=fun j u y=>by
   rw[Addr.add_lit,vz,d.cell (p:=⟨F,j,none⟩) (kQ.1 R).1];unfold World.cell?;rw[R];simp;rw[←W,lJ] at y;split at y
   ·simpa using y
   ·simp at y
  have H:=Q5 J;have I:=Q5 D;go_enter func68,ntmps68;go_wp2_with (at_builtin;refine wpList_append_own _ rfl (.tmp 9) (.tmp 13) 91 rfl w.heap.size 90 S _ 3 48 underlying91 N A K B rfl (by decide) _ _ _ rfl b ⟨F,0,none⟩ c.body.length f x rfl E H.out I.out (by unfold maxLen;omega) (by omega) (by simp) ?_;intro v' w2 L G _)
  go_ret;have O:=d.grown G (by simp) (fun k T=>by cases T;exact zg _);refine⟨_,rfl,⟨_,?_,a.out _ O⟩,O⟩;rw[show(zk c).length=1+c.body.length by simp[zk];omega];exact yr L (zv _)
def nu(qc first:Bool)(vs:κ)(l:zj):κ:=if qc&&(first||l.neg) then vs else xn vs l.args
def qU(qc:Bool)(a:List zj):Nat->κ
 |0=>[]
 |k+1=>match a[k]? with
  |none=>qU qc a k
  |some l=>nu qc (k == 0) (qU qc a k) l
theorem tg(qc:Bool)(a:List zj)(k:Nat)(b:k<a.length):qU qc a (k+1)=nu qc (k == 0) (qU qc a k) a[k]:=by
 rw[qU,yq b]
theorem KW(qc first:Bool)(vs:κ)(l:zj):(nu qc first vs l).length<=vs.length+l.args.length:=by
 unfold nu;split
 ·omega
 ·exact nF l.args vs
theorem EL(qc:Bool)(a:List zj):∀k,k<=a.length->(qU qc a k).length<=yU (a.take k)
 |0,_=>by simp[qU]
 |k+1,d=>by
  rw[tg qc a k (by omega),yM (by omega),Oc];have b:=EL qc a k (by omega);have c:=KW qc (k == 0) (qU qc a k) a[k];omega
theorem PF(c:zd):qU false (zk c) (zk c).length=xM c:=by
 have a:∀k,k<=c.body.length->qU false (zk c) (k+1)=(c.body.take k).foldl kO (xn [] c.head.args):=by
  intro k;induction k with
  |zero=>intro _;rfl
  |succ k b=>
   intro d;rw[tg _ _ _ (by simp[zk];omega),b (by omega),yM (by omega),j7];rfl
 have:=a c.body.length (zg _);rw[vw] at this;exact this
theorem Ff(c:zd):qU true (zk c) (zk c).length=zw c:=by
 have a:∀k,k<=c.body.length->qU true (zk c) (k+1)=(c.body.take k).foldl vS []:=by
  intro k;induction k with
  |zero=>intro _;rfl
  |succ k b=>
   intro d;rw[tg _ _ _ (by simp[zk];omega),b (by omega),yM (by omega),j7];simp only[ut,List.foldl_nil,nu,vS,zk,nf];simp
 have:=a c.body.length (zg _);rw[vw] at this;exact this
theorem o9(w:World)(qc:Bool)(g o:Nat)(c:zd)(ao:Option Addr)(cap:Nat)(P:Option Addr)(B:Nat)(h:dY w g o c ao cap P B)(hl:c.body.length<=999)(ar:yU (zk c)<=1000)(hz:∀l∈zk c,∀t∈l.args,0<t.size):
  Calls prog 108 #[.pointer (some ⟨g,o,none⟩),.bool qc] w fun e D=>∃v,e=.returned v/\QD w.heap.size D v (qU qc (zk c) (zk c).length)/\μ w D:=by
 obtain⟨i0,hi,ab,al,ac⟩:=info_parts Qq;have ax:(zk c).length<=1000:=by simp[zk];omega
 have HZ:=Q5 hz;have Q:=tG w g o c ao cap P B h (by omega);clear hz;generalize zk c=q at *;go_enter func108,ntmps108;go_wp2_with (go_at_call 68;refine Q.mono ?_;rintro e I ⟨lv,rfl,A,R⟩;obtain⟨ay,an,rfl⟩:=A.qx;clear Q)
 go_loopw [5,7] (fun v5 v7 wr=>∃k:Nat,k<=q.length/\v7=ι k/\μ I wr/\wr.ownsRow I.heap.size 9 1 v5 (qU qc q k).length ((qU qc q k).map Value.string)) (fun _ i _=>q.length-(intOf i).toNat)
 case atStart=>exact⟨0,zv _,rfl,zo _ _,yC _ _ _ _⟩
 case round=>
  obtain⟨k,hk,rfl,n,b⟩:=hrel;have T:=n.size;by_cases x:k<q.length
  ·obtain⟨gl,aw,aq,rfl,H,U,ag,s,X⟩:=A.cell k x;have E:=zl n H U;have K:=zl n H s;have ad:gl<wr.heap.size:=by omega
   have z:=tg qc q k x;have a0:=EL qc q k (by omega);have N:=rm q k x;rw[yq x] at N;simp only[jy,ur] at N;have Z:=Q5 (HZ.out _ (zs x));generalize q[k]=a at *;generalize aa:qU qc q k=vs at *;have W:=Q5 z;clear z aa U ag;by_cases d:(qc&&((k == 0)||a.neg))=true
   ·have V:Hid (qU qc q (k+1)=vs):=by rw[Hid,W.out,nu,d];rfl
    simp only[ux,dX,beq_iff_eq] at d;obtain⟨rfl,d⟩:=d;clear W s;by_cases S:k=0
    ·subst S;go_wp2;go_roundw
     case rel=>exact⟨0+1,by omega,by go_num,n,by rw[V.out];exact b⟩
     case measure=>simp[intOf];omega
    ·have ak:((k:Int) == 0)=false:=by rw[beq_eq_false_iff_ne];omega
     have r:=d.resolve_left S;rw[r] at E;go_wp2;go_roundw
     case rel=>exact⟨k+1,by omega,by go_num,n,by rw[V.out];exact b⟩
     case measure=>simp[intOf];omega
   ·have V:Hid (qU qc q (k+1)=xn vs a.args):=by rw[Hid,W.out,nu,za d]
    clear W;have M:qc=false∨(qc=true/\((k:Int) == 0)=false/\a.neg=false):=by
     cases qc with
     |false=>exact zf rfl
     |true=>
      right;simp only[mY,dX,beq_iff_eq,not_or,p7] at d;exact⟨rfl,by rw[beq_eq_false_iff_ne];omega,d.2⟩
    clear d;rcases M with rfl|⟨rfl,ak,r⟩
    all_goals
     (try rw[r] at E)
     go_wp2;go_loopw [5,8] (fun v5 v8 wj=>∃j:Nat,j<=a.args.length/\v8=ι j/\μ I wj/\wj.ownsRow I.heap.size 9 1 v5 (xn vs (a.args.take j)).length ((xn vs (a.args.take j)).map Value.string)) (fun _ i _=>a.args.length-(intOf i).toNat)
     case atStart=>exact⟨0,zv _,rfl,n,b⟩
     case round=>
      clear E K b n T ad;obtain⟨j,hj,rfl,m,b⟩:=hrel;have am:=m.size;have K:=zl m H s;have av:gl<wr.heap.size:=by omega
      by_cases G:j<a.args.length
      ·obtain⟨ga,rfl,aj,O⟩:=X.cell j G;have az:=zl m aj O;have ap:ga<wr.heap.size:=by omega
       have F:=Z.out _ (zs G);have z:=Be vs a.args j G;have ai:=nF (a.args.take j) vs;have L:(a.args.take j).length=j:=by simp;omega
       rw[L] at ai;clear O L;generalize a.args[j]=C at *;generalize xn vs (a.args.take j)=J at *;have p:=Q5 z;clear z;have u:zO C=vO (QE C 0):=rfl;cases hT:vO (QE C 0) with
       |false=>
        have y:Hid (xn vs (a.args.take (j+1))=J):=by rw[Hid,p.out,DE (by rw[u,hT])]
        clear p u;go_wp2_with (first|(go_at_call 154;refine(wu _ _ F).mono ?_;rintro e D ⟨rfl,f⟩;obtain rfl:=f.symm)|(go_at_call 109;refine(tM _ _ J C b (by omega)).mono ?_;rintro e D ⟨rfl,f⟩;obtain rfl:=f.symm))
        go_roundw
        case rel=>exact⟨j+1,by omega,by go_num,m,by rw[y.out];exact b⟩
        case measure=>simp[intOf];omega
       |true=>
        cases hM:xf C J with
        |true=>
         have y:Hid (xn vs (a.args.take (j+1))=J):=by rw[Hid,p.out,Eu hM]
         clear p u;go_wp2_with (first|(go_at_call 154;refine(wu _ _ F).mono ?_;rintro e D ⟨rfl,f⟩;obtain rfl:=f.symm)|(go_at_call 109;refine(tM _ _ J C b (by omega)).mono ?_;rintro e D ⟨rfl,f⟩;obtain rfl:=f.symm))
         go_roundw
         case rel=>exact⟨j+1,by omega,by go_num,m,by rw[y.out];exact b⟩
         case measure=>simp[intOf];omega
        |false=>
         have y:Hid (xn vs (a.args.take (j+1))=J++[C]):=by rw[Hid,p.out,E8 (by rw[u,hT]) hM]
         clear p u;go_wp2_with (first|(go_at_call 154;refine(wu _ _ F).mono ?_;rintro e D ⟨rfl,f⟩;obtain rfl:=f.symm)|(go_at_call 109;refine(tM _ _ J C b (by omega)).mono ?_;rintro e D ⟨rfl,f⟩;obtain rfl:=f.symm)|(at_builtin;refine ks _ _ _ _ rfl (.tmp 65) (.tmp 74) 30 rfl I.heap.size 9 i0 _ 1 16 underlying30 hi ab al ac rfl (by decide) _ _ _ rfl b (zo _ _) _ _ rfl (by simp) rfl (by simp[Value.oneCell']) (by omega) (by omega) m.size ?_;intro v' w2 Y ae s af a1 au;clear s af))
         go_roundw
         case rel=>exact⟨j+1,by omega,by go_num,m.trans ae,by rw[y.out];simpa using Y⟩
         case measure=>simp[intOf];omega
      ·have hE:a.args.take j=a.args:=xh (by omega);rw[hE] at b;clear hE;go_wp2;go_roundw
       case rel=>exact⟨k+1,by omega,by go_num,m,by rw[V.out];exact b⟩
       case measure=>simp[intOf];omega
  ·have ah:k=q.length:=by omega
   subst ah;go_wp2;go_ret;exact⟨_,rfl,yr b R.size,Q9 R n⟩
def jn(x l:zj):Bool:=decide (l.pred=x.pred)&&decide (l.args.length≠x.args.length)
def jI(cs:List zd)(x:zj):Bool:=(cs.flatMap zk).any (jn x)
theorem MO(cs:List zd)(k:Nat)(a:k<cs.length):(cs.drop k).flatMap zk=zk cs[k]++(cs.drop (k+1)).flatMap zk:=by rw[xp a,uw]
theorem Mu(w:World)(pb:Nat)(cv v1 v2:Value)(cs:List zd)(x:zj)(va:Value)(hp:Q6 w pb #[cv,v1,v2] 45)(u:Rh lo 93 w cv cs)(D:∀c∈cs,vR c)(hl:cs.length<=1000){P:Nat}(hs:QD P w va x.args):
  Calls prog 110 #[(π pb),.agg #[.bool x.neg,.string x.pred,va]] w fun e w'=>e=ε (.bool (jI cs x))/\μ w w':=by
 obtain⟨ao,V,rfl⟩:=u.qx;obtain⟨N,y,rfl⟩:=hs.qx;have S:=Q5 D;clear D;go_enter func110,ntmps110;go_wp2;go_loopw [5] (fun i wr=>∃k:Nat,k<=cs.length/\i=ι k/\μ w wr/\Q6 wr w.heap.size #[.bool x.neg,.string x.pred,.slice N x.args.length y] 90/\Q6 wr pb #[.slice ao cs.length V,v1,v2] 45/\Hid (jI cs x=((cs.drop k).flatMap zk).any (jn x))) (fun i _=>cs.length-(intOf i).toNat)
 case atStart=>exact⟨0,zv _,rfl,(by go_grown),Q6.new _ _ _,hp.below (by go_grown),rfl⟩
 case round=>
  obtain⟨k,hk,rfl,m,M,C,H⟩:=hrel;obtain⟨L,T⟩:=C.rules;have ac:=m.size;by_cases r:k<cs.length
  ·obtain⟨g,ap,Y,an,X,rfl,U⟩:=u.at k r;obtain⟨am,af⟩:=S.out _ (zs r);have F:=MO cs k r;generalize cs[k]=c at *;generalize hR:(cs.drop (k+1)).flatMap zk=rest at *;have HR:=Q5 hR;have H1:Hid (jI cs x=(zk c++rest).any (jn x)):=by rw[Hid,H.out,F]
   clear hR H F;have ae:(zk c).length<=1001:=by simp[zk];omega
   go_wp2_with (go_at_call 68;refine(tG _ g (k*4) c _ _ _ _ (by exact U.below m) (by omega)).mono ?_;rintro e w1 ⟨lv,rfl,o,q⟩;obtain⟨al,ab,rfl⟩:=o.qx;have z:=Q9 m q;have s:=M.below q;have E:=C.below q)
   generalize Q:zk c=n at *;clear Q;go_loopw [7] (fun i wj=>∃j:Nat,j<=n.length/\i=ι j/\μ w1 wj/\Hid (jI cs x=(n.drop j++rest).any (jn x))) (fun i _=>n.length-(intOf i).toNat)
   case atStart=>exact⟨0,zv _,rfl,zo _ _,H1⟩
   case round=>
    clear L T;obtain⟨j,hj,rfl,b,I⟩:=hrel;have Z:=b.size;have p:=s.below b;obtain⟨ag,ad⟩:=p.rules;by_cases B:j<n.length
    ·obtain⟨gl,ak,aa,rfl,t,W,G,v,K⟩:=o.cell j B;have ai:=zl b t G;have ah:=zl b t v;have aj:gl<wr.heap.size:=by omega
     have A:=xp B;clear W G v K;generalize n[j]=a at *;have f:Hid (jI cs x=(jn x a||(n.drop (j+1)++rest).any (jn x))):=by rw[Hid,I.out,A];rfl
     clear A I;by_cases d:a.pred=x.pred
     ·have R:=gi d;by_cases l:a.args.length=x.args.length
      ·have h:Hid (jI cs x=(n.drop (j+1)++rest).any (jn x)):=by rw[Hid,f.out,jn];simp[l]
       have J:((a.args.length:Int) == (x.args.length:Int))=true:=by rw[beq_iff_eq];omega
       clear f d l;generalize a.args.length=na at *;generalize a.pred=pa at *;go_wp2;go_quiet (fail)
       go_wp2;go_roundw
       case rel=>exact⟨j+1,by omega,by go_num,zJ b _,h⟩
       case measure=>simp[intOf];omega
      ·have h:Hid (jI cs x=true):=by rw[Hid,f.out,jn];simp[d,l]
       have J:((a.args.length:Int) == (x.args.length:Int))=false:=by rw[beq_eq_false_iff_ne];omega
       clear f d l;generalize a.args.length=na at *;generalize a.pred=pa at *;go_wp2;go_quiet (fail)
       go_wp2;go_ret;exact⟨by rw[h.out];rfl,zJ (Q9 z b) _⟩
     ·have R:=jz d;have h:Hid (jI cs x=(n.drop (j+1)++rest).any (jn x)):=by rw[Hid,f.out,jn];simp[d]
      clear f d;generalize a.pred=pa at *;go_wp2;go_quiet (fail)
      go_wp2;go_roundw
      case rel=>exact⟨j+1,by omega,by go_num,zJ b _,h⟩
      case measure=>simp[intOf];omega
    ·have O:Hid (jI cs x=((cs.drop (k+1)).flatMap zk).any (jn x)):=by rw[Hid,I.out,ue (by omega),HR.out];rfl
     clear I;go_wp2;go_roundw
     case rel=>exact⟨k+1,by omega,by go_num,Q9 z b,p,E.below b,O⟩
     case measure=>simp[intOf];omega
  ·have O:Hid (jI cs x=false):=by rw[Hid,H.out,ue (by omega)];rfl
   clear H;go_wp2;go_ret;exact⟨by rw[O.out];rfl,m⟩
theorem mD(w:World)(pb:Nat)(c0 d h:Value)(l:κ)(n:ByteArray)(f:Q6 w pb #[c0,d,h] 45)(hs:QD lo w d l)(r:l.length<=1000):
  Calls prog 111 #[(π pb),.string n] w fun e o=>e=ε (ι (dR l n))/\o=w:=by
 obtain⟨q,t⟩:=f.rules;obtain⟨u,m,rfl⟩:=hs.qx;go_enter func111,ntmps111;go_wp2;go_loop [5] (fun i=>∃k:Nat,k<=l.length/\i=ι k/\Hid (yu l n=(yu (l.drop k) n).map (·+k))) (fun i=>l.length-(intOf i).toNat)
 case atStart=>exact⟨0,zv _,rfl,by simp[Hid]⟩
 case round=>
  obtain⟨k,v,rfl,H⟩:=hrel;by_cases a:k<l.length
  ·obtain⟨g,rfl,s,p⟩:=hs.cell k a;by_cases c:l[k]=n
   ·have j:=gi c;have b:Hid (dR l n=(k:Int)):=by unfold Hid dR;rw[H.out,oo a c];simp
    go_wp2;go_ret;exact⟨by rw[b.out];rfl,rfl⟩
   ·have j:=jz c;have b:Hid (yu l n=(yu (l.drop (k+1)) n).map (·+(k+1))):=by
     rw[Hid,H.out,iG a c];cases yu (l.drop (k+1)) n<;>simp;omega
    go_wp2;go_round
    case rel=>exact⟨k+1,by omega,by go_num,b⟩
    case measure=>simp[intOf];omega
  ·have b:Hid (dR l n=-1):=by unfold Hid dR;rw[H.out,ue (by omega)];rfl
   go_wp2;go_ret;exact⟨by rw[b.out];rfl,rfl⟩
def sZ(c:zd):Bool:=decide (6<c.body.length)||decide (5<(xM c).length)
def mC(l:zj):Bool:=decide (3<l.args.length)
def lc(c:zd):Bool:=sZ c||(zk c).any mC
def mE(c:zd):Bool:=(xM c).all fun v=>xf v (zw c)
def mO(cs:List zd)(c:zd):Bool:=(zk c).any (jI cs)
def j6(cs:List zd):Int:=if cs.any lc then 4 else if cs.any (mO cs) then 5 else if cs.all mE then 0 else 6
theorem sp{α:Type}(l:List α)(p:α->Bool)(k:Nat)(a:k<l.length):(l.take (k+1)).any p=((l.take k).any p||p l[k]):=by rw[yM a,List.any_append];simp
theorem CG{α:Type}(l:List α)(p:α->Bool)(k:Nat)(a:k<l.length):(l.take (k+1)).all p=((l.take k).all p&&p l[k]):=by rw[yM a,List.all_append];simp
theorem Cu(w:World)(pb:Nat)(cv v1 v2:Value)(cs:List zd)(hp:Q6 w pb #[cv,v1,v2] 45)(H:Rh lo 93 w cv cs)(F:∀c∈cs,vR c/\c.body.length<=999/\yU (zk c)<=1000/\∀l∈zk c,∀t∈l.args,0<t.size)(hl:cs.length<=1000):
  Calls prog 67 #[(π pb)] w fun e w'=>e=ε (ι (j6 cs))/\μ w w':=by
 obtain⟨ao,a4,rfl⟩:=H.qx;have V:=Q5 F;have an:=Q5 fun c hc=>(F c hc).1;clear F;go_enter func67,ntmps67;go_wp2;go_loopw [3,4,5,6] (fun v3 v4 v5 v6 wr=>∃(k:Nat) (m a s:Bool),k<=cs.length/\v6=ι k/\v3=.bool m/\v4=.bool a/\v5=.bool s/\μ w wr/\Q6 wr pb #[.slice ao cs.length a4,v1,v2] 45/\Hid (m=(cs.take k).any lc)/\Hid (a=(cs.take k).any (mO cs))/\Hid (s=(cs.take k).all mE)) (fun _ _ _ i _=>cs.length-(intOf i).toNat)
 case atStart=>exact⟨0,false,false,true,zv _,rfl,rfl,rfl,rfl,zo _ _,hp,rfl,rfl,rfl⟩
 case round=>
  obtain⟨k,m,a,s,hk,rfl,rfl,rfl,rfl,o,W,HM,HA,HS⟩:=hrel;obtain⟨aR,bc⟩:=W.rules;have aF:=o.size;by_cases f:k<cs.length
  ·obtain⟨g,aH,aD,aQ,aB,rfl,M⟩:=H.at k f;obtain⟨⟨aY,aU⟩,aL,X,S⟩:=V.out _ (zs f);have ap:=Q5 (sp cs lc k f);have a2:=Q5 (sp cs (mO cs) k f);have a0:=Q5 (CG cs mE k f);generalize cs[k]=c at *;have z:=Q5 X;have ad:=Q5 S;have bb:(zw c).length<=1000:=by have:=tR c.body [];unfold zw;simp at this;omega
   have aT:(xM c).length<=1000:=by have h1:=Cp c.body (xn [] c.head.args);have h2:=nF c.head.args [];unfold xM;simp at h2;omega
   have aN:(zk c).length<=1000:=by simp[zk];omega
   clear X S;obtain⟨A,ae⟩:∃A,Hid (A=((cs.take k).any lc||sZ c)):=⟨_,rfl⟩;have HW:(m=true/\Hid (A=true))∨(m=false/\6<c.body.length/\Hid (A=true))∨(m=false/\¬6<c.body.length/\5<(xM c).length/\Hid (A=true))∨(m=false/\¬6<c.body.length/\¬5<(xM c).length/\Hid (A=false)):=by
    simp only[Hid,ae.out,←HM.out,sZ];cases m<;>by_cases h6:6<c.body.length<;>by_cases h5:5<(xM c).length<;>simp[h6,h5]
   rcases HW with⟨rfl,u⟩|⟨rfl,h6,u⟩|⟨rfl,h6,h5,u⟩|⟨rfl,h6,h5,u⟩
   all_goals
    go_wp2_with (first|(go_at_call 108;have O:=U;refine(o9 _ true g (k*4) c _ _ _ _ (by exact M.below O) (by omega) z.out ad.out).mono ?_;rintro e w2 ⟨aG,rfl,N,E⟩;rw[Ff] at N;obtain⟨ba,aC,rfl⟩:=N.qx;have L:=Q9 U E;have Q:=I.below E;have h:=M.below L;have aZ:=h.c3;have a6:=h.lt;have aI:=L.size;have P:=(W.below ah).below E;clear O)|(go_at_call 108;have O:=o;refine(o9 _ false g (k*4) c _ _ _ _ (by exact M.below O) (by omega) z.out ad.out).mono ?_;rintro e w1 ⟨aX,rfl,I,ah⟩;rw[PF] at I;obtain⟨aW,aE,rfl⟩:=I.qx;have U:=Q9 o ah;clear o O))
    go_loopw [5,10] (fun v5 ar wj=>∃(j:Nat) (J:Bool),j<=(xM c).length/\ar=ι j/\v5=.bool J/\μ w2 wj/\Hid (J=(s&&((xM c).take j).all fun v=>xf v (zw c)))) (fun _ i _=>(xM c).length-(intOf i).toNat)
    case atStart=>exact⟨0,s,zv _,rfl,rfl,zo _ _,(by simp[Hid])⟩
    case round=>
     obtain⟨j,J,hj,rfl,rfl,d,r⟩:=hrel;have a7:=d.size;by_cases T:j<(xM c).length
     ·obtain⟨ga,rfl,ay,Y⟩:=Q.cell j T;have aS:=zl d ay Y;have aA:ga<wr.heap.size:=by omega
      have n:=CG (xM c) (fun v=>xf v (zw c)) j T;clear Y;generalize (xM c)[j]=x1 at *;have aq:Hid ((s&&((xM c).take (j+1)).all fun v=>xf v (zw c))=(J&&xf x1 (zw c))):=by rw[Hid,n,r.out,Bool.and_assoc]
      clear n r;cases J
      all_goals
       go_wp2_with (go_at_call 109;refine(tM _ _ (zw c) x1 (by exact N.below d) (by omega)).mono ?_;rintro e w' ⟨rfl,ax⟩;obtain rfl:=ax.symm)
       go_roundw
       case rel=>exact⟨j+1,_,by omega,by go_num,rfl,d,(by rw[Hid,aq.out];rfl)⟩
       case measure=>simp[intOf];omega
     ·have aw:(xM c).take j=xM c:=xh (by omega);have au:Hid (J=(cs.take (k+1)).all mE):=by rw[Hid,r.out,aw,a0.out,HS.out];rfl
      clear r;go_wp2_with (go_at_call 68;refine(tG _ g (k*4) c _ _ _ _ (by exact h.below d) (by omega)).mono ?_;rintro e w3 ⟨lv,rfl,y,ag⟩;obtain⟨aP,a9,rfl⟩:=y.qx;have aa:=Q9 L (Q9 d ag);have B:=(P.below d).below ag)
      go_loopw [3,4,13] (fun v3 v4 av wq=>∃(q:Nat) (D C:Bool),q<=(zk c).length/\av=ι q/\v3=.bool D/\v4=.bool C/\μ w3 wq/\Hid (D=(A||((zk c).take q).any mC))/\Hid (C=(a||((zk c).take q).any (jI cs)))) (fun _ _ i _=>(zk c).length-(intOf i).toNat)
      case atStart=>exact⟨0,_,a,zv _,rfl,rfl,rfl,zo _ _,(by simp[Hid,u.out]<;>omega),(by simp[Hid])⟩
      case round=>
       obtain⟨q,D,C,O,rfl,rfl,rfl,b,x,p⟩:=hrel;have a8:=b.size;by_cases K:q<(zk c).length
       ·obtain⟨gl,aM,a5,rfl,G,ab,ac,Z,aj⟩:=y.cell q K;have aJ:=zl b G ab;have aO:=zl b G ac;have aV:=zl b G Z;have aK:gl<wr.heap.size:=by omega
        have n:=sp (zk c) mC q K;have R:=sp (zk c) (jI cs) q K;clear ab ac Z;generalize (zk c)[q]=a1 at *;have az:Hid ((A||((zk c).take (q+1)).any mC)=(D||mC a1)):=by rw[Hid,n,x.out,Bool.or_assoc]
        have ak:Hid ((a||((zk c).take (q+1)).any (jI cs))=(C||jI cs a1)):=by rw[Hid,R,p.out,Bool.or_assoc]
        clear n R x p;cases D
        all_goals cases C
        all_goals
         go_wp2_with (go_at_call 110;refine(Mu _ pb _ _ _ cs a1 _ (by exact B.below b) (by exact H.below (Q9 aa b)) an.out hl (by exact aj.below b)).mono ?_;rintro e w5 ⟨rfl,a3⟩)
         go_roundw
         case rel=>exact⟨q+1,_,_,by omega,by go_num,rfl,rfl,Q9 b a3,(by rw[Hid,az.out];first|rfl|(simp[mC];done)|(simp[mC];omega)),(by rw[Hid,ak.out];rfl)⟩
         case measure=>simp[intOf];omega
       ·have ai:(zk c).take q=zk c:=xh (by omega);have al:Hid (D=(cs.take (k+1)).any lc):=by rw[Hid,x.out,ai,ap.out,ae.out,lc,Bool.or_assoc]
        have am:Hid (C=(cs.take (k+1)).any (mO cs)):=by rw[Hid,p.out,ai,a2.out,HA.out];rfl
        clear x p;go_wp2;go_roundw
        case rel=>exact⟨k+1,D,C,J,by omega,by go_num,rfl,rfl,rfl,Q9 aa b,B.below b,al,am,au⟩
        case measure=>simp[intOf];omega
  ·have af:cs.take k=cs:=xh (by omega);rw[af] at HM HA HS;have HW:Hid (j6 cs=if m then 4 else if a then 5 else if s then 0 else 6):=by unfold Hid j6;rw[←HM.out,←HA.out,←HS.out]
   clear HM HA HS af;cases m
   all_goals cases a
   all_goals cases s
   all_goals
    go_wp2;go_ret;exact⟨by rw[HW.out];rfl,o⟩
end
theorem FY(c:zd):lc c=yE c:=by
 unfold lc sZ yE zk mC;rw[List.any_cons];generalize decide (6<c.body.length)=a;generalize decide (5<(xM c).length)=b;generalize decide (3<c.head.args.length)=d;generalize (c.body.any fun l=>decide (3<l.args.length))=e;cases a<;>cases b<;>cases d<;>cases e<;>rfl
theorem GO(c:zd):mE c=xo c:=by
 rw[Bool.eq_iff_iff];unfold mE xo;rw[ko,ux,nV,ko];constructor
 ·intro h;have f:=fun v (a:v∈xM c)=>ka.1 (h v a);refine⟨fun t d a=>f t (tS.2 ⟨a,zf d⟩),fun l b=>?_⟩;cases e:l.neg with
  |false=>rfl
  |true=>rw[mm,nJ,nV];exact fun t d a=>f t (tS.2 ⟨a,zb ⟨l,b,d⟩⟩)
 ·rintro⟨i,j⟩ v a;rw[ka];obtain⟨g,h|⟨l,b,h⟩⟩:=tS.1 a
  ·exact i v h g
  ·cases e:l.neg with
   |false=>exact gO.2 ⟨g,l,b,e,h⟩
   |true=>
    have:=j l b;rw[e,mm,nJ,nV] at this;exact this v h g
theorem L4(cs:List zd):cs.any lc=cs.any yE:=by rw[show lc=yE from funext FY]
theorem GF(cs:List zd):cs.all mE=cs.all xo:=by rw[show mE=xo from funext GO]
section
variable {t:List zh}
theorem RL.stop{i:List zj}{l:zj}(h:RL t i)(b:vI t l=none):∃d∈i,jn l d=true:=by
 unfold vI at b;split at b
 ·rename_i e j;obtain⟨g,k⟩:=nH j;split at b
  ·cases b
  ·rename_i f;obtain⟨d,a,c⟩:=(h.names e.name).1 (zy.2 ⟨e,g,rfl⟩);refine⟨d,a,?_⟩;unfold jn;rw[ux,decide_eq_true_eq,decide_eq_true_eq];refine⟨by rw[c,k],?_⟩;rw[h.jh e g d a c];exact f
 ·cases b
theorem iK:∀(a done:List zj) (t:List zh),RL t done->match a.foldl ul (some t) with
  |some g=>RL g (done++a)
  |none=>∃x∈done++a,∃y∈done++a,jn x y=true
 |[],done,t,h=>by simpa using h
 |l::a,done,t,h=>by
  rw[ut];cases b:vI t l with
  |none=>
   rw[show ul (some t) l=none from b,nZ];obtain⟨f,c,e⟩:=h.stop b;exact⟨l,by simp,f,by simp[c],e⟩
  |some d=>
   rw[show ul (some t) l=some d from b];have:=iK a (done++[l]) d (h.step b);rwa [kH] at this
theorem GP{b:List zj}(h:RL t b){x y:zj}(f:x∈b)(g:y∈b):jn x y=false:=by
 obtain⟨e,d,a⟩:=zy.1 ((h.names x.pred).2 ⟨x,f,rfl⟩);unfold jn;cases c:decide (y.pred=x.pred) with
 |false=>rfl
 |true=>
  rw[decide_eq_true_eq] at c;rw[mY,decide_eq_false_iff_not,h.jh e d x f a.symm,h.jh e d y g (c.trans a.symm)];simp
theorem E2(cs:List zd):cs.any (mO cs)=true↔∃x∈cs.flatMap zk,∃y∈cs.flatMap zk,jn x y=true:=by
 simp only[mO,jI,gI,uJ];constructor
 ·rintro⟨c,a,x,d,y,b,h⟩;exact⟨x,⟨c,a,d⟩,y,b,h⟩
 ·rintro⟨x,⟨c,a,d⟩,y,b,h⟩;exact⟨c,a,x,d,y,b,h⟩
theorem FE{cs:List zd}(h:ui cs=none):cs.any (mO cs)=true:=by
 have:=iK (cs.flatMap zk) [] [] wD;unfold ui at h;rw[h] at this;rw[E2];simpa using this
theorem sS{cs:List zd}(h:ui cs=some t):cs.any (mO cs)=false/\RL t (cs.flatMap zk):=by
 have:=iK (cs.flatMap zk) [] [] wD;unfold ui at h;rw[h] at this;simp only[pL] at this;refine⟨?_,this⟩;rw[←p7,E2];rintro⟨x,c,y,b,a⟩;rw[GP this c b] at a;cases a
end
section
open Go.Proofs.Tryz Go.RowKit
variable {lo:Nat}{l out:κ}{i:Nat}
def d9(out:κ)(y:ByteArray):Bool:=match out.getLast? with
 |none=>true
 |some z=>QY z y
theorem sg(o:κ)(z y:ByteArray):d9 (o++[z]) y=QY z y:=by simp[d9]
def dL(l out:κ)(i:Nat)(k:Int):Prop:=
 (k=-1/\∀j (a:j<l.length),j<i->d9 out l[j]=false)∨∃(q:Nat) (b:q<l.length),k=q/\q<i/\d9 out l[q]=true/\∀j (a:j<l.length),j<i->d9 out l[j]=true->QY l[j] l[q]=false
theorem Ov(l out:κ):dL l out 0 (-1):=zf ⟨rfl,fun _ _ h=>by omega⟩
theorem Md{k:Int}(h:dL l out i k)(o:i<l.length)(e:d9 out l[i]=false):dL l out (i+1) k:=by
 rcases h with⟨d,f⟩|⟨q,g,d,f,m,n⟩
 ·refine zf ⟨d,fun j c b=>?_⟩;rcases dI j i with h|h
  ·exact f j c h
  ·obtain rfl:j=i:=by omega
   exact e
 ·refine zb ⟨q,g,d,by omega,m,fun j c b a=>?_⟩;rcases dI j i with h|h
  ·exact n j c h a
  ·obtain rfl:j=i:=by omega
   rw[e] at a;cases a
theorem Au(h:dL l out i (-1))(e:i<l.length)(b:d9 out l[i]=true):dL l out (i+1) i:=by
 rcases h with⟨_,f⟩|⟨q,_,g,_⟩
 ·refine zb ⟨i,e,rfl,by omega,b,fun j d c a=>?_⟩;rcases dI j i with h|h
  ·rw[f j d h] at a;cases a
  ·obtain rfl:j=i:=by omega
   exact QK _
 ·omega
theorem CU{q:Nat}(h:dL l out i q)(e:i<l.length)(p:q<l.length)(b:d9 out l[i]=true)(f:QY l[i] l[q]=true):dL l out (i+1) i:=by
 rcases h with⟨k,_⟩|⟨n,g,k,s,r,o⟩
 ·omega
 ·obtain rfl:q=n:=by omega
  refine zb ⟨i,e,rfl,by omega,b,fun j d c a=>?_⟩;rcases dI j i with h|h
  ·cases m:QY l[j] l[i] with
   |false=>rfl
   |true=>have:=lt_trans m f;rw[o j d h a] at this;cases this
  ·obtain rfl:j=i:=by omega
   exact QK _
theorem B3{q:Nat}(h:dL l out i q)(o:i<l.length)(d:q<l.length)(e:QY l[i] l[q]=false):dL l out (i+1) q:=by
 rcases h with⟨g,_⟩|⟨m,f,g,p,k,n⟩
 ·omega
 ·obtain rfl:q=m:=by omega
  refine zb ⟨q,d,rfl,by omega,k,fun j c b a=>?_⟩;rcases dI j i with h|h
  ·exact n j c h a
  ·obtain rfl:j=i:=by omega
   exact e
structure RS (l out:κ):Prop where
 rising:yB out
 sub:∀x∈out,x∈l
 left:∀y∈l,y∉out->∀z∈out,QY z y=true
 room:out.length+li l out<=l.length
theorem N8(l:κ):RS l []:=⟨List.Pairwise.nil,fun _ h=>(by cases h),fun _ _ _ _ h=>(by cases h),by rw[BC];simp⟩
theorem Gr{y:ByteArray}(b:yB out)(h:d9 out y=true):∀z∈out,QY z y=true:=by
 intro z a;rcases sQ out with e|⟨o,x,e⟩
 ·subst e;cases a
 ·rw[s6] at e;subst e;rw[sg] at h;rcases zI.1 a with a|a
  ·exact lt_trans ((ph.1 b).2.2 z a x (by simp)) h
  ·simp at a;subst a;exact h
theorem BU{y:ByteArray}(h:∀z∈out,QY z y=true):d9 out y=true:=by
 rcases sQ out with e|⟨o,x,e⟩
 ·subst e;rfl
 ·rw[s6] at e;subst e;rw[sg];exact h x (by simp)
theorem Gh{q:Nat}(h:RS l out)(s:q<l.length)(v:dL l out l.length q):RS l (out++[l[q]])/\li l (out++[l[q]])<li l out:=by
 rcases v with⟨A,_⟩|⟨B,C,A,_,D,w⟩
 ·omega
 ·obtain rfl:q=B:=by omega
  have c:=Gr h.rising D;have f:l[q]∉out:=fun o=>by have:=c _ o;rw[QK] at this;cases this
  have p:=O4 (zs s) f;refine⟨⟨?_,?_,?_,?_⟩,p⟩
  ·exact ph.2 ⟨h.rising,List.pairwise_singleton _ _,fun a E b t=>by simp at t;subst t;exact c a E⟩
  ·intro x d;rcases zI.1 d with d|d
   ·exact h.sub x d
   ·simp at d;subst d;exact zs s
  ·intro y n g z e;have k:y∉out:=fun o=>g (zI.2 (zf o));rcases zI.1 e with e|e
   ·exact h.left y n k z e
   ·simp at e;subst e;obtain⟨j,u,rfl⟩:=qa n;have m:=BU (h.left _ n k);have r:=w j u u m;cases d:QY l[q] l[j] with
    |true=>rfl
    |false=>exact zC (zI.2 (zb (by simp[tO r d]))) g
  ·have:=h.room;simp;omega
theorem KU(h:RS l out)(d:dL l out l.length (-1)):∀x,x∈out↔x∈l:=by
 intro x;refine⟨h.sub x,fun b=>?_⟩;rcases d with⟨_,e⟩|⟨q,_,f,_⟩
 ·false_or_by_contra
  rename_i c;obtain⟨j,a,rfl⟩:=qa b;have:=BU (h.left _ b c);rw[e j a a] at this;cases this
 ·omega
theorem Du(w:World)(v:Value)(l:κ)(hs:QD lo w v l)(hl:l.length<=1000):
  Calls prog 69 #[v] w fun e w'=>∃v' r,e=.returned v'/\QD w.heap.size w' v' r/\yB r/\(∀x,x∈r↔x∈l)/\r.length<=l.length/\μ w w':=by
 obtain⟨i0,hi,P,af,R⟩:=info_parts Qq;obtain⟨ao,av,rfl⟩:=hs.qx;go_enter func69,ntmps69;go_wp2;go_loopg [3] (l.length) (fun n v3 wr=>∃out:κ,Hid (RS l out)/\li l out<=n/\μ w wr/\wr.ownsRow w.heap.size 9 1 v3 out.length (out.map Value.string))
 case atStart=>exact⟨[],N8 l,by rw[BC];omega,zo _ _,yC _ _ _ _⟩
 case round=>
  obtain⟨out,O,al,X,F⟩:=hrel;obtain⟨am,ai,rfl⟩:=zp F;have G:=O.out.room;go_wp2;go_loopw [4,5] (fun v4 v5 wj=>∃(i:Nat) (H:Int),i<=l.length/\v5=ι i/\v4=ι H/\μ wr wj/\Hid (dL l out i H)/\Hid (H=-1∨∃(q:Nat) (_:q<l.length),H=q)) (fun _ i _=>l.length-(intOf i).toNat)
  case atStart=>exact⟨0,-1,zv _,rfl,rfl,zo _ _,Ov l out,zf rfl⟩
  case round=>
   obtain⟨i,H,ag,rfl,rfl,a,j,u⟩:=hrel;have p:=Q9 X a;have L:=p.size;have s:=zB F a;by_cases b:i<l.length
   ·obtain⟨g,rfl,hg,K⟩:=hs.cell i b;have ar:=zl p hg K;have Y:g<wr.heap.size:=by omega
    clear K;rcases sQ out with e|⟨o,z,e⟩
    ·subst e;have c:d9 [] l[i]=true:=rfl;rcases u.out with D|⟨q,A,B⟩
     ·subst D;have t:=Q5 (Au j.out b c);clear j u c;generalize l[i]=x at *;go_wp2;go_quiet (fail)
      go_wp2;go_roundw
      case rel=>exact⟨i+1,(i:Int),by omega,by go_num,rfl,zJ a _,t,zb ⟨i,b,rfl⟩⟩
      case measure=>simp[intOf];omega
     ·subst B;obtain⟨U,C,k,m⟩:=hs.cell q A;simp at C;subst C;have I:=zl p k m;have W:decide ((q:Int)<0)=false:=by rw[decide_eq_false_iff_not];omega
      clear m;cases f:QY l[i] l[q] with
      |true=>
       have t:=Q5 (CU j.out b A c f);unfold QY at f;clear j u c;generalize l[i]=x at *;generalize l[q]=y at *;go_wp2;go_quiet (fail)
       go_wp2;go_roundw
       case rel=>exact⟨i+1,(i:Int),by omega,by go_num,rfl,zJ a _,t,zb ⟨i,b,rfl⟩⟩
       case measure=>simp[intOf];omega
      |false=>
       have t:=Q5 (B3 j.out b A f);unfold QY at f;clear j u c;generalize l[i]=x at *;generalize l[q]=y at *;go_wp2;go_quiet (fail)
       go_wp2;go_roundw
       case rel=>exact⟨i+1,(q:Int),by omega,by go_num,rfl,zJ a _,t,zb ⟨q,A,rfl⟩⟩
       case measure=>simp[intOf];omega
    ·rw[s6] at e;subst e;obtain⟨go,Q,J,_,Z,E⟩:=yv s (by simp);simp at J;obtain⟨rfl,_⟩:=J;have an:=E o.length (.string z) (by simp);have T:((o.length:Int)+1 == 0)=false:=by rw[beq_eq_false_iff_ne];omega
     have ak:o.length<o.length+1:=by omega
     have aj:=Z;have au:o.length<=1000:=by simp at G;omega
     have aq:IntKind.i64.wrap (o.length:Int)=(o.length:Int):=IntWalk.i64_in _ (by omega);clear E;cases d:QY z l[i] with
     |true=>
      have c:d9 (o++[z]) l[i]=true:=by rw[sg];exact d
      have M:Op.bytesLess l[i].toList z.toList=false:=NL d;have V:(l[i].toList == z.toList)=false:=jz (fun h=>by rw[h,QK] at d;cases d);clear d;rcases u.out with D|⟨q,A,B⟩
      ·subst D;have t:=Q5 (Au j.out b c);clear j u c;generalize l[i]=x at *;go_wp2;go_quiet (fail)
       go_wp2;go_roundw
       case rel=>exact⟨i+1,(i:Int),by omega,by go_num,rfl,zJ a _,t,zb ⟨i,b,rfl⟩⟩
       case measure=>simp[intOf];omega
      ·subst B;obtain⟨U,C,k,m⟩:=hs.cell q A;simp at C;subst C;have I:=zl p k m;have W:decide ((q:Int)<0)=false:=by rw[decide_eq_false_iff_not];omega
       clear m;cases f:QY l[i] l[q] with
       |true=>
        have t:=Q5 (CU j.out b A c f);unfold QY at f;clear j u c;generalize l[i]=x at *;generalize l[q]=y at *;go_wp2;go_quiet (fail)
        go_wp2;go_roundw
        case rel=>exact⟨i+1,(i:Int),by omega,by go_num,rfl,zJ a _,t,zb ⟨i,b,rfl⟩⟩
        case measure=>simp[intOf];omega
       |false=>
        have t:=Q5 (B3 j.out b A f);unfold QY at f;clear j u c;generalize l[i]=x at *;generalize l[q]=y at *;go_wp2;go_quiet (fail)
        go_wp2;go_roundw
        case rel=>exact⟨i+1,(q:Int),by omega,by go_num,rfl,zJ a _,t,zb ⟨q,A,rfl⟩⟩
        case measure=>simp[intOf];omega
     |false=>
      have t:=Q5 (Md j.out b (by rw[sg];exact d));cases M:Op.bytesLess l[i].toList z.toList with
      |true=>
       clear j d;generalize l[i]=x at *;go_wp2;go_quiet (fail)
       go_wp2;go_roundw
       case rel=>exact⟨i+1,H,by omega,by go_num,rfl,zJ a _,t,u⟩
       case measure=>simp[intOf];omega
      |false=>
       have V:=gi (tO M d);clear j d;generalize l[i]=x at *;go_wp2;go_quiet (fail)
       go_wp2;go_roundw
       case rel=>exact⟨i+1,H,by omega,by go_num,rfl,zJ a _,t,u⟩
       case measure=>simp[intOf];omega
   ·have aa:i=l.length:=by omega
    subst aa;rcases u.out with D|⟨q,A,B⟩
    ·subst D;have HD:=Q5 (KU O.out j.out);clear j u;go_wp2;go_ret;exact⟨_,out,rfl,s,O.out.rising,HD.out,by omega,p⟩
    ·subst B;obtain⟨U,rfl,k,m⟩:=hs.cell q A;have I:=zl p k m;have Y:U<wr.heap.size:=by omega
     obtain⟨N,aw⟩:=Gh O.out A j.out;have ae:=Q5 N;clear j u m N;generalize l[q]=y at *;go_wp2_with (at_builtin;refine ks _ _ _ _ rfl (.tmp 47) (.tmp 52) 30 rfl w.heap.size 9 i0 _ 1 16 underlying30 hi P af R rfl (by decide) _ _ _ rfl s (zo _ _) _ _ rfl (by simp) rfl (by simp[Value.oneCell']) (by omega) (by omega) L ?_;intro v' w2 ad ac S ab ap ah;clear S ab)
     go_roundg (li l (out++[y]))
     case measure=>omega
     case rel=>exact⟨out++[y],ae,zg _,p.trans ac,by simpa using ad⟩
end
section
variable {ps:κ}{sv:List Nat}{k:Nat}{cs:List zd}
def vE(ps:κ)(sv:List Nat)(n:ByteArray):Nat:=match yu ps n with
 |some k=>sv.getD k 0
 |none=>0
theorem wL:∀{ps:κ} {n:ByteArray},n∈ps->∃k,yu ps n=some k
 |[],_,h=>by cases h
 |y::r,n,h=>by
  unfold yu;by_cases e:y=n
  ·exact⟨0,by rw[zc e]⟩
  ·rw[za e];rcases zx.1 h with h|h
   ·exact zC h.symm e
   ·obtain⟨k,a⟩:=wL h;exact⟨k+1,by rw[a];rfl⟩
theorem sW{n:ByteArray}(h:yu ps n=some k)(a:k<sv.length):vE ps sv n=sv[k]:=by
 unfold vE;rw[h];simp[List.getD_eq_getElem?_getD,a]
theorem Nf{m:ByteArray}(h:yu ps m=some k)(d:k<sv.length)(s:Nat)(n:ByteArray):vE ps (sv.set k s) n=if n=m then s else vE ps sv n:=by
 by_cases a:n=m
 ·subst a;rw[zc rfl,sW h (by simpa using d)];simp
 ·rw[za a];unfold vE;cases b:yu ps n with
  |none=>rfl
  |some j=>
   have c:k≠j:=by
    rintro rfl;obtain⟨g,e⟩:=fO h;obtain⟨i,f⟩:=fO b;exact a (f.symm.trans e)
   simp[List.getD_eq_getElem?_getD,c]
theorem GG(ps:κ)(k:Nat)(n:ByteArray):vE ps (List.replicate k 0) n=0:=by
 unfold vE;split
 ·simp[List.getD_eq_getElem?_getD,List.getElem?_replicate];split<;>rfl
 ·rfl
def S0(cs:List zd)(ps:κ)(sv:List Nat):Prop:=∀f,R5 cs f->∀n,vE ps sv n<=f n
theorem Ol(cs:List zd)(ps:κ)(k:Nat):S0 cs ps (List.replicate k 0):=fun f _ n=>by rw[GG];omega
theorem ME(h:S0 cs ps sv){c:zd}(d:c∈cs){l:zj}(g:l∈c.body)(i:yu ps c.head.pred=some k)(a:k<sv.length):S0 cs ps (sv.set k (vE ps sv l.pred+up l)):=by
 intro f b n;rw[Nf i a];split
 ·rename_i e;have:=b c d l g;have:=h f b l.pred;rw[e];omega
 ·exact h f b n
theorem MI(h:S0 cs ps sv)(a:∀c∈cs,∀l∈zk c,l.pred∈ps){c:zd}(d:c∈cs){l:zj}(e:l∈c.body)(j:ps.length<=vE ps sv l.pred+up l):¬∃f,R5 cs f:=by
 rintro⟨g,i⟩;obtain⟨f,b⟩:=Er i;have m:=iV b a (a c d c.head (by simp[zk]));have o:=b.1 c d l e;have n:=h f b.1 l.pred;omega
def RA(cs:List zd)(ps:κ)(sv:List Nat)(i:Nat):Prop:=∀c∈cs.take i,∀l∈c.body,vE ps sv l.pred+up l<=vE ps sv c.head.pred
def lZ(c:zd)(ps:κ)(sv:List Nat)(k:Nat):Prop:=∀l∈c.body.take k,vE ps sv l.pred+up l<=vE ps sv c.head.pred
theorem Lc(cs:List zd)(ps:κ)(sv:List Nat):RA cs ps sv 0:=fun c a=>by simp at a
theorem PG(c:zd)(ps:κ)(sv:List Nat):lZ c ps sv 0:=fun l a=>by simp at a
theorem Ii{c:zd}(h:lZ c ps sv k)(d:k<c.body.length)(b:vE ps sv c.body[k].pred+up c.body[k]<=vE ps sv c.head.pred):lZ c ps sv (k+1):=by
 intro l a;rw[yM d,zI] at a;rcases a with a|a
 ·exact h l a
 ·simp at a;subst a;exact b
theorem FO{i:Nat}(h:RA cs ps sv i)(e:i<cs.length)(d:lZ cs[i] ps sv cs[i].body.length):RA cs ps sv (i+1):=by
 intro c a;rw[yM e,zI] at a;rcases a with a|a
 ·exact h c a
 ·simp at a;subst a;intro l b;exact d l (by rw[xh (zg _)];exact b)
theorem JC(h:RA cs ps sv cs.length):R5 cs (vE ps sv):=fun c a=>h c (by rw[xh (zg _)];exact a)
theorem Hb(a:S0 cs ps sv)(h:RA cs ps sv cs.length):Rn cs (vE ps sv):=⟨JC h,a⟩
theorem BS:∀(sv:List Nat) (k s:Nat) (b:k<sv.length),(sv.set k s).sum+sv[k]=sv.sum+s
 |a::r,0,s,_=>by simp;omega
 |a::r,k+1,s,b=>by
  have:=BS r k s (by simpa using b);simp;omega
theorem B6:∀(sv:List Nat) (M:Nat),(∀s∈sv,s<=M)->sv.sum<=sv.length*M
 |[],M,_=>by simp
 |a::r,M,h=>by
  have c:=B6 r M fun s b=>h s (by simp[b]);have d:=h a (by simp);simp only[vQ,xd,hY,Nat.one_mul];omega
theorem OA{f g:ByteArray->Nat}(b:Rn cs f)(a:Rn cs g)(n:ByteArray):f n=g n:=Nat.le_antisymm (b.2 g a.1 n) (a.2 f b.1 n)
end
section
open Go.Proofs.Tryz Go.RowKit
variable {lo:Nat}
theorem Rh.but{e:TypeId}{r:Nat}{w w':World}{v:Value}{l:List zd}(h:Rh lo e w v l)(a:QH r w w'){c:Array Value}{T:TypeId}{f:Nat×Nat}(g:w.heap[r]?=some (.cells c T f))(i:T≠9)(d:T≠90)(b:T≠e):Rh lo e w' v l:=by
 obtain⟨m,h,j⟩:=h;exact⟨m,xO h a g b,j.mono (fun _ _ k=>k.but a g i) (fun _ _ k=>k.but a g i d)⟩
structure Sl (w:World) (pb:Nat) (cv pv:Value) (cs:List zd) (ps:κ) (sv:List Nat) (wr:World):Prop where
 but:QH pb w wr
 box:Q6 wr pb #[cv,pv,.slice (some ⟨w.heap.size,0,none⟩) ps.length ps.length] 45
 row:wr.ownsRow w.heap.size 3 1 (.slice (some ⟨w.heap.size,0,none⟩) ps.length ps.length) ps.length (sv.map Rj)
 len:sv.length=ps.length
 low:S0 cs ps sv
 top:∀s∈sv,s<ps.length
theorem Sl.cell{w:World}{pb:Nat}{c i:Value}{cs:List zd}{ps:κ}{sv:List Nat}{wr:World}(h:Sl w pb c i cs ps sv wr)(k:Nat)(f:k<sv.length):w.heap.size<wr.heap.size/\wr.cell? ⟨w.heap.size,k,none⟩=some (ι (sv[k]:Int)):=by
 obtain⟨g,e,a,_,d,b⟩:=yv h.row (by have:=h.len;omega);simp at a;obtain⟨rfl,_⟩:=a;exact⟨d,b k _ (by simp[f,Rj])⟩
theorem Sl.set{w:World}{pb:Nat}{c d:Value}{cs:List zd}{ps:κ}{sv:List Nat}{wr:World}(h:Sl w pb c d cs ps sv wr)(f:pb<w.heap.size)(k:Nat)(e:k<sv.length)(s:Nat)(hs:s<ps.length)(a:S0 cs ps (sv.set k s)):
  Sl w pb c d cs ps (sv.set k s) (wr.setCell ⟨w.heap.size,k,none⟩ (ι (s:Int))):=by
 refine⟨h.but.setNew (zg _) _,h.box.set_ne (by omega) _ _,?_,by simpa using h.len,a,?_⟩
 ·have:=uZ h.row k (by simpa using e) (Rj s);rw[dU];exact this
 ·intro x b;rcases p3 b with b|b
  ·exact h.top x b
  ·omega
def P3(w:World)(pb:Nat)(c b:Value)(cs:List zd)(ps:κ)(e:Ending)(w':World):Prop:=QH pb w w'/\((e=ε (.bool false)/\¬∃f,R5 cs f)∨∃a,e=ε (.bool true)/\Sl w pb c b cs ps a w'/\Rn cs (vE ps a))
theorem KS{sv:List Nat}{k s:Nat}(a:k<sv.length)(hs:sv[k]<s):sv.sum<(sv.set k s).sum:=by have:=BS sv k s a;omega
theorem LJ{ps:κ}{sv:List Nat}(a:sv.length=ps.length)(h:∀s∈sv,s<ps.length):sv.sum<=ps.length*ps.length:=by rw[←a] at h ⊢;exact B6 sv sv.length fun s b=>by have:=h s b;omega
theorem Rh.ne{d T:TypeId}{w:World}{g n cap pb:Nat}{cs:List zd}{c:Array Value}(h:Rh lo d w (.slice (some ⟨g,0,none⟩) n cap) cs)(a:Q6 w pb c T)(i:T≠d):g≠pb:=by
 obtain⟨l,⟨_,⟨b,_⟩|⟨k,e,f,b,_,j,_⟩⟩,_⟩:=h
 ·cases b
 ·simp at b;obtain⟨rfl,_⟩:=b;rintro rfl;unfold Q6 at a;rw[j] at a;simp at a;exact i a.2.symm
theorem dY.but{w w':World}{g o:Nat}{c:zd}{k:Option Addr}{cap:Nat}{b:Option Addr}{a r:Nat}(h:dY w g o c k cap b a)(d:QH r w w')(f:g≠r){m:Array Value}{T:TypeId}(l:Q6 w r m T)(j:T≠9)(i:T≠90):dY w' g o c k cap b a:=
 have e:∀o,w'.cell? ⟨g,o,none⟩=w.cell? ⟨g,o,none⟩:=fun _=>World.cell?_of_block (w:=w) (d.block g h.lt f)
 ⟨xP h.lt d.size,(e _).trans h.c0,(e _).trans h.c1,(e _).trans h.c2,(e _).trans h.c3,h.args.but d l j,h.body.but d l j i⟩
theorem Ew(w:World)(pb:Nat)(cv pv v2:Value)(cs:List zd)(ps:κ)(hp:Q6 w pb #[cv,pv,v2] 45)(ag:Rh lo 93 w cv cs){aB:Nat}(ak:QD aB w pv ps)(ar:∀c∈cs,vR c/\c.body.length<=999)(hl:cs.length<=1000)(z:ps.length<=1000)(aw:∀c∈cs,∀l∈zk c,l.pred∈ps):
  Calls prog 70 #[(π pb)] w fun e w'=>P3 w pb cv pv cs ps e w':=by
 obtain⟨ao,M,rfl⟩:=ag.qx;obtain⟨K,q,rfl⟩:=ak.qx;obtain⟨a0,av,ad⟩:=hp.boxed;have a6:=Q5 ar;have ax:=Q5 aw;have HP:=Q5 hp;have a5:=run_make_row' (P:=prog) 24 3 (ι 0) 8 underlying24 Qv rfl .i64 .i64 ps.length (by omega) (by omega);clear ar aw;go_enter func70,ntmps70;go_wp2;clear a5;go_loopg [4] (2*(ps.length*ps.length)+1) (fun N v3 wr=>∃(I:List Nat) (more:Bool),v3=.bool more/\Sl w pb (.slice ao cs.length M) (.slice K ps.length q) cs ps I wr/\Hid (more=false->RA cs ps I cs.length)/\2*(ps.length*ps.length-I.sum)+more.toNat<=N)
 case atStart=>
  have aA:(w.setCell ⟨pb,2,none⟩ (.slice (some ⟨w.heap.size,0,none⟩) ps.length ps.length)).heap.size=w.heap.size:=by simp[World.setCell]
  have au:=DC (w.setCell ⟨pb,2,none⟩ (.slice (some ⟨w.heap.size,0,none⟩) ps.length ps.length)) ps.length 3 (by unfold maxLen;omega);rw[aA] at au;refine⟨List.replicate ps.length 0,true,rfl,⟨(by repeat'(first|with_reducible(first|apply xR|assumption|apply xN|apply xA|apply xD|apply xS|apply xT)|go_size)),?_,au,by simp,Ol _ _ _,?_⟩,(by intro h;cases h),(by simp)⟩
  ·exact(hp.set 2 _).below zT
  ·intro s hs;rw[List.mem_replicate] at hs;omega
 case round=>
  clear a0 av;obtain⟨I,more,rfl,u,HC,hN⟩:=hrel;cases more with
  |false=>
   have B:=Q5 (HC.out rfl);clear HC;go_wp2;go_ret;exact⟨u.but,zb ⟨I,rfl,u,Hb u.low B.out⟩⟩
  |true=>
   go_wp2;go_loopw [4,5] (fun v3 v4 wi=>∃(k:Nat) (Y:List Nat) (mi:Bool),k<=cs.length/\v4=ι k/\v3=.bool mi/\Sl w pb (.slice ao cs.length M) (.slice K ps.length q) cs ps Y wi/\I.sum<=Y.sum/\(mi=true->I.sum<Y.sum)/\Hid (mi=false->RA cs ps Y k)) (fun _ i _=>cs.length-(intOf i).toNat)
   case atStart=>exact⟨0,I,false,zv _,rfl,rfl,u,zg _,(by simp),fun _=>Lc _ _ _⟩
   case round=>
    obtain⟨k,Y,mi,hk,rfl,rfl,r,aC,aa,a3⟩:=hrel;have O:=r.box;obtain⟨ay,a2,a4⟩:=O.boxed;by_cases D:k<cs.length
    ·obtain⟨g,aQ,aM,aZ,aL,rfl,E⟩:=ag.at k D;have W:=ag.ne hp (by decide);have v:=E.but r.but W hp (by decide) (by decide);have V:=ak.but r.but HP.out (by decide);obtain⟨bc,aU⟩:=a6.out _ (zs D);have C:=ax.out _ (zs D);have ac:=zs D;have ah:=Q5 fun s' (h1:RA cs ps s' k) (h2:lZ cs[k] ps s' cs[k].body.length)=>FO h1 D h2;generalize cs[k]=c at *;have am:=Q5 C;have Z:=Q5 ac;have aF:=Q5 E;obtain⟨F,T⟩:=wL (C c.head (by simp[zk]));have aH:=(fO T).1;have aq:=Q5 T;have a7:Hid (dR ps c.head.pred=(F:Int)):=by unfold Hid dR;rw[T]
     have aD:=v.c1;have a1:=v.c3;have X:=v.lt;clear T C ac E;go_wp2_with (go_at_call 111;refine(mD _ pb _ _ _ ps c.head.pred O V z).mono ?_;rw[a7.out];rintro e w' ⟨rfl,d⟩;obtain rfl:=d.symm)
     go_loopw [4,8] (fun v3 v7 wj=>∃(j:Nat) (b:List Nat) (S:Bool),j<=c.body.length/\v7=ι j/\v3=.bool S/\Sl w pb (.slice (some ⟨g,0,none⟩) cs.length M) (.slice K ps.length q) cs ps b wj/\I.sum<=b.sum/\(S=true->I.sum<b.sum)/\Hid (S=false->RA cs ps b k/\lZ c ps b j)) (fun _ i _=>c.body.length-(intOf i).toNat)
     case atStart=>exact⟨0,Y,mi,zv _,rfl,rfl,r,aC,aa,fun h=>⟨a3.out h,PG _ _ _⟩⟩
     case round=>
      clear ay a2 aD a1 v V O a4 X;obtain⟨j,b,S,hj,rfl,rfl,a,G,L,y⟩:=hrel;have n:=a.box;obtain⟨ay,a2,aN⟩:=n.boxed;have H:=aF.out.but a.but W HP.out (by decide) (by decide);have o:=ak.but a.but HP.out (by decide);have a1:=H.c3;have X:=H.lt;by_cases ae:j<c.body.length
      ·obtain⟨gl,aX,aK,aG,aR,an,aT,_,_⟩:=H.body.cell j ae;subst aG;have ai:=zs ae;obtain⟨kb,U⟩:=wL (am.out c.body[j] (by simp[zk]));have aJ:=(fO U).1;have aI:=a.len;have J:kb<b.length:=by omega
       have m:F<b.length:=by omega
       have R:=sW U J;have az:=sW aq.out m;have p:Hid (dR ps c.body[j].pred=(kb:Int)):=by unfold Hid dR;rw[U]
       have t:Hid (S0 cs ps (b.set F (b[kb]+up c.body[j]))):=by have:=ME a.low Z.out ai aq.out m;rw[R] at this;exact this
       have al:=Q5 fun h=>MI a.low ax.out Z.out ai (by rw[R];exact h);have ap:=Q5 fun h1 h2=>Ii h2 ae (by rw[R,az];exact h1);have ab:=Q5 fun s h1 h2=>a.set ad F m s h1 h2;have A:=Q5 fun s (h:b[F]<s)=>KS m h;obtain⟨aY,aV⟩:=a.cell kb J;obtain⟨_,bb⟩:=a.cell F m;have ba:=qT a.row;have aO:=a.top _ (zs J);have aP:=a.top _ (zs m);clear R az U ai;generalize b[kb]=Q at *;generalize b[F]=sh at *;generalize c.body[j]=l at *;cases f:l.neg with
       |false=>
        have x:up l=0:=by simp[up,f]
        rw[f] at an;clear f;by_cases aj:sh<Q
        ·by_cases a9:ps.length<=Q
         ·omega
         ·have af:Hid (Sl w pb (.slice (some ⟨g,0,none⟩) cs.length M) (.slice K ps.length q) cs ps (b.set F (Q)) (wr.setCell ⟨w.heap.size,F,none⟩ (ι ((Q:Nat):Int)))):=ab.out _ (by omega) (by have:=t.out;rw[x] at this;exact this);have a8:=A.out (Q) aj;go_wp2_with (go_at_call 111;refine(mD _ pb _ _ _ ps l.pred n o z).mono ?_;rw[p.out];rintro e w' ⟨rfl,d⟩;obtain rfl:=d.symm)
          go_roundw
          case rel=>exact⟨j+1,_,true,by omega,by go_num,rfl,af.out,by omega,(fun _=>by omega),(fun h=>by cases h)⟩
          case measure=>simp[intOf];omega
        ·have B:Hid (S=false->RA cs ps b k/\lZ c ps b (j+1)):=fun h=>⟨(y.out h).1,ap.out (by rw[x];omega) (y.out h).2⟩;go_wp2_with (go_at_call 111;refine(mD _ pb _ _ _ ps l.pred n o z).mono ?_;rw[p.out];rintro e w' ⟨rfl,d⟩;obtain rfl:=d.symm)
         go_roundw
         case rel=>exact⟨j+1,b,S,by omega,by go_num,rfl,a,G,L,B⟩
         case measure=>simp[intOf];omega
       |true=>
        have x:up l=1:=by simp[up,f]
        rw[f] at an;clear f;by_cases aj:sh<Q+1
        ·by_cases a9:ps.length<=Q+1
         ·have HF:=Q5 (al.out (by rw[x];omega));go_wp2_with (go_at_call 111;refine(mD _ pb _ _ _ ps l.pred n o z).mono ?_;rw[p.out];rintro e w' ⟨rfl,d⟩;obtain rfl:=d.symm)
          go_ret;exact⟨a.but.setNew (zg _) _,zf ⟨rfl,HF.out⟩⟩
         ·have af:Hid (Sl w pb (.slice (some ⟨g,0,none⟩) cs.length M) (.slice K ps.length q) cs ps (b.set F (Q+1)) (wr.setCell ⟨w.heap.size,F,none⟩ (ι ((Q+1:Nat):Int)))):=ab.out _ (by omega) (by have:=t.out;rw[x] at this;exact this);have a8:=A.out (Q+1) aj;go_wp2_with (go_at_call 111;refine(mD _ pb _ _ _ ps l.pred n o z).mono ?_;rw[p.out];rintro e w' ⟨rfl,d⟩;obtain rfl:=d.symm)
          go_roundw
          case rel=>exact⟨j+1,_,true,by omega,by go_num,rfl,af.out,by omega,(fun _=>by omega),(fun h=>by cases h)⟩
          case measure=>simp[intOf];omega
        ·have B:Hid (S=false->RA cs ps b k/\lZ c ps b (j+1)):=fun h=>⟨(y.out h).1,ap.out (by rw[x];omega) (y.out h).2⟩;go_wp2_with (go_at_call 111;refine(mD _ pb _ _ _ ps l.pred n o z).mono ?_;rw[p.out];rintro e w' ⟨rfl,d⟩;obtain rfl:=d.symm)
         go_roundw
         case rel=>exact⟨j+1,b,S,by omega,by go_num,rfl,a,G,L,B⟩
         case measure=>simp[intOf];omega
      ·have HE:=Q5 fun h=>ah.out b (y.out h).1 (by have h2:=(y.out h).2;rw[show c.body.length=j from by omega];exact h2);go_wp2;go_roundw
       case rel=>exact⟨k+1,b,S,by omega,by go_num,rfl,a,G,L,HE⟩
       case measure=>simp[intOf];omega
    ·have aE:k=cs.length:=by omega
     have aS:=LJ r.len r.top;go_wp2;go_roundg (2*(ps.length*ps.length-Y.sum)+mi.toNat)
     case measure=>
      have aW:2*(ps.length*ps.length-I.sum)+1<=gk:=hN;clear hN;generalize ps.length*ps.length=nn at *;cases mi with
      |false=>simp only[Bool.toNat_false];omega
      |true=>have:=aa rfl;simp only[Bool.toNat_true];omega
     case rel=>exact⟨Y,mi,rfl,r,(by rw[←aE];exact a3.out),zg _⟩
end
section
variable {ps:κ}{t:List zh}{cs:List zd}
theorem EO(h:yB ps){i j:Nat}(c:i<ps.length)(b:j<ps.length)(e:ps[i]=ps[j]):i=j:=by
 unfold yB at h;rw[wM] at h;rcases p5 i j with a|a|a
 ·have:=h i j c b a;rw[e,QK] at this;cases this
 ·exact a
 ·have:=h j i b c a;rw[e,QK] at this;cases this
theorem Px{sv:List Nat}(h:yB ps)(e:sv.length=ps.length){k:Nat}(b:k<ps.length):vE ps sv ps[k]=sv[k]:=by
 obtain⟨j,a⟩:=wL (zs b);obtain⟨c,d⟩:=fO a;have:=EO h c b d;subst this;exact sW a (by omega)
theorem LE(h:yB (Q8 t)){k:Nat}(c:k<t.length):val t t[k].name=t[k].qh:=by
 unfold val;cases a:yo t t[k].name with
 |none=>exact zC rfl (nz h a t[k] (zs c))
 |some e=>
  obtain⟨d,b,f⟩:=jR a;have g:=EO h (by simpa [Q8] using d) (by simpa [Q8] using c) (by simp[Q8,b,f]);simp only;rw[←b];congr 1;congr 1
theorem wF(h:RL t (cs.flatMap zk)):kt t cs:=by
 intro c a l f;cases b:yo t l.pred with
 |some e=>rfl
 |none=>
  obtain⟨e,d,g⟩:=zy.1 ((h.names l.pred).2 ⟨l,uJ.2 ⟨c,a,f⟩,rfl⟩);exact zC g (nz h.rise b e d)
theorem E4(h:∀e∈t,e.qh<=0)(n:ByteArray):val t n=0:=by
 unfold val;split
 ·rename_i e a;have:=h e (nH a).1;omega
 ·rfl
inductive fC (s:ByteArray):Except Int (List zd×κ×List Nat)->Prop
 |long:500<s.size->fC s (.error 1)
 |lex:¬500<s.size->xe s.size s=none->fC s (.error 2)
 |parse {l:κ}:¬500<s.size->xe s.size s=some l->vu l=none->fC s (.error 3)
 |wrong {l:κ} {cs:List zd}:¬500<s.size->xe s.size s=some l->vu l=some cs->j6 cs≠0->fC s (.error (j6 cs))
 |strata {l:κ} {cs:List zd}:¬500<s.size->xe s.size s=some l->vu l=some cs->j6 cs=0->(¬∃f,R5 cs f)->fC s (.error 7)
 |ok {l:κ} {cs:List zd} {ps:κ} {sv:List Nat}:¬500<s.size->xe s.size s=some l->vu l=some cs->j6 cs=0->yB ps->(∀n,n∈ps↔∃x∈cs.flatMap zk,x.pred=n)->sv.length=ps.length->Rn cs (vE ps sv)->fC s (.ok (cs,ps,sv))
def sO:Except Int (List zd×List zh)->Except Int (List zd×κ×List Nat)
 |.error k=>.error k
 |.ok (cs,t)=>.ok (cs,Q8 t,t.map zh.qh)
theorem s5{s:ByteArray}{l:κ}(h:xe s.size s=some l):∃a,QG s=some a/\vu l=yI a.length a.length a:=by
 have b:=eQ s;rw[h] at b;cases c:QG s with
 |none=>rw[pX,c] at h;cases h
 |some a=>rw[c] at b;exact⟨a,rfl,b⟩
theorem eC:(j6 cs=4/\cs.any yE=true)∨(j6 cs=5/\cs.any yE=false/\ui cs=none)∨(∃t,cs.any yE=false/\ui cs=some t/\((j6 cs=6/\cs.all xo=false)∨(j6 cs=0/\cs.all xo=true))):=by
 unfold j6;rw[L4,GF];cases b:cs.any yE with
 |true=>exact zf ⟨rfl,rfl⟩
 |false=>
  right;cases a:ui cs with
  |none=>left;rw[FE a];exact⟨rfl,rfl,rfl⟩
  |some t=>
   right;refine⟨t,rfl,rfl,?_⟩;rw[(sS a).1];cases c:cs.all xo with
   |true=>exact zb ⟨rfl,rfl⟩
   |false=>exact zf ⟨rfl,rfl⟩
theorem Ad(h:ui cs=some t):∀e∈t,e.qh<=0:=wn _ [] (fun e a=>by cases a) t h
theorem DO{s:ByteArray}{r:Except Int (List zd×κ×List Nat)}(h:fC s r):sO (xQ s)=r:=by
 cases h with
 |long h=>unfold xQ;rw[zc h];rfl
 |lex h f=>
  unfold xQ;rw[za h];rw[pX] at f;cases G:QG s with
  |none=>rfl
  |some p=>rw[G] at f;cases f
 |parse h f i=>
  obtain⟨p,j,d⟩:=s5 f;rw[i] at d;unfold xQ;rw[za h,j];simp only;rw[←d];rfl
 |wrong h f i g=>
  rename_i cs;obtain⟨p,j,d⟩:=s5 f;rw[i] at d;unfold xQ;rw[za h,j];simp only;rw[←d];simp only;rcases eC (cs:=cs) with⟨e,a⟩|⟨e,a,b⟩|⟨t,a,b,⟨e,c⟩|⟨e,c⟩⟩
  ·rw[e,a];rfl
  ·rw[e,a,b];rfl
  ·rw[e,a,b];simp only;rw[c];rfl
  ·exact zC e g
 |strata h f i g x=>
  rename_i cs;obtain⟨p,j,d⟩:=s5 f;rw[i] at d;unfold xQ;rw[za h,j];simp only;rw[←d];simp only;rcases eC (cs:=cs) with⟨e,a⟩|⟨e,a,b⟩|⟨t,a,b,⟨e,c⟩|⟨e,c⟩⟩
  ·rw[g] at e;cases e
  ·rw[g] at e;cases e
  ·rw[g] at e;cases e
  ·rw[a,b];simp only;rw[c];have q:=wH (wF (sS b).2) (E4 (Ad b));have:(xH (t.length+1) t cs).2=false:=by rw[←p7];exact fun e=>x (q.1.1 e)
   rw[this];rfl
 |ok h f i g w J A D=>
  rename_i l cs ps H;obtain⟨p,j,d⟩:=s5 f;rw[i] at d;unfold xQ;rw[za h,j];simp only;rw[←d];simp only;rcases eC (cs:=cs) with⟨e,a⟩|⟨e,a,b⟩|⟨t,a,b,⟨e,c⟩|⟨e,c⟩⟩
  ·rw[g] at e;cases e
  ·rw[g] at e;cases e
  ·rw[g] at e;cases e
  ·rw[a,b];simp only;rw[c];have u:=(sS b).2;have q:=wH (wF u) (E4 (Ad b));have o:=q.1.2 ⟨_,D.1⟩;have m:=q.2 o;have C:=wt (t.length+1) t cs (wF u);rw[o];simp only[if_true,gL,if_false,sO];generalize (xH (t.length+1) t cs).1=B at m C;have v:=C.trans (Fv u.rise w fun n=>(u.names n).trans (J n).symm);subst v;have z:B.map zh.qh=H:=by
    apply kP (by rw[A];simp[Q8]);intro k y F;have E:k<B.length:=by simpa using y
    have K:=Px w A (k:=k) (by omega);have I:=LE w E;rw[←K,OA D m];simp only[Q8,uM];exact I.symm
   rw[z]
end
section
open Go.Proofs.Tryz Go.RowKit
variable {lo:Nat}{l:List QA}
theorem Mk:∀{ts:κ} {l:List QA},dV ts l->∀t∈ts,∃y∈l,y.2=t:=by
 intro ts l h;induction h with
 |one=>intro t a;simp at a;exact⟨_,ro,a.symm⟩
 |more _ _ _ c=>
  intro t a;rcases zx.1 a with rfl|a
  ·exact⟨_,ro,rfl⟩
  ·obtain⟨y,b,e⟩:=c t a;exact⟨y,by simp[b],e⟩
theorem sF{a:zj}(h:qv a l):∀t∈a.args,∃y∈l,y.2=t:=by
 cases h with
 |bare=>intro t b;cases b
 |args _ _ d _=>intro t b;obtain⟨y,c,e⟩:=Mk d t b;exact⟨y,by simp[c],e⟩
theorem CV{a:zj}(h:gy a l):∀t∈a.args,∃y∈l,y.2=t:=by
 cases h with
 |qc h=>exact sF h
 |neg _ h=>intro t b;obtain⟨y,c,e⟩:=sF h t b;exact⟨y,by simp[c],e⟩
theorem JM:∀{b:List zj} {l:List QA},gq b l->∀a∈b,∀t∈a.args,∃y∈l,y.2=t:=by
 intro b l h;induction h with
 |one h=>intro a c;simp at c;subst c;exact CV h
 |more h _ _ g=>
  intro a c t f;rcases zx.1 c with rfl|c
  ·obtain⟨y,d,e⟩:=CV h t f;exact⟨y,by simp[d],e⟩
  ·obtain⟨y,d,e⟩:=g a c t f;exact⟨y,by simp[d],e⟩
theorem IR{c:zd}(h:dZ c l):∀a∈zk c,∀t∈a.args,∃y∈l,y.2=t:=by
 cases h with
 |fact h=>intro a b;simp[zk] at b;subst b;exact sF h
 |rule h _ g=>
  intro a b t f;simp only[zk] at b;rcases zx.1 b with rfl|b
  ·obtain⟨y,d,e⟩:=sF h t f;exact⟨y,by simp[d],e⟩
  ·obtain⟨y,d,e⟩:=JM g a b t f;exact⟨y,by simp[d],e⟩
theorem Dx:∀{cs:List zd} {l:List QA},fd cs l->∀c∈cs,∀a∈zk c,∀t∈a.args,∃y∈l,y.2=t:=by
 intro cs l h;induction h with
 |nil=>intro c b;cases b
 |cons h _ _ i=>
  intro c b a f t g;rcases zx.1 b with rfl|b
  ·obtain⟨y,d,e⟩:=IR h a f t g;exact⟨y,by simp[d],e⟩
  ·obtain⟨y,d,e⟩:=i c b a f t g;exact⟨y,by simp[d],e⟩
structure OB (cs:List zd):Prop where
 ok:∀c∈cs,vR c/\c.body.length<=999/\yU (zk c)<=1000/\∀l∈zk c,∀t∈l.args,0<t.size
 len:cs.length<=1000
 lits:(cs.flatMap zk).length<=1000
theorem tH{s:ByteArray}{l:κ}(hs:s.size<=500)(h:xe s.size s=some l):∃a,QG s=some a/\l=zU a/\l.length<=500/\∀y∈l,0<y.size:=by
 rw[pX] at h;cases b:QG s with
 |none=>rw[b] at h;cases h
 |some a=>
  rw[b] at h;simp only[jy,zt] at h;subst h;refine⟨a,rfl,rfl,?_,?_⟩
  ·have:=sY b;simp;omega
  ·intro y c;obtain⟨x,d,rfl⟩:=zy.1 c;exact(pf b x d).2
theorem oi{s:ByteArray}{l:κ}{cs:List zd}(hs:s.size<=500)(h:xe s.size s=some l)(j:vu l=some cs):OB cs:=by
 obtain⟨d,b,rfl,n,w⟩:=tH hs h;have e:xU d:=fun x u=>(pf b x u).1;have m:=(o5 e cs).1 j;have i:yI d.length d.length d=some cs:=by
  have:=eQ s;rw[h,b] at this;simp only[Option.bind_some] at this;rw[←this];exact j
 have v:=sC i;have q:d.length<=500:=by simpa [zU] using n
 have g:=i3 (cs:=cs) (by omega);refine⟨fun c f=>⟨g c f,?_,?_,?_⟩,by have:=i6 cs;omega,by have:=iY cs;omega⟩
 ·have b:=eb f;have r:=rj c.body;unfold Sq kA at b;omega
 ·have b:=eb f;have r:=rj c.body;unfold Sq kA at b;simp only[zk,yU] at *;simp;omega
 ·intro a o t p;obtain⟨y,k,rfl⟩:=Dx m c f a o t p;exact(pf b y k).2
def pp(r:Except Int (List zd×κ×List Nat))(w:World)(e:Ending)(w':World):Prop:=
 μ w w'/\match r with
  |.error n=>e=ε (.tuple #[.pointer none,ι n])
  |.ok (h,g,d)=>∃a b f c,e=ε (.tuple #[(π a),ι 0])/\Q6 w' a #[b,f,c] 45/\Rh w.heap.size 93 w' b h/\QD w.heap.size w' f g/\w'.ownsRow w.heap.size 3 1 c d.length (d.map Rj)/\w.heap.size<=a
theorem L8(s:ByteArray)(w:World)(hs:500<s.size)(b:s.size<=9223372036854775807):
  Calls prog 33 #[.string s] w fun e a=>pp (.error 1) w e a:=by
 go_enter func33,ntmps33;go_wp2;go_ret2
 exact⟨zo _ _,rfl⟩
theorem Oy(s:ByteArray)(w:World)(hs:s.size<=500)(h:xe s.size s=none):
  Calls prog 33 #[.string s] w fun e b=>pp (.error 2) w e b:=by
 have c:Hid (∀W,Calls prog 65 #[.string s] W fun e b=>μ W b/\e=ε (.tuple #[ν,.bool false])):=fun W=>by have:=tL s W hs;rw[h] at this;exact this
 clear h;go_enter func33,ntmps33;go_wp2_with (go_at_call 65;refine(c.out _).mono ?_;rintro e d ⟨a,rfl⟩;clear c)
 go_ret2
 exact⟨a,rfl⟩
theorem FB(s:ByteArray)(w:World)(hs:s.size<=500)(l:κ)(h:xe s.size s=some l)(g:vu l=none):
  Calls prog 33 #[.string s] w fun e k=>pp (.error 3) w e k:=by
 obtain⟨_,_,_,i,o⟩:=tH hs h;have f:=Q5 fun W=>by have:=tL s W hs;rw[h] at this;exact this
 have d:=Q5 fun W v m=>by have:=o6 W v l m o i;rw[g] at this;exact this
 go_enter func33,ntmps33;go_wp2_with (first|(go_at_call 65;refine(f.out _).mono ?_;rintro e p ⟨b,q,rfl,c⟩;clear f)|(go_at_call 66;refine(d.out _ _ (SV.of c)).mono ?_;rintro e t ⟨a,r,n,j,rfl⟩;clear d))
 go_ret2
 exact⟨Q9 b a,rfl⟩
theorem In(s:ByteArray)(w:World)(hs:s.size<=500)(l:κ)(cs:List zd)(h:xe s.size s=some l)(y:vu l=some cs)(I:j6 cs≠0):
  Calls prog 33 #[.string s] w fun e u=>pp (.error (j6 cs)) w e u:=by
 obtain⟨_,_,_,H,D⟩:=tH hs h;have i:=oi hs h y;have f:=i.len;have B:=Q5 fun W=>by have:=tL s W hs;rw[h] at this;exact this
 have z:=Q5 fun W v F=>by have:=o6 W v l F D H;rw[y] at this;exact this
 have d:Hid (∀lo W n m o k,Q6 W n #[m,o,k] 45->Rh lo 93 W m cs->Calls prog 67 #[(π n)] W fun e u=>e=ε (ι (j6 cs))/\μ W u):=fun _ W n m o k E C=>Cu W n m o k cs E C i.ok f;go_enter func33,ntmps33;go_wp2_with (first|(go_at_call 65;refine(B.out _).mono ?_;rintro e J ⟨r,o,rfl,t⟩;clear B)|(go_at_call 66;refine(z.out _ _ (SV.of t)).mono ?_;rintro e G ⟨q,k,rfl,a⟩;obtain⟨g,b,rfl⟩:=a.qx;have j:=Q9 r q;clear z)|(go_at_call 67;refine(d.out _ _ _ _ _ _ (Q6.new _ _ _) (by exact a.below (by repeat'(first|with_reducible(first|apply zR|assumption|apply zN|apply zA|apply zD|apply zS)|go_size)))).mono ?_;rintro e K ⟨rfl,c⟩;have A:=(Q6.new G #[.slice g cs.length b,ν,ν] 45).below c;have x:=(a.below ((zo _ _).alloc (zg _) (.cells #[.slice g cs.length b,ν,ν] 45))).below c;have p:=Q9 (j.alloc j.size _) c;clear d))
 go_ret2
 exact⟨p,rfl⟩
theorem GM(w:World)(pb:Nat)(a d v2:Value)(cs:List zd)(ps:κ)(p:Q6 w pb #[a,d,v2] 45)(m:Rh lo 93 w a cs){k:Nat}(j:QD k w d ps)(i:∀c∈cs,vR c/\c.body.length<=999)(q:cs.length<=1000)(g:ps.length<=1000)(n:∀c∈cs,∀l∈zk c,l.pred∈ps)(r:Hid (∃f,R5 cs f)):
  Calls prog 70 #[(π pb)] w fun e o=>∃b,e=ε (.bool true)/\QH pb w o/\Sl w pb a d cs ps b o/\Rn cs (vE ps b):=
 (Ew w pb a d v2 cs ps p m j i q g n).mono fun _ _ ⟨s,u⟩=>u.elim (fun h=>zC r.out h.2) fun⟨b,t,x,v⟩=>⟨b,t,s,x,v⟩
theorem OP(w:World)(pb:Nat)(b m v2:Value)(cs:List zd)(ps:κ)(n:Q6 w pb #[b,m,v2] 45)(j:Rh lo 93 w b cs){i:Nat}(g:QD i w m ps)(d:∀c∈cs,vR c/\c.body.length<=999)(o:cs.length<=1000)(a:ps.length<=1000)(k:∀c∈cs,∀l∈zk c,l.pred∈ps)(p:Hid (¬∃f,R5 cs f)):
  Calls prog 70 #[(π pb)] w fun e r=>e=ε (.bool false)/\QH pb w r:=
 (Ew w pb b m v2 cs ps n j g d o a k).mono fun _ _ ⟨q,s⟩=>s.elim (fun h=>⟨h.1,q⟩) fun⟨_,_,_,t⟩=>zC ⟨_,t.1⟩ p.out
theorem KO(cs:List zd)(k:Nat)(a:k<cs.length):(cs.take (k+1)).flatMap zk=(cs.take k).flatMap zk++zk cs[k]:=by rw[yM a,List.flatMap_append];simp
theorem LP(s:ByteArray)(w:World)(hs:s.size<=500)(l:κ)(cs:List zd)(h:xe s.size s=some l)(hp:vu l=some cs)(hx:j6 cs=0):
  Calls prog 33 #[.string s] w fun e w'=>∃r,fC s r/\pp r w e w':=by
 obtain⟨_,_,_,h3,h4⟩:=tH hs h;have ac:=oi hs h hp;have N:=ac.len;have T:=Q5 ac;have HW:Hid (∀W,Calls prog 65 #[.string s] W fun e w'=>μ W w'/\∃v,e=ε (.tuple #[v,.bool true])/\w'.ownsRow W.heap.size 9 1 v l.length (l.map Value.string)):=fun W=>by have:=tL s W hs;rw[h] at this;exact this
 have HC:Hid (∀W v,SV W v l->Calls prog 66 #[v] W fun e w'=>μ W w'/\∃v,e=ε (.tuple #[v,.bool true])/\Rh W.heap.size 93 w' v cs):=fun W v hv=>by have:=o6 W v l hv h4 h3;rw[hp] at this;exact this
 have a7:Hid (∀lo W pb cv v1 v2,Q6 W pb #[cv,v1,v2] 45->Rh lo 93 W cv cs->Calls prog 67 #[(π pb)] W fun e w'=>e=ε (ι 0)/\μ W w'):=fun _ W pb cv v1 v2 h1 h2=>by rw[←hx];exact Cu W pb cv v1 v2 cs h1 h2 ac.ok N
 have aG:Hid ((¬∃f,R5 cs f)->fC s (.error 7)):=fun hn=>.strata (by omega) h hp hx hn;have ax:Hid (∀t sv,yB t->(∀n,n∈t↔∃x∈cs.flatMap zk,x.pred=n)->sv.length=t.length->Rn cs (vE t sv)->fC s (.ok (cs,t,sv))):=fun t sv h1 h2 h3 h4=>.ok (by omega) h hp hx h1 h2 h3 h4;obtain⟨i0,hi,aJ,aX,aK⟩:=info_parts Qq;clear h hp h4 ac hx;go_enter func33,ntmps33;go_wp2_with (first|(go_at_call 65;refine(HW.out _).mono ?_;rintro e w1 ⟨aA,v1,rfl,aV⟩;clear HW)|(go_at_call 66;refine(HC.out _ _ (SV.of aV)).mono ?_;rintro e w2 ⟨aH,v2,rfl,R⟩;obtain⟨a8,ad,rfl⟩:=R.qx;have H:=Q9 aA aH;clear HC)|(go_at_call 67;refine(a7.out _ _ _ _ _ _ (Q6.new _ _ _) (by exact R.below (by repeat'(first|with_reducible(first|apply zR|assumption|apply zN|apply zA|apply zD|apply zS)|go_size)))).mono ?_;rintro e w3 ⟨rfl,ao⟩;have au:=(Q6.new w2 #[.slice a8 cs.length ad,ν,ν] 45).below ao;have V:=(R.below ((zo _ _).alloc (zg _) (.cells #[.slice a8 cs.length ad,ν,ν] 45))).below ao;have an:=Q9 (H.alloc H.size _) ao;clear a7))
 go_loopw [9,10] (fun v8 v9 wr=>∃k:Nat,k<=cs.length/\v9=ι k/\μ w3 wr/\wr.ownsRow w3.heap.size 9 1 v8 ((cs.take k).flatMap zk).length (((cs.take k).flatMap zk).map fun x=>Value.string x.pred)) (fun _ i _=>cs.length-(intOf i).toNat)
 case atStart=>exact⟨0,zv _,rfl,zo _ _,yC _ _ _ _⟩
 case round=>
  obtain⟨k,hk,rfl,I,z⟩:=hrel;by_cases am:k<cs.length
  ·obtain⟨g,bk,bc,br,bb,rfl,ae⟩:=V.at k am;have aN:=ae.below I;obtain⟨bt,bs,_,_⟩:=T.out.ok _ (zs am);have ap:=KO cs k am;have aE:=Q5 ap;have bi:((cs.take k).flatMap zk).length+(zk cs[k]).length<=1000:=by
    have h1:((cs.take (k+1)).flatMap zk).length<=(cs.flatMap zk).length:=by
     conv=>rhs;rw[←qZ (k+1) cs,List.flatMap_append,yp]
     omega
    have h2:=T.out.lits;rw[ap,yp] at h1;omega
   clear ap ae;generalize cs[k]=c at *;obtain⟨bp,be,rfl⟩:=zp z;have bo:(zk c).length<=1000:=by omega
   generalize (cs.take k).flatMap zk=A at *;generalize a5:zk c=y at *;have aF:=Q5 a5;clear a5;obtain⟨w4,rfl⟩:∃w4,w4=wr:=⟨wr,rfl⟩;go_wp2_with (go_at_call 68;refine(tG _ g (k*4) c _ _ _ _ aN (by omega)).mono ?_;rintro e w5 ⟨lv,rfl,P,aD⟩;rw[aF.out] at P;obtain⟨aP,ay,rfl⟩:=P.qx)
   obtain⟨xs,aS,aR⟩:=P;have aZ:=Q9 I aD;have ak:=zB z aD;go_loopw [9,12] (fun v8 aW wj=>∃j:Nat,j<=y.length/\aW=ι j/\μ w3 wj/\wj.ownsRow 0 90 3 (.slice aP y.length ay) y.length xs/\wj.ownsRow w3.heap.size 9 1 v8 (A++y.take j).length ((A++y.take j).map fun x=>Value.string x.pred)) (fun _ i _=>y.length-(intOf i).toNat)
   case atStart=>exact⟨0,zv _,rfl,aZ,aS,by simpa using ak⟩
   case round=>
    obtain⟨j,hj,rfl,al,ag,u⟩:=hrel;have av:=al.size;obtain⟨bn,bd,rfl⟩:=zp u;by_cases aw:j<y.length
    ·obtain⟨va,a1,a2,a3,a4⟩:=aR.at j y[j] (by simp[aw]);obtain⟨gl,aL,a9,_,bm,aq⟩:=yv ag (by omega);simp at a9;obtain⟨rfl,rfl⟩:=a9;have bq:=aq _ _ a2;have a6:=yM aw;have aB:(y.take j).length=j:=by rw[qt];omega
     have bu:(A++y.take j).length<=1000:=by rw[yp,aB];omega
     clear a1 a2 a3 a4 aq;generalize y[j]=a at *;have HT:=Q5 a6;clear a6 aB;have HQ:Hid (A++y.take (j+1)=(A++y.take j)++[a]):=by rw[Hid,HT.out,kH]
     clear HT;generalize (A++y.take j)=q at *;go_wp2_with (at_builtin;refine ks _ _ [.string a.pred] _ rfl (.tmp 54) (.tmp 60) 30 rfl w3.heap.size 9 i0 _ 1 16 underlying30 hi aJ aX aK rfl (by decide) _ _ _ rfl u (zo _ _) _ _ rfl (by simp) rfl (by simp[Value.oneCell']) (by omega) (by omega) av ?_;intro v' w7 aY C aI aU aQ bh;clear aI aU)
     go_roundw
     case rel=>exact⟨j+1,by omega,by go_num,al.trans C,gC u (by decide) ag aQ,by rw[HQ.out];simpa using aY⟩
     case measure=>simp[intOf];omega
    ·have he:y.take j=y:=xh (by omega);have aC:Hid ((cs.take (k+1)).flatMap zk=A++y.take j):=by rw[Hid,aE.out,he]
     clear he aE;generalize A++y.take j=q at *;go_wp2;go_roundw
     case rel=>exact⟨k+1,by omega,by go_num,al,by rw[aC.out];exact u⟩
     case measure=>simp[intOf];omega
  ·have he:cs.take k=cs:=xh (by omega);rw[he] at z;have Y:=T.out.lits;clear he;generalize ah:cs.flatMap zk=aa at *;have af:=Q5 ah;clear ah;obtain⟨aO,ar,rfl⟩:=zp z;have az:QD w3.heap.size wr (.slice aO aa.length ar) (aa.map zj.pred):=by simpa [QD,Function.comp_def] using z
   have L:=au.below I;obtain⟨bg,bf,ba⟩:=L.boxed;have O:=V.below I;have ai:Hid (∀c∈cs,vR c/\c.body.length<=999):=fun c hc=>⟨(T.out.ok c hc).1,(T.out.ok c hc).2.1⟩;by_cases hS:∃f,R5 cs f
   ·have HS:=Q5 hS;clear hS;go_wp2_with (first|(go_at_call 69;refine(Du _ _ (aa.map zj.pred) az (by simpa using Y)).mono ?_;rintro e w6 ⟨v6,t,rfl,S,Q,b,o,F⟩;obtain⟨G,m,rfl⟩:=S.qx;have d:=L.below F;obtain⟨aM,aT,a0⟩:=d.boxed;have J:=O.below F;have aj:=Q9 an (Q9 I F);have X:t.length<=1000:=(by simp at o;omega);have D:=(by simpa using d.set 1 (.slice G t.length m));have B:=(QH.refl w2.heap.size w6).setCell 1 (.slice G t.length m);have p:=J.but B d (by decide) (by decide) (by decide);have ab:=S.but B d (by decide);have C:μ w (w6.setCell ⟨w2.heap.size,1,none⟩ (.slice G t.length m)):=aj.setCell H.size _;have U:=Q5 (fun c hc l hl=>(b _).2 (zy.2 ⟨l,(by rw[←af.out];exact uJ.2 ⟨c,hc,hl⟩),rfl⟩));have M:=Q5 (fun n=>(b n).trans zy);clear b o)|(go_at_call 70;refine(GM _ w2.heap.size _ _ _ cs t (by exact D) (by exact p) (by exact ab) ai.out N X U.out HS).mono ?_;rintro e w8 ⟨sv,rfl,E,K,Z⟩))
    go_ret2
    exact⟨_,ax.out t sv Q M.out K.len Z,C.trans (E.below H.size C.size),w2.heap.size,_,_,_,rfl,K.box,(p.but E D (by decide) (by decide) (by decide)).low aA.size,(ab.but E D (by decide)).low (yc an.size I.size),by rw[K.len];exact yr K.row C.size,H.size⟩
   ·have HS:=Q5 hS;clear hS;go_wp2_with (first|(go_at_call 69;refine(Du _ _ (aa.map zj.pred) az (by simpa using Y)).mono ?_;rintro e w6 ⟨v6,t,rfl,S,Q,b,o,F⟩;obtain⟨G,m,rfl⟩:=S.qx;have d:=L.below F;obtain⟨aM,aT,a0⟩:=d.boxed;have J:=O.below F;have aj:=Q9 an (Q9 I F);have X:t.length<=1000:=(by simp at o;omega);have D:=(by simpa using d.set 1 (.slice G t.length m));have B:=(QH.refl w2.heap.size w6).setCell 1 (.slice G t.length m);have p:=J.but B d (by decide) (by decide) (by decide);have ab:=S.but B d (by decide);have C:μ w (w6.setCell ⟨w2.heap.size,1,none⟩ (.slice G t.length m)):=aj.setCell H.size _;have U:=Q5 (fun c hc l hl=>(b _).2 (zy.2 ⟨l,(by rw[←af.out];exact uJ.2 ⟨c,hc,hl⟩),rfl⟩));have M:=Q5 (fun n=>(b n).trans zy);clear b o)|(go_at_call 70;refine(OP _ w2.heap.size _ _ _ cs t (by exact D) (by exact p) (by exact ab) ai.out N X U.out HS).mono ?_;rintro e w8 ⟨rfl,E⟩))
    go_ret2
    exact⟨_,aG.out HS.out,C.trans (E.below H.size C.size),rfl⟩
theorem Da(s:ByteArray)(w:World)(i:s.size<=9223372036854775807):
  Calls prog 33 #[.string s] w fun e c=>∃r,fC s r/\pp r w e c:=by
 by_cases b:500<s.size
 ·exact(L8 s w b i).mono fun e c h=>⟨_,.long b,h⟩
 ·cases a:xe s.size s with
  |none=>exact(Oy s w (by omega) a).mono fun e c h=>⟨_,.lex b a,h⟩
  |some l=>
   cases d:vu l with
   |none=>exact(FB s w (by omega) l a d).mono fun e c h=>⟨_,.parse b a d,h⟩
   |some g=>
    by_cases f:j6 g=0
    ·exact LP s w (by omega) l g a d f
    ·exact(In s w (by omega) l g a d f).mono fun e c h=>⟨_,.wrong b a d f,h⟩
end
section
open Go.Proofs.Tryz Go.RowKit
variable {s:ByteArray}
theorem Qn:(prog.info? 40).map (fun i=>(i.zero,i.size,i.bytes))=some (some (.agg #[.pointer none,.pointer none]),2,16):=by kernel_rfl
theorem I9{k:Int}(h:xQ s=.error k):(k != 0)=true:=by
 unfold xQ at h;repeat'(split at h)
 all_goals first|(cases h;rfl)|cases h
theorem Ig{k:Int}(h:xQ s=.error k)(w:World)(a:s.size<=9223372036854775807):Calls prog 33 #[.string s] w fun e f=>e=ε (.tuple #[.pointer none,ι k])/\μ w f:=
 (Da s w a).mono fun _ _ ⟨r,c,g,d⟩=>by
  have b:=DO c;rw[h] at b;simp only[sO] at b;subst b;exact⟨d,g⟩
def jY(lo:Nat)(w:World)(pb:Nat)(cs:List zd)(t:List zh):Prop:=lo<=pb/\∃c a b,Q6 w pb #[c,a,b] 45/\Rh lo 93 w c cs/\QD lo w a (Q8 t)/\w.ownsRow lo 3 1 b t.length ((t.map zh.qh).map Rj)
theorem MW{cs:List zd}{t:List zh}(h:xQ s=.ok (cs,t))(w:World)(b:s.size<=9223372036854775807):Calls prog 33 #[.string s] w fun e d=>∃a,e=ε (.tuple #[(π a),ι 0])/\jY w.heap.size d a cs t/\μ w d:=
 (Da s w b).mono fun _ _ ⟨r,o,q,p⟩=>by
  have c:=DO o;rw[h] at c;simp only[sO] at c;subst c;obtain⟨a,j,u,l,k,i,f,n,g,m⟩:=p;exact⟨a,k,⟨m,j,u,l,i,f,n,by simpa using g⟩,q⟩
theorem Lu{k:Int}(h:xQ s=.error k)(w:World)(a:s.size<=9223372036854775807):Calls prog 32 #[.string s] w fun e c=>e=ε (.tuple #[.pointer none,ι k])/\μ w c:=
 (BD s w a).mono fun _ _ ⟨d,b⟩=>by rw[h] at b;exact⟨b,d⟩
theorem Oh{cs:List zd}{t:List zh}(h:xQ s=.ok (cs,t))(w:World)(b:s.size<=9223372036854775807):Calls prog 32 #[.string s] w fun e c=>∃a,e=ε (.tuple #[(π a),ι 0])/\km w.heap.size c a cs t/\μ w c:=
 (BD s w b).mono fun _ _ ⟨l,d⟩=>by
  rw[h] at d;obtain⟨a,v,m,j,i,f,g,k⟩:=d;exact⟨a,j,⟨k,v,m,i,f,g⟩,l⟩
end
section
open Go.RowKit
variable {lo:Nat}
theorem jY.below{w w':World}{pb:Nat}{cs:List zd}{t:List zh}(h:jY lo w pb cs t)(a:μ w w'):jY lo w' pb cs t:=by
 obtain⟨e,b,i,c,d,g,f,j⟩:=h;exact⟨e,b,i,c,d.below a,g.below a,f.below a,zB j a⟩
end
section
open Go.RowKit
variable {lo:Nat}{s w:World}
def RI(lo:Nat)(s w:World):Prop:=∀b,lo<=b->b<s.heap.size->w.heap[b]?=s.heap[b]?
theorem rx{e:TypeId}{a:Nat}{v:Value}{n:Nat}{xs:List Value}(h:s.ownsRow lo e a v n xs)(hs:RI lo s w):w.ownsRow lo e a v n xs:=by
 obtain⟨k,c⟩:=h;refine⟨k,?_⟩;rcases c with c|⟨g,b,d,l,f,i,j⟩
 ·exact zf c
 ·refine zb ⟨g,b,d,l,f,?_,j⟩;rw[hs g f (kQ.1 i).1];exact i
theorem Q6.same{b:Nat}{c:Array Value}{T:TypeId}(h:Q6 s b c T)(a:lo<=b)(hs:RI lo s w):Q6 w b c T:=by
 have:=h.lt;unfold Q6 at *;rw[hs b a this];exact h
theorem QD.same{v:Value}{l:κ}(h:QD lo s v l)(hs:RI lo s w):QD lo w v l:=rx h hs
theorem Re.same{s w:World}{v:Value}{l:List zj}(h:Re lo s v l)(hs:RI lo s w):Re lo w v l:=by
 obtain⟨c,a,b⟩:=h;exact⟨c,rx a hs,b.mono fun _ _ q=>q.same hs⟩
theorem Rh.same{T:TypeId}{s w:World}{v:Value}{l:List zd}(h:Rh lo T s v l)(hs:RI lo s w):Rh lo T w v l:=by
 obtain⟨c,a,b⟩:=h;exact⟨c,rx a hs,b.mono (fun _ _ q=>q.same hs) (fun _ _ q=>q.same hs)⟩
theorem km.same{s w:World}{pb:Nat}{cs:List zd}{t:List zh}(h:km lo s pb cs t)(hs:RI lo s w):km lo w pb cs t:=by
 obtain⟨a,v,e,b,d,c⟩:=h;exact⟨a,v,e,b.same a hs,d.same hs,rx c hs⟩
theorem jY.same{s w:World}{pb:Nat}{cs:List zd}{t:List zh}(h:jY lo s pb cs t)(hs:RI lo s w):jY lo w pb cs t:=by
 obtain⟨a,b,g,c,d,f,e,i⟩:=h;exact⟨a,b,g,c,d.same a hs,f.same hs,e.same hs,rx i hs⟩
theorem km.low{a b:Nat}{w:World}{pb:Nat}{cs:List zd}{t:List zh}(h:km b w pb cs t)(c:a<=b):km a w pb cs t:=by
 obtain⟨i,v,g,d,f,e⟩:=h;exact⟨by omega,v,g,d,f.low c,yr e c⟩
theorem jY.low{a b:Nat}{w:World}{pb:Nat}{cs:List zd}{t:List zh}(h:jY b w pb cs t)(c:a<=b):jY a w pb cs t:=by
 obtain⟨l,d,j,e,f,i,g,k⟩:=h;exact⟨by omega,d,j,e,f,i.low c,g.low c,yr k c⟩
structure i7 (cs:List zd) (t:List zh):Prop where
 len:cs.length<=1000
 names:t.length<=1000
 fine:∀c∈cs,ip c/\vR c/\c.body.length<=6/\yU (zk c)<=1000
 rise:yB (Q8 t)
abbrev fG:=Nat×Nat×List zd×List zh
def lu(B:Nat)(w:World)(a:List Nat)(p:fG):Prop:=∃(lo:Nat) (s:World),B<=lo/\km lo s p.1 p.2.2.1 p.2.2.2/\jY lo s p.2.1 p.2.2.1 p.2.2.2/\i7 p.2.2.1 p.2.2.2/\RI lo s w/\s.heap.size<=w.heap.size/\∀b∈a,b<lo∨s.heap.size<=b
theorem lu.save{B:Nat}{w':World}{f a N:List Nat}{p:fG}(h:lu B w f p)(hs:ze N w w')(j:∀b∈N,b∈f)(d:∀b∈a,b∈f∨w.heap.size<=b):lu B w' a p:=by
 obtain⟨lo,s,l,k,n,m,q,o,g⟩:=h;refine⟨lo,s,l,k,n,m,fun b e c=>?_,yc o hs.size,fun b i=>?_⟩
 ·rw[hs.block b (by omega) (fun d=>by have:=g b (j b d);omega)];exact q b e c
 ·rcases d b i with h|h
  ·exact g b h
  ·right;omega
theorem lu.new{B lo:Nat}{a:List Nat}{pb c:Nat}{cs:List zd}{t:List zh}(h:B<=lo)(f:km lo w pb cs t)(i:jY lo w c cs t)(g:i7 cs t)(e:∀b∈a,b<lo):lu B w a (pb,c,cs,t):=
 ⟨lo,w,h,f,i,g,fun _ _ _=>rfl,zg _,fun b d=>zf (e b d)⟩
def kG(ps:List fG):List Value:=ps.flatMap fun p=>[.pointer (some ⟨p.1,0,none⟩),.pointer (some ⟨p.2.1,0,none⟩)]
end
end Go.Proofs.YteampbddflhngaaGreat
