import Derived.Laws.AppendOwnNone
import Derived.Test.YteampbddflhngaaGreatX11
import Derived.Test.YteampbddflhngaaGreatX12
import Derived.Test.YteampbddflhngaaGreatX18
namespace Go.Proofs.YteampbddflhngaaGreat
set_option linter.all false
set_option maxRecDepth 100000
set_option maxHeartbeats 40000000
section
open Go.Proofs.Tryz Go.RowKit
variable {lo:Nat}
theorem tP(w:World)(v:Value)(vs:List ByteArray)(t:ByteArray)(hs:P7 lo w v vs)(p:vs.length<=1000):
  Calls prog 109 #[v,.string t] w fun e m=>e=.returned (.bool (yZ t vs))/\m=w:=by
 obtain⟨q,j,rfl⟩:=hs.qx;go_enter func109,ntmps109;go_wp2;go_loop [5] (fun i=>∃k:Nat,k<=vs.length/\i=.int .i64 k/\Hid (t∈vs↔t∈vs.drop k)) (fun i=>vs.length-(intOf i).toNat)
 case atStart=>exact⟨0,zx _,rfl,by simp[Hid]⟩
 case round=>
  obtain⟨k,n,rfl,H⟩:=hrel;by_cases a:k<vs.length
  ·obtain⟨g,rfl,o,h⟩:=hs.cell k a;have d:=xk a;generalize vs[k]=x at *;have f:=Px d;by_cases c:x=t
   ·have l:=kL c;have b:Hid (t∈vs):=by rw[Hid,H.out,f.out,c];simp
    go_wp2;go_ret;exact⟨by rw[j7.2 b.out];rfl,rfl⟩
   ·have l:=jp c;have b:Hid (t∈vs↔t∈vs.drop (k+1)):=by rw[Hid,H.out,f.out];simp[Ne.symm c]
    go_wp2;go_round
    case rel=>exact⟨k+1,by omega,by go_num,b⟩
    case measure=>simp[intOf];omega
  ·have b:Hid (t∉vs):=by rw[Hid,H.out,ug (by omega)];simp
   go_wp2;go_ret;exact⟨by rw[pM.2 b.out];rfl,rfl⟩
theorem uA.one{w:World}:∀{c:List zj} {b:List Value},uA lo w c b->∀u∈b,u.oneCell'=true
 |[],_,h,u,a=>by simp only[uA] at h;subst h;cases a
 |_::c,_,h,u,a=>by
  obtain⟨v,r,rfl,e,d⟩:=h;obtain⟨g,f,rfl⟩:=e.qx;simp only[zu] at a;rcases a with rfl|rfl|rfl|a
  ·rfl
  ·rfl
  ·rfl
  ·exact uA.one d u a
structure fg (w:World) (g o:Nat) (c:zc) (ao:Option Addr) (cap:Nat) (aob:Option Addr) (capb:Nat):Prop where
 lt:g<w.heap.size
 c0:w.cell? ⟨g,o,none⟩=some (.bool c.head.neg)
 c1:w.cell? ⟨g,o+1,none⟩=some (.string c.head.pred)
 c2:w.cell? ⟨g,o+2,none⟩=some (.slice ao c.head.args.length cap)
 c3:w.cell? ⟨g,o+3,none⟩=some (.slice aob c.body.length capb)
 args:P7 0 w (.slice ao c.head.args.length cap) c.head.args
 body:PX 0 w (.slice aob c.body.length capb) c.body
theorem fg.below{w e:World}{g o:Nat}{c:zc}{f:Option Addr}{cap:Nat}{d:Option Addr}{a:Nat}(h:fg w g o c f cap d a)(b:Below w.heap.size w e):fg e g o c f cap d a:=
 ⟨xG h.lt b.size,(b.cell (p:=⟨g,o,none⟩) h.lt).trans h.c0,(b.cell (p:=⟨g,o+1,none⟩) h.lt).trans h.c1,(b.cell (p:=⟨g,o+2,none⟩) h.lt).trans h.c2,(b.cell (p:=⟨g,o+3,none⟩) h.lt).trans h.c3,h.args.below b,h.body.below b⟩
theorem Qa.at{T:TypeId}{w:World}{e:Option Addr}{n cap:Nat}{cs:List zc}(h:Qa lo T w (.slice e n cap) cs)(k:Nat)(r:k<cs.length):∃g c b d a,e=some ⟨g,0,none⟩/\fg w g (k*4) cs[k] c b d a:=by
 obtain⟨g,c,b,d,a,o,f,q,j,p,m,i,l⟩:=h.cell k r;exact⟨g,c,b,d,a,o,f,q,j,p,m,i.low (zx _),l.low (zx _)⟩
theorem tK(w:World)(g o:Nat)(c:zc)(m:Option Addr)(cap:Nat)(G:Option Addr)(f:Nat)(h:fg w g o c m cap G f)(hl:c.body.length<=1000):
  Calls prog 68 #[.pointer (some ⟨g,o,none⟩)] w fun e l=>∃v,e=.returned v/\PX 0 l v (zl c)/\Below w.heap.size w l:=by
 obtain⟨S,R,A,J,M⟩:=info_parts Pe;have W:=h.lt;have h0:=h.c0;have h1:=h.c1;have h2:=h.c2;have h3:=h.c3;obtain⟨y,s,t⟩:=h.body;have d:=(zo w.heap.size w).alloc (zf _) (.cells #[.bool c.head.neg,.string c.head.pred,.slice m c.head.args.length cap] 90);have b:(w.alloc (.cells #[.bool c.head.neg,.string c.head.pred,.slice m c.head.args.length cap] 90)).ownsRow w.heap.size 90 3 (.slice (some ⟨w.heap.size,0,none⟩) 1 1) 1 [.bool c.head.neg,.string c.head.pred,.slice m c.head.args.length cap]:=
  ⟨rfl,ze ⟨w.heap.size,1,_,rfl,zf _,Py.new w _ _,zf _,by unfold maxLen;omega,rfl,rfl⟩⟩
 have L:=s.1;have E:=uA.one t;have i:∀l,Below w.heap.size w l->uA 0 l (zl c) ([.bool c.head.neg,.string c.head.pred,.slice m c.head.args.length cap]++y):=fun l Q=>⟨_,_,rfl,h.args.below Q,t.mono fun _ _ q=>q.below Q⟩;have a:=Px i;have r:=s;obtain⟨_,⟨n,hn⟩|⟨I,O,T,n,aa,N,Y,X,U,V⟩⟩:=r
 ·simp at n;obtain⟨rfl,C,rfl⟩:=n;have K:y=[]:=rf (by omega);go_enter func68,ntmps68;go_wp2_with (first|(at_builtin;refine wpList_append_own_none rfl (.tmp 9) (.tmp 13) 91 rfl w.heap.size 90 S 3 underlying91 R _ _ _ rfl b rfl ?_))
  go_ret;refine⟨_,rfl,⟨_,?_,a.out _ d⟩,d⟩;rw[K,qE];simpa [zl,C] using yq b (zx _)
 ·simp at n;obtain⟨rfl,_,rfl⟩:=n;have H:∀j u,y[j]?=some u->(w.alloc (.cells #[.bool c.head.neg,.string c.head.pred,.slice m c.head.args.length cap] 90)).cell? (Addr.add ⟨I,0,none⟩ j)=some u:=fun j u x=>by
   rw[Addr.add_lit,vF,d.cell (p:=⟨I,j,none⟩) (kw.1 N).1];unfold World.cell?;rw[N];simp;rw[←V,l9] at x;split at x
   ·simpa using x
   ·simp at x
  have D:=Px H;have B:=Px E;go_enter func68,ntmps68;go_wp2_with (first|(at_builtin;refine wpList_append_own _ rfl (.tmp 9) (.tmp 13) 91 rfl w.heap.size 90 S _ 3 48 underlying91 R A J M rfl (by decide) _ _ _ rfl b ⟨I,0,none⟩ c.body.length f y rfl L D.out B.out (by unfold maxLen;omega) (by omega) (by simp) ?_;intro v' w2 z F _))
  go_ret;have P:=d.grown F (by simp) (fun k Z=>by cases Z;exact zf _);refine⟨_,rfl,⟨_,?_,a.out _ P⟩,P⟩;rw[show(zl c).length=1+c.body.length by simp[zl];omega];exact yq z (zx _)
def m8(qc first:Bool)(vs:List ByteArray)(l:zj):List ByteArray:=if qc&&(first||l.neg) then vs else xn vs l.args
def qQ(qc:Bool)(a:List zj):Nat->List ByteArray
 |0=>[]
 |k+1=>match a[k]? with
  |none=>qQ qc a k
  |some l=>m8 qc (k == 0) (qQ qc a k) l
theorem tM(qc:Bool)(a:List zj)(k:Nat)(b:k<a.length):qQ qc a (k+1)=m8 qc (k == 0) (qQ qc a k) a[k]:=by
 rw[qQ,yr b]
theorem IR(qc first:Bool)(vs:List ByteArray)(l:zj):(m8 qc first vs l).length<=vs.length+l.args.length:=by
 unfold m8;split
 ·omega
 ·exact m6 l.args vs
theorem Ce(qc:Bool)(a:List zj):∀k,k<=a.length->(qQ qc a k).length<=xf (a.take k)
 |0,_=>by simp[qQ]
 |k+1,c=>by
  rw[tM qc a k (by omega),yP (by omega),FW];have d:=Ce qc a k (by omega);have b:=IR qc (k == 0) (qQ qc a k) a[k];omega
theorem Ke(c:zc):qQ false (zl c) (zl c).length=xI c:=by
 have a:∀k,k<=c.body.length->qQ false (zl c) (k+1)=(c.body.take k).foldl kt (xn [] c.head.args):=by
  intro k;induction k with
  |zero=>intro _;rfl
  |succ k b=>
   intro d;rw[tM _ _ _ (by simp[zl];omega),b (by omega),yP (by omega),js];rfl
 have:=a c.body.length (zf _);rw[vf] at this;exact this
theorem GB(c:zc):qQ true (zl c) (zl c).length=z7 c:=by
 have a:∀k,k<=c.body.length->qQ true (zl c) (k+1)=(c.body.take k).foldl vA []:=by
  intro k;induction k with
  |zero=>intro _;rfl
  |succ k b=>
   intro d;rw[tM _ _ _ (by simp[zl];omega),b (by omega),yP (by omega),js];simp only[un,List.foldl_nil,m8,vA,zl,mB];simp
 have:=a c.body.length (zf _);rw[vf] at this;exact this
theorem As(w:World)(qc:Bool)(g o:Nat)(c:zc)(ao:Option Addr)(cap:Nat)(M:Option Addr)(A:Nat)(h:fg w g o c ao cap M A)(hl:c.body.length<=999)(aq:xf (zl c)<=1000)(hz:∀l∈zl c,∀t∈l.args,0<t.size):
  Calls prog 108 #[.pointer (some ⟨g,o,none⟩),.bool qc] w fun e C=>∃v,e=.returned v/\P7 w.heap.size C v (qQ qc (zl c) (zl c).length)/\Below w.heap.size w C:=by
 obtain⟨i0,hi,ai,ad,aa⟩:=info_parts Po;have av:(zl c).length<=1000:=by simp[zl];omega
 have HZ:=Px hz;have U:=tK w g o c ao cap M A h (by omega);clear hz;generalize zl c=q at *;go_enter func108,ntmps108;go_wp2_with (first|(go_at_call 68;refine U.mono ?_;rintro e H ⟨lv,rfl,B,L⟩;obtain⟨a1,ar,rfl⟩:=B.qx;clear U))
 go_loopw [5,7] (fun v5 v7 wr=>∃k:Nat,k<=q.length/\v7=.int .i64 k/\Below H.heap.size H wr/\wr.ownsRow H.heap.size 9 1 v5 (qQ qc q k).length ((qQ qc q k).map Value.string)) (fun _ i _=>q.length-(intOf i).toNat)
 case atStart=>exact⟨0,zx _,rfl,zo _ _,yI _ _ _ _⟩
 case round=>
  obtain⟨k,hk,rfl,n,b⟩:=hrel;have N:=n.size;by_cases x:k<q.length
  ·obtain⟨gl,aw,am,rfl,E,O,ae,z,al⟩:=B.cell k x;have J:=zm n E O;have S:=zm n E z;have Y:gl<wr.heap.size:=by omega
   have s:=tM qc q k x;have ax:=Ce qc q k (by omega);have Q:=ru q k x;rw[yr x] at Q;simp only[jj,ux] at Q;have ak:=Px (HZ.out _ (zv x));generalize q[k]=a at *;generalize Z:qQ qc q k=vs at *;have W:=Px s;clear s Z O ae;by_cases d:(qc&&((k == 0)||a.neg))=true
   ·have V:Hid (qQ qc q (k+1)=vs):=by rw[Hid,W.out,m8,d];rfl
    simp only[vq,dX,beq_iff_eq] at d;obtain⟨rfl,d⟩:=d;clear W z;by_cases P:k=0
    ·subst P;go_wp2;go_roundw
     case rel=>exact⟨0+1,by omega,by go_num,n,by rw[V.out];exact b⟩
     case measure=>simp[intOf];omega
    ·have ab:((k:Int) == 0)=false:=by rw[beq_eq_false_iff_ne];omega
     have r:=d.resolve_left P;rw[r] at J;go_wp2;go_roundw
     case rel=>exact⟨k+1,by omega,by go_num,n,by rw[V.out];exact b⟩
     case measure=>simp[intOf];omega
   ·have V:Hid (qQ qc q (k+1)=xn vs a.args):=by rw[Hid,W.out,m8,za d]
    clear W;have R:qc=false∨(qc=true/\((k:Int) == 0)=false/\a.neg=false):=by
     cases qc with
     |false=>exact zg rfl
     |true=>
      right;simp only[me,dX,beq_iff_eq,not_or,nI] at d;exact⟨rfl,by rw[beq_eq_false_iff_ne];omega,d.2⟩
    clear d;rcases R with rfl|⟨rfl,ab,r⟩
    all_goals
     (try rw[r] at J)
     go_wp2;go_loopw [5,8] (fun v5 v8 wj=>∃j:Nat,j<=a.args.length/\v8=.int .i64 j/\Below H.heap.size H wj/\wj.ownsRow H.heap.size 9 1 v5 (xn vs (a.args.take j)).length ((xn vs (a.args.take j)).map Value.string)) (fun _ i _=>a.args.length-(intOf i).toNat)
     case atStart=>exact⟨0,zx _,rfl,n,b⟩
     case round=>
      clear J S b n N Y;obtain⟨j,hj,rfl,m,b⟩:=hrel;have au:=m.size;have S:=zm m E z;have a0:gl<wr.heap.size:=by omega
      by_cases G:j<a.args.length
      ·obtain⟨ga,rfl,aj,T⟩:=al.cell j G;have ay:=zm m aj T;have ap:ga<wr.heap.size:=by omega
       have I:=ak.out _ (zv G);have s:=AB vs a.args j G;have ac:=m6 (a.args.take j) vs;have K:(a.args.take j).length=j:=by simp;omega
       rw[K] at ac;clear T K;generalize a.args[j]=D at *;generalize xn vs (a.args.take j)=F at *;have p:=Px s;clear s;have y:zO D=vu (P8 D 0):=rfl;cases hT:vu (P8 D 0) with
       |false=>
        have u:Hid (xn vs (a.args.take (j+1))=F):=by rw[Hid,p.out,Bh (by rw[y,hT])]
        clear p y;go_wp2_with (first|(go_at_call 154;refine(tn _ _ I).mono ?_;rintro e C ⟨rfl,f⟩;obtain rfl:=f.symm)|(go_at_call 109;refine(tP _ _ F D b (by omega)).mono ?_;rintro e C ⟨rfl,f⟩;obtain rfl:=f.symm))
        go_roundw
        case rel=>exact⟨j+1,by omega,by go_num,m,by rw[u.out];exact b⟩
        case measure=>simp[intOf];omega
       |true=>
        cases hM:yZ D F with
        |true=>
         have u:Hid (xn vs (a.args.take (j+1))=F):=by rw[Hid,p.out,Em hM]
         clear p y;go_wp2_with (first|(go_at_call 154;refine(tn _ _ I).mono ?_;rintro e C ⟨rfl,f⟩;obtain rfl:=f.symm)|(go_at_call 109;refine(tP _ _ F D b (by omega)).mono ?_;rintro e C ⟨rfl,f⟩;obtain rfl:=f.symm))
         go_roundw
         case rel=>exact⟨j+1,by omega,by go_num,m,by rw[u.out];exact b⟩
         case measure=>simp[intOf];omega
        |false=>
         have u:Hid (xn vs (a.args.take (j+1))=F++[D]):=by rw[Hid,p.out,Be (by rw[y,hT]) hM]
         clear p y;go_wp2_with (first|(go_at_call 154;refine(tn _ _ I).mono ?_;rintro e C ⟨rfl,f⟩;obtain rfl:=f.symm)|(go_at_call 109;refine(tP _ _ F D b (by omega)).mono ?_;rintro e C ⟨rfl,f⟩;obtain rfl:=f.symm)|(at_builtin;refine jS _ _ _ _ rfl (.tmp 65) (.tmp 74) 30 rfl H.heap.size 9 i0 _ 1 16 underlying30 hi ai ad aa rfl (by decide) _ _ _ rfl b (zo _ _) _ _ rfl (by simp) rfl (by simp[Value.oneCell']) (by omega) (by omega) m.size ?_;intro v' w2 ah af z ag az an;clear z ag))
         go_roundw
         case rel=>exact⟨j+1,by omega,by go_num,m.trans af,by rw[u.out];simpa using ah⟩
         case measure=>simp[intOf];omega
      ·have hE:a.args.take j=a.args:=xi (by omega);rw[hE] at b;clear hE;go_wp2;go_roundw
       case rel=>exact⟨k+1,by omega,by go_num,m,by rw[V.out];exact b⟩
       case measure=>simp[intOf];omega
  ·have X:k=q.length:=by omega
   subst X;go_wp2;go_ret;exact⟨_,rfl,yq b L.size,P3 L n⟩
def qY(x l:zj):Bool:=decide (l.pred=x.pred)&&decide (l.args.length≠x.args.length)
def jF(cs:List zc)(x:zj):Bool:=(cs.flatMap zl).any (qY x)
theorem Lp(cs:List zc)(k:Nat)(a:k<cs.length):(cs.drop k).flatMap zl=zl cs[k]++(cs.drop (k+1)).flatMap zl:=by rw[xk a,uo]
theorem LB(w:World)(pb:Nat)(cv v1 v2:Value)(cs:List zc)(x:zj)(va:Value)(hp:Py w pb #[cv,v1,v2] 45)(B:Qa lo 93 w cv cs)(F:∀c∈cs,vH c)(hl:cs.length<=1000){P:Nat}(hs:P7 P w va x.args):
  Calls prog 110 #[.pointer (some ⟨pb,0,none⟩),.agg #[.bool x.neg,.string x.pred,va]] w fun e w'=>e=.returned (.bool (jF cs x))/\Below w.heap.size w w':=by
 obtain⟨ao,U,rfl⟩:=B.qx;obtain⟨K,A,rfl⟩:=hs.qx;have N:=Px F;clear F;go_enter func110,ntmps110;go_wp2;go_loopw [5] (fun i wr=>∃k:Nat,k<=cs.length/\i=.int .i64 k/\Below w.heap.size w wr/\Py wr w.heap.size #[.bool x.neg,.string x.pred,.slice K x.args.length A] 90/\Py wr pb #[.slice ao cs.length U,v1,v2] 45/\Hid (jF cs x=((cs.drop k).flatMap zl).any (qY x))) (fun i _=>cs.length-(intOf i).toNat)
 case atStart=>exact⟨0,zx _,rfl,(by go_grown),Py.new _ _ _,hp.below (by go_grown),rfl⟩
 case round=>
  obtain⟨k,hk,rfl,m,M,v,H⟩:=hrel;obtain⟨V,J⟩:=v.rules;have X:=m.size;by_cases r:k<cs.length
  ·obtain⟨g,al,ac,aj,ad,rfl,O⟩:=B.at k r;obtain⟨an,ak⟩:=N.out _ (zv r);have z:=Lp cs k r;generalize cs[k]=c at *;generalize Y:(cs.drop (k+1)).flatMap zl=rest at *;have HR:=Px Y;have H1:Hid (jF cs x=(zl c++rest).any (qY x)):=by rw[Hid,H.out,z]
   clear Y H z;have af:(zl c).length<=1001:=by simp[zl];omega
   go_wp2_with (first|(go_at_call 68;refine(tK _ g (k*4) c _ _ _ _ (by exact O.below m) (by omega)).mono ?_;rintro e w1 ⟨lv,rfl,n,q⟩;obtain⟨ag,aa,rfl⟩:=n.qx;have E:=P3 m q;have u:=M.below q;have t:=v.below q))
   generalize L:zl c=p at *;clear L;go_loopw [7] (fun i wj=>∃j:Nat,j<=p.length/\i=.int .i64 j/\Below w1.heap.size w1 wj/\Hid (jF cs x=(p.drop j++rest).any (qY x))) (fun i _=>p.length-(intOf i).toNat)
   case atStart=>exact⟨0,zx _,rfl,zo _ _,H1⟩
   case round=>
    clear V J;obtain⟨j,hj,rfl,b,I⟩:=hrel;have Z:=b.size;have o:=u.below b;obtain⟨ah,am⟩:=o.rules;by_cases G:j<p.length
    ·obtain⟨gl,ae,ab,rfl,s,Q,D,C,R⟩:=n.cell j G;have aq:=zm b s D;have ai:=zm b s C;have ap:gl<wr.heap.size:=by omega
     have y:=xk G;clear Q D C R;generalize p[j]=a at *;have f:Hid (jF cs x=(qY x a||(p.drop (j+1)++rest).any (qY x))):=by rw[Hid,I.out,y];rfl
     clear y I;by_cases d:a.pred=x.pred
     ·have S:=kL d;by_cases l:a.args.length=x.args.length
      ·have h:Hid (jF cs x=(p.drop (j+1)++rest).any (qY x)):=by rw[Hid,f.out,qY];simp[l]
       have T:((a.args.length:Int) == (x.args.length:Int))=true:=by rw[beq_iff_eq];omega
       clear f d l;generalize a.args.length=na at *;generalize a.pred=pa at *;go_wp2;go_quiet (fail)
       go_wp2;go_roundw
       case rel=>exact⟨j+1,by omega,by go_num,zL b _,h⟩
       case measure=>simp[intOf];omega
      ·have h:Hid (jF cs x=true):=by rw[Hid,f.out,qY];simp[d,l]
       have T:((a.args.length:Int) == (x.args.length:Int))=false:=by rw[beq_eq_false_iff_ne];omega
       clear f d l;generalize a.args.length=na at *;generalize a.pred=pa at *;go_wp2;go_quiet (fail)
       go_wp2;go_ret;exact⟨by rw[h.out];rfl,zL (P3 E b) _⟩
     ·have S:=jp d;have h:Hid (jF cs x=(p.drop (j+1)++rest).any (qY x)):=by rw[Hid,f.out,qY];simp[d]
      clear f d;generalize a.pred=pa at *;go_wp2;go_quiet (fail)
      go_wp2;go_roundw
      case rel=>exact⟨j+1,by omega,by go_num,zL b _,h⟩
      case measure=>simp[intOf];omega
    ·have W:Hid (jF cs x=((cs.drop (k+1)).flatMap zl).any (qY x)):=by rw[Hid,I.out,ug (by omega),HR.out];rfl
     clear I;go_wp2;go_roundw
     case rel=>exact⟨k+1,by omega,by go_num,P3 E b,o,t.below b,W⟩
     case measure=>simp[intOf];omega
  ·have W:Hid (jF cs x=false):=by rw[Hid,H.out,ug (by omega)];rfl
   clear H;go_wp2;go_ret;exact⟨by rw[W.out];rfl,m⟩
theorem mz(w:World)(pb:Nat)(c0 d f:Value)(l:List ByteArray)(n:ByteArray)(m:Py w pb #[c0,d,f] 45)(hs:P7 lo w d l)(u:l.length<=1000):
  Calls prog 111 #[.pointer (some ⟨pb,0,none⟩),.string n] w fun e p=>e=.returned (.int .i64 (ff l n))/\p=w:=by
 obtain⟨v,r⟩:=m.rules;obtain⟨t,j,rfl⟩:=hs.qx;go_enter func111,ntmps111;go_wp2;go_loop [5] (fun i=>∃k:Nat,k<=l.length/\i=.int .i64 k/\Hid (yp l n=(yp (l.drop k) n).map (·+k))) (fun i=>l.length-(intOf i).toNat)
 case atStart=>exact⟨0,zx _,rfl,by simp[Hid]⟩
 case round=>
  obtain⟨k,q,rfl,H⟩:=hrel;by_cases a:k<l.length
  ·obtain⟨g,rfl,s,h⟩:=hs.cell k a;by_cases c:l[k]=n
   ·have o:=kL c;have b:Hid (ff l n=(k:Int)):=by unfold Hid ff;rw[H.out,it a c];simp
    go_wp2;go_ret;exact⟨by rw[b.out];rfl,rfl⟩
   ·have o:=jp c;have b:Hid (yp l n=(yp (l.drop (k+1)) n).map (·+(k+1))):=by
     rw[Hid,H.out,wn a c];cases yp (l.drop (k+1)) n<;>simp;omega
    go_wp2;go_round
    case rel=>exact⟨k+1,by omega,by go_num,b⟩
    case measure=>simp[intOf];omega
  ·have b:Hid (ff l n=-1):=by unfold Hid ff;rw[H.out,ug (by omega)];rfl
   go_wp2;go_ret;exact⟨by rw[b.out];rfl,rfl⟩
def tw(c:zc):Bool:=decide (6<c.body.length)||decide (5<(xI c).length)
def lU(l:zj):Bool:=decide (3<l.args.length)
def fY(c:zc):Bool:=tw c||(zl c).any lU
def lZ(c:zc):Bool:=(xI c).all fun v=>yZ v (z7 c)
def mu(cs:List zc)(c:zc):Bool:=(zl c).any (jF cs)
def jt(cs:List zc):Int:=if cs.any fY then 4 else if cs.any (mu cs) then 5 else if cs.all lZ then 0 else 6
theorem rK{α:Type}(l:List α)(p:α->Bool)(k:Nat)(a:k<l.length):(l.take (k+1)).any p=((l.take k).any p||p l[k]):=by rw[yP a,List.any_append];simp
theorem B4{α:Type}(l:List α)(p:α->Bool)(k:Nat)(a:k<l.length):(l.take (k+1)).all p=((l.take k).all p&&p l[k]):=by rw[yP a,List.all_append];simp
theorem C8(w:World)(pb:Nat)(cv v1 v2:Value)(cs:List zc)(hp:Py w pb #[cv,v1,v2] 45)(H:Qa lo 93 w cv cs)(N:∀c∈cs,vH c/\c.body.length<=999/\xf (zl c)<=1000/\∀l∈zl c,∀t∈l.args,0<t.size)(hl:cs.length<=1000):
  Calls prog 67 #[.pointer (some ⟨pb,0,none⟩)] w fun e w'=>e=.returned (.int .i64 (jt cs))/\Below w.heap.size w w':=by
 obtain⟨ao,an,rfl⟩:=H.qx;have U:=Px N;have ap:=Px fun c hc=>(N c hc).1;clear N;go_enter func67,ntmps67;go_wp2;go_loopw [3,4,5,6] (fun v3 v4 v5 v6 wr=>∃(k:Nat) (m a s:Bool),k<=cs.length/\v6=.int .i64 k/\v3=.bool m/\v4=.bool a/\v5=.bool s/\Below w.heap.size w wr/\Py wr pb #[.slice ao cs.length an,v1,v2] 45/\Hid (m=(cs.take k).any fY)/\Hid (a=(cs.take k).any (mu cs))/\Hid (s=(cs.take k).all lZ)) (fun _ _ _ i _=>cs.length-(intOf i).toNat)
 case atStart=>exact⟨0,false,false,true,zx _,rfl,rfl,rfl,rfl,zo _ _,hp,rfl,rfl,rfl⟩
 case round=>
  obtain⟨k,m,a,s,hk,rfl,rfl,rfl,rfl,n,Y,HM,HA,HS⟩:=hrel;obtain⟨aX,aT⟩:=Y.rules;have aA:=n.size;by_cases o:k<cs.length
  ·obtain⟨g,aV,a7,aJ,aD,rfl,K⟩:=H.at k o;obtain⟨⟨aW,ba⟩,aR,V,ai⟩:=U.out _ (zv o);have aq:=Px (rK cs fY k o);have ax:=Px (rK cs (mu cs) k o);have av:=Px (B4 cs lZ k o);generalize cs[k]=c at *;have z:=Px V;have ab:=Px ai;have bb:(z7 c).length<=1000:=by have:=t7 c.body [];unfold z7;simp at this;omega
   have aP:(xI c).length<=1000:=by have h1:=Et c.body (xn [] c.head.args);have h2:=m6 c.head.args [];unfold xI;simp at h2;omega
   have aN:(zl c).length<=1000:=by simp[zl];omega
   clear V ai;obtain⟨B,ae⟩:∃B,Hid (B=((cs.take k).any fY||tw c)):=⟨_,rfl⟩;have HW:(m=true/\Hid (B=true))∨(m=false/\6<c.body.length/\Hid (B=true))∨(m=false/\¬6<c.body.length/\5<(xI c).length/\Hid (B=true))∨(m=false/\¬6<c.body.length/\¬5<(xI c).length/\Hid (B=false)):=by
    simp only[Hid,ae.out,←HM.out,tw];cases m<;>by_cases h6:6<c.body.length<;>by_cases h5:5<(xI c).length<;>simp[h6,h5]
   rcases HW with⟨rfl,x⟩|⟨rfl,h6,x⟩|⟨rfl,h6,h5,x⟩|⟨rfl,h6,h5,x⟩
   all_goals
    go_wp2_with (first|(go_at_call 108;have O:=af;refine(As _ true g (k*4) c _ _ _ _ (by exact K.below O) (by omega) z.out ab.out).mono ?_;rintro e w2 ⟨aU,rfl,F,G⟩;rw[GB] at F;obtain⟨aK,a5,rfl⟩:=F.qx;have J:=P3 af G;have P:=C.below G;have f:=K.below J;have aO:=f.c3;have aC:=f.lt;have aL:=J.size;have aa:=(Y.below S).below G;clear O)|(go_at_call 108;have O:=n;refine(As _ false g (k*4) c _ _ _ _ (by exact K.below O) (by omega) z.out ab.out).mono ?_;rintro e w1 ⟨aM,rfl,C,S⟩;rw[Ke] at C;obtain⟨aG,a6,rfl⟩:=C.qx;have af:=P3 n S;clear n O))
    go_loopw [5,10] (fun v5 a0 wj=>∃(j:Nat) (L:Bool),j<=(xI c).length/\a0=.int .i64 j/\v5=.bool L/\Below w2.heap.size w2 wj/\Hid (L=(s&&((xI c).take j).all fun v=>yZ v (z7 c)))) (fun _ i _=>(xI c).length-(intOf i).toNat)
    case atStart=>exact⟨0,s,zx _,rfl,rfl,zo _ _,(by simp[Hid])⟩
    case round=>
     obtain⟨j,L,hj,rfl,rfl,d,r⟩:=hrel;have aE:=d.size;by_cases W:j<(xI c).length
     ·obtain⟨ga,rfl,ay,ag⟩:=P.cell j W;have aY:=zm d ay ag;have a8:ga<wr.heap.size:=by omega
      have h:=B4 (xI c) (fun v=>yZ v (z7 c)) j W;clear ag;generalize (xI c)[j]=x1 at *;have am:Hid ((s&&((xI c).take (j+1)).all fun v=>yZ v (z7 c))=(L&&yZ x1 (z7 c))):=by rw[Hid,h,r.out,Bool.and_assoc]
      clear h r;cases L
      all_goals
       go_wp2_with (first|(go_at_call 109;refine(tP _ _ (z7 c) x1 (by exact F.below d) (by omega)).mono ?_;rintro e w' ⟨rfl,a3⟩;obtain rfl:=a3.symm))
       go_roundw
       case rel=>exact⟨j+1,_,by omega,by go_num,rfl,d,(by rw[Hid,am.out];rfl)⟩
       case measure=>simp[intOf];omega
     ·have ak:(xI c).take j=xI c:=xi (by omega);have aj:Hid (L=(cs.take (k+1)).all lZ):=by rw[Hid,r.out,ak,av.out,HS.out];rfl
      clear r;go_wp2_with (first|(go_at_call 68;refine(tK _ g (k*4) c _ _ _ _ (by exact f.below d) (by omega)).mono ?_;rintro e w3 ⟨lv,rfl,y,ad⟩;obtain⟨bc,aB,rfl⟩:=y.qx;have X:=P3 J (P3 d ad);have A:=(aa.below d).below ad))
      go_loopw [3,4,13] (fun v3 v4 a4 wq=>∃(q:Nat) (E M:Bool),q<=(zl c).length/\a4=.int .i64 q/\v3=.bool E/\v4=.bool M/\Below w3.heap.size w3 wq/\Hid (E=(B||((zl c).take q).any lU))/\Hid (M=(a||((zl c).take q).any (jF cs)))) (fun _ _ i _=>(zl c).length-(intOf i).toNat)
      case atStart=>exact⟨0,_,a,zx _,rfl,rfl,rfl,zo _ _,(by simp[Hid,x.out]<;>omega),(by simp[Hid])⟩
      case round=>
       obtain⟨q,E,M,O,rfl,rfl,rfl,b,u,p⟩:=hrel;have a9:=b.size;by_cases I:q<(zl c).length
       ·obtain⟨gl,aQ,aF,rfl,D,ah,Z,ac,a2⟩:=y.cell q I;have aZ:=zm b D ah;have aH:=zm b D Z;have aI:=zm b D ac;have aS:gl<wr.heap.size:=by omega
        have h:=rK (zl c) lU q I;have Q:=rK (zl c) (jF cs) q I;clear ah Z ac;generalize (zl c)[q]=a1 at *;have ar:Hid ((B||((zl c).take (q+1)).any lU)=(E||lU a1)):=by rw[Hid,h,u.out,Bool.or_assoc]
        have au:Hid ((a||((zl c).take (q+1)).any (jF cs))=(M||jF cs a1)):=by rw[Hid,Q,p.out,Bool.or_assoc]
        clear h Q u p;cases E
        all_goals cases M
        all_goals
         go_wp2_with (first|(go_at_call 110;refine(LB _ pb _ _ _ cs a1 _ (by exact A.below b) (by exact H.below (P3 X b)) ap.out hl (by exact a2.below b)).mono ?_;rintro e w5 ⟨rfl,az⟩))
         go_roundw
         case rel=>exact⟨q+1,_,_,by omega,by go_num,rfl,rfl,P3 b az,(by rw[Hid,ar.out];first|rfl|(simp[lU];done)|(simp[lU];omega)),(by rw[Hid,au.out];rfl)⟩
         case measure=>simp[intOf];omega
       ·have T:(zl c).take q=zl c:=xi (by omega);have al:Hid (E=(cs.take (k+1)).any fY):=by rw[Hid,u.out,T,aq.out,ae.out,fY,Bool.or_assoc]
        have aw:Hid (M=(cs.take (k+1)).any (mu cs)):=by rw[Hid,p.out,T,ax.out,HA.out];rfl
        clear u p;go_wp2;go_roundw
        case rel=>exact⟨k+1,E,M,L,by omega,by go_num,rfl,rfl,rfl,P3 X b,A.below b,al,aw,aj⟩
        case measure=>simp[intOf];omega
  ·have R:cs.take k=cs:=xi (by omega);rw[R] at HM HA HS;have HW:Hid (jt cs=if m then 4 else if a then 5 else if s then 0 else 6):=by unfold Hid jt;rw[←HM.out,←HA.out,←HS.out]
   clear HM HA HS R;cases m
   all_goals cases a
   all_goals cases s
   all_goals
    go_wp2;go_ret;exact⟨by rw[HW.out];rfl,n⟩
end
theorem Fw(c:zc):fY c=yE c:=by
 unfold fY tw yE zl lU;rw[List.any_cons];generalize decide (6<c.body.length)=a;generalize decide (5<(xI c).length)=b;generalize decide (3<c.head.args.length)=d;generalize (c.body.any fun l=>decide (3<l.args.length))=e;cases a<;>cases b<;>cases d<;>cases e<;>rfl
theorem Oc(c:zc):lZ c=xo c:=by
 rw[Bool.eq_iff_iff];unfold lZ xo;rw[lg,vq,mY,lg];constructor
 ·intro h;have f:=fun v (a:v∈xI c)=>j7.1 (h v a);refine⟨fun t e a=>f t (tU.2 ⟨a,zg e⟩),fun l b=>?_⟩;cases d:l.neg with
  |false=>rfl
  |true=>rw[mj,mX,mY];exact fun t e a=>f t (tU.2 ⟨a,ze ⟨l,b,e⟩⟩)
 ·rintro⟨j,i⟩ v a;rw[j7];obtain⟨g,h|⟨l,b,h⟩⟩:=tU.1 a
  ·exact j v h g
  ·cases d:l.neg with
   |false=>exact gI.2 ⟨g,l,b,d,h⟩
   |true=>
    have:=i l b;rw[d,mj,mX,mY] at this;exact this v h g
theorem Hk(cs:List zc):cs.any fY=cs.any yE:=by rw[show fY=yE from funext Fw]
theorem MG(cs:List zc):cs.all lZ=cs.all xo:=by rw[show lZ=xo from funext Oc]
section
variable {t:List zh}
theorem Q8.stop{i:List zj}{l:zj}(h:Q8 t i)(b:vh t l=none):∃d∈i,qY l d=true:=by
 unfold vh at b;split at b
 ·rename_i e k;obtain⟨g,j⟩:=nm k;split at b
  ·cases b
  ·rename_i f;obtain⟨d,c,a⟩:=(h.names e.name).1 (z9.2 ⟨e,g,rfl⟩);refine⟨d,c,?_⟩;unfold qY;rw[vq,decide_eq_true_eq,decide_eq_true_eq];refine⟨by rw[a,j],?_⟩;rw[h.jh e g d c a];exact f
 ·cases b
theorem ew:∀(a done:List zj) (t:List zh),Q8 t done->match a.foldl ui (some t) with
  |some f=>Q8 f (done++a)
  |none=>∃x∈done++a,∃y∈done++a,qY x y=true
 |[],done,t,h=>by simpa using h
 |l::a,done,t,h=>by
  rw[un];cases b:vh t l with
  |none=>
   rw[show ui (some t) l=none from b,nX];obtain⟨e,c,g⟩:=h.stop b;exact⟨l,by simp,e,by simp[c],g⟩
  |some d=>
   rw[show ui (some t) l=some d from b];have:=ew a (done++[l]) d (h.step b);rwa [kB] at this
theorem K7{b:List zj}(h:Q8 t b){x y:zj}(c:x∈b)(g:y∈b):qY x y=false:=by
 obtain⟨e,d,a⟩:=z9.1 ((h.names x.pred).2 ⟨x,c,rfl⟩);unfold qY;cases f:decide (y.pred=x.pred) with
 |false=>rfl
 |true=>
  rw[decide_eq_true_eq] at f;rw[me,decide_eq_false_iff_not,h.jh e d x c a.symm,h.jh e d y g (f.trans a.symm)];simp
theorem Cj(cs:List zc):cs.any (mu cs)=true↔∃x∈cs.flatMap zl,∃y∈cs.flatMap zl,qY x y=true:=by
 simp only[mu,jF,kT,uF];constructor
 ·rintro⟨c,a,x,b,y,d,h⟩;exact⟨x,⟨c,a,b⟩,y,d,h⟩
 ·rintro⟨x,⟨c,a,b⟩,y,d,h⟩;exact⟨c,a,x,b,y,d,h⟩
theorem H8{cs:List zc}(h:ud cs=none):cs.any (mu cs)=true:=by
 have:=ew (cs.flatMap zl) [] [] td;unfold ud at h;rw[h] at this;rw[Cj];simpa using this
theorem tQ{cs:List zc}(h:ud cs=some t):cs.any (mu cs)=false/\Q8 t (cs.flatMap zl):=by
 have:=ew (cs.flatMap zl) [] [] td;unfold ud at h;rw[h] at this;simp only[nZ] at this;refine⟨?_,this⟩;rw[←nI,Cj];rintro⟨x,b,y,c,a⟩;rw[K7 this b c] at a;cases a
end
section
open Go.Proofs.Tryz Go.RowKit
variable {lo:Nat}{l out:List ByteArray}{i:Nat}
def g5(out:List ByteArray)(y:ByteArray):Bool:=match out.getLast? with
 |none=>true
 |some z=>PS z y
theorem rS(o:List ByteArray)(z y:ByteArray):g5 (o++[z]) y=PS z y:=by simp[g5]
def d9(l out:List ByteArray)(i:Nat)(k:Int):Prop:=
 (k=-1/\∀j (a:j<l.length),j<i->g5 out l[j]=false)∨∃(q:Nat) (b:q<l.length),k=q/\q<i/\g5 out l[q]=true/\∀j (a:j<l.length),j<i->g5 out l[j]=true->PS l[j] l[q]=false
theorem KW(l out:List ByteArray):d9 l out 0 (-1):=zg ⟨rfl,fun _ _ h=>by omega⟩
theorem O6{k:Int}(h:d9 l out i k)(o:i<l.length)(f:g5 out l[i]=false):d9 l out (i+1) k:=by
 rcases h with⟨d,e⟩|⟨q,n,d,e,m,g⟩
 ·refine zg ⟨d,fun j b c=>?_⟩;rcases gD j i with h|h
  ·exact e j b h
  ·obtain rfl:j=i:=by omega
   exact f
 ·refine ze ⟨q,n,d,by omega,m,fun j b c a=>?_⟩;rcases gD j i with h|h
  ·exact g j b h a
  ·obtain rfl:j=i:=by omega
   rw[f] at a;cases a
theorem BW(h:d9 l out i (-1))(e:i<l.length)(f:g5 out l[i]=true):d9 l out (i+1) i:=by
 rcases h with⟨_,b⟩|⟨q,_,g,_⟩
 ·refine ze ⟨i,e,rfl,by omega,f,fun j c d a=>?_⟩;rcases gD j i with h|h
  ·rw[b j c h] at a;cases a
  ·obtain rfl:j=i:=by omega
   exact PE _
 ·omega
theorem Ae{q:Nat}(h:d9 l out i q)(n:i<l.length)(s:q<l.length)(o:g5 out l[i]=true)(m:PS l[i] l[q]=true):d9 l out (i+1) i:=by
 rcases h with⟨k,_⟩|⟨f,g,k,p,r,c⟩
 ·omega
 ·obtain rfl:q=f:=by omega
  refine ze ⟨i,n,rfl,by omega,o,fun j d e a=>?_⟩;rcases gD j i with h|h
  ·cases b:PS l[j] l[i] with
   |false=>rfl
   |true=>have:=lt_trans b m;rw[c j d h a] at this;cases this
  ·obtain rfl:j=i:=by omega
   exact PE _
theorem Ej{q:Nat}(h:d9 l out i q)(p:i<l.length)(n:q<l.length)(k:PS l[i] l[q]=false):d9 l out (i+1) q:=by
 rcases h with⟨g,_⟩|⟨e,f,g,o,m,b⟩
 ·omega
 ·obtain rfl:q=e:=by omega
  refine ze ⟨q,n,rfl,by omega,m,fun j c d a=>?_⟩;rcases gD j i with h|h
  ·exact b j c h a
  ·obtain rfl:j=i:=by omega
   exact k
structure QD (l out:List ByteArray):Prop where
 rising:y5 out
 sub:∀x∈out,x∈l
 left:∀y∈l,y∉out->∀z∈out,PS z y=true
 room:out.length+fz l out<=l.length
theorem IF(l:List ByteArray):QD l []:=⟨List.Pairwise.nil,fun _ h=>(by cases h),fun _ _ _ _ h=>(by cases h),by rw[A9];simp⟩
theorem FD{y:ByteArray}(b:y5 out)(h:g5 out y=true):∀z∈out,PS z y=true:=by
 intro z a;rcases su out with e|⟨o,x,e⟩
 ·subst e;cases a
 ·rw[sY] at e;subst e;rw[rS] at h;rcases zX.1 a with a|a
  ·exact lt_trans ((po.1 b).2.2 z a x (by simp)) h
  ·simp at a;subst a;exact h
theorem BN{y:ByteArray}(h:∀z∈out,PS z y=true):g5 out y=true:=by
 rcases su out with e|⟨o,x,e⟩
 ·subst e;rfl
 ·rw[sY] at e;subst e;rw[rS];exact h x (by simp)
theorem FJ{q:Nat}(h:QD l out)(u:q<l.length)(C:d9 l out l.length q):QD l (out++[l[q]])/\fz l (out++[l[q]])<fz l out:=by
 rcases C with⟨E,_⟩|⟨v,D,E,_,w,A⟩
 ·omega
 ·obtain rfl:q=v:=by omega
  have d:=FD h.rising w;have f:l[q]∉out:=fun n=>by have:=d _ n;rw[PE] at this;cases this
  have r:=Ng (zv u) f;refine⟨⟨?_,?_,?_,?_⟩,r⟩
  ·exact po.2 ⟨h.rising,List.pairwise_singleton _ _,fun a B b t=>by simp at t;subst t;exact d a B⟩
  ·intro x c;rcases zX.1 c with c|c
   ·exact h.sub x c
   ·simp at c;subst c;exact zv u
  ·intro y m k z e;have g:y∉out:=fun n=>k (zX.2 (zg n));rcases zX.1 e with e|e
   ·exact h.left y m g z e
   ·simp at e;subst e;obtain⟨j,s,rfl⟩:=vG m;have p:=BN (h.left _ m g);have o:=A j s s p;cases c:PS l[q] l[j] with
    |true=>rfl
    |false=>exact zB (zX.2 (ze (by simp[r8 o c]))) k
  ·have:=h.room;simp;omega
theorem K9(h:QD l out)(e:d9 l out l.length (-1)):∀x,x∈out↔x∈l:=by
 intro x;refine⟨h.sub x,fun a=>?_⟩;rcases e with⟨_,c⟩|⟨q,_,f,_⟩
 ·false_or_by_contra
  rename_i d;obtain⟨j,b,rfl⟩:=vG a;have:=BN (h.left _ a d);rw[c j b b] at this;cases this
 ·omega
theorem CZ(w:World)(v:Value)(l:List ByteArray)(hs:P7 lo w v l)(hl:l.length<=1000):
  Calls prog 69 #[v] w fun e w'=>∃v' r,e=.returned v'/\P7 w.heap.size w' v' r/\y5 r/\(∀x,x∈r↔x∈l)/\r.length<=l.length/\Below w.heap.size w w':=by
 obtain⟨i0,hi,R,Y,ad⟩:=info_parts Po;obtain⟨ao,av,rfl⟩:=hs.qx;go_enter func69,ntmps69;go_wp2;go_loopg [3] (l.length) (fun n v3 wr=>∃out:List ByteArray,Hid (QD l out)/\fz l out<=n/\Below w.heap.size w wr/\wr.ownsRow w.heap.size 9 1 v3 out.length (out.map Value.string))
 case atStart=>exact⟨[],IF l,by rw[A9];omega,zo _ _,yI _ _ _ _⟩
 case round=>
  obtain⟨out,O,ap,aa,E⟩:=hrel;obtain⟨au,ah,rfl⟩:=zs E;have H:=O.out.room;go_wp2;go_loopw [4,5] (fun v4 v5 wj=>∃(i:Nat) (G:Int),i<=l.length/\v5=.int .i64 i/\v4=.int .i64 G/\Below wr.heap.size wr wj/\Hid (d9 l out i G)/\Hid (G=-1∨∃(q:Nat) (_:q<l.length),G=q)) (fun _ i _=>l.length-(intOf i).toNat)
  case atStart=>exact⟨0,-1,zx _,rfl,rfl,zo _ _,KW l out,zg rfl⟩
  case round=>
   obtain⟨i,G,aj,rfl,rfl,a,d,u⟩:=hrel;have p:=P3 aa a;have K:=p.size;have s:=zC E a;by_cases b:i<l.length
   ·obtain⟨g,rfl,hg,I⟩:=hs.cell i b;have al:=zm p hg I;have V:g<wr.heap.size:=by omega
    clear I;rcases su out with e|⟨o,z,e⟩
    ·subst e;have c:g5 [] l[i]=true:=rfl;rcases u.out with B|⟨q,A,D⟩
     ·subst B;have t:=Px (BW d.out b c);clear d u c;generalize l[i]=x at *;go_wp2;go_quiet (fail)
      go_wp2;go_roundw
      case rel=>exact⟨i+1,(i:Int),by omega,by go_num,rfl,zL a _,t,ze ⟨i,b,rfl⟩⟩
      case measure=>simp[intOf];omega
     ·subst D;obtain⟨gq,C,m,k⟩:=hs.cell q A;simp at C;subst C;have J:=zm p m k;have U:decide ((q:Int)<0)=false:=by rw[decide_eq_false_iff_not];omega
      clear k;cases j:PS l[i] l[q] with
      |true=>
       have t:=Px (Ae d.out b A c j);unfold PS at j;clear d u c;generalize l[i]=x at *;generalize l[q]=y at *;go_wp2;go_quiet (fail)
       go_wp2;go_roundw
       case rel=>exact⟨i+1,(i:Int),by omega,by go_num,rfl,zL a _,t,ze ⟨i,b,rfl⟩⟩
       case measure=>simp[intOf];omega
      |false=>
       have t:=Px (Ej d.out b A j);unfold PS at j;clear d u c;generalize l[i]=x at *;generalize l[q]=y at *;go_wp2;go_quiet (fail)
       go_wp2;go_roundw
       case rel=>exact⟨i+1,(q:Int),by omega,by go_num,rfl,zL a _,t,ze ⟨q,A,rfl⟩⟩
       case measure=>simp[intOf];omega
    ·rw[sY] at e;subst e;obtain⟨go,S,N,_,W,F⟩:=yC s (by simp);simp at N;obtain⟨rfl,_⟩:=N;have an:=F o.length (.string z) (by simp);have X:((o.length:Int)+1 == 0)=false:=by rw[beq_eq_false_iff_ne];omega
     have af:o.length<o.length+1:=by omega
     have ag:=W;have ak:o.length<=1000:=by simp at H;omega
     have aq:IntKind.i64.wrap (o.length:Int)=(o.length:Int):=IntWalk.i64_in _ (by omega);clear F;cases f:PS z l[i] with
     |true=>
      have c:g5 (o++[z]) l[i]=true:=by rw[rS];exact f
      have L:Op.bytesLess l[i].toList z.toList=false:=Id f;have T:(l[i].toList == z.toList)=false:=jp (fun h=>by rw[h,PE] at f;cases f);clear f;rcases u.out with B|⟨q,A,D⟩
      ·subst B;have t:=Px (BW d.out b c);clear d u c;generalize l[i]=x at *;go_wp2;go_quiet (fail)
       go_wp2;go_roundw
       case rel=>exact⟨i+1,(i:Int),by omega,by go_num,rfl,zL a _,t,ze ⟨i,b,rfl⟩⟩
       case measure=>simp[intOf];omega
      ·subst D;obtain⟨gq,C,m,k⟩:=hs.cell q A;simp at C;subst C;have J:=zm p m k;have U:decide ((q:Int)<0)=false:=by rw[decide_eq_false_iff_not];omega
       clear k;cases j:PS l[i] l[q] with
       |true=>
        have t:=Px (Ae d.out b A c j);unfold PS at j;clear d u c;generalize l[i]=x at *;generalize l[q]=y at *;go_wp2;go_quiet (fail)
        go_wp2;go_roundw
        case rel=>exact⟨i+1,(i:Int),by omega,by go_num,rfl,zL a _,t,ze ⟨i,b,rfl⟩⟩
        case measure=>simp[intOf];omega
       |false=>
        have t:=Px (Ej d.out b A j);unfold PS at j;clear d u c;generalize l[i]=x at *;generalize l[q]=y at *;go_wp2;go_quiet (fail)
        go_wp2;go_roundw
        case rel=>exact⟨i+1,(q:Int),by omega,by go_num,rfl,zL a _,t,ze ⟨q,A,rfl⟩⟩
        case measure=>simp[intOf];omega
     |false=>
      have t:=Px (O6 d.out b (by rw[rS];exact f));cases L:Op.bytesLess l[i].toList z.toList with
      |true=>
       clear d f;generalize l[i]=x at *;go_wp2;go_quiet (fail)
       go_wp2;go_roundw
       case rel=>exact⟨i+1,G,by omega,by go_num,rfl,zL a _,t,u⟩
       case measure=>simp[intOf];omega
      |false=>
       have T:=kL (r8 L f);clear d f;generalize l[i]=x at *;go_wp2;go_quiet (fail)
       go_wp2;go_roundw
       case rel=>exact⟨i+1,G,by omega,by go_num,rfl,zL a _,t,u⟩
       case measure=>simp[intOf];omega
   ·have ae:i=l.length:=by omega
    subst ae;rcases u.out with B|⟨q,A,D⟩
    ·subst B;have HD:=Px (K9 O.out d.out);clear d u;go_wp2;go_ret;exact⟨_,out,rfl,s,O.out.rising,HD.out,by omega,p⟩
    ·subst D;obtain⟨gq,rfl,m,k⟩:=hs.cell q A;have J:=zm p m k;have V:gq<wr.heap.size:=by omega
     obtain⟨M,am⟩:=FJ O.out A d.out;have P:=Px M;clear d u k M;generalize l[q]=y at *;go_wp2_with (first|(at_builtin;refine jS _ _ _ _ rfl (.tmp 47) (.tmp 52) 30 rfl w.heap.size 9 i0 _ 1 16 underlying30 hi R Y ad rfl (by decide) _ _ _ rfl s (zo _ _) _ _ rfl (by simp) rfl (by simp[Value.oneCell']) (by omega) (by omega) K ?_;intro v' w2 Q ab Z ac ar ai;clear Z ac))
     go_roundg (fz l (out++[y]))
     case measure=>omega
     case rel=>exact⟨out++[y],P,zf _,p.trans ab,by simpa using Q⟩
end
section
variable {ps:List ByteArray}{sv:List Nat}{k:Nat}{cs:List zc}
def vl(ps:List ByteArray)(sv:List Nat)(n:ByteArray):Nat:=match yp ps n with
 |some k=>sv.getD k 0
 |none=>0
theorem sH:∀{ps:List ByteArray} {n:ByteArray},n∈ps->∃k,yp ps n=some k
 |[],_,h=>by cases h
 |y::r,n,h=>by
  unfold yp;by_cases e:y=n
  ·exact⟨0,by rw[zb e]⟩
  ·rw[za e];rcases zu.1 h with h|h
   ·exact zB h.symm e
   ·obtain⟨k,a⟩:=sH h;exact⟨k+1,by rw[a];rfl⟩
theorem rV{n:ByteArray}(h:yp ps n=some k)(a:k<sv.length):vl ps sv n=sv[k]:=by
 unfold vl;rw[h];simp[List.getD_eq_getElem?_getD,a]
theorem Kd{m:ByteArray}(h:yp ps m=some k)(e:k<sv.length)(s:Nat)(n:ByteArray):vl ps (sv.set k s) n=if n=m then s else vl ps sv n:=by
 by_cases a:n=m
 ·subst a;rw[zb rfl,rV h (by simpa using e)];simp
 ·rw[za a];unfold vl;cases f:yp ps n with
  |none=>rfl
  |some j=>
   have d:k≠j:=by
    rintro rfl;obtain⟨g,b⟩:=f6 h;obtain⟨i,c⟩:=f6 f;exact a (c.symm.trans b)
   simp[List.getD_eq_getElem?_getD,d]
theorem IB(ps:List ByteArray)(k:Nat)(n:ByteArray):vl ps (List.replicate k 0) n=0:=by
 unfold vl;split
 ·simp[List.getD_eq_getElem?_getD,List.getElem?_replicate];split<;>rfl
 ·rfl
def Rp(cs:List zc)(ps:List ByteArray)(sv:List Nat):Prop:=∀f,Qt cs f->∀n,vl ps sv n<=f n
theorem JG(cs:List zc)(ps:List ByteArray)(k:Nat):Rp cs ps (List.replicate k 0):=fun f _ n=>by rw[IB];omega
theorem Ok(h:Rp cs ps sv){c:zc}(i:c∈cs){l:zj}(d:l∈c.body)(g:yp ps c.head.pred=some k)(b:k<sv.length):Rp cs ps (sv.set k (vl ps sv l.pred+up l)):=by
 intro f a n;rw[Kd g b];split
 ·rename_i e;have:=a c i l d;have:=h f a l.pred;rw[e];omega
 ·exact h f a n
theorem IX(h:Rp cs ps sv)(a:∀c∈cs,∀l∈zl c,l.pred∈ps){c:zc}(d:c∈cs){l:zj}(j:l∈c.body)(i:ps.length<=vl ps sv l.pred+up l):¬∃f,Qt cs f:=by
 rintro⟨g,e⟩;obtain⟨f,b⟩:=AQ e;have n:=eQ b a (a c d c.head (by simp[zl]));have m:=b.1 c d l j;have o:=h f b.1 l.pred;omega
def Q0(cs:List zc)(ps:List ByteArray)(sv:List Nat)(i:Nat):Prop:=∀c∈cs.take i,∀l∈c.body,vl ps sv l.pred+up l<=vl ps sv c.head.pred
def mh(c:zc)(ps:List ByteArray)(sv:List Nat)(k:Nat):Prop:=∀l∈c.body.take k,vl ps sv l.pred+up l<=vl ps sv c.head.pred
theorem Nd(cs:List zc)(ps:List ByteArray)(sv:List Nat):Q0 cs ps sv 0:=fun c a=>by simp at a
theorem Mk(c:zc)(ps:List ByteArray)(sv:List Nat):mh c ps sv 0:=fun l a=>by simp at a
theorem KH{c:zc}(h:mh c ps sv k)(d:k<c.body.length)(b:vl ps sv c.body[k].pred+up c.body[k]<=vl ps sv c.head.pred):mh c ps sv (k+1):=by
 intro l a;rw[yP d,zX] at a;rcases a with a|a
 ·exact h l a
 ·simp at a;subst a;exact b
theorem GU{i:Nat}(h:Q0 cs ps sv i)(e:i<cs.length)(b:mh cs[i] ps sv cs[i].body.length):Q0 cs ps sv (i+1):=by
 intro c a;rw[yP e,zX] at a;rcases a with a|a
 ·exact h c a
 ·simp at a;subst a;intro l d;exact b l (by rw[xi (zf _)];exact d)
theorem NI(h:Q0 cs ps sv cs.length):Qt cs (vl ps sv):=fun c a=>h c (by rw[xi (zf _)];exact a)
theorem JS(a:Rp cs ps sv)(h:Q0 cs ps sv cs.length):Qe cs (vl ps sv):=⟨NI h,a⟩
theorem DA:∀(sv:List Nat) (k s:Nat) (b:k<sv.length),(sv.set k s).sum+sv[k]=sv.sum+s
 |a::r,0,s,_=>by simp;omega
 |a::r,k+1,s,b=>by
  have:=DA r k s (by simpa using b);simp;omega
theorem CE:∀(sv:List Nat) (M:Nat),(∀s∈sv,s<=M)->sv.sum<=sv.length*M
 |[],M,_=>by simp
 |a::r,M,h=>by
  have d:=CE r M fun s b=>h s (by simp[b]);have c:=h a (by simp);simp only[vI,xd,fH,Nat.one_mul];omega
theorem NK{f g:ByteArray->Nat}(a:Qe cs f)(b:Qe cs g)(n:ByteArray):f n=g n:=Nat.le_antisymm (a.2 g b.1 n) (b.2 f a.1 n)
end
section
open Go.Proofs.Tryz Go.RowKit
variable {lo:Nat}
theorem Qa.but{a:TypeId}{r:Nat}{w j:World}{v:Value}{l:List zc}(h:Qa lo a w v l)(e:PB r w j){c:Array Value}{T:TypeId}{f:Nat×Nat}(b:w.heap[r]?=some (.cells c T f))(i:T≠9)(g:T≠90)(d:T≠a):Qa lo a j v l:=by
 obtain⟨m,h,n⟩:=h;exact⟨m,xK h e b d,n.mono (fun _ _ k=>k.but e b i) (fun _ _ k=>k.but e b i g)⟩
structure QX (w:World) (pb:Nat) (cv pv:Value) (cs:List zc) (ps:List ByteArray) (sv:List Nat) (wr:World):Prop where
 but:PB pb w wr
 box:Py wr pb #[cv,pv,.slice (some ⟨w.heap.size,0,none⟩) ps.length ps.length] 45
 row:wr.ownsRow w.heap.size 3 1 (.slice (some ⟨w.heap.size,0,none⟩) ps.length ps.length) ps.length (sv.map Qb)
 len:sv.length=ps.length
 low:Rp cs ps sv
 top:∀s∈sv,s<ps.length
theorem QX.cell{w:World}{pb:Nat}{b d:Value}{cs:List zc}{ps:List ByteArray}{sv:List Nat}{wr:World}(h:QX w pb b d cs ps sv wr)(k:Nat)(f:k<sv.length):w.heap.size<wr.heap.size/\wr.cell? ⟨w.heap.size,k,none⟩=some (.int .i64 (sv[k]:Int)):=by
 obtain⟨g,e,a,_,c,i⟩:=yC h.row (by have:=h.len;omega);simp at a;obtain⟨rfl,_⟩:=a;exact⟨c,i k _ (by simp[f,Qb])⟩
theorem QX.set{w:World}{pb:Nat}{c d:Value}{cs:List zc}{ps:List ByteArray}{sv:List Nat}{wr:World}(h:QX w pb c d cs ps sv wr)(e:pb<w.heap.size)(k:Nat)(f:k<sv.length)(s:Nat)(hs:s<ps.length)(a:Rp cs ps (sv.set k s)):
  QX w pb c d cs ps (sv.set k s) (wr.setCell ⟨w.heap.size,k,none⟩ (.int .i64 (s:Int))):=by
 refine⟨h.but.setNew (zf _) _,h.box.set_ne (by omega) _ _,?_,by simpa using h.len,a,?_⟩
 ·have:=uI h.row k (by simpa using f) (Qb s);rw[fA];exact this
 ·intro x b;rcases nY b with b|b
  ·exact h.top x b
  ·omega
def Gj(w:World)(pb:Nat)(d c:Value)(cs:List zc)(ps:List ByteArray)(e:Ending)(b:World):Prop:=PB pb w b/\((e=.returned (.bool false)/\¬∃f,Qt cs f)∨∃a,e=.returned (.bool true)/\QX w pb d c cs ps a b/\Qe cs (vl ps a))
theorem L5{sv:List Nat}{k s:Nat}(a:k<sv.length)(hs:sv[k]<s):sv.sum<(sv.set k s).sum:=by have:=DA sv k s a;omega
theorem NB{ps:List ByteArray}{sv:List Nat}(a:sv.length=ps.length)(h:∀s∈sv,s<ps.length):sv.sum<=ps.length*ps.length:=by rw[←a] at h ⊢;exact CE sv sv.length fun s b=>by have:=h s b;omega
theorem Qa.ne{d T:TypeId}{w:World}{g n cap pb:Nat}{cs:List zc}{c:Array Value}(h:Qa lo d w (.slice (some ⟨g,0,none⟩) n cap) cs)(b:Py w pb c T)(i:T≠d):g≠pb:=by
 obtain⟨l,⟨_,⟨a,_⟩|⟨k,e,f,a,_,j,_⟩⟩,_⟩:=h
 ·cases a
 ·simp at a;obtain⟨rfl,_⟩:=a;rintro rfl;unfold Py at b;rw[j] at b;simp at b;exact i b.2.symm
theorem fg.but{w i:World}{g o:Nat}{c:zc}{m:Option Addr}{cap:Nat}{b:Option Addr}{a r:Nat}(h:fg w g o c m cap b a)(d:PB r w i)(f:g≠r){n:Array Value}{T:TypeId}(l:Py w r n T)(k:T≠9)(j:T≠90):fg i g o c m cap b a:=
 have e:∀o,i.cell? ⟨g,o,none⟩=w.cell? ⟨g,o,none⟩:=fun _=>World.cell?_of_block (w:=w) (d.block g h.lt f)
 ⟨xG h.lt d.size,(e _).trans h.c0,(e _).trans h.c1,(e _).trans h.c2,(e _).trans h.c3,h.args.but d l k,h.body.but d l k j⟩
theorem A3(w:World)(pb:Nat)(cv pv v2:Value)(cs:List zc)(ps:List ByteArray)(hp:Py w pb #[cv,pv,v2] 45)(aj:Qa lo 93 w cv cs){aA:Nat}(ae:P7 aA w pv ps)(a3:∀c∈cs,vH c/\c.body.length<=999)(hl:cs.length<=1000)(z:ps.length<=1000)(a4:∀c∈cs,∀l∈zl c,l.pred∈ps):
  Calls prog 70 #[.pointer (some ⟨pb,0,none⟩)] w fun e w'=>Gj w pb cv pv cs ps e w':=by
 obtain⟨ao,D,rfl⟩:=aj.qx;obtain⟨A,o,rfl⟩:=ae.qx;obtain⟨ax,a0,ad⟩:=hp.boxed;have a9:=Px a3;have aq:=Px a4;have HP:=Px hp;have aD:=run_make_row' (P:=prog) 24 3 (.int .i64 0) 8 underlying24 Pa rfl .i64 .i64 ps.length (by omega) (by omega);clear a3 a4;go_enter func70,ntmps70;go_wp2;clear aD;go_loopg [4] (2*(ps.length*ps.length)+1) (fun N v3 wr=>∃(O:List Nat) (more:Bool),v3=.bool more/\QX w pb (.slice ao cs.length D) (.slice A ps.length o) cs ps O wr/\Hid (more=false->Q0 cs ps O cs.length)/\2*(ps.length*ps.length-O.sum)+more.toNat<=N)
 case atStart=>
  have aC:(w.setCell ⟨pb,2,none⟩ (.slice (some ⟨w.heap.size,0,none⟩) ps.length ps.length)).heap.size=w.heap.size:=by simp[World.setCell]
  have am:=E6 (w.setCell ⟨pb,2,none⟩ (.slice (some ⟨w.heap.size,0,none⟩) ps.length ps.length)) ps.length 3 (by unfold maxLen;omega);rw[aC] at am;refine⟨List.replicate ps.length 0,true,rfl,⟨(by repeat'(first|with_reducible(first|apply xR|assumption|apply xN|apply xA|apply xD|apply xS|apply xT)|go_size)),?_,am,by simp,JG _ _ _,?_⟩,(by intro h;cases h),(by simp)⟩
  ·exact(hp.set 2 _).below zQ
  ·intro s hs;rw[List.mem_replicate] at hs;omega
 case round=>
  clear ax a0;obtain⟨O,more,rfl,v,HC,hN⟩:=hrel;cases more with
  |false=>
   have K:=Px (HC.out rfl);clear HC;go_wp2;go_ret;exact⟨v.but,ze ⟨O,rfl,v,JS v.low K.out⟩⟩
  |true=>
   go_wp2;go_loopw [4,5] (fun v3 v4 wi=>∃(k:Nat) (si:List Nat) (X:Bool),k<=cs.length/\v4=.int .i64 k/\v3=.bool X/\QX w pb (.slice ao cs.length D) (.slice A ps.length o) cs ps si wi/\O.sum<=si.sum/\(X=true->O.sum<si.sum)/\Hid (X=false->Q0 cs ps si k)) (fun _ i _=>cs.length-(intOf i).toNat)
   case atStart=>exact⟨0,O,false,zx _,rfl,rfl,v,zf _,(by simp),fun _=>Nd _ _ _⟩
   case round=>
    obtain⟨k,si,X,hk,rfl,rfl,r,a7,V,ap⟩:=hrel;have B:=r.box;obtain⟨ay,av,an⟩:=B.boxed;by_cases J:k<cs.length
    ·obtain⟨g,aY,aI,aR,aN,rfl,I⟩:=aj.at k J;have W:=aj.ne hp (by decide);have u:=I.but r.but W hp (by decide) (by decide);have Y:=ae.but r.but HP.out (by decide);obtain⟨ba,aU⟩:=a9.out _ (zv J);have C:=aq.out _ (zv J);have Z:=zv J;have ag:=Px fun s' (h1:Q0 cs ps s' k) (h2:mh cs[k] ps s' cs[k].body.length)=>GU h1 J h2;generalize cs[k]=c at *;have a2:=Px C;have aa:=Px Z;have a6:=Px I;obtain⟨G,T⟩:=sH (C c.head (by simp[zl]));have aL:=(f6 T).1;have az:=Px T;have a8:Hid (ff ps c.head.pred=(G:Int)):=by unfold Hid ff;rw[T]
     have aB:=u.c1;have au:=u.c3;have ac:=u.lt;clear T C Z I;go_wp2_with (first|(go_at_call 111;refine(mz _ pb _ _ _ ps c.head.pred B Y z).mono ?_;rw[a8.out];rintro e w' ⟨rfl,b⟩;obtain rfl:=b.symm))
     go_loopw [4,8] (fun v3 v7 wj=>∃(j:Nat) (d:List Nat) (R:Bool),j<=c.body.length/\v7=.int .i64 j/\v3=.bool R/\QX w pb (.slice (some ⟨g,0,none⟩) cs.length D) (.slice A ps.length o) cs ps d wj/\O.sum<=d.sum/\(R=true->O.sum<d.sum)/\Hid (R=false->Q0 cs ps d k/\mh c ps d j)) (fun _ i _=>c.body.length-(intOf i).toNat)
     case atStart=>exact⟨0,si,X,zx _,rfl,rfl,r,a7,V,fun h=>⟨ap.out h,Mk _ _ _⟩⟩
     case round=>
      clear ay av aB au u Y B an ac;obtain⟨j,d,R,hj,rfl,rfl,a,M,H,x⟩:=hrel;have m:=a.box;obtain⟨ay,av,aK⟩:=m.boxed;have F:=a6.out.but a.but W HP.out (by decide) (by decide);have p:=ae.but a.but HP.out (by decide);have au:=F.c3;have ac:=F.lt;by_cases ah:j<c.body.length
      ·obtain⟨gl,bc,aM,aE,aP,a1,aX,_,_⟩:=F.body.cell j ah;subst aE;have al:=zv ah;obtain⟨kb,S⟩:=sH (a2.out c.body[j] (by simp[zl]));have aH:=(f6 S).1;have aJ:=a.len;have E:kb<d.length:=by omega
       have n:G<d.length:=by omega
       have U:=rV S E;have aw:=rV az.out n;have q:Hid (ff ps c.body[j].pred=(kb:Int)):=by unfold Hid ff;rw[S]
       have t:Hid (Rp cs ps (d.set G (d[kb]+up c.body[j]))):=by have:=Ok a.low aa.out al az.out n;rw[U] at this;exact this
       have ak:=Px fun h=>IX a.low aq.out aa.out al (by rw[U];exact h);have ar:=Px fun h1 h2=>KH h2 ah (by rw[U,aw];exact h1);have ab:=Px fun s h1 h2=>a.set ad G n s h1 h2;have L:=Px fun s (h:d[G]<s)=>L5 n h;obtain⟨aV,aS⟩:=a.cell kb E;obtain⟨_,aW⟩:=a.cell G n;have aQ:=qF a.row;have aO:=a.top _ (zv E);have aT:=a.top _ (zv n);clear U aw S al;generalize d[kb]=Q at *;generalize d[G]=sh at *;generalize c.body[j]=l at *;cases f:l.neg with
       |false=>
        have y:up l=0:=by simp[up,f]
        rw[f] at a1;clear f;by_cases af:sh<Q
        ·by_cases aF:ps.length<=Q
         ·omega
         ·have ai:Hid (QX w pb (.slice (some ⟨g,0,none⟩) cs.length D) (.slice A ps.length o) cs ps (d.set G (Q)) (wr.setCell ⟨w.heap.size,G,none⟩ (.int .i64 ((Q:Nat):Int)))):=ab.out _ (by omega) (by have:=t.out;rw[y] at this;exact this);have aG:=L.out (Q) af;go_wp2_with (first|(go_at_call 111;refine(mz _ pb _ _ _ ps l.pred m p z).mono ?_;rw[q.out];rintro e w' ⟨rfl,b⟩;obtain rfl:=b.symm))
          go_roundw
          case rel=>exact⟨j+1,_,true,by omega,by go_num,rfl,ai.out,by omega,(fun _=>by omega),(fun h=>by cases h)⟩
          case measure=>simp[intOf];omega
        ·have K:Hid (R=false->Q0 cs ps d k/\mh c ps d (j+1)):=fun h=>⟨(x.out h).1,ar.out (by rw[y];omega) (x.out h).2⟩;go_wp2_with (first|(go_at_call 111;refine(mz _ pb _ _ _ ps l.pred m p z).mono ?_;rw[q.out];rintro e w' ⟨rfl,b⟩;obtain rfl:=b.symm))
         go_roundw
         case rel=>exact⟨j+1,d,R,by omega,by go_num,rfl,a,M,H,K⟩
         case measure=>simp[intOf];omega
       |true=>
        have y:up l=1:=by simp[up,f]
        rw[f] at a1;clear f;by_cases af:sh<Q+1
        ·by_cases aF:ps.length<=Q+1
         ·have HF:=Px (ak.out (by rw[y];omega));go_wp2_with (first|(go_at_call 111;refine(mz _ pb _ _ _ ps l.pred m p z).mono ?_;rw[q.out];rintro e w' ⟨rfl,b⟩;obtain rfl:=b.symm))
          go_ret;exact⟨a.but.setNew (zf _) _,zg ⟨rfl,HF.out⟩⟩
         ·have ai:Hid (QX w pb (.slice (some ⟨g,0,none⟩) cs.length D) (.slice A ps.length o) cs ps (d.set G (Q+1)) (wr.setCell ⟨w.heap.size,G,none⟩ (.int .i64 ((Q+1:Nat):Int)))):=ab.out _ (by omega) (by have:=t.out;rw[y] at this;exact this);have aG:=L.out (Q+1) af;go_wp2_with (first|(go_at_call 111;refine(mz _ pb _ _ _ ps l.pred m p z).mono ?_;rw[q.out];rintro e w' ⟨rfl,b⟩;obtain rfl:=b.symm))
          go_roundw
          case rel=>exact⟨j+1,_,true,by omega,by go_num,rfl,ai.out,by omega,(fun _=>by omega),(fun h=>by cases h)⟩
          case measure=>simp[intOf];omega
        ·have K:Hid (R=false->Q0 cs ps d k/\mh c ps d (j+1)):=fun h=>⟨(x.out h).1,ar.out (by rw[y];omega) (x.out h).2⟩;go_wp2_with (first|(go_at_call 111;refine(mz _ pb _ _ _ ps l.pred m p z).mono ?_;rw[q.out];rintro e w' ⟨rfl,b⟩;obtain rfl:=b.symm))
         go_roundw
         case rel=>exact⟨j+1,d,R,by omega,by go_num,rfl,a,M,H,K⟩
         case measure=>simp[intOf];omega
      ·have HE:=Px fun h=>ag.out d (x.out h).1 (by have h2:=(x.out h).2;rw[show c.body.length=j from by omega];exact h2);go_wp2;go_roundw
       case rel=>exact⟨k+1,d,R,by omega,by go_num,rfl,a,M,H,HE⟩
       case measure=>simp[intOf];omega
    ·have a5:k=cs.length:=by omega
     have bb:=NB r.len r.top;go_wp2;go_roundg (2*(ps.length*ps.length-si.sum)+X.toNat)
     case measure=>
      have aZ:2*(ps.length*ps.length-O.sum)+1<=gk:=hN;clear hN;generalize ps.length*ps.length=nn at *;cases X with
      |false=>simp only[Bool.toNat_false];omega
      |true=>have:=V rfl;simp only[Bool.toNat_true];omega
     case rel=>exact⟨si,X,rfl,r,(by rw[←a5];exact ap.out),zf _⟩
end
section
variable {ps:List ByteArray}{t:List zh}{cs:List zc}
theorem Ev(h:y5 ps){i j:Nat}(c:i<ps.length)(b:j<ps.length)(e:ps[i]=ps[j]):i=j:=by
 unfold y5 at h;rw[tN] at h;rcases pe i j with a|a|a
 ·have:=h i j c b a;rw[e,PE] at this;cases this
 ·exact a
 ·have:=h j i b c a;rw[e,PE] at this;cases this
theorem Hb{sv:List Nat}(h:y5 ps)(e:sv.length=ps.length){k:Nat}(b:k<ps.length):vl ps sv ps[k]=sv[k]:=by
 obtain⟨j,a⟩:=sH (zv b);obtain⟨d,c⟩:=f6 a;have:=Ev h d b c;subst this;exact rV a (by omega)
theorem IQ(h:y5 (P2 t)){k:Nat}(c:k<t.length):val t t[k].name=t[k].qh:=by
 unfold val;cases b:yn t t[k].name with
 |none=>exact zB rfl (mN h b t[k] (zv c))
 |some e=>
  obtain⟨f,a,d⟩:=jJ b;have g:=Ev h (by simpa [P2] using f) (by simpa [P2] using c) (by simp[P2,a,d]);simp only;rw[←a];congr 1;congr 1
theorem rT(h:Q8 t (cs.flatMap zl)):kc t cs:=by
 intro c g l f;cases d:yn t l.pred with
 |some e=>rfl
 |none=>
  obtain⟨e,b,a⟩:=z9.1 ((h.names l.pred).2 ⟨l,uF.2 ⟨c,g,f⟩,rfl⟩);exact zB a (mN h.rise d e b)
theorem Az(h:∀e∈t,e.qh<=0)(n:ByteArray):val t n=0:=by
 unfold val;split
 ·rename_i e a;have:=h e (nm a).1;omega
 ·rfl
inductive dZ (s:ByteArray):Except Int (List zc×List ByteArray×List Nat)->Prop
 |long:500<s.size->dZ s (.error 1)
 |lex:¬500<s.size->xa s.size s=none->dZ s (.error 2)
 |parse {l:List ByteArray}:¬500<s.size->xa s.size s=some l->uT l=none->dZ s (.error 3)
 |wrong {l:List ByteArray} {cs:List zc}:¬500<s.size->xa s.size s=some l->uT l=some cs->jt cs≠0->dZ s (.error (jt cs))
 |strata {l:List ByteArray} {cs:List zc}:¬500<s.size->xa s.size s=some l->uT l=some cs->jt cs=0->(¬∃f,Qt cs f)->dZ s (.error 7)
 |ok {l:List ByteArray} {cs:List zc} {ps:List ByteArray} {sv:List Nat}:¬500<s.size->xa s.size s=some l->uT l=some cs->jt cs=0->y5 ps->(∀n,n∈ps↔∃x∈cs.flatMap zl,x.pred=n)->sv.length=ps.length->Qe cs (vl ps sv)->dZ s (.ok (cs,ps,sv))
def rW:Except Int (List zc×List zh)->Except Int (List zc×List ByteArray×List Nat)
 |.error k=>.error k
 |.ok (cs,t)=>.ok (cs,P2 t,t.map zh.qh)
theorem sF{s:ByteArray}{l:List ByteArray}(h:xa s.size s=some l):∃a,PA s=some a/\uT l=yF a.length a.length a:=by
 have b:=ox s;rw[h] at b;cases c:PA s with
 |none=>rw[pA,c] at h;cases h
 |some a=>rw[c] at b;exact⟨a,rfl,b⟩
theorem ij:(jt cs=4/\cs.any yE=true)∨(jt cs=5/\cs.any yE=false/\ud cs=none)∨(∃t,cs.any yE=false/\ud cs=some t/\((jt cs=6/\cs.all xo=false)∨(jt cs=0/\cs.all xo=true))):=by
 unfold jt;rw[Hk,MG];cases b:cs.any yE with
 |true=>exact zg ⟨rfl,rfl⟩
 |false=>
  right;cases a:ud cs with
  |none=>left;rw[H8 a];exact⟨rfl,rfl,rfl⟩
  |some t=>
   right;refine⟨t,rfl,rfl,?_⟩;rw[(tQ a).1];cases c:cs.all xo with
   |true=>exact ze ⟨rfl,rfl⟩
   |false=>exact zg ⟨rfl,rfl⟩
theorem A4(h:ud cs=some t):∀e∈t,e.qh<=0:=sT _ [] (fun e a=>by cases a) t h
theorem Eh{s:ByteArray}{r:Except Int (List zc×List ByteArray×List Nat)}(h:dZ s r):rW (uc s)=r:=by
 cases h with
 |long h=>unfold uc;rw[zb h];rfl
 |lex h f=>
  unfold uc;rw[za h];rw[pA] at f;cases K:PA s with
  |none=>rfl
  |some u=>rw[K] at f;cases f
 |parse h f j=>
  obtain⟨u,i,d⟩:=sF f;rw[j] at d;unfold uc;rw[za h,i];simp only;rw[←d];rfl
 |wrong h f j g=>
  rename_i cs;obtain⟨u,i,d⟩:=sF f;rw[j] at d;unfold uc;rw[za h,i];simp only;rw[←d];simp only;rcases ij (cs:=cs) with⟨e,a⟩|⟨e,a,b⟩|⟨t,a,b,⟨e,c⟩|⟨e,c⟩⟩
  ·rw[e,a];rfl
  ·rw[e,a,b];rfl
  ·rw[e,a,b];simp only;rw[c];rfl
  ·exact zB e g
 |strata h f j g y=>
  rename_i cs;obtain⟨u,i,d⟩:=sF f;rw[j] at d;unfold uc;rw[za h,i];simp only;rw[←d];simp only;rcases ij (cs:=cs) with⟨e,a⟩|⟨e,a,b⟩|⟨t,a,b,⟨e,c⟩|⟨e,c⟩⟩
  ·rw[g] at e;cases e
  ·rw[g] at e;cases e
  ·rw[g] at e;cases e
  ·rw[a,b];simp only;rw[c];have q:=sO (rT (tQ b).2) (Az (A4 b));have:(xF (t.length+1) t cs).2=false:=by rw[←nI];exact fun e=>y (q.1.1 e)
   rw[this];rfl
 |ok h f j g v F D B=>
  rename_i l cs ps I;obtain⟨u,i,d⟩:=sF f;rw[j] at d;unfold uc;rw[za h,i];simp only;rw[←d];simp only;rcases ij (cs:=cs) with⟨e,a⟩|⟨e,a,b⟩|⟨t,a,b,⟨e,c⟩|⟨e,c⟩⟩
  ·rw[g] at e;cases e
  ·rw[g] at e;cases e
  ·rw[g] at e;cases e
  ·rw[a,b];simp only;rw[c];have p:=(tQ b).2;have q:=sO (rT p) (Az (A4 b));have m:=q.1.2 ⟨_,B.1⟩;have o:=q.2 m;have C:=rM (t.length+1) t cs (rT p);rw[m];simp only[if_true,gx,if_false,rW];generalize (xF (t.length+1) t cs).1=A at o C;have x:=C.trans (Ek p.rise v fun n=>(p.names n).trans (F n).symm);subst x;have w:A.map zh.qh=I:=by
    apply gS (by rw[D];simp[P2]);intro k z G;have H:k<A.length:=by simpa using z
    have J:=Hb v D (k:=k) (by omega);have E:=IQ v H;rw[←J,NK B o];simp only[P2,vm];exact E.symm
   rw[w]
end
section
open Go.Proofs.Tryz Go.RowKit
variable {lo:Nat}{l:List P4}
theorem Jl:∀{ts:List ByteArray} {l:List P4},dS ts l->∀t∈ts,∃y∈l,y.2=t:=by
 intro ts l h;induction h with
 |one=>intro t a;simp at a;exact⟨_,pN,a.symm⟩
 |more _ _ _ b=>
  intro t a;rcases zu.1 a with rfl|a
  ·exact⟨_,pN,rfl⟩
  ·obtain⟨y,c,e⟩:=b t a;exact⟨y,by simp[c],e⟩
theorem sC{a:zj}(h:qe a l):∀t∈a.args,∃y∈l,y.2=t:=by
 cases h with
 |bare=>intro t b;cases b
 |args _ _ c _=>intro t b;obtain⟨y,d,e⟩:=Jl c t b;exact⟨y,by simp[d],e⟩
theorem AF{a:zj}(h:kI a l):∀t∈a.args,∃y∈l,y.2=t:=by
 cases h with
 |qc h=>exact sC h
 |neg _ h=>intro t b;obtain⟨y,c,e⟩:=sC h t b;exact⟨y,by simp[c],e⟩
theorem L7:∀{b:List zj} {l:List P4},gi b l->∀a∈b,∀t∈a.args,∃y∈l,y.2=t:=by
 intro b l h;induction h with
 |one h=>intro a c;simp at c;subst c;exact AF h
 |more h _ _ g=>
  intro a c t f;rcases zu.1 c with rfl|c
  ·obtain⟨y,d,e⟩:=AF h t f;exact⟨y,by simp[d],e⟩
  ·obtain⟨y,d,e⟩:=g a c t f;exact⟨y,by simp[d],e⟩
theorem KV{c:zc}(h:fa c l):∀a∈zl c,∀t∈a.args,∃y∈l,y.2=t:=by
 cases h with
 |fact h=>intro a b;simp[zl] at b;subst b;exact sC h
 |rule h _ g=>
  intro a b t f;simp only[zl] at b;rcases zu.1 b with rfl|b
  ·obtain⟨y,d,e⟩:=sC h t f;exact⟨y,by simp[d],e⟩
  ·obtain⟨y,d,e⟩:=L7 g a b t f;exact⟨y,by simp[d],e⟩
theorem BE:∀{cs:List zc} {l:List P4},fc cs l->∀c∈cs,∀a∈zl c,∀t∈a.args,∃y∈l,y.2=t:=by
 intro cs l h;induction h with
 |nil=>intro c b;cases b
 |cons h _ _ i=>
  intro c b a f t g;rcases zu.1 b with rfl|b
  ·obtain⟨y,d,e⟩:=KV h a f t g;exact⟨y,by simp[d],e⟩
  ·obtain⟨y,d,e⟩:=i c b a f t g;exact⟨y,by simp[d],e⟩
structure Hm (cs:List zc):Prop where
 ok:∀c∈cs,vH c/\c.body.length<=999/\xf (zl c)<=1000/\∀l∈zl c,∀t∈l.args,0<t.size
 len:cs.length<=1000
 lits:(cs.flatMap zl).length<=1000
theorem rP{s:ByteArray}{l:List ByteArray}(hs:s.size<=500)(h:xa s.size s=some l):∃a,PA s=some a/\l=zU a/\l.length<=500/\∀y∈l,0<y.size:=by
 rw[pA] at h;cases b:PA s with
 |none=>rw[b] at h;cases h
 |some a=>
  rw[b] at h;simp only[jj,zr] at h;subst h;refine⟨a,rfl,rfl,?_,?_⟩
  ·have:=rO b;simp;omega
  ·intro y d;obtain⟨x,c,rfl⟩:=z9.1 d;exact(nR b x c).2
theorem wQ{s:ByteArray}{l:List ByteArray}{cs:List zc}(hs:s.size<=500)(h:xa s.size s=some l)(j:uT l=some cs):Hm cs:=by
 obtain⟨d,b,rfl,r,v⟩:=rP hs h;have e:xJ d:=fun x m=>(nR b x m).1;have o:=(iy e cs).1 j;have g:yF d.length d.length d=some cs:=by
  have:=ox s;rw[h,b] at this;simp only[Option.bind_some] at this;rw[←this];exact j
 have w:=sM g;have p:d.length<=500:=by simpa [zU] using r
 have i:=i4 (cs:=cs) (by omega);refine⟨fun c f=>⟨i c f,?_,?_,?_⟩,by have:=wE cs;omega,by have:=e9 cs;omega⟩
 ·have b:=ex f;have k:=ri c.body;unfold Re kg at b;omega
 ·have b:=ex f;have k:=ri c.body;unfold Re kg at b;simp only[zl,xf] at *;simp;omega
 ·intro a q t u;obtain⟨y,n,rfl⟩:=BE o c f a q t u;exact(nR b y n).2
def nF(r:Except Int (List zc×List ByteArray×List Nat))(w:World)(e:Ending)(a:World):Prop:=
 Below w.heap.size w a/\match r with
  |.error n=>e=.returned (.tuple #[.pointer none,.int .i64 n])
  |.ok (i,h,d)=>∃b c g f,e=.returned (.tuple #[.pointer (some ⟨b,0,none⟩),.int .i64 0])/\Py a b #[c,g,f] 45/\Qa w.heap.size 93 a c i/\P7 w.heap.size a g h/\a.ownsRow w.heap.size 3 1 f d.length (d.map Qb)/\w.heap.size<=b
theorem Fe(s:ByteArray)(w:World)(hs:500<s.size)(a:s.size<=9223372036854775807):
  Calls prog 33 #[.string s] w fun e b=>nF (.error 1) w e b:=by
 go_enter func33,ntmps33;go_wp2;go_ret2
 exact⟨zo _ _,rfl⟩
theorem Jp(s:ByteArray)(w:World)(hs:s.size<=500)(h:xa s.size s=none):
  Calls prog 33 #[.string s] w fun e a=>nF (.error 2) w e a:=by
 have c:Hid (∀W,Calls prog 65 #[.string s] W fun e a=>Below W.heap.size W a/\e=.returned (.tuple #[.slice none 0 0,.bool false])):=fun W=>by have:=tJ s W hs;rw[h] at this;exact this
 clear h;go_enter func33,ntmps33;go_wp2_with (first|(go_at_call 65;refine(c.out _).mono ?_;rintro e d ⟨b,rfl⟩;clear c))
 go_ret2
 exact⟨b,rfl⟩
theorem Ip(s:ByteArray)(w:World)(hs:s.size<=500)(l:List ByteArray)(h:xa s.size s=some l)(k:uT l=none):
  Calls prog 33 #[.string s] w fun e o=>nF (.error 3) w e o:=by
 obtain⟨_,_,_,m,g⟩:=rP hs h;have d:=Px fun W=>by have:=tJ s W hs;rw[h] at this;exact this
 have f:=Px fun W v i=>by have:=e6 W v l i g m;rw[k] at this;exact this
 go_enter func33,ntmps33;go_wp2_with (first|(go_at_call 65;refine(d.out _).mono ?_;rintro e t ⟨a,r,rfl,c⟩;clear d)|(go_at_call 66;refine(f.out _ _ (SV.of c)).mono ?_;rintro e p ⟨b,q,n,j,rfl⟩;clear f))
 go_ret2
 exact⟨P3 a b,rfl⟩
theorem J1(s:ByteArray)(w:World)(hs:s.size<=500)(l:List ByteArray)(cs:List zc)(h:xa s.size s=some l)(B:uT l=some cs)(I:jt cs≠0):
  Calls prog 33 #[.string s] w fun e p=>nF (.error (jt cs)) w e p:=by
 obtain⟨_,_,_,D,F⟩:=rP hs h;have j:=wQ hs h B;have d:=j.len;have A:=Px fun W=>by have:=tJ s W hs;rw[h] at this;exact this
 have z:=Px fun W v C=>by have:=e6 W v l C F D;rw[B] at this;exact this
 have g:Hid (∀lo W k n o m,Py W k #[n,o,m] 45->Qa lo 93 W n cs->Calls prog 67 #[.pointer (some ⟨k,0,none⟩)] W fun e p=>e=.returned (.int .i64 (jt cs))/\Below W.heap.size W p):=fun _ W k n o m H E=>C8 W k n o m cs H E j.ok d;go_enter func33,ntmps33;go_wp2_with (first|(go_at_call 65;refine(A.out _).mono ?_;rintro e K ⟨q,o,rfl,t⟩;clear A)|(go_at_call 66;refine(z.out _ _ (SV.of t)).mono ?_;rintro e G ⟨r,m,rfl,a⟩;obtain⟨f,b,rfl⟩:=a.qx;have i:=P3 q r;clear z)|(go_at_call 67;refine(g.out _ _ _ _ _ _ (Py.new _ _ _) (by exact a.below (by repeat'(first|with_reducible(first|apply zR|assumption|apply zN|apply zA|apply zD|apply zS)|go_size)))).mono ?_;rintro e J ⟨rfl,c⟩;have y:=(Py.new G #[.slice f cs.length b,.slice none 0 0,.slice none 0 0] 45).below c;have u:=(a.below ((zo _ _).alloc (zf _) (.cells #[.slice f cs.length b,.slice none 0 0,.slice none 0 0] 45))).below c;have x:=P3 (i.alloc i.size _) c;clear g))
 go_ret2
 exact⟨x,rfl⟩
theorem GA(w:World)(pb:Nat)(a d p:Value)(cs:List zc)(ps:List ByteArray)(y:Py w pb #[a,d,p] 45)(j:Qa lo 93 w a cs){g:Nat}(i:P7 g w d ps)(m:∀c∈cs,vH c/\c.body.length<=999)(v:cs.length<=1000)(k:ps.length<=1000)(n:∀c∈cs,∀l∈zl c,l.pred∈ps)(r:Hid (∃f,Qt cs f)):
  Calls prog 70 #[.pointer (some ⟨pb,0,none⟩)] w fun e o=>∃b,e=.returned (.bool true)/\PB pb w o/\QX w pb a d cs ps b o/\Qe cs (vl ps b):=
 (A3 w pb a d p cs ps y j i m v k n).mono fun _ _ ⟨u,s⟩=>s.elim (fun h=>zB r.out h.2) fun⟨b,q,t,x⟩=>⟨b,q,u,t,x⟩
theorem Np(w:World)(pb:Nat)(d i n:Value)(cs:List zc)(ps:List ByteArray)(u:Py w pb #[d,i,n] 45)(g:Qa lo 93 w d cs){a:Nat}(b:P7 a w i ps)(m:∀c∈cs,vH c/\c.body.length<=999)(q:cs.length<=1000)(k:ps.length<=1000)(j:∀c∈cs,∀l∈zl c,l.pred∈ps)(s:Hid (¬∃f,Qt cs f)):
  Calls prog 70 #[.pointer (some ⟨pb,0,none⟩)] w fun e t=>e=.returned (.bool false)/\PB pb w t:=
 (A3 w pb d i n cs ps u g b m q k j).mono fun _ _ ⟨p,o⟩=>o.elim (fun h=>⟨h.1,p⟩) fun⟨_,_,_,r⟩=>zB ⟨_,r.1⟩ s.out
theorem Ov(cs:List zc)(k:Nat)(a:k<cs.length):(cs.take (k+1)).flatMap zl=(cs.take k).flatMap zl++zl cs[k]:=by rw[yP a,List.flatMap_append];simp
theorem Ju(s:ByteArray)(w:World)(hs:s.size<=500)(l:List ByteArray)(cs:List zc)(h:xa s.size s=some l)(hp:uT l=some cs)(hx:jt cs=0):
  Calls prog 33 #[.string s] w fun e w'=>∃r,dZ s r/\nF r w e w':=by
 obtain⟨_,_,_,h3,h4⟩:=rP hs h;have aa:=wQ hs h hp;have R:=aa.len;have M:=Px aa;have HW:Hid (∀W,Calls prog 65 #[.string s] W fun e w'=>Below W.heap.size W w'/\∃v,e=.returned (.tuple #[v,.bool true])/\w'.ownsRow W.heap.size 9 1 v l.length (l.map Value.string)):=fun W=>by have:=tJ s W hs;rw[h] at this;exact this
 have HC:Hid (∀W v,SV W v l->Calls prog 66 #[v] W fun e w'=>Below W.heap.size W w'/\∃v,e=.returned (.tuple #[v,.bool true])/\Qa W.heap.size 93 w' v cs):=fun W v hv=>by have:=e6 W v l hv h4 h3;rw[hp] at this;exact this
 have a5:Hid (∀lo W pb cv v1 v2,Py W pb #[cv,v1,v2] 45->Qa lo 93 W cv cs->Calls prog 67 #[.pointer (some ⟨pb,0,none⟩)] W fun e w'=>e=.returned (.int .i64 0)/\Below W.heap.size W w'):=fun _ W pb cv v1 v2 h1 h2=>by rw[←hx];exact C8 W pb cv v1 v2 cs h1 h2 aa.ok R
 have aG:Hid ((¬∃f,Qt cs f)->dZ s (.error 7)):=fun hn=>.strata (by omega) h hp hx hn;have a7:Hid (∀u sv,y5 u->(∀n,n∈u↔∃x∈cs.flatMap zl,x.pred=n)->sv.length=u.length->Qe cs (vl u sv)->dZ s (.ok (cs,u,sv))):=fun u sv h1 h2 h3 h4=>.ok (by omega) h hp hx h1 h2 h3 h4;obtain⟨i0,hi,aQ,aP,aK⟩:=info_parts Po;clear h hp h4 aa hx;go_enter func33,ntmps33;go_wp2_with (first|(go_at_call 65;refine(HW.out _).mono ?_;rintro e w1 ⟨aq,v1,rfl,aI⟩;clear HW)|(go_at_call 66;refine(HC.out _ _ (SV.of aI)).mono ?_;rintro e w2 ⟨aO,v2,rfl,X⟩;obtain⟨aC,ad,rfl⟩:=X.qx;have H:=P3 aq aO;clear HC)|(go_at_call 67;refine(a5.out _ _ _ _ _ _ (Py.new _ _ _) (by exact X.below (by repeat'(first|with_reducible(first|apply zR|assumption|apply zN|apply zA|apply zD|apply zS)|go_size)))).mono ?_;rintro e w3 ⟨rfl,ap⟩;have aA:=(Py.new w2 #[.slice aC cs.length ad,.slice none 0 0,.slice none 0 0] 45).below ap;have Q:=(X.below ((zo _ _).alloc (zf _) (.cells #[.slice aC cs.length ad,.slice none 0 0,.slice none 0 0] 45))).below ap;have ak:=P3 (H.alloc H.size _) ap;clear a5))
 go_loopw [9,10] (fun v8 v9 wr=>∃k:Nat,k<=cs.length/\v9=.int .i64 k/\Below w3.heap.size w3 wr/\wr.ownsRow w3.heap.size 9 1 v8 ((cs.take k).flatMap zl).length (((cs.take k).flatMap zl).map fun x=>Value.string x.pred)) (fun _ i _=>cs.length-(intOf i).toNat)
 case atStart=>exact⟨0,zx _,rfl,zo _ _,yI _ _ _ _⟩
 case round=>
  obtain⟨k,hk,rfl,G,E⟩:=hrel;by_cases an:k<cs.length
  ·obtain⟨g,bp,bb,bh,bd,rfl,ah⟩:=Q.at k an;have aU:=ah.below G;obtain⟨bq,bs,_,_⟩:=M.out.ok _ (zv an);have ao:=Ov cs k an;have aw:=Px ao;have bo:((cs.take k).flatMap zl).length+(zl cs[k]).length<=1000:=by
    have h1:((cs.take (k+1)).flatMap zl).length<=(cs.flatMap zl).length:=by
     conv=>rhs;rw[←qU (k+1) cs,List.flatMap_append,yv]
     omega
    have h2:=M.out.lits;rw[ao,yv] at h1;omega
   clear ao ah;generalize cs[k]=c at *;obtain⟨br,ba,rfl⟩:=zs E;have bm:(zl c).length<=1000:=by omega
   generalize (cs.take k).flatMap zl=B at *;generalize az:zl c=y at *;have aM:=Px az;clear az;obtain⟨w4,rfl⟩:∃w4,w4=wr:=⟨wr,rfl⟩;go_wp2_with (first|(go_at_call 68;refine(tK _ g (k*4) c _ _ _ _ aU (by omega)).mono ?_;rintro e w5 ⟨lv,rfl,L,a8⟩;rw[aM.out] at L;obtain⟨aZ,a0,rfl⟩:=L.qx))
   obtain⟨xs,aV,aH⟩:=L;have aR:=P3 G a8;have am:=zC E a8;go_loopw [9,12] (fun v8 aT wj=>∃j:Nat,j<=y.length/\aT=.int .i64 j/\Below w3.heap.size w3 wj/\wj.ownsRow 0 90 3 (.slice aZ y.length a0) y.length xs/\wj.ownsRow w3.heap.size 9 1 v8 (B++y.take j).length ((B++y.take j).map fun x=>Value.string x.pred)) (fun _ i _=>y.length-(intOf i).toNat)
   case atStart=>exact⟨0,zx _,rfl,aR,aV,by simpa using am⟩
   case round=>
    obtain⟨j,hj,rfl,al,af,t⟩:=hrel;have aB:=al.size;obtain⟨bn,bc,rfl⟩:=zs t;by_cases av:j<y.length
    ·obtain⟨va,a1,a2,a3,a4⟩:=aH.at j y[j] (by simp[av]);obtain⟨gl,aF,a9,_,bf,a6⟩:=yC af (by omega);simp at a9;obtain⟨rfl,rfl⟩:=a9;have bu:=a6 _ _ a2;have au:=yP av;have aD:(y.take j).length=j:=by rw[vU];omega
     have bt:(B++y.take j).length<=1000:=by rw[yv,aD];omega
     clear a1 a2 a3 a4 a6;generalize y[j]=a at *;have HT:=Px au;clear au aD;have HQ:Hid (B++y.take (j+1)=(B++y.take j)++[a]):=by rw[Hid,HT.out,kB]
     clear HT;generalize (B++y.take j)=q at *;go_wp2_with (first|(at_builtin;refine jS _ _ [.string a.pred] _ rfl (.tmp 54) (.tmp 60) 30 rfl w3.heap.size 9 i0 _ 1 16 underlying30 hi aQ aP aK rfl (by decide) _ _ _ rfl t (zo _ _) _ _ rfl (by simp) rfl (by simp[Value.oneCell']) (by omega) (by omega) aB ?_;intro v' w7 aW C aJ aS aX bk;clear aJ aS))
     go_roundw
     case rel=>exact⟨j+1,by omega,by go_num,al.trans C,gs t (by decide) af aX,by rw[HQ.out];simpa using aW⟩
     case measure=>simp[intOf];omega
    ·have he:y.take j=y:=xi (by omega);have ax:Hid ((cs.take (k+1)).flatMap zl=B++y.take j):=by rw[Hid,aw.out,he]
     clear he aw;generalize B++y.take j=q at *;go_wp2;go_roundw
     case rel=>exact⟨k+1,by omega,by go_num,al,by rw[ax.out];exact t⟩
     case measure=>simp[intOf];omega
  ·have he:cs.take k=cs:=xi (by omega);rw[he] at E;have S:=M.out.lits;clear he;generalize ae:cs.flatMap zl=ab at *;have ai:=Px ae;clear ae;obtain⟨aN,aE,rfl⟩:=zs E;have ay:P7 w3.heap.size wr (.slice aN ab.length aE) (ab.map zj.pred):=by simpa [P7,Function.comp_def] using E
   have N:=aA.below G;obtain⟨bg,bi,be⟩:=N.boxed;have T:=Q.below G;have ag:Hid (∀c∈cs,vH c/\c.body.length<=999):=fun c hc=>⟨(M.out.ok c hc).1,(M.out.ok c hc).2.1⟩;by_cases hS:∃f,Qt cs f
   ·have HS:=Px hS;clear hS;go_wp2_with (first|(go_at_call 69;refine(CZ _ _ (ab.map zj.pred) ay (by simpa using S)).mono ?_;rintro e w6 ⟨v6,u,rfl,O,Y,b,m,I⟩;obtain⟨F,o,rfl⟩:=O.qx;have d:=N.below I;obtain⟨aL,aY,ar⟩:=d.boxed;have J:=T.below I;have aj:=P3 ak (P3 G I);have P:u.length<=1000:=(by simp at m;omega);have A:=(by simpa using d.set 1 (.slice F u.length o));have D:=(PB.refl w2.heap.size w6).setCell 1 (.slice F u.length o);have p:=J.but D d (by decide) (by decide) (by decide);have ac:=O.but D d (by decide);have C:Below w.heap.size w (w6.setCell ⟨w2.heap.size,1,none⟩ (.slice F u.length o)):=aj.setCell H.size _;have V:=Px (fun c hc l hl=>(b _).2 (z9.2 ⟨l,(by rw[←ai.out];exact uF.2 ⟨c,hc,hl⟩),rfl⟩));have U:=Px (fun n=>(b n).trans z9);clear b m)|(go_at_call 70;refine(GA _ w2.heap.size _ _ _ cs u (by exact A) (by exact p) (by exact ac) ag.out R P V.out HS).mono ?_;rintro e w8 ⟨sv,rfl,z,K,Z⟩))
    go_ret2
    exact⟨_,a7.out u sv Y U.out K.len Z,C.trans (z.below H.size C.size),w2.heap.size,_,_,_,rfl,K.box,(p.but z A (by decide) (by decide) (by decide)).low aq.size,(ac.but z A (by decide)).low (zT ak.size G.size),by rw[K.len];exact yq K.row C.size,H.size⟩
   ·have HS:=Px hS;clear hS;go_wp2_with (first|(go_at_call 69;refine(CZ _ _ (ab.map zj.pred) ay (by simpa using S)).mono ?_;rintro e w6 ⟨v6,u,rfl,O,Y,b,m,I⟩;obtain⟨F,o,rfl⟩:=O.qx;have d:=N.below I;obtain⟨aL,aY,ar⟩:=d.boxed;have J:=T.below I;have aj:=P3 ak (P3 G I);have P:u.length<=1000:=(by simp at m;omega);have A:=(by simpa using d.set 1 (.slice F u.length o));have D:=(PB.refl w2.heap.size w6).setCell 1 (.slice F u.length o);have p:=J.but D d (by decide) (by decide) (by decide);have ac:=O.but D d (by decide);have C:Below w.heap.size w (w6.setCell ⟨w2.heap.size,1,none⟩ (.slice F u.length o)):=aj.setCell H.size _;have V:=Px (fun c hc l hl=>(b _).2 (z9.2 ⟨l,(by rw[←ai.out];exact uF.2 ⟨c,hc,hl⟩),rfl⟩));have U:=Px (fun n=>(b n).trans z9);clear b m)|(go_at_call 70;refine(Np _ w2.heap.size _ _ _ cs u (by exact A) (by exact p) (by exact ac) ag.out R P V.out HS).mono ?_;rintro e w8 ⟨rfl,z⟩))
    go_ret2
    exact⟨_,aG.out HS.out,C.trans (z.below H.size C.size),rfl⟩
theorem Ck(s:ByteArray)(w:World)(f:s.size<=9223372036854775807):
  Calls prog 33 #[.string s] w fun e d=>∃r,dZ s r/\nF r w e d:=by
 by_cases b:500<s.size
 ·exact(Fe s w b f).mono fun e d h=>⟨_,.long b,h⟩
 ·cases a:xa s.size s with
  |none=>exact(Jp s w (by omega) a).mono fun e d h=>⟨_,.lex b a,h⟩
  |some l=>
   cases c:uT l with
   |none=>exact(Ip s w (by omega) l a c).mono fun e d h=>⟨_,.parse b a c,h⟩
   |some i=>
    by_cases g:jt i=0
    ·exact Ju s w (by omega) l i a c g
    ·exact(J1 s w (by omega) l i a c g).mono fun e d h=>⟨_,.wrong b a c g,h⟩
end
section
open Go.Proofs.Tryz Go.RowKit
variable {s:ByteArray}
theorem OO:(prog.info? 40).map (fun i=>(i.zero,i.size,i.bytes))=some (some (.agg #[.pointer none,.pointer none]),2,16):=by kernel_rfl
theorem LS{k:Int}(h:uc s=.error k):(k != 0)=true:=by
 unfold uc at h;repeat'(split at h)
 all_goals first|(cases h;rfl)|cases h
theorem F3{k:Int}(h:uc s=.error k)(w:World)(a:s.size<=9223372036854775807):Calls prog 33 #[.string s] w fun e g=>e=.returned (.tuple #[.pointer none,.int .i64 k])/\Below w.heap.size w g:=
 (Ck s w a).mono fun _ _ ⟨r,d,c,f⟩=>by
  have b:=Eh d;rw[h] at b;simp only[rW] at b;subst b;exact⟨f,c⟩
def fd(lo:Nat)(w:World)(pb:Nat)(cs:List zc)(t:List zh):Prop:=lo<=pb/\∃b c a,Py w pb #[b,c,a] 45/\Qa lo 93 w b cs/\P7 lo w c (P2 t)/\w.ownsRow lo 3 1 a t.length ((t.map zh.qh).map Qb)
theorem OE{cs:List zc}{t:List zh}(h:uc s=.ok (cs,t))(w:World)(b:s.size<=9223372036854775807):Calls prog 33 #[.string s] w fun e d=>∃a,e=.returned (.tuple #[.pointer (some ⟨a,0,none⟩),.int .i64 0])/\fd w.heap.size d a cs t/\Below w.heap.size w d:=
 (Ck s w b).mono fun _ _ ⟨r,k,f,o⟩=>by
  have c:=Eh k;rw[h] at c;simp only[rW] at c;subst c;obtain⟨a,g,j,i,n,l,u,q,m,p⟩:=o;exact⟨a,n,⟨p,g,j,i,l,u,q,by simpa using m⟩,f⟩
theorem It{k:Int}(h:uc s=.error k)(w:World)(a:s.size<=9223372036854775807):Calls prog 32 #[.string s] w fun e c=>e=.returned (.tuple #[.pointer none,.int .i64 k])/\Below w.heap.size w c:=
 (B1 s w a).mono fun _ _ ⟨d,b⟩=>by rw[h] at b;exact⟨b,d⟩
theorem KP{cs:List zc}{t:List zh}(h:uc s=.ok (cs,t))(w:World)(b:s.size<=9223372036854775807):Calls prog 32 #[.string s] w fun e d=>∃a,e=.returned (.tuple #[.pointer (some ⟨a,0,none⟩),.int .i64 0])/\ki w.heap.size d a cs t/\Below w.heap.size w d:=
 (B1 s w b).mono fun _ _ ⟨i,c⟩=>by
  rw[h] at c;obtain⟨a,v,f,k,g,m,j,l⟩:=c;exact⟨a,k,⟨l,v,f,g,m,j⟩,i⟩
end
section
open Go.RowKit
theorem Nn(w:World)(a:List Value)(T:TypeId)(b:a.length<=1000):(w.alloc (.cells a.toArray T)).ownsRow w.heap.size T 1 (.slice (some ⟨w.heap.size,0,none⟩) a.length a.length) a.length a:=by
 refine⟨by simp,ze ⟨w.heap.size,a.length,a.toArray,rfl,zf _,?_,zf _,by unfold maxLen;omega,by simp,by simp⟩⟩;show(w.heap.push _)[w.heap.size]?=_;simp
end
end Go.Proofs.YteampbddflhngaaGreat
