import Derived.Laws.AppendOwnNone
import Derived.Test.YteampbddflhngaaGreatV22
namespace Go.Proofs.YteampbddflhngaaGreat
set_option linter.all false
set_option maxRecDepth 100000
set_option maxHeartbeats 2000000
open Go.Proofs.Tryz Go.RowKit
section
variable {lo:Nat}{o:Option (List zc)}
theorem Ie(w:World)(v:Value)(l:List ByteArray)(m:SV w v l)(i:∀y∈l,0<y.size)(r:l.length<=500)(h:jD l=none):
  Calls prog 107 #[v] w fun e k=>∃b p g n d c f a,e=.returned (.tuple #[.agg #[.bool b,.string p,.slice g n d,.slice c f a],.bool false])/\Below w.heap.size w k:=by
 refine(Ej w v l m i r).mono ?_;rintro e k ⟨q,j⟩;rw[h] at j;obtain⟨b,p,g,n,d,c,f,a,s⟩:=j;exact⟨b,p,g,n,d,c,f,a,s,q⟩
theorem Kl(w:World)(v:Value)(l:List ByteArray)(c:zc)(k:SV w v l)(i:∀y∈l,0<y.size)(n:l.length<=500)(h:jD l=some c):
  Calls prog 107 #[v] w fun e g=>∃f d,e=.returned (.tuple #[.agg #[.bool c.head.neg,.string c.head.pred,f,d],.bool true])/\Pg w.heap.size g f c.head.args/\PB w.heap.size g d c.body/\Below w.heap.size w g:=by
 refine(Ej w v l k i n).mono ?_;rintro e g ⟨m,j⟩;rw[h] at j;obtain⟨f,d,a,b,c⟩:=j;exact⟨f,d,a,b,c,m⟩
theorem O7:(prog.info? 93).map (fun i=>(i.zero,i.size,i.bytes))=some (some (.agg #[.bool false,.string ByteArray.empty,.slice none 0 0,.slice none 0 0]),4,72):=by kernel_rfl
def wF(o:Option (List zc))(w:World)(e:Ending)(b:World):Prop:=
 Below w.heap.size w b/\match o with
  |none=>∃d n a,e=.returned (.tuple #[.slice d n a,.bool false])
  |some c=>∃v,e=.returned (.tuple #[v,.bool true])/\PE w.heap.size 93 b v c
theorem DO{w b:World}{a:Option Addr}{n cap:Nat}(h:Hid (o=none))(d:Below w.heap.size w b):wF o w (.returned (.tuple #[.slice a n cap,.bool false])) b:=by
 have c:o=none:=h;subst c;exact⟨d,a,n,cap,rfl⟩
theorem MM{w a:World}{v:Value}{cs:List zc}(h:Hid (o=some cs))(d:Below w.heap.size w a)(c:PE w.heap.size 93 a v cs):wF o w (.returned (.tuple #[v,.bool true])) a:=by
 have b:o=some cs:=h;subst b;exact⟨d,v,rfl,c⟩
theorem eo(w:World)(v:Value)(l:List ByteArray)(R:SV w v l)(V:∀y∈l,0<y.size)(hl:l.length<=500):
  Calls prog 66 #[v] w fun e w'=>wF (uQ l) w e w':=by
 obtain⟨i0,hi,ab,X,Z⟩:=info_parts O7;obtain⟨i1,B,_,_,_⟩:=info_parts O4;obtain⟨ao,aq,rfl⟩:=R.qw;go_enter func66,ntmps66;go_wp2;go_loopw [4,5,6] (fun v4 v5 v6 wr=>∃(f:List zc) (d k m:Nat) (Q:List Value),v5=.int .i64 d/\v6=.int .i64 k/\d<=k/\m+k=l.length/\f.length<=k/\Below w.heap.size w wr/\wr.ownsRow w.heap.size 93 4 v4 f.length Q/\vS w.heap.size wr f Q/\Hid (uQ l=(qb l m d k).map (f++·))) (fun _ _ i _=>l.length-(intOf i).toNat)
 case atStart=>exact⟨[],0,0,l.length,[],rfl,rfl,zh _,rfl,by simp,zo _ _,yK _ _ _ _,rfl,(by simp[Hid,uQ])⟩
 case round=>
  obtain⟨f,d,k,m,Q,rfl,rfl,ar,au,ah,a,g,t,H⟩:=hrel;have ai:=a.size;by_cases C:k<l.length
  ·obtain⟨m,rfl⟩:∃m',m=m'+1:=⟨m-1,by omega⟩;obtain⟨b,o,rfl,O,D⟩:=R.cell k C;have aa:=zl a O D;have an:b<wr.heap.size:=by omega
   rw[xt C] at aa;clear D;cases s:((gB l k).toList == [46]) with
   |false=>
    have T:Hid (uQ l=(qb l m d (k+1)).map (f++·)):=by rw[Hid,H.out,qb,s];rfl
    clear H;generalize gB l k=x at *;go_wp2;go_roundw
    case rel=>exact⟨f,d,k+1,m,Q,rfl,by go_num,by omega,by omega,by omega,a,g,t,T⟩
    case measure=>simp[intOf];omega
   |true=>
    have N:Hid (∀y∈(l.drop d).take (k-d),0<y.size):=fun y hy=>V y (g4 (fD hy));cases A:jD ((l.drop d).take (k-d)) with
    |none=>
     have S:=OY A;have L:Hid (uQ l=none):=by rw[Hid,H.out,qb,s,zb rfl,A];rfl
     clear H A;generalize gB l k=x at *;go_wp2_with (first|(refine qN _ w rfl (.tmp 21) 30 9 (some (.tmp 22)) (some (.tmp 23)) rfl underlying30 i1 B OC _ l rfl R d k (ze rfl) (ze rfl) (by omega) (by omega) (k-d) rfl ?_;intro Y G z)|(go_at_call 107;refine(Ie _ _ ((l.drop d).take (k-d)) (by exact z.below a) N.out (by simp;omega) S).mono ?_;rintro e w1 ⟨b1,p1,am,n1,al,u,n3,n,rfl,h⟩;have p:=Pc a h;have E:=p.size))
     go_ret2
     exact DO L (by go_grown)
    |some c=>
     have S:=OY A;have T:Hid (uQ l=(qb l m (k+1) (k+1)).map ((f++[c])++·)):=by rw[Hid,H.out,qb,s,zb rfl,A];simp only[];rw[rg]
     clear H A;generalize gB l k=x at *;go_wp2_with (first|(refine qN _ w rfl (.tmp 21) 30 9 (some (.tmp 22)) (some (.tmp 23)) rfl underlying30 i1 B OC _ l rfl R d k (ze rfl) (ze rfl) (by omega) (by omega) (k-d) rfl ?_;intro Y G z)|(go_at_call 107;refine(Kl _ _ ((l.drop d).take (k-d)) c (by exact z.below a) N.out (by simp;omega) S).mono ?_;rintro e w1 ⟨va,vb,rfl,F,K,h⟩;obtain⟨u,n,rfl⟩:=F.qw;obtain⟨ap,aj,rfl⟩:=K.qw;have p:=Pc a h;have E:=p.size;have j:=zE g h;have J:=t.mono (fun _ _ q=>q.below h) (fun _ _ q=>q.below h))|(at_builtin;refine jY w1 _ _ _ rfl (.tmp 30) (.tmp 32) 43 rfl w.heap.size 93 i0 _ 4 72 underlying43 hi ab X Z rfl (by decide) _ _ _ rfl j zO _ _ rfl (by simp) rfl (by simp[Value.oneCell']) (by omega) (by omega) E ?_;intro v' w2 ae af ag ad r ak;clear ag ad;have ac:Pg w.heap.size w2 (Value.slice u c.head.args.length n) c.head.args:=yr (kM j (by decide) F r) a.size;have W:=(K.push j (by decide) (by decide) r).low a.size;have I:=J.mono (fun _ _ q=>kM j (by decide) q r) (fun _ _ q=>q.push j (by decide) (by decide) r)))
     go_roundw
     case rel=>exact⟨f++[c],k+1,k+1,m,_,by go_num,by go_num,zh _,by omega,by simp;omega,p.trans af,by rw[yz];exact ae,I.snoc ac W,T⟩
     case measure=>simp[intOf];omega
  ·have M:m=0:=by omega
   obtain⟨u,n,rfl⟩:=zq g;by_cases P:d=l.length
   ·have L:Hid (uQ l=some f):=by rw[Hid,H.out,M,qb,zb P];simp
    have U:((d:Int) == (l.length:Int))=true:=by rw[beq_iff_eq];omega
    clear H;go_wp2;go_ret2
    exact MM L a ⟨_,g,t⟩
   ·have L:Hid (uQ l=none):=by rw[Hid,H.out,M,qb,za P];rfl
    have U:((d:Int) == (l.length:Int))=false:=by rw[beq_eq_false_iff_ne];omega
    clear H;go_wp2;go_ret2
    exact DO L a
end
section
variable {lo:Nat}
theorem s5(w:World)(v:Value)(vs:List ByteArray)(t:ByteArray)(h:Pg lo w v vs)(p:vs.length<=1000):
  Calls prog 109 #[v,.string t] w fun e n=>e=.returned (.bool (yt t vs))/\n=w:=by
 obtain⟨o,m,rfl⟩:=h.qw;go_enter func109,ntmps109;go_wp2;go_loop [5] (fun i=>∃k:Nat,k<=vs.length/\i=.int .i64 k/\Hid (t∈vs↔t∈vs.drop k)) (fun i=>vs.length-(intOf i).toNat)
 case atStart=>exact⟨0,zv _,rfl,by simp[Hid]⟩
 case round=>
  obtain⟨k,r,rfl,H⟩:=hrel;by_cases a:k<vs.length
  ·obtain⟨g,rfl,q,l⟩:=h.cell k a;have d:=xg a;generalize vs[k]=x at *;have f:=OY d;by_cases c:x=t
   ·have j:=ka c;have b:Hid (t∈vs):=by rw[Hid,H.out,f.out,c];simp
    go_wp2;go_ret;exact⟨by rw[qS.2 b.out];rfl,rfl⟩
   ·have j:=qz c;have b:Hid (t∈vs↔t∈vs.drop (k+1)):=by rw[Hid,H.out,f.out];simp[Ne.symm c]
    go_wp2;go_round
    case rel=>exact⟨k+1,by omega,by go_num,b⟩
    case measure=>simp[intOf];omega
  ·have b:Hid (t∉vs):=by rw[Hid,H.out,ui (by omega)];simp
   go_wp2;go_ret;exact⟨by rw[rj.2 b.out];rfl,rfl⟩
theorem uA.one{w:World}:∀{b:List zj} {c:List Value},uA lo w b c->∀u∈c,u.oneCell'=true
 |[],_,h,u,a=>by simp only[uA] at h;subst h;cases a
 |_::b,_,h,u,a=>by
  obtain⟨v,r,rfl,e,d⟩:=h;obtain⟨g,f,rfl⟩:=e.qw;simp only[zw] at a;rcases a with rfl|rfl|rfl|a
  ·rfl
  ·rfl
  ·rfl
  ·exact uA.one d u a
structure dT (w:World) (g o:Nat) (c:zc) (ao:Option Addr) (cap:Nat) (aob:Option Addr) (capb:Nat):Prop where
 lt:g<w.heap.size
 c0:w.cell? ⟨g,o,none⟩=some (.bool c.head.neg)
 c1:w.cell? ⟨g,o+1,none⟩=some (.string c.head.pred)
 c2:w.cell? ⟨g,o+2,none⟩=some (.slice ao c.head.args.length cap)
 c3:w.cell? ⟨g,o+3,none⟩=some (.slice aob c.body.length capb)
 args:Pg 0 w (.slice ao c.head.args.length cap) c.head.args
 body:PB 0 w (.slice aob c.body.length capb) c.body
theorem dT.below{w f:World}{g o:Nat}{c:zc}{e:Option Addr}{cap:Nat}{d:Option Addr}{a:Nat}(h:dT w g o c e cap d a)(b:Below w.heap.size w f):dT f g o c e cap d a:=
 ⟨xo h.lt b.size,(b.cell (p:=⟨g,o,none⟩) h.lt).trans h.c0,(b.cell (p:=⟨g,o+1,none⟩) h.lt).trans h.c1,(b.cell (p:=⟨g,o+2,none⟩) h.lt).trans h.c2,(b.cell (p:=⟨g,o+3,none⟩) h.lt).trans h.c3,h.args.below b,h.body.below b⟩
theorem PE.at{T:TypeId}{w:World}{e:Option Addr}{n cap:Nat}{cs:List zc}(h:PE lo T w (.slice e n cap) cs)(k:Nat)(q:k<cs.length):∃g d b c a,e=some ⟨g,0,none⟩/\dT w g (k*4) cs[k] d b c a:=by
 obtain⟨g,d,b,c,a,p,l,r,j,f,o,i,m⟩:=h.cell k q;exact⟨g,d,b,c,a,p,l,r,j,f,o,i.low (zv _),m.low (zv _)⟩
theorem sI(w:World)(g o:Nat)(c:zc)(l:Option Addr)(cap:Nat)(L:Option Addr)(f:Nat)(h:dT w g o c l cap L f)(hl:c.body.length<=1000):
  Calls prog 68 #[.pointer (some ⟨g,o,none⟩)] w fun e m=>∃v,e=.returned v/\PB 0 m v (zm c)/\Below w.heap.size w m:=by
 obtain⟨P,Q,F,A,E⟩:=info_parts OR;have U:=h.lt;have h0:=h.c0;have h1:=h.c1;have h2:=h.c2;have h3:=h.c3;obtain⟨x,s,t⟩:=h.body;have d:=(zo w.heap.size w).alloc (zh _) (.cells #[.bool c.head.neg,.string c.head.pred,.slice l c.head.args.length cap] 90);have b:(w.alloc (.cells #[.bool c.head.neg,.string c.head.pred,.slice l c.head.args.length cap] 90)).ownsRow w.heap.size 90 3 (.slice (some ⟨w.heap.size,0,none⟩) 1 1) 1 [.bool c.head.neg,.string c.head.pred,.slice l c.head.args.length cap]:=
  ⟨rfl,ze ⟨w.heap.size,1,_,rfl,zh _,OZ.new w _ _,zh _,by unfold maxLen;omega,rfl,rfl⟩⟩
 have M:=s.1;have D:=uA.one t;have i:∀m,Below w.heap.size w m->uA 0 m (zm c) ([.bool c.head.neg,.string c.head.pred,.slice l c.head.args.length cap]++x):=fun m S=>⟨_,_,rfl,h.args.below S,t.mono fun _ _ q=>q.below S⟩;have a:=OY i;have r:=s;obtain⟨_,⟨n,hn⟩|⟨H,R,aa,n,W,O,V,Z,Y,T⟩⟩:=r
 ·simp at n;obtain⟨rfl,K,rfl⟩:=n;have z:x=[]:=pT (by omega);go_enter func68,ntmps68;go_wp2_with (first|(at_builtin;refine wpList_append_own_none rfl (.tmp 9) (.tmp 13) 91 rfl w.heap.size 90 P 3 underlying91 Q _ _ _ rfl b rfl ?_))
  go_ret;refine⟨_,rfl,⟨_,?_,a.out _ d⟩,d⟩;rw[z,qA];simpa [zm,K] using yr b (zv _)
 ·simp at n;obtain⟨rfl,_,rfl⟩:=n;have B:∀j u,x[j]?=some u->(w.alloc (.cells #[.bool c.head.neg,.string c.head.pred,.slice l c.head.args.length cap] 90)).cell? (Addr.add ⟨H,0,none⟩ j)=some u:=fun j u y=>by
   rw[Addr.add_lit,uL,d.cell (p:=⟨H,j,none⟩) (kD.1 O).1];unfold World.cell?;rw[O];simp;rw[←T,l9] at y;split at y
   ·simpa using y
   ·simp at y
  have J:=OY B;have C:=OY D;go_enter func68,ntmps68;go_wp2_with (first|(at_builtin;refine wpList_append_own _ rfl (.tmp 9) (.tmp 13) 91 rfl w.heap.size 90 P _ 3 48 underlying91 Q F A E rfl (by decide) _ _ _ rfl b ⟨H,0,none⟩ c.body.length f x rfl M J.out C.out (by unfold maxLen;omega) (by omega) (by simp) ?_;intro v' w2 I G _))
  go_ret;have N:=d.grown G (by simp) (fun k X=>by cases X;exact zh _);refine⟨_,rfl,⟨_,?_,a.out _ N⟩,N⟩;rw[show(zm c).length=1+c.body.length by simp[zm];omega];exact yr I (zv _)
def mS(qc first:Bool)(vs:List ByteArray)(l:zj):List ByteArray:=if qc&&(first||l.neg) then vs else xp vs l.args
def qH(qc:Bool)(a:List zj):Nat->List ByteArray
 |0=>[]
 |k+1=>match a[k]? with
  |none=>qH qc a k
  |some l=>mS qc (k == 0) (qH qc a k) l
theorem rD(qc:Bool)(a:List zj)(k:Nat)(b:k<a.length):qH qc a (k+1)=mS qc (k == 0) (qH qc a k) a[k]:=by
 rw[qH,yq b]
theorem J5(qc first:Bool)(vs:List ByteArray)(l:zj):(mS qc first vs l).length<=vs.length+l.args.length:=by
 unfold mS;split
 ·omega
 ·exact mA l.args vs
theorem C4(qc:Bool)(a:List zj):∀k,k<=a.length->(qH qc a k).length<=xi (a.take k)
 |0,_=>by simp[qH]
 |k+1,d=>by
  rw[rD qc a k (by omega),yM (by omega),Jt];have c:=C4 qc a k (by omega);have b:=J5 qc (k == 0) (qH qc a k) a[k];omega
theorem K2(c:zc):qH false (zm c) (zm c).length=xU c:=by
 have a:∀k,k<=c.body.length->qH false (zm c) (k+1)=(c.body.take k).foldl kt (xp [] c.head.args):=by
  intro k;induction k with
  |zero=>intro _;rfl
  |succ k b=>
   intro d;rw[rD _ _ _ (by simp[zm];omega),b (by omega),yM (by omega),ju];rfl
 have:=a c.body.length (zh _);rw[uO] at this;exact this
theorem Hq(c:zc):qH true (zm c) (zm c).length=zy c:=by
 have a:∀k,k<=c.body.length->qH true (zm c) (k+1)=(c.body.take k).foldl vx []:=by
  intro k;induction k with
  |zero=>intro _;rfl
  |succ k b=>
   intro d;rw[rD _ _ _ (by simp[zm];omega),b (by omega),yM (by omega),ju];simp only[uv,List.foldl_nil,mS,vx,zm,mC];simp
 have:=a c.body.length (zh _);rw[uO] at this;exact this
theorem A6(w:World)(qc:Bool)(g o:Nat)(c:zc)(ao:Option Addr)(cap:Nat)(L:Option Addr)(B:Nat)(h:dT w g o c ao cap L B)(hl:c.body.length<=999)(ar:xi (zm c)<=1000)(hz:∀l∈zm c,∀t∈l.args,0<t.size):
  Calls prog 108 #[.pointer (some ⟨g,o,none⟩),.bool qc] w fun e A=>∃v,e=.returned v/\Pg w.heap.size A v (qH qc (zm c) (zm c).length)/\Below w.heap.size w A:=by
 obtain⟨i0,hi,ae,ac,ai⟩:=info_parts O4;have ay:(zm c).length<=1000:=by simp[zm];omega
 have HZ:=OY hz;have S:=sI w g o c ao cap L B h (by omega);clear hz;generalize zm c=p at *;go_enter func108,ntmps108;go_wp2_with (first|(go_at_call 68;refine S.mono ?_;rintro e J ⟨lv,rfl,C,T⟩;obtain⟨aw,au,rfl⟩:=C.qw;clear S))
 go_loopw [5,7] (fun X v7 wr=>∃k:Nat,k<=p.length/\v7=.int .i64 k/\Below J.heap.size J wr/\wr.ownsRow J.heap.size 9 1 X (qH qc p k).length ((qH qc p k).map Value.string)) (fun _ i _=>p.length-(intOf i).toNat)
 case atStart=>exact⟨0,zv _,rfl,zo _ _,yK _ _ _ _⟩
 case round=>
  obtain⟨k,hk,rfl,n,b⟩:=hrel;have K:=n.size;by_cases z:k<p.length
  ·obtain⟨gl,ax,an,rfl,E,P,ah,u,aj⟩:=C.cell k z;have G:=zl n E P;have R:=zl n E u;have aa:gl<wr.heap.size:=by omega
   have s:=rD qc p k z;have a1:=C4 qc p k (by omega);have O:=pq p k z;rw[yq z] at O;simp only[jZ,uo] at O;have Y:=OY (HZ.out _ (zu z));generalize p[k]=a at *;generalize am:qH qc p k=vs at *;have W:=OY s;clear s am P ah;by_cases d:(qc&&((k == 0)||a.neg))=true
   ·have V:Hid (qH qc p (k+1)=vs):=by rw[Hid,W.out,mS,d];rfl
    simp only[uZ,dN,beq_iff_eq] at d;obtain⟨rfl,d⟩:=d;clear W u;by_cases M:k=0
    ·subst M;go_wp2;go_roundw
     case rel=>exact⟨0+1,by omega,by go_num,n,by rw[V.out];exact b⟩
     case measure=>simp[intOf];omega
    ·have ab:((k:Int) == 0)=false:=by rw[beq_eq_false_iff_ne];omega
     have r:=d.resolve_left M;rw[r] at G;go_wp2;go_roundw
     case rel=>exact⟨k+1,by omega,by go_num,n,by rw[V.out];exact b⟩
     case measure=>simp[intOf];omega
   ·have V:Hid (qH qc p (k+1)=xp vs a.args):=by rw[Hid,W.out,mS,za d]
    clear W;have U:qc=false∨(qc=true/\((k:Int) == 0)=false/\a.neg=false):=by
     cases qc with
     |false=>exact zf rfl
     |true=>
      right;simp only[ml,dN,beq_iff_eq,not_or,nE] at d;exact⟨rfl,by rw[beq_eq_false_iff_ne];omega,d.2⟩
    clear d;rcases U with rfl|⟨rfl,ab,r⟩
    all_goals
     (try rw[r] at G)
     go_wp2;go_loopw [5,8] (fun X v8 wj=>∃j:Nat,j<=a.args.length/\v8=.int .i64 j/\Below J.heap.size J wj/\wj.ownsRow J.heap.size 9 1 X (xp vs (a.args.take j)).length ((xp vs (a.args.take j)).map Value.string)) (fun _ i _=>a.args.length-(intOf i).toNat)
     case atStart=>exact⟨0,zv _,rfl,n,b⟩
     case round=>
      clear G R b n K aa;obtain⟨j,hj,rfl,m,b⟩:=hrel;have av:=m.size;have R:=zl m E u;have az:gl<wr.heap.size:=by omega
      by_cases H:j<a.args.length
      ·obtain⟨ga,rfl,ag,N⟩:=aj.cell j H;have a2:=zl m ag N;have ap:ga<wr.heap.size:=by omega
       have F:=Y.out _ (zu H);have s:=Dg vs a.args j H;have Z:=mA (a.args.take j) vs;have Q:(a.args.take j).length=j:=by simp;omega
       rw[Q] at Z;clear N Q;generalize a.args[j]=D at *;generalize xp vs (a.args.take j)=I at *;have q:=OY s;clear s;have y:zV D=vE (Pi D 0):=rfl;cases hT:vE (Pi D 0) with
       |false=>
        have x:Hid (xp vs (a.args.take (j+1))=I):=by rw[Hid,q.out,AG (by rw[y,hT])]
        clear q y;go_wp2_with (first|(go_at_call 154;refine(tB _ _ F).mono ?_;rintro e A ⟨rfl,f⟩;obtain rfl:=f.symm)|(go_at_call 109;refine(s5 _ _ I D b (by omega)).mono ?_;rintro e A ⟨rfl,f⟩;obtain rfl:=f.symm))
        go_roundw
        case rel=>exact⟨j+1,by omega,by go_num,m,by rw[x.out];exact b⟩
        case measure=>simp[intOf];omega
       |true=>
        cases hM:yt D I with
        |true=>
         have x:Hid (xp vs (a.args.take (j+1))=I):=by rw[Hid,q.out,oS hM]
         clear q y;go_wp2_with (first|(go_at_call 154;refine(tB _ _ F).mono ?_;rintro e A ⟨rfl,f⟩;obtain rfl:=f.symm)|(go_at_call 109;refine(s5 _ _ I D b (by omega)).mono ?_;rintro e A ⟨rfl,f⟩;obtain rfl:=f.symm))
         go_roundw
         case rel=>exact⟨j+1,by omega,by go_num,m,by rw[x.out];exact b⟩
         case measure=>simp[intOf];omega
        |false=>
         have x:Hid (xp vs (a.args.take (j+1))=I++[D]):=by rw[Hid,q.out,DV (by rw[y,hT]) hM]
         clear q y;go_wp2_with (first|(go_at_call 154;refine(tB _ _ F).mono ?_;rintro e A ⟨rfl,f⟩;obtain rfl:=f.symm)|(go_at_call 109;refine(s5 _ _ I D b (by omega)).mono ?_;rintro e A ⟨rfl,f⟩;obtain rfl:=f.symm)|(at_builtin;refine jY _ _ _ _ rfl (.tmp 65) (.tmp 74) 30 rfl J.heap.size 9 i0 _ 1 16 underlying30 hi ae ac ai rfl (by decide) _ _ _ rfl b (zo _ _) _ _ rfl (by simp) rfl (by simp[Value.oneCell']) (by omega) (by omega) m.size ?_;intro v' w2 af al u ak a0 aq;clear u ak))
         go_roundw
         case rel=>exact⟨j+1,by omega,by go_num,m.trans al,by rw[x.out];simpa using af⟩
         case measure=>simp[intOf];omega
      ·have hE:a.args.take j=a.args:=xk (by omega);rw[hE] at b;clear hE;go_wp2;go_roundw
       case rel=>exact⟨k+1,by omega,by go_num,m,by rw[V.out];exact b⟩
       case measure=>simp[intOf];omega
  ·have ad:k=p.length:=by omega
   subst ad;go_wp2;go_ret;exact⟨_,rfl,yr b T.size,Pc T n⟩
def qV(x l:zj):Bool:=decide (l.pred=x.pred)&&decide (l.args.length≠x.args.length)
def j7(cs:List zc)(x:zj):Bool:=(cs.flatMap zm).any (qV x)
theorem JD(cs:List zc)(k:Nat)(a:k<cs.length):(cs.drop k).flatMap zm=zm cs[k]++(cs.drop (k+1)).flatMap zm:=by rw[xg a,us]
theorem KP(w:World)(pb:Nat)(cv v1 v2:Value)(cs:List zc)(x:zj)(va:Value)(hp:OZ w pb #[cv,v1,v2] 45)(G:PE lo 93 w cv cs)(B:∀c∈cs,vD c)(hl:cs.length<=1000){P:Nat}(hs:Pg P w va x.args):
  Calls prog 110 #[.pointer (some ⟨pb,0,none⟩),.agg #[.bool x.neg,.string x.pred,va]] w fun e w'=>e=.returned (.bool (j7 cs x))/\Below w.heap.size w w':=by
 obtain⟨ao,U,rfl⟩:=G.qw;obtain⟨W,z,rfl⟩:=hs.qw;have O:=OY B;clear B;go_enter func110,ntmps110;go_wp2;go_loopw [5] (fun i wr=>∃k:Nat,k<=cs.length/\i=.int .i64 k/\Below w.heap.size w wr/\OZ wr w.heap.size #[.bool x.neg,.string x.pred,.slice W x.args.length z] 90/\OZ wr pb #[.slice ao cs.length U,v1,v2] 45/\Hid (j7 cs x=((cs.drop k).flatMap zm).any (qV x))) (fun i _=>cs.length-(intOf i).toNat)
 case atStart=>exact⟨0,zv _,rfl,(by go_grown),OZ.new _ _ _,hp.below (by go_grown),rfl⟩
 case round=>
  obtain⟨k,hk,rfl,m,K,C,H⟩:=hrel;obtain⟨N,M⟩:=C.rules;have Z:=m.size;by_cases q:k<cs.length
  ·obtain⟨g,ag,Y,ah,ad,rfl,V⟩:=G.at k q;obtain⟨ap,aq⟩:=O.out _ (zu q);have y:=JD cs k q;generalize cs[k]=c at *;generalize X:(cs.drop (k+1)).flatMap zm=rest at *;have HR:=OY X;have H1:Hid (j7 cs x=(zm c++rest).any (qV x)):=by rw[Hid,H.out,y]
   clear X H y;have ak:(zm c).length<=1001:=by simp[zm];omega
   go_wp2_with (first|(go_at_call 68;refine(sI _ g (k*4) c _ _ _ _ (by exact V.below m) (by omega)).mono ?_;rintro e w1 ⟨lv,rfl,o,r⟩;obtain⟨af,ab,rfl⟩:=o.qw;have v:=Pc m r;have u:=K.below r;have s:=C.below r))
   generalize R:zm c=n at *;clear R;go_loopw [7] (fun i wj=>∃j:Nat,j<=n.length/\i=.int .i64 j/\Below w1.heap.size w1 wj/\Hid (j7 cs x=(n.drop j++rest).any (qV x))) (fun i _=>n.length-(intOf i).toNat)
   case atStart=>exact⟨0,zv _,rfl,zo _ _,H1⟩
   case round=>
    clear N M;obtain⟨j,hj,rfl,b,I⟩:=hrel;have ac:=b.size;have p:=u.below b;obtain⟨aj,am⟩:=p.rules;by_cases E:j<n.length
    ·obtain⟨gl,ai,aa,rfl,t,Q,F,A,T⟩:=o.cell j E;have al:=zl b t F;have ae:=zl b t A;have an:gl<wr.heap.size:=by omega
     have D:=xg E;clear Q F A T;generalize n[j]=a at *;have f:Hid (j7 cs x=(qV x a||(n.drop (j+1)++rest).any (qV x))):=by rw[Hid,I.out,D];rfl
     clear D I;by_cases d:a.pred=x.pred
     ·have L:=ka d;by_cases l:a.args.length=x.args.length
      ·have h:Hid (j7 cs x=(n.drop (j+1)++rest).any (qV x)):=by rw[Hid,f.out,qV];simp[l]
       have S:((a.args.length:Int) == (x.args.length:Int))=true:=by rw[beq_iff_eq];omega
       clear f d l;generalize a.args.length=na at *;generalize a.pred=pa at *;go_wp2;go_quiet (fail)
       go_wp2;go_roundw
       case rel=>exact⟨j+1,by omega,by go_num,zI b _,h⟩
       case measure=>simp[intOf];omega
      ·have h:Hid (j7 cs x=true):=by rw[Hid,f.out,qV];simp[d,l]
       have S:((a.args.length:Int) == (x.args.length:Int))=false:=by rw[beq_eq_false_iff_ne];omega
       clear f d l;generalize a.args.length=na at *;generalize a.pred=pa at *;go_wp2;go_quiet (fail)
       go_wp2;go_ret;exact⟨by rw[h.out];rfl,zI (Pc v b) _⟩
     ·have L:=qz d;have h:Hid (j7 cs x=(n.drop (j+1)++rest).any (qV x)):=by rw[Hid,f.out,qV];simp[d]
      clear f d;generalize a.pred=pa at *;go_wp2;go_quiet (fail)
      go_wp2;go_roundw
      case rel=>exact⟨j+1,by omega,by go_num,zI b _,h⟩
      case measure=>simp[intOf];omega
    ·have J:Hid (j7 cs x=((cs.drop (k+1)).flatMap zm).any (qV x)):=by rw[Hid,I.out,ui (by omega),HR.out];rfl
     clear I;go_wp2;go_roundw
     case rel=>exact⟨k+1,by omega,by go_num,Pc v b,p,s.below b,J⟩
     case measure=>simp[intOf];omega
  ·have J:Hid (j7 cs x=false):=by rw[Hid,H.out,ui (by omega)];rfl
   clear H;go_wp2;go_ret;exact⟨by rw[J.out];rfl,m⟩
theorem mv(w:World)(pb:Nat)(c0 d j:Value)(l:List ByteArray)(n:ByteArray)(h:OZ w pb #[c0,d,j] 45)(f:Pg lo w d l)(s:l.length<=1000):
  Calls prog 111 #[.pointer (some ⟨pb,0,none⟩),.string n] w fun e q=>e=.returned (.int .i64 (dO l n))/\q=w:=by
 obtain⟨u,v⟩:=h.rules;obtain⟨r,p,rfl⟩:=f.qw;go_enter func111,ntmps111;go_wp2;go_loop [5] (fun i=>∃k:Nat,k<=l.length/\i=.int .i64 k/\Hid (yu l n=(yu (l.drop k) n).map (·+k))) (fun i=>l.length-(intOf i).toNat)
 case atStart=>exact⟨0,zv _,rfl,by simp[Hid]⟩
 case round=>
  obtain⟨k,x,rfl,H⟩:=hrel;by_cases a:k<l.length
  ·obtain⟨g,rfl,t,o⟩:=f.cell k a;by_cases c:l[k]=n
   ·have m:=ka c;have b:Hid (dO l n=(k:Int)):=by unfold Hid dO;rw[H.out,eG a c];simp
    go_wp2;go_ret;exact⟨by rw[b.out];rfl,rfl⟩
   ·have m:=qz c;have b:Hid (yu l n=(yu (l.drop (k+1)) n).map (·+(k+1))):=by
     rw[Hid,H.out,wt a c];cases yu (l.drop (k+1)) n<;>simp;omega
    go_wp2;go_round
    case rel=>exact⟨k+1,by omega,by go_num,b⟩
    case measure=>simp[intOf];omega
  ·have b:Hid (dO l n=-1):=by unfold Hid dO;rw[H.out,ui (by omega)];rfl
   go_wp2;go_ret;exact⟨by rw[b.out];rfl,rfl⟩
end
end Go.Proofs.YteampbddflhngaaGreat
