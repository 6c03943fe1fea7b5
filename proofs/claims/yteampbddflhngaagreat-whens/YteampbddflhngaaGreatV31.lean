import Derived.Laws.Cover3
import Derived.Test.YteampbddflhngaaGreatV16
import Derived.Test.YteampbddflhngaaGreatV17
import Derived.Test.YteampbddflhngaaGreatV28
namespace Go.Proofs.YteampbddflhngaaGreat
set_option linter.all false
set_option maxRecDepth 100000
set_option maxHeartbeats 4000000
open Go.RowKit
section
open Go.Proofs.Tryz
variable {lo:Nat}{l:List Pd}
theorem Nm:∀{ts:List ByteArray} {l:List Pd},dB ts l->∀t∈ts,∃y∈l,y.2=t:=by
 intro ts l h;induction h with
 |one=>intro t a;simp at a;exact⟨_,rq,a.symm⟩
 |more _ _ _ c=>
  intro t a;rcases zw.1 a with rfl|a
  ·exact⟨_,rq,rfl⟩
  ·obtain⟨y,b,e⟩:=c t a;exact⟨y,by simp[b],e⟩
theorem sP{a:zj}(h:qq a l):∀t∈a.args,∃y∈l,y.2=t:=by
 cases h with
 |bare=>intro t b;cases b
 |args _ _ d _=>intro t b;obtain⟨y,c,e⟩:=Nm d t b;exact⟨y,by simp[c],e⟩
theorem AP{a:zj}(h:kT a l):∀t∈a.args,∃y∈l,y.2=t:=by
 cases h with
 |qc h=>exact sP h
 |neg _ h=>intro t c;obtain⟨y,b,e⟩:=sP h t c;exact⟨y,by simp[b],e⟩
theorem Iu:∀{b:List zj} {l:List Pd},gu b l->∀a∈b,∀t∈a.args,∃y∈l,y.2=t:=by
 intro b l h;induction h with
 |one h=>intro a c;simp at c;subst c;exact AP h
 |more h _ _ g=>
  intro a c t f;rcases zw.1 c with rfl|c
  ·obtain⟨y,d,e⟩:=AP h t f;exact⟨y,by simp[d],e⟩
  ·obtain⟨y,d,e⟩:=g a c t f;exact⟨y,by simp[d],e⟩
theorem MW{c:zc}(h:dA c l):∀a∈zm c,∀t∈a.args,∃y∈l,y.2=t:=by
 cases h with
 |fact h=>intro a b;simp[zm] at b;subst b;exact sP h
 |rule h _ g=>
  intro a b t f;simp only[zm] at b;rcases zw.1 b with rfl|b
  ·obtain⟨y,d,e⟩:=sP h t f;exact⟨y,by simp[d],e⟩
  ·obtain⟨y,d,e⟩:=Iu g a b t f;exact⟨y,by simp[d],e⟩
theorem Di:∀{cs:List zc} {l:List Pd},dK cs l->∀c∈cs,∀a∈zm c,∀t∈a.args,∃y∈l,y.2=t:=by
 intro cs l h;induction h with
 |nil=>intro c b;cases b
 |cons h _ _ i=>
  intro c b a f t g;rcases zw.1 b with rfl|b
  ·obtain⟨y,d,e⟩:=MW h a f t g;exact⟨y,by simp[d],e⟩
  ·obtain⟨y,d,e⟩:=i c b a f t g;exact⟨y,by simp[d],e⟩
structure FN (cs:List zc):Prop where
 ok:∀c∈cs,vD c/\c.body.length<=999/\xi (zm c)<=1000/\∀l∈zm c,∀t∈l.args,0<t.size
 len:cs.length<=1000
 lits:(cs.flatMap zm).length<=1000
theorem sZ{s:ByteArray}{l:List ByteArray}(e:s.size<=500)(h:xh s.size s=some l):∃b,Pl s=some b/\l=zQ b/\l.length<=500/\∀y∈l,0<y.size:=by
 rw[pQ] at h;cases a:Pl s with
 |none=>rw[a] at h;cases h
 |some b=>
  rw[a] at h;simp only[jZ,zs] at h;subst h;refine⟨b,rfl,rfl,?_,?_⟩
  ·have:=sB a;simp;omega
  ·intro y c;obtain⟨x,d,rfl⟩:=zB.1 c;exact(pj a x d).2
theorem o4{s:ByteArray}{l:List ByteArray}{cs:List zc}(r:s.size<=500)(h:xh s.size s=some l)(j:uQ l=some cs):FN cs:=by
 obtain⟨e,b,rfl,v,w⟩:=sZ r h;have d:xV e:=fun x m=>(pj b x m).1;have n:=(iV d cs).1 j;have g:yH e.length e.length e=some cs:=by
  have:=ey s;rw[h,b] at this;simp only[Option.bind_some] at this;rw[←this];exact j
 have z:=sN g;have q:e.length<=500:=by simpa [zQ] using v
 have i:=iu (cs:=cs) (by omega);refine⟨fun c f=>⟨i c f,?_,?_,?_⟩,by have:=o5 cs;omega,by have:=oh cs;omega⟩
 ·have b:=wO f;have o:=r8 c.body;unfold QD kx at b;omega
 ·have b:=wO f;have o:=r8 c.body;unfold QD kx at b;simp only[zm,xi] at *;simp;omega
 ·intro a p t u;obtain⟨y,k,rfl⟩:=Di n c f a p t u;exact(pj b y k).2
def nR(r:Except Int (List zc×List ByteArray×List Nat))(w:World)(e:Ending)(a:World):Prop:=
 Below w.heap.size w a/\match r with
  |.error n=>e=.returned (.tuple #[.pointer none,.int .i64 n])
  |.ok (i,h,c)=>∃b g d f,e=.returned (.tuple #[.pointer (some ⟨b,0,none⟩),.int .i64 0])/\OZ a b #[g,d,f] 45/\PE w.heap.size 93 a g i/\Pg w.heap.size a d h/\a.ownsRow w.heap.size 3 1 f c.length (c.map PF)/\w.heap.size<=b
theorem Ft(s:ByteArray)(w:World)(c:500<s.size)(a:s.size<=9223372036854775807):
  Calls prog 33 #[.string s] w fun e b=>nR (.error 1) w e b:=by
 go_enter func33,ntmps33;go_wp2;go_ret2
 exact⟨zo _ _,rfl⟩
theorem Lb(s:ByteArray)(w:World)(d:s.size<=500)(h:xh s.size s=none):
  Calls prog 33 #[.string s] w fun e b=>nR (.error 2) w e b:=by
 have c:Hid (∀W,Calls prog 65 #[.string s] W fun e b=>Below W.heap.size W b/\e=.returned (.tuple #[.slice none 0 0,.bool false])):=fun W=>by have:=su s W d;rw[h] at this;exact this
 clear h;go_enter func33,ntmps33;go_wp2_with (first|(go_at_call 65;refine(c.out _).mono ?_;rintro e f ⟨a,rfl⟩;clear c))
 go_ret2
 exact⟨a,rfl⟩
theorem Fc(s:ByteArray)(w:World)(d:s.size<=500)(l:List ByteArray)(h:xh s.size s=some l)(j:uQ l=none):
  Calls prog 33 #[.string s] w fun e p=>nR (.error 3) w e p:=by
 obtain⟨_,_,_,o,k⟩:=sZ d h;have g:=OY fun W=>by have:=su s W d;rw[h] at this;exact this
 have f:=OY fun W v m=>by have:=eo W v l m k o;rw[j] at this;exact this
 go_enter func33,ntmps33;go_wp2_with (first|(go_at_call 65;refine(g.out _).mono ?_;rintro e r ⟨b,t,rfl,a⟩;clear g)|(go_at_call 66;refine(f.out _ _ (SV.of a)).mono ?_;rintro e q ⟨c,u,n,i,rfl⟩;clear f))
 go_ret2
 exact⟨Pc b c,rfl⟩
theorem Ja(s:ByteArray)(w:World)(u:s.size<=500)(l:List ByteArray)(cs:List zc)(h:xh s.size s=some l)(B:uQ l=some cs)(J:qZ cs≠0):
  Calls prog 33 #[.string s] w fun e q=>nR (.error (qZ cs)) w e q:=by
 obtain⟨_,_,_,I,E⟩:=sZ u h;have d:=o4 u h B;have f:=d.len;have C:=OY fun W=>by have:=su s W u;rw[h] at this;exact this
 have z:=OY fun W v F=>by have:=eo W v l F E I;rw[B] at this;exact this
 have j:Hid (∀lo W k o n m,OZ W k #[o,n,m] 45->PE lo 93 W o cs->Calls prog 67 #[.pointer (some ⟨k,0,none⟩)] W fun e q=>e=.returned (.int .i64 (qZ cs))/\Below W.heap.size W q):=fun _ W k o n m H G=>Cs W k o n m cs H G d.ok f;go_enter func33,ntmps33;go_wp2_with (first|(go_at_call 65;refine(C.out _).mono ?_;rintro e L ⟨t,n,rfl,x⟩;clear C)|(go_at_call 66;refine(z.out _ _ (SV.of x)).mono ?_;rintro e D ⟨y,m,rfl,a⟩;obtain⟨i,b,rfl⟩:=a.qw;have g:=Pc t y;clear z)|(go_at_call 67;refine(j.out _ _ _ _ _ _ (OZ.new _ _ _) (by exact a.below (by repeat'(first|with_reducible(first|apply zR|assumption|apply zN|apply zA|apply zD|apply zS)|go_size)))).mono ?_;rintro e K ⟨rfl,c⟩;have A:=(OZ.new D #[.slice i cs.length b,.slice none 0 0,.slice none 0 0] 45).below c;have p:=(a.below ((zo _ _).alloc (zh _) (.cells #[.slice i cs.length b,.slice none 0 0,.slice none 0 0] 45))).below c;have r:=Pc (g.alloc g.size _) c;clear j))
 go_ret2
 exact⟨r,rfl⟩
theorem N7(w:World)(pb:Nat)(d b p:Value)(cs:List zc)(ps:List ByteArray)(y:OZ w pb #[d,b,p] 45)(i:PE lo 93 w d cs){j:Nat}(n:Pg j w b ps)(m:∀c∈cs,vD c/\c.body.length<=999)(t:cs.length<=1000)(g:ps.length<=1000)(k:∀c∈cs,∀l∈zm c,l.pred∈ps)(r:Hid (∃f,PW cs f)):
  Calls prog 70 #[.pointer (some ⟨pb,0,none⟩)] w fun e o=>∃a,e=.returned (.bool true)/\Pm pb w o/\Q7 w pb d b cs ps a o/\PH cs (vm ps a):=
 (Ax w pb d b p cs ps y i n m t g k).mono fun _ _ ⟨v,u⟩=>u.elim (fun h=>zC r.out h.2) fun⟨a,x,s,q⟩=>⟨a,x,v,s,q⟩
theorem Ma(w:World)(pb:Nat)(j g n:Value)(cs:List zc)(ps:List ByteArray)(p:OZ w pb #[j,g,n] 45)(b:PE lo 93 w j cs){i:Nat}(k:Pg i w g ps)(a:∀c∈cs,vD c/\c.body.length<=999)(t:cs.length<=1000)(m:ps.length<=1000)(d:∀c∈cs,∀l∈zm c,l.pred∈ps)(r:Hid (¬∃f,PW cs f)):
  Calls prog 70 #[.pointer (some ⟨pb,0,none⟩)] w fun e u=>e=.returned (.bool false)/\Pm pb w u:=
 (Ax w pb j g n cs ps p b k a t m d).mono fun _ _ ⟨s,q⟩=>q.elim (fun h=>⟨h.1,s⟩) fun⟨_,_,_,o⟩=>zC ⟨_,o.1⟩ r.out
theorem G0(cs:List zc)(k:Nat)(a:k<cs.length):(cs.take (k+1)).flatMap zm=(cs.take k).flatMap zm++zm cs[k]:=by rw[yM a,List.flatMap_append];simp
theorem Mj(s:ByteArray)(w:World)(hs:s.size<=500)(l:List ByteArray)(cs:List zc)(h:xh s.size s=some l)(hp:uQ l=some cs)(hx:qZ cs=0):
  Calls prog 33 #[.string s] w fun e Z=>∃r,dQ s r/\nR r w e Z:=by
 obtain⟨_,_,_,h3,h4⟩:=sZ hs h;have aa:=o4 hs h hp;have T:=aa.len;have Y:=OY aa;have HW:Hid (∀W,Calls prog 65 #[.string s] W fun e Z=>Below W.heap.size W Z/\∃v,e=.returned (.tuple #[v,.bool true])/\Z.ownsRow W.heap.size 9 1 v l.length (l.map Value.string)):=fun W=>by have:=su s W hs;rw[h] at this;exact this
 have HC:Hid (∀W v,SV W v l->Calls prog 66 #[v] W fun e Z=>Below W.heap.size W Z/\∃v,e=.returned (.tuple #[v,.bool true])/\PE W.heap.size 93 Z v cs):=fun W v hv=>by have:=eo W v l hv h4 h3;rw[hp] at this;exact this
 have aF:Hid (∀lo W pb cv v1 v2,OZ W pb #[cv,v1,v2] 45->PE lo 93 W cv cs->Calls prog 67 #[.pointer (some ⟨pb,0,none⟩)] W fun e Z=>e=.returned (.int .i64 0)/\Below W.heap.size W Z):=fun _ W pb cv v1 v2 h1 h2=>by rw[←hx];exact Cs W pb cv v1 v2 cs h1 h2 aa.ok T
 have ba:Hid ((¬∃f,PW cs f)->dQ s (.error 7)):=fun hn=>.strata (by omega) h hp hx hn;have aw:Hid (∀t sv,y5 t->(∀n,n∈t↔∃x∈cs.flatMap zm,x.pred=n)->sv.length=t.length->PH cs (vm t sv)->dQ s (.ok (cs,t,sv))):=fun t sv h1 h2 h3 h4=>.ok (by omega) h hp hx h1 h2 h3 h4;obtain⟨i0,hi,aV,aT,aY⟩:=info_parts O4;clear h hp h4 aa hx;go_enter func33,ntmps33;go_wp2_with (first|(go_at_call 65;refine(HW.out _).mono ?_;rintro e w1 ⟨aA,v1,rfl,aN⟩;clear HW)|(go_at_call 66;refine(HC.out _ _ (SV.of aN)).mono ?_;rintro e w2 ⟨aR,v2,rfl,U⟩;obtain⟨a7,ae,rfl⟩:=U.qw;have J:=Pc aA aR;clear HC)|(go_at_call 67;refine(aF.out _ _ _ _ _ _ (OZ.new _ _ _) (by exact U.below (by repeat'(first|with_reducible(first|apply zR|assumption|apply zN|apply zA|apply zD|apply zS)|go_size)))).mono ?_;rintro e w3 ⟨rfl,ap⟩;have av:=(OZ.new w2 #[.slice a7 cs.length ae,.slice none 0 0,.slice none 0 0] 45).below ap;have Q:=(U.below ((zo _ _).alloc (zh _) (.cells #[.slice a7 cs.length ae,.slice none 0 0,.slice none 0 0] 45))).below ap;have an:=Pc (J.alloc J.size _) ap;clear aF))
 go_loopw [9,10] (fun v8 v9 wr=>∃k:Nat,k<=cs.length/\v9=.int .i64 k/\Below w3.heap.size w3 wr/\wr.ownsRow w3.heap.size 9 1 v8 ((cs.take k).flatMap zm).length (((cs.take k).flatMap zm).map fun x=>Value.string x.pred)) (fun _ i _=>cs.length-(intOf i).toNat)
 case atStart=>exact⟨0,zv _,rfl,zo _ _,yK _ _ _ _⟩
 case round=>
  obtain⟨k,hk,rfl,H,E⟩:=hrel;by_cases ao:k<cs.length
  ·obtain⟨g,bh,bc,bi,bf,rfl,ag⟩:=Q.at k ao;have aZ:=ag.below H;obtain⟨bs,bt,_,_⟩:=Y.out.ok _ (zu ao);have aq:=G0 cs k ao;have ar:=OY aq;have bp:((cs.take k).flatMap zm).length+(zm cs[k]).length<=1000:=by
    have h1:((cs.take (k+1)).flatMap zm).length<=(cs.flatMap zm).length:=by
     conv=>rhs;rw[←qO (k+1) cs,List.flatMap_append,yz]
     omega
    have h2:=Y.out.lits;rw[aq,yz] at h1;omega
   clear aq ag;generalize cs[k]=c at *;obtain⟨bv,bd,rfl⟩:=zq E;have bm:(zm c).length<=1000:=by omega
   generalize (cs.take k).flatMap zm=A at *;generalize a5:zm c=y at *;have aL:=OY a5;clear a5;obtain⟨w4,rfl⟩:∃w4,w4=wr:=⟨wr,rfl⟩;go_wp2_with (first|(go_at_call 68;refine(sI _ g (k*4) c _ _ _ _ aZ (by omega)).mono ?_;rintro e w5 ⟨lv,rfl,N,aB⟩;rw[aL.out] at N;obtain⟨aG,a0,rfl⟩:=N.qw))
   obtain⟨xs,aI,aU⟩:=N;have aP:=Pc H aB;have al:=zE E aB;go_loopw [9,12] (fun v8 aS wj=>∃j:Nat,j<=y.length/\aS=.int .i64 j/\Below w3.heap.size w3 wj/\wj.ownsRow 0 90 3 (.slice aG y.length a0) y.length xs/\wj.ownsRow w3.heap.size 9 1 v8 (A++y.take j).length ((A++y.take j).map fun x=>Value.string x.pred)) (fun _ i _=>y.length-(intOf i).toNat)
   case atStart=>exact⟨0,zv _,rfl,aP,aI,by simpa using al⟩
   case round=>
    obtain⟨j,hj,rfl,ak,ah,p⟩:=hrel;have a6:=ak.size;obtain⟨bn,bb,rfl⟩:=zq p;by_cases a9:j<y.length
    ·obtain⟨va,a1,a2,a3,a4⟩:=aU.at j y[j] (by simp[a9]);obtain⟨gl,aO,aC,_,bg,ay⟩:=y7 ah (by omega);simp at aC;obtain⟨rfl,rfl⟩:=aC;have bo:=ay _ _ a2;have aE:=yM a9;have aD:(y.take j).length=j:=by rw[qa];omega
     have bq:(A++y.take j).length<=1000:=by rw[yz,aD];omega
     clear a1 a2 a3 a4 ay;generalize y[j]=a at *;have HT:=OY aE;clear aE aD;have HQ:Hid (A++y.take (j+1)=(A++y.take j)++[a]):=by rw[Hid,HT.out,ki]
     clear HT;generalize (A++y.take j)=q at *;go_wp2_with (first|(at_builtin;refine jY _ _ [.string a.pred] _ rfl (.tmp 54) (.tmp 60) 30 rfl w3.heap.size 9 i0 _ 1 16 underlying30 hi aV aT aY rfl (by decide) _ _ _ rfl p (zo _ _) _ _ rfl (by simp) rfl (by simp[Value.oneCell']) (by omega) (by omega) a6 ?_;intro v' w7 aJ D aH aK aM br;clear aH aK))
     go_roundw
     case rel=>exact⟨j+1,by omega,by go_num,ak.trans D,kM p (by decide) ah aM,by rw[HQ.out];simpa using aJ⟩
     case measure=>simp[intOf];omega
    ·have he:y.take j=y:=xk (by omega);have au:Hid ((cs.take (k+1)).flatMap zm=A++y.take j):=by rw[Hid,ar.out,he]
     clear he ar;generalize A++y.take j=q at *;go_wp2;go_roundw
     case rel=>exact⟨k+1,by omega,by go_num,ak,by rw[au.out];exact p⟩
     case measure=>simp[intOf];omega
  ·have he:cs.take k=cs:=xk (by omega);rw[he] at E;have L:=Y.out.lits;clear he;generalize aj:cs.flatMap zm=ad at *;have ai:=OY aj;clear aj;obtain⟨aX,az,rfl⟩:=zq E;have a8:Pg w3.heap.size wr (.slice aX ad.length az) (ad.map zj.pred):=by simpa [Pg,Function.comp_def] using E
   have O:=av.below H;obtain⟨bu,bk,be⟩:=O.boxed;have P:=Q.below H;have af:Hid (∀c∈cs,vD c/\c.body.length<=999):=fun c hc=>⟨(Y.out.ok c hc).1,(Y.out.ok c hc).2.1⟩;by_cases hS:∃f,PW cs f
   ·have HS:=OY hS;clear hS;go_wp2_with (first|(go_at_call 69;refine(D9 _ _ (ad.map zj.pred) a8 (by simpa using L)).mono ?_;rintro e w6 ⟨v6,t,rfl,X,R,b,o,G⟩;obtain⟨F,m,rfl⟩:=X.qw;have d:=O.below G;obtain⟨aW,aQ,ax⟩:=d.boxed;have I:=P.below G;have am:=Pc an (Pc H G);have V:t.length<=1000:=(by simp at o;omega);have C:=(by simpa using d.set 1 (.slice F t.length m));have z:=(Pm.refl w2.heap.size w6).setCell 1 (.slice F t.length m);have u:=I.but z d (by decide) (by decide) (by decide);have ab:=X.but z d (by decide);have D:Below w.heap.size w (w6.setCell ⟨w2.heap.size,1,none⟩ (.slice F t.length m)):=am.setCell J.size _;have S:=OY (fun c hc l hl=>(b _).2 (zB.2 ⟨l,(by rw[←ai.out];exact uX.2 ⟨c,hc,hl⟩),rfl⟩));have M:=OY (fun n=>(b n).trans zB);clear b o)|(go_at_call 70;refine(N7 _ w2.heap.size _ _ _ cs t (by exact C) (by exact u) (by exact ab) af.out T V S.out HS).mono ?_;rintro e w8 ⟨sv,rfl,B,K,ac⟩))
    go_ret2
    exact⟨_,aw.out t sv R M.out K.len ac,D.trans (B.below J.size D.size),w2.heap.size,_,_,_,rfl,K.box,(u.but B C (by decide) (by decide) (by decide)).low aA.size,(ab.but B C (by decide)).low (zT an.size H.size),by rw[K.len];exact yr K.row D.size,J.size⟩
   ·have HS:=OY hS;clear hS;go_wp2_with (first|(go_at_call 69;refine(D9 _ _ (ad.map zj.pred) a8 (by simpa using L)).mono ?_;rintro e w6 ⟨v6,t,rfl,X,R,b,o,G⟩;obtain⟨F,m,rfl⟩:=X.qw;have d:=O.below G;obtain⟨aW,aQ,ax⟩:=d.boxed;have I:=P.below G;have am:=Pc an (Pc H G);have V:t.length<=1000:=(by simp at o;omega);have C:=(by simpa using d.set 1 (.slice F t.length m));have z:=(Pm.refl w2.heap.size w6).setCell 1 (.slice F t.length m);have u:=I.but z d (by decide) (by decide) (by decide);have ab:=X.but z d (by decide);have D:Below w.heap.size w (w6.setCell ⟨w2.heap.size,1,none⟩ (.slice F t.length m)):=am.setCell J.size _;have S:=OY (fun c hc l hl=>(b _).2 (zB.2 ⟨l,(by rw[←ai.out];exact uX.2 ⟨c,hc,hl⟩),rfl⟩));have M:=OY (fun n=>(b n).trans zB);clear b o)|(go_at_call 70;refine(Ma _ w2.heap.size _ _ _ cs t (by exact C) (by exact u) (by exact ab) af.out T V S.out HS).mono ?_;rintro e w8 ⟨rfl,B⟩))
    go_ret2
    exact⟨_,ba.out HS.out,D.trans (B.below J.size D.size),rfl⟩
theorem oE(s:ByteArray)(w:World)(i:s.size<=9223372036854775807):
  Calls prog 33 #[.string s] w fun e d=>∃r,dQ s r/\nR r w e d:=by
 by_cases b:500<s.size
 ·exact(Ft s w b i).mono fun e d h=>⟨_,.long b,h⟩
 ·cases a:xh s.size s with
  |none=>exact(Lb s w (by omega) a).mono fun e d h=>⟨_,.lex b a,h⟩
  |some l=>
   cases c:uQ l with
   |none=>exact(Fc s w (by omega) l a c).mono fun e d h=>⟨_,.parse b a c,h⟩
   |some g=>
    by_cases f:qZ g=0
    ·exact Mj s w (by omega) l g a c f
    ·exact(Ja s w (by omega) l g a c f).mono fun e d h=>⟨_,.wrong b a c f,h⟩
end
section
open Go.Proofs.Tryz
variable {s:ByteArray}
theorem OV:(prog.info? 40).map (fun i=>(i.zero,i.size,i.bytes))=some (some (.agg #[.pointer none,.pointer none]),2,16):=by kernel_rfl
theorem Ij{k:Int}(h:uu s=.error k):(k != 0)=true:=by
 unfold uu at h;repeat'(split at h)
 all_goals first|(cases h;rfl)|cases h
theorem MZ{k:Int}(h:uu s=.error k)(w:World)(b:s.size<=9223372036854775807):Calls prog 33 #[.string s] w fun e g=>e=.returned (.tuple #[.pointer none,.int .i64 k])/\Below w.heap.size w g:=
 (oE s w b).mono fun _ _ ⟨r,d,c,f⟩=>by
  have a:=CK d;rw[h] at a;simp only[sF] at a;subst a;exact⟨f,c⟩
def dZ(lo:Nat)(w:World)(pb:Nat)(cs:List zc)(t:List zg):Prop:=lo<=pb/\∃b c a,OZ w pb #[b,c,a] 45/\PE lo 93 w b cs/\Pg lo w c (Pb t)/\w.ownsRow lo 3 1 a t.length ((t.map zg.qh).map PF)
theorem Fg{cs:List zc}{t:List zg}(h:uu s=.ok (cs,t))(w:World)(c:s.size<=9223372036854775807):Calls prog 33 #[.string s] w fun e d=>∃a,e=.returned (.tuple #[.pointer (some ⟨a,0,none⟩),.int .i64 0])/\dZ w.heap.size d a cs t/\Below w.heap.size w d:=
 (oE s w c).mono fun _ _ ⟨r,m,i,u⟩=>by
  have b:=CK m;rw[h] at b;simp only[sF] at b;subst b;obtain⟨a,n,j,l,g,k,p,o,f,q⟩:=u;exact⟨a,g,⟨q,n,j,l,k,p,o,by simpa using f⟩,i⟩
theorem LN{k:Int}(h:uu s=.error k)(w:World)(a:s.size<=9223372036854775807):Calls prog 32 #[.string s] w fun e d=>e=.returned (.tuple #[.pointer none,.int .i64 k])/\Below w.heap.size w d:=
 (C6 s w a).mono fun _ _ ⟨c,b⟩=>by rw[h] at b;exact⟨b,c⟩
theorem Ls{cs:List zc}{t:List zg}(h:uu s=.ok (cs,t))(w:World)(b:s.size<=9223372036854775807):Calls prog 32 #[.string s] w fun e d=>∃a,e=.returned (.tuple #[.pointer (some ⟨a,0,none⟩),.int .i64 0])/\kp w.heap.size d a cs t/\Below w.heap.size w d:=
 (C6 s w b).mono fun _ _ ⟨k,c⟩=>by
  rw[h] at c;obtain⟨a,v,i,g,j,l,f,m⟩:=c;exact⟨a,g,⟨m,v,i,j,l,f⟩,k⟩
end
section
open Go.Proofs.Tryz
variable {lo:Nat}
theorem OW:(prog.info? 9).map (·.size)=some 1:=by kernel_rfl
end
section
variable {lo:Nat}{s w:World}
def Qm(lo:Nat)(s w:World):Prop:=∀b,lo<=b->b<s.heap.size->w.heap[b]?=s.heap[b]?
theorem pH{e:TypeId}{a:Nat}{v:Value}{n:Nat}{f:List Value}(h:s.ownsRow lo e a v n f)(o:Qm lo s w):w.ownsRow lo e a v n f:=by
 obtain⟨m,b⟩:=h;refine⟨m,?_⟩;rcases b with b|⟨g,d,c,l,j,i,k⟩
 ·exact zf b
 ·refine ze ⟨g,d,c,l,j,?_,k⟩;rw[o g j (kD.1 i).1];exact i
theorem OZ.same{b:Nat}{c:Array Value}{T:TypeId}(h:OZ s b c T)(a:lo<=b)(d:Qm lo s w):OZ w b c T:=by
 have:=h.lt;unfold OZ at *;rw[d b a this];exact h
theorem Pg.same{v:Value}{l:List ByteArray}(h:Pg lo s v l)(a:Qm lo s w):Pg lo w v l:=pH h a
theorem PB.same{s w:World}{v:Value}{l:List zj}(h:PB lo s v l)(a:Qm lo s w):PB lo w v l:=by
 obtain⟨d,c,b⟩:=h;exact⟨d,pH c a,b.mono fun _ _ q=>q.same a⟩
theorem PE.same{T:TypeId}{s w:World}{v:Value}{l:List zc}(h:PE lo T s v l)(a:Qm lo s w):PE lo T w v l:=by
 obtain⟨d,c,b⟩:=h;exact⟨d,pH c a,b.mono (fun _ _ q=>q.same a) (fun _ _ q=>q.same a)⟩
theorem kp.same{s w:World}{pb:Nat}{cs:List zc}{t:List zg}(h:kp lo s pb cs t)(a:Qm lo s w):kp lo w pb cs t:=by
 obtain⟨b,v,d,e,c,f⟩:=h;exact⟨b,v,d,e.same b a,c.same a,pH f a⟩
theorem dZ.same{s w:World}{pb:Nat}{cs:List zc}{t:List zg}(h:dZ lo s pb cs t)(a:Qm lo s w):dZ lo w pb cs t:=by
 obtain⟨b,i,e,f,g,d,j,c⟩:=h;exact⟨b,i,e,f,g.same b a,d.same a,j.same a,pH c a⟩
theorem kp.low{a b:Nat}{w:World}{pb:Nat}{cs:List zc}{t:List zg}(h:kp b w pb cs t)(c:a<=b):kp a w pb cs t:=by
 obtain⟨i,v,e,f,d,g⟩:=h;exact⟨by omega,v,e,f,d.low c,yr g c⟩
theorem dZ.low{a b:Nat}{w:World}{pb:Nat}{cs:List zc}{t:List zg}(h:dZ b w pb cs t)(c:a<=b):dZ a w pb cs t:=by
 obtain⟨l,j,f,g,i,e,k,d⟩:=h;exact⟨by omega,j,f,g,i,e.low c,k.low c,yr d c⟩
structure wl (cs:List zc) (t:List zg):Prop where
 len:cs.length<=1000
 names:t.length<=1000
 fine:∀c∈cs,ex c/\vD c/\c.body.length<=6/\xi (zm c)<=1000
 rise:y5 (Pb t)
abbrev vc:=Nat×Nat×List zc×List zg
def dH(B:Nat)(w:World)(a:List Nat)(p:vc):Prop:=∃(lo:Nat) (s:World),B<=lo/\kp lo s p.1 p.2.2.1 p.2.2.2/\dZ lo s p.2.1 p.2.2.1 p.2.2.2/\wl p.2.2.1 p.2.2.2/\Qm lo s w/\s.heap.size<=w.heap.size/\∀b∈a,b<lo∨s.heap.size<=b
theorem dH.save{B:Nat}{j:World}{c a N:List Nat}{p:vc}(h:dH B w c p)(i:zd N w j)(r:∀b∈N,b∈c)(e:∀b∈a,b∈c∨w.heap.size<=b):dH B j a p:=by
 obtain⟨lo,s,n,q,m,t,l,k,g⟩:=h;refine⟨lo,s,n,q,m,t,fun b d f=>?_,zT k i.size,fun b o=>?_⟩
 ·rw[i.block b (by omega) (fun e=>by have:=g b (r b e);omega)];exact l b d f
 ·rcases e b o with h|h
  ·exact g b h
  ·right;omega
theorem dH.new{B lo:Nat}{a:List Nat}{pb c:Nat}{cs:List zc}{t:List zg}(d:B<=lo)(g:kp lo w pb cs t)(e:dZ lo w c cs t)(i:wl cs t)(h:∀b∈a,b<lo):dH B w a (pb,c,cs,t):=
 ⟨lo,w,d,g,e,i,fun _ _ _=>rfl,zh _,fun b f=>zf (h b f)⟩
def fI(ps:List vc):List Value:=ps.flatMap fun p=>[.pointer (some ⟨p.1,0,none⟩),.pointer (some ⟨p.2.1,0,none⟩)]
abbrev iv:=Nat×Nat×List ByteArray
def Oe(a:List iv):List Value:=a.map fun x=>sl x.1 x.2.2.length
def Mv(a:List iv):List Value:=a.map fun x=>sl x.2.1 x.2.2.length
def L6(a:List (Nat×Nat)):List Value:=a.map fun x=>sl x.1 x.2
def IA:ByteArray:=⟨#[109,105,110,101]⟩
def IG(i h:Nat):Value×Value×Value:=(.bool false,.string IA,sl h (i+1))
structure TM where
 ps:List vc
 nr:Nat
 ls:List iv
 lits:List (Nat×Nat)
def ie(f:Nat)(d a e c b:Value)(M:TM):List Nat:=
 f::(d.ownBlock.toList++a.ownBlock.toList++e.ownBlock.toList++c.ownBlock.toList++b.ownBlock.toList++M.ls.map (·.1)++M.ls.map (·.2.1)++M.lits.map (·.1))
def QT(R:List Nat)(a:Value)(M:TM):List Nat:=R++(a.ownBlock.toList++(M.ls.map (·.1)++M.ls.map (·.2.1)))
structure Rf (B:Nat) (w:World) (wb:Nat) (M:TM) (R:List Nat) (psv rowv lsv lwv litv:Value) (ys:List Value):Prop where
 low:B<=wb
 box:OZ w wb #[psv,.slice none 0 0,.slice none 0 0,.slice none 0 0,.int .i64 0,.int .i64 0,.int .i64 0,.slice none 0 0,.bool true,rowv,lsv,lwv,.slice none 0 0,litv] 35
 ps:w.ownsRow B 40 2 psv M.ps.length (fI M.ps)
 row:w.ownsRow B 9 1 rowv M.nr ys
 ls:w.ownsRow B 30 1 lsv M.ls.length (Oe M.ls)
 lw:w.ownsRow B 30 1 lwv M.ls.length (Mv M.ls)
 lits:w.ownsRow B 91 1 litv M.lits.length (L6 M.lits)
 res:∀b∈R,b<w.heap.size
 sep:∀b,lsv.ownBlock=some b->lwv.ownBlock≠some b
 apart:(QT R rowv M).Nodup
 lists:∀x∈M.ls,Pg B w (sl x.1 x.2.2.length) x.2.2/\Pg B w (sl x.2.1 x.2.2.length) x.2.2/\x.2.2.length<=1000
 own:∀i (h:i<M.lits.length),∃hs:List Nat,hs.length=M.lits[i].2/\M.lits[i].2<=1000/\w.ownsRow B 90 3 (sl M.lits[i].1 M.lits[i].2) M.lits[i].2 (Pz (hs.map (IG i)))
 pairs:∀p∈M.ps,dH B w (R++ie wb psv rowv lsv lwv litv M) p
theorem Rf.lt{B:Nat}{w:World}{k:Nat}{M:TM}{R:List Nat}{f c j e d:Value}{n:List Value}(h:Rf B w k M R f c j e d n):∀b∈ie k f c j e d M,b<w.heap.size:=by
 intro b a;simp only[ie,zw,zW,zB] at a;rcases a with rfl|((((((((a|a)|a)|a)|a)|⟨x,g,rfl⟩)|⟨x,g,rfl⟩)|⟨x,g,rfl⟩))
 ·exact h.box.lt
 ·exact yO h.ps (yv a)
 ·exact yO h.row (yv a)
 ·exact yO h.ls (yv a)
 ·exact yO h.lw (yv a)
 ·exact yO h.lits (yv a)
 ·exact yO (h.lists x g).1 rfl
 ·exact yO (h.lists x g).2.1 rfl
 ·obtain⟨i,l,rfl⟩:=vl g;obtain⟨o,_,_,m⟩:=h.own i l;exact yO m rfl
end
theorem NR(w:World)(a:List Value)(T:TypeId)(b:a.length<=1000):(w.alloc (.cells a.toArray T)).ownsRow w.heap.size T 1 (.slice (some ⟨w.heap.size,0,none⟩) a.length a.length) a.length a:=by
 refine⟨by simp,ze ⟨w.heap.size,a.length,a.toArray,rfl,zh _,?_,zh _,by unfold maxLen;omega,by simp,by simp⟩⟩;show(w.heap.push _)[w.heap.size]?=_;simp
end Go.Proofs.YteampbddflhngaaGreat
