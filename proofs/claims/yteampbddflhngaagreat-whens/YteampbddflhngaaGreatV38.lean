import Derived.Test.YteampbddflhngaaGreatV06
import Derived.Test.YteampbddflhngaaGreatV14
import Derived.Test.YteampbddflhngaaGreatV34
namespace Go.Proofs.YteampbddflhngaaGreat
set_option linter.all false
section
variable {cs:List zc}{t t0:List zg}{c:zc}{vs:List ByteArray}
structure Pt (cs:List zc) (t0 t:List zg):Prop where
 few:Qz cs<=500
 many:∀c∈cs,yG c=false
 coll:uh cs=some t0
 tab:Qk t0 (cs.flatMap zm)
 safe:∀c∈cs,xe c=true
 jm:xK (t0.length+1) t0 cs=(t,true)
theorem M0{s:ByteArray}(h:uu s=.ok (cs,t)):∃t0,Pt cs t0 t:=by
 unfold uu at h;split at h
 ·cases h
 ·rename_i n;split at h
  ·cases h
  ·rename_i o g;split at h
   ·cases h
   ·rename_i k j;split at h
    ·cases h
    ·rename_i i;split at h
     ·cases h
     ·rename_i t0 e;split at h
      ·rename_i a;split at h
       ·rename_i b;obtain⟨rfl,rfl⟩:=h;refine⟨t0,?_,fun c d=>?_,e,AK e,fun c d=>lq.1 a c d,?_⟩
        ·have m:=sN j;have l:=sB g;omega
        ·cases f:yG c with
         |false=>rfl
         |true=>exact zC (kY.2 ⟨c,d,f⟩) i
        ·rw[←b]
       ·cases h
      ·cases h
def PS(t:List zg):List (ByteArray×Nat):=t.map fun e=>(e.name,e.jf)
theorem Is(t:List zg)(n:ByteArray)(s:Nat):PS (xv t n s).1=PS t:=by
 unfold xv;split
 ·rfl
 ·rename_i e a;split
  ·rfl
  ·obtain⟨h,d,g⟩:=qI a;unfold PS;refine kJ (by simp) fun i j f=>?_;simp only[vO,m5];split
   ·rename_i b;subst b;rw[d]
   ·rfl
theorem Cw:∀(cs:List zc) (x:List zg×Bool),PS (cs.foldl vq x).1=PS x.1
 |[],_=>rfl
 |c::cs,x=>by
  rw[uv,Cw cs];exact Is _ _ _
theorem mH:∀(m:Nat) (t:List zg) (cs:List zc),PS (xK m t cs).1=PS t
 |0,_,_=>rfl
 |m+1,t,cs=>by
  have a:PS (vo t cs).1=PS t:=Cw cs (t,false);unfold xK;split
  ·rw[mH m,a]
  ·exact a
theorem D6{a:List zg}(h:PS t=PS a):Pb t=Pb a:=by
 have:=congrArg (List.map Prod.fst) h;simpa [PS,Pb,Function.comp_def] using this
theorem Pt.lit(h:Pt cs t0 t)(w:c∈cs){l:zj}(u:l∈zm c):∃e,zY t l.pred=some e/\e.name=l.pred/\zF t l.pred<t.length/\(t.map (·.jf)).getD (zF t l.pred) 0=l.args.length/\zF t l.pred=zP t l.pred:=by
 have g:PS t=PS t0:=by have:=mH (t0.length+1) t0 cs;rw[h.jm] at this;exact this
 have a:=uX.2 ⟨c,w,u⟩;have f:(zY t0 l.pred).isSome=true:=by
  cases j:zY t0 l.pred with
  |some e=>rfl
  |none=>
   obtain⟨e,s,r⟩:=zB.1 ((h.tab.names l.pred).2 ⟨l,a,rfl⟩);exact zC r (mI h.tab.rise j e s)
 have i:=(An (D6 g).symm _).1 f;obtain⟨e,j⟩:=mi.1 i;obtain⟨m,o,n⟩:=qI j;have b:zF t l.pred=zP t l.pred:=by unfold zF;rw[zb i]
 refine⟨e,j,n,by rw[b];exact m,?_,b⟩;rw[b];have p:(t.map (·.jf)).getD (zP t l.pred) 0=e.jf:=by simp[List.getD,m,o]
 rw[p];have d:(e.name,e.jf)∈PS t0:=by
  rw[←g];exact zB.2 ⟨e,by rw[←o];exact zu m,rfl⟩
 obtain⟨q,v,k⟩:=zB.1 d;simp only[yo] at k;rw[←k.2];exact(h.tab.jf q v l a (by rw[k.1,n])).symm
theorem Pt.sol(h:Pt cs t0 t):PW cs (val t):=by
 have b:jS t0 cs:=by
  intro c j l i;have a:=uX.2 ⟨c,j,i⟩;cases f:zY t0 l.pred with
  |some e=>rfl
  |none=>
   obtain⟨e,g,d⟩:=zB.1 ((h.tab.names l.pred).2 ⟨l,a,rfl⟩);exact zC d (mI h.tab.rise f e g)
 have:=tu (t0.length+1) t0 cs b (by rw[h.jm]);rw[h.jm] at this;exact this
theorem sR(t:List zg)(n:ByteArray):xz t n=val t n:=rfl
theorem KR{a b:ByteArray}{f d:zg}(k:zY t a=some f)(h:zY t b=some d)(e:zP t a=zP t b):a=b:=by
 obtain⟨n,l,g⟩:=qI k;obtain⟨m,j,i⟩:=qI h;have:f=d:=by rw[←l,←j];simp[e]
 rw[←g,←i,this]
theorem nH(p:Nat)(ts:List zZ)(x:zZ):(qY p ts x).var=x.var/\(qY p ts x).num=x.num:=by unfold qY;split<;>exact⟨rfl,rfl⟩
theorem iX(t:List zg)(ns vs:List ByteArray)(a:List Nat)(l:zj)(p:Nat):zL (zK t ns vs a l) p=zL ⟨0,uc ns vs a l⟩ p:=by
 unfold zL zK;simp only[List.any_map];congr 1;funext x;simp only[Function.comp,(nH 0 _ x).1,(nH 0 _ x).2]
theorem Fw(t:List zg)(ns vs:List ByteArray)(a:List Nat)(l:zj)(p:Nat):yX (zK t ns vs a l) p=yX ⟨0,uc ns vs a l⟩ p:=by
 unfold yX;rw[iX,show zL (zK t ns vs a l)=zL ⟨0,uc ns vs a l⟩ from funext (iX t ns vs a l)]
theorem IL(ns:List ByteArray)(x:ByteArray):(yT ns x).getD 0<yn ns.length:=by
 unfold yT yn;split
 ·rename_i h;simp only[uo];split<;>omega
 ·simp only[kc];split<;>omega
theorem rH(t:List zg)(ns vs:List ByteArray)(a:List Nat)(l:zj)(o:∀k,a.getD k 0<5)(q:l.args.length<=3):vM (zK t ns vs a l) l.args.length (yn ns.length):=by
 have b:∀x∈(zK t ns vs a l).qg,∃y∈l.args,x=qY 0 (uc ns vs a l) (uD ns vs a y)/\uD ns vs a y∈uc ns vs a l:=by
  intro x e;unfold zK at e;simp only[zB] at e;obtain⟨z,g,rfl⟩:=e;have i:=g;unfold uc at g;obtain⟨y,f,rfl⟩:=zB.1 g;exact⟨y,f,rfl,i⟩
 refine⟨by simp[zK,uc],q,fun x e d=>?_,fun x e d=>?_⟩
 ·obtain⟨y,f,rfl,n⟩:=b x e;obtain⟨j,m⟩:=nH 0 (uc ns vs a l) (uD ns vs a y);rw[j] at d;rw[m,Fw];refine⟨?_,?_⟩
  ·unfold uD at d ⊢;split
   ·unfold ut;split
    ·exact Nat.lt_of_sub_eq_succ rfl
    ·split
     ·exact Nat.lt_of_sub_eq_succ rfl
     ·exact o _
   ·rename_i h;rw[za h] at d;cases d
  ·have p:zL ⟨0,uc ns vs a l⟩ (uD ns vs a y).num=true:=(fd _ _).2 ⟨_,n,d,rfl⟩;unfold qY;rw[zb d];simp only;unfold yX;rw[zb p];rfl
 ·obtain⟨y,f,rfl,n⟩:=b x e;obtain⟨j,m⟩:=nH 0 (uc ns vs a l) (uD ns vs a y);unfold uD at d ⊢;split
  ·rename_i h;rw[zb h] at d;cases d
  ·exact IL ns y
theorem oi{ns:List ByteArray}{g:List Nat}{l:zj}{p:Nat}:zL (zK t ns vs g l) p=true↔∃y∈l.args,zV y=true/\ut vs g y=p:=by
 rw[iX,fd];constructor
 ·rintro⟨x,h,f,d⟩;unfold uc at h;obtain⟨y,b,rfl⟩:=zB.1 h;unfold uD at f d;by_cases a:zV y=true
  ·rw[zb a] at d;exact⟨y,b,a,d⟩
  ·rw[za a] at f;cases f
 ·rintro⟨y,b,a,e⟩;refine⟨uD ns vs g y,zB.2 ⟨y,b,rfl⟩,?_,?_⟩
  ·unfold uD;rw[zb a]
  ·unfold uD;rw[zb a];exact e
theorem Jg(h:vs.Nodup)(x:ByteArray):(jq vs x).Nodup:=by
 unfold jq;split
 ·rename_i d;simp only[uZ,Bool.not_eq_true'] at d;rw[nY];refine⟨h,by simp,fun a f b e=>?_⟩;simp at e;subst e;rintro rfl;rw[qS.2 f] at d;cases d.2
 ·exact h
theorem Ez:∀(args vs:List ByteArray),vs.Nodup->(xp vs args).Nodup
 |[],_,h=>h
 |x::r,vs,h=>Ez r (jq vs x) (Jg h x)
theorem Cz(c:zc):(zy c).Nodup:=by
 have:∀(a:List zj) (vs:List ByteArray),vs.Nodup->(a.foldl vx vs).Nodup:=by
  intro a;induction a with
  |nil=>intro vs h;exact h
  |cons l a b=>
   intro vs h;rw[uv];refine b _ ?_;unfold vx;split
   ·exact h
   ·exact Ez _ _ h
 exact this c.body [] List.nodup_nil
theorem pU{α:Type}[DecidableEq α]:∀{l1 l2:List α},l1.Nodup->(∀x∈l1,x∈l2)->l1.length<=l2.length
 |[],l2,_,_=>by simp
 |a::l1,l2,e,g=>by
  have f:=g a (by simp);have h:=pU (l1:=l1) (l2:=l2.erase a) (jB.1 e).2 (fun x d=>by
   have b:x≠a:=by rintro rfl;exact(jB.1 e).1 d
   exact(mD b).2 (g x (by simp[d])))
  rw[nS f] at h;have:=mM f;simp;omega
theorem Bh:∀{l:List ByteArray} (_:l.Nodup) {k:Nat} (f:k<l.length),yu l l[k]=some k
 |y::r,d,0,_=>by simp[yu]
 |y::r,d,k+1,f=>by
  have a:k<r.length:=by simpa using f
  have b:y≠r[k]:=by
   rintro e;exact(jB.1 d).1 (e ▸ zu a)
  simp only[mC,yu,za b,Bh (jB.1 d).2 a,jZ]
theorem rO:∀{ps:List ByteArray} {n:ByteArray},n∈ps->∃k,k<ps.length/\yu ps n=some k:=fun{ps n} h=>by
 have:(yu ps n).isSome=true:=by rw[eO];exact qS.2 h
 obtain⟨k,a⟩:=mi.1 this;obtain⟨b,_⟩:=fo a;exact⟨k,b,a⟩
theorem ni(h:yG c=false):c.head.args.length<=3/\c.body.length<=6/\(∀l∈c.body,l.args.length<=3)/\(xU c).length<=5:=by
 simp only[yG,m9,decide_eq_false_iff_not,List.any_eq_false,decide_eq_true_eq] at h;obtain⟨⟨⟨f,e⟩,b⟩,d⟩:=h;exact⟨by omega,by omega,fun l a=>by have:=b l a;omega,by omega⟩
theorem lY(h:yG c=false):(zy c).length<=5:=by
 have f:=(ni h).2.2.2;have:=pU (Cz c) (l2:=xU c) (fun x e=>by
  obtain⟨a,l,b,_,d⟩:=gJ.1 e;exact tY.2 ⟨a,ze ⟨l,b,d⟩⟩)
 omega
structure f8 (pl:List Nat) (k:Nat):Prop where
 five:∀i,pl.getD i 0<5
 low:∀i,i<k->pl.getD i 0<k
 onto:∀p,p<k->∃i,i<k/\pl.getD i 0=p
theorem JI(h:Pt cs t0 t)(s:c∈cs)(ns:List ByteArray)(o:Option (List Int))(v:f8 (xb (o.getD [])) (zy c).length):mX (gT t ns c o) (t.map (·.jf)) (yn ns.length):=by
 have F:=h.many c s;obtain⟨N,S,G,T⟩:=ni F;have H:=lY F;have z:=h.safe c s;simp only[xe,uZ,lq,dN,Bool.not_eq_true'] at z;have a:∀{l:zj} {p:Nat},(∀y∈l.args,zV y=true->y∈zy c)->zL (zK t ns (zy c) (xb (o.getD [])) l) p=true->p<(zy c).length:=by
  intro l p u m;obtain⟨y,O,R,r⟩:=oi.1 m;obtain⟨k,Q,P⟩:=rO (u y O R);unfold ut at r;rw[P] at r;simp only at r;rw[za (by omega)] at r;rw[←r];exact v.low k Q
 have g:=mp.1 z.1;have d:∀l∈c.body,∀y∈l.args,zV y=true->y∈zy c:=by
  intro l b y D u;cases C:l.neg with
  |false=>exact gJ.2 ⟨u,l,b,C,D⟩
  |true=>
   rcases z.2 l b with q|q
   ·rw[C] at q;cases q
   ·exact mp.1 q y D u
 have j:∀l∈c.body,(zK t ns (zy c) (xb (o.getD [])) l).pred<(t.map (·.jf)).length/\vM (zK t ns (zy c) (xb (o.getD [])) l) ((t.map (·.jf)).getD (zK t ns (zy c) (xb (o.getD [])) l).pred 0) (yn ns.length):=by
  intro l b;obtain⟨e,_,_,A,B,_⟩:=h.lit s (l:=l) (by simp[zm,b]);refine⟨by simpa [zK] using A,?_⟩;show vM _ ((t.map (·.jf)).getD (zF t l.pred) 0) _;rw[B];exact rH t ns _ _ l v.five (G l b)
 obtain⟨e,_,_,A,B,_⟩:=h.lit s (l:=c.head) (by simp[zm]);refine⟨⟨H,fun l b=>?_,fun l b p m=>?_,fun l b p m=>?_,fun p m=>a g m,fun p w=>?_⟩,by simpa [gT,zK] using A,?_,fun l b=>?_,fun l b=>?_⟩
 ·obtain⟨x,f,rfl⟩:=zB.1 b;have:=G x (xY.1 f).1;simp[zK,uc];omega
 ·obtain⟨x,f,rfl⟩:=zB.1 b;exact a (d x (xY.1 f).1) m
 ·obtain⟨x,f,rfl⟩:=zB.1 b;exact a (d x (xY.1 f).1) m
 ·obtain⟨i,E,K⟩:=v.onto p w;have n:=zu E;obtain⟨M,l,J,I,L⟩:=gJ.1 n;refine⟨_,zB.2 ⟨l,xY.2 ⟨J,by simp[I]⟩,rfl⟩,oi.2 ⟨_,L,M,?_⟩⟩;unfold ut;rw[Bh (Cz c) E];simp only;rw[za (by omega)];exact K
 ·show vM _ ((t.map (·.jf)).getD (zF t c.head.pred) 0) _;rw[B];exact rH t ns _ _ c.head v.five N
 ·obtain⟨x,f,rfl⟩:=zB.1 b;exact j x (xY.1 f).1
 ·obtain⟨x,f,rfl⟩:=zB.1 b;exact j x (xY.1 f).1
theorem sQ(h:Pt cs t0 t)(ns:List ByteArray)(B:Option (List (Option (List Int))))(hp:∀i (d:i<cs.length),f8 (xb ((vA B i).getD [])) (zy cs[i]).length):rB (qF t ns B cs):=by
 have v:∀a∈t.map (·.jf),a<=3:=by
  intro a T;obtain⟨e,R,rfl⟩:=zB.1 T;have D:PS t=PS t0:=by have:=mH (t0.length+1) t0 cs;rw[h.jm] at this;exact this
  have m:(e.name,e.jf)∈PS t0:=by rw[←D];exact zB.2 ⟨e,R,rfl⟩
  obtain⟨J,O,N⟩:=zB.1 m;simp only[yo] at N;obtain⟨l,M,U⟩:=(h.tab.names J.name).1 (zB.2 ⟨J,O,rfl⟩);have:=h.tab.jf J O l M U;obtain⟨c,C,w⟩:=uX.1 M;obtain⟨q1,_,F,_⟩:=ni (h.many c C);rw[←N.2,←this];rcases zw.1 w with rfl|w
  ·exact q1
  ·exact F l w
 have G:0<yn ns.length:=by unfold yn;split<;>omega
 have b:∀r∈uJ t ns B cs,∃i,∃d:i<cs.length,0<cs[i].body.length/\r=gT t ns cs[i] (vA B i):=by
  intro r o;unfold uJ at o;obtain⟨⟨c,i⟩,Z,z⟩:=lh.1 o;have P:=n8.1 Z;simp only at z P;obtain⟨d,rfl⟩:=jG.1 P;split at z
  ·rename_i hb;simp only[zs] at z;exact⟨i,d,hb,z.symm⟩
  ·cases z
 refine⟨v,fun f W=>?_,fun r o=>?_,fun r o Q E I l w=>?_⟩
 ·have s:f∈vy t ns cs:=W;unfold vy at s;obtain⟨c,C,rfl⟩:=zB.1 s;have u:=(xY.1 C).1;obtain⟨e,_,_,F,q4,_⟩:=h.lit u (l:=c.head) (by simp[zm]);have y:vM (zK t ns [] [0,0,0,0,0] c.head) c.head.args.length (yn ns.length):=rH t ns [] _ c.head (fun k=>by
   by_cases V:k<5
   ·have:k=0∨k=1∨k=2∨k=3∨k=4:=by omega
    rcases this with rfl|rfl|rfl|rfl|rfl<;>decide
   ·simp[List.getD,List.getElem?_eq_none (show([0,0,0,0,0]:List Nat).length<=k by simp;omega)]) (ni (h.many c u)).1
  refine⟨by simpa [vF,qF] using F,?_,?_⟩
  ·show Pp ((t.map (·.jf)).getD (zF t c.head.pred) 0) _;rw[q4];exact tX y _
  ·refine Ae y G fun p _=>?_;by_cases V:p<5
   ·have:p=0∨p=1∨p=2∨p=3∨p=4:=by omega
    rcases this with rfl|rfl|rfl|rfl|rfl<;>exact G
   ·rw[show([0,0,0,0,0]:List Nat).getD p 0=0 by simp[List.getD,List.getElem?_eq_none (show([0,0,0,0,0]:List Nat).length<=p by simp;omega)]];exact G
 ·obtain⟨i,d,_,rfl⟩:=b r o;exact JI h (zu d) ns _ (hp i d)
 ·obtain⟨i,d,_,rfl⟩:=b r o;obtain⟨j,X,_,rfl⟩:=b Q E;obtain⟨x,K,rfl⟩:=zB.1 w;have A:=(xY.1 K).1;have H:x.neg=true:=by simpa using(xY.1 K).2
  have g:=h.sol cs[i] (zu d) x A;unfold up at g;rw[zb H] at g;obtain⟨e1,a1,_,_,_,a5⟩:=h.lit (zu d) (l:=x) (by simp[zm,A]);obtain⟨e2,Y,_,_,_,S⟩:=h.lit (zu X) (l:=cs[j].head) (by simp[zm]);intro e;have L:zF t x.pred=zF t cs[j].head.pred:=e;rw[a5,S] at L;have n:=KR a1 Y L;have q:xz t cs[i].head.pred=xz t cs[j].head.pred:=I;rw[sR,sR,←n] at q;omega
theorem tw{k:Nat}(f:k<=5):f8 (xb []) k:=by
 have e:xb []=[0,1,2,3,4]:=rfl;have b:∀i,i<5->([0,1,2,3,4]:List Nat).getD i 0=i:=by
  intro i a;have:i=0∨i=1∨i=2∨i=3∨i=4:=by omega
  rcases this with rfl|rfl|rfl|rfl|rfl<;>rfl
 rw[e];refine⟨fun i=>?_,fun i a=>by rw[b i (by omega)];exact a,fun p d=>⟨p,d,b p (by omega)⟩⟩;by_cases a:i<5
 ·rw[b i a];exact a
 ·simp[List.getD,List.getElem?_eq_none (show([0,1,2,3,4]:List Nat).length<=i by simp;omega)]
end
section
open Classical
theorem Pt.low{cs:List zc}{a t:List zg}(h:Pt cs a t):t.length=a.length/\t.length<=500/\∀n,xz t n<=t.length:=by
 have f:PS t=PS a:=by have:=mH (a.length+1) a cs;rw[h.jm] at this;exact this
 have i:t.length=a.length:=by have:=congrArg List.length f;simpa [PS] using this
 have q:=rA _ [] a h.coll;have s:=oh cs;have u:=h.few;simp only[jH,uL] at q;have g:jS a cs:=by
  intro c k l m;have b:=uX.2 ⟨c,k,m⟩;cases d:zY a l.pred with
  |some e=>rfl
  |none=>
   obtain⟨e,r,j⟩:=zB.1 ((h.tab.names l.pred).2 ⟨l,b,rfl⟩);exact zC j (mI h.tab.rise d e r)
 have p:∀n,val a n=0:=fun n=>by
  unfold val;split
  ·rename_i e d;have:=s6 _ [] (fun e d=>by cases d) a h.coll e (mB d).1;omega
  ·rfl
 have o:=(tL g p).2 (by rw[h.jm]);rw[h.jm] at o;refine⟨i,by omega,fun n=>?_⟩;rw[sR];by_cases j:n∈Pb a
 ·have:=ed o (ps:=Pb a) (fun c k l m=>(h.tab.names l.pred).2 ⟨l,uX.2 ⟨c,k,m⟩,rfl⟩) j;simp[Pb] at this;show val t n<=_;omega
 ·have:val t n=0:=i7 (by rw[D6 f];exact j);omega
theorem C2(cs:List zc):kZ cs<=Qz cs:=by
 induction cs with
 |nil=>simp[kZ,Qz]
 |cons c cs d=>
  have f:=r8 c.body;have e:jE c.body=xi c.body:=by
   have:∀b:List zj,jE b=xi b:=by
    intro b;induction b with
    |nil=>rfl
    |cons a b d=>simp[jE,xi,jo] at d ⊢;omega
   exact this _
  simp[kZ,Qz,QD,kx,jo] at d ⊢;omega
end
section
variable {ns:List ByteArray}
theorem sj(h:y5 ns){i j:Nat}(a:i<j)(b:j<ns.length):P5 (ns.getD i ByteArray.empty) (ns.getD j ByteArray.empty)=true:=by
 have c:i<ns.length:=by omega
 rw[Ph _ c,Ph _ b];exact sd.1 h i j c b a
theorem Gb(h:y5 ns)(x:ByteArray):∀(n l a:Nat),l<=a->a<=ns.length->a-l<n->(∀i,i<l->P5 (ns.getD i ByteArray.empty) x=true)->(∀i,a<=i->i<ns.length->P5 (ns.getD i ByteArray.empty) x=false)->P7 ns x n l a<=ns.length/\(∀i,i<P7 ns x n l a->P5 (ns.getD i ByteArray.empty) x=true)/\∀i,P7 ns x n l a<=i->i<ns.length->P5 (ns.getD i ByteArray.empty) x=false:=by
 intro n;induction n with
 |zero=>intro l a _ _ q;omega
 |succ n p=>
  intro l a t r v o j;unfold P7;by_cases d:l<a
  ·rw[zb d];have u:l+(a-l) / 2<a:=by omega
   have f:l<=l+(a-l) / 2:=by omega
   generalize l+(a-l) / 2=m at *;by_cases e:P5 (ns.getD m ByteArray.empty) x=true
   ·rw[zb e];refine p (m+1) a (by omega) r (by omega) (fun i k=>?_) j;by_cases b:i=m
    ·rw[b];exact e
    ·exact lt_trans (sj h (show i<m by omega) (by omega)) e
   ·rw[za e];have c:P5 (ns.getD m ByteArray.empty) x=false:=by simpa using e
    refine p l m f (by omega) (by omega) o (fun i k g=>?_);by_cases b:i=m
    ·rw[b];exact c
    ·cases s:P5 (ns.getD i ByteArray.empty) x with
     |false=>rfl
     |true=>
      have:=lt_trans (sj h (show m<i by omega) g) s;rw[this] at c;cases c
  ·rw[za d];exact⟨by omega,o,fun i k g=>j i (by omega) g⟩
theorem AO(h:y5 ns)(x:ByteArray):xO ns x<=ns.length/\(∀i,i<xO ns x->P5 (ns.getD i ByteArray.empty) x=true)/\∀i,xO ns x<=i->i<ns.length->P5 (ns.getD i ByteArray.empty) x=false:=
 Gb h x _ 0 ns.length (zv _) (zh _) (by omega) (fun i a=>by omega) (fun i a b=>by omega)
theorem pW(h:y5 ns){v:Nat}(a:v<ns.length):yT ns (ns.getD v ByteArray.empty)=some v:=by
 obtain⟨e,d,c⟩:=AO h (ns.getD v ByteArray.empty);have b:xO ns (ns.getD v ByteArray.empty)=v:=by
  rcases nQ (xO ns (ns.getD v ByteArray.empty)) v with q|q|q
  ·have:=c _ (zh _) (by omega);rw[sj h q a] at this;cases this
  ·exact q
  ·have:=d v q;rw[Pr] at this;cases this
 unfold yT;rw[b,zb ⟨a,rfl⟩]
theorem mR{x:ByteArray}{v:Nat}(h:yT ns x=some v):v<ns.length/\ns.getD v ByteArray.empty=x:=by
 unfold yT at h;split at h
 ·rename_i a;simp only[zs] at h;subst h;exact a
 ·cases h
theorem Aj(h:y5 ns){x:ByteArray}(b:x∈ns):∃v,yT ns x=some v/\v<ns.length:=by
 obtain⟨v,a,rfl⟩:=vl b;have:=pW h a;rw[Ph _ a] at this;exact⟨v,this,a⟩
theorem Me(h:y5 ns)(x:ByteArray):y5 (lr ns x)/\∀y,y∈lr ns x↔y=x∨y∈ns:=by
 unfold lr;obtain⟨A,w,t⟩:=AO h x;by_cases f:xO ns x<ns.length/\ns.getD (xO ns x) ByteArray.empty=x
 ·rw[zb f];refine⟨h,fun y=>⟨ze,fun q=>q.elim (fun e=>?_) id⟩⟩;rw[e,←f.2,Ph _ f.1];exact zu f.1
 ·rw[za f];generalize xO ns x=p at *;refine⟨?_,fun y=>?_⟩
  ·unfold y5;have k:=qO p ns;have c:=h;unfold y5 at c;rw[←k,nG] at c;rw[nG,nC];have s:∀a∈ns.take p,P5 a x=true:=fun a j=>by
    obtain⟨i,l,rfl⟩:=vl j;have n:i<p:=by simp at l;omega
    have d:i<ns.length:=by omega
    have:=w i n;rw[Ph _ d] at this;simpa using this
   have m:∀b∈ns.drop p,P5 x b=true:=fun b g=>by
    obtain⟨i,l,rfl⟩:=vl g;have d:p+i<ns.length:=by simp at l;omega
    have u:=t (p+i) (by omega) d;rw[Ph _ d] at u;rw[List.getElem_drop];cases v:P5 x ns[p+i] with
    |true=>rfl
    |false=>
     exfalso;have e:=sG u v;by_cases r:i=0
     ·subst r;exact f ⟨by omega,by rw[Ph _ (by omega)];simpa using e⟩
     ·have o:=sj h (show p<p+i by omega) d;rw[Ph _ d,e] at o;have z:=t p (zh _) (by omega);rw[z] at o;cases o
   refine⟨c.1,⟨m,c.2.1⟩,fun a j b g=>?_⟩;rcases zw.1 g with rfl|g
   ·exact s a j
   ·exact c.2.2 a j b g
  ·have:y∈ns↔y∈ns.take p∨y∈ns.drop p:=by
    rw[←zW,qO]
   rw[this];simp only[zW,zw];constructor
   ·rintro(q|q|q)
    ·exact ze (zf q)
    ·exact zf q
    ·exact ze (ze q)
   ·rintro(q|q|q)
    ·exact ze (zf q)
    ·exact zf q
    ·exact ze (ze q)
theorem Ol(h:y5 ns)(x:ByteArray):y5 (vW ns x)/\∀y,y∈vW ns x↔(y=x/\zV x=false)∨y∈ns:=by
 unfold vW;cases a:zV x with
 |true=>simp[h]
 |false=>simpa using Me h x
theorem wG:∀(b:List ByteArray) {ns:List ByteArray},y5 ns->y5 (b.foldl vW ns)/\∀y,y∈b.foldl vW ns↔(y∈b/\zV y=false)∨y∈ns
 |[],ns,h=>⟨h,fun y=>by simp⟩
 |x::b,ns,h=>by
  obtain⟨g,d⟩:=Ol h x;obtain⟨e,f⟩:=wG b g;refine⟨e,fun y=>?_⟩;rw[uv,f,d];simp only[zw];constructor
  ·rintro(⟨c,a⟩|⟨rfl,a⟩|q)
   ·exact zf ⟨ze c,a⟩
   ·exact zf ⟨zf rfl,a⟩
   ·exact ze q
  ·rintro(⟨rfl|c,a⟩|q)
   ·exact ze (zf ⟨rfl,a⟩)
   ·exact zf ⟨c,a⟩
   ·exact ze (ze q)
theorem Cc:∀(a:List zj) {ns:List ByteArray},y5 ns->y5 (a.foldl ux ns)/\∀y,y∈a.foldl ux ns↔(∃l∈a,y∈l.args/\zV y=false)∨y∈ns
 |[],ns,h=>⟨h,fun y=>by simp⟩
 |l::a,ns,h=>by
  obtain⟨f,c⟩:=wG l.args h;obtain⟨d,e⟩:=Cc a (ns:=ux ns l) f;refine⟨d,fun y=>?_⟩;have b:∀y,y∈ux ns l↔(y∈l.args/\zV y=false)∨y∈ns:=c;rw[uv,e,b];simp only[zw,exists_eq_or_imp];constructor
  ·rintro(q|q|q)
   ·exact zf (ze q)
   ·exact zf (zf q)
   ·exact ze q
  ·rintro((q|q)|q)
   ·exact ze (zf q)
   ·exact zf q
   ·exact ze (ze q)
theorem Af:∀(cs:List zc) {ns:List ByteArray},y5 ns->y5 (cs.foldl vw ns)/\∀y,y∈cs.foldl vw ns↔(∃c∈cs,∃l∈zm c,y∈l.args/\zV y=false)∨y∈ns
 |[],ns,h=>⟨h,fun y=>by simp⟩
 |c::cs,ns,h=>by
  obtain⟨j,d⟩:=wG c.head.args h;obtain⟨i,g⟩:=Cc c.body (ns:=ux ns c.head) j;obtain⟨e,f⟩:=Af cs (ns:=vw ns c) i;refine⟨e,fun y=>?_⟩;have b:∀y,y∈ux ns c.head↔(y∈c.head.args/\zV y=false)∨y∈ns:=d;have a:∀y,y∈vw ns c↔(∃l∈c.body,y∈l.args/\zV y=false)∨y∈ux ns c.head:=g;rw[uv,f,a,b];simp only[zw,exists_eq_or_imp,zm];constructor
  ·rintro(q|q|q|q)
   ·exact zf (ze q)
   ·exact zf (zf (ze q))
   ·exact zf (zf (zf q))
   ·exact ze q
  ·rintro(((q|q)|q)|q)
   ·exact ze (ze (zf q))
   ·exact ze (zf q)
   ·exact zf q
   ·exact ze (ze (ze q))
theorem gG(cs:List zc):y5 (zp cs)/\∀y,y∈zp cs↔∃c∈cs,∃l∈zm c,y∈l.args/\zV y=false:=by
 obtain⟨b,a⟩:=Af cs (ns:=[]) List.Pairwise.nil;exact⟨b,fun y=>by rw[show zp cs=cs.foldl vw [] from rfl,a];simp⟩
end
section
open Classical
variable {vs ns:List ByteArray}{pl:List Nat}{t:List zg}{cs:List zc}
def jI(ns:List ByteArray)(σ:ByteArray->Nat)(l:zj)(i:Nat):Nat:=match l.args[i]? with
 |none=>0
 |some y=>if zV y=true then σ y else(yT ns y).getD 0
def vH(ns:List ByteArray)(σ:ByteArray->Nat)(l:zj):zk:=[jI ns σ l 0,jI ns σ l 1,jI ns σ l 2]
theorem Bs(a:∀k,pl.getD k 0<5)(n:ByteArray):ut vs pl n<5:=by
 unfold ut;split
 ·omega
 ·split
  ·omega
  ·exact a _
theorem M9(t:List zg)(ns vs:List ByteArray)(d:∀k,pl.getD k 0<5)(l:zj)(y:List Nat)(i:Nat):Pa (zK t ns vs pl l) y i=jI ns (fun v=>y.getD (ut vs pl v) 0) l i:=by
 unfold Pa jI;by_cases h:i<l.args.length
 ·have a:i<(zK t ns vs pl l).qg.length:=by simp[zK,uc];exact h
  rw[zb a,yq h,Ph _ a];have e:(zK t ns vs pl l).qg[i]=qY 0 (uc ns vs pl l) (uD ns vs pl l.args[i]):=by simp[zK,uc]
  obtain⟨c,f⟩:=nH 0 (uc ns vs pl l) (uD ns vs pl l.args[i]);rw[e];unfold Qj;rw[c,f];unfold uD;by_cases b:zV l.args[i]=true
  ·have:=Bs (vs:=vs) d l.args[i];simp[b,this]
  ·simp[b]
 ·have a:¬i<(zK t ns vs pl l).qg.length:=by simp[zK,uc];omega
  rw[za a,kR (by omega)]
theorem pF(t:List zg)(ns vs:List ByteArray)(a:∀k,pl.getD k 0<5)(l:zj)(y:List Nat):zG (zK t ns vs pl l) y=vH ns (fun v=>y.getD (ut vs pl v) 0) l:=by
 simp only[zG,vH,M9 t ns vs a]
theorem M4{σ τ:ByteArray->Nat}{l:zj}(h:∀y∈l.args,zV y=true->σ y=τ y):vH ns σ l=vH ns τ l:=by
 have:∀i,jI ns σ l i=jI ns τ l i:=by
  intro i;unfold jI;cases c:l.args[i]? with
  |none=>rfl
  |some y=>
   have b:=gz c;by_cases a:zV y=true
   ·simp only[a,if_true];exact h y b a
   ·simp[a]
 simp only[vH,this]
def sc(t:List zg)(ns:List ByteArray)(c:zc)(D:DB)(x:zk):Prop:=∃σ,(∀l∈c.body,l.neg=false->Pj D (zF t l.pred) (vH ns σ l))/\(∀l∈c.body,l.neg=true->D (zF t l.pred) (vH ns σ l)=none)/\x=vH ns σ c.head
theorem IU{k:Nat}{f:Nat->Nat}(h:∀p,p<k->∃i,i<k/\f i=p){i j:Nat}(g:i<k)(l:j<k)(e:f i=f j):i=j:=by
 by_cases c:i=j
 ·exact c
 ·have:=pU (l1:=List.range k) (l2:=((List.range k).erase j).map f) List.nodup_range (fun p m=>by
   obtain⟨a,n,d⟩:=h p (kG.1 m);by_cases b:a=j
   ·exact zB.2 ⟨i,(mD c).2 (kG.2 g),by rw[e,←b,d]⟩
   ·exact zB.2 ⟨a,(mD b).2 (kG.2 n),d⟩)
  rw[uH,nS (kG.2 l),List.length_range] at this;omega
theorem M7(m:vs.length<=5)(g:f8 pl vs.length){u v:ByteArray}(l:u∈vs)(h:v∈vs)(e:ut vs pl u=ut vs pl v):u=v:=by
 obtain⟨i,f,c⟩:=rO l;obtain⟨j,k,d⟩:=rO h;unfold ut at e;rw[c,d] at e;simp only at e;rw[za (by omega),za (by omega)] at e;have:=IU g.onto f k e;subst this;obtain⟨_,a⟩:=fo c;obtain⟨_,b⟩:=fo d;rw[←a,←b]
theorem Bb{c:zc}{o:Option (List Int)}{D:DB}{x:zk}(E:∀l∈zm c,∀y∈l.args,zV y=true->y∈zy c)(B:(zy c).length<=5)(e:f8 (xb (o.getD [])) (zy c).length):Q9 (gT t ns c o) D x↔sc t ns c D x:=by
 constructor
 ·rintro⟨y,r,q,w⟩;refine⟨fun v=>y.getD (ut (zy c) (xb (o.getD [])) v) 0,fun l b i=>?_,fun l b i=>?_,?_⟩
  ·have:=r (zK t ns (zy c) (xb (o.getD [])) l) (zB.2 ⟨l,xY.2 ⟨b,by simp[i]⟩,rfl⟩);rw[pF t ns _ e.five] at this;exact this
  ·have:=q (zK t ns (zy c) (xb (o.getD [])) l) (zB.2 ⟨l,xY.2 ⟨b,by simp[i]⟩,rfl⟩);rw[pF t ns _ e.five] at this;exact this
  ·rw[w];exact pF t ns _ e.five _ _
 ·rintro⟨σ,r,q,w⟩;let f:Nat->Nat:=fun p=>if d:∃v,v∈zy c/\ut (zy c) (xb (o.getD [])) v=p then σ d.choose else 0
  have n:∀v∈zy c,f (ut (zy c) (xb (o.getD [])) v)=σ v:=by
   intro v h;have d:∃u,u∈zy c/\ut (zy c) (xb (o.getD [])) u=ut (zy c) (xb (o.getD [])) v:=⟨v,h,rfl⟩;show(if d:∃u,u∈zy c/\ut (zy c) (xb (o.getD [])) u=ut (zy c) (xb (o.getD [])) v then σ d.choose else 0)=σ v;rw[dif_pos d,M7 B e d.choose_spec.1 h d.choose_spec.2]
  have C:∀p,p<5->((List.range 5).map f).getD p 0=f p:=by
   intro p s;rw[Ph _ (by simp;exact s)];simp
  have a:∀l∈zm c,zG (zK t ns (zy c) (xb (o.getD [])) l) ((List.range 5).map f)=vH ns σ l:=by
   intro l b;rw[pF t ns _ e.five];refine M4 fun y A m=>?_;rw[C _ (Bs e.five _),n y (E l b y A m)]
  refine⟨(List.range 5).map f,fun l b=>?_,fun l b=>?_,?_⟩
  ·obtain⟨z,k,rfl⟩:=zB.1 b;obtain⟨g,j⟩:=xY.1 k;rw[a z (by simp[zm,g])];exact r z g (by simpa using j)
  ·obtain⟨z,k,rfl⟩:=zB.1 b;obtain⟨g,j⟩:=xY.1 k;rw[a z (by simp[zm,g])];exact q z g (by simpa using j)
  ·rw[w];exact(a c.head (by simp[zm])).symm
theorem Pt.covered{g:List zg}(h:Pt cs g t){c:zc}(i:c∈cs):∀l∈zm c,∀y∈l.args,zV y=true->y∈zy c:=by
 have e:=h.safe c i;simp only[xe,uZ,lq,dN,Bool.not_eq_true'] at e;intro l a y b d;rcases zw.1 a with rfl|a
 ·exact mp.1 e.1 y b d
 ·cases f:l.neg with
  |false=>exact gJ.2 ⟨d,l,a,f,b⟩
  |true=>
   rcases e.2 l a with q|q
   ·rw[f] at q;cases q
   ·exact mp.1 q y b d
def LG(t:List zg)(ns:List ByteArray)(cs:List zc)(s:Nat)(D:DB)(p:Nat)(x:zk):Prop:=∃c∈cs,0<c.body.length/\xz t c.head.pred=s/\p=zF t c.head.pred/\sc t ns c D x
theorem tQ{e:Option (List (Option (List Int)))}{r:zr}:r∈uJ t ns e cs↔∃i,∃b:i<cs.length,0<cs[i].body.length/\r=gT t ns cs[i] (vA e i):=by
 unfold uJ;rw[lh];constructor
 ·rintro⟨⟨c,i⟩,g,a⟩;have f:=n8.1 g;simp only at a f;obtain⟨b,rfl⟩:=jG.1 f;split at a
  ·rename_i d;simp only[zs] at a;exact⟨i,b,d,a.symm⟩
  ·cases a
 ·rintro⟨i,b,d,rfl⟩;refine⟨(cs[i],i),n8.2 (by simp[b]),?_⟩;simp only;rw[zb d]
theorem Gp{m:List zg}(h:Pt cs m t)(ns:List ByteArray)(f:Option (List (Option (List Int))))(j:∀i (b:i<cs.length),f8 (xb ((vA f i).getD [])) (zy cs[i]).length)(s:Nat)(D:DB)(p:Nat)(x:zk):gN ((uJ t ns f cs).filter fun r=>decide (r.qh=s)) D p x↔LG t ns cs s D p x:=by
 constructor
 ·rintro⟨r,n,g,d⟩;obtain⟨k,l⟩:=xY.1 n;obtain⟨i,b,e,rfl⟩:=tQ.1 k;have a:=zu b;exact⟨cs[i],a,e,of_decide_eq_true l,g,(Bb (h.covered a) (lY (h.many _ a)) (j i b)).1 d⟩
 ·rintro⟨c,a,e,g,d,o⟩;obtain⟨i,b,rfl⟩:=kX.1 a;exact⟨gT t ns cs[i] (vA f i),xY.2 ⟨tQ.2 ⟨i,b,e,rfl⟩,decide_eq_true g⟩,d,(Bb (h.covered a) (lY (h.many _ a)) (j i b)).2 o⟩
end
end Go.Proofs.YteampbddflhngaaGreat
