import Derived.Test.YteampbddflhngaaGreatV38
import Derived.Test.YteampbddflhngaaGreatV42
namespace Go.Proofs.YteampbddflhngaaGreat
set_option linter.all false
set_option maxRecDepth 100000
set_option maxHeartbeats 4000000
open Go.Proofs.Tryz Go.RowKit
section
variable {lo lp:Nat}{ns:List ByteArray}{tbs:List Nat}
structure kC (lo lp:Nat) (w:World) (rb:Nat) (t:List zg) (ns:List ByteArray) (R:zx) (pv nv rv:Value) (tbs:List Nat):Prop where
 low:lo<=rb
 box:OZ w rb #[pv,nv,rv,.int .i64 R.count,.int .i64 R.qx,.int .i64 R.jh] 156
 preds:w.ownsRow lp 221 3 pv t.length (xZ t)
 vals:Pg lo w nv ns
 rows:w.ownsRow lo 162 1 rv R.rows.length (Pu tbs)
 tlen:tbs.length=R.rows.length
 tries:∀p (_:p<R.rows.length) (_:p<tbs.length),∃fp,zX lo w tbs[p] R.rows[p] fp
 few:t.length<=1000/\ns.length<=1000/\R.rows.length<=1000
theorem kC.below{w i:World}{d:Nat}{t:List zg}{ns:List ByteArray}{R:zx}{e f g:Value}{tbs:List Nat}(h:kC lo lp w d t ns R e f g tbs)(c:Below w.heap.size w i):kC lo lp i d t ns R e f g tbs:=
 ⟨h.low,h.box.below c,zE h.preds c,h.vals.below c,zE h.rows c,h.tlen,fun p a b=>by obtain⟨j,q⟩:=h.tries p a b;exact⟨j,q.below c⟩,h.few⟩
theorem kC.tg{w:World}{a:Nat}{t:List zg}{R:zx}{b d c:Value}(h:kC lo lp w a t ns R b d c tbs):TG lp w a 0 t:=⟨b,h.box.lt,h.box.rules.1 0,h.preds⟩
theorem kC.cat{w:World}{a:Nat}{t:List zg}{R:zx}{d b c:Value}(h:kC lo lp w a t ns R d b c tbs):QQ lo w a 1 ns:=⟨h.box.lt,b,h.box.rules.1 1,h.vals⟩
def mK(t:List zg)(ns:List ByteArray)(R:zx)(a:ByteArray)(row:List ByteArray):Nat×Nat:=
 if (zY t a).isSome=false∨zF t a≥R.rows.length then(0,11)
 else if row.length≠xI t (zF t a) then(0,12)
 else match uq ns row 0 [0,0,0] with
  |none=>(0,12)
  |some r=>match xB (R.rows.getD (zF t a) zi.zero) r with
   |none=>(0,12)
   |some k=>(k,0)
theorem El(ns:List ByteArray):∀(ts:List ByteArray) (i:Nat) (r a:zk),uq ns ts i r=some a->a.length=r.length
 |[],i,r,a,h=>by simp[uq] at h;rw[h]
 |t::ts,i,r,a,h=>by
  unfold uq at h;split at h
  ·cases h
  ·split at h
   ·cases h
   ·have:=El ns ts (i+1) _ a h;simpa using this
theorem i6(w:World):Below w.heap.size w w:=zo _ _
theorem Jl{ae:Nat}(w:World)(C:Nat)(t:List zg)(ns:List ByteArray)(R:zx)(pv nv rv:Value)(tbs:List Nat)(b:ByteArray)(row:List ByteArray)(tv:Value)(h:kC lo lp w C t ns R pv nv rv tbs)(ht:Pg ae w tv row)(hl:row.length<=2000000):
  Calls prog 43 #[.pointer (some ⟨C,0,none⟩),.string b,tv] w fun e f=>e=.returned (.tuple #[.int .i64 ((mK t ns R b row).1:Nat),.int .i64 ((mK t ns R b row).2:Nat)])/\Below w.heap.size w f:=by
 have k:=OY (Eb lp w C 0 t b h.tg h.few.1);have A:Hid (Calls prog 80 #[.pointer (some ⟨C,0,none⟩),.int .i64 (zF t b:Nat)] w fun e f=>e=.returned (.int .i64 (xI t (zF t b):Nat))/\f=w):=AW lp w C 0 t _ h.tg;have n:=OY (Ir w C ns row tv h.cat h.few.2.1 ht hl);have F:=OY h;obtain⟨ar,p⟩:∃a,a=mK t ns R b row:=⟨_,rfl⟩;rw[←p];have c:=OY p;clear p;unfold mK at c;obtain⟨hc,hf,U⟩:=h.box.boxed;obtain⟨aq,u,ad⟩:=zq h.rows;subst ad;obtain⟨au,an,ai⟩:=ht.qw;subst ai;have d2:=hc 2;have am:=h.few.2.2;clear h ht hc;by_cases G:(zY t b).isSome=false
 ·rw[zb (zf G)] at c;rw[G] at k;clear G;generalize zF t b=g at *;go_enter func43,ntmps43;go_wp2_with (first|(go_at_call 77;refine k.out.mono ?_;rintro e L ⟨rfl,d⟩;obtain rfl:=d.symm))
  go_ret2
  exact⟨by rw[c.out];rfl,i6 w⟩
 ·have K:(zY t b).isSome=true:=by cases D:(zY t b).isSome with|true=>rfl|false=>exact zC D G
  rw[K] at k;by_cases Q:zF t b≥R.rows.length
  ·rw[zb (ze Q)] at c;have ab:(R.rows.length:Int)<=(zF t b:Int):=by omega
   clear G K;generalize zF t b=g at *;go_enter func43,ntmps43;go_wp2_with (first|(go_at_call 77;refine k.out.mono ?_;rintro e L ⟨rfl,d⟩;obtain rfl:=d.symm))
   go_ret2
   exact⟨by rw[c.out];rfl,i6 w⟩
  ·rw[za (by rintro(q|q);exact G q;exact Q q)] at c;have ab:¬(R.rows.length:Int)<=(zF t b:Int):=by omega
   clear G K;generalize zF t b=g at *;by_cases B:row.length≠xI t g
   ·rw[zb B] at c;have N:¬(row.length:Int)=(xI t g:Int):=by omega
    clear B;generalize xI t g=af at *;go_enter func43,ntmps43;go_wp2_with (first|(go_at_call 77;refine k.out.mono ?_;rintro e L ⟨rfl,d⟩;obtain rfl:=d.symm)|(go_at_call 80;refine A.out.mono ?_;rintro e L ⟨rfl,d⟩;obtain rfl:=d.symm))
    go_ret2
    exact⟨by rw[c.out];rfl,i6 w⟩
   ·rw[za B] at c;have N:(row.length:Int)=(xI t g:Int):=by omega
    have ak:=OY (show row.length=xI t g by omega);rw[←ak.out] at A;clear B N;cases s:uq ns row 0 [0,0,0] with
    |none=>
     rw[s] at c n;simp only[eU] at n;clear s;go_enter func43,ntmps43;go_wp2_with (first|(go_at_call 77;refine k.out.mono ?_;rintro e L ⟨rfl,d⟩;obtain rfl:=d.symm)|(go_at_call 80;refine A.out.mono ?_;rintro e L ⟨rfl,d⟩;obtain rfl:=d.symm)|(go_at_call 82;refine n.out.mono ?_;rintro e i ⟨rfl,l⟩))
     go_ret2
     exact⟨by rw[c.out];rfl,zM l (by go_grown) (zh _)⟩
    |some r=>
     rw[s] at c n;have T:=El ns row 0 _ r s;obtain⟨x,y,z,rfl⟩:∃x y z,r=[x,y,z]:=by
      match r,T with
      |[x,y,z],_=>exact⟨x,y,z,rfl⟩
     simp only[eU,List.getD_cons_zero,List.getD_cons_succ] at n;have H:g<R.rows.length:=by omega
     have W:g<tbs.length:=by rw[F.out.tlen];exact H
     obtain⟨M,ah,E,_,P,O⟩:=y7 F.out.rows (by omega);simp only[Value.slice.injEq] at E;have aa:=E.1;clear E;subst aa;have aj:=O g (.pointer (some ⟨tbs[g],0,none⟩)) (by simp[Pu,W,pt]);have X:Hid (∀v,Below w.heap.size w v->Calls prog 83 #[.pointer (some ⟨tbs[g],0,none⟩),.agg #[.int .i64 x,.int .i64 y,.int .i64 z]] v fun e f=>e=.returned (.tuple #[.int .i64 (((xB R.rows[g] [x,y,z]).getD 0:Nat):Int),.bool (xB R.rows[g] [x,y,z]).isSome])/\Below v.heap.size v f):=fun v Z=>by
      obtain⟨fp,q⟩:=F.out.tries g H W;exact Ey v _ _ fp x y z (q.below Z)
     dsimp only at c;rw[show R.rows.getD g zi.zero=R.rows[g] by simp[List.getD,H]] at c;generalize xB R.rows[g] [x,y,z]=mk at *;generalize tbs[g]=Y at *;have ao:(g:Int)<(R.rows.length:Int):=by omega
     clear s T O;go_enter func43,ntmps43;go_upto_region 9 with (first|(go_at_call 77;refine k.out.mono ?_;rintro e L ⟨rfl,d⟩;obtain rfl:=d.symm)|(go_at_call 80;refine A.out.mono ?_;rintro e L ⟨rfl,d⟩;obtain rfl:=d.symm)|(go_at_call 82;refine n.out.mono ?_;rintro e i ⟨rfl,l⟩;have y2:=zl l U d2;have yp:=zl l P aj;have yl:=xo U l.size;have yg:=xo P l.size))
     have o:Below i.heap.size i (i.alloc (.cells #[.int .i64 x,.int .i64 y,.int .i64 z] 165)):=(by go_grown);have j:=OZ.new i #[.int .i64 x,.int .i64 y,.int .i64 z] 165;generalize i.alloc (.cells #[.int .i64 x,.int .i64 y,.int .i64 z] 165)=S at *;have u2:=zl o yl y2;have up:=zl o yg yp;have v0:S.cell? ⟨i.heap.size,0,none⟩=some (.int .i64 x):=by rw[j.rules.1];rfl
     have v1:S.cell? ⟨i.heap.size,1,none⟩=some (.int .i64 y):=by rw[j.rules.1];rfl
     have v2:S.cell? ⟨i.heap.size,2,none⟩=some (.int .i64 z):=by rw[j.rules.1];rfl
     have V:=Pc l o;have al:=xo yl o.size;have ac:=xo yg o.size;have I:=j.lt;have m:Hid (∀v,Below S.heap.size S v->Calls prog 83 #[.pointer (some ⟨Y,0,none⟩),.agg #[.int .i64 x,.int .i64 y,.int .i64 z]] v fun e f=>e=.returned (.tuple #[.int .i64 ((mk.getD 0:Nat):Int),.bool mk.isSome])/\Hid (Below w.heap.size w f)/\f.cell? ⟨C,2,none⟩=some (.slice (some ⟨M,0,none⟩) R.rows.length u)/\f.cell? ⟨M,g,none⟩=some (.pointer (some ⟨Y,0,none⟩))/\f.cell? ⟨i.heap.size,0,none⟩=some (.int .i64 x)/\f.cell? ⟨i.heap.size,1,none⟩=some (.int .i64 y)/\f.cell? ⟨i.heap.size,2,none⟩=some (.int .i64 z)):=fun v Z=>by
      refine(X.out v (Pc V Z)).mono ?_;rintro e f ⟨rfl,ag⟩;have D:=Pc Z ag;exact⟨rfl,Pc V D,(D.cell al).trans u2,(D.cell ac).trans up,(D.cell I).trans v0,(D.cell I).trans v1,(D.cell I).trans v2⟩
     clear j o y2 yp yl yg X;cases mk with
     |none=>
      simp only[kc,jW] at m;go_region_held3 (fun f=>f.cell? ⟨C,2,none⟩=some (.slice (some ⟨M,0,none⟩) R.rows.length u)/\f.cell? ⟨M,g,none⟩=some (.pointer (some ⟨Y,0,none⟩))/\f.cell? ⟨i.heap.size,0,none⟩=some (.int .i64 x)/\f.cell? ⟨i.heap.size,1,none⟩=some (.int .i64 y)/\f.cell? ⟨i.heap.size,2,none⟩=some (.int .i64 z)) (first|go_keep|(go_simp;done)) (first|(go_at_call 83;refine(m.out _ (by exact(zI (zo _ _) 1))).mono ?_;rintro e w5 ⟨rfl,J,a2,ap,a0,a1,a3⟩))
      go_wp2;go_ret2
      exact⟨by rw[c.out];rfl,J.out⟩
     |some kk=>
      simp only[uo,qJ] at m;go_region_held3 (fun f=>f.cell? ⟨C,2,none⟩=some (.slice (some ⟨M,0,none⟩) R.rows.length u)/\f.cell? ⟨M,g,none⟩=some (.pointer (some ⟨Y,0,none⟩))/\f.cell? ⟨i.heap.size,0,none⟩=some (.int .i64 x)/\f.cell? ⟨i.heap.size,1,none⟩=some (.int .i64 y)/\f.cell? ⟨i.heap.size,2,none⟩=some (.int .i64 z)) (first|go_keep|(go_simp;done)) (first|(go_at_call 83;refine(m.out _ (by exact(zI (zo _ _) 1))).mono ?_;rintro e w5 ⟨rfl,J,a2,ap,a0,a1,a3⟩))
      go_wp2;go_ret2
      exact⟨by rw[c.out];rfl,J.out⟩
end
section
variable {lo lp:Nat}{a1 a2 a3:Option Addr}{ps:List (Value×Value×Value)}
structure GM (S:qU):Prop where
 rules:rZ S.qj.length S.rules
 many:S.qj.length<=1000
 small:∀a∈S.qj,a<=100000000
 rows:∀f∈S.facts,f.row.length=3
 facts:S.facts.length<=1000000
 qf:S.qf<=1000
structure DC (cs:List zc) (t:List zg) (os:Option (List (Option (List Int)))):Prop where
 len:cs.length<=1000
 names:t.length<=1000
 fine:∀c∈cs,vD c
 sums:∀c∈cs,c.head.args.length+xi c.body<=1000/\c.body.length<=900
 few:BK cs
 vals:(zp cs).length<=1000
 jm:∀n,xz t n<=1000000
 ords:(os.getD []).length<=2000000
 each:∀o∈os.getD [],(o.getD []).length<=2000000
 ordok:fW cs os=true->∀o∈os.getD [],(o.getD []).length<=1000
 set:fW cs os=true->GM (qF t (zp cs) os cs)
def nc(a w:World)(S:qU)(s:Value):Prop:=∃(c b:Nat) (a1:Option Addr) (f:Nat) (a2:Option Addr) (e:Nat) (a3:Option Addr) (d:Nat) (ps:List (Value×Value×Value)),s=.pointer (some ⟨b,0,none⟩)/\a.heap.size<=b/\a.heap.size<=c/\c<=w.heap.size/\OZ w b #[.int .i64 S.qf,.slice a1 S.qj.length f,.slice a2 S.facts.length e,.slice a3 S.rules.length d] 146/\Hid (kP c w (.slice a1 S.qj.length f) (.slice a2 S.facts.length e) (.slice a3 S.rules.length d) S ps)/\Hid (Below a.heap.size a w)
theorem kP.saveT{w i:World}{g e f:Value}{S:qU}{ps:List (Value×Value×Value)}{T:TypeId}{M:List Nat}(h:kP lo w g e f S ps)(c:zd M w i)(a:Px w T M)(j:3≠T)(k:210≠T)(l:284≠T)(d:204≠T)(b:207≠T):kP lo i g e f S ps:=⟨yE h.ari c a j,yE h.fac c a k,h.rul.saveT c a l d b⟩
theorem kP.below{w e:World}{d b c:Value}{S:qU}{ps:List (Value×Value×Value)}(h:kP lo w d b c S ps)(a:Below w.heap.size w e):kP lo e d b c S ps:=⟨zE h.ari a,zE h.fac a,h.rul.below a⟩
theorem nc.one{e W a:World}{S:qU}{d c b:Nat}(g:Below e.heap.size e W)(i:Below W.heap.size W a)(h:kP W.heap.size a (.slice a1 S.qj.length d) (.slice a2 S.facts.length c) (.slice a3 S.rules.length b) S ps):nc e (a.alloc (.cells #[.int .i64 S.qf,.slice a1 S.qj.length d,.slice a2 S.facts.length c,.slice a3 S.rules.length b] 146)) S (.pointer (some ⟨a.heap.size,0,none⟩)):=by
 have f:Below a.heap.size a (a.alloc (.cells #[.int .i64 S.qf,.slice a1 S.qj.length d,.slice a2 S.facts.length c,.slice a3 S.rules.length b] 146)):=(zo _ _).alloc (zh _) _;have j:=g.size;have k:=i.size;have l:=f.size;exact⟨W.heap.size,a.heap.size,a1,d,a2,c,a3,b,ps,rfl,by omega,j,by omega,OZ.new _ _ _,h.below f,Pc (Pc g i) f⟩
theorem nc.two{g W f:World}{a:Nat}{s t p q:Value}{S:qU}{d e c:Nat}(b:g.heap.size<=a)(l:Below g.heap.size g W)(n:Below W.heap.size W f)(i:OZ f a #[s,t,p,q] 146)(h:kP W.heap.size f (.slice a1 S.qj.length d) (.slice a2 S.facts.length e) (.slice a3 S.rules.length c) S ps):nc g ((((f.setCell ⟨a,0,none⟩ (.int .i64 S.qf)).setCell ⟨a,1,none⟩ (.slice a1 S.qj.length d)).setCell ⟨a,2,none⟩ (.slice a2 S.facts.length e)).setCell ⟨a,3,none⟩ (.slice a3 S.rules.length c)) S (.pointer (some ⟨a,0,none⟩)):=by
 have r:=l.size;have v:=n.size;have m:=i.set 0 (.int .i64 S.qf);have j:=m.set 1 (.slice a1 S.qj.length d);have k:=j.set 2 (.slice a2 S.facts.length e);have o:=k.set 3 (.slice a3 S.rules.length c);have u:kP W.heap.size ((((f.setCell ⟨a,0,none⟩ (.int .i64 S.qf)).setCell ⟨a,1,none⟩ (.slice a1 S.qj.length d)).setCell ⟨a,2,none⟩ (.slice a2 S.facts.length e)).setCell ⟨a,3,none⟩ (.slice a3 S.rules.length c)) (.slice a1 S.qj.length d) (.slice a2 S.facts.length e) (.slice a3 S.rules.length c) S ps:=(((h.saveT (zd.set _ _ _ (.int .i64 S.qf)) (Px.box i) (by decide) (by decide) (by decide) (by decide) (by decide)).saveT (zd.set _ _ _ (.slice a1 S.qj.length d)) (Px.box m) (by decide) (by decide) (by decide) (by decide) (by decide)).saveT (zd.set _ _ _ (.slice a2 S.facts.length e)) (Px.box j) (by decide) (by decide) (by decide) (by decide) (by decide)).saveT (zd.set _ _ _ (.slice a3 S.rules.length c)) (Px.box k) (by decide) (by decide) (by decide) (by decide) (by decide);exact⟨W.heap.size,a,a1,d,a2,e,a3,c,ps,rfl,b,r,by simp;omega,by simpa using o,u,((((Pc l n).setCell b _).setCell b _).setCell b _).setCell b _⟩
theorem Pe.belowLo{ok:TypeId->zn->Prop}{w c:World}{own a:Nat->zn}(h:Pe lo ok w own c a)(f:lo<=w.heap.size):Below lo w c:=by
 obtain⟨_,M,d,g⟩:=h;exact d.below (fun b e=>(g b e).1) f
def Ia(lp:Nat)(t:List zg)(ns:List ByteArray)(b:Option zx)(w:World)(e:Ending)(d:World):Prop:=match b with
 |none=>e=.returned (.tuple #[.pointer none,.int .i64 10])/\Below w.heap.size w d
 |some R=>∃a f g h c,w.heap.size<=a/\e=.returned (.tuple #[.pointer (some ⟨a,0,none⟩),.int .i64 0])/\kC w.heap.size lp d a t ns R f g h c/\Below w.heap.size w d
theorem I0(w:World)(d f:Value)(a b:Int)(c:-9223372036854775808<=a/\a<9223372036854775808)(g:-9223372036854775808<=b/\b<9223372036854775808)(h:a<0∨1048576<a∨b<0∨1048576<b):
  Calls prog 35 #[d,f,.int .i64 a,.int .i64 b] w fun e i=>e=.returned (.tuple #[.pointer none,.int .i64 8])/\i=w:=by
 go_enter func35,ntmps35;by_cases l:a<0
 ·go_wp2;go_ret2
  exact⟨rfl,rfl⟩
 ·by_cases k:1048576<a
  ·go_wp2;go_ret2
   exact⟨rfl,rfl⟩
  ·by_cases m:b<0
   ·go_wp2;go_ret2
    exact⟨rfl,rfl⟩
   ·have j:1048576<b:=by omega
    go_wp2;go_ret2
    exact⟨rfl,rfl⟩
theorem Jx(w:World)(pb:Nat)(cs:List zc)(t:List zg)(ov:Value)(os:Option (List (Option (List Int))))(h qx P:Nat)(L:Option zx)(hP:kp lp w pb cs t)(ho:dW w ov os)(j:DC cs t os)(J:fW cs os=true)(h1:h<=1048576)(m:qx<=1048576)(ap:lp<=w.heap.size)(hr:pY P (qF t (zp cs) os cs) h qx=some L):
  Calls prog 35 #[.pointer (some ⟨pb,0,none⟩),ov,.int .i64 h,.int .i64 qx] w fun e i=>Ia lp t (zp cs) L w e i:=by
 have HP:=OY hP;obtain⟨_,cv,pv,z,F,am⟩:=hP;have ag:=OY (F4 w cv ov cs os F j.fine j.len ho j.ords j.each);rw[J] at ag;have az:=OY fun W hW=>JU W cv cs (F.below hW) j.few;have a7:=OY fun W cb hW hC=>Kr W pb 1 cb t (zp cs) cs cv ov os ⟨pv,(z.below hW).lt,(z.below hW).rules.1 1,zE am hW⟩ hC j.names j.vals (F.below hW) j.sums j.len (ho.below hW) j.ords (j.ordok J) j.jm;have l:=OY (j.set J);have a8:Hid ((zp cs).length<=1000/\t.length<=1000):=⟨j.vals,j.names⟩;have a5:=OY hr;obtain⟨hc,hf,s⟩:=z.boxed;have d0:=hc 0;have d1:=hc 1;simp only[hZ,gY,fY] at d0 d1;clear J hr hc j F ho;generalize qF t (zp cs) os cs=S at *;generalize zp cs=V at *;have aK:=OY z;have an:=OY am;clear z am;go_enter func35,ntmps35;go_upto_region 6 with (first|(go_at_call 71;refine ag.out.mono ?_;rintro e w1 ⟨rfl,v⟩;have y0:=zl v s d0;have yl:=xo s v.size)|(go_at_call 72;refine(az.out _ v).mono ?_;rintro e w2 ⟨v2,rfl,ad,aw⟩;obtain⟨k,f,rfl⟩:=ad.qw))
 obtain⟨W3,aa⟩:∃W3,W3=w2.alloc (.cells #[.slice k V.length f] 141):=⟨_,rfl⟩;have al:Below w2.heap.size w2 (w2.alloc (.cells #[.slice k V.length f] 141)):=(by go_grown);have I:=OZ.new w2 #[.slice k V.length f] 141;have ab:=(ad.below al).low (show w.heap.size<=w1.heap.size from v.size);have ak:=Pc v aw;have r:=Pc ak al;have aB:=ak.size;rw[←aa] at I ab r;rw[←aa];generalize w2.heap.size=cb at *;have ah:=OY I;have ac:=OY ab;have x0:=zl r s d0;have ay:=I.lt;have xl:=xo s r.size;have U:Hid (∀W,Below W3.heap.size W3 W->Calls prog 73 #[cv,.pointer (some ⟨pb,1,none⟩),.pointer (some ⟨cb,0,none⟩),ov] W fun e i=>∃a1 O a2 T a3 c3 ps,e=.returned (.agg #[.int .i64 S.qf,.slice a1 S.qj.length O,.slice a2 S.facts.length T,.slice a3 S.rules.length c3])/\Hid (kP W.heap.size i (.slice a1 S.qj.length O) (.slice a2 S.facts.length T) (.slice a3 S.rules.length c3) S ps)/\Below W.heap.size W i/\i.cell? ⟨pb,0,none⟩=some cv):=fun W J=>by
  refine(a7.out W cb (Pc r J) ⟨zT ap aB,_,ah.out.below J,(ac.out.below J).low ap⟩).mono ?_;rintro e i ⟨av,fv,rv,ps,h1,m,h3⟩;have hq:=Pc J h3;obtain⟨a1,O,rfl⟩:=zq m.ari;obtain⟨a2,T,rfl⟩:=zq m.fac;obtain⟨a3,c3,rfl⟩:=zq m.rul.own;exact⟨a1,O,a2,T,a3,c3,ps,h1,m,h3,(hq.cell xl).trans x0⟩
 clear aa I ab al az ag a7 y0 yl ad aw v ak w1 w2 d0;go_cut [11] from 40 to 48 (fun aA wx=>nc W3 wx S aA)
 case first=>
  go_region_held3 (fun i=>i.cell? ⟨pb,0,none⟩=some cv) (first|go_keep|(go_simp;done)) (first|(go_at_call 73;refine(U.out _ (by exact(by go_grown))).mono ?_;rintro e w4 ⟨a1,O,a2,T,a3,c3,ps,rfl,A,ae,z0⟩;(try (with_reducible refine OZ.carry (OZ.drew (OZ.new W3 #[.int .i64 0,.slice none 0 0,.slice none 0 0,.slice none 0 0] 146)) ae ?_;intro ao;obtain⟨aG,aH,aI⟩:=ao.boxed))))
  all_goals
   go_wp2_with fail
   go_meet
   case rel=>first|exact nc.one (W:=W3.drew) (by go_grown) ae A.out|exact nc.two (zh _) (W:=(W3.alloc (.cells #[.int .i64 0,.slice none 0 0,.slice none 0 0,.slice none 0 0] 146)).drew) (by go_grown) ae ao A.out
 case rest=>
  clear U x0;obtain⟨fl,sb,a1,O,a2,T,a3,c3,ps,rfl,aJ,ax,af,a6,A,ai⟩:=hcut;have K:=OY (QI wc S ps _ _ _ h qx P L A.out af l.out.rules l.out.many l.out.small l.out.rows l.out.facts ⟨l.out.qf,h1,m⟩ a5.out);obtain⟨aD,aC,aF⟩:=a6.boxed;have aj:=Pc r ai.out;have aL:=OY ay;have G:=zT r.size ax;clear A l a5 ay xl;cases L with
  |none=>
   have n:Hid (Calls prog 74 #[.agg #[.int .i64 S.qf,.slice a1 S.qj.length O,.slice a2 S.facts.length T,.slice a3 S.rules.length c3],.int .i64 h,.int .i64 qx] wc fun e i=>e=.returned (.tuple #[.agg #[.slice none 0 0,.int .i64 0,.int .i64 0,.int .i64 0],.bool false])/\Below fl wc i):=by
    refine K.out.mono ?_;rintro e i ⟨h1,a4,m⟩;exact⟨h1,m.belowLo af⟩
   clear K;go_wp2_with (first|(go_at_call 74;refine n.out.mono ?_;rintro e H ⟨rfl,E⟩))
   go_ret2
   exact⟨rfl,zM (aj.trans (E.mono G)) (by go_grown) (zh _)⟩
  |some R=>
   have n:Hid (Calls prog 74 #[.agg #[.int .i64 S.qf,.slice a1 S.qj.length O,.slice a2 S.facts.length T,.slice a3 S.rules.length c3],.int .i64 h,.int .i64 qx] wc fun e i=>∃d c g,e=.returned (.tuple #[.agg #[.slice d R.rows.length c,.int .i64 R.count,.int .i64 R.qx,.int .i64 R.jh],.bool true])/\Hid (i.ownsRow fl 162 1 (.slice d R.rows.length c) R.rows.length (Pu g)/\g.length=R.rows.length/\(∀p (_:p<R.rows.length) (_:p<g.length),∃M,zX fl i g[p] R.rows[p] M)/\R.rows.length<=1000)/\Below fl wc i):=by
    refine K.out.mono ?_;rintro e i ⟨a4,rb,Q,h1,m,h3⟩;obtain⟨d,c,aq⟩:=zq m.rows;refine⟨d,c,Q.tbs,by rw[h1,aq],⟨by rw[←aq];exact m.rows,m.tlen,fun p a b=>?_,m.few.1⟩,h3.belowLo af⟩;obtain⟨M,q,_⟩:=m.tries p a b;exact⟨M,q⟩
   clear K;go_upto_region 10 with (first|(go_at_call 74;refine n.out.mono ?_;rintro e H ⟨d,c,g,rfl,a9,E⟩))
   have au:=aj.trans (E.mono G);have C:=ai.out.trans (E.mono ax);have x:Below H.heap.size H (H.alloc (.cells #[.slice d R.rows.length c,.int .i64 R.count,.int .i64 R.qx,.int .i64 R.jh] 152)):=(by go_grown);have Z:=OZ.new H #[.slice d R.rows.length c,.int .i64 R.count,.int .i64 R.qx,.int .i64 R.jh] 152;have X:=(ah.out.below C).below x;have ar:=OY ((ac.out.below C).below x);have B:=Pc au x;have a0:=OY (zE an.out B);have y:Hid (World.ownsRow (H.alloc (.cells #[.slice d R.rows.length c,.int .i64 R.count,.int .i64 R.qx,.int .i64 R.jh] 152)) w.heap.size 162 1 (.slice d R.rows.length c) R.rows.length (Pu g)/\g.length=R.rows.length/\(∀p (_:p<R.rows.length) (_:p<g.length),∃M,zX w.heap.size (H.alloc (.cells #[.slice d R.rows.length c,.int .i64 R.count,.int .i64 R.qx,.int .i64 R.jh] 152)) g[p] R.rows[p] M)/\R.rows.length<=1000):=by
    obtain⟨q1,q2,q3,q4⟩:=a9.out;refine⟨yr (zE q1 x) G,q2,fun p a b=>?_,q4⟩;obtain⟨M,q⟩:=q3 p a b;exact⟨M,(q.below x).low G⟩
   obtain⟨N,o,aE⟩:=zq an.out;subst aE;have y1:=zl B s d1;have yl:=xo s B.size;have D:=B.size;clear x C au a9 n E aj ai ac ah a6 aD aC aF;generalize H.alloc (.cells #[.slice d R.rows.length c,.int .i64 R.count,.int .i64 R.qx,.int .i64 R.jh] 152)=W6 at *;generalize H.heap.size=ob at *;obtain⟨oc,of,ol⟩:=Z.boxed;have o0:=oc 0;have o1:=oc 1;have o2:=oc 2;have o3:=oc 3;obtain⟨bc,bf,bl⟩:=X.boxed;have b0:=bc 0;simp only[hZ,gY,fY] at o0 o1 o2 o3 b0;clear oc bc Z X;go_region
   have u:Below W6.heap.size W6 (W6.alloc (.cells #[.slice N t.length o,.slice k V.length f,.slice d R.rows.length c,.int .i64 R.count,.int .i64 R.qx,.int .i64 R.jh] 156)).drew:=(by go_grown);have Y:Hid (kC w.heap.size lp (W6.alloc (.cells #[.slice N t.length o,.slice k V.length f,.slice d R.rows.length c,.int .i64 R.count,.int .i64 R.qx,.int .i64 R.jh] 156)).drew W6.heap.size t V R (.slice N t.length o) (.slice k V.length f) (.slice d R.rows.length c) g/\Below w.heap.size w (W6.alloc (.cells #[.slice N t.length o,.slice k V.length f,.slice d R.rows.length c,.int .i64 R.count,.int .i64 R.qx,.int .i64 R.jh] 156)).drew):=by
    refine⟨⟨D,OZ.drew (OZ.new _ _ _),zE a0.out u,ar.out.below u,zE y.out.1 u,y.out.2.1,fun p a b=>?_,⟨a8.out.2,a8.out.1,y.out.2.2.2⟩⟩,Pc B u⟩;obtain⟨M,q⟩:=y.out.2.2.1 p a b;exact⟨M,q.below u⟩
   clear u a0 ar y o0 o1 o2 o3 b0;go_wp2;go_ret2
   exact⟨W6.heap.size,_,_,_,g,D,rfl,Y.out.1,Y.out.2⟩
end
theorem Pt.runok{cs:List zc}{v t:List zg}(h:Pt cs v t):DC cs t none/\rB (qF t (zp cs) none cs):=by
 have b:rB (qF t (zp cs) none cs):=sQ h _ none (fun i u=>tw (lY (h.many _ (zu u))));obtain⟨_,j,m⟩:=h.low;have s:=h.few;have q:=o5 cs;have p:=C2 cs;have o:(zp cs).length<=500:=by
  have:=tI cs [];simp only[jH,uL] at this;show(cs.foldl vw []).length<=500;omega
 have d:=iu (cs:=cs) (by omega);have e:∀c∈cs,c.body.length<=6:=fun c g=>(ni (h.many c g)).2.1;refine⟨⟨by omega,by omega,d,fun c g=>⟨(d c g).1,by have:=e c g;omega⟩,⟨by omega,by omega,fun c g=>(d c g).2⟩,by omega,fun n=>by have:=m n;omega,by simp,by simp,fun _=>by simp,fun _=>⟨fun r k=>⟨fun l j=>((b.rules.rules r k).qc l j).1,fun l j=>⟨((b.rules.rules r k).qp l j).1,b.rules.apart r k r k rfl l j⟩⟩,?_,fun a w=>by have:=b.small a w;omega,fun f s=>(b.facts f s).2.1.1,?_,by show(zp cs).length<=1000;omega⟩⟩,b⟩
 ·show(t.map (·.jf)).length<=1000;simp;omega
 ·show(vy t (zp cs) cs).length<=1000000;have:(vy t (zp cs) cs).length<=cs.length:=by
   unfold vy;rw[uH];exact rm _ _
  omega
def Nq(h:Nat)(t:List zg)(ns:List ByteArray)(o:Option (DB×Nat))(w:World)(e:Ending)(c:World):Prop:=match o with
 |none=>e=.returned (.tuple #[.pointer none,.int .i64 10])/\Below w.heap.size w c
 |some x=>∃(R:zx) (a:Nat) (d f g:Value) (b:List Nat),w.heap.size<=a/\e=.returned (.tuple #[.pointer (some ⟨a,0,none⟩),.int .i64 0])/\kC w.heap.size h c a t ns R d f g b/\vQ (t.map (·.jf)) (yn ns.length) R/\zxy (t.map (·.jf)) R=x.1/\R.qx=x.2/\fP x.1 R.count/\R.count<=1048576/\Below w.heap.size w c
theorem MX{g:Nat}(w:World)(pb:Nat){cs:List zc}{B t:List zg}(z:kp g w pb cs t)(h:Pt cs B t)(f:g<=w.heap.size)(mr mx:Nat)(j:mr<=1048576)(y:mx<=1048576):
  Calls prog 35 #[.pointer (some ⟨pb,0,none⟩),.slice none 0 0,.int .i64 mr,.int .i64 mx] w fun e i=>Nq g t (zp cs) (z0c (qF t (zp cs) none cs) mr mx) w e i:=by
 obtain⟨s,b⟩:=h.runok;obtain⟨N,m⟩:=LW b (mr:=mr) (mx:=mx) j;obtain⟨c,u,l,C⟩:=m N (zh _);refine(Jx w pb cs t (.slice none 0 0) none mr mx N c z rfl s rfl j y f u).mono ?_;intro e i a;cases c with
 |none=>rw[l rfl];exact a
 |some R=>
  obtain⟨k,E,r⟩:=C R rfl;obtain⟨v,p,q,o,d,D,x,n,A⟩:=a;rw[r];exact⟨R,v,p,q,o,d,D,x,n,k,rfl,rfl,k.card b.small,by omega,A⟩
end Go.Proofs.YteampbddflhngaaGreat
