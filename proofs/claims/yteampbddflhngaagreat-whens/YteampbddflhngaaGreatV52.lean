import Derived.Test.YteampbddflhngaaGreatV39
import Derived.Test.YteampbddflhngaaGreatV48
import Derived.Test.YteampbddflhngaaGreatV51
namespace Go.Proofs.YteampbddflhngaaGreat
set_option linter.all false
set_option maxRecDepth 100000
set_option maxHeartbeats 4000000
open Go.RowKit
section
variable {z:Nat}{w:World}
def fa(z:Nat)(w:World)(M:List Nat):Prop:=∀b∈M,(b=z/\∃c,OZ w b c 9)∨∃c T,OZ w b c T/\(T=35∨T=40∨T=50)
theorem fa.box{M:List Nat}(h:fa z w M){b:Nat}{c:Array Value}{T:TypeId}(e:OZ w b c T)(i:T≠9∨b≠z)(j:T≠35)(g:T≠40)(l:T≠50):b∉M:=by
 intro k;rcases h b k with⟨d,f,a⟩|⟨f,m,d,a⟩
 ·rcases i with q|q
  ·exact q (e.type a)
  ·exact q d
 ·have:=e.type d;subst this;rcases a with q|q|q
  ·exact j q
  ·exact g q
  ·exact l q
theorem fa.own{M:List Nat}(h:fa z w M){d:Nat}{e:TypeId}{a:Nat}{v:Value}{n:Nat}{f:List Value}(g:w.ownsRow d e a v n f)(k:e≠9∨v.ownBlock≠some z)(m:e≠35)(l:e≠40)(r:e≠50){j:World}(o:zd M w j):j.ownsRow d e a v n f:=by
 refine yI g o fun b i=>?_;obtain⟨c,p⟩:=qr g i;refine h.box p ?_ m l r;rcases k with q|q
 ·exact zf q
 ·exact ze fun e=>q (by rw[i,e])
structure Q8 (z:Nat) (w:World) (x m pm:Nat) (cs:List zc) (t:List zg) (lo lp:Nat) (R:zx) (L:List z7) (k:Nat) (pv nv rv fv cv nmv kv:Value) (tbs:List Nat):Prop where
 res:kC lo lp w x t (zp cs) R pv nv rv tbs
 nz:nv.ownBlock≠some z
 told:Qr t (zp cs) R
 rep:PO t (zp cs) L (zxy (t.map (·.jf)) R)
 model:OZ w m #[fv,.int .i64 k] 54
 fl:yP z 0 w fv L
 few:L.length<=1048576
 ctx:xJ cs t
 prog:OZ w pm #[cv,nmv,kv] 45
 names:Qn z w nmv (Pb t)
theorem Q8.save{w u:World}{x m B:Nat}{cs:List zc}{t:List zg}{lo C:Nat}{R:zx}{L:List z7}{k:Nat}{y A v D E l s:Value}{g:List Nat}(h:Q8 z w x m B cs t lo C R L k y A v D E l s g){M:List Nat}(d:zd M w u)(e:fa z w M):Q8 z u x m B cs t lo C R L k y A v D E l s g:=by
 have f:=h.res;refine⟨⟨f.low,f.box.save d (e.box f.box (zf (by decide)) (by decide) (by decide) (by decide)),e.own f.preds (zf (by decide)) (by decide) (by decide) (by decide) d,e.own f.vals (ze h.nz) (by decide) (by decide) (by decide) d,e.own f.rows (zf (by decide)) (by decide) (by decide) (by decide) d,f.tlen,fun p a b=>?_,f.few⟩,h.nz,h.told,h.rep,h.model.save d (e.box h.model (zf (by decide)) (by decide) (by decide) (by decide)),?_,h.few,h.ctx,h.prog.save d (e.box h.prog (zf (by decide)) (by decide) (by decide) (by decide)),e.own h.names.1 (ze h.names.2) (by decide) (by decide) (by decide) d,h.names.2⟩
 ·obtain⟨G,q⟩:=f.tries p a b;refine⟨G,q.save d fun b n H=>?_⟩;rcases e b H with⟨_,c,j⟩|⟨c,T,j,J⟩
  ·exact q.notin j (by decide) (by decide) (by decide) n
  ·rcases J with rfl|rfl|rfl
   ·exact q.notin j (by decide) (by decide) (by decide) n
   ·exact q.notin j (by decide) (by decide) (by decide) n
   ·exact q.notin j (by decide) (by decide) (by decide) n
 ·obtain⟨r,F,I,o⟩:=h.fl;exact⟨r,F,e.own I (zf (by decide)) (by decide) (by decide) (by decide) d,fun i a b=>⟨e.own (o i a b).1 (ze (o i a b).2) (by decide) (by decide) (by decide) d,(o i a b).2⟩⟩
theorem Q8.other{x m A:Nat}{cs:List zc}{t:List zg}{lo C:Nat}{R:zx}{L:List z7}{k:Nat}{s u r D E g p:Value}{f:List Nat}(h:Q8 z w x m A cs t lo C R L k s u r D E g p f){y:Nat}(F:w.heap.size<=y∨∃c,OZ w y c 35):Q8 y w x m A cs t lo C R L k s u r D E g p f:=by
 have d:∀{j:Nat} {v:Value} {n:Nat} {G:List Value},w.ownsRow j 9 1 v n G->v.ownBlock≠some y:=fun o e=>by
  rcases F with q|⟨c,q⟩
  ·have:=yO o e;omega
  ·exact xL o q (by decide) e rfl
 obtain⟨l,I,H,B⟩:=h.fl;exact⟨h.res,d h.res.vals,h.told,h.rep,h.model,⟨l,I,H,fun i a b=>⟨(B i a b).1,d (B i a b).1⟩⟩,h.few,h.ctx,h.prog,h.names.1,d h.names.1⟩
abbrev vh:=Nat×Nat×Nat×List zc×List zg
def gj(z:Nat)(w:World)(r:vh):Prop:=∃c i R L k e f j d h b g a,Q8 z w r.1 r.2.1 r.2.2.1 r.2.2.2.1 r.2.2.2.2 c i R L k e f j d h b g a
theorem gj.save{w c:World}{r:vh}(h:gj z w r){M:List Nat}(m:zd M w c)(e:fa z w M):gj z c r:=by
 obtain⟨d,o,R,L,k,g,j,n,f,l,b,i,a,q⟩:=h;exact⟨d,o,R,L,k,g,j,n,f,l,b,i,a,q.save m e⟩
theorem gj.below{c:World}{r:vh}(h:gj z w r)(a:Below w.heap.size w c):gj z c r:=h.save (zd.of (M:=[]) a) (fun b a=>by cases a)
def dR(rs:List vh):List Value:=rs.flatMap fun r=>[.pointer (some ⟨r.1,0,none⟩),.pointer (some ⟨r.2.1,0,none⟩),.pointer (some ⟨r.2.2.1,0,none⟩)]
def vL(b:Nat)(a:Value):Nat:=a.ownBlock.getD b
def kg(d:Nat)(c b a:Value):List Nat:=d::(c.ownBlock.toList++b.ownBlock.toList++a.ownBlock.toList)
structure PP (B:Nat) (w:World) (wb:Nat) (ps:List vc) (rs:List vh) (row:List ByteArray) (psv rsv rowv:Value):Prop where
 low:B<=wb
 box:OZ w wb #[psv,rsv,.slice none 0 0,.slice none 0 0,.int .i64 0,.int .i64 0,.int .i64 0,.slice none 0 0,.bool true,rowv,.slice none 0 0,.slice none 0 0,.slice none 0 0,.slice none 0 0] 35
 ops:w.ownsRow B 40 2 psv ps.length (fI ps)
 ors:w.ownsRow B 50 3 rsv rs.length (dR rs)
 reg:Pg B w rowv row
 pairs:∀p∈ps,dH B w (kg wb psv rsv rowv) p/\∃x,uu x=.ok (p.2.2.1,p.2.2.2)
 ress:∀r∈rs,gj (vL wb rowv) w r
theorem PP.below{B:Nat}{w i:World}{f:Nat}{ps:List vc}{rs:List vh}{row:List ByteArray}{d e c:Value}(h:PP B w f ps rs row d e c)(a:Below w.heap.size w i):PP B i f ps rs row d e c:=
 ⟨h.low,h.box.below a,zE h.ops a,zE h.ors a,h.reg.below a,fun p g=>⟨(h.pairs p g).1.save (zd.of (M:=[]) a) (by simp) (fun b a=>zf a),(h.pairs p g).2⟩,fun r j=>(h.ress r j).below a⟩
end
section
open Go.Proofs.Tryz
variable {z:Nat}
theorem EB{t:List zg}(g:y5 (Pb t))(n:ByteArray):(zY t n).isSome=yt n (Pb t):=by
 cases b:yt n (Pb t) with
 |true=>
  obtain⟨e,a,rfl⟩:=zB.1 (qS.1 b);obtain⟨p,c,rfl⟩:=kX.1 a;rw[(iq g c).1];rfl
 |false=>
  cases a:zY t n with
  |none=>rfl
  |some e=>
   obtain⟨h,f,d⟩:=qI a;have:yt n (Pb t)=true:=qS.2 (zB.2 ⟨e,by rw[←f];exact zu _,d⟩);rw[b] at this;cases this
def oa(b:Bool)(o:Option Nat)(L:List z7):Nat×Nat:=if b=true then(match o with|none=>(0,12)|some k=>(((L[k]?).map (·.2.2)).getD 0,0)) else(0,11)
theorem Hs{cs:List zc}{t:List zg}(b:xJ cs t){L:List z7}{R:zx}(c:Qr t (zp cs) R)(h:PO t (zp cs) L (zxy (t.map (·.jf)) R))(a:ByteArray)(row:List ByteArray):mK t (zp cs) R a row=oa (yt a (Pb t)) (yC a row L) L:=by
 rw[Ff b c h,←EB b.rise];rfl
theorem Na(n:ByteArray)(l:List ByteArray)(x:ByteArray):yt n (l++[x])=(yt n l||decide (x=n)):=by
 induction l with
 |nil=>simp[yt]
 |cons a l b=>simp only[f5,yt,b,Bool.or_assoc]
theorem FM(cs:List Value):splice (madeCells #[Value.string ByteArray.empty] (cs.length+2)).toList 0 cs=cs++[.string ByteArray.empty,.string ByteArray.empty]:=by
 have e:(madeCells #[Value.string ByteArray.empty] (cs.length+2)).toList=List.replicate cs.length (Value.string ByteArray.empty)++[.string ByteArray.empty,.string ByteArray.empty]:=by
  have:(madeCells #[Value.string ByteArray.empty] (cs.length+2)).toList=List.replicate (cs.length+2) (Value.string ByteArray.empty):=by
   unfold madeCells;apply kJ
   ·simp
   ·intro i b a;simp[Nat.mod_one]
  rw[this,←List.replicate_append_replicate];rfl
 rw[e];unfold splice;simp
theorem Gm{w:World}{b:Nat}{row:List ByteArray}{u v:Value}(h:OZ w b (row.map Value.string++[u,v]).toArray 9)(a:row.length<=2000000):Pg 0 w (.slice (some ⟨b,0,none⟩) row.length (row.length+2)) row:=by
 refine⟨by simp,ze ⟨b,row.length+2,_,rfl,zv _,h,by omega,by unfold maxLen;omega,by simp,by simp⟩⟩
theorem EO{aJ:Nat}(w:World)(x m H:Nat)(cs:List zc)(t:List zg)(lo lp:Nat)(R:zx)(L:List z7)(k:Nat)(pv nv rv fv cv aI kv:Value)(a7:List Nat)(a:ByteArray)(Q:Value)(row:List ByteArray)(h:Q8 z w x m H cs t lo lp R L k pv nv rv fv cv aI kv a7)(hr:Pg aJ w Q row)(hl:row.length<=1048576):
  Calls prog 21 #[.agg #[.pointer (some ⟨x,0,none⟩),.pointer (some ⟨m,0,none⟩),.pointer (some ⟨H,0,none⟩)],.string a,Q] w fun e w'=>e=.returned (.bool true)/\Hid (Below w.heap.size w w'):=by
 obtain⟨ay,a9,rfl⟩:=hr.qw;have a3:=fun W:World=>run_make_row' (P:=prog) (w:=W) 30 9 (.string ByteArray.empty) 16 underlying30 O4 rfl .i64 .i64 (row.length+2) (by omega) (by omega);rw[show((row.length+2:Nat):Int)=(row.length:Int)+2 by omega] at a3;have F:Hid (∀W,Below w.heap.size w W->0<(row.map Value.string).length->∃ad,ay=some ad/\∀j v,(row.map Value.string)[j]?=some v->W.cell? (ad.add j)=some v):=fun W hW hp=>by
  obtain⟨gb,aG,hv,_,aU,aQ⟩:=y7 hr (by simpa using hp);simp at hv;refine⟨⟨gb,0,none⟩,hv.1,fun j v hj=>?_⟩;rw[Addr.add_lit,uL,hW.cell (p:=⟨gb,j,none⟩) aU];exact aQ j v hj
 have s:(row.map Value.string).length=row.length:=by simp
 have ai:Hid (∀v∈row.map Value.string,v.oneCell'=true):=fun v hv=>by obtain⟨x,_,rfl⟩:=zB.1 hv;rfl
 obtain⟨u,aj⟩:∃u,u=row.map Value.string:=⟨_,rfl⟩;have a6:=OY aj;rw[←aj] at F s ai;clear aj;have O:Hid (0+u.length<=(madeCells #[Value.string ByteArray.empty] (row.length+2)).toList.length):=by rw[Hid,s];simp[size_madeCells]
 have N:Hid (u.length=Nat.min row.length (row.length+2)):=by rw[Hid,s];exact(gP (by omega)).symm
 have a5:=OY h;have U:=OY fun W (n:Below w.heap.size w W)=>hr.below n;clear h hr;go_enter func21,ntmps21;go_upto_region 3 with fail
 have ab:Hid (Below w.heap.size w (w.alloc (.cells #[.pointer (some ⟨x,0,none⟩),.pointer (some ⟨m,0,none⟩),.pointer (some ⟨H,0,none⟩)] 50))):=(zo _ _).alloc (zh _) _;have ax:=OY (OZ.new w #[.pointer (some ⟨x,0,none⟩),.pointer (some ⟨m,0,none⟩),.pointer (some ⟨H,0,none⟩)] 50);have a2:(w.alloc (.cells #[.pointer (some ⟨x,0,none⟩),.pointer (some ⟨m,0,none⟩),.pointer (some ⟨H,0,none⟩)] 50)).heap.size=w.heap.size+1:=by simp
 generalize w.alloc (.cells #[.pointer (some ⟨x,0,none⟩),.pointer (some ⟨m,0,none⟩),.pointer (some ⟨H,0,none⟩)] 50)=E at *;have ak:Hid (Below E.heap.size E (E.alloc (.cells (madeCells #[.string ByteArray.empty] (row.length+2)) 9))):=(zo _ _).alloc (zh _) _;have aq:Hid (OZ (E.alloc (.cells (madeCells #[.string ByteArray.empty] (row.length+2)) 9)) (w.heap.size+1) (madeCells #[.string ByteArray.empty] (row.length+2)).toList.toArray 9):=by
  rw[Hid,Array.toArray_toList,←a2];exact OZ.new _ _ _
 generalize E.alloc (.cells (madeCells #[.string ByteArray.empty] (row.length+2)) 9)=wU at *;clear a3;go_upto_region 4 with (first|(refine wpList_copy_splice rfl (.tmp 21) (.tmp 22) 30 30 rfl 9 underlying30 OW _ _ _ _ _ _ rfl rfl (w.heap.size+1) 0 (madeCells #[.string ByteArray.empty] (row.length+2)).toList 9 aq.out u N.out (fun hp=>⟨rfl,F.out _ (Pc ab.out ak.out) hp⟩) O.out ai.out E.heap.size E ak.out (by omega) ?_;intro w2 aC aB))
 have Y:Hid (OZ w2 (w.heap.size+1) (u++[Value.string ByteArray.empty,Value.string ByteArray.empty]).toArray 9):=by
  have q:=aC.out;rw[←s,FM] at q;exact q
 have aD:=OY aB;clear aC aB O N F ai aq ak;obtain⟨gc,gf,aM⟩:=Y.out.boxed;have af:Hid (OZ ((w2.setCell ⟨w.heap.size+1,row.length,none⟩ (.string ⟨#[109,105,110,101]⟩)).setCell ⟨w.heap.size+1,row.length+1,none⟩ (.string ⟨#[116,111,111]⟩)) (w.heap.size+1) (row.map Value.string++[Value.string ⟨#[109,105,110,101]⟩,Value.string ⟨#[116,111,111]⟩]).toArray 9):=by
  have q:=(Y.out.set row.length (.string ⟨#[109,105,110,101]⟩)).set (row.length+1) (.string ⟨#[116,111,111]⟩);have e:((u++[Value.string ByteArray.empty,Value.string ByteArray.empty]).toArray.setIfInBounds row.length (.string ⟨#[109,105,110,101]⟩)).setIfInBounds (row.length+1) (.string ⟨#[116,111,111]⟩)=(row.map Value.string++[Value.string ⟨#[109,105,110,101]⟩,Value.string ⟨#[116,111,111]⟩]).toArray:=by
   rw[←a6.out,←s];simp
  rw[e] at q;exact q
 have ac:Hid (Below E.heap.size E ((w2.setCell ⟨w.heap.size+1,row.length,none⟩ (.string ⟨#[109,105,110,101]⟩)).setCell ⟨w.heap.size+1,row.length+1,none⟩ (.string ⟨#[116,111,111]⟩))):=(aD.out.setCell (p:=⟨w.heap.size+1,row.length,none⟩) (by show E.heap.size<=w.heap.size+1;omega) _).setCell (p:=⟨w.heap.size+1,row.length+1,none⟩) (by show E.heap.size<=w.heap.size+1;omega) _;have aH:w2.cell? ⟨w.heap.size+1,row.length,none⟩=some (.string ByteArray.empty):=by rw[gc,←s];simp
 have aN:w2.cell? ⟨w.heap.size+1,row.length+1,none⟩=some (.string ByteArray.empty):=by rw[gc,←s];simp
 clear gc;go_upto_region 6 with fail
 generalize (w2.setCell ⟨w.heap.size+1,row.length,none⟩ (.string ⟨#[109,105,110,101]⟩)).setCell ⟨w.heap.size+1,row.length+1,none⟩ (.string ⟨#[116,111,111]⟩)=C at *;clear aH aN gf aM Y aD a6 s;have B:=OY (Pc ab.out ac.out);have d:=OY (a5.out.save (zd.of (M:=[]) B.out) (fun b n=>by cases n));have S:=OY (Gm af.out (by omega));have J:=OY (Jl C x t (zp cs) R pv nv rv a7 a row _ d.out.res S.out (by omega));rw[Hs d.out.ctx d.out.told d.out.rep] at J;have au:=OY fun W n=>EF W _ _ row (S.out.below n) (U.out W (Pc B.out n)) (by omega);have A:Hid (∀W,Below C.heap.size C W->W.cell? ⟨w.heap.size,0,none⟩=some (.pointer (some ⟨x,0,none⟩))/\W.cell? ⟨w.heap.size,1,none⟩=some (.pointer (some ⟨m,0,none⟩))/\W.cell? ⟨w.heap.size,2,none⟩=some (.pointer (some ⟨H,0,none⟩))/\w.heap.size<W.heap.size):=fun W n=>by
  have q:=ax.out.below (Pc ac.out n);exact⟨by rw[q.rules.1];rfl,by rw[q.rules.1];rfl,by rw[q.rules.1];rfl,q.lt⟩
 have aA:Hid (∀W,Below C.heap.size C W->W.cell? ⟨w.heap.size+1,row.length,none⟩=some (.string ⟨#[109,105,110,101]⟩)/\W.cell? ⟨w.heap.size+1,row.length+1,none⟩=some (.string ⟨#[116,111,111]⟩)/\w.heap.size+1<W.heap.size):=fun W n=>by
  have q:=af.out.below n;exact⟨by rw[q.rules.1];simp,by rw[q.rules.1];simp,q.lt⟩
 obtain⟨ar,ap,aR⟩:=d.out.names.1.qw;subst aR;have aO:Hid (∀W,Below C.heap.size C W->W.cell? ⟨H,1,none⟩=some (.slice ar (Pb t).length ap)/\H<W.heap.size/\∀i (hi:i<(Pb t).length),∃g,ar=some ⟨g,0,none⟩/\g<W.heap.size/\W.cell? ⟨g,i,none⟩=some (.string (Pb t)[i])):=fun W n=>by
  have q:=d.out.prog.below n;exact⟨by rw[q.rules.1];rfl,q.lt,fun i hi=>(d.out.names.1.below n).cell i hi⟩
 have Z:Hid (∀W,Below C.heap.size C W->Calls prog 45 #[.pointer (some ⟨m,0,none⟩),.string a,.slice ay row.length a9] W fun e w'=>e=.returned (.int .i64 (jj a row L))/\Below W.heap.size W w'):=fun W n=>e6 W m k fv L a _ row (d.out.model.below n) (d.out.fl.below n).facts (U.out W (Pc B.out n)) (by have:=d.out.few;omega) (by omega) (fun f G=>by
  obtain⟨p,hp,r,m',_,rfl⟩:=(d.out.rep.mem f).1 G;simp only[nX];have:=d.out.ctx.small p hp;omega)
 have am:Hid (∀W i (hi:i<L.length),Below C.heap.size C W->∃g ah,W.cell? ⟨m,0,none⟩=some (.slice (some ⟨g,0,none⟩) L.length ah)/\m<W.heap.size/\g<W.heap.size/\W.cell? ⟨g,i*3+2,none⟩=some (.int .i64 (L[i].2.2:Nat))):=fun W i hi n=>by
  obtain⟨ao,ah,e,q⟩:=(d.out.fl.below n).facts;obtain⟨g,rv,lo,r1,r2,_,_,r5,_⟩:=q i hi;have q2:=d.out.model.below n;rw[e,r1] at q2;exact⟨g,ah,by rw[q2.rules.1];rfl,q2.lt,r2,r5⟩
 have bc:=d.out.few;have bb:(Pb t).length<=1000:=by
  have:=d.out.told.few.2.1;simp only[Pb,uH];exact this
 clear af ac ax S d a5 U ab a2;generalize Pb t=c at *;obtain⟨an,V⟩:∃an:Nat×Nat,oa (yt a c) (yC a row L) L=an:=⟨_,rfl⟩;rw[V] at J;have l:=OY V;clear V;obtain⟨X,aa⟩:=an;obtain⟨x0,_,_,al⟩:=A.out C (zo _ _);have aX:(row.length:Int)+1<(row.length:Int)+2:=by omega
 go_upto_region 9 with (first|(go_at_call 43;refine J.out.mono ?_;rintro e w5 ⟨rfl,ag⟩)|(go_at_call 44;refine(au.out _ ag).mono ?_;rintro e w6 ⟨rfl,av⟩))
 have o:=OY (Pc ag av);clear x0 al J au ag av;obtain⟨a0,a1,aE⟩:=aA.out _ o.out;obtain⟨x0,x1,x2,al⟩:=A.out _ o.out;obtain⟨p1,aZ,a4⟩:=aO.out _ o.out;have aF:=OY a4;clear a4;go_upto_region 11 with fail
 clear a0 a1 aE;go_wp2;go_loopw [13,14] (fun aP ae wz=>∃i:Nat,i<=c.length/\ae=.int .i64 i/\aP=.bool (yt a (c.take i))/\wz=w6) (fun _ ae _=>c.length-(intOf ae).toNat)
 case atStart=>exact⟨0,zv _,rfl,rfl,rfl⟩
 case round=>
  obtain⟨i,hi,rfl,rfl,aS⟩:=hrel;obtain rfl:=aS.symm;by_cases a8:i<c.length
  ·have aL:(i:Int)<(c.length:Int):=by omega
   obtain⟨g,rfl,hg,cg⟩:=aF.out i a8;have T:Hid (yt a (c.take (i+1))=(yt a (c.take i)||decide (c[i]=a))):=by
    rw[Hid,yM a8,Na]
   cases K:yt a (c.take i) with
   |true=>
    rw[K] at T;clear K;generalize c[i]=y at *;go_wp2;go_roundw
    case rel=>exact⟨i+1,by omega,by go_num,by rw[T.out];rfl,trivial⟩
    case measure=>simp[intOf];omega
   |false=>
    rw[K] at T;clear K;by_cases hy:c[i]=a
    ·have hs:=ka hy;rw[show decide (c[i]=a)=true by simp[hy]] at T;clear hy;generalize c[i]=y at *;go_wp2;go_roundw
     case rel=>exact⟨i+1,by omega,by go_num,by rw[T.out];rfl,trivial⟩
     case measure=>simp[intOf];omega
    ·have hs:=qz hy;rw[show decide (c[i]=a)=false by simp[hy]] at T;clear hy;generalize c[i]=y at *;go_wp2;go_roundw
     case rel=>exact⟨i+1,by omega,by go_num,by rw[T.out];rfl,trivial⟩
     case measure=>simp[intOf];omega
  ·have aL:¬(i:Int)<(c.length:Int):=by omega
   obtain rfl:i=c.length:=by omega
   rw[uO];cases K:yt a c with
   |false=>
    rw[K] at l;have aw:=OY (show X=0 from(congrArg Prod.fst l.out).symm);have az:=OY (show aa=11 from(congrArg Prod.snd l.out).symm);obtain rfl:=aw.out;obtain rfl:=az.out;clear l aw az K;go_wp2;go_ret;exact⟨rfl,Pc B.out o.out⟩
   |true=>
    rw[K] at l;clear K;have I:=OY (Z.out _ o.out);cases G:yC a row L with
    |none=>
     rw[G] at l;have e1:jj a row L=-1:=by unfold jj;rw[G]
     rw[e1] at I;obtain rfl:X=0:=(congrArg Prod.fst l.out).symm;obtain rfl:aa=12:=(congrArg Prod.snd l.out).symm;clear l e1 G Z;go_wp2_with (first|(go_at_call 45;refine I.out.mono ?_;rintro e w7 ⟨rfl,D⟩))
     go_ret;exact⟨rfl,Pc B.out (Pc o.out D)⟩
    |some j=>
     rw[G] at l;obtain⟨hj,_,_⟩:=tO G;have e1:jj a row L=(j:Int):=by unfold jj;rw[G]
     rw[e1] at I;have aT:X=L[j].2.2:=by
      have q:=(congrArg Prod.fst l.out).symm;simpa [oa,hj] using q
     obtain rfl:aa=0:=(congrArg Prod.snd l.out).symm;subst aT;have bd:(j:Int)<(L.length:Int):=by omega
     have aK:=OY fun W n=>am.out W j hj (Pc o.out n);have aV:Hid (∀W,Below w6.heap.size w6 W->W.cell? ⟨w.heap.size,1,none⟩=some (.pointer (some ⟨m,0,none⟩))/\w.heap.size<W.heap.size):=fun W n=>by
      obtain⟨_,q,_,q2⟩:=A.out W (Pc o.out n);exact⟨q,q2⟩
     clear l e1 G Z am A;generalize L[j].2.2=wn at *;go_wp2_with (first|(go_at_call 45;refine I.out.mono ?_;rintro e w7 ⟨rfl,D⟩;obtain⟨gm,aW,m0,be,ba,m2⟩:=aK.out _ D;obtain⟨y1,aY⟩:=aV.out _ D))
     go_ret;exact⟨by simp,Pc B.out (Pc o.out D)⟩
end
section
open Go.Proofs.Tryz
variable {row:List ByteArray}
theorem OO:(prog.info? 50).map (fun i=>(i.zero,i.size,i.bytes))=some (some (.agg #[.pointer none,.pointer none,.pointer none]),3,24):=by kernel_rfl
structure Ra (cs:List zc) (t0 t:List zg):Prop where
 parts:Pt cs t0 t
 ctx:xJ cs t
 len:cs.length<=1000
 names:t.length<=1000
 low:∀c∈cs,xz t c.head.pred<=1000
 body:∀c∈cs,c.body.length<=30
 args:∀c∈cs,∀l∈zm c,l.args.length<=3/\∀a∈l.args,0<a.size
 few:∀L D,PO t (zp cs) L D->L.length<1000000000000/\∀c∈cs,(ye L c.head c.body c.body []).length<=1000000000000
theorem KI{x:ByteArray}{cs:List zc}{t:List zg}(h:uu x=.ok (cs,t)):∃j,Ra cs j t:=by
 obtain⟨j,b⟩:=M0 h;have k:=Hx h;have g:=xJ.of k b;obtain⟨_,e,_⟩:=b.low;have o:=b.few;have m:t.length<=1000:=by omega
 have f:∀c∈cs,ex c:=fun c q=>(k c q).fine (b.many c q);refine⟨j,b,g,b.runok.1.len,m,fun c d=>?_,fun c d=>?_,fun c d l e=>⟨(g.lit c d l e).2.2.2,fun a n=>(((f c d).1 l e).2.2.2 a n).1⟩,JB b g m (Kn h)⟩
 ·rw[sR];have:=ed b.least (ps:=Pb t) (fun c d l e=>BZ b d e) (BZ b d (l:=c.head) (by simp[zm]));simp only[Pb,uH] at this;omega
 ·have i:=b.many c d;unfold yG at i;simp only[m9,decide_eq_false_iff_not] at i;have:=i.1.1.1;omega
theorem Lt(e:Nat)(d c a:Value):vL e a∈kg e d c a:=by
 unfold vL kg;cases a.ownBlock with
 |none=>simp
 |some b=>simp
theorem PP.Nh{B:Nat}{w:World}{e:Nat}{ps:List vc}{rs:List vh}{c d a:Value}(h:PP B w e ps rs row c d a):vL e a<w.heap.size:=by
 unfold vL;cases f:a.ownBlock with
 |none=>exact h.box.lt
 |some b=>exact yO h.reg f
theorem PP.add{B:Nat}{w m:World}{j:Nat}{ps:List vc}{rs:List vh}{n k a i:Value}(h:PP B w j ps rs row n k i){r:vh}(E:gj (vL j i) w r)(v:m.ownsRow B 50 3 a (rs.length+1) (dR rs++[.pointer (some ⟨r.1,0,none⟩),.pointer (some ⟨r.2.1,0,none⟩),.pointer (some ⟨r.2.2.1,0,none⟩)]))(y:zd k.ownBlock.toList w m)(t:a.ownBlock=k.ownBlock∨∃g,a.ownBlock=some g/\w.heap.size<=g):PP B (m.setCell ⟨j,1,none⟩ a) j ps (rs++[r]) row n a i/\Below B w (m.setCell ⟨j,1,none⟩ a)/\zd (j::k.ownBlock.toList) w (m.setCell ⟨j,1,none⟩ a):=by
 have o:=h.box.save y (qD h.ors h.box (by decide));have f:zd (j::k.ownBlock.toList) w (m.setCell ⟨j,1,none⟩ a):=(y.more (fun x s=>by simp[s])).trans ((zd.set m j 1 a).more (fun x s=>by simp at s;simp[s]));have z:fa (vL j i) w (j::k.ownBlock.toList):=fun b d=>by
  rcases zw.1 d with rfl|d
  ·exact ze ⟨_,_,h.box,zf rfl⟩
  ·obtain⟨c,C⟩:=qr h.ors (yv d);exact ze ⟨c,_,C,ze (ze rfl)⟩
 refine⟨⟨h.low,by simpa using o.set 1 a,?_,?_,?_,fun p A=>⟨(h.pairs p A).1.save f (fun b d=>?_) (fun b d=>?_),(h.pairs p A).2⟩,fun q D=>?_⟩,f.below (fun b d=>?_) (zT h.low (jX h.box.lt)),f⟩
 ·refine yI h.ops f fun b d l=>?_;rcases zw.1 l with rfl|l
  ·exact xL h.ops h.box (by decide) d rfl
  ·exact fS h.ops h.ors (by decide) d (yv l)
 ·have q:=yI v (zd.set m j 1 a) (fun b d l=>xL v o (by decide) d (by simpa using l));have e:dR (rs++[r])=dR rs++[.pointer (some ⟨r.1,0,none⟩),.pointer (some ⟨r.2.1,0,none⟩),.pointer (some ⟨r.2.2.1,0,none⟩)]:=by simp[dR]
  rw[e,yz];exact q
 ·refine yI h.reg f fun b d l=>?_;rcases zw.1 l with rfl|l
  ·exact xL h.reg h.box (by decide) d rfl
  ·exact fS h.reg h.ors (by decide) d (yv l)
 ·unfold kg;rcases zw.1 d with rfl|d
  ·simp
  ·simp[d]
 ·unfold kg at d ⊢;simp only[zw,zW] at d ⊢;rcases d with d|(d|d)|d
  ·exact zf (zf d)
  ·exact zf (ze (zf (zf d)))
  ·rcases t with e|⟨g,e,q⟩
   ·rw[e] at d;exact zf (ze (zf (ze d)))
   ·rw[e] at d;simp at d;exact ze (by omega)
  ·exact zf (ze (ze d))
 ·rcases zW.1 D with u|u
  ·exact(h.ress q u).save f z
  ·rw[ud.1 u];exact E.save f z
 ·rcases zw.1 d with rfl|d
  ·exact h.low
  ·exact yW h.ors (yv d)
def eA(B:Nat)(w:World)(h:Nat)(ps:List vc)(rs:List vh)(row:List ByteArray)(d f c:Value)(e:Ending)(g:World):Prop:=e=.returned (.bool true)/\Hid (∃b a,b.length<=rs.length+1/\PP B g h ps b row d a c)/\Hid (Below B w g)/\Hid (zd (h::f.ownBlock.toList) w g)
theorem EY(B:Nat)(w:World)(o:Nat)(ps:List vc)(rs:List vh)(row:List ByteArray)(k i g:Value)(h:PP B w o ps rs row k i g)(x m:Nat)(a d:Int)(l:-9223372036854775808<=a/\a<9223372036854775808)(n:-9223372036854775808<=d/\d<9223372036854775808)(c:a<0∨1048576<a∨d<0∨1048576<d):
  Calls prog 17 #[.pointer (some ⟨o,0,none⟩),.agg #[.pointer (some ⟨x,0,none⟩),.pointer (some ⟨m,0,none⟩)],.slice none 0 0,.bool true,.int .i64 a,.int .i64 d] w fun e f=>eA B w o ps rs row k i g e f:=by
 have u:Hid (∀W,Calls prog 34 #[.slice none 0 0,.bool true] W fun e f=>e=.returned (.slice none 0 0)/\f=W):=fun W=>Ba W _;have t:Hid (∀W,Calls prog 35 #[.pointer (some ⟨x,0,none⟩),.slice none 0 0,.int .i64 a,.int .i64 d] W fun e f=>e=.returned (.tuple #[.pointer none,.int .i64 8])/\f=W):=fun W=>I0 W _ _ a d l n c;have s:Hid (∀W,Calls prog 36 #[.slice none 0 0,.slice none 0 0,.bool true] W fun e f=>e=.returned (.bool true)/\f=W):=fun W=>Ac W _ _;have q:Hid (∀W,Calls prog 37 #[.pointer (some ⟨m,0,none⟩),.slice none 0 0,.bool true,.int .i64 a,.int .i64 d] W fun e f=>e=.returned (.tuple #[.pointer none,.int .i64 8])/\f=W):=fun W=>KS W _ _ a d c;have r:=OY h;clear h c l n;go_enter func17,ntmps17;go_wp2_with (first|(go_at_call 34;refine(u.out _).mono ?_;rintro e p ⟨rfl,b⟩;obtain rfl:=b.symm)|(go_at_call 35;refine(t.out _).mono ?_;rintro e p ⟨rfl,b⟩;obtain rfl:=b.symm)|(go_at_call 36;refine(s.out _).mono ?_;rintro e p ⟨rfl,b⟩;obtain rfl:=b.symm)|(go_at_call 37;refine(q.out _).mono ?_;rintro e p ⟨rfl,b⟩;obtain rfl:=b.symm))
 go_ret;have j:Below w.heap.size w (w.alloc (.cells #[.pointer (some ⟨x,0,none⟩),.pointer (some ⟨m,0,none⟩)] 40)):=(zo _ _).alloc (zh _) _;exact⟨rfl,⟨rs,i,by omega,r.out.below j⟩,j.mono (zT r.out.low (jX r.out.box.lt)),zd.of j⟩
theorem Oq(B:Nat)(w:World)(K:Nat)(ps:List vc)(rs:List vh)(row:List ByteArray)(ac T b:Value)(h:PP B w K ps rs row ac T b)(p:vc)(hp:p∈ps)(mr mx:Nat)(ad:mr<=1048576)(af:mx<=1048576)(hn:rs.length<=1048576):
  Calls prog 17 #[.pointer (some ⟨K,0,none⟩),.agg #[.pointer (some ⟨p.1,0,none⟩),.pointer (some ⟨p.2.1,0,none⟩)],.slice none 0 0,.bool true,.int .i64 mr,.int .i64 mx] w fun e d=>eA B w K ps rs row ac T b e d:=by
 obtain⟨i0,hi,aB,a9,aD⟩:=info_parts OO;obtain⟨⟨lo,s,hB,hP,hQ,_,r,ap,Z⟩,x,hx⟩:=h.pairs p hp;obtain⟨t0,m⟩:=KI hx;have ah:=h.Nh;have ar:=Z _ (Lt K ac T b);obtain⟨S,l,n,t⟩:=p;dsimp only at *;obtain⟨ao,aF,aG,aw,aC,aq,aa⟩:=hQ.read r ar;have V:=hP.same r;have E:lo<=w.heap.size:=by
  obtain⟨q,_,_,q2,_⟩:=V;exact zT q (jX q2.lt)
 have ae:Hid (∃cv Q kv,OZ w l #[cv,Q,kv] 45/\Qn (vL K b) w Q (Pb t)):=by
  obtain⟨hl,cv,J,kv,k1,k2,k3,k4⟩:=hQ;refine⟨cv,J,kv,k1.same hl r,yr (k3.same r) (zv _),fun e=>?_⟩;have a1:=yW k3 e;have a2:=yO k3 e;omega
 have HH:Hid (∀W,Calls prog 34 #[.slice none 0 0,.bool true] W fun e d=>e=.returned (.slice none 0 0)/\d=W):=fun W=>Ba W _;have HO:Hid (∀W,Calls prog 36 #[.slice none 0 0,.slice none 0 0,.bool true] W fun e d=>e=.returned (.bool true)/\d=W):=fun W=>Ac W _ _;have v:=OY fun W o=>MX W S (V.below o) m.parts (zT E o.size) mr mx ad af;have u:Hid (∀W,Below w.heap.size w W->Calls prog 37 #[.pointer (some ⟨l,0,none⟩),.slice none 0 0,.bool true,.int .i64 mr,.int .i64 mx] W fun e d=>Cd (vL K b) W (yjq t n mr mx) e d):=fun W o=>Ip W _ l mr mx _ ad af (GC W l mr mx ao aF aG aw aC aq n t0 t (xo ah o.size) (aa.below o) m.parts m.ctx m.len m.names m.low m.body m.args ad af m.few);have a:=NB m.parts m.ctx mr mx;have HW:=OY h;have ab:=zT h.low (jX h.box.lt);cases hA:z0c (qF t (zp n) none n) mr mx with
 |none=>
  rw[hA] at a;have H:yjq t n mr mx=none:=by
   cases hq:yjq t n mr mx with
   |none=>rfl
   |some y=>rw[hq] at a;exact a.elim
  rw[hA] at v;rw[H] at u;have N:Hid (∀W,Below w.heap.size w W->Calls prog 35 #[.pointer (some ⟨S,0,none⟩),.slice none 0 0,.int .i64 mr,.int .i64 mx] W fun e d=>e=.returned (.tuple #[.pointer none,.int .i64 10])/\Hid (Below W.heap.size W d)):=v;have O:Hid (∀W,Below w.heap.size w W->Calls prog 37 #[.pointer (some ⟨l,0,none⟩),.slice none 0 0,.bool true,.int .i64 mr,.int .i64 mx] W fun e d=>e=.returned (.tuple #[.pointer none,.int .i64 10])/\Hid (Below W.heap.size W d)):=u;clear v u h hA H a hP hQ r ap Z hx m ah ar aa V E ae hp;go_enter func17,ntmps17;go_upto_region 2 with (first|(go_at_call 34;refine(HH.out _).mono ?_;rintro e w1 ⟨rfl,j⟩;obtain rfl:=j.symm))
  have i:Hid (Below w.heap.size w (w.alloc (.cells #[.pointer (some ⟨S,0,none⟩),.pointer (some ⟨l,0,none⟩)] 40))):=(zo _ _).alloc (zh _) _;have g:=OY (OZ.new w #[.pointer (some ⟨S,0,none⟩),.pointer (some ⟨l,0,none⟩)] 40);generalize w.alloc (.cells #[.pointer (some ⟨S,0,none⟩),.pointer (some ⟨l,0,none⟩)] 40)=wX at *;obtain⟨xc,_,Y⟩:=g.out.boxed;go_wp2_with (first|(go_at_call 35;refine(N.out _ i.out).mono ?_;rintro e w1 ⟨rfl,c⟩;obtain⟨av,_⟩:=(g.out.below c.out).rules;have X:=(g.out.below c.out).lt)|(go_at_call 36;refine(HO.out _).mono ?_;rintro e w2 ⟨rfl,j⟩;obtain rfl:=j.symm)|(go_at_call 37;refine(O.out _ (Pc i.out c.out)).mono ?_;rintro e w3 ⟨rfl,G⟩))
  go_ret;have o:=Pc (Pc i.out c.out) G.out;exact⟨rfl,⟨rs,T,by omega,HW.out.below o⟩,o.mono ab,zd.of o⟩
 |some y=>
  obtain⟨D,ee⟩:=y;rw[hA] at a;obtain⟨L,kk,H⟩:∃L k,yjq t n mr mx=some (L,k):=by
   cases hq:yjq t n mr mx with
   |none=>rw[hq] at a;exact a.elim
   |some y=>exact⟨y.1,y.2,rfl⟩
  rw[H] at a u;have ay:=a.2;have C:=ay.card m.ctx;rw[hA] at v;have N:Hid (∀W,Below w.heap.size w W->Calls prog 35 #[.pointer (some ⟨S,0,none⟩),.slice none 0 0,.int .i64 mr,.int .i64 mx] W fun e d=>∃z,e=.returned (.tuple #[.pointer (some ⟨z,0,none⟩),.int .i64 0])/\Hid (∃R J U P f,kC W.heap.size lo d z t (zp n) R J U P f/\Qr t (zp n) R/\zxy (t.map (·.jf)) R=D/\L.length<=1048576)/\Hid (Below W.heap.size W d)):=fun W o=>by
   refine(v.out W o).mono ?_;intro e d q;obtain⟨R,z,J,U,P,f,q1,q2,q3,q4,q5,q6,q7,q8,q9⟩:=q;exact⟨z,q2,⟨R,J,U,P,f,q3,m.parts.told q4 q5 hA q8,q5,by rw[E4 C q7];exact q8⟩,q9⟩
  have O:Hid (∀W,Below w.heap.size w W->Calls prog 37 #[.pointer (some ⟨l,0,none⟩),.slice none 0 0,.bool true,.int .i64 mr,.int .i64 mx] W fun e d=>∃A,e=.returned (.tuple #[.pointer (some ⟨A,0,none⟩),.int .i64 0])/\Hid (∃fv,W.heap.size<=A/\OZ d A #[fv,.int .i64 kk] 54/\yP (vL K b) W.heap.size d fv L)/\Hid (Below W.heap.size W d)):=u;have aj:Hid (∀W1 W2 z A,Below w.heap.size w W1->Below W1.heap.size W1 W2->(∃W R J U P f,w.heap.size<=W/\kC W lo W1 z t (zp n) R J U P f/\Qr t (zp n) R/\zxy (t.map (·.jf)) R=D/\L.length<=1048576)->(∃fv,W1.heap.size<=A/\OZ W2 A #[fv,.int .i64 kk] 54/\yP (vL K b) W1.heap.size W2 fv L)->gj (vL K b) W2 (z,A,l,n,t)):=fun W1 W2 z A aE au ⟨W,R,J,U,P,f,r0,r1,r2,r3,r4⟩ ⟨fv,_,f2,f3⟩=>by
   obtain⟨cv,Q,kv,n1,n2⟩:=ae.out;have o:=Pc aE au;refine⟨W,lo,R,L,kk,J,U,P,fv,cv,Q,kv,f,r1.below au,fun e=>?_,r2,by rw[r3];exact ay,f2,f3.low (zv _),r4,m.ctx,n1.below o,n2.below o⟩;have:=yW r1.vals e;omega
  clear v u h hA H a hP hQ r ap Z hx aa V E ae hp C;go_enter func17,ntmps17;go_upto_region 2 with (first|(go_at_call 34;refine(HH.out _).mono ?_;rintro e w1 ⟨rfl,j⟩;obtain rfl:=j.symm))
  have i:Hid (Below w.heap.size w (w.alloc (.cells #[.pointer (some ⟨S,0,none⟩),.pointer (some ⟨l,0,none⟩)] 40))):=(zo _ _).alloc (zh _) _;have g:=OY (OZ.new w #[.pointer (some ⟨S,0,none⟩),.pointer (some ⟨l,0,none⟩)] 40);generalize w.alloc (.cells #[.pointer (some ⟨S,0,none⟩),.pointer (some ⟨l,0,none⟩)] 40)=wX at *;obtain⟨xc,_,Y⟩:=g.out.boxed;go_upto_region 9 with (first|(go_at_call 35;refine(N.out _ i.out).mono ?_;rintro e w1 ⟨z,rfl,ax,c⟩;obtain⟨av,_⟩:=(g.out.below c.out).rules;have X:=(g.out.below c.out).lt)|(go_at_call 36;refine(HO.out _).mono ?_;rintro e w2 ⟨rfl,j⟩;obtain rfl:=j.symm)|(go_at_call 37;refine(O.out _ (Pc i.out c.out)).mono ?_;rintro e w3 ⟨A,rfl,ai,G⟩))
  have am:=OY (Pc i.out c.out);have aA:Hid (gj (vL K b) w3 (z,A,l,n,t)):=aj.out w1 w3 z A am.out G.out (by
   obtain⟨R,J,U,P,f,r1,r2⟩:=ax.out;exact⟨_,R,J,U,P,f,i.out.size,r1,r2⟩) ai.out
  have M:=OY (Pc am.out G.out);have F:=OY (HW.out.below M.out);have a8:=(g.out.below c.out).below G.out;clear ax ai N O aj xc av Y X HH HO;obtain⟨xc,_,Y⟩:=a8.boxed;obtain⟨wc,wf,aR⟩:=F.out.box.boxed;have I:=F.out.ors;have aN:=zT ab M.out.size;obtain⟨a0,an,a6⟩:=zq I;subst a6;go_region_law (first|(refine dX w3 _ [.pointer (some ⟨z,0,none⟩),.pointer (some ⟨A,0,none⟩),.pointer (some ⟨l,0,none⟩)] 50 rfl (.tmp 65) (.tmp 71) 29 rfl B 50 i0 _ 3 24 underlying29 hi aB a9 aD rfl (by decide) (.slice a0 rs.length an) rs.length (dR rs) (by simp[Act.eval]) I (by exact(by repeat'(first|with_reducible(first|apply zR|assumption|apply zN|apply zA|apply zD|apply zS)|go_size))) w3.heap.size 1 (by simp[Act.eval]) (by exact OZ.drew (OZ.new _ _ _)) rfl (by simp[Value.oneCell']) (by omega) (by omega) (by omega) ?_;intro v' w4 ak ag al aP aM;obtain⟨aQ,aJ,rfl⟩:=zq ak;have a3:=F.out.box.save ag (qD I F.out.box (by decide));obtain⟨aL,aO,aK⟩:=a3.boxed))
  all_goals
   obtain⟨aH,aI,az⟩:=F.out.add aA.out ak ag al;have a4:=OY aH;have a7:=OY aI;have a5:=OY az;go_wp2;go_ret;exact⟨rfl,⟨_,_,by simp,a4.out⟩,(M.out.mono ab).trans a7.out,(zd.of M.out).trans a5.out⟩
end
section
open Go.Proofs.Tryz
theorem PP.addP{B:Nat}{w n:World}{j:Nat}{ps:List vc}{rs:List vh}{row:List ByteArray}{i a k f:Value}(h:PP B w j ps rs row i k f){p:vc}(A:dH B w (kg j i k f) p/\∃x,uu x=.ok (p.2.2.1,p.2.2.2))(y:n.ownsRow B 40 2 a (ps.length+1) (fI ps++[.pointer (some ⟨p.1,0,none⟩),.pointer (some ⟨p.2.1,0,none⟩)]))(z:zd i.ownBlock.toList w n)(v:a.ownBlock=i.ownBlock∨∃g,a.ownBlock=some g/\w.heap.size<=g):PP B (n.setCell ⟨j,0,none⟩ a) j (ps++[p]) rs row a k f/\Below B w (n.setCell ⟨j,0,none⟩ a):=by
 have s:=h.box.save z (qD h.ops h.box (by decide));have l:zd (j::i.ownBlock.toList) w (n.setCell ⟨j,0,none⟩ a):=(z.more (fun x t=>by simp[t])).trans ((zd.set n j 0 a).more (fun x t=>by simp at t;simp[t]));have D:fa (vL j f) w (j::i.ownBlock.toList):=fun b d=>by
  rcases zw.1 d with rfl|d
  ·exact ze ⟨_,_,h.box,zf rfl⟩
  ·obtain⟨c,C⟩:=qr h.ops (yv d);exact ze ⟨c,_,C,ze (zf rfl)⟩
 have r:∀q,dH B w (kg j i k f) q->dH B (n.setCell ⟨j,0,none⟩ a) (kg j a k f) q:=fun q o=>o.save l (fun b d=>by
  unfold kg;rcases zw.1 d with rfl|d
  ·simp
  ·simp[d]) (fun b d=>by
  unfold kg at d ⊢;simp only[zw,zW] at d ⊢;rcases d with d|(d|d)|d
  ·exact zf (zf d)
  ·rcases v with e|⟨g,e,q⟩
   ·rw[e] at d;exact zf (ze (zf (zf d)))
   ·rw[e] at d;simp at d;exact ze (by omega)
  ·exact zf (ze (zf (ze d)))
  ·exact zf (ze (ze d)))
 refine⟨⟨h.low,by simpa using s.set 0 a,?_,?_,?_,fun q o=>?_,fun q o=>(h.ress q o).save l D⟩,l.below (fun b d=>?_) (zT h.low (jX h.box.lt))⟩
 ·have q:=yI y (zd.set n j 0 a) (fun b d m=>xL y s (by decide) d (by simpa using m));have e:fI (ps++[p])=fI ps++[.pointer (some ⟨p.1,0,none⟩),.pointer (some ⟨p.2.1,0,none⟩)]:=by simp[fI]
  rw[e,yz];exact q
 ·refine yI h.ors l fun b d m=>?_;rcases zw.1 m with rfl|m
  ·exact xL h.ors h.box (by decide) d rfl
  ·exact fS h.ors h.ops (by decide) d (yv m)
 ·refine yI h.reg l fun b d m=>?_;rcases zw.1 m with rfl|m
  ·exact xL h.reg h.box (by decide) d rfl
  ·exact fS h.reg h.ops (by decide) d (yv m)
 ·rcases zW.1 o with u|u
  ·exact⟨r q (h.pairs q u).1,(h.pairs q u).2⟩
  ·rw[ud.1 u];exact⟨r p A.1,A.2⟩
 ·rcases zw.1 d with rfl|d
  ·exact h.low
  ·exact yW h.ops (yv d)
def jQ(B:Nat)(w:World)(h k i j:Nat)(e:Ending)(g:World):Prop:=e=.returned (.bool true)/\Hid (∃d f row b c a,d.length<=k+1/\f.length<=i+1/\row.length<=j+1/\PP B g h d f row b c a)/\Hid (Below B w g)
theorem Ld(B:Nat)(w:World)(A:Nat)(ps:List vc)(rs:List vh)(row:List ByteArray)(q i a:Value)(s:ByteArray)(h:PP B w A ps rs row q i a)(hs:s.size<=1048576)(V:ps.length<=1048576):
  Calls prog 16 #[.pointer (some ⟨A,0,none⟩),.string s] w fun e X=>jQ B w A ps.length rs.length row.length e X:=by
 have g:s.size<=9223372036854775807:=by omega
 have o:=zT h.low (jX h.box.lt);have T:=OY h;cases z:uu s with
 |error k=>
  have hk:=Ij z;have m:=OY z;clear z h;go_enter func16,ntmps16;go_wp2_with (first|(go_at_call 32;refine(LN m.out _ g).mono ?_;rintro e w1 ⟨rfl,f⟩)|(go_at_call 33;refine(MZ m.out _ g).mono ?_;rintro e O ⟨rfl,j⟩))
  go_ret;have c:=Pc f j;exact⟨rfl,⟨ps,rs,row,q,i,a,by omega,by omega,by omega,T.out.below c⟩,c.mono o⟩
 |ok p=>
  obtain⟨W,t⟩:=p;obtain⟨i0,hi,H,C,G⟩:=info_parts OV;have m:=OY z;obtain⟨J,x,D⟩:=zq h.ops;subst D;have v:∀b∈kg A (.slice J ps.length x) i a,b<w.heap.size:=fun b c=>by
   unfold kg at c;simp only[zw,zW] at c;rcases c with rfl|(c|c)|c
   ·exact h.box.lt
   ·exact yO h.ops (yv c)
   ·exact yO h.ors (yv c)
   ·exact yO h.reg (yv c)
  have E:=OY v;clear z v h;go_enter func16,ntmps16;go_wp2_with (first|(go_at_call 32;refine(Ls m.out _ g).mono ?_;rintro e w1 ⟨P,rfl,I,f⟩)|(go_at_call 33;refine(Fg m.out _ g).mono ?_;rintro e O ⟨S,rfl,K,j⟩;have n:=Pc f j;have d:=OY (T.out.below n);have l:=d.out.ops;obtain⟨ab,Z,R⟩:=d.out.box.boxed;have N:=n.size)|(at_builtin;refine d8 O _ [.pointer (some ⟨P,0,none⟩),.pointer (some ⟨S,0,none⟩)] _ rfl (.tmp 35) (.tmp 39) 28 rfl B 40 i0 _ 2 16 underlying28 hi H C G rfl (by decide) _ _ _ rfl l (zo _ _) _ _ rfl (by simp) rfl (by simp[Value.oneCell']) (by omega) (by omega) (by omega) ?_;intro v' w3 r y u;obtain⟨Y,Q,rfl⟩:=zq r;have F:=d.out.box.save y (qD l d.out.box (by decide));obtain⟨aa,ac,U⟩:=F.boxed))
  go_ret;obtain⟨L,M⟩:=d.out.addP (p:=(P,S,W,t)) ⟨dH.new o (I.below j) (K.low f.size) (EX m.out) E.out,s,m.out⟩ r y u;exact⟨rfl,⟨_,rs,row,_,i,a,by simp,by omega,by omega,L⟩,(n.mono o).trans M⟩
theorem Q8.turn{z:Nat}{w B:World}{x m F:Nat}{cs:List zc}{t:List zg}{lo G:Nat}{R:zx}{L:List z7}{k:Nat}{D E C H I g A:Value}{a:List Nat}(h:Q8 z w x m F cs t lo G R L k D E C H I g A a){M:List Nat}(l:zd M w B)(o:fa z w M){y:Nat}(j:y=z∨w.heap.size<=y∨∃c,OZ w y c 35):Q8 y B x m F cs t lo G R L k D E C H I g A a:=by
 rcases j with rfl|j
 ·exact h.save l o
 ·have q:=h.save l o;have s:=h.other j;obtain⟨O,S,P,Q⟩:=s.fl;obtain⟨f,N,J,r⟩:=h.fl;have p:∀{b:Nat} {v:Value} {n:Nat} {K:List Value},w.ownsRow b 9 1 v n K->v.ownBlock≠some y:=fun u e=>by
   rcases j with q|⟨c,q⟩
   ·have:=yO u e;omega
   ·exact xL u q (by decide) e rfl
  exact⟨q.res,s.nz,q.told,q.rep,q.model,⟨f,N,o.own J (zf (by decide)) (by decide) (by decide) (by decide) l,fun i c d=>⟨o.own (r i c d).1 (ze (r i c d).2) (by decide) (by decide) (by decide) l,p (r i c d).1⟩⟩,q.few,q.ctx,q.prog,q.names.1,s.names.2⟩
theorem gj.turn{z:Nat}{w d:World}{r:vh}(h:gj z w r){M:List Nat}(p:zd M w d)(g:fa z w M){y:Nat}(e:y=z∨w.heap.size<=y∨∃c,OZ w y c 35):gj y d r:=by
 obtain⟨i,s,R,L,k,l,n,f,j,o,b,m,a,q⟩:=h;exact⟨i,s,R,L,k,l,n,f,j,o,b,m,a,q.turn p g e⟩
theorem PP.turn{B:Nat}{w k:World}{f:Nat}{ps:List vc}{rs:List vh}{row row':List ByteArray}{l n d rowv':Value}(h:PP B w f ps rs row l n d)(t:Pg B k rowv' row')(u:zd d.ownBlock.toList w k)(m:rowv'.ownBlock=d.ownBlock∨rowv'.ownBlock=none∨∃g,rowv'.ownBlock=some g/\w.heap.size<=g):PP B (k.setCell ⟨f,9,none⟩ rowv') f ps rs row' l n rowv'/\Below B w (k.setCell ⟨f,9,none⟩ rowv'):=by
 have r:=h.box.save u (qD h.reg h.box (by decide));have i:zd (f::d.ownBlock.toList) w (k.setCell ⟨f,9,none⟩ rowv'):=(u.more (fun x s=>by simp[s])).trans ((zd.set k f 9 rowv').more (fun x s=>by simp at s;simp[s]));have C:fa (vL f d) w (f::d.ownBlock.toList):=fun b a=>by
  rcases zw.1 a with rfl|a
  ·exact ze ⟨_,_,h.box,zf rfl⟩
  ·have o:=yv a;obtain⟨c,y⟩:=qr h.reg o;exact zf ⟨by unfold vL;rw[o];rfl,c,y⟩
 have z:vL f rowv'=vL f d∨w.heap.size<=vL f rowv'∨∃c,OZ w (vL f rowv') c 35:=by
  unfold vL;rcases m with e|e|⟨g,e,q⟩
  ·rw[e];exact zf rfl
  ·rw[e];exact ze (ze ⟨_,h.box⟩)
  ·rw[e];exact ze (zf q)
 refine⟨⟨h.low,by simpa using r.set 9 rowv',?_,?_,?_,fun p v=>⟨(h.pairs p v).1.save i (fun b a=>?_) (fun b a=>?_),(h.pairs p v).2⟩,fun q A=>(h.ress q A).turn i C z⟩,i.below (fun b a=>?_) (zT h.low (jX h.box.lt))⟩
 ·refine yI h.ops i fun b a j=>?_;rcases zw.1 j with rfl|j
  ·exact xL h.ops h.box (by decide) a rfl
  ·exact fS h.ops h.reg (by decide) a (yv j)
 ·refine yI h.ors i fun b a j=>?_;rcases zw.1 j with rfl|j
  ·exact xL h.ors h.box (by decide) a rfl
  ·exact fS h.ors h.reg (by decide) a (yv j)
 ·exact yI t (zd.set k f 9 rowv') (fun b a j=>xL t r (by decide) a (by simpa using j))
 ·unfold kg;rcases zw.1 a with rfl|a
  ·simp
  ·simp[a]
 ·unfold kg at a ⊢;simp only[zw,zW] at a ⊢;rcases a with a|(a|a)|a
  ·exact zf (zf a)
  ·exact zf (ze (zf (zf a)))
  ·exact zf (ze (zf (ze a)))
  ·rcases m with e|e|⟨g,e,q⟩
   ·rw[e] at a;exact zf (ze (ze a))
   ·rw[e] at a;simp at a
   ·rw[e] at a;simp at a;exact ze (by omega)
 ·rcases zw.1 a with rfl|a
  ·exact h.low
  ·exact yW h.reg (yv a)
theorem JX(B:Nat)(w:World)(E:Nat)(ps:List vc)(rs:List vh)(row:List ByteArray)(k n x:Value)(a b c:Int)(s:ByteArray)(h:PP B w E ps rs row k n x)(aa:row.length<=1048576):
  Calls prog 94 #[.pointer (some ⟨E,0,none⟩),.agg #[.int .i64 9,.int .i64 a,.int .i64 b,.int .i64 c,.string s]] w fun e w'=>jQ B w E ps.length rs.length row.length e w':=by
 obtain⟨U,V,C,y,z⟩:=info_parts O4;have ab:=zT h.low (jX h.box.lt);have hB:=h.low;obtain⟨F,j,R⟩:=h.reg.qw;subst R;have D:w.ownsRow B 9 1 (.slice F row.length j) row.length (row.map Value.string):=h.reg;have X:=OY h;have Q:=h.box;obtain⟨hc,hf,Y⟩:=Q.boxed;clear h;cases T:(bits BinOp.and IntKind.i64 a 1 == 1) with
 |false=>
  go_enter func94,ntmps94;go_wp2;go_region_law (first|(refine dX w _ [.string s] 9 rfl (.tmp 177) (.tmp 180) 30 rfl B 9 U _ 1 16 underlying30 V C y z rfl (by decide) (.slice F row.length j) row.length (row.map Value.string) (by simp[Act.eval]) D (by exact(by repeat'(first|with_reducible(first|apply zR|assumption|apply zN|apply zA|apply zD|apply zS)|go_size))) (w.heap.size+1) 1 (by simp[Act.eval]) (by exact OZ.drew (OZ.newAt _ _ _ _ (by simp))) rfl (by simp[Value.oneCell']) (by omega) (by omega) (by omega) ?_;intro v' K f g d P J;obtain⟨l,i,rfl⟩:=zq f;have t:=Q.save g (qD D Q (by decide));obtain⟨N,L,I⟩:=t.boxed))
  all_goals
   have p:Pg B K (.slice l (row.length+1) i) (row++[s]):=by
    unfold Pg;rw[yz,vB];exact f
   obtain⟨o,q⟩:=X.out.turn p g (d.imp_right ze);have m:=OY o;have r:=OY q;go_wp2;go_ret;exact⟨rfl,⟨ps,rs,row++[s],k,n,_,by omega,by omega,by simp,m.out⟩,r⟩
 |true=>
  obtain⟨A,v⟩:=X.out.turn (row':=[]) (rowv':=.slice none 0 0) (yK _ _ _ _) (zd.refl _ _) (ze (zf rfl));have G:=OY A;have O:=OY v;have u:(w.setCell ⟨E,9,none⟩ (.slice none 0 0)).heap.size=w.heap.size:=by simp[World.setCell]
  clear A v;go_enter func94,ntmps94;go_wp2;generalize w.setCell ⟨E,9,none⟩ (.slice none 0 0)=M at *;have H:=G.out.box;obtain⟨ac,Z,W⟩:=H.boxed;have S:M.ownsRow B 9 1 (.slice none 0 0) 0 []:=yK _ _ _ _;go_region_law (first|(refine dX M _ [.string s] 9 rfl (.tmp 177) (.tmp 180) 30 rfl B 9 U _ 1 16 underlying30 V C y z rfl (by decide) (.slice none 0 0) 0 [] (by simp[Act.eval]) S (by exact(by repeat'(first|with_reducible(first|apply zR|assumption|apply zN|apply zA|apply zD|apply zS)|go_size))) (M.heap.size+1) 1 (by simp[Act.eval,u]) (by exact OZ.drew (OZ.newAt _ _ _ _ (by simp))) rfl (by simp[Value.oneCell']) (by omega) (by omega) (by omega) ?_;intro v' K f g d P J;obtain⟨l,i,rfl⟩:=zq f;have t:=H.save g (by simp[Value.ownBlock]);obtain⟨N,L,I⟩:=t.boxed))
  all_goals
   have p:Pg B K (.slice l (0+1) i) [s]:=f;obtain⟨o,q⟩:=G.out.turn p g (d.imp_right ze);have m:=OY o;have r:=OY q;go_wp2;go_ret;exact⟨rfl,⟨ps,rs,[s],k,n,_,by omega,by omega,by simp,m.out⟩,O.out.trans r.out⟩
end
end Go.Proofs.YteampbddflhngaaGreat
