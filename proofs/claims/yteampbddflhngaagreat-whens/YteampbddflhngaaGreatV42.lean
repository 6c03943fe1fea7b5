import Derived.Test.YteampbddflhngaaGreatV41
namespace Go.Proofs.YteampbddflhngaaGreat
set_option linter.all false
set_option maxRecDepth 100000
set_option maxHeartbeats 4000000
open Go.RowKit
section
open Go.Proofs.Tryz
variable {lo:Nat}{w0 w:World}{own0:Nat->zn}{t8 wd mr mx:Nat}{ar tbs:List Nat}
structure dC (lo:Nat) (w0 w:World) (own0 own:Nat->zn) (t8 g n wd mr mx:Nat) (ar:List Nat) (tbs:List Nat):Prop where
 low:w0.heap.size<=t8
 lowg:w0.heap.size<=g
 ne:t8≠g
 box:OZ w t8 #[.slice (some ⟨g,0,none⟩) n n,.int .i64 0,.int .i64 0,.int .i64 0,.int .i64 wd,.int .i64 mr,.int .i64 mx,.slice none 0 0] 214
 rows:w.ownsRow lo 162 1 (.slice (some ⟨g,0,none⟩) n n) n (Pu tbs++List.replicate (n-tbs.length) (.pointer none))
 tries:∀i (_:i<ar.length) (_:i<tbs.length),yN lo w own (0,i,0) tbs[i] (yS wd ar[i])
 mod:Pe lo uG w0 own0 w own
def AR:TypeId->zn->Prop:=fun _ _=>False
theorem dC.step{d:World}{own c:Nat->zn}{g n:Nat}(h:dC lo w0 w own0 own t8 g n wd mr mx ar tbs)(m:Pe lo AR w own d c):dC lo w0 d own0 c t8 g n wd mr mx ar tbs:=
 ⟨h.low,h.lowg,h.ne,h.box.mod m id,vd h.rows m (fun _=>id),fun i a b=>(h.tries i a b).mod m (fun _ _=>id),h.mod.trans (m.more fun _ _ q=>q.elim)⟩
theorem dC.push{d:World}{own:Nat->zn}{g n tb:Nat}{fp:List Nat}(h:dC lo w0 w own0 own t8 g n wd mr mx ar tbs)(m:lo<=w.heap.size)(x:tbs.length<n)(u:zX w.heap.size d tb (yS wd (ar.getD tbs.length 0)) fp)(f:Below w.heap.size w d):
  dC lo w0 (d.setCell ⟨g,tbs.length,none⟩ (.pointer (some ⟨tb,0,none⟩))) own0 (ext own w.heap.size (0,tbs.length,0)) t8 g n wd mr mx ar (tbs++[tb]):=by
 have t:=Pe.extNew (lo:=lo) (ok:=AR) own (0,tbs.length,0) f;have c:=h.step t;have j:zd [g] d (d.setCell ⟨g,tbs.length,none⟩ (.pointer (some ⟨tb,0,none⟩))):=zd.set _ _ _ _;obtain⟨y,l⟩:=qr c.rows rfl;have o:=Px.box l;refine⟨h.low,h.lowg,h.ne,c.box.saveT j o (by decide),?_,fun i a b=>?_,c.mod.newer j fun b f=>by simp at f;rw[f];exact h.lowg⟩
 ·have q:=uK c.rows tbs.length (by simp[Pu];omega) (.pointer (some ⟨tb,0,none⟩));have e:(Pu tbs++List.replicate (n-tbs.length) (Value.pointer none)).set tbs.length (.pointer (some ⟨tb,0,none⟩))=Pu (tbs++[tb])++List.replicate (n-(tbs++[tb]).length) (Value.pointer none):=by
   obtain⟨k,v⟩:∃k,n-tbs.length=k+1:=⟨n-tbs.length-1,by omega⟩;rw[List.set_append,za (by simp[Pu]),v,pN];have r:n-(tbs++[tb]).length=k:=by simp;omega
   rw[r];simp[Pu,pt]
  rw[e] at q;exact q
 ·simp only[yz,yZ,jH] at b;by_cases p:i<tbs.length
  ·rw[uT p];exact(c.tries i a p).saveT j o (by decide)
  ·obtain rfl:i=tbs.length:=by omega
   have s:(tbs++[tb])[tbs.length]=tb:=by simp
   rw[s];have q:=u.new own (0,tbs.length,0) m;rw[show ar.getD tbs.length 0=ar[tbs.length] by simp[List.getD,a]] at q;exact q.saveT j o (by decide)
theorem dC.done{own:Nat->zn}{g:Nat}(h:dC lo w0 w own0 own t8 g ar.length wd mr mx ar tbs)(d:lo<=w0.heap.size)(c:tbs.length=ar.length)(f:ar.length<=1000)(e:wd<=1000/\mr<=1048576/\mx<=1048576):zU lo w own t8 ⟨ar.map (yS wd),0,0,0,[]⟩ wd mr mx ⟨.slice (some ⟨g,0,none⟩) ar.length ar.length,tbs,.slice none 0 0,[]⟩:=by
 refine⟨zT d h.low,h.box,?_,by simp[c],fun p a b=>?_,yK _ _ _ _,rfl,fun p a=>by simp at a,⟨by simpa using f,by simp,by simp,by simp⟩,e⟩
 ·have q:=h.rows;rw[c,jK] at q;simpa using q
 ·simp only[uH] at a;simp only[vO];exact h.tries p a b
def Je(lo:Nat)(w:World)(own:Nat->zn)(wd mr mx:Nat)(b:Option zx)(e:Ending)(c:World):Prop:=match b with
 |none=>e=.returned (.tuple #[.agg #[.slice none 0 0,.int .i64 0,.int .i64 0,.int .i64 0],.bool false])/\∃a,Pe lo uG w own c a
 |some R=>∃a d Q,e=.returned (.tuple #[.agg #[Q.rv,.int .i64 R.count,.int .i64 R.qx,.int .i64 R.jh],.bool true])/\zU lo c a d R wd mr mx Q/\Pe lo uG w own c a
def ks:Nat->zn:=fun _=>(0,0,7)
theorem QI(w:World)(S:qU)(ps:List (Value×Value×Value))(av fv rv:Value)(mr mx F:Nat)(V:Option zx)(h:kP lo w av fv rv S ps)(aI:lo<=w.heap.size)(aY:rZ S.qj.length S.rules)(bH:S.qj.length<=1000)(a6:∀a∈S.qj,a<=100000000)(M:∀f∈S.facts,f.row.length=3)(bP:S.facts.length<=1000000)(bc:S.qf<=1000/\mr<=1048576/\mx<=1048576)(hr:pY F S mr mx=some V):
  Calls prog 74 #[.agg #[.int .i64 S.qf,av,fv,rv],.int .i64 mr,.int .i64 mx] w fun e w'=>Je lo w ks S.qf mr mx V e w':=by
 obtain⟨i0,hi,bA,b7,bF⟩:=info_parts O2;have HS:=OY h;have ad:=OY aI;have bx:=OY aY;have bC:=OY a6;have bE:=OY M;have HR:=OY hr;obtain⟨u,d,bs⟩:=zq h.ari;obtain⟨H,k,bv⟩:=zq h.fac;obtain⟨C,l,bz⟩:=zq h.rul.own;subst bs bv bz;have bL:=h.rul.few;have aZ:=fun W0:World=>run_make (P:=prog) (w:=W0) 150 162 i0 _ underlying150 hi bA .i64 .i64 (S.qj.length:Int) (S.qj.length:Int) (by omega) (Int.le_refl _) (by rw[bF];omega) (by omega);rw[b7] at aZ;clear h aI aY a6 M hr;go_enter func74,ntmps74;go_upto_region 4 with fail
 have aL:Below w.heap.size w ((((w.alloc (.cells #[.int .i64 S.qf,.slice u S.qj.length d,.slice H S.facts.length k,.slice C S.rules.length l] 146)).alloc (.cells #[.slice none 0 0,.int .i64 0,.int .i64 0,.int .i64 0] 152)).alloc (.cells #[.slice (some ⟨w.heap.size+1+1+1,0,none⟩) S.qj.length S.qj.length,.int .i64 0,.int .i64 0,.int .i64 0,.int .i64 S.qf,.int .i64 mr,.int .i64 mx,.slice none 0 0] 214)).alloc (.cells (madeCells #[.pointer none] S.qj.length) 162)):=(by go_grown);have bo:=(((OZ.new w #[.int .i64 S.qf,.slice u S.qj.length d,.slice H S.facts.length k,.slice C S.rules.length l] 146).up (.cells #[.slice none 0 0,.int .i64 0,.int .i64 0,.int .i64 0] 152)).up (.cells #[.slice (some ⟨w.heap.size+1+1+1,0,none⟩) S.qj.length S.qj.length,.int .i64 0,.int .i64 0,.int .i64 0,.int .i64 S.qf,.int .i64 mr,.int .i64 mx,.slice none 0 0] 214)).up (.cells (madeCells #[.pointer none] S.qj.length) 162);have aQ:=(((OZ.new (w.alloc (.cells #[.int .i64 S.qf,.slice u S.qj.length d,.slice H S.facts.length k,.slice C S.rules.length l] 146)) #[.slice none 0 0,.int .i64 0,.int .i64 0,.int .i64 0] 152).up (.cells #[.slice (some ⟨w.heap.size+1+1+1,0,none⟩) S.qj.length S.qj.length,.int .i64 0,.int .i64 0,.int .i64 0,.int .i64 S.qf,.int .i64 mr,.int .i64 mx,.slice none 0 0] 214)).up (.cells (madeCells #[.pointer none] S.qj.length) 162)).at' (b':=w.heap.size+1) (by simp);have bp:=((OZ.new ((w.alloc (.cells #[.int .i64 S.qf,.slice u S.qj.length d,.slice H S.facts.length k,.slice C S.rules.length l] 146)).alloc (.cells #[.slice none 0 0,.int .i64 0,.int .i64 0,.int .i64 0] 152)) #[.slice (some ⟨w.heap.size+1+1+1,0,none⟩) S.qj.length S.qj.length,.int .i64 0,.int .i64 0,.int .i64 0,.int .i64 S.qf,.int .i64 mr,.int .i64 mx,.slice none 0 0] 214).up (.cells (madeCells #[.pointer none] S.qj.length) 162)).at' (b':=w.heap.size+1+1) (by simp);have ab:=sO (((w.alloc (.cells #[.int .i64 S.qf,.slice u S.qj.length d,.slice H S.facts.length k,.slice C S.rules.length l] 146)).alloc (.cells #[.slice none 0 0,.int .i64 0,.int .i64 0,.int .i64 0] 152)).alloc (.cells #[.slice (some ⟨w.heap.size+1+1+1,0,none⟩) S.qj.length S.qj.length,.int .i64 0,.int .i64 0,.int .i64 0,.int .i64 S.qf,.int .i64 mr,.int .i64 mx,.slice none 0 0] 214)) S.qj.length 162 (.pointer none) (by unfold maxLen;omega);have aP:(((w.alloc (.cells #[.int .i64 S.qf,.slice u S.qj.length d,.slice H S.facts.length k,.slice C S.rules.length l] 146)).alloc (.cells #[.slice none 0 0,.int .i64 0,.int .i64 0,.int .i64 0] 152)).alloc (.cells #[.slice (some ⟨w.heap.size+1+1+1,0,none⟩) S.qj.length S.qj.length,.int .i64 0,.int .i64 0,.int .i64 0,.int .i64 S.qf,.int .i64 mr,.int .i64 mx,.slice none 0 0] 214)).heap.size=w.heap.size+1+1+1:=by simp
 rw[aP] at ab;have aw:Hid (dC lo w ((((w.alloc (.cells #[.int .i64 S.qf,.slice u S.qj.length d,.slice H S.facts.length k,.slice C S.rules.length l] 146)).alloc (.cells #[.slice none 0 0,.int .i64 0,.int .i64 0,.int .i64 0] 152)).alloc (.cells #[.slice (some ⟨w.heap.size+1+1+1,0,none⟩) S.qj.length S.qj.length,.int .i64 0,.int .i64 0,.int .i64 0,.int .i64 S.qf,.int .i64 mr,.int .i64 mx,.slice none 0 0] 214)).alloc (.cells (madeCells #[.pointer none] S.qj.length) 162)) ks ks (w.heap.size+1+1) (w.heap.size+1+1+1) S.qj.length S.qf mr mx S.qj []):=⟨by omega,by omega,by omega,bp,yr ab (by have:=ad.out;omega),(fun i a b=>by simp at b),Pe.of ks aL⟩;have s:=OY bo;have A:=OY aQ;clear aL bo aQ bp ab aP aZ;generalize ((((w.alloc (.cells #[.int .i64 S.qf,.slice u S.qj.length d,.slice H S.facts.length k,.slice C S.rules.length l] 146)).alloc (.cells #[.slice none 0 0,.int .i64 0,.int .i64 0,.int .i64 0] 152)).alloc (.cells #[.slice (some ⟨w.heap.size+1+1+1,0,none⟩) S.qj.length S.qj.length,.int .i64 0,.int .i64 0,.int .i64 0,.int .i64 S.qf,.int .i64 mr,.int .i64 mx,.slice none 0 0] 214)).alloc (.cells (madeCells #[.pointer none] S.qj.length) 162))=w1 at *;generalize hg:w.heap.size+1+1+1=g at *;generalize h8:w.heap.size+1+1=t8 at *;generalize h6:w.heap.size+1=t6 at *;have bu:t6≠t8:=by omega
 have bO:w.heap.size<t6:=by omega
 have bM:t8<g:=by omega
 have bQ:t6<g:=by omega
 clear hg h8 h6;go_loopw [28] (fun b6 wr=>∃m:Nat,m<=S.qj.length/\b6=.int .i64 m/\∃j tbs,Hid (dC lo w wr ks j t8 g S.qj.length S.qf mr mx S.qj tbs)/\Hid (tbs.length=m)/\Hid (OZ wr w.heap.size #[.int .i64 S.qf,.slice u S.qj.length d,.slice H S.facts.length k,.slice C S.rules.length l] 146)/\Hid (OZ wr t6 #[.slice none 0 0,.int .i64 0,.int .i64 0,.int .i64 0] 152)) (fun i _=>S.qj.length-(intOf i).toNat)
 case atStart=>exact⟨0,zv _,rfl,ks,[],aw,rfl,s,A⟩
 case round=>
  clear aw s A;obtain⟨m,hm,rfl,j,tbs,W,aG,s,A⟩:=hrel;have I:=W.out.mod.size;have G:=zT ad.out I;by_cases N:m<S.qj.length
  ·have a4:wr.ownsRow lo 3 1 (.slice u S.qj.length d) S.qj.length (S.qj.map PF):=pz HS.out.ari W.out.mod (fun b _ q=>by
    rcases q with q|q
    ·exact q.2 rfl
    ·revert q;decide)
   obtain⟨ga,b0,X,_,bR,aN⟩:=y7 a4 (by omega);simp only[Value.slice.injEq] at X;have a9:=X.1;clear X;subst a9;have q0:=aN m (.int .i64 (S.qj[m]:Nat)) (by simp[N,PF]);have bw:S.qj[m]<=100000000:=bC.out _ (zu _);obtain⟨br,bb,aT⟩:=W.out.box.boxed;obtain⟨R,M,Y⟩:=s.out.boxed;have a1:(m:Int)<(S.qj.length:Int):=by omega
   have HN:Hid (∀W0,Below wr.heap.size wr W0->Calls prog 119 #[.int .i64 S.qf,.int .i64 (S.qj[m]:Nat)] W0 fun e w'=>∃tb,e=.returned (.pointer (some ⟨tb,0,none⟩))/\w'.cell? ⟨t8,0,none⟩=some (.slice (some ⟨g,0,none⟩) S.qj.length S.qj.length)/\w'.cell? ⟨w.heap.size,0,none⟩=some (.int .i64 S.qf)/\w'.cell? ⟨g,m,none⟩=some (.pointer none)/\(∀o,w'.frozen? ⟨g,o,none⟩=false)/\g<w'.heap.size/\Hid (Below wr.heap.size wr w'/\∃al,dC lo w (w'.setCell ⟨g,m,none⟩ (.pointer (some ⟨tb,0,none⟩))) ks al t8 g S.qj.length S.qf mr mx S.qj (tbs++[tb]))):=fun W0 Z=>by
    refine(iw W0 S.qf S.qj[m] bc.1 bw).mono ?_;rintro e w' ⟨tb,fp,rfl,ht,ba⟩;have hB:=Pc Z ba;have h0:=W.out.step (Pe.of j Z);have h1:=W.out.step (Pe.of j hB);have aF:=aG.out;have hp:=h0.push (tb:=tb) (fp:=fp) (zT G Z.size) (by omega) (by rw[aF,show S.qj.getD m 0=S.qj[m] by simp[List.getD,N]];exact ht) ba;rw[aF] at hp;refine⟨tb,rfl,h1.box.rules.1 0,(hB.cell Y).trans (R 0),?_,qt h1.rows,yO h1.rows rfl,hB,_,hp⟩;obtain⟨g',bK,bg,_,_,b8⟩:=y7 h1.rows (by omega);simp only[Value.slice.injEq,zs,Addr.mk.injEq,and_true] at bg;have e:=bg.1;subst e;refine b8 m _ ?_;rw[g6 (by simp[Pu,aF]),List.getElem?_replicate,zb (by simp only[Pu,uH];omega)]
   have x8:wr.cell? ⟨t8,0,none⟩=some (.slice (some ⟨g,0,none⟩) S.qj.length S.qj.length):=br 0;have x3:wr.cell? ⟨w.heap.size,0,none⟩=some (.int .i64 S.qf):=R 0;clear br R aN a4;generalize S.qj[m]=am at *;go_upto_region 6 with fail
   go_region_held3 (fun w'=>w'.cell? ⟨t8,0,none⟩=some (.slice (some ⟨g,0,none⟩) S.qj.length S.qj.length)/\w'.cell? ⟨w.heap.size,0,none⟩=some (.int .i64 S.qf)) (first|go_keep|(go_simp;done)) (first|(go_at_call 119;refine(HN.out _ (by exact(zI (zo _ _) 1))).mono ?_;rintro e w2 ⟨tb,rfl,y8,y3,yg,yf,yl,HX⟩))
   have aA:=HX.out.1;obtain⟨al,bd⟩:=HX.out.2;have bD:=OY bd;have be:Hid (OZ (w2.setCell ⟨g,m,none⟩ (.pointer (some ⟨tb,0,none⟩))) w.heap.size _ 146):=(s.out.below aA).set_ne (by omega) _ _;have aM:Hid (OZ (w2.setCell ⟨g,m,none⟩ (.pointer (some ⟨tb,0,none⟩))) t6 _ 152):=(A.out.below aA).set_ne (by omega) _ _;clear aA bd HX y8 y3 yg yf yl HN x8 x3 bb aT M Y q0;generalize w2.setCell ⟨g,m,none⟩ (.pointer (some ⟨tb,0,none⟩))=W3 at *;go_wp2;exact⟨⟨m+1,by omega,by go_num,al,tbs++[tb],bD,show(tbs++[tb]).length=m+1 by simp[aG.out],be,aM⟩,by simp[intOf];omega⟩
  ·obtain rfl:m=S.qj.length:=by omega
   have a7:=OY (W.out.done ad.out aG.out bH bc);have a3:=OY W.out.mod;have bf:=OY (Qf wr j t8 _ S.qf mr mx _ a7.out G);clear W N hm;go_upto_region 9 with (first|(go_at_call 120;refine bf.out.mono ?_;rintro e w2 ⟨rfl,aO,a2,aV,aq⟩))
   have an:=OY (s.out.mod aq (km (by decide) _));have ay:Hid (OZ w2 t6 _ 152):=A.out.mod aq (km (by decide) _);have a8:Hid (zU lo w2 j t8 (fC S) S.qf mr mx ⟨.slice (some ⟨g,0,none⟩) S.qj.length S.qj.length,tbs,aO,a2⟩):=aV;have au:=OY (a3.out.trans (aq.more fun _ _ q=>DF q));clear s A a7 a3 bf aV aq I G;obtain⟨R1,b1,hF,hE⟩:∃R1 b1,fH mr S.facts (fC S)=some (R1,b1)/\(b1=false/\V=none∨b1=true/\∃R2 b2,dF F S.qf mr mx S.rules S.qj.length 0 R1=some (R2,b2)/\V=if b2 then some R2 else none):=by
    have hr:=HR.out;unfold pY at hr;split at hr
    ·cases hr
    ·rename_i R1 hA;simp at hr;exact⟨R1,false,hA,zf ⟨rfl,hr.symm⟩⟩
    ·rename_i R1 hA;rw[vr] at hr;obtain⟨⟨R2,b2⟩,h1,h2⟩:=hr;exact⟨R1,true,hA,ze ⟨rfl,R2,b2,h1,h2.symm⟩⟩
   have HE:=OY hE;have bq:Hid (fH mr (S.facts.drop 0) (fC S)=some (R1,b1)):=hF;clear hE hF;obtain⟨R,M,Y⟩:=an.out.boxed;go_upto_region 10 with fail
   clear R M Y;generalize b4:w2=w5 at *;clear b4;have aU:=OY (show(fC S).rows.length=S.qj.length by simp[fC,qv]);go_loopw [47] (fun bG wr=>∃m:Nat,m<=S.facts.length/\bG=.int .i64 m/\∃Rk j ae ah,Hid (zU lo wr j t8 Rk S.qf mr mx ⟨.slice (some ⟨g,0,none⟩) S.qj.length S.qj.length,tbs,ae,ah⟩)/\Hid (Pe lo uG w ks wr j)/\Hid (Rk.rows.length=S.qj.length)/\Hid (OZ wr w.heap.size #[.int .i64 S.qf,.slice u S.qj.length d,.slice H S.facts.length k,.slice C S.rules.length l] 146)/\Hid (OZ wr t6 #[.slice none 0 0,.int .i64 0,.int .i64 0,.int .i64 0] 152)/\Hid (fH mr (S.facts.drop m) Rk=some (R1,b1))) (fun i _=>S.facts.length-(intOf i).toNat)
   case atStart=>exact⟨0,zv _,rfl,fC S,j,aO,a2,a8,au,aU,an,ay,bq⟩
   case round=>
    clear a8 au aU an ay bq;obtain⟨m,hm,rfl,Rk,T,ae,ah,aa,L,ac,s,A,aB⟩:=hrel;have I:=L.out.size;have G:=zT ad.out I;by_cases N:m<S.facts.length
    ·have ax:=vd HS.out.fac L.out (l0 (by decide) (by decide));obtain⟨gf,bI,X,_,bS,af⟩:=y7 ax (by omega);simp only[Value.slice.injEq] at X;have a9:=X.1;clear X;subst a9;obtain⟨k0,k1,k2,k3⟩:=oI S.facts m N;have q0:=af _ _ k0;have q1:=af _ _ k1;have q2:=af _ _ k2;have q3:=af _ _ k3;have n:=aB.out;rw[xg N] at n;unfold fH at n;have h3:=bE.out _ (zu N);obtain⟨x,y,z,az⟩:∃x y z,S.facts[m].row=[x,y,z]:=by
      match ab:S.facts[m].row,h3 with
      |[x,y,z],_=>exact⟨x,y,z,rfl⟩
     rw[az] at q1 q2 q3 n;simp only[List.getD_cons_zero,List.getD_cons_succ] at q1 q2 q3;have a1:(m:Int)<(S.facts.length:Int):=by omega
     clear h3 k0 k1 k2 k3 af ax az;generalize S.facts[m].pred=p at *;cases ha:kN mr Rk p [x,y,z] with
     |none=>rw[ha] at n;cases n
     |some ar=>
      obtain⟨R3,b3⟩:=ar;rw[ha] at n;have bJ:=OY ((eC ha).trans ac.out);have aS:=OY fun W0 Z=>oA W0 T t8 Rk R3 S.qf mr mx _ p x y z b3 (aa.out.below Z) (zT G Z.size) ha;have aR:Below wr.heap.size wr (wr.alloc (.cells #[.int .i64 p,.int .i64 x,.int .i64 y,.int .i64 z] 210)):=(by go_grown);have aE:=OY aR;have ai:Hid (∀O c,Pe lo (fM p) (wr.alloc (.cells #[.int .i64 p,.int .i64 x,.int .i64 y,.int .i64 z] 210)) T O c->Pe lo uG w ks O c/\OZ O w.heap.size #[.int .i64 S.qf,.slice u S.qj.length d,.slice (some ⟨gf,0,none⟩) S.facts.length k,.slice C S.rules.length l] 146/\OZ O t6 #[.slice none 0 0,.int .i64 0,.int .i64 0,.int .i64 0] 152):=fun O c D=>by
       have aD:Pe lo (kd p) wr T O c:=(Pe.of T aE.out).trans (D.more fun _ _ q=>zf q);exact⟨L.out.trans (aD.more fun _ _ q=>en q),s.out.mod aD (lL (by decide) (by decide) _),A.out.mod aD (lL (by decide) (by decide) _)⟩
      clear ha aR;cases b3 with
      |false=>
       simp only[zs,yo] at n;have HQ:=OY n.2;clear n;go_wp2_with (first|(go_at_call 121;refine(aS.out _ aE.out).mono ?_;rintro e O ⟨rfl,c,U,Q,D⟩;obtain⟨J,_,K⟩:=ai.out _ _ D;obtain⟨ak,aW,aC⟩:=K.boxed))
       have B:V=none:=by
        have hE:=HE.out;rw[←HQ.out] at hE;rcases hE with⟨_,hE⟩|⟨hx,_⟩
        ·exact hE
        ·cases hx
       have ag:Hid (Pe lo uG w ks _ c):=J.newer (zd.sets t6 [.slice none 0 0,.int .i64 0,.int .i64 0,.int .i64 0] 0 O) (fun b Z=>by simp at Z;omega);refine zJ (v:=.tuple #[.agg #[.slice none 0 0,.int .i64 0,.int .i64 0,.int .i64 0],.bool false]) (by simp[results,results74,go_sem,ak]) rfl ?_;rw[B];exact⟨rfl,c,ag.out⟩
      |true=>
       have HQ:Hid (fH mr (S.facts.drop (m+1)) R3=some (R1,b1)):=n;clear n;go_wp2_with (first|(go_at_call 121;refine(aS.out _ aE.out).mono ?_;rintro e O ⟨rfl,c,U,Q,D⟩))
       obtain⟨J,aj,K⟩:=ai.out _ _ D;exact⟨⟨m+1,by omega,by go_num,R3,c,ae,U,Q,J,bJ,aj,K,HQ⟩,by simp[intOf];omega⟩
    ·obtain rfl:m=S.facts.length:=by omega
     have n:=aB.out;rw[List.drop_length] at n;simp only[fH,zs,yo] at n;obtain⟨R2,b2,aX,B⟩:∃R2 b2,dF F S.qf mr mx S.rules S.qj.length 0 Rk=some (R2,b2)/\V=if b2 then some R2 else none:=by
      have hE:=HE.out;rw[←n.2,←n.1] at hE;rcases hE with⟨hx,_⟩|⟨_,hE⟩
      ·cases hx
      ·exact hE
     have a5:Hid (dF F S.qf mr mx S.rules (S.qj.length-0) 0 Rk=some (R2,b2)):=aX;have ao:=OY B;clear n aX B aB HE N hm I G;obtain⟨R,M,Y⟩:=s.out.boxed;go_upto_region 16 with fail
     clear R M Y;generalize b5:wr=w6 at *;clear b5;go_loopw [62] (fun bB wr=>∃m:Nat,m<=S.qj.length/\bB=.int .i64 m/\∃Rk j ae ah,Hid (zU lo wr j t8 Rk S.qf mr mx ⟨.slice (some ⟨g,0,none⟩) S.qj.length S.qj.length,tbs,ae,ah⟩)/\Hid (Pe lo uG w ks wr j)/\Hid (Rk.rows.length=S.qj.length)/\Hid (OZ wr w.heap.size #[.int .i64 S.qf,.slice u S.qj.length d,.slice H S.facts.length k,.slice C S.rules.length l] 146)/\Hid (OZ wr t6 #[.slice none 0 0,.int .i64 0,.int .i64 0,.int .i64 0] 152)/\Hid (dF F S.qf mr mx S.rules (S.qj.length-m) m Rk=some (R2,b2))) (fun i _=>S.qj.length-(intOf i).toNat)
     case atStart=>exact⟨0,zv _,rfl,Rk,T,ae,ah,aa,L,ac,s,A,a5⟩
     case round=>
      clear aa L ac s A a5;obtain⟨m,hm,rfl,Ri,E,bm,aK,aa,L,ac,s,A,bn⟩:=hrel;have I:=L.out.size;have G:=zT ad.out I;by_cases N:m<S.qj.length
      ·have r:=bn.out;rw[show S.qj.length-m=(S.qj.length-(m+1))+1 from by omega] at r;unfold dF at r;cases ap:pp F S.qf mr mx S.rules Ri m with
       |none=>rw[ap] at r;cases r
       |some ar=>
        obtain⟨R3,b3⟩:=ar;rw[ap] at r;have bi:=HS.out.rul.mod L.out (l0 (by decide) (by decide)) (l0 (by decide) (by decide)) (l0 (by decide) (by decide));have aJ:=OY (Lj wr E t8 m Ri R3 _ S.rules ps S.qf mr mx _ F b3 aa.out bi G (by rw[ac.out];exact bx.out) ap);have ai:Hid (∀O c,Pe lo uG wr E O c->Pe lo uG w ks O c/\OZ O w.heap.size #[.int .i64 S.qf,.slice u S.qj.length d,.slice H S.facts.length k,.slice C S.rules.length l] 146/\OZ O t6 #[.slice none 0 0,.int .i64 0,.int .i64 0,.int .i64 0] 152):=fun O c D=>⟨L.out.trans D,s.out.mod D (l0 (by decide) (by decide) _),A.out.mod D (l0 (by decide) (by decide) _)⟩;obtain⟨R,M,Y⟩:=s.out.boxed;have a1:(m:Int)<(S.qj.length:Int):=by omega
        clear ap bi;cases b3 with
        |false=>
         simp only[zs,yo] at r;have HQ:=OY r.2;clear r;go_wp2_with (first|(go_at_call 122;refine aJ.out.mono ?_;rintro e O ⟨rfl,c,bh,U,Q,a0,D⟩;obtain⟨J,_,K⟩:=ai.out _ _ D;obtain⟨ak,aW,aC⟩:=K.boxed))
         have B:V=none:=by rw[ao.out,←HQ.out];rfl
         have ag:Hid (Pe lo uG w ks _ c):=J.newer (zd.sets t6 [.slice none 0 0,.int .i64 0,.int .i64 0,.int .i64 0] 0 O) (fun b Z=>by simp at Z;omega);refine zJ (v:=.tuple #[.agg #[.slice none 0 0,.int .i64 0,.int .i64 0,.int .i64 0],.bool false]) (by simp[results,results74,go_sem,ak]) rfl ?_;rw[B];exact⟨rfl,c,ag.out⟩
        |true=>
         have HQ:Hid (dF F S.qf mr mx S.rules (S.qj.length-(m+1)) (m+1) R3=some (R2,b2)):=r;clear r;go_wp2_with (first|(go_at_call 122;refine aJ.out.mono ?_;rintro e O ⟨rfl,c,bh,U,Q,a0,D⟩))
         obtain⟨J,aj,K⟩:=ai.out _ _ D;exact⟨⟨m+1,by omega,by go_num,R3,c,bh,U,Q,J,a0.trans ac.out,aj,K,HQ⟩,by simp[intOf];omega⟩
      ·obtain rfl:m=S.qj.length:=by omega
       have r:=bn.out;rw[jK] at r;simp only[dF,zs,yo] at r;have B:V=some Ri:=by rw[ao.out,←r.2,←r.1];rfl
       have b9:=OY B;clear r B ao;obtain⟨aT,bb,d0,d1,d2,d3,d4,d5,d6,d7⟩:=aa.out.at;obtain⟨ak,aW,aC⟩:=A.out.boxed;dsimp only at d0;clear d4 d5 d6 d7;have bN:t8≠t6:=fun e=>bu e.symm;go_wp2;have aH:=zd.sets t6 [.slice (some ⟨g,0,none⟩) S.qj.length S.qj.length,.int .i64 Ri.count,.int .i64 Ri.qx,.int .i64 Ri.jh] 0 wr;have bk:Pe lo (gd [152]) wr E _ E:=Pe.ofSave E aH (fun b Z=>by
        simp at Z;subst Z;exact⟨by have:=ad.out;omega,aC,_,_,A.out,ud.2 rfl⟩)
       have bt:Hid (zU lo _ E t8 Ri S.qf mr mx ⟨.slice (some ⟨g,0,none⟩) S.qj.length S.qj.length,tbs,bm,aK⟩):=aa.out.mod bk (km (by decide)) (km (by decide)) (km (by decide)) (fun _=>km (by decide) _) (fun _ t ht q=>by rw[ud.1 q] at ht;exact ht (by decide));have ag:Hid (Pe lo uG w ks _ E):=L.out.newer aH (fun b Z=>by simp at Z;omega);clear aH bk;refine zJ (v:=.tuple #[.agg #[.slice (some ⟨g,0,none⟩) S.qj.length S.qj.length,.int .i64 Ri.count,.int .i64 Ri.qx,.int .i64 Ri.jh],.bool true]) (by simp[results,results74,go_sem,ak]) rfl ?_;rw[b9.out];exact⟨E,t8,⟨.slice (some ⟨g,0,none⟩) S.qj.length S.qj.length,tbs,bm,aK⟩,rfl,bt.out,ag.out⟩
end
section
variable {lo:Nat}
def x6(ns:List ByteArray)(row:zk)(a m:Nat):List ByteArray:=(List.range a).map fun i=>if i<m then ns.getD (row.getD i 0) ByteArray.empty else ByteArray.empty
theorem nX(ns:List ByteArray)(row:zk)(a m:Nat):(x6 ns row a m).length=a:=by simp[x6]
attribute [local go_sem] O0 OF Ox
end
section
open Go.Proofs.Tryz
variable {lo:Nat}
def uq(ns:List ByteArray):List ByteArray->Nat->zk->Option zk
 |[],_,r=>some r
 |t::a,i,r=>match yT ns t with
  |none=>none
  |some v=>if i≥3 then none else uq ns a (i+1) (r.set i v)
def eU:Option zk->Value
 |none=>.tuple #[.agg #[.int .i64 0,.int .i64 0,.int .i64 0],.bool false]
 |some r=>.tuple #[.agg #[.int .i64 (r.getD 0 0:Nat),.int .i64 (r.getD 1 0:Nat),.int .i64 (r.getD 2 0:Nat)],.bool true]
theorem Ir{S:Nat}(w:World)(K:Nat)(ns ts:List ByteArray)(tv:Value)(h:QQ lo w K 1 ns)(hn:ns.length<=1000)(N:Pg S w tv ts)(hl:ts.length<=2000000):
  Calls prog 82 #[.pointer (some ⟨K,0,none⟩),tv] w fun e J=>e=.returned (eU (uq ns ts 0 [0,0,0]))/\Below w.heap.size w J:=by
 have HC:=OY h;have HT:=OY N;obtain⟨ao,ac,rfl⟩:=N.qw;have M:=h.1;have HV:Hid (∀W x,Below w.heap.size w W->Calls prog 129 #[.pointer (some ⟨K,1,none⟩),.string x] W fun e J=>e=.returned (.tuple #[.int .i64 (((yT ns x).getD 0:Nat):Int),.bool (yT ns x).isSome])/\Below W.heap.size W J):=fun W x hb=>(KA W K 1 ns x (HC.out.below hb) hn).mono (by
  rintro e J ⟨rfl,m,rfl⟩;exact⟨rfl,zI (zo _ _) m⟩)
 obtain⟨f,p⟩:∃f,f=uq ns ts 0 [0,0,0]:=⟨_,rfl⟩;rw[←p];have H:Hid (uq ns (ts.drop 0) 0 [0,0,0]=f):=p.symm;clear h N p;go_enter func82,ntmps82;go_upto_region 3 with fail
 have I:Below w.heap.size w ((w.alloc (.cells #[.int .i64 0,.int .i64 0,.int .i64 0] 165)).alloc (.cells #[.int .i64 0,.int .i64 0,.int .i64 0] 165)):=(by go_grown);have D:=(OZ.new w #[.int .i64 0,.int .i64 0,.int .i64 0] 165).up (.cells #[.int .i64 0,.int .i64 0,.int .i64 0] 165);have B:=(OZ.new (w.alloc (.cells #[.int .i64 0,.int .i64 0,.int .i64 0] 165)) #[.int .i64 0,.int .i64 0,.int .i64 0] 165).at' (b':=w.heap.size+1) (by simp);have j:Hid (OZ _ w.heap.size #[.int .i64 0,.int .i64 0,.int .i64 0] 165):=D;have u:Hid (OZ _ (w.heap.size+1) #[.int .i64 ((0:Nat):Int),.int .i64 ((0:Nat):Int),.int .i64 ((0:Nat):Int)] 165):=B;clear D B;generalize (w.alloc (.cells #[.int .i64 0,.int .i64 0,.int .i64 0] 165)).alloc (.cells #[.int .i64 0,.int .i64 0,.int .i64 0] 165)=w1 at *;generalize hg:w.heap.size+1=U at *;have aa:w.heap.size<U:=by omega
 clear hg;go_loopw [13] (fun R wr=>∃m:Nat,m<=ts.length/\R=.int .i64 m/\∃a b c:Nat,Below w.heap.size w wr/\Hid (OZ wr w.heap.size #[.int .i64 0,.int .i64 0,.int .i64 0] 165)/\Hid (OZ wr U #[.int .i64 a,.int .i64 b,.int .i64 c] 165)/\Hid (uq ns (ts.drop m) m [a,b,c]=f)) (fun i _=>ts.length-(intOf i).toNat)
 case atStart=>exact⟨0,by omega,rfl,0,0,0,I,j,u,H⟩
 case round=>
  clear j u H I;obtain⟨m,hm,rfl,a,b,c,l,j,u,T⟩:=hrel;have ab:=xo M l.size;by_cases E:m<ts.length
  ·obtain⟨g,P,hg,Q⟩:=(HT.out.below l).cell m E;subst P;have o:=T.out;rw[xg E] at o;unfold uq at o;have ae:(m:Int)<(ts.length:Int):=by omega
   generalize ts[m]=x at *;have n:=HV.out wr x l;cases L:yT ns x with
   |none=>
    rw[L] at o n;simp only[kc,jW] at n;have F:Hid (f=none):=o.symm;clear o L;go_wp2_with (first|(go_at_call 129;refine n.mono ?_;rintro e Y ⟨rfl,d⟩;have z:=j.out.below d;obtain⟨s,G,C⟩:=z.boxed;have k:=Pc l d))
    refine zJ (v:=.tuple #[.agg #[.int .i64 0,.int .i64 0,.int .i64 0],.bool false]) (by simp[results,results82,go_sem,s]) rfl ?_;rw[F.out];exact⟨rfl,((k.setCell (by simp) _).setCell (by simp) _).setCell (by simp) _⟩
   |some v=>
    rw[L] at o n;simp only[uo,qJ] at n;clear L;by_cases Z:m≥3
    ·have F:=OY (show f=none by simpa [Z] using o.symm);have ad:(3:Int)<=(m:Int):=by omega
     clear o;go_wp2_with (first|(go_at_call 129;refine n.mono ?_;rintro e Y ⟨rfl,d⟩;have z:=j.out.below d;obtain⟨s,G,C⟩:=z.boxed;have k:=Pc l d))
     refine zJ (v:=.tuple #[.agg #[.int .i64 0,.int .i64 0,.int .i64 0],.bool false]) (by simp[results,results82,go_sem,s]) rfl ?_;rw[F.out];exact⟨rfl,((k.setCell (by simp) _).setCell (by simp) _).setCell (by simp) _⟩
    ·have A:=OY (show uq ns (ts.drop (m+1)) (m+1) ([a,b,c].set m v)=f by simpa [Z] using o);clear o T;have hc:m=0∨m=1∨m=2:=by omega
     rcases hc with rfl|rfl|rfl
     all_goals go_wp2_with (first|(go_at_call 129;refine n.mono ?_;rintro e Y ⟨rfl,d⟩;have r:=u.out.below d;have y:=OY (j.out.below d);have t:=OY r;obtain⟨X,V,O⟩:=r.boxed;have k:=Pc l d;clear r))
     ·exact⟨⟨1,by omega,rfl,v,b,c,k.setCell (by simp;omega) _,y.out.set_ne (by omega) _ _,by have q:=t.out.set 0 (.int .i64 v);simpa [Hid] using q,A⟩,by simp[intOf];omega⟩
     ·exact⟨⟨2,by omega,rfl,a,v,c,k.setCell (by simp;omega) _,y.out.set_ne (by omega) _ _,by have q:=t.out.set 1 (.int .i64 v);simpa [Hid] using q,A⟩,by simp[intOf];omega⟩
     ·exact⟨⟨3,by omega,rfl,a,b,v,k.setCell (by simp;omega) _,y.out.set_ne (by omega) _ _,by have q:=t.out.set 2 (.int .i64 v);simpa [Hid] using q,A⟩,by simp[intOf];omega⟩
  ·obtain rfl:m=ts.length:=by omega
   have o:=T.out;rw[List.drop_length,uq] at o;have F:Hid (f=some [a,b,c]):=o.symm;clear o;obtain⟨s,G,C⟩:=j.out.boxed;obtain⟨X,V,O⟩:=u.out.boxed;have af:U≠w.heap.size:=by omega
   go_wp2;refine zJ (v:=.tuple #[.agg #[.int .i64 a,.int .i64 b,.int .i64 c],.bool true]) (by simp[results,results82,go_sem,s]) rfl ?_;rw[F.out];exact⟨rfl,((l.setCell (by simp) _).setCell (by simp) _).setCell (by simp) _⟩
end
end Go.Proofs.YteampbddflhngaaGreat
