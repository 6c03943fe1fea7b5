import Derived.Laws.Tables
import Derived.Laws.Rows
import Derived.Deep.MidRow
import Derived.Test.YteampbddflhngaaGreatX20
namespace Go.Proofs.YteampbddflhngaaGreat
set_option linter.all false
set_option maxRecDepth 100000
set_option maxHeartbeats 4000000
open Go.RowKit
section
open Go.Proofs.Tryz
variable {lo:Nat}{r:zq}{tv sv bv:Value}{hvs:List Value}{jg:List Int}{d:Int}
theorem OU:(prog.info? 323).map (fun i=>(i.zero,i.size,i.bytes))=some (some (.agg #[.pointer none,.int .i64 0,.int .i64 0,.int .i64 0]),4,32):=by kernel_rfl
theorem OL:(prog.info? 325).map (fun i=>(i.zero,i.size,i.bytes))=some (some (.agg #[.int .i64 0,.slice none 0 0,.int .i64 0,.pointer none]),4,48):=by kernel_rfl
theorem Pu:(prog.info? 310).map (·.size)=some 28:=by kernel_rfl
structure jn (lo:Nat) (w:World) (J:zy) (P:xp):Prop where
 head:yh lo w P.tv J.head.qg
 qy:w.ownsRow lo 323 4 P.sv J.qy.length (yu (List.zipWith gJ J.qy P.tbs))
 slen:P.tbs.length=J.qy.length
 tries:∀k (_:k<J.qy.length) (_:k<P.tbs.length),zY lo w P.tbs[k].1 J.qy[k].rows P.tbs[k].2
 qi:∀s∈J.qy,s.qi.length=3
 bars:w.ownsRow lo 325 4 P.bv J.bars.length (yu (List.zipWith kS J.bars P.bps))
 blen:P.bps.length=J.bars.length
 ji:∀k (_:k<J.bars.length) (_:k<P.bps.length),yh lo w P.bps[k].1 J.bars[k].lit.qg/\zY lo w P.bps[k].2.1 J.bars[k].rows P.bps[k].2.2
 hlen:P.hvs.length=5/\J.je.length=5
 je:∀p (_:p<J.je.length) (_:p<P.hvs.length),w.ownsRow lo 327 2 P.hvs[p] J.je[p].length (jV J.je[p])/\J.je[p].length<=1000/\∀h∈J.je[p],h.1<=1000000/\h.2<=1000000
 jk:J.jg.length=5/\J.ja.length=5/\J.from.length=5
 few:J.qy.length<=1000/\J.bars.length<=1000/\J.vars<=1000000
theorem jn.join{w:World}{a:Nat}{J:zy}{P:xp}(h:jn lo w J P)(b:lo<=a)(c:Py w a (um J P).toArray 310):PP lo w a J P:=
 ⟨b,c,h.head,h.qy,h.slen,h.tries,h.qi,h.bars,h.blen,h.ji,h.hlen,h.je,h.jk,h.few⟩
theorem jn.below{w e:World}{J:zy}{P:xp}(h:jn lo w J P)(c:Below w.heap.size w e):jn lo e J P:=
 ⟨h.head.below c,zC h.qy c,h.slen,fun k a b=>(h.tries k a b).below c,h.qi,zC h.bars c,h.blen,fun k a b=>⟨(h.ji k a b).1.below c,(h.ji k a b).2.below c⟩,h.hlen,fun p a b=>⟨zC (h.je p a b).1 c,(h.je p a b).2⟩,h.jk,h.few⟩
theorem pn(J:zy)(P:xp)(h:P.hvs.length=5)(a:J.jg.length=5/\J.ja.length=5/\J.from.length=5):(um J P).length=28:=by
 simp[um,h,a.1,a.2.1,a.2.2]
def jc(r:zq)(tv sv bv:Value)(hvs:List Value)(jg:List Int)(d:Int):List Value:=
 [.int .i64 r.head.pred,tv,.int .i64 r.vars,sv,bv]++hvs++jg.map (Value.int .i64)++[.int .i64 (xt r r.vars)]++([0,0,0,0,0]:List Nat).map Qb++([0,0,0,0,0]:List Nat).map Qb++[.int .i64 d,.int .i64 0]
theorem M4(a:hvs.length=5)(k:Nat)(h:k<5)(u:Value):(jc r tv sv bv hvs jg d).toArray.setIfInBounds (5+k) u=(jc r tv sv bv (hvs.set k u) jg d).toArray:=by
 obtain⟨c,e,f,b,g,rfl⟩:=five a;obtain rfl|rfl|rfl|rfl|rfl:k=0∨k=1∨k=2∨k=3∨k=4:=by omega
 all_goals simp[jc]
theorem JM(b:hvs.length=5)(a:jg.length=5)(k:Nat)(o:k<5)(u:Int):(jc r tv sv bv hvs jg d).toArray.setIfInBounds (10+k) (.int .i64 u)=(jc r tv sv bv hvs (jg.set k u) d).toArray:=by
 obtain⟨l,j,m,g,f,rfl⟩:=five b;obtain⟨e,c,i,n,h,rfl⟩:=five a;obtain rfl|rfl|rfl|rfl|rfl:k=0∨k=1∨k=2∨k=3∨k=4:=by omega
 all_goals simp[jc]
theorem O0(b:hvs.length=5)(a:jg.length=5)(u:Int):(jc r tv sv bv hvs jg d).toArray.setIfInBounds 26 (.int .i64 u)=(jc r tv sv bv hvs jg u).toArray:=by
 obtain⟨i,j,k,f,m,rfl⟩:=five b;obtain⟨e,c,g,l,h,rfl⟩:=five a;simp[jc]
theorem La(u:Value):(jc r tv sv bv hvs jg d).toArray.setIfInBounds 4 u=(jc r tv sv u hvs jg d).toArray:=by simp[jc]
theorem M6(b:hvs.length=5)(a:jg.length=5):(jc r tv sv bv hvs jg d).toArray[3]?=some sv/\(jc r tv sv bv hvs jg d).toArray[4]?=some bv/\(jc r tv sv bv hvs jg d).toArray[26]?=some (.int .i64 d)/\(∀k,k<5->(jc r tv sv bv hvs jg d).toArray[5+k]?=some (hvs.getD k (.bool false)))/\(∀k,k<5->(jc r tv sv bv hvs jg d).toArray[10+k]?=some (.int .i64 (jg.getD k 0))):=by
 obtain⟨j,l,m,g,o,rfl⟩:=five b;obtain⟨f,e,h,n,i,rfl⟩:=five a;refine⟨by simp[jc],by simp[jc],by simp[jc],fun k c=>?_,fun k c=>?_⟩
 all_goals
  obtain rfl|rfl|rfl|rfl|rfl:k=0∨k=1∨k=2∨k=3∨k=4:=by omega
  all_goals simp[jc]
theorem Di:∀(a:List V4) (k:Nat) (_:k<a.length) (u:Value),(yu a).set (k*4) u=yu (a.modify k fun y=>(u,y.2.1,y.2.2.1,y.2.2.2))
 |[],k,b,_=>by simp at b
 |y::r,0,_,u=>by simp[yu,dR]
 |y::r,k+1,b,u=>by
  have:=Di r k (by simpa using b) u;simp only[yu,uo,dR,List.modify_succ_cons] at this ⊢;rw[show(k+1)*4=k*4+1+1+1+1 from by omega];simpa using this
theorem Ik(a:List V4)(y:V4):yu (a++[y])=yu a++[y.1,y.2.1,y.2.2.1,y.2.2.2]:=by simp[yu,dR]
theorem Ow(b c a e:Value):∀(n i:Nat),i<n*4->(madeCells #[b,c,a,e] (n*4))[i]?=(yu (List.replicate n (b,c,a,e)))[i]?:=by
 intro n i q;obtain⟨k,j,o,rfl⟩:∃k j,j<4/\i=k*4+j:=⟨i / 4,i%4,Nat.mod_lt _ (by decide),by omega⟩;have s:k<n:=by omega
 obtain⟨g,h,f,l⟩:=rq (List.replicate n (b,c,a,e)) k (by simpa using s);simp only[tO] at g h f l;have p:(k*4+j)%4=j:=by omega
 simp only[madeCells,Array.getElem?_map,Array.getElem?_range];rw[zb q];simp only[jj];have m:(#[b,c,a,e]:Array Value).size=4:=rfl;rw[m,p];match j,o with
 |0,_=>rw[uK,g];rfl
 |1,_=>rw[h];rfl
 |2,_=>rw[f];rfl
 |3,_=>rw[l];rfl
theorem Og{W:World}{g n:Nat}{T:TypeId}{a c b e:Value}(h:Py W g (madeCells #[a,c,b,e] (n*4)) T)(k:lo<=g)(j:n<=maxLen):W.ownsRow lo T 4 (sl g n) n (yu (List.replicate n (a,c,b,e))):=by
 refine⟨by rw[sg];simp,ze ⟨g,n,madeCells #[a,c,b,e] (n*4),rfl,k,h,zf _,j,by rw[size_madeCells],?_⟩⟩;apply mp;intro i;by_cases f:i<n*4
 ·rw[l9,zb f,Array.getElem?_toList,Ow _ _ _ _ n i f]
 ·rw[l9,za f,kp (by rw[sg];simp;omega)]
def Ro(b:Nat):Value:=.pointer (some ⟨b,0,none⟩)
def ez:V4:=(.pointer none,.int .i64 0,.int .i64 0,.int .i64 0)
def sU:List Value:=[.slice none 0 0,.slice none 0 0,.slice none 0 0,.slice none 0 0,.slice none 0 0]
def sS(w b:World)(r:zq)(tv:Value)(n:Nat)(s:Value):Prop:=∃a g,s=.pointer (some ⟨a,0,none⟩)/\w.heap.size<=a/\w.heap.size<=g/\Py b a (jc r tv (sl g n) (.slice none 0 0) sU [0,0,0,0,0] 0).toArray 310/\Py b g (madeCells #[.pointer none,.int .i64 0,.int .i64 0,.int .i64 0] (n*4)) 323/\Below w.heap.size w b
end
section
variable {lo:Nat}{w0 w:World}{b6 jb:Nat}{r:zq}{tv sv bv:Value}{hvs:List Value}{jg:List Int}{d:Int}
theorem Gp{l:zt}{p n:Nat}(h:yN l p=some n):n<=p:=by
 unfold yN at h;split at h
 ·simp only[zr] at h;have:=rh (p:=zH l) (l:=List.range p);simp at this;omega
 ·cases h
theorem F5(r:zq)(p:Nat)(j:r.qc.length<=1000)(k:p<=1000000):(yW r p).length<=1000/\∀h∈yW r p,h.1<=1000000/\h.2<=1000000:=by
 constructor
 ·have:=p4 (gy p) r.qc.zipIdx;rw[Bv];simp at this;omega
 ·intro h c;rw[Bv,lN] at c;obtain⟨x,e,b⟩:=c;unfold gy at b;cases a:yN x.1 p with
  |none=>rw[a] at b;cases b
  |some g=>
   rw[a] at b;simp only[jj,zr] at b;subst b;have i:=Gp a;have f:=List.snd_lt_of_mem_zipIdx e;simp only;omega
structure uE (lo:Nat) (w0 w:World) (b6 jb:Nat) (r:zq) (tv sv bv:Value) (hvs:List Value) (jg:List Int) (d:Int):Prop where
 box:Py w jb (jc r tv sv bv hvs jg d).toArray 310
 hlen:hvs.length=5
 blen:jg.length=5
 res:∃c,Py w b6 c 310/\c.size=28
 below:Below w0.heap.size w0 w
 ne:w0.heap.size<=jb/\w0.heap.size<=b6/\jb≠b6
theorem uE.next{b:World}(h:uE lo w0 w b6 jb r tv sv bv hvs jg d)(a:Below w.heap.size w b):uE lo w0 b b6 jb r tv sv bv hvs jg d:=by
 obtain⟨c,f,e⟩:=h.res;exact⟨h.box.below a,h.hlen,h.blen,⟨c,f.below a,e⟩,P3 h.below a,h.ne⟩
theorem uE.hold(h:uE lo w0 w b6 jb r tv sv bv hvs jg d)(k:Nat)(b:k<5)(u:Value):uE lo w0 (w.setCell ⟨jb,5+k,none⟩ u) b6 jb r tv sv bv (hvs.set k u) jg d:=by
 obtain⟨c,e,a⟩:=h.res;refine⟨?_,by simpa using h.hlen,h.blen,⟨c,e.set_ne (Ne.symm h.ne.2.2) _ _,a⟩,h.below.setCell h.ne.1 _,h.ne⟩;have:=h.box.set (5+k) u;rw[M4 h.hlen k b] at this;exact this
theorem uE.back(h:uE lo w0 w b6 jb r tv sv bv hvs jg d)(k:Nat)(b:k<5)(u:Int):uE lo w0 (w.setCell ⟨jb,10+k,none⟩ (.int .i64 u)) b6 jb r tv sv bv hvs (jg.set k u) d:=by
 obtain⟨c,e,a⟩:=h.res;refine⟨?_,h.hlen,by simpa using h.blen,⟨c,e.set_ne (Ne.symm h.ne.2.2) _ _,a⟩,h.below.setCell h.ne.1 _,h.ne⟩;have:=h.box.set (10+k) (.int .i64 u);rw[JM h.hlen h.blen k b] at this;exact this
theorem uE.ql(h:uE lo w0 w b6 jb r tv sv bv hvs jg d)(u:Int):uE lo w0 (w.setCell ⟨jb,26,none⟩ (.int .i64 u)) b6 jb r tv sv bv hvs jg u:=by
 obtain⟨c,b,a⟩:=h.res;refine⟨?_,h.hlen,h.blen,⟨c,b.set_ne (Ne.symm h.ne.2.2) _ _,a⟩,h.below.setCell h.ne.1 _,h.ne⟩;have:=h.box.set 26 (.int .i64 u);rw[O0 h.hlen h.blen] at this;exact this
theorem uE.bars(h:uE lo w0 w b6 jb r tv sv bv hvs jg d)(u:Value):uE lo w0 (w.setCell ⟨jb,4,none⟩ u) b6 jb r tv sv u hvs jg d:=by
 obtain⟨c,b,a⟩:=h.res;refine⟨?_,h.hlen,h.blen,⟨c,b.set_ne (Ne.symm h.ne.2.2) _ _,a⟩,h.below.setCell h.ne.1 _,h.ne⟩;have:=h.box.set 4 u;rw[La] at this;exact this
theorem uE.save{w0 w e:World}{b6 jb:Nat}{r:zq}{tv sv bv:Value}{hvs:List Value}{jg:List Int}{d:Int}{M:List Nat}(h:uE lo w0 w b6 jb r tv sv bv hvs jg d)(hs:zd M w e)(i:∀b∈M,w0.heap.size<=b)(a:jb∉M/\b6∉M):uE lo w0 e b6 jb r tv sv bv hvs jg d:=by
 obtain⟨c,g,f⟩:=h.res;exact⟨h.box.save hs a.1,h.hlen,h.blen,⟨c,g.save hs a.2,f⟩,h.below.trans (hs.below i h.below.size),h.ne⟩
def qv(PH:List (Nat×List Nat))(n k:Nat):List V4:=(PH.take k).map (fun x=>(Ro x.1,.int .i64 0,.int .i64 0,.int .i64 0))++List.replicate (n-k) ez
structure dG (b0 lo:Nat) (w:World) (v:Value) (ts:List zi) (PH:List (Nat×List Nat)):Prop where
 own:w.ownsRow b0 162 1 v ts.length (PH.map fun x=>Ro x.1)
 len:PH.length=ts.length
 tries:∀k (_:k<ts.length) (_:k<PH.length),zY lo w PH[k].1 ts[k] PH[k].2
 few:ts.length<=1000
theorem dG.below{c:Nat}{w e:World}{v:Value}{ts:List zi}{PH:List (Nat×List Nat)}(h:dG c lo w v ts PH)(f:Below w.heap.size w e):dG c lo e v ts PH:=⟨zC h.own f,h.len,fun k a b=>(h.tries k a b).below f,h.few⟩
theorem dG.cell{f:Nat}{w:World}{v:Value}{ts:List zi}{PH:List (Nat×List Nat)}(h:dG f lo w v ts PH)(k:Nat)(j:k<ts.length)(b:k<PH.length):∃g a,v=.slice (some ⟨g,0,none⟩) ts.length a/\g<w.heap.size/\w.cell? ⟨g,k,none⟩=some (.pointer (some ⟨PH[k].1,0,none⟩)):=by
 obtain⟨g,a,e,_,c,i⟩:=yC h.own (by omega);exact⟨g,a,e,c,i k _ (by simp[b,Ro])⟩
def jM(r:zq)(k:Nat):List Int:=(List.range 5).map fun p=>if p<k then xt r (p:Nat) else 0
theorem Jo(r:zq)(k:Nat)(a:k<5):(jM r k).set k (xt r (k:Nat))=jM r (k+1):=by
 obtain rfl|rfl|rfl|rfl|rfl:k=0∨k=1∨k=2∨k=3∨k=4:=by omega
 all_goals rfl
def uS(r:zq)(qc qp:List zi)(d:Int):zy:={head:=r.head,vars:=r.vars,qy:=qc.map (fun T=>⟨T,[0,0,0]⟩),bars:=(r.qp.zip qp).map (fun x=>⟨x.1,uC x.1,x.2⟩),je:=(List.range 5).map (yW r),jg:=(List.range 5).map (fun p=>xt r (p:Nat)),last:=xt r r.vars,ja:=[0,0,0,0,0],«from»:=[0,0,0,0,0],ql:=d,jf:=0}
def ku(qc:List zi):Int:=if qc.any (fun T=>T.count == 0) then -1 else 0
theorem M8(r:zq)(qc qp:List zi):xv r qc qp=if uy (uS r qc qp (ku qc)) 0 then uS r qc qp (-1) else uS r qc qp (ku qc):=rfl
end
section
open Go.Proofs.Tryz
variable {lo:Nat}{W w w':World}{cs hvs:List Value}{r:zq}{jb k:Nat}{nts:List (Nat×List Nat)}{bps:List (Value×Nat×List Nat)}{tv sv bv:Value}{jg:List Int}{d:Int}
def ur(W:World)(b:Nat):Prop:=∃c:Array Value,Py W b c 310/\c.size=28
def kW(W:World)(b:Nat)(cs:List Value):World:=W.setCells b 0 cs
theorem Py.sets{T:TypeId}{b:Nat}:∀(vs:List Value) (o:Nat) (w:World) (l:List Value),Py w b l.toArray T->o+vs.length=l.length->Py (w.setCells b o vs) b (l.take o++vs).toArray T
 |[],o,w,l,h,e=>by
  simp at e;subst e;simpa [World.setCells] using h
 |v::r,o,w,l,h,e=>by
  simp only[xd] at e;have a:Py (w.setCell ⟨b,o,none⟩ v) b (l.set o v).toArray T:=by simpa using h.set o v
  have:=Py.sets r (o+1) _ _ a (by simp;omega);rw[World.setCells];rw[show l.take o++v::r=(l.set o v).take (o+1)++r from by
   rw[List.take_set,yP (by omega:o<l.length),fG _ _ (by simp;omega)];simp[Nat.min_eq_left (show o<=l.length by omega)]]
  exact this
theorem nC{b:Nat}(h:ur W b)(f:cs.length=28):Py (kW W b cs) b cs.toArray 310:=by
 obtain⟨c,a,e⟩:=h;have:=Py.sets cs 0 W c.toList (by simpa using a) (by simp;omega);simpa [kW] using this
theorem zd.sets(b:Nat):∀(vs:List Value) (o:Nat) (w:World),zd [b] w (w.setCells b o vs)
 |[],_,w=>zd.refl _ w
 |v::r,o,w=>(zd.set w b o v).trans (zd.sets b r (o+1) _)
theorem pV(W:World)(b:Nat)(cs:List Value):zd [b] W (kW W b cs):=zd.sets b cs 0 W
theorem jU(W:World)(b:Nat)(cs:List Value)(b' o:Nat)(h:b'≠b):(kW W b cs).cell? ⟨b',o,none⟩=W.cell? ⟨b',o,none⟩:=World.cell?_setCells_out b cs 0 W _ fun e=>zB e h
theorem ur.there{W:World}{b:Nat}(h:ur W b):W.there b 0 28:=fun j i=>by
 obtain⟨c,e,g⟩:=h;obtain⟨f,a⟩:=e.rules;rw[vF];exact⟨by rw[f,Array.getElem?_eq_getElem (by omega)];rfl,a j⟩
def bj(p vs e:Int)(a f:Option Addr)(c b g h:Nat):List Value:=[.int .i64 p,.slice a c b,.int .i64 vs,.slice f g h,.slice none 0 0,.slice none 0 0,.slice none 0 0,.slice none 0 0,.slice none 0 0,.slice none 0 0,.int .i64 0,.int .i64 0,.int .i64 0,.int .i64 0,.int .i64 0,.int .i64 e,.int .i64 0,.int .i64 0,.int .i64 0,.int .i64 0,.int .i64 0,.int .i64 0,.int .i64 0,.int .i64 0,.int .i64 0,.int .i64 0,.int .i64 0,.int .i64 0]
theorem r7(p vs e:Int)(a f:Option Addr)(c b g h:Nat):Value.agg #[.int .i64 p,.slice a c b,.int .i64 vs,.slice f g h,.slice none 0 0,.slice none 0 0,.slice none 0 0,.slice none 0 0,.slice none 0 0,.slice none 0 0,.int .i64 0,.int .i64 0,.int .i64 0,.int .i64 0,.int .i64 0,.int .i64 e,.int .i64 0,.int .i64 0,.int .i64 0,.int .i64 0,.int .i64 0,.int .i64 0,.int .i64 0,.int .i64 0,.int .i64 0,.int .i64 0,.int .i64 0,.int .i64 0]=.agg (bj p vs e a f c b g h).toArray:=rfl
theorem KI(p vs e:Int)(a f:Option Addr)(c b g h:Nat):(bj p vs e a f c b g h).length=28:=rfl
theorem NR(p vs e:Int)(a f:Option Addr)(c b g h:Nat)(q:Int):(bj p vs e a f c b g h).set 0 (.int .i64 q)=bj q vs e a f c b g h:=rfl
theorem FB(p vs b:Int)(h e:Option Addr)(j i f g:Nat)(a:Option Addr)(n c:Nat):(bj p vs b h e j i f g).set 1 (.slice a n c)=bj p vs b a e n c f g:=rfl
theorem Nk(p vs e:Int)(a f:Option Addr)(c b g h:Nat)(q:Int):(bj p vs e a f c b g h).set 2 (.int .i64 q)=bj p q e a f c b g h:=rfl
theorem Gr(p vs g:Int)(b h:Option Addr)(f e i j:Nat)(a:Option Addr)(n c:Nat):(bj p vs g b h f e i j).set 3 (.slice a n c)=bj p vs g b a f e n c:=rfl
theorem Fn(p vs h:Int)(a e:Option Addr)(c b f g:Nat)(q:Int):(bj p vs h a e c b f g).set 15 (.int .i64 q)=bj p vs q a e c b f g:=rfl
theorem ur.lt{W:World}{b:Nat}(h:ur W b):b<W.heap.size:=by obtain⟨c,a,_⟩:=h;exact a.lt
theorem OY(W:World)(b:Nat)(p vs g:Int)(c i:Option Addr)(f e l m:Nat)(h:ur W b):(storeCells ⟨b,0,none⟩ (bj p vs g c i f e l m)).run prog W=.ok () (kW W b (bj p vs g c i f e l m)):=
 run_storeCells_cells (P:=prog) b 0 (bj p vs g c i f e l m) 0 W (fun j a=>(h.there j a).1) (fun j a=>(h.there j a).2) (by simp[bj,Value.oneCell'])
theorem AJ(w:World)(b:Nat)(p vs f:Int)(a g:Option Addr)(e c i j:Nat)(h:b=w.heap.size):ur (w.alloc (.cells (bj p vs f a g e c i j).toArray 310)) b:=⟨_,Py.newAt _ _ _ _ h,rfl⟩
theorem wM(w:World)(b:Nat)(o:Obj)(h:ur w b):ur (w.alloc o) b:=by obtain⟨c,e,a⟩:=h;exact⟨c,e.below ((zo _ _).alloc (zf _) o),a⟩
theorem MA(w:World)(b:Nat):ur w.drew b↔ur w b:=Iff.rfl
theorem pd(w:World)(p vs e:Int)(a f:Option Addr)(c b g h:Nat):ur (w.alloc (.cells (bj p vs e a f c b g h).toArray 310)) w.heap.size:=AJ _ _ _ _ _ _ _ _ _ _ _ rfl
theorem oz(w:World)(o:Obj)(p vs e:Int)(a f:Option Addr)(c b g h:Nat):ur ((w.alloc o).alloc (.cells (bj p vs e a f c b g h).toArray 310)) (w.heap.size+1):=AJ _ _ _ _ _ _ _ _ _ _ _ (by simp)
theorem sp(w:World)(o:Obj)(p vs e:Int)(a f:Option Addr)(c b g h:Nat):ur ((w.alloc (.cells (bj p vs e a f c b g h).toArray 310)).alloc o) w.heap.size:=wM _ _ _ (pd _ _ _ _ _ _ _ _ _ _)
theorem sS.mk'{a:World}{b:Option Addr}{f c n g:Nat}(j:ur W jb)(h:Py W g (madeCells #[.pointer none,.int .i64 0,.int .i64 0,.int .i64 0] (n*4)) 323)(m:jb≠g)(l:a.heap.size<=jb)(i:a.heap.size<=g)(e:Below a.heap.size a W):sS a (kW W jb (bj (r.head.pred:Nat) (r.vars:Nat) (xt r r.vars) b (some ⟨g,0,none⟩) f c n n)) r (.slice b f c) n (.pointer (some ⟨jb,0,none⟩)):=by
 refine⟨jb,g,rfl,l,i,nC j rfl,h.save (pV _ _ _) (by simp;omega),e.trans ((pV _ _ _).below (by simp;omega) e.size)⟩
attribute [local go_sem] r7 KI NR FB Nk Gr Fn OY pd oz sp wM MA
def lF(qc:List zi)(k:Nat):Int:=if (qc.take k).any (fun T=>T.count == 0) then -1 else 0
theorem Hi(qc:List zi)(k:Nat)(a:k<qc.length):lF qc (k+1)=if qc[k].count=0 then -1 else lF qc k:=by
 unfold lF;rw[yP a,List.any_append];by_cases h:qc[k].count=0
 ·simp[h]
 ·simp[h]
theorem MQ(qc:List zi):lF qc qc.length=ku qc:=by simp[lF,ku]
theorem Ds(PH:List (Nat×List Nat))(n k:Nat)(b:k<=n)(a:n=PH.length):(qv PH n k).length=n:=by simp[qv];omega
theorem OF(PH:List (Nat×List Nat))(n k:Nat)(g:k<n)(b:PH.length=n):(yu (qv PH n k)).set (k*4) (.pointer (some ⟨(PH[k]'(by omega)).1,0,none⟩))=yu (qv PH n (k+1)):=by
 rw[Di _ _ (by rw[Ds PH n k (by omega) b.symm];exact g)];congr 1;unfold qv;obtain⟨m,f⟩:∃m,n-k=m+1:=⟨n-k-1,by omega⟩;rw[f,pS,show n-(k+1)=m from by omega,yP (show k<PH.length by omega),vC,kB];have a:((PH.take k).map (fun x=>(Ro x.1,Value.int .i64 0,Value.int .i64 0,Value.int .i64 0))).length=k:=by simp;omega
 apply mp;intro i;rw[List.getElem?_modify];by_cases e:k=i
 ·subst e;rw[gU (by omega),gU (by omega),a,jH];simp[ez,Ro]
 ·rcases gD i k with h|h
  ·rw[rQ (by omega),rQ (by omega)];simp[e]
  ·rw[gU (by omega),gU (by omega),a];obtain⟨j,c⟩:∃j,i-k=j+1:=⟨i-k-1,by omega⟩;rw[c];simp[e]
def jE(r:zq)(qp:List zi)(k:Nat):List sG:=((r.qp.zip qp).take k).map fun x=>⟨x.1,uC x.1,x.2⟩
theorem K8(r:zq)(qp:List zi)(k:Nat)(b:k<r.qp.length)(a:k<qp.length):jE r qp (k+1)=jE r qp k++[⟨r.qp[k],uC r.qp[k],qp[k]⟩]:=by
 unfold jE;rw[yP (by simp;omega),vC];simp
theorem Mt(r:zq)(qp:List zi)(k:Nat)(b:k<=r.qp.length)(a:k<=qp.length):(jE r qp k).length=k:=by simp[jE];omega
theorem Ly(r:zq)(qp:List zi)(bps:List (Value×Nat×List Nat))(k:Nat)(c:k<r.qp.length)(a:k<qp.length)(b:bps.length=k)(tv:Value)(tb:Nat)(fp:List Nat):yu (List.zipWith kS (jE r qp (k+1)) (bps++[(tv,tb,fp)]))=yu (List.zipWith kS (jE r qp k) bps)++[.int .i64 (r.qp[k].pred:Nat),tv,.int .i64 (uC r.qp[k]:Nat),.pointer (some ⟨tb,0,none⟩)]:=by
 rw[K8 r qp k c a,eD (by rw[Mt r qp k (by omega) (by omega),b])];simp only[lr,List.zipWith_nil_right];rw[Ik];rfl
def ly(lo:Nat)(w:World)(r:zq)(nts:List (Nat×List Nat))(bps:List (Value×Nat×List Nat))(k:Nat):Prop:=bps.length=k/\∀i (_:i<k) (a:i<bps.length) (c:i<r.qp.length) (b:i<nts.length),yh lo w bps[i].1 r.qp[i].qg/\bps[i].2=nts[i]
theorem ly.snoc(h:ly lo w r nts bps k)(m:k<r.qp.length)(l:k<nts.length)(g:yh lo w tv r.qp[k].qg):ly lo w r nts (bps++[(tv,nts[k].1,nts[k].2)]) (k+1):=by
 obtain⟨f,j⟩:=h;refine⟨by simp[f],fun i a b c d=>?_⟩;by_cases e:i<k
 ·rw[uQ (by omega)];exact j i e (by omega) c d
 ·obtain rfl:i=k:=by omega
  simp only[←f,p6];subst f;exact⟨g,trivial⟩
def PK(B:Nat)(w:World)(r:zq)(hvs:List Value)(k:Nat):Prop:=∀p (_:p<k) (_:p<hvs.length),w.ownsRow B 327 2 hvs[p] (yW r p).length (jV (yW r p))
theorem PK.below{B:Nat}(h:PK B w r hvs k)(c:Below w.heap.size w w'):PK B w' r hvs k:=fun p a b=>zC (h p a b) c
theorem PK.saveT{B:Nat}{T:TypeId}{M:List Nat}(h:PK B w r hvs k)(hs:zd M w w')(c:PN w T M)(e:327≠T):PK B w' r hvs k:=fun p a b=>yB (h p a b) hs c e
theorem PK.set{B:Nat}{w:World}{r:zq}{hvs:List Value}{k:Nat}{c:Value}(h:PK B w r hvs k)(f:w.ownsRow B 327 2 c (yW r k).length (jV (yW r k))):PK B w r (hvs.set k c) (k+1):=fun p a b=>by
 by_cases e:p=k
 ·subst e;rw[mW];exact f
 ·rw[mA (Ne.symm e)];exact h p (by omega) (by simpa using b)
theorem uE.cells{c:World}{f:Nat}(h:uE lo c w f jb r tv sv bv hvs jg d):jb<w.heap.size/\(∀o,w.frozen? ⟨jb,o,none⟩=false)/\w.cell? ⟨jb,3,none⟩=some sv/\w.cell? ⟨jb,4,none⟩=some bv/\w.cell? ⟨jb,26,none⟩=some (.int .i64 d)/\(∀k,k<5->w.cell? ⟨jb,5+k,none⟩=some (hvs.getD k (.bool false)))/\(∀k,k<5->w.cell? ⟨jb,10+k,none⟩=some (.int .i64 (jg.getD k 0))):=by
 obtain⟨a,e⟩:=h.box.rules;obtain⟨i,j,l,g,m⟩:=M6 (r:=r) (tv:=tv) (sv:=sv) (bv:=bv) (d:=d) h.hlen h.blen;exact⟨h.box.lt,e,(a _).trans i,(a _).trans j,(a _).trans l,fun k b=>(a _).trans (g k b),fun k b=>(a _).trans (m k b)⟩
theorem I5(qc:List zi)(PH:List (Nat×List Nat))(h:PH.length=qc.length):qv PH qc.length qc.length=List.zipWith gJ (qc.map fun T=>(⟨T,[0,0,0]⟩:yJ)) PH:=by
 apply mp;intro i;rw[List.getElem?_zipWith];by_cases a:i<qc.length
 ·simp[qv,←h,gJ,Ro,List.getElem?_map,List.getElem?_eq_getElem (show i<qc.length from a),List.getElem?_eq_getElem (show i<PH.length by omega)]
 ·simp[qv,←h,List.getElem?_eq_none (show qc.length<=i by omega),List.getElem?_eq_none (show PH.length<=i by omega)]
theorem Lx(r:zq)(qp:List zi)(h:qp.length=r.qp.length):jE r qp r.qp.length=(r.qp.zip qp).map fun x=>⟨x.1,uC x.1,x.2⟩:=by
 unfold jE;rw[xi (by simp;omega)]
theorem ly.all(h:ly lo w r nts bps k)(e:k=nts.length/\k=r.qp.length):bps.map (·.2)=nts:=by
 obtain⟨b,c⟩:=h;apply gS
 ·simp[b,e.1]
 ·intro i f a;rw[vm];exact(c i (by omega) (by omega) (by omega) a).2
theorem Bk{E B:Nat}{F z n l:Value}{g:Nat}{qc qp:List zi}{PH:List (Nat×List Nat)}(j:Below w.heap.size w W)(c:lo<=w.heap.size)(h:uU lo w tv F z r)(s:dG E lo w n qc PH)(u:dG B lo w l qp nts)(m:qp.length=r.qp.length)(G:hvs.length=5)
  (v:PK w.heap.size W r hvs 5) (hs:W.ownsRow w.heap.size 323 4 (sl g qc.length) qc.length (yu (qv PH qc.length qc.length))) (t:W.ownsRow w.heap.size 325 4 bv r.qp.length (yu (List.zipWith kS (jE r qp r.qp.length) bps))) (f:ly lo w r nts bps r.qp.length):jn lo W (uS r qc qp d) ⟨tv,sl g qc.length,bv,hvs,PH,bps⟩:=by
 have i:=s.len;have D:=u.len;have A:=f.1;have e:((r.qp.zip qp).map fun x=>(⟨x.1,uC x.1,x.2⟩:sG)).length=r.qp.length:=by simp;omega
 refine⟨h.head.below j,?_,by simp[uS,i],?_,by simp[uS],?_,by simp only[uS];omega,?_,⟨G,by simp[uS]⟩,?_,by simp[uS],?_⟩
 ·rw[I5 qc PH i] at hs;have:=yq hs c;simpa [uS] using this
 ·intro k a b;simp only[uS,uJ] at a;have:=(s.tries k a b).below j;simpa [uS] using this
 ·rw[Lx r qp m] at t;have:=yq t c;simp only[uS];rw[e];exact this
 ·intro k a b;simp only[uS] at a;rw[e] at a;obtain⟨C,o⟩:=f.2 k a b a (by omega);have y:=(u.tries k (by omega) (by omega)).below j;simp only[uS,vm,List.getElem_zip];exact⟨C.below j,by rw[o];exact y⟩
 ·intro p a b;simp only[uS,uJ,List.length_range] at a;have q:=yq (v p a b) c;have o:=F5 r p (h.qc.len) (by omega);simp only[uS,vm,mI];exact⟨q,o⟩
 ·simp only[uS,uJ];have:=s.few;have:=h.qp.len;have:=h.small.2.1;refine⟨by omega,by simp;omega,by omega⟩
theorem th{e:Func}{t:Tmp}{c:TypeId}(h:e.results=#[.cell t c])(a:Array Value)(P:Program)(w:World)(b o:Nat)(f:a.getD t undef=.pointer (some ⟨b,o,none⟩)){v:Value}(g:(loadVar c ⟨b,o,none⟩).run P w=.ok v w):(results e a).run P w=.ok v w:=by
 rw[Array.getD_eq_getD_getElem?] at f;simp[results,h,f,asAddr,g]
theorem Py.range{b:Nat}{T:TypeId}(h:Py w b cs.toArray T):w.rangeAt b 0 cs:=fun j v a=>by
 rw[vF,h.rules.1];simpa using a
theorem oK(r:zq)(tv sv bv:Value)(hvs:List Value)(jg:List Int)(d:Int)(b:hvs.length=5)(a:jg.length=5):(jc r tv sv bv hvs jg d).length=28:=by
 simp[jc,b,a]
theorem CJ(e:tv.oneCell'=true)(c:sv.oneCell'=true)(f:bv.oneCell'=true)(b:∀u∈hvs,u.oneCell'=true):∀u∈jc r tv sv bv hvs jg d,u.oneCell'=true:=by
 intro u a;simp only[jc,zX,zu,z9,lE,or_false] at a;rcases a with ((((((a|a)|⟨_,_,a⟩)|a)|⟨_,_,a⟩)|⟨_,_,a⟩)|a)
 ·rcases a with rfl|rfl|rfl|rfl|rfl<;>first|rfl|assumption
 ·exact b u a
 ·subst a;rfl
 ·subst a;rfl
 ·subst a;rfl
 ·subst a;rfl
 ·rcases a with rfl|rfl<;>rfl
theorem PK.one{B:Nat}(h:PK B w r hvs 5)(f:hvs.length=5):∀u∈hvs,u.oneCell'=true:=by
 intro u c;obtain⟨p,b,rfl⟩:=vG c;obtain⟨g,a,e⟩:=zs (h p (by omega) b);rw[e];rfl
theorem n6{b:World}{a:Nat}(h:uE lo b w a jb r tv sv bv hvs jg d):ur w a:=h.res
theorem zY.saveJ{tb:Nat}{T:zi}{fp M:List Nat}(h:zY lo w tb T fp)(hs:zd M w w')(a:PN w 310 M):zY lo w' tb T fp:=h.save hs fun b g f=>by
 obtain⟨c,e⟩:=a b f;exact h.notin e (by decide) (by decide) (by decide) g
theorem jn.saveJ{w w':World}{J:zy}{P:xp}{M:List Nat}(h:jn lo w J P)(hs:zd M w w')(c:PN w 310 M):jn lo w' J P:=
 ⟨h.head.saveT hs c (by decide),yB h.qy hs c (by decide),h.slen,fun k a b=>(h.tries k a b).saveJ hs c,h.qi,yB h.bars hs c (by decide),h.blen,fun k a b=>⟨(h.ji k a b).1.saveT hs c (by decide),(h.ji k a b).2.saveJ hs c⟩,h.hlen,fun p a b=>⟨yB (h.je p a b).1 hs c (by decide),(h.je p a b).2⟩,h.jk,h.few⟩
theorem Fr{b1 b2:Nat}(w:World)(r:zq)(tv pv nv b5 cj:Value)(qc qp:List zi)(PH nts:List (Nat×List Nat))(h:uU lo w tv pv nv r)(hp:dG b1 lo w b5 qc PH)(hn:dG b2 lo w cj qp nts)(cv:qp.length=r.qp.length)(bM:lo<=w.heap.size):
  Calls prog 214 #[kz r tv pv nv,b5,cj] w fun e w'=>∃P,e=.returned (.agg (um (xv r qc qp) P).toArray)/\jn lo w' (xv r qc qp) P/\P.tbs=PH/\P.bps.map (·.2)=nts/\Below w.heap.size w w':=by
 obtain⟨iS,cQ,cF,cw,cp⟩:=info_parts OU;obtain⟨iB,cP,cH,bV,b7⟩:=info_parts OL;have HR:=Px h;have HP:=Px hp;have HN:=Px hn;obtain⟨dn,cY,rfl⟩:=zs hp.own;obtain⟨dm,dc,rfl⟩:=zs hn.own;obtain⟨f,b,rfl⟩:=h.head.qx;obtain⟨E,s,rfl⟩:=h.qc.qx;obtain⟨B,n,rfl⟩:=h.qp.qx;have dx:=hp.few;have dp:=hn.few;have ds:=h.small.2.1;have bU:=fun W:World=>run_make (P:=prog) (w:=W) 305 323 iS _ underlying305 cQ cF .i64 .i64 (qc.length:Int) (qc.length:Int) (by omega) (Int.le_refl _) (by rw[cp];omega) (by omega);rw[cw] at bU;have aV:Hid (∀W (kn:Int),Below w.heap.size w W->Calls prog 220 #[.agg #[.int .i64 r.qh,.int .i64 r.vars,.int .i64 r.head.pred,.slice f r.head.qg.length b,.slice E r.qc.length s,.slice B r.qp.length n],.int .i64 kn] W fun e w'=>e=.returned (.int .i64 (xt r kn))/\Below W.heap.size W w'):=fun W kn hW=>Lb W _ _ _ r kn (h.below hW);have bS:Hid (∀W (pl:Nat),pl<=1000000->Below w.heap.size w W->Calls prog 221 #[.agg #[.int .i64 r.qh,.int .i64 r.vars,.int .i64 r.head.pred,.slice f r.head.qg.length b,.slice E r.qc.length s,.slice B r.qp.length n],.int .i64 pl] W fun e w'=>∃hv,e=.returned hv/\w'.ownsRow W.heap.size 327 2 hv (yW r pl).length (jV (yW r pl))/\Below W.heap.size W w'):=fun W pl cT hW=>EY W _ _ _ r pl (h.below hW) cT;have bh:=Px bM;have aA:=Px cv;unfold kz;clear h hp hn bM cv;have aj:=(Py.new w #[.int .i64 r.qh,.int .i64 r.vars,.int .i64 r.head.pred,.slice f r.head.qg.length b,.slice E r.qc.length s,.slice B r.qp.length n] 207).below ((zo _ _).alloc (zf _) (.cells (bj 0 0 0 none none 0 0 0 0).toArray 310));have R:=Py.new (w.alloc (.cells #[.int .i64 r.qh,.int .i64 r.vars,.int .i64 r.head.pred,.slice f r.head.qg.length b,.slice E r.qc.length s,.slice B r.qp.length n] 207)) (bj 0 0 0 none none 0 0 0 0).toArray 310;have bc:Below w.heap.size w ((w.alloc (.cells #[.int .i64 r.qh,.int .i64 r.vars,.int .i64 r.head.pred,.slice f r.head.qg.length b,.slice E r.qc.length s,.slice B r.qp.length n] 207)).alloc (.cells (bj 0 0 0 none none 0 0 0 0).toArray 310)):=(by go_grown);simp only[World.size_alloc] at R;go_enter func214,ntmps214;go_upto_region 1 with fail
 generalize (w.alloc (.cells #[.int .i64 r.qh,.int .i64 r.vars,.int .i64 r.head.pred,.slice f r.head.qg.length b,.slice E r.qc.length s,.slice B r.qp.length n] 207)).alloc (.cells (bj 0 0 0 none none 0 0 0 0).toArray 310)=wA at *;obtain⟨cA,aY,bp⟩:=aj.boxed;have cL:=bc.size;go_cut [7] from 13 to 24 (fun s7 wx=>sS wA wx r (.slice f r.head.qg.length b) qc.length s7)
 case first=>
  go_region_held3 (fun w'=>w'.cell? ⟨w.heap.size,0,none⟩=some (.int .i64 r.qh)/\w'.cell? ⟨w.heap.size,1,none⟩=some (.int .i64 r.vars)/\w'.cell? ⟨w.heap.size,2,none⟩=some (.int .i64 r.head.pred)/\w'.cell? ⟨w.heap.size,3,none⟩=some (.slice f r.head.qg.length b)/\w'.cell? ⟨w.heap.size,4,none⟩=some (.slice E r.qc.length s)/\w'.cell? ⟨w.heap.size,5,none⟩=some (.slice B r.qp.length n)) (first|go_keep|(go_simp;done)|(go_split_ands;refine⟨?_,?_,?_,?_,?_,?_⟩<;>(rw[jU _ _ _ _ _ (by simp;omega)];simp[*]))) (first|(go_at_call 220;refine(aV.out _ _ (by exact(by go_grown))).mono ?_;rintro e w1 ⟨rfl,J⟩;have br:Below wA.heap.size wA w1:=(zP (by go_grown) J (zf _));have c7:=aj.below br;obtain⟨da,dj,di⟩:=c7.boxed;have cK:=br.size;(first|((with_reducible refine Py.carry (Py.drew (Py.newAt (wA.alloc (.cells (madeCells #[.pointer none,.int .i64 0,.int .i64 0,.int .i64 0] (qc.length*4)) 323)) (wA.heap.size+1) (bj 0 0 0 none none 0 0 0 0).toArray 310 (World.size_alloc _ _).symm)) J ?_);intro X;have ax:ur w1 (wA.heap.size+1):=⟨_,X,rfl⟩;clear X;(with_reducible refine Py.carry (Py.drew (Py.below (Py.new wA (madeCells #[.pointer none,.int .i64 0,.int .i64 0,.int .i64 0] (qc.length*4)) 323) ((zo _ _).alloc (zf _) (.cells (bj 0 0 0 none none 0 0 0 0).toArray 310)))) J ?_);intro aw)|((with_reducible refine Py.carry (Py.drew (Py.below (Py.new wA (bj 0 0 0 none none 0 0 0 0).toArray 310) ((zo _ _).alloc (zf _) (.cells (madeCells #[.pointer none,.int .i64 0,.int .i64 0,.int .i64 0] (qc.length*4)) 323)))) J ?_);intro X;have ax:ur w1 wA.heap.size:=⟨_,X,rfl⟩;clear X;(with_reducible refine Py.carry (Py.drew (Py.newAt (wA.alloc (.cells (bj 0 0 0 none none 0 0 0 0).toArray 310)) (wA.heap.size+1) (madeCells #[.pointer none,.int .i64 0,.int .i64 0,.int .i64 0] (qc.length*4)) 323 (World.size_alloc _ _).symm)) J ?_);intro aw)|((with_reducible refine Py.carry (Py.drew (Py.new wA (bj 0 0 0 none none 0 0 0 0).toArray 310)) J ?_);intro X;have ax:ur w1 wA.heap.size:=⟨_,X,rfl⟩;clear X)|((with_reducible refine Py.carry (Py.drew (Py.new wA (madeCells #[.pointer none,.int .i64 0,.int .i64 0,.int .i64 0] (qc.length*4)) 323)) J ?_);intro aw)|skip)))
  all_goals
   go_wp2_with fail
   go_meet
   case rel=>
    apply sS.mk'
    ·first|exact oz _ _ _ _ _ _ _ _ _ _ _|exact sp _ _ _ _ _ _ _ _ _ _ _|exact pd _ _ _ _ _ _ _ _ _ _|exact ax|exact wM _ _ _ ax
    ·first|exact aw|exact Py.below (Py.new w1 _ _) zQ|exact Py.newAt _ _ _ _ (World.size_alloc _ _).symm|exact Py.new w1 _ _|exact Py.below aw zQ
    ·first|omega|(have:=aw.lt;omega)|(have:=ax.lt;omega)
    ·omega
    ·omega
    ·exact(zP br (by go_grown) (zf _))
 case rest=>
  clear bU;obtain⟨jb,g,rfl,c5,cD,aZ,bt,a7⟩:=hcut;have bL:jb≠w.heap.size+1:=by have:=R.lt;omega
  have hM:uE lo w wc (w.heap.size+1) jb r (.slice f r.head.qg.length b) (sl g qc.length) (.slice none 0 0) sU (jM r 0) 0:=⟨aZ,rfl,rfl,⟨_,R.below a7,rfl⟩,P3 bc a7,by omega,by omega,bL⟩;have F:=Px hM;have V:Hid (PK w.heap.size wc r sU 0):=fun p a=>by omega
  have HG:=Px bt;have G:=Px (aj.below a7);have dw:w.heap.size<jb:=by omega
  have dr:w.heap.size<g:=by omega
  have d0:g≠jb:=by
   intro e;subst e;exact zB (bt.type aZ) (by decide)
  have dv:g≠w.heap.size+1:=by have:=R.lt;omega
  clear hM aZ bt a7 aj R bc cA aY bp cL c5 cD;go_wp2;go_loopw [25] (fun cS wr=>∃(k:Nat) (hvs:List Value),k<=5/\cS=.int .i64 k/\Hid (uE lo w wr (w.heap.size+1) jb r (.slice f r.head.qg.length b) (sl g qc.length) (.slice none 0 0) hvs (jM r k) 0)/\Hid (PK w.heap.size wr r hvs k)/\Hid (Py wr g (madeCells #[.pointer none,.int .i64 0,.int .i64 0,.int .i64 0] (qc.length*4)) 323)/\Hid (Py wr w.heap.size #[.int .i64 r.qh,.int .i64 r.vars,.int .i64 r.head.pred,.slice f r.head.qg.length b,.slice E r.qc.length s,.slice B r.qp.length n] 207)) (fun i _=>5-(intOf i).toNat)
  case atStart=>exact⟨0,sU,by omega,rfl,F,V,HG,G⟩
  case round=>
   clear F V HG G;obtain⟨k,hvs,hk,rfl,F,V,HG,G⟩:=hrel;have D:=F.out.below;have am:=D.size;by_cases t:k<5
   ·have cg:(k:Int)<5:=by omega
    have an:=G.out;obtain⟨a4,a5,aD⟩:=an.boxed;have aL:=Px fun W hW=>bS.out W k (by omega) (P3 D hW);have bE:=Px fun W hW=>aV.out W (k:Nat) hW;have bf:=Px (Jo r k t);generalize xt r (k:Nat)=bk at *;generalize b4:yW r k=hj at *;have cN:=Px b4;clear b4;go_upto_region 6 with (first|(go_at_call 221;refine(aL.out _ (by exact(by go_grown))).mono ?_;rintro e H ⟨hv,rfl,af,l⟩;obtain⟨a2,Z,rfl⟩:=zs af;have m:=F.out.next l;obtain⟨a0,av,_,_,_,cf,_⟩:=m.cells;have aH:=cf k t;clear cf;generalize hvs.getD k (.bool false)=ov at aH))
    have ac:=an.below l;have bD:=HG.out.below l;have ap:=V.out.below l;have c3:=l.size;have A:zd [jb] H (H.setCell ⟨jb,5+k,none⟩ (.slice a2 hj.length Z)):=zd.set _ _ _ _;have j:=m.hold k t (.slice a2 hj.length Z);have aQ:=ac.saveT A (PN.box m.box) (by decide);have cm:=bD.saveT A (PN.box m.box) (by decide);have L:PK w.heap.size _ r (hvs.set k (.slice a2 hj.length Z)) (k+1):=(ap.set (by rw[cN.out];exact yq af (by omega))).saveT A (PN.box m.box) (by decide);generalize H.setCell ⟨jb,5+k,none⟩ (.slice a2 hj.length Z)=w3 at *;clear A ac bD ap m aH av a0 an a4 a5 aD af aL;generalize hvs.set k (.slice a2 hj.length Z)=ch at *;have bJ:=Px j;have c9:=Px L;have c2:=Px cm;clear j L cm F V HG G;obtain⟨a4,a5,aD⟩:=aQ.boxed;have aj:=bJ.out.below;have dq:=aj.size;go_wp2_with (first|(go_at_call 220;refine(bE.out _ (by exact aj)).mono ?_;rintro e w4 ⟨rfl,ab⟩;have ag:=bJ.out.next ab;obtain⟨dy,du,_,_,_,_,bX⟩:=ag.cells;have bC:=bX k t;clear bX;generalize (jM r k).getD k 0=ob at bC))
    have bs:zd [jb] w4 (w4.setCell ⟨jb,10+k,none⟩ (.int .i64 bk)):=zd.set _ _ _ _;have bB:=ag.back k t bk;rw[bf.out] at bB;go_roundw
    case rel=>exact⟨k+1,ch,by omega,by go_num,bB,(c9.out.below ab).saveT bs (PN.box ag.box) (by decide),(c2.out.below ab).saveT bs (PN.box ag.box) (by decide),(aQ.below ab).saveT bs (PN.box ag.box) (by decide)⟩
    case measure=>simp[intOf];omega
   ·obtain rfl:k=5:=by omega
    rw[show((5:Nat):Int)=5 from rfl];clear hk t bS aV;have bY:Hid (wr.ownsRow w.heap.size 323 4 (sl g qc.length) qc.length (yu (qv PH qc.length 0))):=by
     have q:=Og (lo:=w.heap.size) HG.out (by omega) (by unfold maxLen;omega);have e:qv PH qc.length 0=List.replicate qc.length (Value.pointer none,Value.int .i64 0,Value.int .i64 0,Value.int .i64 0):=by simp[qv,ez]
     rw[Hid,e];exact q
    clear HG;have cU:Hid (lF qc 0=0):=rfl;go_wp2;have bP:Hid (uE lo w wr (w.heap.size+1) jb r (.slice f r.head.qg.length b) (sl g qc.length) (.slice none 0 0) hvs (jM r 5) (lF qc 0)):=F;clear F cU;go_loopw [43] (fun c4 wr=>∃(k:Nat),k<=qc.length/\c4=.int .i64 k/\Hid (uE lo w wr (w.heap.size+1) jb r (.slice f r.head.qg.length b) (sl g qc.length) (.slice none 0 0) hvs (jM r 5) (lF qc k))/\Hid (PK w.heap.size wr r hvs 5)/\Hid (wr.ownsRow w.heap.size 323 4 (sl g qc.length) qc.length (yu (qv PH qc.length k)))/\Hid (Py wr w.heap.size #[.int .i64 r.qh,.int .i64 r.vars,.int .i64 r.head.pred,.slice f r.head.qg.length b,.slice E r.qc.length s,.slice B r.qp.length n] 207)) (fun i _=>qc.length-(intOf i).toNat)
    case atStart=>exact⟨0,zx _,rfl,bP,V,bY,G⟩
    case round=>
     clear bP V bY G D am;obtain⟨k,hk,rfl,F,V,HS,G⟩:=hrel;have D:=F.out.below;have am:=D.size;by_cases t:k<qc.length
     ·have cu:k<PH.length:=by have:=HP.out.len;omega
      obtain⟨gp,cW,bn,cV,cd⟩:=HP.out.cell k t cu;simp only[Value.slice.injEq] at bn;have bT:=bn.1;clear bn;subst bT;have bg:=zm D cV cd;have dg:gp<wr.heap.size:=by omega
      obtain⟨aT,aS,b8,_,_,_,_⟩:=F.out.cells;have b6:wr.cell? ⟨jb,3,none⟩=some (.slice (some ⟨g,0,none⟩) qc.length qc.length):=b8;have hS:wr.ownsRow w.heap.size 323 4 (.slice (some ⟨g,0,none⟩) qc.length qc.length) qc.length (yu (qv PH qc.length k)):=HS.out;have cg:(k:Int)<(qc.length:Int):=by omega
      have cG:=Ds PH qc.length k hk (by have:=HP.out.len;omega);obtain⟨sx,c0⟩:∃sx,wr.cell? ⟨g,k*4,none⟩=some sx:=by
       obtain⟨g',db,bI,_,_,bN⟩:=yC hS (by omega);simp only[Value.slice.injEq,zr,Addr.mk.injEq,and_true] at bI;have cX:=bI.1;subst cX;exact⟨_,bN (k*4) _ (rq (qv PH qc.length k) k (by omega)).1⟩
      have cR:=qF hS;have ay:=uI hS (k*4) (by rw[sg];omega) (.pointer (some ⟨PH[k].1,0,none⟩));have bF:Hid ((yu (qv PH qc.length k)).set (k*4) (.pointer (some ⟨PH[k].1,0,none⟩))=yu (qv PH qc.length (k+1))):=OF PH qc.length k t HP.out.len;rw[bF.out] at ay;have b3:=Px fun W hW=>Ec W PH[k].1 qc[k] PH[k].2 ((HP.out.tries k t cu).below hW);have a8:=Px (Hi qc k t);have bb:zd [g] wr (wr.setCell ⟨g,k*4,none⟩ (.pointer (some ⟨PH[k].1,0,none⟩))):=zd.set _ _ _ _;have bi:PN wr 323 [g]:=fun x hx=>by simp at hx;subst hx;exact qC hS rfl
      have m:=F.out.save bb (fun x hx=>by simp at hx;omega) ⟨by simp;omega,by simp;omega⟩;have ap:=V.out.saveT bb bi (by decide);have ac:=G.out.saveT bb bi (by decide);generalize PH[k].1=tb at *;generalize qc[k].count=ct at *;clear b8 cd bF hS cG;go_upto_region 12 with fail
      generalize wr.setCell ⟨g,k*4,none⟩ (.pointer (some ⟨tb,0,none⟩))=H at *;have l:=m.below;clear bg aT aS b6 c0 cR F V HS G;obtain⟨a0,av,_,_,aI,_,_⟩:=m.cells;have ah:=Px m;have aC:=Px ap;have aO:Hid (Py H w.heap.size _ 207):=ac;clear m ap ac bi;generalize cO:lF qc k=dk at *;clear cO;by_cases bZ:ct=0
      ·subst bZ;simp only[if_true] at a8;have A:zd [jb] H (H.setCell ⟨jb,26,none⟩ (.int .i64 (-1))):=zd.set _ _ _ _;have j:=ah.out.ql (-1);have I:=PN.box ah.out.box;go_wp2_with (first|(go_at_call 209;refine(b3.out _ (by exact l)).mono ?_;rintro e w3 ⟨rfl,bq⟩;obtain rfl:=bq.symm))
       go_roundw
       case rel=>exact⟨k+1,by omega,by go_num,by rw[a8.out];exact j,aC.out.saveT A I (by decide),yB ay A I (by decide),aO.out.saveT A I (by decide)⟩
       case measure=>simp[intOf];omega
      ·rw[za bZ] at a8;have dz:((ct:Int) == 0)=false:=by rw[beq_eq_false_iff_ne];omega
       go_wp2_with (first|(go_at_call 209;refine(b3.out _ (by exact l)).mono ?_;rintro e w3 ⟨rfl,bq⟩;obtain rfl:=bq.symm))
       go_roundw
       case rel=>exact⟨k+1,by omega,by go_num,by rw[a8.out];exact ah,aC,ay,aO⟩
       case measure=>simp[intOf];omega
     ·obtain rfl:k=qc.length:=by omega
      rw[MQ] at F;clear hk t;have an:=G.out;obtain⟨a4,a5,aD⟩:=an.boxed;go_wp2;clear a4 a5 aD an;have bO:Hid (wr.ownsRow w.heap.size 325 4 (.slice none 0 0) 0 (yu (List.zipWith kS (jE r qp 0) []))):=yI _ _ _ _;have aG:Hid (ly lo w r nts [] 0):=⟨rfl,fun i a=>by omega⟩;go_loopw [62] (fun c8 wr=>∃(k:Nat) (bv:Value) (bps:List (Value×Nat×List Nat)),k<=r.qp.length/\c8=.int .i64 k/\Hid (uE lo w wr (w.heap.size+1) jb r (.slice f r.head.qg.length b) (sl g qc.length) bv hvs (jM r 5) (ku qc))/\Hid (PK w.heap.size wr r hvs 5)/\Hid (wr.ownsRow w.heap.size 323 4 (sl g qc.length) qc.length (yu (qv PH qc.length qc.length)))/\Hid (wr.ownsRow w.heap.size 325 4 bv k (yu (List.zipWith kS (jE r qp k) bps)))/\Hid (ly lo w r nts bps k)) (fun i _=>r.qp.length-(intOf i).toNat)
      case atStart=>exact⟨0,_,[],zx _,rfl,F,V,HS,bO,aG⟩
      case round=>
       clear F V HS bO aG G D am;obtain⟨k,bv,bps,hk,rfl,F,V,HS,HB,au⟩:=hrel;have D:=F.out.below;have am:=D.size;by_cases t:k<r.qp.length
       ·have bG:k<qp.length:=by rw[aA.out];exact t
        have bK:k<nts.length:=by have:=HN.out.len;omega
        obtain⟨gl,M,z,cz,aP,cq,bW,aE⟩:=HR.out.qp.cell k t;subst cz;obtain⟨gn,c6,bd,bo,cc⟩:=HN.out.cell k bG bK;simp only[Value.slice.injEq] at bd;have cr:=bd.1;clear bd;subst cr;have cg:(k:Int)<(r.qp.length:Int):=by omega
        have dh:(k:Int)<(qp.length:Int):=by omega
        have bg:=zm D aP cq;have cJ:=zm D aP bW;have bH:=zm D bo cc;have dd:gl<wr.heap.size:=by omega
        have bx:gn<wr.heap.size:=by omega
        have ai:=HB.out;obtain⟨a9,al,aB⟩:=zs ai;subst aB;have cC:=Px aE;have ca:Hid (∀W,Below w.heap.size w W->Calls prog 222 #[.agg #[.int .i64 (r.qp[k].pred:Nat),.slice M r.qp[k].qg.length z]] W fun e w'=>e=.returned (.int .i64 (uC r.qp[k]:Nat))/\Below W.heap.size W w'):=fun W hW=>Dq W _ r.qp[k].pred r.qp[k].qg (aE.below hW);have bf:Hid (yu (List.zipWith kS (jE r qp (k+1)) (bps++[(.slice M r.qp[k].qg.length z,nts[k].1,nts[k].2)]))=yu (List.zipWith kS (jE r qp k) bps)++[.int .i64 (r.qp[k].pred:Nat),.slice M r.qp[k].qg.length z,.int .i64 (uC r.qp[k]:Nat),.pointer (some ⟨nts[k].1,0,none⟩)]):=Ly r qp bps k t bG au.out.1 _ _ _;have ak:=Px (au.out.snoc t bK aE);clear cq bW cc aE cC;generalize r.qp[k].pred=pr at *;generalize r.qp[k].qg.length=tl at *;generalize uC r.qp[k]=kn at *;generalize nts[k].1=tb at *;generalize nts[k].2=fp at *;go_upto_region 19 with fail
        have N:Below wr.heap.size wr (wr.alloc (.cells #[.int .i64 pr,.slice M tl z] 204)):=(by go_grown);have aN:=Py.new wr #[.int .i64 pr,.slice M tl z] 204;have a6:=F.out.next N;have ce:Hid (PK _ _ r hvs 5):=V.out.below N;have bu:Hid (World.ownsRow _ w.heap.size 323 4 (sl g qc.length) qc.length _):=zC HS.out N;have aF:=zC ai N;have ar:=zm N bx bH;clear F V HS HB ai bg cJ bH;generalize wr.alloc (.cells #[.int .i64 pr,.slice M tl z] 204)=w1 at *;generalize wr.heap.size=lb at *;clear N D;have J:=a6.below;obtain⟨aT,aS,_,cy,_,_,_⟩:=a6.cells;obtain⟨b9,cI,de⟩:=aN.boxed;have ck:=Px a6;clear a6;have cK:=J.size;refine wp_region_noPanic ?_;refine iJ (S:=fun w'=>w'.cell? ⟨jb,4,none⟩=some (.slice a9 k al)/\w'.cell? ⟨lb,0,none⟩=some (.int .i64 pr)/\w'.cell? ⟨lb,1,none⟩=some (.slice M tl z)/\w'.cell? ⟨gn,k,none⟩=some (.pointer (some ⟨tb,0,none⟩))) (d:=13) (by kernel_rfl) (by refine⟨cy,?_,?_,ar⟩<;>(show w1.cell? _=_;rw[b9];rfl)) (fun o=>?_);refine xP (i:=0) (v:=?v0) rfl (by kernel_rfl) (by kernel_rfl) (by kernel_rfl) (by kernel_rfl) (fun _ _ _ h=>h) (zg ⟨by rfl,?hy0⟩) o ?rest0
        case hy0=>
         intro wq U;go_simp
         (try with_reducible rfl)
        refine xP (i:=1) (v:=?v1) rfl (by kernel_rfl) (by kernel_rfl) (by kernel_rfl) (by kernel_rfl) (fun _ _ _ h=>h) (zg ⟨by rfl,?hy1⟩) o ?rest1
        case hy1=>
         intro wq U;go_simp
         (try with_reducible rfl)
        refine xP (i:=2) (v:=?v2) rfl (by kernel_rfl) (by kernel_rfl) (by kernel_rfl) (by kernel_rfl) (fun _ _ _ h=>h) (zg ⟨by rfl,?hy2⟩) o ?rest2
        case hy2=>
         intro wq U;go_simp
         (try with_reducible rfl)
        refine xP (i:=3) (v:=?v3) rfl (by kernel_rfl) (by kernel_rfl) (by kernel_rfl) (by kernel_rfl) (fun _ _ _ h=>h) (zg ⟨by rfl,?hy3⟩) o ?rest3
        case hy3=>
         intro wq U;go_simp
         (try with_reducible rfl)
        refine xP (i:=5) (v:=?v5) rfl (by kernel_rfl) (by kernel_rfl) (by kernel_rfl) (by kernel_rfl) (fun _ _ _ h=>h) (zg ⟨by rfl,?hy5⟩) o ?rest5
        case hy5=>
         intro wq U;go_simp
         (try with_reducible rfl)
        refine xP (i:=6) (v:=?v6) rfl (by kernel_rfl) (by kernel_rfl) (by kernel_rfl) (by kernel_rfl) (fun _ _ _ h=>h) (zg ⟨by rfl,?hy6⟩) o ?rest6
        case hy6=>
         intro wq U;go_simp
         (try with_reducible rfl)
        refine xP (i:=7) (v:=?v7) rfl (by kernel_rfl) (by kernel_rfl) (by kernel_rfl) (by kernel_rfl) (fun _ _ _ h=>h) (zg ⟨by rfl,?hy7⟩) o ?rest7
        case hy7=>
         intro wq U;go_simp
         (try with_reducible rfl)
        refine xP (i:=8) (v:=?v8) rfl (by kernel_rfl) (by kernel_rfl) (by kernel_rfl) (by kernel_rfl) (fun _ _ _ h=>h) (zg ⟨by rfl,?hy8⟩) o ?rest8
        case hy8=>
         intro wq U;go_simp
         (try with_reducible rfl)
        refine gz (i:=4) (by kernel_rfl) rfl (fun K hK=>?_);go_simp
        refine(ca.out _ (by exact(zL J 1))).mono ?_;rintro e H ⟨rfl,l⟩;have ae:=P3 (zL (zo _ _) 1) l;have m:=ck.out.next ae;have aC:Hid (PK _ _ r hvs 5):=ce.out.below ae;have cE:Hid (World.ownsRow H w.heap.size 323 4 (sl g qc.length) qc.length _):=zC bu.out ae;have C:=zC aF ae;have aK:=aN.below ae;have aq:=(ae.cell (p:=⟨gn,k,none⟩) (show gn<w1.heap.size by omega)).trans ar;have c3:=ae.size;have cb:=m.below;obtain⟨a0,av,_,bQ,_,_,_⟩:=m.cells;have ah:=Px m;obtain⟨aa,bA⟩:=aK.rules;refine hK.out _ _ (fun _=>⟨bQ,by rw[aa];rfl,by rw[aa];rfl,aq⟩) ?_;have T:H.cell? ⟨jb,4,none⟩=some (.slice a9 k al)/\H.cell? ⟨lb,0,none⟩=some (.int .i64 pr)/\H.cell? ⟨lb,1,none⟩=some (.slice M tl z)/\H.cell? ⟨gn,k,none⟩=some (.pointer (some ⟨tb,0,none⟩)):=⟨bQ,by rw[aa];rfl,by rw[aa];rfl,aq⟩;clear hK K o m b9 cI aT aS cy ar ck ce bu l aa bA ca;refine xP (i:=9) (v:=?v9) rfl (by kernel_rfl) (by kernel_rfl) (by kernel_rfl) (by kernel_rfl) (fun _ _ _ h=>h) (zg ⟨by rfl,?hy9⟩) T ?rest9
        case hy9=>
         intro wq U;go_simp
         (try with_reducible rfl)
        refine gz (i:=10) (by kernel_rfl) rfl (fun K hK=>?_);go_simp
        refine hK.out _ _ (fun _=>?hS10) ?rest10
        case hS10=>obtain⟨q0,q1,q2,q3⟩:=T;refine⟨?_,?_,?_,?_⟩<;>(rw[World.cell?_alloc_lt _ _ _ (by simp;omega)];assumption)
        clear hK K;refine gz (i:=11) (by kernel_rfl) rfl (fun K hK=>?_);refine dU H _ [.int .i64 pr,.slice M tl z,.int .i64 kn,.pointer (some ⟨tb,0,none⟩)] 325 rfl (.tmp 72) (.tmp 81) 306 rfl w.heap.size 325 iB _ 4 48 underlying306 cP cH bV b7 rfl (by decide) (.slice a9 k al) k (yu (List.zipWith kS (jE r qp k) bps)) (by simp[Act.eval]) C (by exact(by go_grown)) H.heap.size 1 (by simp[Act.eval]) (by exact Py.new _ _ _) rfl (by simp[Value.oneCell']) (by omega) (by omega) (by omega) ?_;intro v' w3 b0 Y dl dt cZ;obtain⟨bz,aJ,rfl⟩:=zs b0;have bm:=PN.own C;have j:=ah.out.save Y (fun x hx=>xb C (yw hx)) ⟨qH C ah.out.box (by decide),fun hm=>by obtain⟨c,hc,_⟩:=ah.out.res;exact qH C hc (by decide) hm⟩;have co:=aK.saveT Y bm (by decide);have L:=aC.out.saveT Y bm (by decide);have A:=yB cE.out Y bm (by decide);obtain⟨a1,cx⟩:=co.rules;obtain⟨bp,aY,_,ci,_,_,_⟩:=j.cells;have aM:=(j.below.cell (p:=⟨gn,k,none⟩) bo).trans ((cb.cell (p:=⟨gn,k,none⟩) bo).symm.trans aq);have O:w3.cell? ⟨jb,4,none⟩=some (.slice a9 k al)/\w3.cell? ⟨lb,0,none⟩=some (.int .i64 pr)/\w3.cell? ⟨lb,1,none⟩=some (.slice M tl z)/\w3.cell? ⟨gn,k,none⟩=some (.pointer (some ⟨tb,0,none⟩)):=⟨ci,by rw[a1];rfl,by rw[a1];rfl,aM⟩;refine hK.out _ _ (fun _=>O) ?_;clear hK K T;refine xP (i:=12) (v:=?v12) rfl (by kernel_rfl) (by kernel_rfl) (by kernel_rfl) (by kernel_rfl) (fun _ _ _ h=>h) (zg ⟨by rfl,?hy12⟩) O ?rest12
        case hy12=>
         intro wq U;go_simp
         (try with_reducible rfl)
        refine gz (i:=13) (by kernel_rfl) rfl (fun K hK=>?_);go_simp
        refine hK.out _ _ (fun hq=>zB rfl hq) ?_;clear hK K;refine e7 (by kernel_rfl) ?_ _;refine NoPanic.normal ?_;have Q:zd [jb] w3 (w3.setCell ⟨jb,4,none⟩ (.slice bz (k+1) aJ)):=zd.set _ _ _ _;have I:=PN.box j.box;have ag:=j.bars (.slice bz (k+1) aJ);have cB:=L.saveT Q I (by decide);have bR:=yB A Q I (by decide);have bw:=yB b0 Q I (by decide);rw[←bf.out] at bw;clear O a1 cx bp aY ci aM;go_wp2;go_roundw
        case rel=>exact⟨k+1,_,_,by omega,by go_num,ag,cB,bR,bw,ak⟩
        case measure=>simp[intOf];omega
       ·have c1:k=r.qp.length:=by omega
        subst c1;clear hk t;have hJ:PP lo wr jb (uS r qc qp (ku qc)) ⟨.slice f r.head.qg.length b,sl g qc.length,bv,hvs,PH,bps⟩:=jn.join (Bk D bh.out HR.out HP.out HN.out aA.out F.out.hlen V.out HS.out HB.out au.out) (by have:=bh.out;omega) F.out.box;have cl:Hid (Calls prog 223 #[.pointer (some ⟨jb,0,none⟩),.int .i64 0] wr fun e w'=>e=.returned (.bool (uy (uS r qc qp (ku qc)) 0))/\Below wr.heap.size wr w'):=CK wr jb _ _ 0 hJ;have ao:=Px (M8 r qc qp);have cn:Hid (∀(W:World) (d:Int),Below w.heap.size w W->PK w.heap.size W r hvs 5->W.ownsRow w.heap.size 323 4 (sl g qc.length) qc.length (yu (qv PH qc.length qc.length))->W.ownsRow w.heap.size 325 4 bv r.qp.length (yu (List.zipWith kS (jE r qp r.qp.length) bps))->jn lo W (uS r qc qp d) ⟨.slice f r.head.qg.length b,sl g qc.length,bv,hvs,PH,bps⟩):=fun W d hW h1 h2 h3=>Bk hW bh.out HR.out HP.out HN.out aA.out F.out.hlen h1 h2 h3 au.out;have ak:=Px (ly.all au.out (by have:=HN.out.len;have:=aA.out;omega));obtain⟨df,cM,aB⟩:=zs HB.out;clear hJ;generalize uy (uS r qc qp (ku qc)) 0=ba at *;cases ba with
        |true=>
         simp only[if_true] at ao;go_upto_region 23 with (first|(go_at_call 223;refine cl.out.mono ?_;rintro e H ⟨rfl,l⟩;have m:=F.out.next l;obtain⟨a0,av,_,_,aI,_,_⟩:=m.cells))
         have A:zd [jb] H (H.setCell ⟨jb,26,none⟩ (.int .i64 (-1))):=zd.set _ _ _ _;have I:=PN.box m.box;have j:=m.ql (-1);have L:=(V.out.below l).saveT A I (by decide);have Y:=yB (zC HS.out l) A I (by decide);have aX:=yB (zC HB.out l) A I (by decide);generalize H.setCell ⟨jb,26,none⟩ (.int .i64 (-1))=w3 at *;clear a0 av aI A I m l;have a3:∀u∈jc r (.slice f r.head.qg.length b) (sl g qc.length) bv hvs (jM r 5) (-1),u.oneCell'=true:=CJ rfl rfl (by rw[aB];rfl) (PK.one L j.hlen);have y:=oK r (.slice f r.head.qg.length b) (sl g qc.length) bv hvs (jM r 5) (-1) j.hlen j.blen;have ad:=j;have aU:=cn.out w3 (-1) j.below L Y aX;have az:(jc r (.slice f r.head.qg.length b) (sl g qc.length) bv hvs (jM r 5) (-1))=um (uS r qc qp (-1)) ⟨.slice f r.head.qg.length b,sl g qc.length,bv,hvs,PH,bps⟩:=rfl;have aR:=Px az;clear az;have be:=j.box;generalize jc r (.slice f r.head.qg.length b) (sl g qc.length) bv hvs (jM r 5) (-1)=cs at *;refine wp_region_lit ?_;refine wpList_load_mid rfl 310 (.tmp 7) rfl jb 0 (by rfl) cs _ (be.range) underlying310 rfl (by rw[y];exact Pu) ?_;refine wpList_store_mid rfl 310 (.tmp 6) (.tmp 87) rfl (w.heap.size+1) 0 cs.toArray (by rfl) (by rfl) (by show World.there _ _ 0 cs.length;rw[y];exact(n6 ad).there) (by show _=some cs.length;rw[y];exact Pu) (all_oneCell_toArray a3) ?_;refine wpList_nil ?_;have Q:zd [w.heap.size+1] w3 (w3.setCells (w.heap.size+1) 0 cs):=zd.sets _ _ _ _;have R:Py (w3.setCells (w.heap.size+1) 0 cs) (w.heap.size+1) cs.toArray 310:=nC (n6 ad) y;have aW:=aU.saveJ Q (PN.box (n6 ad).choose_spec.1);have ab:=j.below.trans (Q.below (by simp) j.below.size);generalize w3.setCells (w.heap.size+1) 0 cs=w5 at *;go_wp2
         (try simp only[Exit.inBlock,Exit.then])
         refine zK (v:=.agg cs.toArray) (th rfl _ _ _ _ _ (by rfl) (run_loadVar_mid w5 (w.heap.size+1) 0 310 cs _ R.range underlying310 rfl (by rw[y];exact Pu))) rfl ⟨_,by rw[ao.out,aR.out],by rw[ao.out];exact aW,rfl,ak.out,ab⟩
        |false=>
         simp only[gx,if_false] at ao;go_upto_region 23 with (first|(go_at_call 223;refine cl.out.mono ?_;rintro e H ⟨rfl,l⟩))
         have j:=F.out.next l;have L:=V.out.below l;have Y:=zC HS.out l;have aX:=zC HB.out l;have a3:∀u∈jc r (.slice f r.head.qg.length b) (sl g qc.length) bv hvs (jM r 5) (ku qc),u.oneCell'=true:=CJ rfl rfl (by rw[aB];rfl) (PK.one L j.hlen);have y:=oK r (.slice f r.head.qg.length b) (sl g qc.length) bv hvs (jM r 5) (ku qc) j.hlen j.blen;have ad:=j;have aU:=cn.out H (ku qc) j.below L Y aX;have az:(jc r (.slice f r.head.qg.length b) (sl g qc.length) bv hvs (jM r 5) (ku qc))=um (uS r qc qp (ku qc)) ⟨.slice f r.head.qg.length b,sl g qc.length,bv,hvs,PH,bps⟩:=rfl;have aR:=Px az;clear az;have be:=j.box;generalize jc r (.slice f r.head.qg.length b) (sl g qc.length) bv hvs (jM r 5) (ku qc)=cs at *;refine wp_region_lit ?_;refine wpList_load_mid rfl 310 (.tmp 7) rfl jb 0 (by rfl) cs _ (be.range) underlying310 rfl (by rw[y];exact Pu) ?_;refine wpList_store_mid rfl 310 (.tmp 6) (.tmp 87) rfl (w.heap.size+1) 0 cs.toArray (by rfl) (by rfl) (by show World.there _ _ 0 cs.length;rw[y];exact(n6 ad).there) (by show _=some cs.length;rw[y];exact Pu) (all_oneCell_toArray a3) ?_;refine wpList_nil ?_;have Q:zd [w.heap.size+1] H (H.setCells (w.heap.size+1) 0 cs):=zd.sets _ _ _ _;have R:Py (H.setCells (w.heap.size+1) 0 cs) (w.heap.size+1) cs.toArray 310:=nC (n6 ad) y;have aW:=aU.saveJ Q (PN.box (n6 ad).choose_spec.1);have ab:=j.below.trans (Q.below (by simp) j.below.size);generalize H.setCells (w.heap.size+1) 0 cs=w5 at *;go_wp2
         (try simp only[Exit.inBlock,Exit.then])
         refine zK (v:=.agg cs.toArray) (th rfl _ _ _ _ _ (by rfl) (run_loadVar_mid w5 (w.heap.size+1) 0 310 cs _ R.range underlying310 rfl (by rw[y];exact Pu))) rfl ⟨_,by rw[ao.out,aR.out],by rw[ao.out];exact aW,rfl,ak.out,ab⟩
end
end Go.Proofs.YteampbddflhngaaGreat
