import Derived.Laws.Tables
import Derived.Laws.Rows
import Derived.Deep.MidRow
import Derived.Test.YteampbddflhngaaGreatZ20
namespace Go.Proofs.YteampbddflhngaaGreat
set_option linter.all false
set_option maxRecDepth 100000
set_option maxHeartbeats 4000000
open Go.RowKit
section
open Go.Proofs.Tryz
variable {lo:Nat}{r:zr}{tv sv bv:Value}{hvs:List Value}{jg:List Int}{d:Int}
theorem Q4:(prog.info? 323).map (fun i=>(i.zero,i.size,i.bytes))=some (some (.agg #[.pointer none,ι 0,ι 0,ι 0]),4,32):=by kernel_rfl
theorem Qx:(prog.info? 325).map (fun i=>(i.zero,i.size,i.bytes))=some (some (.agg #[ι 0,ν,ι 0,.pointer none]),4,48):=by kernel_rfl
theorem PW:(prog.info? 310).map (·.size)=some 28:=by kernel_rfl
structure j0 (lo:Nat) (w:World) (J:z9) (P:xw):Prop where
 head:yh lo w P.tv J.head.qg
 qy:w.ownsRow lo 323 4 P.sv J.qy.length (yw (List.zipWith dG J.qy P.tbs))
 slen:P.tbs.length=J.qy.length
 tries:∀k (_:k<J.qy.length) (_:k<P.tbs.length),zY lo w P.tbs[k].1 J.qy[k].rows P.tbs[k].2
 qi:∀s∈J.qy,s.qi.length=3
 bars:w.ownsRow lo 325 4 P.bv J.bars.length (yw (List.zipWith gj J.bars P.bps))
 blen:P.bps.length=J.bars.length
 ji:∀k (_:k<J.bars.length) (_:k<P.bps.length),yh lo w P.bps[k].1 J.bars[k].lit.qg/\zY lo w P.bps[k].2.1 J.bars[k].rows P.bps[k].2.2
 hlen:P.hvs.length=5/\J.je.length=5
 je:∀p (_:p<J.je.length) (_:p<P.hvs.length),w.ownsRow lo 327 2 P.hvs[p] J.je[p].length (ki J.je[p])/\J.je[p].length<=1000/\∀h∈J.je[p],h.1<=1000000/\h.2<=1000000
 jk:J.jg.length=5/\J.ja.length=5/\J.from.length=5
 few:J.qy.length<=1000/\J.bars.length<=1000/\J.vars<=1000000
theorem j0.join{w:World}{a:Nat}{J:z9}{P:xw}(h:j0 lo w J P)(b:lo<=a)(c:Q6 w a (un J P).toArray 310):QU lo w a J P:=
 ⟨b,c,h.head,h.qy,h.slen,h.tries,h.qi,h.bars,h.blen,h.ji,h.hlen,h.je,h.jk,h.few⟩
theorem j0.below{w w':World}{J:z9}{P:xw}(h:j0 lo w J P)(c:μ w w'):j0 lo w' J P:=
 ⟨h.head.below c,zB h.qy c,h.slen,fun k a b=>(h.tries k a b).below c,h.qi,zB h.bars c,h.blen,fun k a b=>⟨(h.ji k a b).1.below c,(h.ji k a b).2.below c⟩,h.hlen,fun p a b=>⟨zB (h.je p a b).1 c,(h.je p a b).2⟩,h.jk,h.few⟩
theorem pE(J:z9)(P:xw)(h:P.hvs.length=5)(a:J.jg.length=5/\J.ja.length=5/\J.from.length=5):(un J P).length=28:=by
 simp[un,h,a.1,a.2.1,a.2.2]
def jc(r:zr)(tv sv bv:Value)(hvs:List Value)(jg:List Int)(d:Int):List Value:=
 [ι r.head.pred,tv,ι r.vars,sv,bv]++hvs++jg.map (Value.int .i64)++[ι (xy r r.vars)]++([0,0,0,0,0]:List Nat).map Rj++([0,0,0,0,0]:List Nat).map Rj++[ι d,ι 0]
theorem O1(a:hvs.length=5)(k:Nat)(f:k<5)(u:Value):(jc r tv sv bv hvs jg d).toArray.setIfInBounds (5+k) u=(jc r tv sv bv (hvs.set k u) jg d).toArray:=by
 obtain⟨e,g,b,c,h,rfl⟩:=five a;obtain rfl|rfl|rfl|rfl|rfl:k=0∨k=1∨k=2∨k=3∨k=4:=by omega
 all_goals simp[jc]
theorem JU(a:hvs.length=5)(b:jg.length=5)(k:Nat)(i:k<5)(u:Int):(jc r tv sv bv hvs jg d).toArray.setIfInBounds (10+k) (ι u)=(jc r tv sv bv hvs (jg.set k u) d).toArray:=by
 obtain⟨g,j,e,f,o,rfl⟩:=five a;obtain⟨m,c,n,h,l,rfl⟩:=five b;obtain rfl|rfl|rfl|rfl|rfl:k=0∨k=1∨k=2∨k=3∨k=4:=by omega
 all_goals simp[jc]
theorem Nn(a:hvs.length=5)(b:jg.length=5)(u:Int):(jc r tv sv bv hvs jg d).toArray.setIfInBounds 26 (ι u)=(jc r tv sv bv hvs jg u).toArray:=by
 obtain⟨g,i,c,f,m,rfl⟩:=five a;obtain⟨k,e,l,h,j,rfl⟩:=five b;simp[jc]
theorem IB(u:Value):(jc r tv sv bv hvs jg d).toArray.setIfInBounds 4 u=(jc r tv sv u hvs jg d).toArray:=by simp[jc]
theorem G8(a:hvs.length=5)(b:jg.length=5):(jc r tv sv bv hvs jg d).toArray[3]?=some sv/\(jc r tv sv bv hvs jg d).toArray[4]?=some bv/\(jc r tv sv bv hvs jg d).toArray[26]?=some (ι d)/\(∀k,k<5->(jc r tv sv bv hvs jg d).toArray[5+k]?=some (hvs.getD k (.bool false)))/\(∀k,k<5->(jc r tv sv bv hvs jg d).toArray[10+k]?=some (ι (jg.getD k 0))):=by
 obtain⟨h,j,e,g,o,rfl⟩:=five a;obtain⟨m,f,n,i,l,rfl⟩:=five b;refine⟨by simp[jc],by simp[jc],by simp[jc],fun k c=>?_,fun k c=>?_⟩
 all_goals
  obtain rfl|rfl|rfl|rfl|rfl:k=0∨k=1∨k=2∨k=3∨k=4:=by omega
  all_goals simp[jc]
theorem Cd:∀(b:List V4) (k:Nat) (_:k<b.length) (u:Value),(yw b).set (k*4) u=yw (b.modify k fun y=>(u,y.2.1,y.2.2.1,y.2.2.2))
 |[],k,a,_=>by simp at a
 |y::r,0,_,u=>by simp[yw,dT]
 |y::r,k+1,a,u=>by
  have:=Cd r k (by simpa using a) u;simp only[yw,uw,dT,List.modify_succ_cons] at this ⊢;rw[show(k+1)*4=k*4+1+1+1+1 from by omega];simpa using this
theorem P7(a:List V4)(y:V4):yw (a++[y])=yw a++[y.1,y.2.1,y.2.2.1,y.2.2.2]:=by simp[yw,dT]
theorem Jm(e c a b:Value):∀(n i:Nat),i<n*4->(madeCells #[e,c,a,b] (n*4))[i]?=(yw (List.replicate n (e,c,a,b)))[i]?:=by
 intro n i o;obtain⟨k,j,m,rfl⟩:∃k j,j<4/\i=k*4+j:=⟨i / 4,i%4,Nat.mod_lt _ (by decide),by omega⟩;have q:k<n:=by omega
 obtain⟨g,f,l,h⟩:=rV (List.replicate n (e,c,a,b)) k (by simpa using q);simp only[tU] at g f l h;have p:(k*4+j)%4=j:=by omega
 simp only[madeCells,Array.getElem?_map,Array.getElem?_range];rw[zc o];simp only[jy];have s:(#[e,c,a,b]:Array Value).size=4:=rfl;rw[s,p];match j,m with
 |0,_=>rw[uV,g];rfl
 |1,_=>rw[f];rfl
 |2,_=>rw[l];rfl
 |3,_=>rw[h];rfl
theorem Nc{W:World}{g n:Nat}{T:TypeId}{f e a c:Value}(h:Q6 W g (madeCells #[f,e,a,c] (n*4)) T)(j:lo<=g)(k:n<=maxLen):W.ownsRow lo T 4 (sl g n) n (yw (List.replicate n (f,e,a,c))):=by
 refine⟨by rw[tz];simp,zb ⟨g,n,madeCells #[f,e,a,c] (n*4),rfl,j,h,zg _,k,by rw[size_madeCells],?_⟩⟩;apply mG;intro i;by_cases b:i<n*4
 ·rw[lJ,zc b,Array.getElem?_toList,Jm _ _ _ _ n i b]
 ·rw[lJ,za b,kF (by rw[tz];simp;omega)]
def Sz(b:Nat):Value:=(π b)
def ed:V4:=(.pointer none,ι 0,ι 0,ι 0)
def sq:List Value:=[ν,ν,ν,ν,ν]
def tc(w b:World)(r:zr)(tv:Value)(n:Nat)(s:Value):Prop:=∃a g,s=(π a)/\w.heap.size<=a/\w.heap.size<=g/\Q6 b a (jc r tv (sl g n) (ν) sq [0,0,0,0,0] 0).toArray 310/\Q6 b g (madeCells #[.pointer none,ι 0,ι 0,ι 0] (n*4)) 323/\μ w b
end
section
variable {lo:Nat}{w0 w:World}{b6 jb:Nat}{r:zr}{tv sv bv:Value}{hvs:List Value}{jg:List Int}{d:Int}
theorem NP{l:zu}{p n:Nat}(h:yN l p=some n):n<=p:=by
 unfold yN at h;split at h
 ·simp only[zt] at h;have:=rO (p:=zH l) (l:=List.range p);simp at this;omega
 ·cases h
theorem M5(r:zr)(p:Nat)(g:r.qc.length<=1000)(f:p<=1000000):(xb r p).length<=1000/\∀h∈xb r p,h.1<=1000000/\h.2<=1000000:=by
 constructor
 ·have:=sd (gZ p) r.qc.zipIdx;rw[AW];simp at this;omega
 ·intro h c;rw[AW,mQ] at c;obtain⟨x,e,b⟩:=c;unfold gZ at b;cases a:yN x.1 p with
  |none=>rw[a] at b;cases b
  |some j=>
   rw[a] at b;simp only[jy,zt] at b;subst b;have i:=NP a;have k:=List.snd_lt_of_mem_zipIdx e;simp only;omega
structure uL (lo:Nat) (w0 w:World) (b6 jb:Nat) (r:zr) (tv sv bv:Value) (hvs:List Value) (jg:List Int) (d:Int):Prop where
 box:Q6 w jb (jc r tv sv bv hvs jg d).toArray 310
 hlen:hvs.length=5
 blen:jg.length=5
 res:∃c,Q6 w b6 c 310/\c.size=28
 below:μ w0 w
 ne:w0.heap.size<=jb/\w0.heap.size<=b6/\jb≠b6
theorem uL.next{w':World}(h:uL lo w0 w b6 jb r tv sv bv hvs jg d)(a:μ w w'):uL lo w0 w' b6 jb r tv sv bv hvs jg d:=by
 obtain⟨c,b,e⟩:=h.res;exact⟨h.box.below a,h.hlen,h.blen,⟨c,b.below a,e⟩,Q9 h.below a,h.ne⟩
theorem uL.hold(h:uL lo w0 w b6 jb r tv sv bv hvs jg d)(k:Nat)(e:k<5)(u:Value):uL lo w0 (w.setCell ⟨jb,5+k,none⟩ u) b6 jb r tv sv bv (hvs.set k u) jg d:=by
 obtain⟨c,a,b⟩:=h.res;refine⟨?_,by simpa using h.hlen,h.blen,⟨c,a.set_ne (Ne.symm h.ne.2.2) _ _,b⟩,h.below.setCell h.ne.1 _,h.ne⟩;have:=h.box.set (5+k) u;rw[O1 h.hlen k e] at this;exact this
theorem uL.back(h:uL lo w0 w b6 jb r tv sv bv hvs jg d)(k:Nat)(e:k<5)(u:Int):uL lo w0 (w.setCell ⟨jb,10+k,none⟩ (ι u)) b6 jb r tv sv bv hvs (jg.set k u) d:=by
 obtain⟨c,a,b⟩:=h.res;refine⟨?_,h.hlen,by simpa using h.blen,⟨c,a.set_ne (Ne.symm h.ne.2.2) _ _,b⟩,h.below.setCell h.ne.1 _,h.ne⟩;have:=h.box.set (10+k) (ι u);rw[JU h.hlen h.blen k e] at this;exact this
theorem uL.ql(h:uL lo w0 w b6 jb r tv sv bv hvs jg d)(u:Int):uL lo w0 (w.setCell ⟨jb,26,none⟩ (ι u)) b6 jb r tv sv bv hvs jg u:=by
 obtain⟨c,a,b⟩:=h.res;refine⟨?_,h.hlen,h.blen,⟨c,a.set_ne (Ne.symm h.ne.2.2) _ _,b⟩,h.below.setCell h.ne.1 _,h.ne⟩;have:=h.box.set 26 (ι u);rw[Nn h.hlen h.blen] at this;exact this
theorem uL.bars(h:uL lo w0 w b6 jb r tv sv bv hvs jg d)(u:Value):uL lo w0 (w.setCell ⟨jb,4,none⟩ u) b6 jb r tv sv u hvs jg d:=by
 obtain⟨c,a,b⟩:=h.res;refine⟨?_,h.hlen,h.blen,⟨c,a.set_ne (Ne.symm h.ne.2.2) _ _,b⟩,h.below.setCell h.ne.1 _,h.ne⟩;have:=h.box.set 4 u;rw[IB] at this;exact this
theorem uL.save{w0 w w':World}{b6 jb:Nat}{r:zr}{tv sv bv:Value}{hvs:List Value}{jg:List Int}{d:Int}{M:List Nat}(h:uL lo w0 w b6 jb r tv sv bv hvs jg d)(hs:ze M w w')(g:∀b∈M,w0.heap.size<=b)(a:jb∉M/\b6∉M):uL lo w0 w' b6 jb r tv sv bv hvs jg d:=by
 obtain⟨c,e,f⟩:=h.res;exact⟨h.box.save hs a.1,h.hlen,h.blen,⟨c,e.save hs a.2,f⟩,h.below.trans (hs.below g h.below.size),h.ne⟩
def qN(QQ:List (Nat×List Nat))(n k:Nat):List V4:=(QQ.take k).map (fun x=>(Sz x.1,ι 0,ι 0,ι 0))++List.replicate (n-k) ed
structure mW (b0 lo:Nat) (w:World) (v:Value) (ts:List zi) (QQ:List (Nat×List Nat)):Prop where
 own:w.ownsRow b0 162 1 v ts.length (QQ.map fun x=>Sz x.1)
 len:QQ.length=ts.length
 tries:∀k (_:k<ts.length) (_:k<QQ.length),zY lo w QQ[k].1 ts[k] QQ[k].2
 few:ts.length<=1000
theorem mW.cell{f:Nat}{w:World}{v:Value}{ts:List zi}{QQ:List (Nat×List Nat)}(h:mW f lo w v ts QQ)(k:Nat)(j:k<ts.length)(b:k<QQ.length):∃g a,v=.slice (some ⟨g,0,none⟩) ts.length a/\g<w.heap.size/\w.cell? ⟨g,k,none⟩=some (.pointer (some ⟨QQ[k].1,0,none⟩)):=by
 obtain⟨g,a,i,_,e,c⟩:=yv h.own (by omega);exact⟨g,a,i,e,c k _ (by simp[b,Sz])⟩
def jW(r:zr)(k:Nat):List Int:=(List.range 5).map fun p=>if p<k then xy r (p:Nat) else 0
theorem J8(r:zr)(k:Nat)(a:k<5):(jW r k).set k (xy r (k:Nat))=jW r (k+1):=by
 obtain rfl|rfl|rfl|rfl|rfl:k=0∨k=1∨k=2∨k=3∨k=4:=by omega
 all_goals rfl
def ve(r:zr)(qc qp:List zi)(d:Int):z9:={head:=r.head,vars:=r.vars,qy:=qc.map (fun T=>⟨T,[0,0,0]⟩),bars:=(r.qp.zip qp).map (fun x=>⟨x.1,uG x.1,x.2⟩),je:=(List.range 5).map (xb r),jg:=(List.range 5).map (fun p=>xy r (p:Nat)),last:=xy r r.vars,ja:=[0,0,0,0,0],«from»:=[0,0,0,0,0],ql:=d,jf:=0}
def kE(qc:List zi):Int:=if qc.any (fun T=>T.count == 0) then -1 else 0
theorem L3(r:zr)(qc qp:List zi):xr r qc qp=if uT (ve r qc qp (kE qc)) 0 then ve r qc qp (-1) else ve r qc qp (kE qc):=rfl
end
section
open Go.Proofs.Tryz
variable {lo:Nat}{W w w':World}{cs hvs:List Value}{r:zr}{jb k:Nat}{nts:List (Nat×List Nat)}{bps:List (Value×Nat×List Nat)}{tv sv bv:Value}{jg:List Int}{d:Int}
def us(W:World)(b:Nat):Prop:=∃c:Array Value,Q6 W b c 310/\c.size=28
def g4(W:World)(b:Nat)(cs:List Value):World:=W.setCells b 0 cs
theorem Q6.sets{T:TypeId}{b:Nat}:∀(vs:List Value) (o:Nat) (w:World) (l:List Value),Q6 w b l.toArray T->o+vs.length=l.length->Q6 (w.setCells b o vs) b (l.take o++vs).toArray T
 |[],o,w,l,h,e=>by
  simp at e;subst e;simpa [World.setCells] using h
 |v::r,o,w,l,h,e=>by
  simp only[xd] at e;have a:Q6 (w.setCell ⟨b,o,none⟩ v) b (l.set o v).toArray T:=by simpa using h.set o v
  have:=Q6.sets r (o+1) _ _ a (by simp;omega);rw[World.setCells];rw[show l.take o++v::r=(l.set o v).take (o+1)++r from by
   rw[List.take_set,yM (by omega:o<l.length),fW _ _ (by simp;omega)];simp[Nat.min_eq_left (show o<=l.length by omega)]]
  exact this
theorem pN{b:Nat}(h:us W b)(e:cs.length=28):Q6 (g4 W b cs) b cs.toArray 310:=by
 obtain⟨c,a,f⟩:=h;have:=Q6.sets cs 0 W c.toList (by simpa using a) (by simp;omega);simpa [g4] using this
theorem ze.sets(b:Nat):∀(vs:List Value) (o:Nat) (w:World),ze [b] w (w.setCells b o vs)
 |[],_,w=>ze.refl _ w
 |v::r,o,w=>(ze.set w b o v).trans (ze.sets b r (o+1) _)
theorem ri(W:World)(b:Nat)(cs:List Value):ze [b] W (g4 W b cs):=ze.sets b cs 0 W
theorem kl(W:World)(b:Nat)(cs:List Value)(b' o:Nat)(h:b'≠b):(g4 W b cs).cell? ⟨b',o,none⟩=W.cell? ⟨b',o,none⟩:=World.cell?_setCells_out b cs 0 W _ fun e=>zC e h
theorem us.there{W:World}{b:Nat}(h:us W b):W.there b 0 28:=fun j g=>by
 obtain⟨c,f,i⟩:=h;obtain⟨a,e⟩:=f.rules;rw[vz];exact⟨by rw[a,Array.getElem?_eq_getElem (by omega)];rfl,e j⟩
def bj(p vs c:Int)(a g:Option Addr)(e h b f:Nat):List Value:=[ι p,.slice a e h,ι vs,.slice g b f,ν,ν,ν,ν,ν,ν,ι 0,ι 0,ι 0,ι 0,ι 0,ι c,ι 0,ι 0,ι 0,ι 0,ι 0,ι 0,ι 0,ι 0,ι 0,ι 0,ι 0,ι 0]
theorem pW(p vs c:Int)(a g:Option Addr)(e h b f:Nat):Value.agg #[ι p,.slice a e h,ι vs,.slice g b f,ν,ν,ν,ν,ν,ν,ι 0,ι 0,ι 0,ι 0,ι 0,ι c,ι 0,ι 0,ι 0,ι 0,ι 0,ι 0,ι 0,ι 0,ι 0,ι 0,ι 0,ι 0]=.agg (bj p vs c a g e h b f).toArray:=rfl
theorem N4(p vs c:Int)(a g:Option Addr)(e h b f:Nat):(bj p vs c a g e h b f).length=28:=rfl
theorem Iz(p vs c:Int)(a g:Option Addr)(e h b f:Nat)(q:Int):(bj p vs c a g e h b f).set 0 (ι q)=bj q vs c a g e h b f:=rfl
theorem Js(p vs e:Int)(h g:Option Addr)(i j b f:Nat)(a:Option Addr)(n c:Nat):(bj p vs e h g i j b f).set 1 (.slice a n c)=bj p vs e a g n c b f:=rfl
theorem OS(p vs c:Int)(a g:Option Addr)(e h b f:Nat)(q:Int):(bj p vs c a g e h b f).set 2 (ι q)=bj p q c a g e h b f:=rfl
theorem I1(p vs e:Int)(b j:Option Addr)(f g h i:Nat)(a:Option Addr)(n c:Nat):(bj p vs e b j f g h i).set 3 (.slice a n c)=bj p vs e b a f g n c:=rfl
theorem JY(p vs h:Int)(a f:Option Addr)(c g b e:Nat)(q:Int):(bj p vs h a f c g b e).set 15 (ι q)=bj p vs q a f c g b e:=rfl
theorem us.lt{W:World}{b:Nat}(h:us W b):b<W.heap.size:=by obtain⟨c,a,_⟩:=h;exact a.lt
theorem Qg(W:World)(b:Nat)(p vs e:Int)(a l:Option Addr)(g m c i:Nat)(h:us W b):(storeCells ⟨b,0,none⟩ (bj p vs e a l g m c i)).run prog W=.ok () (g4 W b (bj p vs e a l g m c i)):=
 run_storeCells_cells (P:=prog) b 0 (bj p vs e a l g m c i) 0 W (fun j f=>(h.there j f).1) (fun j f=>(h.there j f).2) (by simp[bj,Value.oneCell'])
theorem Dt(w:World)(b:Nat)(p vs e:Int)(a i:Option Addr)(f j c g:Nat)(h:b=w.heap.size):us (w.alloc (.cells (bj p vs e a i f j c g).toArray 310)) b:=⟨_,Q6.newAt _ _ _ _ h,rfl⟩
theorem iL(w:World)(b:Nat)(o:Obj)(h:us w b):us (w.alloc o) b:=by obtain⟨c,a,e⟩:=h;exact⟨c,a.below ((zo _ _).alloc (zg _) o),e⟩
theorem M2(w:World)(b:Nat):us w.drew b↔us w b:=Iff.rfl
theorem pc(w:World)(p vs c:Int)(a g:Option Addr)(e h b f:Nat):us (w.alloc (.cells (bj p vs c a g e h b f).toArray 310)) w.heap.size:=Dt _ _ _ _ _ _ _ _ _ _ _ rfl
theorem AR(w:World)(o:Obj)(p vs c:Int)(a g:Option Addr)(e h b f:Nat):us ((w.alloc o).alloc (.cells (bj p vs c a g e h b f).toArray 310)) (w.heap.size+1):=Dt _ _ _ _ _ _ _ _ _ _ _ (by simp)
theorem t9(w:World)(o:Obj)(p vs c:Int)(a g:Option Addr)(e h b f:Nat):us ((w.alloc (.cells (bj p vs c a g e h b f).toArray 310)).alloc o) w.heap.size:=iL _ _ _ (pc _ _ _ _ _ _ _ _ _ _)
theorem tc.mk'{a:World}{b:Option Addr}{e f n g:Nat}(i:us W jb)(l:Q6 W g (madeCells #[.pointer none,ι 0,ι 0,ι 0] (n*4)) 323)(h:jb≠g)(j:a.heap.size<=jb)(m:a.heap.size<=g)(c:μ a W):tc a (g4 W jb (bj (r.head.pred:Nat) (r.vars:Nat) (xy r r.vars) b (some ⟨g,0,none⟩) e f n n)) r (.slice b e f) n ((π jb)):=by
 refine⟨jb,g,rfl,j,m,pN i rfl,l.save (ri _ _ _) (by simp;omega),c.trans ((ri _ _ _).below (by simp;omega) c.size)⟩
attribute [local go_sem] pW N4 Iz Js OS I1 JY Qg pc AR t9 iL M2
def lG(qc:List zi)(k:Nat):Int:=if (qc.take k).any (fun T=>T.count == 0) then -1 else 0
theorem OG(qc:List zi)(k:Nat)(a:k<qc.length):lG qc (k+1)=if qc[k].count=0 then -1 else lG qc k:=by
 unfold lG;rw[yM a,List.any_append];by_cases h:qc[k].count=0
 ·simp[h]
 ·simp[h]
theorem Oq(qc:List zi):lG qc qc.length=kE qc:=by simp[lG,kE]
theorem Ed(QQ:List (Nat×List Nat))(n k:Nat)(b:k<=n)(a:n=QQ.length):(qN QQ n k).length=n:=by simp[qN];omega
theorem JW(QQ:List (Nat×List Nat))(n k:Nat)(g:k<n)(f:QQ.length=n):(yw (qN QQ n k)).set (k*4) (.pointer (some ⟨(QQ[k]'(by omega)).1,0,none⟩))=yw (qN QQ n (k+1)):=by
 rw[Cd _ _ (by rw[Ed QQ n k (by omega) f.symm];exact g)];congr 1;unfold qN;obtain⟨m,c⟩:∃m,n-k=m+1:=⟨n-k-1,by omega⟩;rw[c,rA,show n-(k+1)=m from by omega,yM (show k<QQ.length by omega),uQ,kH];have a:((QQ.take k).map (fun x=>(Sz x.1,Value.int .i64 0,Value.int .i64 0,Value.int .i64 0))).length=k:=by simp;omega
 apply mG;intro i;rw[List.getElem?_modify];by_cases e:k=i
 ·subst e;rw[gX (by omega),gX (by omega),a,jX];simp[ed,Sz]
 ·rcases dI i k with h|h
  ·rw[wa (by omega),wa (by omega)];simp[e]
  ·rw[gX (by omega),gX (by omega),a];obtain⟨j,b⟩:∃j,i-k=j+1:=⟨i-k-1,by omega⟩;rw[b];simp[e]
def jS(r:zr)(qp:List zi)(k:Nat):List sV:=((r.qp.zip qp).take k).map fun x=>⟨x.1,uG x.1,x.2⟩
theorem FH(r:zr)(qp:List zi)(k:Nat)(a:k<r.qp.length)(b:k<qp.length):jS r qp (k+1)=jS r qp k++[⟨r.qp[k],uG r.qp[k],qp[k]⟩]:=by
 unfold jS;rw[yM (by simp;omega),uQ];simp
theorem Hy(r:zr)(qp:List zi)(k:Nat)(a:k<=r.qp.length)(b:k<=qp.length):(jS r qp k).length=k:=by simp[jS];omega
theorem MT(r:zr)(qp:List zi)(bps:List (Value×Nat×List Nat))(k:Nat)(b:k<r.qp.length)(c:k<qp.length)(a:bps.length=k)(tv:Value)(tb:Nat)(fp:List Nat):yw (List.zipWith gj (jS r qp (k+1)) (bps++[(tv,tb,fp)]))=yw (List.zipWith gj (jS r qp k) bps)++[ι (r.qp[k].pred:Nat),tv,ι (uG r.qp[k]:Nat),(π tb)]:=by
 rw[FH r qp k b c,eH (by rw[Hy r qp k (by omega) (by omega),a])];simp only[lV,List.zipWith_nil_right];rw[P7];rfl
def lL(lo:Nat)(w:World)(r:zr)(nts:List (Nat×List Nat))(bps:List (Value×Nat×List Nat))(k:Nat):Prop:=bps.length=k/\∀i (_:i<k) (b:i<bps.length) (a:i<r.qp.length) (c:i<nts.length),yh lo w bps[i].1 r.qp[i].qg/\bps[i].2=nts[i]
theorem lL.snoc(h:lL lo w r nts bps k)(l:k<r.qp.length)(m:k<nts.length)(j:yh lo w tv r.qp[k].qg):lL lo w r nts (bps++[(tv,nts[k].1,nts[k].2)]) (k+1):=by
 obtain⟨f,g⟩:=h;refine⟨by simp[f],fun i a b c d=>?_⟩;by_cases e:i<k
 ·rw[vq (by omega)];exact g i e (by omega) c d
 ·obtain rfl:i=k:=by omega
  simp only[←f,rM];subst f;exact⟨j,trivial⟩
def QO(B:Nat)(w:World)(r:zr)(hvs:List Value)(k:Nat):Prop:=∀p (_:p<k) (_:p<hvs.length),w.ownsRow B 327 2 hvs[p] (xb r p).length (ki (xb r p))
theorem QO.below{B:Nat}(h:QO B w r hvs k)(c:μ w w'):QO B w' r hvs k:=fun p a b=>zB (h p a b) c
theorem QO.saveT{B:Nat}{T:TypeId}{M:List Nat}(h:QO B w r hvs k)(hs:ze M w w')(c:QS w T M)(e:327≠T):QO B w' r hvs k:=fun p a b=>yG (h p a b) hs c e
theorem QO.set{B:Nat}{w:World}{r:zr}{hvs:List Value}{k:Nat}{c:Value}(h:QO B w r hvs k)(f:w.ownsRow B 327 2 c (xb r k).length (ki (xb r k))):QO B w r (hvs.set k c) (k+1):=fun p a b=>by
 by_cases e:p=k
 ·subst e;rw[nA];exact f
 ·rw[nm (Ne.symm e)];exact h p (by omega) (by simpa using b)
theorem uL.cells{i:World}{j:Nat}(h:uL lo i w j jb r tv sv bv hvs jg d):jb<w.heap.size/\(∀o,w.frozen? ⟨jb,o,none⟩=false)/\w.cell? ⟨jb,3,none⟩=some sv/\w.cell? ⟨jb,4,none⟩=some bv/\w.cell? ⟨jb,26,none⟩=some (ι d)/\(∀k,k<5->w.cell? ⟨jb,5+k,none⟩=some (hvs.getD k (.bool false)))/\(∀k,k<5->w.cell? ⟨jb,10+k,none⟩=some (ι (jg.getD k 0))):=by
 obtain⟨a,e⟩:=h.box.rules;obtain⟨g,l,c,f,m⟩:=G8 (r:=r) (tv:=tv) (sv:=sv) (bv:=bv) (d:=d) h.hlen h.blen;exact⟨h.box.lt,e,(a _).trans g,(a _).trans l,(a _).trans c,fun k b=>(a _).trans (f k b),fun k b=>(a _).trans (m k b)⟩
theorem IN(qc:List zi)(QQ:List (Nat×List Nat))(h:QQ.length=qc.length):qN QQ qc.length qc.length=List.zipWith dG (qc.map fun T=>(⟨T,[0,0,0]⟩:yK)) QQ:=by
 apply mG;intro i;rw[List.getElem?_zipWith];by_cases a:i<qc.length
 ·simp[qN,←h,dG,Sz,List.getElem?_map,List.getElem?_eq_getElem (show i<qc.length from a),List.getElem?_eq_getElem (show i<QQ.length by omega)]
 ·simp[qN,←h,List.getElem?_eq_none (show qc.length<=i by omega),List.getElem?_eq_none (show QQ.length<=i by omega)]
theorem G5(r:zr)(qp:List zi)(h:qp.length=r.qp.length):jS r qp r.qp.length=(r.qp.zip qp).map fun x=>⟨x.1,uG x.1,x.2⟩:=by
 unfold jS;rw[xh (by simp;omega)]
theorem lL.all(h:lL lo w r nts bps k)(e:k=nts.length/\k=r.qp.length):bps.map (·.2)=nts:=by
 obtain⟨b,a⟩:=h;apply kP
 ·simp[b,e.1]
 ·intro i f c;rw[uM];exact(a i (by omega) (by omega) (by omega) c).2
theorem E1{B v:Nat}{C G o n:Value}{g:Nat}{qc qp:List zi}{QQ:List (Nat×List Nat)}(j:μ w W)(c:lo<=w.heap.size)(h:vm lo w tv C G r)(l:mW B lo w o qc QQ)(u:mW v lo w n qp nts)(m:qp.length=r.qp.length)(A:hvs.length=5)
  (D:QO w.heap.size W r hvs 5) (hs:W.ownsRow w.heap.size 323 4 (sl g qc.length) qc.length (yw (qN QQ qc.length qc.length))) (t:W.ownsRow w.heap.size 325 4 bv r.qp.length (yw (List.zipWith gj (jS r qp r.qp.length) bps))) (f:lL lo w r nts bps r.qp.length):j0 lo W (ve r qc qp d) ⟨tv,sl g qc.length,bv,hvs,QQ,bps⟩:=by
 have i:=l.len;have F:=u.len;have E:=f.1;have e:((r.qp.zip qp).map fun x=>(⟨x.1,uG x.1,x.2⟩:sV)).length=r.qp.length:=by simp;omega
 refine⟨h.head.below j,?_,by simp[ve,i],?_,by simp[ve],?_,by simp only[ve];omega,?_,⟨A,by simp[ve]⟩,?_,by simp[ve],?_⟩
 ·rw[IN qc QQ i] at hs;have:=yr hs c;simpa [ve] using this
 ·intro k a b;simp only[ve,uu] at a;have:=(l.tries k a b).below j;simpa [ve] using this
 ·rw[G5 r qp m] at t;have:=yr t c;simp only[ve];rw[e];exact this
 ·intro k a b;simp only[ve] at a;rw[e] at a;obtain⟨y,s⟩:=f.2 k a b a (by omega);have z:=(u.tries k (by omega) (by omega)).below j;simp only[ve,uM,List.getElem_zip];exact⟨y.below j,by rw[s];exact z⟩
 ·intro p a b;simp only[ve,uu,nW] at a;have q:=yr (D p a b) c;have s:=M5 r p (h.qc.len) (by omega);simp only[ve,uM,mp];exact⟨q,s⟩
 ·simp only[ve,uu];have:=l.few;have:=h.qp.len;have:=h.small.2.1;refine⟨by omega,by simp;omega,by omega⟩
theorem sU{e:Func}{t:Tmp}{f:TypeId}(h:e.results=#[.cell t f])(a:Array Value)(P:Program)(w:World)(b o:Nat)(c:a.getD t undef=.pointer (some ⟨b,o,none⟩)){v:Value}(g:(loadVar f ⟨b,o,none⟩).run P w=.ok v w):(results e a).run P w=.ok v w:=by
 rw[Array.getD_eq_getD_getElem?] at c;simp[results,h,c,asAddr,g]
theorem Q6.range{b:Nat}{T:TypeId}(h:Q6 w b cs.toArray T):w.rangeAt b 0 cs:=fun j v a=>by
 rw[vz,h.rules.1];simpa using a
theorem C5(r:zr)(tv sv bv:Value)(hvs:List Value)(jg:List Int)(d:Int)(a:hvs.length=5)(b:jg.length=5):(jc r tv sv bv hvs jg d).length=28:=by
 simp[jc,a,b]
theorem EW(c:tv.oneCell'=true)(f:sv.oneCell'=true)(e:bv.oneCell'=true)(b:∀u∈hvs,u.oneCell'=true):∀u∈jc r tv sv bv hvs jg d,u.oneCell'=true:=by
 intro u a;simp only[jc,zI,zx,zy,ff,or_false] at a;rcases a with ((((((a|a)|⟨_,_,a⟩)|a)|⟨_,_,a⟩)|⟨_,_,a⟩)|a)
 ·rcases a with rfl|rfl|rfl|rfl|rfl<;>first|rfl|assumption
 ·exact b u a
 ·subst a;rfl
 ·subst a;rfl
 ·subst a;rfl
 ·subst a;rfl
 ·rcases a with rfl|rfl<;>rfl
theorem QO.one{B:Nat}(h:QO B w r hvs 5)(g:hvs.length=5):∀u∈hvs,u.oneCell'=true:=by
 intro u c;obtain⟨p,a,rfl⟩:=qa c;obtain⟨f,b,e⟩:=zp (h p (by omega) a);rw[e];rfl
theorem pw{b:World}{a:Nat}(h:uL lo b w a jb r tv sv bv hvs jg d):us w a:=h.res
theorem zY.saveJ{tb:Nat}{T:zi}{fp M:List Nat}(h:zY lo w tb T fp)(hs:ze M w w')(g:QS w 310 M):zY lo w' tb T fp:=h.save hs fun b f e=>by
 obtain⟨c,a⟩:=g b e;exact h.notin a (by decide) (by decide) (by decide) f
theorem j0.saveJ{w w':World}{J:z9}{P:xw}{M:List Nat}(h:j0 lo w J P)(hs:ze M w w')(c:QS w 310 M):j0 lo w' J P:=
 ⟨h.head.saveT hs c (by decide),yG h.qy hs c (by decide),h.slen,fun k a b=>(h.tries k a b).saveJ hs c,h.qi,yG h.bars hs c (by decide),h.blen,fun k a b=>⟨(h.ji k a b).1.saveT hs c (by decide),(h.ji k a b).2.saveJ hs c⟩,h.hlen,fun p a b=>⟨yG (h.je p a b).1 hs c (by decide),(h.je p a b).2⟩,h.jk,h.few⟩
theorem LT{b1 b2:Nat}(w:World)(r:zr)(tv pv nv cd bP:Value)(qc qp:List zi)(QQ nts:List (Nat×List Nat))(h:vm lo w tv pv nv r)(hp:mW b1 lo w cd qc QQ)(hn:mW b2 lo w bP qp nts)(cb:qp.length=r.qp.length)(bx:lo<=w.heap.size):
  Calls prog 214 #[kL r tv pv nv,cd,bP] w fun e w'=>∃P,e=ε (.agg (un (xr r qc qp) P).toArray)/\j0 lo w' (xr r qc qp) P/\P.tbs=QQ/\P.bps.map (·.2)=nts/\μ w w':=by
 obtain⟨iS,c0,cE,cc,bu⟩:=info_parts Q4;obtain⟨iB,cP,cz,bV,ci⟩:=info_parts Qx;have HR:=Q5 h;have HP:=Q5 hp;have HN:=Q5 hn;obtain⟨dz,dd,rfl⟩:=zp hp.own;obtain⟨dr,db,rfl⟩:=zp hn.own;obtain⟨f,b,rfl⟩:=h.head.qx;obtain⟨C,o,rfl⟩:=h.qc.qx;obtain⟨B,n,rfl⟩:=h.qp.qx;have d0:=hp.few;have dq:=hn.few;have ds:=h.small.2.1;have b6:=fun W:World=>run_make (P:=prog) (w:=W) 305 323 iS _ underlying305 c0 cE .i64 .i64 (qc.length:Int) (qc.length:Int) (by omega) (Int.le_refl _) (by rw[bu];omega) (by omega);rw[cc] at b6;have aU:Hid (∀W (kn:Int),μ w W->Calls prog 220 #[.agg #[ι r.qh,ι r.vars,ι r.head.pred,.slice f r.head.qg.length b,.slice C r.qc.length o,.slice B r.qp.length n],ι kn] W fun e w'=>e=ε (ι (xy r kn))/\μ W w'):=fun W kn hW=>NF W _ _ _ r kn (h.below hW);have b3:Hid (∀W (pl:Nat),pl<=1000000->μ w W->Calls prog 221 #[.agg #[ι r.qh,ι r.vars,ι r.head.pred,.slice f r.head.qg.length b,.slice C r.qc.length o,.slice B r.qp.length n],ι pl] W fun e w'=>∃hv,e=.returned hv/\w'.ownsRow W.heap.size 327 2 hv (xb r pl).length (ki (xb r pl))/\μ W w'):=fun W pl cV hW=>FA W _ _ _ r pl (h.below hW) cV;have bn:=Q5 bx;have aF:=Q5 cb;unfold kL;clear h hp hn bx cb;have ag:=(Q6.new w #[ι r.qh,ι r.vars,ι r.head.pred,.slice f r.head.qg.length b,.slice C r.qc.length o,.slice B r.qp.length n] 207).below ((zo _ _).alloc (zg _) (.cells (bj 0 0 0 none none 0 0 0 0).toArray 310));have O:=Q6.new (w.alloc (.cells #[ι r.qh,ι r.vars,ι r.head.pred,.slice f r.head.qg.length b,.slice C r.qc.length o,.slice B r.qp.length n] 207)) (bj 0 0 0 none none 0 0 0 0).toArray 310;have bi:μ w ((w.alloc (.cells #[ι r.qh,ι r.vars,ι r.head.pred,.slice f r.head.qg.length b,.slice C r.qc.length o,.slice B r.qp.length n] 207)).alloc (.cells (bj 0 0 0 none none 0 0 0 0).toArray 310)):=(by go_grown);simp only[World.size_alloc] at O;go_enter func214,ntmps214;go_upto_region 1 with fail
 generalize (w.alloc (.cells #[ι r.qh,ι r.vars,ι r.head.pred,.slice f r.head.qg.length b,.slice C r.qc.length o,.slice B r.qp.length n] 207)).alloc (.cells (bj 0 0 0 none none 0 0 0 0).toArray 310)=wA at *;obtain⟨cC,bf,bs⟩:=ag.boxed;have cD:=bi.size;go_cut [7] from 13 to 24 (fun s7 wx=>tc wA wx r (.slice f r.head.qg.length b) qc.length s7)
 case first=>
  go_region_held3 (fun w'=>w'.cell? ⟨w.heap.size,0,none⟩=some (ι r.qh)/\w'.cell? ⟨w.heap.size,1,none⟩=some (ι r.vars)/\w'.cell? ⟨w.heap.size,2,none⟩=some (ι r.head.pred)/\w'.cell? ⟨w.heap.size,3,none⟩=some (.slice f r.head.qg.length b)/\w'.cell? ⟨w.heap.size,4,none⟩=some (.slice C r.qc.length o)/\w'.cell? ⟨w.heap.size,5,none⟩=some (.slice B r.qp.length n)) (first|go_keep|(go_simp;done)|(go_split_ands;refine⟨?_,?_,?_,?_,?_,?_⟩<;>(rw[kl _ _ _ _ _ (by simp;omega)];simp[*]))) (go_at_call 220;refine(aU.out _ _ (by exact(by go_grown))).mono ?_;rintro e w1 ⟨rfl,L⟩;have bc:μ wA w1:=(zQ (by go_grown) L (zg _));have c3:=ag.below bc;obtain⟨dh,cZ,di⟩:=c3.boxed;have cK:=bc.size;(first|((with_reducible refine Q6.carry (Q6.drew (Q6.newAt (wA.alloc (.cells (madeCells #[.pointer none,ι 0,ι 0,ι 0] (qc.length*4)) 323)) (wA.heap.size+1) (bj 0 0 0 none none 0 0 0 0).toArray 310 (World.size_alloc _ _).symm)) L ?_);intro ab;have ap:us w1 (wA.heap.size+1):=⟨_,ab,rfl⟩;clear ab;(with_reducible refine Q6.carry (Q6.drew (Q6.below (Q6.new wA (madeCells #[.pointer none,ι 0,ι 0,ι 0] (qc.length*4)) 323) ((zo _ _).alloc (zg _) (.cells (bj 0 0 0 none none 0 0 0 0).toArray 310)))) L ?_);intro au)|((with_reducible refine Q6.carry (Q6.drew (Q6.below (Q6.new wA (bj 0 0 0 none none 0 0 0 0).toArray 310) ((zo _ _).alloc (zg _) (.cells (madeCells #[.pointer none,ι 0,ι 0,ι 0] (qc.length*4)) 323)))) L ?_);intro ab;have ap:us w1 wA.heap.size:=⟨_,ab,rfl⟩;clear ab;(with_reducible refine Q6.carry (Q6.drew (Q6.newAt (wA.alloc (.cells (bj 0 0 0 none none 0 0 0 0).toArray 310)) (wA.heap.size+1) (madeCells #[.pointer none,ι 0,ι 0,ι 0] (qc.length*4)) 323 (World.size_alloc _ _).symm)) L ?_);intro au)|((with_reducible refine Q6.carry (Q6.drew (Q6.new wA (bj 0 0 0 none none 0 0 0 0).toArray 310)) L ?_);intro ab;have ap:us w1 wA.heap.size:=⟨_,ab,rfl⟩;clear ab)|((with_reducible refine Q6.carry (Q6.drew (Q6.new wA (madeCells #[.pointer none,ι 0,ι 0,ι 0] (qc.length*4)) 323)) L ?_);intro au)|skip))
  all_goals
   go_wp2_with fail
   go_meet
   case rel=>
    apply tc.mk'
    ·first|exact AR _ _ _ _ _ _ _ _ _ _ _|exact t9 _ _ _ _ _ _ _ _ _ _ _|exact pc _ _ _ _ _ _ _ _ _ _|exact ap|exact iL _ _ _ ap
    ·first|exact au|exact Q6.below (Q6.new w1 _ _) zT|exact Q6.newAt _ _ _ _ (World.size_alloc _ _).symm|exact Q6.new w1 _ _|exact Q6.below au zT
    ·first|omega|(have:=au.lt;omega)|(have:=ap.lt;omega)
    ·omega
    ·omega
    ·exact(zQ bc (by go_grown) (zg _))
 case rest=>
  clear b6;obtain⟨jb,g,rfl,c6,cI,bb,aT,aC⟩:=hcut;have bA:jb≠w.heap.size+1:=by have:=O.lt;omega
  have hM:uL lo w wc (w.heap.size+1) jb r (.slice f r.head.qg.length b) (sl g qc.length) (ν) sq (jW r 0) 0:=⟨bb,rfl,rfl,⟨_,O.below aC,rfl⟩,Q9 bi aC,by omega,by omega,bA⟩;have G:=Q5 hM;have V:Hid (QO w.heap.size wc r sq 0):=fun p a=>by omega
  have HG:=Q5 aT;have F:=Q5 (ag.below aC);have dw:w.heap.size<jb:=by omega
  have dv:w.heap.size<g:=by omega
  have dp:g≠jb:=by
   intro e;subst e;exact zC (aT.type bb) (by decide)
  have du:g≠w.heap.size+1:=by have:=O.lt;omega
  clear hM bb aT aC ag O bi cC bf bs cD c6 cI;go_wp2;go_loopw [25] (fun cS wr=>∃(k:Nat) (hvs:List Value),k<=5/\cS=ι k/\Hid (uL lo w wr (w.heap.size+1) jb r (.slice f r.head.qg.length b) (sl g qc.length) (ν) hvs (jW r k) 0)/\Hid (QO w.heap.size wr r hvs k)/\Hid (Q6 wr g (madeCells #[.pointer none,ι 0,ι 0,ι 0] (qc.length*4)) 323)/\Hid (Q6 wr w.heap.size #[ι r.qh,ι r.vars,ι r.head.pred,.slice f r.head.qg.length b,.slice C r.qc.length o,.slice B r.qp.length n] 207)) (fun i _=>5-(intOf i).toNat)
  case atStart=>exact⟨0,sq,by omega,rfl,G,V,HG,F⟩
  case round=>
   clear G V HG F;obtain⟨k,hvs,hk,rfl,G,V,HG,F⟩:=hrel;have D:=G.out.below;have am:=D.size;by_cases t:k<5
   ·have b8:(k:Int)<5:=by omega
    have an:=F.out;obtain⟨a5,a4,aB⟩:=an.boxed;have aM:=Q5 fun W hW=>b3.out W k (by omega) (Q9 D hW);have bK:=Q5 fun W hW=>aU.out W (k:Nat) hW;have bq:=Q5 (J8 r k t);generalize xy r (k:Nat)=bk at *;generalize co:xb r k=hj at *;have cJ:=Q5 co;clear co;go_upto_region 6 with (go_at_call 221;refine(aM.out _ (by exact(by go_grown))).mono ?_;rintro e I ⟨hv,rfl,af,l⟩;obtain⟨ar,Z,rfl⟩:=zp af;have m:=G.out.next l;obtain⟨aq,a2,_,_,_,cn,_⟩:=m.cells;have aK:=cn k t;clear cn;generalize hvs.getD k (.bool false)=ov at aK)
    have X:=an.below l;have cx:=HG.out.below l;have ay:=V.out.below l;have c7:=l.size;have A:ze [jb] I (I.setCell ⟨jb,5+k,none⟩ (.slice ar hj.length Z)):=ze.set _ _ _ _;have j:=m.hold k t (.slice ar hj.length Z);have aG:=X.saveT A (QS.box m.box) (by decide);have b0:=cx.saveT A (QS.box m.box) (by decide);have M:QO w.heap.size _ r (hvs.set k (.slice ar hj.length Z)) (k+1):=(ay.set (by rw[cJ.out];exact yr af (by omega))).saveT A (QS.box m.box) (by decide);generalize I.setCell ⟨jb,5+k,none⟩ (.slice ar hj.length Z)=w3 at *;clear A X cx ay m aK a2 aq an a5 a4 aB af aM;generalize hvs.set k (.slice ar hj.length Z)=b9 at *;have cp:=Q5 j;have c4:=Q5 M;have cM:=Q5 b0;clear j M b0 G V HG F;obtain⟨a5,a4,aB⟩:=aG.boxed;have ag:=cp.out.below;have dy:=ag.size;go_wp2_with (go_at_call 220;refine(bK.out _ (by exact ag)).mono ?_;rintro e w4 ⟨rfl,Y⟩;have ah:=cp.out.next Y;obtain⟨dx,dm,_,_,_,_,bW⟩:=ah.cells;have b4:=bW k t;clear bW;generalize (jW r k).getD k 0=ob at b4)
    have aV:ze [jb] w4 (w4.setCell ⟨jb,10+k,none⟩ (ι bk)):=ze.set _ _ _ _;have bz:=ah.back k t bk;rw[bq.out] at bz;go_roundw
    case rel=>exact⟨k+1,b9,by omega,by go_num,bz,(c4.out.below Y).saveT aV (QS.box ah.box) (by decide),(cM.out.below Y).saveT aV (QS.box ah.box) (by decide),(aG.below Y).saveT aV (QS.box ah.box) (by decide)⟩
    case measure=>simp[intOf];omega
   ·obtain rfl:k=5:=by omega
    rw[show((5:Nat):Int)=5 from rfl];clear hk t b3 aU;have bL:Hid (wr.ownsRow w.heap.size 323 4 (sl g qc.length) qc.length (yw (qN QQ qc.length 0))):=by
     have q:=Nc (lo:=w.heap.size) HG.out (by omega) (by unfold maxLen;omega);have e:qN QQ qc.length 0=List.replicate qc.length (Value.pointer none,Value.int .i64 0,Value.int .i64 0,Value.int .i64 0):=by simp[qN,ed]
     rw[Hid,e];exact q
    clear HG;have cF:Hid (lG qc 0=0):=rfl;go_wp2;have ce:Hid (uL lo w wr (w.heap.size+1) jb r (.slice f r.head.qg.length b) (sl g qc.length) (ν) hvs (jW r 5) (lG qc 0)):=G;clear G cF;go_loopw [43] (fun cU wr=>∃(k:Nat),k<=qc.length/\cU=ι k/\Hid (uL lo w wr (w.heap.size+1) jb r (.slice f r.head.qg.length b) (sl g qc.length) (ν) hvs (jW r 5) (lG qc k))/\Hid (QO w.heap.size wr r hvs 5)/\Hid (wr.ownsRow w.heap.size 323 4 (sl g qc.length) qc.length (yw (qN QQ qc.length k)))/\Hid (Q6 wr w.heap.size #[ι r.qh,ι r.vars,ι r.head.pred,.slice f r.head.qg.length b,.slice C r.qc.length o,.slice B r.qp.length n] 207)) (fun i _=>qc.length-(intOf i).toNat)
    case atStart=>exact⟨0,zv _,rfl,ce,V,bL,F⟩
    case round=>
     clear ce V bL F D am;obtain⟨k,hk,rfl,G,V,HS,F⟩:=hrel;have D:=G.out.below;have am:=D.size;by_cases t:k<qc.length
     ·have cm:k<QQ.length:=by have:=HP.out.len;omega
      obtain⟨gp,cX,aS,cL,ch⟩:=HP.out.cell k t cm;simp only[Value.slice.injEq] at aS;have bI:=aS.1;clear aS;subst bI;have br:=zl D cL ch;have de:gp<wr.heap.size:=by omega
      obtain⟨aY,aW,ck,_,_,_,_⟩:=G.out.cells;have bG:wr.cell? ⟨jb,3,none⟩=some (.slice (some ⟨g,0,none⟩) qc.length qc.length):=ck;have hS:wr.ownsRow w.heap.size 323 4 (.slice (some ⟨g,0,none⟩) qc.length qc.length) qc.length (yw (qN QQ qc.length k)):=HS.out;have b8:(k:Int)<(qc.length:Int):=by omega
      have cN:=Ed QQ qc.length k hk (by have:=HP.out.len;omega);obtain⟨sx,cT⟩:∃sx,wr.cell? ⟨g,k*4,none⟩=some sx:=by
       obtain⟨g',dg,cf,_,_,bE⟩:=yv hS (by omega);simp only[Value.slice.injEq,zt,Addr.mk.injEq,and_true] at cf;have cG:=cf.1;subst cG;exact⟨_,bE (k*4) _ (rV (qN QQ qc.length k) k (by omega)).1⟩
      have c1:=qT hS;have ax:=uZ hS (k*4) (by rw[tz];omega) (.pointer (some ⟨QQ[k].1,0,none⟩));have bB:Hid ((yw (qN QQ qc.length k)).set (k*4) (.pointer (some ⟨QQ[k].1,0,none⟩))=yw (qN QQ qc.length (k+1))):=JW QQ qc.length k t HP.out.len;rw[bB.out] at ax;have cj:=Q5 fun W hW=>CP W QQ[k].1 qc[k] QQ[k].2 ((HP.out.tries k t cm).below hW);have a9:=Q5 (OG qc k t);have be:ze [g] wr (wr.setCell ⟨g,k*4,none⟩ (.pointer (some ⟨QQ[k].1,0,none⟩))):=ze.set _ _ _ _;have bt:QS wr 323 [g]:=fun x hx=>by simp at hx;subst hx;exact uW hS rfl
      have m:=G.out.save be (fun x hx=>by simp at hx;omega) ⟨by simp;omega,by simp;omega⟩;have ay:=V.out.saveT be bt (by decide);have X:=F.out.saveT be bt (by decide);generalize QQ[k].1=tb at *;generalize qc[k].count=ct at *;clear ck ch bB hS cN;go_upto_region 12 with fail
      generalize wr.setCell ⟨g,k*4,none⟩ ((π tb))=I at *;have l:=m.below;clear br aY aW bG cT c1 G V HS F;obtain⟨aq,a2,_,_,aP,_,_⟩:=m.cells;have ai:=Q5 m;have a8:=Q5 ay;have aJ:Hid (Q6 I w.heap.size _ 207):=X;clear m ay X bt;generalize c5:lG qc k=dk at *;clear c5;by_cases cy:ct=0
      ·subst cy;simp only[if_true] at a9;have A:ze [jb] I (I.setCell ⟨jb,26,none⟩ (ι (-1))):=ze.set _ _ _ _;have j:=ai.out.ql (-1);have H:=QS.box ai.out.box;go_wp2_with (go_at_call 209;refine(cj.out _ (by exact l)).mono ?_;rintro e w3 ⟨rfl,bo⟩;obtain rfl:=bo.symm)
       go_roundw
       case rel=>exact⟨k+1,by omega,by go_num,by rw[a9.out];exact j,a8.out.saveT A H (by decide),yG ax A H (by decide),aJ.out.saveT A H (by decide)⟩
       case measure=>simp[intOf];omega
      ·rw[za cy] at a9;have dn:((ct:Int) == 0)=false:=by rw[beq_eq_false_iff_ne];omega
       go_wp2_with (go_at_call 209;refine(cj.out _ (by exact l)).mono ?_;rintro e w3 ⟨rfl,bo⟩;obtain rfl:=bo.symm)
       go_roundw
       case rel=>exact⟨k+1,by omega,by go_num,by rw[a9.out];exact ai,a8,ax,aJ⟩
       case measure=>simp[intOf];omega
     ·obtain rfl:k=qc.length:=by omega
      rw[Oq] at G;clear hk t;have an:=F.out;obtain⟨a5,a4,aB⟩:=an.boxed;go_wp2;clear a5 a4 aB an;have cw:Hid (wr.ownsRow w.heap.size 325 4 (ν) 0 (yw (List.zipWith gj (jS r qp 0) []))):=yC _ _ _ _;have aN:Hid (lL lo w r nts [] 0):=⟨rfl,fun i a=>by omega⟩;go_loopw [62] (fun c8 wr=>∃(k:Nat) (bv:Value) (bps:List (Value×Nat×List Nat)),k<=r.qp.length/\c8=ι k/\Hid (uL lo w wr (w.heap.size+1) jb r (.slice f r.head.qg.length b) (sl g qc.length) bv hvs (jW r 5) (kE qc))/\Hid (QO w.heap.size wr r hvs 5)/\Hid (wr.ownsRow w.heap.size 323 4 (sl g qc.length) qc.length (yw (qN QQ qc.length qc.length)))/\Hid (wr.ownsRow w.heap.size 325 4 bv k (yw (List.zipWith gj (jS r qp k) bps)))/\Hid (lL lo w r nts bps k)) (fun i _=>r.qp.length-(intOf i).toNat)
      case atStart=>exact⟨0,_,[],zv _,rfl,G,V,HS,cw,aN⟩
      case round=>
       clear G V HS cw aN F D am;obtain⟨k,bv,bps,hk,rfl,G,V,HS,HB,az⟩:=hrel;have D:=G.out.below;have am:=D.size;by_cases t:k<r.qp.length
       ·have bT:k<qp.length:=by rw[aF.out];exact t
        have bO:k<nts.length:=by have:=HN.out.len;omega
        obtain⟨gl,J,z,c9,aO,b5,bZ,aD⟩:=HR.out.qp.cell k t;subst c9;obtain⟨gn,cW,aR,bp,bQ⟩:=HN.out.cell k bT bO;simp only[Value.slice.injEq] at aR;have bR:=aR.1;clear aR;subst bR;have b8:(k:Int)<(r.qp.length:Int):=by omega
        have df:(k:Int)<(qp.length:Int):=by omega
        have br:=zl D aO b5;have cR:=zl D aO bZ;have bH:=zl D bp bQ;have dj:gl<wr.heap.size:=by omega
        have bU:gn<wr.heap.size:=by omega
        have aj:=HB.out;obtain⟨aA,ak,aE⟩:=zp aj;subst aE;have c2:=Q5 aD;have bX:Hid (∀W,μ w W->Calls prog 222 #[.agg #[ι (r.qp[k].pred:Nat),.slice J r.qp[k].qg.length z]] W fun e w'=>e=ε (ι (uG r.qp[k]:Nat))/\μ W w'):=fun W hW=>Af W _ r.qp[k].pred r.qp[k].qg (aD.below hW);have bq:Hid (yw (List.zipWith gj (jS r qp (k+1)) (bps++[(.slice J r.qp[k].qg.length z,nts[k].1,nts[k].2)]))=yw (List.zipWith gj (jS r qp k) bps)++[ι (r.qp[k].pred:Nat),.slice J r.qp[k].qg.length z,ι (uG r.qp[k]:Nat),.pointer (some ⟨nts[k].1,0,none⟩)]):=MT r qp bps k t bT az.out.1 _ _ _;have al:=Q5 (az.out.snoc t bO aD);clear b5 bZ bQ aD c2;generalize r.qp[k].pred=pr at *;generalize r.qp[k].qg.length=tl at *;generalize uG r.qp[k]=kn at *;generalize nts[k].1=tb at *;generalize nts[k].2=fp at *;go_upto_region 19 with fail
        have N:μ wr (wr.alloc (.cells #[ι pr,.slice J tl z] 204)):=(by go_grown);have aI:=Q6.new wr #[ι pr,.slice J tl z] 204;have a6:=G.out.next N;have cr:Hid (QO _ _ r hvs 5):=V.out.below N;have cg:Hid (World.ownsRow _ w.heap.size 323 4 (sl g qc.length) qc.length _):=zB HS.out N;have a7:=zB aj N;have aw:=zl N bU bH;clear G V HS HB aj br cR bH;generalize wr.alloc (.cells #[ι pr,.slice J tl z] 204)=w1 at *;generalize wr.heap.size=lb at *;clear N D;have L:=a6.below;obtain⟨aY,aW,_,bC,_,_,_⟩:=a6.cells;obtain⟨bM,cO,dl⟩:=aI.boxed;have bJ:=Q5 a6;clear a6;have cK:=L.size;refine wp_region_noPanic ?_;refine iE (S:=fun w'=>w'.cell? ⟨jb,4,none⟩=some (.slice aA k ak)/\w'.cell? ⟨lb,0,none⟩=some (ι pr)/\w'.cell? ⟨lb,1,none⟩=some (.slice J tl z)/\w'.cell? ⟨gn,k,none⟩=some ((π tb))) (d:=13) (by kernel_rfl) (by refine⟨bC,?_,?_,aw⟩<;>(show w1.cell? _=_;rw[bM];rfl)) (fun s=>?_);refine ub (i:=0) (v:=?v0) rfl (by kernel_rfl) (by kernel_rfl) (by kernel_rfl) (by kernel_rfl) (fun _ _ _ h=>h) (zf ⟨by rfl,?hy0⟩) s ?rest0
        case hy0=>
         intro wq R;go_simp
         (try with_reducible rfl)
        refine ub (i:=1) (v:=?v1) rfl (by kernel_rfl) (by kernel_rfl) (by kernel_rfl) (by kernel_rfl) (fun _ _ _ h=>h) (zf ⟨by rfl,?hy1⟩) s ?rest1
        case hy1=>
         intro wq R;go_simp
         (try with_reducible rfl)
        refine ub (i:=2) (v:=?v2) rfl (by kernel_rfl) (by kernel_rfl) (by kernel_rfl) (by kernel_rfl) (fun _ _ _ h=>h) (zf ⟨by rfl,?hy2⟩) s ?rest2
        case hy2=>
         intro wq R;go_simp
         (try with_reducible rfl)
        refine ub (i:=3) (v:=?v3) rfl (by kernel_rfl) (by kernel_rfl) (by kernel_rfl) (by kernel_rfl) (fun _ _ _ h=>h) (zf ⟨by rfl,?hy3⟩) s ?rest3
        case hy3=>
         intro wq R;go_simp
         (try with_reducible rfl)
        refine ub (i:=5) (v:=?v5) rfl (by kernel_rfl) (by kernel_rfl) (by kernel_rfl) (by kernel_rfl) (fun _ _ _ h=>h) (zf ⟨by rfl,?hy5⟩) s ?rest5
        case hy5=>
         intro wq R;go_simp
         (try with_reducible rfl)
        refine ub (i:=6) (v:=?v6) rfl (by kernel_rfl) (by kernel_rfl) (by kernel_rfl) (by kernel_rfl) (fun _ _ _ h=>h) (zf ⟨by rfl,?hy6⟩) s ?rest6
        case hy6=>
         intro wq R;go_simp
         (try with_reducible rfl)
        refine ub (i:=7) (v:=?v7) rfl (by kernel_rfl) (by kernel_rfl) (by kernel_rfl) (by kernel_rfl) (fun _ _ _ h=>h) (zf ⟨by rfl,?hy7⟩) s ?rest7
        case hy7=>
         intro wq R;go_simp
         (try with_reducible rfl)
        refine ub (i:=8) (v:=?v8) rfl (by kernel_rfl) (by kernel_rfl) (by kernel_rfl) (by kernel_rfl) (fun _ _ _ h=>h) (zf ⟨by rfl,?hy8⟩) s ?rest8
        case hy8=>
         intro wq R;go_simp
         (try with_reducible rfl)
        refine dB (i:=4) (by kernel_rfl) rfl (fun K hK=>?_);go_simp
        refine(bX.out _ (by exact(zJ L 1))).mono ?_;rintro e I ⟨rfl,l⟩;have ae:=Q9 (zJ (zo _ _) 1) l;have m:=bJ.out.next ae;have a8:Hid (QO _ _ r hvs 5):=cr.out.below ae;have cB:Hid (World.ownsRow I w.heap.size 323 4 (sl g qc.length) qc.length _):=zB cg.out ae;have E:=zB a7 ae;have aL:=aI.below ae;have a1:=(ae.cell (p:=⟨gn,k,none⟩) (show gn<w1.heap.size by omega)).trans aw;have c7:=ae.size;have bF:=m.below;obtain⟨aq,a2,_,cu,_,_,_⟩:=m.cells;have ai:=Q5 m;obtain⟨ac,bw⟩:=aL.rules;refine hK.out _ _ (fun _=>⟨cu,by rw[ac];rfl,by rw[ac];rfl,a1⟩) ?_;have Q:I.cell? ⟨jb,4,none⟩=some (.slice aA k ak)/\I.cell? ⟨lb,0,none⟩=some (ι pr)/\I.cell? ⟨lb,1,none⟩=some (.slice J tl z)/\I.cell? ⟨gn,k,none⟩=some ((π tb)):=⟨cu,by rw[ac];rfl,by rw[ac];rfl,a1⟩;clear hK K s m bM cO aY aW bC aw bJ cr cg l ac bw bX;refine ub (i:=9) (v:=?v9) rfl (by kernel_rfl) (by kernel_rfl) (by kernel_rfl) (by kernel_rfl) (fun _ _ _ h=>h) (zf ⟨by rfl,?hy9⟩) Q ?rest9
        case hy9=>
         intro wq R;go_simp
         (try with_reducible rfl)
        refine dB (i:=10) (by kernel_rfl) rfl (fun K hK=>?_);go_simp
        refine hK.out _ _ (fun _=>?hS10) ?rest10
        case hS10=>obtain⟨q0,q1,q2,q3⟩:=Q;refine⟨?_,?_,?_,?_⟩<;>(rw[World.cell?_alloc_lt _ _ _ (by simp;omega)];assumption)
        clear hK K;refine dB (i:=11) (by kernel_rfl) rfl (fun K hK=>?_);refine dF I _ [ι pr,.slice J tl z,ι kn,(π tb)] 325 rfl (.tmp 72) (.tmp 81) 306 rfl w.heap.size 325 iB _ 4 48 underlying306 cP cz bV ci rfl (by decide) (.slice aA k ak) k (yw (List.zipWith gj (jS r qp k) bps)) (by simp[Act.eval]) E (by exact(by go_grown)) I.heap.size 1 (by simp[Act.eval]) (by exact Q6.new _ _ _) rfl (by simp[Value.oneCell']) (by omega) (by omega) (by omega) ?_;intro v' w3 ca aa cY dt dc;obtain⟨cv,aH,rfl⟩:=zp ca;have bd:=QS.own E;have j:=ai.out.save aa (fun x hx=>yW E (yt hx)) ⟨qB E ai.out.box (by decide),fun hm=>by obtain⟨c,hc,_⟩:=ai.out.res;exact qB E hc (by decide) hm⟩;have bD:=aL.saveT aa bd (by decide);have M:=a8.out.saveT aa bd (by decide);have A:=yG cB.out aa bd (by decide);obtain⟨a3,b7⟩:=bD.rules;obtain⟨bs,bf,_,bY,_,_,_⟩:=j.cells;have aQ:=(j.below.cell (p:=⟨gn,k,none⟩) bp).trans ((bF.cell (p:=⟨gn,k,none⟩) bp).symm.trans a1);have T:w3.cell? ⟨jb,4,none⟩=some (.slice aA k ak)/\w3.cell? ⟨lb,0,none⟩=some (ι pr)/\w3.cell? ⟨lb,1,none⟩=some (.slice J tl z)/\w3.cell? ⟨gn,k,none⟩=some ((π tb)):=⟨bY,by rw[a3];rfl,by rw[a3];rfl,aQ⟩;refine hK.out _ _ (fun _=>T) ?_;clear hK K Q;refine ub (i:=12) (v:=?v12) rfl (by kernel_rfl) (by kernel_rfl) (by kernel_rfl) (by kernel_rfl) (fun _ _ _ h=>h) (zf ⟨by rfl,?hy12⟩) T ?rest12
        case hy12=>
         intro wq R;go_simp
         (try with_reducible rfl)
        refine dB (i:=13) (by kernel_rfl) rfl (fun K hK=>?_);go_simp
        refine hK.out _ _ (fun hq=>zC rfl hq) ?_;clear hK K;refine eD (by kernel_rfl) ?_ _;refine NoPanic.normal ?_;have U:ze [jb] w3 (w3.setCell ⟨jb,4,none⟩ (.slice cv (k+1) aH)):=ze.set _ _ _ _;have H:=QS.box j.box;have ah:=j.bars (.slice cv (k+1) aH);have cA:=M.saveT U H (by decide);have cq:=yG A U H (by decide);have bN:=yG ca U H (by decide);rw[←bq.out] at bN;clear T a3 b7 bs bf bY aQ;go_wp2;go_roundw
        case rel=>exact⟨k+1,_,_,by omega,by go_num,ah,cA,cq,bN,al⟩
        case measure=>simp[intOf];omega
       ·have cQ:k=r.qp.length:=by omega
        subst cQ;clear hk t;have hJ:QU lo wr jb (ve r qc qp (kE qc)) ⟨.slice f r.head.qg.length b,sl g qc.length,bv,hvs,QQ,bps⟩:=j0.join (E1 D bn.out HR.out HP.out HN.out aF.out G.out.hlen V.out HS.out HB.out az.out) (by have:=bn.out;omega) G.out.box;have bS:Hid (Calls prog 223 #[(π jb),ι 0] wr fun e w'=>e=ε (.bool (uT (ve r qc qp (kE qc)) 0))/\μ wr w'):=DI wr jb _ _ 0 hJ;have ao:=Q5 (L3 r qc qp);have cl:Hid (∀(W:World) (d:Int),μ w W->QO w.heap.size W r hvs 5->W.ownsRow w.heap.size 323 4 (sl g qc.length) qc.length (yw (qN QQ qc.length qc.length))->W.ownsRow w.heap.size 325 4 bv r.qp.length (yw (List.zipWith gj (jS r qp r.qp.length) bps))->j0 lo W (ve r qc qp d) ⟨.slice f r.head.qg.length b,sl g qc.length,bv,hvs,QQ,bps⟩):=fun W d hW h1 h2 h3=>E1 hW bn.out HR.out HP.out HN.out aF.out G.out.hlen h1 h2 h3 az.out;have al:=Q5 (lL.all az.out (by have:=HN.out.len;have:=aF.out;omega));obtain⟨da,cH,aE⟩:=zp HB.out;clear hJ;generalize uT (ve r qc qp (kE qc)) 0=ba at *;cases ba with
        |true=>
         simp only[if_true] at ao;go_upto_region 23 with (go_at_call 223;refine bS.out.mono ?_;rintro e I ⟨rfl,l⟩;have m:=G.out.next l;obtain⟨aq,a2,_,_,aP,_,_⟩:=m.cells)
         have A:ze [jb] I (I.setCell ⟨jb,26,none⟩ (ι (-1))):=ze.set _ _ _ _;have H:=QS.box m.box;have j:=m.ql (-1);have M:=(V.out.below l).saveT A H (by decide);have aa:=yG (zB HS.out l) A H (by decide);have bh:=yG (zB HB.out l) A H (by decide);generalize I.setCell ⟨jb,26,none⟩ (ι (-1))=w3 at *;clear aq a2 aP A H m l;have av:∀u∈jc r (.slice f r.head.qg.length b) (sl g qc.length) bv hvs (jW r 5) (-1),u.oneCell'=true:=EW rfl rfl (by rw[aE];rfl) (QO.one M j.hlen);have y:=C5 r (.slice f r.head.qg.length b) (sl g qc.length) bv hvs (jW r 5) (-1) j.hlen j.blen;have ad:=j;have bg:=cl.out w3 (-1) j.below M aa bh;have a0:(jc r (.slice f r.head.qg.length b) (sl g qc.length) bv hvs (jW r 5) (-1))=un (ve r qc qp (-1)) ⟨.slice f r.head.qg.length b,sl g qc.length,bv,hvs,QQ,bps⟩:=rfl;have aX:=Q5 a0;clear a0;have aZ:=j.box;generalize jc r (.slice f r.head.qg.length b) (sl g qc.length) bv hvs (jW r 5) (-1)=cs at *;refine wp_region_lit ?_;refine wpList_load_mid rfl 310 (.tmp 7) rfl jb 0 (by rfl) cs _ (aZ.range) underlying310 rfl (by rw[y];exact PW) ?_;refine wpList_store_mid rfl 310 (.tmp 6) (.tmp 87) rfl (w.heap.size+1) 0 cs.toArray (by rfl) (by rfl) (by show World.there _ _ 0 cs.length;rw[y];exact(pw ad).there) (by show _=some cs.length;rw[y];exact PW) (all_oneCell_toArray av) ?_;refine wpList_nil ?_;have U:ze [w.heap.size+1] w3 (w3.setCells (w.heap.size+1) 0 cs):=ze.sets _ _ _ _;have O:Q6 (w3.setCells (w.heap.size+1) 0 cs) (w.heap.size+1) cs.toArray 310:=pN (pw ad) y;have bm:=bg.saveJ U (QS.box (pw ad).choose_spec.1);have Y:=j.below.trans (U.below (by simp) j.below.size);generalize w3.setCells (w.heap.size+1) 0 cs=w5 at *;go_wp2
         (try simp only[Exit.inBlock,Exit.then])
         refine zL (v:=.agg cs.toArray) (sU rfl _ _ _ _ _ (by rfl) (run_loadVar_mid w5 (w.heap.size+1) 0 310 cs _ O.range underlying310 rfl (by rw[y];exact PW))) rfl ⟨_,by rw[ao.out,aX.out],by rw[ao.out];exact bm,rfl,al.out,Y⟩
        |false=>
         simp only[gL,if_false] at ao;go_upto_region 23 with (go_at_call 223;refine bS.out.mono ?_;rintro e I ⟨rfl,l⟩)
         have j:=G.out.next l;have M:=V.out.below l;have aa:=zB HS.out l;have bh:=zB HB.out l;have av:∀u∈jc r (.slice f r.head.qg.length b) (sl g qc.length) bv hvs (jW r 5) (kE qc),u.oneCell'=true:=EW rfl rfl (by rw[aE];rfl) (QO.one M j.hlen);have y:=C5 r (.slice f r.head.qg.length b) (sl g qc.length) bv hvs (jW r 5) (kE qc) j.hlen j.blen;have ad:=j;have bg:=cl.out I (kE qc) j.below M aa bh;have a0:(jc r (.slice f r.head.qg.length b) (sl g qc.length) bv hvs (jW r 5) (kE qc))=un (ve r qc qp (kE qc)) ⟨.slice f r.head.qg.length b,sl g qc.length,bv,hvs,QQ,bps⟩:=rfl;have aX:=Q5 a0;clear a0;have aZ:=j.box;generalize jc r (.slice f r.head.qg.length b) (sl g qc.length) bv hvs (jW r 5) (kE qc)=cs at *;refine wp_region_lit ?_;refine wpList_load_mid rfl 310 (.tmp 7) rfl jb 0 (by rfl) cs _ (aZ.range) underlying310 rfl (by rw[y];exact PW) ?_;refine wpList_store_mid rfl 310 (.tmp 6) (.tmp 87) rfl (w.heap.size+1) 0 cs.toArray (by rfl) (by rfl) (by show World.there _ _ 0 cs.length;rw[y];exact(pw ad).there) (by show _=some cs.length;rw[y];exact PW) (all_oneCell_toArray av) ?_;refine wpList_nil ?_;have U:ze [w.heap.size+1] I (I.setCells (w.heap.size+1) 0 cs):=ze.sets _ _ _ _;have O:Q6 (I.setCells (w.heap.size+1) 0 cs) (w.heap.size+1) cs.toArray 310:=pN (pw ad) y;have bm:=bg.saveJ U (QS.box (pw ad).choose_spec.1);have Y:=j.below.trans (U.below (by simp) j.below.size);generalize I.setCells (w.heap.size+1) 0 cs=w5 at *;go_wp2
         (try simp only[Exit.inBlock,Exit.then])
         refine zL (v:=.agg cs.toArray) (sU rfl _ _ _ _ _ (by rfl) (run_loadVar_mid w5 (w.heap.size+1) 0 310 cs _ O.range underlying310 rfl (by rw[y];exact PW))) rfl ⟨_,by rw[ao.out,aX.out],by rw[ao.out];exact bm,rfl,al.out,Y⟩
end
end Go.Proofs.YteampbddflhngaaGreat
