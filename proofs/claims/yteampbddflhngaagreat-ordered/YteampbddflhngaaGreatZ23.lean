import Derived.Laws.Tables
import Derived.Laws.Rows
import Derived.Deep.MidRow
import Derived.Test.YteampbddflhngaaGreatZ20
namespace Go.Proofs.YteampbddflhngaaGreat
set_option linter.all false
set_option maxRecDepth 100000
set_option maxHeartbeats 4000000
open Go.RowKit
section
open Go.Proofs.Tryz
variable {lo:Nat}{r:zr}{tv sv bv:Value}{hvs:List Value}{jg:List Int}{d:Int}
theorem Q5:(prog.info? 323).map (fun i=>(i.zero,i.size,i.bytes))=some (some (.agg #[.pointer none,ι 0,ι 0,ι 0]),4,32):=by kernel_rfl
theorem Qn:(prog.info? 325).map (fun i=>(i.zero,i.size,i.bytes))=some (some (.agg #[ι 0,ν,ι 0,.pointer none]),4,48):=by kernel_rfl
theorem PT:(prog.info? 310).map (·.size)=some 28:=by kernel_rfl
structure j4 (lo:Nat) (w:World) (J:z9) (P:xy):Prop where
 head:yh lo w P.tv J.head.qg
 qy:w.ownsRow lo 323 4 P.sv J.qy.length (yw (List.zipWith gX J.qy P.tbs))
 slen:P.tbs.length=J.qy.length
 tries:∀k (_:k<J.qy.length) (_:k<P.tbs.length),zY lo w P.tbs[k].1 J.qy[k].rows P.tbs[k].2
 qi:∀s∈J.qy,s.qi.length=3
 bars:w.ownsRow lo 325 4 P.bv J.bars.length (yw (List.zipWith g7 J.bars P.bps))
 blen:P.bps.length=J.bars.length
 ji:∀k (_:k<J.bars.length) (_:k<P.bps.length),yh lo w P.bps[k].1 J.bars[k].lit.qg/\zY lo w P.bps[k].2.1 J.bars[k].rows P.bps[k].2.2
 hlen:P.hvs.length=5/\J.je.length=5
 je:∀p (_:p<J.je.length) (_:p<P.hvs.length),w.ownsRow lo 327 2 P.hvs[p] J.je[p].length (ko J.je[p])/\J.je[p].length<=1000/\∀h∈J.je[p],h.1<=1000000/\h.2<=1000000
 jk:J.jg.length=5/\J.ja.length=5/\J.from.length=5
 few:J.qy.length<=1000/\J.bars.length<=1000/\J.vars<=1000000
theorem j4.join{w:World}{a:Nat}{J:z9}{P:xy}(h:j4 lo w J P)(c:lo<=a)(b:Q8 w a (uo J P).toArray 310):QW lo w a J P:=
 ⟨c,b,h.head,h.qy,h.slen,h.tries,h.qi,h.bars,h.blen,h.ji,h.hlen,h.je,h.jk,h.few⟩
theorem j4.below{w w':World}{J:z9}{P:xy}(h:j4 lo w J P)(c:μ w w'):j4 lo w' J P:=
 ⟨h.head.below c,zB h.qy c,h.slen,fun k a b=>(h.tries k a b).below c,h.qi,zB h.bars c,h.blen,fun k a b=>⟨(h.ji k a b).1.below c,(h.ji k a b).2.below c⟩,h.hlen,fun p a b=>⟨zB (h.je p a b).1 c,(h.je p a b).2⟩,h.jk,h.few⟩
theorem pj(J:z9)(P:xy)(h:P.hvs.length=5)(a:J.jg.length=5/\J.ja.length=5/\J.from.length=5):(uo J P).length=28:=by
 simp[uo,h,a.1,a.2.1,a.2.2]
def jc(r:zr)(tv sv bv:Value)(hvs:List Value)(jg:List Int)(d:Int):List Value:=
 [ι r.head.pred,tv,ι r.vars,sv,bv]++hvs++jg.map (Value.int .i64)++[ι (xu r r.vars)]++([0,0,0,0,0]:List Nat).map Rm++([0,0,0,0,0]:List Nat).map Rm++[ι d,ι 0]
theorem Kl(a:hvs.length=5)(k:Nat)(h:k<5)(u:Value):(jc r tv sv bv hvs jg d).toArray.setIfInBounds (5+k) u=(jc r tv sv bv (hvs.set k u) jg d).toArray:=by
 obtain⟨c,g,b,e,f,rfl⟩:=five a;obtain rfl|rfl|rfl|rfl|rfl:k=0∨k=1∨k=2∨k=3∨k=4:=by omega
 all_goals simp[jc]
theorem Ov(b:hvs.length=5)(a:jg.length=5)(k:Nat)(o:k<5)(u:Int):(jc r tv sv bv hvs jg d).toArray.setIfInBounds (10+k) (ι u)=(jc r tv sv bv hvs (jg.set k u) d).toArray:=by
 obtain⟨h,n,c,j,l,rfl⟩:=five b;obtain⟨i,m,g,f,e,rfl⟩:=five a;obtain rfl|rfl|rfl|rfl|rfl:k=0∨k=1∨k=2∨k=3∨k=4:=by omega
 all_goals simp[jc]
theorem I7(b:hvs.length=5)(a:jg.length=5)(u:Int):(jc r tv sv bv hvs jg d).toArray.setIfInBounds 26 (ι u)=(jc r tv sv bv hvs jg u).toArray:=by
 obtain⟨h,m,c,j,k,rfl⟩:=five b;obtain⟨i,l,g,f,e,rfl⟩:=five a;simp[jc]
theorem O7(u:Value):(jc r tv sv bv hvs jg d).toArray.setIfInBounds 4 u=(jc r tv sv u hvs jg d).toArray:=by simp[jc]
theorem IR(c:hvs.length=5)(a:jg.length=5):(jc r tv sv bv hvs jg d).toArray[3]?=some sv/\(jc r tv sv bv hvs jg d).toArray[4]?=some bv/\(jc r tv sv bv hvs jg d).toArray[26]?=some (ι d)/\(∀k,k<5->(jc r tv sv bv hvs jg d).toArray[5+k]?=some (hvs.getD k (.bool false)))/\(∀k,k<5->(jc r tv sv bv hvs jg d).toArray[10+k]?=some (ι (jg.getD k 0))):=by
 obtain⟨i,o,e,l,m,rfl⟩:=five c;obtain⟨j,n,h,g,f,rfl⟩:=five a;refine⟨by simp[jc],by simp[jc],by simp[jc],fun k b=>?_,fun k b=>?_⟩
 all_goals
  obtain rfl|rfl|rfl|rfl|rfl:k=0∨k=1∨k=2∨k=3∨k=4:=by omega
  all_goals simp[jc]
theorem D9:∀(b:List V4) (k:Nat) (_:k<b.length) (u:Value),(yw b).set (k*4) u=yw (b.modify k fun y=>(u,y.2.1,y.2.2.1,y.2.2.2))
 |[],k,a,_=>by simp at a
 |y::r,0,_,u=>by simp[yw,fq]
 |y::r,k+1,a,u=>by
  have:=D9 r k (by simpa using a) u;simp only[yw,us,fq,List.modify_succ_cons] at this ⊢;rw[show(k+1)*4=k*4+1+1+1+1 from by omega];simpa using this
theorem PH(a:List V4)(y:V4):yw (a++[y])=yw a++[y.1,y.2.1,y.2.2.1,y.2.2.2]:=by simp[yw,fq]
theorem Hp(c a e b:Value):∀(n i:Nat),i<n*4->(madeCells #[c,a,e,b] (n*4))[i]?=(yw (List.replicate n (c,a,e,b)))[i]?:=by
 intro n i q;obtain⟨k,j,p,rfl⟩:∃k j,j<4/\i=k*4+j:=⟨i / 4,i%4,Nat.mod_lt _ (by decide),by omega⟩;have s:k<n:=by omega
 obtain⟨f,l,g,h⟩:=rG (List.replicate n (c,a,e,b)) k (by simpa using s);simp only[wO] at f l g h;have o:(k*4+j)%4=j:=by omega
 simp only[madeCells,Array.getElem?_map,Array.getElem?_range];rw[zc q];simp only[jA];have m:(#[c,a,e,b]:Array Value).size=4:=rfl;rw[m,o];match j,p with
 |0,_=>rw[vc,f];rfl
 |1,_=>rw[l];rfl
 |2,_=>rw[g];rfl
 |3,_=>rw[h];rfl
theorem Mz{W:World}{g n:Nat}{T:TypeId}{c a e b:Value}(h:Q8 W g (madeCells #[c,a,e,b] (n*4)) T)(j:lo<=g)(k:n<=maxLen):W.ownsRow lo T 4 (sl g n) n (yw (List.replicate n (c,a,e,b))):=by
 refine⟨by rw[tq];simp,zb ⟨g,n,madeCells #[c,a,e,b] (n*4),rfl,j,h,zg _,k,by rw[size_madeCells],?_⟩⟩;apply m7;intro i;by_cases f:i<n*4
 ·rw[lF,zc f,Array.getElem?_toList,Hp _ _ _ _ n i f]
 ·rw[lF,za f,kV (by rw[tq];simp;omega)]
def S0(b:Nat):Value:=(π b)
def eY:V4:=(.pointer none,ι 0,ι 0,ι 0)
def tu:List Value:=[ν,ν,ν,ν,ν]
def wF(w a:World)(r:zr)(tv:Value)(n:Nat)(s:Value):Prop:=∃b g,s=(π b)/\w.heap.size<=b/\w.heap.size<=g/\Q8 a b (jc r tv (sl g n) (ν) tu [0,0,0,0,0] 0).toArray 310/\Q8 a g (madeCells #[.pointer none,ι 0,ι 0,ι 0] (n*4)) 323/\μ w a
end
section
variable {lo:Nat}{w0 w:World}{b6 jb:Nat}{r:zr}{tv sv bv:Value}{hvs:List Value}{jg:List Int}{d:Int}
theorem KG{l:zu}{p n:Nat}(h:yQ l p=some n):n<=p:=by
 unfold yQ at h;split at h
 ·simp only[zt] at h;have:=rI (p:=zH l) (l:=List.range p);simp at this;omega
 ·cases h
theorem P8(r:zr)(p:Nat)(f:r.qc.length<=1000)(j:p<=1000000):(xa r p).length<=1000/\∀h∈xa r p,h.1<=1000000/\h.2<=1000000:=by
 constructor
 ·have:=pY (dA p) r.qc.zipIdx;rw[C7];simp at this;omega
 ·intro h c;rw[C7,mQ] at c;obtain⟨x,e,b⟩:=c;unfold dA at b;cases a:yQ x.1 p with
  |none=>rw[a] at b;cases b
  |some g=>
   rw[a] at b;simp only[jA,zt] at b;subst b;have k:=KG a;have i:=List.snd_lt_of_mem_zipIdx e;simp only;omega
structure uO (lo:Nat) (w0 w:World) (b6 jb:Nat) (r:zr) (tv sv bv:Value) (hvs:List Value) (jg:List Int) (d:Int):Prop where
 box:Q8 w jb (jc r tv sv bv hvs jg d).toArray 310
 hlen:hvs.length=5
 blen:jg.length=5
 res:∃c,Q8 w b6 c 310/\c.size=28
 below:μ w0 w
 ne:w0.heap.size<=jb/\w0.heap.size<=b6/\jb≠b6
theorem uO.next{w':World}(h:uO lo w0 w b6 jb r tv sv bv hvs jg d)(a:μ w w'):uO lo w0 w' b6 jb r tv sv bv hvs jg d:=by
 obtain⟨c,b,e⟩:=h.res;exact⟨h.box.below a,h.hlen,h.blen,⟨c,b.below a,e⟩,QB h.below a,h.ne⟩
theorem uO.hold(h:uO lo w0 w b6 jb r tv sv bv hvs jg d)(k:Nat)(a:k<5)(u:Value):uO lo w0 (w.setCell ⟨jb,5+k,none⟩ u) b6 jb r tv sv bv (hvs.set k u) jg d:=by
 obtain⟨c,b,e⟩:=h.res;refine⟨?_,by simpa using h.hlen,h.blen,⟨c,b.set_ne (Ne.symm h.ne.2.2) _ _,e⟩,h.below.setCell h.ne.1 _,h.ne⟩;have:=h.box.set (5+k) u;rw[Kl h.hlen k a] at this;exact this
theorem uO.back(h:uO lo w0 w b6 jb r tv sv bv hvs jg d)(k:Nat)(a:k<5)(u:Int):uO lo w0 (w.setCell ⟨jb,10+k,none⟩ (ι u)) b6 jb r tv sv bv hvs (jg.set k u) d:=by
 obtain⟨c,b,e⟩:=h.res;refine⟨?_,h.hlen,by simpa using h.blen,⟨c,b.set_ne (Ne.symm h.ne.2.2) _ _,e⟩,h.below.setCell h.ne.1 _,h.ne⟩;have:=h.box.set (10+k) (ι u);rw[Ov h.hlen h.blen k a] at this;exact this
theorem uO.ql(h:uO lo w0 w b6 jb r tv sv bv hvs jg d)(u:Int):uO lo w0 (w.setCell ⟨jb,26,none⟩ (ι u)) b6 jb r tv sv bv hvs jg u:=by
 obtain⟨c,a,b⟩:=h.res;refine⟨?_,h.hlen,h.blen,⟨c,a.set_ne (Ne.symm h.ne.2.2) _ _,b⟩,h.below.setCell h.ne.1 _,h.ne⟩;have:=h.box.set 26 (ι u);rw[I7 h.hlen h.blen] at this;exact this
theorem uO.bars(h:uO lo w0 w b6 jb r tv sv bv hvs jg d)(u:Value):uO lo w0 (w.setCell ⟨jb,4,none⟩ u) b6 jb r tv sv u hvs jg d:=by
 obtain⟨c,a,b⟩:=h.res;refine⟨?_,h.hlen,h.blen,⟨c,a.set_ne (Ne.symm h.ne.2.2) _ _,b⟩,h.below.setCell h.ne.1 _,h.ne⟩;have:=h.box.set 4 u;rw[O7] at this;exact this
theorem uO.save{w0 w w':World}{b6 jb:Nat}{r:zr}{tv sv bv:Value}{hvs:List Value}{jg:List Int}{d:Int}{M:List Nat}(h:uO lo w0 w b6 jb r tv sv bv hvs jg d)(hs:ze M w w')(e:∀b∈M,w0.heap.size<=b)(a:jb∉M/\b6∉M):uO lo w0 w' b6 jb r tv sv bv hvs jg d:=by
 obtain⟨c,f,g⟩:=h.res;exact⟨h.box.save hs a.1,h.hlen,h.blen,⟨c,f.save hs a.2,g⟩,h.below.trans (hs.below e h.below.size),h.ne⟩
def qK(QQ:List (Nat×List Nat))(n k:Nat):List V4:=(QQ.take k).map (fun x=>(S0 x.1,ι 0,ι 0,ι 0))++List.replicate (n-k) eY
structure fj (b0 lo:Nat) (w:World) (v:Value) (ts:List zi) (QQ:List (Nat×List Nat)):Prop where
 own:w.ownsRow b0 162 1 v ts.length (QQ.map fun x=>S0 x.1)
 len:QQ.length=ts.length
 tries:∀k (_:k<ts.length) (_:k<QQ.length),zY lo w QQ[k].1 ts[k] QQ[k].2
 few:ts.length<=1000
theorem fj.below{e:Nat}{w w':World}{v:Value}{ts:List zi}{QQ:List (Nat×List Nat)}(h:fj e lo w v ts QQ)(c:μ w w'):fj e lo w' v ts QQ:=⟨zB h.own c,h.len,fun k a b=>(h.tries k a b).below c,h.few⟩
theorem fj.cell{f:Nat}{w:World}{v:Value}{ts:List zi}{QQ:List (Nat×List Nat)}(h:fj f lo w v ts QQ)(k:Nat)(j:k<ts.length)(b:k<QQ.length):∃g a,v=.slice (some ⟨g,0,none⟩) ts.length a/\g<w.heap.size/\w.cell? ⟨g,k,none⟩=some (.pointer (some ⟨QQ[k].1,0,none⟩)):=by
 obtain⟨g,a,c,_,i,e⟩:=yx h.own (by omega);exact⟨g,a,c,i,e k _ (by simp[b,S0])⟩
def kd(r:zr)(k:Nat):List Int:=(List.range 5).map fun p=>if p<k then xu r (p:Nat) else 0
theorem OT(r:zr)(k:Nat)(a:k<5):(kd r k).set k (xu r (k:Nat))=kd r (k+1):=by
 obtain rfl|rfl|rfl|rfl|rfl:k=0∨k=1∨k=2∨k=3∨k=4:=by omega
 all_goals rfl
def vh(r:zr)(qc qp:List zi)(d:Int):z9:={head:=r.head,vars:=r.vars,qy:=qc.map (fun T=>⟨T,[0,0,0]⟩),bars:=(r.qp.zip qp).map (fun x=>⟨x.1,uQ x.1,x.2⟩),je:=(List.range 5).map (xa r),jg:=(List.range 5).map (fun p=>xu r (p:Nat)),last:=xu r r.vars,ja:=[0,0,0,0,0],«from»:=[0,0,0,0,0],ql:=d,jf:=0}
def kD(qc:List zi):Int:=if qc.any (fun T=>T.count == 0) then -1 else 0
theorem IC(r:zr)(qc qp:List zi):xx r qc qp=if uH (vh r qc qp (kD qc)) 0 then vh r qc qp (-1) else vh r qc qp (kD qc):=rfl
end
section
open Go.Proofs.Tryz
variable {lo:Nat}{W w w':World}{cs hvs:List Value}{r:zr}{jb k:Nat}{nts:List (Nat×List Nat)}{bps:List (Value×Nat×List Nat)}{tv sv bv:Value}{jg:List Int}{d:Int}
def uy(W:World)(b:Nat):Prop:=∃c:Array Value,Q8 W b c 310/\c.size=28
def gh(W:World)(b:Nat)(cs:List Value):World:=W.setCells b 0 cs
theorem Q8.sets{T:TypeId}{b:Nat}:∀(vs:List Value) (o:Nat) (w:World) (l:List Value),Q8 w b l.toArray T->o+vs.length=l.length->Q8 (w.setCells b o vs) b (l.take o++vs).toArray T
 |[],o,w,l,h,e=>by
  simp at e;subst e;simpa [World.setCells] using h
 |v::r,o,w,l,h,e=>by
  simp only[xi] at e;have a:Q8 (w.setCell ⟨b,o,none⟩ v) b (l.set o v).toArray T:=by simpa using h.set o v
  have:=Q8.sets r (o+1) _ _ a (by simp;omega);rw[World.setCells];rw[show l.take o++v::r=(l.set o v).take (o+1)++r from by
   rw[List.take_set,yL (by omega:o<l.length),fM _ _ (by simp;omega)];simp[Nat.min_eq_left (show o<=l.length by omega)]]
  exact this
theorem p4{b:Nat}(h:uy W b)(e:cs.length=28):Q8 (gh W b cs) b cs.toArray 310:=by
 obtain⟨c,a,f⟩:=h;have:=Q8.sets cs 0 W c.toList (by simpa using a) (by simp;omega);simpa [gh] using this
theorem ze.sets(b:Nat):∀(vs:List Value) (o:Nat) (w:World),ze [b] w (w.setCells b o vs)
 |[],_,w=>ze.refl _ w
 |v::r,o,w=>(ze.set w b o v).trans (ze.sets b r (o+1) _)
theorem sc(W:World)(b:Nat)(cs:List Value):ze [b] W (gh W b cs):=ze.sets b cs 0 W
theorem kj(W:World)(b:Nat)(cs:List Value)(b' o:Nat)(h:b'≠b):(gh W b cs).cell? ⟨b',o,none⟩=W.cell? ⟨b',o,none⟩:=World.cell?_setCells_out b cs 0 W _ fun e=>zC e h
theorem uy.there{W:World}{b:Nat}(h:uy W b):W.there b 0 28:=fun j g=>by
 obtain⟨c,f,i⟩:=h;obtain⟨a,e⟩:=f.rules;rw[vB];exact⟨by rw[a,Array.getElem?_eq_getElem (by omega)];rfl,e j⟩
def bj(p vs c:Int)(e a:Option Addr)(f b g h:Nat):List Value:=[ι p,.slice e f b,ι vs,.slice a g h,ν,ν,ν,ν,ν,ν,ι 0,ι 0,ι 0,ι 0,ι 0,ι c,ι 0,ι 0,ι 0,ι 0,ι 0,ι 0,ι 0,ι 0,ι 0,ι 0,ι 0,ι 0]
theorem rn(p vs c:Int)(e a:Option Addr)(f b g h:Nat):Value.agg #[ι p,.slice e f b,ι vs,.slice a g h,ν,ν,ν,ν,ν,ν,ι 0,ι 0,ι 0,ι 0,ι 0,ι c,ι 0,ι 0,ι 0,ι 0,ι 0,ι 0,ι 0,ι 0,ι 0,ι 0,ι 0,ι 0]=.agg (bj p vs c e a f b g h).toArray:=rfl
theorem N8(p vs c:Int)(e a:Option Addr)(f b g h:Nat):(bj p vs c e a f b g h).length=28:=rfl
theorem KT(p vs c:Int)(e a:Option Addr)(f b g h:Nat)(q:Int):(bj p vs c e a f b g h).set 0 (ι q)=bj q vs c e a f b g h:=rfl
theorem Pd(p vs e:Int)(i b:Option Addr)(j h f g:Nat)(a:Option Addr)(n c:Nat):(bj p vs e i b j h f g).set 1 (.slice a n c)=bj p vs e a b n c f g:=rfl
theorem G8(p vs c:Int)(e a:Option Addr)(f b g h:Nat)(q:Int):(bj p vs c e a f b g h).set 2 (ι q)=bj p q c e a f b g h:=rfl
theorem M1(p vs e:Int)(f h:Option Addr)(g b i j:Nat)(a:Option Addr)(n c:Nat):(bj p vs e f h g b i j).set 3 (.slice a n c)=bj p vs e f a g b n c:=rfl
theorem H8(p vs h:Int)(c a:Option Addr)(e b f g:Nat)(q:Int):(bj p vs h c a e b f g).set 15 (ι q)=bj p vs q c a e b f g:=rfl
theorem uy.lt{W:World}{b:Nat}(h:uy W b):b<W.heap.size:=by obtain⟨c,a,_⟩:=h;exact a.lt
theorem Qw(W:World)(b:Nat)(p vs e:Int)(g a:Option Addr)(i c l m:Nat)(h:uy W b):(storeCells ⟨b,0,none⟩ (bj p vs e g a i c l m)).run prog W=.ok () (gh W b (bj p vs e g a i c l m)):=
 run_storeCells_cells (P:=prog) b 0 (bj p vs e g a i c l m) 0 W (fun j f=>(h.there j f).1) (fun j f=>(h.there j f).2) (by simp[bj,Value.oneCell'])
theorem As(w:World)(b:Nat)(p vs e:Int)(f a:Option Addr)(g c i j:Nat)(h:b=w.heap.size):uy (w.alloc (.cells (bj p vs e f a g c i j).toArray 310)) b:=⟨_,Q8.newAt _ _ _ _ h,rfl⟩
theorem oE(w:World)(b:Nat)(o:Obj)(h:uy w b):uy (w.alloc o) b:=by obtain⟨c,a,e⟩:=h;exact⟨c,a.below ((zo _ _).alloc (zg _) o),e⟩
theorem OG(w:World)(b:Nat):uy w.drew b↔uy w b:=Iff.rfl
theorem pg(w:World)(p vs c:Int)(e a:Option Addr)(f b g h:Nat):uy (w.alloc (.cells (bj p vs c e a f b g h).toArray 310)) w.heap.size:=As _ _ _ _ _ _ _ _ _ _ _ rfl
theorem AR(w:World)(o:Obj)(p vs c:Int)(e a:Option Addr)(f b g h:Nat):uy ((w.alloc o).alloc (.cells (bj p vs c e a f b g h).toArray 310)) (w.heap.size+1):=As _ _ _ _ _ _ _ _ _ _ _ (by simp)
theorem th(w:World)(o:Obj)(p vs c:Int)(e a:Option Addr)(f b g h:Nat):uy ((w.alloc (.cells (bj p vs c e a f b g h).toArray 310)).alloc o) w.heap.size:=oE _ _ _ (pg _ _ _ _ _ _ _ _ _ _)
theorem wF.mk'{a:World}{e:Option Addr}{f b n g:Nat}(m:uy W jb)(j:Q8 W g (madeCells #[.pointer none,ι 0,ι 0,ι 0] (n*4)) 323)(i:jb≠g)(l:a.heap.size<=jb)(h:a.heap.size<=g)(c:μ a W):wF a (gh W jb (bj (r.head.pred:Nat) (r.vars:Nat) (xu r r.vars) e (some ⟨g,0,none⟩) f b n n)) r (.slice e f b) n ((π jb)):=by
 refine⟨jb,g,rfl,l,h,p4 m rfl,j.save (sc _ _ _) (by simp;omega),c.trans ((sc _ _ _).below (by simp;omega) c.size)⟩
attribute [local go_sem] rn N8 KT Pd G8 M1 H8 Qw pg AR th oE OG
def l7(qc:List zi)(k:Nat):Int:=if (qc.take k).any (fun T=>T.count == 0) then -1 else 0
theorem Hv(qc:List zi)(k:Nat)(a:k<qc.length):l7 qc (k+1)=if qc[k].count=0 then -1 else l7 qc k:=by
 unfold l7;rw[yL a,List.any_append];by_cases h:qc[k].count=0
 ·simp[h]
 ·simp[h]
theorem Jx(qc:List zi):l7 qc qc.length=kD qc:=by simp[l7,kD]
theorem Dr(QQ:List (Nat×List Nat))(n k:Nat)(a:k<=n)(b:n=QQ.length):(qK QQ n k).length=n:=by simp[qK];omega
theorem Ln(QQ:List (Nat×List Nat))(n k:Nat)(g:k<n)(f:QQ.length=n):(yw (qK QQ n k)).set (k*4) (.pointer (some ⟨(QQ[k]'(by omega)).1,0,none⟩))=yw (qK QQ n (k+1)):=by
 rw[D9 _ _ (by rw[Dr QQ n k (by omega) f.symm];exact g)];congr 1;unfold qK;obtain⟨m,b⟩:∃m,n-k=m+1:=⟨n-k-1,by omega⟩;rw[b,rH,show n-(k+1)=m from by omega,yL (show k<QQ.length by omega),uP,ky];have a:((QQ.take k).map (fun x=>(S0 x.1,ι 0,ι 0,ι 0))).length=k:=by simp;omega
 apply m7;intro i;rw[List.getElem?_modify];by_cases e:k=i
 ·subst e;rw[d9 (by omega),d9 (by omega),a,kf];simp[eY,S0]
 ·rcases gV i k with h|h
  ·rw[s6 (by omega),s6 (by omega)];simp[e]
  ·rw[d9 (by omega),d9 (by omega),a];obtain⟨j,c⟩:∃j,i-k=j+1:=⟨i-k-1,by omega⟩;rw[c];simp[e]
def jJ(r:zr)(qp:List zi)(k:Nat):List tW:=((r.qp.zip qp).take k).map fun x=>⟨x.1,uQ x.1,x.2⟩
theorem Ju(r:zr)(qp:List zi)(k:Nat)(a:k<r.qp.length)(b:k<qp.length):jJ r qp (k+1)=jJ r qp k++[⟨r.qp[k],uQ r.qp[k],qp[k]⟩]:=by
 unfold jJ;rw[yL (by simp;omega),uP];simp
theorem FS(r:zr)(qp:List zi)(k:Nat)(a:k<=r.qp.length)(b:k<=qp.length):(jJ r qp k).length=k:=by simp[jJ];omega
theorem O1(r:zr)(qp:List zi)(bps:List (Value×Nat×List Nat))(k:Nat)(b:k<r.qp.length)(c:k<qp.length)(a:bps.length=k)(tv:Value)(tb:Nat)(fp:List Nat):yw (List.zipWith g7 (jJ r qp (k+1)) (bps++[(tv,tb,fp)]))=yw (List.zipWith g7 (jJ r qp k) bps)++[ι (r.qp[k].pred:Nat),tv,ι (uQ r.qp[k]:Nat),(π tb)]:=by
 rw[Ju r qp k b c,iw (by rw[FS r qp k (by omega) (by omega),a])];simp only[lE,List.zipWith_nil_right];rw[PH];rfl
def lC(lo:Nat)(w:World)(r:zr)(nts:List (Nat×List Nat))(bps:List (Value×Nat×List Nat))(k:Nat):Prop:=bps.length=k/\∀i (_:i<k) (c:i<bps.length) (b:i<r.qp.length) (a:i<nts.length),yh lo w bps[i].1 r.qp[i].qg/\bps[i].2=nts[i]
theorem lC.snoc(h:lC lo w r nts bps k)(m:k<r.qp.length)(l:k<nts.length)(j:yh lo w tv r.qp[k].qg):lC lo w r nts (bps++[(tv,nts[k].1,nts[k].2)]) (k+1):=by
 obtain⟨f,g⟩:=h;refine⟨by simp[f],fun i a b c d=>?_⟩;by_cases e:i<k
 ·rw[vu (by omega)];exact g i e (by omega) c d
 ·obtain rfl:i=k:=by omega
  simp only[←f,rP];subst f;exact⟨j,trivial⟩
def QR(B:Nat)(w:World)(r:zr)(hvs:List Value)(k:Nat):Prop:=∀p (_:p<k) (_:p<hvs.length),w.ownsRow B 327 2 hvs[p] (xa r p).length (ko (xa r p))
theorem QR.below{B:Nat}(h:QR B w r hvs k)(c:μ w w'):QR B w' r hvs k:=fun p a b=>zB (h p a b) c
theorem QR.saveT{B:Nat}{T:TypeId}{M:List Nat}(h:QR B w r hvs k)(hs:ze M w w')(e:QU w T M)(c:327≠T):QR B w' r hvs k:=fun p a b=>yF (h p a b) hs e c
theorem QR.set{B:Nat}{w:World}{r:zr}{hvs:List Value}{k:Nat}{c:Value}(h:QR B w r hvs k)(f:w.ownsRow B 327 2 c (xa r k).length (ko (xa r k))):QR B w r (hvs.set k c) (k+1):=fun p a b=>by
 by_cases e:p=k
 ·subst e;rw[nD];exact f
 ·rw[nO (Ne.symm e)];exact h p (by omega) (by simpa using b)
theorem uO.cells{e:World}{j:Nat}(h:uO lo e w j jb r tv sv bv hvs jg d):jb<w.heap.size/\(∀o,w.frozen? ⟨jb,o,none⟩=false)/\w.cell? ⟨jb,3,none⟩=some sv/\w.cell? ⟨jb,4,none⟩=some bv/\w.cell? ⟨jb,26,none⟩=some (ι d)/\(∀k,k<5->w.cell? ⟨jb,5+k,none⟩=some (hvs.getD k (.bool false)))/\(∀k,k<5->w.cell? ⟨jb,10+k,none⟩=some (ι (jg.getD k 0))):=by
 obtain⟨a,l⟩:=h.box.rules;obtain⟨f,i,c,g,m⟩:=IR (r:=r) (tv:=tv) (sv:=sv) (bv:=bv) (d:=d) h.hlen h.blen;exact⟨h.box.lt,l,(a _).trans f,(a _).trans i,(a _).trans c,fun k b=>(a _).trans (g k b),fun k b=>(a _).trans (m k b)⟩
theorem In(qc:List zi)(QQ:List (Nat×List Nat))(h:QQ.length=qc.length):qK QQ qc.length qc.length=List.zipWith gX (qc.map fun T=>(⟨T,[0,0,0]⟩:yM)) QQ:=by
 apply m7;intro i;rw[List.getElem?_zipWith];by_cases a:i<qc.length
 ·simp[qK,←h,gX,S0,List.getElem?_map,List.getElem?_eq_getElem (show i<qc.length from a),List.getElem?_eq_getElem (show i<QQ.length by omega)]
 ·simp[qK,←h,List.getElem?_eq_none (show qc.length<=i by omega),List.getElem?_eq_none (show QQ.length<=i by omega)]
theorem MZ(r:zr)(qp:List zi)(h:qp.length=r.qp.length):jJ r qp r.qp.length=(r.qp.zip qp).map fun x=>⟨x.1,uQ x.1,x.2⟩:=by
 unfold jJ;rw[xg (by simp;omega)]
theorem lC.all(h:lC lo w r nts bps k)(e:k=nts.length/\k=r.qp.length):bps.map (·.2)=nts:=by
 obtain⟨c,a⟩:=h;apply kX
 ·simp[c,e.1]
 ·intro i f b;rw[uJ];exact(a i (by omega) (by omega) (by omega) b).2
theorem B9{z F:Nat}{C v m l:Value}{g:Nat}{qc qp:List zi}{QQ:List (Nat×List Nat)}(j:μ w W)(c:lo<=w.heap.size)(h:vy lo w tv C v r)(o:fj z lo w m qc QQ)(u:fj F lo w l qp nts)(n:qp.length=r.qp.length)(B:hvs.length=5)
  (E:QR w.heap.size W r hvs 5) (hs:W.ownsRow w.heap.size 323 4 (sl g qc.length) qc.length (yw (qK QQ qc.length qc.length))) (t:W.ownsRow w.heap.size 325 4 bv r.qp.length (yw (List.zipWith g7 (jJ r qp r.qp.length) bps))) (i:lC lo w r nts bps r.qp.length):j4 lo W (vh r qc qp d) ⟨tv,sl g qc.length,bv,hvs,QQ,bps⟩:=by
 have f:=o.len;have D:=u.len;have A:=i.1;have e:((r.qp.zip qp).map fun x=>(⟨x.1,uQ x.1,x.2⟩:tW)).length=r.qp.length:=by simp;omega
 refine⟨h.head.below j,?_,by simp[vh,f],?_,by simp[vh],?_,by simp only[vh];omega,?_,⟨B,by simp[vh]⟩,?_,by simp[vh],?_⟩
 ·rw[In qc QQ f] at hs;have:=yt hs c;simpa [vh] using this
 ·intro k a b;simp only[vh,uu] at a;have:=(o.tries k a b).below j;simpa [vh] using this
 ·rw[MZ r qp n] at t;have:=yt t c;simp only[vh];rw[e];exact this
 ·intro k a b;simp only[vh] at a;rw[e] at a;obtain⟨y,s⟩:=i.2 k a b a (by omega);have G:=(u.tries k (by omega) (by omega)).below j;simp only[vh,uJ,List.getElem_zip];exact⟨y.below j,by rw[s];exact G⟩
 ·intro p a b;simp only[vh,uu,nQ] at a;have q:=yt (E p a b) c;have s:=P8 r p (h.qc.len) (by omega);simp only[vh,uJ,mI];exact⟨q,s⟩
 ·simp only[vh,uu];have:=o.few;have:=h.qp.len;have:=h.small.2.1;refine⟨by omega,by simp;omega,by omega⟩
theorem sU{f:Func}{t:Tmp}{c:TypeId}(h:f.results=#[.cell t c])(a:Array Value)(P:Program)(w:World)(b o:Nat)(e:a.getD t undef=.pointer (some ⟨b,o,none⟩)){v:Value}(g:(loadVar c ⟨b,o,none⟩).run P w=.ok v w):(results f a).run P w=.ok v w:=by
 rw[Array.getD_eq_getD_getElem?] at e;simp[results,h,e,asAddr,g]
theorem Q8.range{b:Nat}{T:TypeId}(h:Q8 w b cs.toArray T):w.rangeAt b 0 cs:=fun j v a=>by
 rw[vB,h.rules.1];simpa using a
theorem AU(r:zr)(tv sv bv:Value)(hvs:List Value)(jg:List Int)(d:Int)(a:hvs.length=5)(b:jg.length=5):(jc r tv sv bv hvs jg d).length=28:=by
 simp[jc,a,b]
theorem Eb(c:tv.oneCell'=true)(e:sv.oneCell'=true)(f:bv.oneCell'=true)(b:∀u∈hvs,u.oneCell'=true):∀u∈jc r tv sv bv hvs jg d,u.oneCell'=true:=by
 intro u a;simp only[jc,zI,zx,z7,fG,or_false] at a;rcases a with ((((((a|a)|⟨_,_,a⟩)|a)|⟨_,_,a⟩)|⟨_,_,a⟩)|a)
 ·rcases a with rfl|rfl|rfl|rfl|rfl<;>first|rfl|assumption
 ·exact b u a
 ·subst a;rfl
 ·subst a;rfl
 ·subst a;rfl
 ·subst a;rfl
 ·rcases a with rfl|rfl<;>rfl
theorem QR.one{B:Nat}(h:QR B w r hvs 5)(f:hvs.length=5):∀u∈hvs,u.oneCell'=true:=by
 intro u b;obtain⟨p,c,rfl⟩:=qk b;obtain⟨g,a,e⟩:=zp (h p (by omega) c);rw[e];rfl
theorem pH{b:World}{a:Nat}(h:uO lo b w a jb r tv sv bv hvs jg d):uy w a:=h.res
theorem zY.saveJ{tb:Nat}{T:zi}{fp M:List Nat}(h:zY lo w tb T fp)(hs:ze M w w')(f:QU w 310 M):zY lo w' tb T fp:=h.save hs fun b a e=>by
 obtain⟨c,g⟩:=f b e;exact h.notin g (by decide) (by decide) (by decide) a
theorem j4.saveJ{w w':World}{J:z9}{P:xy}{M:List Nat}(h:j4 lo w J P)(hs:ze M w w')(c:QU w 310 M):j4 lo w' J P:=
 ⟨h.head.saveT hs c (by decide),yF h.qy hs c (by decide),h.slen,fun k a b=>(h.tries k a b).saveJ hs c,h.qi,yF h.bars hs c (by decide),h.blen,fun k a b=>⟨(h.ji k a b).1.saveT hs c (by decide),(h.ji k a b).2.saveJ hs c⟩,h.hlen,fun p a b=>⟨yF (h.je p a b).1 hs c (by decide),(h.je p a b).2⟩,h.jk,h.few⟩
theorem NA{b1 b2:Nat}(w:World)(r:zr)(tv pv nv cn bG:Value)(qc qp:List zi)(QQ nts:List (Nat×List Nat))(h:vy lo w tv pv nv r)(hp:fj b1 lo w cn qc QQ)(hn:fj b2 lo w bG qp nts)(b4:qp.length=r.qp.length)(bC:lo<=w.heap.size):
  Calls prog 214 #[kT r tv pv nv,cn,bG] w fun e w'=>∃P,e=ε (.agg (uo (xx r qc qp) P).toArray)/\j4 lo w' (xx r qc qp) P/\P.tbs=QQ/\P.bps.map (·.2)=nts/\μ w w':=by
 obtain⟨iS,cH,cK,bJ,bz⟩:=info_parts Q5;obtain⟨iB,c1,cD,bQ,b9⟩:=info_parts Qn;have HR:=Q7 h;have HP:=Q7 hp;have HN:=Q7 hn;obtain⟨dr,dg,rfl⟩:=zp hp.own;obtain⟨ds,de,rfl⟩:=zp hn.own;obtain⟨j,b,rfl⟩:=h.head.qx;obtain⟨B,s,rfl⟩:=h.qc.qx;obtain⟨E,o,rfl⟩:=h.qp.qx;have dy:=hp.few;have dm:=hn.few;have dq:=h.small.2.1;have cy:=fun W:World=>run_make (P:=prog) (w:=W) 305 323 iS _ underlying305 cH cK .i64 .i64 (qc.length:Int) (qc.length:Int) (by omega) (Int.le_refl _) (by rw[bz];omega) (by omega);rw[bJ] at cy;have bq:Hid (∀W (kn:Int),μ w W->Calls prog 220 #[.agg #[ι r.qh,ι r.vars,ι r.head.pred,.slice j r.head.qg.length b,.slice B r.qc.length s,.slice E r.qp.length o],ι kn] W fun e w'=>e=ε (ι (xu r kn))/\μ W w'):=fun W kn hW=>Kj W _ _ _ r kn (h.below hW);have ci:Hid (∀W (pl:Nat),pl<=1000000->μ w W->Calls prog 221 #[.agg #[ι r.qh,ι r.vars,ι r.head.pred,.slice j r.head.qg.length b,.slice B r.qc.length s,.slice E r.qp.length o],ι pl] W fun e w'=>∃hv,e=.returned hv/\w'.ownsRow W.heap.size 327 2 hv (xa r pl).length (ko (xa r pl))/\μ W w'):=fun W pl cC hW=>FV W _ _ _ r pl (h.below hW) cC;have aR:=Q7 bC;have aB:=Q7 b4;unfold kT;clear h hp hn bC b4;have ai:=(Q8.new w #[ι r.qh,ι r.vars,ι r.head.pred,.slice j r.head.qg.length b,.slice B r.qc.length s,.slice E r.qp.length o] 207).below ((zo _ _).alloc (zg _) (.cells (bj 0 0 0 none none 0 0 0 0).toArray 310));have T:=Q8.new (w.alloc (.cells #[ι r.qh,ι r.vars,ι r.head.pred,.slice j r.head.qg.length b,.slice B r.qc.length s,.slice E r.qp.length o] 207)) (bj 0 0 0 none none 0 0 0 0).toArray 310;have br:μ w ((w.alloc (.cells #[ι r.qh,ι r.vars,ι r.head.pred,.slice j r.head.qg.length b,.slice B r.qc.length s,.slice E r.qp.length o] 207)).alloc (.cells (bj 0 0 0 none none 0 0 0 0).toArray 310)):=(by go_grown);simp only[World.size_alloc] at T;go_enter func214,ntmps214;go_upto_region 1 with fail
 generalize (w.alloc (.cells #[ι r.qh,ι r.vars,ι r.head.pred,.slice j r.head.qg.length b,.slice B r.qc.length s,.slice E r.qp.length o] 207)).alloc (.cells (bj 0 0 0 none none 0 0 0 0).toArray 310)=wA at *;obtain⟨cL,bc,be⟩:=ai.boxed;have cO:=br.size;go_cut [7] from 13 to 24 (fun s7 wx=>wF wA wx r (.slice j r.head.qg.length b) qc.length s7)
 case first=>
  go_region_held3 (fun w'=>w'.cell? ⟨w.heap.size,0,none⟩=some (ι r.qh)/\w'.cell? ⟨w.heap.size,1,none⟩=some (ι r.vars)/\w'.cell? ⟨w.heap.size,2,none⟩=some (ι r.head.pred)/\w'.cell? ⟨w.heap.size,3,none⟩=some (.slice j r.head.qg.length b)/\w'.cell? ⟨w.heap.size,4,none⟩=some (.slice B r.qc.length s)/\w'.cell? ⟨w.heap.size,5,none⟩=some (.slice E r.qp.length o)) (first|go_keep|(go_simp;done)|(go_split_ands;refine⟨?_,?_,?_,?_,?_,?_⟩<;>(rw[kj _ _ _ _ _ (by simp;omega)];simp[*]))) (first|(go_at_call 220;refine(bq.out _ _ (by exact(by go_grown))).mono ?_;rintro e w1 ⟨rfl,L⟩;have aV:μ wA w1:=(zQ (by go_grown) L (zg _));have cG:=ai.below aV;obtain⟨cZ,dl,dh⟩:=cG.boxed;have c6:=aV.size;(first|((with_reducible refine Q8.carry (Q8.drew (Q8.newAt (wA.alloc (.cells (madeCells #[.pointer none,ι 0,ι 0,ι 0] (qc.length*4)) 323)) (wA.heap.size+1) (bj 0 0 0 none none 0 0 0 0).toArray 310 (World.size_alloc _ _).symm)) L ?_);intro ac;have au:uy w1 (wA.heap.size+1):=⟨_,ac,rfl⟩;clear ac;(with_reducible refine Q8.carry (Q8.drew (Q8.below (Q8.new wA (madeCells #[.pointer none,ι 0,ι 0,ι 0] (qc.length*4)) 323) ((zo _ _).alloc (zg _) (.cells (bj 0 0 0 none none 0 0 0 0).toArray 310)))) L ?_);intro ay)|((with_reducible refine Q8.carry (Q8.drew (Q8.below (Q8.new wA (bj 0 0 0 none none 0 0 0 0).toArray 310) ((zo _ _).alloc (zg _) (.cells (madeCells #[.pointer none,ι 0,ι 0,ι 0] (qc.length*4)) 323)))) L ?_);intro ac;have au:uy w1 wA.heap.size:=⟨_,ac,rfl⟩;clear ac;(with_reducible refine Q8.carry (Q8.drew (Q8.newAt (wA.alloc (.cells (bj 0 0 0 none none 0 0 0 0).toArray 310)) (wA.heap.size+1) (madeCells #[.pointer none,ι 0,ι 0,ι 0] (qc.length*4)) 323 (World.size_alloc _ _).symm)) L ?_);intro ay)|((with_reducible refine Q8.carry (Q8.drew (Q8.new wA (bj 0 0 0 none none 0 0 0 0).toArray 310)) L ?_);intro ac;have au:uy w1 wA.heap.size:=⟨_,ac,rfl⟩;clear ac)|((with_reducible refine Q8.carry (Q8.drew (Q8.new wA (madeCells #[.pointer none,ι 0,ι 0,ι 0] (qc.length*4)) 323)) L ?_);intro ay)|skip)))
  all_goals
   go_wp2_with fail
   go_meet
   case rel=>
    apply wF.mk'
    ·first|exact AR _ _ _ _ _ _ _ _ _ _ _|exact th _ _ _ _ _ _ _ _ _ _ _|exact pg _ _ _ _ _ _ _ _ _ _|exact au|exact oE _ _ _ au
    ·first|exact ay|exact Q8.below (Q8.new w1 _ _) zT|exact Q8.newAt _ _ _ _ (World.size_alloc _ _).symm|exact Q8.new w1 _ _|exact Q8.below ay zT
    ·first|omega|(have:=ay.lt;omega)|(have:=au.lt;omega)
    ·omega
    ·omega
    ·exact(zQ aV (by go_grown) (zg _))
 case rest=>
  clear cy;obtain⟨jb,g,rfl,cV,c9,bh,aW,aC⟩:=hcut;have bw:jb≠w.heap.size+1:=by have:=T.lt;omega
  have hM:uO lo w wc (w.heap.size+1) jb r (.slice j r.head.qg.length b) (sl g qc.length) (ν) tu (kd r 0) 0:=⟨bh,rfl,rfl,⟨_,T.below aC,rfl⟩,QB br aC,by omega,by omega,bw⟩;have I:=Q7 hM;have V:Hid (QR w.heap.size wc r tu 0):=fun p a=>by omega
  have HG:=Q7 aW;have G:=Q7 (ai.below aC);have dv:w.heap.size<jb:=by omega
  have dt:w.heap.size<g:=by omega
  have dz:g≠jb:=by
   intro e;subst e;exact zC (aW.type bh) (by decide)
  have d0:g≠w.heap.size+1:=by have:=T.lt;omega
  clear hM bh aW aC ai T br cL bc be cO cV c9;go_wp2;go_loopw [25] (fun c2 wr=>∃(k:Nat) (hvs:List Value),k<=5/\c2=ι k/\Hid (uO lo w wr (w.heap.size+1) jb r (.slice j r.head.qg.length b) (sl g qc.length) (ν) hvs (kd r k) 0)/\Hid (QR w.heap.size wr r hvs k)/\Hid (Q8 wr g (madeCells #[.pointer none,ι 0,ι 0,ι 0] (qc.length*4)) 323)/\Hid (Q8 wr w.heap.size #[ι r.qh,ι r.vars,ι r.head.pred,.slice j r.head.qg.length b,.slice B r.qc.length s,.slice E r.qp.length o] 207)) (fun i _=>5-(intOf i).toNat)
  case atStart=>exact⟨0,tu,by omega,rfl,I,V,HG,G⟩
  case round=>
   clear I V HG G;obtain⟨k,hvs,hk,rfl,I,V,HG,G⟩:=hrel;have D:=I.out.below;have am:=D.size;by_cases t:k<5
   ·have bW:(k:Int)<5:=by omega
    have ao:=G.out;obtain⟨a7,a6,aF⟩:=ao.boxed;have aK:=Q7 fun W hW=>ci.out W k (by omega) (QB D hW);have bB:=Q7 fun W hW=>bq.out W (k:Nat) hW;have bn:=Q7 (OT r k t);generalize xu r (k:Nat)=bk at *;generalize cf:xa r k=hj at *;have cN:=Q7 cf;clear cf;go_upto_region 6 with (first|(go_at_call 221;refine(aK.out _ (by exact(by go_grown))).mono ?_;rintro e H ⟨hv,rfl,ah,l⟩;obtain⟨a2,X,rfl⟩:=zp ah;have m:=I.out.next l;obtain⟨ar,az,_,_,_,bN,_⟩:=m.cells;have aQ:=bN k t;clear bN;generalize hvs.getD k (.bool false)=ov at aQ))
    have Y:=ao.below l;have cr:=HG.out.below l;have a0:=V.out.below l;have c4:=l.size;have A:ze [jb] H (H.setCell ⟨jb,5+k,none⟩ (.slice a2 hj.length X)):=ze.set _ _ _ _;have f:=m.hold k t (.slice a2 hj.length X);have aL:=Y.saveT A (QU.box m.box) (by decide);have co:=cr.saveT A (QU.box m.box) (by decide);have J:QR w.heap.size _ r (hvs.set k (.slice a2 hj.length X)) (k+1):=(a0.set (by rw[cN.out];exact yt ah (by omega))).saveT A (QU.box m.box) (by decide);generalize H.setCell ⟨jb,5+k,none⟩ (.slice a2 hj.length X)=w3 at *;clear A Y cr a0 m aQ az ar ao a7 a6 aF ah aK;generalize hvs.set k (.slice a2 hj.length X)=ck at *;have cq:=Q7 f;have cI:=Q7 J;have c5:=Q7 co;clear f J co I V HG G;obtain⟨a7,a6,aF⟩:=aL.boxed;have ai:=cq.out.below;have dp:=ai.size;go_wp2_with (go_at_call 220;refine(bB.out _ (by exact ai)).mono ?_;rintro e w4 ⟨rfl,aa⟩;have ae:=cq.out.next aa;obtain⟨dn,du,_,_,_,_,cg⟩:=ae.cells;have cd:=cg k t;clear cg;generalize (kd r k).getD k 0=ob at cd)
    have aS:ze [jb] w4 (w4.setCell ⟨jb,10+k,none⟩ (ι bk)):=ze.set _ _ _ _;have bx:=ae.back k t bk;rw[bn.out] at bx;go_roundw
    ·exact⟨k+1,ck,by omega,by go_num,bx,(cI.out.below aa).saveT aS (QU.box ae.box) (by decide),(c5.out.below aa).saveT aS (QU.box ae.box) (by decide),(aL.below aa).saveT aS (QU.box ae.box) (by decide)⟩
    ·simp[intOf];omega
   ·obtain rfl:k=5:=by omega
    rw[show((5:Nat):Int)=5 from rfl];clear hk t ci bq;have bP:Hid (wr.ownsRow w.heap.size 323 4 (sl g qc.length) qc.length (yw (qK QQ qc.length 0))):=by
     have q:=Mz (lo:=w.heap.size) HG.out (by omega) (by unfold maxLen;omega);have e:qK QQ qc.length 0=List.replicate qc.length (Value.pointer none,Value.int .i64 0,Value.int .i64 0,Value.int .i64 0):=by simp[qK,eY]
     rw[Hid,e];exact q
    clear HG;have cA:Hid (l7 qc 0=0):=rfl;go_wp2;have b6:Hid (uO lo w wr (w.heap.size+1) jb r (.slice j r.head.qg.length b) (sl g qc.length) (ν) hvs (kd r 5) (l7 qc 0)):=I;clear I cA;go_loopw [43] (fun cU wr=>∃(k:Nat),k<=qc.length/\cU=ι k/\Hid (uO lo w wr (w.heap.size+1) jb r (.slice j r.head.qg.length b) (sl g qc.length) (ν) hvs (kd r 5) (l7 qc k))/\Hid (QR w.heap.size wr r hvs 5)/\Hid (wr.ownsRow w.heap.size 323 4 (sl g qc.length) qc.length (yw (qK QQ qc.length k)))/\Hid (Q8 wr w.heap.size #[ι r.qh,ι r.vars,ι r.head.pred,.slice j r.head.qg.length b,.slice B r.qc.length s,.slice E r.qp.length o] 207)) (fun i _=>qc.length-(intOf i).toNat)
    case atStart=>exact⟨0,zv _,rfl,b6,V,bP,G⟩
    case round=>
     clear b6 V bP G D am;obtain⟨k,hk,rfl,I,V,HS,G⟩:=hrel;have D:=I.out.below;have am:=D.size;by_cases t:k<qc.length
     ·have b7:k<QQ.length:=by have:=HP.out.len;omega
      obtain⟨gp,cS,bd,cT,bI⟩:=HP.out.cell k t b7;simp only[Value.slice.injEq] at bd;have cv:=bd.1;clear bd;subst cv;have bm:=zl D cT bI;have cY:gp<wr.heap.size:=by omega
      obtain⟨bp,aT,bT,_,_,_,_⟩:=I.out.cells;have cl:wr.cell? ⟨jb,3,none⟩=some (.slice (some ⟨g,0,none⟩) qc.length qc.length):=bT;have hS:wr.ownsRow w.heap.size 323 4 (.slice (some ⟨g,0,none⟩) qc.length qc.length) qc.length (yw (qK QQ qc.length k)):=HS.out;have bW:(k:Int)<(qc.length:Int):=by omega
      have cQ:=Dr QQ qc.length k hk (by have:=HP.out.len;omega);obtain⟨sx,cW⟩:∃sx,wr.cell? ⟨g,k*4,none⟩=some sx:=by
       obtain⟨g',df,cu,_,_,bA⟩:=yx hS (by omega);simp only[Value.slice.injEq,zt,Addr.mk.injEq,and_true] at cu;have cF:=cu.1;subst cF;exact⟨_,bA (k*4) _ (rG (qK QQ qc.length k) k (by omega)).1⟩
      have c8:=qO hS;have av:=uW hS (k*4) (by rw[tq];omega) (.pointer (some ⟨QQ[k].1,0,none⟩));have b5:Hid ((yw (qK QQ qc.length k)).set (k*4) (.pointer (some ⟨QQ[k].1,0,none⟩))=yw (qK QQ qc.length (k+1))):=Ln QQ qc.length k t HP.out.len;rw[b5.out] at av;have b8:=Q7 fun W hW=>Bw W QQ[k].1 qc[k] QQ[k].2 ((HP.out.tries k t b7).below hW);have aD:=Q7 (Hv qc k t);have bg:ze [g] wr (wr.setCell ⟨g,k*4,none⟩ (.pointer (some ⟨QQ[k].1,0,none⟩))):=ze.set _ _ _ _;have bi:QU wr 323 [g]:=fun x hx=>by simp at hx;subst hx;exact uV hS rfl
      have m:=I.out.save bg (fun x hx=>by simp at hx;omega) ⟨by simp;omega,by simp;omega⟩;have a0:=V.out.saveT bg bi (by decide);have Y:=G.out.saveT bg bi (by decide);generalize QQ[k].1=tb at *;generalize qc[k].count=ct at *;clear bT bI b5 hS cQ;go_upto_region 12 with fail
      generalize wr.setCell ⟨g,k*4,none⟩ ((π tb))=H at *;have l:=m.below;clear bm bp aT cl cW c8 I V HS G;obtain⟨ar,az,_,_,aO,_,_⟩:=m.cells;have ag:=Q7 m;have a9:=Q7 a0;have aJ:Hid (Q8 H w.heap.size _ 207):=Y;clear m a0 Y bi;generalize c3:l7 qc k=dk at *;clear c3;by_cases cj:ct=0
      ·subst cj;simp only[if_true] at aD;have A:ze [jb] H (H.setCell ⟨jb,26,none⟩ (ι (-1))):=ze.set _ _ _ _;have f:=ag.out.ql (-1);have F:=QU.box ag.out.box;go_wp2_with (go_at_call 209;refine(b8.out _ (by exact l)).mono ?_;rintro e w3 ⟨rfl,aY⟩;obtain rfl:=aY.symm)
       go_roundw
       ·exact⟨k+1,by omega,by go_num,by rw[aD.out];exact f,a9.out.saveT A F (by decide),yF av A F (by decide),aJ.out.saveT A F (by decide)⟩
       ·simp[intOf];omega
      ·rw[za cj] at aD;have dx:((ct:Int) == 0)=false:=by rw[beq_eq_false_iff_ne];omega
       go_wp2_with (go_at_call 209;refine(b8.out _ (by exact l)).mono ?_;rintro e w3 ⟨rfl,aY⟩;obtain rfl:=aY.symm)
       go_roundw
       ·exact⟨k+1,by omega,by go_num,by rw[aD.out];exact ag,a9,av,aJ⟩
       ·simp[intOf];omega
     ·obtain rfl:k=qc.length:=by omega
      rw[Jx] at I;clear hk t;have ao:=G.out;obtain⟨a7,a6,aF⟩:=ao.boxed;go_wp2;clear a7 a6 aF ao;have ca:Hid (wr.ownsRow w.heap.size 325 4 (ν) 0 (yw (List.zipWith g7 (jJ r qp 0) []))):=yD _ _ _ _;have aN:Hid (lC lo w r nts [] 0):=⟨rfl,fun i a=>by omega⟩;go_loopw [62] (fun cX wr=>∃(k:Nat) (bv:Value) (bps:List (Value×Nat×List Nat)),k<=r.qp.length/\cX=ι k/\Hid (uO lo w wr (w.heap.size+1) jb r (.slice j r.head.qg.length b) (sl g qc.length) bv hvs (kd r 5) (kD qc))/\Hid (QR w.heap.size wr r hvs 5)/\Hid (wr.ownsRow w.heap.size 323 4 (sl g qc.length) qc.length (yw (qK QQ qc.length qc.length)))/\Hid (wr.ownsRow w.heap.size 325 4 bv k (yw (List.zipWith g7 (jJ r qp k) bps)))/\Hid (lC lo w r nts bps k)) (fun i _=>r.qp.length-(intOf i).toNat)
      case atStart=>exact⟨0,_,[],zv _,rfl,I,V,HS,ca,aN⟩
      case round=>
       clear I V HS ca aN G D am;obtain⟨k,bv,bps,hk,rfl,I,V,HS,HB,aq⟩:=hrel;have D:=I.out.below;have am:=D.size;by_cases t:k<r.qp.length
       ·have cw:k<qp.length:=by rw[aB.out];exact t
        have b0:k<nts.length:=by have:=HN.out.len;omega
        obtain⟨gl,M,z,cz,aH,cc,bO,aE⟩:=HR.out.qp.cell k t;subst cz;obtain⟨gn,c7,aX,aU,bZ⟩:=HN.out.cell k cw b0;simp only[Value.slice.injEq] at aX;have b3:=aX.1;clear aX;subst b3;have bW:(k:Int)<(r.qp.length:Int):=by omega
        have di:(k:Int)<(qp.length:Int):=by omega
        have bm:=zl D aH cc;have cE:=zl D aH bO;have cx:=zl D aU bZ;have dc:gl<wr.heap.size:=by omega
        have cm:gn<wr.heap.size:=by omega
        have af:=HB.out;obtain⟨a5,ak,a8⟩:=zp af;subst a8;have cM:=Q7 aE;have ch:Hid (∀W,μ w W->Calls prog 222 #[.agg #[ι (r.qp[k].pred:Nat),.slice M r.qp[k].qg.length z]] W fun e w'=>e=ε (ι (uQ r.qp[k]:Nat))/\μ W w'):=fun W hW=>Co W _ r.qp[k].pred r.qp[k].qg (aE.below hW);have bn:Hid (yw (List.zipWith g7 (jJ r qp (k+1)) (bps++[(.slice M r.qp[k].qg.length z,nts[k].1,nts[k].2)]))=yw (List.zipWith g7 (jJ r qp k) bps)++[ι (r.qp[k].pred:Nat),.slice M r.qp[k].qg.length z,ι (uQ r.qp[k]:Nat),.pointer (some ⟨nts[k].1,0,none⟩)]):=O1 r qp bps k t cw aq.out.1 _ _ _;have al:=Q7 (aq.out.snoc t b0 aE);clear cc bO bZ aE cM;generalize r.qp[k].pred=pr at *;generalize r.qp[k].qg.length=tl at *;generalize uQ r.qp[k]=kn at *;generalize nts[k].1=tb at *;generalize nts[k].2=fp at *;go_upto_region 19 with fail
        have N:μ wr (wr.alloc (.cells #[ι pr,.slice M tl z] 204)):=(by go_grown);have aI:=Q8.new wr #[ι pr,.slice M tl z] 204;have a4:=I.out.next N;have bF:Hid (QR _ _ r hvs 5):=V.out.below N;have bY:Hid (World.ownsRow _ w.heap.size 323 4 (sl g qc.length) qc.length _):=zB HS.out N;have aA:=zB af N;have a1:=zl N cm cx;clear I V HS HB af bm cE cx;generalize wr.alloc (.cells #[ι pr,.slice M tl z] 204)=w1 at *;generalize wr.heap.size=lb at *;clear N D;have L:=a4.below;obtain⟨bp,aT,_,cb,_,_,_⟩:=a4.cells;obtain⟨bR,c0,dd⟩:=aI.boxed;have bK:=Q7 a4;clear a4;have c6:=L.size;refine wp_region_noPanic ?_;refine eP (S:=fun w'=>w'.cell? ⟨jb,4,none⟩=some (.slice a5 k ak)/\w'.cell? ⟨lb,0,none⟩=some (ι pr)/\w'.cell? ⟨lb,1,none⟩=some (.slice M tl z)/\w'.cell? ⟨gn,k,none⟩=some ((π tb))) (d:=13) (by kernel_rfl) (by refine⟨cb,?_,?_,a1⟩<;>(show w1.cell? _=_;rw[bR];rfl)) (fun n=>?_);refine xV (i:=0) (v:=?v0) rfl (by kernel_rfl) (by kernel_rfl) (by kernel_rfl) (by kernel_rfl) (fun _ _ _ h=>h) (zf ⟨by rfl,?hy0⟩) n ?rest0
        case hy0=>
         intro wq Q;go_simp
         (try with_reducible rfl)
        refine xV (i:=1) (v:=?v1) rfl (by kernel_rfl) (by kernel_rfl) (by kernel_rfl) (by kernel_rfl) (fun _ _ _ h=>h) (zf ⟨by rfl,?hy1⟩) n ?rest1
        case hy1=>
         intro wq Q;go_simp
         (try with_reducible rfl)
        refine xV (i:=2) (v:=?v2) rfl (by kernel_rfl) (by kernel_rfl) (by kernel_rfl) (by kernel_rfl) (fun _ _ _ h=>h) (zf ⟨by rfl,?hy2⟩) n ?rest2
        case hy2=>
         intro wq Q;go_simp
         (try with_reducible rfl)
        refine xV (i:=3) (v:=?v3) rfl (by kernel_rfl) (by kernel_rfl) (by kernel_rfl) (by kernel_rfl) (fun _ _ _ h=>h) (zf ⟨by rfl,?hy3⟩) n ?rest3
        case hy3=>
         intro wq Q;go_simp
         (try with_reducible rfl)
        refine xV (i:=5) (v:=?v5) rfl (by kernel_rfl) (by kernel_rfl) (by kernel_rfl) (by kernel_rfl) (fun _ _ _ h=>h) (zf ⟨by rfl,?hy5⟩) n ?rest5
        case hy5=>
         intro wq Q;go_simp
         (try with_reducible rfl)
        refine xV (i:=6) (v:=?v6) rfl (by kernel_rfl) (by kernel_rfl) (by kernel_rfl) (by kernel_rfl) (fun _ _ _ h=>h) (zf ⟨by rfl,?hy6⟩) n ?rest6
        case hy6=>
         intro wq Q;go_simp
         (try with_reducible rfl)
        refine xV (i:=7) (v:=?v7) rfl (by kernel_rfl) (by kernel_rfl) (by kernel_rfl) (by kernel_rfl) (fun _ _ _ h=>h) (zf ⟨by rfl,?hy7⟩) n ?rest7
        case hy7=>
         intro wq Q;go_simp
         (try with_reducible rfl)
        refine xV (i:=8) (v:=?v8) rfl (by kernel_rfl) (by kernel_rfl) (by kernel_rfl) (by kernel_rfl) (fun _ _ _ h=>h) (zf ⟨by rfl,?hy8⟩) n ?rest8
        case hy8=>
         intro wq Q;go_simp
         (try with_reducible rfl)
        refine gQ (i:=4) (by kernel_rfl) rfl (fun K hK=>?_);go_simp
        refine(ch.out _ (by exact(zJ L 1))).mono ?_;rintro e H ⟨rfl,l⟩;have ad:=QB (zJ (zo _ _) 1) l;have m:=bK.out.next ad;have a9:Hid (QR _ _ r hvs 5):=bF.out.below ad;have cB:Hid (World.ownsRow H w.heap.size 323 4 (sl g qc.length) qc.length _):=zB bY.out ad;have C:=zB aA ad;have aP:=aI.below ad;have a3:=(ad.cell (p:=⟨gn,k,none⟩) (show gn<w1.heap.size by omega)).trans a1;have c4:=ad.size;have bU:=m.below;obtain⟨ar,az,_,bL,_,_,_⟩:=m.cells;have ag:=Q7 m;obtain⟨ab,bV⟩:=aP.rules;refine hK.out _ _ (fun _=>⟨bL,by rw[ab];rfl,by rw[ab];rfl,a3⟩) ?_;have U:H.cell? ⟨jb,4,none⟩=some (.slice a5 k ak)/\H.cell? ⟨lb,0,none⟩=some (ι pr)/\H.cell? ⟨lb,1,none⟩=some (.slice M tl z)/\H.cell? ⟨gn,k,none⟩=some ((π tb)):=⟨bL,by rw[ab];rfl,by rw[ab];rfl,a3⟩;clear hK K n m bR c0 bp aT cb a1 bK bF bY l ab bV ch;refine xV (i:=9) (v:=?v9) rfl (by kernel_rfl) (by kernel_rfl) (by kernel_rfl) (by kernel_rfl) (fun _ _ _ h=>h) (zf ⟨by rfl,?hy9⟩) U ?rest9
        case hy9=>
         intro wq Q;go_simp
         (try with_reducible rfl)
        refine gQ (i:=10) (by kernel_rfl) rfl (fun K hK=>?_);go_simp
        refine hK.out _ _ (fun _=>?hS10) ?rest10
        case hS10=>obtain⟨q0,q1,q2,q3⟩:=U;refine⟨?_,?_,?_,?_⟩<;>(rw[World.cell?_alloc_lt _ _ _ (by simp;omega)];assumption)
        clear hK K;refine gQ (i:=11) (by kernel_rfl) rfl (fun K hK=>?_);refine dE H _ [ι pr,.slice M tl z,ι kn,(π tb)] 325 rfl (.tmp 72) (.tmp 81) 306 rfl w.heap.size 325 iB _ 4 48 underlying306 c1 cD bQ b9 rfl (by decide) (.slice a5 k ak) k (yw (List.zipWith g7 (jJ r qp k) bps)) (by simp[Act.eval]) C (by exact(by go_grown)) H.heap.size 1 (by simp[Act.eval]) (by exact Q8.new _ _ _) rfl (by simp[Value.oneCell']) (by omega) (by omega) (by omega) ?_;intro v' w3 cp Z db dw dj;obtain⟨ce,aM,rfl⟩:=zp cp;have bb:=QU.own C;have f:=ag.out.save Z (fun x hx=>yV C (yr hx)) ⟨qv C ag.out.box (by decide),fun hm=>by obtain⟨c,hc,_⟩:=ag.out.res;exact qv C hc (by decide) hm⟩;have bX:=aP.saveT Z bb (by decide);have J:=a9.out.saveT Z bb (by decide);have A:=yF cB.out Z bb (by decide);obtain⟨ax,bu⟩:=bX.rules;obtain⟨be,bc,_,bS,_,_,_⟩:=f.cells;have aG:=(f.below.cell (p:=⟨gn,k,none⟩) aU).trans ((bU.cell (p:=⟨gn,k,none⟩) aU).symm.trans a3);have R:w3.cell? ⟨jb,4,none⟩=some (.slice a5 k ak)/\w3.cell? ⟨lb,0,none⟩=some (ι pr)/\w3.cell? ⟨lb,1,none⟩=some (.slice M tl z)/\w3.cell? ⟨gn,k,none⟩=some ((π tb)):=⟨bS,by rw[ax];rfl,by rw[ax];rfl,aG⟩;refine hK.out _ _ (fun _=>R) ?_;clear hK K U;refine xV (i:=12) (v:=?v12) rfl (by kernel_rfl) (by kernel_rfl) (by kernel_rfl) (by kernel_rfl) (fun _ _ _ h=>h) (zf ⟨by rfl,?hy12⟩) R ?rest12
        case hy12=>
         intro wq Q;go_simp
         (try with_reducible rfl)
        refine gQ (i:=13) (by kernel_rfl) rfl (fun K hK=>?_);go_simp
        refine hK.out _ _ (fun hq=>zC rfl hq) ?_;clear hK K;refine Af (by kernel_rfl) ?_ _;refine NoPanic.normal ?_;have O:ze [jb] w3 (w3.setCell ⟨jb,4,none⟩ (.slice ce (k+1) aM)):=ze.set _ _ _ _;have F:=QU.box f.box;have ae:=f.bars (.slice ce (k+1) aM);have cR:=J.saveT O F (by decide);have bM:=yF A O F (by decide);have bD:=yF cp O F (by decide);rw[←bn.out] at bD;clear R ax bu be bc bS aG;go_wp2;go_roundw
        ·exact⟨k+1,_,_,by omega,by go_num,ae,cR,bM,bD,al⟩
        ·simp[intOf];omega
       ·have cP:k=r.qp.length:=by omega
        subst cP;clear hk t;have hJ:QW lo wr jb (vh r qc qp (kD qc)) ⟨.slice j r.head.qg.length b,sl g qc.length,bv,hvs,QQ,bps⟩:=j4.join (B9 D aR.out HR.out HP.out HN.out aB.out I.out.hlen V.out HS.out HB.out aq.out) (by have:=aR.out;omega) I.out.box;have bE:Hid (Calls prog 223 #[(π jb),ι 0] wr fun e w'=>e=ε (.bool (uH (vh r qc qp (kD qc)) 0))/\μ wr w'):=A5 wr jb _ _ 0 hJ;have an:=Q7 (IC r qc qp);have bH:Hid (∀(W:World) (d:Int),μ w W->QR w.heap.size W r hvs 5->W.ownsRow w.heap.size 323 4 (sl g qc.length) qc.length (yw (qK QQ qc.length qc.length))->W.ownsRow w.heap.size 325 4 bv r.qp.length (yw (List.zipWith g7 (jJ r qp r.qp.length) bps))->j4 lo W (vh r qc qp d) ⟨.slice j r.head.qg.length b,sl g qc.length,bv,hvs,QQ,bps⟩):=fun W d hW h1 h2 h3=>B9 hW aR.out HR.out HP.out HN.out aB.out I.out.hlen h1 h2 h3 aq.out;have al:=Q7 (lC.all aq.out (by have:=HN.out.len;have:=aB.out;omega));obtain⟨da,cJ,a8⟩:=zp HB.out;clear hJ;generalize uH (vh r qc qp (kD qc)) 0=ba at *;cases ba with
        |true=>
         simp only[if_true] at an;go_upto_region 23 with (first|(go_at_call 223;refine bE.out.mono ?_;rintro e H ⟨rfl,l⟩;have m:=I.out.next l;obtain⟨ar,az,_,_,aO,_,_⟩:=m.cells))
         have A:ze [jb] H (H.setCell ⟨jb,26,none⟩ (ι (-1))):=ze.set _ _ _ _;have F:=QU.box m.box;have f:=m.ql (-1);have J:=(V.out.below l).saveT A F (by decide);have Z:=yF (zB HS.out l) A F (by decide);have bt:=yF (zB HB.out l) A F (by decide);generalize H.setCell ⟨jb,26,none⟩ (ι (-1))=w3 at *;clear ar az aO A F m l;have aw:∀u∈jc r (.slice j r.head.qg.length b) (sl g qc.length) bv hvs (kd r 5) (-1),u.oneCell'=true:=Eb rfl rfl (by rw[a8];rfl) (QR.one J f.hlen);have y:=AU r (.slice j r.head.qg.length b) (sl g qc.length) bv hvs (kd r 5) (-1) f.hlen f.blen;have aj:=f;have bo:=bH.out w3 (-1) f.below J Z bt;have ap:(jc r (.slice j r.head.qg.length b) (sl g qc.length) bv hvs (kd r 5) (-1))=uo (vh r qc qp (-1)) ⟨.slice j r.head.qg.length b,sl g qc.length,bv,hvs,QQ,bps⟩:=rfl;have bf:=Q7 ap;clear ap;have aZ:=f.box;generalize jc r (.slice j r.head.qg.length b) (sl g qc.length) bv hvs (kd r 5) (-1)=cs at *;refine wp_region_lit ?_;refine wpList_load_mid rfl 310 (.tmp 7) rfl jb 0 (by rfl) cs _ (aZ.range) underlying310 rfl (by rw[y];exact PT) ?_;refine wpList_store_mid rfl 310 (.tmp 6) (.tmp 87) rfl (w.heap.size+1) 0 cs.toArray (by rfl) (by rfl) (by show World.there _ _ 0 cs.length;rw[y];exact(pH aj).there) (by show _=some cs.length;rw[y];exact PT) (all_oneCell_toArray aw) ?_;refine wpList_nil ?_;have O:ze [w.heap.size+1] w3 (w3.setCells (w.heap.size+1) 0 cs):=ze.sets _ _ _ _;have T:Q8 (w3.setCells (w.heap.size+1) 0 cs) (w.heap.size+1) cs.toArray 310:=p4 (pH aj) y;have bs:=bo.saveJ O (QU.box (pH aj).choose_spec.1);have aa:=f.below.trans (O.below (by simp) f.below.size);generalize w3.setCells (w.heap.size+1) 0 cs=w5 at *;go_wp2
         (try simp only[Exit.inBlock,Exit.then])
         refine zK (v:=.agg cs.toArray) (sU rfl _ _ _ _ _ (by rfl) (run_loadVar_mid w5 (w.heap.size+1) 0 310 cs _ T.range underlying310 rfl (by rw[y];exact PT))) rfl ⟨_,by rw[an.out,bf.out],by rw[an.out];exact bs,rfl,al.out,aa⟩
        |false=>
         simp only[gJ,if_false] at an;go_upto_region 23 with (first|(go_at_call 223;refine bE.out.mono ?_;rintro e H ⟨rfl,l⟩))
         have f:=I.out.next l;have J:=V.out.below l;have Z:=zB HS.out l;have bt:=zB HB.out l;have aw:∀u∈jc r (.slice j r.head.qg.length b) (sl g qc.length) bv hvs (kd r 5) (kD qc),u.oneCell'=true:=Eb rfl rfl (by rw[a8];rfl) (QR.one J f.hlen);have y:=AU r (.slice j r.head.qg.length b) (sl g qc.length) bv hvs (kd r 5) (kD qc) f.hlen f.blen;have aj:=f;have bo:=bH.out H (kD qc) f.below J Z bt;have ap:(jc r (.slice j r.head.qg.length b) (sl g qc.length) bv hvs (kd r 5) (kD qc))=uo (vh r qc qp (kD qc)) ⟨.slice j r.head.qg.length b,sl g qc.length,bv,hvs,QQ,bps⟩:=rfl;have bf:=Q7 ap;clear ap;have aZ:=f.box;generalize jc r (.slice j r.head.qg.length b) (sl g qc.length) bv hvs (kd r 5) (kD qc)=cs at *;refine wp_region_lit ?_;refine wpList_load_mid rfl 310 (.tmp 7) rfl jb 0 (by rfl) cs _ (aZ.range) underlying310 rfl (by rw[y];exact PT) ?_;refine wpList_store_mid rfl 310 (.tmp 6) (.tmp 87) rfl (w.heap.size+1) 0 cs.toArray (by rfl) (by rfl) (by show World.there _ _ 0 cs.length;rw[y];exact(pH aj).there) (by show _=some cs.length;rw[y];exact PT) (all_oneCell_toArray aw) ?_;refine wpList_nil ?_;have O:ze [w.heap.size+1] H (H.setCells (w.heap.size+1) 0 cs):=ze.sets _ _ _ _;have T:Q8 (H.setCells (w.heap.size+1) 0 cs) (w.heap.size+1) cs.toArray 310:=p4 (pH aj) y;have bs:=bo.saveJ O (QU.box (pH aj).choose_spec.1);have aa:=f.below.trans (O.below (by simp) f.below.size);generalize H.setCells (w.heap.size+1) 0 cs=w5 at *;go_wp2
         (try simp only[Exit.inBlock,Exit.then])
         refine zK (v:=.agg cs.toArray) (sU rfl _ _ _ _ _ (by rfl) (run_loadVar_mid w5 (w.heap.size+1) 0 310 cs _ T.range underlying310 rfl (by rw[y];exact PT))) rfl ⟨_,by rw[an.out,bf.out],by rw[an.out];exact bs,rfl,al.out,aa⟩
end
end Go.Proofs.YteampbddflhngaaGreat
