import Derived.Laws.Tables
import Derived.Laws.Rows
import Derived.Test.YteampbddflhngaaGreatV29
namespace Go.Proofs.YteampbddflhngaaGreat
set_option linter.all false
open Go.RowKit
section
open Go.Proofs.Tryz
variable {lo:Nat}{r:zr}{tv sv bv:Value}{hvs:List Value}{jg:List Int}{d:Int}
theorem OJ:(prog.info? 323).map (fun i=>(i.zero,i.size,i.bytes))=some (some (.agg #[.pointer none,.int .i64 0,.int .i64 0,.int .i64 0]),4,32):=by kernel_rfl
theorem OX:(prog.info? 325).map (fun i=>(i.zero,i.size,i.bytes))=some (some (.agg #[.int .i64 0,.slice none 0 0,.int .i64 0,.pointer none]),4,48):=by kernel_rfl
theorem OL:(prog.info? 310).map (·.size)=some 28:=by kernel_rfl
structure jz (lo:Nat) (w:World) (J:z9) (P:xr):Prop where
 head:yh lo w P.tv J.head.qg
 ja:w.ownsRow lo 323 4 P.sv J.ja.length (yw (List.zipWith gD J.ja P.tbs))
 slen:P.tbs.length=J.ja.length
 tries:∀k (_:k<J.ja.length) (_:k<P.tbs.length),zX lo w P.tbs[k].1 J.ja[k].rows P.tbs[k].2
 qi:∀s∈J.ja,s.qi.length=3
 bars:w.ownsRow lo 325 4 P.bv J.bars.length (yw (List.zipWith gi J.bars P.bps))
 blen:P.bps.length=J.bars.length
 ji:∀k (_:k<J.bars.length) (_:k<P.bps.length),yh lo w P.bps[k].1 J.bars[k].lit.qg/\zX lo w P.bps[k].2.1 J.bars[k].rows P.bps[k].2.2
 hlen:P.hvs.length=5/\J.je.length=5
 je:∀p (_:p<J.je.length) (_:p<P.hvs.length),w.ownsRow lo 327 2 P.hvs[p] J.je[p].length (jP J.je[p])/\J.je[p].length<=1000/\∀h∈J.je[p],h.1<=1000000/\h.2<=1000000
 jk:J.jg.length=5/\J.qy.length=5/\J.from.length=5
 few:J.ja.length<=1000/\J.bars.length<=1000/\J.vars<=1000000
theorem jz.join{w:World}{a:Nat}{J:z9}{P:xr}(h:jz lo w J P)(b:lo<=a)(c:OZ w a (um J P).toArray 310):P2 lo w a J P:=
 ⟨b,c,h.head,h.ja,h.slen,h.tries,h.qi,h.bars,h.blen,h.ji,h.hlen,h.je,h.jk,h.few⟩
theorem jz.below{w e:World}{J:z9}{P:xr}(h:jz lo w J P)(c:Below w.heap.size w e):jz lo e J P:=
 ⟨h.head.below c,zE h.ja c,h.slen,fun k a b=>(h.tries k a b).below c,h.qi,zE h.bars c,h.blen,fun k a b=>⟨(h.ji k a b).1.below c,(h.ji k a b).2.below c⟩,h.hlen,fun p a b=>⟨zE (h.je p a b).1 c,(h.je p a b).2⟩,h.jk,h.few⟩
theorem pn(J:z9)(P:xr)(h:P.hvs.length=5)(a:J.jg.length=5/\J.qy.length=5/\J.from.length=5):(um J P).length=28:=by
 simp[um,h,a.1,a.2.1,a.2.2]
def jc(r:zr)(tv sv bv:Value)(hvs:List Value)(jg:List Int)(d:Int):List Value:=
 [.int .i64 r.head.pred,tv,.int .i64 r.vars,sv,bv]++hvs++jg.map (Value.int .i64)++[.int .i64 (xE r r.vars)]++([0,0,0,0,0]:List Nat).map PF++([0,0,0,0,0]:List Nat).map PF++[.int .i64 d,.int .i64 0]
theorem Mn(a:hvs.length=5)(k:Nat)(h:k<5)(u:Value):(jc r tv sv bv hvs jg d).toArray.setIfInBounds (5+k) u=(jc r tv sv bv (hvs.set k u) jg d).toArray:=by
 obtain⟨g,e,b,f,c,rfl⟩:=five a;obtain rfl|rfl|rfl|rfl|rfl:k=0∨k=1∨k=2∨k=3∨k=4:=by omega
 all_goals simp[jc]
theorem Nw(b:hvs.length=5)(a:jg.length=5)(k:Nat)(o:k<5)(u:Int):(jc r tv sv bv hvs jg d).toArray.setIfInBounds (10+k) (.int .i64 u)=(jc r tv sv bv hvs (jg.set k u) d).toArray:=by
 obtain⟨n,g,c,m,e,rfl⟩:=five b;obtain⟨l,h,j,f,i,rfl⟩:=five a;obtain rfl|rfl|rfl|rfl|rfl:k=0∨k=1∨k=2∨k=3∨k=4:=by omega
 all_goals simp[jc]
theorem Ou(b:hvs.length=5)(a:jg.length=5)(u:Int):(jc r tv sv bv hvs jg d).toArray.setIfInBounds 26 (.int .i64 u)=(jc r tv sv bv hvs jg u).toArray:=by
 obtain⟨m,g,c,l,e,rfl⟩:=five b;obtain⟨k,h,j,f,i,rfl⟩:=five a;simp[jc]
theorem JW(u:Value):(jc r tv sv bv hvs jg d).toArray.setIfInBounds 4 u=(jc r tv sv u hvs jg d).toArray:=by simp[jc]
theorem GI(b:hvs.length=5)(a:jg.length=5):(jc r tv sv bv hvs jg d).toArray[3]?=some sv/\(jc r tv sv bv hvs jg d).toArray[4]?=some bv/\(jc r tv sv bv hvs jg d).toArray[26]?=some (.int .i64 d)/\(∀k,k<5->(jc r tv sv bv hvs jg d).toArray[5+k]?=some (hvs.getD k (.bool false)))/\(∀k,k<5->(jc r tv sv bv hvs jg d).toArray[10+k]?=some (.int .i64 (jg.getD k 0))):=by
 obtain⟨o,h,e,n,f,rfl⟩:=five b;obtain⟨m,i,l,g,j,rfl⟩:=five a;refine⟨by simp[jc],by simp[jc],by simp[jc],fun k c=>?_,fun k c=>?_⟩
 all_goals
  obtain rfl|rfl|rfl|rfl|rfl:k=0∨k=1∨k=2∨k=3∨k=4:=by omega
  all_goals simp[jc]
theorem Aq:∀(a:List V4) (k:Nat) (_:k<a.length) (u:Value),(yw a).set (k*4) u=yw (a.modify k fun y=>(u,y.2.1,y.2.2.1,y.2.2.2))
 |[],k,b,_=>by simp at b
 |y::r,0,_,u=>by simp[yw,d9]
 |y::r,k+1,b,u=>by
  have:=Aq r k (by simpa using b) u;simp only[yw,us,d9,List.modify_succ_cons] at this ⊢;rw[show(k+1)*4=k*4+1+1+1+1 from by omega];simpa using this
theorem Ky(a:List V4)(y:V4):yw (a++[y])=yw a++[y.1,y.2.1,y.2.2.1,y.2.2.2]:=by simp[yw,d9]
theorem Ix(c e b a:Value):∀(n i:Nat),i<n*4->(madeCells #[c,e,b,a] (n*4))[i]?=(yw (List.replicate n (c,e,b,a)))[i]?:=by
 intro n i o;obtain⟨k,j,m,rfl⟩:∃k j,j<4/\i=k*4+j:=⟨i / 4,i%4,Nat.mod_lt _ (by decide),by omega⟩;have s:k<n:=by omega
 obtain⟨g,h,f,l⟩:=pZ (List.replicate n (c,e,b,a)) k (by simpa using s);simp only[we] at g h f l;have q:(k*4+j)%4=j:=by omega
 simp only[madeCells,Array.getElem?_map,Array.getElem?_range];rw[zb o];simp only[jZ];have p:(#[c,e,b,a]:Array Value).size=4:=rfl;rw[p,q];match j,m with
 |0,_=>rw[uI,g];rfl
 |1,_=>rw[h];rfl
 |2,_=>rw[f];rfl
 |3,_=>rw[l];rfl
theorem Hj{W:World}{g n:Nat}{T:TypeId}{e f c a:Value}(h:OZ W g (madeCells #[e,f,c,a] (n*4)) T)(k:lo<=g)(j:n<=maxLen):W.ownsRow lo T 4 (sl g n) n (yw (List.replicate n (e,f,c,a))):=by
 refine⟨by rw[wa];simp,ze ⟨g,n,madeCells #[e,f,c,a] (n*4),rfl,k,h,zh _,j,by rw[size_madeCells],?_⟩⟩;apply mo;intro i;by_cases b:i<n*4
 ·rw[l9,zb b,Array.getElem?_toList,Ix _ _ _ _ n i b]
 ·rw[l9,za b,kR (by rw[wa];simp;omega)]
def QP(b:Nat):Value:=.pointer (some ⟨b,0,none⟩)
def ii:V4:=(.pointer none,.int .i64 0,.int .i64 0,.int .i64 0)
def rC:List Value:=[.slice none 0 0,.slice none 0 0,.slice none 0 0,.slice none 0 0,.slice none 0 0]
def sH(w b:World)(r:zr)(tv:Value)(n:Nat)(s:Value):Prop:=∃a g,s=.pointer (some ⟨a,0,none⟩)/\w.heap.size<=a/\w.heap.size<=g/\OZ b a (jc r tv (sl g n) (.slice none 0 0) rC [0,0,0,0,0] 0).toArray 310/\OZ b g (madeCells #[.pointer none,.int .i64 0,.int .i64 0,.int .i64 0] (n*4)) 323/\Below w.heap.size w b
end
section
variable {lo:Nat}{w0 w:World}{b6 jb:Nat}{r:zr}{tv sv bv:Value}{hvs:List Value}{jg:List Int}{d:Int}
theorem Nx{l:zt}{p n:Nat}(h:yX l p=some n):n<=p:=by
 unfold yX at h;split at h
 ·simp only[zs] at h;have:=ri (p:=zL l) (l:=List.range p);simp at this;omega
 ·cases h
theorem G4(r:zr)(p:Nat)(k:r.qc.length<=1000)(f:p<=1000000):(xy r p).length<=1000/\∀h∈xy r p,h.1<=1000000/\h.2<=1000000:=by
 constructor
 ·have:=ra (gH p) r.qc.zipIdx;rw[o8];simp at this;omega
 ·intro h c;rw[o8,lh] at c;obtain⟨x,e,b⟩:=c;unfold gH at b;cases a:yX x.1 p with
  |none=>rw[a] at b;cases b
  |some i=>
   rw[a] at b;simp only[jZ,zs] at b;subst b;have j:=Nx a;have g:=List.snd_lt_of_mem_zipIdx e;simp only;omega
structure ve (lo:Nat) (w0 w:World) (b6 jb:Nat) (r:zr) (tv sv bv:Value) (hvs:List Value) (jg:List Int) (d:Int):Prop where
 box:OZ w jb (jc r tv sv bv hvs jg d).toArray 310
 hlen:hvs.length=5
 blen:jg.length=5
 res:∃c,OZ w b6 c 310/\c.size=28
 below:Below w0.heap.size w0 w
 ne:w0.heap.size<=jb/\w0.heap.size<=b6/\jb≠b6
theorem ve.next{b:World}(h:ve lo w0 w b6 jb r tv sv bv hvs jg d)(a:Below w.heap.size w b):ve lo w0 b b6 jb r tv sv bv hvs jg d:=by
 obtain⟨c,f,e⟩:=h.res;exact⟨h.box.below a,h.hlen,h.blen,⟨c,f.below a,e⟩,Pc h.below a,h.ne⟩
theorem ve.hold(h:ve lo w0 w b6 jb r tv sv bv hvs jg d)(k:Nat)(e:k<5)(u:Value):ve lo w0 (w.setCell ⟨jb,5+k,none⟩ u) b6 jb r tv sv bv (hvs.set k u) jg d:=by
 obtain⟨c,b,a⟩:=h.res;refine⟨?_,by simpa using h.hlen,h.blen,⟨c,b.set_ne (Ne.symm h.ne.2.2) _ _,a⟩,h.below.setCell h.ne.1 _,h.ne⟩;have:=h.box.set (5+k) u;rw[Mn h.hlen k e] at this;exact this
theorem ve.back(h:ve lo w0 w b6 jb r tv sv bv hvs jg d)(k:Nat)(e:k<5)(u:Int):ve lo w0 (w.setCell ⟨jb,10+k,none⟩ (.int .i64 u)) b6 jb r tv sv bv hvs (jg.set k u) d:=by
 obtain⟨c,b,a⟩:=h.res;refine⟨?_,h.hlen,by simpa using h.blen,⟨c,b.set_ne (Ne.symm h.ne.2.2) _ _,a⟩,h.below.setCell h.ne.1 _,h.ne⟩;have:=h.box.set (10+k) (.int .i64 u);rw[Nw h.hlen h.blen k e] at this;exact this
theorem ve.bars(h:ve lo w0 w b6 jb r tv sv bv hvs jg d)(u:Value):ve lo w0 (w.setCell ⟨jb,4,none⟩ u) b6 jb r tv sv u hvs jg d:=by
 obtain⟨c,b,a⟩:=h.res;refine⟨?_,h.hlen,h.blen,⟨c,b.set_ne (Ne.symm h.ne.2.2) _ _,a⟩,h.below.setCell h.ne.1 _,h.ne⟩;have:=h.box.set 4 u;rw[JW] at this;exact this
theorem ve.ql(h:ve lo w0 w b6 jb r tv sv bv hvs jg d)(u:Int):ve lo w0 (w.setCell ⟨jb,26,none⟩ (.int .i64 u)) b6 jb r tv sv bv hvs jg u:=by
 obtain⟨c,b,a⟩:=h.res;refine⟨?_,h.hlen,h.blen,⟨c,b.set_ne (Ne.symm h.ne.2.2) _ _,a⟩,h.below.setCell h.ne.1 _,h.ne⟩;have:=h.box.set 26 (.int .i64 u);rw[Ou h.hlen h.blen] at this;exact this
theorem ve.save{w0 w f:World}{b6 jb:Nat}{r:zr}{tv sv bv:Value}{hvs:List Value}{jg:List Int}{d:Int}{M:List Nat}(h:ve lo w0 w b6 jb r tv sv bv hvs jg d)(a:zd M w f)(g:∀b∈M,w0.heap.size<=b)(e:jb∉M/\b6∉M):ve lo w0 f b6 jb r tv sv bv hvs jg d:=by
 obtain⟨c,j,i⟩:=h.res;exact⟨h.box.save a e.1,h.hlen,h.blen,⟨c,j.save a e.2,i⟩,h.below.trans (a.below g h.below.size),h.ne⟩
def qs(Pu:List (Nat×List Nat))(n k:Nat):List V4:=(Pu.take k).map (fun x=>(QP x.1,.int .i64 0,.int .i64 0,.int .i64 0))++List.replicate (n-k) ii
structure fc (b0 lo:Nat) (w:World) (v:Value) (ts:List zi) (Pu:List (Nat×List Nat)):Prop where
 own:w.ownsRow b0 162 1 v ts.length (Pu.map fun x=>QP x.1)
 len:Pu.length=ts.length
 tries:∀k (_:k<ts.length) (_:k<Pu.length),zX lo w Pu[k].1 ts[k] Pu[k].2
 few:ts.length<=1000
theorem fc.below{c:Nat}{w f:World}{v:Value}{ts:List zi}{Pu:List (Nat×List Nat)}(h:fc c lo w v ts Pu)(e:Below w.heap.size w f):fc c lo f v ts Pu:=⟨zE h.own e,h.len,fun k a b=>(h.tries k a b).below e,h.few⟩
theorem fc.cell{e:Nat}{w:World}{v:Value}{ts:List zi}{Pu:List (Nat×List Nat)}(h:fc e lo w v ts Pu)(k:Nat)(j:k<ts.length)(b:k<Pu.length):∃g a,v=.slice (some ⟨g,0,none⟩) ts.length a/\g<w.heap.size/\w.cell? ⟨g,k,none⟩=some (.pointer (some ⟨Pu[k].1,0,none⟩)):=by
 obtain⟨g,a,c,_,f,i⟩:=y7 h.own (by omega);exact⟨g,a,c,f,i k _ (by simp[b,QP])⟩
def jA(r:zr)(k:Nat):List Int:=(List.range 5).map fun p=>if p<k then xE r (p:Nat) else 0
theorem Oo(r:zr)(k:Nat)(a:k<5):(jA r k).set k (xE r (k:Nat))=jA r (k+1):=by
 obtain rfl|rfl|rfl|rfl|rfl:k=0∨k=1∨k=2∨k=3∨k=4:=by omega
 all_goals rfl
def uV(r:zr)(qc qp:List zi)(d:Int):z9:={head:=r.head,vars:=r.vars,ja:=qc.map (fun T=>⟨T,[0,0,0]⟩),bars:=(r.qp.zip qp).map (fun x=>⟨x.1,uC x.1,x.2⟩),je:=(List.range 5).map (xy r),jg:=(List.range 5).map (fun p=>xE r (p:Nat)),last:=xE r r.vars,qy:=[0,0,0,0,0],«from»:=[0,0,0,0,0],ql:=d,jh:=0}
def kr(qc:List zi):Int:=if qc.any (fun T=>T.count == 0) then -1 else 0
theorem FR(r:zr)(qc qp:List zi):xF r qc qp=if uB (uV r qc qp (kr qc)) 0 then uV r qc qp (-1) else uV r qc qp (kr qc):=rfl
end
end Go.Proofs.YteampbddflhngaaGreat
