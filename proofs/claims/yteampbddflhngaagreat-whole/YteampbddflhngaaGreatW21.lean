import Derived.Test.YteampbddflhngaaGreatW20
import Derived.Test.YteampbddflhngaaGreatW16
import Derived.Test.YteampbddflhngaaGreatW19
import Derived.Deep.MidRow

namespace Go.Proofs.YteampbddflhngaaGreat
set_option maxRecDepth 100000
set_option maxHeartbeats 4000000
open Go.RowKit
variable {lo:Nat}
variable {W w w':World}{cs hvs:List Value}{r:zah}{jb k:Nat}{nts:List (Nat × List Nat)}{bps:List (Value × Nat × List Nat)}{tv sv bv:Value}{jg:List Int}{d:Int}
def zc6(W:World)(b:Nat):Prop:=∃ c:Array Value,Box W b c 310/\c.size=28
def zwm(W:World)(b:Nat)(cs:List Value):World:=W.setCells b 0 cs
theorem Box.sets{T:TypeId}{b:Nat}:∀(vs:List Value) (o:Nat) (w:World) (l:List Value),Box w b l.toArray T->o+vs.length=l.length->Box (w.setCells b o vs) b (l.take o++vs).toArray T
 |[],o,w,l,h,e=>by
  simp at e
  subst e
  simpa [World.setCells] using h
 |v::r,o,w,l,h,e=>by
  simp only[ua7] at e
  have hq:Box (w.setCell ⟨b,o,none⟩ v) b (l.set o v).toArray T:=by simpa using h.set o v
  have:=Box.sets r (o+1) _ _ hq (by simp;omega)
  rw[World.setCells]
  rw[show l.take o++v::r=(l.set o v).take (o+1)++r from by
   rw[List.take_set,uae (by omega:o < l.length),ubd _ _ (by simp;omega)]
   simp[Nat.min_eq_left (show o<=l.length by omega)]]
  exact this
theorem zji{b:Nat}(h:zc6 W b)(hl:cs.length=28):Box (zwm W b cs) b cs.toArray 310:=by
 obtain⟨c,h1,h2⟩:=h
 have:=Box.sets cs 0 W c.toList (by simpa using h1) (by simp;omega)
 simpa [zwm] using this
theorem zas.sets(b:Nat):∀(vs:List Value) (o:Nat) (w:World),zas [b] w (w.setCells b o vs)
 |[],_,w=>zas.refl _ w
 |v::r,o,w=>(zas.set w b o v).trans (zas.sets b r (o+1) _)
theorem zi8(W:World)(b:Nat)(cs:List Value):zas [b] W (zwm W b cs):=zas.sets b cs 0 W
theorem zcz(W:World)(b:Nat)(cs:List Value)(b' o:Nat)(h:b'≠b):(zwm W b cs).cell? ⟨b',o,none⟩=W.cell? ⟨b',o,none⟩:=World.cell?_setCells_out b cs 0 W _ fun e=>absurd e h
theorem zc6.there{W:World}{b:Nat}(h:zc6 W b):W.there b 0 28:=fun j hj=>by
 obtain⟨c,h1,h2⟩:=h
 obtain⟨hc,hf⟩:=h1.rules
 rw[ubl]
 exact⟨by rw[hc,Array.getElem?_eq_getElem (by omega)];rfl,hf j⟩
def bj(p vs bk:Int)(ta sa:Option Addr)(tn tc sn sc:Nat):List Value:=[.int .i64 p,.slice ta tn tc,.int .i64 vs,.slice sa sn sc,.slice none 0 0,.slice none 0 0,.slice none 0 0,.slice none 0 0,.slice none 0 0,.slice none 0 0,.int .i64 0,.int .i64 0,.int .i64 0,.int .i64 0,.int .i64 0,.int .i64 bk,.int .i64 0,.int .i64 0,.int .i64 0,.int .i64 0,.int .i64 0,.int .i64 0,.int .i64 0,.int .i64 0,.int .i64 0,.int .i64 0,.int .i64 0,.int .i64 0]
theorem znv(p vs bk:Int)(ta sa:Option Addr)(tn tc sn sc:Nat):Value.agg #[.int .i64 p,.slice ta tn tc,.int .i64 vs,.slice sa sn sc,.slice none 0 0,.slice none 0 0,.slice none 0 0,.slice none 0 0,.slice none 0 0,.slice none 0 0,.int .i64 0,.int .i64 0,.int .i64 0,.int .i64 0,.int .i64 0,.int .i64 bk,.int .i64 0,.int .i64 0,.int .i64 0,.int .i64 0,.int .i64 0,.int .i64 0,.int .i64 0,.int .i64 0,.int .i64 0,.int .i64 0,.int .i64 0,.int .i64 0]=.agg (bj p vs bk ta sa tn tc sn sc).toArray:=rfl
theorem z9g(p vs bk:Int)(ta sa:Option Addr)(tn tc sn sc:Nat):(bj p vs bk ta sa tn tc sn sc).length=28:=rfl
theorem z8b(p vs bk:Int)(ta sa:Option Addr)(tn tc sn sc:Nat)(q:Int):(bj p vs bk ta sa tn tc sn sc).set 0 (.int .i64 q)=bj q vs bk ta sa tn tc sn sc:=rfl
theorem z8c(p vs bk:Int)(ta sa:Option Addr)(tn tc sn sc:Nat)(a:Option Addr)(n c:Nat):(bj p vs bk ta sa tn tc sn sc).set 1 (.slice a n c)=bj p vs bk a sa n c sn sc:=rfl
theorem z8d(p vs bk:Int)(ta sa:Option Addr)(tn tc sn sc:Nat)(q:Int):(bj p vs bk ta sa tn tc sn sc).set 2 (.int .i64 q)=bj p q bk ta sa tn tc sn sc:=rfl
theorem z8e(p vs bk:Int)(ta sa:Option Addr)(tn tc sn sc:Nat)(a:Option Addr)(n c:Nat):(bj p vs bk ta sa tn tc sn sc).set 3 (.slice a n c)=bj p vs bk ta a tn tc n c:=rfl
theorem z5e(p vs bk:Int)(ta sa:Option Addr)(tn tc sn sc:Nat)(q:Int):(bj p vs bk ta sa tn tc sn sc).set 15 (.int .i64 q)=bj p vs q ta sa tn tc sn sc:=rfl
theorem zc6.lt{W:World}{b:Nat}(h:zc6 W b):b < W.heap.size:=by obtain⟨c,h1,_⟩:=h;exact h1.lt
theorem Tryz.storeJ(W:World)(b:Nat)(p vs bk:Int)(ta sa:Option Addr)(tn tc sn sc:Nat)(h:zc6 W b):(storeCells ⟨b,0,none⟩ (bj p vs bk ta sa tn tc sn sc)).run Tryz.prog W=.ok () (zwm W b (bj p vs bk ta sa tn tc sn sc)) :=
 run_storeCells_cells (P:=Tryz.prog) b 0 (bj p vs bk ta sa tn tc sn sc) 0 W (fun j hj=>(h.there j hj).1) (fun j hj=>(h.there j hj).2) (by simp[bj,Value.oneCell'])
theorem zq7(w:World)(b:Nat)(p vs bk:Int)(ta sa:Option Addr)(tn tc sn sc:Nat)(h:b=w.heap.size):zc6 (w.alloc (.cells (bj p vs bk ta sa tn tc sn sc).toArray 310)) b:=⟨_,Box.newAt _ _ _ _ h,rfl⟩
theorem zo5(w:World)(b:Nat)(o:Obj)(h:zc6 w b):zc6 (w.alloc o) b:=by obtain⟨c,h1,h2⟩:=h;exact⟨c,h1.below ((Below.refl _ _).alloc (uaa _) o),h2⟩
theorem zw5(w:World)(b:Nat):zc6 w.drew b↔zc6 w b:=Iff.rfl
theorem zf1(w:World)(p vs bk:Int)(ta sa:Option Addr)(tn tc sn sc:Nat):zc6 (w.alloc (.cells (bj p vs bk ta sa tn tc sn sc).toArray 310)) w.heap.size:=zq7 _ _ _ _ _ _ _ _ _ _ _ rfl
theorem zo4(w:World)(o:Obj)(p vs bk:Int)(ta sa:Option Addr)(tn tc sn sc:Nat):zc6 ((w.alloc o).alloc (.cells (bj p vs bk ta sa tn tc sn sc).toArray 310)) (w.heap.size+1):=zq7 _ _ _ _ _ _ _ _ _ _ _ (by simp)
theorem zic(w:World)(o:Obj)(p vs bk:Int)(ta sa:Option Addr)(tn tc sn sc:Nat):zc6 ((w.alloc (.cells (bj p vs bk ta sa tn tc sn sc).toArray 310)).alloc o) w.heap.size:=zo5 _ _ _ (zf1 _ _ _ _ _ _ _ _ _ _)
theorem zxa.mk'{wA:World}{ta:Option Addr}{tn tc n g:Nat}(h1:zc6 W jb)(h2:Box W g (madeCells #[.pointer none,.int .i64 0,.int .i64 0,.int .i64 0] (n * 4)) 323)(hne:jb≠g)(h3:wA.heap.size<=jb)(h4:wA.heap.size<=g)(hb:Below wA.heap.size wA W):zxa wA (zwm W jb (bj (r.head.pred:Nat) (r.vars:Nat) (zd7 r r.vars) ta (some ⟨g,0,none⟩) tn tc n n)) r (.slice ta tn tc) n (.pointer (some ⟨jb,0,none⟩)):=by
 refine⟨jb,g,rfl,h3,h4,zji h1 rfl,h2.save (zi8 _ _ _) (by simp;omega),hb.trans ((zi8 _ _ _).below (by simp;omega) hb.size)⟩
attribute [local go_sem] znv z9g z8b z8c z8d z8e z5e Tryz.storeJ zf1 zo4 zic zo5 zw5
def z0x(qc:List zad)(k:Nat):Int:=if (qc.take k).any (fun T=>T.count == 0) then -1 else 0
theorem z1v(qc:List zad)(k:Nat)(hk:k < qc.length):z0x qc (k+1)=if qc[k].count=0 then -1 else z0x qc k:=by
 unfold z0x
 rw[uae hk,List.any_append]
 by_cases h:qc[k].count=0
 ·simp[h]
 ·simp[h]
theorem z5o(qc:List zad):z0x qc qc.length=zp1 qc:=by simp[z0x,zp1]
theorem zq1(pts:List (Nat × List Nat))(n k:Nat)(hk:k<=n)(hn:n=pts.length):(zfn pts n k).length=n:=by simp[zfn];omega
theorem z0k(pts:List (Nat × List Nat))(n k:Nat)(hk:k < n)(hn:pts.length=n):(zcj (zfn pts n k)).set (k * 4) (.pointer (some ⟨(pts[k]'(by omega)).1,0,none⟩))=zcj (zfn pts n (k+1)):=by
 rw[zp5 _ _ (by rw[zq1 pts n k (by omega) hn.symm];exact hk)]
 congr 1
 unfold zfn
 obtain⟨m,hm⟩:∃ m,n - k=m+1:=⟨n - k - 1,by omega⟩
 rw[hm,ucc,show n - (k+1)=m from by omega,uae (show k < pts.length by omega),ua8,uba]
 have hl:((pts.take k).map (fun x=>(pt0 x.1,Value.int .i64 0,Value.int .i64 0,Value.int .i64 0))).length=k:=by simp;omega
 apply uce
 intro i
 rw[List.getElem?_modify]
 by_cases e:k=i
 ·subst e
  rw[ua1 (by omega),ua1 (by omega),hl,ubs]
  simp[z92,pt0]
 ·rcases Nat.lt_or_ge i k with h|h
  ·rw[uca (by omega),uca (by omega)]
   simp[e]
  ·rw[ua1 (by omega),ua1 (by omega),hl]
   obtain⟨j,hj⟩:∃ j,i - k=j+1:=⟨i - k - 1,by omega⟩
   rw[hj]
   simp[e]
def zjt(r:zah)(qm:List zad)(k:Nat):List z9p:=((r.qm.zip qm).take k).map fun x=>⟨x.1,zdn x.1,x.2⟩
theorem zyz(r:zah)(qm:List zad)(k:Nat)(h1:k < r.qm.length)(h2:k < qm.length):zjt r qm (k+1)=zjt r qm k++[⟨r.qm[k],zdn r.qm[k],qm[k]⟩]:=by
 unfold zjt
 rw[uae (by simp;omega),ua8]
 simp
theorem z1f(r:zah)(qm:List zad)(k:Nat)(h1:k<=r.qm.length)(h2:k<=qm.length):(zjt r qm k).length=k:=by simp[zjt];omega
theorem zyy(r:zah)(qm:List zad)(bps:List (Value × Nat × List Nat))(k:Nat)(h1:k < r.qm.length)(h2:k < qm.length)(hb:bps.length=k)(tv:Value)(tb:Nat)(fp:List Nat):zcj (List.zipWith zyx (zjt r qm (k+1)) (bps++[(tv,tb,fp)]))=zcj (List.zipWith zyx (zjt r qm k) bps)++[.int .i64 (r.qm[k].pred:Nat),tv,.int .i64 (zdn r.qm[k]:Nat),.pointer (some ⟨tb,0,none⟩)]:=by
 rw[zyz r qm k h1 h2,ucv (by rw[z1f r qm k (by omega) (by omega),hb])]
 simp only[ubz,List.zipWith_nil_right]
 rw[zze]
 rfl
def zpd(lo:Nat)(w:World)(r:zah)(nts:List (Nat × List Nat))(bps:List (Value × Nat × List Nat))(k:Nat):Prop:=bps.length=k/\∀ i (_:i < k) (h2:i < bps.length) (h3:i < r.qm.length) (h4:i < nts.length),zaq lo w bps[i].1 r.qm[i].qf/\bps[i].2=nts[i]
theorem zpd.snoc(h:zpd lo w r nts bps k)(h1:k < r.qm.length)(h2:k < nts.length)(hT:zaq lo w tv r.qm[k].qf):zpd lo w r nts (bps++[(tv,nts[k].1,nts[k].2)]) (k+1):=by
 obtain⟨ha,hb⟩:=h
 refine⟨by simp[ha],fun i a b c d=>?_⟩
 by_cases e:i < k
 ·rw[uan (by omega)]
  exact hb i e (by omega) c d
 ·obtain rfl:i=k:=by omega
  simp only[← ha,uck]
  subst ha
  exact⟨hT,trivial⟩
def HoldsK(B:Nat)(w:World)(r:zah)(hvs:List Value)(k:Nat):Prop:=∀ p (_:p < k) (_:p < hvs.length),w.ownsRow B 327 2 hvs[p] (zb2 r p).length (zcm (zb2 r p))
theorem HoldsK.below{B:Nat}(h:HoldsK B w r hvs k)(hb:Below w.heap.size w w'):HoldsK B w' r hvs k:=fun p a b=>zaa (h p a b) hb
theorem HoldsK.saveT{B:Nat}{T:TypeId}{M:List Nat}(h:HoldsK B w r hvs k)(hs:zas M w w')(hM:OfT w T M)(hT:327≠T):HoldsK B w' r hvs k:=fun p a b=>zaj (h p a b) hs hM hT
theorem HoldsK.set{B:Nat}{w:World}{r:zah}{hvs:List Value}{k:Nat}{hv:Value}(h:HoldsK B w r hvs k)(ho:w.ownsRow B 327 2 hv (zb2 r k).length (zcm (zb2 r k))):HoldsK B w r (hvs.set k hv) (k+1):=fun p a b=>by
 by_cases e:p=k
 ·subst e
  rw[ucf]
  exact ho
 ·rw[ucn (Ne.symm e)]
  exact h p (by omega) (by simpa using b)
theorem zbm.cells{w0:World}{b6:Nat}(h:zbm lo w0 w b6 jb r tv sv bv hvs jg d):jb < w.heap.size/\(∀ o,w.frozen? ⟨jb,o,none⟩=false)/\w.cell? ⟨jb,3,none⟩=some sv/\w.cell? ⟨jb,4,none⟩=some bv/\w.cell? ⟨jb,26,none⟩=some (.int .i64 d)/\(∀ k,k < 5->w.cell? ⟨jb,5+k,none⟩=some (hvs.getD k (.bool false)))/\(∀ k,k < 5->w.cell? ⟨jb,10+k,none⟩=some (.int .i64 (jg.getD k 0))):=by
 obtain⟨hc,hf⟩:=h.box.rules
 obtain⟨a1,a2,a3,a4,a5⟩:=z90 (r:=r) (tv:=tv) (sv:=sv) (bv:=bv) (d:=d) h.hlen h.blen
 exact⟨h.box.lt,hf,(hc _).trans a1,(hc _).trans a2,(hc _).trans a3,fun k hk=>(hc _).trans (a4 k hk),fun k hk=>(hc _).trans (a5 k hk)⟩
theorem z0j(qc:List zad)(pts:List (Nat × List Nat))(h:pts.length=qc.length):zfn pts qc.length qc.length=List.zipWith zm4 (qc.map fun T=>(⟨T,[0,0,0]⟩:zej)) pts:=by
 apply uce
 intro i
 rw[List.getElem?_zipWith]
 by_cases hi:i < qc.length
 ·simp[zfn,← h,zm4,pt0,List.getElem?_map,List.getElem?_eq_getElem (show i < qc.length from hi),List.getElem?_eq_getElem (show i < pts.length by omega)]
 ·simp[zfn,← h,List.getElem?_eq_none (show qc.length<=i by omega),List.getElem?_eq_none (show pts.length<=i by omega)]
theorem z1e(r:zah)(qm:List zad)(h:qm.length=r.qm.length):zjt r qm r.qm.length=(r.qm.zip qm).map fun x=>⟨x.1,zdn x.1,x.2⟩:=by
 unfold zjt
 rw[uam (by simp;omega)]
theorem zpd.all(h:zpd lo w r nts bps k)(hk:k=nts.length/\k=r.qm.length):bps.map (·.2)=nts:=by
 obtain⟨ha,hb⟩:=h
 apply ubg
 ·simp[ha,hk.1]
 ·intro i h1 h2
  rw[uaw]
  exact(hb i (by omega) (by omega) (by omega) h2).2
theorem zxs{b1 b2:Nat}{pv nv plv ntv:Value}{g:Nat}{qc qm:List zad}{pts:List (Nat × List Nat)}(hW:Below w.heap.size w W)(hlo:lo<=w.heap.size)(h:zdp lo w tv pv nv r)(hp:z4u b1 lo w plv qc pts)(hn:z4u b2 lo w ntv qm nts)(hnn:qm.length=r.qm.length)(h5:hvs.length=5)
  (hh:HoldsK w.heap.size W r hvs 5) (hs:W.ownsRow w.heap.size 323 4 (sl g qc.length) qc.length (zcj (zfn pts qc.length qc.length))) (hb:W.ownsRow w.heap.size 325 4 bv r.qm.length (zcj (List.zipWith zyx (zjt r qm r.qm.length) bps))) (hbp:zpd lo w r nts bps r.qm.length):zhf lo W (za9 r qc qm d) ⟨tv,sl g qc.length,bv,hvs,pts,bps⟩:=by
 have hpl:=hp.len
 have hnl:=hn.len
 have hbl:=hbp.1
 have hzl:((r.qm.zip qm).map fun x=>(⟨x.1,zdn x.1,x.2⟩:z9p)).length=r.qm.length:=by simp;omega
 refine⟨h.head.below hW,?_,by simp[za9,hpl],?_,by simp[za9],?_,by simp only[za9];omega,?_,⟨h5,by simp[za9]⟩,?_,by simp[za9],?_⟩
 ·rw[z0j qc pts hpl] at hs
  have:=zbf hs hlo
  simpa [za9] using this
 ·intro k a b
  simp only[za9,ua0] at a
  have:=(hp.tries k a b).below hW
  simpa [za9] using this
 ·rw[z1e r qm hnn] at hb
  have:=zbf hb hlo
  simp only[za9]
  rw[hzl]
  exact this
 ·intro k a b
  simp only[za9] at a
  rw[hzl] at a
  obtain⟨q1,q2⟩:=hbp.2 k a b a (by omega)
  have q3:=(hn.tries k (by omega) (by omega)).below hW
  simp only[za9,uaw,List.getElem_zip]
  exact⟨q1.below hW,by rw[q2];exact q3⟩
 ·intro p a b
  simp only[za9,ua0,List.length_range] at a
  have q:=zbf (hh p a b) hlo
  have q2:=zti r p (h.qc.len) (by omega)
  simp only[za9,uaw,ub0]
  exact⟨q,q2⟩
 ·simp only[za9,ua0]
  have:=hp.few
  have:=h.qm.len
  have:=h.small.2.1
  refine⟨by omega,by simp;omega,by omega⟩
theorem zhc{fn:Func}{t:Tmp}{ty:TypeId}(h:fn.results=#[.cell t ty])(tmps:Array Value)(P:Program)(w:World)(b o:Nat)(hp:tmps.getD t undef=.pointer (some ⟨b,o,none⟩)){v:Value}(hl:(loadVar ty ⟨b,o,none⟩).run P w=.ok v w):(results fn tmps).run P w=.ok v w:=by
 rw[Array.getD_eq_getD_getElem?] at hp
 simp[results,h,hp,asAddr,hl]
theorem Box.range{b:Nat}{T:TypeId}(h:Box w b cs.toArray T):w.rangeAt b 0 cs:=fun j v hv=>by
 rw[ubl,h.rules.1]
 simpa using hv
theorem z7m(r:zah)(tv sv bv:Value)(hvs:List Value)(jg:List Int)(d:Int)(h1:hvs.length=5)(h2:jg.length=5):(jc r tv sv bv hvs jg d).length=28:=by
 simp[jc,h1,h2]
theorem z7n(h1:tv.oneCell'=true)(h2:sv.oneCell'=true)(h3:bv.oneCell'=true)(h4:∀ u∈hvs,u.oneCell'=true):∀ u∈jc r tv sv bv hvs jg d,u.oneCell'=true:=by
 intro u hu
 simp only[jc,uao,uag,uai,ucs,or_false] at hu
 rcases hu with ((((((hu|hu)|⟨_,_,hu⟩)|hu)|⟨_,_,hu⟩)|⟨_,_,hu⟩)|hu)
 ·rcases hu with rfl|rfl|rfl|rfl|rfl <;> first|rfl|assumption
 ·exact h4 u hu
 ·subst hu;rfl
 ·subst hu;rfl
 ·subst hu;rfl
 ·subst hu;rfl
 ·rcases hu with rfl|rfl <;> rfl
theorem HoldsK.one{B:Nat}(h:HoldsK B w r hvs 5)(h5:hvs.length=5):∀ u∈hvs,u.oneCell'=true:=by
 intro u hu
 obtain⟨p,hp,rfl⟩:=uau hu
 obtain⟨ao,cap,e⟩:=zac (h p (by omega) hp)
 rw[e]
 rfl
theorem zhz{w0:World}{b6:Nat}(h:zbm lo w0 w b6 jb r tv sv bv hvs jg d):zc6 w b6:=h.res
theorem zat.saveJ{tb:Nat}{T:zad}{fp M:List Nat}(h:zat lo w tb T fp)(hs:zas M w w')(hM:OfT w 310 M):zat lo w' tb T fp:=h.save hs fun b hb hm=>by
 obtain⟨c,hc⟩:=hM b hm
 exact h.notin hc (by decide) (by decide) (by decide) hb
theorem zhf.saveJ{w w':World}{J:zav}{P:zbx}{M:List Nat}(h:zhf lo w J P)(hs:zas M w w')(hM:OfT w 310 M):zhf lo w' J P :=
 ⟨h.head.saveT hs hM (by decide),zaj h.qy hs hM (by decide),h.slen,fun k a b=>(h.tries k a b).saveJ hs hM,h.ql,zaj h.bars hs hM (by decide),h.blen,fun k a b=>⟨(h.jh k a b).1.saveT hs hM (by decide),(h.jh k a b).2.saveJ hs hM⟩,h.hlen,fun p a b=>⟨zaj (h.ja p a b).1 hs hM (by decide),(h.ja p a b).2⟩,h.ji,h.few⟩
theorem z5x{b1 b2:Nat}(w:World)(r:zah)(tv pv nv plv ntv:Value)(qc qm:List zad)(pts nts:List (Nat × List Nat))(h:zdp lo w tv pv nv r)(hp:z4u b1 lo w plv qc pts)(hn:z4u b2 lo w ntv qm nts)(hnn:qm.length=r.qm.length)(hlo:lo<=w.heap.size) :
  Calls Tryz.prog 214 #[zlo r tv pv nv,plv,ntv] w fun e w'=>∃ P,e=.returned (.agg (zca (za3 r qc qm) P).toArray)/\zhf lo w' (za3 r qc qm) P/\P.tbs=pts/\P.bps.map (·.2)=nts/\Below w.heap.size w w':=by
 obtain⟨iS,hiS,hzS,hzsS,hzbS⟩:=info_parts Tryz.infoSide
 obtain⟨iB,hiB,hzB,hzsB,hzbB⟩:=info_parts Tryz.infoBar
 have HR:Hid (zdp lo w tv pv nv r):=h
 have HP:Hid (z4u b1 lo w plv qc pts):=hp
 have HN:Hid (z4u b2 lo w ntv qm nts):=hn
 obtain⟨aop,capp,rfl⟩:=zac hp.own
 obtain⟨aon,capn,rfl⟩:=zac hn.own
 obtain⟨aot,capt,rfl⟩:=h.head.shape
 obtain⟨aopl,cappl,rfl⟩:=h.qc.shape
 obtain⟨aonl,capnl,rfl⟩:=h.qm.shape
 have hpf:=hp.few
 have hnf:=hn.few
 have hrv:=h.small.2.1
 have hmk:=fun W:World=>run_make (P:=Tryz.prog) (w:=W) 305 323 iS _ Tryz.underlying305 hiS hzS .i64 .i64 (qc.length:Int) (qc.length:Int) (by omega) (Int.le_refl _) (by rw[hzbS];omega) (by omega)
 rw[hzsS] at hmk
 have HBK:Hid (∀ W (kn:Int),Below w.heap.size w W->Calls Tryz.prog 220 #[.agg #[.int .i64 (r.qi:Nat),.int .i64 (r.vars:Nat),.int .i64 (r.head.pred:Nat),.slice aot r.head.qf.length capt,.slice aopl r.qc.length cappl,.slice aonl r.qm.length capnl],.int .i64 kn] W fun e w'=>e=.returned (.int .i64 (zd7 r kn))/\Below W.heap.size W w'):=fun W kn hW=>z1d W _ _ _ r kn (h.below hW)
 have HHO:Hid (∀ W (pl:Nat),pl<=1000000->Below w.heap.size w W->Calls Tryz.prog 221 #[.agg #[.int .i64 (r.qi:Nat),.int .i64 (r.vars:Nat),.int .i64 (r.head.pred:Nat),.slice aot r.head.qf.length capt,.slice aopl r.qc.length cappl,.slice aonl r.qm.length capnl],.int .i64 pl] W fun e w'=>∃ hv,e=.returned hv/\w'.ownsRow W.heap.size 327 2 hv (zb2 r pl).length (zcm (zb2 r pl))/\Below W.heap.size W w'):=fun W pl hpl hW=>zv3 W _ _ _ r pl (h.below hW) hpl
 have HLO:Hid (lo<=w.heap.size):=hlo
 have HNN:Hid (qm.length=r.qm.length):=hnn
 unfold zlo
 clear h hp hn hlo hnn
 have hb3:=(Box.new w #[.int .i64 (r.qi:Nat),.int .i64 (r.vars:Nat),.int .i64 (r.head.pred:Nat),.slice aot r.head.qf.length capt,.slice aopl r.qc.length cappl,.slice aonl r.qm.length capnl] 207).below ((Below.refl _ _).alloc (uaa _) (.cells (bj 0 0 0 none none 0 0 0 0).toArray 310))
 have hb6:=Box.new (w.alloc (.cells #[.int .i64 (r.qi:Nat),.int .i64 (r.vars:Nat),.int .i64 (r.head.pred:Nat),.slice aot r.head.qf.length capt,.slice aopl r.qc.length cappl,.slice aonl r.qm.length capnl] 207)) (bj 0 0 0 none none 0 0 0 0).toArray 310
 have hBA:Below w.heap.size w ((w.alloc (.cells #[.int .i64 (r.qi:Nat),.int .i64 (r.vars:Nat),.int .i64 (r.head.pred:Nat),.slice aot r.head.qf.length capt,.slice aopl r.qc.length cappl,.slice aonl r.qm.length capnl] 207)).alloc (.cells (bj 0 0 0 none none 0 0 0 0).toArray 310)):=(by go_grown)
 simp only[World.size_alloc] at hb6
 go_enter Tryz.func214,Tryz.ntmps214
 go_upto_region 1 with fail
 generalize (w.alloc (.cells #[.int .i64 (r.qi:Nat),.int .i64 (r.vars:Nat),.int .i64 (r.head.pred:Nat),.slice aot r.head.qf.length capt,.slice aopl r.qc.length cappl,.slice aonl r.qm.length capnl] 207)).alloc (.cells (bj 0 0 0 none none 0 0 0 0).toArray 310)=wA at *
 obtain⟨h3c,h3f⟩:=hb3.rules
 have h3l:=hb3.lt
 have hzA:=hBA.size
 go_cut [7] from 13 to 24 (fun s7 wx=>zxa wA wx r (.slice aot r.head.qf.length capt) qc.length s7)
 case first =>
  go_region_held3 (fun w'=>w'.cell? ⟨w.heap.size,0,none⟩=some (.int .i64 (r.qi:Nat))/\w'.cell? ⟨w.heap.size,1,none⟩=some (.int .i64 (r.vars:Nat))/\w'.cell? ⟨w.heap.size,2,none⟩=some (.int .i64 (r.head.pred:Nat))/\w'.cell? ⟨w.heap.size,3,none⟩=some (.slice aot r.head.qf.length capt)/\w'.cell? ⟨w.heap.size,4,none⟩=some (.slice aopl r.qc.length cappl)/\w'.cell? ⟨w.heap.size,5,none⟩=some (.slice aonl r.qm.length capnl)) (first|go_keep|(go_simp;done)|(go_split_ands;refine⟨?_,?_,?_,?_,?_,?_⟩ <;> (rw[zcz _ _ _ _ _ (by simp;omega)];simp[*]))) (first|(go_at_call 220;refine(HBK.out _ _ (by exact(by go_grown))).mono ?_;rintro e w1 ⟨rfl,hb1⟩;have hB1:Below wA.heap.size wA w1:=(zae (by go_grown) hb1 (uaa _));have h31:=hb3.below hB1;obtain⟨h31c,h31f⟩:=h31.rules;have h31l:=h31.lt;have hz1:=hB1.size;(first|((with_reducible refine Box.carry (Box.drew (Box.newAt (wA.alloc (.cells (madeCells #[.pointer none,.int .i64 0,.int .i64 0,.int .i64 0] (qc.length * 4)) 323)) (wA.heap.size+1) (bj 0 0 0 none none 0 0 0 0).toArray 310 (World.size_alloc _ _).symm)) hb1 ?_);intro hjz;have hjt:zc6 w1 (wA.heap.size+1):=⟨_,hjz,rfl⟩;clear hjz;(with_reducible refine Box.carry (Box.drew (Box.below (Box.new wA (madeCells #[.pointer none,.int .i64 0,.int .i64 0,.int .i64 0] (qc.length * 4)) 323) ((Below.refl _ _).alloc (uaa _) (.cells (bj 0 0 0 none none 0 0 0 0).toArray 310)))) hb1 ?_);intro hmb)|((with_reducible refine Box.carry (Box.drew (Box.below (Box.new wA (bj 0 0 0 none none 0 0 0 0).toArray 310) ((Below.refl _ _).alloc (uaa _) (.cells (madeCells #[.pointer none,.int .i64 0,.int .i64 0,.int .i64 0] (qc.length * 4)) 323)))) hb1 ?_);intro hjz;have hjt:zc6 w1 wA.heap.size:=⟨_,hjz,rfl⟩;clear hjz;(with_reducible refine Box.carry (Box.drew (Box.newAt (wA.alloc (.cells (bj 0 0 0 none none 0 0 0 0).toArray 310)) (wA.heap.size+1) (madeCells #[.pointer none,.int .i64 0,.int .i64 0,.int .i64 0] (qc.length * 4)) 323 (World.size_alloc _ _).symm)) hb1 ?_);intro hmb)|((with_reducible refine Box.carry (Box.drew (Box.new wA (bj 0 0 0 none none 0 0 0 0).toArray 310)) hb1 ?_);intro hjz;have hjt:zc6 w1 wA.heap.size:=⟨_,hjz,rfl⟩;clear hjz)|((with_reducible refine Box.carry (Box.drew (Box.new wA (madeCells #[.pointer none,.int .i64 0,.int .i64 0,.int .i64 0] (qc.length * 4)) 323)) hb1 ?_);intro hmb)|skip)))
  all_goals
   go_wp2_with fail
   go_meet
   case rel =>
    apply zxa.mk'
    ·first|exact zo4 _ _ _ _ _ _ _ _ _ _ _|exact zic _ _ _ _ _ _ _ _ _ _ _|exact zf1 _ _ _ _ _ _ _ _ _ _|exact hjt|exact zo5 _ _ _ hjt
    ·first|exact hmb|exact Box.below (Box.new w1 _ _) ((Below.refl _ _).alloc (uaa _) _)|exact Box.newAt _ _ _ _ (World.size_alloc _ _).symm|exact Box.new w1 _ _|exact Box.below hmb ((Below.refl _ _).alloc (uaa _) _)
    ·first|omega|(have:=hmb.lt;omega)|(have:=hjt.lt;omega)
    ·omega
    ·omega
    ·exact(zae hB1 (by go_grown) (uaa _))
 case rest =>
  clear hmk
  obtain⟨jb,g,rfl,hj1,hg1,hbj,hbg,hbw⟩:=hcut
  have hne6:jb≠w.heap.size+1:=by have:=hb6.lt;omega
  have hM:zbm lo w wc (w.heap.size+1) jb r (.slice aot r.head.qf.length capt) (sl g qc.length) (.slice none 0 0) z3d (zd0 r 0) 0:=⟨hbj,rfl,rfl,⟨_,hb6.below hbw,rfl⟩,zae hBA hbw (uaa _),by omega,by omega,hne6⟩
  have HM:Hid (zbm lo w wc (w.heap.size+1) jb r (.slice aot r.head.qf.length capt) (sl g qc.length) (.slice none 0 0) z3d (zd0 r 0) 0):=hM
  have HH:Hid (HoldsK w.heap.size wc r z3d 0):=fun p a=>by omega
  have HG:Hid (Box wc g (madeCells #[.pointer none,.int .i64 0,.int .i64 0,.int .i64 0] (qc.length * 4)) 323):=hbg
  have HRU:Hid (Box wc w.heap.size #[.int .i64 (r.qi:Nat),.int .i64 (r.vars:Nat),.int .i64 (r.head.pred:Nat),.slice aot r.head.qf.length capt,.slice aopl r.qc.length cappl,.slice aonl r.qm.length capnl] 207):=hb3.below hbw
  have hjw:w.heap.size < jb:=by omega
  have hgw:w.heap.size < g:=by omega
  have hgj:g≠jb:=by
   intro e
   subst e
   exact absurd (hbg.type hbj) (by decide)
  have hg6:g≠w.heap.size+1:=by have:=hb6.lt;omega
  clear hM hbj hbg hbw hb3 hb6 hBA h3c h3f h3l hzA hj1 hg1
  go_wp2
  go_loopw [25] (fun v25 wr=>∃(k:Nat) (hvs:List Value),k<=5/\v25=.int .i64 k/\Hid (zbm lo w wr (w.heap.size+1) jb r (.slice aot r.head.qf.length capt) (sl g qc.length) (.slice none 0 0) hvs (zd0 r k) 0)/\Hid (HoldsK w.heap.size wr r hvs k)/\Hid (Box wr g (madeCells #[.pointer none,.int .i64 0,.int .i64 0,.int .i64 0] (qc.length * 4)) 323)/\Hid (Box wr w.heap.size #[.int .i64 (r.qi:Nat),.int .i64 (r.vars:Nat),.int .i64 (r.head.pred:Nat),.slice aot r.head.qf.length capt,.slice aopl r.qc.length cappl,.slice aonl r.qm.length capnl] 207)) (fun i _=>5 - (intOf i).toNat)
  case atStart=>exact⟨0,z3d,by omega,rfl,HM,HH,HG,HRU⟩
  case round =>
   clear HM HH HG HRU
   obtain⟨k,hvs,hk,rfl,HM,HH,HG,HRU⟩:=hrel
   have hbk:=HM.out.below
   have hszk:=hbk.size
   by_cases hlt:k < 5
   ·have hkk:(k:Int) < 5:=by omega
    have hru:=HRU.out
    obtain⟨hrc,hrf⟩:=hru.rules
    have hrl:=hru.lt
    have HHO1:Hid (∀ W,Below wr.heap.size wr W->Calls Tryz.prog 221 #[.agg #[.int .i64 (r.qi:Nat),.int .i64 (r.vars:Nat),.int .i64 (r.head.pred:Nat),.slice aot r.head.qf.length capt,.slice aopl r.qc.length cappl,.slice aonl r.qm.length capnl],.int .i64 k] W fun e w'=>∃ hv,e=.returned hv/\w'.ownsRow W.heap.size 327 2 hv (zb2 r k).length (zcm (zb2 r k))/\Below W.heap.size W w'):=fun W hW=>HHO.out W k (by omega) (zae hbk hW (uaa _))
    have HBK1:Hid (∀ W,Below w.heap.size w W->Calls Tryz.prog 220 #[.agg #[.int .i64 (r.qi:Nat),.int .i64 (r.vars:Nat),.int .i64 (r.head.pred:Nat),.slice aot r.head.qf.length capt,.slice aopl r.qc.length cappl,.slice aonl r.qm.length capnl],.int .i64 k] W fun e w'=>e=.returned (.int .i64 (zd7 r (k:Nat)))/\Below W.heap.size W w'):=fun W hW=>HBK.out W (k:Nat) hW
    have HBS:Hid ((zd0 r k).set k (zd7 r (k:Nat))=zd0 r (k+1)):=zyw r k hlt
    generalize zd7 r (k:Nat)=bk at *
    generalize hhj:zb2 r k=hj at *
    have HHJ:Hid (zb2 r k=hj):=hhj
    clear hhj
    go_upto_region 6 with (first|(go_at_call 221;refine(HHO1.out _ (by exact(by go_grown))).mono ?_;rintro e w2 ⟨hv,rfl,hown2,hb2⟩;obtain⟨aoh,caph,rfl⟩:=zac hown2;have hM2:=HM.out.next hb2;obtain⟨h2l,h2f,_,_,_,h25,_⟩:=hM2.cells;have h25k:=h25 k hlt;clear h25;generalize hvs.getD k (.bool false)=ov at h25k))
    have hru2:=hru.below hb2
    have hg2:=HG.out.below hb2
    have hh2:=HH.out.below hb2
    have hz2:=hb2.size
    have hs3:zas [jb] w2 (w2.setCell ⟨jb,5+k,none⟩ (.slice aoh hj.length caph)):=zas.set _ _ _ _
    have hM3:=hM2.hold k hlt (.slice aoh hj.length caph)
    have hru3:=hru2.saveT hs3 (OfT.box hM2.box) (by decide)
    have hg3:=hg2.saveT hs3 (OfT.box hM2.box) (by decide)
    have hh3:HoldsK w.heap.size _ r (hvs.set k (.slice aoh hj.length caph)) (k+1):=(hh2.set (by rw[HHJ.out];exact zbf hown2 (by omega))).saveT hs3 (OfT.box hM2.box) (by decide)
    generalize w2.setCell ⟨jb,5+k,none⟩ (.slice aoh hj.length caph)=w3 at *
    clear hs3 hru2 hg2 hh2 hM2 h25k h2f h2l hru hrc hrf hrl hown2 HHO1
    generalize hvs.set k (.slice aoh hj.length caph)=hvs3 at *
    have HM3:Hid (zbm lo w w3 (w.heap.size+1) jb r (.slice aot r.head.qf.length capt) (sl g qc.length) (.slice none 0 0) hvs3 (zd0 r k) 0):=hM3
    have HH3:Hid (HoldsK w.heap.size w3 r hvs3 (k+1)):=hh3
    have HG3:Hid (Box w3 g (madeCells #[.pointer none,.int .i64 0,.int .i64 0,.int .i64 0] (qc.length * 4)) 323):=hg3
    clear hM3 hh3 hg3 HM HH HG HRU
    obtain⟨hrc,hrf⟩:=hru3.rules
    have hrl:=hru3.lt
    have hb3:=HM3.out.below
    have hz3:=hb3.size
    go_wp2_with (first|(go_at_call 220;refine(HBK1.out _ (by exact hb3)).mono ?_;rintro e w4 ⟨rfl,hb4⟩;have hM4:=HM3.out.next hb4;obtain⟨h4l,h4f,_,_,_,_,h4b⟩:=hM4.cells;have h4bk:=h4b k hlt;clear h4b;generalize (zd0 r k).getD k 0=ob at h4bk))
    have hs5:zas [jb] w4 (w4.setCell ⟨jb,10+k,none⟩ (.int .i64 bk)):=zas.set _ _ _ _
    have hM5:=hM4.back k hlt bk
    rw[HBS.out] at hM5
    go_roundw
    case rel=>exact⟨k+1,hvs3,by omega,by go_num,hM5,(HH3.out.below hb4).saveT hs5 (OfT.box hM4.box) (by decide),(HG3.out.below hb4).saveT hs5 (OfT.box hM4.box) (by decide),(hru3.below hb4).saveT hs5 (OfT.box hM4.box) (by decide)⟩
    case measure=>simp[intOf];omega
   ·obtain rfl:k=5:=by omega
    rw[show((5:Nat):Int)=5 from rfl]
    clear hk hlt HHO HBK
    have HS0:Hid (wr.ownsRow w.heap.size 323 4 (sl g qc.length) qc.length (zcj (zfn pts qc.length 0))):=by
     have q:=zuf (lo:=w.heap.size) HG.out (by omega) (by unfold maxLen;omega)
     have e:zfn pts qc.length 0=List.replicate qc.length (Value.pointer none,Value.int .i64 0,Value.int .i64 0,Value.int .i64 0):=by simp[zfn,z92]
     rw[Hid,e]
     exact q
    clear HG
    have HD0:Hid (z0x qc 0=0):=rfl
    go_wp2
    have HM0:Hid (zbm lo w wr (w.heap.size+1) jb r (.slice aot r.head.qf.length capt) (sl g qc.length) (.slice none 0 0) hvs (zd0 r 5) (z0x qc 0)):=HM
    clear HM HD0
    go_loopw [43] (fun v43 wr=>∃(k:Nat),k<=qc.length/\v43=.int .i64 k/\Hid (zbm lo w wr (w.heap.size+1) jb r (.slice aot r.head.qf.length capt) (sl g qc.length) (.slice none 0 0) hvs (zd0 r 5) (z0x qc k))/\Hid (HoldsK w.heap.size wr r hvs 5)/\Hid (wr.ownsRow w.heap.size 323 4 (sl g qc.length) qc.length (zcj (zfn pts qc.length k)))/\Hid (Box wr w.heap.size #[.int .i64 (r.qi:Nat),.int .i64 (r.vars:Nat),.int .i64 (r.head.pred:Nat),.slice aot r.head.qf.length capt,.slice aopl r.qc.length cappl,.slice aonl r.qm.length capnl] 207)) (fun i _=>qc.length - (intOf i).toNat)
    case atStart=>exact⟨0,uaj _,rfl,HM0,HH,HS0,HRU⟩
    case round =>
     clear HM0 HH HS0 HRU hbk hszk
     obtain⟨k,hk,rfl,HM,HH,HS,HRU⟩:=hrel
     have hbk:=HM.out.below
     have hszk:=hbk.size
     by_cases hlt:k < qc.length
     ·have hk2:k < pts.length:=by have:=HP.out.len;omega
      obtain⟨gp,capp',hpv,hgp,hpc⟩:=HP.out.cell k hlt hk2
      simp only[Value.slice.injEq] at hpv
      have hpv1:=hpv.1
      clear hpv
      subst hpv1
      have hx0:=(hbk.cell (p:=⟨gp,k,none⟩) hgp).trans hpc
      have hgpr:gp < wr.heap.size:=by omega
      obtain⟨h1l,h1f,h13,_,_,_,_⟩:=HM.out.cells
      have h13':wr.cell? ⟨jb,3,none⟩=some (.slice (some ⟨g,0,none⟩) qc.length qc.length):=h13
      have hS:wr.ownsRow w.heap.size 323 4 (.slice (some ⟨g,0,none⟩) qc.length qc.length) qc.length (zcj (zfn pts qc.length k)):=HS.out
      have hkk:(k:Int) < (qc.length:Int):=by omega
      have hsl:=zq1 pts qc.length k hk (by have:=HP.out.len;omega)
      obtain⟨sx,hsx⟩:∃ sx,wr.cell? ⟨g,k * 4,none⟩=some sx:=by
       obtain⟨g',cap',hv',_,_,hcl'⟩:=zal hS (by omega)
       simp only[Value.slice.injEq,uab,Addr.mk.injEq,and_true] at hv'
       have hgg:=hv'.1
       subst hgg
       exact⟨_,hcl' (k * 4) _ (zk3 (zfn pts qc.length k) k (by omega)).1⟩
      have hsf:=zbt hS
      have hset:=zb4 hS (k * 4) (by rw[zk4];omega) (.pointer (some ⟨pts[k].1,0,none⟩))
      have HSS:Hid ((zcj (zfn pts qc.length k)).set (k * 4) (.pointer (some ⟨pts[k].1,0,none⟩))=zcj (zfn pts qc.length (k+1))):=z0k pts qc.length k hlt HP.out.len
      rw[HSS.out] at hset
      have HTC:Hid (∀ W,Below w.heap.size w W->Calls Tryz.prog 209 #[.pointer (some ⟨pts[k].1,0,none⟩)] W fun e w'=>e=.returned (.int .i64 (qc[k].count:Nat))/\w'=W):=fun W hW=>zq5 W pts[k].1 qc[k] pts[k].2 ((HP.out.tries k hlt hk2).below hW)
      have HDS:Hid (z0x qc (k+1)=if qc[k].count=0 then -1 else z0x qc k):=z1v qc k hlt
      have hs2:zas [g] wr (wr.setCell ⟨g,k * 4,none⟩ (.pointer (some ⟨pts[k].1,0,none⟩))):=zas.set _ _ _ _
      have hMg:OfT wr 323 [g]:=fun x hx=>by simp at hx;subst hx;exact zef hS rfl
      have hM2:=HM.out.save hs2 (fun x hx=>by simp at hx;omega) ⟨by simp;omega,by simp;omega⟩
      have hh2:=HH.out.saveT hs2 hMg (by decide)
      have hru2:=HRU.out.saveT hs2 hMg (by decide)
      generalize pts[k].1=tb at *
      generalize qc[k].count=ct at *
      clear h13 hpc HSS hS hsl
      go_upto_region 12 with fail
      generalize wr.setCell ⟨g,k * 4,none⟩ (.pointer (some ⟨tb,0,none⟩))=w2 at *
      have hb2:=hM2.below
      clear hx0 h1l h1f h13' hsx hsf HM HH HS HRU
      obtain⟨h2l,h2f,_,_,h226,_,_⟩:=hM2.cells
      have HM2:Hid (zbm lo w w2 (w.heap.size+1) jb r (.slice aot r.head.qf.length capt) (sl g qc.length) (.slice none 0 0) hvs (zd0 r 5) (z0x qc k)):=hM2
      have HH2:Hid (HoldsK w.heap.size w2 r hvs 5):=hh2
      have HRU2:Hid (Box w2 w.heap.size _ 207):=hru2
      clear hM2 hh2 hru2 hMg
      generalize hdk:z0x qc k=dk at *
      clear hdk
      by_cases hc0:ct=0
      ·subst hc0
       simp only[if_true] at HDS
       have hs3:zas [jb] w2 (w2.setCell ⟨jb,26,none⟩ (.int .i64 (-1))):=zas.set _ _ _ _
       have hM3:=HM2.out.qp (-1)
       have hMj:=OfT.box HM2.out.box
       go_wp2_with (first|(go_at_call 209;refine(HTC.out _ (by exact hb2)).mono ?_;rintro e w3 ⟨rfl,hww⟩;obtain rfl:=hww.symm))
       go_roundw
       case rel=>exact⟨k+1,by omega,by go_num,by rw[HDS.out];exact hM3,HH2.out.saveT hs3 hMj (by decide),zaj hset hs3 hMj (by decide),HRU2.out.saveT hs3 hMj (by decide)⟩
       case measure=>simp[intOf];omega
      ·rw[if_neg hc0] at HDS
       have hcb:((ct:Int) == 0)=false:=by rw[beq_eq_false_iff_ne];omega
       go_wp2_with (first|(go_at_call 209;refine(HTC.out _ (by exact hb2)).mono ?_;rintro e w3 ⟨rfl,hww⟩;obtain rfl:=hww.symm))
       go_roundw
       case rel=>exact⟨k+1,by omega,by go_num,by rw[HDS.out];exact HM2,HH2,hset,HRU2⟩
       case measure=>simp[intOf];omega
     ·obtain rfl:k=qc.length:=by omega
      rw[z5o] at HM
      clear hk hlt
      have hru:=HRU.out
      obtain⟨hrc,hrf⟩:=hru.rules
      have hrl:=hru.lt
      go_wp2
      clear hrc hrf hrl hru
      have HB0:Hid (wr.ownsRow w.heap.size 325 4 (.slice none 0 0) 0 (zcj (List.zipWith zyx (zjt r qm 0) []))):=World.ownsRow_nil _ _ _ _
      have HBP0:Hid (zpd lo w r nts [] 0):=⟨rfl,fun i a=>by omega⟩
      go_loopw [62] (fun v62 wr=>∃(k:Nat) (bv:Value) (bps:List (Value × Nat × List Nat)),k<=r.qm.length/\v62=.int .i64 k/\Hid (zbm lo w wr (w.heap.size+1) jb r (.slice aot r.head.qf.length capt) (sl g qc.length) bv hvs (zd0 r 5) (zp1 qc))/\Hid (HoldsK w.heap.size wr r hvs 5)/\Hid (wr.ownsRow w.heap.size 323 4 (sl g qc.length) qc.length (zcj (zfn pts qc.length qc.length)))/\Hid (wr.ownsRow w.heap.size 325 4 bv k (zcj (List.zipWith zyx (zjt r qm k) bps)))/\Hid (zpd lo w r nts bps k)) (fun i _=>r.qm.length - (intOf i).toNat)
      case atStart=>exact⟨0,_,[],uaj _,rfl,HM,HH,HS,HB0,HBP0⟩
      case round =>
       clear HM HH HS HB0 HBP0 HRU hbk hszk
       obtain⟨k,bv,bps,hk,rfl,HM,HH,HS,HB,HBP⟩:=hrel
       have hbk:=HM.out.below
       have hszk:=hbk.size
       by_cases hlt:k < r.qm.length
       ·have hkn:k < qm.length:=by rw[HNN.out];exact hlt
        have hkt:k < nts.length:=by have:=HN.out.len;omega
        obtain⟨gl,aol,capl,hgl,hgll,hl0,hl1,hlT⟩:=HR.out.qm.cell k hlt
        subst hgl
        obtain⟨gn,capn',hnv,hgn,hnc⟩:=HN.out.cell k hkn hkt
        simp only[Value.slice.injEq] at hnv
        have hnv1:=hnv.1
        clear hnv
        subst hnv1
        have hkk:(k:Int) < (r.qm.length:Int):=by omega
        have hkk2:(k:Int) < (qm.length:Int):=by omega
        have hx0:=(hbk.cell (p:=⟨gl,k * 2,none⟩) hgll).trans hl0
        have hx1:=(hbk.cell (p:=⟨gl,k * 2+1,none⟩) hgll).trans hl1
        have hxn:=(hbk.cell (p:=⟨gn,k,none⟩) hgn).trans hnc
        have hglr:gl < wr.heap.size:=by omega
        have hgnr:gn < wr.heap.size:=by omega
        have hownb:=HB.out
        obtain⟨aob,capb,hbv⟩:=zac hownb
        subst hbv
        have HLT:Hid (zaq lo w (.slice aol r.qm[k].qf.length capl) r.qm[k].qf):=hlT
        have HKN:Hid (∀ W,Below w.heap.size w W->Calls Tryz.prog 222 #[.agg #[.int .i64 (r.qm[k].pred:Nat),.slice aol r.qm[k].qf.length capl]] W fun e w'=>e=.returned (.int .i64 (zdn r.qm[k]:Nat))/\Below W.heap.size W w'):=fun W hW=>zts W _ r.qm[k].pred r.qm[k].qf (hlT.below hW)
        have HBS:Hid (zcj (List.zipWith zyx (zjt r qm (k+1)) (bps++[(.slice aol r.qm[k].qf.length capl,nts[k].1,nts[k].2)]))=zcj (List.zipWith zyx (zjt r qm k) bps)++[.int .i64 (r.qm[k].pred:Nat),.slice aol r.qm[k].qf.length capl,.int .i64 (zdn r.qm[k]:Nat),.pointer (some ⟨nts[k].1,0,none⟩)]):=zyy r qm bps k hlt hkn HBP.out.1 _ _ _
        have HBPS:Hid (zpd lo w r nts (bps++[(.slice aol r.qm[k].qf.length capl,nts[k].1,nts[k].2)]) (k+1)):=HBP.out.snoc hlt hkt hlT
        clear hl0 hl1 hnc hlT HLT
        generalize r.qm[k].pred=pr at *
        generalize r.qm[k].qf.length=tl at *
        generalize zdn r.qm[k]=kn at *
        generalize nts[k].1=tb at *
        generalize nts[k].2=fp at *
        go_upto_region 19 with fail
        have hgr1:Below wr.heap.size wr (wr.alloc (.cells #[.int .i64 (pr:Nat),.slice aol tl capl] 204)):=(by go_grown)
        have hlb1:=Box.new wr #[.int .i64 (pr:Nat),.slice aol tl capl] 204
        have hM1:=HM.out.next hgr1
        have HH1:Hid (HoldsK _ _ r hvs 5):=HH.out.below hgr1
        have HS1:Hid (World.ownsRow _ w.heap.size 323 4 (sl g qc.length) qc.length _):=zaa HS.out hgr1
        have hownb1:=zaa hownb hgr1
        have hxn1:=(hgr1.cell (p:=⟨gn,k,none⟩) hgnr).trans hxn
        clear HM HH HS HB hownb hx0 hx1 hxn
        generalize wr.alloc (.cells #[.int .i64 (pr:Nat),.slice aol tl capl] 204)=w1 at *
        generalize wr.heap.size=lb at *
        clear hgr1 hbk
        have hb1:=hM1.below
        obtain⟨h1l,h1f,_,h14,_,_,_⟩:=hM1.cells
        obtain⟨hlc,hlf⟩:=hlb1.rules
        have hlbl:=hlb1.lt
        have HM1:Hid (zbm lo w w1 (w.heap.size+1) jb r (.slice aot r.head.qf.length capt) (sl g qc.length) (.slice aob k capb) hvs (zd0 r 5) (zp1 qc)):=hM1
        clear hM1
        have hz1:=hb1.size
        refine wp_region_noPanic ?_
        refine zo9 (S:=fun w'=>w'.cell? ⟨jb,4,none⟩=some (.slice aob k capb)/\w'.cell? ⟨lb,0,none⟩=some (.int .i64 (pr:Nat))/\w'.cell? ⟨lb,1,none⟩=some (.slice aol tl capl)/\w'.cell? ⟨gn,k,none⟩=some (.pointer (some ⟨tb,0,none⟩))) (d:=13) (by kernel_rfl) (by refine⟨h14,?_,?_,hxn1⟩ <;> (show w1.cell? _=_;rw[hlc];rfl)) (fun hHeld=>?_)
        refine zan (i:=0) (v:=?v0) rfl (by kernel_rfl) (by kernel_rfl) (by kernel_rfl) (by kernel_rfl) (fun _ _ _ h=>h) (Or.inl ⟨by rfl,?hy0⟩) hHeld ?rest0
        case hy0 =>
         intro wq hSw
         go_simp
         (try with_reducible rfl)
        refine zan (i:=1) (v:=?v1) rfl (by kernel_rfl) (by kernel_rfl) (by kernel_rfl) (by kernel_rfl) (fun _ _ _ h=>h) (Or.inl ⟨by rfl,?hy1⟩) hHeld ?rest1
        case hy1 =>
         intro wq hSw
         go_simp
         (try with_reducible rfl)
        refine zan (i:=2) (v:=?v2) rfl (by kernel_rfl) (by kernel_rfl) (by kernel_rfl) (by kernel_rfl) (fun _ _ _ h=>h) (Or.inl ⟨by rfl,?hy2⟩) hHeld ?rest2
        case hy2 =>
         intro wq hSw
         go_simp
         (try with_reducible rfl)
        refine zan (i:=3) (v:=?v3) rfl (by kernel_rfl) (by kernel_rfl) (by kernel_rfl) (by kernel_rfl) (fun _ _ _ h=>h) (Or.inl ⟨by rfl,?hy3⟩) hHeld ?rest3
        case hy3 =>
         intro wq hSw
         go_simp
         (try with_reducible rfl)
        refine zan (i:=5) (v:=?v5) rfl (by kernel_rfl) (by kernel_rfl) (by kernel_rfl) (by kernel_rfl) (fun _ _ _ h=>h) (Or.inl ⟨by rfl,?hy5⟩) hHeld ?rest5
        case hy5 =>
         intro wq hSw
         go_simp
         (try with_reducible rfl)
        refine zan (i:=6) (v:=?v6) rfl (by kernel_rfl) (by kernel_rfl) (by kernel_rfl) (by kernel_rfl) (fun _ _ _ h=>h) (Or.inl ⟨by rfl,?hy6⟩) hHeld ?rest6
        case hy6 =>
         intro wq hSw
         go_simp
         (try with_reducible rfl)
        refine zan (i:=7) (v:=?v7) rfl (by kernel_rfl) (by kernel_rfl) (by kernel_rfl) (by kernel_rfl) (fun _ _ _ h=>h) (Or.inl ⟨by rfl,?hy7⟩) hHeld ?rest7
        case hy7 =>
         intro wq hSw
         go_simp
         (try with_reducible rfl)
        refine zan (i:=8) (v:=?v8) rfl (by kernel_rfl) (by kernel_rfl) (by kernel_rfl) (by kernel_rfl) (fun _ _ _ h=>h) (Or.inl ⟨by rfl,?hy8⟩) hHeld ?rest8
        case hy8 =>
         intro wq hSw
         go_simp
         (try with_reducible rfl)
        refine zc8 (i:=4) (by kernel_rfl) rfl (fun K hK=>?_)
        go_simp
        refine(HKN.out _ (by exact(zau hb1 1))).mono ?_
        rintro e w2 ⟨rfl,hb2⟩
        have hB2:Below w1.heap.size w1 w2:=zae (zau (Below.refl _ _) 1) hb2 (uaa _)
        have hM2:=HM1.out.next hB2
        have HH2:Hid (HoldsK _ _ r hvs 5):=HH1.out.below hB2
        have HS2:Hid (World.ownsRow w2 w.heap.size 323 4 (sl g qc.length) qc.length _):=zaa HS1.out hB2
        have hownb2:=zaa hownb1 hB2
        have hlb2:=hlb1.below hB2
        have hxn2:=(hB2.cell (p:=⟨gn,k,none⟩) (show gn < w1.heap.size by omega)).trans hxn1
        have hz2:=hB2.size
        have hb2':=hM2.below
        obtain⟨h2l,h2f,_,h24,_,_,_⟩:=hM2.cells
        have HM2:Hid (zbm lo w w2 (w.heap.size+1) jb r (.slice aot r.head.qf.length capt) (sl g qc.length) (.slice aob k capb) hvs (zd0 r 5) (zp1 qc)):=hM2
        obtain⟨hl2c,hl2f⟩:=hlb2.rules
        refine hK.out _ _ (fun _=>⟨h24,by rw[hl2c];rfl,by rw[hl2c];rfl,hxn2⟩) ?_
        have hHeld2:w2.cell? ⟨jb,4,none⟩=some (.slice aob k capb)/\w2.cell? ⟨lb,0,none⟩=some (.int .i64 (pr:Nat))/\w2.cell? ⟨lb,1,none⟩=some (.slice aol tl capl)/\w2.cell? ⟨gn,k,none⟩=some (.pointer (some ⟨tb,0,none⟩)):=⟨h24,by rw[hl2c];rfl,by rw[hl2c];rfl,hxn2⟩
        clear hK K hHeld hM2 hlc hlf h1l h1f h14 hxn1 HM1 HH1 HS1 hb2 hl2c hl2f HKN
        refine zan (i:=9) (v:=?v9) rfl (by kernel_rfl) (by kernel_rfl) (by kernel_rfl) (by kernel_rfl) (fun _ _ _ h=>h) (Or.inl ⟨by rfl,?hy9⟩) hHeld2 ?rest9
        case hy9 =>
         intro wq hSw
         go_simp
         (try with_reducible rfl)
        refine zc8 (i:=10) (by kernel_rfl) rfl (fun K hK=>?_)
        go_simp
        refine hK.out _ _ (fun _=>?hS10) ?rest10
        case hS10=>obtain⟨q0,q1,q2,q3⟩:=hHeld2;refine⟨?_,?_,?_,?_⟩ <;> (rw[World.cell?_alloc_lt _ _ _ (by simp;omega)];assumption)
        clear hK K
        refine zc8 (i:=11) (by kernel_rfl) rfl (fun K hK=>?_)
        refine zfz w2 _ [.int .i64 (pr:Nat),.slice aol tl capl,.int .i64 (kn:Nat),.pointer (some ⟨tb,0,none⟩)] 325 rfl (.tmp 72) (.tmp 81) 306 rfl w.heap.size 325 iB _ 4 48 Tryz.underlying306 hiB hzB hzsB hzbB rfl (by decide) (.slice aob k capb) k (zcj (List.zipWith zyx (zjt r qm k) bps)) (by simp[Act.eval]) hownb2 (by exact(by go_grown)) w2.heap.size 1 (by simp[Act.eval]) (by exact Box.new _ _ _) rfl (by simp[Value.oneCell']) (by omega) (by omega) (by omega) ?_
        intro v' w3 ho3 hS3 hat3 hk3 hz3'
        obtain⟨aov,capv,rfl⟩:=zac ho3
        have hMB:OfT w2 325 (Value.ownBlock (.slice aob k capb)).toList:=OfT.own hownb2
        have hM3:=HM2.out.save hS3 (fun x hx=>zeg hownb2 (zcy hx)) ⟨zdu hownb2 HM2.out.box (by decide),fun hm=>by obtain⟨c,hc,_⟩:=HM2.out.res;exact zdu hownb2 hc (by decide) hm⟩
        have hlb3:=hlb2.saveT hS3 hMB (by decide)
        have hh3:=HH2.out.saveT hS3 hMB (by decide)
        have hs3:=zaj HS2.out hS3 hMB (by decide)
        obtain⟨hl3c,hl3f⟩:=hlb3.rules
        obtain⟨h3l,h3f,_,h34,_,_,_⟩:=hM3.cells
        have hxn3:=(hM3.below.cell (p:=⟨gn,k,none⟩) hgn).trans ((hb2'.cell (p:=⟨gn,k,none⟩) hgn).symm.trans hxn2)
        have hHeld3:w3.cell? ⟨jb,4,none⟩=some (.slice aob k capb)/\w3.cell? ⟨lb,0,none⟩=some (.int .i64 (pr:Nat))/\w3.cell? ⟨lb,1,none⟩=some (.slice aol tl capl)/\w3.cell? ⟨gn,k,none⟩=some (.pointer (some ⟨tb,0,none⟩)):=⟨h34,by rw[hl3c];rfl,by rw[hl3c];rfl,hxn3⟩
        refine hK.out _ _ (fun _=>hHeld3) ?_
        clear hK K hHeld2
        refine zan (i:=12) (v:=?v12) rfl (by kernel_rfl) (by kernel_rfl) (by kernel_rfl) (by kernel_rfl) (fun _ _ _ h=>h) (Or.inl ⟨by rfl,?hy12⟩) hHeld3 ?rest12
        case hy12 =>
         intro wq hSw
         go_simp
         (try with_reducible rfl)
        refine zc8 (i:=13) (by kernel_rfl) rfl (fun K hK=>?_)
        go_simp
        refine hK.out _ _ (fun hq=>absurd rfl hq) ?_
        clear hK K
        refine zkp (by kernel_rfl) ?_ _
        refine NoPanic.normal ?_
        have hs4:zas [jb] w3 (w3.setCell ⟨jb,4,none⟩ (.slice aov (k+1) capv)):=zas.set _ _ _ _
        have hMj:=OfT.box hM3.box
        have hM4:=hM3.bars (.slice aov (k+1) capv)
        have hh4:=hh3.saveT hs4 hMj (by decide)
        have hs4':=zaj hs3 hs4 hMj (by decide)
        have ho4:=zaj ho3 hs4 hMj (by decide)
        rw[← HBS.out] at ho4
        clear hHeld3 hl3c hl3f h3l h3f h34 hxn3
        go_wp2
        go_roundw
        case rel=>exact⟨k+1,_,_,by omega,by go_num,hM4,hh4,hs4',ho4,HBPS⟩
        case measure=>simp[intOf];omega
       ·have hke:k=r.qm.length:=by omega
        subst hke
        clear hk hlt
        have hJ:JIn lo wr jb (za9 r qc qm (zp1 qc)) ⟨.slice aot r.head.qf.length capt,sl g qc.length,bv,hvs,pts,bps⟩:=zhf.join (zxs hbk HLO.out HR.out HP.out HN.out HNN.out HM.out.hlen HH.out HS.out HB.out HBP.out) (by have:=HLO.out;omega) HM.out.box
        have HBA:Hid (Calls Tryz.prog 223 #[.pointer (some ⟨jb,0,none⟩),.int .i64 0] wr fun e w'=>e=.returned (.bool (zb3 (za9 r qc qm (zp1 qc)) 0))/\Below wr.heap.size wr w'):=zpv wr jb _ _ 0 hJ
        have HJN:Hid (za3 r qc qm=if zb3 (za9 r qc qm (zp1 qc)) 0 then za9 r qc qm (-1) else za9 r qc qm (zp1 qc)):=zzo r qc qm
        have HJM:Hid (∀(W:World) (d:Int),Below w.heap.size w W->HoldsK w.heap.size W r hvs 5->W.ownsRow w.heap.size 323 4 (sl g qc.length) qc.length (zcj (zfn pts qc.length qc.length))->W.ownsRow w.heap.size 325 4 bv r.qm.length (zcj (List.zipWith zyx (zjt r qm r.qm.length) bps))->zhf lo W (za9 r qc qm d) ⟨.slice aot r.head.qf.length capt,sl g qc.length,bv,hvs,pts,bps⟩):=fun W d hW h1 h2 h3=>zxs hW HLO.out HR.out HP.out HN.out HNN.out HM.out.hlen h1 h2 h3 HBP.out
        have HBPS:Hid (bps.map (·.2)=nts):=zpd.all HBP.out (by have:=HN.out.len;have:=HNN.out;omega)
        obtain⟨aobv,capbv,hbv⟩:=zac HB.out
        clear hJ
        generalize zb3 (za9 r qc qm (zp1 qc)) 0=ba at *
        cases ba with
        |true =>
         simp only[if_true] at HJN
         go_upto_region 23 with (first|(go_at_call 223;refine HBA.out.mono ?_;rintro e w2 ⟨rfl,hb2⟩;have hM2:=HM.out.next hb2;obtain⟨h2l,h2f,_,_,h226,_,_⟩:=hM2.cells))
         have hs3:zas [jb] w2 (w2.setCell ⟨jb,26,none⟩ (.int .i64 (-1))):=zas.set _ _ _ _
         have hMj:=OfT.box hM2.box
         have hM3:=hM2.qp (-1)
         have hh3:=(HH.out.below hb2).saveT hs3 hMj (by decide)
         have hS3:=zaj (zaa HS.out hb2) hs3 hMj (by decide)
         have hB3:=zaj (zaa HB.out hb2) hs3 hMj (by decide)
         generalize w2.setCell ⟨jb,26,none⟩ (.int .i64 (-1))=w3 at *
         clear h2l h2f h226 hs3 hMj hM2 hb2
         have hone:∀ u∈jc r (.slice aot r.head.qf.length capt) (sl g qc.length) bv hvs (zd0 r 5) (-1),u.oneCell'=true:=z7n rfl rfl (by rw[hbv];rfl) (HoldsK.one hh3 hM3.hlen)
         have hlen:=z7m r (.slice aot r.head.qf.length capt) (sl g qc.length) bv hvs (zd0 r 5) (-1) hM3.hlen hM3.blen
         have hM':=hM3
         have hJM:=HJM.out w3 (-1) hM3.below hh3 hS3 hB3
         have hjc:(jc r (.slice aot r.head.qf.length capt) (sl g qc.length) bv hvs (zd0 r 5) (-1))=zca (za9 r qc qm (-1)) ⟨.slice aot r.head.qf.length capt,sl g qc.length,bv,hvs,pts,bps⟩:=rfl
         have HJC:Hid (jc r (.slice aot r.head.qf.length capt) (sl g qc.length) bv hvs (zd0 r 5) (-1)=zca (za9 r qc qm (-1)) ⟨.slice aot r.head.qf.length capt,sl g qc.length,bv,hvs,pts,bps⟩):=hjc
         clear hjc
         have hbx:=hM3.box
         generalize jc r (.slice aot r.head.qf.length capt) (sl g qc.length) bv hvs (zd0 r 5) (-1)=cs at *
         refine wp_region_lit ?_
         refine wpList_load_mid rfl 310 (.tmp 7) rfl jb 0 (by rfl) cs _ (hbx.range) Tryz.underlying310 rfl (by rw[hlen];exact Tryz.infoJoin) ?_
         refine wpList_store_mid rfl 310 (.tmp 6) (.tmp 87) rfl (w.heap.size+1) 0 cs.toArray (by rfl) (by rfl) (by show World.there _ _ 0 cs.length;rw[hlen];exact(zhz hM').there) (by show _=some cs.length;rw[hlen];exact Tryz.infoJoin) (all_oneCell_toArray hone) ?_
         refine wpList_nil ?_
         have hs4:zas [w.heap.size+1] w3 (w3.setCells (w.heap.size+1) 0 cs):=zas.sets _ _ _ _
         have hb6:Box (w3.setCells (w.heap.size+1) 0 cs) (w.heap.size+1) cs.toArray 310:=zji (zhz hM') hlen
         have hJ4:=hJM.saveJ hs4 (OfT.box (zhz hM').choose_spec.1)
         have hb4:Below w.heap.size w (w3.setCells (w.heap.size+1) 0 cs):=hM3.below.trans (hs4.below (by simp) hM3.below.size)
         generalize w3.setCells (w.heap.size+1) 0 cs=w5 at *
         go_wp2
         (try simp only[Exit.inBlock,Exit.then])
         refine bodyPost_ret (v:=.agg cs.toArray) (zhc rfl _ _ _ _ _ (by rfl) (run_loadVar_mid w5 (w.heap.size+1) 0 310 cs _ hb6.range Tryz.underlying310 rfl (by rw[hlen];exact Tryz.infoJoin))) rfl ⟨_,by rw[HJN.out,HJC.out],by rw[HJN.out];exact hJ4,rfl,HBPS.out,hb4⟩
        |false =>
         simp only[ubr,if_false] at HJN
         go_upto_region 23 with (first|(go_at_call 223;refine HBA.out.mono ?_;rintro e w2 ⟨rfl,hb2⟩))
         have hM3:=HM.out.next hb2
         have hh3:=HH.out.below hb2
         have hS3:=zaa HS.out hb2
         have hB3:=zaa HB.out hb2
         have hone:∀ u∈jc r (.slice aot r.head.qf.length capt) (sl g qc.length) bv hvs (zd0 r 5) (zp1 qc),u.oneCell'=true:=z7n rfl rfl (by rw[hbv];rfl) (HoldsK.one hh3 hM3.hlen)
         have hlen:=z7m r (.slice aot r.head.qf.length capt) (sl g qc.length) bv hvs (zd0 r 5) (zp1 qc) hM3.hlen hM3.blen
         have hM':=hM3
         have hJM:=HJM.out w2 (zp1 qc) hM3.below hh3 hS3 hB3
         have hjc:(jc r (.slice aot r.head.qf.length capt) (sl g qc.length) bv hvs (zd0 r 5) (zp1 qc))=zca (za9 r qc qm (zp1 qc)) ⟨.slice aot r.head.qf.length capt,sl g qc.length,bv,hvs,pts,bps⟩:=rfl
         have HJC:Hid (jc r (.slice aot r.head.qf.length capt) (sl g qc.length) bv hvs (zd0 r 5) (zp1 qc)=zca (za9 r qc qm (zp1 qc)) ⟨.slice aot r.head.qf.length capt,sl g qc.length,bv,hvs,pts,bps⟩):=hjc
         clear hjc
         have hbx:=hM3.box
         generalize jc r (.slice aot r.head.qf.length capt) (sl g qc.length) bv hvs (zd0 r 5) (zp1 qc)=cs at *
         refine wp_region_lit ?_
         refine wpList_load_mid rfl 310 (.tmp 7) rfl jb 0 (by rfl) cs _ (hbx.range) Tryz.underlying310 rfl (by rw[hlen];exact Tryz.infoJoin) ?_
         refine wpList_store_mid rfl 310 (.tmp 6) (.tmp 87) rfl (w.heap.size+1) 0 cs.toArray (by rfl) (by rfl) (by show World.there _ _ 0 cs.length;rw[hlen];exact(zhz hM').there) (by show _=some cs.length;rw[hlen];exact Tryz.infoJoin) (all_oneCell_toArray hone) ?_
         refine wpList_nil ?_
         have hs4:zas [w.heap.size+1] w2 (w2.setCells (w.heap.size+1) 0 cs):=zas.sets _ _ _ _
         have hb6:Box (w2.setCells (w.heap.size+1) 0 cs) (w.heap.size+1) cs.toArray 310:=zji (zhz hM') hlen
         have hJ4:=hJM.saveJ hs4 (OfT.box (zhz hM').choose_spec.1)
         have hb4:Below w.heap.size w (w2.setCells (w.heap.size+1) 0 cs):=hM3.below.trans (hs4.below (by simp) hM3.below.size)
         generalize w2.setCells (w.heap.size+1) 0 cs=w5 at *
         go_wp2
         (try simp only[Exit.inBlock,Exit.then])
         refine bodyPost_ret (v:=.agg cs.toArray) (zhc rfl _ _ _ _ _ (by rfl) (run_loadVar_mid w5 (w.heap.size+1) 0 310 cs _ hb6.range Tryz.underlying310 rfl (by rw[hlen];exact Tryz.infoJoin))) rfl ⟨_,by rw[HJN.out,HJC.out],by rw[HJN.out];exact hJ4,rfl,HBPS.out,hb4⟩
end Go.Proofs.YteampbddflhngaaGreat
