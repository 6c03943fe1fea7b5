import Derived.Deep.MidRow
import Derived.Test.YteampbddflhngaaGreatV32
namespace Go.Proofs.YteampbddflhngaaGreat
set_option linter.all false
set_option maxRecDepth 100000
set_option maxHeartbeats 4000000
open Go.Proofs.Tryz Go.RowKit
section
variable {lo:Nat}{W w w':World}{cs hvs:List Value}{r:zr}{jb k:Nat}{nts:List (Nat×List Nat)}{bps:List (Value×Nat×List Nat)}{tv sv bv:Value}{jg:List Int}{d:Int}
def un(W:World)(b:Nat):Prop:=∃c:Array Value,OZ W b c 310/\c.size=28
def kF(W:World)(b:Nat)(cs:List Value):World:=W.setCells b 0 cs
theorem OZ.sets{T:TypeId}{b:Nat}:∀(vs:List Value) (o:Nat) (w:World) (l:List Value),OZ w b l.toArray T->o+vs.length=l.length->OZ (w.setCells b o vs) b (l.take o++vs).toArray T
 |[],o,w,l,h,e=>by
  simp at e;subst e;simpa [World.setCells] using h
 |v::r,o,w,l,h,e=>by
  simp only[yZ] at e;have a:OZ (w.setCell ⟨b,o,none⟩ v) b (l.set o v).toArray T:=by simpa using h.set o v
  have:=OZ.sets r (o+1) _ _ a (by simp;omega);rw[World.setCells];rw[show l.take o++v::r=(l.set o v).take (o+1)++r from by
   rw[List.take_set,yM (by omega:o<l.length),fA _ _ (by simp;omega)];simp[Nat.min_eq_left (show o<=l.length by omega)]]
  exact this
theorem n6{b:Nat}(h:un W b)(e:cs.length=28):OZ (kF W b cs) b cs.toArray 310:=by
 obtain⟨c,a,f⟩:=h;have:=OZ.sets cs 0 W c.toList (by simpa using a) (by simp;omega);simpa [kF] using this
theorem zd.sets(b:Nat):∀(vs:List Value) (o:Nat) (w:World),zd [b] w (w.setCells b o vs)
 |[],_,w=>zd.refl _ w
 |v::r,o,w=>(zd.set w b o v).trans (zd.sets b r (o+1) _)
theorem ry(W:World)(b:Nat)(cs:List Value):zd [b] W (kF W b cs):=zd.sets b cs 0 W
theorem jT(W:World)(b:Nat)(cs:List Value)(b' o:Nat)(h:b'≠b):(kF W b cs).cell? ⟨b',o,none⟩=W.cell? ⟨b',o,none⟩:=World.cell?_setCells_out b cs 0 W _ fun e=>zC e h
theorem un.there{W:World}{b:Nat}(h:un W b):W.there b 0 28:=fun j g=>by
 obtain⟨c,a,i⟩:=h;obtain⟨e,f⟩:=a.rules;rw[uL];exact⟨by rw[e,Array.getElem?_eq_getElem (by omega)];rfl,f j⟩
def bj(p vs c:Int)(f e:Option Addr)(a b g h:Nat):List Value:=[.int .i64 p,.slice f a b,.int .i64 vs,.slice e g h,.slice none 0 0,.slice none 0 0,.slice none 0 0,.slice none 0 0,.slice none 0 0,.slice none 0 0,.int .i64 0,.int .i64 0,.int .i64 0,.int .i64 0,.int .i64 0,.int .i64 c,.int .i64 0,.int .i64 0,.int .i64 0,.int .i64 0,.int .i64 0,.int .i64 0,.int .i64 0,.int .i64 0,.int .i64 0,.int .i64 0,.int .i64 0,.int .i64 0]
theorem rt(p vs c:Int)(f e:Option Addr)(a b g h:Nat):Value.agg #[.int .i64 p,.slice f a b,.int .i64 vs,.slice e g h,.slice none 0 0,.slice none 0 0,.slice none 0 0,.slice none 0 0,.slice none 0 0,.slice none 0 0,.int .i64 0,.int .i64 0,.int .i64 0,.int .i64 0,.int .i64 0,.int .i64 c,.int .i64 0,.int .i64 0,.int .i64 0,.int .i64 0,.int .i64 0,.int .i64 0,.int .i64 0,.int .i64 0,.int .i64 0,.int .i64 0,.int .i64 0,.int .i64 0]=.agg (bj p vs c f e a b g h).toArray:=rfl
theorem Hi(p vs c:Int)(f e:Option Addr)(a b g h:Nat):(bj p vs c f e a b g h).length=28:=rfl
theorem Ko(p vs c:Int)(f e:Option Addr)(a b g h:Nat)(q:Int):(bj p vs c f e a b g h).set 0 (.int .i64 q)=bj q vs c f e a b g h:=rfl
theorem JA(p vs b:Int)(j e:Option Addr)(h i f g:Nat)(a:Option Addr)(n c:Nat):(bj p vs b j e h i f g).set 1 (.slice a n c)=bj p vs b a e n c f g:=rfl
theorem Gz(p vs c:Int)(f e:Option Addr)(a b g h:Nat)(q:Int):(bj p vs c f e a b g h).set 2 (.int .i64 q)=bj p q c f e a b g h:=rfl
theorem Gi(p vs f:Int)(g h:Option Addr)(b e i j:Nat)(a:Option Addr)(n c:Nat):(bj p vs f g h b e i j).set 3 (.slice a n c)=bj p vs f g a b e n c:=rfl
theorem Kj(p vs h:Int)(e c:Option Addr)(a b f g:Nat)(q:Int):(bj p vs h e c a b f g).set 15 (.int .i64 q)=bj p vs q e c a b f g:=rfl
theorem un.lt{W:World}{b:Nat}(h:un W b):b<W.heap.size:=by obtain⟨c,a,_⟩:=h;exact a.lt
theorem OK(W:World)(b:Nat)(p vs f:Int)(i g:Option Addr)(a c l m:Nat)(h:un W b):(storeCells ⟨b,0,none⟩ (bj p vs f i g a c l m)).run prog W=.ok () (kF W b (bj p vs f i g a c l m)):=
 run_storeCells_cells (P:=prog) b 0 (bj p vs f i g a c l m) 0 W (fun j e=>(h.there j e).1) (fun j e=>(h.there j e).2) (by simp[bj,Value.oneCell'])
theorem Ad(w:World)(b:Nat)(p vs e:Int)(g f:Option Addr)(a c i j:Nat)(h:b=w.heap.size):un (w.alloc (.cells (bj p vs e g f a c i j).toArray 310)) b:=⟨_,OZ.newAt _ _ _ _ h,rfl⟩
theorem ib(w:World)(b:Nat)(o:Obj)(h:un w b):un (w.alloc o) b:=by obtain⟨c,e,a⟩:=h;exact⟨c,e.below ((zo _ _).alloc (zh _) o),a⟩
theorem Ob(w:World)(b:Nat):un w.drew b↔un w b:=Iff.rfl
theorem pd(w:World)(p vs c:Int)(f e:Option Addr)(a b g h:Nat):un (w.alloc (.cells (bj p vs c f e a b g h).toArray 310)) w.heap.size:=Ad _ _ _ _ _ _ _ _ _ _ _ rfl
theorem Ay(w:World)(o:Obj)(p vs c:Int)(f e:Option Addr)(a b g h:Nat):un ((w.alloc o).alloc (.cells (bj p vs c f e a b g h).toArray 310)) (w.heap.size+1):=Ad _ _ _ _ _ _ _ _ _ _ _ (by simp)
theorem tc(w:World)(o:Obj)(p vs c:Int)(f e:Option Addr)(a b g h:Nat):un ((w.alloc (.cells (bj p vs c f e a b g h).toArray 310)).alloc o) w.heap.size:=ib _ _ _ (pd _ _ _ _ _ _ _ _ _ _)
theorem sH.mk'{a:World}{f:Option Addr}{b c n g:Nat}(j:un W jb)(i:OZ W g (madeCells #[.pointer none,.int .i64 0,.int .i64 0,.int .i64 0] (n*4)) 323)(l:jb≠g)(m:a.heap.size<=jb)(h:a.heap.size<=g)(e:Below a.heap.size a W):sH a (kF W jb (bj (r.head.pred:Nat) (r.vars:Nat) (xE r r.vars) f (some ⟨g,0,none⟩) b c n n)) r (.slice f b c) n (.pointer (some ⟨jb,0,none⟩)):=by
 refine⟨jb,g,rfl,m,h,n6 j rfl,i.save (ry _ _ _) (by simp;omega),e.trans ((ry _ _ _).below (by simp;omega) e.size)⟩
attribute [local go_sem] rt Hi Ko JA Gz Gi Kj OK pd Ay tc ib Ob
def ln(qc:List zi)(k:Nat):Int:=if (qc.take k).any (fun T=>T.count == 0) then -1 else 0
theorem IY(qc:List zi)(k:Nat)(a:k<qc.length):ln qc (k+1)=if qc[k].count=0 then -1 else ln qc k:=by
 unfold ln;rw[yM a,List.any_append];by_cases h:qc[k].count=0
 ·simp[h]
 ·simp[h]
theorem Jo(qc:List zi):ln qc qc.length=kr qc:=by simp[ln,kr]
theorem B6(Pu:List (Nat×List Nat))(n k:Nat)(a:k<=n)(b:n=Pu.length):(qs Pu n k).length=n:=by simp[qs];omega
theorem Jy(Pu:List (Nat×List Nat))(n k:Nat)(g:k<n)(c:Pu.length=n):(yw (qs Pu n k)).set (k*4) (.pointer (some ⟨(Pu[k]'(by omega)).1,0,none⟩))=yw (qs Pu n (k+1)):=by
 rw[Aq _ _ (by rw[B6 Pu n k (by omega) c.symm];exact g)];congr 1;unfold qs;obtain⟨m,f⟩:∃m,n-k=m+1:=⟨n-k-1,by omega⟩;rw[f,pN,show n-(k+1)=m from by omega,yM (show k<Pu.length by omega),vB,ki];have a:((Pu.take k).map (fun x=>(QP x.1,Value.int .i64 0,Value.int .i64 0,Value.int .i64 0))).length=k:=by simp;omega
 apply mo;intro i;rw[List.getElem?_modify];by_cases e:k=i
 ·subst e;rw[g6 (by omega),g6 (by omega),a,jK];simp[ii,QP]
 ·rcases gA i k with h|h
  ·rw[tT (by omega),tT (by omega)];simp[e]
  ·rw[g6 (by omega),g6 (by omega),a];obtain⟨j,b⟩:∃j,i-k=j+1:=⟨i-k-1,by omega⟩;rw[b];simp[e]
def j8(r:zr)(qp:List zi)(k:Nat):List sT:=((r.qp.zip qp).take k).map fun x=>⟨x.1,uC x.1,x.2⟩
theorem Hb(r:zr)(qp:List zi)(k:Nat)(b:k<r.qp.length)(a:k<qp.length):j8 r qp (k+1)=j8 r qp k++[⟨r.qp[k],uC r.qp[k],qp[k]⟩]:=by
 unfold j8;rw[yM (by simp;omega),vB];simp
theorem EJ(r:zr)(qp:List zi)(k:Nat)(b:k<=r.qp.length)(a:k<=qp.length):(j8 r qp k).length=k:=by simp[j8];omega
theorem NF(r:zr)(qp:List zi)(bps:List (Value×Nat×List Nat))(k:Nat)(b:k<r.qp.length)(a:k<qp.length)(c:bps.length=k)(tv:Value)(tb:Nat)(fp:List Nat):yw (List.zipWith gi (j8 r qp (k+1)) (bps++[(tv,tb,fp)]))=yw (List.zipWith gi (j8 r qp k) bps)++[.int .i64 (r.qp[k].pred:Nat),tv,.int .i64 (uC r.qp[k]:Nat),.pointer (some ⟨tb,0,none⟩)]:=by
 rw[Hb r qp k b a,eL (by rw[EJ r qp k (by omega) (by omega),c])];simp only[ly,List.zipWith_nil_right];rw[Ky];rfl
def fZ(lo:Nat)(w:World)(r:zr)(nts:List (Nat×List Nat))(bps:List (Value×Nat×List Nat))(k:Nat):Prop:=bps.length=k/\∀i (_:i<k) (b:i<bps.length) (c:i<r.qp.length) (a:i<nts.length),yh lo w bps[i].1 r.qp[i].qg/\bps[i].2=nts[i]
theorem fZ.snoc(h:fZ lo w r nts bps k)(m:k<r.qp.length)(l:k<nts.length)(j:yh lo w tv r.qp[k].qg):fZ lo w r nts (bps++[(tv,nts[k].1,nts[k].2)]) (k+1):=by
 obtain⟨f,g⟩:=h;refine⟨by simp[f],fun i a b c d=>?_⟩;by_cases e:i<k
 ·rw[uT (by omega)];exact g i e (by omega) c d
 ·obtain rfl:i=k:=by omega
  simp only[←f,pR];subst f;exact⟨j,trivial⟩
def Pv(B:Nat)(w:World)(r:zr)(hvs:List Value)(k:Nat):Prop:=∀p (_:p<k) (_:p<hvs.length),w.ownsRow B 327 2 hvs[p] (xy r p).length (jP (xy r p))
theorem Pv.below{B:Nat}(h:Pv B w r hvs k)(c:Below w.heap.size w w'):Pv B w' r hvs k:=fun p a b=>zE (h p a b) c
theorem Pv.saveT{B:Nat}{T:TypeId}{M:List Nat}(h:Pv B w r hvs k)(f:zd M w w')(e:Px w T M)(c:327≠T):Pv B w' r hvs k:=fun p a b=>yE (h p a b) f e c
theorem Pv.set{B:Nat}{w:World}{r:zr}{hvs:List Value}{k:Nat}{c:Value}(h:Pv B w r hvs k)(f:w.ownsRow B 327 2 c (xy r k).length (jP (xy r k))):Pv B w r (hvs.set k c) (k+1):=fun p a b=>by
 by_cases e:p=k
 ·subst e;rw[mV];exact f
 ·rw[mU (Ne.symm e)];exact h p (by omega) (by simpa using b)
theorem ve.cells{c:World}{l:Nat}(h:ve lo c w l jb r tv sv bv hvs jg d):jb<w.heap.size/\(∀o,w.frozen? ⟨jb,o,none⟩=false)/\w.cell? ⟨jb,3,none⟩=some sv/\w.cell? ⟨jb,4,none⟩=some bv/\w.cell? ⟨jb,26,none⟩=some (.int .i64 d)/\(∀k,k<5->w.cell? ⟨jb,5+k,none⟩=some (hvs.getD k (.bool false)))/\(∀k,k<5->w.cell? ⟨jb,10+k,none⟩=some (.int .i64 (jg.getD k 0))):=by
 obtain⟨a,m⟩:=h.box.rules;obtain⟨j,g,e,i,f⟩:=GI (r:=r) (tv:=tv) (sv:=sv) (bv:=bv) (d:=d) h.hlen h.blen;exact⟨h.box.lt,m,(a _).trans j,(a _).trans g,(a _).trans e,fun k b=>(a _).trans (i k b),fun k b=>(a _).trans (f k b)⟩
theorem KV(qc:List zi)(Pu:List (Nat×List Nat))(h:Pu.length=qc.length):qs Pu qc.length qc.length=List.zipWith gD (qc.map fun T=>(⟨T,[0,0,0]⟩:xC)) Pu:=by
 apply mo;intro i;rw[List.getElem?_zipWith];by_cases a:i<qc.length
 ·simp[qs,←h,gD,QP,List.getElem?_map,List.getElem?_eq_getElem (show i<qc.length from a),List.getElem?_eq_getElem (show i<Pu.length by omega)]
 ·simp[qs,←h,List.getElem?_eq_none (show qc.length<=i by omega),List.getElem?_eq_none (show Pu.length<=i by omega)]
theorem ME(r:zr)(qp:List zi)(h:qp.length=r.qp.length):j8 r qp r.qp.length=(r.qp.zip qp).map fun x=>⟨x.1,uC x.1,x.2⟩:=by
 unfold j8;rw[xk (by simp;omega)]
theorem fZ.all(h:fZ lo w r nts bps k)(e:k=nts.length/\k=r.qp.length):bps.map (·.2)=nts:=by
 obtain⟨b,c⟩:=h;apply kJ
 ·simp[b,e.1]
 ·intro i f a;rw[vO];exact(c i (by omega) (by omega) (by omega) a).2
theorem Eu{E z:Nat}{A B n l:Value}{g:Nat}{qc qp:List zi}{Pu:List (Nat×List Nat)}(j:Below w.heap.size w W)(c:lo<=w.heap.size)(h:uP lo w tv A B r)(s:fc E lo w n qc Pu)(t:fc z lo w l qp nts)(m:qp.length=r.qp.length)(y:hvs.length=5)
  (C:Pv w.heap.size W r hvs 5) (u:W.ownsRow w.heap.size 323 4 (sl g qc.length) qc.length (yw (qs Pu qc.length qc.length))) (v:W.ownsRow w.heap.size 325 4 bv r.qp.length (yw (List.zipWith gi (j8 r qp r.qp.length) bps))) (f:fZ lo w r nts bps r.qp.length):jz lo W (uV r qc qp d) ⟨tv,sl g qc.length,bv,hvs,Pu,bps⟩:=by
 have e:=s.len;have G:=t.len;have F:=f.1;have i:((r.qp.zip qp).map fun x=>(⟨x.1,uC x.1,x.2⟩:sT)).length=r.qp.length:=by simp;omega
 refine⟨h.head.below j,?_,by simp[uV,e],?_,by simp[uV],?_,by simp only[uV];omega,?_,⟨y,by simp[uV]⟩,?_,by simp[uV],?_⟩
 ·rw[KV qc Pu e] at u;have:=yr u c;simpa [uV] using this
 ·intro k a b;simp only[uV,uH] at a;have:=(s.tries k a b).below j;simpa [uV] using this
 ·rw[ME r qp m] at v;have:=yr v c;simp only[uV];rw[i];exact this
 ·intro k a b;simp only[uV] at a;rw[i] at a;obtain⟨H,o⟩:=f.2 k a b a (by omega);have D:=(t.tries k (by omega) (by omega)).below j;simp only[uV,vO,List.getElem_zip];exact⟨H.below j,by rw[o];exact D⟩
 ·intro p a b;simp only[uV,uH,List.length_range] at a;have q:=yr (C p a b) c;have o:=G4 r p (h.qc.len) (by omega);simp only[uV,vO,nD];exact⟨q,o⟩
 ·simp only[uV,uH];have:=s.few;have:=h.qp.len;have:=h.small.2.1;refine⟨by omega,by simp;omega,by omega⟩
theorem sg{f:Func}{t:Tmp}{c:TypeId}(h:f.results=#[.cell t c])(a:Array Value)(P:Program)(w:World)(b o:Nat)(e:a.getD t undef=.pointer (some ⟨b,o,none⟩)){v:Value}(g:(loadVar c ⟨b,o,none⟩).run P w=.ok v w):(results f a).run P w=.ok v w:=by
 rw[Array.getD_eq_getD_getElem?] at e;simp[results,h,e,asAddr,g]
theorem OZ.range{b:Nat}{T:TypeId}(h:OZ w b cs.toArray T):w.rangeAt b 0 cs:=fun j v a=>by
 rw[uL,h.rules.1];simpa using a
theorem BP(r:zr)(tv sv bv:Value)(hvs:List Value)(jg:List Int)(d:Int)(b:hvs.length=5)(a:jg.length=5):(jc r tv sv bv hvs jg d).length=28:=by
 simp[jc,b,a]
theorem Bf(e:tv.oneCell'=true)(c:sv.oneCell'=true)(f:bv.oneCell'=true)(b:∀u∈hvs,u.oneCell'=true):∀u∈jc r tv sv bv hvs jg d,u.oneCell'=true:=by
 intro u a;simp only[jc,zW,zw,zB,lB,or_false] at a;rcases a with ((((((a|a)|⟨_,_,a⟩)|a)|⟨_,_,a⟩)|⟨_,_,a⟩)|a)
 ·rcases a with rfl|rfl|rfl|rfl|rfl<;>first|rfl|assumption
 ·exact b u a
 ·subst a;rfl
 ·subst a;rfl
 ·subst a;rfl
 ·subst a;rfl
 ·rcases a with rfl|rfl<;>rfl
theorem Pv.one{B:Nat}(h:Pv B w r hvs 5)(f:hvs.length=5):∀u∈hvs,u.oneCell'=true:=by
 intro u b;obtain⟨p,a,rfl⟩:=vl b;obtain⟨g,c,e⟩:=zq (h p (by omega) a);rw[e];rfl
theorem nU{b:World}{a:Nat}(h:ve lo b w a jb r tv sv bv hvs jg d):un w a:=h.res
theorem zX.saveJ{tb:Nat}{T:zi}{fp M:List Nat}(h:zX lo w tb T fp)(g:zd M w w')(a:Px w 310 M):zX lo w' tb T fp:=h.save g fun b e f=>by
 obtain⟨c,i⟩:=a b f;exact h.notin i (by decide) (by decide) (by decide) e
theorem jz.saveJ{w w':World}{J:z9}{P:xr}{M:List Nat}(h:jz lo w J P)(e:zd M w w')(c:Px w 310 M):jz lo w' J P:=
 ⟨h.head.saveT e c (by decide),yE h.ja e c (by decide),h.slen,fun k a b=>(h.tries k a b).saveJ e c,h.qi,yE h.bars e c (by decide),h.blen,fun k a b=>⟨(h.ji k a b).1.saveT e c (by decide),(h.ji k a b).2.saveJ e c⟩,h.hlen,fun p a b=>⟨yE (h.je p a b).1 e c (by decide),(h.je p a b).2⟩,h.jk,h.few⟩
theorem ED{b1 b2:Nat}(w:World)(r:zr)(tv pv nv cp cb:Value)(qc qp:List zi)(Pu nts:List (Nat×List Nat))(h:uP lo w tv pv nv r)(hp:fc b1 lo w cp qc Pu)(hn:fc b2 lo w cb qp nts)(bH:qp.length=r.qp.length)(b6:lo<=w.heap.size):
  Calls prog 214 #[kj r tv pv nv,cp,cb] w fun e w'=>∃P,e=.returned (.agg (um (xF r qc qp) P).toArray)/\jz lo w' (xF r qc qp) P/\P.tbs=Pu/\P.bps.map (·.2)=nts/\Below w.heap.size w w':=by
 obtain⟨iS,c3,cW,bJ,bU⟩:=info_parts OJ;obtain⟨iB,cA,c4,cu,bA⟩:=info_parts OX;have HR:=OY h;have HP:=OY hp;have HN:=OY hn;obtain⟨dy,dg,rfl⟩:=zq hp.own;obtain⟨dp,da,rfl⟩:=zq hn.own;obtain⟨j,b,rfl⟩:=h.head.qw;obtain⟨E,n,rfl⟩:=h.qc.qw;obtain⟨D,s,rfl⟩:=h.qp.qw;have dn:=hp.few;have dq:=hn.few;have dr:=h.small.2.1;have bX:=fun W:World=>run_make (P:=prog) (w:=W) 305 323 iS _ underlying305 c3 cW .i64 .i64 (qc.length:Int) (qc.length:Int) (by omega) (Int.le_refl _) (by rw[bU];omega) (by omega);rw[bJ] at bX;have bh:Hid (∀W (kn:Int),Below w.heap.size w W->Calls prog 220 #[.agg #[.int .i64 r.qh,.int .i64 r.vars,.int .i64 r.head.pred,.slice j r.head.qg.length b,.slice E r.qc.length n,.slice D r.qp.length s],.int .i64 kn] W fun e w'=>e=.returned (.int .i64 (xE r kn))/\Below W.heap.size W w'):=fun W kn hW=>JG W _ _ _ r kn (h.below hW);have cl:Hid (∀W (pl:Nat),pl<=1000000->Below w.heap.size w W->Calls prog 221 #[.agg #[.int .i64 r.qh,.int .i64 r.vars,.int .i64 r.head.pred,.slice j r.head.qg.length b,.slice E r.qc.length n,.slice D r.qp.length s],.int .i64 pl] W fun e w'=>∃hv,e=.returned hv/\w'.ownsRow W.heap.size 327 2 hv (xy r pl).length (jP (xy r pl))/\Below W.heap.size W w'):=fun W pl cI hW=>LV W _ _ _ r pl (h.below hW) cI;have bg:=OY b6;have aE:=OY bH;unfold kj;clear h hp hn b6 bH;have ai:=(OZ.new w #[.int .i64 r.qh,.int .i64 r.vars,.int .i64 r.head.pred,.slice j r.head.qg.length b,.slice E r.qc.length n,.slice D r.qp.length s] 207).below ((zo _ _).alloc (zh _) (.cells (bj 0 0 0 none none 0 0 0 0).toArray 310));have Q:=OZ.new (w.alloc (.cells #[.int .i64 r.qh,.int .i64 r.vars,.int .i64 r.head.pred,.slice j r.head.qg.length b,.slice E r.qc.length n,.slice D r.qp.length s] 207)) (bj 0 0 0 none none 0 0 0 0).toArray 310;have bs:Below w.heap.size w ((w.alloc (.cells #[.int .i64 r.qh,.int .i64 r.vars,.int .i64 r.head.pred,.slice j r.head.qg.length b,.slice E r.qc.length n,.slice D r.qp.length s] 207)).alloc (.cells (bj 0 0 0 none none 0 0 0 0).toArray 310)):=(by go_grown);simp only[World.size_alloc] at Q;go_enter func214,ntmps214;go_upto_region 1 with fail
 generalize (w.alloc (.cells #[.int .i64 r.qh,.int .i64 r.vars,.int .i64 r.head.pred,.slice j r.head.qg.length b,.slice E r.qc.length n,.slice D r.qp.length s] 207)).alloc (.cells (bj 0 0 0 none none 0 0 0 0).toArray 310)=wA at *;obtain⟨cE,aT,aZ⟩:=ai.boxed;have cQ:=bs.size;go_cut [7] from 13 to 24 (fun s7 wx=>sH wA wx r (.slice j r.head.qg.length b) qc.length s7)
 case first=>
  go_region_held3 (fun w'=>w'.cell? ⟨w.heap.size,0,none⟩=some (.int .i64 r.qh)/\w'.cell? ⟨w.heap.size,1,none⟩=some (.int .i64 r.vars)/\w'.cell? ⟨w.heap.size,2,none⟩=some (.int .i64 r.head.pred)/\w'.cell? ⟨w.heap.size,3,none⟩=some (.slice j r.head.qg.length b)/\w'.cell? ⟨w.heap.size,4,none⟩=some (.slice E r.qc.length n)/\w'.cell? ⟨w.heap.size,5,none⟩=some (.slice D r.qp.length s)) (first|go_keep|(go_simp;done)|(go_split_ands;refine⟨?_,?_,?_,?_,?_,?_⟩<;>(rw[jT _ _ _ _ _ (by simp;omega)];simp[*]))) (first|(go_at_call 220;refine(bh.out _ _ (by exact(by go_grown))).mono ?_;rintro e w1 ⟨rfl,M⟩;have bc:Below wA.heap.size wA w1:=(zM (by go_grown) M (zh _));have c8:=ai.below bc;obtain⟨dj,cZ,db⟩:=c8.boxed;have c5:=bc.size;(first|((with_reducible refine OZ.carry (OZ.drew (OZ.newAt (wA.alloc (.cells (madeCells #[.pointer none,.int .i64 0,.int .i64 0,.int .i64 0] (qc.length*4)) 323)) (wA.heap.size+1) (bj 0 0 0 none none 0 0 0 0).toArray 310 (World.size_alloc _ _).symm)) M ?_);intro Y;have au:un w1 (wA.heap.size+1):=⟨_,Y,rfl⟩;clear Y;(with_reducible refine OZ.carry (OZ.drew (OZ.below (OZ.new wA (madeCells #[.pointer none,.int .i64 0,.int .i64 0,.int .i64 0] (qc.length*4)) 323) ((zo _ _).alloc (zh _) (.cells (bj 0 0 0 none none 0 0 0 0).toArray 310)))) M ?_);intro ar)|((with_reducible refine OZ.carry (OZ.drew (OZ.below (OZ.new wA (bj 0 0 0 none none 0 0 0 0).toArray 310) ((zo _ _).alloc (zh _) (.cells (madeCells #[.pointer none,.int .i64 0,.int .i64 0,.int .i64 0] (qc.length*4)) 323)))) M ?_);intro Y;have au:un w1 wA.heap.size:=⟨_,Y,rfl⟩;clear Y;(with_reducible refine OZ.carry (OZ.drew (OZ.newAt (wA.alloc (.cells (bj 0 0 0 none none 0 0 0 0).toArray 310)) (wA.heap.size+1) (madeCells #[.pointer none,.int .i64 0,.int .i64 0,.int .i64 0] (qc.length*4)) 323 (World.size_alloc _ _).symm)) M ?_);intro ar)|((with_reducible refine OZ.carry (OZ.drew (OZ.new wA (bj 0 0 0 none none 0 0 0 0).toArray 310)) M ?_);intro Y;have au:un w1 wA.heap.size:=⟨_,Y,rfl⟩;clear Y)|((with_reducible refine OZ.carry (OZ.drew (OZ.new wA (madeCells #[.pointer none,.int .i64 0,.int .i64 0,.int .i64 0] (qc.length*4)) 323)) M ?_);intro ar)|skip)))
  all_goals
   go_wp2_with fail
   go_meet
   case rel=>
    apply sH.mk'
    ·first|exact Ay _ _ _ _ _ _ _ _ _ _ _|exact tc _ _ _ _ _ _ _ _ _ _ _|exact pd _ _ _ _ _ _ _ _ _ _|exact au|exact ib _ _ _ au
    ·first|exact ar|exact OZ.below (OZ.new w1 _ _) zO|exact OZ.newAt _ _ _ _ (World.size_alloc _ _).symm|exact OZ.new w1 _ _|exact OZ.below ar zO
    ·first|omega|(have:=ar.lt;omega)|(have:=au.lt;omega)
    ·omega
    ·omega
    ·exact(zM bc (by go_grown) (zh _))
 case rest=>
  clear bX;obtain⟨jb,g,rfl,cX,cD,aR,bt,a4⟩:=hcut;have cm:jb≠w.heap.size+1:=by have:=Q.lt;omega
  have hM:ve lo w wc (w.heap.size+1) jb r (.slice j r.head.qg.length b) (sl g qc.length) (.slice none 0 0) rC (jA r 0) 0:=⟨aR,rfl,rfl,⟨_,Q.below a4,rfl⟩,Pc bs a4,by omega,by omega,cm⟩;have F:=OY hM;have V:Hid (Pv w.heap.size wc r rC 0):=fun p a=>by omega
  have HG:=OY bt;have H:=OY (ai.below a4);have du:w.heap.size<jb:=by omega
  have dx:w.heap.size<g:=by omega
  have ds:g≠jb:=by
   intro e;subst e;exact zC (bt.type aR) (by decide)
  have d0:g≠w.heap.size+1:=by have:=Q.lt;omega
  clear hM aR bt a4 ai Q bs cE aT aZ cQ cX cD;go_wp2;go_loopw [25] (fun cJ wr=>∃(k:Nat) (hvs:List Value),k<=5/\cJ=.int .i64 k/\Hid (ve lo w wr (w.heap.size+1) jb r (.slice j r.head.qg.length b) (sl g qc.length) (.slice none 0 0) hvs (jA r k) 0)/\Hid (Pv w.heap.size wr r hvs k)/\Hid (OZ wr g (madeCells #[.pointer none,.int .i64 0,.int .i64 0,.int .i64 0] (qc.length*4)) 323)/\Hid (OZ wr w.heap.size #[.int .i64 r.qh,.int .i64 r.vars,.int .i64 r.head.pred,.slice j r.head.qg.length b,.slice E r.qc.length n,.slice D r.qp.length s] 207)) (fun i _=>5-(intOf i).toNat)
  case atStart=>exact⟨0,rC,by omega,rfl,F,V,HG,H⟩
  case round=>
   clear F V HG H;obtain⟨k,hvs,hk,rfl,F,V,HG,H⟩:=hrel;have B:=F.out.below;have am:=B.size;by_cases t:k<5
   ·have cv:(k:Int)<5:=by omega
    have an:=H.out;obtain⟨aB,a7,a6⟩:=an.boxed;have aI:=OY fun W hW=>cl.out W k (by omega) (Pc B hW);have bM:=OY fun W hW=>bh.out W (k:Nat) hW;have aV:=OY (Oo r k t);generalize xE r (k:Nat)=bk at *;generalize cf:xy r k=hj at *;have c0:=OY cf;clear cf;go_upto_region 6 with (first|(go_at_call 221;refine(aI.out _ (by exact(by go_grown))).mono ?_;rintro e G ⟨hv,rfl,ag,l⟩;obtain⟨a1,X,rfl⟩:=zq ag;have m:=F.out.next l;obtain⟨aq,ax,_,_,_,b4,_⟩:=m.cells;have aP:=b4 k t;clear b4;generalize hvs.getD k (.bool false)=ov at aP))
    have ab:=an.below l;have cd:=HG.out.below l;have az:=V.out.below l;have cU:=l.size;have A:zd [jb] G (G.setCell ⟨jb,5+k,none⟩ (.slice a1 hj.length X)):=zd.set _ _ _ _;have f:=m.hold k t (.slice a1 hj.length X);have aO:=ab.saveT A (Px.box m.box) (by decide);have cq:=cd.saveT A (Px.box m.box) (by decide);have L:Pv w.heap.size _ r (hvs.set k (.slice a1 hj.length X)) (k+1):=(az.set (by rw[c0.out];exact yr ag (by omega))).saveT A (Px.box m.box) (by decide);generalize G.setCell ⟨jb,5+k,none⟩ (.slice a1 hj.length X)=w3 at *;clear A ab cd az m aP ax aq an aB a7 a6 ag aI;generalize hvs.set k (.slice a1 hj.length X)=bE at *;have cx:=OY f;have cR:=OY L;have c6:=OY cq;clear f L cq F V HG H;obtain⟨aB,a7,a6⟩:=aO.boxed;have ai:=cx.out.below;have dz:=ai.size;go_wp2_with (first|(go_at_call 220;refine(bM.out _ (by exact ai)).mono ?_;rintro e w4 ⟨rfl,Z⟩;have af:=cx.out.next Z;obtain⟨dm,dw,_,_,_,_,bV⟩:=af.cells;have cj:=bV k t;clear bV;generalize (jA r k).getD k 0=ob at cj))
    have bn:zd [jb] w4 (w4.setCell ⟨jb,10+k,none⟩ (.int .i64 bk)):=zd.set _ _ _ _;have bx:=af.back k t bk;rw[aV.out] at bx;go_roundw
    case rel=>exact⟨k+1,bE,by omega,by go_num,bx,(cR.out.below Z).saveT bn (Px.box af.box) (by decide),(c6.out.below Z).saveT bn (Px.box af.box) (by decide),(aO.below Z).saveT bn (Px.box af.box) (by decide)⟩
    case measure=>simp[intOf];omega
   ·obtain rfl:k=5:=by omega
    rw[show((5:Nat):Int)=5 from rfl];clear hk t cl bh;have bz:Hid (wr.ownsRow w.heap.size 323 4 (sl g qc.length) qc.length (yw (qs Pu qc.length 0))):=by
     have q:=Hj (lo:=w.heap.size) HG.out (by omega) (by unfold maxLen;omega);have e:qs Pu qc.length 0=List.replicate qc.length (Value.pointer none,Value.int .i64 0,Value.int .i64 0,Value.int .i64 0):=by simp[qs,ii]
     rw[Hid,e];exact q
    clear HG;have cC:Hid (ln qc 0=0):=rfl;go_wp2;have b5:Hid (ve lo w wr (w.heap.size+1) jb r (.slice j r.head.qg.length b) (sl g qc.length) (.slice none 0 0) hvs (jA r 5) (ln qc 0)):=F;clear F cC;go_loopw [43] (fun cG wr=>∃(k:Nat),k<=qc.length/\cG=.int .i64 k/\Hid (ve lo w wr (w.heap.size+1) jb r (.slice j r.head.qg.length b) (sl g qc.length) (.slice none 0 0) hvs (jA r 5) (ln qc k))/\Hid (Pv w.heap.size wr r hvs 5)/\Hid (wr.ownsRow w.heap.size 323 4 (sl g qc.length) qc.length (yw (qs Pu qc.length k)))/\Hid (OZ wr w.heap.size #[.int .i64 r.qh,.int .i64 r.vars,.int .i64 r.head.pred,.slice j r.head.qg.length b,.slice E r.qc.length n,.slice D r.qp.length s] 207)) (fun i _=>qc.length-(intOf i).toNat)
    case atStart=>exact⟨0,zv _,rfl,b5,V,bz,H⟩
    case round=>
     clear b5 V bz H B am;obtain⟨k,hk,rfl,F,V,HS,H⟩:=hrel;have B:=F.out.below;have am:=B.size;by_cases t:k<qc.length
     ·have ci:k<Pu.length:=by have:=HP.out.len;omega
      obtain⟨gp,c7,bq,c9,bD⟩:=HP.out.cell k t ci;simp only[Value.slice.injEq] at bq;have co:=bq.1;clear bq;subst co;have aY:=zl B c9 bD;have cY:gp<wr.heap.size:=by omega
      obtain⟨aS,be,bT,_,_,_,_⟩:=F.out.cells;have bZ:wr.cell? ⟨jb,3,none⟩=some (.slice (some ⟨g,0,none⟩) qc.length qc.length):=bT;have hS:wr.ownsRow w.heap.size 323 4 (.slice (some ⟨g,0,none⟩) qc.length qc.length) qc.length (yw (qs Pu qc.length k)):=HS.out;have cv:(k:Int)<(qc.length:Int):=by omega
      have cT:=B6 Pu qc.length k hk (by have:=HP.out.len;omega);obtain⟨sx,cV⟩:∃sx,wr.cell? ⟨g,k*4,none⟩=some sx:=by
       obtain⟨g',dl,ch,_,_,bC⟩:=y7 hS (by omega);simp only[Value.slice.injEq,zs,Addr.mk.injEq,and_true] at ch;have cz:=ch.1;subst cz;exact⟨_,bC (k*4) _ (pZ (qs Pu qc.length k) k (by omega)).1⟩
      have cB:=qt hS;have a0:=uK hS (k*4) (by rw[wa];omega) (.pointer (some ⟨Pu[k].1,0,none⟩));have bS:Hid ((yw (qs Pu qc.length k)).set (k*4) (.pointer (some ⟨Pu[k].1,0,none⟩))=yw (qs Pu qc.length (k+1))):=Jy Pu qc.length k t HP.out.len;rw[bS.out] at a0;have ck:=OY fun W hW=>Ev W Pu[k].1 qc[k] Pu[k].2 ((HP.out.tries k t ci).below hW);have aA:=OY (IY qc k t);have bf:zd [g] wr (wr.setCell ⟨g,k*4,none⟩ (.pointer (some ⟨Pu[k].1,0,none⟩))):=zd.set _ _ _ _;have bb:Px wr 323 [g]:=fun x hx=>by simp at hx;subst hx;exact qr hS rfl
      have m:=F.out.save bf (fun x hx=>by simp at hx;omega) ⟨by simp;omega,by simp;omega⟩;have az:=V.out.saveT bf bb (by decide);have ab:=H.out.saveT bf bb (by decide);generalize Pu[k].1=tb at *;generalize qc[k].count=ct at *;clear bT bD bS hS cT;go_upto_region 12 with fail
      generalize wr.setCell ⟨g,k*4,none⟩ (.pointer (some ⟨tb,0,none⟩))=G at *;have l:=m.below;clear aY aS be bZ cV cB F V HS H;obtain⟨aq,ax,_,_,aK,_,_⟩:=m.cells;have ae:=OY m;have a9:=OY az;have aQ:Hid (OZ G w.heap.size _ 207):=ab;clear m az ab bb;generalize cO:ln qc k=dk at *;clear cO;by_cases bY:ct=0
      ·subst bY;simp only[if_true] at aA;have A:zd [jb] G (G.setCell ⟨jb,26,none⟩ (.int .i64 (-1))):=zd.set _ _ _ _;have f:=ae.out.ql (-1);have I:=Px.box ae.out.box;go_wp2_with (first|(go_at_call 209;refine(ck.out _ (by exact l)).mono ?_;rintro e w3 ⟨rfl,aU⟩;obtain rfl:=aU.symm))
       go_roundw
       case rel=>exact⟨k+1,by omega,by go_num,by rw[aA.out];exact f,a9.out.saveT A I (by decide),yE a0 A I (by decide),aQ.out.saveT A I (by decide)⟩
       case measure=>simp[intOf];omega
      ·rw[za bY] at aA;have dt:((ct:Int) == 0)=false:=by rw[beq_eq_false_iff_ne];omega
       go_wp2_with (first|(go_at_call 209;refine(ck.out _ (by exact l)).mono ?_;rintro e w3 ⟨rfl,aU⟩;obtain rfl:=aU.symm))
       go_roundw
       case rel=>exact⟨k+1,by omega,by go_num,by rw[aA.out];exact ae,a9,a0,aQ⟩
       case measure=>simp[intOf];omega
     ·obtain rfl:k=qc.length:=by omega
      rw[Jo] at F;clear hk t;have an:=H.out;obtain⟨aB,a7,a6⟩:=an.boxed;go_wp2;clear aB a7 a6 an;have ca:Hid (wr.ownsRow w.heap.size 325 4 (.slice none 0 0) 0 (yw (List.zipWith gi (j8 r qp 0) []))):=yK _ _ _ _;have aH:Hid (fZ lo w r nts [] 0):=⟨rfl,fun i a=>by omega⟩;go_loopw [62] (fun cN wr=>∃(k:Nat) (bv:Value) (bps:List (Value×Nat×List Nat)),k<=r.qp.length/\cN=.int .i64 k/\Hid (ve lo w wr (w.heap.size+1) jb r (.slice j r.head.qg.length b) (sl g qc.length) bv hvs (jA r 5) (kr qc))/\Hid (Pv w.heap.size wr r hvs 5)/\Hid (wr.ownsRow w.heap.size 323 4 (sl g qc.length) qc.length (yw (qs Pu qc.length qc.length)))/\Hid (wr.ownsRow w.heap.size 325 4 bv k (yw (List.zipWith gi (j8 r qp k) bps)))/\Hid (fZ lo w r nts bps k)) (fun i _=>r.qp.length-(intOf i).toNat)
      case atStart=>exact⟨0,_,[],zv _,rfl,F,V,HS,ca,aH⟩
      case round=>
       clear F V HS ca aH H B am;obtain⟨k,bv,bps,hk,rfl,F,V,HS,HB,ap⟩:=hrel;have B:=F.out.below;have am:=B.size;by_cases t:k<r.qp.length
       ·have b9:k<qp.length:=by rw[aE.out];exact t
        have b3:k<nts.length:=by have:=HN.out.len;omega
        obtain⟨gl,J,z,c1,aL,cw,cr,aF⟩:=HR.out.qp.cell k t;subst c1;obtain⟨gn,cP,bp,bm,bu⟩:=HN.out.cell k b9 b3;simp only[Value.slice.injEq] at bp;have bQ:=bp.1;clear bp;subst bQ;have cv:(k:Int)<(r.qp.length:Int):=by omega
        have di:(k:Int)<(qp.length:Int):=by omega
        have aY:=zl B aL cw;have cH:=zl B aL cr;have b7:=zl B bm bu;have de:gl<wr.heap.size:=by omega
        have cn:gn<wr.heap.size:=by omega
        have aj:=HB.out;obtain⟨a5,ak,aC⟩:=zq aj;subst aC;have cM:=OY aF;have bI:Hid (∀W,Below w.heap.size w W->Calls prog 222 #[.agg #[.int .i64 (r.qp[k].pred:Nat),.slice J r.qp[k].qg.length z]] W fun e w'=>e=.returned (.int .i64 (uC r.qp[k]:Nat))/\Below W.heap.size W w'):=fun W hW=>Dr W _ r.qp[k].pred r.qp[k].qg (aF.below hW);have aV:Hid (yw (List.zipWith gi (j8 r qp (k+1)) (bps++[(.slice J r.qp[k].qg.length z,nts[k].1,nts[k].2)]))=yw (List.zipWith gi (j8 r qp k) bps)++[.int .i64 (r.qp[k].pred:Nat),.slice J r.qp[k].qg.length z,.int .i64 (uC r.qp[k]:Nat),.pointer (some ⟨nts[k].1,0,none⟩)]):=NF r qp bps k t b9 ap.out.1 _ _ _;have al:=OY (ap.out.snoc t b3 aF);clear cw cr bu aF cM;generalize r.qp[k].pred=pr at *;generalize r.qp[k].qg.length=tl at *;generalize uC r.qp[k]=kn at *;generalize nts[k].1=tb at *;generalize nts[k].2=fp at *;go_upto_region 19 with fail
        have N:Below wr.heap.size wr (wr.alloc (.cells #[.int .i64 pr,.slice J tl z] 204)):=(by go_grown);have aJ:=OZ.new wr #[.int .i64 pr,.slice J tl z] 204;have a8:=F.out.next N;have bw:Hid (Pv _ _ r hvs 5):=V.out.below N;have bK:Hid (World.ownsRow _ w.heap.size 323 4 (sl g qc.length) qc.length _):=zE HS.out N;have aD:=zE aj N;have a3:=zl N cn b7;clear F V HS HB aj aY cH b7;generalize wr.alloc (.cells #[.int .i64 pr,.slice J tl z] 204)=w1 at *;generalize wr.heap.size=lb at *;clear N B;have M:=a8.below;obtain⟨aS,be,_,b8,_,_,_⟩:=a8.cells;obtain⟨bW,cF,dh⟩:=aJ.boxed;have bL:=OY a8;clear a8;have c5:=M.size;refine wp_region_noPanic ?_;refine eM (S:=fun w'=>w'.cell? ⟨jb,4,none⟩=some (.slice a5 k ak)/\w'.cell? ⟨lb,0,none⟩=some (.int .i64 pr)/\w'.cell? ⟨lb,1,none⟩=some (.slice J tl z)/\w'.cell? ⟨gn,k,none⟩=some (.pointer (some ⟨tb,0,none⟩))) (d:=13) (by kernel_rfl) (by refine⟨b8,?_,?_,a3⟩<;>(show w1.cell? _=_;rw[bW];rfl)) (fun o=>?_);refine xX (i:=0) (v:=?v0) rfl (by kernel_rfl) (by kernel_rfl) (by kernel_rfl) (by kernel_rfl) (fun _ _ _ h=>h) (zf ⟨by rfl,?hy0⟩) o ?rest0
        case hy0=>
         intro wq T;go_simp
         (try with_reducible rfl)
        refine xX (i:=1) (v:=?v1) rfl (by kernel_rfl) (by kernel_rfl) (by kernel_rfl) (by kernel_rfl) (fun _ _ _ h=>h) (zf ⟨by rfl,?hy1⟩) o ?rest1
        case hy1=>
         intro wq T;go_simp
         (try with_reducible rfl)
        refine xX (i:=2) (v:=?v2) rfl (by kernel_rfl) (by kernel_rfl) (by kernel_rfl) (by kernel_rfl) (fun _ _ _ h=>h) (zf ⟨by rfl,?hy2⟩) o ?rest2
        case hy2=>
         intro wq T;go_simp
         (try with_reducible rfl)
        refine xX (i:=3) (v:=?v3) rfl (by kernel_rfl) (by kernel_rfl) (by kernel_rfl) (by kernel_rfl) (fun _ _ _ h=>h) (zf ⟨by rfl,?hy3⟩) o ?rest3
        case hy3=>
         intro wq T;go_simp
         (try with_reducible rfl)
        refine xX (i:=5) (v:=?v5) rfl (by kernel_rfl) (by kernel_rfl) (by kernel_rfl) (by kernel_rfl) (fun _ _ _ h=>h) (zf ⟨by rfl,?hy5⟩) o ?rest5
        case hy5=>
         intro wq T;go_simp
         (try with_reducible rfl)
        refine xX (i:=6) (v:=?v6) rfl (by kernel_rfl) (by kernel_rfl) (by kernel_rfl) (by kernel_rfl) (fun _ _ _ h=>h) (zf ⟨by rfl,?hy6⟩) o ?rest6
        case hy6=>
         intro wq T;go_simp
         (try with_reducible rfl)
        refine xX (i:=7) (v:=?v7) rfl (by kernel_rfl) (by kernel_rfl) (by kernel_rfl) (by kernel_rfl) (fun _ _ _ h=>h) (zf ⟨by rfl,?hy7⟩) o ?rest7
        case hy7=>
         intro wq T;go_simp
         (try with_reducible rfl)
        refine xX (i:=8) (v:=?v8) rfl (by kernel_rfl) (by kernel_rfl) (by kernel_rfl) (by kernel_rfl) (fun _ _ _ h=>h) (zf ⟨by rfl,?hy8⟩) o ?rest8
        case hy8=>
         intro wq T;go_simp
         (try with_reducible rfl)
        refine gU (i:=4) (by kernel_rfl) rfl (fun K hK=>?_);go_simp
        refine(bI.out _ (by exact(zI M 1))).mono ?_;rintro e G ⟨rfl,l⟩;have ah:=Pc (zI (zo _ _) 1) l;have m:=bL.out.next ah;have a9:Hid (Pv _ _ r hvs 5):=bw.out.below ah;have c2:Hid (World.ownsRow G w.heap.size 323 4 (sl g qc.length) qc.length _):=zE bK.out ah;have C:=zE aD ah;have aM:=aJ.below ah;have av:=(ah.cell (p:=⟨gn,k,none⟩) (show gn<w1.heap.size by omega)).trans a3;have cU:=ah.size;have bB:=m.below;obtain⟨aq,ax,_,b0,_,_,_⟩:=m.cells;have ae:=OY m;obtain⟨ac,bF⟩:=aM.rules;refine hK.out _ _ (fun _=>⟨b0,by rw[ac];rfl,by rw[ac];rfl,av⟩) ?_;have U:G.cell? ⟨jb,4,none⟩=some (.slice a5 k ak)/\G.cell? ⟨lb,0,none⟩=some (.int .i64 pr)/\G.cell? ⟨lb,1,none⟩=some (.slice J tl z)/\G.cell? ⟨gn,k,none⟩=some (.pointer (some ⟨tb,0,none⟩)):=⟨b0,by rw[ac];rfl,by rw[ac];rfl,av⟩;clear hK K o m bW cF aS be b8 a3 bL bw bK l ac bF bI;refine xX (i:=9) (v:=?v9) rfl (by kernel_rfl) (by kernel_rfl) (by kernel_rfl) (by kernel_rfl) (fun _ _ _ h=>h) (zf ⟨by rfl,?hy9⟩) U ?rest9
        case hy9=>
         intro wq T;go_simp
         (try with_reducible rfl)
        refine gU (i:=10) (by kernel_rfl) rfl (fun K hK=>?_);go_simp
        refine hK.out _ _ (fun _=>?hS10) ?rest10
        case hS10=>obtain⟨q0,q1,q2,q3⟩:=U;refine⟨?_,?_,?_,?_⟩<;>(rw[World.cell?_alloc_lt _ _ _ (by simp;omega)];assumption)
        clear hK K;refine gU (i:=11) (by kernel_rfl) rfl (fun K hK=>?_);refine dX G _ [.int .i64 pr,.slice J tl z,.int .i64 kn,.pointer (some ⟨tb,0,none⟩)] 325 rfl (.tmp 72) (.tmp 81) 306 rfl w.heap.size 325 iB _ 4 48 underlying306 cA c4 cu bA rfl (by decide) (.slice a5 k ak) k (yw (List.zipWith gi (j8 r qp k) bps)) (by simp[Act.eval]) C (by exact(by go_grown)) G.heap.size 1 (by simp[Act.eval]) (by exact OZ.new _ _ _) rfl (by simp[Value.oneCell']) (by omega) (by omega) (by omega) ?_;intro v' w3 ce aa df dv dd;obtain⟨bR,aG,rfl⟩:=zq ce;have br:=Px.own C;have f:=ae.out.save aa (fun x hx=>yW C (yv hx)) ⟨qD C ae.out.box (by decide),fun hm=>by obtain⟨c,hc,_⟩:=ae.out.res;exact qD C hc (by decide) hm⟩;have bG:=aM.saveT aa br (by decide);have L:=a9.out.saveT aa br (by decide);have A:=yE c2.out aa br (by decide);obtain⟨ay,cg⟩:=bG.rules;obtain⟨aZ,aT,_,cy,_,_,_⟩:=f.cells;have aN:=(f.below.cell (p:=⟨gn,k,none⟩) bm).trans ((bB.cell (p:=⟨gn,k,none⟩) bm).symm.trans av);have O:w3.cell? ⟨jb,4,none⟩=some (.slice a5 k ak)/\w3.cell? ⟨lb,0,none⟩=some (.int .i64 pr)/\w3.cell? ⟨lb,1,none⟩=some (.slice J tl z)/\w3.cell? ⟨gn,k,none⟩=some (.pointer (some ⟨tb,0,none⟩)):=⟨cy,by rw[ay];rfl,by rw[ay];rfl,aN⟩;refine hK.out _ _ (fun _=>O) ?_;clear hK K U;refine xX (i:=12) (v:=?v12) rfl (by kernel_rfl) (by kernel_rfl) (by kernel_rfl) (by kernel_rfl) (fun _ _ _ h=>h) (zf ⟨by rfl,?hy12⟩) O ?rest12
        case hy12=>
         intro wq T;go_simp
         (try with_reducible rfl)
        refine gU (i:=13) (by kernel_rfl) rfl (fun K hK=>?_);go_simp
        refine hK.out _ _ (fun hq=>zC rfl hq) ?_;clear hK K;refine iz (by kernel_rfl) ?_ _;refine NoPanic.normal ?_;have R:zd [jb] w3 (w3.setCell ⟨jb,4,none⟩ (.slice bR (k+1) aG)):=zd.set _ _ _ _;have I:=Px.box f.box;have af:=f.bars (.slice bR (k+1) aG);have cS:=L.saveT R I (by decide);have cc:=yE A R I (by decide);have bN:=yE ce R I (by decide);rw[←aV.out] at bN;clear O ay cg aZ aT cy aN;go_wp2;go_roundw
        case rel=>exact⟨k+1,_,_,by omega,by go_num,af,cS,cc,bN,al⟩
        case measure=>simp[intOf];omega
       ·have cK:k=r.qp.length:=by omega
        subst cK;clear hk t;have hJ:P2 lo wr jb (uV r qc qp (kr qc)) ⟨.slice j r.head.qg.length b,sl g qc.length,bv,hvs,Pu,bps⟩:=jz.join (Eu B bg.out HR.out HP.out HN.out aE.out F.out.hlen V.out HS.out HB.out ap.out) (by have:=bg.out;omega) F.out.box;have bP:Hid (Calls prog 223 #[.pointer (some ⟨jb,0,none⟩),.int .i64 0] wr fun e w'=>e=.returned (.bool (uB (uV r qc qp (kr qc)) 0))/\Below wr.heap.size wr w'):=Cr wr jb _ _ 0 hJ;have ao:=OY (FR r qc qp);have bO:Hid (∀(W:World) (d:Int),Below w.heap.size w W->Pv w.heap.size W r hvs 5->W.ownsRow w.heap.size 323 4 (sl g qc.length) qc.length (yw (qs Pu qc.length qc.length))->W.ownsRow w.heap.size 325 4 bv r.qp.length (yw (List.zipWith gi (j8 r qp r.qp.length) bps))->jz lo W (uV r qc qp d) ⟨.slice j r.head.qg.length b,sl g qc.length,bv,hvs,Pu,bps⟩):=fun W d hW h1 h2 h3=>Eu hW bg.out HR.out HP.out HN.out aE.out F.out.hlen h1 h2 h3 ap.out;have al:=OY (fZ.all ap.out (by have:=HN.out.len;have:=aE.out;omega));obtain⟨dc,cL,aC⟩:=zq HB.out;clear hJ;generalize uB (uV r qc qp (kr qc)) 0=ba at *;cases ba with
        |true=>
         simp only[if_true] at ao;go_upto_region 23 with (first|(go_at_call 223;refine bP.out.mono ?_;rintro e G ⟨rfl,l⟩;have m:=F.out.next l;obtain⟨aq,ax,_,_,aK,_,_⟩:=m.cells))
         have A:zd [jb] G (G.setCell ⟨jb,26,none⟩ (.int .i64 (-1))):=zd.set _ _ _ _;have I:=Px.box m.box;have f:=m.ql (-1);have L:=(V.out.below l).saveT A I (by decide);have aa:=yE (zE HS.out l) A I (by decide);have bd:=yE (zE HB.out l) A I (by decide);generalize G.setCell ⟨jb,26,none⟩ (.int .i64 (-1))=w3 at *;clear aq ax aK A I m l;have a2:∀u∈jc r (.slice j r.head.qg.length b) (sl g qc.length) bv hvs (jA r 5) (-1),u.oneCell'=true:=Bf rfl rfl (by rw[aC];rfl) (Pv.one L f.hlen);have y:=BP r (.slice j r.head.qg.length b) (sl g qc.length) bv hvs (jA r 5) (-1) f.hlen f.blen;have ad:=f;have bi:=bO.out w3 (-1) f.below L aa bd;have aw:(jc r (.slice j r.head.qg.length b) (sl g qc.length) bv hvs (jA r 5) (-1))=um (uV r qc qp (-1)) ⟨.slice j r.head.qg.length b,sl g qc.length,bv,hvs,Pu,bps⟩:=rfl;have bo:=OY aw;clear aw;have aX:=f.box;generalize jc r (.slice j r.head.qg.length b) (sl g qc.length) bv hvs (jA r 5) (-1)=cs at *;refine wp_region_lit ?_;refine wpList_load_mid rfl 310 (.tmp 7) rfl jb 0 (by rfl) cs _ (aX.range) underlying310 rfl (by rw[y];exact OL) ?_;refine wpList_store_mid rfl 310 (.tmp 6) (.tmp 87) rfl (w.heap.size+1) 0 cs.toArray (by rfl) (by rfl) (by show World.there _ _ 0 cs.length;rw[y];exact(nU ad).there) (by show _=some cs.length;rw[y];exact OL) (all_oneCell_toArray a2) ?_;refine wpList_nil ?_;have R:zd [w.heap.size+1] w3 (w3.setCells (w.heap.size+1) 0 cs):=zd.sets _ _ _ _;have Q:OZ (w3.setCells (w.heap.size+1) 0 cs) (w.heap.size+1) cs.toArray 310:=n6 (nU ad) y;have aW:=bi.saveJ R (Px.box (nU ad).choose_spec.1);have Z:=f.below.trans (R.below (by simp) f.below.size);generalize w3.setCells (w.heap.size+1) 0 cs=w5 at *;go_wp2
         (try simp only[Exit.inBlock,Exit.then])
         refine zJ (v:=.agg cs.toArray) (sg rfl _ _ _ _ _ (by rfl) (run_loadVar_mid w5 (w.heap.size+1) 0 310 cs _ Q.range underlying310 rfl (by rw[y];exact OL))) rfl ⟨_,by rw[ao.out,bo.out],by rw[ao.out];exact aW,rfl,al.out,Z⟩
        |false=>
         simp only[kL,if_false] at ao;go_upto_region 23 with (first|(go_at_call 223;refine bP.out.mono ?_;rintro e G ⟨rfl,l⟩))
         have f:=F.out.next l;have L:=V.out.below l;have aa:=zE HS.out l;have bd:=zE HB.out l;have a2:∀u∈jc r (.slice j r.head.qg.length b) (sl g qc.length) bv hvs (jA r 5) (kr qc),u.oneCell'=true:=Bf rfl rfl (by rw[aC];rfl) (Pv.one L f.hlen);have y:=BP r (.slice j r.head.qg.length b) (sl g qc.length) bv hvs (jA r 5) (kr qc) f.hlen f.blen;have ad:=f;have bi:=bO.out G (kr qc) f.below L aa bd;have aw:(jc r (.slice j r.head.qg.length b) (sl g qc.length) bv hvs (jA r 5) (kr qc))=um (uV r qc qp (kr qc)) ⟨.slice j r.head.qg.length b,sl g qc.length,bv,hvs,Pu,bps⟩:=rfl;have bo:=OY aw;clear aw;have aX:=f.box;generalize jc r (.slice j r.head.qg.length b) (sl g qc.length) bv hvs (jA r 5) (kr qc)=cs at *;refine wp_region_lit ?_;refine wpList_load_mid rfl 310 (.tmp 7) rfl jb 0 (by rfl) cs _ (aX.range) underlying310 rfl (by rw[y];exact OL) ?_;refine wpList_store_mid rfl 310 (.tmp 6) (.tmp 87) rfl (w.heap.size+1) 0 cs.toArray (by rfl) (by rfl) (by show World.there _ _ 0 cs.length;rw[y];exact(nU ad).there) (by show _=some cs.length;rw[y];exact OL) (all_oneCell_toArray a2) ?_;refine wpList_nil ?_;have R:zd [w.heap.size+1] G (G.setCells (w.heap.size+1) 0 cs):=zd.sets _ _ _ _;have Q:OZ (G.setCells (w.heap.size+1) 0 cs) (w.heap.size+1) cs.toArray 310:=n6 (nU ad) y;have aW:=bi.saveJ R (Px.box (nU ad).choose_spec.1);have Z:=f.below.trans (R.below (by simp) f.below.size);generalize G.setCells (w.heap.size+1) 0 cs=w5 at *;go_wp2
         (try simp only[Exit.inBlock,Exit.then])
         refine zJ (v:=.agg cs.toArray) (sg rfl _ _ _ _ _ (by rfl) (run_loadVar_mid w5 (w.heap.size+1) 0 310 cs _ Q.range underlying310 rfl (by rw[y];exact OL))) rfl ⟨_,by rw[ao.out,bo.out],by rw[ao.out];exact aW,rfl,al.out,Z⟩
end
end Go.Proofs.YteampbddflhngaaGreat
