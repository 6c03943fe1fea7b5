import Derived.WalkKit
import Derived.WalkSpells
import Derived.WalkLawsBesides
import Derived.Deep.Light
import Derived.Handy
import Derived.Laws.IdiomStrings
import Derived.WalkSmall
import Derived.Deep.RegionHeld3
namespace Go.Proofs.YteampbddflhngaaGreat
set_option linter.all false
section
open Go.RowKit
abbrev ι(x:Int):Value:=.int .i64 x
abbrev π(b:Nat):Value:=.pointer (some ⟨b,0,none⟩)
abbrev ν:Value:=.slice none 0 0
abbrev μ(w w':World):Prop:=Go.RowKit.Below w.heap.size w w'
abbrev κ:=List ByteArray
abbrev ε:=Ending.returned
variable {w1 w:World}
theorem Q7{p:Prop}(h:p):Hid p:=h
theorem Hu{W:World}(a:μ W w1):(∀b o,b<W.heap.size->w1.cell? ⟨b,o,none⟩=W.cell? ⟨b,o,none⟩)/\(∀b o,b<W.heap.size->w1.frozen? ⟨b,o,none⟩=W.frozen? ⟨b,o,none⟩):=
 ⟨fun b o h=>a.cell (p:=⟨b,o,none⟩) h,fun b o h=>a.frozen (p:=⟨b,o,none⟩) h⟩
theorem zJ{B:Nat}{a w:World}(h:Below B a w)(n:Nat):Below B a (w.drewN n):=below_drewN h n
abbrev zR:=@Below.refl
abbrev zN:=@zJ
abbrev zA:=@Below.alloc
abbrev zD:=@Below.drew
abbrev zS:=@Below.setCell
theorem zQ{B:Nat}{a:World}(b:Below B w a)(d:μ a w1)(c:B<=w.heap.size):Below B w w1:=
 b.trans (d.mono (Nat.le_trans c b.size))
theorem QB{a:World}(b:μ w a)(c:μ a w1):μ w w1:=zQ b c (Nat.le_refl _)
theorem zT{o:Obj}:μ w (w.alloc o):=(Below.refl _ _).alloc (Nat.le_refl _) _
theorem zl{B b o:Nat}{w':World}{v:Option Value}(h:Below B w w')(a:b<B)(c:w.cell? ⟨b,o,none⟩=v):w'.cell? ⟨b,o,none⟩=v:=(h.cell (p:=⟨b,o,none⟩) a).trans c
theorem zB{w':World}{a:Nat}{e:TypeId}{b:Nat}{v:Value}{n:Nat}{xs:List Value}(h:w.ownsRow a e b v n xs)(l:μ w w'):w'.ownsRow a e b v n xs:=by
 obtain⟨m,f⟩:=h;refine⟨m,?_⟩;rcases f with f|⟨g,c,d,j,k,i,r⟩
 ·exact Or.inl f
 ·refine Or.inr ⟨g,c,d,j,k,?_,r⟩;rw[l.block g (Array.getElem?_eq_some_iff.1 i).1];exact i
section
variable {P:Program} {ops:Array Oper} {rest:List Oper} {o:Oper} {a:Act} {Q:Exit->Act->World->Prop}
theorem ki(B r:World)(l:List Value)(te:TypeId)(V:o.guard=none)(s x:Operand)(t:TypeId)
  (ho:o.op=.call {callee:=.builtin .append,args:=#[s,x],argTypes:=#[t,t]})
  (f:Nat) (e:TypeId) (i:TypeInfo) (z:Value) (d m:Nat) (ht:P.underlying t=some (.slice e)) (hi:P.info? e=some i) (hz:i.zero=some z)
  (H:i.size=d) (U:i.bytes=m) (N:z.cells.size=d) (L:0<d)
  (v:Value) (n:Nat) (R:List Value) (Z:a.eval s=v) (E:B.ownsRow f e d v n R) (p:μ B r)
  (b c:Nat) (hx:a.eval x=.slice (some ⟨b,0,none⟩) 1 c) (hb:b=r.heap.size) (hl:l.length=d) (h1:∀u∈l,u.oneCell'=true)
  (hn:n<=1048576) (C:m<=1000) (S:f<=B.heap.size)
  (h:∀K A,A.ownsRow f e d K (n+1) (R++l)->Below f B A->(∀b o,B.heap.size<=b->b<r.heap.size->A.cell? ⟨b,o,none⟩=r.cell? ⟨b,o,none⟩) →
   (∀b o,B.heap.size<=b->b<r.heap.size->A.frozen? ⟨b,o,none⟩=r.frozen? ⟨b,o,none⟩) →
   (∀k,k<B.heap.size->some k≠v.ownBlock->A.heap[k]?=B.heap[k]?)->r.heap.size<=A.heap.size->wpList P ops Q rest (a.put o.dst K) A):
  wpList P ops Q (o::rest) a (r.alloc (.cells l.toArray te)):=by
 have J:=zB E p;have I:∀k,v.ownBlock=some k->f<=k/\k<B.heap.size:=by
  intro k D;obtain⟨_,T⟩:=E;rcases T with⟨O,_⟩|⟨g,aa,Y,O,V,hh,_⟩
  ·subst O;cases D
  ·subst O;simp only[Value.ownBlock,Option.some.injEq] at D;subst D;exact⟨V,(Array.getElem?_eq_some_iff.1 hh).1⟩
 have X:=p.size;subst hb;refine wpList_append_own _ V s x t ho f e i z d m ht hi hz H U N L v n R Z (J.alloc _) ⟨r.heap.size,0,none⟩ 1 c l hx (by omega) ?_ h1 ?_ ?_ ?_ ?_
 ·intro j u hj;rw[Addr.add_lit,Nat.zero_add,World.cell?_alloc_mark];simpa using hj
 ·unfold maxLen;omega
 ·have:(n+1)*m<=1048577*1000:=Nat.mul_le_mul (by omega) C;omega
 ·simp;omega
 ·intro K A T y _;have q:∀k,k<r.heap.size->some k≠v.ownBlock->A.heap[k]?=r.heap[k]?:=fun k D F=>by
   rw[y.block k (by simp;omega) F];exact Below.heap_alloc _ _ _ D
  have M:r.heap.size<=A.heap.size:=by have:=y.size;simp at this;omega
  refine h K A T ⟨y.os.trans p.os,y.tape.trans p.tape,y.output.trans p.output,by omega,fun k D=>?_⟩ (fun b o W G=>?_) (fun b o W G=>?_) (fun k D F=>?_) M
  ·rw[q k (by omega) (fun e=>by have:=I k e.symm;omega)];exact p.block k (by omega)
  ·exact World.cell?_of_block (w:=r) (q b G (fun e=>by have:=I b e.symm;omega))
  ·exact World.frozen?_of_block (w:=r) (q b G (fun e=>by have:=I b e.symm;omega))
  ·rw[q k (by omega) F];exact p.block k D
theorem KW(w:World)(k:o.guard=none)(x:Operand)(c b e:TypeId)(f:o.op=.convert c b x)
  (hs:P.underlying c=some .string) (m:P.underlying b=some (.slice e)) (p:P.underlying e=some (.int .u8)) (s:ByteArray) (l:a.eval x=.string s)
  (n:∀d h,(∀j (i:j<s.data.size),h.cell? ⟨w.heap.size,j,none⟩=some (.int .u8 (s.data[j].toNat:Int)))->μ w h →
   wpList P ops Q rest (a.put o.dst (.slice (some ⟨w.heap.size,0,none⟩) s.size d)) h):wpList P ops Q (o::rest) a w:=by
 refine wpList_plain k fun K g=>?_;have q:=run_bytes_of_string (P:=P) w c b e s hs m p;unfold Oper.wp;simp[execOp,f,l,q,Result.andThen];refine g _ _ (n _ _ (fun j i=>?_) ?_)
 ·have:=World.cell?_alloc_mark w.drew (bytesRow s (grownCap w s.size 0 e)) e ((bytesRow s (grownCap w s.size 0 e)).size,(bytesRow s (grownCap w s.size 0 e)).size+1) j;rw[bytesRow_at s _ j i] at this;exact this
 ·exact(Below.refl _ _).drew.alloc (Nat.le_refl _) _
theorem LU(w:World)(n:o.guard=none)(x:Operand)(d c e:TypeId)(i:o.op=.convert d c x)
  (hs:P.underlying d=some (.slice e)) (t:P.underlying e=some (.int .u8)) (q:P.underlying c=some .string) (s:ByteArray) (b cap:Nat) (p:a.eval x=.slice (some ⟨b,0,none⟩) s.size cap)
  (m:∀j (h:j<s.data.size),w.cell? ⟨b,j,none⟩=some (.int .u8 (s.data[j].toNat:Int)))
  (r:wpList P ops Q rest (a.put o.dst (.string s)) w):wpList P ops Q (o::rest) a w:=by
 refine wpList_plain n fun K g=>?_;have k:=run_convert_bytes_back (P:=P) w d c e ⟨b,0,none⟩ cap s.data.toList hs t q (fun j h=>by
  have f:j<s.data.size:=by rw[Array.length_toList] at h;exact h
  rw[Addr.add_lit,Nat.zero_add,m j f,Array.getElem_toList])
 have l:s.data.toList.length=s.size:=by rw[Array.length_toList];rfl
 rw[l] at k;unfold Oper.wp;simp[execOp,i,p,k,Result.andThen];exact g _ _ r
end
abbrev zg:=@Nat.le_refl
abbrev zt:=@Option.some.injEq
abbrev zs:=@List.getElem_mem
abbrev zo:=@Below.refl
abbrev yL:=@List.take_succ_eq_append_getElem
abbrev zx:=@List.mem_cons
abbrev za:=@if_neg
abbrev yp:=@List.getElem?_eq_getElem
abbrev gL:=@List.getD_eq_getElem?_getD
abbrev zb:=@Or.inr
abbrev zc:=@if_pos
abbrev z7:=@List.mem_map
abbrev zI:=@List.mem_append
abbrev zv:=@Nat.zero_le
abbrev zf:=@Or.inl
abbrev xn:=@List.drop_eq_getElem_cons
abbrev yq:=@List.length_append
abbrev zK:=@bodyPost_ret
abbrev xg:=@List.take_of_length_le
abbrev yD:=@World.ownsRow_nil
abbrev ya:=@Prod.mk.injEq
abbrev uj:=@List.drop_eq_nil_of_le
abbrev yc:=@Nat.le_trans
abbrev xG:=@List.mem_singleton
abbrev vu:=@List.getElem_append_left
abbrev xi:=@List.length_cons
abbrev xP:=@Nat.lt_of_lt_of_le
abbrev vM:=@Option.map_eq_some_iff
abbrev vw:=@List.mem_iff_getElem
abbrev kV:=@List.getElem?_eq_none
abbrev us:=@List.flatMap_cons
abbrev ub:=@List.mem_filter
abbrev kz:=@Array.getElem?_eq_some_iff
abbrev ux:=@Option.getD_some
abbrev uw:=@Bool.and_eq_true
abbrev jX:=@List.getElem?_eq_some_iff
abbrev uJ:=@List.getElem_map
abbrev uS:=@List.mem_flatMap
abbrev uu:=@List.length_map
abbrev ut:=@List.foldl_cons
abbrev qk:=@List.getElem_of_mem
abbrev xH:=@List.map_cons
abbrev jt:=@List.take_append_drop
abbrev uP:=@List.map_append
abbrev vr:=@List.take_length
abbrev zC:=@absurd
abbrev qa:=@List.nodup_append
abbrev d9:=@List.getElem?_append_right
abbrev qC:=@List.length_take
abbrev gH:=@List.getElem_cons_zero
abbrev vQ:=@List.mem_range
abbrev kc:=@Option.isSome_some
abbrev j8:=@List.foldl_append
abbrev qM:=@List.append_nil
abbrev qN:=@List.nodup_cons
abbrev vc:=@Nat.add_zero
abbrev vB:=@Nat.zero_add
abbrev ky:=@List.append_assoc
abbrev kR:=@List.map_congr_left
abbrev vT:=@List.sum_cons
abbrev f6:=@List.getElem?_cons_zero
abbrev jA:=@Option.map_some
abbrev gZ:=@Nat.mul_le_mul_right
abbrev dQ:=@List.mem_of_mem_drop
abbrev g6:=@Option.isSome_none
abbrev kh:=@List.all_eq_true
abbrev gJ:=@Bool.false_eq_true
abbrev lF:=@List.getElem?_take
abbrev lN:=@List.length_erase_of_mem
abbrev dT:=@List.mem_of_getElem?
abbrev kX:=@List.ext_getElem
abbrev l8:=@List.getElem?_cons_succ
abbrev fM:=@List.set_append_right
abbrev mX:=@List.getElem_append_right
abbrev lE:=@List.zipWith_cons_cons
abbrev ld:=@List.mem_erase_of_ne
abbrev fV:=@List.mem_of_mem_take
abbrev gC:=@Option.getD_none
abbrev gM:=@List.any_eq_true
abbrev mm:=@Option.isSome_iff_exists
abbrev lU:=@List.getElem?_toArray
abbrev nC:=@List.nodup_iff_pairwise_ne
abbrev mo:=@List.length_eq_zero_iff
abbrev d8:=@Nat.min_eq_left
abbrev s6:=@List.getElem?_append_left
abbrev mB:=@List.length_pos_of_mem
abbrev nN:=@Array.length_toList
abbrev dK:=@List.length_nil
abbrev kf:=@Nat.sub_self
abbrev lI:=@List.drop_succ_cons
abbrev fG:=@List.not_mem_nil
abbrev r9:=@Array.getElem?_setIfInBounds_ne
abbrev lK:=@List.getElem?_map
abbrev nh:=@List.getElem_cons_succ
abbrev fh:=@List.length_set
abbrev dX:=@Bool.or_eq_true
abbrev pG:=@List.mem_or_eq_of_mem_set
abbrev gR:=@List.drop_zero
abbrev rg:=@List.eq_nil_of_length_eq_zero
abbrev mA:=@Nat.mul_le_mul_left
abbrev lY:=@List.pairwise_map
abbrev nD:=@List.getElem_set_self
abbrev fu:=@List.map_set
abbrev rq:=@List.countP_eq_length_filter
abbrev rZ:=@List.mem_zipIdx_iff_getElem?
abbrev ml:=@List.set_cons_succ
abbrev mQ:=@List.mem_filterMap
abbrev mI:=@List.getElem_range
abbrev nK:=@Bool.or_eq_false_iff
abbrev lR:=@List.cons_append
abbrev lO:=@List.getElem_set
abbrev rP:=@List.getElem_concat_length
abbrev n5:=@List.takeWhile_cons
abbrev nO:=@List.getElem_set_ne
abbrev m7:=@List.ext_getElem?
abbrev nf:=@List.flatten_cons
abbrev nk:=@List.take_succ_cons
abbrev gV:=@Nat.lt_or_ge
abbrev pf:=@List.length_filter_le
abbrev pY:=@List.length_filterMap_le
abbrev nW:=@List.set_cons_zero
abbrev pE:=@List.mem_cons_of_mem
abbrev py:=@List.pairwise_append
abbrev lW:=@List.tail_cons
abbrev nQ:=@List.length_range
abbrev mp:=@List.cons.injEq
abbrev rI:=@List.countP_le_length
abbrev rA:=@List.set_getElem_self
abbrev nZ:=@List.pairwise_cons
abbrev sK:=@List.pairwise_iff_getElem
abbrev pD:=@Nat.lt_trichotomy
abbrev mF:=@Bool.true_and
abbrev rQ:=@List.filterMap_cons
abbrev rH:=@List.replicate_succ
abbrev wa:=@Nat.add_sub_cancel_left
abbrev iw:=@List.zipWith_append
abbrev m4:=@Bool.not_true
abbrev fS:=@Nat.add_mul
abbrev pS:=@Bool.not_eq_true
abbrev pN:=@List.append_inj'
abbrev wO:=@List.getElem_replicate
abbrev sO:=@List.drop_of_length_le
abbrev rL:=@List.filter_append
abbrev ry:=@List.mem_cons_self
abbrev tn:=@List.filterMap_append
abbrev pB:=@List.nil_append
abbrev Qy:=@Array.getElem?_modify
abbrev tJ:=@List.eq_nil_or_concat
abbrev tX:=@List.concat_eq_append
abbrev mK:=@List.map_map
abbrev wt:=@Bool.and_eq_false_iff
abbrev np:=@Bool.false_or
abbrev ro:=@List.getElem?_set
abbrev rj:=@Bool.not_eq_false
end
structure qb where
 leap:List Nat
 down:List Nat
 deriving DecidableEq
structure zi where
 qf:Nat
 ql:Nat
 qi:List qb
 count:Nat
 deriving DecidableEq
abbrev zm:=List Nat
def qb.zero:qb:=⟨[],[]⟩
def yv(T:zi):zi:={T with qi:=T.qi++[⟨List.replicate T.qf T.qf,List.replicate T.qf 0⟩]}
def zM(a:Nat):Nat:=if a<1 then 1 else a
def yY(a:Nat):Nat:=if (if a<1 then 1 else a)>3 then 3 else(if a<1 then 1 else a)
def yU(b a:Nat):zi:=yv ⟨zM b,yY a,[],0⟩
def y5(T:zi)(at' «from» : Nat):Option Nat:=
 if at'<T.qi.length/\«from»<T.qf then
  let v:=(T.qi.getD at' qb.zero).leap.getD «from» 0
  if v≥T.qf then none else some v
 else none
def zG(T:zi)(at' v:Nat):Option Nat:=
 match y5 T at' v with
 |none=>none
 |some u=>if u=v then some ((T.qi.getD at' qb.zero).down.getD v 0) else none
def jW(v:Nat):Nat->List Nat->List Nat
 |0,l=>l
 |n+1,l=>if l.getD n 0>v then jW v n (l.set n v) else l
def fQ(n:qb)(v d:Nat):qb:=⟨jW v (v+1) n.leap,n.down.set v d⟩
def yb(T:zi)(at' v d:Nat):zi:=
 if at'<T.qi.length/\v<T.qf then{T with qi:=T.qi.set at' (fQ (T.qi.getD at' qb.zero) v d)} else T
def vX(T:zi)(at' v:Nat):zi×Nat:=
 match zG T at' v with
 |some b=>(T,b)
 |none=>(yb (yv T) at' v T.qi.length,T.qi.length)
def gs(T:zi)(at' v a:Nat):zi×Bool:=
 match zG T at' v with
 |some _=>(T,false)
 |none=>({yb T at' v a with count:=(yb T at' v a).count+1},true)
def fW(T:zi)(row:zm):Bool:=row.all (fun v=>v<T.qf)
def ve(a:Nat):zi->Nat->Nat->zm->zi×Bool
 |T,_,_,[]=>(T,false)
 |T,at',level,v::r=>
  if level+1≥T.ql then gs T at' v a else ve a (vX T at' v).1 (vX T at' v).2 (level+1) r
def addP(T:zi)(row:zm)(a:Nat):zi×Bool:=if fW T row then ve a T 0 0 row else(T,false)
def uz(T:zi):Nat->Nat->zm->Option Nat
 |_,_,[]=>none
 |at',level,v::r=>
  match zG T at' v with
  |none=>none
  |some b=>if level+1≥T.ql then some b else uz T b (level+1) r
def uq(T:zi)(row:zm):Option Nat:=uz T 0 0 row
def xF(T:zi):Nat->Nat->Nat->Nat->zm->List zm->Option (zm×List zm)
 |0,_,_,_,_,_=>none
 |n+1,at',level,«from»,row,a=>
  match y5 T at' «from» with
  |none=>some (row,a)
  |some v=>
   let row:=row.set level v
   if level+1≥T.ql then xF T n at' level (v+1) row (a++[row])
   else if level+1≥3 then xF T n at' level (v+1) row a
   else match xF T n ((zG T at' v).getD 0) (level+1) 0 row a with
    |none=>none
    |some (row,a)=>xF T n at' level (v+1) row a
def nU(a:Nat)(T:zi):Option (List zm):=(xF T a 0 0 0 [0,0,0] []).map (·.2)
structure zZ where
 var:Bool
 num:Nat
 level:Nat
 deriving DecidableEq
structure zu where
 pred:Nat
 qg:List zZ
 deriving DecidableEq
structure zr where
 qh:Nat
 vars:Nat
 head:zu
 qc:List zu
 qp:List zu
 deriving DecidableEq
def zH(l:zu)(place:Nat):Bool:=l.qg.any fun t=>t.var&&t.num == place
def yQ(l:zu)(place:Nat):Option Nat:=if zH l place then some ((List.range place).countP (zH l)) else none
def yO(l:zu):Nat:=(List.range 5).countP (zH l)
def uQ(l:zu):Nat:=l.qg.foldl (fun k t=>if t.var&&decide (t.num≥k) then t.num+1 else k) 0
def jL(l:zu)(jd:Int):Int:=l.qg.foldl (fun k t=>if t.var&&decide ((t.num:Int)<jd)&&decide ((t.num:Int)>k) then(t.num:Int) else k) (-1)
def qD(l:zu)(jd:Int):Int:=if (uQ l:Int)<=jd then -1 else jL l jd
def vO(jd b:Int)(l:zu):Int:=if qD l jd>b then qD l jd else b
def xu(r:zr)(jd:Int):Int:=r.qp.foldl (vO jd) (r.qc.foldl (vO jd) (jL r.head jd))
def RU(t:zZ)(vals:List Nat):Nat:=if t.var&&decide (t.num<5) then vals.getD t.num 0 else t.num
def Q9(l:zu)(vals:List Nat)(i:Nat):Nat:=if i<l.qg.length then RU (l.qg.getD i ⟨false,0,0⟩) vals else 0
def zF(l:zu)(vals:List Nat):zm:=[Q9 l vals 0,Q9 l vals 1,Q9 l vals 2]
def leveled(t:zZ):Bool:=t.var&&decide (t.level<3)
def qS(l:zu)(row f:zm)(i:Nat):zm:=
 if i<l.qg.length/\leveled (l.qg.getD i ⟨false,0,0⟩)=true then f.set (l.qg.getD i ⟨false,0,0⟩).level (row.getD i 0) else f
def ul(l:zu)(row:zm):zm:=qS l row (qS l row (qS l row [0,0,0] 0) 1) 2
def jy(t:zZ)(v:Nat)(f:zm):Bool:=if leveled t then f.getD t.level 0 == v else t.num == v
def xw(l:zu)(row f:zm)(i:Nat):Bool:=decide (l.qg.length<=i)||jy (l.qg.getD i ⟨false,0,0⟩) (row.getD i 0) f
def x9(l:zu)(row:zm):Option zm:=
 if xw l row (ul l row) 0&&xw l row (ul l row) 1&&xw l row (ul l row) 2 then some (ul l row) else none
structure yM where
 rows:zi
 qi:List Nat
 deriving DecidableEq
structure tW where
 lit:zu
 jd:Nat
 rows:zi
 deriving DecidableEq
structure z9 where
 head:zu
 vars:Nat
 qy:List yM
 bars:List tW
 je:List (List (Nat×Nat))
 jg:List Int
 last:Int
 ja:List Nat
 «from» : List Nat
 ql:Int
 /-- as the code counts them: an int of Go's -/
 jf:Int
 deriving DecidableEq
def yM.zero:yM:=⟨⟨0,0,[],0⟩,[]⟩
def xa(r:zr)(place:Nat):List (Nat×Nat):=
 r.qc.zipIdx.filterMap fun x=>(yQ x.1 place).map fun a=>(x.2,a)
def uH(J:z9)(jd:Nat):Bool:=J.bars.any fun b=>b.jd == jd&&(uq b.rows (zF b.lit J.ja)).isSome
def xx(r:zr)(qc qp:List zi):z9:=
 let J:z9:={head:=r.head,vars:=r.vars,qy:=qc.map (fun T=>⟨T,[0,0,0]⟩),bars:=(r.qp.zip qp).map (fun x=>⟨x.1,uQ x.1,x.2⟩),je:=(List.range 5).map (xa r),jg:=(List.range 5).map (fun p=>xu r (p:Nat)),last:=xu r r.vars,ja:=[0,0,0,0,0],«from»:=[0,0,0,0,0],ql:=if qc.any (fun T=>T.count == 0) then -1 else 0,jf:=0}
 if uH J 0 then{J with ql:=-1} else J
def vG(J:z9)(h:Nat×Nat):Bool:=decide (h.1<J.qy.length)&&decide (h.2<3)
def vV(J:z9)(h:Nat×Nat)(«from» : Nat):z9×Option Nat:=
 if vG J h then({J with jf:=IntKind.i64.wrap (J.jf+1)},y5 (J.qy.getD h.1 yM.zero).rows ((J.qy.getD h.1 yM.zero).qi.getD h.2 0) «from») else(J,none)
def kY:Nat->z9->List (Nat×Nat)->Nat->Nat->Nat->Option (z9×Option Nat)
 |0,_,_,_,_,_=>none
 |n+1,J,c,at',b,a=>
  if b<c.length then
   match vV J (c.getD a (0,0)) at' with
   |(J,none)=>some (J,none)
   |(J,some v)=>kY n J c (if v>at' then v else at') ((if v>at' then 0 else b)+1) (if a+1≥c.length then 0 else a+1)
  else some (J,some at')
def dZ(a:Nat)(J:z9)(place «from» : Nat):Option (z9×Option Nat):=
 if place≥5∨(J.je.getD place []).length=0 then some (J,none) else kY a J (J.je.getD place []) «from» 0 0
def vm(v:Nat)(J:z9)(h:Nat×Nat):z9:=
 if vG J h=false∨h.2+1≥3 then J
 else{J with qy:=J.qy.set h.1 {(J.qy.getD h.1 yM.zero) with qi:=(J.qy.getD h.1 yM.zero).qi.set (h.2+1) ((zG (J.qy.getD h.1 yM.zero).rows ((J.qy.getD h.1 yM.zero).qi.getD h.2 0) v).getD 0)}}
def ug(J:z9)(place v:Nat):z9:=
 if place≥5 then J
 else(J.je.getD place []).foldl (vm v) {J with ja:=J.ja.set place v,«from»:=(if place+1<5 then(J.from.set place (v+1)).set (place+1) 0 else J.from.set place (v+1))}
def jn:Nat->z9->Int->Option (z9×Bool)
 |0,_,_=>none
 |n+1,J,a=>
  if 0<=a/\a<J.vars/\a<5 then
   match dZ n J a.toNat (J.from.getD a.toNat 0) with
   |none=>none
   |some (J,none)=>jn n J (J.jg.getD a.toNat 0)
   |some (J,some v)=>jn n (ug J a.toNat v) (if uH (ug J a.toNat v) (a.toNat+1) then a else a+1)
  else some (J,decide (a≥J.vars))
def f5(b:Nat)(J:z9):Option (z9×Bool):=
 match jn b J J.ql with
 |none=>none
 |some (J,a)=>some ({J with ql:=if a then J.last else -1},a)
structure y6 where
 lit:zu
 before:zi
 qo:zi
 all:zi
 deriving DecidableEq
structure zX where
 rule:zr
 qm:List y6
 deriving DecidableEq
structure jj where
 pred:Nat
 row:zm
 deriving DecidableEq
structure jo where
 qf:Nat
 qj:List Nat
 facts:List jj
 rules:List zr
 deriving DecidableEq
structure zy where
 rows:List zi
 count:Nat
 qw:Nat
 jf:Int
 qo:List (List zm)
 deriving DecidableEq
def zi.zero:zi:=⟨0,0,[],0⟩
def qF(R:zy):zy:={R with qo:=List.replicate R.rows.length []}
def okT(T:zi):Bool:=decide (T.qi.length<=90000000)&&decide (T.count<1000000000)
def xz:List zm->zi->Option zi
 |[],T=>some T
 |r::a,T=>if okT T then xz a (addP T r 0).1 else none
def rowsG(a:Nat)(T:zi):Option (List zm):=
 match nU a T with
 |none=>none
 |some b=>if b.length<=1048576 then some b else none
def addR(b:Nat)(R:zy)(a:Nat)(row:zm):Option (zy×Bool):=
 if a<R.rows.length/\a<R.qo.length/\okT (R.rows.getD a zi.zero)=true/\R.count<=1048576/\(R.qo.getD a []).length<=1048576 then
  match addP (R.rows.getD a zi.zero) row R.qw with
  |(T,false)=>some ({R with rows:=R.rows.set a T},true)
  |(T,true)=>some ({R with rows:=R.rows.set a T,qo:=R.qo.set a (R.qo.getD a []++[row]),count:=R.count+1},decide (R.count+1<=b))
 else none
def fK(b:Nat)(R:zy)(a:Nat):zi:=if a≥R.rows.length then yU b 0 else R.rows.getD a zi.zero
def dM(d g:Nat)(V:y6)(c:List zm):Option y6:=
 match rowsG d V.qo with
 |none=>none
 |some e=>
  match xz e V.before,xz (c.filterMap (x9 V.lit)) (yU g (yO V.lit)),xz (c.filterMap (x9 V.lit)) V.all with
  |some b,some f,some a=>some {V with before:=b,qo:=f,all:=a}
  |_,_,_=>none
def kG(a:Nat)(l:zu):y6:=⟨l,yU a (yO l),yU a (yO l),yU a (yO l)⟩
def dD(a c:Nat)(R:zy):List zu->Option (List y6)
 |[]=>some []
 |l::r=>
  match rowsG a (fK c R l.pred) with
  |none=>none
  |some b=>match dM a c (kG c l) b,dD a c R r with
   |some v,some vs=>some (v::vs)
   |_,_=>none
def Rb(a c:Nat)(R:zy)(b:Nat):List zr->Option (List zX)
 |[]=>some []
 |r::d=>
  if r.qh=b then
   match dD a c R r.qc,Rb a c R b d with
   |some vs,some e=>some (⟨r,vs⟩::e)
   |_,_=>none
  else Rb a c R b d
def vH(a b:Nat):Nat->zy->z9->Option (zy×Bool)
 |0,_,_=>none
 |n+1,R,J=>
  match f5 n J with
  |none=>none
  |some (J,false)=>some ({R with jf:=IntKind.i64.wrap (R.jf+J.jf)},true)
  |some (J,true)=>match addR a R b (zF J.head J.ja) with
   |none=>none
   |some (R,false)=>some (R,false)
   |some (R,true)=>vH a b n R J
def qZ(a:Nat)(R:zy)(r:zr):List zi:=r.qp.map fun l=>fK a R l.pred
def QS(vs:List y6)(place:Nat):List zi:=vs.zipIdx.map fun x=>if x.2<place then x.1.before else if x.2=place then x.1.qo else x.1.all
def jz(b c a:Nat)(W:zX):Nat->Nat->zy->Option (zy×Bool)
 |0,_,R=>some (R,true)
 |n+1,i,R=>
  if (W.qm.getD i ⟨⟨0,[]⟩,zi.zero,zi.zero,zi.zero⟩).qo.count>0 then
   match vH a W.rule.head.pred b R (xx W.rule (QS W.qm i) (qZ c R W.rule)) with
   |none=>none
   |some (R,false)=>some (R,false)
   |some (R,true)=>jz b c a W n (i+1) R
  else jz b c a W n (i+1) R
def kU(b c a:Nat)(first:Bool)(R:zy)(W:zX):Option (zy×Bool):=
 if first then vH a W.rule.head.pred b R (xx W.rule (W.qm.map (·.all)) (qZ c R W.rule))
 else jz b c a W W.qm.length 0 R
def kO(b c a:Nat)(first:Bool):List zX->zy->Option (zy×Bool)
 |[],R=>some (R,true)
 |W::d,R=>
  match kU b c a first R W with
  |none=>none
  |some (R,false)=>some (R,false)
  |some (R,true)=>kO b c a first d R
def dP(a c:Nat)(b:List (List zm)):List y6->Option (List y6)
 |[]=>some []
 |V::vs=>
  match (if V.lit.pred<b.length then dM a c V (b.getD V.lit.pred []) else some V),dP a c b vs with
  |some v,some vs=>some (v::vs)
  |_,_=>none
def gu(a d:Nat)(c:List (List zm)):List zX->Option (List zX)
 |[]=>some []
 |W::b=>
  match dP a d c W.qm,gu a d c b with
  |some v,some b=>some ({W with qm:=v}::b)
  |_,_=>none
def nS(b d a:Nat)(first:Bool)(c:List zX)(R:zy):Option (zy×List zX×Bool):=
 match kO b d a first c (qF {R with qw:=R.qw+1}) with
 |none=>none
 |some (R,false)=>some (R,c,false)
 |some (R,true)=>(gu b d R.qo c).map fun c=>(R,c,true)
def kB(e b a:Nat):Nat->Bool->List zX->zy->Option (zy×Bool)
 |0,_,_,_=>none
 |n+1,first,d,R=>
  if R.qw≥a then some (R,false)
  else match nS n e b first d R with
   |none=>none
   |some (c,_,false)=>some (c,false)
   |some (c,d,true)=>if c.count>R.count then kB e b a n false d c else some (c,true)
def nr(c f b a:Nat)(d:List zr)(R:zy)(s:Nat):Option (zy×Bool):=
 match Rb c f R s d with
 |none=>none
 |some e=>if e.length>0 then kB f b a c true e R else some (R,true)
def kq(d e b a:Nat)(c:List zr):Nat->Nat->zy->Option (zy×Bool)
 |0,_,R=>some (R,true)
 |n+1,s,R=>
  match nr d e b a c R s with
  |none=>none
  |some (R,false)=>some (R,false)
  |some (R,true)=>kq d e b a c n (s+1) R
def kK(a:Nat):List jj->zy->Option (zy×Bool)
 |[],R=>some (R,true)
 |f::b,R=>
  match addR a R f.pred f.row with
  |none=>none
  |some (R,false)=>some (R,false)
  |some (R,true)=>kK a b R
def fE(S:jo):zy:=qF ⟨S.qj.map (yU S.qf),0,0,0,[]⟩
def my(c:Nat)(S:jo)(a b:Nat):Option (Option zy):=
 match kK a S.facts (fE S) with
 |none=>none
 |some (_,false)=>some none
 |some (R,true)=>(kq c S.qf a b S.rules S.qj.length 0 R).map fun x=>if x.2 then some x.1 else none
section
variable {d i:Nat}{listed:Array Bool}{a:Act}{w:World}
section
variable {P:Program} {ops:Array Oper} {Q:Exit->Act->World->Prop} {md:Region.Mode} {S:World->Prop}
def fP(P:Program)(md:Region.Mode)(ops:Array Oper)(Q:Exit->Act->World->Prop)(S:World->Prop)(d:Nat):Nat->Array Bool->Act->World->Prop
 |0,listed,a,w=>Region.ready md ops listed=[]/\Q .normal a w
 |b+1,listed,a,w=>
  (Region.ready md ops listed=[]->Q .normal a w) ∧
  ∀i∈Region.ready md ops listed,wpOp P ops Q i (fun e c=>(i≠d->S c)/\fP P md ops Q S d b (listed.setIfInBounds i true) e c) a w
theorem Ft{d:Nat}:∀(b:Nat) (listed:Array Bool) (a:Act) (w:World),fP P md ops Q S d b listed a w->wpAny P md ops Q b listed a w
 |0,_,_,_,h=>h
 |b+1,_,_,_,h=>⟨h.1,fun i g=>wpOp_mono (fun e f c=>Ft b _ e f c.2) (h.2 i g)⟩
def R4(md:Region.Mode)(ops:Array Oper)(d i:Nat):Bool:=match ops[d]? with
 |none=>false
 |some o=>o.after.toList.any fun e=>Region.binds md e&&e.on == i
theorem N3(h:R4 md ops d i=true):∃o,ops[d]?=some o/\∃e∈o.after,Region.binds md e=true/\e.on=i:=by
 unfold R4 at h;split at h
 ·cases h
 ·rename_i o f;obtain⟨e,c,b⟩:=gM.1 h;simp only[uw,beq_iff_eq] at b;exact⟨o,f,e,by simpa using c,b⟩
theorem Kx{s:Oper}{v:Value}(L:ops[i]?=some s)(p:∀(j:Nat) (o:Oper) C b,ops[j]?=some o->o.op≠.select C b)
  (Y:∀c a w,Q (.panic c) (a.put s.dst v) w->Q (.panic c) a w) (W:R4 md ops d i=true):
  ∀(f:Nat) (listed:Array Bool) (a:Act) (w:World),
   (∀j t,ops[j]?=some t->j≠i->listed.getD j true=false->(∀e∈t.after,Region.binds md e=true->e.on≠i)->s.apart ops t=true) →
   i∈Region.ready md ops listed->YieldsIf P ops S s v a->S w →
   fP P md ops Q S d f (listed.setIfInBounds i true) (a.put s.dst v) w->fP P md ops Q S d (f+1) listed a w:=by
 intro f;induction f with
 |zero=>
  intro listed a w _ x E y H;refine⟨fun h=>(by rw[h] at x;cases x),fun j D=>?_⟩;by_cases g:j=i
  ·subst g;exact E.wpOp L y ⟨fun _=>y,H⟩
  ·have:=ready_mono D g;rw[H.1] at this;cases this
 |succ f ih=>
  intro listed a w l x E y H;refine⟨fun h=>(by rw[h] at x;cases x),fun j D=>?_⟩;by_cases g:j=i
  ·subst g;exact E.wpOp L y ⟨fun _=>y,H⟩
  ·have u:=H.2 j (ready_mono D g);obtain⟨r,t,n,B⟩:=mem_ready.1 D;have q:∀e∈t.after,Region.binds md e=true->e.on≠i:=fun e M G K=>by
    have u:=B e M G;have T:=(mem_ready.1 x).1;rw[K] at u;rcases gV i listed.size with N|N
    ·simp[N] at T u;rw[T] at u;cases u
    ·simp[Array.getElem?_eq_none N] at u
   have R:j≠d:=fun e=>by
    subst e;obtain⟨od,U,e,M,G,J⟩:=N3 W;rw[n] at U;cases U;exact q e M G J
   have X:=wpOp_putIf n (l j t n g r q) (fun C b=>p i s C b L) (fun C b=>p j t C b n) Y E u;have m:∀k ok,ops[k]?=some ok->k≠i->(listed.setIfInBounds j true).getD k true=false →
     (∀e∈ok.after,Region.binds md e=true->e.on≠i)->s.apart ops ok=true:=fun k ok hk O A I=>by
    refine l k ok hk O ?_ I;by_cases z:j=k
    ·subst z;exact r
    ·rw[getD_set_ne true z] at A;exact A
   refine wpOp_mono (fun V Z F=>⟨F.2.1,ih (listed.setIfInBounds j true) V Z m (ready_mono x (Ne.symm g)) F.1 (F.2.1 R) ?_⟩) X;rw[Array.setIfInBounds_comm _ _ g];exact F.2.2
theorem xV{e:Oper}{v:Value}{b:Nat}(f:ops[i]?=some e)
  (hs:Region.noSelect ops=true) (k:Region.free md ops listed i=true) (n:(Region.ready md ops listed).contains i=true) (m:R4 md ops d i=true)
  (j:∀c a w,Q (.panic c) (a.put e.dst v) w->Q (.panic c) a w) (l:YieldsIf P ops S e v a) (g:S w)
  (h:fP P md ops Q S d b (listed.setIfInBounds i true) (a.put e.dst v) w):fP P md ops Q S d (b+1) listed a w:=
 Kx f (Region.noSelect_spec hs) j m b listed a w (Region.free_spec f k) (by simpa using n) l g h
theorem gQ{o:Oper}{b:Nat}(g:Region.ready md ops listed=[i])(m:ops[i]?=some o)
  (h:∀c:Act->World->Prop,Shut (∀a w,(i≠d->S w)->fP P md ops Q S d b (listed.setIfInBounds i true) a w->c a w)->if Region.wanted o (yielded ops a.tmps)=true then Oper.wp P o a w c Q else c (a.put o.dst undef) w):fP P md ops Q S d (b+1) listed a w:=by
 refine⟨fun e=>(by rw[g] at e;cases e),fun j f=>?_⟩;rw[g] at f;obtain rfl:j=i:=by simpa using f
 exact wpOp_step m (fun c n=>h c (fun a w k l=>n a w ⟨k,l⟩))
theorem Af(c:Region.ready md ops listed=[])(h:Q .normal a w):∀b,fP P md ops Q S d b listed a w
 |0=>⟨c,h⟩
 |_+1=>⟨fun _=>h,by rw[c];simp⟩
theorem eP{id:Nat}(b:P.follows .mixedOrders=true)(c:S w.drew)
  (h:S w.drew->fP P .any ops Q S d ops.size (Array.replicate ops.size false) a w.drew):(Code.region id ops true).wp P Q a w:=
 wp_region_any b (Ft _ _ _ _ (h c))
end
end
structure kC (w:Nat) (n:qb):Prop where
 len:n.leap.length=w
 dlen:n.down.length=w
 ge:∀i,i<w->i<=n.leap.getD i 0
 le:∀i,i<w->n.leap.getD i 0<=w
 fix:∀i,i<w->n.leap.getD i 0<w->n.leap.getD (n.leap.getD i 0) 0=n.leap.getD i 0
 seg:∀i j,i<w->i<=j->j<n.leap.getD i 0->n.leap.getD j 0=n.leap.getD i 0
theorem uv(l:List Nat)(i j v d:Nat):(l.set i v).getD j d=if i=j/\i<l.length then v else l.getD j d:=by
 simp only[gL,ro];by_cases h:i=j
 ·subst h;by_cases a:i<l.length
  ·simp[a]
  ·simp[a]
 ·simp[h]
theorem Bl(v:Nat):∀(n:Nat) (l:List Nat),(jW v n l).length=l.length
 |0,l=>rfl
 |n+1,l=>by
  unfold jW;split
  ·rw[Bl];simp
  ·rfl
open Classical in
theorem Ax(v:Nat):∀(n:Nat) (l:List Nat) (u:Nat),n<=l.length->(jW v n l).getD u 0=if u<n/\∀j,u<=j->j<n->l.getD j 0>v then v else l.getD u 0
 |0,l,u,_=>by simp[jW]
 |n+1,l,u,h=>by
  unfold jW;by_cases c:l.getD n 0>v
  ·rw[zc c,Ax v n (l.set n v) u (by simp;omega)];by_cases e:u<n
   ·by_cases d:∀j,u<=j->j<n->l.getD j 0>v
    ·rw[zc ⟨e,fun j a b=>by rw[uv,za (by omega)];exact d j a b⟩,zc ⟨by omega,fun j a b=>by
      by_cases f:j=n
      ·subst f;exact c
      ·exact d j a (by omega)⟩]
    ·rw[za (fun q=>d fun j a b=>by have:=q.2 j a b;rwa [uv,za (by omega)] at this),za (fun q=>d fun j a b=>q.2 j a (by omega)),uv,za (by omega)]
   ·rw[za (fun q=>e q.1),uv];by_cases g:n=u
    ·subst g;rw[zc ⟨rfl,by omega⟩,zc ⟨by omega,fun j a b=>by
      have:j=n:=by omega
      subst this;exact c⟩]
    ·rw[za (by omega),za (by omega)]
  ·rw[za c];by_cases e:u<n+1
   ·rw[za (fun q=>c (q.2 n (by omega) (by omega)))]
   ·rw[za (fun q=>e q.1)]
def lz(w:Nat)(n:qb)(v:Nat):Prop:=v<w/\n.leap.getD v 0=v
theorem kC.none{w:Nat}{n:qb}(h:kC w n){i:Nat}(b:i<w)(d:¬n.leap.getD i 0<w):∀u,i<=u->¬lz w n u:=by
 intro u a ⟨c,e⟩;have:=h.seg i u b a (by omega);omega
theorem kC.some{w:Nat}{n:qb}(h:kC w n){i:Nat}(a:i<w)(b:n.leap.getD i 0<w):i<=n.leap.getD i 0/\lz w n (n.leap.getD i 0)/\∀u,i<=u->u<n.leap.getD i 0->¬lz w n u:=by
 refine⟨h.ge i a,⟨b,h.fix i a b⟩,fun u d c ⟨f,e⟩=>?_⟩;have:=h.seg i u a d c;omega
theorem kC.put{w:Nat}{n:qb}(h:kC w n){v d:Nat}(l:v<w)(z:¬lz w n v):kC w (fQ n v d)/\(∀u,lz w (fQ n v d) u↔u=v∨lz w n u)/\∀u,(fQ n v d).down.getD u 0=if u=v then d else n.down.getD u 0:=by
 have y:=h.len;have g:n.leap.getD v 0>v:=by
  have o:=h.ge v l;rcases Nat.lt_or_eq_of_le o with q|q
  ·exact q
  ·exact zC ⟨l,q.symm⟩ z
 have s:∀u,(jW v (v+1) n.leap).getD u 0=if u<=v/\n.leap.getD u 0>v then v else n.leap.getD u 0:=by
  intro u;rw[Ax v (v+1) n.leap u (by omega)];by_cases m:u<=v
  ·by_cases f:n.leap.getD u 0>v
   ·have r:∀j,u<=j->j<v+1->n.leap.getD j 0>v:=fun j o x=>by
     have:=h.seg u j (by omega) o (by omega);omega
    rw[zc ⟨by omega,r⟩,zc ⟨m,f⟩]
   ·rw[za (fun q=>f (q.2 u (zg _) (by omega))),za (fun q=>f q.2)]
  ·rw[za (fun q=>by omega),za (fun q=>by omega)]
 have a:∀u,(fQ n v d).leap.getD u 0=if u<=v/\n.leap.getD u 0>v then v else n.leap.getD u 0:=s
 have e:(fQ n v d).leap.getD v 0=v:=by rw[a,zc ⟨zg _,g⟩]
 refine⟨⟨by simp[fQ,Bl,y],by simp[fQ,h.dlen],fun i c=>?_,fun i c=>?_,fun i c f=>?_,fun i j c k p=>?_⟩,fun u=>?_,fun u=>?_⟩
 ·rw[a];split
  ·omega
  ·exact h.ge i c
 ·rw[a];split
  ·omega
  ·exact h.le i c
 ·by_cases b:i<=v/\n.leap.getD i 0>v
  ·rw[a i,zc b];exact e
  ·rw[a i,za b] at f ⊢;have x:=h.fix i c f;rw[a];by_cases t:n.leap.getD i 0<=v/\n.leap.getD (n.leap.getD i 0) 0>v
   ·omega
   ·rw[za t];exact x
 ·by_cases b:i<=v/\n.leap.getD i 0>v
  ·rw[a i,zc b] at p ⊢;have:=h.seg i j c k (by omega);rw[a,zc ⟨by omega,by omega⟩]
  ·rw[a i,za b] at p ⊢;have:=h.seg i j c k p;rw[a,this];rw[za (by omega)]
 ·unfold lz;rw[a];by_cases b:u<=v/\n.leap.getD u 0>v
  ·rw[zc b];constructor
   ·rintro⟨_,q⟩;exact zf q.symm
   ·rintro(q|q)
    ·subst q;exact⟨l,rfl⟩
    ·omega
  ·rw[za b];constructor
   ·intro q;exact zb q
   ·rintro(q|q)
    ·subst q;exact zC ⟨zg _,g⟩ b
    ·exact q
 ·show(n.down.set v d).getD u 0=_;rw[uv];by_cases m:u=v
  ·subst m;rw[zc ⟨rfl,by rw[h.dlen];exact l⟩,zc rfl]
  ·rw[za (by omega),za m]
theorem pK(k d i:Nat)(a:i<k)(x:Nat):(List.replicate k x).getD i d=x:=by simp[List.getD_eq_getElem?_getD,a]
theorem kC.new(w:Nat):kC w ⟨List.replicate w w,List.replicate w 0⟩/\∀v,¬lz w ⟨List.replicate w w,List.replicate w 0⟩ v:=by
 refine⟨⟨by simp,by simp,fun i a=>?_,fun i a=>?_,fun i a e=>?_,fun i j a d b=>?_⟩,fun v ⟨c,f⟩=>?_⟩<;>simp only at *
 ·rw[pK _ _ _ a];omega
 ·rw[pK _ _ _ a];exact zg _
 ·rw[pK _ _ _ a] at e;omega
 ·rw[pK _ _ _ a] at b ⊢;rw[pK _ _ _ b]
 ·rw[pK _ _ _ c] at f;omega
section
variable {T:zi}{a:Nat}
def jH(T:zi)(a:Nat):qb:=T.qi.getD a qb.zero
def dS(T:zi):Prop:=∀a,a<T.qi.length->kC T.qf (jH T a)
theorem l6(T:zi)(a v:Nat):zG T a v=if a<T.qi.length/\v<T.qf/\(jH T a).leap.getD v 0=v then some ((jH T a).down.getD v 0) else none:=by
 unfold zG y5 jH;by_cases b:a<T.qi.length/\v<T.qf
 ·rw[zc b];dsimp only;generalize (T.qi.getD a qb.zero).leap.getD v 0=x;by_cases c:x=v
  ·subst c;rw[za (by omega:¬x≥T.qf)];simp[b]
  ·by_cases d:x≥T.qf
   ·simp[d,c]
   ·simp[d,c]
 ·rw[za b,za (fun q=>b ⟨q.1,q.2.1⟩)]
theorem fc{v b:Nat}(h:zG T a v=some b):a<T.qi.length/\v<T.qf:=by
 unfold zG y5 at h;by_cases c:a<T.qi.length/\v<T.qf
 ·exact c
 ·rw[za c] at h;cases h
theorem BQ(h:dS T){f v:Nat}(b:y5 T a f=some v):f<=v/\v<T.qf/\(zG T a v).isSome=true/\∀u,f<=u->u<v->zG T a u=none:=by
 unfold y5 at b;split at b
 ·rename_i d;simp only at b;split at b
  ·cases b
  ·rename_i g;simp only[zt] at b;have c:=(h a d.1).some d.2 (by unfold jH;omega);unfold jH at c;rw[b] at c g;refine⟨c.1,by omega,?_,fun u i e=>?_⟩
   ·rw[l6,zc ⟨d.1,by omega,c.2.1.2⟩];rfl
   ·rw[l6,za (fun q=>c.2.2 u i e ⟨q.2.1,q.2.2⟩)]
 ·cases b
theorem AF(h:dS T){f:Nat}(b:y5 T a f=none):∀u,f<=u->zG T a u=none:=by
 intro u c;rw[l6];refine za fun q=>?_;unfold y5 at b;rw[zc ⟨q.1,by omega⟩] at b;simp only at b;split at b
 ·rename_i d;exact(h a q.1).none (show f<T.qf by omega) (by unfold jH;omega) u c ⟨q.2.1,q.2.2⟩
 ·cases b
def Rn(T:zi):Nat->zm->Option Nat
 |a,[]=>some a
 |a,v::r=>match zG T a v with
  |none=>none
  |some b=>Rn T b r
theorem nL(T:zi):∀(p q:zm) (a:Nat),Rn T a (p++q)=(Rn T a p).bind fun b=>Rn T b q
 |[],q,a=>rfl
 |v::p,q,a=>by
  simp only[lR,Rn];cases zG T a v with
  |none=>rfl
  |some b=>exact nL T p q b
structure jZ (T:zi) (pth:Nat->zm):Prop where
 dep:1<=T.ql/\T.ql<=3
 wid:1<=T.qf
 pos:0<T.qi.length
 node:dS T
 root:pth 0=[]
 lev:∀a,a<T.qi.length->(pth a).length<T.ql
 inj:∀a b,a<T.qi.length->b<T.qi.length->pth a=pth b->a=b
 kid:∀a v b,zG T a v=some b->(pth a).length+1<T.ql->b<T.qi.length/\pth b=pth a++[v]
 par:∀b,b<T.qi.length->b≠0->∃a v,zG T a v=some b/\(pth a).length+1<T.ql/\pth b=pth a++[v]
theorem Ig(l:List qb)(i j:Nat)(v d:qb):(l.set i v).getD j d=if i=j/\i<l.length then v else l.getD j d:=by
 simp only[gL,ro];by_cases h:i=j
 ·subst h;by_cases b:i<l.length
  ·simp[b]
  ·simp[b]
 ·simp[h]
theorem An(T:zi)(a v d b:Nat)(c:a<T.qi.length)(e:v<T.qf):jH (yb T a v d) b=if b=a then fQ (jH T a) v d else jH T b:=by
 unfold yb jH;rw[zc ⟨c,e⟩];simp only;rw[Ig];by_cases h:b=a
 ·subst h;rw[zc ⟨rfl,c⟩,zc rfl]
 ·rw[za (fun q=>h q.1.symm),za h]
theorem fZ(T:zi)(a v d:Nat):(yb T a v d).qi.length=T.qi.length:=by unfold yb;split<;>simp
theorem ny(T:zi)(a v d:Nat):(yb T a v d).qf=T.qf:=by unfold yb;split<;>rfl
theorem pR(T:zi)(a v d:Nat):(yb T a v d).ql=T.ql:=by unfold yb;split<;>rfl
theorem Bi(T:zi)(a v d:Nat):(yb T a v d).count=T.count:=by unfold yb;split<;>rfl
theorem Ey(h:dS T){v d:Nat}(g:a<T.qi.length)(f:v<T.qf)(m:zG T a v=none):dS (yb T a v d)/\∀b u,zG (yb T a v d) b u=if b=a/\u=v then some d else zG T b u:=by
 have k:¬lz T.qf (jH T a) v:=fun q=>by rw[l6,zc ⟨g,f,q.2⟩] at m;cases m
 obtain⟨o,j,n⟩:=(h a g).put (d:=d) f k;have l:dS (yb T a v d):=by
  intro b e;rw[fZ] at e;rw[ny,An T a v d b g f];split
  ·exact o
  ·exact h b e
 refine⟨l,fun b u=>?_⟩;rw[l6,fZ,ny,An T a v d b g f,l6];by_cases e:b=a
 ·subst e;rw[zc rfl,n];by_cases i:u=v
  ·subst i;rw[zc rfl,zc ⟨g,f,((j u).2 (zf rfl)).2⟩,zc ⟨rfl,rfl⟩]
  ·rw[za i,za (fun q:b=b/\u=v=>i q.2)];by_cases c:b<T.qi.length/\u<T.qf/\(jH T b).leap.getD u 0=u
   ·rw[zc c,zc ⟨c.1,c.2.1,((j u).2 (zb c.2)).2⟩]
   ·rw[za c];refine za fun q=>c ⟨q.1,?_⟩;rcases(j u).1 q.2 with r|r
    ·exact zC r i
    ·exact r
 ·rw[za e,za (fun q:b=a/\u=v=>e q.1)]
theorem Gk(h:dS T):dS (yv T)/\∀b u,zG (yv T) b u=zG T b u:=by
 have d:∀b,jH (yv T) b=if b<T.qi.length then jH T b else if b=T.qi.length then⟨List.replicate T.qf T.qf,List.replicate T.qf 0⟩ else qb.zero:=by
  intro b;unfold jH yv;simp only[gL,List.getElem?_append];by_cases c:b<T.qi.length
  ·simp[c]
  ·rw[za c,za c];by_cases f:b=T.qi.length
   ·subst f;simp
   ·rw[za f];rw[kV (by simp;omega)];rfl
 have g:(yv T).qi.length=T.qi.length+1:=by simp[yv]
 have i:dS (yv T):=by
  intro b j;rw[d];by_cases c:b<T.qi.length
  ·rw[zc c];exact h b c
  ·rw[za c,zc (by omega)];exact(kC.new T.qf).1
 refine⟨i,fun b u=>?_⟩;rw[l6,l6,d,g,show(yv T).qf=T.qf from rfl];by_cases c:b<T.qi.length
 ·rw[zc c];by_cases e:u<T.qf/\(jH T b).leap.getD u 0=u
  ·rw[zc ⟨by omega,e⟩,zc ⟨c,e⟩]
  ·rw[za (fun q=>e q.2),za (fun q=>e q.2)]
 ·rw[za c,za (fun q:b<T.qi.length/\_=>c q.1)];by_cases f:b=T.qi.length
  ·rw[zc f];exact za fun q=>(kC.new T.qf).2 u q.2
  ·exact za fun q=>by omega
end
section
variable {pth:Nat->zm}
def ua(T:zi)(q:zm):Option Nat:=Rn T 0 q
structure Sz (T T':zi) (key:zm) (m:Nat) (new:Bool) (room:Nat):Prop where
 inv:∃pth',jZ T' pth'
 qf:T'.qf=T.qf
 ql:T'.ql=T.ql
 is:new=(ua T key).isNone
 same:new=false->T'=T
 more:new=true->T'.count=T.count+1/\T'.qi.length<=T.qi.length+room
 sem:∀q,q.length=T.ql->ua T' q=if q=key then some ((ua T q).getD m) else ua T q
theorem jZ.grow{T:zi}(h:jZ T pth){a v:Nat}(F:a<T.qi.length)(G:v<T.qf)(H:(pth a).length+1<T.ql)(s:zG T a v=none):
  jZ (yb (yv T) a v T.qi.length) (fun c=>if c=T.qi.length then pth a++[v] else pth c)/\(∀b u,zG (yb (yv T) a v T.qi.length) b u=if b=a/\u=v then some T.qi.length else zG T b u)/\(yb (yv T) a v T.qi.length).qi.length=T.qi.length+1/\(yb (yv T) a v T.qi.length).qf=T.qf/\(yb (yv T) a v T.qi.length).ql=T.ql/\(yb (yv T) a v T.qi.length).count=T.count:=by
 have z:=Gk h.node;have o:(yv T).qi.length=T.qi.length+1:=by simp[yv]
 obtain⟨K,I⟩:=Ey z.1 (a:=a) (v:=v) (d:=T.qi.length) (by rw[o];omega) (show v<(yv T).qf from G) (by rw[z.2];exact s);have r:∀b u,zG (yb (yv T) a v T.qi.length) b u=if b=a/\u=v then some T.qi.length else zG T b u:=fun b u=>by rw[I,z.2]
 have j:(yb (yv T) a v T.qi.length).qi.length=T.qi.length+1:=by rw[fZ,o]
 have q:(yb (yv T) a v T.qi.length).qf=T.qf:=by rw[ny];rfl
 have i:(yb (yv T) a v T.qi.length).ql=T.ql:=by rw[pR];rfl
 have y:(yb (yv T) a v T.qi.length).count=T.count:=by rw[Bi];rfl
 have g:∀c,c<T.qi.length->pth c≠pth a++[v]:=by
  intro c p e;have A:c≠0:=by rintro rfl;rw[h.root] at e;exact zC e.symm (by simp)
  obtain⟨D,M,k,C,t⟩:=h.par c p A;rw[e] at t;have l:=pN t rfl;have n:=h.inj a D F (fc k).1 l.1;subst n;simp only[mp,and_true] at l;rw[←l.2] at k;rw[k] at s;cases s
 refine⟨⟨by rw[i];exact h.dep,by rw[q];exact h.wid,by rw[j];omega,K,?_,fun c p=>?_,fun c d p B e=>?_,fun c u b f m=>?_,fun b E x=>?_⟩,r,j,q,i,y⟩
 ·rw[za (by omega)];exact h.root
 ·rw[j] at p;rw[i];by_cases e:c=T.qi.length
  ·rw[zc e];simp;omega
  ·rw[za e];exact h.lev c (by omega)
 ·rw[j] at p B;by_cases l:c=T.qi.length
  ·by_cases n:d=T.qi.length
   ·rw[l,n]
   ·rw[zc l,za n] at e;exact zC e.symm (g d (by omega))
  ·by_cases n:d=T.qi.length
   ·rw[za l,zc n] at e;exact zC e (g c (by omega))
   ·rw[za l,za n] at e;exact h.inj c d (by omega) (by omega) e
 ·rw[r] at f;rw[i] at m;by_cases e:c=a/\u=v
  ·rw[zc e] at f;simp only[zt] at f;obtain⟨rfl,rfl⟩:=e;subst f;rw[zc rfl,za (by omega)];exact⟨by omega,rfl⟩
  ·rw[za e] at f;have w:=(fc f).1;rw[za (by omega)] at m;obtain⟨L,J⟩:=h.kid c u b f m;rw[za (by omega),za (by omega)];exact⟨by omega,J⟩
 ·rw[j] at E;by_cases e:b=T.qi.length
  ·refine⟨a,v,by rw[r,zc ⟨rfl,rfl⟩,e],by rw[za (by omega),i];exact H,by rw[zc e,za (by omega)]⟩
  ·obtain⟨c,u,k,C,t⟩:=h.par b (by omega) x;have w:=(fc k).1;refine⟨c,u,?_,by rw[za (by omega),i];exact C,by rw[za e,za (by omega)];exact t⟩;rw[r,za]
   ·exact k
   ·rintro⟨rfl,rfl⟩;rw[s] at k;cases k
theorem jZ.grow_sem{T j:zi}{pth:Nat->zm}(h:jZ T pth){a v:Nat}(o:(pth a).length+1<T.ql)(k:zG T a v=none)(g:∀b u,zG j b u=if b=a/\u=v then some T.qi.length else zG T b u):∀(q:zm) (c:Nat),c<T.qi.length->(pth c).length+q.length=T.ql->Rn j c q=Rn T c q
 |[],c,_,_=>rfl
 |u::q,c,p,i=>by
  simp only[Rn,g];simp only[xi] at i;by_cases e:c=a/\u=v
  ·obtain⟨rfl,rfl⟩:=e;rw[zc ⟨rfl,rfl⟩,k];simp only;cases q with
   |nil=>simp at i;omega
   |cons x q=>
    simp only[Rn,g];by_cases d:c=T.qi.length
    ·omega
    ·rw[za (fun q=>d q.1.symm)];cases f:zG T T.qi.length x with
     |none=>rfl
     |some y=>have:=(fc f).1;omega
  ·rw[za e];cases f:zG T c u with
   |none=>rfl
   |some b=>
    simp only;by_cases m:(pth c).length+1<T.ql
    ·obtain⟨n,l⟩:=h.kid c u b f m;exact h.grow_sem o k g q b n (by rw[l];simp;omega)
    ·cases q with
     |nil=>rfl
     |cons x q=>simp at i;omega
theorem jZ.put_sem{T C:zi}{pth:Nat->zm}(h:jZ T pth){a v m:Nat}(H:(pth a).length+1=T.ql)(z:a<T.qi.length)(I:zG T a v=none)(E:∀b u,zG C b u=if b=a/\u=v then some m else zG T b u):∀(q:zm) (c:Nat),c<T.qi.length->(pth c).length+q.length=T.ql->Rn C c q=if pth c++q=pth a++[v] then some m else Rn T c q
 |[],c,l,p=>by have:=h.lev c l;simp at p;omega
 |u::q,c,l,p=>by
  simp only[Rn,E];simp only[xi] at p;by_cases G:(pth c).length+1<T.ql
  ·have B:c≠a:=by rintro rfl;omega
   rw[za (fun q=>B q.1)];cases D:zG T c u with
   |none=>
    simp only;rw[za];intro e;have A:∀(k:Nat) (q:zm) (b:Nat),q.length=k->b<T.qi.length->pth c++u::q=pth b->False:=by
     intro k;induction k with
     |zero=>
      intro q b o t e;have:q=[]:=mo.1 o;subst this;have g:b≠0:=by rintro rfl;rw[h.root] at e;simp at e
      obtain⟨x,y,j,L,n⟩:=h.par b t g;rw[←e] at n;have f:=pN n rfl;have:=h.inj c x l (fc j).1 f.1;subst this;simp only[mp,and_true] at f;rw[←f.2,D] at j;cases j
     |succ k M=>
      intro q b o t e;have g:b≠0:=by rintro rfl;rw[h.root] at e;simp at e
      obtain⟨x,y,j,L,n⟩:=h.par b t g;have d:q≠[]:=by rintro rfl;simp at o
      have i:q=q.dropLast++[q.getLast d]:=(List.dropLast_concat_getLast d).symm;rw[←e,i] at n;have w:(pth c++u::q.dropLast)++[q.getLast d]=pth x++[y]:=by rw[←n];simp
      have f:=pN w rfl;exact M q.dropLast x (by simp[o]) (fc j).1 f.1
    have d:q≠[]:=by rintro rfl;simp at p;omega
    have i:q=q.dropLast++[q.getLast d]:=(List.dropLast_concat_getLast d).symm;rw[i] at e;have w:(pth c++u::q.dropLast)++[q.getLast d]=pth a++[v]:=by rw[←e];simp
    have f:=pN w rfl;exact A _ q.dropLast a rfl z f.1
   |some b=>
    simp only;obtain⟨J,F⟩:=h.kid c u b D G;rw[h.put_sem H z I E q b J (by rw[F];simp;omega),F];simp
  ·have s:q=[]:=mo.1 (by have:=h.lev c l;omega);subst s;by_cases e:c=a/\u=v
   ·obtain⟨rfl,rfl⟩:=e;simp[Rn]
   ·rw[za e];have r:¬pth c++[u]=pth a++[v]:=by
     intro K;have f:=pN K rfl;exact e ⟨h.inj c a l z f.1,by simpa using f.2⟩
    rw[za r];cases zG T c u<;>rfl
theorem jZ.reach{T:zi}(h:jZ T pth):∀(k:Nat) (b:Nat),b<T.qi.length->(pth b).length=k->Rn T 0 (pth b)=some b:=by
 intro k;induction k with
 |zero=>
  intro b d a;have e:pth b=pth 0:=by rw[h.root];exact mo.1 a
  have:=h.inj b 0 d h.pos e;subst this;rw[h.root];rfl
 |succ k i=>
  intro b d a;have c:b≠0:=by rintro rfl;rw[h.root] at a;simp at a
  obtain⟨x,y,f,l,g⟩:=h.par b d c;have j:=i x (fc f).1 (by rw[g] at a;simpa using a);rw[g,nL,j];simp[Rn,f]
theorem oC(m:Nat):∀(r:zm) (T:zi) (pth:Nat->zm) (a:Nat),jZ T pth->a<T.qi.length->T.ql<=(pth a).length+r.length->(∀v∈r,v<T.qf)->Sz T (ve m T a (pth a).length r).1 (pth a++r.take (T.ql-(pth a).length)) m (ve m T a (pth a).length r).2 (T.ql-1-(pth a).length)
 |[],T,pth,a,h,s,K,_=>by have:=h.lev a s;simp at K;omega
 |v::r,T,pth,a,h,s,K,J=>by
  have R:=h.lev a s;have S:v<T.qf:=J v (by simp);have i:=h.reach _ a s rfl;simp only[xi] at K;unfold ve;by_cases Q:(pth a).length+1≥T.ql
  ·rw[zc Q];have P:T.ql-(pth a).length=1:=by omega
   rw[P];have j:ua T (pth a++(v::r).take 1)=zG T a v:=by
    unfold ua;rw[nL,i];simp only[nk,List.take_zero,Option.bind_some,Rn];cases zG T a v<;>rfl
   unfold gs;cases g:zG T a v with
   |some b=>
    refine⟨⟨pth,h⟩,rfl,rfl,by rw[j,g];rfl,fun _=>rfl,fun q=>by simp at q,fun q o=>?_⟩;by_cases e:q=pth a++(v::r).take 1
    ·subst e;rw[zc rfl,j,g];rfl
    ·rw[za e]
   |none=>
    have w:=Ey h.node (d:=m) s S g;have H:∀q c,Rn {yb T a v m with count:=(yb T a v m).count+1} c q=Rn (yb T a v m) c q:=by
     intro q;induction q with
     |nil=>intro c;rfl
     |cons x q f=>
      intro c;simp only[Rn];have:zG {yb T a v m with count:=(yb T a v m).count+1} c x=zG (yb T a v m) c x:=rfl;rw[this];cases zG (yb T a v m) c x with
      |none=>rfl
      |some b=>exact f b
    refine⟨⟨pth,?_⟩,ny _ _ _ _,pR _ _ _ _,by rw[j,g];rfl,fun q=>by simp at q,fun _=>⟨by simp[Bi],by simp[fZ]⟩,fun q o=>?_⟩
    ·have l:∀b u,zG {yb T a v m with count:=(yb T a v m).count+1} b u=if b=a/\u=v then some m else zG T b u:=w.2
     refine⟨by show 1<=(yb T a v m).ql/\(yb T a v m).ql<=3;rw[pR];exact h.dep,by show 1<=(yb T a v m).qf;rw[ny];exact h.wid,by show 0<(yb T a v m).qi.length;rw[fZ];exact h.pos,w.1,h.root,fun c O=>by show _<(yb T a v m).ql;rw[pR];exact h.lev c (by simpa [fZ] using O),fun c d O I e=>h.inj c d (by simpa [fZ] using O) (by simpa [fZ] using I) e,fun c u b t M=>?_,fun b Y G=>?_⟩
     ·rw[l] at t;have A:(pth c).length+1<T.ql:=by simpa [pR] using M
      by_cases e:c=a/\u=v
      ·obtain⟨rfl,rfl⟩:=e;omega
      ·rw[za e] at t;obtain⟨L,C⟩:=h.kid c u b t A;exact⟨by simpa [fZ] using L,C⟩
     ·obtain⟨c,u,F,q2,q3⟩:=h.par b (by simpa [fZ] using Y) G;refine⟨c,u,?_,by simpa [pR] using q2,q3⟩;rw[l,za]
      ·exact F
      ·rintro⟨rfl,rfl⟩;rw[g] at F;cases F
    ·unfold ua;rw[H,h.put_sem (by omega) s g w.2 q 0 h.pos (by rw[h.root];simpa using o),h.root];have B:(v::r).take 1=[v]:=by simp
     rw[B,pB];by_cases e:q=pth a++[v]
     ·rw[zc e,zc e];have:Rn T 0 q=none:=by rw[e];have:=j;unfold ua at this;rw[B] at this;rw[this,g]
      rw[this];rfl
     ·rw[za e,za e]
  ·rw[za Q];obtain⟨N,l⟩:∃N,T.ql-(pth a).length=N+1:=⟨T.ql-(pth a).length-1,by omega⟩;have D:∀p:zm,p=pth a++[v]->p++r.take (T.ql-p.length)=pth a++(v::r).take (T.ql-(pth a).length):=by
    rintro p rfl;rw[l,nk];have:T.ql-(pth a++[v]).length=N:=by simp;omega
    rw[this];simp
   unfold vX;cases g:zG T a v with
   |some b=>
    obtain⟨L,C⟩:=h.kid a v b g (by omega);have f:=oC m r T pth b h L (by rw[C];simp;omega) (fun x g=>J x (by simp[g]));rw[D _ C] at f;have e:(pth b).length=(pth a).length+1:=by rw[C];simp
    rw[e] at f;exact⟨f.inv,f.qf,f.ql,f.is,f.same,fun q=>⟨(f.more q).1,by have:=(f.more q).2;simp only at this ⊢;omega⟩,f.sem⟩
   |none=>
    obtain⟨W,Z,V,U,E,X⟩:=h.grow s S (by omega) g;have f:=oC m r (yb (yv T) a v T.qi.length) _ T.qi.length W (by rw[V];omega) (by rw[zc rfl,E];simp;omega) (fun x g=>by rw[U];exact J x (by simp[g]));rw[zc rfl,E,D _ rfl] at f;have e:(pth a++[v]).length=(pth a).length+1:=by simp
    rw[e] at f;have n:∀q:zm,q.length=T.ql->ua (yb (yv T) a v T.qi.length) q=ua T q:=fun q o=>h.grow_sem (by omega) g Z q 0 h.pos (by rw[h.root];simpa using o);have y:(pth a++(v::r).take (T.ql-(pth a).length)).length=T.ql:=by simp;omega
    have k:ua T (pth a++(v::r).take (T.ql-(pth a).length))=none:=by
     unfold ua;rw[nL,i,l,nk];simp[Rn,g]
    have z:=f.is;rw[n _ y,k] at z;refine⟨f.inv,by rw[f.qf,U],by rw[f.ql,E],by rw[k];exact z,fun q=>?_,fun q=>⟨by rw[(f.more q).1,X],by have:=(f.more q).2;rw[V] at this;simp only at this ⊢;omega⟩,fun q o=>?_⟩
    ·rw[z] at q;cases q
    ·rw[f.sem q (by rw[E];exact o),n q o]
end
section
variable {T:zi}{pth:Nat->zm}
theorem Pc(h:jZ T pth)(row:zm)(m:Nat)(c:row.length=3)(a:fW T row=true):Sz T (addP T row m).1 (row.take T.ql) m (addP T row m).2 (T.ql-1):=by
 have:=oC m row T pth 0 h h.pos (by rw[h.root];simp[c];exact h.dep.2) (fun v b=>by simp only[fW,kh,decide_eq_true_eq] at a;exact a v b);rw[h.root] at this;unfold addP;rw[zc a];simpa using this
theorem Cc(w d:Nat):(yU w d).qf=zM w:=rfl
theorem pp(w d:Nat):(yU w d).ql=yY d:=rfl
theorem fX(d:Nat):1<=yY d/\yY d<=3:=by unfold yY;by_cases a:d<1<;>by_cases b:d>3<;>simp[a,b]<;>omega
theorem BJ(w d a v:Nat):zG (yU w d) a v=none:=by
 rw[l6];refine za fun q=>?_;have b:a=0:=by have:=q.1;simp[yU,yv] at this;exact this
 subst b;exact(kC.new (zM w)).2 v q.2
theorem NC(w d:Nat):jZ (yU w d) (fun _=>[]):=by
 refine⟨fX d,by show 1<=zM w;unfold zM;split<;>omega,by simp[yU,yv],?_,rfl,fun a _=>by show 0<yY d;exact(fX d).1,fun a b c e _=>?_,(fun a v b f=>by rw[BJ] at f;exact zC f (by simp)),fun b e g=>?_⟩
 ·intro a c;have h:a=0:=by simp[yU,yv] at c;exact c
  subst h;exact(kC.new (zM w)).1
 ·simp[yU,yv] at c e;omega
 ·simp[yU,yv] at e;omega
theorem sR(w d:Nat)(q:zm)(a:q≠[]):ua (yU w d) q=none:=by
 cases q with
 |nil=>exact zC rfl a
 |cons v q=>simp[ua,Rn,BJ]
theorem EA(T:zi):∀(r:zm) (a level:Nat),level<T.ql->T.ql<=level+r.length->uz T a level r=Rn T a (r.take (T.ql-level))
 |[],a,level,f,c=>by simp at c;omega
 |v::r,a,level,f,c=>by
  obtain⟨k,d⟩:∃k,T.ql-level=k+1:=⟨T.ql-level-1,by omega⟩;unfold uz;rw[d,nk];simp only[Rn];cases g:zG T a v with
  |none=>rfl
  |some b=>
   simp only;by_cases e:level+1≥T.ql
   ·rw[zc e];have:k=0:=by omega
    subst this;simp[Rn]
   ·rw[za e,EA T r b (level+1) (by omega) (by simp at c;omega)];have:T.ql-(level+1)=k:=by omega
    rw[this]
theorem Ny(h:jZ T pth)(row:zm)(a:row.length=3):uq T row=ua T (row.take T.ql):=by
 have:=EA T row 0 0 (by have:=h.dep.1;omega) (by rw[a];have:=h.dep.2;omega);simpa [uq,ua] using this
def qE(T:zi):Nat->Nat->Nat->List zm
 |0,_,_=>[[]]
 |d+1,a,f=>(List.range' f (T.qf-f)).flatMap fun v=>match zG T a v with
  |none=>[]
  |some b=>(qE T d b 0).map (v::·)
theorem PO{d a f:Nat}(h:∀u,f<=u->zG T a u=none):qE T (d+1) a f=[]:=by
 simp only[qE,List.flatMap_eq_nil_iff,List.mem_range'_1];intro v b;rw[h v b.1]
theorem Gr{d a v b:Nat}:∀(n f:Nat),v-f=n->f<=v->v<T.qf->zG T a v=some b->(∀u,f<=u->u<v->zG T a u=none)->qE T (d+1) a f=(qE T d b 0).map (v::·)++qE T (d+1) a (v+1):=by
 intro n;induction n with
 |zero=>
  intro f j o i e _;have:f=v:=by omega
  subst this;obtain⟨k,g⟩:∃k,T.qf-f=k+1:=⟨T.qf-f-1,by omega⟩;have c:T.qf-(f+1)=k:=by omega
  simp only[qE,g,c,List.range'_succ,us,e]
 |succ n l=>
  intro f j o i e h;obtain⟨k,g⟩:∃k,T.qf-f=k+1:=⟨T.qf-f-1,by omega⟩;have c:T.qf-(f+1)=k:=by omega
  rw[←l (f+1) (by omega) (by omega) i e (fun u p m=>h u (by omega) m)];simp only[qE,g,c,List.range'_succ,us,h f (zg _) (by omega),pB]
theorem DU(row:zm)(l v:Nat)(k:zm)(a:l<row.length):(row.set l v).take (l+1)++k=row.take l++v::k:=by
 have:(row.set l v).take (l+1)=row.take l++[v]:=by
  rw[yL (by simpa using a),List.take_set_of_le (zg _)];simp
 rw[this];simp
theorem O2(row:zm)(l v j:Nat)(a:l<j):(row.set l v).drop j=row.drop j:=by
 rw[List.drop_set,zc a]
theorem Lm(G:dS T)(K:T.ql<=3):∀(n a level f:Nat) (row:zm) (c:List zm),level<T.ql->row.length=3->f<=T.qf->(T.qf-f)+1+(T.ql-level-1)*(T.qf+1)<=n →
  ∃g,xF T n a level f row c=some (g,c++(qE T (T.ql-level) a f).map fun k=>row.take level++k++row.drop T.ql)/\g.length=3/\g.take level=row.take level/\g.drop T.ql=row.drop T.ql:=by
 intro n;induction n with
 |zero=>intro a level f row c u y R s;omega
 |succ n D=>
  intro a level f row c u y R s;obtain⟨d,x⟩:∃d,T.ql-level=d+1:=⟨T.ql-level-1,by omega⟩;unfold xF;cases F:y5 T a f with
  |none=>
   refine⟨row,?_,y,rfl,rfl⟩;rw[x,PO (AF G F)];simp
  |some v=>
   obtain⟨I,P,S,Q⟩:=BQ G F;obtain⟨b,E⟩:=mm.1 S;have l:=Gr (d:=d) _ f rfl I P E Q;simp only;have m:(row.set level v).length=3:=by simpa using y
   have r:level<row.length:=by omega
   have h:(row.set level v).drop T.ql=row.drop T.ql:=O2 row level v T.ql u;have i:(row.set level v).take level=row.take level:=by rw[List.take_set_of_le (zg _)]
   have p:T.ql-level-1=d:=by omega
   by_cases e:level+1≥T.ql
   ·rw[zc e];have w:d=0:=by omega
    subst w;obtain⟨g,B,z,A,t⟩:=D a level (v+1) (row.set level v) (c++[row.set level v]) u m (by omega) (by rw[p] at s ⊢;omega);refine⟨g,?_,z,by rw[A,i],by rw[t,h]⟩;rw[B,x,l];simp only[qE,xH,List.map_nil,lR,pB,i,h,ky,zt,ya,true_and];congr 2;have:=DU row level v (row.drop T.ql) r;have N:T.ql=level+1:=by omega
    rw[←h,N] at this ⊢;rw[jt] at this;exact this
   ·rw[za e,za (by omega),E];simp only[ux];have U:d*(T.qf+1)=(d-1)*(T.qf+1)+(T.qf+1):=by
     obtain⟨j,rfl⟩:∃j,d=j+1:=⟨d-1,by omega⟩;simp[Nat.succ_mul]
    have C:T.ql-(level+1)-1=d-1:=by omega
    have q:T.ql-(level+1)=d:=by omega
    obtain⟨o,B,z,A,t⟩:=D b (level+1) 0 (row.set level v) c (by omega) m (by omega) (by rw[p] at s;rw[C];omega);rw[B];simp only;obtain⟨g,M,J,L,O⟩:=D a level (v+1) o (c++(qE T (T.ql-(level+1)) b 0).map fun k=>(row.set level v).take (level+1)++k++(row.set level v).drop T.ql) u z (by omega) (by rw[p] at s ⊢;omega);have H:o.take level=row.take level:=by
     have:=congrArg (List.take level) A;rwa [List.take_take,List.take_take,d8 (by omega),i] at this
    refine⟨g,?_,J,by rw[L,H],by rw[O,t,h]⟩;rw[M,x,l,q,H,t,h,uP,mK,←ky];congr 3;refine congrArg (c++·) (kR fun k _=>?_);simp only[Function.comp];rw[DU row level v k r]
def RN(k:zm)(d:Nat):zm:=k++([0,0,0]:zm).drop d
theorem NK(h:jZ T pth)(a:Nat)(f:3*(T.qf+1)<=a):nU a T=some ((qE T T.ql 0 0).map fun k=>RN k T.ql):=by
 have c:=h.dep;have e:T.qf+1+(T.ql-1)*(T.qf+1)<=3*(T.qf+1):=by
  have:(T.ql-1)*(T.qf+1)<=2*(T.qf+1):=gZ _ (by omega);omega
 obtain⟨b,d,_,_,_⟩:=Lm h.node c.2 a 0 0 0 [0,0,0] [] (by omega) rfl (by omega) (by simp;omega);unfold nU;rw[d];simp[RN]
theorem oy(T:zi):∀(d a f:Nat) (k:zm),k∈qE T d a f↔k.length=d/\(Rn T a k).isSome=true/\(0<d->f<=k.headD 0)
 |0,a,f,k=>by
  simp only[qE,xG];constructor
  ·rintro rfl;simp[Rn]
  ·rintro⟨h,_⟩;exact mo.1 h
 |d+1,a,f,k=>by
  simp only[qE,uS,List.mem_range'_1];constructor
  ·rintro⟨v,m,g⟩;cases c:zG T a v with
   |none=>rw[c] at g;simp at g
   |some b=>
    rw[c] at g;simp only[z7] at g;obtain⟨n,j,rfl⟩:=g;obtain⟨i,e,_⟩:=(oy T d b 0 n).1 j;refine⟨by simp[i],?_,fun _=>by simpa using m.1⟩;simp only[Rn,c];exact e
  ·rintro⟨i,e,l⟩;cases k with
   |nil=>simp at i
   |cons v k=>
    simp only[Rn] at e;simp only[List.headD_cons] at l;cases c:zG T a v with
    |none=>rw[c] at e;simp at e
    |some b=>
     rw[c] at e;have o:=(fc c).2;have:=l (by omega);refine⟨v,by omega,?_⟩;rw[c];simp only[z7];exact⟨k,(oy T d b 0 k).2 ⟨by simpa using i,e,fun _=>zv _⟩,rfl⟩
end
def SK:zm->zm->Prop
 |a::x,b::y=>a<b∨a=b/\SK x y
 |_,_=>False
theorem Fy:∀x:zm,¬SK x x
 |[]=>id
 |a::x=>by
  rintro(h|⟨_,h⟩)
  ·omega
  ·exact Fy x h
theorem E2(T:zi):∀(d a f:Nat),(qE T d a f).Pairwise SK
 |0,a,f=>by simp[qE]
 |d+1,a,f=>by
  simp only[qE];rw[List.pairwise_flatMap];refine⟨fun v _=>?_,?_⟩
  ·cases zG T a v with
   |none=>exact List.Pairwise.nil
   |some b=>
    simp only;rw[lY];exact(E2 T d b 0).imp fun h=>zb ⟨rfl,h⟩
  ·refine List.Pairwise.imp ?_ (List.pairwise_lt_range' (s:=f) (n:=T.qf-f));intro v u i x g y e;cases k:zG T a v with
   |none=>rw[k] at g;simp at g
   |some b=>
    rw[k] at g;cases j:zG T a u with
    |none=>rw[j] at e;simp at e
    |some c=>
     rw[j] at e;simp only[z7] at g e;obtain⟨l,_,rfl⟩:=g;obtain⟨m,_,rfl⟩:=e;exact zf i
theorem iy(T:zi)(d a f:Nat):(qE T d a f).Nodup:=by
 refine(E2 T d a f).imp ?_;rintro x y h rfl;exact Fy x h
theorem Ag:∀{l1 l2:List zm},l1.Nodup->(∀x∈l1,x∈l2)->l1.length<=l2.length
 |[],l2,_,_=>by simp
 |a::l1,l2,d,c=>by
  have f:=c a (by simp);have g:=Ag (l1:=l1) (l2:=l2.erase a) (qN.1 d).2 (fun x e=>by
   have b:x≠a:=by rintro rfl;exact(qN.1 d).1 e
   exact(ld b).2 (c x (by simp[e])))
  rw[lN f] at g;have:=mB f;simp;omega
theorem Gn{l1 l2:List zm}(b:l1.Nodup)(c:l2.Nodup)(h:∀x,x∈l1↔x∈l2):l1.length=l2.length:=
 Nat.le_antisymm (Ag b fun x a=>(h x).1 a) (Ag c fun x a=>(h x).2 a)
def Rj(T:zi):List zm:=qE T T.ql 0 0
theorem qX(T:zi)(k:zm):k∈Rj T↔k.length=T.ql/\(ua T k).isSome=true:=by
 unfold Rj;rw[oy];exact⟨fun h=>⟨h.1,h.2.1⟩,fun h=>⟨h.1,h.2,fun _=>zv _⟩⟩
structure vC (T:zi):Prop where
 inv:∃pth,jZ T pth
 cnt:(Rj T).length=T.count
 room:T.qi.length<=1+2*T.count
theorem vC.new(w d:Nat):vC (yU w d):=by
 refine⟨⟨_,NC w d⟩,?_,by simp[yU,yv]⟩;have:Rj (yU w d)=[]:=by
  rw[List.eq_nil_iff_forall_not_mem];intro k c;obtain⟨a,b⟩:=(qX _ k).1 c;rw[sR w d k (by rintro rfl;have:=(fX d).1;rw[pp] at a;simp at a;omega)] at b;cases b
 rw[this];rfl
theorem tP{T:zi}:∀(k:zm) (a:Nat),(Rn T a k).isSome=true->∀v∈k,v<T.qf
 |[],_,_,v,c=>by cases c
 |u::k,a,h,v,c=>by
  simp only[Rn] at h;cases d:zG T a u with
  |none=>rw[d] at h;simp at h
  |some b=>
   rw[d] at h;rcases zx.1 c with rfl|c
   ·exact(fc d).2
   ·exact tP k b h v c
theorem vC.add{T:zi}(h:vC T)(row:zm)(m:Nat)(i:row.length=3)(n:fW T row=true):
  vC (addP T row m).1/\(addP T row m).1.qf=T.qf/\(addP T row m).1.ql=T.ql/\(addP T row m).2=(ua T (row.take T.ql)).isNone/\((addP T row m).2=false->(addP T row m).1=T)/\((addP T row m).2=true->(addP T row m).1.count=T.count+1)/\∀q,q.length=T.ql->ua (addP T row m).1 q=if q=row.take T.ql then some ((ua T q).getD m) else ua T q:=by
 obtain⟨o,j⟩:=h.inv;have a:=Pc j row m i n;have p:=j.dep;refine⟨⟨a.inv,?_,?_⟩,a.qf,a.ql,a.is,a.same,fun q=>(a.more q).1,a.sem⟩
 ·cases b:(addP T row m).2 with
  |false=>rw[a.same b];exact h.cnt
  |true=>
   rw[(a.more b).1,←h.cnt];have f:=a.is;rw[b] at f;have d:(row.take T.ql).length=T.ql:=by rw[qC,i];omega
   have g:row.take T.ql∉Rj T:=fun l=>by
    have:=((qX T _).1 l).2;rw[←Option.not_isNone,←f] at this;cases this
   have:=Gn (l1:=Rj (addP T row m).1) (l2:=row.take T.ql::Rj T) (iy _ _ _ _) (qN.2 ⟨g,iy _ _ _ _⟩) (fun k=>by
    rw[qX,a.ql,zx,qX];by_cases c:k.length=T.ql
    ·rw[a.sem k c];by_cases e:k=row.take T.ql
     ·simp[e,d]
     ·simp[e,c]
    ·constructor
     ·intro q;exact zC q.1 c
     ·rintro(q|q)
      ·rw[q] at c;exact zC d c
      ·exact zC q.1 c)
   simpa using this
 ·cases b:(addP T row m).2 with
  |false=>rw[a.same b];exact h.room
  |true=>
   have:=a.more b;have:=h.room;omega
theorem vC.rows{T:zi}(h:vC T)(a:Nat)(b:3*(T.qf+1)<=a):nU a T=some ((Rj T).map fun k=>RN k T.ql):=by
 obtain⟨c,d⟩:=h.inv;exact NK d a b
theorem vC.rowsG{T:zi}(h:vC T)(a:Nat)(b:3*(T.qf+1)<=a)(c:T.count<=1048576):rowsG a T=some ((Rj T).map fun k=>RN k T.ql):=by
 unfold Go.Proofs.YteampbddflhngaaGreat.rowsG;rw[h.rows a b];simp[h.cnt,c]
theorem vC.okT{T:zi}(h:vC T)(a:T.count<=10000000):okT T=true:=by
 have:=h.room;simp only[Go.Proofs.YteampbddflhngaaGreat.okT,uw,decide_eq_true_eq];omega
theorem vC.mark{T:zi}(h:vC T)(row:zm)(a:row.length=3):uq T row=ua T (row.take T.ql):=by
 obtain⟨b,c⟩:=h.inv;exact Ny c row a
def jG(J:z9)(h:Nat×Nat)(v:Nat):Option Nat:=zG (J.qy.getD h.1 yM.zero).rows ((J.qy.getD h.1 yM.zero).qi.getD h.2 0) v
def ei(J:z9):Prop:=∀i,dS (J.qy.getD i yM.zero).rows
def qJ(J a:z9):Prop:=a={J with jf:=a.jf}
theorem qJ.trans{a b c:z9}(h:qJ a b)(k:qJ b c):qJ a c:=by
 unfold qJ at *;rw[h] at k;exact k
theorem qJ.qy{a b:z9}(h:qJ a b):b.qy=a.qy:=by rw[h]
theorem G2{J:z9}{h:Nat×Nat}{f:Nat}(hs:vG J h=true):qJ J (vV J h f).1/\(vV J h f).2=y5 (J.qy.getD h.1 yM.zero).rows ((J.qy.getD h.1 yM.zero).qi.getD h.2 0) f:=by
 unfold vV;rw[zc hs];exact⟨rfl,rfl⟩
def rY(a b c i:Nat):Prop:=i<a/\a<=i+b∨a<=i/\a+c<=i+b
def CG(J:z9)(hs:List (Nat×Nat))(f:Nat):Option Nat->Prop
 |none=>∀u,f<=u->∃h∈hs,jG J h u=none
 |some v=>f<=v/\(∀h∈hs,(jG J h v).isSome=true)/\∀u,f<=u->u<v->∃h∈hs,jG J h u=none
theorem Le{J a:z9}(h:qJ J a)(x:Nat×Nat)(v:Nat):jG a x v=jG J x v:=by unfold jG;rw[h.qy]
theorem IW(W f:Nat)(hs:List (Nat×Nat))(j:z9)(A:ei j)(B:∀h∈hs,vG j h=true)(T:∀h∈hs,∀v,(jG j h v).isSome=true->v<W):
  ∀(n:Nat) (J:z9) (at' b a:Nat),qJ j J->f<=at'->a<hs.length->b<=hs.length->(∀u,f<=u->u<at'->∃h∈hs,jG j h u=none)->(∀i (t:i<hs.length),rY a b hs.length i->(jG j hs[i] at').isSome=true)->(W-at')*(hs.length+1)+(hs.length-b)<n →
  ∃G p,kY n J hs at' b a=some (G,p)/\qJ j G/\CG j hs f p:=by
 intro n;induction n with
 |zero=>intro J at' b a _ _ _ _ _ _ h;omega
 |succ n I=>
  intro J at' b a y F H K g m V;unfold kY;by_cases s:b<hs.length
  ·rw[zc s];have P:hs.getD a (0,0)=hs[a]:=by simp[List.getD,H]
   have c:hs[a]∈hs:=zs H;have x:vG J hs[a]=true:=by
    have:=B _ c;unfold vG at this ⊢;rw[y.qy];exact this
   obtain⟨C,w⟩:=G2 (f:=at') x;rw[y.qy] at w;rw[P];cases Q:vV J hs[a] at' with
   |mk E o=>
    rw[Q] at C w;simp only at C w;have k:=y.trans C;have r:=A hs[a].1;cases o with
    |none=>
     refine⟨E,none,rfl,k,fun u L=>?_⟩;by_cases l:u<at'
     ·exact g u L l
     ·exact⟨hs[a],c,AF r w.symm u (by omega)⟩
    |some v=>
     obtain⟨X,Y,z,S⟩:=BQ r w.symm;have O:=T _ c v z;simp only;by_cases d:v>at'
     ·rw[zc d,zc d];refine I E v (0+1) _ k (by omega) (by split<;>omega) (by omega) (fun u U N=>?_) (fun i t q=>?_) ?_
      ·by_cases l:u<at'
       ·exact g u U l
       ·exact⟨hs[a],c,S u (by omega) N⟩
      ·have:i=a:=by
        unfold rY at q;split at q<;>omega
       subst this;exact z
      ·have e:W-at'=(W-v)+(v-at'):=by omega
       have:(W-at')*(hs.length+1)=(W-v)*(hs.length+1)+(v-at')*(hs.length+1):=by rw[e,fS]
       have:1*(hs.length+1)<=(v-at')*(hs.length+1):=gZ _ (by omega);omega
     ·have M:v=at':=by omega
      subst M;rw[za d,za d];refine I E v (b+1) _ k F (by split<;>omega) (by omega) g (fun i t q=>?_) (by omega);by_cases D:i=a
      ·subst D;exact z
      ·refine m i t ?_;unfold rY at q ⊢;split at q<;>omega
  ·rw[za s];refine⟨J,some at',rfl,y,F,fun h R=>?_,g⟩;obtain⟨i,t,rfl⟩:=qk R;refine m i t ?_;unfold rY;omega
theorem Mu(W:Nat)(J:z9)(place f n:Nat)(s:place<5)(g:ei J)(d:J.je.getD place []≠[])(e:∀h∈J.je.getD place [],vG J h=true)(o:∀h∈J.je.getD place [],∀v,(jG J h v).isSome=true->v<W)(q:W*((J.je.getD place []).length+1)+(J.je.getD place []).length<n):
  ∃j b,dZ n J place f=some (j,b)/\qJ J j/\CG J (J.je.getD place []) f b:=by
 have c:0<(J.je.getD place []).length:=by
  cases k:J.je.getD place [] with
  |nil=>exact zC k d
  |cons a l=>simp
 unfold dZ;rw[za (by omega)];refine IW W f _ J g e o n J f 0 0 rfl (zg _) c (by omega) (fun u p r=>by omega) (fun i t m=>by unfold rY at m;omega) ?_;have:(W-f)*((J.je.getD place []).length+1)<=W*((J.je.getD place []).length+1):=gZ _ (by omega);omega
section
variable {jd:Int}
def y7(l:zu)(d:Nat):List Nat:=(List.range d).filter (zH l)
def yn(l:zu)(vals:List Nat)(d:Nat):zm:=(y7 l d).map fun p=>vals.getD p 0
theorem lV(l:zu)(d:Nat):y7 l (d+1)=if zH l d then y7 l d++[d] else y7 l d:=by
 unfold y7;rw[List.range_succ,rL];by_cases h:zH l d<;>simp[h]
theorem pn(l:zu)(d p:Nat):p∈y7 l d↔p<d/\zH l p=true:=by simp[y7]
theorem eb(l:zu){a b:Nat}(h:a<=b):y7 l a <+: y7 l b:=by
 induction h with
 |refl=>exact List.prefix_rfl
 |step h c=>
  rw[lV];split
  ·exact c.trans (List.prefix_append _ _)
  ·exact c
theorem eX(l:zu)(p:Nat):yQ l p=if zH l p then some (y7 l p).length else none:=by
 unfold yQ y7;rw[rq]
theorem fz(l:zu):yO l=(y7 l 5).length:=by
 unfold yO y7;rw[rq]
theorem ni(l:zu)(vals:List Nat)(d:Nat):(yn l vals d).length=(y7 l d).length:=by simp[yn]
theorem tY(l:zu){x y:List Nat}{d:Nat}(h:∀p,p<d->zH l p=true->x.getD p 0=y.getD p 0):yn l x d=yn l y d:=by
 unfold yn;refine kR fun p a=>?_;have:=(pn l d p).1 a;exact h p this.1 this.2
theorem oF(l:zu)(vals:List Nat){a b:Nat}(h:a<=b):yn l vals a=(yn l vals b).take (y7 l a).length:=by
 obtain⟨t,c⟩:=eb l h;unfold yn;rw[←c];simp
theorem Bj(l:zu)(vals:List Nat)(d v:Nat)(b:d<vals.length):yn l (vals.set d v) (d+1)=if zH l d then yn l vals d++[v] else yn l vals d:=by
 have a:(y7 l d).map (fun p=>(vals.set d v).getD p 0)=(y7 l d).map fun p=>vals.getD p 0:=by
  refine kR fun p c=>?_;have:=(pn l d p).1 c;rw[uv,za (by omega)]
 unfold yn;rw[lV];split
 ·rw[uP,a];simp[b]
 ·exact a
theorem ox:∀{l1 l2:List Nat},l1.Nodup->(∀x∈l1,x∈l2)->l1.length<=l2.length
 |[],l2,_,_=>by simp
 |a::l1,l2,d,c=>by
  have f:=c a (by simp);have g:=ox (l1:=l1) (l2:=l2.erase a) (qN.1 d).2 (fun x e=>by
   have b:x≠a:=by rintro rfl;exact(qN.1 d).1 e
   exact(ld b).2 (c x (by simp[e])))
  rw[lN f] at g;have:=mB f;simp;omega
theorem hY(l:zu)(p:Nat):zH l p=true↔∃t∈l.qg,t.var=true/\t.num=p:=by
 unfold zH;rw[gM];constructor
 ·rintro⟨t,b,a⟩;simp only[uw,beq_iff_eq] at a;exact⟨t,b,a.1,a.2⟩
 ·rintro⟨t,b,a,c⟩;exact⟨t,b,by simp[a,c]⟩
theorem ec(l:zu)(d:Nat):(y7 l d).length<=l.qg.length:=by
 have:=ox (l1:=y7 l d) (l2:=l.qg.map (·.num)) (List.nodup_range.filter _) (fun p a=>by
  obtain⟨t,c,_,b⟩:=(hY l p).1 ((pn l d p).1 a).2;exact z7.2 ⟨t,c,b⟩)
 simpa using this
theorem rK(jd:Int):∀(ts:List zZ) (k:Int),k<=ts.foldl (fun k t=>if t.var&&decide ((t.num:Int)<jd)&&decide ((t.num:Int)>k) then(t.num:Int) else k) k/\(∀t∈ts,t.var=true->(t.num:Int)<jd->(t.num:Int)<=ts.foldl (fun k t=>if t.var&&decide ((t.num:Int)<jd)&&decide ((t.num:Int)>k) then(t.num:Int) else k) k)/\(k<jd->ts.foldl (fun k t=>if t.var&&decide ((t.num:Int)<jd)&&decide ((t.num:Int)>k) then(t.num:Int) else k) k<jd)
 |[],k=>⟨Int.le_refl _,fun t h=>(by cases h),fun h=>h⟩
 |t::ts,k=>by
  simp only[ut];by_cases c:(t.var&&decide ((t.num:Int)<jd)&&decide ((t.num:Int)>k))=true
  ·rw[zc c];simp only[uw,decide_eq_true_eq] at c;obtain⟨f,g,e⟩:=rK jd ts (t.num:Int);refine⟨by omega,fun u a b d=>?_,fun _=>e (by omega)⟩;rcases zx.1 a with rfl|a
   ·exact f
   ·exact g u a b d
  ·rw[za c];obtain⟨f,g,e⟩:=rK jd ts k;refine⟨f,fun u a b d=>?_,e⟩;rcases zx.1 a with rfl|a
   ·have:(u.num:Int)<=k:=by
     simp only[b,d,mF,decide_true,decide_eq_true_eq] at c;omega
    omega
   ·exact g u a b d
theorem ez(l:zu){p:Nat}(c:zH l p=true)(d:(p:Int)<jd):(p:Int)<=jL l jd:=by
 obtain⟨t,a,b,e⟩:=(hY l p).1 c;have:=(rK jd l.qg (-1)).2.1 t a b (by omega);unfold jL;omega
theorem Ej(l:zu)(a:0<=jd):jL l jd<jd:=(rK jd l.qg (-1)).2.2 (by omega)
theorem GM(l:zu)(jd:Int):-1<=jL l jd:=(rK jd l.qg (-1)).1
theorem tj:∀(ts:List zZ) (k:Nat),k<=ts.foldl (fun k t=>if t.var&&decide (t.num≥k) then t.num+1 else k) k/\(∀t∈ts,t.var=true->t.num<ts.foldl (fun k t=>if t.var&&decide (t.num≥k) then t.num+1 else k) k)/\∀b,k<=b->(∀t∈ts,t.var=true->t.num<b)->ts.foldl (fun k t=>if t.var&&decide (t.num≥k) then t.num+1 else k) k<=b
 |[],k=>⟨zg _,fun t h=>(by cases h),fun b h _=>h⟩
 |t::ts,k=>by
  simp only[ut];by_cases c:(t.var&&decide (t.num≥k))=true
  ·rw[zc c];simp only[uw,decide_eq_true_eq] at c;obtain⟨j,g,f⟩:=tj ts (t.num+1);refine⟨by omega,fun u a d=>?_,fun b i e=>f b (by have:=e t (by simp) c.1;omega) fun u a=>e u (by simp[a])⟩;rcases zx.1 a with rfl|a
   ·omega
   ·exact g u a d
  ·rw[za c];obtain⟨j,g,f⟩:=tj ts k;refine⟨j,fun u a d=>?_,fun b i e=>f b i fun u a=>e u (by simp[a])⟩;rcases zx.1 a with rfl|a
   ·have:u.num<k:=by simp only[d,mF,decide_eq_true_eq] at c;omega
    omega
   ·exact g u a d
theorem sG(l:zu){p:Nat}(a:zH l p=true):p<uQ l:=by
 obtain⟨t,b,c,d⟩:=(hY l p).1 a;have:=(tj l.qg 0).2.1 t b c;unfold uQ;omega
theorem Fn(l:zu){k:Nat}(h:∀p,zH l p=true->p<k):uQ l<=k:=
 (tj l.qg 0).2.2 k (by omega) fun t a b=>h t.num ((hY l t.num).2 ⟨t,a,b,rfl⟩)
theorem Kp(l:zu)(a:0<=jd):qD l jd<jd:=by
 unfold qD;split
 ·omega
 ·exact Ej l a
theorem eJ(jd:Int):∀(a:List zu) (b:Int),b<=a.foldl (vO jd) b/\(∀l∈a,qD l jd<=a.foldl (vO jd) b)/\(0<=jd->b<jd->a.foldl (vO jd) b<jd)
 |[],b=>⟨Int.le_refl _,fun l h=>(by cases h),fun _ h=>h⟩
 |l::a,b=>by
  simp only[ut];obtain⟨j,f,e⟩:=eJ jd a (vO jd b l);have g:b<=vO jd b l/\qD l jd<=vO jd b l:=by unfold vO;split<;>omega
  refine⟨by omega,fun u c=>?_,fun d i=>e d ?_⟩
  ·rcases zx.1 c with rfl|c
   ·omega
   ·exact f u c
  ·have:=Kp l d;unfold vO;split<;>omega
theorem sd(r:zr)(a:0<=jd):xu r jd<jd/\-1<=xu r jd/\jL r.head jd<=xu r jd/\(∀l∈r.qc,qD l jd<=xu r jd)/\∀l∈r.qp,qD l jd<=xu r jd:=by
 unfold xu;obtain⟨g,f,b⟩:=eJ jd r.qc (jL r.head jd);obtain⟨h,e,c⟩:=eJ jd r.qp (r.qc.foldl (vO jd) (jL r.head jd));have:=GM r.head jd;exact⟨c a (b a (Ej r.head a)),by omega,by omega,fun l d=>by have:=f l d;omega,e⟩
theorem AV{l:zu}{jd:Nat}{b:Int}(h:qD l jd<=b):(∀p,zH l p=true->p<jd)∨∀p,zH l p=true->p<jd->(p:Int)<=b:=by
 unfold qD at h;by_cases c:(uQ l:Int)<=jd
 ·exact zf fun p a=>by have:=sG l a;omega
 ·rw[za c] at h;exact zb fun p a d=>by have:=ez l (jd:=(jd:Int)) a (by omega);omega
end
section
variable {r:zr}{i:Nat}{hs:List (Nat×Nat)}
structure gU (r:zr):Prop where
 vars:r.vars<=5
 qg:∀l∈r.qc,l.qg.length<=3
 qc:∀l∈r.qc,∀p,zH l p=true->p<r.vars
 qp:∀l∈r.qp,∀p,zH l p=true->p<r.vars
 head:∀p,zH r.head p=true->p<r.vars
 safe:∀p,p<r.vars->∃l∈r.qc,zH l p=true
structure dL (r:zr) (Ts:List zi) (W:Nat):Prop where
 len:Ts.length=r.qc.length
 ok:∀(i:Nat) (l:zu) (T:zi),r.qc[i]?=some l->Ts[i]?=some T->vC T/\T.ql=yY (yO l)/\T.qf<=W
structure qY (r:zr) (Ts Ns:List zi) (J:z9):Prop where
 head:J.head=r.head
 vars:J.vars=r.vars
 je:J.je=(List.range 5).map (xa r)
 jg:J.jg=(List.range 5).map fun p=>xu r (p:Nat)
 last:J.last=xu r r.vars
 bars:J.bars=(r.qp.zip Ns).map fun x=>⟨x.1,uQ x.1,x.2⟩
 qy:J.qy.map (·.rows)=Ts
 vlen:J.ja.length=5
 flen:J.from.length=5
theorem nV(l:zu){x y:List Nat}(h:∀p,zH l p=true->x.getD p 0=y.getD p 0):zF l x=zF l y:=by
 have a:∀i,Q9 l x i=Q9 l y i:=by
  intro i;unfold Q9;split
  ·rename_i c;unfold RU;rw[show l.qg.getD i ⟨false,0,0⟩=l.qg[i] by simp[List.getD,c]];split
   ·rename_i b;simp only[uw,decide_eq_true_eq] at b;exact h _ ((hY l _).2 ⟨_,zs c,b.1,rfl⟩)
   ·rfl
  ·rfl
 unfold zF;rw[a,a,a]
def tT(T:zi)(l:zu)(y:List Nat):Prop:=(yO l=0->T.count≠0)/\(yO l≠0->(ua T (yn l y 5)).isSome=true)
def jq(r:zr)(a Ns:List zi)(y:List Nat):Prop:=(∀(i:Nat) (l:zu) (T:zi),r.qc[i]?=some l->a[i]?=some T->tT T l y)/\∀x∈r.qp.zip Ns,uq x.2 (zF x.1 y)=none
theorem Hr{l:zu}(c:∀p,zH l p=true->p<r.vars){d:Nat}(a:r.vars<=d):y7 l d=y7 l r.vars:=by
 induction a with
 |refl=>rfl
 |@step m h b=>
  rw[lV,za (fun q=>by have:=c _ q;have:r.vars<=m:=h;omega),b]
theorem IB(a:r.vars<=5){l:zu}(b:∀p,zH l p=true->p<r.vars)(y:List Nat):yn l y 5=yn l y r.vars:=by
 unfold yn;rw[Hr b a]
def Ir(r:zr)(J:z9)(d:Nat):Prop:=∀(i:Nat) (l:zu) (s:yM),r.qc[i]?=some l->J.qy[i]?=some s->s.qi.length=3/\(∀k,k<=(y7 l d).length->k<3->Rn s.rows 0 ((yn l J.ja d).take k)=some (s.qi.getD k 0))/\(Rn s.rows 0 (yn l J.ja d)).isSome=true
def Mi(r:zr)(Ns:List zi)(vals:List Nat)(d:Nat):Prop:=∀x∈r.qp.zip Ns,uQ x.1<=d->uq x.2 (zF x.1 vals)=none
theorem A9{d c:Nat}(h:(i,c)∈xa r d):∃l,r.qc[i]?=some l/\zH l d=true/\c=(y7 l d).length:=by
 unfold xa at h;simp only[mQ,vM,ya] at h;obtain⟨⟨l,j⟩,g,f,a,e,k⟩:=h;rw[eX] at a;split at a
 ·rename_i b;simp only[zt] at a;have:=rZ.1 g;simp only at this e b a;subst e;exact⟨l,this,b,by omega⟩
 ·cases a
theorem RX{d:Nat}{l:zu}(h:r.qc[i]?=some l)(a:zH l d=true):(i,(y7 l d).length)∈xa r d:=by
 unfold xa;simp only[mQ,vM,ya];refine⟨(l,i),rZ.2 h,(y7 l d).length,?_,rfl,rfl⟩;rw[eX,zc a]
theorem DD(r:zr)(d:Nat):((xa r d).map (·.1)).Nodup:=by
 unfold xa;have e:∀(b:List zu) (n:Nat),(((b.zipIdx n).filterMap fun x=>(yQ x.1 d).map fun c=>(x.2,c)).map (·.1)).Nodup/\∀i∈((b.zipIdx n).filterMap fun x=>(yQ x.1 d).map fun c=>(x.2,c)).map (·.1),n<=i:=by
  intro b;induction b with
  |nil=>intro n;simp
  |cons l b m=>
   intro n;obtain⟨j,f⟩:=m (n+1);rw[List.zipIdx_cons,rQ];cases h:(yQ l d).map fun c=>(n,c) with
   |none=>exact⟨j,fun i g=>by have:=f i g;omega⟩
   |some x=>
    have o:x.1=n:=by
     simp only[vM] at h;obtain⟨a,_,rfl⟩:=h;rfl
    simp only[xH,qN,zx];refine⟨⟨fun k=>by have:=f _ k;omega,j⟩,?_⟩;rintro i (rfl|g)
    ·omega
    ·have:=f i g;omega
 exact(e r.qc 0).1
def setDown(v a:Nat)(s:yM):yM:=if a+1≥3 then s else{s with qi:=s.qi.set (a+1) ((zG s.rows (s.qi.getD a 0) v).getD 0)}
theorem M8{J:z9}{v:Nat}{h:Nat×Nat}(hs:vG J h=true):vm v J h={J with qy:=J.qy.set h.1 (setDown v h.2 (J.qy.getD h.1 yM.zero))}:=by
 unfold vm setDown;by_cases a:h.2+1≥3
 ·rw[zc (zb a),zc a];have b:h.1<J.qy.length:=by simp only[vG,uw,decide_eq_true_eq] at hs;exact hs.1
  have:J.qy.set h.1 (J.qy.getD h.1 yM.zero)=J.qy:=by
   rw[show J.qy.getD h.1 yM.zero=J.qy[h.1] by simp[List.getD,b]];exact rA _
  rw[this]
 ·rw[za (by rintro(q|q);rw[hs] at q;cases q;exact a q),za a]
theorem Bz(v:Nat):∀(hs:List (Nat×Nat)) (J:z9),(hs.map (·.1)).Nodup->(∀h∈hs,vG J h=true)->∃d,hs.foldl (vm v) J={J with qy:=d}/\d.length=J.qy.length/\∀i s,J.qy[i]?=some s->d[i]?=some (match hs.lookup i with|none=>s|some c=>setDown v c s)
 |[],J,_,_=>⟨J.qy,rfl,rfl,fun i s h=>by simpa using h⟩
 |(j,c)::hs,J,k,e=>by
  simp only[ut];have f:=e (j,c) (by simp);rw[M8 f];simp only;have g:j<J.qy.length:=by simp only[vG,uw,decide_eq_true_eq] at f;exact f.1
  simp only[xH,qN] at k;obtain⟨d,n,w,l⟩:=Bz v hs {J with qy:=J.qy.set j (setDown v c (J.qy.getD j yM.zero))} k.2 (fun h o=>by
   have:=e h (by simp[o]);unfold vG at this ⊢;simpa using this)
  refine⟨d,n,by simpa using w,fun i s m=>?_⟩;by_cases a:i=j
  ·subst a;have p:J.qy.getD i yM.zero=s:=by simp[List.getD,m]
   have:=l i (setDown v c s) (by rw[p];simp[g]);rw[this];have b:hs.lookup i=none:=by
    rw[List.lookup_eq_none_iff];intro x u;have:x.1≠i:=by
     rintro rfl;exact k.1 (z7.2 ⟨x,u,rfl⟩)
    simpa using fun q=>this q.symm
   rw[b];simp[List.lookup]
  ·have:=l i s (by simp only[ro,Ne.symm a,if_false];exact m);rw[this];have t:(i == j)=false:=by simp[a]
   simp[List.lookup,t]
theorem JR{d:Nat}(c:(hs.map (·.1)).Nodup)(f:(i,d)∈hs):hs.lookup i=some d:=by
 induction hs with
 |nil=>cases f
 |cons a hs h=>
  obtain⟨j,m⟩:=a;simp only[xH,qN] at c;rcases zx.1 f with e|b
  ·simp only[ya] at e;obtain⟨rfl,rfl⟩:=e;simp[List.lookup]
  ·have:i≠j:=by
    rintro rfl;exact c.1 (z7.2 ⟨(i,d),b,rfl⟩)
   have g:(i == j)=false:=by simp[this]
   simp only[List.lookup,g];exact h c.2 b
theorem G4(h:∀a,(i,a)∉hs):hs.lookup i=none:=by
 rw[List.lookup_eq_none_iff];rintro⟨j,m⟩ b;have:i≠j:=by rintro rfl;exact h m b
 simpa using this
end
end Go.Proofs.YteampbddflhngaaGreat
