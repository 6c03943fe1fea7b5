import Derived.WalkKit
import Derived.WalkSpells
import Derived.WalkLawsBesides
import Derived.Deep.Light
import Derived.Handy
import Derived.Laws.IdiomStrings
import Derived.WalkSmall
import Derived.Deep.RegionHeld3
namespace Go.Proofs.YteampbddflhngaaGreat
set_option linter.all false
section
open Go.RowKit
variable {w1 w:World}
theorem Px{p:Prop}(h:p):Hid p:=h
theorem Gq{W:World}(a:Below W.heap.size W w1):(∀b o,b<W.heap.size->w1.cell? ⟨b,o,none⟩=W.cell? ⟨b,o,none⟩)/\(∀b o,b<W.heap.size->w1.frozen? ⟨b,o,none⟩=W.frozen? ⟨b,o,none⟩):=
 ⟨fun b o h=>a.cell (p:=⟨b,o,none⟩) h,fun b o h=>a.frozen (p:=⟨b,o,none⟩) h⟩
theorem zL{B:Nat}{a w:World}(h:Below B a w)(n:Nat):Below B a (w.drewN n):=below_drewN h n
abbrev zR:=@Below.refl
abbrev zN:=@zL
abbrev zA:=@Below.alloc
abbrev zD:=@Below.drew
abbrev zS:=@Below.setCell
theorem zP{B:Nat}{a:World}(b:Below B w a)(c:Below a.heap.size a w1)(d:B<=w.heap.size):Below B w w1:=
 b.trans (c.mono (Nat.le_trans d b.size))
theorem P3{a:World}(c:Below w.heap.size w a)(b:Below a.heap.size a w1):Below w.heap.size w w1:=zP c b (Nat.le_refl _)
theorem zQ{o:Obj}:Below w.heap.size w (w.alloc o):=(Below.refl _ _).alloc (Nat.le_refl _) _
theorem zm{B b o:Nat}{a:World}{v:Option Value}(h:Below B w a)(d:b<B)(c:w.cell? ⟨b,o,none⟩=v):a.cell? ⟨b,o,none⟩=v:=(h.cell (p:=⟨b,o,none⟩) d).trans c
theorem zC{k:World}{b:Nat}{e:TypeId}{a:Nat}{v:Value}{n:Nat}{i:List Value}(h:w.ownsRow b e a v n i)(o:Below w.heap.size w k):k.ownsRow b e a v n i:=by
 obtain⟨p,c⟩:=h;refine⟨p,?_⟩;rcases c with c|⟨g,f,d,m,l,j,r⟩
 ·exact Or.inl c
 ·refine Or.inr ⟨g,f,d,m,l,?_,r⟩;rw[o.block g (Array.getElem?_eq_some_iff.1 j).1];exact j
section
variable {P:Program} {ops:Array Oper} {rest:List Oper} {o:Oper} {a:Act} {Q:Exit->Act->World->Prop}
theorem jS(B q:World)(l:List Value)(te:TypeId)(W:o.guard=none)(s x:Operand)(t:TypeId)
  (ho:o.op=.call {callee:=.builtin .append,args:=#[s,x],argTypes:=#[t,t]})
  (f:Nat) (e:TypeId) (i:TypeInfo) (z:Value) (d m:Nat) (ht:P.underlying t=some (.slice e)) (hi:P.info? e=some i) (hz:i.zero=some z)
  (F:i.size=d) (S:i.bytes=m) (V:z.cells.size=d) (O:0<d)
  (v:Value) (n:Nat) (L:List Value) (hs:a.eval s=v) (D:B.ownsRow f e d v n L) (p:Below B.heap.size B q)
  (b c:Nat) (hx:a.eval x=.slice (some ⟨b,0,none⟩) 1 c) (hb:b=q.heap.size) (hl:l.length=d) (h1:∀u∈l,u.oneCell'=true)
  (hn:n<=1048576) (C:m<=1000) (M:f<=B.heap.size)
  (h:∀K y,y.ownsRow f e d K (n+1) (L++l)->Below f B y->(∀b o,B.heap.size<=b->b<q.heap.size->y.cell? ⟨b,o,none⟩=q.cell? ⟨b,o,none⟩) →
   (∀b o,B.heap.size<=b->b<q.heap.size->y.frozen? ⟨b,o,none⟩=q.frozen? ⟨b,o,none⟩) →
   (∀k,k<B.heap.size->some k≠v.ownBlock->y.heap[k]?=B.heap[k]?)->q.heap.size<=y.heap.size->wpList P ops Q rest (a.put o.dst K) y):
  wpList P ops Q (o::rest) a (q.alloc (.cells l.toArray te)):=by
 have J:=zC D p;have I:∀k,v.ownBlock=some k->f<=k/\k<B.heap.size:=by
  intro k E;obtain⟨_,T⟩:=D;rcases T with⟨N,_⟩|⟨g,aa,Y,N,W,hh,_⟩
  ·subst N;cases E
  ·subst N;simp only[Value.ownBlock,Option.some.injEq] at E;subst E;exact⟨W,(Array.getElem?_eq_some_iff.1 hh).1⟩
 have X:=p.size;subst hb;refine wpList_append_own _ W s x t ho f e i z d m ht hi hz F S V O v n L hs (J.alloc _) ⟨q.heap.size,0,none⟩ 1 c l hx (by omega) ?_ h1 ?_ ?_ ?_ ?_
 ·intro j u Z;rw[Addr.add_lit,Nat.zero_add,World.cell?_alloc_mark];simpa using Z
 ·unfold maxLen;omega
 ·have:(n+1)*m<=1048577*1000:=Nat.mul_le_mul (by omega) C;omega
 ·simp;omega
 ·intro K y T A _;have r:∀k,k<q.heap.size->some k≠v.ownBlock->y.heap[k]?=q.heap[k]?:=fun k E G=>by
   rw[A.block k (by simp;omega) G];exact Below.heap_alloc _ _ _ E
  have U:q.heap.size<=y.heap.size:=by have:=A.size;simp at this;omega
  refine h K y T ⟨A.os.trans p.os,A.tape.trans p.tape,A.output.trans p.output,by omega,fun k E=>?_⟩ (fun b o R H=>?_) (fun b o R H=>?_) (fun k E G=>?_) U
  ·rw[r k (by omega) (fun e=>by have:=I k e.symm;omega)];exact p.block k (by omega)
  ·exact World.cell?_of_block (w:=q) (r b H (fun e=>by have:=I b e.symm;omega))
  ·exact World.frozen?_of_block (w:=q) (r b H (fun e=>by have:=I b e.symm;omega))
  ·rw[r k (by omega) G];exact p.block k E
theorem In(w:World)(l:o.guard=none)(x:Operand)(c b e:TypeId)(h:o.op=.convert c b x)
  (hs:P.underlying c=some .string) (p:P.underlying b=some (.slice e)) (n:P.underlying e=some (.int .u8)) (s:ByteArray) (k:a.eval x=.string s)
  (q:∀d f,(∀j (i:j<s.data.size),f.cell? ⟨w.heap.size,j,none⟩=some (.int .u8 (s.data[j].toNat:Int)))->Below w.heap.size w f →
   wpList P ops Q rest (a.put o.dst (.slice (some ⟨w.heap.size,0,none⟩) s.size d)) f):wpList P ops Q (o::rest) a w:=by
 refine wpList_plain l fun K g=>?_;have m:=run_bytes_of_string (P:=P) w c b e s hs p n;unfold Oper.wp;simp[execOp,h,k,m,Result.andThen];refine g _ _ (q _ _ (fun j i=>?_) ?_)
 ·have:=World.cell?_alloc_mark w.drew (bytesRow s (grownCap w s.size 0 e)) e ((bytesRow s (grownCap w s.size 0 e)).size,(bytesRow s (grownCap w s.size 0 e)).size+1) j;rw[bytesRow_at s _ j i] at this;exact this
 ·exact(Below.refl _ _).drew.alloc (Nat.le_refl _) _
theorem G7(w:World)(m:o.guard=none)(x:Operand)(d c e:TypeId)(i:o.op=.convert d c x)
  (hs:P.underlying d=some (.slice e)) (n:P.underlying e=some (.int .u8)) (p:P.underlying c=some .string) (s:ByteArray) (b cap:Nat) (l:a.eval x=.slice (some ⟨b,0,none⟩) s.size cap)
  (t:∀j (f:j<s.data.size),w.cell? ⟨b,j,none⟩=some (.int .u8 (s.data[j].toNat:Int)))
  (r:wpList P ops Q rest (a.put o.dst (.string s)) w):wpList P ops Q (o::rest) a w:=by
 refine wpList_plain m fun K h=>?_;have k:=run_convert_bytes_back (P:=P) w d c e ⟨b,0,none⟩ cap s.data.toList hs n p (fun j f=>by
  have g:j<s.data.size:=by rw[Array.length_toList] at f;exact f
  rw[Addr.add_lit,Nat.zero_add,t j g,Array.getElem_toList])
 have q:s.data.toList.length=s.size:=by rw[Array.length_toList];rfl
 rw[q] at k;unfold Oper.wp;simp[execOp,i,l,k,Result.andThen];exact h _ _ r
end
abbrev zf:=@Nat.le_refl
abbrev zr:=@Option.some.injEq
abbrev zv:=@List.getElem_mem
abbrev zu:=@List.mem_cons
abbrev yP:=@List.take_succ_eq_append_getElem
abbrev za:=@if_neg
abbrev zo:=@Below.refl
abbrev yr:=@List.getElem?_eq_getElem
abbrev gu:=@List.getD_eq_getElem?_getD
abbrev zb:=@if_pos
abbrev zx:=@Nat.zero_le
abbrev z9:=@List.mem_map
abbrev xk:=@List.drop_eq_getElem_cons
abbrev ze:=@Or.inr
abbrev zX:=@List.mem_append
abbrev zg:=@Or.inl
abbrev yv:=@List.length_append
abbrev zK:=@bodyPost_ret
abbrev xi:=@List.take_of_length_le
abbrev zT:=@Nat.le_trans
abbrev yI:=@World.ownsRow_nil
abbrev yc:=@Prod.mk.injEq
abbrev ug:=@List.drop_eq_nil_of_le
abbrev uQ:=@List.getElem_append_left
abbrev xd:=@List.length_cons
abbrev xG:=@Nat.lt_of_lt_of_le
abbrev xO:=@List.mem_singleton
abbrev vE:=@Option.map_eq_some_iff
abbrev kp:=@List.getElem?_eq_none
abbrev uo:=@List.flatMap_cons
abbrev xX:=@List.mem_filter
abbrev kw:=@Array.getElem?_eq_some_iff
abbrev jA:=@List.getElem?_eq_some_iff
abbrev vG:=@List.getElem_of_mem
abbrev ux:=@Option.getD_some
abbrev uF:=@List.mem_flatMap
abbrev un:=@List.foldl_cons
abbrev qU:=@List.take_append_drop
abbrev xQ:=@List.map_cons
abbrev uJ:=@List.length_map
abbrev zB:=@absurd
abbrev vq:=@Bool.and_eq_true
abbrev vf:=@List.take_length
abbrev vm:=@List.getElem_map
abbrev gU:=@List.getElem?_append_right
abbrev vC:=@List.map_append
abbrev vU:=@List.length_take
abbrev gm:=@List.getElem_cons_zero
abbrev jG:=@Option.isSome_some
abbrev js:=@List.foldl_append
abbrev qE:=@List.append_nil
abbrev uK:=@Nat.add_zero
abbrev kB:=@List.append_assoc
abbrev ks:=@List.map_congr_left
abbrev vI:=@List.sum_cons
abbrev dK:=@List.getElem?_cons_zero
abbrev vF:=@Nat.zero_add
abbrev jj:=@Option.map_some
abbrev gZ:=@List.mem_of_mem_drop
abbrev gN:=@Nat.mul_le_mul_right
abbrev gE:=@List.mem_iff_getElem
abbrev gd:=@Option.isSome_none
abbrev gx:=@Bool.false_eq_true
abbrev l9:=@List.getElem?_take
abbrev j8:=@List.nodup_cons
abbrev fe:=@List.mem_of_getElem?
abbrev fG:=@List.set_append_right
abbrev lf:=@List.getElem?_cons_succ
abbrev mw:=@List.getElem_append_right
abbrev lr:=@List.zipWith_cons_cons
abbrev fU:=@List.mem_of_mem_take
abbrev kZ:=@Option.getD_none
abbrev kT:=@List.any_eq_true
abbrev kE:=@List.length_nil
abbrev my:=@Option.isSome_iff_exists
abbrev lD:=@List.getElem?_toArray
abbrev mK:=@List.nodup_iff_pairwise_ne
abbrev lG:=@List.length_eq_zero_iff
abbrev gS:=@List.ext_getElem
abbrev dH:=@Nat.min_eq_left
abbrev jH:=@Nat.sub_self
abbrev lx:=@List.drop_succ_cons
abbrev mM:=@Array.length_toList
abbrev gh:=@List.mem_range
abbrev li:=@List.getElem?_map
abbrev rj:=@Array.getElem?_setIfInBounds_ne
abbrev jT:=@Nat.le_of_lt
abbrev mB:=@List.getElem_cons_succ
abbrev ny:=@List.length_pos_of_mem
abbrev dX:=@Bool.or_eq_true
abbrev nY:=@List.mem_or_eq_of_mem_set
abbrev gW:=@List.drop_zero
abbrev rf:=@List.eq_nil_of_length_eq_zero
abbrev lH:=@Nat.mul_le_mul_left
abbrev nQ:=@List.length_erase_of_mem
abbrev mW:=@List.getElem_set_self
abbrev pz:=@List.countP_eq_length_filter
abbrev rk:=@List.mem_zipIdx_iff_getElem?
abbrev lN:=@List.mem_filterMap
abbrev mS:=@List.mem_erase_of_ne
abbrev np:=@Bool.or_eq_false_iff
abbrev lg:=@List.all_eq_true
abbrev lE:=@List.not_mem_nil
abbrev hZ:=@List.cons_append
abbrev p6:=@List.getElem_concat_length
abbrev nt:=@List.take_succ_cons
abbrev mQ:=@List.takeWhile_cons
abbrev mp:=@List.ext_getElem?
abbrev mA:=@List.getElem_set_ne
abbrev lM:=@List.flatten_cons
abbrev rQ:=@List.getElem?_append_left
abbrev fA:=@List.map_set
abbrev nE:=@List.length_filter_le
abbrev gD:=@Nat.lt_or_ge
abbrev l3:=@List.length_set
abbrev mO:=@List.set_cons_succ
abbrev p4:=@List.length_filterMap_le
abbrev mI:=@List.getElem_range
abbrev nO:=@List.mem_cons_of_mem
abbrev po:=@List.pairwise_append
abbrev hX:=@List.tail_cons
abbrev mE:=@List.pairwise_map
abbrev ml:=@List.cons.injEq
abbrev mJ:=@List.getElem_set
abbrev pg:=@List.set_cons_zero
abbrev rh:=@List.countP_le_length
abbrev nN:=@List.pairwise_cons
abbrev tN:=@List.pairwise_iff_getElem
abbrev pe:=@Nat.lt_trichotomy
abbrev n8:=@List.nodup_append
abbrev me:=@Bool.true_and
abbrev pS:=@List.replicate_succ
abbrev mj:=@Bool.not_true
abbrev eD:=@List.zipWith_append
abbrev fH:=@Nat.add_mul
abbrev rU:=@Nat.add_sub_cancel_left
abbrev pW:=@List.filterMap_cons
abbrev nI:=@Bool.not_eq_true
abbrev nB:=@List.append_inj'
abbrev tO:=@List.getElem_replicate
abbrev tp:=@List.drop_of_length_le
abbrev ra:=@List.filter_append
abbrev pN:=@List.mem_cons_self
abbrev Pc:=@Array.getElem?_modify
abbrev nZ:=@List.nil_append
abbrev lT:=@List.map_map
abbrev rB:=@List.set_getElem_self
abbrev su:=@List.eq_nil_or_concat
abbrev sY:=@List.concat_eq_append
abbrev rF:=@List.filterMap_append
abbrev p3:=@List.getElem?_set
abbrev mX:=@Bool.false_or
abbrev pZ:=@Bool.not_eq_false
end
structure vO where
 leap:List Nat
 down:List Nat
 deriving DecidableEq
structure zi where
 qf:Nat
 ql:Nat
 qi:List vO
 count:Nat
 deriving DecidableEq
abbrev zk:=List Nat
def vO.zero:vO:=⟨[],[]⟩
def yt(T:zi):zi:={T with qi:=T.qi++[⟨List.replicate T.qf T.qf,List.replicate T.qf 0⟩]}
def zJ(a:Nat):Nat:=if a<1 then 1 else a
def yV(a:Nat):Nat:=if (if a<1 then 1 else a)>3 then 3 else(if a<1 then 1 else a)
def yR(b a:Nat):zi:=yt ⟨zJ b,yV a,[],0⟩
def yz(T:zi)(at' «from» : Nat):Option Nat:=
 if at'<T.qi.length/\«from»<T.qf then
  let v:=(T.qi.getD at' vO.zero).leap.getD «from» 0
  if v≥T.qf then none else some v
 else none
def zG(T:zi)(at' v:Nat):Option Nat:=
 match yz T at' v with
 |none=>none
 |some u=>if u=v then some ((T.qi.getD at' vO.zero).down.getD v 0) else none
def jC(v:Nat):Nat->List Nat->List Nat
 |0,l=>l
 |n+1,l=>if l.getD n 0>v then jC v n (l.set n v) else l
def fD(n:vO)(v d:Nat):vO:=⟨jC v (v+1) n.leap,n.down.set v d⟩
def yb(T:zi)(at' v d:Nat):zi:=
 if at'<T.qi.length/\v<T.qf then{T with qi:=T.qi.set at' (fD (T.qi.getD at' vO.zero) v d)} else T
def vQ(T:zi)(at' v:Nat):zi×Nat:=
 match zG T at' v with
 |some b=>(T,b)
 |none=>(yb (yt T) at' v T.qi.length,T.qi.length)
def kY(T:zi)(at' v a:Nat):zi×Bool:=
 match zG T at' v with
 |some _=>(T,false)
 |none=>({yb T at' v a with count:=(yb T at' v a).count+1},true)
def fK(T:zi)(row:zk):Bool:=row.all (fun v=>v<T.qf)
def uR(a:Nat):zi->Nat->Nat->zk->zi×Bool
 |T,_,_,[]=>(T,false)
 |T,at',level,v::r=>
  if level+1≥T.ql then kY T at' v a else uR a (vQ T at' v).1 (vQ T at' v).2 (level+1) r
def addP(T:zi)(row:zk)(a:Nat):zi×Bool:=if fK T row then uR a T 0 0 row else(T,false)
def uv(T:zi):Nat->Nat->zk->Option Nat
 |_,_,[]=>none
 |at',level,v::r=>
  match zG T at' v with
  |none=>none
  |some b=>if level+1≥T.ql then some b else uv T b (level+1) r
def uk(T:zi)(row:zk):Option Nat:=uv T 0 0 row
def x9(T:zi):Nat->Nat->Nat->Nat->zk->List zk->Option (zk×List zk)
 |0,_,_,_,_,_=>none
 |n+1,at',level,«from»,row,a=>
  match yz T at' «from» with
  |none=>some (row,a)
  |some v=>
   let row:=row.set level v
   if level+1≥T.ql then x9 T n at' level (v+1) row (a++[row])
   else if level+1≥3 then x9 T n at' level (v+1) row a
   else match x9 T n ((zG T at' v).getD 0) (level+1) 0 row a with
    |none=>none
    |some (row,a)=>x9 T n at' level (v+1) row a
def nf(a:Nat)(T:zi):Option (List zk):=(x9 T a 0 0 0 [0,0,0] []).map (·.2)
structure ya where
 var:Bool
 num:Nat
 level:Nat
 deriving DecidableEq
structure zt where
 pred:Nat
 qg:List ya
 deriving DecidableEq
structure zq where
 qh:Nat
 vars:Nat
 head:zt
 qc:List zt
 qp:List zt
 deriving DecidableEq
def zH(l:zt)(place:Nat):Bool:=l.qg.any fun t=>t.var&&t.num == place
def yN(l:zt)(place:Nat):Option Nat:=if zH l place then some ((List.range place).countP (zH l)) else none
def yM(l:zt):Nat:=(List.range 5).countP (zH l)
def uC(l:zt):Nat:=l.qg.foldl (fun k t=>if t.var&&decide (t.num≥k) then t.num+1 else k) 0
def jP(l:zt)(jd:Int):Int:=l.qg.foldl (fun k t=>if t.var&&decide ((t.num:Int)<jd)&&decide ((t.num:Int)>k) then(t.num:Int) else k) (-1)
def vY(l:zt)(jd:Int):Int:=if (uC l:Int)<=jd then -1 else jP l jd
def vz(jd b:Int)(l:zt):Int:=if vY l jd>b then vY l jd else b
def xt(r:zq)(jd:Int):Int:=r.qp.foldl (vz jd) (r.qc.foldl (vz jd) (jP r.head jd))
def QJ(t:ya)(vals:List Nat):Nat:=if t.var&&decide (t.num<5) then vals.getD t.num 0 else t.num
def Pz(l:zt)(vals:List Nat)(i:Nat):Nat:=if i<l.qg.length then QJ (l.qg.getD i ⟨false,0,0⟩) vals else 0
def zF(l:zt)(vals:List Nat):zk:=[Pz l vals 0,Pz l vals 1,Pz l vals 2]
def leveled(t:ya):Bool:=t.var&&decide (t.level<3)
def qD(l:zt)(row f:zk)(i:Nat):zk:=
 if i<l.qg.length/\leveled (l.qg.getD i ⟨false,0,0⟩)=true then f.set (l.qg.getD i ⟨false,0,0⟩).level (row.getD i 0) else f
def ul(l:zt)(row:zk):zk:=qD l row (qD l row (qD l row [0,0,0] 0) 1) 2
def jy(t:ya)(v:Nat)(f:zk):Bool:=if leveled t then f.getD t.level 0 == v else t.num == v
def xr(l:zt)(row f:zk)(i:Nat):Bool:=decide (l.qg.length<=i)||jy (l.qg.getD i ⟨false,0,0⟩) (row.getD i 0) f
def xy(l:zt)(row:zk):Option zk:=
 if xr l row (ul l row) 0&&xr l row (ul l row) 1&&xr l row (ul l row) 2 then some (ul l row) else none
structure yJ where
 rows:zi
 qi:List Nat
 deriving DecidableEq
structure sG where
 lit:zt
 jd:Nat
 rows:zi
 deriving DecidableEq
structure zy where
 head:zt
 vars:Nat
 qy:List yJ
 bars:List sG
 je:List (List (Nat×Nat))
 jg:List Int
 last:Int
 ja:List Nat
 «from» : List Nat
 ql:Int
 /-- as the code counts them: an int of Go's -/
 jf:Int
 deriving DecidableEq
def yJ.zero:yJ:=⟨⟨0,0,[],0⟩,[]⟩
def yW(r:zq)(place:Nat):List (Nat×Nat):=
 r.qc.zipIdx.filterMap fun x=>(yN x.1 place).map fun a=>(x.2,a)
def uy(J:zy)(jd:Nat):Bool:=J.bars.any fun b=>b.jd == jd&&(uk b.rows (zF b.lit J.ja)).isSome
def xv(r:zq)(qc qp:List zi):zy:=
 let J:zy:={head:=r.head,vars:=r.vars,qy:=qc.map (fun T=>⟨T,[0,0,0]⟩),bars:=(r.qp.zip qp).map (fun x=>⟨x.1,uC x.1,x.2⟩),je:=(List.range 5).map (yW r),jg:=(List.range 5).map (fun p=>xt r (p:Nat)),last:=xt r r.vars,ja:=[0,0,0,0,0],«from»:=[0,0,0,0,0],ql:=if qc.any (fun T=>T.count == 0) then -1 else 0,jf:=0}
 if uy J 0 then{J with ql:=-1} else J
def vi(J:zy)(h:Nat×Nat):Bool:=decide (h.1<J.qy.length)&&decide (h.2<3)
def vB(J:zy)(h:Nat×Nat)(«from» : Nat):zy×Option Nat:=
 if vi J h then({J with jf:=IntKind.i64.wrap (J.jf+1)},yz (J.qy.getD h.1 yJ.zero).rows ((J.qy.getD h.1 yJ.zero).qi.getD h.2 0) «from») else(J,none)
def kH:Nat->zy->List (Nat×Nat)->Nat->Nat->Nat->Option (zy×Option Nat)
 |0,_,_,_,_,_=>none
 |n+1,J,c,at',b,a=>
  if b<c.length then
   match vB J (c.getD a (0,0)) at' with
   |(J,none)=>some (J,none)
   |(J,some v)=>kH n J c (if v>at' then v else at') ((if v>at' then 0 else b)+1) (if a+1≥c.length then 0 else a+1)
  else some (J,some at')
def dB(a:Nat)(J:zy)(place «from» : Nat):Option (zy×Option Nat):=
 if place≥5∨(J.je.getD place []).length=0 then some (J,none) else kH a J (J.je.getD place []) «from» 0 0
def uX(v:Nat)(J:zy)(h:Nat×Nat):zy:=
 if vi J h=false∨h.2+1≥3 then J
 else{J with qy:=J.qy.set h.1 {(J.qy.getD h.1 yJ.zero) with qi:=(J.qy.getD h.1 yJ.zero).qi.set (h.2+1) ((zG (J.qy.getD h.1 yJ.zero).rows ((J.qy.getD h.1 yJ.zero).qi.getD h.2 0) v).getD 0)}}
def ue(J:zy)(place v:Nat):zy:=
 if place≥5 then J
 else(J.je.getD place []).foldl (uX v) {J with ja:=J.ja.set place v,«from»:=(if place+1<5 then(J.from.set place (v+1)).set (place+1) 0 else J.from.set place (v+1))}
def qO:Nat->zy->Int->Option (zy×Bool)
 |0,_,_=>none
 |n+1,J,a=>
  if 0<=a/\a<J.vars/\a<5 then
   match dB n J a.toNat (J.from.getD a.toNat 0) with
   |none=>none
   |some (J,none)=>qO n J (J.jg.getD a.toNat 0)
   |some (J,some v)=>qO n (ue J a.toNat v) (if uy (ue J a.toNat v) (a.toNat+1) then a else a+1)
  else some (J,decide (a≥J.vars))
def dF(b:Nat)(J:zy):Option (zy×Bool):=
 match qO b J J.ql with
 |none=>none
 |some (J,a)=>some ({J with ql:=if a then J.last else -1},a)
structure y6 where
 lit:zt
 before:zi
 qo:zi
 all:zi
 deriving DecidableEq
structure zZ where
 rule:zq
 qm:List y6
 deriving DecidableEq
structure qP where
 pred:Nat
 row:zk
 deriving DecidableEq
structure qJ where
 qf:Nat
 qj:List Nat
 facts:List qP
 rules:List zq
 deriving DecidableEq
structure zw where
 rows:List zi
 count:Nat
 qw:Nat
 jf:Int
 qo:List (List zk)
 deriving DecidableEq
def zi.zero:zi:=⟨0,0,[],0⟩
def vX(R:zw):zw:={R with qo:=List.replicate R.rows.length []}
def okT(T:zi):Bool:=decide (T.qi.length<=90000000)&&decide (T.count<1000000000)
def xw:List zk->zi->Option zi
 |[],T=>some T
 |r::a,T=>if okT T then xw a (addP T r 0).1 else none
def rowsG(a:Nat)(T:zi):Option (List zk):=
 match nf a T with
 |none=>none
 |some b=>if b.length<=1048576 then some b else none
def jr(b:Nat)(R:zw)(a:Nat)(row:zk):Option (zw×Bool):=
 if a<R.rows.length/\a<R.qo.length/\okT (R.rows.getD a zi.zero)=true/\R.count<=1048576/\(R.qo.getD a []).length<=1048576 then
  match addP (R.rows.getD a zi.zero) row R.qw with
  |(T,false)=>some ({R with rows:=R.rows.set a T},true)
  |(T,true)=>some ({R with rows:=R.rows.set a T,qo:=R.qo.set a (R.qo.getD a []++[row]),count:=R.count+1},decide (R.count+1<=b))
 else none
def fR(b:Nat)(R:zw)(a:Nat):zi:=if a≥R.rows.length then yR b 0 else R.rows.getD a zi.zero
def gL(d g:Nat)(V:y6)(c:List zk):Option y6:=
 match rowsG d V.qo with
 |none=>none
 |some e=>
  match xw e V.before,xw (c.filterMap (xy V.lit)) (yR g (yM V.lit)),xw (c.filterMap (xy V.lit)) V.all with
  |some b,some f,some a=>some {V with before:=b,qo:=f,all:=a}
  |_,_,_=>none
def kA(a:Nat)(l:zt):y6:=⟨l,yR a (yM l),yR a (yM l),yR a (yM l)⟩
def gO(a c:Nat)(R:zw):List zt->Option (List y6)
 |[]=>some []
 |l::r=>
  match rowsG a (fR c R l.pred) with
  |none=>none
  |some b=>match gL a c (kA c l) b,gO a c R r with
   |some v,some vs=>some (v::vs)
   |_,_=>none
def PT(a c:Nat)(R:zw)(b:Nat):List zq->Option (List zZ)
 |[]=>some []
 |r::d=>
  if r.qh=b then
   match gO a c R r.qc,PT a c R b d with
   |some vs,some e=>some (⟨r,vs⟩::e)
   |_,_=>none
  else PT a c R b d
def vj(a b:Nat):Nat->zw->zy->Option (zw×Bool)
 |0,_,_=>none
 |n+1,R,J=>
  match dF n J with
  |none=>none
  |some (J,false)=>some ({R with jf:=IntKind.i64.wrap (R.jf+J.jf)},true)
  |some (J,true)=>match jr a R b (zF J.head J.ja) with
   |none=>none
   |some (R,false)=>some (R,false)
   |some (R,true)=>vj a b n R J
def qN(a:Nat)(R:zw)(r:zq):List zi:=r.qp.map fun l=>fR a R l.pred
def PL(vs:List y6)(place:Nat):List zi:=vs.zipIdx.map fun x=>if x.2<place then x.1.before else if x.2=place then x.1.qo else x.1.all
def jv(b c a:Nat)(W:zZ):Nat->Nat->zw->Option (zw×Bool)
 |0,_,R=>some (R,true)
 |n+1,i,R=>
  if (W.qm.getD i ⟨⟨0,[]⟩,zi.zero,zi.zero,zi.zero⟩).qo.count>0 then
   match vj a W.rule.head.pred b R (xv W.rule (PL W.qm i) (qN c R W.rule)) with
   |none=>none
   |some (R,false)=>some (R,false)
   |some (R,true)=>jv b c a W n (i+1) R
  else jv b c a W n (i+1) R
def kq(b c a:Nat)(first:Bool)(R:zw)(W:zZ):Option (zw×Bool):=
 if first then vj a W.rule.head.pred b R (xv W.rule (W.qm.map (·.all)) (qN c R W.rule))
 else jv b c a W W.qm.length 0 R
def kG(b c a:Nat)(first:Bool):List zZ->zw->Option (zw×Bool)
 |[],R=>some (R,true)
 |W::d,R=>
  match kq b c a first R W with
  |none=>none
  |some (R,false)=>some (R,false)
  |some (R,true)=>kG b c a first d R
def g4(a c:Nat)(b:List (List zk)):List y6->Option (List y6)
 |[]=>some []
 |V::vs=>
  match (if V.lit.pred<b.length then gL a c V (b.getD V.lit.pred []) else some V),g4 a c b vs with
  |some v,some vs=>some (v::vs)
  |_,_=>none
def kM(a c:Nat)(d:List (List zk)):List zZ->Option (List zZ)
 |[]=>some []
 |W::b=>
  match g4 a c d W.qm,kM a c d b with
  |some v,some b=>some ({W with qm:=v}::b)
  |_,_=>none
def ni(b d a:Nat)(first:Bool)(c:List zZ)(R:zw):Option (zw×List zZ×Bool):=
 match kG b d a first c (vX {R with qw:=R.qw+1}) with
 |none=>none
 |some (R,false)=>some (R,c,false)
 |some (R,true)=>(kM b d R.qo c).map fun c=>(R,c,true)
def kF(e b a:Nat):Nat->Bool->List zZ->zw->Option (zw×Bool)
 |0,_,_,_=>none
 |n+1,first,d,R=>
  if R.qw≥a then some (R,false)
  else match ni n e b first d R with
   |none=>none
   |some (c,_,false)=>some (c,false)
   |some (c,d,true)=>if c.count>R.count then kF e b a n false d c else some (c,true)
def mZ(c f b a:Nat)(d:List zq)(R:zw)(s:Nat):Option (zw×Bool):=
 match PT c f R s d with
 |none=>none
 |some e=>if e.length>0 then kF f b a c true e R else some (R,true)
def jX(d e b a:Nat)(c:List zq):Nat->Nat->zw->Option (zw×Bool)
 |0,_,R=>some (R,true)
 |n+1,s,R=>
  match mZ d e b a c R s with
  |none=>none
  |some (R,false)=>some (R,false)
  |some (R,true)=>jX d e b a c n (s+1) R
def kj(a:Nat):List qP->zw->Option (zw×Bool)
 |[],R=>some (R,true)
 |f::b,R=>
  match jr a R f.pred f.row with
  |none=>none
  |some (R,false)=>some (R,false)
  |some (R,true)=>kj a b R
def dP(S:qJ):zw:=vX ⟨S.qj.map (yR S.qf),0,0,0,[]⟩
def lJ(c:Nat)(S:qJ)(a b:Nat):Option (Option zw):=
 match kj a S.facts (dP S) with
 |none=>none
 |some (_,false)=>some none
 |some (R,true)=>(jX c S.qf a b S.rules S.qj.length 0 R).map fun x=>if x.2 then some x.1 else none
section
variable {d i:Nat}{listed:Array Bool}{a:Act}{w:World}
section
variable {P:Program} {ops:Array Oper} {Q:Exit->Act->World->Prop} {md:Region.Mode} {S:World->Prop}
def f9(P:Program)(md:Region.Mode)(ops:Array Oper)(Q:Exit->Act->World->Prop)(S:World->Prop)(d:Nat):Nat->Array Bool->Act->World->Prop
 |0,listed,a,w=>Region.ready md ops listed=[]/\Q .normal a w
 |b+1,listed,a,w=>
  (Region.ready md ops listed=[]->Q .normal a w) ∧
  ∀i∈Region.ready md ops listed,wpOp P ops Q i (fun e c=>(i≠d->S c)/\f9 P md ops Q S d b (listed.setIfInBounds i true) e c) a w
theorem AT{d:Nat}:∀(b:Nat) (listed:Array Bool) (a:Act) (w:World),f9 P md ops Q S d b listed a w->wpAny P md ops Q b listed a w
 |0,_,_,_,h=>h
 |b+1,_,_,_,h=>⟨h.1,fun i f=>wpOp_mono (fun c g e=>AT b _ c g e.2) (h.2 i f)⟩
def Qq(md:Region.Mode)(ops:Array Oper)(d i:Nat):Bool:=match ops[d]? with
 |none=>false
 |some o=>o.after.toList.any fun e=>Region.binds md e&&e.on == i
theorem M5(h:Qq md ops d i=true):∃o,ops[d]?=some o/\∃e∈o.after,Region.binds md e=true/\e.on=i:=by
 unfold Qq at h;split at h
 ·cases h
 ·rename_i o c;obtain⟨e,f,b⟩:=kT.1 h;simp only[vq,beq_iff_eq] at b;exact⟨o,c,e,by simpa using f,b⟩
theorem L9{t:Oper}{v:Value}(M:ops[i]?=some t)(q:∀(j:Nat) (o:Oper) A b,ops[j]?=some o->o.op≠.select A b)
  (hQ:∀c a w,Q (.panic c) (a.put t.dst v) w->Q (.panic c) a w) (hd:Qq md ops d i=true):
  ∀(g:Nat) (listed:Array Bool) (a:Act) (w:World),
   (∀j u,ops[j]?=some u->j≠i->listed.getD j true=false->(∀e∈u.after,Region.binds md e=true->e.on≠i)->t.apart ops u=true) →
   i∈Region.ready md ops listed->YieldsIf P ops S t v a->S w →
   f9 P md ops Q S d g (listed.setIfInBounds i true) (a.put t.dst v) w->f9 P md ops Q S d (g+1) listed a w:=by
 intro g;induction g with
 |zero=>
  intro listed a w _ s E z H;refine⟨fun h=>(by rw[h] at s;cases s),fun j D=>?_⟩;by_cases f:j=i
  ·subst f;exact E.wpOp M z ⟨fun _=>z,H⟩
  ·have:=ready_mono D f;rw[H.1] at this;cases this
 |succ g Y=>
  intro listed a w l s E z H;refine⟨fun h=>(by rw[h] at s;cases s),fun j D=>?_⟩;by_cases f:j=i
  ·subst f;exact E.wpOp M z ⟨fun _=>z,H⟩
  ·have x:=H.2 j (ready_mono D f);obtain⟨r,u,m,B⟩:=mem_ready.1 D;have p:∀e∈u.after,Region.binds md e=true->e.on≠i:=fun e I J R=>by
    have x:=B e I J;have T:=(mem_ready.1 s).1;rw[R] at x;rcases gD i listed.size with K|K
    ·simp[K] at T x;rw[T] at x;cases x
    ·simp[Array.getElem?_eq_none K] at x
   have L:j≠d:=fun e=>by
    subst e;obtain⟨od,U,e,I,J,N⟩:=M5 hd;rw[m] at U;cases U;exact p e I J N
   have X:=wpOp_putIf m (l j u m f r p) (fun A b=>q i t A b M) (fun A b=>q j u A b m) hQ E x;have n:∀k ok,ops[k]?=some ok->k≠i->(listed.setIfInBounds j true).getD k true=false →
     (∀e∈ok.after,Region.binds md e=true->e.on≠i)->t.apart ops ok=true:=fun k ok Z G C O=>by
    refine l k ok Z G ?_ O;by_cases y:j=k
    ·subst y;exact r
    ·rw[getD_set_ne true y] at C;exact C
   refine wpOp_mono (fun W V F=>⟨F.2.1,Y (listed.setIfInBounds j true) W V n (ready_mono s (Ne.symm f)) F.1 (F.2.1 L) ?_⟩) X;rw[Array.setIfInBounds_comm _ _ f];exact F.2.2
theorem xP{e:Oper}{v:Value}{b:Nat}(f:ops[i]?=some e)
  (hs:Region.noSelect ops=true) (g:Region.free md ops listed i=true) (j:(Region.ready md ops listed).contains i=true) (m:Qq md ops d i=true)
  (l:∀c a w,Q (.panic c) (a.put e.dst v) w->Q (.panic c) a w) (k:YieldsIf P ops S e v a) (n:S w)
  (h:f9 P md ops Q S d b (listed.setIfInBounds i true) (a.put e.dst v) w):f9 P md ops Q S d (b+1) listed a w:=
 L9 f (Region.noSelect_spec hs) l m b listed a w (Region.free_spec f g) (by simpa using j) k n h
theorem gz{o:Oper}{b:Nat}(f:Region.ready md ops listed=[i])(k:ops[i]?=some o)
  (h:∀c:Act->World->Prop,Shut (∀a w,(i≠d->S w)->f9 P md ops Q S d b (listed.setIfInBounds i true) a w->c a w)->if Region.wanted o (yielded ops a.tmps)=true then Oper.wp P o a w c Q else c (a.put o.dst undef) w):f9 P md ops Q S d (b+1) listed a w:=by
 refine⟨fun g=>(by rw[f] at g;cases g),fun j e=>?_⟩;rw[f] at e;obtain rfl:j=i:=by simpa using e
 exact wpOp_step k (fun c n=>h c (fun a w m l=>n a w ⟨m,l⟩))
theorem e7(c:Region.ready md ops listed=[])(h:Q .normal a w):∀b,f9 P md ops Q S d b listed a w
 |0=>⟨c,h⟩
 |_+1=>⟨fun _=>h,by rw[c];simp⟩
theorem iJ{id:Nat}(c:P.follows .mixedOrders=true)(b:S w.drew)
  (h:S w.drew->f9 P .any ops Q S d ops.size (Array.replicate ops.size false) a w.drew):(Code.region id ops true).wp P Q a w:=
 wp_region_any c (AT _ _ _ _ (h b))
end
end
structure kD (w:Nat) (n:vO):Prop where
 len:n.leap.length=w
 dlen:n.down.length=w
 ge:∀i,i<w->i<=n.leap.getD i 0
 le:∀i,i<w->n.leap.getD i 0<=w
 fix:∀i,i<w->n.leap.getD i 0<w->n.leap.getD (n.leap.getD i 0) 0=n.leap.getD i 0
 seg:∀i j,i<w->i<=j->j<n.leap.getD i 0->n.leap.getD j 0=n.leap.getD i 0
theorem uq(l:List Nat)(i j v d:Nat):(l.set i v).getD j d=if i=j/\i<l.length then v else l.getD j d:=by
 simp only[gu,p3];by_cases h:i=j
 ·subst h;by_cases a:i<l.length
  ·simp[a]
  ·simp[a]
 ·simp[h]
theorem BA(v:Nat):∀(n:Nat) (l:List Nat),(jC v n l).length=l.length
 |0,l=>rfl
 |n+1,l=>by
  unfold jC;split
  ·rw[BA];simp
  ·rfl
open Classical in
theorem CV(v:Nat):∀(n:Nat) (l:List Nat) (u:Nat),n<=l.length->(jC v n l).getD u 0=if u<n/\∀j,u<=j->j<n->l.getD j 0>v then v else l.getD u 0
 |0,l,u,_=>by simp[jC]
 |n+1,l,u,h=>by
  unfold jC;by_cases c:l.getD n 0>v
  ·rw[zb c,CV v n (l.set n v) u (by simp;omega)];by_cases e:u<n
   ·by_cases d:∀j,u<=j->j<n->l.getD j 0>v
    ·rw[zb ⟨e,fun j a b=>by rw[uq,za (by omega)];exact d j a b⟩,zb ⟨by omega,fun j a b=>by
      by_cases g:j=n
      ·subst g;exact c
      ·exact d j a (by omega)⟩]
    ·rw[za (fun q=>d fun j a b=>by have:=q.2 j a b;rwa [uq,za (by omega)] at this),za (fun q=>d fun j a b=>q.2 j a (by omega)),uq,za (by omega)]
   ·rw[za (fun q=>e q.1),uq];by_cases f:n=u
    ·subst f;rw[zb ⟨rfl,by omega⟩,zb ⟨by omega,fun j a b=>by
      have:j=n:=by omega
      subst this;exact c⟩]
    ·rw[za (by omega),za (by omega)]
  ·rw[za c];by_cases e:u<n+1
   ·rw[za (fun q=>c (q.2 n (by omega) (by omega)))]
   ·rw[za (fun q=>e q.1)]
def l6(w:Nat)(n:vO)(v:Nat):Prop:=v<w/\n.leap.getD v 0=v
theorem kD.none{w:Nat}{n:vO}(h:kD w n){i:Nat}(b:i<w)(d:¬n.leap.getD i 0<w):∀u,i<=u->¬l6 w n u:=by
 intro u a ⟨e,c⟩;have:=h.seg i u b a (by omega);omega
theorem kD.some{w:Nat}{n:vO}(h:kD w n){i:Nat}(a:i<w)(b:n.leap.getD i 0<w):i<=n.leap.getD i 0/\l6 w n (n.leap.getD i 0)/\∀u,i<=u->u<n.leap.getD i 0->¬l6 w n u:=by
 refine⟨h.ge i a,⟨b,h.fix i a b⟩,fun u d c ⟨f,e⟩=>?_⟩;have:=h.seg i u a d c;omega
theorem kD.put{w:Nat}{n:vO}(h:kD w n){v d:Nat}(l:v<w)(y:¬l6 w n v):kD w (fD n v d)/\(∀u,l6 w (fD n v d) u↔u=v∨l6 w n u)/\∀u,(fD n v d).down.getD u 0=if u=v then d else n.down.getD u 0:=by
 have z:=h.len;have g:n.leap.getD v 0>v:=by
  have r:=h.ge v l;rcases Nat.lt_or_eq_of_le r with q|q
  ·exact q
  ·exact zB ⟨l,q.symm⟩ y
 have t:∀u,(jC v (v+1) n.leap).getD u 0=if u<=v/\n.leap.getD u 0>v then v else n.leap.getD u 0:=by
  intro u;rw[CV v (v+1) n.leap u (by omega)];by_cases m:u<=v
  ·by_cases f:n.leap.getD u 0>v
   ·have p:∀j,u<=j->j<v+1->n.leap.getD j 0>v:=fun j r x=>by
     have:=h.seg u j (by omega) r (by omega);omega
    rw[zb ⟨by omega,p⟩,zb ⟨m,f⟩]
   ·rw[za (fun q=>f (q.2 u (zf _) (by omega))),za (fun q=>f q.2)]
  ·rw[za (fun q=>by omega),za (fun q=>by omega)]
 have a:∀u,(fD n v d).leap.getD u 0=if u<=v/\n.leap.getD u 0>v then v else n.leap.getD u 0:=t
 have e:(fD n v d).leap.getD v 0=v:=by rw[a,zb ⟨zf _,g⟩]
 refine⟨⟨by simp[fD,BA,z],by simp[fD,h.dlen],fun i c=>?_,fun i c=>?_,fun i c f=>?_,fun i j c k o=>?_⟩,fun u=>?_,fun u=>?_⟩
 ·rw[a];split
  ·omega
  ·exact h.ge i c
 ·rw[a];split
  ·omega
  ·exact h.le i c
 ·by_cases b:i<=v/\n.leap.getD i 0>v
  ·rw[a i,zb b];exact e
  ·rw[a i,za b] at f ⊢;have x:=h.fix i c f;rw[a];by_cases s:n.leap.getD i 0<=v/\n.leap.getD (n.leap.getD i 0) 0>v
   ·omega
   ·rw[za s];exact x
 ·by_cases b:i<=v/\n.leap.getD i 0>v
  ·rw[a i,zb b] at o ⊢;have:=h.seg i j c k (by omega);rw[a,zb ⟨by omega,by omega⟩]
  ·rw[a i,za b] at o ⊢;have:=h.seg i j c k o;rw[a,this];rw[za (by omega)]
 ·unfold l6;rw[a];by_cases b:u<=v/\n.leap.getD u 0>v
  ·rw[zb b];constructor
   ·rintro⟨_,q⟩;exact zg q.symm
   ·rintro(q|q)
    ·subst q;exact⟨l,rfl⟩
    ·omega
  ·rw[za b];constructor
   ·intro q;exact ze q
   ·rintro(q|q)
    ·subst q;exact zB ⟨zf _,g⟩ b
    ·exact q
 ·show(n.down.set v d).getD u 0=_;rw[uq];by_cases m:u=v
  ·subst m;rw[zb ⟨rfl,by rw[h.dlen];exact l⟩,zb rfl]
  ·rw[za (by omega),za m]
theorem nJ(k d i:Nat)(a:i<k)(x:Nat):(List.replicate k x).getD i d=x:=by simp[List.getD_eq_getElem?_getD,a]
theorem kD.new(w:Nat):kD w ⟨List.replicate w w,List.replicate w 0⟩/\∀v,¬l6 w ⟨List.replicate w w,List.replicate w 0⟩ v:=by
 refine⟨⟨by simp,by simp,fun i a=>?_,fun i a=>?_,fun i a f=>?_,fun i j a d b=>?_⟩,fun v ⟨e,c⟩=>?_⟩<;>simp only at *
 ·rw[nJ _ _ _ a];omega
 ·rw[nJ _ _ _ a];exact zf _
 ·rw[nJ _ _ _ a] at f;omega
 ·rw[nJ _ _ _ a] at b ⊢;rw[nJ _ _ _ b]
 ·rw[nJ _ _ _ e] at c;omega
section
variable {T:zi}{a:Nat}
def jx(T:zi)(a:Nat):vO:=T.qi.getD a vO.zero
def dA(T:zi):Prop:=∀a,a<T.qi.length->kD T.qf (jx T a)
theorem ln(T:zi)(a v:Nat):zG T a v=if a<T.qi.length/\v<T.qf/\(jx T a).leap.getD v 0=v then some ((jx T a).down.getD v 0) else none:=by
 unfold zG yz jx;by_cases b:a<T.qi.length/\v<T.qf
 ·rw[zb b];dsimp only;generalize (T.qi.getD a vO.zero).leap.getD v 0=x;by_cases c:x=v
  ·subst c;rw[za (by omega:¬x≥T.qf)];simp[b]
  ·by_cases d:x≥T.qf
   ·simp[d,c]
   ·simp[d,c]
 ·rw[za b,za (fun q=>b ⟨q.1,q.2.1⟩)]
theorem fh{v b:Nat}(h:zG T a v=some b):a<T.qi.length/\v<T.qf:=by
 unfold zG yz at h;by_cases c:a<T.qi.length/\v<T.qf
 ·exact c
 ·rw[za c] at h;cases h
theorem Eb(h:dA T){f v:Nat}(b:yz T a f=some v):f<=v/\v<T.qf/\(zG T a v).isSome=true/\∀u,f<=u->u<v->zG T a u=none:=by
 unfold yz at b;split at b
 ·rename_i d;simp only at b;split at b
  ·cases b
  ·rename_i e;simp only[zr] at b;have c:=(h a d.1).some d.2 (by unfold jx;omega);unfold jx at c;rw[b] at c e;refine⟨c.1,by omega,?_,fun u i g=>?_⟩
   ·rw[ln,zb ⟨d.1,by omega,c.2.1.2⟩];rfl
   ·rw[ln,za (fun q=>c.2.2 u i g ⟨q.2.1,q.2.2⟩)]
 ·cases b
theorem Ep(h:dA T){f:Nat}(b:yz T a f=none):∀u,f<=u->zG T a u=none:=by
 intro u c;rw[ln];refine za fun q=>?_;unfold yz at b;rw[zb ⟨q.1,by omega⟩] at b;simp only at b;split at b
 ·rename_i d;exact(h a q.1).none (show f<T.qf by omega) (by unfold jx;omega) u c ⟨q.2.1,q.2.2⟩
 ·cases b
def Qc(T:zi):Nat->zk->Option Nat
 |a,[]=>some a
 |a,v::r=>match zG T a v with
  |none=>none
  |some b=>Qc T b r
theorem mC(T:zi):∀(p q:zk) (a:Nat),Qc T a (p++q)=(Qc T a p).bind fun b=>Qc T b q
 |[],q,a=>rfl
 |v::p,q,a=>by
  simp only[hZ,Qc];cases zG T a v with
  |none=>rfl
  |some b=>exact mC T p q b
structure jK (T:zi) (pth:Nat->zk):Prop where
 dep:1<=T.ql/\T.ql<=3
 wid:1<=T.qf
 pos:0<T.qi.length
 node:dA T
 root:pth 0=[]
 lev:∀a,a<T.qi.length->(pth a).length<T.ql
 inj:∀a b,a<T.qi.length->b<T.qi.length->pth a=pth b->a=b
 kid:∀a v b,zG T a v=some b->(pth a).length+1<T.ql->b<T.qi.length/\pth b=pth a++[v]
 par:∀b,b<T.qi.length->b≠0->∃a v,zG T a v=some b/\(pth a).length+1<T.ql/\pth b=pth a++[v]
theorem Gk(l:List vO)(i j:Nat)(v d:vO):(l.set i v).getD j d=if i=j/\i<l.length then v else l.getD j d:=by
 simp only[gu,p3];by_cases h:i=j
 ·subst h;by_cases b:i<l.length
  ·simp[b]
  ·simp[b]
 ·simp[h]
theorem o5(T:zi)(a v d b:Nat)(c:a<T.qi.length)(e:v<T.qf):jx (yb T a v d) b=if b=a then fD (jx T a) v d else jx T b:=by
 unfold yb jx;rw[zb ⟨c,e⟩];simp only;rw[Gk];by_cases h:b=a
 ·subst h;rw[zb ⟨rfl,c⟩,zb rfl]
 ·rw[za (fun q=>h q.1.symm),za h]
theorem fL(T:zi)(a v d:Nat):(yb T a v d).qi.length=T.qi.length:=by unfold yb;split<;>simp
theorem nh(T:zi)(a v d:Nat):(yb T a v d).qf=T.qf:=by unfold yb;split<;>rfl
theorem nH(T:zi)(a v d:Nat):(yb T a v d).ql=T.ql:=by unfold yb;split<;>rfl
theorem At(T:zi)(a v d:Nat):(yb T a v d).count=T.count:=by unfold yb;split<;>rfl
theorem C7(h:dA T){v d:Nat}(g:a<T.qi.length)(f:v<T.qf)(m:zG T a v=none):dA (yb T a v d)/\∀b u,zG (yb T a v d) b u=if b=a/\u=v then some d else zG T b u:=by
 have k:¬l6 T.qf (jx T a) v:=fun q=>by rw[ln,zb ⟨g,f,q.2⟩] at m;cases m
 obtain⟨o,j,n⟩:=(h a g).put (d:=d) f k;have l:dA (yb T a v d):=by
  intro b c;rw[fL] at c;rw[nh,o5 T a v d b g f];split
  ·exact o
  ·exact h b c
 refine⟨l,fun b u=>?_⟩;rw[ln,fL,nh,o5 T a v d b g f,ln];by_cases c:b=a
 ·subst c;rw[zb rfl,n];by_cases i:u=v
  ·subst i;rw[zb rfl,zb ⟨g,f,((j u).2 (zg rfl)).2⟩,zb ⟨rfl,rfl⟩]
  ·rw[za i,za (fun q:b=b/\u=v=>i q.2)];by_cases e:b<T.qi.length/\u<T.qf/\(jx T b).leap.getD u 0=u
   ·rw[zb e,zb ⟨e.1,e.2.1,((j u).2 (ze e.2)).2⟩]
   ·rw[za e];refine za fun q=>e ⟨q.1,?_⟩;rcases(j u).1 q.2 with r|r
    ·exact zB r i
    ·exact r
 ·rw[za c,za (fun q:b=a/\u=v=>c q.1)]
theorem Fg(h:dA T):dA (yt T)/\∀b u,zG (yt T) b u=zG T b u:=by
 have d:∀b,jx (yt T) b=if b<T.qi.length then jx T b else if b=T.qi.length then⟨List.replicate T.qf T.qf,List.replicate T.qf 0⟩ else vO.zero:=by
  intro b;unfold jx yt;simp only[gu,List.getElem?_append];by_cases c:b<T.qi.length
  ·simp[c]
  ·rw[za c,za c];by_cases e:b=T.qi.length
   ·subst e;simp
   ·rw[za e];rw[kp (by simp;omega)];rfl
 have g:(yt T).qi.length=T.qi.length+1:=by simp[yt]
 have i:dA (yt T):=by
  intro b j;rw[d];by_cases c:b<T.qi.length
  ·rw[zb c];exact h b c
  ·rw[za c,zb (by omega)];exact(kD.new T.qf).1
 refine⟨i,fun b u=>?_⟩;rw[ln,ln,d,g,show(yt T).qf=T.qf from rfl];by_cases c:b<T.qi.length
 ·rw[zb c];by_cases f:u<T.qf/\(jx T b).leap.getD u 0=u
  ·rw[zb ⟨by omega,f⟩,zb ⟨c,f⟩]
  ·rw[za (fun q=>f q.2),za (fun q=>f q.2)]
 ·rw[za c,za (fun q:b<T.qi.length/\_=>c q.1)];by_cases e:b=T.qi.length
  ·rw[zb e];exact za fun q=>(kD.new T.qf).2 u q.2
  ·exact za fun q=>by omega
end
section
variable {pth:Nat->zk}
def xZ(T:zi)(q:zk):Option Nat:=Qc T 0 q
structure Rr (T T':zi) (key:zk) (m:Nat) (new:Bool) (room:Nat):Prop where
 inv:∃pth',jK T' pth'
 qf:T'.qf=T.qf
 ql:T'.ql=T.ql
 is:new=(xZ T key).isNone
 same:new=false->T'=T
 more:new=true->T'.count=T.count+1/\T'.qi.length<=T.qi.length+room
 sem:∀q,q.length=T.ql->xZ T' q=if q=key then some ((xZ T q).getD m) else xZ T q
theorem jK.grow{T:zi}(h:jK T pth){a v:Nat}(I:a<T.qi.length)(D:v<T.qf)(K:(pth a).length+1<T.ql)(s:zG T a v=none):
  jK (yb (yt T) a v T.qi.length) (fun c=>if c=T.qi.length then pth a++[v] else pth c)/\(∀b u,zG (yb (yt T) a v T.qi.length) b u=if b=a/\u=v then some T.qi.length else zG T b u)/\(yb (yt T) a v T.qi.length).qi.length=T.qi.length+1/\(yb (yt T) a v T.qi.length).qf=T.qf/\(yb (yt T) a v T.qi.length).ql=T.ql/\(yb (yt T) a v T.qi.length).count=T.count:=by
 have B:=Fg h.node;have p:(yt T).qi.length=T.qi.length+1:=by simp[yt]
 obtain⟨H,J⟩:=C7 B.1 (a:=a) (v:=v) (d:=T.qi.length) (by rw[p];omega) (show v<(yt T).qf from D) (by rw[B.2];exact s);have t:∀b u,zG (yb (yt T) a v T.qi.length) b u=if b=a/\u=v then some T.qi.length else zG T b u:=fun b u=>by rw[J,B.2]
 have j:(yb (yt T) a v T.qi.length).qi.length=T.qi.length+1:=by rw[fL,p]
 have o:(yb (yt T) a v T.qi.length).qf=T.qf:=by rw[nh];rfl
 have i:(yb (yt T) a v T.qi.length).ql=T.ql:=by rw[nH];rfl
 have z:(yb (yt T) a v T.qi.length).count=T.count:=by rw[At];rfl
 have g:∀c,c<T.qi.length->pth c≠pth a++[v]:=by
  intro c q e;have y:c≠0:=by rintro rfl;rw[h.root] at e;exact zB e.symm (by simp)
  obtain⟨F,M,k,C,r⟩:=h.par c q y;rw[e] at r;have l:=nB r rfl;have m:=h.inj a F I (fh k).1 l.1;subst m;simp only[ml,and_true] at l;rw[←l.2] at k;rw[k] at s;cases s
 refine⟨⟨by rw[i];exact h.dep,by rw[o];exact h.wid,by rw[j];omega,H,?_,fun c q=>?_,fun c d q A e=>?_,fun c u b f n=>?_,fun b G x=>?_⟩,t,j,o,i,z⟩
 ·rw[za (by omega)];exact h.root
 ·rw[j] at q;rw[i];by_cases e:c=T.qi.length
  ·rw[zb e];simp;omega
  ·rw[za e];exact h.lev c (by omega)
 ·rw[j] at q A;by_cases l:c=T.qi.length
  ·by_cases m:d=T.qi.length
   ·rw[l,m]
   ·rw[zb l,za m] at e;exact zB e.symm (g d (by omega))
  ·by_cases m:d=T.qi.length
   ·rw[za l,zb m] at e;exact zB e (g c (by omega))
   ·rw[za l,za m] at e;exact h.inj c d (by omega) (by omega) e
 ·rw[t] at f;rw[i] at n;by_cases e:c=a/\u=v
  ·rw[zb e] at f;simp only[zr] at f;obtain⟨rfl,rfl⟩:=e;subst f;rw[zb rfl,za (by omega)];exact⟨by omega,rfl⟩
  ·rw[za e] at f;have w:=(fh f).1;rw[za (by omega)] at n;obtain⟨L,E⟩:=h.kid c u b f n;rw[za (by omega),za (by omega)];exact⟨by omega,E⟩
 ·rw[j] at G;by_cases e:b=T.qi.length
  ·refine⟨a,v,by rw[t,zb ⟨rfl,rfl⟩,e],by rw[za (by omega),i];exact K,by rw[zb e,za (by omega)]⟩
  ·obtain⟨c,u,k,C,r⟩:=h.par b (by omega) x;have w:=(fh k).1;refine⟨c,u,?_,by rw[za (by omega),i];exact C,by rw[za e,za (by omega)];exact r⟩;rw[t,za]
   ·exact k
   ·rintro⟨rfl,rfl⟩;rw[s] at k;cases k
theorem jK.grow_sem{T k:zi}{pth:Nat->zk}(h:jK T pth){a v:Nat}(m:(pth a).length+1<T.ql)(j:zG T a v=none)(i:∀b u,zG k b u=if b=a/\u=v then some T.qi.length else zG T b u):∀(q:zk) (c:Nat),c<T.qi.length->(pth c).length+q.length=T.ql->Qc k c q=Qc T c q
 |[],c,_,_=>rfl
 |u::q,c,p,g=>by
  simp only[Qc,i];simp only[xd] at g;by_cases e:c=a/\u=v
  ·obtain⟨rfl,rfl⟩:=e;rw[zb ⟨rfl,rfl⟩,j];simp only;cases q with
   |nil=>simp at g;omega
   |cons x q=>
    simp only[Qc,i];by_cases d:c=T.qi.length
    ·omega
    ·rw[za (fun q=>d q.1.symm)];cases f:zG T T.qi.length x with
     |none=>rfl
     |some y=>have:=(fh f).1;omega
  ·rw[za e];cases f:zG T c u with
   |none=>rfl
   |some b=>
    simp only;by_cases n:(pth c).length+1<T.ql
    ·obtain⟨l,o⟩:=h.kid c u b f n;exact h.grow_sem m j i q b l (by rw[o];simp;omega)
    ·cases q with
     |nil=>rfl
     |cons x q=>simp at g;omega
theorem jK.put_sem{T E:zi}{pth:Nat->zk}(h:jK T pth){a v m:Nat}(M:(pth a).length+1=T.ql)(z:a<T.qi.length)(K:zG T a v=none)(F:∀b u,zG E b u=if b=a/\u=v then some m else zG T b u):∀(q:zk) (c:Nat),c<T.qi.length->(pth c).length+q.length=T.ql->Qc E c q=if pth c++q=pth a++[v] then some m else Qc T c q
 |[],c,n,o=>by have:=h.lev c n;simp at o;omega
 |u::q,c,n,o=>by
  simp only[Qc,F];simp only[xd] at o;by_cases I:(pth c).length+1<T.ql
  ·have A:c≠a:=by rintro rfl;omega
   rw[za (fun q=>A q.1)];cases D:zG T c u with
   |none=>
    simp only;rw[za];intro e;have s:∀(k:Nat) (q:zk) (b:Nat),q.length=k->b<T.qi.length->pth c++u::q=pth b->False:=by
     intro k;induction k with
     |zero=>
      intro q b p t e;have:q=[]:=lG.1 p;subst this;have g:b≠0:=by rintro rfl;rw[h.root] at e;simp at e
      obtain⟨x,y,l,L,j⟩:=h.par b t g;rw[←e] at j;have f:=nB j rfl;have:=h.inj c x n (fh l).1 f.1;subst this;simp only[ml,and_true] at f;rw[←f.2,D] at l;cases l
     |succ k J=>
      intro q b p t e;have g:b≠0:=by rintro rfl;rw[h.root] at e;simp at e
      obtain⟨x,y,l,L,j⟩:=h.par b t g;have d:q≠[]:=by rintro rfl;simp at p
      have i:q=q.dropLast++[q.getLast d]:=(List.dropLast_concat_getLast d).symm;rw[←e,i] at j;have w:(pth c++u::q.dropLast)++[q.getLast d]=pth x++[y]:=by rw[←j];simp
      have f:=nB w rfl;exact J q.dropLast x (by simp[p]) (fh l).1 f.1
    have d:q≠[]:=by rintro rfl;simp at o;omega
    have i:q=q.dropLast++[q.getLast d]:=(List.dropLast_concat_getLast d).symm;rw[i] at e;have w:(pth c++u::q.dropLast)++[q.getLast d]=pth a++[v]:=by rw[←e];simp
    have f:=nB w rfl;exact s _ q.dropLast a rfl z f.1
   |some b=>
    simp only;obtain⟨H,C⟩:=h.kid c u b D I;rw[h.put_sem M z K F q b H (by rw[C];simp;omega),C];simp
  ·have B:q=[]:=lG.1 (by have:=h.lev c n;omega);subst B;by_cases e:c=a/\u=v
   ·obtain⟨rfl,rfl⟩:=e;simp[Qc]
   ·rw[za e];have r:¬pth c++[u]=pth a++[v]:=by
     intro G;have f:=nB G rfl;exact e ⟨h.inj c a n z f.1,by simpa using f.2⟩
    rw[za r];cases zG T c u<;>rfl
theorem jK.reach{T:zi}(h:jK T pth):∀(k:Nat) (b:Nat),b<T.qi.length->(pth b).length=k->Qc T 0 (pth b)=some b:=by
 intro k;induction k with
 |zero=>
  intro b d a;have e:pth b=pth 0:=by rw[h.root];exact lG.1 a
  have:=h.inj b 0 d h.pos e;subst this;rw[h.root];rfl
 |succ k j=>
  intro b d a;have c:b≠0:=by rintro rfl;rw[h.root] at a;simp at a
  obtain⟨x,y,g,l,f⟩:=h.par b d c;have i:=j x (fh g).1 (by rw[f] at a;simpa using a);rw[f,mC,i];simp[Qc,g]
theorem ig(m:Nat):∀(r:zk) (T:zi) (pth:Nat->zk) (a:Nat),jK T pth->a<T.qi.length->T.ql<=(pth a).length+r.length->(∀v∈r,v<T.qf)->Rr T (uR m T a (pth a).length r).1 (pth a++r.take (T.ql-(pth a).length)) m (uR m T a (pth a).length r).2 (T.ql-1-(pth a).length)
 |[],T,pth,a,h,t,O,_=>by have:=h.lev a t;simp at O;omega
 |v::r,T,pth,a,h,t,O,N=>by
  have U:=h.lev a t;have Q:v<T.qf:=N v (by simp);have i:=h.reach _ a t rfl;simp only[xd] at O;unfold uR;by_cases V:(pth a).length+1≥T.ql
  ·rw[zb V];have J:T.ql-(pth a).length=1:=by omega
   rw[J];have j:xZ T (pth a++(v::r).take 1)=zG T a v:=by
    unfold xZ;rw[mC,i];simp only[nt,List.take_zero,Option.bind_some,Qc];cases zG T a v<;>rfl
   unfold kY;cases g:zG T a v with
   |some b=>
    refine⟨⟨pth,h⟩,rfl,rfl,by rw[j,g];rfl,fun _=>rfl,fun q=>by simp at q,fun q w=>?_⟩;by_cases e:q=pth a++(v::r).take 1
    ·subst e;rw[zb rfl,j,g];rfl
    ·rw[za e]
   |none=>
    have s:=C7 h.node (d:=m) t Q g;have H:∀q c,Qc {yb T a v m with count:=(yb T a v m).count+1} c q=Qc (yb T a v m) c q:=by
     intro q;induction q with
     |nil=>intro c;rfl
     |cons x q f=>
      intro c;simp only[Qc];have:zG {yb T a v m with count:=(yb T a v m).count+1} c x=zG (yb T a v m) c x:=rfl;rw[this];cases zG (yb T a v m) c x with
      |none=>rfl
      |some b=>exact f b
    refine⟨⟨pth,?_⟩,nh _ _ _ _,nH _ _ _ _,by rw[j,g];rfl,fun q=>by simp at q,fun _=>⟨by simp[At],by simp[fL]⟩,fun q w=>?_⟩
    ·have l:∀b u,zG {yb T a v m with count:=(yb T a v m).count+1} b u=if b=a/\u=v then some m else zG T b u:=s.2
     refine⟨by show 1<=(yb T a v m).ql/\(yb T a v m).ql<=3;rw[nH];exact h.dep,by show 1<=(yb T a v m).qf;rw[nh];exact h.wid,by show 0<(yb T a v m).qi.length;rw[fL];exact h.pos,s.1,h.root,fun c K=>by show _<(yb T a v m).ql;rw[nH];exact h.lev c (by simpa [fL] using K),fun c d K G e=>h.inj c d (by simpa [fL] using K) (by simpa [fL] using G) e,fun c u b y P=>?_,fun b X L=>?_⟩
     ·rw[l] at y;have D:(pth c).length+1<T.ql:=by simpa [nH] using P
      by_cases e:c=a/\u=v
      ·obtain⟨rfl,rfl⟩:=e;omega
      ·rw[za e] at y;obtain⟨F,C⟩:=h.kid c u b y D;exact⟨by simpa [fL] using F,C⟩
     ·obtain⟨c,u,I,q2,W⟩:=h.par b (by simpa [fL] using X) L;refine⟨c,u,?_,by simpa [nH] using q2,W⟩;rw[l,za]
      ·exact I
      ·rintro⟨rfl,rfl⟩;rw[g] at I;cases I
    ·unfold xZ;rw[H,h.put_sem (by omega) t g s.2 q 0 h.pos (by rw[h.root];simpa using w),h.root];have A:(v::r).take 1=[v]:=by simp
     rw[A,nZ];by_cases e:q=pth a++[v]
     ·rw[zb e,zb e];have:Qc T 0 q=none:=by rw[e];have:=j;unfold xZ at this;rw[A] at this;rw[this,g]
      rw[this];rfl
     ·rw[za e,za e]
  ·rw[za V];obtain⟨M,l⟩:∃M,T.ql-(pth a).length=M+1:=⟨T.ql-(pth a).length-1,by omega⟩;have B:∀p:zk,p=pth a++[v]->p++r.take (T.ql-p.length)=pth a++(v::r).take (T.ql-(pth a).length):=by
    rintro p rfl;rw[l,nt];have:T.ql-(pth a++[v]).length=M:=by simp;omega
    rw[this];simp
   unfold vQ;cases g:zG T a v with
   |some b=>
    obtain⟨F,C⟩:=h.kid a v b g (by omega);have f:=ig m r T pth b h F (by rw[C];simp;omega) (fun x g=>N x (by simp[g]));rw[B _ C] at f;have e:(pth b).length=(pth a).length+1:=by rw[C];simp
    rw[e] at f;exact⟨f.inv,f.qf,f.ql,f.is,f.same,fun q=>⟨(f.more q).1,by have:=(f.more q).2;simp only at this ⊢;omega⟩,f.sem⟩
   |none=>
    obtain⟨g1,Z,S,R,E,Y⟩:=h.grow t Q (by omega) g;have f:=ig m r (yb (yt T) a v T.qi.length) _ T.qi.length g1 (by rw[S];omega) (by rw[zb rfl,E];simp;omega) (fun x g=>by rw[R];exact N x (by simp[g]));rw[zb rfl,E,B _ rfl] at f;have e:(pth a++[v]).length=(pth a).length+1:=by simp
    rw[e] at f;have n:∀q:zk,q.length=T.ql->xZ (yb (yt T) a v T.qi.length) q=xZ T q:=fun q w=>h.grow_sem (by omega) g Z q 0 h.pos (by rw[h.root];simpa using w);have z:(pth a++(v::r).take (T.ql-(pth a).length)).length=T.ql:=by simp;omega
    have k:xZ T (pth a++(v::r).take (T.ql-(pth a).length))=none:=by
     unfold xZ;rw[mC,i,l,nt];simp[Qc,g]
    have o:=f.is;rw[n _ z,k] at o;refine⟨f.inv,by rw[f.qf,R],by rw[f.ql,E],by rw[k];exact o,fun q=>?_,fun q=>⟨by rw[(f.more q).1,Y],by have:=(f.more q).2;rw[S] at this;simp only at this ⊢;omega⟩,fun q w=>?_⟩
    ·rw[o] at q;cases q
    ·rw[f.sem q (by rw[E];exact w),n q w]
end
section
variable {T:zi}{pth:Nat->zk}
theorem IP(h:jK T pth)(row:zk)(m:Nat)(c:row.length=3)(a:fK T row=true):Rr T (addP T row m).1 (row.take T.ql) m (addP T row m).2 (T.ql-1):=by
 have:=ig m row T pth 0 h h.pos (by rw[h.root];simp[c];exact h.dep.2) (fun v b=>by simp only[fK,lg,decide_eq_true_eq] at a;exact a v b);rw[h.root] at this;unfold addP;rw[zb a];simpa using this
theorem El(w d:Nat):(yR w d).qf=zJ w:=rfl
theorem pq(w d:Nat):(yR w d).ql=yV d:=rfl
theorem fO(d:Nat):1<=yV d/\yV d<=3:=by unfold yV;by_cases b:d<1<;>by_cases a:d>3<;>simp[b,a]<;>omega
theorem Bn(w d a v:Nat):zG (yR w d) a v=none:=by
 rw[ln];refine za fun q=>?_;have b:a=0:=by have:=q.1;simp[yR,yt] at this;exact this
 subst b;exact(kD.new (zJ w)).2 v q.2
theorem OG(w d:Nat):jK (yR w d) (fun _=>[]):=by
 refine⟨fO d,by show 1<=zJ w;unfold zJ;split<;>omega,by simp[yR,yt],?_,rfl,fun a _=>by show 0<yV d;exact(fO d).1,fun a b c e _=>?_,(fun a v b f=>by rw[Bn] at f;exact zB f (by simp)),fun b e g=>?_⟩
 ·intro a c;have h:a=0:=by simp[yR,yt] at c;exact c
  subst h;exact(kD.new (zJ w)).1
 ·simp[yR,yt] at c e;omega
 ·simp[yR,yt] at e;omega
theorem rY(w d:Nat)(q:zk)(a:q≠[]):xZ (yR w d) q=none:=by
 cases q with
 |nil=>exact zB rfl a
 |cons v q=>simp[xZ,Qc,Bn]
theorem Av(T:zi):∀(r:zk) (a level:Nat),level<T.ql->T.ql<=level+r.length->uv T a level r=Qc T a (r.take (T.ql-level))
 |[],a,level,f,c=>by simp at c;omega
 |v::r,a,level,f,c=>by
  obtain⟨k,d⟩:∃k,T.ql-level=k+1:=⟨T.ql-level-1,by omega⟩;unfold uv;rw[d,nt];simp only[Qc];cases g:zG T a v with
  |none=>rfl
  |some b=>
   simp only;by_cases e:level+1≥T.ql
   ·rw[zb e];have:k=0:=by omega
    subst this;simp[Qc]
   ·rw[za e,Av T r b (level+1) (by omega) (by simp at c;omega)];have:T.ql-(level+1)=k:=by omega
    rw[this]
theorem Hh(h:jK T pth)(row:zk)(a:row.length=3):uk T row=xZ T (row.take T.ql):=by
 have:=Av T row 0 0 (by have:=h.dep.1;omega) (by rw[a];have:=h.dep.2;omega);simpa [uk,xZ] using this
def qr(T:zi):Nat->Nat->Nat->List zk
 |0,_,_=>[[]]
 |d+1,a,f=>(List.range' f (T.qf-f)).flatMap fun v=>match zG T a v with
  |none=>[]
  |some b=>(qr T d b 0).map (v::·)
theorem MB{d a f:Nat}(h:∀u,f<=u->zG T a u=none):qr T (d+1) a f=[]:=by
 simp only[qr,List.flatMap_eq_nil_iff,List.mem_range'_1];intro v b;rw[h v b.1]
theorem Mu{d a v b:Nat}:∀(n f:Nat),v-f=n->f<=v->v<T.qf->zG T a v=some b->(∀u,f<=u->u<v->zG T a u=none)->qr T (d+1) a f=(qr T d b 0).map (v::·)++qr T (d+1) a (v+1):=by
 intro n;induction n with
 |zero=>
  intro f m l h e _;have:f=v:=by omega
  subst this;obtain⟨k,g⟩:∃k,T.qf-f=k+1:=⟨T.qf-f-1,by omega⟩;have c:T.qf-(f+1)=k:=by omega
  simp only[qr,g,c,List.range'_succ,uo,e]
 |succ n o=>
  intro f m l h e i;obtain⟨k,g⟩:∃k,T.qf-f=k+1:=⟨T.qf-f-1,by omega⟩;have c:T.qf-(f+1)=k:=by omega
  rw[←o (f+1) (by omega) (by omega) h e (fun u p j=>i u (by omega) j)];simp only[qr,g,c,List.range'_succ,uo,i f (zf _) (by omega),nZ]
theorem CM(row:zk)(l v:Nat)(k:zk)(a:l<row.length):(row.set l v).take (l+1)++k=row.take l++v::k:=by
 have:(row.set l v).take (l+1)=row.take l++[v]:=by
  rw[yP (by simpa using a),List.take_set_of_le (zf _)];simp
 rw[this];simp
theorem J3(row:zk)(l v j:Nat)(a:l<j):(row.set l v).drop j=row.drop j:=by
 rw[List.drop_set,zb a]
theorem Kf(G:dA T)(N:T.ql<=3):∀(n a level f:Nat) (row:zk) (c:List zk),level<T.ql->row.length=3->f<=T.qf->(T.qf-f)+1+(T.ql-level-1)*(T.qf+1)<=n →
  ∃g,x9 T n a level f row c=some (g,c++(qr T (T.ql-level) a f).map fun k=>row.take level++k++row.drop T.ql)/\g.length=3/\g.take level=row.take level/\g.drop T.ql=row.drop T.ql:=by
 intro n;induction n with
 |zero=>intro a level f row c u z K t;omega
 |succ n A=>
  intro a level f row c u z K t;obtain⟨d,C⟩:∃d,T.ql-level=d+1:=⟨T.ql-level-1,by omega⟩;unfold x9;cases H:yz T a f with
  |none=>
   refine⟨row,?_,z,rfl,rfl⟩;rw[C,MB (Ep G H)];simp
  |some v=>
   obtain⟨O,Q,J,M⟩:=Eb G H;obtain⟨b,E⟩:=my.1 J;have m:=Mu (d:=d) _ f rfl O Q E M;simp only;have l:(row.set level v).length=3:=by simpa using z
   have r:level<row.length:=by omega
   have h:(row.set level v).drop T.ql=row.drop T.ql:=J3 row level v T.ql u;have i:(row.set level v).take level=row.take level:=by rw[List.take_set_of_le (zf _)]
   have p:T.ql-level-1=d:=by omega
   by_cases e:level+1≥T.ql
   ·rw[zb e];have x:d=0:=by omega
    subst x;obtain⟨g,D,y,w,s⟩:=A a level (v+1) (row.set level v) (c++[row.set level v]) u l (by omega) (by rw[p] at t ⊢;omega);refine⟨g,?_,y,by rw[w,i],by rw[s,h]⟩;rw[D,C,m];simp only[qr,xQ,List.map_nil,hZ,nZ,i,h,kB,zr,yc,true_and];congr 2;have:=CM row level v (row.drop T.ql) r;have I:T.ql=level+1:=by omega
    rw[←h,I] at this ⊢;rw[qU] at this;exact this
   ·rw[za e,za (by omega),E];simp only[ux];have U:d*(T.qf+1)=(d-1)*(T.qf+1)+(T.qf+1):=by
     obtain⟨j,rfl⟩:∃j,d=j+1:=⟨d-1,by omega⟩;simp[Nat.succ_mul]
    have B:T.ql-(level+1)-1=d-1:=by omega
    have q:T.ql-(level+1)=d:=by omega
    obtain⟨o,D,y,w,s⟩:=A b (level+1) 0 (row.set level v) c (by omega) l (by omega) (by rw[p] at t;rw[B];omega);rw[D];simp only;obtain⟨g,P,S,L,R⟩:=A a level (v+1) o (c++(qr T (T.ql-(level+1)) b 0).map fun k=>(row.set level v).take (level+1)++k++(row.set level v).drop T.ql) u y (by omega) (by rw[p] at t ⊢;omega);have F:o.take level=row.take level:=by
     have:=congrArg (List.take level) w;rwa [List.take_take,List.take_take,dH (by omega),i] at this
    refine⟨g,?_,S,by rw[L,F],by rw[R,s,h]⟩;rw[P,C,m,q,F,s,h,vC,lT,←kB];congr 3;refine congrArg (c++·) (ks fun k _=>?_);simp only[Function.comp];rw[CM row level v k r]
def QA(k:zk)(d:Nat):zk:=k++([0,0,0]:zk).drop d
theorem Fb(h:jK T pth)(a:Nat)(e:3*(T.qf+1)<=a):nf a T=some ((qr T T.ql 0 0).map fun k=>QA k T.ql):=by
 have d:=h.dep;have f:T.qf+1+(T.ql-1)*(T.qf+1)<=3*(T.qf+1):=by
  have:(T.ql-1)*(T.qf+1)<=2*(T.qf+1):=gN _ (by omega);omega
 obtain⟨b,c,_,_,_⟩:=Kf h.node d.2 a 0 0 0 [0,0,0] [] (by omega) rfl (by omega) (by simp;omega);unfold nf;rw[c];simp[QA]
theorem ep(T:zi):∀(d a f:Nat) (k:zk),k∈qr T d a f↔k.length=d/\(Qc T a k).isSome=true/\(0<d->f<=k.headD 0)
 |0,a,f,k=>by
  simp only[qr,xO];constructor
  ·rintro rfl;simp[Qc]
  ·rintro⟨h,_⟩;exact lG.1 h
 |d+1,a,f,k=>by
  simp only[qr,uF,List.mem_range'_1];constructor
  ·rintro⟨v,n,g⟩;cases c:zG T a v with
   |none=>rw[c] at g;simp at g
   |some b=>
    rw[c] at g;simp only[z9] at g;obtain⟨m,j,rfl⟩:=g;obtain⟨i,e,_⟩:=(ep T d b 0 m).1 j;refine⟨by simp[i],?_,fun _=>by simpa using n.1⟩;simp only[Qc,c];exact e
  ·rintro⟨i,e,l⟩;cases k with
   |nil=>simp at i
   |cons v k=>
    simp only[Qc] at e;simp only[List.headD_cons] at l;cases c:zG T a v with
    |none=>rw[c] at e;simp at e
    |some b=>
     rw[c] at e;have o:=(fh c).2;have:=l (by omega);refine⟨v,by omega,?_⟩;rw[c];simp only[z9];exact⟨k,(ep T d b 0 k).2 ⟨by simpa using i,e,fun _=>zx _⟩,rfl⟩
end
def RC:zk->zk->Prop
 |a::x,b::y=>a<b∨a=b/\RC x y
 |_,_=>False
theorem CI:∀x:zk,¬RC x x
 |[]=>id
 |a::x=>by
  rintro(h|⟨_,h⟩)
  ·omega
  ·exact CI x h
theorem DG(T:zi):∀(d a f:Nat),(qr T d a f).Pairwise RC
 |0,a,f=>by simp[qr]
 |d+1,a,f=>by
  simp only[qr];rw[List.pairwise_flatMap];refine⟨fun v _=>?_,?_⟩
  ·cases zG T a v with
   |none=>exact List.Pairwise.nil
   |some b=>
    simp only;rw[mE];exact(DG T d b 0).imp fun h=>ze ⟨rfl,h⟩
  ·refine List.Pairwise.imp ?_ (List.pairwise_lt_range' (s:=f) (n:=T.qf-f));intro v u i x e y g;cases k:zG T a v with
   |none=>rw[k] at e;simp at e
   |some b=>
    rw[k] at e;cases j:zG T a u with
    |none=>rw[j] at g;simp at g
    |some c=>
     rw[j] at g;simp only[z9] at e g;obtain⟨l,_,rfl⟩:=e;obtain⟨m,_,rfl⟩:=g;exact zg i
theorem ir(T:zi)(d a f:Nat):(qr T d a f).Nodup:=by
 refine(DG T d a f).imp ?_;rintro x y h rfl;exact CI x h
theorem eK:∀{l1 l2:List zk},l1.Nodup->(∀x∈l1,x∈l2)->l1.length<=l2.length
 |[],l2,_,_=>by simp
 |a::l1,l2,c,f=>by
  have e:=f a (by simp);have g:=eK (l1:=l1) (l2:=l2.erase a) (j8.1 c).2 (fun x d=>by
   have b:x≠a:=by rintro rfl;exact(j8.1 c).1 d
   exact(mS b).2 (f x (by simp[d])))
  rw[nQ e] at g;have:=ny e;simp;omega
theorem Lf{l1 l2:List zk}(c:l1.Nodup)(b:l2.Nodup)(h:∀x,x∈l1↔x∈l2):l1.length=l2.length:=
 Nat.le_antisymm (eK c fun x a=>(h x).1 a) (eK b fun x a=>(h x).2 a)
def PY(T:zi):List zk:=qr T T.ql 0 0
theorem qV(T:zi)(k:zk):k∈PY T↔k.length=T.ql/\(xZ T k).isSome=true:=by
 unfold PY;rw[ep];exact⟨fun h=>⟨h.1,h.2.1⟩,fun h=>⟨h.1,h.2,fun _=>zx _⟩⟩
structure vo (T:zi):Prop where
 inv:∃pth,jK T pth
 cnt:(PY T).length=T.count
 room:T.qi.length<=1+2*T.count
theorem vo.new(w d:Nat):vo (yR w d):=by
 refine⟨⟨_,OG w d⟩,?_,by simp[yR,yt]⟩;have:PY (yR w d)=[]:=by
  rw[List.eq_nil_iff_forall_not_mem];intro k c;obtain⟨b,a⟩:=(qV _ k).1 c;rw[rY w d k (by rintro rfl;have:=(fO d).1;rw[pq] at b;simp at b;omega)] at a;cases a
 rw[this];rfl
theorem sB{T:zi}:∀(k:zk) (a:Nat),(Qc T a k).isSome=true->∀v∈k,v<T.qf
 |[],_,_,v,c=>by cases c
 |u::k,a,h,v,c=>by
  simp only[Qc] at h;cases d:zG T a u with
  |none=>rw[d] at h;simp at h
  |some b=>
   rw[d] at h;rcases zu.1 c with rfl|c
   ·exact(fh d).2
   ·exact sB k b h v c
theorem vo.add{T:zi}(h:vo T)(row:zk)(m:Nat)(i:row.length=3)(l:fK T row=true):
  vo (addP T row m).1/\(addP T row m).1.qf=T.qf/\(addP T row m).1.ql=T.ql/\(addP T row m).2=(xZ T (row.take T.ql)).isNone/\((addP T row m).2=false->(addP T row m).1=T)/\((addP T row m).2=true->(addP T row m).1.count=T.count+1)/\∀q,q.length=T.ql->xZ (addP T row m).1 q=if q=row.take T.ql then some ((xZ T q).getD m) else xZ T q:=by
 obtain⟨n,j⟩:=h.inv;have a:=IP j row m i l;have p:=j.dep;refine⟨⟨a.inv,?_,?_⟩,a.qf,a.ql,a.is,a.same,fun q=>(a.more q).1,a.sem⟩
 ·cases b:(addP T row m).2 with
  |false=>rw[a.same b];exact h.cnt
  |true=>
   rw[(a.more b).1,←h.cnt];have d:=a.is;rw[b] at d;have f:(row.take T.ql).length=T.ql:=by rw[vU,i];omega
   have g:row.take T.ql∉PY T:=fun o=>by
    have:=((qV T _).1 o).2;rw[←Option.not_isNone,←d] at this;cases this
   have:=Lf (l1:=PY (addP T row m).1) (l2:=row.take T.ql::PY T) (ir _ _ _ _) (j8.2 ⟨g,ir _ _ _ _⟩) (fun k=>by
    rw[qV,a.ql,zu,qV];by_cases c:k.length=T.ql
    ·rw[a.sem k c];by_cases e:k=row.take T.ql
     ·simp[e,f]
     ·simp[e,c]
    ·constructor
     ·intro q;exact zB q.1 c
     ·rintro(q|q)
      ·rw[q] at c;exact zB f c
      ·exact zB q.1 c)
   simpa using this
 ·cases b:(addP T row m).2 with
  |false=>rw[a.same b];exact h.room
  |true=>
   have:=a.more b;have:=h.room;omega
theorem vo.rows{T:zi}(h:vo T)(a:Nat)(b:3*(T.qf+1)<=a):nf a T=some ((PY T).map fun k=>QA k T.ql):=by
 obtain⟨c,d⟩:=h.inv;exact Fb d a b
theorem vo.rowsG{T:zi}(h:vo T)(a:Nat)(b:3*(T.qf+1)<=a)(c:T.count<=1048576):rowsG a T=some ((PY T).map fun k=>QA k T.ql):=by
 unfold Go.Proofs.YteampbddflhngaaGreat.rowsG;rw[h.rows a b];simp[h.cnt,c]
theorem vo.okT{T:zi}(h:vo T)(a:T.count<=10000000):okT T=true:=by
 have:=h.room;simp only[Go.Proofs.YteampbddflhngaaGreat.okT,vq,decide_eq_true_eq];omega
theorem vo.mark{T:zi}(h:vo T)(row:zk)(b:row.length=3):uk T row=xZ T (row.take T.ql):=by
 obtain⟨a,c⟩:=h.inv;exact Hh c row b
def j4(J:zy)(h:Nat×Nat)(v:Nat):Option Nat:=zG (J.qy.getD h.1 yJ.zero).rows ((J.qy.getD h.1 yJ.zero).qi.getD h.2 0) v
def i7(J:zy):Prop:=∀i,dA (J.qy.getD i yJ.zero).rows
def qz(J a:zy):Prop:=a={J with jf:=a.jf}
theorem qz.trans{a b c:zy}(h:qz a b)(k:qz b c):qz a c:=by
 unfold qz at *;rw[h] at k;exact k
theorem qz.qy{a b:zy}(h:qz a b):b.qy=a.qy:=by rw[h]
theorem FG{J:zy}{h:Nat×Nat}{f:Nat}(hs:vi J h=true):qz J (vB J h f).1/\(vB J h f).2=yz (J.qy.getD h.1 yJ.zero).rows ((J.qy.getD h.1 yJ.zero).qi.getD h.2 0) f:=by
 unfold vB;rw[zb hs];exact⟨rfl,rfl⟩
def pF(a b c i:Nat):Prop:=i<a/\a<=i+b∨a<=i/\a+c<=i+b
def Ag(J:zy)(hs:List (Nat×Nat))(f:Nat):Option Nat->Prop
 |none=>∀u,f<=u->∃h∈hs,j4 J h u=none
 |some v=>f<=v/\(∀h∈hs,(j4 J h v).isSome=true)/\∀u,f<=u->u<v->∃h∈hs,j4 J h u=none
theorem KK{J a:zy}(h:qz J a)(x:Nat×Nat)(v:Nat):j4 a x v=j4 J x v:=by unfold j4;rw[h.qy]
theorem Nu(W f:Nat)(hs:List (Nat×Nat))(j:zy)(E:i7 j)(z:∀h∈hs,vi j h=true)(T:∀h∈hs,∀v,(j4 j h v).isSome=true->v<W):
  ∀(n:Nat) (J:zy) (at' b a:Nat),qz j J->f<=at'->a<hs.length->b<=hs.length->(∀u,f<=u->u<at'->∃h∈hs,j4 j h u=none)->(∀i (q:i<hs.length),pF a b hs.length i->(j4 j hs[i] at').isSome=true)->(W-at')*(hs.length+1)+(hs.length-b)<n →
  ∃I p,kH n J hs at' b a=some (I,p)/\qz j I/\Ag j hs f p:=by
 intro n;induction n with
 |zero=>intro J at' b a _ _ _ _ _ _ h;omega
 |succ n G=>
  intro J at' b a y H F R g x Y;unfold kH;by_cases r:b<hs.length
  ·rw[zb r];have S:hs.getD a (0,0)=hs[a]:=by simp[List.getD,F]
   have c:hs[a]∈hs:=zv F;have m:vi J hs[a]=true:=by
    have:=z _ c;unfold vi at this ⊢;rw[y.qy];exact this
   obtain⟨D,s⟩:=FG (f:=at') m;rw[y.qy] at s;rw[S];cases P:vB J hs[a] at' with
   |mk B o=>
    rw[P] at D s;simp only at D s;have l:=y.trans D;have t:=E hs[a].1;cases o with
    |none=>
     refine⟨B,none,rfl,l,fun u N=>?_⟩;by_cases k:u<at'
     ·exact g u N k
     ·exact⟨hs[a],c,Ep t s.symm u (by omega)⟩
    |some v=>
     obtain⟨X,V,C,O⟩:=Eb t s.symm;have M:=T _ c v C;simp only;by_cases d:v>at'
     ·rw[zb d,zb d];refine G B v (0+1) _ l (by omega) (by split<;>omega) (by omega) (fun u U Q=>?_) (fun i q w=>?_) ?_
      ·by_cases k:u<at'
       ·exact g u U k
       ·exact⟨hs[a],c,O u (by omega) Q⟩
      ·have:i=a:=by
        unfold pF at w;split at w<;>omega
       subst this;exact C
      ·have e:W-at'=(W-v)+(v-at'):=by omega
       have:(W-at')*(hs.length+1)=(W-v)*(hs.length+1)+(v-at')*(hs.length+1):=by rw[e,fH]
       have:1*(hs.length+1)<=(v-at')*(hs.length+1):=gN _ (by omega);omega
     ·have L:v=at':=by omega
      subst L;rw[za d,za d];refine G B v (b+1) _ l H (by split<;>omega) (by omega) g (fun i q w=>?_) (by omega);by_cases A:i=a
      ·subst A;exact C
      ·refine x i q ?_;unfold pF at w ⊢;split at w<;>omega
  ·rw[za r];refine⟨J,some at',rfl,y,H,fun h K=>?_,g⟩;obtain⟨i,q,rfl⟩:=vG K;refine x i q ?_;unfold pF;omega
theorem N1(W:Nat)(J:zy)(place f n:Nat)(t:place<5)(g:i7 J)(e:J.je.getD place []≠[])(d:∀h∈J.je.getD place [],vi J h=true)(k:∀h∈J.je.getD place [],∀v,(j4 J h v).isSome=true->v<W)(q:W*((J.je.getD place []).length+1)+(J.je.getD place []).length<n):
  ∃j b,dB n J place f=some (j,b)/\qz J j/\Ag J (J.je.getD place []) f b:=by
 have c:0<(J.je.getD place []).length:=by
  cases o:J.je.getD place [] with
  |nil=>exact zB o e
  |cons a l=>simp
 unfold dB;rw[za (by omega)];refine Nu W f _ J g d k n J f 0 0 rfl (zf _) c (by omega) (fun u r p=>by omega) (fun i s m=>by unfold pF at m;omega) ?_;have:(W-f)*((J.je.getD place []).length+1)<=W*((J.je.getD place []).length+1):=gN _ (by omega);omega
section
variable {jd:Int}
def y7(l:zt)(d:Nat):List Nat:=(List.range d).filter (zH l)
def yo(l:zt)(vals:List Nat)(d:Nat):zk:=(y7 l d).map fun p=>vals.getD p 0
theorem lz(l:zt)(d:Nat):y7 l (d+1)=if zH l d then y7 l d++[d] else y7 l d:=by
 unfold y7;rw[List.range_succ,ra];by_cases h:zH l d<;>simp[h]
theorem pm(l:zt)(d p:Nat):p∈y7 l d↔p<d/\zH l p=true:=by simp[y7]
theorem ea(l:zt){a b:Nat}(h:a<=b):y7 l a <+: y7 l b:=by
 induction h with
 |refl=>exact List.prefix_rfl
 |step h c=>
  rw[lz];split
  ·exact c.trans (List.prefix_append _ _)
  ·exact c
theorem oa(l:zt)(p:Nat):yN l p=if zH l p then some (y7 l p).length else none:=by
 unfold yN y7;rw[pz]
theorem dI(l:zt):yM l=(y7 l 5).length:=by
 unfold yM y7;rw[pz]
theorem mL(l:zt)(vals:List Nat)(d:Nat):(yo l vals d).length=(y7 l d).length:=by simp[yo]
theorem sa(l:zt){x y:List Nat}{d:Nat}(h:∀p,p<d->zH l p=true->x.getD p 0=y.getD p 0):yo l x d=yo l y d:=by
 unfold yo;refine ks fun p a=>?_;have:=(pm l d p).1 a;exact h p this.1 this.2
theorem ed(l:zt)(vals:List Nat){a b:Nat}(h:a<=b):yo l vals a=(yo l vals b).take (y7 l a).length:=by
 obtain⟨t,c⟩:=ea l h;unfold yo;rw[←c];simp
theorem AX(l:zt)(vals:List Nat)(d v:Nat)(b:d<vals.length):yo l (vals.set d v) (d+1)=if zH l d then yo l vals d++[v] else yo l vals d:=by
 have a:(y7 l d).map (fun p=>(vals.set d v).getD p 0)=(y7 l d).map fun p=>vals.getD p 0:=by
  refine ks fun p c=>?_;have:=(pm l d p).1 c;rw[uq,za (by omega)]
 unfold yo;rw[lz];split
 ·rw[vC,a];simp[b]
 ·exact a
theorem im:∀{l1 l2:List Nat},l1.Nodup->(∀x∈l1,x∈l2)->l1.length<=l2.length
 |[],l2,_,_=>by simp
 |a::l1,l2,c,f=>by
  have e:=f a (by simp);have g:=im (l1:=l1) (l2:=l2.erase a) (j8.1 c).2 (fun x d=>by
   have b:x≠a:=by rintro rfl;exact(j8.1 c).1 d
   exact(mS b).2 (f x (by simp[d])))
  rw[nQ e] at g;have:=ny e;simp;omega
theorem hG(l:zt)(p:Nat):zH l p=true↔∃t∈l.qg,t.var=true/\t.num=p:=by
 unfold zH;rw[kT];constructor
 ·rintro⟨t,b,a⟩;simp only[vq,beq_iff_eq] at a;exact⟨t,b,a.1,a.2⟩
 ·rintro⟨t,b,a,c⟩;exact⟨t,b,by simp[a,c]⟩
theorem iC(l:zt)(d:Nat):(y7 l d).length<=l.qg.length:=by
 have:=im (l1:=y7 l d) (l2:=l.qg.map (·.num)) (List.nodup_range.filter _) (fun p a=>by
  obtain⟨t,c,_,b⟩:=(hG l p).1 ((pm l d p).1 a).2;exact z9.2 ⟨t,c,b⟩)
 simpa using this
theorem pL(jd:Int):∀(ts:List ya) (k:Int),k<=ts.foldl (fun k t=>if t.var&&decide ((t.num:Int)<jd)&&decide ((t.num:Int)>k) then(t.num:Int) else k) k/\(∀t∈ts,t.var=true->(t.num:Int)<jd->(t.num:Int)<=ts.foldl (fun k t=>if t.var&&decide ((t.num:Int)<jd)&&decide ((t.num:Int)>k) then(t.num:Int) else k) k)/\(k<jd->ts.foldl (fun k t=>if t.var&&decide ((t.num:Int)<jd)&&decide ((t.num:Int)>k) then(t.num:Int) else k) k<jd)
 |[],k=>⟨Int.le_refl _,fun t h=>(by cases h),fun h=>h⟩
 |t::ts,k=>by
  simp only[un];by_cases d:(t.var&&decide ((t.num:Int)<jd)&&decide ((t.num:Int)>k))=true
  ·rw[zb d];simp only[vq,decide_eq_true_eq] at d;obtain⟨f,g,e⟩:=pL jd ts (t.num:Int);refine⟨by omega,fun u a b c=>?_,fun _=>e (by omega)⟩;rcases zu.1 a with rfl|a
   ·exact f
   ·exact g u a b c
  ·rw[za d];obtain⟨f,g,e⟩:=pL jd ts k;refine⟨f,fun u a b c=>?_,e⟩;rcases zu.1 a with rfl|a
   ·have:(u.num:Int)<=k:=by
     simp only[b,c,me,decide_true,decide_eq_true_eq] at d;omega
    omega
   ·exact g u a b c
theorem ik(l:zt){p:Nat}(c:zH l p=true)(e:(p:Int)<jd):(p:Int)<=jP l jd:=by
 obtain⟨t,b,a,d⟩:=(hG l p).1 c;have:=(pL jd l.qg (-1)).2.1 t b a (by omega);unfold jP;omega
theorem Ad(l:zt)(a:0<=jd):jP l jd<jd:=(pL jd l.qg (-1)).2.2 (by omega)
theorem IA(l:zt)(jd:Int):-1<=jP l jd:=(pL jd l.qg (-1)).1
theorem sN:∀(ts:List ya) (k:Nat),k<=ts.foldl (fun k t=>if t.var&&decide (t.num≥k) then t.num+1 else k) k/\(∀t∈ts,t.var=true->t.num<ts.foldl (fun k t=>if t.var&&decide (t.num≥k) then t.num+1 else k) k)/\∀b,k<=b->(∀t∈ts,t.var=true->t.num<b)->ts.foldl (fun k t=>if t.var&&decide (t.num≥k) then t.num+1 else k) k<=b
 |[],k=>⟨zf _,fun t h=>(by cases h),fun b h _=>h⟩
 |t::ts,k=>by
  simp only[un];by_cases c:(t.var&&decide (t.num≥k))=true
  ·rw[zb c];simp only[vq,decide_eq_true_eq] at c;obtain⟨j,g,f⟩:=sN ts (t.num+1);refine⟨by omega,fun u a d=>?_,fun b i e=>f b (by have:=e t (by simp) c.1;omega) fun u a=>e u (by simp[a])⟩;rcases zu.1 a with rfl|a
   ·omega
   ·exact g u a d
  ·rw[za c];obtain⟨j,g,f⟩:=sN ts k;refine⟨j,fun u a d=>?_,fun b i e=>f b i fun u a=>e u (by simp[a])⟩;rcases zu.1 a with rfl|a
   ·have:u.num<k:=by simp only[d,me,decide_eq_true_eq] at c;omega
    omega
   ·exact g u a d
theorem rE(l:zt){p:Nat}(b:zH l p=true):p<uC l:=by
 obtain⟨t,c,a,d⟩:=(hG l p).1 b;have:=(sN l.qg 0).2.1 t c a;unfold uC;omega
theorem Bf(l:zt){k:Nat}(h:∀p,zH l p=true->p<k):uC l<=k:=
 (sN l.qg 0).2.2 k (by omega) fun t b a=>h t.num ((hG l t.num).2 ⟨t,b,a,rfl⟩)
theorem Hx(l:zt)(a:0<=jd):vY l jd<jd:=by
 unfold vY;split
 ·omega
 ·exact Ad l a
theorem iK(jd:Int):∀(a:List zt) (b:Int),b<=a.foldl (vz jd) b/\(∀l∈a,vY l jd<=a.foldl (vz jd) b)/\(0<=jd->b<jd->a.foldl (vz jd) b<jd)
 |[],b=>⟨Int.le_refl _,fun l h=>(by cases h),fun _ h=>h⟩
 |l::a,b=>by
  simp only[un];obtain⟨i,f,e⟩:=iK jd a (vz jd b l);have j:b<=vz jd b l/\vY l jd<=vz jd b l:=by unfold vz;split<;>omega
  refine⟨by omega,fun u c=>?_,fun d g=>e d ?_⟩
  ·rcases zu.1 c with rfl|c
   ·omega
   ·exact f u c
  ·have:=Hx l d;unfold vz;split<;>omega
theorem pJ(r:zq)(a:0<=jd):xt r jd<jd/\-1<=xt r jd/\jP r.head jd<=xt r jd/\(∀l∈r.qc,vY l jd<=xt r jd)/\∀l∈r.qp,vY l jd<=xt r jd:=by
 unfold xt;obtain⟨h,d,f⟩:=iK jd r.qc (jP r.head jd);obtain⟨g,b,c⟩:=iK jd r.qp (r.qc.foldl (vz jd) (jP r.head jd));have:=IA r.head jd;exact⟨c a (f a (Ad r.head a)),by omega,by omega,fun l e=>by have:=d l e;omega,b⟩
theorem Co{l:zt}{jd:Nat}{b:Int}(h:vY l jd<=b):(∀p,zH l p=true->p<jd)∨∀p,zH l p=true->p<jd->(p:Int)<=b:=by
 unfold vY at h;by_cases c:(uC l:Int)<=jd
 ·exact zg fun p a=>by have:=rE l a;omega
 ·rw[za c] at h;exact ze fun p a d=>by have:=ik l (jd:=(jd:Int)) a (by omega);omega
end
section
variable {r:zq}{i:Nat}{hs:List (Nat×Nat)}
structure gK (r:zq):Prop where
 vars:r.vars<=5
 qg:∀l∈r.qc,l.qg.length<=3
 qc:∀l∈r.qc,∀p,zH l p=true->p<r.vars
 qp:∀l∈r.qp,∀p,zH l p=true->p<r.vars
 head:∀p,zH r.head p=true->p<r.vars
 safe:∀p,p<r.vars->∃l∈r.qc,zH l p=true
structure gQ (r:zq) (Ts:List zi) (W:Nat):Prop where
 len:Ts.length=r.qc.length
 ok:∀(i:Nat) (l:zt) (T:zi),r.qc[i]?=some l->Ts[i]?=some T->vo T/\T.ql=yV (yM l)/\T.qf<=W
structure qX (r:zq) (Ts Ns:List zi) (J:zy):Prop where
 head:J.head=r.head
 vars:J.vars=r.vars
 je:J.je=(List.range 5).map (yW r)
 jg:J.jg=(List.range 5).map fun p=>xt r (p:Nat)
 last:J.last=xt r r.vars
 bars:J.bars=(r.qp.zip Ns).map fun x=>⟨x.1,uC x.1,x.2⟩
 qy:J.qy.map (·.rows)=Ts
 vlen:J.ja.length=5
 flen:J.from.length=5
theorem nk(l:zt){x y:List Nat}(h:∀p,zH l p=true->x.getD p 0=y.getD p 0):zF l x=zF l y:=by
 have a:∀i,Pz l x i=Pz l y i:=by
  intro i;unfold Pz;split
  ·rename_i b;unfold QJ;rw[show l.qg.getD i ⟨false,0,0⟩=l.qg[i] by simp[List.getD,b]];split
   ·rename_i c;simp only[vq,decide_eq_true_eq] at c;exact h _ ((hG l _).2 ⟨_,zv b,c.1,rfl⟩)
   ·rfl
  ·rfl
 unfold zF;rw[a,a,a]
def tm(T:zi)(l:zt)(y:List Nat):Prop:=(yM l=0->T.count≠0)/\(yM l≠0->(xZ T (yo l y 5)).isSome=true)
def qT(r:zq)(a Ns:List zi)(y:List Nat):Prop:=(∀(i:Nat) (l:zt) (T:zi),r.qc[i]?=some l->a[i]?=some T->tm T l y)/\∀x∈r.qp.zip Ns,uk x.2 (zF x.1 y)=none
theorem LZ{l:zt}(a:∀p,zH l p=true->p<r.vars){d:Nat}(b:r.vars<=d):y7 l d=y7 l r.vars:=by
 induction b with
 |refl=>rfl
 |@step m h c=>
  rw[lz,za (fun q=>by have:=a _ q;have:r.vars<=m:=h;omega),c]
theorem Oh(a:r.vars<=5){l:zt}(b:∀p,zH l p=true->p<r.vars)(y:List Nat):yo l y 5=yo l y r.vars:=by
 unfold yo;rw[LZ b a]
def NY(r:zq)(J:zy)(d:Nat):Prop:=∀(i:Nat) (l:zt) (s:yJ),r.qc[i]?=some l->J.qy[i]?=some s->s.qi.length=3/\(∀k,k<=(y7 l d).length->k<3->Qc s.rows 0 ((yo l J.ja d).take k)=some (s.qi.getD k 0))/\(Qc s.rows 0 (yo l J.ja d)).isSome=true
def JW(r:zq)(Ns:List zi)(vals:List Nat)(d:Nat):Prop:=∀x∈r.qp.zip Ns,uC x.1<=d->uk x.2 (zF x.1 vals)=none
theorem D7{d b:Nat}(h:(i,b)∈yW r d):∃l,r.qc[i]?=some l/\zH l d=true/\b=(y7 l d).length:=by
 unfold yW at h;simp only[lN,vE,yc] at h;obtain⟨⟨l,j⟩,f,g,a,e,k⟩:=h;rw[oa] at a;split at a
 ·rename_i c;simp only[zr] at a;have:=rk.1 f;simp only at this e c a;subst e;exact⟨l,this,c,by omega⟩
 ·cases a
theorem QG{d:Nat}{l:zt}(h:r.qc[i]?=some l)(a:zH l d=true):(i,(y7 l d).length)∈yW r d:=by
 unfold yW;simp only[lN,vE,yc];refine⟨(l,i),rk.2 h,(y7 l d).length,?_,rfl,rfl⟩;rw[oa,zb a]
theorem DD(r:zq)(d:Nat):((yW r d).map (·.1)).Nodup:=by
 unfold yW;have e:∀(c:List zt) (n:Nat),(((c.zipIdx n).filterMap fun x=>(yN x.1 d).map fun b=>(x.2,b)).map (·.1)).Nodup/\∀i∈((c.zipIdx n).filterMap fun x=>(yN x.1 d).map fun b=>(x.2,b)).map (·.1),n<=i:=by
  intro c;induction c with
  |nil=>intro n;simp
  |cons l c m=>
   intro n;obtain⟨h,f⟩:=m (n+1);rw[List.zipIdx_cons,pW];cases j:(yN l d).map fun b=>(n,b) with
   |none=>exact⟨h,fun i g=>by have:=f i g;omega⟩
   |some x=>
    have o:x.1=n:=by
     simp only[vE] at j;obtain⟨a,_,rfl⟩:=j;rfl
    simp only[xQ,j8,zu];refine⟨⟨fun k=>by have:=f _ k;omega,h⟩,?_⟩;rintro i (rfl|g)
    ·omega
    ·have:=f i g;omega
 exact(e r.qc 0).1
def setDown(v a:Nat)(s:yJ):yJ:=if a+1≥3 then s else{s with qi:=s.qi.set (a+1) ((zG s.rows (s.qi.getD a 0) v).getD 0)}
theorem LR{J:zy}{v:Nat}{h:Nat×Nat}(hs:vi J h=true):uX v J h={J with qy:=J.qy.set h.1 (setDown v h.2 (J.qy.getD h.1 yJ.zero))}:=by
 unfold uX setDown;by_cases a:h.2+1≥3
 ·rw[zb (ze a),zb a];have b:h.1<J.qy.length:=by simp only[vi,vq,decide_eq_true_eq] at hs;exact hs.1
  have:J.qy.set h.1 (J.qy.getD h.1 yJ.zero)=J.qy:=by
   rw[show J.qy.getD h.1 yJ.zero=J.qy[h.1] by simp[List.getD,b]];exact rB _
  rw[this]
 ·rw[za (by rintro(q|q);rw[hs] at q;cases q;exact a q),za a]
theorem oF(v:Nat):∀(hs:List (Nat×Nat)) (J:zy),(hs.map (·.1)).Nodup->(∀h∈hs,vi J h=true)->∃e,hs.foldl (uX v) J={J with qy:=e}/\e.length=J.qy.length/\∀i s,J.qy[i]?=some s->e[i]?=some (match hs.lookup i with|none=>s|some d=>setDown v d s)
 |[],J,_,_=>⟨J.qy,rfl,rfl,fun i s h=>by simpa using h⟩
 |(j,d)::hs,J,f,c=>by
  simp only[un];have k:=c (j,d) (by simp);rw[LR k];simp only;have g:j<J.qy.length:=by simp only[vi,vq,decide_eq_true_eq] at k;exact k.1
  simp only[xQ,j8] at f;obtain⟨e,w,n,l⟩:=oF v hs {J with qy:=J.qy.set j (setDown v d (J.qy.getD j yJ.zero))} f.2 (fun h t=>by
   have:=c h (by simp[t]);unfold vi at this ⊢;simpa using this)
  refine⟨e,w,by simpa using n,fun i s m=>?_⟩;by_cases b:i=j
  ·subst b;have p:J.qy.getD i yJ.zero=s:=by simp[List.getD,m]
   have:=l i (setDown v d s) (by rw[p];simp[g]);rw[this];have a:hs.lookup i=none:=by
    rw[List.lookup_eq_none_iff];intro x o;have:x.1≠i:=by
     rintro rfl;exact f.1 (z9.2 ⟨x,o,rfl⟩)
    simpa using fun q=>this q.symm
   rw[a];simp[List.lookup]
  ·have:=l i s (by simp only[p3,Ne.symm b,if_false];exact m);rw[this];have u:(i == j)=false:=by simp[b]
   simp[List.lookup,u]
theorem Fk{d:Nat}(c:(hs.map (·.1)).Nodup)(f:(i,d)∈hs):hs.lookup i=some d:=by
 induction hs with
 |nil=>cases f
 |cons a hs h=>
  obtain⟨j,m⟩:=a;simp only[xQ,j8] at c;rcases zu.1 f with e|b
  ·simp only[yc] at e;obtain⟨rfl,rfl⟩:=e;simp[List.lookup]
  ·have:i≠j:=by
    rintro rfl;exact c.1 (z9.2 ⟨(i,d),b,rfl⟩)
   have g:(i == j)=false:=by simp[this]
   simp only[List.lookup,g];exact h c.2 b
theorem J7(h:∀b,(i,b)∉hs):hs.lookup i=none:=by
 rw[List.lookup_eq_none_iff];rintro⟨j,m⟩ a;have:i≠j:=by rintro rfl;exact h m a
 simpa using this
end
end Go.Proofs.YteampbddflhngaaGreat
