import Derived.WalkKit
import Derived.WalkSpells
import Derived.WalkLawsBesides
import Derived.Deep.Light
import Derived.Handy
import Derived.Laws.IdiomStrings
import Derived.WalkSmall
import Derived.Deep.RegionHeld3
namespace Go.Proofs.YteampbddflhngaaGreat
set_option linter.all false
section
open Go.RowKit
abbrev ι(x:Int):Value:=.int .i64 x
abbrev π(b:Nat):Value:=.pointer (some ⟨b,0,none⟩)
abbrev ν:Value:=.slice none 0 0
abbrev μ(w w':World):Prop:=Go.RowKit.Below w.heap.size w w'
abbrev κ:=List ByteArray
abbrev ε:=Ending.returned
variable {w1 w:World}
theorem Q5{p:Prop}(h:p):Hid p:=h
theorem PD{W:World}(a:μ W w1):(∀b o,b<W.heap.size->w1.cell? ⟨b,o,none⟩=W.cell? ⟨b,o,none⟩)/\(∀b o,b<W.heap.size->w1.frozen? ⟨b,o,none⟩=W.frozen? ⟨b,o,none⟩):=
 ⟨fun b o h=>a.cell (p:=⟨b,o,none⟩) h,fun b o h=>a.frozen (p:=⟨b,o,none⟩) h⟩
theorem zJ{B:Nat}{a w:World}(h:Below B a w)(n:Nat):Below B a (w.drewN n):=below_drewN h n
abbrev zR:=@Below.refl
abbrev zN:=@zJ
abbrev zA:=@Below.alloc
abbrev zD:=@Below.drew
abbrev zS:=@Below.setCell
theorem zQ{B:Nat}{a:World}(b:Below B w a)(d:μ a w1)(c:B<=w.heap.size):Below B w w1:=
 b.trans (d.mono (Nat.le_trans c b.size))
theorem Q9{a:World}(b:μ w a)(c:μ a w1):μ w w1:=zQ b c (Nat.le_refl _)
theorem zT{o:Obj}:μ w (w.alloc o):=(Below.refl _ _).alloc (Nat.le_refl _) _
theorem zl{B b o:Nat}{w':World}{v:Option Value}(h:Below B w w')(c:b<B)(a:w.cell? ⟨b,o,none⟩=v):w'.cell? ⟨b,o,none⟩=v:=(h.cell (p:=⟨b,o,none⟩) c).trans a
theorem zB{w':World}{a:Nat}{e:TypeId}{b:Nat}{v:Value}{n:Nat}{xs:List Value}(h:w.ownsRow a e b v n xs)(j:μ w w'):w'.ownsRow a e b v n xs:=by
 obtain⟨l,d⟩:=h;refine⟨l,?_⟩;rcases d with d|⟨g,c,f,m,k,i,r⟩
 ·exact Or.inl d
 ·refine Or.inr ⟨g,c,f,m,k,?_,r⟩;rw[j.block g (Array.getElem?_eq_some_iff.1 i).1];exact i
section
variable {P:Program} {ops:Array Oper} {rest:List Oper} {o:Oper} {a:Act} {Q:Exit->Act->World->Prop}
theorem ks(B r:World)(l:List Value)(Z:TypeId)(O:o.guard=none)(s x:Operand)(t:TypeId)
  (Y:o.op=.call {callee:=.builtin .append,args:=#[s,x],argTypes:=#[t,t]})
  (f:Nat) (e:TypeId) (i:TypeInfo) (z:Value) (d m:Nat) (ht:P.underlying t=some (.slice e)) (hi:P.info? e=some i) (hz:i.zero=some z)
  (F:i.size=d) (U:i.bytes=m) (T:z.cells.size=d) (N:0<d)
  (v:Value) (n:Nat) (L:List Value) (hs:a.eval s=v) (E:B.ownsRow f e d v n L) (p:μ B r)
  (b c:Nat) (hx:a.eval x=.slice (some ⟨b,0,none⟩) 1 c) (hb:b=r.heap.size) (hl:l.length=d) (h1:∀u∈l,u.oneCell'=true)
  (hn:n<=1048576) (C:m<=1000) (W:f<=B.heap.size)
  (h:∀K A,A.ownsRow f e d K (n+1) (L++l)->Below f B A->(∀b o,B.heap.size<=b->b<r.heap.size->A.cell? ⟨b,o,none⟩=r.cell? ⟨b,o,none⟩) →
   (∀b o,B.heap.size<=b->b<r.heap.size->A.frozen? ⟨b,o,none⟩=r.frozen? ⟨b,o,none⟩) →
   (∀k,k<B.heap.size->some k≠v.ownBlock->A.heap[k]?=B.heap[k]?)->r.heap.size<=A.heap.size->wpList P ops Q rest (a.put o.dst K) A):
  wpList P ops Q (o::rest) a (r.alloc (.cells l.toArray Z)):=by
 have I:=zB E p;have J:∀k,v.ownBlock=some k->f<=k/\k<B.heap.size:=by
  intro k D;obtain⟨_,M⟩:=E;rcases M with⟨S,_⟩|⟨g,ab,aa,S,O,hh,_⟩
  ·subst S;cases D
  ·subst S;simp only[Value.ownBlock,Option.some.injEq] at D;subst D;exact⟨O,(Array.getElem?_eq_some_iff.1 hh).1⟩
 have X:=p.size;subst hb;refine wpList_append_own _ O s x t Y f e i z d m ht hi hz F U T N v n L hs (I.alloc _) ⟨r.heap.size,0,none⟩ 1 c l hx (by omega) ?_ h1 ?_ ?_ ?_ ?_
 ·intro j u hj;rw[Addr.add_lit,Nat.zero_add,World.cell?_alloc_mark];simpa using hj
 ·unfold maxLen;omega
 ·have:(n+1)*m<=1048577*1000:=Nat.mul_le_mul (by omega) C;omega
 ·simp;omega
 ·intro K A M y _;have q:∀k,k<r.heap.size->some k≠v.ownBlock->A.heap[k]?=r.heap[k]?:=fun k D H=>by
   rw[y.block k (by simp;omega) H];exact Below.heap_alloc _ _ _ D
  have V:r.heap.size<=A.heap.size:=by have:=y.size;simp at this;omega
  refine h K A M ⟨y.os.trans p.os,y.tape.trans p.tape,y.output.trans p.output,by omega,fun k D=>?_⟩ (fun b o R G=>?_) (fun b o R G=>?_) (fun k D H=>?_) V
  ·rw[q k (by omega) (fun e=>by have:=J k e.symm;omega)];exact p.block k (by omega)
  ·exact World.cell?_of_block (w:=r) (q b G (fun e=>by have:=J b e.symm;omega))
  ·exact World.frozen?_of_block (w:=r) (q b G (fun e=>by have:=J b e.symm;omega))
  ·rw[q k (by omega) H];exact p.block k D
theorem M7(w:World)(m:o.guard=none)(x:Operand)(b c e:TypeId)(h:o.op=.convert b c x)
  (hs:P.underlying b=some .string) (p:P.underlying c=some (.slice e)) (l:P.underlying e=some (.int .u8)) (s:ByteArray) (n:a.eval x=.string s)
  (k:∀f g,(∀j (i:j<s.data.size),g.cell? ⟨w.heap.size,j,none⟩=some (.int .u8 (s.data[j].toNat:Int)))->μ w g →
   wpList P ops Q rest (a.put o.dst (.slice (some ⟨w.heap.size,0,none⟩) s.size f)) g):wpList P ops Q (o::rest) a w:=by
 refine wpList_plain m fun K d=>?_;have q:=run_bytes_of_string (P:=P) w b c e s hs p l;unfold Oper.wp;simp[execOp,h,n,q,Result.andThen];refine d _ _ (k _ _ (fun j i=>?_) ?_)
 ·have:=World.cell?_alloc_mark w.drew (bytesRow s (grownCap w s.size 0 e)) e ((bytesRow s (grownCap w s.size 0 e)).size,(bytesRow s (grownCap w s.size 0 e)).size+1) j;rw[bytesRow_at s _ j i] at this;exact this
 ·exact(Below.refl _ _).drew.alloc (Nat.le_refl _) _
theorem Gb(w:World)(p:o.guard=none)(x:Operand)(c d e:TypeId)(i:o.op=.convert c d x)
  (hs:P.underlying c=some (.slice e)) (n:P.underlying e=some (.int .u8)) (t:P.underlying d=some .string) (s:ByteArray) (b cap:Nat) (r:a.eval x=.slice (some ⟨b,0,none⟩) s.size cap)
  (l:∀j (f:j<s.data.size),w.cell? ⟨b,j,none⟩=some (.int .u8 (s.data[j].toNat:Int)))
  (m:wpList P ops Q rest (a.put o.dst (.string s)) w):wpList P ops Q (o::rest) a w:=by
 refine wpList_plain p fun K g=>?_;have k:=run_convert_bytes_back (P:=P) w c d e ⟨b,0,none⟩ cap s.data.toList hs n t (fun j f=>by
  have h:j<s.data.size:=by rw[Array.length_toList] at f;exact f
  rw[Addr.add_lit,Nat.zero_add,l j h,Array.getElem_toList])
 have q:s.data.toList.length=s.size:=by rw[Array.length_toList];rfl
 rw[q] at k;unfold Oper.wp;simp[execOp,i,r,k,Result.andThen];exact g _ _ m
end
abbrev zg:=@Nat.le_refl
abbrev zt:=@Option.some.injEq
abbrev zs:=@List.getElem_mem
abbrev zo:=@Below.refl
abbrev yM:=@List.take_succ_eq_append_getElem
abbrev zx:=@List.mem_cons
abbrev za:=@if_neg
abbrev yq:=@List.getElem?_eq_getElem
abbrev gs:=@List.getD_eq_getElem?_getD
abbrev zb:=@Or.inr
abbrev zc:=@if_pos
abbrev zy:=@List.mem_map
abbrev zI:=@List.mem_append
abbrev zv:=@Nat.zero_le
abbrev zf:=@Or.inl
abbrev xp:=@List.drop_eq_getElem_cons
abbrev yp:=@List.length_append
abbrev zL:=@bodyPost_ret
abbrev xh:=@List.take_of_length_le
abbrev yC:=@World.ownsRow_nil
abbrev ya:=@Prod.mk.injEq
abbrev ue:=@List.drop_eq_nil_of_le
abbrev yc:=@Nat.le_trans
abbrev xF:=@List.mem_singleton
abbrev vq:=@List.getElem_append_left
abbrev xd:=@List.length_cons
abbrev xP:=@Nat.lt_of_lt_of_le
abbrev vN:=@Option.map_eq_some_iff
abbrev vx:=@List.mem_iff_getElem
abbrev kF:=@List.getElem?_eq_none
abbrev uw:=@List.flatMap_cons
abbrev kQ:=@Array.getElem?_eq_some_iff
abbrev ur:=@Option.getD_some
abbrev ux:=@Bool.and_eq_true
abbrev jM:=@List.getElem?_eq_some_iff
abbrev uJ:=@List.mem_flatMap
abbrev uM:=@List.getElem_map
abbrev ut:=@List.foldl_cons
abbrev qa:=@List.getElem_of_mem
abbrev uu:=@List.length_map
abbrev xI:=@List.map_cons
abbrev qZ:=@List.take_append_drop
abbrev uQ:=@List.map_append
abbrev vw:=@List.take_length
abbrev uS:=@List.mem_filter
abbrev zC:=@absurd
abbrev qq:=@List.nodup_append
abbrev gX:=@List.getElem?_append_right
abbrev qt:=@List.length_take
abbrev gG:=@List.getElem_cons_zero
abbrev vM:=@List.mem_range
abbrev jV:=@Option.isSome_some
abbrev j7:=@List.foldl_append
abbrev qQ:=@List.append_nil
abbrev qL:=@List.nodup_cons
abbrev vz:=@Nat.zero_add
abbrev uV:=@Nat.add_zero
abbrev kH:=@List.append_assoc
abbrev kT:=@List.map_congr_left
abbrev dS:=@List.getElem?_cons_zero
abbrev vQ:=@List.sum_cons
abbrev d8:=@Nat.mul_le_mul_right
abbrev jy:=@Option.map_some
abbrev dK:=@List.mem_of_mem_drop
abbrev ko:=@List.all_eq_true
abbrev gD:=@Option.isSome_none
abbrev lJ:=@List.getElem?_take
abbrev gL:=@Bool.false_eq_true
abbrev lK:=@List.length_erase_of_mem
abbrev fm:=@List.mem_of_getElem?
abbrev kP:=@List.ext_getElem
abbrev l9:=@List.getElem?_cons_succ
abbrev fW:=@List.set_append_right
abbrev mt:=@List.getElem_append_right
abbrev lV:=@List.zipWith_cons_cons
abbrev fS:=@List.mem_of_mem_take
abbrev fV:=@List.mem_erase_of_ne
abbrev gE:=@Option.getD_none
abbrev gI:=@List.any_eq_true
abbrev my:=@Option.isSome_iff_exists
abbrev lU:=@List.getElem?_toArray
abbrev n4:=@List.nodup_iff_pairwise_ne
abbrev mF:=@List.length_eq_zero_iff
abbrev dP:=@Nat.min_eq_left
abbrev wa:=@List.getElem?_append_left
abbrev m7:=@List.length_pos_of_mem
abbrev ny:=@Array.length_toList
abbrev dD:=@List.length_nil
abbrev jX:=@Nat.sub_self
abbrev l5:=@List.drop_succ_cons
abbrev ff:=@List.not_mem_nil
abbrev lH:=@List.getElem?_map
abbrev rL:=@Array.getElem?_setIfInBounds_ne
abbrev nf:=@List.getElem_cons_succ
abbrev dX:=@Bool.or_eq_true
abbrev fA:=@List.length_set
abbrev p3:=@List.mem_or_eq_of_mem_set
abbrev gU:=@List.drop_zero
abbrev rW:=@List.eq_nil_of_length_eq_zero
abbrev m9:=@Nat.mul_le_mul_left
abbrev dU:=@List.map_set
abbrev lI:=@List.pairwise_map
abbrev nA:=@List.getElem_set_self
abbrev rB:=@List.mem_zipIdx_iff_getElem?
abbrev ra:=@List.countP_eq_length_filter
abbrev mQ:=@List.mem_filterMap
abbrev mp:=@List.getElem_range
abbrev mL:=@List.set_cons_succ
abbrev nX:=@Bool.or_eq_false_iff
abbrev lE:=@List.cons_append
abbrev lC:=@List.getElem_set
abbrev rM:=@List.getElem_concat_length
abbrev mG:=@List.ext_getElem?
abbrev nm:=@List.getElem_set_ne
abbrev mu:=@List.flatten_cons
abbrev nM:=@List.takeWhile_cons
abbrev nR:=@List.take_succ_cons
abbrev p8:=@List.length_filter_le
abbrev dI:=@Nat.lt_or_ge
abbrev sd:=@List.length_filterMap_le
abbrev nG:=@List.set_cons_zero
abbrev pg:=@List.mem_cons_of_mem
abbrev ph:=@List.pairwise_append
abbrev lW:=@List.tail_cons
abbrev nW:=@List.length_range
abbrev mU:=@List.cons.injEq
abbrev rc:=@List.set_getElem_self
abbrev rO:=@List.countP_le_length
abbrev pF:=@List.pairwise_cons
abbrev wM:=@List.pairwise_iff_getElem
abbrev p5:=@Nat.lt_trichotomy
abbrev hY:=@Nat.add_mul
abbrev mY:=@Bool.true_and
abbrev pZ:=@List.filterMap_cons
abbrev eH:=@List.zipWith_append
abbrev ww:=@Nat.add_sub_cancel_left
abbrev rA:=@List.replicate_succ
abbrev mm:=@Bool.not_true
abbrev p7:=@Bool.not_eq_true
abbrev pQ:=@List.append_inj'
abbrev tU:=@List.getElem_replicate
abbrev sm:=@List.drop_of_length_le
abbrev r8:=@List.filter_append
abbrev ro:=@List.mem_cons_self
abbrev tX:=@Bool.and_eq_false_iff
abbrev Qw:=@Array.getElem?_modify
abbrev sK:=@List.filterMap_append
abbrev ml:=@List.map_map
abbrev pL:=@List.nil_append
abbrev sQ:=@List.eq_nil_or_concat
abbrev s6:=@List.concat_eq_append
abbrev nJ:=@Bool.false_or
abbrev sc:=@Bool.not_eq_false
abbrev rF:=@List.getElem?_set
end
structure qk where
 leap:List Nat
 down:List Nat
 deriving DecidableEq
structure zi where
 qf:Nat
 ql:Nat
 qi:List qk
 count:Nat
 deriving DecidableEq
abbrev zm:=List Nat
def qk.zero:qk:=⟨[],[]⟩
def yx(T:zi):zi:={T with qi:=T.qi++[⟨List.replicate T.qf T.qf,List.replicate T.qf 0⟩]}
def zM(a:Nat):Nat:=if a<1 then 1 else a
def yY(a:Nat):Nat:=if (if a<1 then 1 else a)>3 then 3 else(if a<1 then 1 else a)
def yS(b a:Nat):zi:=yx ⟨zM b,yY a,[],0⟩
def yz(T:zi)(at' «from» : Nat):Option Nat:=
 if at'<T.qi.length/\«from»<T.qf then
  let v:=(T.qi.getD at' qk.zero).leap.getD «from» 0
  if v≥T.qf then none else some v
 else none
def zG(T:zi)(at' v:Nat):Option Nat:=
 match yz T at' v with
 |none=>none
 |some u=>if u=v then some ((T.qi.getD at' qk.zero).down.getD v 0) else none
def jU(v:Nat):Nat->List Nat->List Nat
 |0,l=>l
 |n+1,l=>if l.getD n 0>v then jU v n (l.set n v) else l
def fM(n:qk)(v d:Nat):qk:=⟨jU v (v+1) n.leap,n.down.set v d⟩
def yb(T:zi)(at' v d:Nat):zi:=
 if at'<T.qi.length/\v<T.qf then{T with qi:=T.qi.set at' (fM (T.qi.getD at' qk.zero) v d)} else T
def qb(T:zi)(at' v:Nat):zi×Nat:=
 match zG T at' v with
 |some b=>(T,b)
 |none=>(yb (yx T) at' v T.qi.length,T.qi.length)
def gK(T:zi)(at' v a:Nat):zi×Bool:=
 match zG T at' v with
 |some _=>(T,false)
 |none=>({yb T at' v a with count:=(yb T at' v a).count+1},true)
def ld(T:zi)(row:zm):Bool:=row.all (fun v=>v<T.qf)
def vn(a:Nat):zi->Nat->Nat->zm->zi×Bool
 |T,_,_,[]=>(T,false)
 |T,at',level,v::r=>
  if level+1≥T.ql then gK T at' v a else vn a (qb T at' v).1 (qb T at' v).2 (level+1) r
def addP(T:zi)(row:zm)(a:Nat):zi×Bool:=if ld T row then vn a T 0 0 row else(T,false)
def uE(T:zi):Nat->Nat->zm->Option Nat
 |_,_,[]=>none
 |at',level,v::r=>
  match zG T at' v with
  |none=>none
  |some b=>if level+1≥T.ql then some b else uE T b (level+1) r
def uo(T:zi)(row:zm):Option Nat:=uE T 0 0 row
def xE(T:zi):Nat->Nat->Nat->Nat->zm->List zm->Option (zm×List zm)
 |0,_,_,_,_,_=>none
 |n+1,at',level,«from»,row,a=>
  match yz T at' «from» with
  |none=>some (row,a)
  |some v=>
   let row:=row.set level v
   if level+1≥T.ql then xE T n at' level (v+1) row (a++[row])
   else if level+1≥3 then xE T n at' level (v+1) row a
   else match xE T n ((zG T at' v).getD 0) (level+1) 0 row a with
    |none=>none
    |some (row,a)=>xE T n at' level (v+1) row a
def nU(a:Nat)(T:zi):Option (List zm):=(xE T a 0 0 0 [0,0,0] []).map (·.2)
structure zZ where
 var:Bool
 num:Nat
 level:Nat
 deriving DecidableEq
structure zu where
 pred:Nat
 qg:List zZ
 deriving DecidableEq
structure zr where
 qh:Nat
 vars:Nat
 head:zu
 qc:List zu
 qp:List zu
 deriving DecidableEq
def zH(l:zu)(place:Nat):Bool:=l.qg.any fun t=>t.var&&t.num == place
def yN(l:zu)(place:Nat):Option Nat:=if zH l place then some ((List.range place).countP (zH l)) else none
def yO(l:zu):Nat:=(List.range 5).countP (zH l)
def uG(l:zu):Nat:=l.qg.foldl (fun k t=>if t.var&&decide (t.num≥k) then t.num+1 else k) 0
def jT(l:zu)(jd:Int):Int:=l.qg.foldl (fun k t=>if t.var&&decide ((t.num:Int)<jd)&&decide ((t.num:Int)>k) then(t.num:Int) else k) (-1)
def qz(l:zu)(jd:Int):Int:=if (uG l:Int)<=jd then -1 else jT l jd
def vU(jd b:Int)(l:zu):Int:=if qz l jd>b then qz l jd else b
def xy(r:zr)(jd:Int):Int:=r.qp.foldl (vU jd) (r.qc.foldl (vU jd) (jT r.head jd))
def RP(t:zZ)(vals:List Nat):Nat:=if t.var&&decide (t.num<5) then vals.getD t.num 0 else t.num
def Q7(l:zu)(vals:List Nat)(i:Nat):Nat:=if i<l.qg.length then RP (l.qg.getD i ⟨false,0,0⟩) vals else 0
def zF(l:zu)(vals:List Nat):zm:=[Q7 l vals 0,Q7 l vals 1,Q7 l vals 2]
def leveled(t:zZ):Bool:=t.var&&decide (t.level<3)
def qJ(l:zu)(row f:zm)(i:Nat):zm:=
 if i<l.qg.length/\leveled (l.qg.getD i ⟨false,0,0⟩)=true then f.set (l.qg.getD i ⟨false,0,0⟩).level (row.getD i 0) else f
def uq(l:zu)(row:zm):zm:=qJ l row (qJ l row (qJ l row [0,0,0] 0) 1) 2
def j5(t:zZ)(v:Nat)(f:zm):Bool:=if leveled t then f.getD t.level 0 == v else t.num == v
def xu(l:zu)(row f:zm)(i:Nat):Bool:=decide (l.qg.length<=i)||j5 (l.qg.getD i ⟨false,0,0⟩) (row.getD i 0) f
def x6(l:zu)(row:zm):Option zm:=
 if xu l row (uq l row) 0&&xu l row (uq l row) 1&&xu l row (uq l row) 2 then some (uq l row) else none
structure yK where
 rows:zi
 qi:List Nat
 deriving DecidableEq
structure sV where
 lit:zu
 jd:Nat
 rows:zi
 deriving DecidableEq
structure z9 where
 head:zu
 vars:Nat
 qy:List yK
 bars:List sV
 je:List (List (Nat×Nat))
 jg:List Int
 last:Int
 ja:List Nat
 «from» : List Nat
 ql:Int
 /-- as the code counts them: an int of Go's -/
 jf:Int
 deriving DecidableEq
def yK.zero:yK:=⟨⟨0,0,[],0⟩,[]⟩
def xb(r:zr)(place:Nat):List (Nat×Nat):=
 r.qc.zipIdx.filterMap fun x=>(yN x.1 place).map fun a=>(x.2,a)
def uT(J:z9)(jd:Nat):Bool:=J.bars.any fun b=>b.jd == jd&&(uo b.rows (zF b.lit J.ja)).isSome
def xr(r:zr)(qc qp:List zi):z9:=
 let J:z9:={head:=r.head,vars:=r.vars,qy:=qc.map (fun T=>⟨T,[0,0,0]⟩),bars:=(r.qp.zip qp).map (fun x=>⟨x.1,uG x.1,x.2⟩),je:=(List.range 5).map (xb r),jg:=(List.range 5).map (fun p=>xy r (p:Nat)),last:=xy r r.vars,ja:=[0,0,0,0,0],«from»:=[0,0,0,0,0],ql:=if qc.any (fun T=>T.count == 0) then -1 else 0,jf:=0}
 if uT J 0 then{J with ql:=-1} else J
def vD(J:z9)(h:Nat×Nat):Bool:=decide (h.1<J.qy.length)&&decide (h.2<3)
def vL(J:z9)(h:Nat×Nat)(«from» : Nat):z9×Option Nat:=
 if vD J h then({J with jf:=IntKind.i64.wrap (J.jf+1)},yz (J.qy.getD h.1 yK.zero).rows ((J.qy.getD h.1 yK.zero).qi.getD h.2 0) «from») else(J,none)
def kx:Nat->z9->List (Nat×Nat)->Nat->Nat->Nat->Option (z9×Option Nat)
 |0,_,_,_,_,_=>none
 |n+1,J,c,at',b,a=>
  if b<c.length then
   match vL J (c.getD a (0,0)) at' with
   |(J,none)=>some (J,none)
   |(J,some v)=>kx n J c (if v>at' then v else at') ((if v>at' then 0 else b)+1) (if a+1≥c.length then 0 else a+1)
  else some (J,some at')
def fh(a:Nat)(J:z9)(place «from» : Nat):Option (z9×Option Nat):=
 if place≥5∨(J.je.getD place []).length=0 then some (J,none) else kx a J (J.je.getD place []) «from» 0 0
def vy(v:Nat)(J:z9)(h:Nat×Nat):z9:=
 if vD J h=false∨h.2+1≥3 then J
 else{J with qy:=J.qy.set h.1 {(J.qy.getD h.1 yK.zero) with qi:=(J.qy.getD h.1 yK.zero).qi.set (h.2+1) ((zG (J.qy.getD h.1 yK.zero).rows ((J.qy.getD h.1 yK.zero).qi.getD h.2 0) v).getD 0)}}
def uf(J:z9)(place v:Nat):z9:=
 if place≥5 then J
 else(J.je.getD place []).foldl (vy v) {J with ja:=J.ja.set place v,«from»:=(if place+1<5 then(J.from.set place (v+1)).set (place+1) 0 else J.from.set place (v+1))}
def jv:Nat->z9->Int->Option (z9×Bool)
 |0,_,_=>none
 |n+1,J,a=>
  if 0<=a/\a<J.vars/\a<5 then
   match fh n J a.toNat (J.from.getD a.toNat 0) with
   |none=>none
   |some (J,none)=>jv n J (J.jg.getD a.toNat 0)
   |some (J,some v)=>jv n (uf J a.toNat v) (if uT (uf J a.toNat v) (a.toNat+1) then a else a+1)
  else some (J,decide (a≥J.vars))
def dQ(b:Nat)(J:z9):Option (z9×Bool):=
 match jv b J J.ql with
 |none=>none
 |some (J,a)=>some ({J with ql:=if a then J.last else -1},a)
structure yA where
 lit:zu
 before:zi
 qo:zi
 all:zi
 deriving DecidableEq
structure zX where
 rule:zr
 qm:List yA
 deriving DecidableEq
structure jx where
 pred:Nat
 row:zm
 deriving DecidableEq
structure jw where
 qf:Nat
 qj:List Nat
 facts:List jx
 rules:List zr
 deriving DecidableEq
structure z7 where
 rows:List zi
 count:Nat
 qw:Nat
 jf:Int
 qo:List (List zm)
 deriving DecidableEq
def zi.zero:zi:=⟨0,0,[],0⟩
def qs(R:z7):z7:={R with qo:=List.replicate R.rows.length []}
def okT(T:zi):Bool:=decide (T.qi.length<=90000000)&&decide (T.count<1000000000)
def xz:List zm->zi->Option zi
 |[],T=>some T
 |r::a,T=>if okT T then xz a (addP T r 0).1 else none
def rowsG(a:Nat)(T:zi):Option (List zm):=
 match nU a T with
 |none=>none
 |some b=>if b.length<=1048576 then some b else none
def addR(b:Nat)(R:z7)(a:Nat)(row:zm):Option (z7×Bool):=
 if a<R.rows.length/\a<R.qo.length/\okT (R.rows.getD a zi.zero)=true/\R.count<=1048576/\(R.qo.getD a []).length<=1048576 then
  match addP (R.rows.getD a zi.zero) row R.qw with
  |(T,false)=>some ({R with rows:=R.rows.set a T},true)
  |(T,true)=>some ({R with rows:=R.rows.set a T,qo:=R.qo.set a (R.qo.getD a []++[row]),count:=R.count+1},decide (R.count+1<=b))
 else none
def fT(b:Nat)(R:z7)(a:Nat):zi:=if a≥R.rows.length then yS b 0 else R.rows.getD a zi.zero
def dN(d g:Nat)(V:yA)(c:List zm):Option yA:=
 match rowsG d V.qo with
 |none=>none
 |some e=>
  match xz e V.before,xz (c.filterMap (x6 V.lit)) (yS g (yO V.lit)),xz (c.filterMap (x6 V.lit)) V.all with
  |some b,some f,some a=>some {V with before:=b,qo:=f,all:=a}
  |_,_,_=>none
def kW(a:Nat)(l:zu):yA:=⟨l,yS a (yO l),yS a (yO l),yS a (yO l)⟩
def gW(a c:Nat)(R:z7):List zu->Option (List yA)
 |[]=>some []
 |l::r=>
  match rowsG a (fT c R l.pred) with
  |none=>none
  |some b=>match dN a c (kW c l) b,gW a c R r with
   |some v,some vs=>some (v::vs)
   |_,_=>none
def QZ(a c:Nat)(R:z7)(b:Nat):List zr->Option (List zX)
 |[]=>some []
 |r::d=>
  if r.qh=b then
   match gW a c R r.qc,QZ a c R b d with
   |some vs,some e=>some (⟨r,vs⟩::e)
   |_,_=>none
  else QZ a c R b d
def vC(a b:Nat):Nat->z7->z9->Option (z7×Bool)
 |0,_,_=>none
 |n+1,R,J=>
  match dQ n J with
  |none=>none
  |some (J,false)=>some ({R with jf:=IntKind.i64.wrap (R.jf+J.jf)},true)
  |some (J,true)=>match addR a R b (zF J.head J.ja) with
   |none=>none
   |some (R,false)=>some (R,false)
   |some (R,true)=>vC a b n R J
def qV(a:Nat)(R:z7)(r:zr):List zi:=r.qp.map fun l=>fT a R l.pred
def QP(vs:List yA)(place:Nat):List zi:=vs.zipIdx.map fun x=>if x.2<place then x.1.before else if x.2=place then x.1.qo else x.1.all
def jA(b c a:Nat)(W:zX):Nat->Nat->z7->Option (z7×Bool)
 |0,_,R=>some (R,true)
 |n+1,i,R=>
  if (W.qm.getD i ⟨⟨0,[]⟩,zi.zero,zi.zero,zi.zero⟩).qo.count>0 then
   match vC a W.rule.head.pred b R (xr W.rule (QP W.qm i) (qV c R W.rule)) with
   |none=>none
   |some (R,false)=>some (R,false)
   |some (R,true)=>jA b c a W n (i+1) R
  else jA b c a W n (i+1) R
def kJ(b c a:Nat)(first:Bool)(R:z7)(W:zX):Option (z7×Bool):=
 if first then vC a W.rule.head.pred b R (xr W.rule (W.qm.map (·.all)) (qV c R W.rule))
 else jA b c a W W.qm.length 0 R
def ky(b c a:Nat)(first:Bool):List zX->z7->Option (z7×Bool)
 |[],R=>some (R,true)
 |W::d,R=>
  match kJ b c a first R W with
  |none=>none
  |some (R,false)=>some (R,false)
  |some (R,true)=>ky b c a first d R
def dJ(a c:Nat)(b:List (List zm)):List yA->Option (List yA)
 |[]=>some []
 |V::vs=>
  match (if V.lit.pred<b.length then dN a c V (b.getD V.lit.pred []) else some V),dJ a c b vs with
  |some v,some vs=>some (v::vs)
  |_,_=>none
def g7(a d:Nat)(c:List (List zm)):List zX->Option (List zX)
 |[]=>some []
 |W::b=>
  match dJ a d c W.qm,g7 a d c b with
  |some v,some b=>some ({W with qm:=v}::b)
  |_,_=>none
def nE(b d a:Nat)(first:Bool)(c:List zX)(R:z7):Option (z7×List zX×Bool):=
 match ky b d a first c (qs {R with qw:=R.qw+1}) with
 |none=>none
 |some (R,false)=>some (R,c,false)
 |some (R,true)=>(g7 b d R.qo c).map fun c=>(R,c,true)
def kR(e b a:Nat):Nat->Bool->List zX->z7->Option (z7×Bool)
 |0,_,_,_=>none
 |n+1,first,d,R=>
  if R.qw≥a then some (R,false)
  else match nE n e b first d R with
   |none=>none
   |some (c,_,false)=>some (c,false)
   |some (c,d,true)=>if c.count>R.count then kR e b a n false d c else some (c,true)
def nS(c f b a:Nat)(d:List zr)(R:z7)(s:Nat):Option (z7×Bool):=
 match QZ c f R s d with
 |none=>none
 |some e=>if e.length>0 then kR f b a c true e R else some (R,true)
def ku(d e b a:Nat)(c:List zr):Nat->Nat->z7->Option (z7×Bool)
 |0,_,R=>some (R,true)
 |n+1,s,R=>
  match nS d e b a c R s with
  |none=>none
  |some (R,false)=>some (R,false)
  |some (R,true)=>ku d e b a c n (s+1) R
def kM(a:Nat):List jx->z7->Option (z7×Bool)
 |[],R=>some (R,true)
 |f::b,R=>
  match addR a R f.pred f.row with
  |none=>none
  |some (R,false)=>some (R,false)
  |some (R,true)=>kM a b R
def ft(S:jw):z7:=qs ⟨S.qj.map (yS S.qf),0,0,0,[]⟩
def m5(c:Nat)(S:jw)(a b:Nat):Option (Option z7):=
 match kM a S.facts (ft S) with
 |none=>none
 |some (_,false)=>some none
 |some (R,true)=>(ku c S.qf a b S.rules S.qj.length 0 R).map fun x=>if x.2 then some x.1 else none
section
variable {d i:Nat}{listed:Array Bool}{a:Act}{w:World}
section
variable {P:Program} {ops:Array Oper} {Q:Exit->Act->World->Prop} {md:Region.Mode} {S:World->Prop}
def fE(P:Program)(md:Region.Mode)(ops:Array Oper)(Q:Exit->Act->World->Prop)(S:World->Prop)(d:Nat):Nat->Array Bool->Act->World->Prop
 |0,listed,a,w=>Region.ready md ops listed=[]/\Q .normal a w
 |b+1,listed,a,w=>
  (Region.ready md ops listed=[]->Q .normal a w) ∧
  ∀i∈Region.ready md ops listed,wpOp P ops Q i (fun e c=>(i≠d->S c)/\fE P md ops Q S d b (listed.setIfInBounds i true) e c) a w
theorem DU{d:Nat}:∀(b:Nat) (listed:Array Bool) (a:Act) (w:World),fE P md ops Q S d b listed a w->wpAny P md ops Q b listed a w
 |0,_,_,_,h=>h
 |b+1,_,_,_,h=>⟨h.1,fun i c=>wpOp_mono (fun f e g=>DU b _ f e g.2) (h.2 i c)⟩
def Rx(md:Region.Mode)(ops:Array Oper)(d i:Nat):Bool:=match ops[d]? with
 |none=>false
 |some o=>o.after.toList.any fun e=>Region.binds md e&&e.on == i
theorem Km(h:Rx md ops d i=true):∃o,ops[d]?=some o/\∃e∈o.after,Region.binds md e=true/\e.on=i:=by
 unfold Rx at h;split at h
 ·cases h
 ·rename_i o f;obtain⟨e,c,b⟩:=gI.1 h;simp only[ux,beq_iff_eq] at b;exact⟨o,f,e,by simpa using c,b⟩
theorem FS{s:Oper}{v:Value}(J:ops[i]?=some s)(q:∀(j:Nat) (o:Oper) z b,ops[j]?=some o->o.op≠.select z b)
  (Y:∀c a w,Q (.panic c) (a.put s.dst v) w->Q (.panic c) a w) (hd:Rx md ops d i=true):
  ∀(f:Nat) (listed:Array Bool) (a:Act) (w:World),
   (∀j t,ops[j]?=some t->j≠i->listed.getD j true=false->(∀e∈t.after,Region.binds md e=true->e.on≠i)->s.apart ops t=true) →
   i∈Region.ready md ops listed->YieldsIf P ops S s v a->S w →
   fE P md ops Q S d f (listed.setIfInBounds i true) (a.put s.dst v) w->fE P md ops Q S d (f+1) listed a w:=by
 intro f;induction f with
 |zero=>
  intro listed a w _ u D y H;refine⟨fun h=>(by rw[h] at u;cases u),fun j E=>?_⟩;by_cases g:j=i
  ·subst g;exact D.wpOp J y ⟨fun _=>y,H⟩
  ·have:=ready_mono E g;rw[H.1] at this;cases this
 |succ f X=>
  intro listed a w l u D y H;refine⟨fun h=>(by rw[h] at u;cases u),fun j E=>?_⟩;by_cases g:j=i
  ·subst g;exact D.wpOp J y ⟨fun _=>y,H⟩
  ·have x:=H.2 j (ready_mono E g);obtain⟨r,t,m,C⟩:=mem_ready.1 E;have p:∀e∈t.after,Region.binds md e=true->e.on≠i:=fun e I O N=>by
    have x:=C e I O;have U:=(mem_ready.1 u).1;rw[N] at x;rcases dI i listed.size with M|M
    ·simp[M] at U x;rw[U] at x;cases x
    ·simp[Array.getElem?_eq_none M] at x
   have K:j≠d:=fun e=>by
    subst e;obtain⟨od,T,e,I,O,L⟩:=Km hd;rw[m] at T;cases T;exact p e I O L
   have V:=wpOp_putIf m (l j t m g r p) (fun z b=>q i s z b J) (fun z b=>q j t z b m) Y D x;have n:∀k ok,ops[k]?=some ok->k≠i->(listed.setIfInBounds j true).getD k true=false →
     (∀e∈ok.after,Region.binds md e=true->e.on≠i)->s.apart ops ok=true:=fun k ok W G B R=>by
    refine l k ok W G ?_ R;by_cases A:j=k
    ·subst A;exact r
    ·rw[getD_set_ne true A] at B;exact B
   refine wpOp_mono (fun Z w' F=>⟨F.2.1,X (listed.setIfInBounds j true) Z w' n (ready_mono u (Ne.symm g)) F.1 (F.2.1 K) ?_⟩) V;rw[Array.setIfInBounds_comm _ _ g];exact F.2.2
theorem ub{e:Oper}{v:Value}{b:Nat}(f:ops[i]?=some e)
  (hs:Region.noSelect ops=true) (k:Region.free md ops listed i=true) (n:(Region.ready md ops listed).contains i=true) (m:Rx md ops d i=true)
  (j:∀c a w,Q (.panic c) (a.put e.dst v) w->Q (.panic c) a w) (g:YieldsIf P ops S e v a) (l:S w)
  (h:fE P md ops Q S d b (listed.setIfInBounds i true) (a.put e.dst v) w):fE P md ops Q S d (b+1) listed a w:=
 FS f (Region.noSelect_spec hs) j m b listed a w (Region.free_spec f k) (by simpa using n) g l h
theorem dB{o:Oper}{b:Nat}(g:Region.ready md ops listed=[i])(k:ops[i]?=some o)
  (h:∀c:Act->World->Prop,Shut (∀a w,(i≠d->S w)->fE P md ops Q S d b (listed.setIfInBounds i true) a w->c a w)->if Region.wanted o (yielded ops a.tmps)=true then Oper.wp P o a w c Q else c (a.put o.dst undef) w):fE P md ops Q S d (b+1) listed a w:=by
 refine⟨fun f=>(by rw[g] at f;cases f),fun j e=>?_⟩;rw[g] at e;obtain rfl:j=i:=by simpa using e
 exact wpOp_step k (fun c l=>h c (fun a w m n=>l a w ⟨m,n⟩))
theorem eD(c:Region.ready md ops listed=[])(h:Q .normal a w):∀b,fE P md ops Q S d b listed a w
 |0=>⟨c,h⟩
 |_+1=>⟨fun _=>h,by rw[c];simp⟩
theorem iE{id:Nat}(b:P.follows .mixedOrders=true)(c:S w.drew)
  (h:S w.drew->fE P .any ops Q S d ops.size (Array.replicate ops.size false) a w.drew):(Code.region id ops true).wp P Q a w:=
 wp_region_any b (DU _ _ _ _ (h c))
end
end
structure kz (w:Nat) (n:qk):Prop where
 len:n.leap.length=w
 dlen:n.down.length=w
 ge:∀i,i<w->i<=n.leap.getD i 0
 le:∀i,i<w->n.leap.getD i 0<=w
 fix:∀i,i<w->n.leap.getD i 0<w->n.leap.getD (n.leap.getD i 0) 0=n.leap.getD i 0
 seg:∀i j,i<w->i<=j->j<n.leap.getD i 0->n.leap.getD j 0=n.leap.getD i 0
theorem uv(l:List Nat)(i j v d:Nat):(l.set i v).getD j d=if i=j/\i<l.length then v else l.getD j d:=by
 simp only[gs,rF];by_cases h:i=j
 ·subst h;by_cases a:i<l.length
  ·simp[a]
  ·simp[a]
 ·simp[h]
theorem AM(v:Nat):∀(n:Nat) (l:List Nat),(jU v n l).length=l.length
 |0,l=>rfl
 |n+1,l=>by
  unfold jU;split
  ·rw[AM];simp
  ·rfl
open Classical in
theorem Bi(v:Nat):∀(n:Nat) (l:List Nat) (u:Nat),n<=l.length->(jU v n l).getD u 0=if u<n/\∀j,u<=j->j<n->l.getD j 0>v then v else l.getD u 0
 |0,l,u,_=>by simp[jU]
 |n+1,l,u,h=>by
  unfold jU;by_cases c:l.getD n 0>v
  ·rw[zc c,Bi v n (l.set n v) u (by simp;omega)];by_cases e:u<n
   ·by_cases d:∀j,u<=j->j<n->l.getD j 0>v
    ·rw[zc ⟨e,fun j a b=>by rw[uv,za (by omega)];exact d j a b⟩,zc ⟨by omega,fun j a b=>by
      by_cases f:j=n
      ·subst f;exact c
      ·exact d j a (by omega)⟩]
    ·rw[za (fun q=>d fun j a b=>by have:=q.2 j a b;rwa [uv,za (by omega)] at this),za (fun q=>d fun j a b=>q.2 j a (by omega)),uv,za (by omega)]
   ·rw[za (fun q=>e q.1),uv];by_cases g:n=u
    ·subst g;rw[zc ⟨rfl,by omega⟩,zc ⟨by omega,fun j a b=>by
      have:j=n:=by omega
      subst this;exact c⟩]
    ·rw[za (by omega),za (by omega)]
  ·rw[za c];by_cases e:u<n+1
   ·rw[za (fun q=>c (q.2 n (by omega) (by omega)))]
   ·rw[za (fun q=>e q.1)]
def lP(w:Nat)(n:qk)(v:Nat):Prop:=v<w/\n.leap.getD v 0=v
theorem kz.none{w:Nat}{n:qk}(h:kz w n){i:Nat}(a:i<w)(c:¬n.leap.getD i 0<w):∀u,i<=u->¬lP w n u:=by
 intro u b ⟨d,e⟩;have:=h.seg i u a b (by omega);omega
theorem kz.some{w:Nat}{n:qk}(h:kz w n){i:Nat}(a:i<w)(b:n.leap.getD i 0<w):i<=n.leap.getD i 0/\lP w n (n.leap.getD i 0)/\∀u,i<=u->u<n.leap.getD i 0->¬lP w n u:=by
 refine⟨h.ge i a,⟨b,h.fix i a b⟩,fun u c d ⟨e,f⟩=>?_⟩;have:=h.seg i u a c d;omega
theorem kz.put{w:Nat}{n:qk}(h:kz w n){v d:Nat}(l:v<w)(z:¬lP w n v):kz w (fM n v d)/\(∀u,lP w (fM n v d) u↔u=v∨lP w n u)/\∀u,(fM n v d).down.getD u 0=if u=v then d else n.down.getD u 0:=by
 have y:=h.len;have k:n.leap.getD v 0>v:=by
  have p:=h.ge v l;rcases Nat.lt_or_eq_of_le p with q|q
  ·exact q
  ·exact zC ⟨l,q.symm⟩ z
 have r:∀u,(jU v (v+1) n.leap).getD u 0=if u<=v/\n.leap.getD u 0>v then v else n.leap.getD u 0:=by
  intro u;rw[Bi v (v+1) n.leap u (by omega)];by_cases m:u<=v
  ·by_cases f:n.leap.getD u 0>v
   ·have s:∀j,u<=j->j<v+1->n.leap.getD j 0>v:=fun j p x=>by
     have:=h.seg u j (by omega) p (by omega);omega
    rw[zc ⟨by omega,s⟩,zc ⟨m,f⟩]
   ·rw[za (fun q=>f (q.2 u (zg _) (by omega))),za (fun q=>f q.2)]
  ·rw[za (fun q=>by omega),za (fun q=>by omega)]
 have a:∀u,(fM n v d).leap.getD u 0=if u<=v/\n.leap.getD u 0>v then v else n.leap.getD u 0:=r
 have e:(fM n v d).leap.getD v 0=v:=by rw[a,zc ⟨zg _,k⟩]
 refine⟨⟨by simp[fM,AM,y],by simp[fM,h.dlen],fun i c=>?_,fun i c=>?_,fun i c f=>?_,fun i j c g o=>?_⟩,fun u=>?_,fun u=>?_⟩
 ·rw[a];split
  ·omega
  ·exact h.ge i c
 ·rw[a];split
  ·omega
  ·exact h.le i c
 ·by_cases b:i<=v/\n.leap.getD i 0>v
  ·rw[a i,zc b];exact e
  ·rw[a i,za b] at f ⊢;have x:=h.fix i c f;rw[a];by_cases t:n.leap.getD i 0<=v/\n.leap.getD (n.leap.getD i 0) 0>v
   ·omega
   ·rw[za t];exact x
 ·by_cases b:i<=v/\n.leap.getD i 0>v
  ·rw[a i,zc b] at o ⊢;have:=h.seg i j c g (by omega);rw[a,zc ⟨by omega,by omega⟩]
  ·rw[a i,za b] at o ⊢;have:=h.seg i j c g o;rw[a,this];rw[za (by omega)]
 ·unfold lP;rw[a];by_cases b:u<=v/\n.leap.getD u 0>v
  ·rw[zc b];constructor
   ·rintro⟨_,q⟩;exact zf q.symm
   ·rintro(q|q)
    ·subst q;exact⟨l,rfl⟩
    ·omega
  ·rw[za b];constructor
   ·intro q;exact zb q
   ·rintro(q|q)
    ·subst q;exact zC ⟨zg _,k⟩ b
    ·exact q
 ·show(n.down.set v d).getD u 0=_;rw[uv];by_cases m:u=v
  ·subst m;rw[zc ⟨rfl,by rw[h.dlen];exact l⟩,zc rfl]
  ·rw[za (by omega),za m]
theorem pO(k d i:Nat)(a:i<k)(x:Nat):(List.replicate k x).getD i d=x:=by simp[List.getD_eq_getElem?_getD,a]
theorem kz.new(w:Nat):kz w ⟨List.replicate w w,List.replicate w 0⟩/\∀v,¬lP w ⟨List.replicate w w,List.replicate w 0⟩ v:=by
 refine⟨⟨by simp,by simp,fun i a=>?_,fun i a=>?_,fun i a c=>?_,fun i j a f b=>?_⟩,fun v ⟨d,e⟩=>?_⟩<;>simp only at *
 ·rw[pO _ _ _ a];omega
 ·rw[pO _ _ _ a];exact zg _
 ·rw[pO _ _ _ a] at c;omega
 ·rw[pO _ _ _ a] at b ⊢;rw[pO _ _ _ b]
 ·rw[pO _ _ _ d] at e;omega
section
variable {T:zi}{a:Nat}
def jF(T:zi)(a:Nat):qk:=T.qi.getD a qk.zero
def f5(T:zi):Prop:=∀a,a<T.qi.length->kz T.qf (jF T a)
theorem l6(T:zi)(a v:Nat):zG T a v=if a<T.qi.length/\v<T.qf/\(jF T a).leap.getD v 0=v then some ((jF T a).down.getD v 0) else none:=by
 unfold zG yz jF;by_cases b:a<T.qi.length/\v<T.qf
 ·rw[zc b];dsimp only;generalize (T.qi.getD a qk.zero).leap.getD v 0=x;by_cases c:x=v
  ·subst c;rw[za (by omega:¬x≥T.qf)];simp[b]
  ·by_cases d:x≥T.qf
   ·simp[d,c]
   ·simp[d,c]
 ·rw[za b,za (fun q=>b ⟨q.1,q.2.1⟩)]
theorem dW{v b:Nat}(h:zG T a v=some b):a<T.qi.length/\v<T.qf:=by
 unfold zG yz at h;by_cases c:a<T.qi.length/\v<T.qf
 ·exact c
 ·rw[za c] at h;cases h
theorem Dq(h:f5 T){f v:Nat}(b:yz T a f=some v):f<=v/\v<T.qf/\(zG T a v).isSome=true/\∀u,f<=u->u<v->zG T a u=none:=by
 unfold yz at b;split at b
 ·rename_i d;simp only at b;split at b
  ·cases b
  ·rename_i g;simp only[zt] at b;have c:=(h a d.1).some d.2 (by unfold jF;omega);unfold jF at c;rw[b] at c g;refine⟨c.1,by omega,?_,fun u e i=>?_⟩
   ·rw[l6,zc ⟨d.1,by omega,c.2.1.2⟩];rfl
   ·rw[l6,za (fun q=>c.2.2 u e i ⟨q.2.1,q.2.2⟩)]
 ·cases b
theorem Ay(h:f5 T){f:Nat}(b:yz T a f=none):∀u,f<=u->zG T a u=none:=by
 intro u c;rw[l6];refine za fun q=>?_;unfold yz at b;rw[zc ⟨q.1,by omega⟩] at b;simp only at b;split at b
 ·rename_i d;exact(h a q.1).none (show f<T.qf by omega) (by unfold jF;omega) u c ⟨q.2.1,q.2.2⟩
 ·cases b
def Rl(T:zi):Nat->zm->Option Nat
 |a,[]=>some a
 |a,v::r=>match zG T a v with
  |none=>none
  |some b=>Rl T b r
theorem np(T:zi):∀(p q:zm) (a:Nat),Rl T a (p++q)=(Rl T a p).bind fun b=>Rl T b q
 |[],q,a=>rfl
 |v::p,q,a=>by
  simp only[lE,Rl];cases zG T a v with
  |none=>rfl
  |some b=>exact np T p q b
structure ke (T:zi) (pth:Nat->zm):Prop where
 dep:1<=T.ql/\T.ql<=3
 wid:1<=T.qf
 pos:0<T.qi.length
 node:f5 T
 root:pth 0=[]
 lev:∀a,a<T.qi.length->(pth a).length<T.ql
 inj:∀a b,a<T.qi.length->b<T.qi.length->pth a=pth b->a=b
 kid:∀a v b,zG T a v=some b->(pth a).length+1<T.ql->b<T.qi.length/\pth b=pth a++[v]
 par:∀b,b<T.qi.length->b≠0->∃a v,zG T a v=some b/\(pth a).length+1<T.ql/\pth b=pth a++[v]
theorem HY(l:List qk)(i j:Nat)(v d:qk):(l.set i v).getD j d=if i=j/\i<l.length then v else l.getD j d:=by
 simp only[gs,rF];by_cases h:i=j
 ·subst h;by_cases b:i<l.length
  ·simp[b]
  ·simp[b]
 ·simp[h]
theorem Aw(T:zi)(a v d b:Nat)(c:a<T.qi.length)(e:v<T.qf):jF (yb T a v d) b=if b=a then fM (jF T a) v d else jF T b:=by
 unfold yb jF;rw[zc ⟨c,e⟩];simp only;rw[HY];by_cases h:b=a
 ·subst h;rw[zc ⟨rfl,c⟩,zc rfl]
 ·rw[za (fun q=>h q.1.symm),za h]
theorem fY(T:zi)(a v d:Nat):(yb T a v d).qi.length=T.qi.length:=by unfold yb;split<;>simp
theorem nI(T:zi)(a v d:Nat):(yb T a v d).qf=T.qf:=by unfold yb;split<;>rfl
theorem pu(T:zi)(a v d:Nat):(yb T a v d).ql=T.ql:=by unfold yb;split<;>rfl
theorem Dz(T:zi)(a v d:Nat):(yb T a v d).count=T.count:=by unfold yb;split<;>rfl
theorem EZ(h:f5 T){v d:Nat}(f:a<T.qi.length)(g:v<T.qf)(m:zG T a v=none):f5 (yb T a v d)/\∀b u,zG (yb T a v d) b u=if b=a/\u=v then some d else zG T b u:=by
 have l:¬lP T.qf (jF T a) v:=fun q=>by rw[l6,zc ⟨f,g,q.2⟩] at m;cases m
 obtain⟨o,j,n⟩:=(h a f).put (d:=d) g l;have k:f5 (yb T a v d):=by
  intro b c;rw[fY] at c;rw[nI,Aw T a v d b f g];split
  ·exact o
  ·exact h b c
 refine⟨k,fun b u=>?_⟩;rw[l6,fY,nI,Aw T a v d b f g,l6];by_cases c:b=a
 ·subst c;rw[zc rfl,n];by_cases i:u=v
  ·subst i;rw[zc rfl,zc ⟨f,g,((j u).2 (zf rfl)).2⟩,zc ⟨rfl,rfl⟩]
  ·rw[za i,za (fun q:b=b/\u=v=>i q.2)];by_cases e:b<T.qi.length/\u<T.qf/\(jF T b).leap.getD u 0=u
   ·rw[zc e,zc ⟨e.1,e.2.1,((j u).2 (zb e.2)).2⟩]
   ·rw[za e];refine za fun q=>e ⟨q.1,?_⟩;rcases(j u).1 q.2 with r|r
    ·exact zC r i
    ·exact r
 ·rw[za c,za (fun q:b=a/\u=v=>c q.1)]
theorem Nd(h:f5 T):f5 (yx T)/\∀b u,zG (yx T) b u=zG T b u:=by
 have d:∀b,jF (yx T) b=if b<T.qi.length then jF T b else if b=T.qi.length then⟨List.replicate T.qf T.qf,List.replicate T.qf 0⟩ else qk.zero:=by
  intro b;unfold jF yx;simp only[gs,List.getElem?_append];by_cases c:b<T.qi.length
  ·simp[c]
  ·rw[za c,za c];by_cases f:b=T.qi.length
   ·subst f;simp
   ·rw[za f];rw[kF (by simp;omega)];rfl
 have i:(yx T).qi.length=T.qi.length+1:=by simp[yx]
 have g:f5 (yx T):=by
  intro b j;rw[d];by_cases c:b<T.qi.length
  ·rw[zc c];exact h b c
  ·rw[za c,zc (by omega)];exact(kz.new T.qf).1
 refine⟨g,fun b u=>?_⟩;rw[l6,l6,d,i,show(yx T).qf=T.qf from rfl];by_cases c:b<T.qi.length
 ·rw[zc c];by_cases e:u<T.qf/\(jF T b).leap.getD u 0=u
  ·rw[zc ⟨by omega,e⟩,zc ⟨c,e⟩]
  ·rw[za (fun q=>e q.2),za (fun q=>e q.2)]
 ·rw[za c,za (fun q:b<T.qi.length/\_=>c q.1)];by_cases f:b=T.qi.length
  ·rw[zc f];exact za fun q=>(kz.new T.qf).2 u q.2
  ·exact za fun q=>by omega
end
section
variable {pth:Nat->zm}
def xY(T:zi)(q:zm):Option Nat:=Rl T 0 q
structure S1 (T T':zi) (key:zm) (m:Nat) (new:Bool) (room:Nat):Prop where
 inv:∃pth',ke T' pth'
 qf:T'.qf=T.qf
 ql:T'.ql=T.ql
 is:new=(xY T key).isNone
 same:new=false->T'=T
 more:new=true->T'.count=T.count+1/\T'.qi.length<=T.qi.length+room
 sem:∀q,q.length=T.ql->xY T' q=if q=key then some ((xY T q).getD m) else xY T q
theorem ke.grow{T:zi}(h:ke T pth){a v:Nat}(K:a<T.qi.length)(I:v<T.qf)(D:(pth a).length+1<T.ql)(s:zG T a v=none):
  ke (yb (yx T) a v T.qi.length) (fun c=>if c=T.qi.length then pth a++[v] else pth c)/\(∀b u,zG (yb (yx T) a v T.qi.length) b u=if b=a/\u=v then some T.qi.length else zG T b u)/\(yb (yx T) a v T.qi.length).qi.length=T.qi.length+1/\(yb (yx T) a v T.qi.length).qf=T.qf/\(yb (yx T) a v T.qi.length).ql=T.ql/\(yb (yx T) a v T.qi.length).count=T.count:=by
 have x:=Nd h.node;have p:(yx T).qi.length=T.qi.length+1:=by simp[yx]
 obtain⟨E,J⟩:=EZ x.1 (a:=a) (v:=v) (d:=T.qi.length) (by rw[p];omega) (show v<(yx T).qf from I) (by rw[x.2];exact s);have t:∀b u,zG (yb (yx T) a v T.qi.length) b u=if b=a/\u=v then some T.qi.length else zG T b u:=fun b u=>by rw[J,x.2]
 have j:(yb (yx T) a v T.qi.length).qi.length=T.qi.length+1:=by rw[fY,p]
 have q:(yb (yx T) a v T.qi.length).qf=T.qf:=by rw[nI];rfl
 have i:(yb (yx T) a v T.qi.length).ql=T.ql:=by rw[pu];rfl
 have y:(yb (yx T) a v T.qi.length).count=T.count:=by rw[Dz];rfl
 have g:∀c,c<T.qi.length->pth c≠pth a++[v]:=by
  intro c o e;have B:c≠0:=by rintro rfl;rw[h.root] at e;exact zC e.symm (by simp)
  obtain⟨F,M,k,C,r⟩:=h.par c o B;rw[e] at r;have l:=pQ r rfl;have n:=h.inj a F K (dW k).1 l.1;subst n;simp only[mU,and_true] at l;rw[←l.2] at k;rw[k] at s;cases s
 refine⟨⟨by rw[i];exact h.dep,by rw[q];exact h.wid,by rw[j];omega,E,?_,fun c o=>?_,fun c d o A e=>?_,fun c u b f m=>?_,fun b H w=>?_⟩,t,j,q,i,y⟩
 ·rw[za (by omega)];exact h.root
 ·rw[j] at o;rw[i];by_cases e:c=T.qi.length
  ·rw[zc e];simp;omega
  ·rw[za e];exact h.lev c (by omega)
 ·rw[j] at o A;by_cases l:c=T.qi.length
  ·by_cases n:d=T.qi.length
   ·rw[l,n]
   ·rw[zc l,za n] at e;exact zC e.symm (g d (by omega))
  ·by_cases n:d=T.qi.length
   ·rw[za l,zc n] at e;exact zC e (g c (by omega))
   ·rw[za l,za n] at e;exact h.inj c d (by omega) (by omega) e
 ·rw[t] at f;rw[i] at m;by_cases e:c=a/\u=v
  ·rw[zc e] at f;simp only[zt] at f;obtain⟨rfl,rfl⟩:=e;subst f;rw[zc rfl,za (by omega)];exact⟨by omega,rfl⟩
  ·rw[za e] at f;have z:=(dW f).1;rw[za (by omega)] at m;obtain⟨L,G⟩:=h.kid c u b f m;rw[za (by omega),za (by omega)];exact⟨by omega,G⟩
 ·rw[j] at H;by_cases e:b=T.qi.length
  ·refine⟨a,v,by rw[t,zc ⟨rfl,rfl⟩,e],by rw[za (by omega),i];exact D,by rw[zc e,za (by omega)]⟩
  ·obtain⟨c,u,k,C,r⟩:=h.par b (by omega) w;have z:=(dW k).1;refine⟨c,u,?_,by rw[za (by omega),i];exact C,by rw[za e,za (by omega)];exact r⟩;rw[t,za]
   ·exact k
   ·rintro⟨rfl,rfl⟩;rw[s] at k;cases k
theorem ke.grow_sem{T j:zi}{pth:Nat->zm}(h:ke T pth){a v:Nat}(n:(pth a).length+1<T.ql)(k:zG T a v=none)(i:∀b u,zG j b u=if b=a/\u=v then some T.qi.length else zG T b u):∀(q:zm) (c:Nat),c<T.qi.length->(pth c).length+q.length=T.ql->Rl j c q=Rl T c q
 |[],c,_,_=>rfl
 |u::q,c,p,d=>by
  simp only[Rl,i];simp only[xd] at d;by_cases e:c=a/\u=v
  ·obtain⟨rfl,rfl⟩:=e;rw[zc ⟨rfl,rfl⟩,k];simp only;cases q with
   |nil=>simp at d;omega
   |cons x q=>
    simp only[Rl,i];by_cases f:c=T.qi.length
    ·omega
    ·rw[za (fun q=>f q.1.symm)];cases g:zG T T.qi.length x with
     |none=>rfl
     |some y=>have:=(dW g).1;omega
  ·rw[za e];cases g:zG T c u with
   |none=>rfl
   |some b=>
    simp only;by_cases m:(pth c).length+1<T.ql
    ·obtain⟨l,o⟩:=h.kid c u b g m;exact h.grow_sem n k i q b l (by rw[o];simp;omega)
    ·cases q with
     |nil=>rfl
     |cons x q=>simp at d;omega
theorem ke.put_sem{T C:zi}{pth:Nat->zm}(h:ke T pth){a v m:Nat}(I:(pth a).length+1=T.ql)(A:a<T.qi.length)(L:zG T a v=none)(F:∀b u,zG C b u=if b=a/\u=v then some m else zG T b u):∀(q:zm) (c:Nat),c<T.qi.length->(pth c).length+q.length=T.ql->Rl C c q=if pth c++q=pth a++[v] then some m else Rl T c q
 |[],c,j,o=>by have:=h.lev c j;simp at o;omega
 |u::q,c,j,o=>by
  simp only[Rl,F];simp only[xd] at o;by_cases H:(pth c).length+1<T.ql
  ·have B:c≠a:=by rintro rfl;omega
   rw[za (fun q=>B q.1)];cases E:zG T c u with
   |none=>
    simp only;rw[za];intro e;have w:∀(k:Nat) (q:zm) (b:Nat),q.length=k->b<T.qi.length->pth c++u::q=pth b->False:=by
     intro k;induction k with
     |zero=>
      intro q b p z e;have:q=[]:=mF.1 p;subst this;have g:b≠0:=by rintro rfl;rw[h.root] at e;simp at e
      obtain⟨x,y,l,M,n⟩:=h.par b z g;rw[←e] at n;have f:=pQ n rfl;have:=h.inj c x j (dW l).1 f.1;subst this;simp only[mU,and_true] at f;rw[←f.2,E] at l;cases l
     |succ k J=>
      intro q b p z e;have g:b≠0:=by rintro rfl;rw[h.root] at e;simp at e
      obtain⟨x,y,l,M,n⟩:=h.par b z g;have d:q≠[]:=by rintro rfl;simp at p
      have i:q=q.dropLast++[q.getLast d]:=(List.dropLast_concat_getLast d).symm;rw[←e,i] at n;have t:(pth c++u::q.dropLast)++[q.getLast d]=pth x++[y]:=by rw[←n];simp
      have f:=pQ t rfl;exact J q.dropLast x (by simp[p]) (dW l).1 f.1
    have d:q≠[]:=by rintro rfl;simp at o;omega
    have i:q=q.dropLast++[q.getLast d]:=(List.dropLast_concat_getLast d).symm;rw[i] at e;have t:(pth c++u::q.dropLast)++[q.getLast d]=pth a++[v]:=by rw[←e];simp
    have f:=pQ t rfl;exact w _ q.dropLast a rfl A f.1
   |some b=>
    simp only;obtain⟨G,D⟩:=h.kid c u b E H;rw[h.put_sem I A L F q b G (by rw[D];simp;omega),D];simp
  ·have r:q=[]:=mF.1 (by have:=h.lev c j;omega);subst r;by_cases e:c=a/\u=v
   ·obtain⟨rfl,rfl⟩:=e;simp[Rl]
   ·rw[za e];have s:¬pth c++[u]=pth a++[v]:=by
     intro K;have f:=pQ K rfl;exact e ⟨h.inj c a j A f.1,by simpa using f.2⟩
    rw[za s];cases zG T c u<;>rfl
theorem ke.reach{T:zi}(h:ke T pth):∀(k:Nat) (b:Nat),b<T.qi.length->(pth b).length=k->Rl T 0 (pth b)=some b:=by
 intro k;induction k with
 |zero=>
  intro b c a;have e:pth b=pth 0:=by rw[h.root];exact mF.1 a
  have:=h.inj b 0 c h.pos e;subst this;rw[h.root];rfl
 |succ k j=>
  intro b c a;have d:b≠0:=by rintro rfl;rw[h.root] at a;simp at a
  obtain⟨x,y,g,l,f⟩:=h.par b c d;have i:=j x (dW g).1 (by rw[f] at a;simpa using a);rw[f,np,i];simp[Rl,g]
theorem im(m:Nat):∀(r:zm) (T:zi) (pth:Nat->zm) (a:Nat),ke T pth->a<T.qi.length->T.ql<=(pth a).length+r.length->(∀v∈r,v<T.qf)->S1 T (vn m T a (pth a).length r).1 (pth a++r.take (T.ql-(pth a).length)) m (vn m T a (pth a).length r).2 (T.ql-1-(pth a).length)
 |[],T,pth,a,h,z,H,_=>by have:=h.lev a z;simp at H;omega
 |v::r,T,pth,a,h,z,H,K=>by
  have R:=h.lev a z;have U:v<T.qf:=K v (by simp);have j:=h.reach _ a z rfl;simp only[xd] at H;unfold vn;by_cases V:(pth a).length+1≥T.ql
  ·rw[zc V];have P:T.ql-(pth a).length=1:=by omega
   rw[P];have i:xY T (pth a++(v::r).take 1)=zG T a v:=by
    unfold xY;rw[np,j];simp only[nR,List.take_zero,Option.bind_some,Rl];cases zG T a v<;>rfl
   unfold gK;cases g:zG T a v with
   |some b=>
    refine⟨⟨pth,h⟩,rfl,rfl,by rw[i,g];rfl,fun _=>rfl,fun q=>by simp at q,fun q o=>?_⟩;by_cases e:q=pth a++(v::r).take 1
    ·subst e;rw[zc rfl,i,g];rfl
    ·rw[za e]
   |none=>
    have s:=EZ h.node (d:=m) z U g;have O:∀q c,Rl {yb T a v m with count:=(yb T a v m).count+1} c q=Rl (yb T a v m) c q:=by
     intro q;induction q with
     |nil=>intro c;rfl
     |cons x q f=>
      intro c;simp only[Rl];have:zG {yb T a v m with count:=(yb T a v m).count+1} c x=zG (yb T a v m) c x:=rfl;rw[this];cases zG (yb T a v m) c x with
      |none=>rfl
      |some b=>exact f b
    refine⟨⟨pth,?_⟩,nI _ _ _ _,pu _ _ _ _,by rw[i,g];rfl,fun q=>by simp at q,fun _=>⟨by simp[Dz],by simp[fY]⟩,fun q o=>?_⟩
    ·have l:∀b u,zG {yb T a v m with count:=(yb T a v m).count+1} b u=if b=a/\u=v then some m else zG T b u:=s.2
     refine⟨by show 1<=(yb T a v m).ql/\(yb T a v m).ql<=3;rw[pu];exact h.dep,by show 1<=(yb T a v m).qf;rw[nI];exact h.wid,by show 0<(yb T a v m).qi.length;rw[fY];exact h.pos,s.1,h.root,fun c F=>by show _<(yb T a v m).ql;rw[pu];exact h.lev c (by simpa [fY] using F),fun c d F L e=>h.inj c d (by simpa [fY] using F) (by simpa [fY] using L) e,fun c u b t M=>?_,fun b Y I=>?_⟩
     ·rw[l] at t;have A:(pth c).length+1<T.ql:=by simpa [pu] using M
      by_cases e:c=a/\u=v
      ·obtain⟨rfl,rfl⟩:=e;omega
      ·rw[za e] at t;obtain⟨G,B⟩:=h.kid c u b t A;exact⟨by simpa [fY] using G,B⟩
     ·obtain⟨c,u,J,Z,W⟩:=h.par b (by simpa [fY] using Y) I;refine⟨c,u,?_,by simpa [pu] using Z,W⟩;rw[l,za]
      ·exact J
      ·rintro⟨rfl,rfl⟩;rw[g] at J;cases J
    ·unfold xY;rw[O,h.put_sem (by omega) z g s.2 q 0 h.pos (by rw[h.root];simpa using o),h.root];have D:(v::r).take 1=[v]:=by simp
     rw[D,pL];by_cases e:q=pth a++[v]
     ·rw[zc e,zc e];have:Rl T 0 q=none:=by rw[e];have:=i;unfold xY at this;rw[D] at this;rw[this,g]
      rw[this];rfl
     ·rw[za e,za e]
  ·rw[za V];obtain⟨N,l⟩:∃N,T.ql-(pth a).length=N+1:=⟨T.ql-(pth a).length-1,by omega⟩;have C:∀p:zm,p=pth a++[v]->p++r.take (T.ql-p.length)=pth a++(v::r).take (T.ql-(pth a).length):=by
    rintro p rfl;rw[l,nR];have:T.ql-(pth a++[v]).length=N:=by simp;omega
    rw[this];simp
   unfold qb;cases g:zG T a v with
   |some b=>
    obtain⟨G,B⟩:=h.kid a v b g (by omega);have f:=im m r T pth b h G (by rw[B];simp;omega) (fun x g=>K x (by simp[g]));rw[C _ B] at f;have e:(pth b).length=(pth a).length+1:=by rw[B];simp
    rw[e] at f;exact⟨f.inv,f.qf,f.ql,f.is,f.same,fun q=>⟨(f.more q).1,by have:=(f.more q).2;simp only at this ⊢;omega⟩,f.sem⟩
   |none=>
    obtain⟨g1,X,S,Q,E,g6⟩:=h.grow z U (by omega) g;have f:=im m r (yb (yx T) a v T.qi.length) _ T.qi.length g1 (by rw[S];omega) (by rw[zc rfl,E];simp;omega) (fun x g=>by rw[Q];exact K x (by simp[g]));rw[zc rfl,E,C _ rfl] at f;have e:(pth a++[v]).length=(pth a).length+1:=by simp
    rw[e] at f;have n:∀q:zm,q.length=T.ql->xY (yb (yx T) a v T.qi.length) q=xY T q:=fun q o=>h.grow_sem (by omega) g X q 0 h.pos (by rw[h.root];simpa using o);have y:(pth a++(v::r).take (T.ql-(pth a).length)).length=T.ql:=by simp;omega
    have k:xY T (pth a++(v::r).take (T.ql-(pth a).length))=none:=by
     unfold xY;rw[np,j,l,nR];simp[Rl,g]
    have w:=f.is;rw[n _ y,k] at w;refine⟨f.inv,by rw[f.qf,Q],by rw[f.ql,E],by rw[k];exact w,fun q=>?_,fun q=>⟨by rw[(f.more q).1,g6],by have:=(f.more q).2;rw[S] at this;simp only at this ⊢;omega⟩,fun q o=>?_⟩
    ·rw[w] at q;cases q
    ·rw[f.sem q (by rw[E];exact o),n q o]
end
section
variable {T:zi}{pth:Nat->zm}
theorem Hc(h:ke T pth)(row:zm)(m:Nat)(b:row.length=3)(a:ld T row=true):S1 T (addP T row m).1 (row.take T.ql) m (addP T row m).2 (T.ql-1):=by
 have:=im m row T pth 0 h h.pos (by rw[h.root];simp[b];exact h.dep.2) (fun v c=>by simp only[ld,ko,decide_eq_true_eq] at a;exact a v c);rw[h.root] at this;unfold addP;rw[zc a];simpa using this
theorem Em(w d:Nat):(yS w d).qf=zM w:=rfl
theorem p6(w d:Nat):(yS w d).ql=yY d:=rfl
theorem fX(d:Nat):1<=yY d/\yY d<=3:=by unfold yY;by_cases a:d<1<;>by_cases b:d>3<;>simp[a,b]<;>omega
theorem Az(w d a v:Nat):zG (yS w d) a v=none:=by
 rw[l6];refine za fun q=>?_;have b:a=0:=by have:=q.1;simp[yS,yx] at this;exact this
 subst b;exact(kz.new (zM w)).2 v q.2
theorem PL(w d:Nat):ke (yS w d) (fun _=>[]):=by
 refine⟨fX d,by show 1<=zM w;unfold zM;split<;>omega,by simp[yS,yx],?_,rfl,fun a _=>by show 0<yY d;exact(fX d).1,fun a b c e _=>?_,(fun a v b f=>by rw[Az] at f;exact zC f (by simp)),fun b e h=>?_⟩
 ·intro a c;have g:a=0:=by simp[yS,yx] at c;exact c
  subst g;exact(kz.new (zM w)).1
 ·simp[yS,yx] at c e;omega
 ·simp[yS,yx] at e;omega
theorem tr(w d:Nat)(q:zm)(a:q≠[]):xY (yS w d) q=none:=by
 cases q with
 |nil=>exact zC rfl a
 |cons v q=>simp[xY,Rl,Az]
theorem F2(T:zi):∀(r:zm) (a level:Nat),level<T.ql->T.ql<=level+r.length->uE T a level r=Rl T a (r.take (T.ql-level))
 |[],a,level,d,c=>by simp at c;omega
 |v::r,a,level,d,c=>by
  obtain⟨k,f⟩:∃k,T.ql-level=k+1:=⟨T.ql-level-1,by omega⟩;unfold uE;rw[f,nR];simp only[Rl];cases g:zG T a v with
  |none=>rfl
  |some b=>
   simp only;by_cases e:level+1≥T.ql
   ·rw[zc e];have:k=0:=by omega
    subst this;simp[Rl]
   ·rw[za e,F2 T r b (level+1) (by omega) (by simp at c;omega)];have:T.ql-(level+1)=k:=by omega
    rw[this]
theorem JN(h:ke T pth)(row:zm)(a:row.length=3):uo T row=xY T (row.take T.ql):=by
 have:=F2 T row 0 0 (by have:=h.dep.1;omega) (by rw[a];have:=h.dep.2;omega);simpa [uo,xY] using this
def qr(T:zi):Nat->Nat->Nat->List zm
 |0,_,_=>[[]]
 |d+1,a,f=>(List.range' f (T.qf-f)).flatMap fun v=>match zG T a v with
  |none=>[]
  |some b=>(qr T d b 0).map (v::·)
theorem Iw{d a f:Nat}(h:∀u,f<=u->zG T a u=none):qr T (d+1) a f=[]:=by
 simp only[qr,List.flatMap_eq_nil_iff,List.mem_range'_1];intro v b;rw[h v b.1]
theorem Kj{d a v b:Nat}:∀(n f:Nat),v-f=n->f<=v->v<T.qf->zG T a v=some b->(∀u,f<=u->u<v->zG T a u=none)->qr T (d+1) a f=(qr T d b 0).map (v::·)++qr T (d+1) a (v+1):=by
 intro n;induction n with
 |zero=>
  intro f l j h e _;have:f=v:=by omega
  subst this;obtain⟨k,g⟩:∃k,T.qf-f=k+1:=⟨T.qf-f-1,by omega⟩;have c:T.qf-(f+1)=k:=by omega
  simp only[qr,g,c,List.range'_succ,uw,e]
 |succ n o=>
  intro f l j h e i;obtain⟨k,g⟩:∃k,T.qf-f=k+1:=⟨T.qf-f-1,by omega⟩;have c:T.qf-(f+1)=k:=by omega
  rw[←o (f+1) (by omega) (by omega) h e (fun u p m=>i u (by omega) m)];simp only[qr,g,c,List.range'_succ,uw,i f (zg _) (by omega),pL]
theorem DG(row:zm)(l v:Nat)(k:zm)(a:l<row.length):(row.set l v).take (l+1)++k=row.take l++v::k:=by
 have:(row.set l v).take (l+1)=row.take l++[v]:=by
  rw[yM (by simpa using a),List.take_set_of_le (zg _)];simp
 rw[this];simp
theorem Mo(row:zm)(l v j:Nat)(a:l<j):(row.set l v).drop j=row.drop j:=by
 rw[List.drop_set,zc a]
theorem Gz(H:f5 T)(S:T.ql<=3):∀(n a level f:Nat) (row:zm) (c:List zm),level<T.ql->row.length=3->f<=T.qf->(T.qf-f)+1+(T.ql-level-1)*(T.qf+1)<=n →
  ∃g,xE T n a level f row c=some (g,c++(qr T (T.ql-level) a f).map fun k=>row.take level++k++row.drop T.ql)/\g.length=3/\g.take level=row.take level/\g.drop T.ql=row.drop T.ql:=by
 intro n;induction n with
 |zero=>intro a level f row c t w R s;omega
 |succ n y=>
  intro a level f row c t w R s;obtain⟨d,D⟩:∃d,T.ql-level=d+1:=⟨T.ql-level-1,by omega⟩;unfold xE;cases E:yz T a f with
  |none=>
   refine⟨row,?_,w,rfl,rfl⟩;rw[D,Iw (Ay H E)];simp
  |some v=>
   obtain⟨I,O,K,P⟩:=Dq H E;obtain⟨b,G⟩:=my.1 K;have m:=Kj (d:=d) _ f rfl I O G P;simp only;have l:(row.set level v).length=3:=by simpa using w
   have r:level<row.length:=by omega
   have h:(row.set level v).drop T.ql=row.drop T.ql:=Mo row level v T.ql t;have i:(row.set level v).take level=row.take level:=by rw[List.take_set_of_le (zg _)]
   have p:T.ql-level-1=d:=by omega
   by_cases e:level+1≥T.ql
   ·rw[zc e];have x:d=0:=by omega
    subst x;obtain⟨g,C,B,z,u⟩:=y a level (v+1) (row.set level v) (c++[row.set level v]) t l (by omega) (by rw[p] at s ⊢;omega);refine⟨g,?_,B,by rw[z,i],by rw[u,h]⟩;rw[C,D,m];simp only[qr,xI,List.map_nil,lE,pL,i,h,kH,zt,ya,true_and];congr 2;have:=DG row level v (row.drop T.ql) r;have N:T.ql=level+1:=by omega
    rw[←h,N] at this ⊢;rw[qZ] at this;exact this
   ·rw[za e,za (by omega),G];simp only[ur];have U:d*(T.qf+1)=(d-1)*(T.qf+1)+(T.qf+1):=by
     obtain⟨j,rfl⟩:∃j,d=j+1:=⟨d-1,by omega⟩;simp[Nat.succ_mul]
    have A:T.ql-(level+1)-1=d-1:=by omega
    have q:T.ql-(level+1)=d:=by omega
    obtain⟨o,C,B,z,u⟩:=y b (level+1) 0 (row.set level v) c (by omega) l (by omega) (by rw[p] at s;rw[A];omega);rw[C];simp only;obtain⟨g,M,Q,J,L⟩:=y a level (v+1) o (c++(qr T (T.ql-(level+1)) b 0).map fun k=>(row.set level v).take (level+1)++k++(row.set level v).drop T.ql) t B (by omega) (by rw[p] at s ⊢;omega);have F:o.take level=row.take level:=by
     have:=congrArg (List.take level) z;rwa [List.take_take,List.take_take,dP (by omega),i] at this
    refine⟨g,?_,Q,by rw[J,F],by rw[L,u,h]⟩;rw[M,D,m,q,F,u,h,uQ,ml,←kH];congr 3;refine congrArg (c++·) (kT fun k _=>?_);simp only[Function.comp];rw[DG row level v k r]
def RM(k:zm)(d:Nat):zm:=k++([0,0,0]:zm).drop d
theorem IX(h:ke T pth)(a:Nat)(f:3*(T.qf+1)<=a):nU a T=some ((qr T T.ql 0 0).map fun k=>RM k T.ql):=by
 have d:=h.dep;have e:T.qf+1+(T.ql-1)*(T.qf+1)<=3*(T.qf+1):=by
  have:(T.ql-1)*(T.qf+1)<=2*(T.qf+1):=d8 _ (by omega);omega
 obtain⟨b,c,_,_,_⟩:=Gz h.node d.2 a 0 0 0 [0,0,0] [] (by omega) rfl (by omega) (by simp;omega);unfold nU;rw[c];simp[RM]
theorem iu(T:zi):∀(d a f:Nat) (k:zm),k∈qr T d a f↔k.length=d/\(Rl T a k).isSome=true/\(0<d->f<=k.headD 0)
 |0,a,f,k=>by
  simp only[qr,xF];constructor
  ·rintro rfl;simp[Rl]
  ·rintro⟨h,_⟩;exact mF.1 h
 |d+1,a,f,k=>by
  simp only[qr,uJ,List.mem_range'_1];constructor
  ·rintro⟨v,n,g⟩;cases c:zG T a v with
   |none=>rw[c] at g;simp at g
   |some b=>
    rw[c] at g;simp only[zy] at g;obtain⟨m,j,rfl⟩:=g;obtain⟨i,e,_⟩:=(iu T d b 0 m).1 j;refine⟨by simp[i],?_,fun _=>by simpa using n.1⟩;simp only[Rl,c];exact e
  ·rintro⟨i,e,l⟩;cases k with
   |nil=>simp at i
   |cons v k=>
    simp only[Rl] at e;simp only[List.headD_cons] at l;cases c:zG T a v with
    |none=>rw[c] at e;simp at e
    |some b=>
     rw[c] at e;have o:=(dW c).2;have:=l (by omega);refine⟨v,by omega,?_⟩;rw[c];simp only[zy];exact⟨k,(iu T d b 0 k).2 ⟨by simpa using i,e,fun _=>zv _⟩,rfl⟩
end
def SH:zm->zm->Prop
 |a::x,b::y=>a<b∨a=b/\SH x y
 |_,_=>False
theorem Ei:∀x:zm,¬SH x x
 |[]=>id
 |a::x=>by
  rintro(h|⟨_,h⟩)
  ·omega
  ·exact Ei x h
theorem AV(T:zi):∀(d a f:Nat),(qr T d a f).Pairwise SH
 |0,a,f=>by simp[qr]
 |d+1,a,f=>by
  simp only[qr];rw[List.pairwise_flatMap];refine⟨fun v _=>?_,?_⟩
  ·cases zG T a v with
   |none=>exact List.Pairwise.nil
   |some b=>
    simp only;rw[lI];exact(AV T d b 0).imp fun h=>zb ⟨rfl,h⟩
  ·refine List.Pairwise.imp ?_ (List.pairwise_lt_range' (s:=f) (n:=T.qf-f));intro v u i x g y e;cases j:zG T a v with
   |none=>rw[j] at g;simp at g
   |some b=>
    rw[j] at g;cases k:zG T a u with
    |none=>rw[k] at e;simp at e
    |some c=>
     rw[k] at e;simp only[zy] at g e;obtain⟨m,_,rfl⟩:=g;obtain⟨l,_,rfl⟩:=e;exact zf i
theorem ig(T:zi)(d a f:Nat):(qr T d a f).Nodup:=by
 refine(AV T d a f).imp ?_;rintro x y h rfl;exact Ei x h
theorem ew:∀{l1 l2:List zm},l1.Nodup->(∀x∈l1,x∈l2)->l1.length<=l2.length
 |[],l2,_,_=>by simp
 |a::l1,l2,e,c=>by
  have d:=c a (by simp);have g:=ew (l1:=l1) (l2:=l2.erase a) (qL.1 e).2 (fun x f=>by
   have b:x≠a:=by rintro rfl;exact(qL.1 e).1 f
   exact(fV b).2 (c x (by simp[f])))
  rw[lK d] at g;have:=m7 d;simp;omega
theorem N3{l1 l2:List zm}(c:l1.Nodup)(b:l2.Nodup)(h:∀x,x∈l1↔x∈l2):l1.length=l2.length:=
 Nat.le_antisymm (ew c fun x a=>(h x).1 a) (ew b fun x a=>(h x).2 a)
def Rg(T:zi):List zm:=qr T T.ql 0 0
theorem qY(T:zi)(k:zm):k∈Rg T↔k.length=T.ql/\(xY T k).isSome=true:=by
 unfold Rg;rw[iu];exact⟨fun h=>⟨h.1,h.2.1⟩,fun h=>⟨h.1,h.2,fun _=>zv _⟩⟩
structure vH (T:zi):Prop where
 inv:∃pth,ke T pth
 cnt:(Rg T).length=T.count
 room:T.qi.length<=1+2*T.count
theorem vH.new(w d:Nat):vH (yS w d):=by
 refine⟨⟨_,PL w d⟩,?_,by simp[yS,yx]⟩;have:Rg (yS w d)=[]:=by
  rw[List.eq_nil_iff_forall_not_mem];intro k c;obtain⟨a,b⟩:=(qY _ k).1 c;rw[tr w d k (by rintro rfl;have:=(fX d).1;rw[p6] at a;simp at a;omega)] at b;cases b
 rw[this];rfl
theorem tN{T:zi}:∀(k:zm) (a:Nat),(Rl T a k).isSome=true->∀v∈k,v<T.qf
 |[],_,_,v,c=>by cases c
 |u::k,a,h,v,c=>by
  simp only[Rl] at h;cases d:zG T a u with
  |none=>rw[d] at h;simp at h
  |some b=>
   rw[d] at h;rcases zx.1 c with rfl|c
   ·exact(dW d).2
   ·exact tN k b h v c
theorem vH.add{T:zi}(h:vH T)(row:zm)(m:Nat)(j:row.length=3)(o:ld T row=true):
  vH (addP T row m).1/\(addP T row m).1.qf=T.qf/\(addP T row m).1.ql=T.ql/\(addP T row m).2=(xY T (row.take T.ql)).isNone/\((addP T row m).2=false->(addP T row m).1=T)/\((addP T row m).2=true->(addP T row m).1.count=T.count+1)/\∀q,q.length=T.ql->xY (addP T row m).1 q=if q=row.take T.ql then some ((xY T q).getD m) else xY T q:=by
 obtain⟨l,i⟩:=h.inv;have a:=Hc i row m j o;have p:=i.dep;refine⟨⟨a.inv,?_,?_⟩,a.qf,a.ql,a.is,a.same,fun q=>(a.more q).1,a.sem⟩
 ·cases b:(addP T row m).2 with
  |false=>rw[a.same b];exact h.cnt
  |true=>
   rw[(a.more b).1,←h.cnt];have f:=a.is;rw[b] at f;have d:(row.take T.ql).length=T.ql:=by rw[qt,j];omega
   have g:row.take T.ql∉Rg T:=fun n=>by
    have:=((qY T _).1 n).2;rw[←Option.not_isNone,←f] at this;cases this
   have:=N3 (l1:=Rg (addP T row m).1) (l2:=row.take T.ql::Rg T) (ig _ _ _ _) (qL.2 ⟨g,ig _ _ _ _⟩) (fun k=>by
    rw[qY,a.ql,zx,qY];by_cases c:k.length=T.ql
    ·rw[a.sem k c];by_cases e:k=row.take T.ql
     ·simp[e,d]
     ·simp[e,c]
    ·constructor
     ·intro q;exact zC q.1 c
     ·rintro(q|q)
      ·rw[q] at c;exact zC d c
      ·exact zC q.1 c)
   simpa using this
 ·cases b:(addP T row m).2 with
  |false=>rw[a.same b];exact h.room
  |true=>
   have:=a.more b;have:=h.room;omega
theorem vH.rows{T:zi}(h:vH T)(a:Nat)(b:3*(T.qf+1)<=a):nU a T=some ((Rg T).map fun k=>RM k T.ql):=by
 obtain⟨d,c⟩:=h.inv;exact IX c a b
theorem vH.rowsG{T:zi}(h:vH T)(a:Nat)(c:3*(T.qf+1)<=a)(b:T.count<=1048576):rowsG a T=some ((Rg T).map fun k=>RM k T.ql):=by
 unfold Go.Proofs.YteampbddflhngaaGreat.rowsG;rw[h.rows a c];simp[h.cnt,b]
theorem vH.okT{T:zi}(h:vH T)(a:T.count<=10000000):okT T=true:=by
 have:=h.room;simp only[Go.Proofs.YteampbddflhngaaGreat.okT,ux,decide_eq_true_eq];omega
theorem vH.mark{T:zi}(h:vH T)(row:zm)(a:row.length=3):uo T row=xY T (row.take T.ql):=by
 obtain⟨c,b⟩:=h.inv;exact JN b row a
def j8(J:z9)(h:Nat×Nat)(v:Nat):Option Nat:=zG (J.qy.getD h.1 yK.zero).rows ((J.qy.getD h.1 yK.zero).qi.getD h.2 0) v
def iA(J:z9):Prop:=∀i,f5 (J.qy.getD i yK.zero).rows
def qS(J a:z9):Prop:=a={J with jf:=a.jf}
theorem qS.trans{a b c:z9}(h:qS a b)(k:qS b c):qS a c:=by
 unfold qS at *;rw[h] at k;exact k
theorem qS.qy{a b:z9}(h:qS a b):b.qy=a.qy:=by rw[h]
theorem N0{J:z9}{h:Nat×Nat}{f:Nat}(hs:vD J h=true):qS J (vL J h f).1/\(vL J h f).2=yz (J.qy.getD h.1 yK.zero).rows ((J.qy.getD h.1 yK.zero).qi.getD h.2 0) f:=by
 unfold vL;rw[zc hs];exact⟨rfl,rfl⟩
def rT(a b c i:Nat):Prop:=i<a/\a<=i+b∨a<=i/\a+c<=i+b
def CE(J:z9)(hs:List (Nat×Nat))(f:Nat):Option Nat->Prop
 |none=>∀u,f<=u->∃h∈hs,j8 J h u=none
 |some v=>f<=v/\(∀h∈hs,(j8 J h v).isSome=true)/\∀u,f<=u->u<v->∃h∈hs,j8 J h u=none
theorem Kz{J a:z9}(h:qS J a)(x:Nat×Nat)(v:Nat):j8 a x v=j8 J x v:=by unfold j8;rw[h.qy]
theorem O2(W f:Nat)(hs:List (Nat×Nat))(j:z9)(B:iA j)(D:∀h∈hs,vD j h=true)(R:∀h∈hs,∀v,(j8 j h v).isSome=true->v<W):
  ∀(n:Nat) (J:z9) (at' b a:Nat),qS j J->f<=at'->a<hs.length->b<=hs.length->(∀u,f<=u->u<at'->∃h∈hs,j8 j h u=none)->(∀i (t:i<hs.length),rT a b hs.length i->(j8 j hs[i] at').isSome=true)->(W-at')*(hs.length+1)+(hs.length-b)<n →
  ∃I m,kx n J hs at' b a=some (I,m)/\qS j I/\CE j hs f m:=by
 intro n;induction n with
 |zero=>intro J at' b a _ _ _ _ _ _ h;omega
 |succ n F=>
  intro J at' b a y G H O d w Y;unfold kx;by_cases x:b<hs.length
  ·rw[zc x];have M:hs.getD a (0,0)=hs[a]:=by simp[List.getD,H]
   have c:hs[a]∈hs:=zs H;have r:vD J hs[a]=true:=by
    have:=D _ c;unfold vD at this ⊢;rw[y.qy];exact this
   obtain⟨z,p⟩:=N0 (f:=at') r;rw[y.qy] at p;rw[M];cases U:vL J hs[a] at' with
   |mk E o=>
    rw[U] at z p;simp only at z p;have k:=y.trans z;have s:=B hs[a].1;cases o with
    |none=>
     refine⟨E,none,rfl,k,fun u T=>?_⟩;by_cases l:u<at'
     ·exact d u T l
     ·exact⟨hs[a],c,Ay s p.symm u (by omega)⟩
    |some v=>
     obtain⟨X,V,A,Q⟩:=Dq s p.symm;have K:=R _ c v A;simp only;by_cases g:v>at'
     ·rw[zc g,zc g];refine F E v (0+1) _ k (by omega) (by split<;>omega) (by omega) (fun u N L=>?_) (fun i t q=>?_) ?_
      ·by_cases l:u<at'
       ·exact d u N l
       ·exact⟨hs[a],c,Q u (by omega) L⟩
      ·have:i=a:=by
        unfold rT at q;split at q<;>omega
       subst this;exact A
      ·have e:W-at'=(W-v)+(v-at'):=by omega
       have:(W-at')*(hs.length+1)=(W-v)*(hs.length+1)+(v-at')*(hs.length+1):=by rw[e,hY]
       have:1*(hs.length+1)<=(v-at')*(hs.length+1):=d8 _ (by omega);omega
     ·have P:v=at':=by omega
      subst P;rw[za g,za g];refine F E v (b+1) _ k G (by split<;>omega) (by omega) d (fun i t q=>?_) (by omega);by_cases C:i=a
      ·subst C;exact A
      ·refine w i t ?_;unfold rT at q ⊢;split at q<;>omega
  ·rw[za x];refine⟨J,some at',rfl,y,G,fun h S=>?_,d⟩;obtain⟨i,t,rfl⟩:=qa S;refine w i t ?_;unfold rT;omega
theorem I4(W:Nat)(J:z9)(place f n:Nat)(p:place<5)(d:iA J)(e:J.je.getD place []≠[])(g:∀h∈J.je.getD place [],vD J h=true)(k:∀h∈J.je.getD place [],∀v,(j8 J h v).isSome=true->v<W)(s:W*((J.je.getD place []).length+1)+(J.je.getD place []).length<n):
  ∃j b,fh n J place f=some (j,b)/\qS J j/\CE J (J.je.getD place []) f b:=by
 have c:0<(J.je.getD place []).length:=by
  cases m:J.je.getD place [] with
  |nil=>exact zC m e
  |cons a l=>simp
 unfold fh;rw[za (by omega)];refine O2 W f _ J d g k n J f 0 0 rfl (zg _) c (by omega) (fun u r t=>by omega) (fun i q o=>by unfold rT at o;omega) ?_;have:(W-f)*((J.je.getD place []).length+1)<=W*((J.je.getD place []).length+1):=d8 _ (by omega);omega
section
variable {jd:Int}
def y9(l:zu)(d:Nat):List Nat:=(List.range d).filter (zH l)
def yn(l:zu)(vals:List Nat)(d:Nat):zm:=(y9 l d).map fun p=>vals.getD p 0
theorem lM(l:zu)(d:Nat):y9 l (d+1)=if zH l d then y9 l d++[d] else y9 l d:=by
 unfold y9;rw[List.range_succ,r8];by_cases h:zH l d<;>simp[h]
theorem pK(l:zu)(d p:Nat):p∈y9 l d↔p<d/\zH l p=true:=by simp[y9]
theorem wU(l:zu){a b:Nat}(h:a<=b):y9 l a <+: y9 l b:=by
 induction h with
 |refl=>exact List.prefix_rfl
 |step h c=>
  rw[lM];split
  ·exact c.trans (List.prefix_append _ _)
  ·exact c
theorem oq(l:zu)(p:Nat):yN l p=if zH l p then some (y9 l p).length else none:=by
 unfold yN y9;rw[ra]
theorem f9(l:zu):yO l=(y9 l 5).length:=by
 unfold yO y9;rw[ra]
theorem nN(l:zu)(vals:List Nat)(d:Nat):(yn l vals d).length=(y9 l d).length:=by simp[yn]
theorem so(l:zu){x y:List Nat}{d:Nat}(h:∀p,p<d->zH l p=true->x.getD p 0=y.getD p 0):yn l x d=yn l y d:=by
 unfold yn;refine kT fun p a=>?_;have:=(pK l d p).1 a;exact h p this.1 this.2
theorem eL(l:zu)(vals:List Nat){a b:Nat}(h:a<=b):yn l vals a=(yn l vals b).take (y9 l a).length:=by
 obtain⟨t,c⟩:=wU l h;unfold yn;rw[←c];simp
theorem DF(l:zu)(vals:List Nat)(d v:Nat)(c:d<vals.length):yn l (vals.set d v) (d+1)=if zH l d then yn l vals d++[v] else yn l vals d:=by
 have a:(y9 l d).map (fun p=>(vals.set d v).getD p 0)=(y9 l d).map fun p=>vals.getD p 0:=by
  refine kT fun p b=>?_;have:=(pK l d p).1 b;rw[uv,za (by omega)]
 unfold yn;rw[lM];split
 ·rw[uQ,a];simp[c]
 ·exact a
theorem iT:∀{l1 l2:List Nat},l1.Nodup->(∀x∈l1,x∈l2)->l1.length<=l2.length
 |[],l2,_,_=>by simp
 |a::l1,l2,e,c=>by
  have d:=c a (by simp);have g:=iT (l1:=l1) (l2:=l2.erase a) (qL.1 e).2 (fun x f=>by
   have b:x≠a:=by rintro rfl;exact(qL.1 e).1 f
   exact(fV b).2 (c x (by simp[f])))
  rw[lK d] at g;have:=m7 d;simp;omega
theorem fK(l:zu)(p:Nat):zH l p=true↔∃t∈l.qg,t.var=true/\t.num=p:=by
 unfold zH;rw[gI];constructor
 ·rintro⟨t,b,a⟩;simp only[ux,beq_iff_eq] at a;exact⟨t,b,a.1,a.2⟩
 ·rintro⟨t,b,a,c⟩;exact⟨t,b,by simp[a,c]⟩
theorem oL(l:zu)(d:Nat):(y9 l d).length<=l.qg.length:=by
 have:=iT (l1:=y9 l d) (l2:=l.qg.map (·.num)) (List.nodup_range.filter _) (fun p a=>by
  obtain⟨t,b,_,c⟩:=(fK l p).1 ((pK l d p).1 a).2;exact zy.2 ⟨t,b,c⟩)
 simpa using this
theorem rK(jd:Int):∀(ts:List zZ) (k:Int),k<=ts.foldl (fun k t=>if t.var&&decide ((t.num:Int)<jd)&&decide ((t.num:Int)>k) then(t.num:Int) else k) k/\(∀t∈ts,t.var=true->(t.num:Int)<jd->(t.num:Int)<=ts.foldl (fun k t=>if t.var&&decide ((t.num:Int)<jd)&&decide ((t.num:Int)>k) then(t.num:Int) else k) k)/\(k<jd->ts.foldl (fun k t=>if t.var&&decide ((t.num:Int)<jd)&&decide ((t.num:Int)>k) then(t.num:Int) else k) k<jd)
 |[],k=>⟨Int.le_refl _,fun t h=>(by cases h),fun h=>h⟩
 |t::ts,k=>by
  simp only[ut];by_cases b:(t.var&&decide ((t.num:Int)<jd)&&decide ((t.num:Int)>k))=true
  ·rw[zc b];simp only[ux,decide_eq_true_eq] at b;obtain⟨f,g,e⟩:=rK jd ts (t.num:Int);refine⟨by omega,fun u a c d=>?_,fun _=>e (by omega)⟩;rcases zx.1 a with rfl|a
   ·exact f
   ·exact g u a c d
  ·rw[za b];obtain⟨f,g,e⟩:=rK jd ts k;refine⟨f,fun u a c d=>?_,e⟩;rcases zx.1 a with rfl|a
   ·have:(u.num:Int)<=k:=by
     simp only[c,d,mY,decide_true,decide_eq_true_eq] at b;omega
    omega
   ·exact g u a c d
theorem oQ(l:zu){p:Nat}(a:zH l p=true)(e:(p:Int)<jd):(p:Int)<=jT l jd:=by
 obtain⟨t,b,c,d⟩:=(fK l p).1 a;have:=(rK jd l.qg (-1)).2.1 t b c (by omega);unfold jT;omega
theorem Cg(l:zu)(a:0<=jd):jT l jd<jd:=(rK jd l.qg (-1)).2.2 (by omega)
theorem Hj(l:zu)(jd:Int):-1<=jT l jd:=(rK jd l.qg (-1)).1
theorem tp:∀(ts:List zZ) (k:Nat),k<=ts.foldl (fun k t=>if t.var&&decide (t.num≥k) then t.num+1 else k) k/\(∀t∈ts,t.var=true->t.num<ts.foldl (fun k t=>if t.var&&decide (t.num≥k) then t.num+1 else k) k)/\∀b,k<=b->(∀t∈ts,t.var=true->t.num<b)->ts.foldl (fun k t=>if t.var&&decide (t.num≥k) then t.num+1 else k) k<=b
 |[],k=>⟨zg _,fun t h=>(by cases h),fun b h _=>h⟩
 |t::ts,k=>by
  simp only[ut];by_cases c:(t.var&&decide (t.num≥k))=true
  ·rw[zc c];simp only[ux,decide_eq_true_eq] at c;obtain⟨j,g,f⟩:=tp ts (t.num+1);refine⟨by omega,fun u a e=>?_,fun b i d=>f b (by have:=d t (by simp) c.1;omega) fun u a=>d u (by simp[a])⟩;rcases zx.1 a with rfl|a
   ·omega
   ·exact g u a e
  ·rw[za c];obtain⟨j,g,f⟩:=tp ts k;refine⟨j,fun u a e=>?_,fun b i d=>f b i fun u a=>d u (by simp[a])⟩;rcases zx.1 a with rfl|a
   ·have:u.num<k:=by simp only[e,mY,decide_eq_true_eq] at c;omega
    omega
   ·exact g u a e
theorem tC(l:zu){p:Nat}(a:zH l p=true):p<uG l:=by
 obtain⟨t,b,c,d⟩:=(fK l p).1 a;have:=(tp l.qg 0).2.1 t b c;unfold uG;omega
theorem Bf(l:zu){k:Nat}(h:∀p,zH l p=true->p<k):uG l<=k:=
 (tp l.qg 0).2.2 k (by omega) fun t a b=>h t.num ((fK l t.num).2 ⟨t,a,b,rfl⟩)
theorem Oj(l:zu)(a:0<=jd):qz l jd<jd:=by
 unfold qz;split
 ·omega
 ·exact Cg l a
theorem iU(jd:Int):∀(a:List zu) (b:Int),b<=a.foldl (vU jd) b/\(∀l∈a,qz l jd<=a.foldl (vU jd) b)/\(0<=jd->b<jd->a.foldl (vU jd) b<jd)
 |[],b=>⟨Int.le_refl _,fun l h=>(by cases h),fun _ h=>h⟩
 |l::a,b=>by
  simp only[ut];obtain⟨j,f,e⟩:=iU jd a (vU jd b l);have i:b<=vU jd b l/\qz l jd<=vU jd b l:=by unfold vU;split<;>omega
  refine⟨by omega,fun u c=>?_,fun d g=>e d ?_⟩
  ·rcases zx.1 c with rfl|c
   ·omega
   ·exact f u c
  ·have:=Oj l d;unfold vU;split<;>omega
theorem pV(r:zr)(a:0<=jd):xy r jd<jd/\-1<=xy r jd/\jT r.head jd<=xy r jd/\(∀l∈r.qc,qz l jd<=xy r jd)/\∀l∈r.qp,qz l jd<=xy r jd:=by
 unfold xy;obtain⟨g,e,b⟩:=iU jd r.qc (jT r.head jd);obtain⟨h,c,f⟩:=iU jd r.qp (r.qc.foldl (vU jd) (jT r.head jd));have:=Hj r.head jd;exact⟨f a (b a (Cg r.head a)),by omega,by omega,fun l d=>by have:=e l d;omega,c⟩
theorem Ak{l:zu}{jd:Nat}{b:Int}(h:qz l jd<=b):(∀p,zH l p=true->p<jd)∨∀p,zH l p=true->p<jd->(p:Int)<=b:=by
 unfold qz at h;by_cases c:(uG l:Int)<=jd
 ·exact zf fun p a=>by have:=tC l a;omega
 ·rw[za c] at h;exact zb fun p a d=>by have:=oQ l (jd:=(jd:Int)) a (by omega);omega
end
section
variable {r:zr}{i:Nat}{hs:List (Nat×Nat)}
structure gY (r:zr):Prop where
 vars:r.vars<=5
 qg:∀l∈r.qc,l.qg.length<=3
 qc:∀l∈r.qc,∀p,zH l p=true->p<r.vars
 qp:∀l∈r.qp,∀p,zH l p=true->p<r.vars
 head:∀p,zH r.head p=true->p<r.vars
 safe:∀p,p<r.vars->∃l∈r.qc,zH l p=true
structure dO (r:zr) (Ts:List zi) (W:Nat):Prop where
 len:Ts.length=r.qc.length
 ok:∀(i:Nat) (l:zu) (T:zi),r.qc[i]?=some l->Ts[i]?=some T->vH T/\T.ql=yY (yO l)/\T.qf<=W
structure jq (r:zr) (Ts Ns:List zi) (J:z9):Prop where
 head:J.head=r.head
 vars:J.vars=r.vars
 je:J.je=(List.range 5).map (xb r)
 jg:J.jg=(List.range 5).map fun p=>xy r (p:Nat)
 last:J.last=xy r r.vars
 bars:J.bars=(r.qp.zip Ns).map fun x=>⟨x.1,uG x.1,x.2⟩
 qy:J.qy.map (·.rows)=Ts
 vlen:J.ja.length=5
 flen:J.from.length=5
theorem n7(l:zu){x y:List Nat}(h:∀p,zH l p=true->x.getD p 0=y.getD p 0):zF l x=zF l y:=by
 have a:∀i,Q7 l x i=Q7 l y i:=by
  intro i;unfold Q7;split
  ·rename_i c;unfold RP;rw[show l.qg.getD i ⟨false,0,0⟩=l.qg[i] by simp[List.getD,c]];split
   ·rename_i b;simp only[ux,decide_eq_true_eq] at b;exact h _ ((fK l _).2 ⟨_,zs c,b.1,rfl⟩)
   ·rfl
  ·rfl
 unfold zF;rw[a,a,a]
def sR(T:zi)(l:zu)(y:List Nat):Prop:=(yO l=0->T.count≠0)/\(yO l≠0->(xY T (yn l y 5)).isSome=true)
def js(r:zr)(a Ns:List zi)(y:List Nat):Prop:=(∀(i:Nat) (l:zu) (T:zi),r.qc[i]?=some l->a[i]?=some T->sR T l y)/\∀x∈r.qp.zip Ns,uo x.2 (zF x.1 y)=none
theorem KC{l:zu}(a:∀p,zH l p=true->p<r.vars){d:Nat}(b:r.vars<=d):y9 l d=y9 l r.vars:=by
 induction b with
 |refl=>rfl
 |@step m h c=>
  rw[lM,za (fun q=>by have:=a _ q;have:r.vars<=m:=h;omega),c]
theorem PO(b:r.vars<=5){l:zu}(a:∀p,zH l p=true->p<r.vars)(y:List Nat):yn l y 5=yn l y r.vars:=by
 unfold yn;rw[KC a b]
def JZ(r:zr)(J:z9)(d:Nat):Prop:=∀(i:Nat) (l:zu) (s:yK),r.qc[i]?=some l->J.qy[i]?=some s->s.qi.length=3/\(∀k,k<=(y9 l d).length->k<3->Rl s.rows 0 ((yn l J.ja d).take k)=some (s.qi.getD k 0))/\(Rl s.rows 0 (yn l J.ja d)).isSome=true
def Jp(r:zr)(Ns:List zi)(vals:List Nat)(d:Nat):Prop:=∀x∈r.qp.zip Ns,uG x.1<=d->uo x.2 (zF x.1 vals)=none
theorem ER{d c:Nat}(h:(i,c)∈xb r d):∃l,r.qc[i]?=some l/\zH l d=true/\c=(y9 l d).length:=by
 unfold xb at h;simp only[mQ,vN,ya] at h;obtain⟨⟨l,j⟩,g,f,a,b,k⟩:=h;rw[oq] at a;split at a
 ·rename_i e;simp only[zt] at a;have:=rB.1 g;simp only at this b e a;subst b;exact⟨l,this,e,by omega⟩
 ·cases a
theorem RT{d:Nat}{l:zu}(h:r.qc[i]?=some l)(a:zH l d=true):(i,(y9 l d).length)∈xb r d:=by
 unfold xb;simp only[mQ,vN,ya];refine⟨(l,i),rB.2 h,(y9 l d).length,?_,rfl,rfl⟩;rw[oq,zc a]
theorem Cq(r:zr)(d:Nat):((xb r d).map (·.1)).Nodup:=by
 unfold xb;have f:∀(c:List zu) (n:Nat),(((c.zipIdx n).filterMap fun x=>(yN x.1 d).map fun b=>(x.2,b)).map (·.1)).Nodup/\∀i∈((c.zipIdx n).filterMap fun x=>(yN x.1 d).map fun b=>(x.2,b)).map (·.1),n<=i:=by
  intro c;induction c with
  |nil=>intro n;simp
  |cons l c m=>
   intro n;obtain⟨j,g⟩:=m (n+1);rw[List.zipIdx_cons,pZ];cases h:(yN l d).map fun b=>(n,b) with
   |none=>exact⟨j,fun i e=>by have:=g i e;omega⟩
   |some x=>
    have o:x.1=n:=by
     simp only[vN] at h;obtain⟨a,_,rfl⟩:=h;rfl
    simp only[xI,qL,zx];refine⟨⟨fun k=>by have:=g _ k;omega,j⟩,?_⟩;rintro i (rfl|e)
    ·omega
    ·have:=g i e;omega
 exact(f r.qc 0).1
def setDown(v a:Nat)(s:yK):yK:=if a+1≥3 then s else{s with qi:=s.qi.set (a+1) ((zG s.rows (s.qi.getD a 0) v).getD 0)}
theorem Jh{J:z9}{v:Nat}{h:Nat×Nat}(hs:vD J h=true):vy v J h={J with qy:=J.qy.set h.1 (setDown v h.2 (J.qy.getD h.1 yK.zero))}:=by
 unfold vy setDown;by_cases a:h.2+1≥3
 ·rw[zc (zb a),zc a];have b:h.1<J.qy.length:=by simp only[vD,ux,decide_eq_true_eq] at hs;exact hs.1
  have:J.qy.set h.1 (J.qy.getD h.1 yK.zero)=J.qy:=by
   rw[show J.qy.getD h.1 yK.zero=J.qy[h.1] by simp[List.getD,b]];exact rc _
  rw[this]
 ·rw[za (by rintro(q|q);rw[hs] at q;cases q;exact a q),za a]
theorem AH(v:Nat):∀(hs:List (Nat×Nat)) (J:z9),(hs.map (·.1)).Nodup->(∀h∈hs,vD J h=true)->∃c,hs.foldl (vy v) J={J with qy:=c}/\c.length=J.qy.length/\∀i s,J.qy[i]?=some s->c[i]?=some (match hs.lookup i with|none=>s|some e=>setDown v e s)
 |[],J,_,_=>⟨J.qy,rfl,rfl,fun i s h=>by simpa using h⟩
 |(j,e)::hs,J,g,d=>by
  simp only[ut];have f:=d (j,e) (by simp);rw[Jh f];simp only;have k:j<J.qy.length:=by simp only[vD,ux,decide_eq_true_eq] at f;exact f.1
  simp only[xI,qL] at g;obtain⟨c,u,o,m⟩:=AH v hs {J with qy:=J.qy.set j (setDown v e (J.qy.getD j yK.zero))} g.2 (fun h t=>by
   have:=d h (by simp[t]);unfold vD at this ⊢;simpa using this)
  refine⟨c,u,by simpa using o,fun i s l=>?_⟩;by_cases a:i=j
  ·subst a;have p:J.qy.getD i yK.zero=s:=by simp[List.getD,l]
   have:=m i (setDown v e s) (by rw[p];simp[k]);rw[this];have b:hs.lookup i=none:=by
    rw[List.lookup_eq_none_iff];intro x w;have:x.1≠i:=by
     rintro rfl;exact g.1 (zy.2 ⟨x,w,rfl⟩)
    simpa using fun q=>this q.symm
   rw[b];simp[List.lookup]
  ·have:=m i s (by simp only[rF,Ne.symm a,if_false];exact l);rw[this];have n:(i == j)=false:=by simp[a]
   simp[List.lookup,n]
theorem GY{c:Nat}(d:(hs.map (·.1)).Nodup)(f:(i,c)∈hs):hs.lookup i=some c:=by
 induction hs with
 |nil=>cases f
 |cons a hs h=>
  obtain⟨j,m⟩:=a;simp only[xI,qL] at d;rcases zx.1 f with e|b
  ·simp only[ya] at e;obtain⟨rfl,rfl⟩:=e;simp[List.lookup]
  ·have:i≠j:=by
    rintro rfl;exact d.1 (zy.2 ⟨(i,c),b,rfl⟩)
   have g:(i == j)=false:=by simp[this]
   simp only[List.lookup,g];exact h d.2 b
theorem MY(h:∀b,(i,b)∉hs):hs.lookup i=none:=by
 rw[List.lookup_eq_none_iff];rintro⟨j,m⟩ a;have:i≠j:=by rintro rfl;exact h m a
 simpa using this
end
end Go.Proofs.YteampbddflhngaaGreat
