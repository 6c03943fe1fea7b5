import Derived.WalkKit
import Derived.WalkSpells
import Derived.WalkLawsBesides
import Derived.Deep.Light
import Derived.Handy
import Derived.Laws.IdiomStrings
import Derived.WalkSmall
import Derived.Deep.RegionHeld3
namespace Go.Proofs.YteampbddflhngaaGreat
section
open Go.RowKit
variable {w1 w:World}
theorem OY{p:Prop}(h:p):Hid p:=h
theorem NZ{W:World}(a:Below W.heap.size W w1):(∀b o,b<W.heap.size->w1.cell? ⟨b,o,none⟩=W.cell? ⟨b,o,none⟩)/\(∀b o,b<W.heap.size->w1.frozen? ⟨b,o,none⟩=W.frozen? ⟨b,o,none⟩):=
 ⟨fun b o h=>a.cell (p:=⟨b,o,none⟩) h,fun b o h=>a.frozen (p:=⟨b,o,none⟩) h⟩
theorem zI{B:Nat}{a w:World}(h:Below B a w)(n:Nat):Below B a (w.drewN n):=below_drewN h n
abbrev zR:=@Below.refl
abbrev zN:=@zI
abbrev zA:=@Below.alloc
abbrev zD:=@Below.drew
abbrev zS:=@Below.setCell
theorem zM{B:Nat}{a:World}(b:Below B w a)(d:Below a.heap.size a w1)(c:B<=w.heap.size):Below B w w1:=
 b.trans (d.mono (Nat.le_trans c b.size))
theorem Pc{a:World}(c:Below w.heap.size w a)(b:Below a.heap.size a w1):Below w.heap.size w w1:=zM c b (Nat.le_refl _)
theorem zO{o:Obj}:Below w.heap.size w (w.alloc o):=(Below.refl _ _).alloc (Nat.le_refl _) _
theorem zl{B b o:Nat}{a:World}{v:Option Value}(h:Below B w a)(d:b<B)(c:w.cell? ⟨b,o,none⟩=v):a.cell? ⟨b,o,none⟩=v:=(h.cell (p:=⟨b,o,none⟩) d).trans c
theorem zE{k:World}{b:Nat}{e:TypeId}{a:Nat}{v:Value}{n:Nat}{i:List Value}(h:w.ownsRow b e a v n i)(m:Below w.heap.size w k):k.ownsRow b e a v n i:=by
 obtain⟨o,c⟩:=h;refine⟨o,?_⟩;rcases c with c|⟨g,f,d,l,p,j,r⟩
 ·exact Or.inl c
 ·refine Or.inr ⟨g,f,d,l,p,?_,r⟩;rw[m.block g (Array.getElem?_eq_some_iff.1 j).1];exact j
section
variable {P:Program} {ops:Array Oper} {rest:List Oper} {o:Oper} {a:Act} {Q:Exit->Act->World->Prop}
theorem jY(B q:World)(l:List Value)(te:TypeId)(W:o.guard=none)(s x:Operand)(t:TypeId)
  (Z:o.op=.call {callee:=.builtin .append,args:=#[s,x],argTypes:=#[t,t]})
  (f:Nat) (e:TypeId) (i:TypeInfo) (z:Value) (d m:Nat) (ht:P.underlying t=some (.slice e)) (hi:P.info? e=some i) (hz:i.zero=some z)
  (J:i.size=d) (S:i.bytes=m) (L:z.cells.size=d) (V:0<d)
  (v:Value) (n:Nat) (M:List Value) (hs:a.eval s=v) (E:B.ownsRow f e d v n M) (p:Below B.heap.size B q)
  (b c:Nat) (Y:a.eval x=.slice (some ⟨b,0,none⟩) 1 c) (hb:b=q.heap.size) (hl:l.length=d) (h1:∀u∈l,u.oneCell'=true)
  (hn:n<=1048576) (C:m<=1000) (N:f<=B.heap.size)
  (h:∀K y,y.ownsRow f e d K (n+1) (M++l)->Below f B y->(∀b o,B.heap.size<=b->b<q.heap.size->y.cell? ⟨b,o,none⟩=q.cell? ⟨b,o,none⟩) →
   (∀b o,B.heap.size<=b->b<q.heap.size->y.frozen? ⟨b,o,none⟩=q.frozen? ⟨b,o,none⟩) →
   (∀k,k<B.heap.size->some k≠v.ownBlock->y.heap[k]?=B.heap[k]?)->q.heap.size<=y.heap.size->wpList P ops Q rest (a.put o.dst K) y):
  wpList P ops Q (o::rest) a (q.alloc (.cells l.toArray te)):=by
 have I:=zE E p;have F:∀k,v.ownBlock=some k->f<=k/\k<B.heap.size:=by
  intro k D;obtain⟨_,U⟩:=E;rcases U with⟨T,_⟩|⟨g,aa,ab,T,W,hh,_⟩
  ·subst T;cases D
  ·subst T;simp only[Value.ownBlock,Option.some.injEq] at D;subst D;exact⟨W,(Array.getElem?_eq_some_iff.1 hh).1⟩
 have X:=p.size;subst hb;refine wpList_append_own _ W s x t Z f e i z d m ht hi hz J S L V v n M hs (I.alloc _) ⟨q.heap.size,0,none⟩ 1 c l Y (by omega) ?_ h1 ?_ ?_ ?_ ?_
 ·intro j u hj;rw[Addr.add_lit,Nat.zero_add,World.cell?_alloc_mark];simpa using hj
 ·unfold maxLen;omega
 ·have:(n+1)*m<=1048577*1000:=Nat.mul_le_mul (by omega) C;omega
 ·simp;omega
 ·intro K y U A _;have r:∀k,k<q.heap.size->some k≠v.ownBlock->y.heap[k]?=q.heap[k]?:=fun k D H=>by
   rw[A.block k (by simp;omega) H];exact Below.heap_alloc _ _ _ D
  have R:q.heap.size<=y.heap.size:=by have:=A.size;simp at this;omega
  refine h K y U ⟨A.os.trans p.os,A.tape.trans p.tape,A.output.trans p.output,by omega,fun k D=>?_⟩ (fun b o O G=>?_) (fun b o O G=>?_) (fun k D H=>?_) R
  ·rw[r k (by omega) (fun e=>by have:=F k e.symm;omega)];exact p.block k (by omega)
  ·exact World.cell?_of_block (w:=q) (r b G (fun e=>by have:=F b e.symm;omega))
  ·exact World.frozen?_of_block (w:=q) (r b G (fun e=>by have:=F b e.symm;omega))
  ·rw[r k (by omega) H];exact p.block k D
theorem JT(w:World)(q:o.guard=none)(x:Operand)(b c e:TypeId)(g:o.op=.convert b c x)
  (p:P.underlying b=some .string) (m:P.underlying c=some (.slice e)) (l:P.underlying e=some (.int .u8)) (s:ByteArray) (k:a.eval x=.string s)
  (n:∀f h,(∀j (i:j<s.data.size),h.cell? ⟨w.heap.size,j,none⟩=some (.int .u8 (s.data[j].toNat:Int)))->Below w.heap.size w h →
   wpList P ops Q rest (a.put o.dst (.slice (some ⟨w.heap.size,0,none⟩) s.size f)) h):wpList P ops Q (o::rest) a w:=by
 refine wpList_plain q fun K d=>?_;have r:=run_bytes_of_string (P:=P) w b c e s p m l;unfold Oper.wp;simp[execOp,g,k,r,Result.andThen];refine d _ _ (n _ _ (fun j i=>?_) ?_)
 ·have:=World.cell?_alloc_mark w.drew (bytesRow s (grownCap w s.size 0 e)) e ((bytesRow s (grownCap w s.size 0 e)).size,(bytesRow s (grownCap w s.size 0 e)).size+1) j;rw[bytesRow_at s _ j i] at this;exact this
 ·exact(Below.refl _ _).drew.alloc (Nat.le_refl _) _
theorem F5(w:World)(r:o.guard=none)(x:Operand)(c d e:TypeId)(i:o.op=.convert c d x)
  (t:P.underlying c=some (.slice e)) (n:P.underlying e=some (.int .u8)) (p:P.underlying d=some .string) (s:ByteArray) (b cap:Nat) (m:a.eval x=.slice (some ⟨b,0,none⟩) s.size cap)
  (u:∀j (f:j<s.data.size),w.cell? ⟨b,j,none⟩=some (.int .u8 (s.data[j].toNat:Int)))
  (q:wpList P ops Q rest (a.put o.dst (.string s)) w):wpList P ops Q (o::rest) a w:=by
 refine wpList_plain r fun K h=>?_;have k:=run_convert_bytes_back (P:=P) w c d e ⟨b,0,none⟩ cap s.data.toList t n p (fun j f=>by
  have g:j<s.data.size:=by rw[Array.length_toList] at f;exact f
  rw[Addr.add_lit,Nat.zero_add,u j g,Array.getElem_toList])
 have l:s.data.toList.length=s.size:=by rw[Array.length_toList];rfl
 rw[l] at k;unfold Oper.wp;simp[execOp,i,m,k,Result.andThen];exact h _ _ q
end
abbrev zh:=@Nat.le_refl
abbrev zs:=@Option.some.injEq
abbrev zu:=@List.getElem_mem
abbrev zo:=@Below.refl
abbrev yM:=@List.take_succ_eq_append_getElem
abbrev za:=@if_neg
abbrev zw:=@List.mem_cons
abbrev yq:=@List.getElem?_eq_getElem
abbrev gV:=@List.getD_eq_getElem?_getD
abbrev zb:=@if_pos
abbrev zv:=@Nat.zero_le
abbrev zB:=@List.mem_map
abbrev ze:=@Or.inr
abbrev xg:=@List.drop_eq_getElem_cons
abbrev zf:=@Or.inl
abbrev zW:=@List.mem_append
abbrev yz:=@List.length_append
abbrev zJ:=@bodyPost_ret
abbrev xk:=@List.take_of_length_le
abbrev yK:=@World.ownsRow_nil
abbrev zT:=@Nat.le_trans
abbrev ui:=@List.drop_eq_nil_of_le
abbrev xo:=@Nat.lt_of_lt_of_le
abbrev yo:=@Prod.mk.injEq
abbrev yZ:=@List.length_cons
abbrev uT:=@List.getElem_append_left
abbrev ud:=@List.mem_singleton
abbrev vr:=@Option.map_eq_some_iff
abbrev kR:=@List.getElem?_eq_none
abbrev us:=@List.flatMap_cons
abbrev xY:=@List.mem_filter
abbrev vl:=@List.getElem_of_mem
abbrev kD:=@Array.getElem?_eq_some_iff
abbrev uo:=@Option.getD_some
abbrev jG:=@List.getElem?_eq_some_iff
abbrev uv:=@List.foldl_cons
abbrev qO:=@List.take_append_drop
abbrev uO:=@List.take_length
abbrev uZ:=@Bool.and_eq_true
abbrev uX:=@List.mem_flatMap
abbrev zC:=@absurd
abbrev uH:=@List.length_map
abbrev g6:=@List.getElem?_append_right
abbrev vO:=@List.getElem_map
abbrev qJ:=@Option.isSome_some
abbrev vB:=@List.map_append
abbrev qa:=@List.length_take
abbrev kK:=@List.getElem_cons_zero
abbrev uL:=@Nat.zero_add
abbrev ju:=@List.foldl_append
abbrev qA:=@List.append_nil
abbrev jW:=@Option.isSome_none
abbrev uI:=@Nat.add_zero
abbrev kf:=@List.map_congr_left
abbrev ki:=@List.append_assoc
abbrev kX:=@List.mem_iff_getElem
abbrev gY:=@List.getElem?_cons_zero
abbrev gz:=@List.mem_of_getElem?
abbrev g4:=@List.mem_of_mem_drop
abbrev kL:=@Bool.false_eq_true
abbrev kc:=@Option.getD_none
abbrev l9:=@List.getElem?_take
abbrev jH:=@List.length_nil
abbrev jB:=@List.nodup_cons
abbrev jZ:=@Option.map_some
abbrev fA:=@List.set_append_right
abbrev fY:=@List.getElem?_cons_succ
abbrev lK:=@List.getElem_append_right
abbrev ly:=@List.zipWith_cons_cons
abbrev jx:=@List.map_cons
abbrev fD:=@List.mem_of_mem_take
abbrev kJ:=@List.ext_getElem
abbrev kY:=@List.any_eq_true
abbrev mi:=@Option.isSome_iff_exists
abbrev hZ:=@List.getElem?_toArray
abbrev mL:=@List.nodup_iff_pairwise_ne
abbrev mw:=@List.length_eq_zero_iff
abbrev gP:=@Nat.min_eq_left
abbrev n8:=@List.mem_zipIdx_iff_getElem?
abbrev jK:=@Nat.sub_self
abbrev nt:=@Array.length_toList
abbrev lg:=@List.drop_succ_cons
abbrev kG:=@List.mem_range
abbrev hX:=@List.getElem?_map
abbrev pK:=@Array.getElem?_setIfInBounds_ne
abbrev jX:=@Nat.le_of_lt
abbrev lh:=@List.mem_filterMap
abbrev mC:=@List.getElem_cons_succ
abbrev mM:=@List.length_pos_of_mem
abbrev dN:=@Bool.or_eq_true
abbrev nZ:=@List.mem_or_eq_of_mem_set
abbrev gI:=@List.drop_zero
abbrev pT:=@List.eq_nil_of_length_eq_zero
abbrev f5:=@List.cons_append
abbrev mV:=@List.getElem_set_self
abbrev nS:=@List.length_erase_of_mem
abbrev m9:=@Bool.or_eq_false_iff
abbrev mD:=@List.mem_erase_of_ne
abbrev lq:=@List.all_eq_true
abbrev lB:=@List.not_mem_nil
abbrev pR:=@List.getElem_concat_length
abbrev mo:=@List.ext_getElem?
abbrev mU:=@List.getElem_set_ne
abbrev lV:=@List.flatten_cons
abbrev my:=@List.takeWhile_cons
abbrev nh:=@List.take_succ_cons
abbrev tT:=@List.getElem?_append_left
abbrev gA:=@Nat.lt_or_ge
abbrev la:=@List.length_set
abbrev fu:=@List.map_set
abbrev ra:=@List.length_filterMap_le
abbrev nW:=@List.mem_cons_of_mem
abbrev nG:=@List.pairwise_append
abbrev fX:=@List.tail_cons
abbrev mJ:=@List.pairwise_map
abbrev lF:=@List.cons.injEq
abbrev m5:=@List.getElem_set
abbrev nD:=@List.getElem_range
abbrev nC:=@List.pairwise_cons
abbrev rm:=@List.length_filter_le
abbrev ri:=@List.countP_le_length
abbrev sd:=@List.pairwise_iff_getElem
abbrev pM:=@Nat.mul_le_mul_right
abbrev nY:=@List.nodup_append
abbrev nQ:=@Nat.lt_trichotomy
abbrev ml:=@Bool.true_and
abbrev mt:=@Bool.not_true
abbrev pN:=@List.replicate_succ
abbrev eL:=@List.zipWith_append
abbrev sK:=@Nat.add_sub_cancel_left
abbrev nE:=@Bool.not_eq_true
abbrev nM:=@List.append_inj'
abbrev we:=@List.getElem_replicate
abbrev rU:=@List.drop_of_length_le
abbrev rq:=@List.mem_cons_self
abbrev p8:=@List.set_cons_succ
abbrev rp:=@List.set_cons_zero
abbrev rx:=@List.filter_append
abbrev AF:=@List.range_succ
abbrev O3:=@Array.getElem?_modify
abbrev rR:=@List.eq_nil_or_concat
abbrev sm:=@List.concat_eq_append
abbrev sW:=@List.set_getElem_self
abbrev n4:=@List.nil_append
abbrev rE:=@List.filterMap_append
abbrev p3:=@List.getElem?_set
abbrev mW:=@List.sum_cons
abbrev pB:=@Bool.not_eq_false
abbrev mE:=@Bool.false_or
end
structure vI where
 leap:List Nat
 down:List Nat
 deriving DecidableEq
structure zi where
 qf:Nat
 ql:Nat
 qi:List vI
 count:Nat
 deriving DecidableEq
abbrev zk:=List Nat
def vI.zero:vI:=⟨[],[]⟩
def yx(T:zi):zi:={T with qi:=T.qi++[⟨List.replicate T.qf T.qf,List.replicate T.qf 0⟩]}
def yn(a:Nat):Nat:=if a<1 then 1 else a
def yY(a:Nat):Nat:=if (if a<1 then 1 else a)>3 then 3 else(if a<1 then 1 else a)
def yS(a b:Nat):zi:=yx ⟨yn a,yY b,[],0⟩
def yF(T:zi)(at' «from» : Nat):Option Nat:=
 if at'<T.qi.length/\«from»<T.qf then
  let v:=(T.qi.getD at' vI.zero).leap.getD «from» 0
  if v≥T.qf then none else some v
 else none
def zH(T:zi)(at' v:Nat):Option Nat:=
 match yF T at' v with
 |none=>none
 |some u=>if u=v then some ((T.qi.getD at' vI.zero).down.getD v 0) else none
def jJ(v:Nat):Nat->List Nat->List Nat
 |0,l=>l
 |n+1,l=>if l.getD n 0>v then jJ v n (l.set n v) else l
def fU(n:vI)(v d:Nat):vI:=⟨jJ v (v+1) n.leap,n.down.set v d⟩
def ya(T:zi)(at' v d:Nat):zi:=
 if at'<T.qi.length/\v<T.qf then{T with qi:=T.qi.set at' (fU (T.qi.getD at' vI.zero) v d)} else T
def qk(T:zi)(at' v:Nat):zi×Nat:=
 match zH T at' v with
 |some b=>(T,b)
 |none=>(ya (yx T) at' v T.qi.length,T.qi.length)
def fe(T:zi)(at' v a:Nat):zi×Bool:=
 match zH T at' v with
 |some _=>(T,false)
 |none=>({ya T at' v a with count:=(ya T at' v a).count+1},true)
def fx(T:zi)(row:zk):Bool:=row.all (fun v=>v<T.qf)
def vC(a:Nat):zi->Nat->Nat->zk->zi×Bool
 |T,_,_,[]=>(T,false)
 |T,at',level,v::r=>
  if level+1≥T.ql then fe T at' v a else vC a (qk T at' v).1 (qk T at' v).2 (level+1) r
def addP(T:zi)(row:zk)(a:Nat):zi×Bool:=if fx T row then vC a T 0 0 row else(T,false)
def uw(T:zi):Nat->Nat->zk->Option Nat
 |_,_,[]=>none
 |at',level,v::r=>
  match zH T at' v with
  |none=>none
  |some b=>if level+1≥T.ql then some b else uw T b (level+1) r
def xB(T:zi)(row:zk):Option Nat:=uw T 0 0 row
def xG(T:zi):Nat->Nat->Nat->Nat->zk->List zk->Option (zk×List zk)
 |0,_,_,_,_,_=>none
 |n+1,at',level,«from»,row,a=>
  match yF T at' «from» with
  |none=>some (row,a)
  |some v=>
   let row:=row.set level v
   if level+1≥T.ql then xG T n at' level (v+1) row (a++[row])
   else if level+1≥3 then xG T n at' level (v+1) row a
   else match xG T n ((zH T at' v).getD 0) (level+1) 0 row a with
    |none=>none
    |some (row,a)=>xG T n at' level (v+1) row a
def mP(a:Nat)(T:zi):Option (List zk):=(xG T a 0 0 0 [0,0,0] []).map (·.2)
structure zZ where
 var:Bool
 num:Nat
 level:Nat
 deriving DecidableEq
structure zt where
 pred:Nat
 qg:List zZ
 deriving DecidableEq
structure zr where
 qh:Nat
 vars:Nat
 head:zt
 qc:List zt
 qp:List zt
 deriving DecidableEq
def zL(l:zt)(place:Nat):Bool:=l.qg.any fun t=>t.var&&t.num == place
def yX(l:zt)(place:Nat):Option Nat:=if zL l place then some ((List.range place).countP (zL l)) else none
def yR(l:zt):Nat:=(List.range 5).countP (zL l)
def uC(l:zt):Nat:=l.qg.foldl (fun k t=>if t.var&&decide (t.num≥k) then t.num+1 else k) 0
def j4(l:zt)(jd:Int):Int:=l.qg.foldl (fun k t=>if t.var&&decide ((t.num:Int)<jd)&&decide ((t.num:Int)>k) then(t.num:Int) else k) (-1)
def vX(l:zt)(jd:Int):Int:=if (uC l:Int)<=jd then -1 else j4 l jd
def vz(jd b:Int)(l:zt):Int:=if vX l jd>b then vX l jd else b
def xE(r:zr)(jd:Int):Int:=r.qp.foldl (vz jd) (r.qc.foldl (vz jd) (j4 r.head jd))
def Qj(t:zZ)(vals:List Nat):Nat:=if t.var&&decide (t.num<5) then vals.getD t.num 0 else t.num
def Pa(l:zt)(vals:List Nat)(i:Nat):Nat:=if i<l.qg.length then Qj (l.qg.getD i ⟨false,0,0⟩) vals else 0
def zG(l:zt)(vals:List Nat):zk:=[Pa l vals 0,Pa l vals 1,Pa l vals 2]
def leveled(t:zZ):Bool:=t.var&&decide (t.level<3)
def qC(l:zt)(row f:zk)(i:Nat):zk:=
 if i<l.qg.length/\leveled (l.qg.getD i ⟨false,0,0⟩)=true then f.set (l.qg.getD i ⟨false,0,0⟩).level (row.getD i 0) else f
def ul(l:zt)(row:zk):zk:=qC l row (qC l row (qC l row [0,0,0] 0) 1) 2
def jn(t:zZ)(v:Nat)(f:zk):Bool:=if leveled t then f.getD t.level 0 == v else t.num == v
def xu(l:zt)(row f:zk)(i:Nat):Bool:=decide (l.qg.length<=i)||jn (l.qg.getD i ⟨false,0,0⟩) (row.getD i 0) f
def xx(l:zt)(row:zk):Option zk:=
 if xu l row (ul l row) 0&&xu l row (ul l row) 1&&xu l row (ul l row) 2 then some (ul l row) else none
structure xC where
 rows:zi
 qi:List Nat
 deriving DecidableEq
structure sT where
 lit:zt
 jd:Nat
 rows:zi
 deriving DecidableEq
structure z9 where
 head:zt
 vars:Nat
 ja:List xC
 bars:List sT
 je:List (List (Nat×Nat))
 jg:List Int
 last:Int
 qy:List Nat
 «from» : List Nat
 ql:Int
 /-- as the code counts them: an int of Go's -/
 jh:Int
 deriving DecidableEq
def xC.zero:xC:=⟨⟨0,0,[],0⟩,[]⟩
def xy(r:zr)(place:Nat):List (Nat×Nat):=
 r.qc.zipIdx.filterMap fun x=>(yX x.1 place).map fun a=>(x.2,a)
def uB(J:z9)(jd:Nat):Bool:=J.bars.any fun b=>b.jd == jd&&(xB b.rows (zG b.lit J.qy)).isSome
def xF(r:zr)(qc qp:List zi):z9:=
 let J:z9:={head:=r.head,vars:=r.vars,ja:=qc.map (fun T=>⟨T,[0,0,0]⟩),bars:=(r.qp.zip qp).map (fun x=>⟨x.1,uC x.1,x.2⟩),je:=(List.range 5).map (xy r),jg:=(List.range 5).map (fun p=>xE r (p:Nat)),last:=xE r r.vars,qy:=[0,0,0,0,0],«from»:=[0,0,0,0,0],ql:=if qc.any (fun T=>T.count == 0) then -1 else 0,jh:=0}
 if uB J 0 then{J with ql:=-1} else J
def vu(J:z9)(h:Nat×Nat):Bool:=decide (h.1<J.ja.length)&&decide (h.2<3)
def vJ(J:z9)(h:Nat×Nat)(«from» : Nat):z9×Option Nat:=
 if vu J h then({J with jh:=IntKind.i64.wrap (J.jh+1)},yF (J.ja.getD h.1 xC.zero).rows ((J.ja.getD h.1 xC.zero).qi.getD h.2 0) «from») else(J,none)
def dG:Nat->z9->List (Nat×Nat)->Nat->Nat->Nat->Option (z9×Option Nat)
 |0,_,_,_,_,_=>none
 |n+1,J,c,at',b,a=>
  if b<c.length then
   match vJ J (c.getD a (0,0)) at' with
   |(J,none)=>some (J,none)
   |(J,some v)=>dG n J c (if v>at' then v else at') ((if v>at' then 0 else b)+1) (if a+1≥c.length then 0 else a+1)
  else some (J,some at')
def lU(a:Nat)(J:z9)(place «from» : Nat):Option (z9×Option Nat):=
 if place≥5∨(J.je.getD place []).length=0 then some (J,none) else dG a J (J.je.getD place []) «from» 0 0
def vU(v:Nat)(J:z9)(h:Nat×Nat):z9:=
 if vu J h=false∨h.2+1≥3 then J
 else{J with ja:=J.ja.set h.1 {(J.ja.getD h.1 xC.zero) with qi:=(J.ja.getD h.1 xC.zero).qi.set (h.2+1) ((zH (J.ja.getD h.1 xC.zero).rows ((J.ja.getD h.1 xC.zero).qi.getD h.2 0) v).getD 0)}}
def uE(J:z9)(place v:Nat):z9:=
 if place≥5 then J
 else(J.je.getD place []).foldl (vU v) {J with qy:=J.qy.set place v,«from»:=(if place+1<5 then(J.from.set place (v+1)).set (place+1) 0 else J.from.set place (v+1))}
def kl:Nat->z9->Int->Option (z9×Bool)
 |0,_,_=>none
 |n+1,J,a=>
  if 0<=a/\a<J.vars/\a<5 then
   match lU n J a.toNat (J.from.getD a.toNat 0) with
   |none=>none
   |some (J,none)=>kl n J (J.jg.getD a.toNat 0)
   |some (J,some v)=>kl n (uE J a.toNat v) (if uB (uE J a.toNat v) (a.toNat+1) then a else a+1)
  else some (J,decide (a≥J.vars))
def mq(b:Nat)(J:z9):Option (z9×Bool):=
 match kl b J J.ql with
 |none=>none
 |some (J,a)=>some ({J with ql:=if a then J.last else -1},a)
structure yL where
 lit:zt
 before:zi
 qo:zi
 all:zi
 deriving DecidableEq
structure yb where
 rule:zr
 qm:List yL
 deriving DecidableEq
structure jt where
 pred:Nat
 row:zk
 deriving DecidableEq
structure qU where
 qf:Nat
 qj:List Nat
 facts:List jt
 rules:List zr
 deriving DecidableEq
structure zx where
 rows:List zi
 count:Nat
 qx:Nat
 jh:Int
 qo:List (List zk)
 deriving DecidableEq
def zi.zero:zi:=⟨0,0,[],0⟩
def qv(R:zx):zx:={R with qo:=List.replicate R.rows.length []}
def okT(T:zi):Bool:=decide (T.qi.length<=90000000)&&decide (T.count<1000000000)
def xW:List zk->zi->Option zi
 |[],T=>some T
 |r::a,T=>if okT T then xW a (addP T r 0).1 else none
def rowsG(a:Nat)(T:zi):Option (List zk):=
 match mP a T with
 |none=>none
 |some b=>if b.length<=1048576 then some b else none
def kN(b:Nat)(R:zx)(a:Nat)(row:zk):Option (zx×Bool):=
 if a<R.rows.length/\a<R.qo.length/\okT (R.rows.getD a zi.zero)=true/\R.count<=1048576/\(R.qo.getD a []).length<=1048576 then
  match addP (R.rows.getD a zi.zero) row R.qx with
  |(T,false)=>some ({R with rows:=R.rows.set a T},true)
  |(T,true)=>some ({R with rows:=R.rows.set a T,qo:=R.qo.set a (R.qo.getD a []++[row]),count:=R.count+1},decide (R.count+1<=b))
 else none
def fT(b:Nat)(R:zx)(a:Nat):zi:=if a≥R.rows.length then yS b 0 else R.rows.getD a zi.zero
def fL(d g:Nat)(V:yL)(c:List zk):Option yL:=
 match rowsG d V.qo with
 |none=>none
 |some e=>
  match xW e V.before,xW (c.filterMap (xx V.lit)) (yS g (yR V.lit)),xW (c.filterMap (xx V.lit)) V.all with
  |some b,some f,some a=>some {V with before:=b,qo:=f,all:=a}
  |_,_,_=>none
def kh(a:Nat)(l:zt):yL:=⟨l,yS a (yR l),yS a (yR l),yS a (yR l)⟩
def li(a c:Nat)(R:zx):List zt->Option (List yL)
 |[]=>some []
 |l::r=>
  match rowsG a (fT c R l.pred) with
  |none=>none
  |some b=>match fL a c (kh c l) b,li a c R r with
   |some v,some vs=>some (v::vs)
   |_,_=>none
def PA(a b:Nat)(R:zx)(c:Nat):List zr->Option (List yb)
 |[]=>some []
 |r::d=>
  if r.qh=c then
   match li a b R r.qc,PA a b R c d with
   |some vs,some e=>some (⟨r,vs⟩::e)
   |_,_=>none
  else PA a b R c d
def qL(a b:Nat):Nat->zx->z9->Option (zx×Bool)
 |0,_,_=>none
 |n+1,R,J=>
  match mq n J with
  |none=>none
  |some (J,false)=>some ({R with jh:=IntKind.i64.wrap (R.jh+J.jh)},true)
  |some (J,true)=>match kN a R b (zG J.head J.qy) with
   |none=>none
   |some (R,false)=>some (R,false)
   |some (R,true)=>qL a b n R J
def j0(a:Nat)(R:zx)(r:zr):List zi:=r.qp.map fun l=>fT a R l.pred
def Py(vs:List yL)(place:Nat):List zi:=vs.zipIdx.map fun x=>if x.2<place then x.1.before else if x.2=place then x.1.qo else x.1.all
def kw(b c a:Nat)(W:yb):Nat->Nat->zx->Option (zx×Bool)
 |0,_,R=>some (R,true)
 |n+1,i,R=>
  if (W.qm.getD i ⟨⟨0,[]⟩,zi.zero,zi.zero,zi.zero⟩).qo.count>0 then
   match qL a W.rule.head.pred b R (xF W.rule (Py W.qm i) (j0 c R W.rule)) with
   |none=>none
   |some (R,false)=>some (R,false)
   |some (R,true)=>kw b c a W n (i+1) R
  else kw b c a W n (i+1) R
def dM(b c a:Nat)(first:Bool)(R:zx)(W:yb):Option (zx×Bool):=
 if first then qL a W.rule.head.pred b R (xF W.rule (W.qm.map (·.all)) (j0 c R W.rule))
 else kw b c a W W.qm.length 0 R
def fB(b c a:Nat)(first:Bool):List yb->zx->Option (zx×Bool)
 |[],R=>some (R,true)
 |W::d,R=>
  match dM b c a first R W with
  |none=>none
  |some (R,false)=>some (R,false)
  |some (R,true)=>fB b c a first d R
def lD(a c:Nat)(b:List (List zk)):List yL->Option (List yL)
 |[]=>some []
 |V::vs=>
  match (if V.lit.pred<b.length then fL a c V (b.getD V.lit.pred []) else some V),lD a c b vs with
  |some v,some vs=>some (v::vs)
  |_,_=>none
def l6(a d:Nat)(c:List (List zk)):List yb->Option (List yb)
 |[]=>some []
 |W::b=>
  match lD a d c W.qm,l6 a d c b with
  |some v,some b=>some ({W with qm:=v}::b)
  |_,_=>none
def ph(b d a:Nat)(first:Bool)(c:List yb)(R:zx):Option (zx×List yb×Bool):=
 match fB b d a first c (qv {R with qx:=R.qx+1}) with
 |none=>none
 |some (R,false)=>some (R,c,false)
 |some (R,true)=>(l6 b d R.qo c).map fun c=>(R,c,true)
def dI(e b a:Nat):Nat->Bool->List yb->zx->Option (zx×Bool)
 |0,_,_,_=>none
 |n+1,first,d,R=>
  if R.qx≥a then some (R,false)
  else match ph n e b first d R with
   |none=>none
   |some (c,_,false)=>some (c,false)
   |some (c,d,true)=>if c.count>R.count then dI e b a n false d c else some (c,true)
def pp(c e b a:Nat)(d:List zr)(R:zx)(s:Nat):Option (zx×Bool):=
 match PA c e R s d with
 |none=>none
 |some f=>if f.length>0 then dI e b a c true f R else some (R,true)
def dF(d e b a:Nat)(c:List zr):Nat->Nat->zx->Option (zx×Bool)
 |0,_,R=>some (R,true)
 |n+1,s,R=>
  match pp d e b a c R s with
  |none=>none
  |some (R,false)=>some (R,false)
  |some (R,true)=>dF d e b a c n (s+1) R
def fH(a:Nat):List jt->zx->Option (zx×Bool)
 |[],R=>some (R,true)
 |f::b,R=>
  match kN a R f.pred f.row with
  |none=>none
  |some (R,false)=>some (R,false)
  |some (R,true)=>fH a b R
def fC(S:qU):zx:=qv ⟨S.qj.map (yS S.qf),0,0,0,[]⟩
def pY(c:Nat)(S:qU)(a b:Nat):Option (Option zx):=
 match fH a S.facts (fC S) with
 |none=>none
 |some (_,false)=>some none
 |some (R,true)=>(dF c S.qf a b S.rules S.qj.length 0 R).map fun x=>if x.2 then some x.1 else none
section
variable {d i:Nat}{listed:Array Bool}{a:Act}{w:World}
section
variable {P:Program} {ops:Array Oper} {Q:Exit->Act->World->Prop} {md:Region.Mode} {S:World->Prop}
def fQ(P:Program)(md:Region.Mode)(ops:Array Oper)(Q:Exit->Act->World->Prop)(S:World->Prop)(d:Nat):Nat->Array Bool->Act->World->Prop
 |0,listed,a,w=>Region.ready md ops listed=[]/\Q .normal a w
 |b+1,listed,a,w=>
  (Region.ready md ops listed=[]->Q .normal a w) ∧
  ∀i∈Region.ready md ops listed,wpOp P ops Q i (fun e c=>(i≠d->S c)/\fQ P md ops Q S d b (listed.setIfInBounds i true) e c) a w
theorem oJ{d:Nat}:∀(b:Nat) (listed:Array Bool) (a:Act) (w:World),fQ P md ops Q S d b listed a w->wpAny P md ops Q b listed a w
 |0,_,_,_,h=>h
 |b+1,_,_,_,h=>⟨h.1,fun i c=>wpOp_mono (fun f g e=>oJ b _ f g e.2) (h.2 i c)⟩
def PV(md:Region.Mode)(ops:Array Oper)(d i:Nat):Bool:=match ops[d]? with
 |none=>false
 |some o=>o.after.toList.any fun e=>Region.binds md e&&e.on == i
theorem LH(h:PV md ops d i=true):∃o,ops[d]?=some o/\∃e∈o.after,Region.binds md e=true/\e.on=i:=by
 unfold PV at h;split at h
 ·cases h
 ·rename_i o f;obtain⟨e,c,b⟩:=kY.1 h;simp only[uZ,beq_iff_eq] at b;exact⟨o,f,e,by simpa using c,b⟩
theorem Gt{s:Oper}{v:Value}(M:ops[i]?=some s)(q:∀(j:Nat) (o:Oper) z b,ops[j]?=some o->o.op≠.select z b)
  (Z:∀c a w,Q (.panic c) (a.put s.dst v) w->Q (.panic c) a w) (hd:PV md ops d i=true):
  ∀(g:Nat) (listed:Array Bool) (a:Act) (w:World),
   (∀j x,ops[j]?=some x->j≠i->listed.getD j true=false->(∀e∈x.after,Region.binds md e=true->e.on≠i)->s.apart ops x=true) →
   i∈Region.ready md ops listed->YieldsIf P ops S s v a->S w →
   fQ P md ops Q S d g (listed.setIfInBounds i true) (a.put s.dst v) w->fQ P md ops Q S d (g+1) listed a w:=by
 intro g;induction g with
 |zero=>
  intro listed a w _ u D y H;refine⟨fun h=>(by rw[h] at u;cases u),fun j E=>?_⟩;by_cases f:j=i
  ·subst f;exact D.wpOp M y ⟨fun _=>y,H⟩
  ·have:=ready_mono E f;rw[H.1] at this;cases this
 |succ g ih=>
  intro listed a w l u D y H;refine⟨fun h=>(by rw[h] at u;cases u),fun j E=>?_⟩;by_cases f:j=i
  ·subst f;exact D.wpOp M y ⟨fun _=>y,H⟩
  ·have t:=H.2 j (ready_mono E f);obtain⟨p,x,m,B⟩:=mem_ready.1 E;have r:∀e∈x.after,Region.binds md e=true->e.on≠i:=fun e K R L=>by
    have t:=B e K R;have U:=(mem_ready.1 u).1;rw[L] at t;rcases gA i listed.size with N|N
    ·simp[N] at U t;rw[U] at t;cases t
    ·simp[Array.getElem?_eq_none N] at t
   have O:j≠d:=fun e=>by
    subst e;obtain⟨od,T,e,K,R,J⟩:=LH hd;rw[m] at T;cases T;exact r e K R J
   have Y:=wpOp_putIf m (l j x m f p r) (fun z b=>q i s z b M) (fun z b=>q j x z b m) Z D t;have n:∀k ok,ops[k]?=some ok->k≠i->(listed.setIfInBounds j true).getD k true=false →
     (∀e∈ok.after,Region.binds md e=true->e.on≠i)->s.apart ops ok=true:=fun k ok X G C I=>by
    refine l k ok X G ?_ I;by_cases A:j=k
    ·subst A;exact p
    ·rw[getD_set_ne true A] at C;exact C
   refine wpOp_mono (fun W V F=>⟨F.2.1,ih (listed.setIfInBounds j true) W V n (ready_mono u (Ne.symm f)) F.1 (F.2.1 O) ?_⟩) Y;rw[Array.setIfInBounds_comm _ _ f];exact F.2.2
theorem xX{e:Oper}{v:Value}{b:Nat}(f:ops[i]?=some e)
  (m:Region.noSelect ops=true) (o:Region.free md ops listed i=true) (n:(Region.ready md ops listed).contains i=true) (l:PV md ops d i=true)
  (j:∀c a w,Q (.panic c) (a.put e.dst v) w->Q (.panic c) a w) (g:YieldsIf P ops S e v a) (k:S w)
  (h:fQ P md ops Q S d b (listed.setIfInBounds i true) (a.put e.dst v) w):fQ P md ops Q S d (b+1) listed a w:=
 Gt f (Region.noSelect_spec m) j l b listed a w (Region.free_spec f o) (by simpa using n) g k h
theorem gU{o:Oper}{b:Nat}(g:Region.ready md ops listed=[i])(l:ops[i]?=some o)
  (h:∀c:Act->World->Prop,Shut (∀a w,(i≠d->S w)->fQ P md ops Q S d b (listed.setIfInBounds i true) a w->c a w)->if Region.wanted o (yielded ops a.tmps)=true then Oper.wp P o a w c Q else c (a.put o.dst undef) w):fQ P md ops Q S d (b+1) listed a w:=by
 refine⟨fun f=>(by rw[g] at f;cases f),fun j e=>?_⟩;rw[g] at e;obtain rfl:j=i:=by simpa using e
 exact wpOp_step l (fun c n=>h c (fun a w m k=>n a w ⟨m,k⟩))
theorem iz(c:Region.ready md ops listed=[])(h:Q .normal a w):∀b,fQ P md ops Q S d b listed a w
 |0=>⟨c,h⟩
 |_+1=>⟨fun _=>h,by rw[c];simp⟩
theorem eM{id:Nat}(c:P.follows .mixedOrders=true)(b:S w.drew)
  (h:S w.drew->fQ P .any ops Q S d ops.size (Array.replicate ops.size false) a w.drew):(Code.region id ops true).wp P Q a w:=
 wp_region_any c (oJ _ _ _ _ (h b))
end
end
structure kA (w:Nat) (n:vI):Prop where
 len:n.leap.length=w
 dlen:n.down.length=w
 ge:∀i,i<w->i<=n.leap.getD i 0
 le:∀i,i<w->n.leap.getD i 0<=w
 fix:∀i,i<w->n.leap.getD i 0<w->n.leap.getD (n.leap.getD i 0) 0=n.leap.getD i 0
 seg:∀i j,i<w->i<=j->j<n.leap.getD i 0->n.leap.getD j 0=n.leap.getD i 0
theorem ur(l:List Nat)(i j v d:Nat):(l.set i v).getD j d=if i=j/\i<l.length then v else l.getD j d:=by
 simp only[gV,p3];by_cases h:i=j
 ·subst h;by_cases a:i<l.length
  ·simp[a]
  ·simp[a]
 ·simp[h]
theorem Ar(v:Nat):∀(n:Nat) (l:List Nat),(jJ v n l).length=l.length
 |0,l=>rfl
 |n+1,l=>by
  unfold jJ;split
  ·rw[Ar];simp
  ·rfl
open Classical in
theorem o7(v:Nat):∀(n:Nat) (l:List Nat) (u:Nat),n<=l.length->(jJ v n l).getD u 0=if u<n/\∀j,u<=j->j<n->l.getD j 0>v then v else l.getD u 0
 |0,l,u,_=>by simp[jJ]
 |n+1,l,u,h=>by
  unfold jJ;by_cases c:l.getD n 0>v
  ·rw[zb c,o7 v n (l.set n v) u (by simp;omega)];by_cases d:u<n
   ·by_cases e:∀j,u<=j->j<n->l.getD j 0>v
    ·rw[zb ⟨d,fun j a b=>by rw[ur,za (by omega)];exact e j a b⟩,zb ⟨by omega,fun j a b=>by
      by_cases f:j=n
      ·subst f;exact c
      ·exact e j a (by omega)⟩]
    ·rw[za (fun q=>e fun j a b=>by have:=q.2 j a b;rwa [ur,za (by omega)] at this),za (fun q=>e fun j a b=>q.2 j a (by omega)),ur,za (by omega)]
   ·rw[za (fun q=>d q.1),ur];by_cases g:n=u
    ·subst g;rw[zb ⟨rfl,by omega⟩,zb ⟨by omega,fun j a b=>by
      have:j=n:=by omega
      subst this;exact c⟩]
    ·rw[za (by omega),za (by omega)]
  ·rw[za c];by_cases d:u<n+1
   ·rw[za (fun q=>c (q.2 n (by omega) (by omega)))]
   ·rw[za (fun q=>d q.1)]
def lc(w:Nat)(n:vI)(v:Nat):Prop:=v<w/\n.leap.getD v 0=v
theorem kA.none{w:Nat}{n:vI}(h:kA w n){i:Nat}(a:i<w)(c:¬n.leap.getD i 0<w):∀u,i<=u->¬lc w n u:=by
 intro u b ⟨e,d⟩;have:=h.seg i u a b (by omega);omega
theorem kA.some{w:Nat}{n:vI}(h:kA w n){i:Nat}(a:i<w)(b:n.leap.getD i 0<w):i<=n.leap.getD i 0/\lc w n (n.leap.getD i 0)/\∀u,i<=u->u<n.leap.getD i 0->¬lc w n u:=by
 refine⟨h.ge i a,⟨b,h.fix i a b⟩,fun u d c ⟨f,e⟩=>?_⟩;have:=h.seg i u a d c;omega
theorem kA.put{w:Nat}{n:vI}(h:kA w n){v d:Nat}(l:v<w)(y:¬lc w n v):kA w (fU n v d)/\(∀u,lc w (fU n v d) u↔u=v∨lc w n u)/\∀u,(fU n v d).down.getD u 0=if u=v then d else n.down.getD u 0:=by
 have z:=h.len;have k:n.leap.getD v 0>v:=by
  have s:=h.ge v l;rcases Nat.lt_or_eq_of_le s with q|q
  ·exact q
  ·exact zC ⟨l,q.symm⟩ y
 have r:∀u,(jJ v (v+1) n.leap).getD u 0=if u<=v/\n.leap.getD u 0>v then v else n.leap.getD u 0:=by
  intro u;rw[o7 v (v+1) n.leap u (by omega)];by_cases m:u<=v
  ·by_cases f:n.leap.getD u 0>v
   ·have p:∀j,u<=j->j<v+1->n.leap.getD j 0>v:=fun j s x=>by
     have:=h.seg u j (by omega) s (by omega);omega
    rw[zb ⟨by omega,p⟩,zb ⟨m,f⟩]
   ·rw[za (fun q=>f (q.2 u (zh _) (by omega))),za (fun q=>f q.2)]
  ·rw[za (fun q=>by omega),za (fun q=>by omega)]
 have a:∀u,(fU n v d).leap.getD u 0=if u<=v/\n.leap.getD u 0>v then v else n.leap.getD u 0:=r
 have e:(fU n v d).leap.getD v 0=v:=by rw[a,zb ⟨zh _,k⟩]
 refine⟨⟨by simp[fU,Ar,z],by simp[fU,h.dlen],fun i c=>?_,fun i c=>?_,fun i c f=>?_,fun i j c g o=>?_⟩,fun u=>?_,fun u=>?_⟩
 ·rw[a];split
  ·omega
  ·exact h.ge i c
 ·rw[a];split
  ·omega
  ·exact h.le i c
 ·by_cases b:i<=v/\n.leap.getD i 0>v
  ·rw[a i,zb b];exact e
  ·rw[a i,za b] at f ⊢;have x:=h.fix i c f;rw[a];by_cases t:n.leap.getD i 0<=v/\n.leap.getD (n.leap.getD i 0) 0>v
   ·omega
   ·rw[za t];exact x
 ·by_cases b:i<=v/\n.leap.getD i 0>v
  ·rw[a i,zb b] at o ⊢;have:=h.seg i j c g (by omega);rw[a,zb ⟨by omega,by omega⟩]
  ·rw[a i,za b] at o ⊢;have:=h.seg i j c g o;rw[a,this];rw[za (by omega)]
 ·unfold lc;rw[a];by_cases b:u<=v/\n.leap.getD u 0>v
  ·rw[zb b];constructor
   ·rintro⟨_,q⟩;exact zf q.symm
   ·rintro(q|q)
    ·subst q;exact⟨l,rfl⟩
    ·omega
  ·rw[za b];constructor
   ·intro q;exact ze q
   ·rintro(q|q)
    ·subst q;exact zC ⟨zh _,k⟩ b
    ·exact q
 ·show(n.down.set v d).getD u 0=_;rw[ur];by_cases m:u=v
  ·subst m;rw[zb ⟨rfl,by rw[h.dlen];exact l⟩,zb rfl]
  ·rw[za (by omega),za m]
theorem pg(k d i:Nat)(a:i<k)(x:Nat):(List.replicate k x).getD i d=x:=by simp[List.getD_eq_getElem?_getD,a]
theorem kA.new(w:Nat):kA w ⟨List.replicate w w,List.replicate w 0⟩/\∀v,¬lc w ⟨List.replicate w w,List.replicate w 0⟩ v:=by
 refine⟨⟨by simp,by simp,fun i a=>?_,fun i a=>?_,fun i a e=>?_,fun i j a c b=>?_⟩,fun v ⟨f,d⟩=>?_⟩<;>simp only at *
 ·rw[pg _ _ _ a];omega
 ·rw[pg _ _ _ a];exact zh _
 ·rw[pg _ _ _ a] at e;omega
 ·rw[pg _ _ _ a] at b ⊢;rw[pg _ _ _ b]
 ·rw[pg _ _ _ f] at d;omega
section
variable {T:zi}{a:Nat}
def jv(T:zi)(a:Nat):vI:=T.qi.getD a vI.zero
def dJ(T:zi):Prop:=∀a,a<T.qi.length->kA T.qf (jv T a)
theorem lu(T:zi)(a v:Nat):zH T a v=if a<T.qi.length/\v<T.qf/\(jv T a).leap.getD v 0=v then some ((jv T a).down.getD v 0) else none:=by
 unfold zH yF jv;by_cases b:a<T.qi.length/\v<T.qf
 ·rw[zb b];dsimp only;generalize (T.qi.getD a vI.zero).leap.getD v 0=x;by_cases c:x=v
  ·subst c;rw[za (by omega:¬x≥T.qf)];simp[b]
  ·by_cases d:x≥T.qf
   ·simp[d,c]
   ·simp[d,c]
 ·rw[za b,za (fun q=>b ⟨q.1,q.2.1⟩)]
theorem dL{v b:Nat}(h:zH T a v=some b):a<T.qi.length/\v<T.qf:=by
 unfold zH yF at h;by_cases c:a<T.qi.length/\v<T.qf
 ·exact c
 ·rw[za c] at h;cases h
theorem D7(h:dJ T){f v:Nat}(b:yF T a f=some v):f<=v/\v<T.qf/\(zH T a v).isSome=true/\∀u,f<=u->u<v->zH T a u=none:=by
 unfold yF at b;split at b
 ·rename_i d;simp only at b;split at b
  ·cases b
  ·rename_i g;simp only[zs] at b;have c:=(h a d.1).some d.2 (by unfold jv;omega);unfold jv at c;rw[b] at c g;refine⟨c.1,by omega,?_,fun u i e=>?_⟩
   ·rw[lu,zb ⟨d.1,by omega,c.2.1.2⟩];rfl
   ·rw[lu,za (fun q=>c.2.2 u i e ⟨q.2.1,q.2.2⟩)]
 ·cases b
theorem CY(h:dJ T){f:Nat}(b:yF T a f=none):∀u,f<=u->zH T a u=none:=by
 intro u c;rw[lu];refine za fun q=>?_;unfold yF at b;rw[zb ⟨q.1,by omega⟩] at b;simp only at b;split at b
 ·rename_i d;exact(h a q.1).none (show f<T.qf by omega) (by unfold jv;omega) u c ⟨q.2.1,q.2.2⟩
 ·cases b
def PG(T:zi):Nat->zk->Option Nat
 |a,[]=>some a
 |a,v::r=>match zH T a v with
  |none=>none
  |some b=>PG T b r
theorem m7(T:zi):∀(p q:zk) (a:Nat),PG T a (p++q)=(PG T a p).bind fun b=>PG T b q
 |[],q,a=>rfl
 |v::p,q,a=>by
  simp only[f5,PG];cases zH T a v with
  |none=>rfl
  |some b=>exact m7 T p q b
structure jM (T:zi) (pth:Nat->zk):Prop where
 dep:1<=T.ql/\T.ql<=3
 wid:1<=T.qf
 pos:0<T.qi.length
 node:dJ T
 root:pth 0=[]
 lev:∀a,a<T.qi.length->(pth a).length<T.ql
 inj:∀a b,a<T.qi.length->b<T.qi.length->pth a=pth b->a=b
 kid:∀a v b,zH T a v=some b->(pth a).length+1<T.ql->b<T.qi.length/\pth b=pth a++[v]
 par:∀b,b<T.qi.length->b≠0->∃a v,zH T a v=some b/\(pth a).length+1<T.ql/\pth b=pth a++[v]
theorem FY(l:List vI)(i j:Nat)(v d:vI):(l.set i v).getD j d=if i=j/\i<l.length then v else l.getD j d:=by
 simp only[gV,p3];by_cases h:i=j
 ·subst h;by_cases b:i<l.length
  ·simp[b]
  ·simp[b]
 ·simp[h]
theorem CN(T:zi)(a v d b:Nat)(c:a<T.qi.length)(e:v<T.qf):jv (ya T a v d) b=if b=a then fU (jv T a) v d else jv T b:=by
 unfold ya jv;rw[zb ⟨c,e⟩];simp only;rw[FY];by_cases h:b=a
 ·subst h;rw[zb ⟨rfl,c⟩,zb rfl]
 ·rw[za (fun q=>h q.1.symm),za h]
theorem fG(T:zi)(a v d:Nat):(ya T a v d).qi.length=T.qi.length:=by unfold ya;split<;>simp
theorem pL(T:zi)(a v d:Nat):(ya T a v d).qf=T.qf:=by unfold ya;split<;>rfl
theorem pi(T:zi)(a v d:Nat):(ya T a v d).ql=T.ql:=by unfold ya;split<;>rfl
theorem Eh(T:zi)(a v d:Nat):(ya T a v d).count=T.count:=by unfold ya;split<;>rfl
theorem Ce(h:dJ T){v d:Nat}(g:a<T.qi.length)(f:v<T.qf)(m:zH T a v=none):dJ (ya T a v d)/\∀b u,zH (ya T a v d) b u=if b=a/\u=v then some d else zH T b u:=by
 have j:¬lc T.qf (jv T a) v:=fun q=>by rw[lu,zb ⟨g,f,q.2⟩] at m;cases m
 obtain⟨o,k,n⟩:=(h a g).put (d:=d) f j;have l:dJ (ya T a v d):=by
  intro b c;rw[fG] at c;rw[pL,CN T a v d b g f];split
  ·exact o
  ·exact h b c
 refine⟨l,fun b u=>?_⟩;rw[lu,fG,pL,CN T a v d b g f,lu];by_cases c:b=a
 ·subst c;rw[zb rfl,n];by_cases i:u=v
  ·subst i;rw[zb rfl,zb ⟨g,f,((k u).2 (zf rfl)).2⟩,zb ⟨rfl,rfl⟩]
  ·rw[za i,za (fun q:b=b/\u=v=>i q.2)];by_cases e:b<T.qi.length/\u<T.qf/\(jv T b).leap.getD u 0=u
   ·rw[zb e,zb ⟨e.1,e.2.1,((k u).2 (ze e.2)).2⟩]
   ·rw[za e];refine za fun q=>e ⟨q.1,?_⟩;rcases(k u).1 q.2 with r|r
    ·exact zC r i
    ·exact r
 ·rw[za c,za (fun q:b=a/\u=v=>c q.1)]
theorem GX(h:dJ T):dJ (yx T)/\∀b u,zH (yx T) b u=zH T b u:=by
 have d:∀b,jv (yx T) b=if b<T.qi.length then jv T b else if b=T.qi.length then⟨List.replicate T.qf T.qf,List.replicate T.qf 0⟩ else vI.zero:=by
  intro b;unfold jv yx;simp only[gV,List.getElem?_append];by_cases c:b<T.qi.length
  ·simp[c]
  ·rw[za c,za c];by_cases e:b=T.qi.length
   ·subst e;simp
   ·rw[za e];rw[kR (by simp;omega)];rfl
 have g:(yx T).qi.length=T.qi.length+1:=by simp[yx]
 have i:dJ (yx T):=by
  intro b j;rw[d];by_cases c:b<T.qi.length
  ·rw[zb c];exact h b c
  ·rw[za c,zb (by omega)];exact(kA.new T.qf).1
 refine⟨i,fun b u=>?_⟩;rw[lu,lu,d,g,show(yx T).qf=T.qf from rfl];by_cases c:b<T.qi.length
 ·rw[zb c];by_cases f:u<T.qf/\(jv T b).leap.getD u 0=u
  ·rw[zb ⟨by omega,f⟩,zb ⟨c,f⟩]
  ·rw[za (fun q=>f q.2),za (fun q=>f q.2)]
 ·rw[za c,za (fun q:b<T.qi.length/\_=>c q.1)];by_cases e:b=T.qi.length
  ·rw[zb e];exact za fun q=>(kA.new T.qf).2 u q.2
  ·exact za fun q=>by omega
end
section
variable {pth:Nat->zk}
def uf(T:zi)(q:zk):Option Nat:=PG T 0 q
structure QK (T T':zi) (key:zk) (m:Nat) (new:Bool) (room:Nat):Prop where
 inv:∃pth',jM T' pth'
 qf:T'.qf=T.qf
 ql:T'.ql=T.ql
 is:new=(uf T key).isNone
 same:new=false->T'=T
 more:new=true->T'.count=T.count+1/\T'.qi.length<=T.qi.length+room
 sem:∀q,q.length=T.ql->uf T' q=if q=key then some ((uf T q).getD m) else uf T q
theorem jM.grow{T:zi}(h:jM T pth){a v:Nat}(D:a<T.qi.length)(H:v<T.qf)(F:(pth a).length+1<T.ql)(r:zH T a v=none):
  jM (ya (yx T) a v T.qi.length) (fun c=>if c=T.qi.length then pth a++[v] else pth c)/\(∀b u,zH (ya (yx T) a v T.qi.length) b u=if b=a/\u=v then some T.qi.length else zH T b u)/\(ya (yx T) a v T.qi.length).qi.length=T.qi.length+1/\(ya (yx T) a v T.qi.length).qf=T.qf/\(ya (yx T) a v T.qi.length).ql=T.ql/\(ya (yx T) a v T.qi.length).count=T.count:=by
 have A:=GX h.node;have q:(yx T).qi.length=T.qi.length+1:=by simp[yx]
 obtain⟨K,G⟩:=Ce A.1 (a:=a) (v:=v) (d:=T.qi.length) (by rw[q];omega) (show v<(yx T).qf from H) (by rw[A.2];exact r);have t:∀b u,zH (ya (yx T) a v T.qi.length) b u=if b=a/\u=v then some T.qi.length else zH T b u:=fun b u=>by rw[G,A.2]
 have j:(ya (yx T) a v T.qi.length).qi.length=T.qi.length+1:=by rw[fG,q]
 have p:(ya (yx T) a v T.qi.length).qf=T.qf:=by rw[pL];rfl
 have i:(ya (yx T) a v T.qi.length).ql=T.ql:=by rw[pi];rfl
 have x:(ya (yx T) a v T.qi.length).count=T.count:=by rw[Eh];rfl
 have g:∀c,c<T.qi.length->pth c≠pth a++[v]:=by
  intro c o e;have B:c≠0:=by rintro rfl;rw[h.root] at e;exact zC e.symm (by simp)
  obtain⟨E,M,l,C,s⟩:=h.par c o B;rw[e] at s;have k:=nM s rfl;have m:=h.inj a E D (dL l).1 k.1;subst m;simp only[lF,and_true] at k;rw[←k.2] at l;rw[l] at r;cases r
 refine⟨⟨by rw[i];exact h.dep,by rw[p];exact h.wid,by rw[j];omega,K,?_,fun c o=>?_,fun c d o y e=>?_,fun c u b f n=>?_,fun b J z=>?_⟩,t,j,p,i,x⟩
 ·rw[za (by omega)];exact h.root
 ·rw[j] at o;rw[i];by_cases e:c=T.qi.length
  ·rw[zb e];simp;omega
  ·rw[za e];exact h.lev c (by omega)
 ·rw[j] at o y;by_cases k:c=T.qi.length
  ·by_cases m:d=T.qi.length
   ·rw[k,m]
   ·rw[zb k,za m] at e;exact zC e.symm (g d (by omega))
  ·by_cases m:d=T.qi.length
   ·rw[za k,zb m] at e;exact zC e (g c (by omega))
   ·rw[za k,za m] at e;exact h.inj c d (by omega) (by omega) e
 ·rw[t] at f;rw[i] at n;by_cases e:c=a/\u=v
  ·rw[zb e] at f;simp only[zs] at f;obtain⟨rfl,rfl⟩:=e;subst f;rw[zb rfl,za (by omega)];exact⟨by omega,rfl⟩
  ·rw[za e] at f;have w:=(dL f).1;rw[za (by omega)] at n;obtain⟨L,I⟩:=h.kid c u b f n;rw[za (by omega),za (by omega)];exact⟨by omega,I⟩
 ·rw[j] at J;by_cases e:b=T.qi.length
  ·refine⟨a,v,by rw[t,zb ⟨rfl,rfl⟩,e],by rw[za (by omega),i];exact F,by rw[zb e,za (by omega)]⟩
  ·obtain⟨c,u,l,C,s⟩:=h.par b (by omega) z;have w:=(dL l).1;refine⟨c,u,?_,by rw[za (by omega),i];exact C,by rw[za e,za (by omega)];exact s⟩;rw[t,za]
   ·exact l
   ·rintro⟨rfl,rfl⟩;rw[r] at l;cases l
theorem jM.grow_sem{T j:zi}{pth:Nat->zk}(h:jM T pth){a v:Nat}(o:(pth a).length+1<T.ql)(k:zH T a v=none)(i:∀b u,zH j b u=if b=a/\u=v then some T.qi.length else zH T b u):∀(q:zk) (c:Nat),c<T.qi.length->(pth c).length+q.length=T.ql->PG j c q=PG T c q
 |[],c,_,_=>rfl
 |u::q,c,p,g=>by
  simp only[PG,i];simp only[yZ] at g;by_cases e:c=a/\u=v
  ·obtain⟨rfl,rfl⟩:=e;rw[zb ⟨rfl,rfl⟩,k];simp only;cases q with
   |nil=>simp at g;omega
   |cons x q=>
    simp only[PG,i];by_cases f:c=T.qi.length
    ·omega
    ·rw[za (fun q=>f q.1.symm)];cases d:zH T T.qi.length x with
     |none=>rfl
     |some y=>have:=(dL d).1;omega
  ·rw[za e];cases d:zH T c u with
   |none=>rfl
   |some b=>
    simp only;by_cases n:(pth c).length+1<T.ql
    ·obtain⟨m,l⟩:=h.kid c u b d n;exact h.grow_sem o k i q b m (by rw[l];simp;omega)
    ·cases q with
     |nil=>rfl
     |cons x q=>simp at g;omega
theorem jM.put_sem{T D:zi}{pth:Nat->zk}(h:jM T pth){a v m:Nat}(I:(pth a).length+1=T.ql)(z:a<T.qi.length)(G:zH T a v=none)(F:∀b u,zH D b u=if b=a/\u=v then some m else zH T b u):∀(q:zk) (c:Nat),c<T.qi.length->(pth c).length+q.length=T.ql->PG D c q=if pth c++q=pth a++[v] then some m else PG T c q
 |[],c,j,o=>by have:=h.lev c j;simp at o;omega
 |u::q,c,j,o=>by
  simp only[PG,F];simp only[yZ] at o;by_cases H:(pth c).length+1<T.ql
  ·have t:c≠a:=by rintro rfl;omega
   rw[za (fun q=>t q.1)];cases C:zH T c u with
   |none=>
    simp only;rw[za];intro e;have s:∀(k:Nat) (q:zk) (b:Nat),q.length=k->b<T.qi.length->pth c++u::q=pth b->False:=by
     intro k;induction k with
     |zero=>
      intro q b p B e;have:q=[]:=mw.1 p;subst this;have i:b≠0:=by rintro rfl;rw[h.root] at e;simp at e
      obtain⟨x,y,n,K,l⟩:=h.par b B i;rw[←e] at l;have f:=nM l rfl;have:=h.inj c x j (dL n).1 f.1;subst this;simp only[lF,and_true] at f;rw[←f.2,C] at n;cases n
     |succ k J=>
      intro q b p B e;have i:b≠0:=by rintro rfl;rw[h.root] at e;simp at e
      obtain⟨x,y,n,K,l⟩:=h.par b B i;have d:q≠[]:=by rintro rfl;simp at p
      have g:q=q.dropLast++[q.getLast d]:=(List.dropLast_concat_getLast d).symm;rw[←e,g] at l;have A:(pth c++u::q.dropLast)++[q.getLast d]=pth x++[y]:=by rw[←l];simp
      have f:=nM A rfl;exact J q.dropLast x (by simp[p]) (dL n).1 f.1
    have d:q≠[]:=by rintro rfl;simp at o;omega
    have g:q=q.dropLast++[q.getLast d]:=(List.dropLast_concat_getLast d).symm;rw[g] at e;have A:(pth c++u::q.dropLast)++[q.getLast d]=pth a++[v]:=by rw[←e];simp
    have f:=nM A rfl;exact s _ q.dropLast a rfl z f.1
   |some b=>
    simp only;obtain⟨L,E⟩:=h.kid c u b C H;rw[h.put_sem I z G F q b L (by rw[E];simp;omega),E];simp
  ·have r:q=[]:=mw.1 (by have:=h.lev c j;omega);subst r;by_cases e:c=a/\u=v
   ·obtain⟨rfl,rfl⟩:=e;simp[PG]
   ·rw[za e];have w:¬pth c++[u]=pth a++[v]:=by
     intro M;have f:=nM M rfl;exact e ⟨h.inj c a j z f.1,by simpa using f.2⟩
    rw[za w];cases zH T c u<;>rfl
theorem jM.reach{T:zi}(h:jM T pth):∀(k:Nat) (b:Nat),b<T.qi.length->(pth b).length=k->PG T 0 (pth b)=some b:=by
 intro k;induction k with
 |zero=>
  intro b d a;have e:pth b=pth 0:=by rw[h.root];exact mw.1 a
  have:=h.inj b 0 d h.pos e;subst this;rw[h.root];rfl
 |succ k j=>
  intro b d a;have c:b≠0:=by rintro rfl;rw[h.root] at a;simp at a
  obtain⟨x,y,g,l,f⟩:=h.par b d c;have i:=j x (dL g).1 (by rw[f] at a;simpa using a);rw[f,m7,i];simp[PG,g]
theorem wg(m:Nat):∀(r:zk) (T:zi) (pth:Nat->zk) (a:Nat),jM T pth->a<T.qi.length->T.ql<=(pth a).length+r.length->(∀v∈r,v<T.qf)->QK T (vC m T a (pth a).length r).1 (pth a++r.take (T.ql-(pth a).length)) m (vC m T a (pth a).length r).2 (T.ql-1-(pth a).length)
 |[],T,pth,a,h,t,I,_=>by have:=h.lev a t;simp at I;omega
 |v::r,T,pth,a,h,t,I,J=>by
  have R:=h.lev a t;have U:v<T.qf:=J v (by simp);have i:=h.reach _ a t rfl;simp only[yZ] at I;unfold vC;by_cases V:(pth a).length+1≥T.ql
  ·rw[zb V];have N:T.ql-(pth a).length=1:=by omega
   rw[N];have j:uf T (pth a++(v::r).take 1)=zH T a v:=by
    unfold uf;rw[m7,i];simp only[nh,List.take_zero,Option.bind_some,PG];cases zH T a v<;>rfl
   unfold fe;cases g:zH T a v with
   |some b=>
    refine⟨⟨pth,h⟩,rfl,rfl,by rw[j,g];rfl,fun _=>rfl,fun q=>by simp at q,fun q w=>?_⟩;by_cases e:q=pth a++(v::r).take 1
    ·subst e;rw[zb rfl,j,g];rfl
    ·rw[za e]
   |none=>
    have z:=Ce h.node (d:=m) t U g;have F:∀q c,PG {ya T a v m with count:=(ya T a v m).count+1} c q=PG (ya T a v m) c q:=by
     intro q;induction q with
     |nil=>intro c;rfl
     |cons x q f=>
      intro c;simp only[PG];have:zH {ya T a v m with count:=(ya T a v m).count+1} c x=zH (ya T a v m) c x:=rfl;rw[this];cases zH (ya T a v m) c x with
      |none=>rfl
      |some b=>exact f b
    refine⟨⟨pth,?_⟩,pL _ _ _ _,pi _ _ _ _,by rw[j,g];rfl,fun q=>by simp at q,fun _=>⟨by simp[Eh],by simp[fG]⟩,fun q w=>?_⟩
    ·have l:∀b u,zH {ya T a v m with count:=(ya T a v m).count+1} b u=if b=a/\u=v then some m else zH T b u:=z.2
     refine⟨by show 1<=(ya T a v m).ql/\(ya T a v m).ql<=3;rw[pi];exact h.dep,by show 1<=(ya T a v m).qf;rw[pL];exact h.wid,by show 0<(ya T a v m).qi.length;rw[fG];exact h.pos,z.1,h.root,fun c H=>by show _<(ya T a v m).ql;rw[pi];exact h.lev c (by simpa [fG] using H),fun c d H G e=>h.inj c d (by simpa [fG] using H) (by simpa [fG] using G) e,fun c u b y O=>?_,fun b hb M=>?_⟩
     ·rw[l] at y;have D:(pth c).length+1<T.ql:=by simpa [pi] using O
      by_cases e:c=a/\u=v
      ·obtain⟨rfl,rfl⟩:=e;omega
      ·rw[za e] at y;obtain⟨L,B⟩:=h.kid c u b y D;exact⟨by simpa [fG] using L,B⟩
     ·obtain⟨c,u,P,q2,Z⟩:=h.par b (by simpa [fG] using hb) M;refine⟨c,u,?_,by simpa [pi] using q2,Z⟩;rw[l,za]
      ·exact P
      ·rintro⟨rfl,rfl⟩;rw[g] at P;cases P
    ·unfold uf;rw[F,h.put_sem (by omega) t g z.2 q 0 h.pos (by rw[h.root];simpa using w),h.root];have A:(v::r).take 1=[v]:=by simp
     rw[A,n4];by_cases e:q=pth a++[v]
     ·rw[zb e,zb e];have:PG T 0 q=none:=by rw[e];have:=j;unfold uf at this;rw[A] at this;rw[this,g]
      rw[this];rfl
     ·rw[za e,za e]
  ·rw[za V];obtain⟨K,l⟩:∃K,T.ql-(pth a).length=K+1:=⟨T.ql-(pth a).length-1,by omega⟩;have C:∀p:zk,p=pth a++[v]->p++r.take (T.ql-p.length)=pth a++(v::r).take (T.ql-(pth a).length):=by
    rintro p rfl;rw[l,nh];have:T.ql-(pth a++[v]).length=K:=by simp;omega
    rw[this];simp
   unfold qk;cases g:zH T a v with
   |some b=>
    obtain⟨L,B⟩:=h.kid a v b g (by omega);have f:=wg m r T pth b h L (by rw[B];simp;omega) (fun x g=>J x (by simp[g]));rw[C _ B] at f;have e:(pth b).length=(pth a).length+1:=by rw[B];simp
    rw[e] at f;exact⟨f.inv,f.qf,f.ql,f.is,f.same,fun q=>⟨(f.more q).1,by have:=(f.more q).2;simp only at this ⊢;omega⟩,f.sem⟩
   |none=>
    obtain⟨Y,X,S,Q,E,W⟩:=h.grow t U (by omega) g;have f:=wg m r (ya (yx T) a v T.qi.length) _ T.qi.length Y (by rw[S];omega) (by rw[zb rfl,E];simp;omega) (fun x g=>by rw[Q];exact J x (by simp[g]));rw[zb rfl,E,C _ rfl] at f;have e:(pth a++[v]).length=(pth a).length+1:=by simp
    rw[e] at f;have n:∀q:zk,q.length=T.ql->uf (ya (yx T) a v T.qi.length) q=uf T q:=fun q w=>h.grow_sem (by omega) g X q 0 h.pos (by rw[h.root];simpa using w);have o:(pth a++(v::r).take (T.ql-(pth a).length)).length=T.ql:=by simp;omega
    have k:uf T (pth a++(v::r).take (T.ql-(pth a).length))=none:=by
     unfold uf;rw[m7,i,l,nh];simp[PG,g]
    have s:=f.is;rw[n _ o,k] at s;refine⟨f.inv,by rw[f.qf,Q],by rw[f.ql,E],by rw[k];exact s,fun q=>?_,fun q=>⟨by rw[(f.more q).1,W],by have:=(f.more q).2;rw[S] at this;simp only at this ⊢;omega⟩,fun q w=>?_⟩
    ·rw[s] at q;cases q
    ·rw[f.sem q (by rw[E];exact w),n q w]
end
section
variable {T:zi}{pth:Nat->zk}
theorem N6(h:jM T pth)(row:zk)(m:Nat)(c:row.length=3)(a:fx T row=true):QK T (addP T row m).1 (row.take T.ql) m (addP T row m).2 (T.ql-1):=by
 have:=wg m row T pth 0 h h.pos (by rw[h.root];simp[c];exact h.dep.2) (fun v b=>by simp only[fx,lq,decide_eq_true_eq] at a;exact a v b);rw[h.root] at this;unfold addP;rw[zb a];simpa using this
theorem Dh(w d:Nat):(yS w d).qf=yn w:=rfl
theorem nJ(w d:Nat):(yS w d).ql=yY d:=rfl
theorem fm(d:Nat):1<=yY d/\yY d<=3:=by unfold yY;by_cases b:d<1<;>by_cases a:d>3<;>simp[b,a]<;>omega
theorem C0(w d a v:Nat):zH (yS w d) a v=none:=by
 rw[lu];refine za fun q=>?_;have b:a=0:=by have:=q.1;simp[yS,yx] at this;exact this
 subst b;exact(kA.new (yn w)).2 v q.2
theorem Fx(w d:Nat):jM (yS w d) (fun _=>[]):=by
 refine⟨fm d,by show 1<=yn w;unfold yn;split<;>omega,by simp[yS,yx],?_,rfl,fun a _=>by show 0<yY d;exact(fm d).1,fun a b c e _=>?_,(fun a v b f=>by rw[C0] at f;exact zC f (by simp)),fun b e h=>?_⟩
 ·intro a c;have g:a=0:=by simp[yS,yx] at c;exact c
  subst g;exact(kA.new (yn w)).1
 ·simp[yS,yx] at c e;omega
 ·simp[yS,yx] at e;omega
theorem tS(w d:Nat)(q:zk)(a:q≠[]):uf (yS w d) q=none:=by
 cases q with
 |nil=>exact zC rfl a
 |cons v q=>simp[uf,PG,C0]
theorem oV(T:zi):∀(r:zk) (a level:Nat),level<T.ql->T.ql<=level+r.length->uw T a level r=PG T a (r.take (T.ql-level))
 |[],a,level,d,c=>by simp at c;omega
 |v::r,a,level,d,c=>by
  obtain⟨k,f⟩:∃k,T.ql-level=k+1:=⟨T.ql-level-1,by omega⟩;unfold uw;rw[f,nh];simp only[PG];cases g:zH T a v with
  |none=>rfl
  |some b=>
   simp only;by_cases e:level+1≥T.ql
   ·rw[zb e];have:k=0:=by omega
    subst this;simp[PG]
   ·rw[za e,oV T r b (level+1) (by omega) (by simp at c;omega)];have:T.ql-(level+1)=k:=by omega
    rw[this]
theorem IE(h:jM T pth)(row:zk)(a:row.length=3):xB T row=uf T (row.take T.ql):=by
 have:=oV T row 0 0 (by have:=h.dep.1;omega) (by rw[a];have:=h.dep.2;omega);simpa [xB,uf] using this
def vZ(T:zi):Nat->Nat->Nat->List zk
 |0,_,_=>[[]]
 |d+1,a,f=>(List.range' f (T.qf-f)).flatMap fun v=>match zH T a v with
  |none=>[]
  |some b=>(vZ T d b 0).map (v::·)
theorem Iz{d a f:Nat}(h:∀u,f<=u->zH T a u=none):vZ T (d+1) a f=[]:=by
 simp only[vZ,List.flatMap_eq_nil_iff,List.mem_range'_1];intro v b;rw[h v b.1]
theorem Kx{d a v b:Nat}:∀(n f:Nat),v-f=n->f<=v->v<T.qf->zH T a v=some b->(∀u,f<=u->u<v->zH T a u=none)->vZ T (d+1) a f=(vZ T d b 0).map (v::·)++vZ T (d+1) a (v+1):=by
 intro n;induction n with
 |zero=>
  intro f j o i e _;have:f=v:=by omega
  subst this;obtain⟨k,g⟩:∃k,T.qf-f=k+1:=⟨T.qf-f-1,by omega⟩;have c:T.qf-(f+1)=k:=by omega
  simp only[vZ,g,c,List.range'_succ,us,e]
 |succ n m=>
  intro f j o i e h;obtain⟨k,g⟩:∃k,T.qf-f=k+1:=⟨T.qf-f-1,by omega⟩;have c:T.qf-(f+1)=k:=by omega
  rw[←m (f+1) (by omega) (by omega) i e (fun u p l=>h u (by omega) l)];simp only[vZ,g,c,List.range'_succ,us,h f (zh _) (by omega),n4]
theorem oU(row:zk)(l v:Nat)(k:zk)(a:l<row.length):(row.set l v).take (l+1)++k=row.take l++v::k:=by
 have:(row.set l v).take (l+1)=row.take l++[v]:=by
  rw[yM (by simpa using a),List.take_set_of_le (zh _)];simp
 rw[this];simp
theorem Oi(row:zk)(l v j:Nat)(a:l<j):(row.set l v).drop j=row.drop j:=by
 rw[List.drop_set,zb a]
theorem Mi(E:dJ T)(L:T.ql<=3):∀(n a level f:Nat) (row:zk) (g:List zk),level<T.ql->row.length=3->f<=T.qf->(T.qf-f)+1+(T.ql-level-1)*(T.qf+1)<=n →
  ∃c,xG T n a level f row g=some (c,g++(vZ T (T.ql-level) a f).map fun k=>row.take level++k++row.drop T.ql)/\c.length=3/\c.take level=row.take level/\c.drop T.ql=row.drop T.ql:=by
 intro n;induction n with
 |zero=>intro a level f row g u z O t;omega
 |succ n A=>
  intro a level f row g u z O t;obtain⟨d,D⟩:∃d,T.ql-level=d+1:=⟨T.ql-level-1,by omega⟩;unfold xG;cases G:yF T a f with
  |none=>
   refine⟨row,?_,z,rfl,rfl⟩;rw[D,Iz (CY E G)];simp
  |some v=>
   obtain⟨R,N,J,S⟩:=D7 E G;obtain⟨b,H⟩:=mi.1 J;have m:=Kx (d:=d) _ f rfl R N H S;simp only;have l:(row.set level v).length=3:=by simpa using z
   have r:level<row.length:=by omega
   have h:(row.set level v).drop T.ql=row.drop T.ql:=Oi row level v T.ql u;have i:(row.set level v).take level=row.take level:=by rw[List.take_set_of_le (zh _)]
   have p:T.ql-level-1=d:=by omega
   by_cases e:level+1≥T.ql
   ·rw[zb e];have w:d=0:=by omega
    subst w;obtain⟨c,y,x,C,s⟩:=A a level (v+1) (row.set level v) (g++[row.set level v]) u l (by omega) (by rw[p] at t ⊢;omega);refine⟨c,?_,x,by rw[C,i],by rw[s,h]⟩;rw[y,D,m];simp only[vZ,jx,List.map_nil,f5,n4,i,h,ki,zs,yo,true_and];congr 2;have:=oU row level v (row.drop T.ql) r;have P:T.ql=level+1:=by omega
    rw[←h,P] at this ⊢;rw[qO] at this;exact this
   ·rw[za e,za (by omega),H];simp only[uo];have U:d*(T.qf+1)=(d-1)*(T.qf+1)+(T.qf+1):=by
     obtain⟨j,rfl⟩:∃j,d=j+1:=⟨d-1,by omega⟩;simp[Nat.succ_mul]
    have B:T.ql-(level+1)-1=d-1:=by omega
    have q:T.ql-(level+1)=d:=by omega
    obtain⟨o,y,x,C,s⟩:=A b (level+1) 0 (row.set level v) g (by omega) l (by omega) (by rw[p] at t;rw[B];omega);rw[y];simp only;obtain⟨c,Q,K,I,M⟩:=A a level (v+1) o (g++(vZ T (T.ql-(level+1)) b 0).map fun k=>(row.set level v).take (level+1)++k++(row.set level v).drop T.ql) u x (by omega) (by rw[p] at t ⊢;omega);have F:o.take level=row.take level:=by
     have:=congrArg (List.take level) C;rwa [List.take_take,List.take_take,gP (by omega),i] at this
    refine⟨c,?_,K,by rw[I,F],by rw[M,s,h]⟩;rw[Q,D,m,q,F,s,h,vB,List.map_map,←ki];congr 3;refine congrArg (g++·) (kf fun k _=>?_);simp only[Function.comp];rw[oU row level v k r]
def Qh(k:zk)(d:Nat):zk:=k++([0,0,0]:zk).drop d
theorem Gg(h:jM T pth)(a:Nat)(f:3*(T.qf+1)<=a):mP a T=some ((vZ T T.ql 0 0).map fun k=>Qh k T.ql):=by
 have c:=h.dep;have e:T.qf+1+(T.ql-1)*(T.qf+1)<=3*(T.qf+1):=by
  have:(T.ql-1)*(T.qf+1)<=2*(T.qf+1):=pM _ (by omega);omega
 obtain⟨b,d,_,_,_⟩:=Mi h.node c.2 a 0 0 0 [0,0,0] [] (by omega) rfl (by omega) (by simp;omega);unfold mP;rw[d];simp[Qh]
theorem ik(T:zi):∀(d a f:Nat) (k:zk),k∈vZ T d a f↔k.length=d/\(PG T a k).isSome=true/\(0<d->f<=k.headD 0)
 |0,a,f,k=>by
  simp only[vZ,ud];constructor
  ·rintro rfl;simp[PG]
  ·rintro⟨h,_⟩;exact mw.1 h
 |d+1,a,f,k=>by
  simp only[vZ,uX,List.mem_range'_1];constructor
  ·rintro⟨v,m,g⟩;cases c:zH T a v with
   |none=>rw[c] at g;simp at g
   |some b=>
    rw[c] at g;simp only[zB] at g;obtain⟨n,j,rfl⟩:=g;obtain⟨i,e,_⟩:=(ik T d b 0 n).1 j;refine⟨by simp[i],?_,fun _=>by simpa using m.1⟩;simp only[PG,c];exact e
  ·rintro⟨i,e,l⟩;cases k with
   |nil=>simp at i
   |cons v k=>
    simp only[PG] at e;simp only[List.headD_cons] at l;cases c:zH T a v with
    |none=>rw[c] at e;simp at e
    |some b=>
     rw[c] at e;have o:=(dL c).2;have:=l (by omega);refine⟨v,by omega,?_⟩;rw[c];simp only[zB];exact⟨k,(ik T d b 0 k).2 ⟨by simpa using i,e,fun _=>zv _⟩,rfl⟩
end
def Re:zk->zk->Prop
 |a::x,b::y=>a<b∨a=b/\Re x y
 |_,_=>False
theorem Cb:∀x:zk,¬Re x x
 |[]=>id
 |a::x=>by
  rintro(h|⟨_,h⟩)
  ·omega
  ·exact Cb x h
theorem CG(T:zi):∀(d a f:Nat),(vZ T d a f).Pairwise Re
 |0,a,f=>by simp[vZ]
 |d+1,a,f=>by
  simp only[vZ];rw[List.pairwise_flatMap];refine⟨fun v _=>?_,?_⟩
  ·cases zH T a v with
   |none=>exact List.Pairwise.nil
   |some b=>
    simp only;rw[mJ];exact(CG T d b 0).imp fun h=>ze ⟨rfl,h⟩
  ·refine List.Pairwise.imp ?_ (List.pairwise_lt_range' (s:=f) (n:=T.qf-f));intro v u i x g y e;cases k:zH T a v with
   |none=>rw[k] at g;simp at g
   |some b=>
    rw[k] at g;cases j:zH T a u with
    |none=>rw[j] at e;simp at e
    |some c=>
     rw[j] at e;simp only[zB] at g e;obtain⟨l,_,rfl⟩:=g;obtain⟨m,_,rfl⟩:=e;exact zf i
theorem ot(T:zi)(d a f:Nat):(vZ T d a f).Nodup:=by
 refine(CG T d a f).imp ?_;rintro x y h rfl;exact Cb x h
theorem wE:∀{l1 l2:List zk},l1.Nodup->(∀x∈l1,x∈l2)->l1.length<=l2.length
 |[],l2,_,_=>by simp
 |a::l1,l2,d,f=>by
  have e:=f a (by simp);have g:=wE (l1:=l1) (l2:=l2.erase a) (jB.1 d).2 (fun x c=>by
   have b:x≠a:=by rintro rfl;exact(jB.1 d).1 c
   exact(mD b).2 (f x (by simp[c])))
  rw[nS e] at g;have:=mM e;simp;omega
theorem KQ{l1 l2:List zk}(c:l1.Nodup)(b:l2.Nodup)(h:∀x,x∈l1↔x∈l2):l1.length=l2.length:=
 Nat.le_antisymm (wE c fun x a=>(h x).1 a) (wE b fun x a=>(h x).2 a)
def PD(T:zi):List zk:=vZ T T.ql 0 0
theorem qT(T:zi)(k:zk):k∈PD T↔k.length=T.ql/\(uf T k).isSome=true:=by
 unfold PD;rw[ik];exact⟨fun h=>⟨h.1,h.2.1⟩,fun h=>⟨h.1,h.2,fun _=>zv _⟩⟩
structure vf (T:zi):Prop where
 inv:∃pth,jM T pth
 cnt:(PD T).length=T.count
 room:T.qi.length<=1+2*T.count
theorem vf.new(w d:Nat):vf (yS w d):=by
 refine⟨⟨_,Fx w d⟩,?_,by simp[yS,yx]⟩;have:PD (yS w d)=[]:=by
  rw[List.eq_nil_iff_forall_not_mem];intro k c;obtain⟨b,a⟩:=(qT _ k).1 c;rw[tS w d k (by rintro rfl;have:=(fm d).1;rw[nJ] at b;simp at b;omega)] at a;cases a
 rw[this];rfl
theorem ty{T:zi}:∀(k:zk) (a:Nat),(PG T a k).isSome=true->∀v∈k,v<T.qf
 |[],_,_,v,c=>by cases c
 |u::k,a,h,v,c=>by
  simp only[PG] at h;cases d:zH T a u with
  |none=>rw[d] at h;simp at h
  |some b=>
   rw[d] at h;rcases zw.1 c with rfl|c
   ·exact(dL d).2
   ·exact ty k b h v c
theorem vf.add{T:zi}(h:vf T)(row:zk)(m:Nat)(j:row.length=3)(n:fx T row=true):
  vf (addP T row m).1/\(addP T row m).1.qf=T.qf/\(addP T row m).1.ql=T.ql/\(addP T row m).2=(uf T (row.take T.ql)).isNone/\((addP T row m).2=false->(addP T row m).1=T)/\((addP T row m).2=true->(addP T row m).1.count=T.count+1)/\∀q,q.length=T.ql->uf (addP T row m).1 q=if q=row.take T.ql then some ((uf T q).getD m) else uf T q:=by
 obtain⟨o,i⟩:=h.inv;have a:=N6 i row m j n;have p:=i.dep;refine⟨⟨a.inv,?_,?_⟩,a.qf,a.ql,a.is,a.same,fun q=>(a.more q).1,a.sem⟩
 ·cases c:(addP T row m).2 with
  |false=>rw[a.same c];exact h.cnt
  |true=>
   rw[(a.more c).1,←h.cnt];have g:=a.is;rw[c] at g;have f:(row.take T.ql).length=T.ql:=by rw[qa,j];omega
   have d:row.take T.ql∉PD T:=fun l=>by
    have:=((qT T _).1 l).2;rw[←Option.not_isNone,←g] at this;cases this
   have:=KQ (l1:=PD (addP T row m).1) (l2:=row.take T.ql::PD T) (ot _ _ _ _) (jB.2 ⟨d,ot _ _ _ _⟩) (fun k=>by
    rw[qT,a.ql,zw,qT];by_cases b:k.length=T.ql
    ·rw[a.sem k b];by_cases e:k=row.take T.ql
     ·simp[e,f]
     ·simp[e,b]
    ·constructor
     ·intro q;exact zC q.1 b
     ·rintro(q|q)
      ·rw[q] at b;exact zC f b
      ·exact zC q.1 b)
   simpa using this
 ·cases c:(addP T row m).2 with
  |false=>rw[a.same c];exact h.room
  |true=>
   have:=a.more c;have:=h.room;omega
theorem vf.rows{T:zi}(h:vf T)(a:Nat)(c:3*(T.qf+1)<=a):mP a T=some ((PD T).map fun k=>Qh k T.ql):=by
 obtain⟨d,b⟩:=h.inv;exact Gg b a c
theorem vf.rowsG{T:zi}(h:vf T)(a:Nat)(c:3*(T.qf+1)<=a)(b:T.count<=1048576):rowsG a T=some ((PD T).map fun k=>Qh k T.ql):=by
 unfold Go.Proofs.YteampbddflhngaaGreat.rowsG;rw[h.rows a c];simp[h.cnt,b]
theorem vf.okT{T:zi}(h:vf T)(a:T.count<=10000000):okT T=true:=by
 have:=h.room;simp only[Go.Proofs.YteampbddflhngaaGreat.okT,uZ,decide_eq_true_eq];omega
theorem vf.mark{T:zi}(h:vf T)(row:zk)(a:row.length=3):xB T row=uf T (row.take T.ql):=by
 obtain⟨c,b⟩:=h.inv;exact IE b row a
def jy(J:z9)(h:Nat×Nat)(v:Nat):Option Nat:=zH (J.ja.getD h.1 xC.zero).rows ((J.ja.getD h.1 xC.zero).qi.getD h.2 0) v
def eH(J:z9):Prop:=∀i,dJ (J.ja.getD i xC.zero).rows
def ku(J a:z9):Prop:=a={J with jh:=a.jh}
theorem ku.trans{a b c:z9}(h:ku a b)(k:ku b c):ku a c:=by
 unfold ku at *;rw[h] at k;exact k
theorem ku.ja{a b:z9}(h:ku a b):b.ja=a.ja:=by rw[h]
theorem G8{J:z9}{h:Nat×Nat}{f:Nat}(a:vu J h=true):ku J (vJ J h f).1/\(vJ J h f).2=yF (J.ja.getD h.1 xC.zero).rows ((J.ja.getD h.1 xC.zero).qi.getD h.2 0) f:=by
 unfold vJ;rw[zb a];exact⟨rfl,rfl⟩
def pG(a b c i:Nat):Prop:=i<a/\a<=i+b∨a<=i/\a+c<=i+b
def Er(J:z9)(a:List (Nat×Nat))(f:Nat):Option Nat->Prop
 |none=>∀u,f<=u->∃h∈a,jy J h u=none
 |some v=>f<=v/\(∀h∈a,(jy J h v).isSome=true)/\∀u,f<=u->u<v->∃h∈a,jy J h u=none
theorem Ki{J a:z9}(h:ku J a)(x:Nat×Nat)(v:Nat):jy a x v=jy J x v:=by unfold jy;rw[h.ja]
theorem FW(W f:Nat)(b:List (Nat×Nat))(k:z9)(F:eH k)(E:∀h∈b,vu k h=true)(R:∀h∈b,∀v,(jy k h v).isSome=true->v<W):
  ∀(n:Nat) (J:z9) (at' c a:Nat),ku k J->f<=at'->a<b.length->c<=b.length->(∀u,f<=u->u<at'->∃h∈b,jy k h u=none)->(∀i (w:i<b.length),pG a c b.length i->(jy k b[i] at').isSome=true)->(W-at')*(b.length+1)+(b.length-c)<n →
  ∃G t,dG n J b at' c a=some (G,t)/\ku k G/\Er k b f t:=by
 intro n;induction n with
 |zero=>intro J at' c a _ _ _ _ _ _ h;omega
 |succ n K=>
  intro J at' c a z I H M g x X;unfold dG;by_cases p:c<b.length
  ·rw[zb p];have V:b.getD a (0,0)=b[a]:=by simp[List.getD,H]
   have d:b[a]∈b:=zu H;have q:vu J b[a]=true:=by
    have:=E _ d;unfold vu at this ⊢;rw[z.ja];exact this
   obtain⟨C,r⟩:=G8 (f:=at') q;rw[z.ja] at r;rw[V];cases O:vJ J b[a] at' with
   |mk A o=>
    rw[O] at C r;simp only at C r;have m:=z.trans C;have y:=F b[a].1;cases o with
    |none=>
     refine⟨A,none,rfl,m,fun u N=>?_⟩;by_cases l:u<at'
     ·exact g u N l
     ·exact⟨b[a],d,CY y r.symm u (by omega)⟩
    |some v=>
     obtain⟨Z,Y,D,U⟩:=D7 y r.symm;have L:=R _ d v D;simp only;by_cases j:v>at'
     ·rw[zb j,zb j];refine K A v (0+1) _ m (by omega) (by split<;>omega) (by omega) (fun u T S=>?_) (fun i w s=>?_) ?_
      ·by_cases l:u<at'
       ·exact g u T l
       ·exact⟨b[a],d,U u (by omega) S⟩
      ·have:i=a:=by
        unfold pG at s;split at s<;>omega
       subst this;exact D
      ·have e:W-at'=(W-v)+(v-at'):=by omega
       have:(W-at')*(b.length+1)=(W-v)*(b.length+1)+(v-at')*(b.length+1):=by rw[e,Nat.add_mul]
       have:1*(b.length+1)<=(v-at')*(b.length+1):=pM _ (by omega);omega
     ·have Q:v=at':=by omega
      subst Q;rw[za j,za j];refine K A v (c+1) _ m I (by split<;>omega) (by omega) g (fun i w s=>?_) (by omega);by_cases B:i=a
      ·subst B;exact D
      ·refine x i w ?_;unfold pG at s ⊢;split at s<;>omega
  ·rw[za p];refine⟨J,some at',rfl,z,I,fun h P=>?_,g⟩;obtain⟨i,w,rfl⟩:=vl P;refine x i w ?_;unfold pG;omega
theorem LQ(W:Nat)(J:z9)(place f n:Nat)(q:place<5)(d:eH J)(g:J.je.getD place []≠[])(e:∀h∈J.je.getD place [],vu J h=true)(k:∀h∈J.je.getD place [],∀v,(jy J h v).isSome=true->v<W)(r:W*((J.je.getD place []).length+1)+(J.je.getD place []).length<n):
  ∃j b,lU n J place f=some (j,b)/\ku J j/\Er J (J.je.getD place []) f b:=by
 have c:0<(J.je.getD place []).length:=by
  cases m:J.je.getD place [] with
  |nil=>exact zC m g
  |cons a l=>simp
 unfold lU;rw[za (by omega)];refine FW W f _ J d e k n J f 0 0 rfl (zh _) c (by omega) (fun u t s=>by omega) (fun i p o=>by unfold pG at o;omega) ?_;have:(W-f)*((J.je.getD place []).length+1)<=W*((J.je.getD place []).length+1):=pM _ (by omega);omega
section
variable {jd:Int}
def y9(l:zt)(d:Nat):List Nat:=(List.range d).filter (zL l)
def ym(l:zt)(vals:List Nat)(d:Nat):zk:=(y9 l d).map fun p=>vals.getD p 0
theorem lf(l:zt)(d:Nat):y9 l (d+1)=if zL l d then y9 l d++[d] else y9 l d:=by
 unfold y9;rw[AF,rx];by_cases h:zL l d<;>simp[h]
theorem pk(l:zt)(d p:Nat):p∈y9 l d↔p<d/\zL l p=true:=by simp[y9]
theorem eV(l:zt){a b:Nat}(h:a<=b):y9 l a <+: y9 l b:=by
 induction h with
 |refl=>exact List.prefix_rfl
 |step h c=>
  rw[lf];split
  ·exact c.trans (List.prefix_append _ _)
  ·exact c
theorem ef(l:zt)(p:Nat):yX l p=if zL l p then some (y9 l p).length else none:=by
 unfold yX y9;rw[List.countP_eq_length_filter]
theorem gZ(l:zt):yR l=(y9 l 5).length:=by
 unfold yR y9;rw[List.countP_eq_length_filter]
theorem mG(l:zt)(vals:List Nat)(d:Nat):(ym l vals d).length=(y9 l d).length:=by simp[ym]
theorem sy(l:zt){x y:List Nat}{d:Nat}(h:∀p,p<d->zL l p=true->x.getD p 0=y.getD p 0):ym l x d=ym l y d:=by
 unfold ym;refine kf fun p a=>?_;have:=(pk l d p).1 a;exact h p this.1 this.2
theorem iy(l:zt)(vals:List Nat){a b:Nat}(h:a<=b):ym l vals a=(ym l vals b).take (y9 l a).length:=by
 obtain⟨t,c⟩:=eV l h;unfold ym;rw[←c];simp
theorem oY(l:zt)(vals:List Nat)(d v:Nat)(b:d<vals.length):ym l (vals.set d v) (d+1)=if zL l d then ym l vals d++[v] else ym l vals d:=by
 have a:(y9 l d).map (fun p=>(vals.set d v).getD p 0)=(y9 l d).map fun p=>vals.getD p 0:=by
  refine kf fun p c=>?_;have:=(pk l d p).1 c;rw[ur,za (by omega)]
 unfold ym;rw[lf];split
 ·rw[vB,a];simp[b]
 ·exact a
theorem DU:∀{l1 l2:List Nat},l1.Nodup->(∀x∈l1,x∈l2)->l1.length<=l2.length
 |[],l2,_,_=>by simp
 |a::l1,l2,d,f=>by
  have e:=f a (by simp);have g:=DU (l1:=l1) (l2:=l2.erase a) (jB.1 d).2 (fun x c=>by
   have b:x≠a:=by rintro rfl;exact(jB.1 d).1 c
   exact(mD b).2 (f x (by simp[c])))
  rw[nS e] at g;have:=mM e;simp;omega
theorem fd(l:zt)(p:Nat):zL l p=true↔∃t∈l.qg,t.var=true/\t.num=p:=by
 unfold zL;rw[kY];constructor
 ·rintro⟨t,b,a⟩;simp only[uZ,beq_iff_eq] at a;exact⟨t,b,a.1,a.2⟩
 ·rintro⟨t,b,a,c⟩;exact⟨t,b,by simp[a,c]⟩
theorem eb(l:zt)(d:Nat):(y9 l d).length<=l.qg.length:=by
 have:=DU (l1:=y9 l d) (l2:=l.qg.map (·.num)) (List.nodup_range.filter _) (fun p b=>by
  obtain⟨t,a,_,c⟩:=(fd l p).1 ((pk l d p).1 b).2;exact zB.2 ⟨t,a,c⟩)
 simpa using this
theorem pI(jd:Int):∀(ts:List zZ) (k:Int),k<=ts.foldl (fun k t=>if t.var&&decide ((t.num:Int)<jd)&&decide ((t.num:Int)>k) then(t.num:Int) else k) k/\(∀t∈ts,t.var=true->(t.num:Int)<jd->(t.num:Int)<=ts.foldl (fun k t=>if t.var&&decide ((t.num:Int)<jd)&&decide ((t.num:Int)>k) then(t.num:Int) else k) k)/\(k<jd->ts.foldl (fun k t=>if t.var&&decide ((t.num:Int)<jd)&&decide ((t.num:Int)>k) then(t.num:Int) else k) k<jd)
 |[],k=>⟨Int.le_refl _,fun t h=>(by cases h),fun h=>h⟩
 |t::ts,k=>by
  simp only[uv];by_cases c:(t.var&&decide ((t.num:Int)<jd)&&decide ((t.num:Int)>k))=true
  ·rw[zb c];simp only[uZ,decide_eq_true_eq] at c;obtain⟨e,g,f⟩:=pI jd ts (t.num:Int);refine⟨by omega,fun u a b d=>?_,fun _=>f (by omega)⟩;rcases zw.1 a with rfl|a
   ·exact e
   ·exact g u a b d
  ·rw[za c];obtain⟨e,g,f⟩:=pI jd ts k;refine⟨e,fun u a b d=>?_,f⟩;rcases zw.1 a with rfl|a
   ·have:(u.num:Int)<=k:=by
     simp only[b,d,ml,decide_true,decide_eq_true_eq] at c;omega
    omega
   ·exact g u a b d
theorem eZ(l:zt){p:Nat}(a:zL l p=true)(d:(p:Int)<jd):(p:Int)<=j4 l jd:=by
 obtain⟨t,c,b,e⟩:=(fd l p).1 a;have:=(pI jd l.qg (-1)).2.1 t c b (by omega);unfold j4;omega
theorem oK(l:zt)(a:0<=jd):j4 l jd<jd:=(pI jd l.qg (-1)).2.2 (by omega)
theorem Nb(l:zt)(jd:Int):-1<=j4 l jd:=(pI jd l.qg (-1)).1
theorem se:∀(ts:List zZ) (k:Nat),k<=ts.foldl (fun k t=>if t.var&&decide (t.num≥k) then t.num+1 else k) k/\(∀t∈ts,t.var=true->t.num<ts.foldl (fun k t=>if t.var&&decide (t.num≥k) then t.num+1 else k) k)/\∀b,k<=b->(∀t∈ts,t.var=true->t.num<b)->ts.foldl (fun k t=>if t.var&&decide (t.num≥k) then t.num+1 else k) k<=b
 |[],k=>⟨zh _,fun t h=>(by cases h),fun b h _=>h⟩
 |t::ts,k=>by
  simp only[uv];by_cases c:(t.var&&decide (t.num≥k))=true
  ·rw[zb c];simp only[uZ,decide_eq_true_eq] at c;obtain⟨i,g,f⟩:=se ts (t.num+1);refine⟨by omega,fun u a d=>?_,fun b j e=>f b (by have:=e t (by simp) c.1;omega) fun u a=>e u (by simp[a])⟩;rcases zw.1 a with rfl|a
   ·omega
   ·exact g u a d
  ·rw[za c];obtain⟨i,g,f⟩:=se ts k;refine⟨i,fun u a d=>?_,fun b j e=>f b j fun u a=>e u (by simp[a])⟩;rcases zw.1 a with rfl|a
   ·have:u.num<k:=by simp only[d,ml,decide_eq_true_eq] at c;omega
    omega
   ·exact g u a d
theorem tA(l:zt){p:Nat}(c:zL l p=true):p<uC l:=by
 obtain⟨t,a,b,d⟩:=(fd l p).1 c;have:=(se l.qg 0).2.1 t a b;unfold uC;omega
theorem Bz(l:zt){k:Nat}(h:∀p,zL l p=true->p<k):uC l<=k:=
 (se l.qg 0).2.2 k (by omega) fun t b a=>h t.num ((fd l t.num).2 ⟨t,b,a,rfl⟩)
theorem Im(l:zt)(a:0<=jd):vX l jd<jd:=by
 unfold vX;split
 ·omega
 ·exact oK l a
theorem wh(jd:Int):∀(a:List zt) (b:Int),b<=a.foldl (vz jd) b/\(∀l∈a,vX l jd<=a.foldl (vz jd) b)/\(0<=jd->b<jd->a.foldl (vz jd) b<jd)
 |[],b=>⟨Int.le_refl _,fun l h=>(by cases h),fun _ h=>h⟩
 |l::a,b=>by
  simp only[uv];obtain⟨g,f,e⟩:=wh jd a (vz jd b l);have j:b<=vz jd b l/\vX l jd<=vz jd b l:=by unfold vz;split<;>omega
  refine⟨by omega,fun u c=>?_,fun d i=>e d ?_⟩
  ·rcases zw.1 c with rfl|c
   ·omega
   ·exact f u c
  ·have:=Im l d;unfold vz;split<;>omega
theorem im(r:zr)(a:0<=jd):xE r jd<jd/\-1<=xE r jd/\j4 r.head jd<=xE r jd/\(∀l∈r.qc,vX l jd<=xE r jd)/\∀l∈r.qp,vX l jd<=xE r jd:=by
 unfold xE;obtain⟨h,c,b⟩:=wh jd r.qc (j4 r.head jd);obtain⟨g,d,e⟩:=wh jd r.qp (r.qc.foldl (vz jd) (j4 r.head jd));have:=Nb r.head jd;exact⟨e a (b a (oK r.head a)),by omega,by omega,fun l f=>by have:=c l f;omega,d⟩
theorem AV{l:zt}{jd:Nat}{b:Int}(h:vX l jd<=b):(∀p,zL l p=true->p<jd)∨∀p,zL l p=true->p<jd->(p:Int)<=b:=by
 unfold vX at h;by_cases c:(uC l:Int)<=jd
 ·exact zf fun p a=>by have:=tA l a;omega
 ·rw[za c] at h;exact ze fun p a d=>by have:=eZ l (jd:=(jd:Int)) a (by omega);omega
end
end Go.Proofs.YteampbddflhngaaGreat
