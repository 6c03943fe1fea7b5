import Derived.WalkKit
import Derived.WalkSpells
import Derived.WalkLawsBesides
import Derived.Deep.Light
import Derived.Handy
import Derived.Laws.IdiomStrings
import Derived.WalkSmall
import Derived.WideShapes
import Derived.Test.YteampbddflhngaaGreatProg
import Derived.Deep.QuietTactic
import Derived.BigQuiet
import Derived.Deep.LoopGhost
import Derived.Deep.RegionLaw
import Derived.Deep.OwnRows
import Derived.Deep.RegionWith
import Derived.Laws.CopyOwn
import Derived.Maps.AppendAt
import Derived.Deep.RegionHeld3
import Derived.Deep.CutRange
namespace Go.Proofs.YteampbddflhngaaGreat
set_option linter.all false
set_option maxRecDepth 100000
set_option maxHeartbeats 4000000
section
open Go.RowKit
abbrev ι(x:Int):Value:=.int .i64 x
abbrev π(b:Nat):Value:=.pointer (some ⟨b,0,none⟩)
abbrev ν:Value:=.slice none 0 0
abbrev μ(w w':World):Prop:=Go.RowKit.Below w.heap.size w w'
abbrev κ:=List ByteArray
abbrev ε:=Ending.returned
variable {w1 w:World}
def Ry{p:Prop}(h:p):Hid p:=h
def JB{W:World}(a:μ W w1):(∀b o,b<W.heap.size->w1.cell? ⟨b,o,none⟩=W.cell? ⟨b,o,none⟩)/\(∀b o,b<W.heap.size->w1.frozen? ⟨b,o,none⟩=W.frozen? ⟨b,o,none⟩):=
 ⟨λb o h=>a.cell (p:=⟨b,o,none⟩) h,λb o h=>a.frozen (p:=⟨b,o,none⟩) h⟩
def zI{B:Nat}{a w:World}(h:Below B a w)(n:Nat):Below B a (w.drewN n):=below_drewN h n
abbrev zR:=@Below.refl
abbrev zN:=@zI
abbrev zA:=@Below.alloc
abbrev zD:=@Below.drew
abbrev zS:=@Below.setCell
def zM{B:Nat}{a:World}(b:Below B w a)(d:μ a w1)(c:B<=w.heap.size):Below B w w1:=
 b.trans (d.mono (Nat.le_trans c b.size))
def R5{a:World}(c:μ w a)(b:μ a w1):μ w w1:=zM c b (Nat.le_refl _)
def zP{o:Obj}:μ w (w.alloc o):=(Below.refl _ _).alloc (Nat.le_refl _) _
def zl{B b o:Nat}{w':World}{v:Option Value}(h:Below B w w')(c:b<B)(a:w.cell? ⟨b,o,none⟩=v):w'.cell? ⟨b,o,none⟩=v:=(h.cell (p:=⟨b,o,none⟩) c).trans a
def zB{w':World}{b:Nat}{e:TypeId}{a:Nat}{v:Value}{n:Nat}{xs:List Value}(h:w.ownsRow b e a v n xs)(j:μ w w'):w'.ownsRow b e a v n xs:=by
 obtain⟨l,f⟩:=h;refine⟨l,?_⟩;rcases f with f|⟨g,c,d,m,k,i,r⟩;exact Or.inl f;refine Or.inr ⟨g,c,d,m,k,?_,r⟩;rw[j.block g (Array.getElem?_eq_some_iff.1 i).1];exact i
section
variable {P:Program} {ops:Array Oper} {rest:List Oper} {o:Oper} {a:Act} {Q:Exit->Act->World->Prop}
def kA(B q:World)(l:List Value)(te:TypeId)(N:o.guard=none)(s x:Operand)(t:TypeId)
  (ho:o.op=.call {callee:=.builtin .append,args:=#[s,x],argTypes:=#[t,t]})
  (f:Nat) (e:TypeId) (i:TypeInfo) (z:Value) (d m:Nat) (ht:P.underlying t=some (.slice e)) (hi:P.info? e=some i) (hz:i.zero=some z)
  (F:i.size=d) (O:i.bytes=m) (U:z.cells.size=d) (M:0<d)
  (v:Value) (n:Nat) (L:List Value) (hs:a.eval s=v) (E:B.ownsRow f e d v n L) (p:μ B q)
  (b c:Nat) (hx:a.eval x=.slice (some ⟨b,0,none⟩) 1 c) (hb:b=q.heap.size) (hl:l.length=d) (h1:∀u∈l,u.oneCell'=true)
  (hn:n<=1048576) (C:m<=1000) (S:f<=B.heap.size)
  (h:∀K y,y.ownsRow f e d K (n+1) (L++l)->Below f B y->(∀b o,B.heap.size<=b->b<q.heap.size->y.cell? ⟨b,o,none⟩=q.cell? ⟨b,o,none⟩) →
   (∀b o,B.heap.size<=b->b<q.heap.size->y.frozen? ⟨b,o,none⟩=q.frozen? ⟨b,o,none⟩) →
   (∀k,k<B.heap.size->some k≠v.ownBlock->y.heap[k]?=B.heap[k]?)->q.heap.size<=y.heap.size->wpList P ops Q rest (a.put o.dst K) y):
  wpList P ops Q (o::rest) a (q.alloc (.cells l.toArray te)):=by
 have G:=zB E p;have J:∀k,v.ownBlock=some k->f<=k/\k<B.heap.size:=by
  intro k D;obtain⟨_,R⟩:=E;rcases R with⟨T,_⟩|⟨g,aa,Y,T,N,Z,_⟩
  .subst T;cases D
  .subst T;simp only[Value.ownBlock,Option.some.injEq] at D;subst D;exact⟨N,(Array.getElem?_eq_some_iff.1 Z).1⟩
 have X:=p.size;subst hb;refine wpList_append_own _ N s x t ho f e i z d m ht hi hz F O U M v n L hs (G.alloc _) ⟨q.heap.size,0,none⟩ 1 c l hx (by omega) ?_ h1 ?_ ?_ ?_ ?_
 .intro j u hj;rw[Addr.add_lit,Nat.zero_add,World.cell?_alloc_mark];simpa using hj
 .unfold maxLen;omega
 .have:(n+1)*m<=1048577*1000:=Nat.mul_le_mul (by omega) C;omega
 .simp;omega
 .intro K y R A _;have r:∀k,k<q.heap.size->some k≠v.ownBlock->y.heap[k]?=q.heap[k]?:=λk D H=>by
   rw[A.block k (by simp;omega) H];exact Below.heap_alloc _ _ _ D
  have V:q.heap.size<=y.heap.size:=by have:=A.size;simp at this;omega
  refine h K y R ⟨A.os.trans p.os,A.tape.trans p.tape,A.output.trans p.output,by omega,λk D=>?_⟩ (λb o W I=>?_) (λb o W I=>?_) (λk D H=>?_) V
  .rw[r k (by omega) (λe=>by have:=J k e.symm;omega)];exact p.block k (by omega)
  .exact World.cell?_of_block (w:=q) (r b I (λe=>by have:=J b e.symm;omega))
  .exact World.frozen?_of_block (w:=q) (r b I (λe=>by have:=J b e.symm;omega))
  .rw[r k (by omega) H];exact p.block k D
def PM(w:World)(n:o.guard=none)(x:Operand)(c b e:TypeId)(d:o.op=.convert c b x)
  (hs:P.underlying c=some .string) (q:P.underlying b=some (.slice e)) (m:P.underlying e=some (.int .u8)) (s:ByteArray) (p:a.eval x=.string s)
  (k:∀f h,(∀j (i:j<s.data.size),h.cell? ⟨w.heap.size,j,none⟩=some (.int .u8 (s.data[j].toNat:Int)))->μ w h →
   wpList P ops Q rest (a.put o.dst (.slice (some ⟨w.heap.size,0,none⟩) s.size f)) h):wpList P ops Q (o::rest) a w:=by
 refine wpList_plain n λK g=>?_;have l:=run_bytes_of_string (P:=P) w c b e s hs q m;unfold Oper.wp;simp[execOp,d,p,l,Result.andThen];refine g _ _ (k _ _ (λj i=>?_) ?_);have:=World.cell?_alloc_mark w.drew (bytesRow s (grownCap w s.size 0 e)) e ((bytesRow s (grownCap w s.size 0 e)).size,(bytesRow s (grownCap w s.size 0 e)).size+1) j;rw[bytesRow_at s _ j i] at this;exact this;exact(Below.refl _ _).drew.alloc (Nat.le_refl _) _
def Mp(w:World)(n:o.guard=none)(x:Operand)(d c e:TypeId)(g:o.op=.convert d c x)
  (hs:P.underlying d=some (.slice e)) (m:P.underlying e=some (.int .u8)) (q:P.underlying c=some .string) (s:ByteArray) (b cap:Nat) (p:a.eval x=.slice (some ⟨b,0,none⟩) s.size cap)
  (t:∀j (i:j<s.data.size),w.cell? ⟨b,j,none⟩=some (.int .u8 (s.data[j].toNat:Int)))
  (l:wpList P ops Q rest (a.put o.dst (.string s)) w):wpList P ops Q (o::rest) a w:=by
 refine wpList_plain n λK h=>?_;have k:=run_convert_bytes_back (P:=P) w d c e ⟨b,0,none⟩ cap s.data.toList hs m q (λj i=>by
  have f:j<s.data.size:=by rw[Array.length_toList] at i;exact i
  rw[Addr.add_lit,Nat.zero_add,t j f,Array.getElem_toList])
 have r:s.data.toList.length=s.size:=by rw[Array.length_toList];rfl
 rw[r] at k;unfold Oper.wp;simp[execOp,g,p,k,Result.andThen];exact h _ _ l
end
abbrev zf:=@Nat.le_refl
abbrev zr:=@Option.some.injEq
abbrev zt:=@List.getElem_mem
abbrev za:=@if_neg
abbrev yP:=@List.take_succ_eq_append_getElem
abbrev zp:=@Below.refl
abbrev yi:=@List.getElem?_eq_getElem
abbrev ks:=@List.getD_eq_getElem?_getD
abbrev zy:=@List.mem_cons
abbrev zb:=@if_pos
abbrev zv:=@Nat.zero_le
abbrev zE:=@List.mem_map
abbrev xh:=@List.drop_eq_getElem_cons
abbrev ze:=@Or.inr
abbrev zW:=@List.mem_append
abbrev zh:=@Or.inl
abbrev yC:=@List.length_append
abbrev xk:=@List.take_of_length_le
abbrev yE:=@Nat.lt_of_lt_of_le
abbrev zO:=@bodyPost_ret
abbrev zZ:=@Nat.le_trans
abbrev yc:=@Prod.mk.injEq
abbrev ua:=@List.drop_eq_nil_of_le
abbrev yW:=@World.ownsRow_nil
abbrev uD:=@List.getElem_append_left
abbrev xC:=@List.mem_singleton
abbrev xr:=@List.length_cons
abbrev xj:=@List.mem_filter
abbrev kM:=@List.getElem?_eq_none
abbrev xV:=@List.getElem_map
abbrev vK:=@Option.map_eq_some_iff
abbrev uO:=@List.getElem_of_mem
abbrev jU:=@Array.getElem?_eq_some_iff
abbrev xY:=@List.length_map
abbrev uA:=@List.flatMap_cons
abbrev uG:=@Bool.and_eq_true
abbrev kf:=@List.getElem?_eq_some_iff
abbrev uL:=@Option.getD_some
abbrev uu:=@List.foldl_cons
abbrev qE:=@List.mem_iff_getElem
abbrev uP:=@List.mem_flatMap
abbrev uR:=@List.take_length
abbrev z9:=@absurd
abbrev xZ:=@List.map_cons
abbrev jx:=@List.take_append_drop
abbrev vg:=@List.map_append
abbrev d9:=@List.getElem?_append_right
abbrev vR:=@List.append_nil
abbrev qG:=@List.length_take
abbrev jr:=@List.foldl_append
abbrev gH:=@List.getElem_cons_zero
abbrev kc:=@Option.isSome_some
abbrev kz:=@List.append_assoc
abbrev vn:=@Nat.zero_add
abbrev uX:=@Nat.add_zero
abbrev kU:=@List.map_congr_left
abbrev j7:=@List.ext_getElem
abbrev l5:=@List.getElem_append_right
abbrev lz:=@List.mem_or_eq_of_mem_set
abbrev fz:=@List.getElem?_cons_zero
abbrev vN:=@List.sum_cons
abbrev hX:=@Option.isSome_iff_exists
abbrev jC:=@Option.map_some
abbrev dT:=@List.mem_of_mem_drop
abbrev dJ:=@List.mem_of_mem_take
abbrev gU:=@List.mem_of_getElem?
abbrev dM:=@Nat.mul_le_mul_right
abbrev jN:=@List.nodup_cons
abbrev fm:=@List.set_append_right
abbrev mp:=@List.getElem?_take
abbrev gQ:=@Bool.false_eq_true
abbrev gL:=@Option.isSome_none
abbrev lZ:=@List.getElem?_cons_succ
abbrev mt:=@List.zipWith_cons_cons
abbrev gi:=@List.any_eq_true
abbrev gM:=@Option.getD_none
abbrev fc:=@List.getElem_range
abbrev kx:=@List.mem_range
abbrev jv:=@Nat.sub_self
abbrev lT:=@List.getElem?_toArray
abbrev nK:=@List.getElem_concat_length
abbrev pe:=@List.nodup_iff_pairwise_ne
abbrev nf:=@List.length_eq_zero_iff
abbrev gx:=@List.length_set
abbrev g5:=@List.length_nil
abbrev pA:=@List.eq_nil_of_length_eq_zero
abbrev nT:=@List.pairwise_iff_getElem
abbrev rm:=@List.getElem?_append_left
abbrev lH:=@List.pairwise_append
abbrev fR:=@List.pairwise_cons
abbrev pG:=@List.mem_zipIdx_iff_getElem?
abbrev nI:=@List.length_erase_of_mem
abbrev fF:=@Nat.min_eq_left
abbrev mw:=@List.getElem_set_self
abbrev mj:=@List.drop_succ_cons
abbrev pf:=@Array.length_toList
abbrev fL:=@List.all_eq_true
abbrev mo:=@List.getElem?_map
abbrev sB:=@Array.getElem?_setIfInBounds_ne
abbrev m4:=@List.mem_erase_of_ne
abbrev gA:=@List.map_set
abbrev lL:=@List.mem_filterMap
abbrev nH:=@List.length_pos_of_mem
abbrev pd:=@List.getElem_cons_succ
abbrev fu:=@Bool.or_eq_true
abbrev gW:=@List.drop_zero
abbrev lg:=@List.getElem_set
abbrev hO:=@List.cons_append
abbrev m8:=@List.getElem_set_ne
abbrev mL:=@Nat.mul_le_mul_left
abbrev sP:=@List.countP_eq_length_filter
abbrev n8:=@Bool.or_eq_false_iff
abbrev lY:=@List.not_mem_nil
abbrev ph:=@List.take_succ_cons
abbrev mR:=@List.flatten_cons
abbrev mA:=@List.ext_getElem?
abbrev nY:=@List.takeWhile_cons
abbrev mP:=@List.pairwise_map
abbrev lP:=@List.cons.injEq
abbrev dI:=@Nat.lt_or_ge
abbrev pL:=@List.length_filter_le
abbrev nZ:=@List.set_cons_zero
abbrev nS:=@List.set_cons_succ
abbrev sA:=@List.length_filterMap_le
abbrev rq:=@List.filter_append
abbrev pF:=@List.mem_cons_of_mem
abbrev lU:=@List.tail_cons
abbrev pg:=@Nat.lt_trichotomy
abbrev re:=@List.replicate_succ
abbrev sD:=@List.set_getElem_self
abbrev sj:=@List.countP_le_length
abbrev po:=@List.nil_append
abbrev pz:=@List.nodup_append
abbrev eh:=@Nat.add_sub_cancel_left
abbrev mQ:=@Bool.true_and
abbrev i6:=@List.zipWith_append
abbrev mX:=@Bool.not_true
abbrev lm:=@Nat.add_mul
abbrev sq:=@List.filterMap_cons
abbrev pZ:=@List.append_inj'
abbrev pE:=@Bool.not_eq_true
abbrev tp:=@List.getElem_replicate
abbrev ed:=@List.filter_eq_nil_iff
abbrev wl:=@List.drop_of_length_le
abbrev Ar:=@List.dropLast_concat_getLast
abbrev rJ:=@List.mem_cons_self
abbrev ww:=@List.eq_nil_or_concat
abbrev sS:=@List.concat_eq_append
abbrev Rm:=@Array.getElem?_modify
abbrev mT:=@List.map_map
abbrev wG:=@List.filterMap_append
abbrev rp:=@List.getElem?_set
abbrev sJ:=@Bool.not_eq_false
abbrev sC:=@Bool.not_eq_true'
abbrev rY:=@List.length_range
abbrev pk:=@Bool.false_or
end
section
variable {s a b:ByteArray}{i n:Nat}{p:Int->Bool}
def yY(c:Int):Bool:=decide (97<=c)&&decide (c<=122)
def vQ(c:Int):Bool:=decide (65<=c)&&decide (c<=90)
def yQ(c:Int):Bool:=decide (48<=c)&&decide (c<=57)
def qs(c:Int):Bool:=c == 32||c == 10
def Sb(c:Int):Bool:=yY c||vQ c||yQ c
def dL(c:Int):Int:=if c=40 then 4 else if c=41 then 5 else if c=44 then 6 else if c=46 then 7 else if c=33 then 8 else 0
def xp(a b:Int):Int:=if yY a then 1 else if vQ a then 2 else if yQ a then 3 else if a=58/\b=45 then 9 else dL a
def RA(s:ByteArray)(i:Nat):Int:=if h:i<s.size then(s[i].toNat:Int) else 0
def qF(h:i<s.size):RA s i=(s[i].toNat:Int):=by simp[RA,h]
def pq(h:¬i<s.size):RA s i=0:=by simp[RA,h]
def fV(s:ByteArray)(i:Nat):0<=RA s i/\RA s i<256:=by
 unfold RA;split;rename_i h;have:=s[i].toNat_lt;omega;omega
def yJ(p:Int->Bool)(s:ByteArray)(i:Nat):Nat:=if h:i<s.size then(if p (RA s i) then yJ p s (i+1) else i) else i
 termination_by s.size-i
def gV(h:¬i<s.size):yJ p s i=i:=by rw[yJ];simp[h]
def m5(h:p (RA s i)=false):yJ p s i=i:=by rw[yJ];simp[h]
def lN(h:i<s.size)(c:p (RA s i)=true):yJ p s i=yJ p s (i+1):=by
 conv=>lhs;rw[yJ]
 simp[h,c]
def AR(p:Int->Bool)(s:ByteArray):∀(n i:Nat),s.size-i<=n->i<=yJ p s i/\(i<=s.size->yJ p s i<=s.size):=by
 intro n;induction n with
 |zero=>intro i h;rw[gV (by omega)];omega
 |succ n e=>
  intro i h;by_cases d:i<s.size;cases c:p (RA s i);rw[m5 c];omega;rw[lN d c];have:=e (i+1) (by omega);omega;rw[gV d];omega
def OG(p:Int->Bool)(s:ByteArray)(i:Nat):i<=yJ p s i:=(AR p s _ i (Nat.le_refl _)).1
def L8(p:Int->Bool)(s:ByteArray)(i:Nat)(h:i<=s.size):yJ p s i<=s.size:=(AR p s _ i (Nat.le_refl _)).2 h
def yr(s:ByteArray)(i:Nat)(k:Int):Nat:=if k=0 then i else if k=9 then i+2 else if k=1∨k=2 then yJ Sb s i else if k=3 then yJ yQ s i else i+1
def rO(s:ByteArray)(i:Nat)(k:Int)(j:i<s.size)(c:xp (RA s i) (RA s (i+1))=k)(e:k≠0):i<yr s i k/\yr s i k<=s.size:=by
 have d:∀p:Int->Bool,p (RA s i)=true->i<yJ p s i/\yJ p s i<=s.size:=λp l=>by
  rw[lN j l];have:=OG p s (i+1);have:=L8 p s (i+1) (by omega);omega
 unfold xp at c;unfold yr;split at c;rename_i h;subst c;simp;exact d Sb (by simp[Sb,h]);split at c;rename_i h;subst c;simp;exact d Sb (by simp[Sb,h]);split at c;rename_i h;subst c;simp;exact d yQ h;split at c;rename_i h;subst c;simp;have:i+1<s.size:=by
  false_or_by_contra;rename_i f;rw[pq f] at h;omega
 omega;have g:k≠9/\k≠1/\k≠2/\k≠3:=by subst c;unfold dL;(repeat' split)<;>simp
 simp[e,g];omega
def RH:Nat->ByteArray->Nat->Option (List (Int×ByteArray))
 |0,_,_=>some []
 |n+1,s,i=>
  if i<s.size then
   if qs (RA s i) then RH n s (i+1)
   else if xp (RA s i) (RA s (i+1))=0 then none
   else if 6<yr s i (xp (RA s i) (RA s (i+1)))-i then none
   else(RH n s (yr s i (xp (RA s i) (RA s (i+1))))).map ((xp (RA s i) (RA s (i+1)),s.extract i (yr s i (xp (RA s i) (RA s (i+1)))))::·)
  else some []
def RC(s:ByteArray):Option (List (Int×ByteArray)):=RH s.size s 0
def rc(h:¬i<s.size):RH n s i=some []:=by cases n<;>simp[RH,h]
def ey(h:i<s.size)(c:qs (RA s i)=true):RH (n+1) s i=RH n s (i+1):=by simp[RH,h,c]
def wE(h:i<s.size)(c:qs (RA s i)=false)(d:xp (RA s i) (RA s (i+1))=0):RH (n+1) s i=none:=by simp[RH,h,c,d]
def tX{k:Int}(h:i<s.size)(d:qs (RA s i)=false)(e:xp (RA s i) (RA s (i+1))=k)(c:6<yr s i k-i):RH (n+1) s i=none:=by
 subst e;simp[RH,h,d,c]
def tn{k:Int}(h:i<s.size)(e:qs (RA s i)=false)(f:xp (RA s i) (RA s (i+1))=k)(c:k≠0)(d:¬6<yr s i k-i):
  RH (n+1) s i=(RH n s (yr s i k)).map ((k,s.extract i (yr s i k))::·):=by
 subst f;simp[RH,h,e,d,c]
def rI{α:Type}(o:Option (List α))(c:List α)(x:α):(o.map (x::·)).map (c++·)=o.map ((c++[x])++·):=by cases o<;>simp
def JN(s:ByteArray):∀(n i:Nat) (r:List UInt8),s.size-i<=n->ByteArray.toList.loop s i r=r.reverse++s.data.toList.drop i:=by
 intro n;induction n with
 |zero=>
  intro i r h;rw[ByteArray.toList.loop,if_neg (by omega),List.drop_eq_nil_of_le (by rw[Array.length_toList];show s.size<=i;omega),List.append_nil]
 |succ n d=>
  intro i r h;rw[ByteArray.toList.loop];split;rename_i c;rw[d (i+1) _ (by omega)];have e:i<s.data.toList.length:=by rw[Array.length_toList];exact c
  rw[List.drop_eq_getElem_cons e];simp[ByteArray.get!,c];rw[List.drop_eq_nil_of_le (by rw[Array.length_toList];show s.size<=i;omega),List.append_nil]
def lx(s:ByteArray):s.toList=s.data.toList:=by
 rw[ByteArray.toList,JN s _ 0 [] (Nat.le_refl _)];simp
def S8(h:a.toList=b.toList):a=b:=by
 rw[lx,lx] at h;exact Go.WideShapes.bytes_inj h
def CU(a b:ByteArray):(a.toList == b.toList)=decide (a=b):=by
 by_cases h:a=b;subst h;simp;rw[decide_eq_false h,beq_eq_false_iff_ne];exact λk=>h (S8 k)
def jF(h:a=b):(a.toList == b.toList)=true:=by rw[CU];simpa using h
def qb(h:a≠b):(a.toList == b.toList)=false:=by rw[CU];simpa using h
def zQ(t:ByteArray):Bool:=vQ (RA t 0)
def yu(t:ByteArray):κ->Bool
 |[]=>false
 |x::r=>decide (x=t)||yu t r
def vH{t:ByteArray}:∀{vs:κ},yu t vs=true↔t∈vs
 |[]=>by simp[yu]
 |x::r=>by simp only[yu,Bool.or_eq_true,decide_eq_true_eq,List.mem_cons,vH (vs:=r)];constructor<;>(rintro(h|h)<;>simp[h])
def rE{t:ByteArray}{vs:κ}:yu t vs=false↔t∉vs:=by rw[←vH];simp
def j5(vs:κ)(t:ByteArray):κ:=if zQ t&&!yu t vs then vs++[t] else vs
def xz(vs args:κ):κ:=args.foldl j5 vs
def GC(vs:κ)(t:ByteArray):(j5 vs t).length<=vs.length+1:=by unfold j5;split<;>simp
def nk(args:κ):∀vs:κ,(xz vs args).length<=vs.length+args.length:=by
 induction args with
 |nil=>intro vs;simp[xz]
 |cons a r c=>intro vs;have:=c (j5 vs a);have:=GC vs a;simp only[xz,List.foldl_cons,List.length_cons] at *;omega
end
section
open Go.Proofs.Tryz Go.RowKit
def tL(c:Int)(w:World):
  Calls prog 98 #[.int .u8 c] w λe a=>e=ε (.bool (qs c))/\a=w:=by
 go_enter func98,ntmps98;go_wp2
 all_goals go_ret
 all_goals exact⟨by simp[qs, *],rfl⟩
def FU(c:Int)(w:World):
  Calls prog 173 #[.int .u8 c] w λe a=>e=ε (.bool (yY c))/\a=w:=by
 go_enter func173,ntmps173;go_wp2
 all_goals go_ret
 all_goals exact⟨by simp[yY, *]<;>omega,rfl⟩
def BL(c:Int)(w:World):
  Calls prog 174 #[.int .u8 c] w λe a=>e=ε (.bool (vQ c))/\a=w:=by
 go_enter func174,ntmps174;go_wp2
 all_goals go_ret
 all_goals exact⟨by simp[vQ, *]<;>omega,rfl⟩
def rn(c:Int)(w:World):
  Calls prog 175 #[.int .u8 c] w λe a=>e=ε (.bool (yQ c))/\a=w:=by
 go_enter func175,ntmps175;go_wp2
 all_goals go_ret
 all_goals exact⟨by simp[yQ, *]<;>omega,rfl⟩
def oE(c:Int)(w:World):
  Calls prog 198 #[.int .u8 c] w λe a=>e=ε (.bool (Sb c))/\a=w:=by
 go_enter func198,ntmps198;go_wp2_with (first|(go_at_call 173;refine(FU _ _).mono ?_;rintro e a ⟨rfl,rfl⟩)|(go_at_call 174;refine(BL _ _).mono ?_;rintro e a ⟨rfl,rfl⟩)|(go_at_call 175;refine(rn _ _).mono ?_;rintro e a ⟨rfl,rfl⟩))
 all_goals go_ret
 all_goals exact⟨by simp[Sb, *],rfl⟩
def BV(s:ByteArray)(i:Int)(w:World)(b:0<=i)(_:s.size<=500):
  Calls prog 139 #[.string s,ι i] w λe a=>e=ε (.int .u8 (RA s i.toNat))/\a=w:=by
 obtain⟨i,rfl⟩:=Int.eq_ofNat_of_zero_le b;rw[Int.toNat_natCast];by_cases h:i<s.size
 .rw[qF h];go_enter func139,ntmps139;go_wp2
  all_goals go_ret
  all_goals exact⟨rfl,rfl⟩
 rw[pq h];go_enter func139,ntmps139;go_wp2
 all_goals go_ret
 all_goals exact⟨rfl,rfl⟩
def JH(c:Int)(w:World):
  Calls prog 176 #[.int .u8 c] w λe a=>e=ε (ι (dL c))/\a=w:=by
 go_enter func176,ntmps176;go_wp2
 all_goals go_ret
 all_goals go_light
 all_goals exact⟨by simp_all [dL],rfl⟩
def CT(a b:Int)(w:World):
  Calls prog 140 #[.int .u8 a,.int .u8 b] w λe c=>e=ε (ι (xp a b))/\c=w:=by
 go_enter func140,ntmps140;go_wp2_with (first|(go_at_call 173;refine(FU _ _).mono ?_;rintro e c ⟨rfl,rfl⟩)|(go_at_call 174;refine(BL _ _).mono ?_;rintro e c ⟨rfl,rfl⟩)|(go_at_call 175;refine(rn _ _).mono ?_;rintro e c ⟨rfl,rfl⟩)|(go_at_call 176;refine(JH _ _).mono ?_;rintro e c ⟨rfl,rfl⟩))
 all_goals go_ret
 all_goals go_light
 all_goals exact⟨by first|(simp_all [xp];done)|(simp_all [xp,yY,vQ,yQ];done),rfl⟩
def O7(s:ByteArray)(i:Nat)(w:World)(hs:s.size<=500)(g:i<=s.size):
  Calls prog 177 #[.string s,ι i] w λe d=>e=ε (ι (yJ Sb s i))/\d=w:=by
 go_enter func177,ntmps177;go_wp2;go_loop [5] (λt=>∃k:Nat,k<=s.size/\t=ι k/\Hid (yJ Sb s i=yJ Sb s k)) (λt=>s.size-(intOf t).toNat);exact⟨i,g,rfl,rfl⟩;obtain⟨k,h,rfl,H⟩:=hrel;by_cases a:k<s.size
 .have f:=qF a;cases c:Sb (RA s k)
  .have b:Hid (yJ Sb s i=k):=by rw[Hid.out H,m5 c];rfl
   rw[f] at c;go_wp2_with (go_at_call 198;refine(oE _ _).mono ?_;rintro e d ⟨rfl,rfl⟩)
   go_ret;exact⟨by rw[Hid.out b];rfl,rfl⟩
  have b:Hid (yJ Sb s i=yJ Sb s (k+1)):=by rw[Hid.out H,lN a c];rfl
  rw[f] at c;go_wp2_with (go_at_call 198;refine(oE _ _).mono ?_;rintro e d ⟨rfl,rfl⟩)
  go_round;exact⟨k+1,by omega,by go_num,b⟩;simp[intOf];omega
 have b:Hid (yJ Sb s i=k):=by rw[Hid.out H,gV a];rfl
 go_wp2_with (go_at_call 198;refine(oE _ _).mono ?_;rintro e d ⟨rfl,rfl⟩)
 go_ret;exact⟨by rw[Hid.out b];rfl,rfl⟩
def Pq(s:ByteArray)(i:Nat)(w:World)(hs:s.size<=500)(g:i<=s.size):
  Calls prog 178 #[.string s,ι i] w λe d=>e=ε (ι (yJ yQ s i))/\d=w:=by
 go_enter func178,ntmps178;go_wp2;go_loop [5] (λt=>∃k:Nat,k<=s.size/\t=ι k/\Hid (yJ yQ s i=yJ yQ s k)) (λt=>s.size-(intOf t).toNat);exact⟨i,g,rfl,rfl⟩;obtain⟨k,h,rfl,H⟩:=hrel;by_cases a:k<s.size
 .have f:=qF a;cases c:yQ (RA s k)
  .have b:Hid (yJ yQ s i=k):=by rw[Hid.out H,m5 c];rfl
   rw[f] at c;go_wp2_with (go_at_call 175;refine(rn _ _).mono ?_;rintro e d ⟨rfl,rfl⟩)
   go_ret;exact⟨by rw[Hid.out b];rfl,rfl⟩
  have b:Hid (yJ yQ s i=yJ yQ s (k+1)):=by rw[Hid.out H,lN a c];rfl
  rw[f] at c;go_wp2_with (go_at_call 175;refine(rn _ _).mono ?_;rintro e d ⟨rfl,rfl⟩)
  go_round;exact⟨k+1,by omega,by go_num,b⟩;simp[intOf];omega
 have b:Hid (yJ yQ s i=k):=by rw[Hid.out H,gV a];rfl
 go_wp2_with (go_at_call 175;refine(rn _ _).mono ?_;rintro e d ⟨rfl,rfl⟩)
 go_ret;exact⟨by rw[Hid.out b];rfl,rfl⟩
def AQ(s:ByteArray)(i:Nat)(k:Int)(w:World)(hs:s.size<=500)(b:i<=s.size):
  Calls prog 141 #[.string s,ι i,ι k] w λe a=>e=ε (ι (yr s i k))/\a=w:=by
 go_enter func141,ntmps141;go_wp2_with (first|(go_at_call 177;refine(O7 _ _ _ hs b).mono ?_;rintro e a ⟨rfl,rfl⟩)|(go_at_call 178;refine(Pq _ _ _ hs b).mono ?_;rintro e a ⟨rfl,rfl⟩))
 all_goals go_ret
 all_goals go_light
 all_goals exact⟨by simp_all [yr],rfl⟩
def Kc(s:ByteArray)(i:Nat)(w:World)(hs:s.size<=500)(f:i<s.size)(c:xp (RA s i) (RA s (i+1))=0):
  Calls prog 99 #[.string s,ι i] w λe a=>e=ε (.agg #[ι 0,.string ByteArray.empty])/\μ w a:=by
 have d:yr s i 0=i:=rfl;have b:((i:Int)+1).toNat=i+1:=by omega
 go_enter func99,ntmps99;go_wp2_with (first|(go_at_call 139;refine(BV s _ _ (by omega) hs).mono ?_;rintro e a ⟨rfl,rfl⟩)|(go_at_call 140;refine(CT _ _ _).mono ?_;rintro e a ⟨rfl,rfl⟩)|(go_at_call 141;refine(AQ s i _ _ hs (by omega)).mono ?_;rintro e a ⟨rfl,rfl⟩))
 go_returns
 exact⟨rfl,by go_grown⟩
def Qr(s:ByteArray)(i:Nat)(k:Int)(w:World)(hs:s.size<=500)(q:i<s.size)(p:xp (RA s i) (RA s (i+1))=k)
  (m:i<yr s i k) (l:yr s i k<=s.size):
  Calls prog 99 #[.string s,ι i] w λe b=>e=ε (.agg #[ι k,.string (s.extract i (yr s i k))])/\μ w b:=by
 have n:((i:Int)+1).toNat=i+1:=by omega
 go_enter func99,ntmps99;go_wp2_with (first|(go_at_call 139;refine(BV s _ _ (by omega) hs).mono ?_;rintro e b ⟨rfl,rfl⟩)|(go_at_call 140;refine(CT _ _ _).mono ?_;rintro e b ⟨rfl,rfl⟩)|(go_at_call 141;refine(AQ s i _ _ hs (by omega)).mono ?_;rintro e b ⟨rfl,rfl⟩)|(refine PM _ rfl (.tmp 41) 9 238 5 rfl underlying9 underlying238 underlying5 _ rfl ?_;intro f h c a;obtain⟨d,g⟩:=JB a;have j:=a.size;simp only[World.size_alloc] at j)|(refine Mp _ rfl (.tmp 42) 238 9 5 rfl underlying238 underlying5 underlying9 _ _ _ rfl ?_ ?_;(first|exact c|fail)))
 have o:μ w h:=R5 zP a;exact zO (v:=.agg #[ι k,.string (s.extract i (yr s i k))]) (by simp[results,results99,go_sem,d]) rfl ⟨rfl,by go_grown⟩
def jP(l:List (Int×ByteArray)):List Value:=l.flatMap λx=>[ι x.1,.string x.2]
def P4(l:List (Int×ByteArray))(k:Int)(t:ByteArray):jP (l++[(k,t)])=jP l++[ι k,.string t]:=by simp[jP]
def Rc:(prog.info? 182).map (λi=>(i.zero,i.size,i.bytes))=some (some (.agg #[ι 0,.string ByteArray.empty]),2,24):=by kernel_rfl
def ru(s:ByteArray)(w:World)(e:Ending)(w':World):Prop:=
 μ w w'/\match RC s with
  |none=>e=ε (.tuple #[ν,.bool false])
  |some l=>∃v,e=ε (.tuple #[v,.bool true])/\w'.ownsRow w.heap.size 182 2 v l.length (jP l)/\l.length<=s.size
def Eu{s:ByteArray}{w w':World}(h:Hid (RC s=none))(b:μ w w'):ru s w (ε (.tuple #[ν,.bool false])) w':=by
 have a:RC s=none:=h;unfold ru;rw[a];exact⟨b,rfl⟩
def Ob{s:ByteArray}{w w':World}{v:Value}{l:List (Int×ByteArray)}(h:Hid (RC s=some l))(c:μ w w')(d:w'.ownsRow w.heap.size 182 2 v l.length (jP l))(a:l.length<=s.size):
  ru s w (ε (.tuple #[v,.bool true])) w':=by
 have b:RC s=some l:=h;unfold ru;rw[b];exact⟨c,v,rfl,d,a⟩
def Fy(s:ByteArray)(w:World)(hs:s.size<=500):
  Calls prog 59 #[.string s] w λe x=>ru s w e x:=by
 obtain⟨P,T,G,B,M⟩:=info_parts Rc;go_enter func59,ntmps59;go_wp2;go_loopw [4,5] (λv t wr=>∃(k:Nat) (a:List (Int×ByteArray)) (m:Nat),k<=s.size/\t=ι k/\s.size-k<=m/\Hid (RC s=(RH m s k).map (a++·))/\a.length<=k ∧
   wr.ownsRow w.heap.size 182 2 v a.length (jP a)/\μ w wr) (λ_ t _=>s.size-(intOf t).toNat)
 exact⟨0,[],s.size,zv _,rfl,by omega,(by simp[RC,Hid]),zf _,yW _ _ _ _,zp _ _⟩;obtain⟨k,a,m,U,rfl,X,H,Q,i,c⟩:=hrel;by_cases b:k<s.size
 .have n:=qF b;obtain⟨m,rfl⟩:∃R,m=R+1:=⟨m-1,by omega⟩;cases o:qs (RA s k)
  .by_cases g:xp (RA s k) (RA s (k+1))=0
   .have l:Hid (RC s=none):=by rw[Hid.out H,wE b o g];simp[Hid]
    have q:=Kc s k wr hs b g;rw[n] at o;clear n H g;go_wp2_with (first|(go_at_call 98;refine(tL _ _).mono ?_;rintro e x ⟨rfl,rfl⟩)|(go_at_call 99;refine q.mono ?_;rintro e D ⟨rfl,h⟩;clear q;have r:=R5 c h;have u:=r.size))
    go_ret2
    exact Eu l (by go_grown)
   obtain⟨f,d⟩:∃f,xp (RA s k) (RA s (k+1))=f:=⟨_,rfl⟩;have j:f≠0:=by rw[←d];exact g
   obtain⟨F,E⟩:=rO s k f b d j;have q:=Qr s k f wr hs b d F E;by_cases O:6<yr s k f-k
   .have l:Hid (RC s=none):=by rw[Hid.out H,tX b o d O];simp[Hid]
    rw[n] at o;clear n H g d;generalize yr s k f=p at *;have L:(s.extract k p).size=p-k:=by rw[ByteArray.size_extract];omega
    generalize s.extract k p=N at *;have z:(f == 0)=false:=by simpa using j
    go_wp2_with (first|(go_at_call 98;refine(tL _ _).mono ?_;rintro e x ⟨rfl,rfl⟩)|(go_at_call 99;refine q.mono ?_;rintro e D ⟨rfl,h⟩;clear q;have r:=R5 c h;have u:=r.size))
    go_ret2
    exact Eu l (by go_grown)
   have l:Hid (RC s=(RH m s (yr s k f)).map ((a++[(f,s.extract k (yr s k f))])++·)):=by rw[Hid.out H,tn b o d j O,rI];rfl
   rw[n] at o;clear n H g d;generalize yr s k f=p at *;have L:(s.extract k p).size=p-k:=by rw[ByteArray.size_extract];omega
   generalize s.extract k p=N at *;have z:(f == 0)=false:=by simpa using j
   go_wp2_with (first|(go_at_call 98;refine(tL _ _).mono ?_;rintro e x ⟨rfl,rfl⟩)|(go_at_call 99;refine q.mono ?_;rintro e D ⟨rfl,h⟩;clear q;have r:=R5 c h;have u:=r.size;have I:=zB i h)|(at_builtin;refine kA D _ _ _ rfl (.tmp 29) (.tmp 31) 118 rfl w.heap.size 182 P _ 2 24 underlying118 T G B M rfl (by decide) _ _ _ rfl I zP _ _ rfl (by simp) rfl (by simp[Value.oneCell']) (by omega) (by omega) (by omega) ?_;intro W V A C J K S y;simp only[World.size_alloc] at J K y))
   go_roundw;exact⟨p,a++[(f,N)],m,by omega,by go_num,by omega,l,by simp;omega,by rw[yC,P4];exact A,r.trans C⟩;simp[intOf];omega
  have l:Hid (RC s=(RH m s (k+1)).map (a++·)):=by rw[←ey b o];exact H
  rw[n] at o;clear n H;go_wp2_with (go_at_call 98;refine(tL _ _).mono ?_;rintro e x ⟨rfl,rfl⟩)
  go_roundw;exact⟨k+1,a,m,by omega,by go_num,by omega,l,by omega,i,c⟩;simp[intOf];omega
 have l:Hid (RC s=some a):=by rw[Hid.out H,rc b];simp[Hid]
 clear H;go_wp2;go_ret2
 exact Ob l c i (by omega)
end
section
open Go.RowKit
variable {lo:Nat}{t:ByteArray}{r base n b:Nat}{w w':World}{v wv:Value}{xs:List Value}{c:Array Value}{l:κ}
abbrev R8:=Int×ByteArray
structure zk where
 neg:Bool
 pred:ByteArray
 args:κ
structure zd where
 head:zk
 body:List zk
def S4(k:Int):Bool:=k == 1||k == 3||k == 2
def RP:List R8->Int
 |[]=>0
 |x::_=>x.1
def yq:List R8->Option (κ×List R8)
 |[]=>none
 |[x]=>if S4 x.1 then some ([x.2],[]) else none
 |x::y::r=>if S4 x.1 then(if y.1=6 then(yq r).map λz=>(x.2::z.1,z.2) else some ([x.2],y::r)) else none
def Ln{k:Int}{r:List R8}(h:S4 k=false):yq ((k,t)::r)=none:=by cases r<;>simp[yq,h]
def DQ{k:Int}{r:List R8}(h:S4 k=true)(a:RP r≠6):yq ((k,t)::r)=some ([t],r):=by
 rcases r with _|⟨y,r⟩;simp[yq,h];simp only[RP] at a;simp[yq,h,a]
def I9{k:Int}{r:List R8}(h:S4 k=true)(a:RP r=6):yq ((k,t)::r)=(yq r.tail).map λz=>(t::z.1,z.2):=by
 rcases r with _|⟨y,r⟩;simp[RP] at a;simp only[RP] at a;simp[yq,h,a]
def xo(r:List R8):Option (zk×List R8):=
 if RP r=1 then
  if RP r.tail=4 then
   match yq r.tail.tail with
   |none=>none
   |some (d,a)=>if RP a=5 then some (⟨false,(r.headD (0,ByteArray.empty)).2,d⟩,a.tail) else none
  else some (⟨false,(r.headD (0,ByteArray.empty)).2,[]⟩,r.tail)
 else none
def uK(r:List R8):Option (zk×List R8):=
 if RP r=8 then(xo r.tail).map λz=>({z.1 with neg:=true},z.2) else xo r
structure RD (r:Nat) (w w':World):Prop where
 os:w'.os=w.os
 tape:w'.tape=w.tape
 output:w'.output=w.output
 size:w.heap.size<=w'.heap.size
 block:∀k,k<w.heap.size->k≠r->w'.heap[k]?=w.heap[k]?
def RD.refl(r:Nat)(w:World):RD r w w:=⟨rfl,rfl,rfl,zf _,λ_ _ _=>rfl⟩
def RD.trans{r:Nat}{a b c:World}(h:RD r a b)(k:RD r b c):RD r a c:=
 ⟨k.os.trans h.os,k.tape.trans h.tape,k.output.trans h.output,zZ h.size k.size,λi e d=>(k.block i (yE e h.size) d).trans (h.block i e d)⟩
def RD.of(h:μ w w'):RD r w w':=⟨h.os,h.tape,h.output,h.size,λk a _=>h.block k a⟩
def RD.below{B:Nat}(h:RD r w w')(d:B<=r)(a:B<=w.heap.size):Below B w w':=⟨h.os,h.tape,h.output,h.size,λk e=>h.block k (by omega) (by omega)⟩
def RD.setCell{r:Nat}{a w:World}(h:RD r a w)(o:Nat)(u:Value):RD r a (w.setCell ⟨r,o,none⟩ u):=
 h.trans ⟨rfl,rfl,rfl,by simp[World.setCell],λ_ _ d=>Below.heap_setCell _ _ _ _ d⟩
def RD.drew{r:Nat}{a w:World}(h:RD r a w):RD r a w.drew:=⟨h.os,h.tape,h.output,h.size,h.block⟩
def RD.drewN{r:Nat}{a w:World}(h:RD r a w)(n:Nat):RD r a (w.drewN n):=h.trans (RD.of (zI (zp _ _) n))
def RD.alloc{r:Nat}{a w:World}(h:RD r a w)(o:Obj):RD r a (w.alloc o):=h.trans (RD.of ((zp _ _).alloc (zf _) o))
def RD.setNew{r:Nat}{a w:World}(h:RD r a w){p:Addr}(f:a.heap.size<=p.block)(u:Value):RD r a (w.setCell p u):=
 ⟨h.os,h.tape,h.output,by simp[World.setCell];exact h.size,λk e d=>(Below.heap_setCell _ _ _ _ (by omega)).trans (h.block k e d)⟩
abbrev xR:=@RD.refl
abbrev xN:=@RD.drewN
abbrev xA:=@RD.alloc
abbrev xD:=@RD.drew
abbrev xS:=@RD.setCell
abbrev xT:=@RD.setNew
def xF{e:TypeId}{a:Nat}(h:w.ownsRow base e a v n xs)(p:RD r w w')
  {c:Array Value} {T:TypeId} {f:Nat×Nat} (j:w.heap[r]?=some (.cells c T f)) (y:T≠e):w'.ownsRow base e a v n xs:=by
 obtain⟨u,o⟩:=h;refine⟨u,?_⟩;rcases o with o|⟨g,d,i,x,q,m,s⟩;exact zh o;refine ze ⟨g,d,i,x,q,?_,s⟩;rw[p.block g (jU.1 m).1 (λk=>by subst k;rw[m] at j;simp at j;exact y j.2.1.symm)];exact m
def zq{e:TypeId}{d:Nat}(h:w.ownsRow base e d v n xs):∃k a,v=.slice k n a:=by
 obtain⟨_,⟨f,i⟩|⟨g,a,j,f,_⟩⟩:=h;exact⟨none,0,by rw[f,i]⟩;exact⟨_,a,f⟩
def yw{e:TypeId}{d:Nat}(h:w.ownsRow base e d v n xs)(y:0<n):
  ∃g a,v=.slice (some ⟨g,0,none⟩) n a/\base<=g/\g<w.heap.size/\∀j u,xs[j]?=some u->w.cell? ⟨g,j,none⟩=some u:=by
 obtain⟨A,⟨k,z⟩|⟨g,a,p,k,q,i,x,m,o,s⟩⟩:=h;omega;refine⟨g,a,k,q,(jU.1 i).1,λj u f=>?_⟩;unfold World.cell?;rw[i];simp;rw[←s,mp] at f;split at f;simpa using f;simp at f
def Rz(w:World)(b:Nat)(c:Array Value)(T:TypeId):Prop:=w.heap[b]?=some (.cells c T (0,0))
def Rz.lt{T:TypeId}(h:Rz w b c T):b<w.heap.size:=(jU.1 h).1
def Rz.new(w:World)(c:Array Value)(T:TypeId):Rz (w.alloc (.cells c T)) w.heap.size c T:=by unfold Rz;show(w.heap.push _)[w.heap.size]?=_;simp
def Rz.below{T:TypeId}(h:Rz w b c T)(a:μ w w'):Rz w' b c T:=by have:=h.lt;unfold Rz at *;rw[a.block b this];exact h
def Rz.but{T:TypeId}(h:Rz w b c T)(d:RD r w w')(a:b≠r):Rz w' b c T:=by have:=h.lt;unfold Rz at *;rw[d.block b this a];exact h
def Rz.rules{T:TypeId}(h:Rz w b c T):(∀o,w.cell? ⟨b,o,none⟩=c[o]?)/\(∀o,w.frozen? ⟨b,o,none⟩=false):=by
 unfold Rz at h;exact⟨λo=>by unfold World.cell?;rw[h];simp,λo=>by unfold World.frozen?;rw[h];simp⟩
def Rz.boxed{T:TypeId}(h:Rz w b c T):(∀o,w.cell? ⟨b,o,none⟩=c[o]?)/\(∀o,w.frozen? ⟨b,o,none⟩=false)/\b<w.heap.size:=⟨h.rules.1,h.rules.2,h.lt⟩
def R7(lo:Nat)(w:World)(v:Value)(l:κ):Prop:=w.ownsRow lo 9 1 v l.length (l.map Value.string)
def yk{a:Nat}{e:TypeId}{d:Nat}(h:w.ownsRow b e d v n xs)(k:a<=b):w.ownsRow a e d v n xs:=by
 obtain⟨o,j⟩:=h;refine⟨o,?_⟩;rcases j with j|⟨g,f,i,p,q,m⟩;exact zh j;exact ze ⟨g,f,i,p,by omega,m⟩
def R7.low{a:Nat}(h:R7 b w v l)(d:a<=b):R7 a w v l:=yk h d
def R7.nil(w:World):R7 lo w (ν) []:=yW _ _ _ _
def R7.qy(h:R7 lo w v l):∃d a,v=.slice d l.length a:=zq h
def R7.below(h:R7 lo w v l)(a:μ w w'):R7 lo w' v l:=zB h a
def R7.but(h:R7 lo w v l)(e:RD r w w'){T:TypeId}{f:Nat×Nat}(a:w.heap[r]?=some (.cells c T f))(d:T≠9):R7 lo w' v l:=by
 exact xF h e a d
structure Rd (w:World) (r:Nat) (wv:Value) (l rest:List R8):Prop where
 box:∃p:Nat,p<=l.length/\rest=l.drop p/\w.heap[r]?=some (.cells #[wv,ι p] 185 (0,0))
 words:∃base,w.ownsRow base 182 2 wv l.length (jP l)
def Rd.cell{l rest:List R8}(h:Rd w r wv l rest):∃c f,w.heap[r]?=some (.cells c 185 f):=by
 obtain⟨p,_,_,a⟩:=h.box;exact⟨_,_,a⟩
def Rd.lt{l rest:List R8}(h:Rd w r wv l rest):r<w.heap.size:=by
 obtain⟨p,_,_,a⟩:=h.box;exact(jU.1 a).1
def Rd.below{l rest:List R8}(h:Rd w r wv l rest)(d:μ w w'):Rd w' r wv l rest:=by
 have a:=h.lt;obtain⟨⟨p,g,i,f⟩,b,e⟩:=h;exact⟨⟨p,g,i,by rw[d.block r a];exact f⟩,b,zB e d⟩
def Qg(l:List R8)(p:Nat)(k:Int)(t:ByteArray)(r:List R8)(h:(k,t)::r=l.drop p):(jP l)[p*2]?=some (ι k)/\(jP l)[p*2+1]?=some (.string t):=by
 induction l generalizing p with
 |nil=>simp at h
 |cons x l a=>
  rcases p with _|p;simp at h;obtain⟨rfl,_⟩:=h;simp[jP];have:=a p (by simpa using h);simp only[jP,uA] at this ⊢;rw[show(p+1)*2=p*2+1+1 from by omega];simpa using this
def Rd.view{l rest:List R8}(h:Rd w r wv l rest):∃(p:Nat) (e:Option Addr) (cap:Nat),p<=l.length/\rest=l.drop p/\wv=.slice e l.length cap ∧
  w.heap[r]?=some (.cells #[wv,ι p] 185 (0,0))/\w.cell? ⟨r,0,none⟩=some wv/\w.cell? ⟨r,1,none⟩=some (ι p)/\(∀o,w.frozen? ⟨r,o,none⟩=false) ∧
  (∀k t j,rest=(k,t)::j->∃g,e=some ⟨g,0,none⟩/\g<w.heap.size/\p<l.length/\w.cell? ⟨g,p*2,none⟩=some (ι k)/\w.cell? ⟨g,p*2+1,none⟩=some (.string t)):=by
 obtain⟨⟨p,A,f,d⟩,b,q⟩:=h;obtain⟨e,cap,s⟩:=zq q;refine⟨p,e,cap,A,f,s,d,by unfold World.cell?;rw[d];simp,by unfold World.cell?;rw[d];simp,λo=>by unfold World.frozen?;rw[d];simp,?_⟩;intro k t j i;have B:p<l.length:=by
  rcases dI p l.length with h|h;exact h;rw[ua h] at f;rw[f] at i;cases i
 obtain⟨g,m,a,_,y,u⟩:=yw q (by omega);rw[s] at a;simp at a;obtain⟨z,x⟩:=Qg l p k t j (by rw[←i,f]);exact⟨g,a.1,y,B,u _ _ z,u _ _ x⟩
def Rd.keep{z q:World}{l d rest:List R8}(y:Rd w r wv l d)(h:Rd z r wv l rest)(u:Below w.heap.size z q):Rd q r wv l rest:=by
 have o:=y.lt;obtain⟨_,I,_,i⟩:=y;obtain⟨⟨p,D,C,E⟩,b,F,m⟩:=h;refine⟨⟨p,D,C,by rw[u.block r o];exact E⟩,b,F,?_⟩;rcases m with m|⟨g,j,f,e,A,B,G⟩;exact zh m;refine ze ⟨g,j,f,e,A,?_,G⟩;rcases i with⟨a,_⟩|⟨H,x,s,a,_,k,_⟩
 rw[a] at e;cases e;rw[a] at e;simp at e;obtain⟨rfl,rfl⟩:=e;rw[u.block H (jU.1 k).1];exact B
def RD.onto{a b c:World}(h:RD r a b)(k:Below a.heap.size b c):RD r a c:=
 ⟨k.os.trans h.os,k.tape.trans h.tape,k.output.trans h.output,zZ h.size k.size,λi d e=>(k.block i d).trans (h.block i d e)⟩
def Rd.next{l rest:List R8}{p:Nat}(a:w.heap[r]?=some (.cells #[wv,ι p] 185 (0,0)))(f:p<l.length)(e:rest=l.drop p)
  (g:∃base,w.ownsRow base 182 2 wv l.length (jP l)):Rd (w.setCell ⟨r,1,none⟩ (ι ((p:Int)+1))) r wv l rest.tail:=by
 refine⟨⟨p+1,f,by rw[e,List.tail_drop],?_⟩,?_⟩;simp[World.setCell,Array.getElem?_modify,a];obtain⟨b,d⟩:=g;exact⟨b,xF d ((RD.refl r w).setCell 1 _) a (by decide)⟩
end
section
open Go.Proofs.Tryz Go.RowKit
def Aa(k:Int)(w:World):
  Calls prog 199 #[ι k] w λe a=>e=ε (.bool (S4 k))/\a=w:=by
 go_enter func199,ntmps199;go_wp2
 all_goals go_ret
 all_goals go_light
 all_goals exact⟨by simp_all [S4],rfl⟩
def nD(w:World)(r:Nat)(f:Value)(l rest:List R8)(h:Rd w r f l rest)(_:l.length<=500):
  Calls prog 179 #[(π r)] w λe u=>e=ε (.agg #[ι (RP rest),.string (rest.headD (0,ByteArray.empty)).2])/\μ w u:=by
 have d:=h.lt;obtain⟨p,A,c,B,j,rfl,b,n,o,q,m⟩:=h.view;rcases rest with _|⟨x,s⟩
 .have a:p=l.length:=by
   have:=congrArg List.length j;simp at this;omega
  subst a;go_enter func179,ntmps179;go_wp2;go_quiet (fail)
  go_wp2;go_returns
  exact⟨rfl,(by repeat'(first|with_reducible(first|apply zR|assumption|apply zN|apply zA|apply zD|apply zS)|go_size))⟩
 obtain⟨k,t⟩:=x;obtain⟨g,rfl,z,a,y,i⟩:=m k t s rfl;go_enter func179,ntmps179;go_wp2;go_quiet (fail)
 go_wp2;go_region
 all_goals go_wp2
 all_goals exact zO (v:=.agg #[ι k,.string t]) (by simp[results,results179,go_sem]) rfl ⟨rfl,(by repeat'(first|with_reducible(first|apply zR|assumption|apply zN|apply zA|apply zD|apply zS)|go_size))⟩
def Sp(w:World)(r:Nat)(i:Value)(l rest:List R8)(k:Int)(h:Rd w r i l rest)(H:l.length<=500)(B:k≠0):
  Calls prog 143 #[(π r),ι k] w λe y=>e=ε (.bool (RP rest == k))/\Rd y r i l (if RP rest=k then rest.tail else rest)/\RD r w y:=by
 have b:=nD w r i l rest h H;by_cases f:RP rest=k
 .obtain⟨p,P,F,R,G,J,d,K,j,o,D⟩:=h.view;have n:=h.words;have c:=h.lt;rcases rest with _|⟨x,v⟩;exact z9 f.symm B;obtain⟨z,t⟩:=x;obtain⟨g,_,N,q,M,C⟩:=D z t v rfl;have E:=Ry G;subst f;simp only[if_true,beq_self_eq_true,lU];go_enter func143,ntmps143;go_wp2_with (go_at_call 179;(refine b.mono ?_;rintro e m ⟨rfl,a⟩;clear b;have Q:=a.size;have u:r<m.heap.size:=(by omega);have I:=zl a c j;have L:=(a.frozen (p:=⟨r,1,none⟩) c).trans (o 1)))
  go_ret;refine⟨rfl,?_,?_⟩;obtain⟨A,n⟩:=n;exact(Rd.next (w:=m) (rest:=(z,t)::v) ((a.block r c).trans d) q E ⟨A,zB n a⟩).below zP;have O:=RD.of (r:=r) a;exact(by repeat'(first|with_reducible(first|apply xR|assumption|apply xN|apply xA|apply xD|apply xS|apply xT)|go_size))
 rw[za f];have s:(RP rest == k)=false:=by simpa using f
 rw[s];go_enter func143,ntmps143;go_wp2_with (go_at_call 179;refine b.mono ?_;rintro e m ⟨rfl,a⟩;clear b)
 go_ret;exact⟨rfl,h.below (a.alloc a.size _),RD.of (a.alloc a.size _)⟩
def kE(w:World)(r:Nat)(a:Value)(l rest:List R8)(k:Int)(h:Rd w r a l rest)(f:l.length<=500)(d:k≠0)(b:RP rest=k):
  Calls prog 143 #[(π r),ι k] w λe c=>e=ε (.bool true)/\Rd c r a l rest.tail/\RD r w c:=by
 have:=Sp w r a l rest k h f d;rw[zb b,b,beq_self_eq_true] at this;exact this
def mM(w:World)(r:Nat)(a:Value)(l rest:List R8)(k:Int)(h:Rd w r a l rest)(f:l.length<=500)(d:k≠0)(b:RP rest≠k):
  Calls prog 143 #[(π r),ι k] w λe c=>e=ε (.bool false)/\Rd c r a l rest/\RD r w c:=by
 have:=Sp w r a l rest k h f d;rw[za b,show(RP rest == k)=false by simpa using b] at this;exact this
end
section
open Go.Proofs.Tryz Go.RowKit
variable {lo:Nat}
def QN:(prog.info? 9).map (λi=>(i.zero,i.size,i.bytes))=some (some (.string ByteArray.empty),1,16):=by kernel_rfl
def rL(w:World)(r:Nat)(a:Value)(l rest:List R8)(e:Ending)(w':World):Prop:=
 RD r w w'/\match yq rest with
  |none=>e=ε (.tuple #[ν,.bool false])
  |some (c,b)=>∃v,e=ε (.tuple #[v,.bool true])/\R7 w.heap.size w' v c/\Rd w' r a l b
def Gf{w w':World}{r:Nat}{a:Value}{l rest:List R8}(h:Hid (yq rest=none))(b:RD r w w'):rL w r a l rest (ε (.tuple #[ν,.bool false])) w':=by
 have c:yq rest=none:=h;unfold rL;rw[c];exact⟨b,rfl⟩
def Lt{w w':World}{r:Nat}{a v:Value}{l rest r2:List R8}{ts:κ}(h:Hid (yq rest=some (ts,r2)))(c:RD r w w')(hs:R7 w.heap.size w' v ts)(b:Rd w' r a l r2):
  rL w r a l rest (ε (.tuple #[v,.bool true])) w':=by
 have d:yq rest=some (ts,r2):=h;unfold rL;rw[d];exact⟨c,v,rfl,hs,b⟩
def AU{α β:Type}(o:Option (List α×β))(a:List α)(x:α):((o.map λz=>(x::z.1,z.2)).map λz=>(a++z.1,z.2))=o.map λz=>((a++[x])++z.1,z.2):=by cases o<;>simp
def EJ(w:World)(r:Nat)(F:Value)(l rest:List R8)(h:Rd w r F l rest)(hl:l.length<=500):
  Calls prog 180 #[(π r)] w λe N=>rL w r F l rest e N:=by
 obtain⟨i0,hi,aa,W,ah⟩:=info_parts QN;have aq:=h.lt;go_enter func180,ntmps180;go_wp2;go_loopg [4,5] (rest.length) (λn v t wr=>∃(i:κ) (b:List R8) (more:Bool),t=.bool more/\b.length<=n/\b.length+i.length<=rest.length ∧
   wr.ownsRow w.heap.size 9 1 v i.length (i.map Value.string)/\Rd wr r F l b/\RD r w wr ∧
   Hid (more=true->yq rest=(yq b).map λz=>(i++z.1,z.2))/\Hid (more=false->yq rest=some (i,b)))
 case atStart=>exact⟨[],rest,true,rfl,zf _,by simp,yW _ _ _ _,h,RD.refl _ _,(λ_=>by simp),(λh=>by cases h)⟩
 obtain⟨i,b,more,rfl,hn,K,s,m,d,D,M⟩:=hrel;have am:rest.length<=l.length:=by
  obtain⟨p,_,hp,_⟩:=h.box;rw[hp];simp
 have ak:=d.size;have j:=m.lt;cases more
 .have H:=Ry (M rfl);clear D M;go_wp2;go_ret2
  exact Lt H d s m
 have c:=nD wr r F l b m hl;rcases b with _|⟨x,f⟩
 .have H:Hid (yq rest=none):=by rw[Hid.out D rfl];simp[yq,Hid]
  clear D M;have O:S4 0=false:=rfl;simp only[RP] at c;go_wp2_with (first|(go_at_call 179;refine c.mono ?_;rintro e u ⟨rfl,a⟩;clear c;have hz:=a.size)|(go_at_call 199;refine(Aa _ _).mono ?_;rintro e N ⟨rfl,rfl⟩))
  go_ret2
  have hB:=d.trans (RD.of a);exact Gf H (by repeat'(first|with_reducible(first|apply xR|assumption|apply xN|apply xA|apply xD|apply xS|apply xT)|go_size))
 obtain⟨k,t⟩:=x;simp only[RP,List.headD_cons] at c;cases O:S4 k
 .have H:Hid (yq rest=none):=by rw[Hid.out D rfl,Ln O];simp[Hid]
  clear D M;go_wp2_with (first|(go_at_call 179;refine c.mono ?_;rintro e u ⟨rfl,a⟩;clear c;have hz:=a.size)|(go_at_call 199;refine(Aa _ _).mono ?_;rintro e N ⟨rfl,rfl⟩))
  go_ret2
  have hB:=d.trans (RD.of a);exact Gf H (by repeat'(first|with_reducible(first|apply xR|assumption|apply xN|apply xA|apply xD|apply xS|apply xT)|go_size))
 obtain⟨p,ao,an,hp,hr,L,A,ad,S,af,hx⟩:=m.view;obtain⟨g,_,hg,ae,ag,Q⟩:=hx k t f rfl;have HR:Hid ((k,t)::f=l.drop p):=hr;have HW:=Ry L;clear hx hr ag Q ad L;go_wp2_with (first|(go_at_call 179;refine c.mono ?_;rintro e u ⟨rfl,a⟩;clear c;have hz:=a.size;have ai:r<u.heap.size:=(by omega);have ap:=zl a j S;have ar:=(a.frozen (p:=⟨r,1,none⟩) j).trans (af 1);have P:=a;have G:=Rd.next (w:=u) (rest:=(k,t)::f) ((a.block r j).trans A) ae HR ⟨_,zB m.words.choose_spec a⟩;have X:=xF (zB s a) ((RD.refl r u).setCell 1 (ι ((p:Int)+1))) ((a.block r j).trans A) (by decide);have ac:=(d.trans (RD.of a)).setCell 1 (ι ((p:Int)+1));have al:(u.setCell ⟨r,1,none⟩ (ι ((p:Int)+1))).heap.size=u.heap.size:=(by simp);clear P)|(go_at_call 199;refine(Aa _ _).mono ?_;rintro e N ⟨rfl,rfl⟩)|(at_builtin;refine kA (u.setCell ⟨r,1,none⟩ (ι ((p:Int)+1))) _ _ _ rfl (.tmp 21) (.tmp 24) 30 rfl w.heap.size 9 i0 _ 1 16 underlying30 hi aa W ah rfl (by decide) _ _ _ rfl X zP _ _ rfl (by simp) rfl (by simp[Value.oneCell']) (by simp at K;omega) (by omega) (by omega) ?_;intro v' w2 U I Z ab Y aj;clear Z ab Y;have y:=Rd.keep h G I;have B:=ac.onto I;have J:=Sp w2 r F l f 6 y hl (by decide))|(go_at_call 143;refine J.mono ?_;rintro e w3 ⟨rfl,E,o⟩;clear J))
 obtain⟨c3,f3,C⟩:=y.cell;have T:=xF U o C (by decide);have hP:=Hid.out D trivial;simp only[xr] at hn K;have R:(if RP f=6 then f.tail else f).length<=f.length:=by split<;>simp
 go_roundg f.length
 case measure=>omega
 refine⟨i++[t],(if RP f=6 then f.tail else f),(RP f == 6),rfl,R,by simp;omega,by simpa using T,E,B.trans o,?_,?_⟩;intro V;have q:RP f=6:=by simpa using V
 rw[zb q,hP,I9 O q,AU];intro V;have q:RP f≠6:=by simpa using V
 rw[za q,hP,DQ O q];simp
def OV(w:World)(r:Nat)(a:Value)(l rest:List R8)(h:Rd w r a l rest)(f:l.length<=500)(g:yq rest=none):
  Calls prog 180 #[(π r)] w λe c=>e=ε (.tuple #[ν,.bool false])/\RD r w c:=by
 refine(EJ w r a l rest h f).mono ?_;rintro e c ⟨d,b⟩;rw[g] at b;exact⟨b,d⟩
def EB(w:World)(r:Nat)(f:Value)(l rest r2:List R8)(ts:κ)(h:Rd w r f l rest)(j:l.length<=500)(k:yq rest=some (ts,r2)):
  Calls prog 180 #[(π r)] w λe d=>∃v,e=ε (.tuple #[v,.bool true])/\R7 w.heap.size d v ts/\Rd d r f l r2/\RD r w d:=by
 refine(EJ w r f l rest h j).mono ?_;rintro e d ⟨i,g⟩;rw[k] at g;obtain⟨v,a,b,c⟩:=g;exact⟨v,a,b,c,i⟩
def mm(o:Option (zk×List R8))(w:World)(r:Nat)(c:Value)(l:List R8)(e:Ending)(w':World):Prop:=
 RD r w w'/\match o with
  |none=>e=ε (.tuple #[.agg #[.bool false,.string ByteArray.empty,ν],.bool false])
  |some (a,d)=>∃b,e=ε (.tuple #[.agg #[.bool a.neg,.string a.pred,b],.bool true])/\R7 w.heap.size w' b a.args/\Rd w' r c l d
def NH(w:World)(r:Nat)(d:Value)(l rest:List R8)(h:Rd w r d l rest)(m:l.length<=500)(x:(RP rest == 1)=false):
  Calls prog 142 #[(π r)] w λe s=>mm none w r d l e s:=by
 have o:=h.lt;have f:w.heap.size≠r:=by omega
 go_enter func142,ntmps142;go_wp2_with (first|(go_at_call 179;refine(nD _ r d l rest (by exact h.below (by go_grown)) m).mono ?_;rintro e q ⟨rfl,b⟩;have c:=R5 zP b;have i:=(Rz.new w _ _).below b;have j:=h.below c)|(go_at_call 143;refine(Sp _ r d l rest 1 (by exact j.below (by go_grown)) m (by decide)).mono ?_;rintro e u ⟨rfl,n,a⟩;have k:=(i.below zP).but a f;obtain⟨g,p⟩:=k.rules))
 have t:=(RD.of c).trans (((RD.refl r q).alloc _).trans a);exact zO (v:=.tuple #[.agg #[.bool false,.string ByteArray.empty,ν],.bool false]) (by simp[results,results142,go_sem,g];rfl) rfl ⟨(by repeat'(first|with_reducible(first|apply xR|assumption|apply xN|apply xA|apply xD|apply xS|apply xT)|go_size)),rfl⟩
def Lg(w:World)(r:Nat)(g:Value)(l rest:List R8)(h:Rd w r g l rest)(D:l.length<=500)(J:RP rest=1)(U:RP rest.tail≠4):
  Calls prog 142 #[(π r)] w λe B=>mm (some (⟨false,(rest.headD (0,ByteArray.empty)).2,[]⟩,rest.tail)) w r g l e B:=by
 have Z:=h.lt;have j:w.heap.size≠r:=by omega
 generalize T:(rest.headD (0,ByteArray.empty)).2=t;have X:=Ry T;have V:=Ry J;have C:Hid (∀W,Rd W r g l rest->Calls prog 179 #[(π r)] W λe B=>e=ε (.agg #[ι 1,.string t])/\μ W B):=λW N=>by
  have:=nD W r g l rest N D;rw[J,Hid.out X] at this;exact this
 have H4:=Ry U;go_enter func142,ntmps142;go_wp2_with (first|(go_at_call 179;refine(Hid.out C _ (by exact h.below (by go_grown))).mono ?_;rintro e u ⟨rfl,o⟩;have q:=R5 zP o;have n:=(Rz.new w _ _).below o;have P:=n.lt;have x:=h.below q;have H:r<u.heap.size:=(by omega);have c:u.heap.size≠r:=(by omega))|(go_at_call 143;have k:=s;refine(mM _ r g l rest.tail 4 k D (by decide) H4).mono ?_;rintro e w3 ⟨rfl,m,b⟩;have p:=d.but b j;have i:=f.but b c;clear F G y E;obtain⟨z,S⟩:=p.rules;obtain⟨Q,Y⟩:=i.rules;have O:=p.lt;have L:=i.lt;have K:=m.lt;have R:=A.trans b;clear k)|(go_at_call 143;have k:=x;refine(kE _ r g l rest 1 (by exact k.below (by go_grown)) D (by decide) V).mono ?_;rintro e w2 ⟨rfl,s,a⟩;have d:=(n.below zP).but a j;have f:=(Rz.new u _ _).but a c;obtain⟨F,G⟩:=d.rules;obtain⟨y,E⟩:=f.rules;have aa:=d.lt;have M:=f.lt;have I:=s.lt;have A:=(RD.of q).trans (((RD.refl r u).alloc _).trans a);clear k))
 exact zO (v:=.tuple #[.agg #[.bool false,.string t,ν],.bool true]) (by simp[results,results142,go_sem,z]) rfl ⟨(by repeat'(first|with_reducible(first|apply xR|assumption|apply xN|apply xA|apply xD|apply xS|apply xT)|go_size)),_,rfl,R7.nil _,h.keep m (by go_grown)⟩
def Jh(w:World)(r:Nat)(f:Value)(l rest:List R8)(h:Rd w r f l rest)(A:l.length<=500)(R:RP rest=1)(h4:RP rest.tail=4)(h5:yq rest.tail.tail=none):
  Calls prog 142 #[(π r)] w λe I=>mm none w r f l e I:=by
 have ad:=h.lt;have j:w.heap.size≠r:=by omega
 obtain⟨t,HT⟩:∃t,Hid ((rest.headD (0,ByteArray.empty)).2=t):=⟨_,rfl⟩;have H1:=Ry R;have K:Hid (∀W,Rd W r f l rest->Calls prog 179 #[(π r)] W λe I=>e=ε (.agg #[ι 1,.string t])/\μ W I):=λW Z=>by
  have:=nD W r f l rest Z A;rw[R,Hid.out HT] at this;exact this
 have H4:=Ry h4;have H5:=Ry h5;go_enter func142,ntmps142;go_wp2_with (first|(go_at_call 179;refine(Hid.out K _ (by exact h.below (by go_grown))).mono ?_;rintro e z ⟨rfl,s⟩;have u:=R5 zP s;have q:=(Rz.new w _ _).below s;have ab:=q.lt;have B:=h.below u;have P:r<z.heap.size:=(by omega);have d:z.heap.size≠r:=(by omega))|(go_at_call 180;refine(OV _ r f l rest.tail.tail o A H5).mono ?_;rintro e w4 ⟨rfl,a⟩;have p:=m.but a j;have y:=i.but a d;clear D H F L;obtain⟨J,ae⟩:=p.rules;obtain⟨ac,X⟩:=y.rules;have af:=p.lt;have V:=y.lt;have Y:=G.trans a)|(go_at_call 143;have n:=x;refine(kE _ r f l rest.tail 4 n A (by decide) H4).mono ?_;rintro e w3 ⟨rfl,o,c⟩;have m:=g.but c j;have i:=k.but c d;clear N O C M;obtain⟨D,H⟩:=m.rules;obtain⟨F,L⟩:=i.rules;have aa:=m.lt;have T:=i.lt;have S:=o.lt;have G:=E.trans c;clear n)|(go_at_call 143;have n:=B;refine(kE _ r f l rest 1 (by exact n.below (by go_grown)) A (by decide) H1).mono ?_;rintro e w2 ⟨rfl,x,b⟩;have g:=(q.below zP).but b j;have k:=(Rz.new z _ _).but b d;obtain⟨N,O⟩:=g.rules;obtain⟨C,M⟩:=k.rules;have ag:=g.lt;have U:=k.lt;have Q:=x.lt;have E:=(RD.of u).trans (((RD.refl r z).alloc _).trans b);clear n))
 exact zO (v:=.tuple #[.agg #[.bool false,.string ByteArray.empty,ν],.bool false]) (by simp[results,results142,go_sem,J];rfl) rfl ⟨(by repeat'(first|with_reducible(first|apply xR|assumption|apply xN|apply xA|apply xD|apply xS|apply xT)|go_size)),rfl⟩
def Kt(w:World)(r:Nat)(j:Value)(l rest r2:List R8)(ts:κ)(h:Rd w r j l rest)(D:l.length<=500)(h1:RP rest=1)(h4:RP rest.tail=4)(h5:yq rest.tail.tail=some (ts,r2))(h6:RP r2≠5):
  Calls prog 142 #[(π r)] w λe U=>mm none w r j l e U:=by
 have ar:=h.lt;have g:w.heap.size≠r:=by omega
 obtain⟨t,HT⟩:∃t,Hid ((rest.headD (0,ByteArray.empty)).2=t):=⟨_,rfl⟩;have H1:=Ry h1;have Z:Hid (∀W,Rd W r j l rest->Calls prog 179 #[(π r)] W λe U=>e=ε (.agg #[ι 1,.string t])/\μ W U):=λW hW=>by
  have:=nD W r j l rest hW D;rw[h1,Hid.out HT] at this;exact this
 have H4:=Ry h4;have H5:=Ry h5;have H6:=Ry h6;go_enter func142,ntmps142;go_wp2_with (first|(go_at_call 179;refine(Hid.out Z _ (by exact h.below (by go_grown))).mono ?_;rintro e F ⟨rfl,A⟩;have E:=R5 zP A;have C:=(Rz.new w _ _).below A;have av:=C.lt;have Q:=h.below E;have ab:r<F.heap.size:=(by omega);have f:F.heap.size≠r:=(by omega))|(go_at_call 180;refine(EB _ r j l rest.tail.tail r2 ts s D H5).mono ?_;rintro e w4 ⟨va,rfl,u,x,c⟩;obtain⟨ao,cp,rfl⟩:=u.qy;have n:=o.but c g;have p:=q.but c f;clear G T S X;obtain⟨Y,aa⟩:=n.rules;obtain⟨L,I⟩:=p.rules;have au:=n.lt;have af:=p.lt;have ah:=x.lt;have J:=M.trans c)|(go_at_call 143;have i:=x;refine(mM _ r j l r2 5 i D (by decide) H6).mono ?_;rintro e w5 ⟨rfl,N,d⟩;have y:=n.but d g;have z:=p.but d f;clear Y aa L I;obtain⟨P,al⟩:=y.rules;obtain⟨am,aq⟩:=z.rules;have ap:=y.lt;have ai:=z.lt;have ad:=N.lt;have an:=J.trans d;clear i)|(go_at_call 143;have i:=B;refine(kE _ r j l rest.tail 4 i D (by decide) H4).mono ?_;rintro e w3 ⟨rfl,s,b⟩;have o:=m.but b g;have q:=k.but b f;clear H O R V;obtain⟨G,T⟩:=o.rules;obtain⟨S,X⟩:=q.rules;have ak:=o.lt;have aj:=q.lt;have ac:=s.lt;have M:=K.trans b;clear i)|(go_at_call 143;have i:=Q;refine(kE _ r j l rest 1 (by exact i.below (by go_grown)) D (by decide) H1).mono ?_;rintro e w2 ⟨rfl,B,a⟩;have m:=(C.below zP).but a g;have k:=(Rz.new F _ _).but a f;obtain⟨H,O⟩:=m.rules;obtain⟨R,V⟩:=k.rules;have aw:=m.lt;have ae:=k.lt;have ag:=B.lt;have K:=(RD.of E).trans (((RD.refl r F).alloc _).trans a);clear i))
 exact zO (v:=.tuple #[.agg #[.bool false,.string ByteArray.empty,ν],.bool false]) (by simp[results,results142,go_sem,P];rfl) rfl ⟨(by repeat'(first|with_reducible(first|apply xR|assumption|apply xN|apply xA|apply xD|apply xS|apply xT)|go_size)),rfl⟩
def Oj(w:World)(r:Nat)(k:Value)(l rest r2:List R8)(ts:κ)(h:Rd w r k l rest)(F:l.length<=500)(h1:RP rest=1)(h4:RP rest.tail=4)(h5:yq rest.tail.tail=some (ts,r2))(h6:RP r2=5):
  Calls prog 142 #[(π r)] w λe X=>mm (some (⟨false,(rest.headD (0,ByteArray.empty)).2,ts⟩,r2.tail)) w r k l e X:=by
 have av:=h.lt;have g:w.heap.size≠r:=by omega
 generalize ht:(rest.headD (0,ByteArray.empty)).2=t;have HT:=Ry ht;have H1:=Ry h1;have ab:Hid (∀W,Rd W r k l rest->Calls prog 179 #[(π r)] W λe X=>e=ε (.agg #[ι 1,.string t])/\μ W X):=λW hW=>by
  have:=nD W r k l rest hW F;rw[h1,Hid.out HT] at this;exact this
 have H4:=Ry h4;have H5:=Ry h5;have H6:=Ry h6;go_enter func142,ntmps142;go_wp2_with (first|(go_at_call 179;refine(Hid.out ab _ (by exact h.below (by go_grown))).mono ?_;rintro e H ⟨rfl,C⟩;have G:=R5 zP C;have E:=(Rz.new w _ _).below C;have ax:=E.lt;have S:=h.below G;have ad:r<H.heap.size:=(by omega);have f:H.heap.size≠r:=(by omega))|(go_at_call 180;refine(EB _ r k l rest.tail.tail r2 ts y F H5).mono ?_;rintro e w4 ⟨va,rfl,i,n,d⟩;obtain⟨ao,cp,rfl⟩:=i.qy;have q:=s.but d g;have u:=x.but d f;clear I V U Z;obtain⟨aa,ac⟩:=q.rules;obtain⟨P,M⟩:=u.rules;have aw:=q.lt;have ah:=u.lt;have aj:=n.lt;have N:=z.trans d)|(go_at_call 143;have j:=n;refine(kE _ r k l r2 5 j F (by decide) H6).mono ?_;rintro e w5 ⟨rfl,A,a⟩;have o:=q.but a g;have B:=u.but a f;clear aa ac P M;obtain⟨R,an⟩:=o.rules;obtain⟨ap,au⟩:=B.rules;have ar:=o.lt;have ak:=B.lt;have af:=A.lt;have aq:=N.trans a;clear j)|(go_at_call 143;have j:=D;refine(kE _ r k l rest.tail 4 j F (by decide) H4).mono ?_;rintro e w3 ⟨rfl,y,c⟩;have s:=p.but c g;have x:=m.but c f;clear J Q T Y;obtain⟨I,V⟩:=s.rules;obtain⟨U,Z⟩:=x.rules;have am:=s.lt;have al:=x.lt;have ae:=y.lt;have z:=O.trans c;clear j)|(go_at_call 143;have j:=S;refine(kE _ r k l rest 1 (by exact j.below (by go_grown)) F (by decide) H1).mono ?_;rintro e w2 ⟨rfl,D,b⟩;have p:=(E.below zP).but b g;have m:=(Rz.new H _ _).but b f;obtain⟨J,Q⟩:=p.rules;obtain⟨T,Y⟩:=m.rules;have ay:=p.lt;have ag:=m.lt;have ai:=D.lt;have O:=(RD.of G).trans (((RD.refl r H).alloc _).trans b);clear j))
 obtain⟨c4,f4,K⟩:=n.cell;have L:=i.but a K (by decide);exact zO (v:=.tuple #[.agg #[.bool false,.string t,.slice ao ts.length cp],.bool true]) (by simp[results,results142,go_sem,R]) rfl ⟨(by repeat'(first|with_reducible(first|apply xR|assumption|apply xN|apply xA|apply xD|apply xS|apply xT)|go_size)),_,rfl,(L.low z.size).but (r:=w.heap.size) (by repeat'(first|with_reducible(first|apply xR|assumption|apply xN|apply xA|apply xD|apply xS|apply xT)|go_size)) o (by decide),h.keep A (by go_grown)⟩
def Ew(w:World)(r:Nat)(a:Value)(l rest:List R8)(h:Rd w r a l rest)(d:l.length<=500):
  Calls prog 142 #[(π r)] w λe k=>mm (xo rest) w r a l e k:=by
 unfold xo;split;rename_i b;split;rename_i c;split;rename_i f;exact Jh w r a l rest h d b c f;rename_i j i f;split;rename_i g;exact Oj w r a l rest i j h d b c f g;rename_i g;exact Kt w r a l rest i j h d b c f g;rename_i c;exact Lg w r a l rest h d b c;rename_i b;exact NH w r a l rest h d (by simpa using b)
def B4(w:World)(r:Nat)(a:Value)(l rest:List R8)(h:Rd w r a l rest)(f:l.length<=500)(g:xo rest=none):
  Calls prog 142 #[(π r)] w λe c=>e=ε (.tuple #[.agg #[.bool false,.string ByteArray.empty,ν],.bool false])/\RD r w c:=by
 refine(Ew w r a l rest h f).mono ?_;rintro e c ⟨d,b⟩;rw[g] at b;exact⟨b,d⟩
def pC(w:World)(r:Nat)(f:Value)(l rest r2:List R8)(a:zk)(h:Rd w r f l rest)(k:l.length<=500)(m:xo rest=some (a,r2)):
  Calls prog 142 #[(π r)] w λe d=>∃g,e=ε (.tuple #[.agg #[.bool a.neg,.string a.pred,g],.bool true])/\R7 w.heap.size d g a.args/\Rd d r f l r2/\RD r w d:=by
 refine(Ew w r f l rest h k).mono ?_;rintro e d ⟨j,i⟩;rw[m] at i;obtain⟨v,a,b,c⟩:=i;exact⟨v,a,b,c,j⟩
def Dt(b:Bool)(w:World)(r:Nat)(f:Value)(l rest a:List R8)(h:Rd w r f l rest)(z:l.length<=500)
  (k:∀W,Rd W r f l rest->Calls prog 143 #[(π r),ι 8] W λe g=>e=ε (.bool b)/\Rd g r f l a/\RD r W g) (t:xo a=none):
  Calls prog 181 #[(π r)] w λe g=>mm none w r f l e g:=by
 have A:=h.lt;have j:w.heap.size≠r:=by omega
 have q:Hid (∀W,Rd W r f l rest->Calls prog 143 #[(π r),ι 8] W λe g=>e=ε (.bool b)/\Rd g r f l a/\RD r W g):=k;clear k;have C:Hid (xo a=none):=t;clear t;go_enter func181,ntmps181;go_wp2_with (first|(go_at_call 143;refine(Hid.out q _ (by exact h.below (by go_grown))).mono ?_;rintro e E ⟨rfl,i,d⟩;have m:=(Rz.new w _ _).but d j;have x:=m.lt;have u:=i.lt;have o:=((RD.refl r w).alloc _).trans d)|(go_at_call 142;refine(B4 _ r f l a i z C).mono ?_;rintro e D ⟨rfl,c⟩;have n:=m.but c j;obtain⟨p,B,s⟩:=n.boxed;have y:=o.trans c))
 exact zO (v:=.tuple #[.agg #[.bool false,.string ByteArray.empty,ν],.bool false]) (by simp[results,results181,go_sem,p,s];rfl) rfl ⟨(by repeat'(first|with_reducible(first|apply xR|assumption|apply xN|apply xA|apply xD|apply xS|apply xT)|go_size)),rfl⟩
def D7(b:Bool)(w:World)(r:Nat)(i:Value)(l rest c r2:List R8)(a:zk)(h:Rd w r i l rest)(D:l.length<=500)
  (o:∀W,Rd W r i l rest->Calls prog 143 #[(π r),ι 8] W λe j=>e=ε (.bool b)/\Rd j r i l c/\RD r W j) (y:xo c=some (a,r2)):
  Calls prog 181 #[(π r)] w λe j=>mm (some ({a with neg:=b},r2)) w r i l e j:=by
 have F:=h.lt;have n:w.heap.size≠r:=by omega
 have u:Hid (∀W,Rd W r i l rest->Calls prog 143 #[(π r),ι 8] W λe j=>e=ε (.bool b)/\Rd j r i l c/\RD r W j):=o;clear o;have H:Hid (xo c=some (a,r2)):=y;clear y;go_enter func181,ntmps181;go_wp2_with (first|(go_at_call 143;refine(Hid.out u _ (by exact h.below (by go_grown))).mono ?_;rintro e K ⟨rfl,k,f⟩;have p:=(Rz.new w _ _).but f n;have A:=p.lt;have z:=k.lt;have q:=((RD.refl r w).alloc _).trans f)|(go_at_call 142;refine(pC _ r i l c r2 a k D H).mono ?_;rintro e I ⟨J,rfl,g,s,d⟩;obtain⟨C,E,rfl⟩:=g.qy;have m:=p.but d n;obtain⟨t,G,x⟩:=m.boxed;have B:=q.trans d))
 exact zO (v:=.tuple #[.agg #[.bool b,.string a.pred,.slice C a.args.length E],.bool true]) (by simp[results,results181,go_sem,t,x]) rfl ⟨(by repeat'(first|with_reducible(first|apply xR|assumption|apply xN|apply xA|apply xD|apply xS|apply xT)|go_size)),_,rfl,(g.low q.size).but (r:=w.heap.size) (by repeat'(first|with_reducible(first|apply xR|assumption|apply xN|apply xA|apply xD|apply xS|apply xT)|go_size)) m (by decide),h.keep s (by go_grown)⟩
def Hf{rest r2:List R8}{a:zk}(h:xo rest=some (a,r2)):a.neg=false:=by
 unfold xo at h
 (repeat' split at h)<;>first|(cases h;done)|(simp at h;obtain⟨rfl,_⟩:=h;rfl)
def Cs(w:World)(r:Nat)(b:Value)(l rest:List R8)(h:Rd w r b l rest)(c:l.length<=500):
  Calls prog 181 #[(π r)] w λe j=>mm (uK rest) w r b l e j:=by
 unfold uK;split;rename_i g;rcases f:xo rest.tail with _|z;exact Dt true w r b l rest rest.tail h c (λW d=>kE W r b l rest 8 d c (by decide) g) f;obtain⟨a,i⟩:=z;exact D7 true w r b l rest rest.tail i a h c (λW d=>kE W r b l rest 8 d c (by decide) g) f;rename_i g;rcases f:xo rest with _|z;exact Dt false w r b l rest rest h c (λW d=>mM W r b l rest 8 d c (by decide) g) f;obtain⟨a,i⟩:=z;have:=D7 false w r b l rest rest i a h c (λW d=>mM W r b l rest 8 d c (by decide) g) f;rwa [show({a with neg:=false}:zk)=a by rw[←Hf f]] at this
end
section
open Go.Proofs.Tryz Go.RowKit
variable {lo:Nat}{v:Value}{n:Nat}{w:World}{r r2:List R8}{a:zk}{o:Option (List zk×List R8)}
def gD{f A:World}{b z:Nat}{e q:TypeId}{s D:Nat}{B:Value}{E:Nat}{xs d:List Value}(J:f.ownsRow b e s v n xs)(m:e≠q)(h:f.ownsRow z q D B E d)
  (G:∀k,k<f.heap.size->some k≠v.ownBlock->A.heap[k]?=f.heap[k]?):A.ownsRow z q D B E d:=by
 obtain⟨I,l⟩:=h;refine⟨I,?_⟩;rcases l with l|⟨g,u,i,p,H,j,K⟩;exact zh l;refine ze ⟨g,u,i,p,H,?_,K⟩;rw[G g (jU.1 j).1 ?_];exact j;intro x;obtain⟨_,⟨y,_⟩|⟨L,F,C,t,_,c,_⟩⟩:=J;subst y;cases x;subst t;simp only[Value.ownBlock,zr] at x;subst x;rw[j] at c;simp at c;exact m c.2.symm
def uV(lo:Nat)(w:World):List zk->List Value->Prop
 |[],b=>b=[]
 |a::d,b=>∃c r,b=.bool a.neg::.string a.pred::c::r/\R7 lo w c a.args/\uV lo w d r
def uV.snoc{w:World}{a:zk}{b:Value}(hs:R7 lo w b a.args):∀{c:List zk} {xs:List Value},uV lo w c xs->uV lo w (c++[a]) (xs++[.bool a.neg,.string a.pred,b])
 |[],_,h=>by simp only[uV] at h;subst h;exact⟨b,[],rfl,hs,rfl⟩
 |_::c,_,h=>by obtain⟨v,r,rfl,e,d⟩:=h;exact⟨v,r++[.bool a.neg,.string a.pred,b],rfl,e,uV.snoc hs d⟩
def uV.mono{w w':World}(c:∀d l,R7 lo w d l->R7 lo w' d l):∀{b:List zk} {xs:List Value},uV lo w b xs->uV lo w' b xs
 |[],_,h=>h
 |_::b,_,h=>by obtain⟨v,r,rfl,e,f⟩:=h;exact⟨v,r,rfl,c _ _ e,uV.mono c f⟩
def uV.at{w:World}:∀{c:List zk} {xs:List Value} (i:Nat) (a:zk),uV lo w c xs->c[i]?=some a->∃d,xs[i*3]?=some (.bool a.neg)/\xs[i*3+1]?=some (.string a.pred)/\xs[i*3+2]?=some d/\R7 lo w d a.args
 |[],_,i,a,_,b=>by simp at b
 |_::c,_,0,a,h,b=>by obtain⟨v,r,rfl,e,f⟩:=h;simp at b;subst b;exact⟨v,rfl,rfl,rfl,e⟩
 |_::c,_,i+1,a,h,b=>by
  obtain⟨v,r,rfl,e,f⟩:=h;obtain⟨d,j,l,k,g⟩:=uV.at i a f (by simpa using b);refine⟨d,?_,?_,?_,g⟩
  .rw[show(i+1)*3=i*3+1+1+1 from by omega];simpa using j
  .rw[show(i+1)*3+1=i*3+1+1+1+1 from by omega];simpa using l
  .rw[show(i+1)*3+2=i*3+2+1+1+1 from by omega];simpa using k
def Sc(lo:Nat)(w:World)(v:Value)(b:List zk):Prop:=∃c,w.ownsRow lo 90 3 v b.length c/\uV lo w b c
def uV.low{a b:Nat}{w:World}(c:a<=b):∀{d:List zk} {xs:List Value},uV b w d xs->uV a w d xs
 |[],_,h=>h
 |_::d,_,h=>by obtain⟨v,r,rfl,f,e⟩:=h;exact⟨v,r,rfl,f.low c,uV.low c e⟩
def Sc.low{a b:Nat}{w:World}{v:Value}{l:List zk}(h:Sc b w v l)(c:a<=b):Sc a w v l:=by obtain⟨e,h,d⟩:=h;exact⟨e,yk h c,d.low c⟩
def Sc.nil(w:World):Sc lo w (ν) []:=⟨[],yW _ _ _ _,rfl⟩
def Sc.qy{l:List zk}(h:Sc lo w v l):∃c b,v=.slice c l.length b:=by obtain⟨d,h,_⟩:=h;exact zq h
def Sc.below{w w':World}{v:Value}{l:List zk}(h:Sc lo w v l)(b:μ w w'):Sc lo w' v l:=by
 obtain⟨d,h,c⟩:=h;exact⟨d,zB h b,c.mono λ_ _ k=>k.below b⟩
def Sc.but{r:Nat}{w w':World}{v:Value}{l:List zk}(h:Sc lo w v l)(e:RD r w w'){c:Array Value}{T:TypeId}{f:Nat×Nat}(d:w.heap[r]?=some (.cells c T f))(j:T≠9)(b:T≠90):Sc lo w' v l:=by
 obtain⟨g,h,i⟩:=h;exact⟨g,xF h e d b,i.mono λ_ _ k=>k.but e d j⟩
def xW:Nat->List R8->Option (List zk×List R8)
 |0,_=>none
 |n+1,r=>match uK r with
  |none=>none
  |some (a,r2)=>if RP r2=6 then(xW n r2.tail).map λz=>(a::z.1,z.2) else some ([a],r2)
def rS(h:uK r=none):xW (n+1) r=none:=by simp[xW,h]
def pR(h:uK r=some (a,r2))(b:RP r2=6):xW (n+1) r=(xW n r2.tail).map λz=>(a::z.1,z.2):=by simp[xW,h,b]
def py(h:uK r=some (a,r2))(b:RP r2≠6):xW (n+1) r=some ([a],r2):=by simp[xW,h,b]
def CG:∀(r:List R8) {ts:κ} {r2:List R8},yq r=some (ts,r2)->r2.length<r.length
 |[],_,_,h=>by simp[yq] at h
 |[x],ts,r2,h=>by
  simp only[yq] at h;split at h<;>simp at h
  obtain⟨_,rfl⟩:=h;simp
 |x::y::r,ts,r2,h=>by
  simp only[yq] at h;split at h
  .split at h
   .cases b:yq r with
    |none=>rw[b] at h;simp at h
    |some z=>
     obtain⟨c,d⟩:=z;rw[b] at h;simp at h;have:=CG r b;obtain⟨_,rfl⟩:=h;simp;omega
   .simp at h;obtain⟨_,rfl⟩:=h;simp
  .simp at h
def tt(h:xo r=some (a,r2)):r2.length<r.length:=by
 rcases r with _|⟨x,r⟩;simp[xo,RP] at h;unfold xo at h;split at h;split at h;split at h;simp at h;rename_i d c b;have:=CG _ b;split at h<;>simp at h
 obtain⟨_,rfl⟩:=h;simp at this ⊢;omega;simp at h;obtain⟨_,rfl⟩:=h;simp;simp at h
def BB(h:uK r=some (a,r2)):r2.length<r.length:=by
 unfold uK at h;split at h;rcases b:xo r.tail with _|z;rw[b] at h;simp at h;obtain⟨d,c⟩:=z;rw[b] at h;simp at h;have:=tt b;obtain⟨_,rfl⟩:=h;simp at this;omega;exact tt h
def Pa(w:World)(r:Nat)(b:Value)(l rest:List R8)(h:Rd w r b l rest)(g:l.length<=500)(i:uK rest=none):
  Calls prog 181 #[(π r)] w λe d=>e=ε (.tuple #[.agg #[.bool false,.string ByteArray.empty,ν],.bool false])/\RD r w d:=by
 refine(Cs w r b l rest h g).mono ?_;rintro e d ⟨f,c⟩;rw[i] at c;exact⟨c,f⟩
def Na(w:World)(r:Nat)(f:Value)(l rest r2:List R8)(a:zk)(h:Rd w r f l rest)(k:l.length<=500)(m:uK rest=some (a,r2)):
  Calls prog 181 #[(π r)] w λe d=>∃g,e=ε (.tuple #[.agg #[.bool a.neg,.string a.pred,g],.bool true])/\R7 w.heap.size d g a.args/\Rd d r f l r2/\RD r w d:=by
 refine(Cs w r f l rest h k).mono ?_;rintro e d ⟨j,i⟩;rw[m] at i;obtain⟨v,a,b,c⟩:=i;exact⟨v,a,b,c,j⟩
def QU:(prog.info? 90).map (λi=>(i.zero,i.size,i.bytes))=some (some (.agg #[.bool false,.string ByteArray.empty,ν]),3,48):=by kernel_rfl
def Ae(o:Option (List zk×List R8))(w:World)(r:Nat)(b:Value)(l:List R8)(e:Ending)(w':World):Prop:=
 RD r w w'/\match o with
  |none=>e=ε (.tuple #[ν,.bool false])
  |some (c,r2)=>∃v,e=ε (.tuple #[v,.bool true])/\Sc w.heap.size w' v c/\Rd w' r b l r2
def Hc{w':World}{r:Nat}{b:Value}{l:List R8}(h:Hid (o=none))(c:RD r w w'):Ae o w r b l (ε (.tuple #[ν,.bool false])) w':=by
 have d:o=none:=h;subst d;exact⟨c,rfl⟩
def GH{w':World}{r:Nat}{c:Value}{l:List R8}{b:List zk}(h:Hid (o=some (b,r2)))(e:RD r w w')(hs:Sc w.heap.size w' v b)(d:Rd w' r c l r2):
  Ae o w r c l (ε (.tuple #[v,.bool true])) w':=by
 have f:o=some (b,r2):=h;subst f;exact⟨e,v,rfl,hs,d⟩
def Eg(w:World)(r:Nat)(E:Value)(l rest:List R8)(h:Rd w r E l rest)(hl:l.length<=500)(H:Nat)(ae:rest.length<H):
  Calls prog 144 #[(π r)] w λe w'=>Ae (xW H rest) w r E l e w':=by
 obtain⟨i0,hi,ag,ac,X⟩:=info_parts QU;have am:=h.lt;go_enter func144,ntmps144;go_wp2;go_loopg [4,5] (rest.length) (λn v t wr=>∃(i:List zk) (b:List R8) (more:Bool) (m:Nat) (T:List Value),t=.bool more/\b.length<=n/\b.length<m/\b.length+i.length<=rest.length ∧
   wr.ownsRow w.heap.size 90 3 v i.length T/\uV w.heap.size wr i T/\Rd wr r E l b/\RD r w wr ∧
   Hid (more=true->xW H rest=(xW m b).map λz=>(i++z.1,z.2))/\Hid (more=false->xW H rest=some (i,b)))
 case atStart=>exact⟨[],rest,true,H,[],rfl,zf _,ae,by simp,yW _ _ _ _,rfl,h,RD.refl _ _,(λ_=>by simp),(λh=>by cases h)⟩
 obtain⟨i,b,more,m,T,rfl,hn,hm,al,y,P,s,j,O,S⟩:=hrel;have ak:rest.length<=l.length:=by
  obtain⟨p,_,hp,_⟩:=h.box;rw[hp];simp
 have ab:=j.size;obtain⟨c0,f0,g⟩:=s.cell;cases more
 .have F:=Ry (S rfl);clear O S;go_wp2;go_ret2
  exact GH F j ⟨_,y,P⟩ s
 obtain⟨m,rfl⟩:∃m',m=m'+1:=⟨m-1,by omega⟩;have HC:=Ry g;rcases G:uK b with _|z
 .have F:Hid (xW H rest=none):=by rw[Hid.out O rfl,rS G];simp[Hid]
  have R:=Ry G;clear O S G;go_wp2_with (go_at_call 181;refine(Pa _ r E l b s hl R).mono ?_;rintro e w1 ⟨rfl,c⟩;have u:=j.trans c;have aa:=u.size)
  go_ret2
  exact Hc F (by repeat'(first|with_reducible(first|apply xR|assumption|apply xN|apply xA|apply xD|apply xS|apply xT)|go_size))
 obtain⟨a,r2⟩:=z;have R:=Ry G;have aj:=BB G;have F:=Ry (O rfl);clear O S G;go_wp2_with (first|(go_at_call 181;refine(Na _ r E l b r2 a s hl R).mono ?_;rintro e w1 ⟨va,rfl,A,V,c⟩;obtain⟨ao,cp,rfl⟩:=A.qy;have u:=j.trans c;have aa:=u.size;have D:=xF y c g (by decide);have K:=P.mono λ_ _ k=>k.but c g (by decide))|(at_builtin;refine kA w1 _ _ _ rfl (.tmp 16) (.tmp 18) 91 rfl w.heap.size 90 i0 _ 3 48 underlying91 hi ag ac X rfl (by decide) _ _ _ rfl D zP _ _ rfl (by simp) rfl (by simp[Value.oneCell']) (by omega) (by omega) (by omega) ?_;intro v' w2 Z L af ah Q ai;clear af ah;have B:=Rd.keep h V L;have C:=u.onto L;have ad:R7 w.heap.size w2 (Value.slice ao a.args.length cp) a.args:=yk (gD D (by decide) A Q) ab;have N:=K.mono λ_ _ k=>gD D (by decide) k Q;have M:=Sp w2 r E l r2 6 B hl (by decide))|(go_at_call 143;refine M.mono ?_;rintro e w3 ⟨rfl,I,d⟩;clear M))
 obtain⟨c3,f3,f⟩:=B.cell;have Y:=xF Z d f (by decide);have U:=ad.but d f (by decide);have J:=N.mono λ_ _ k=>k.but d f (by decide);have W:(if RP r2=6 then r2.tail else r2).length<=r2.length:=by split<;>simp
 have x:uK b=some (a,r2):=R;go_roundg r2.length
 case measure=>omega
 refine⟨i++[a],(if RP r2=6 then r2.tail else r2),(RP r2 == 6),m,_,rfl,W,by omega,by simp;omega,by rw[yC];exact Y,J.snoc U,I,C.trans d,?_,?_⟩;intro h6;have q:RP r2=6:=by simpa using h6
 rw[zb q,Hid.out F,pR x q,AU];intro h6;have q:RP r2≠6:=by simpa using h6
 rw[za q,Hid.out F,py x q];simp
end
section
open Go.Proofs.Tryz Go.RowKit
variable {lo:Nat}
def vl(n:Nat)(r:List R8):Option (zd×List R8):=
 match xo r with
 |none=>none
 |some (a,c)=>
  if RP c=9 then
   match xW n c.tail with
   |none=>none
   |some (b,d)=>if RP d=7 then some (⟨a,b⟩,d.tail) else none
  else if RP c=7 then some (⟨a,[]⟩,c.tail) else none
def Nk(w:World)(r:Nat)(c:Value)(l rest:List R8)(h:Rd w r c l rest)(i:l.length<=500)(b:Nat)(a:rest.length<b)(j:xW b rest=none):
  Calls prog 144 #[(π r)] w λe f=>e=ε (.tuple #[ν,.bool false])/\RD r w f:=by
 refine(Eg w r c l rest h i b a).mono ?_;rintro e f ⟨g,d⟩;rw[j] at d;exact⟨d,g⟩
def Bj(w:World)(r:Nat)(g:Value)(l rest r2:List R8)(b:List zk)(h:Rd w r g l rest)(m:l.length<=500)(i:Nat)(f:rest.length<i)(n:xW i rest=some (b,r2)):
  Calls prog 144 #[(π r)] w λe d=>∃v,e=ε (.tuple #[v,.bool true])/\Sc w.heap.size d v b/\Rd d r g l r2/\RD r w d:=by
 refine(Eg w r g l rest h m i f).mono ?_;rintro e d ⟨k,j⟩;rw[n] at j;obtain⟨v,a,b,c⟩:=j;exact⟨v,a,b,c,k⟩
def nQ(o:Option (zd×List R8))(w:World)(r:Nat)(d:Value)(l:List R8)(e:Ending)(w':World):Prop:=
 RD r w w'/\match o with
  |none=>e=ε (.tuple #[.agg #[.bool false,.string ByteArray.empty,ν,ν],.bool false])
  |some (c,f)=>∃b a,e=ε (.tuple #[.agg #[.bool c.head.neg,.string c.head.pred,b,a],.bool true])/\R7 w.heap.size w' b c.head.args/\Sc w.heap.size w' a c.body/\Rd w' r d l f
def IM(w:World)(r:Nat)(d:Value)(l rest:List R8)(h:Rd w r d l rest)(n:l.length<=500)(i:xo rest=none):
  Calls prog 100 #[(π r)] w λe o=>nQ none w r d l e o:=by
 have j:=h.lt;have b:w.heap.size≠r:=by omega
 have k:=Ry i;go_enter func100,ntmps100;go_wp2_with (go_at_call 142;refine(B4 _ r d l rest (by exact h.below (by go_grown)) n k).mono ?_;rintro e q ⟨rfl,a⟩;have c:=(Rz.new w _ _).but a b;obtain⟨g,m,f⟩:=c.boxed;have p:=((RD.refl r w).alloc _).trans a)
 exact zO (v:=.tuple #[.agg #[.bool false,.string ByteArray.empty,ν,ν],.bool false]) (by simp[results,results100,go_sem,g,f];rfl) rfl ⟨(by repeat'(first|with_reducible(first|apply xR|assumption|apply xN|apply xA|apply xD|apply xS|apply xT)|go_size)),rfl⟩
def K1(w:World)(r:Nat)(s:Value)(l rest:List R8)(h:Rd w r s l rest)(G:l.length<=500)(p:List R8)(a:zk)(Q:xo rest=some (a,p))(T:RP p≠9)(X:RP p≠7):
  Calls prog 100 #[(π r)] w λe w'=>nQ none w r s l e w':=by
 have ab:=h.lt;have m:w.heap.size≠r:=by omega
 have HA:=Ry Q;have H9:=Ry T;have H7:=Ry X;go_enter func100,ntmps100;go_wp2_with (first|(go_at_call 142;refine(pC _ r s l rest p a (by exact h.below (by go_grown)) G HA).mono ?_;rintro e F ⟨va,rfl,t,j,g⟩;obtain⟨Y,cp,rfl⟩:=t.qy;have x:=(Rz.new w _ _).but g m;have U:=x.lt;have L:=j.lt;have i:F.heap.size≠r:=(by omega);have I:=((RD.refl r w).alloc _).trans g)|(go_at_call 143;have q:=z;refine(mM _ r s l p 7 q G (by decide) H7).mono ?_;rintro e w3 ⟨rfl,C,c⟩;obtain⟨c7,f7,d⟩:=q.cell;have R:=E.but c d (by decide);have y:=k.but c m;have u:=o.but c i;clear J K A H;obtain⟨B,Z⟩:=y.rules;obtain⟨V,aa⟩:=u.rules;have S:=y.lt;have O:=u.lt;have N:=C.lt;have W:=D.trans c;clear q d)|(go_at_call 143;have q:=j;refine(mM _ r s l p 9 (by exact q.below (by go_grown)) G (by decide) H9).mono ?_;rintro e w2 ⟨rfl,z,b⟩;have n:=(RD.refl r F).alloc (Obj.cells #[.bool a.neg,.string a.pred,.slice Y a.args.length cp] 90);obtain⟨c1,f1,f⟩:=j.cell;have E:=t.but (n.trans b) f (by decide);have k:=(x.below zP).but b m;have o:=(Rz.new F _ _).but b i;obtain⟨J,K⟩:=k.rules;obtain⟨A,H⟩:=o.rules;have ac:=k.lt;have P:=o.lt;have M:=z.lt;have D:=I.trans (n.trans b);clear q n f))
 exact zO (v:=.tuple #[.agg #[.bool false,.string ByteArray.empty,ν,ν],.bool false]) (by simp[results,results100,go_sem,B];rfl) rfl ⟨(by repeat'(first|with_reducible(first|apply xR|assumption|apply xN|apply xA|apply xD|apply xS|apply xT)|go_size)),rfl⟩
def I8(w:World)(r:Nat)(t:Value)(l rest:List R8)(h:Rd w r t l rest)(H:l.length<=500)(j:List R8)(a:zk)(T:xo rest=some (a,j))(V:RP j≠9)(Z:RP j=7):
  Calls prog 100 #[(π r)] w λe w'=>nQ (some (⟨a,[]⟩,j.tail)) w r t l e w':=by
 have ac:=h.lt;have n:w.heap.size≠r:=by omega
 have HA:=Ry T;have H9:=Ry V;have H7:=Ry Z;go_enter func100,ntmps100;go_wp2_with (first|(go_at_call 142;refine(pC _ r t l rest j a (by exact h.below (by go_grown)) H HA).mono ?_;rintro e G ⟨va,rfl,u,k,g⟩;obtain⟨O,Q,rfl⟩:=u.qy;have z:=(Rz.new w _ _).but g n;have W:=z.lt;have M:=k.lt;have i:G.heap.size≠r:=(by omega);have J:=((RD.refl r w).alloc _).trans g)|(go_at_call 143;have s:=A;refine(kE _ r t l j 7 s H (by decide) H7).mono ?_;rintro e w3 ⟨rfl,y,c⟩;obtain⟨c7,f7,d⟩:=s.cell;have B:=F.but c d (by decide);have q:=m.but c n;have x:=p.but c i;clear K L C I;obtain⟨D,aa⟩:=q.rules;obtain⟨X,ab⟩:=x.rules;have U:=q.lt;have R:=x.lt;have P:=y.lt;have Y:=E.trans c;clear s d)|(go_at_call 143;have s:=k;refine(mM _ r t l j 9 (by exact s.below (by go_grown)) H (by decide) H9).mono ?_;rintro e w2 ⟨rfl,A,b⟩;have o:=(RD.refl r G).alloc (Obj.cells #[.bool a.neg,.string a.pred,.slice O a.args.length Q] 90);obtain⟨c1,f1,f⟩:=k.cell;have F:=u.but (o.trans b) f (by decide);have m:=(z.below zP).but b n;have p:=(Rz.new G _ _).but b i;obtain⟨K,L⟩:=m.rules;obtain⟨C,I⟩:=p.rules;have ad:=m.lt;have S:=p.lt;have N:=A.lt;have E:=J.trans (o.trans b);clear s o f))
 exact zO (v:=.tuple #[.agg #[.bool a.neg,.string a.pred,.slice O a.args.length Q,ν],.bool true]) (by simp[results,results100,go_sem,D]) rfl ⟨(by repeat'(first|with_reducible(first|apply xR|assumption|apply xN|apply xA|apply xD|apply xS|apply xT)|go_size)),_,_,rfl,(B.low (by first|(simp;done)|omega)).but (r:=w.heap.size) (by repeat'(first|with_reducible(first|apply xR|assumption|apply xN|apply xA|apply xD|apply xS|apply xT)|go_size)) q (by decide),Sc.nil _,h.keep y (by go_grown)⟩
def Nh(w:World)(r:Nat)(p:Value)(l rest:List R8)(h:Rd w r p l rest)(C:l.length<=500)(i:List R8)(a:zk)(H:Nat)(N:xo rest=some (a,i))(R:RP i=9)(O:i.tail.length<H)(T:xW H i.tail=none):
  Calls prog 100 #[(π r)] w λe Y=>nQ none w r p l e Y:=by
 have ac:=h.lt;have m:w.heap.size≠r:=by omega
 have HA:=Ry N;have H9:=Ry R;have HN:=Ry O;have P:=Ry T;go_enter func100,ntmps100;go_wp2_with (first|(go_at_call 142;refine(pC _ r p l rest i a (by exact h.below (by go_grown)) C HA).mono ?_;rintro e B ⟨va,rfl,q,j,f⟩;obtain⟨W,cp,rfl⟩:=q.qy;have t:=(Rz.new w _ _).but f m;have S:=t.lt;have I:=j.lt;have g:B.heap.size≠r:=(by omega);have D:=((RD.refl r w).alloc _).trans f)|(go_at_call 144;refine(Nk _ r p l i.tail x C H HN P).mono ?_;rintro e w3 ⟨rfl,c⟩;have u:=k.but c m;have s:=o.but c g;clear F G y E;obtain⟨z,X⟩:=u.rules;obtain⟨U,aa⟩:=s.rules;have Q:=u.lt;have L:=s.lt;have V:=A.trans c)|(go_at_call 143;have K:=j;refine(kE _ r p l i 9 (by exact K.below (by go_grown)) C (by decide) H9).mono ?_;rintro e w2 ⟨rfl,x,b⟩;have n:=(RD.refl r B).alloc (Obj.cells #[.bool a.neg,.string a.pred,.slice W a.args.length cp] 90);obtain⟨c1,f1,d⟩:=j.cell;have Z:=q.but (n.trans b) d (by decide);have k:=(t.below zP).but b m;have o:=(Rz.new B _ _).but b g;obtain⟨F,G⟩:=k.rules;obtain⟨y,E⟩:=o.rules;have ab:=k.lt;have M:=o.lt;have J:=x.lt;have A:=D.trans (n.trans b);clear K n d))
 exact zO (v:=.tuple #[.agg #[.bool false,.string ByteArray.empty,ν,ν],.bool false]) (by simp[results,results100,go_sem,z];rfl) rfl ⟨(by repeat'(first|with_reducible(first|apply xR|assumption|apply xN|apply xA|apply xD|apply xS|apply xT)|go_size)),rfl⟩
def LK(w:World)(r:Nat)(A:Value)(l rest:List R8)(h:Rd w r A l rest)(G:l.length<=500)(o r2:List R8)(a:zk)(b:List zk)(Y:Nat)(ha:xo rest=some (a,o))(h9:RP o=9)(hn:o.tail.length<Y)(hb:xW Y o.tail=some (b,r2))(h7:RP r2≠7):
  Calls prog 100 #[(π r)] w λe w'=>nQ none w r A l e w':=by
 have ap:=h.lt;have n:w.heap.size≠r:=by omega
 have HA:=Ry ha;have H9:=Ry h9;have HN:=Ry hn;have HB:=Ry hb;have H7:=Ry h7;go_enter func100,ntmps100;go_wp2_with (first|(go_at_call 142;refine(pC _ r A l rest o a (by exact h.below (by go_grown)) G HA).mono ?_;rintro e N ⟨va,rfl,E,s,k⟩;obtain⟨ao,cp,rfl⟩:=E.qy;have F:=(Rz.new w _ _).but k n;have ar:=F.lt;have Z:=s.lt;have m:N.heap.size≠r:=(by omega);have X:=((RD.refl r w).alloc _).trans k)|(go_at_call 144;refine(Bj _ r A l o.tail r2 b x G Y HN HB).mono ?_;rintro e w3 ⟨vb,rfl,P,B,d⟩;obtain⟨am,ai,rfl⟩:=P.qy;obtain⟨c3,f3,j⟩:=x.cell;have V:=M.but d j (by decide);have u:=t.but d n;have y:=q.but d m;clear J O Q T;obtain⟨H,S⟩:=u.rules;obtain⟨R,U⟩:=y.rules;have ah:=u.lt;have af:=y.lt;have aa:=B.lt;have L:=K.trans d;clear j)|(go_at_call 143;have z:=B;refine(mM _ r A l r2 7 z G (by decide) H7).mono ?_;rintro e w4 ⟨rfl,I,f⟩;obtain⟨c7,f7,g⟩:=z.cell;have ag:=V.but f g (by decide);have C:=u.but f n;have D:=y.but f m;clear H S R U;obtain⟨W,au⟩:=C.rules;obtain⟨al,aj⟩:=D.rules;have aq:=C.lt;have ac:=D.lt;have ae:=I.lt;have ak:=L.trans f;clear z g)|(go_at_call 143;have z:=s;refine(kE _ r A l o 9 (by exact z.below (by go_grown)) G (by decide) H9).mono ?_;rintro e w2 ⟨rfl,x,c⟩;have p:=(RD.refl r N).alloc (Obj.cells #[.bool a.neg,.string a.pred,.slice ao a.args.length cp] 90);obtain⟨c1,f1,i⟩:=s.cell;have M:=E.but (p.trans c) i (by decide);have t:=(F.below zP).but c n;have q:=(Rz.new N _ _).but c m;obtain⟨J,O⟩:=t.rules;obtain⟨Q,T⟩:=q.rules;have an:=t.lt;have ab:=q.lt;have ad:=x.lt;have K:=X.trans (p.trans c);clear z p i))
 exact zO (v:=.tuple #[.agg #[.bool false,.string ByteArray.empty,ν,ν],.bool false]) (by simp[results,results100,go_sem,W];rfl) rfl ⟨(by repeat'(first|with_reducible(first|apply xR|assumption|apply xN|apply xA|apply xD|apply xS|apply xT)|go_size)),rfl⟩
def Kk(w:World)(r:Nat)(B:Value)(l rest:List R8)(h:Rd w r B l rest)(I:l.length<=500)(p r2:List R8)(a:zk)(b:List zk)(n0:Nat)(ha:xo rest=some (a,p))(h9:RP p=9)(hn:p.tail.length<n0)(hb:xW n0 p.tail=some (b,r2))(h7:RP r2=7):
  Calls prog 100 #[(π r)] w λe w'=>nQ (some (⟨a,b⟩,r2.tail)) w r B l e w':=by
 have ap:=h.lt;have o:w.heap.size≠r:=by omega
 have HA:=Ry ha;have H9:=Ry h9;have HN:=Ry hn;have HB:=Ry hb;have H7:=Ry h7;go_enter func100,ntmps100;go_wp2_with (first|(go_at_call 142;refine(pC _ r B l rest p a (by exact h.below (by go_grown)) I HA).mono ?_;rintro e Q ⟨va,rfl,G,t,k⟩;obtain⟨ao,cp,rfl⟩:=G.qy;have H:=(Rz.new w _ _).but k o;have ar:=H.lt;have ac:=t.lt;have m:Q.heap.size≠r:=(by omega);have ab:=((RD.refl r w).alloc _).trans k)|(go_at_call 144;refine(Bj _ r B l p.tail r2 b y I n0 HN HB).mono ?_;rintro e w3 ⟨vb,rfl,E,C,g⟩;obtain⟨V,M,rfl⟩:=E.qy;obtain⟨c3,f3,j⟩:=y.cell;have Z:=P.but g j (by decide);have x:=u.but g o;have z:=s.but g m;clear L R S W;obtain⟨K,U⟩:=x.rules;obtain⟨T,X⟩:=z.rules;have aj:=x.lt;have ai:=z.lt;have ad:=C.lt;have O:=N.trans g;clear j)|(go_at_call 143;have A:=C;refine(kE _ r B l r2 7 A I (by decide) H7).mono ?_;rintro e w4 ⟨rfl,D,c⟩;obtain⟨c7,f7,f⟩:=A.cell;have J:=Z.but c f (by decide);have Y:=E.but c f (by decide) (by decide);have n:=x.but c o;have F:=z.but c m;clear K U T X;obtain⟨aa,au⟩:=n.rules;obtain⟨am,ak⟩:=F.rules;have aq:=n.lt;have af:=F.lt;have ah:=D.lt;have al:=O.trans c;clear A f)|(go_at_call 143;have A:=t;refine(kE _ r B l p 9 (by exact A.below (by go_grown)) I (by decide) H9).mono ?_;rintro e w2 ⟨rfl,y,d⟩;have q:=(RD.refl r Q).alloc (Obj.cells #[.bool a.neg,.string a.pred,.slice ao a.args.length cp] 90);obtain⟨c1,f1,i⟩:=t.cell;have P:=G.but (q.trans d) i (by decide);have u:=(H.below zP).but d o;have s:=(Rz.new Q _ _).but d m;obtain⟨L,R⟩:=u.rules;obtain⟨S,W⟩:=s.rules;have an:=u.lt;have ae:=s.lt;have ag:=y.lt;have N:=ab.trans (q.trans d);clear A q i))
 exact zO (v:=.tuple #[.agg #[.bool a.neg,.string a.pred,.slice ao a.args.length cp,.slice V b.length M],.bool true]) (by simp[results,results100,go_sem,aa]) rfl ⟨(by repeat'(first|with_reducible(first|apply xR|assumption|apply xN|apply xA|apply xD|apply xS|apply xT)|go_size)),_,_,rfl,(J.low (by first|(simp;done)|omega)).but (r:=w.heap.size) (by repeat'(first|with_reducible(first|apply xR|assumption|apply xN|apply xA|apply xD|apply xS|apply xT)|go_size)) n (by decide),(Y.low (by first|(simp;done)|omega)).but (r:=w.heap.size) (by repeat'(first|with_reducible(first|apply xR|assumption|apply xN|apply xA|apply xD|apply xS|apply xT)|go_size)) n (by decide) (by decide),h.keep D (by go_grown)⟩
def FH(w:World)(r:Nat)(d:Value)(l rest:List R8)(h:Rd w r d l rest)(j:l.length<=500)(k:Nat)(q:rest.length<=k):
  Calls prog 100 #[(π r)] w λe s=>nQ (vl k rest) w r d l e s:=by
 unfold vl;split;rename_i c;exact IM w r d l rest h j c;rename_i a i c;have o:=tt c;split;rename_i g;have n:i.tail.length<k:=by simp;omega
 split;rename_i m;exact Nh w r d l rest h j i a k c g n m;rename_i b p m;split;rename_i f;exact Kk w r d l rest h j i p a b k c g n m f;rename_i f;exact LK w r d l rest h j i p a b k c g n m f;rename_i g;split;rename_i f;exact I8 w r d l rest h j i a c g f;rename_i f;exact K1 w r d l rest h j i a c g f
end
section
open Go.Proofs.Tryz Go.RowKit
variable {lo:Nat}{w:World}{v:Value}{r:List R8}{o:Option (List zd)}
def qq(lo:Nat)(w:World):List zd->List Value->Prop
 |[],a=>a=[]
 |c::e,a=>∃d b r,a=.bool c.head.neg::.string c.head.pred::d::b::r/\R7 lo w d c.head.args/\Sc lo w b c.body/\qq lo w e r
def qq.snoc{w:World}{c:zd}{a vb:Value}(hs:R7 lo w a c.head.args)(d:Sc lo w vb c.body):∀{b:List zd} {xs:List Value},qq lo w b xs->qq lo w (b++[c]) (xs++[.bool c.head.neg,.string c.head.pred,a,vb])
 |[],_,h=>by simp only[qq] at h;subst h;exact⟨a,vb,[],rfl,hs,d,rfl⟩
 |_::b,_,h=>by obtain⟨v,f,r,rfl,g,i,e⟩:=h;exact⟨v,f,r++[.bool c.head.neg,.string c.head.pred,a,vb],rfl,g,i,qq.snoc hs d e⟩
def qq.mono{w w':World}(d:∀b l,R7 lo w b l->R7 lo w' b l)(a:∀b l,Sc lo w b l->Sc lo w' b l):∀{c:List zd} {xs:List Value},qq lo w c xs->qq lo w' c xs
 |[],_,h=>h
 |_::c,_,h=>by obtain⟨v,f,r,rfl,g,i,e⟩:=h;exact⟨v,f,r,rfl,d _ _ g,a _ _ i,qq.mono d a e⟩
def qq.at{w:World}:∀{d:List zd} {xs:List Value} (i:Nat) (c:zd),qq lo w d xs->d[i]?=some c →
  ∃f e,xs[i*4]?=some (.bool c.head.neg)/\xs[i*4+1]?=some (.string c.head.pred)/\xs[i*4+2]?=some f/\xs[i*4+3]?=some e/\R7 lo w f c.head.args/\Sc lo w e c.body
 |[],_,i,a,_,b=>by simp at b
 |_::d,_,0,a,h,b=>by obtain⟨v,k,r,rfl,l,g,j⟩:=h;simp at b;subst b;exact⟨v,k,rfl,rfl,rfl,rfl,l,g⟩
 |_::d,_,i+1,a,h,b=>by
  obtain⟨v,k,r,rfl,l,g,j⟩:=h;obtain⟨f,e,p,q,n,m,s⟩:=qq.at i a j (by simpa using b);refine⟨f,e,?_,?_,?_,?_,s⟩
  .rw[show(i+1)*4=i*4+1+1+1+1 from by omega];simpa using p
  .rw[show(i+1)*4+1=i*4+1+1+1+1+1 from by omega];simpa using q
  .rw[show(i+1)*4+2=i*4+2+1+1+1+1 from by omega];simpa using n
  .rw[show(i+1)*4+3=i*4+3+1+1+1+1 from by omega];simpa using m
def Se(lo:Nat)(T:TypeId)(w:World)(v:Value)(a:List zd):Prop:=∃b,w.ownsRow lo T 4 v a.length b/\qq lo w a b
def qq.low{a b:Nat}{w:World}(c:a<=b):∀{d:List zd} {xs:List Value},qq b w d xs->qq a w d xs
 |[],_,h=>h
 |_::d,_,h=>by obtain⟨v,f,r,rfl,g,i,e⟩:=h;exact⟨v,f,r,rfl,g.low c,i.low c,qq.low c e⟩
def Se.low{a b:Nat}{T:TypeId}{w:World}{v:Value}{l:List zd}(h:Se b T w v l)(c:a<=b):Se a T w v l:=by obtain⟨e,h,d⟩:=h;exact⟨e,yk h c,d.low c⟩
def Se.qy{T:TypeId}{l:List zd}(h:Se lo T w v l):∃b a,v=.slice b l.length a:=by obtain⟨c,h,_⟩:=h;exact zq h
def Se.below{T:TypeId}{w w':World}{v:Value}{l:List zd}(h:Se lo T w v l)(a:μ w w'):Se lo T w' v l:=by
 obtain⟨c,h,b⟩:=h;exact⟨c,zB h a,b.mono (λ_ _ k=>k.below a) (λ_ _ k=>k.below a)⟩
def Sc.push{c j:World}{b:Nat}{e:TypeId}{s:Nat}{l:Value}{n:Nat}{xs:List Value}{g:List zk}(m:c.ownsRow b e s v n xs)(d:e≠90)(a:e≠9)(h:Sc lo c l g)
  (i:∀k,k<c.heap.size->some k≠v.ownBlock->j.heap[k]?=c.heap[k]?):Sc lo j l g:=by
 obtain⟨f,p,q⟩:=h;exact⟨f,gD m d p i,q.mono λ_ _ k=>gD m a k i⟩
def yO(a:Nat):Nat->List R8->Option (List zd)
 |_,[]=>some []
 |0,_::_=>none
 |m+1,x::r=>match vl a (x::r) with
  |none=>none
  |some (c,b)=>(yO a m b).map (c::·)
def tK{a m:Nat}(b:r≠[])(h:vl a r=none):yO a (m+1) r=none:=by
 rcases r with _|⟨x,r⟩;exact z9 rfl b;simp[yO,h]
def ry{a m:Nat}{r2:List R8}{c:zd}(b:r≠[])(h:vl a r=some (c,r2)):yO a (m+1) r=(yO a m r2).map (c::·):=by
 rcases r with _|⟨x,r⟩;exact z9 rfl b;simp[yO,h]
def Nf{n:Nat}:∀{r r2:List R8} {b:List zk},xW n r=some (b,r2)->r2.length<r.length:=by
 induction n with
 |zero=>intro r r2 b h;simp[xW] at h
 |succ n g=>
  intro r r2 b h;rcases c:uK r with _|z;rw[rS c] at h;cases h;obtain⟨a,f⟩:=z;have:=BB c;by_cases e:RP f=6;rw[pR c e] at h;rcases d:xW n f.tail with _|z;rw[d] at h;simp at h;rw[d] at h;simp at h;have:=g d;obtain⟨_,rfl⟩:=h;simp at this;omega;rw[py c e] at h;simp at h;obtain⟨_,rfl⟩:=h;omega
def Qi{n:Nat}{r2:List R8}{c:zd}(h:vl n r=some (c,r2)):r2.length<r.length:=by
 unfold vl at h;split at h;cases h;rename_i a g d;have:=tt d;split at h;split at h;cases h;rename_i b f e;have:=Nf e;split at h<;>simp at h
 obtain⟨_,rfl⟩:=h;simp at this ⊢;omega;split at h<;>simp at h
 obtain⟨_,rfl⟩:=h;simp;omega
def M8(w:World)(r:Nat)(c:Value)(l rest:List R8)(h:Rd w r c l rest)(i:l.length<=500)(b:Nat)(a:rest.length<=b)(j:vl b rest=none):
  Calls prog 100 #[(π r)] w λe f=>e=ε (.tuple #[.agg #[.bool false,.string ByteArray.empty,ν,ν],.bool false])/\RD r w f:=by
 refine(FH w r c l rest h i b a).mono ?_;rintro e f ⟨g,d⟩;rw[j] at d;exact⟨d,g⟩
def Ik(w:World)(r:Nat)(i:Value)(l rest r2:List R8)(c:zd)(h:Rd w r i l rest)(s:l.length<=500)(j:Nat)(g:rest.length<=j)(t:vl j rest=some (c,r2)):
  Calls prog 100 #[(π r)] w λe f=>∃m k,e=ε (.tuple #[.agg #[.bool c.head.neg,.string c.head.pred,m,k],.bool true])/\R7 w.heap.size f m c.head.args/\Sc w.heap.size f k c.body/\Rd f r i l r2/\RD r w f:=by
 refine(FH w r i l rest h s j g).mono ?_;rintro e f ⟨q,n⟩;rw[t] at n;obtain⟨v,p,a,b,c,d⟩:=n;exact⟨v,p,a,b,c,d,q⟩
def Rf:(prog.info? 171).map (λi=>(i.zero,i.size,i.bytes))=some (some (.agg #[.bool false,.string ByteArray.empty,ν,ν]),4,72):=by kernel_rfl
def iD(o:Option (List zd))(w:World)(e:Ending)(w':World):Prop:=
 μ w w'/\match o with
  |none=>e=ε (.tuple #[ν,.bool false])
  |some a=>∃v,e=ε (.tuple #[v,.bool true])/\Se w.heap.size 171 w' v a
def MM{w':World}(h:Hid (o=none))(b:μ w w'):iD o w (ε (.tuple #[ν,.bool false])) w':=by
 have a:o=none:=h;subst a;exact⟨b,rfl⟩
def Ky{w':World}{cs:List zd}(h:Hid (o=some cs))(b:μ w w')(hs:Se w.heap.size 171 w' v cs):iD o w (ε (.tuple #[v,.bool true])) w':=by
 have a:o=some cs:=h;subst a;exact⟨b,v,rfl,hs⟩
def SD(w:World)(wv:Value)(l:List R8)(A:Nat)(hw:w.ownsRow A 182 2 wv l.length (jP l))(hl:l.length<=500):
  Calls prog 60 #[wv] w λe w'=>iD (yO l.length l.length l) w e w':=by
 obtain⟨i0,hi,aj,af,ag⟩:=info_parts Rf;obtain⟨U,q,rfl⟩:=zq hw;have h0:Rd (w.alloc (.cells #[.slice U l.length q,ι 0] 185)) w.heap.size (.slice U l.length q) l l:=
  ⟨⟨0,zv _,rfl,Rz.new _ _ _⟩,A,zB hw zP⟩
 clear hw;go_enter func60,ntmps60;go_wp2;go_loopg [5] (l.length) (λn v wr=>∃(f:List zd) (b:List R8) (m:Nat) (Y:List Value),b.length<=n/\b.length<=m/\b.length+f.length<=l.length ∧
   wr.ownsRow (w.heap.size+1) 171 4 v f.length Y/\qq w.heap.size wr f Y/\Rd wr w.heap.size (.slice U l.length q) l b/\RD w.heap.size (w.alloc (.cells #[.slice U l.length q,ι 0] 185)) wr ∧
   Hid (yO l.length l.length l=(yO l.length m b).map (f++·)))
 case atStart=>exact⟨[],l,l.length,[],zf _,zf _,by simp,yW _ _ _ _,rfl,h0,RD.refl _ _,(by simp[Hid])⟩
 obtain⟨f,b,m,Y,hn,hm,aq,y,N,s,g,E⟩:=hrel;have J:w.heap.size<=wr.heap.size:=by have:=g.size;simp at this;omega
 obtain⟨c0,f0,d⟩:=s.cell;have ai:=Ry d;obtain⟨p,ar,al,hp,I,X,O,ap,aw,av,hx⟩:=s.view;clear X hx O;rcases b with _|⟨x,r0⟩
 .have G:p=l.length:=by
   have:=congrArg List.length I;simp at this;omega
  have R:Hid (yO l.length l.length l=some f):=by rw[Hid.out E];cases m<;>simp[yO,Hid]
  have L:=zP.trans (g.below (zf _) (by simp));subst G;clear I E d;go_wp2;go_ret2
  exact Ky R L ⟨_,yk y (by omega),N⟩
 have G:p<l.length:=by
  rcases dI p l.length with h|h;exact h;rw[ua h] at I;cases I
 clear I;have u:x::r0≠[]:=by simp
 obtain⟨m,rfl⟩:∃m',m=m'+1:=⟨m-1,by simp at hm;omega⟩;generalize x::r0=b at *;have HN:Hid (b.length<=l.length):=by unfold Hid;omega
 rcases C:vl l.length b with _|z
 .have HC:=Ry C;have R:Hid (yO l.length l.length l=none):=by rw[Hid.out E,tK u C];simp[Hid]
  clear C u E;go_wp2_with (go_at_call 100;refine(M8 _ w.heap.size _ l b s hl l.length HN HC).mono ?_;rintro e w1 ⟨rfl,a⟩;have j:=g.trans a;have S:=j.size;have D:=zP.trans (j.below (zf _) (by simp)))
  go_ret2
  have am:=D.size;exact MM R (by go_grown)
 obtain⟨c,T⟩:=z;have HC:=Ry C;have an:=Qi C;have R:Hid (yO l.length l.length l=(yO l.length m T).map ((f++[c])++·)):=by rw[Hid.out E,ry u C,rI];rfl
 clear C u E;go_wp2_with (first|(go_at_call 100;refine(Ik _ w.heap.size _ l b T c s hl l.length HN HC).mono ?_;rintro e w1 ⟨va,vb,rfl,Q,P,ae,a⟩;obtain⟨ad,V,rfl⟩:=Q.qy;obtain⟨au,ao,rfl⟩:=P.qy;have j:=g.trans a;have S:=j.size;have ah:=(by simpa using S);have i:=xF y a d (by decide);have K:=N.mono (λ_ _ k=>k.but a d (by decide)) (λ_ _ k=>k.but a d (by decide) (by decide)))|(at_builtin;refine kA w1 _ _ _ rfl (.tmp 22) (.tmp 24) 121 rfl (w.heap.size+1) 171 i0 _ 4 72 underlying121 hi aj af ag rfl (by decide) _ _ _ rfl i zP _ _ rfl (by simp) rfl (by simp[Value.oneCell']) (by omega) (by omega) ah ?_;intro v' w2 Z H W ab t ak;clear W ab;have F:=Rd.keep h0 ae (by simpa using H);have B:=j.onto (by simpa using H);have aa:R7 w.heap.size w2 (Value.slice ad c.head.args.length V) c.head.args:=yk (gD i (by decide) Q t) J;have ac:=(P.push i (by decide) (by decide) t).low J;have M:=K.mono (λ_ _ k=>gD i (by decide) k t) (λ_ _ k=>k.push i (by decide) (by decide) t)))
 go_roundg T.length
 case measure=>omega
 exact⟨f++[c],T,m,_,zf _,by omega,by simp;omega,by rw[yC];exact Z,M.snoc aa ac,F,B,R⟩
end
section
open Go.Proofs.Tryz Go.RowKit
variable {lo:Nat}{l:κ}
def fW(t:ByteArray)(w:World):
  Calls prog 156 #[.string t] w λe a=>e=ε (.bool (zQ t))/\a=w:=by
 unfold zQ;by_cases h:0<t.size
 .rw[qF h];go_enter func156,ntmps156;go_wp2
  all_goals go_ret
  all_goals go_light
  all_goals exact⟨by simp_all [vQ];try omega,rfl⟩
 rw[pq h];go_enter func156,ntmps156;go_wp2
 all_goals go_ret
 all_goals go_light
 all_goals exact⟨by simp_all [vQ],rfl⟩
def R7.cell{w:World}{b:Option Addr}{n cap:Nat}{vs:κ}(h:R7 lo w (.slice b n cap) vs)(k:Nat)(e:k<vs.length):∃g,b=some ⟨g,0,none⟩/\g<w.heap.size/\w.cell? ⟨g,k,none⟩=some (.string vs[k]):=by
 have i:=h;obtain⟨g,d,c,_,f,a⟩:=yw i (by omega);simp at c;exact⟨g,c.1,f,a k _ (by simp[e])⟩
def y5:κ->ByteArray->Option Nat
 |[],_=>none
 |y::r,n=>if y=n then some 0 else(y5 r n).map (·+1)
def fq(l:κ)(n:ByteArray):Int:=match y5 l n with
 |none=>-1
 |some k=>k
def fZ:∀{l:κ} {n:ByteArray} {k:Nat},y5 l n=some k->∃h:k<l.length,l[k]=n
 |[],_,_,h=>by simp[y5] at h
 |y::r,n,k,h=>by
  unfold y5 at h;split at h
  .simp at h;subst h;exact⟨by simp,by simpa⟩
  .cases a:y5 r n with
   |none=>rw[a] at h;simp at h
   |some j=>rw[a] at h;simp at h;subst h;obtain⟨c,b⟩:=fZ a;exact⟨by simpa using c,by simpa using b⟩
def oK{n:ByteArray}{k:Nat}(b:k<l.length)(a:l[k]≠n):y5 (l.drop k) n=(y5 (l.drop (k+1)) n).map (·+1):=by rw[xh b,y5,za a]
def il{n:ByteArray}{k:Nat}(b:k<l.length)(a:l[k]=n):y5 (l.drop k) n=some 0:=by rw[xh b,y5,zb a]
def ii:∀(l:κ) (n:ByteArray),(y5 l n).isSome=yu n l
 |[],n=>by rw[rE.2 (by simp)];rfl
 |y::r,n=>by
  unfold y5;by_cases e:y=n
  .rw[zb e,vH.2 (by simp[e])];rfl
  .rw[za e,Option.isSome_map,ii r n];cases h:yu n r with
   |true=>exact(vH.2 (pF _ (vH.1 h))).symm
   |false=>exact(rE.2 (by have:=rE.1 h;simp[this,Ne.symm e])).symm
def GQ(w:World)(vb:Nat)(f:Value)(vs:κ)(t:ByteArray)(c:Rz w vb #[f] 246)(hs:R7 lo w f vs)(s:vs.length<=1000):
  Calls prog 200 #[(π vb),.string t] w λe n=>e=ε (.tuple #[ι ((y5 vs t).getD 0:Nat),.bool (y5 vs t).isSome])/\n=w:=by
 obtain⟨u,p⟩:=c.rules;obtain⟨r,h,rfl⟩:=hs.qy;go_enter func200,ntmps200;go_wp2;go_loop [13] (λi=>∃k:Nat,k<=vs.length/\i=ι k/\Hid (y5 vs t=(y5 (vs.drop k) t).map (·+k))) (λi=>vs.length-(intOf i).toNat);exact⟨0,zv _,rfl,by simp[Hid]⟩;obtain⟨k,o,rfl,H⟩:=hrel;by_cases a:k<vs.length
 .obtain⟨g,rfl,q,m⟩:=hs.cell k a;by_cases d:vs[k]=t
  .have j:=jF d;have b:Hid (y5 vs t=some k):=by rw[Hid,H.out,il a d];simp
   go_wp2;go_ret2
   exact⟨by rw[b.out];rfl,rfl⟩
  have j:=qb d;have b:Hid (y5 vs t=(y5 (vs.drop (k+1)) t).map (·+(k+1))):=by
   rw[Hid,H.out,oK a d];cases y5 (vs.drop (k+1)) t<;>simp;omega
  go_wp2;go_round;exact⟨k+1,by omega,by go_num,b⟩;simp[intOf];omega
 have b:Hid (y5 vs t=none):=by rw[Hid,H.out,ua (by omega)];rfl
 go_wp2;go_ret2
 exact⟨by rw[b.out];rfl,rfl⟩
def wZ(w:World)(vb:Nat)(b:Value)(vs:κ)(t:ByteArray)(a:Rz w vb #[b] 246)(hs:R7 lo w b vs)(f:vs.length<=1000):
  Calls prog 183 #[(π vb),.string t] w λe d=>e=ε (.bool (yu t vs))/\d=w:=by
 rw[←ii vs t];have c:=Ry (GQ w vb b vs t a hs f);generalize y5 vs t=o at *;go_enter func183,ntmps183;go_wp2_with (go_at_call 200;refine c.out.mono ?_;rintro e d ⟨rfl,rfl⟩;clear c)
 go_ret;exact⟨rfl,rfl⟩
end
section
open Go.Proofs.Tryz Go.RowKit
variable {lo:Nat}{w:World}{c:Array Value}{vs:κ}{t:ByteArray}
def Rz.set{b:Nat}{T:TypeId}(h:Rz w b c T)(o:Nat)(u:Value):Rz (w.setCell ⟨b,o,none⟩ u) b (c.setIfInBounds o u) T:=by
 unfold Rz at *;simp[World.setCell,Array.getElem?_modify,h]
def Rz.set_ne{b b':Nat}{T:TypeId}(h:Rz w b c T)(a:b≠b')(o:Nat)(u:Value):Rz (w.setCell ⟨b',o,none⟩ u) b c T:=by
 unfold Rz at *;rw[Below.heap_setCell _ _ _ _ a];exact h
def Rz.push{d o:World}{b:Nat}{e T:TypeId}{s:Nat}{v:Value}{n l:Nat}{xs:List Value}(u:d.ownsRow b e s v n xs)(g:e≠T)(h:Rz d l c T)
  (r:∀k,k<d.heap.size->some k≠v.ownBlock->o.heap[k]?=d.heap[k]?):Rz o l c T:=by
 have i:=h.lt;unfold Rz at *;rw[r l i ?_];exact h;intro j;obtain⟨_,⟨m,_⟩|⟨x,p,q,f,_,a,_⟩⟩:=u;subst m;cases j;subst f;simp only[Value.ownBlock,zr] at j;subst j;rw[h] at a;simp at a;exact g a.2.symm
structure l7 (vb:Nat) (w w':World):Prop where
 size:w.heap.size<=w'.heap.size
 box:∀b c T,b≠vb->T≠9->Rz w b c T->Rz w' b c T
def l7.trans{vb:Nat}{a b c:World}(h:l7 vb a b)(k:l7 vb b c):l7 vb a c:=⟨zZ h.size k.size,λx y z e d f=>k.box x y z e d (h.box x y z e d f)⟩
def l7.of{vb:Nat}{w':World}(h:μ w w'):l7 vb w w':=⟨h.size,λ_ _ _ _ _ k=>k.below h⟩
def VA(B:Nat)(w:World)(vb:Nat)(vs:κ):Prop:=∃a,Rz w vb #[a] 246/\w.ownsRow B 9 1 a vs.length (vs.map Value.string)
def VA.below{B:Nat}{w w':World}{vb:Nat}{vs:κ}(h:VA B w vb vs)(a:μ w w'):VA B w' vb vs:=by
 obtain⟨d,e,b⟩:=h;exact⟨d,e.below a,zB b a⟩
def CK(vs args:κ)(k:Nat)(a:k<args.length):xz vs (args.take (k+1))=j5 (xz vs (args.take k)) args[k]:=by
 unfold xz;rw[yP a,jr];rfl
def B8(b:zQ t=true)(a:yu t vs=false):j5 vs t=vs++[t]:=by simp[j5,b,a]
def DU(a:zQ t=false):j5 vs t=vs:=by simp[j5,a]
def EK(a:yu t vs=true):j5 vs t=vs:=by simp[j5,a]
def SK(d w:World)(vb:Nat)(vs args:κ)(neg:Bool)(q:ByteArray)(S:Value)(W:μ d w)(hs:R7 lo d S args)(Q:VA d.heap.size w vb vs)(K:d.heap.size<=vb)(hl:vs.length+args.length<=1000):
  Calls prog 182 #[(π vb),.agg #[.bool neg,.string q,S]] w λe n=>e=ε (.tuple #[])/\VA d.heap.size n vb (xz vs args)/\μ d n/\l7 vb w n:=by
 obtain⟨i0,hi,N,L,H⟩:=info_parts QN;obtain⟨ao,M,rfl⟩:=hs.qy;have Y:=W.size;go_enter func182,ntmps182;go_wp2;go_loopw [9] (λi wr=>∃k:Nat,k<=args.length/\i=ι k/\VA d.heap.size wr vb (xz vs (args.take k))/\μ d wr/\l7 vb w wr) (λi _=>args.length-(intOf i).toNat);have J:=(zp w.heap.size w).alloc (zf _) (.cells #[.bool neg,.string q,.slice ao args.length M] 90);exact⟨0,zv _,rfl,Q.below J,R5 W J,l7.of J⟩;obtain⟨k,hk,rfl,o,f,p⟩:=hrel;by_cases E:k<args.length
 .obtain⟨g,rfl,hg,ad⟩:=(hs.below f).cell k E;have v:=CK vs args k E;have D:=nk (args.take k) vs;have z:(args.take k).length=k:=by simp;omega
  rw[z] at D;clear z;generalize args[k]=t at *;generalize xz vs (args.take k)=m at *;have u:=Ry v;clear v;cases X:zQ t
  .have r:xz vs (args.take (k+1))=m:=by rw[u.out,DU X]
   have A:=Ry r;clear r u;go_wp2_with (go_at_call 156;refine(fW _ _).mono ?_;rintro e n ⟨rfl,rfl⟩)
   go_roundw;exact⟨k+1,by omega,by go_num,by rw[A.out];exact o,f,p⟩;simp[intOf];omega
  obtain⟨nv,l,a⟩:=o;obtain⟨ac,V,rfl⟩:=zq a;obtain⟨hc,hf⟩:=l.rules;cases R:yu t m
  .have r:xz vs (args.take (k+1))=m++[t]:=by rw[u.out,B8 X R]
   have A:=Ry r;clear r u;go_wp2_with (first|(go_at_call 156;refine(fW _ _).mono ?_;rintro e n ⟨rfl,rfl⟩)|(go_at_call 183;refine(wZ _ vb _ m t l a (by omega)).mono ?_;rintro e n ⟨rfl,rfl⟩)|(at_builtin;refine kA _ _ _ _ rfl (.tmp 25) (.tmp 27) 30 rfl d.heap.size 9 i0 _ 1 16 underlying30 hi N L H rfl (by decide) _ _ _ rfl a (zp _ _) _ _ rfl (by simp) rfl (by simp[Value.oneCell']) (by omega) (by omega) f.size ?_;intro v' F y I O P C B;clear O P;obtain⟨s,h,rfl⟩:=zq y;have j:=Rz.push a (by decide) l C;obtain⟨aa,ab⟩:=j.rules))
   have G:l7 vb n (F.setCell ⟨vb,0,none⟩ (.slice s (m.length+1) h)):=⟨by simp[World.setCell];exact B,λb c T h1 Z h3=>(Rz.push a (Ne.symm Z) h3 C).set_ne h1 _ _⟩;have x:VA d.heap.size (F.setCell ⟨vb,0,none⟩ (.slice s (m.length+1) h)) vb (m++[t]):=⟨_,j.set 0 _,by
    have:=xF y ((RD.refl vb F).setCell 0 (.slice s (m.length+1) h)) j (by decide);simpa using this⟩
   go_roundw;exact⟨k+1,by omega,by go_num,by rw[A.out];exact x,(f.trans I).setCell K _,p.trans G⟩;simp[intOf];omega
  have r:xz vs (args.take (k+1))=m:=by rw[u.out,EK R]
  have A:=Ry r;clear r u;go_wp2_with (first|(go_at_call 156;refine(fW _ _).mono ?_;rintro e n ⟨rfl,rfl⟩)|(go_at_call 183;refine(wZ _ vb _ m t l a (by omega)).mono ?_;rintro e n ⟨rfl,rfl⟩))
  go_roundw;exact⟨k+1,by omega,by go_num,by rw[A.out];exact⟨_,l,a⟩,f,p⟩;simp[intOf];omega
 have U:args.take k=args:=xk (by omega);rw[U] at o;clear U;go_wp2;go_end0
 exact⟨rfl,o,f,p⟩
end
section
open Go.Proofs.Tryz Go.RowKit
variable {lo:Nat}
def Sc.cell{w:World}{f:Option Addr}{n cap:Nat}{c:List zk}(h:Sc lo w (.slice f n cap) c)(k:Nat)(l:k<c.length):∃g b a,f=some ⟨g,0,none⟩/\g<w.heap.size ∧
  w.cell? ⟨g,k*3,none⟩=some (.bool c[k].neg)/\w.cell? ⟨g,k*3+1,none⟩=some (.string c[k].pred)/\w.cell? ⟨g,k*3+2,none⟩=some (.slice b c[k].args.length a)/\R7 lo w (.slice b c[k].args.length a) c[k].args:=by
 obtain⟨t,r,s⟩:=h;obtain⟨g,j,i,_,p,d⟩:=yw r (by omega);simp at i;obtain⟨u,m,q,o,e⟩:=s.at k c[k] (by simp[l]);obtain⟨b,a,rfl⟩:=e.qy;exact⟨g,b,a,i.1,p,d _ _ m,d _ _ q,d _ _ o,e⟩
def kI(vs:κ)(l:zk):κ:=xz vs l.args
def vS(vs:κ)(l:zk):κ:=if l.neg then vs else xz vs l.args
def ud(c:zd):κ:=c.body.foldl kI (xz [] c.head.args)
def zx(c:zd):κ:=c.body.foldl vS []
def xg(a:List zk):Nat:=a.foldr (λl n=>l.args.length+n) 0
def rN(b:List zk):∀k,k<b.length->xg (b.take k)+(b[k]?.map (·.args.length)).getD 0<=xg b:=by
 induction b with
 |nil=>intro k h;simp at h
 |cons a b c=>
  intro k h;rcases k with _|k;simp[xg];have:=c k (by simpa using h);simp[xg] at this ⊢;omega
def LL(c:List zk)(a:zk):xg (c++[a])=xg c+a.args.length:=by
 induction c with
 |nil=>simp[xg]
 |cons b c d=>simp[xg] at d ⊢;omega
def Dm(b:List zk):∀vs:κ,(b.foldl kI vs).length<=vs.length+xg b:=by
 induction b with
 |nil=>intro vs;simp[xg]
 |cons a b c=>intro vs;have:=c (kI vs a);have:=nk a.args vs;simp[xg,kI] at *;omega
def th(b:List zk):∀vs:κ,(b.foldl vS vs).length<=vs.length+xg b:=by
 induction b with
 |nil=>intro vs;simp[xg]
 |cons a b c=>
  intro vs;have e:=c (vS vs a);have f:=nk a.args vs;have d:(vS vs a).length<=vs.length+a.args.length:=by unfold vS;split<;>omega
  simp[xg] at *;omega
def M3(w:World)(c:zd)(O vb:Value)(hs:R7 lo w O c.head.args)(P:Sc lo w vb c.body)(hl:c.head.args.length+xg c.body<=1000)(ae:c.body.length<=1000):
  Calls prog 145 #[.agg #[.bool c.head.neg,.string c.head.pred,O,vb]] w λe Q=>∃L,e=ε (.agg #[L])/\Q.ownsRow w.heap.size 9 1 L (ud c).length ((ud c).map Value.string)/\μ w Q:=by
 obtain⟨r,f,rfl⟩:=hs.qy;obtain⟨h,b,rfl⟩:=P.qy;have K:μ w (((w.alloc (.cells #[.bool c.head.neg,.string c.head.pred,.slice r c.head.args.length f,.slice h c.body.length b] 171)).alloc (.cells #[ν] 246)).alloc (.cells #[ν] 246)):=(by go_grown);have E:VA w.heap.size (((w.alloc (.cells #[.bool c.head.neg,.string c.head.pred,.slice r c.head.args.length f,.slice h c.body.length b] 171)).alloc (.cells #[ν] 246)).alloc (.cells #[ν] 246)) (w.heap.size+2) []:=⟨_,by have:=Rz.new ((w.alloc (.cells #[.bool c.head.neg,.string c.head.pred,.slice r c.head.args.length f,.slice h c.body.length b] 171)).alloc (.cells #[ν] 246)) #[ν] 246;simpa using this,yW _ _ _ _⟩;have x:Rz (((w.alloc (.cells #[.bool c.head.neg,.string c.head.pred,.slice r c.head.args.length f,.slice h c.body.length b] 171)).alloc (.cells #[ν] 246)).alloc (.cells #[ν] 246)) (w.heap.size+1) #[ν] 246:=by have:=(Rz.new (w.alloc (.cells #[.bool c.head.neg,.string c.head.pred,.slice r c.head.args.length f,.slice h c.body.length b] 171)) #[ν] 246).below ((zp _ _).alloc (zf _) (.cells #[ν] 246));simpa using this
 have z:Rz (((w.alloc (.cells #[.bool c.head.neg,.string c.head.pred,.slice r c.head.args.length f,.slice h c.body.length b] 171)).alloc (.cells #[ν] 246)).alloc (.cells #[ν] 246)) w.heap.size #[.bool c.head.neg,.string c.head.pred,.slice r c.head.args.length f,.slice h c.body.length b] 171:=((Rz.new w _ _).below zP).below zP;go_enter func145,ntmps145;go_wp2_with (go_at_call 182;refine(SK w _ (w.heap.size+2) [] c.head.args _ _ _ (by exact K) hs (by exact E) (by omega) (by simp;omega)).mono ?_;rintro e w1 ⟨rfl,j,s,l⟩;have d:=l.box _ _ _ (by omega) (by decide) x;have y:=l.box _ _ _ (by omega) (by decide) z;obtain⟨W,ab,U⟩:=y.boxed)
 go_loopw [12] (λi wr=>∃k:Nat,k<=c.body.length/\i=ι k/\VA w.heap.size wr (w.heap.size+2) ((c.body.take k).foldl kI (xz [] c.head.args))/\μ w wr/\Rz wr (w.heap.size+1) #[ν] 246) (λi _=>c.body.length-(intOf i).toNat);exact⟨0,zv _,rfl,j,s,d⟩;obtain⟨k,hk,rfl,t,m,u⟩:=hrel;have S:=m.size;by_cases o:k<c.body.length
 .obtain⟨g,Z,R,rfl,I,F,A,n,M⟩:=P.cell k o;have V:=zl m I F;have aa:=zl m I A;have X:=zl m I n;have ad:g<wr.heap.size:=by omega
  have T:=Dm (c.body.take k) (xz [] c.head.args);have D:=rN c.body k o;have H:=nk c.head.args [];have C:(c.body.take (k+1)).foldl kI (xz [] c.head.args)=kI ((c.body.take k).foldl kI (xz [] c.head.args)) c.body[k]:=by rw[yP o,jr];rfl
  rw[yi o] at D;simp only[jC,uL] at D;clear F A n;generalize c.body[k]=a at *;generalize (c.body.take k).foldl kI (xz [] c.head.args)=vk at *;have HS:=Ry C;clear C;go_wp2_with (go_at_call 182;refine(SK w _ (w.heap.size+2) vk a.args _ _ _ (by exact(by go_grown)) M (by exact t.below (by go_grown)) (by omega) (by simp at *;omega)).mono ?_;rintro e w1 ⟨rfl,j,s,l⟩;have d:=l.box _ _ _ (by omega) (by decide) (u.below (by go_grown)))
  go_roundw;exact⟨k+1,by omega,by go_num,by rw[HS.out];exact j,s,d⟩;simp[intOf];omega
 have N:c.body.take k=c.body:=xk (by omega);rw[N] at t;obtain⟨L,G,q⟩:=t;obtain⟨B,p,rfl⟩:=zq q;obtain⟨hc,hf⟩:=G.rules;obtain⟨n,ac⟩:=u.rules;have Y:=G.lt;clear N;go_wp2;have J:=xF q ((RD.refl (w.heap.size+1) wr).setCell 0 (.slice B (c.body.foldl kI (xz [] c.head.args)).length p)) u (by decide);exact zO (v:=.agg #[.slice B (c.body.foldl kI (xz [] c.head.args)).length p]) (by simp[results,results145,go_sem,n]) rfl ⟨_,rfl,J,(by go_grown)⟩
def ou(w:World)(c:zd)(S vb:Value)(hs:R7 lo w S c.head.args)(T:Sc lo w vb c.body)(hl:c.head.args.length+xg c.body<=1000)(ae:c.body.length<=1000):
  Calls prog 148 #[.agg #[.bool c.head.neg,.string c.head.pred,S,vb]] w λe U=>∃N,e=ε (.agg #[N])/\U.ownsRow w.heap.size 9 1 N (zx c).length ((zx c).map Value.string)/\μ w U:=by
 obtain⟨r,d,rfl⟩:=hs.qy;obtain⟨f,b,rfl⟩:=T.qy;have J:μ w (((w.alloc (.cells #[.bool c.head.neg,.string c.head.pred,.slice r c.head.args.length d,.slice f c.body.length b] 171)).alloc (.cells #[ν] 246)).alloc (.cells #[ν] 246)):=(by go_grown);have B:VA w.heap.size (((w.alloc (.cells #[.bool c.head.neg,.string c.head.pred,.slice r c.head.args.length d,.slice f c.body.length b] 171)).alloc (.cells #[ν] 246)).alloc (.cells #[ν] 246)) (w.heap.size+2) []:=⟨_,by have:=Rz.new ((w.alloc (.cells #[.bool c.head.neg,.string c.head.pred,.slice r c.head.args.length d,.slice f c.body.length b] 171)).alloc (.cells #[ν] 246)) #[ν] 246;simpa using this,yW _ _ _ _⟩;have s:Rz (((w.alloc (.cells #[.bool c.head.neg,.string c.head.pred,.slice r c.head.args.length d,.slice f c.body.length b] 171)).alloc (.cells #[ν] 246)).alloc (.cells #[ν] 246)) (w.heap.size+1) #[ν] 246:=by have:=(Rz.new (w.alloc (.cells #[.bool c.head.neg,.string c.head.pred,.slice r c.head.args.length d,.slice f c.body.length b] 171)) #[ν] 246).below ((zp _ _).alloc (zf _) (.cells #[ν] 246));simpa using this
 have Q:Rz (((w.alloc (.cells #[.bool c.head.neg,.string c.head.pred,.slice r c.head.args.length d,.slice f c.body.length b] 171)).alloc (.cells #[ν] 246)).alloc (.cells #[ν] 246)) w.heap.size #[.bool c.head.neg,.string c.head.pred,.slice r c.head.args.length d,.slice f c.body.length b] 171:=((Rz.new w _ _).below zP).below zP;go_enter func148,ntmps148;go_wp2;go_loopw [9] (λi wr=>∃k:Nat,k<=c.body.length/\i=ι k/\VA w.heap.size wr (w.heap.size+2) ((c.body.take k).foldl vS [])/\μ w wr/\Rz wr (w.heap.size+1) #[ν] 246) (λi _=>c.body.length-(intOf i).toNat);exact⟨0,zv _,rfl,B,J,s⟩;obtain⟨k,hk,rfl,h,j,n⟩:=hrel;have W:=j.size;by_cases m:k<c.body.length
 .obtain⟨g,aa,V,rfl,H,D,x,l,O⟩:=T.cell k m;have u:=zl j H D;have ab:=zl j H x;have Y:=zl j H l;have ad:g<wr.heap.size:=by omega
  have X:=th (c.body.take k) [];have A:=rN c.body k m;have G:True:=trivial;have z:(c.body.take (k+1)).foldl vS []=vS ((c.body.take k).foldl vS []) c.body[k]:=by rw[yP m,jr];rfl
  rw[yi m] at A;simp only[jC,uL] at A;clear D x l;generalize c.body[k]=a at *;generalize (c.body.take k).foldl vS []=P at *;have F:=Ry z;clear z;cases t:a.neg
  .rw[t] at u;have K:Hid ((c.body.take (k+1)).foldl vS []=xz P a.args):=by rw[Hid,F.out,vS,t];rfl
   clear F t;go_wp2_with (go_at_call 182;refine(SK w _ (w.heap.size+2) P a.args _ _ _ (by exact(by go_grown)) O (by exact h.below (by go_grown)) (by omega) (by simp at *;omega)).mono ?_;rintro e w1 ⟨rfl,C,L,M⟩;have q:=M.box _ _ _ (by omega) (by decide) (n.below (by go_grown)))
   go_roundw;exact⟨k+1,by omega,by go_num,by rw[K.out];exact C,L,q⟩;simp[intOf];omega
  rw[t] at u;have K:Hid ((c.body.take (k+1)).foldl vS []=P):=by rw[Hid,F.out,vS,t,zb rfl]
  clear F t;go_wp2;go_roundw;exact⟨k+1,by omega,by go_num,by rw[K.out];exact h.below (by go_grown),(by go_grown),n.below (by go_grown)⟩;simp[intOf];omega
 have R:c.body.take k=c.body:=xk (by omega);rw[R] at h;obtain⟨N,E,p⟩:=h;obtain⟨y,o,rfl⟩:=zq p;obtain⟨hc,hf⟩:=E.rules;obtain⟨l,ac⟩:=n.rules;have Z:=E.lt;clear R;go_wp2;have I:=xF p ((RD.refl (w.heap.size+1) wr).setCell 0 (.slice y (c.body.foldl vS []).length o)) n (by decide);exact zO (v:=.agg #[.slice y (c.body.foldl vS []).length o]) (by simp[results,results148,go_sem,l]) rfl ⟨_,rfl,I,(by go_grown)⟩
def Tg(w:World)(vb:Nat)(b:Value)(vs:κ)(a:Rz w vb #[b] 246)(hs:R7 lo w b vs):
  Calls prog 146 #[(π vb)] w λe d=>e=ε (ι vs.length)/\d=w:=by
 obtain⟨h,f⟩:=a.rules;obtain⟨g,c,rfl⟩:=hs.qy;go_enter func146,ntmps146;go_wp2;go_ret;exact⟨rfl,rfl⟩
def qH(vs args:κ):Bool:=args.all λt=>!zQ t||yu t vs
def o5{α:Type}(l:List α)(p:α->Bool)(k:Nat)(a:k<l.length):(l.drop k).all p=(p l[k]&&(l.drop (k+1)).all p):=by rw[xh a,List.all_cons]
def eQ{α:Type}(l:List α)(p:α->Bool)(k:Nat)(a:k<l.length):(l.drop k).any p=(p l[k]||(l.drop (k+1)).any p):=by rw[xh a,List.any_cons]
def wY(w:World)(vb:Nat)(v:Value)(vs args:κ)(neg:Bool)(c:ByteArray)(r:Value)(l:Rz w vb #[v] 246)(z:R7 lo w v vs){n:Nat}(hs:R7 n w r args)(s:vs.length<=1000)(B:args.length<=1000):
  Calls prog 149 #[(π vb),.agg #[.bool neg,.string c,r]] w λe f=>e=ε (.bool (qH vs args))/\μ w f:=by
 obtain⟨y,o,rfl⟩:=hs.qy;have b:=(zp w.heap.size w).alloc (zf _) (.cells #[.bool neg,.string c,.slice y args.length o] 90);have a:=l.below b;have h:=z.below b;go_enter func149,ntmps149;go_wp2;go_loop [10] (λi=>∃k:Nat,k<=args.length/\i=ι k/\Hid (qH vs args=(args.drop k).all λt=>!zQ t||yu t vs)) (λi=>args.length-(intOf i).toNat);exact⟨0,zv _,rfl,rfl⟩;obtain⟨k,C,rfl,H⟩:=hrel;by_cases j:k<args.length
 .obtain⟨g,rfl,D,A⟩:=hs.cell k j;have m:=o5 args (λt=>!zQ t||yu t vs) k j;generalize args[k]=x at *;have p:Hid (qH vs args=((!zQ x||yu x vs)&&(args.drop (k+1)).all λt=>!zQ t||yu t vs)):=by rw[Hid,H.out,m]
  cases u:zQ x
  .have d:Hid (qH vs args=(args.drop (k+1)).all λt=>!zQ t||yu t vs):=by rw[Hid,p.out,u];rfl
   go_wp2_with (go_at_call 156;refine(fW _ _).mono ?_;rintro e f ⟨rfl,rfl⟩)
   go_round;exact⟨k+1,by omega,by go_num,d⟩;simp[intOf];omega
  cases q:yu x vs
  .have d:Hid (qH vs args=false):=by rw[Hid,p.out,q,u];rfl
   go_wp2_with (first|(go_at_call 156;refine(fW _ _).mono ?_;rintro e f ⟨rfl,rfl⟩)|(go_at_call 183;refine(wZ _ vb _ vs x a h s).mono ?_;rintro e f ⟨rfl,rfl⟩))
   go_ret;exact⟨by rw[d.out];rfl,b⟩
  have d:Hid (qH vs args=(args.drop (k+1)).all λt=>!zQ t||yu t vs):=by rw[Hid,p.out,q];simp
  go_wp2_with (first|(go_at_call 156;refine(fW _ _).mono ?_;rintro e f ⟨rfl,rfl⟩)|(go_at_call 183;refine(wZ _ vb _ vs x a h s).mono ?_;rintro e f ⟨rfl,rfl⟩))
  go_round;exact⟨k+1,by omega,by go_num,d⟩;simp[intOf];omega
 have d:Hid (qH vs args=true):=by rw[Hid,H.out,ua (by omega)];rfl
 go_wp2;go_ret;exact⟨by rw[d.out];rfl,b⟩
def yM(c:zd):Bool:=decide (3<c.head.args.length)||decide (6<c.body.length)||c.body.any (λl=>decide (3<l.args.length))||decide (5<(ud c).length)
def xt(c:zd):Bool:=qH (zx c) c.head.args&&c.body.all λl=>!l.neg||qH (zx c) l.args
def Gk(w:World)(c:zd)(A vb:Value)(hs:R7 lo w A c.head.args)(z:Sc lo w vb c.body)(hl:c.head.args.length+xg c.body<=1000)(K:c.body.length<=1000):
  Calls prog 101 #[.agg #[.bool c.head.neg,.string c.head.pred,A,vb]] w λe Y=>e=ε (.bool (yM c))/\μ w Y:=by
 have d:=λW B I=>M3 (lo:=lo) W c A vb B I hl K;obtain⟨X,C,rfl⟩:=hs.qy;obtain⟨E,u,rfl⟩:=z.qy;have p:=Ry d;clear d;by_cases f:3<c.head.args.length∨6<c.body.length
 .have j:Hid (yM c=true):=by unfold Hid yM;rcases f with f|f<;>simp[f]
  go_enter func101,ntmps101;rcases f with f|f
  .go_wp2;go_ret;exact⟨by rw[j.out];rfl,(by go_grown)⟩
  by_cases Q:3<c.head.args.length
  all_goals
   go_wp2;go_ret;exact⟨by rw[j.out];rfl,(by go_grown)⟩
 have Q:¬3<c.head.args.length:=by omega
 have U:¬6<c.body.length:=by omega
 have j:Hid (yM c=(c.body.any (λl=>decide (3<l.args.length))||decide (5<(ud c).length))):=by unfold Hid yM;simp[Q,U]
 clear f;go_enter func101,ntmps101;go_wp2;go_loopw [20] (λi wr=>∃k:Nat,k<=c.body.length/\i=ι k/\μ w wr/\Rz wr w.heap.size #[.bool c.head.neg,.string c.head.pred,.slice X c.head.args.length C,.slice E c.body.length u] 171/\Hid (yM c=((c.body.drop k).any (λl=>decide (3<l.args.length))||decide (5<(ud c).length)))) (λi _=>c.body.length-(intOf i).toNat);exact⟨0,zv _,rfl,(by go_grown),Rz.new _ _ _,j⟩;obtain⟨k,hk,rfl,b,t,H⟩:=hrel;have P:=b.size;by_cases r:k<c.body.length
 .obtain⟨g,Z,N,rfl,x,s,m,q,J⟩:=z.cell k r;have R:=zl b x s;have aa:=zl b x m;have T:=zl b x q;have ab:g<wr.heap.size:=by omega
  have n:=eQ c.body (λl=>decide (3<l.args.length)) k r;clear s m q J;generalize c.body[k]=a at *;have v:Hid (yM c=(decide (3<a.args.length)||(c.body.drop (k+1)).any (λl=>decide (3<l.args.length))||decide (5<(ud c).length))):=by rw[Hid,H.out,n]
  clear n H j;by_cases O:3<a.args.length
  .have o:Hid (yM c=true):=by rw[Hid,v.out];simp[O]
   clear v;go_wp2;go_ret;exact⟨by rw[o.out];rfl,(by go_grown)⟩
  have o:Hid (yM c=((c.body.drop (k+1)).any (λl=>decide (3<l.args.length))||decide (5<(ud c).length))):=by rw[Hid,v.out];simp[O]
  clear v;go_wp2;go_roundw;exact⟨k+1,by omega,by go_num,(by go_grown),t.below (by go_grown),o⟩;simp[intOf];omega
 have o:Hid (yM c=decide (5<(ud c).length)):=by rw[Hid,H.out,ua (by omega)];simp
 have F:=hs.below b;have y:=z.below b;obtain⟨hc,hf,M⟩:=t.boxed;clear H j;go_wp2_with (first|(go_at_call 145;refine(p.out _ F y).mono ?_;rintro e w1 ⟨nv,rfl,h,D⟩;obtain⟨S,L,rfl⟩:=zq h;have G:=R5 b D;have V:=G.size)|(go_at_call 146;refine(Tg _ _ _ (ud c) (by exact Rz.new _ _ _) (by exact zB h (by go_grown))).mono ?_;rintro e w2 ⟨rfl,rfl⟩))
 go_ret;exact⟨by rw[o.out];simp;omega,(by go_grown)⟩
def Dl(w:World)(c:zd)(Z vb:Value)(hs:R7 lo w Z c.head.args)(U:Sc lo w vb c.body)(hl:c.head.args.length+xg c.body<=1000)(ad:c.body.length<=1000):
  Calls prog 103 #[.agg #[.bool c.head.neg,.string c.head.pred,Z,vb]] w λe w'=>e=ε (.bool (xt c))/\μ w w':=by
 have v:=λW aa ac=>ou (lo:=lo) W c Z vb aa ac hl ad;obtain⟨ao,ak,rfl⟩:=hs.qy;obtain⟨al,ah,rfl⟩:=U.qy;have x:=Ry v;clear v;have s:(zx c).length<=1000:=by have:=th c.body [];unfold zx;simp at this;omega
 have n:∀k (T:k<c.body.length),c.body[k].args.length<=1000:=λk T=>by
  have:=rN c.body k T;rw[yi T] at this;simp at this;omega
 have F:=Ry n;clear n;cases hH:qH (zx c) c.head.args
 .have P:Hid (xt c=false):=by unfold Hid xt;simp[hH]
  go_enter func103,ntmps103;go_wp2_with (first|(go_at_call 148;refine(x.out _ (by exact hs.below (by go_grown)) (by exact U.below (by go_grown))).mono ?_;rintro e w1 ⟨nv,rfl,b,p⟩;obtain⟨A,m,rfl⟩:=zq b;have h:=R5 zP p;have C:=h.size;have j:=(Rz.new w _ _).below p;obtain⟨X,Y,L⟩:=j.boxed)|(go_at_call 149;refine(wY _ _ _ (zx c) c.head.args _ _ _ (by exact Rz.new _ _ _) (by exact zB b (by go_grown)) (by exact(hs.below h).below (by go_grown)) s (by omega)).mono ?_;rintro e w2 ⟨rfl,f⟩;have D:=R5 (h.alloc C _) f))
  go_ret;exact⟨by rw[P.out];rfl,D⟩
 have P:Hid (xt c=c.body.all λl=>!l.neg||qH (zx c) l.args):=by unfold Hid xt;simp[hH]
 go_enter func103,ntmps103;go_wp2_with (first|(go_at_call 148;refine(x.out _ (by exact hs.below (by go_grown)) (by exact U.below (by go_grown))).mono ?_;rintro e w1 ⟨nv,rfl,b,p⟩;obtain⟨A,m,rfl⟩:=zq b;have h:=R5 zP p;have C:=h.size;have j:=(Rz.new w _ _).below p;obtain⟨X,Y,L⟩:=j.boxed)|(go_at_call 149;refine(wY _ _ _ (zx c) c.head.args _ _ _ (by exact Rz.new _ _ _) (by exact zB b (by go_grown)) (by exact(hs.below h).below (by go_grown)) s (by omega)).mono ?_;rintro e w2 ⟨rfl,f⟩;have D:=R5 (h.alloc C _) f;have ae:=f.size;simp only[World.size_alloc] at ae;have N:=(j.below zP).below f;obtain⟨an,ap,ab⟩:=N.boxed;have O:=(Rz.new w1 _ _).below f;have B:=zB (zB b zP) f))
 go_loopw [15] (λi wr=>∃k:Nat,k<=c.body.length/\i=ι k/\μ w wr/\Rz wr w1.heap.size #[.slice A (zx c).length m] 246/\R7 0 wr (.slice A (zx c).length m) (zx c)/\Hid (xt c=(c.body.drop k).all λl=>!l.neg||qH (zx c) l.args)) (λi _=>c.body.length-(intOf i).toNat);exact⟨0,zv _,rfl,D,O,yk B (zv _),P⟩;obtain⟨k,T,rfl,d,r,q,H⟩:=hrel;have ag:=d.size;by_cases G:k<c.body.length
 .obtain⟨g,aj,af,rfl,V,R,y,u,S⟩:=U.cell k G;have K:=zl d V R;have am:=zl d V y;have ai:=zl d V u;have aq:g<wr.heap.size:=by omega
  have M:=o5 c.body (λl=>!l.neg||qH (zx c) l.args) k G;have t:=S.below d;have Q:=F.out k G;clear R y u S;generalize c.body[k]=a at *;have J:Hid (xt c=((!a.neg||qH (zx c) a.args)&&(c.body.drop (k+1)).all λl=>!l.neg||qH (zx c) l.args)):=by rw[Hid,H.out,M]
  clear M H P;cases z:a.neg
  .have E:Hid (xt c=(c.body.drop (k+1)).all λl=>!l.neg||qH (zx c) l.args):=by rw[Hid,J.out,z];rfl
   rw[z] at K;clear J z;go_wp2;go_roundw;exact⟨k+1,by omega,by go_num,(by go_grown),r.below (by go_grown),q.below (by go_grown),E⟩;simp[intOf];omega
  rw[z] at K;cases hC:qH (zx c) a.args
  .have E:Hid (xt c=false):=by rw[Hid,J.out,hC,z];rfl
   clear J z;go_wp2_with (go_at_call 149;refine(wY _ _ _ (zx c) a.args _ _ _ (by exact r.below (by go_grown)) (by exact q.below (by go_grown)) (by exact t.below (by go_grown)) s Q).mono ?_;rintro e w3 ⟨rfl,I⟩;have o:=R5 ((zp wr.heap.size wr).alloc (zf _) _) I)
   go_ret;exact⟨by rw[E.out];rfl,R5 d o⟩
  have E:Hid (xt c=(c.body.drop (k+1)).all λl=>!l.neg||qH (zx c) l.args):=by rw[Hid,J.out,hC];simp
  clear J z;go_wp2_with (go_at_call 149;refine(wY _ _ _ (zx c) a.args _ _ _ (by exact r.below (by go_grown)) (by exact q.below (by go_grown)) (by exact t.below (by go_grown)) s Q).mono ?_;rintro e w3 ⟨rfl,I⟩;have o:=R5 ((zp wr.heap.size wr).alloc (zf _) _) I)
  go_roundw;exact⟨k+1,by omega,by go_num,R5 d o,r.below o,q.below o,E⟩;simp[intOf];omega
 have E:Hid (xt c=true):=by rw[Hid,H.out,ua (by omega)];rfl
 clear H P;go_wp2;go_ret;exact⟨by rw[E.out];rfl,d⟩
def Se.cell{T:TypeId}{w:World}{f:Option Addr}{n cap:Nat}{cs:List zd}(h:Se lo T w (.slice f n cap) cs)(k:Nat)(o:k<cs.length):∃g d b c a,f=some ⟨g,0,none⟩/\g<w.heap.size ∧
  w.cell? ⟨g,k*4,none⟩=some (.bool cs[k].head.neg)/\w.cell? ⟨g,k*4+1,none⟩=some (.string cs[k].head.pred)/\w.cell? ⟨g,k*4+2,none⟩=some (.slice d cs[k].head.args.length b) ∧
  w.cell? ⟨g,k*4+3,none⟩=some (.slice c cs[k].body.length a)/\R7 lo w (.slice d cs[k].head.args.length b) cs[k].head.args/\Sc lo w (.slice c cs[k].body.length a) cs[k].body:=by
 obtain⟨x,v,u⟩:=h;obtain⟨g,m,i,_,r,e⟩:=yw v (by omega);simp at i;obtain⟨y,z,q,s,p,t,j,l⟩:=u.at k cs[k] (by simp[o]);obtain⟨d,b,rfl⟩:=j.qy;obtain⟨c,a,rfl⟩:=l.qy;exact⟨g,d,b,c,a,i.1,r,e _ _ q,e _ _ s,e _ _ p,e _ _ t,j,l⟩
def vT(c:zd):Prop:=c.head.args.length+xg c.body<=1000/\c.body.length<=1000
def sy(w:World)(v:Value)(cs:List zd)(p:Se lo 171 w v cs)(B:∀c∈cs,vT c)(T:cs.length<=1000):
  Calls prog 61 #[v] w λe M=>e=ε (.bool (cs.any yM))/\μ w M:=by
 obtain⟨S,O,rfl⟩:=p.qy;have u:=Ry B;go_enter func61,ntmps61;go_wp2;go_loopw [7] (λi wr=>∃k:Nat,k<=cs.length/\i=ι k/\μ w wr/\Hid (cs.any yM=(cs.drop k).any yM)) (λi _=>cs.length-(intOf i).toNat);exact⟨0,zv _,rfl,zp _ _,rfl⟩;obtain⟨k,R,rfl,b,H⟩:=hrel;have F:=b.size;by_cases l:k<cs.length
 .have s:=eQ cs yM k l;obtain⟨g,N,E,J,C,rfl,q,z,r,y,t,A,x⟩:=p.cell k l;have I:=zl b q z;have Q:=zl b q r;have K:=zl b q y;have L:=zl b q t;have d:=A.below b;have f:=x.below b;obtain⟨n,o⟩:=u.out _ (zt l);generalize cs[k]=a at *;have G:Hid (cs.any yM=(yM a||(cs.drop (k+1)).any yM)):=by rw[Hid,H.out,s]
  cases D:yM a
  .have m:Hid (cs.any yM=(cs.drop (k+1)).any yM):=by rw[Hid,G.out,D];rfl
   go_wp2_with (go_at_call 101;refine(Gk _ a _ _ (by exact d.below (by go_grown)) (by exact f.below (by go_grown)) n o).mono ?_;rintro e P ⟨rfl,h⟩;have j:=R5 ((zp wr.heap.size wr).alloc (zf _) _) h)
   go_roundw;exact⟨k+1,by omega,by go_num,R5 b j,m⟩;simp[intOf];omega
  have m:Hid (cs.any yM=true):=by rw[Hid,G.out,D];rfl
  go_wp2_with (go_at_call 101;refine(Gk _ a _ _ (by exact d.below (by go_grown)) (by exact f.below (by go_grown)) n o).mono ?_;rintro e P ⟨rfl,h⟩;have j:=R5 ((zp wr.heap.size wr).alloc (zf _) _) h)
  go_ret;exact⟨by rw[m.out];rfl,R5 b j⟩
 have m:Hid (cs.any yM=false):=by rw[Hid,H.out,ua (by omega)];rfl
 go_wp2;go_ret;exact⟨by rw[m.out];rfl,b⟩
def i9(w:World)(v:Value)(cs:List zd)(p:Se lo 171 w v cs)(B:∀c∈cs,vT c)(T:cs.length<=1000):
  Calls prog 63 #[v] w λe M=>e=ε (.bool (cs.all xt))/\μ w M:=by
 obtain⟨S,O,rfl⟩:=p.qy;have u:=Ry B;go_enter func63,ntmps63;go_wp2;go_loopw [7] (λi wr=>∃k:Nat,k<=cs.length/\i=ι k/\μ w wr/\Hid (cs.all xt=(cs.drop k).all xt)) (λi _=>cs.length-(intOf i).toNat);exact⟨0,zv _,rfl,zp _ _,rfl⟩;obtain⟨k,R,rfl,b,H⟩:=hrel;have F:=b.size;by_cases l:k<cs.length
 .have s:=o5 cs xt k l;obtain⟨g,N,E,J,C,rfl,q,z,r,y,t,A,x⟩:=p.cell k l;have I:=zl b q z;have Q:=zl b q r;have K:=zl b q y;have L:=zl b q t;have d:=A.below b;have f:=x.below b;obtain⟨n,o⟩:=u.out _ (zt l);generalize cs[k]=a at *;have G:Hid (cs.all xt=(xt a&&(cs.drop (k+1)).all xt)):=by rw[Hid,H.out,s]
  cases D:xt a
  .have m:Hid (cs.all xt=false):=by rw[Hid,G.out,D];rfl
   go_wp2_with (go_at_call 103;refine(Dl _ a _ _ (by exact d.below (by go_grown)) (by exact f.below (by go_grown)) n o).mono ?_;rintro e P ⟨rfl,h⟩;have j:=R5 ((zp wr.heap.size wr).alloc (zf _) _) h)
   go_ret;exact⟨by rw[m.out];rfl,R5 b j⟩
  have m:Hid (cs.all xt=(cs.drop (k+1)).all xt):=by rw[Hid,G.out,D];rfl
  go_wp2_with (go_at_call 103;refine(Dl _ a _ _ (by exact d.below (by go_grown)) (by exact f.below (by go_grown)) n o).mono ?_;rintro e P ⟨rfl,h⟩;have j:=R5 ((zp wr.heap.size wr).alloc (zf _) _) h)
  go_roundw;exact⟨k+1,by omega,by go_num,R5 b j,m⟩;simp[intOf];omega
 have m:Hid (cs.all xt=true):=by rw[Hid,H.out,ua (by omega)];rfl
 go_wp2;go_ret;exact⟨by rw[m.out];rfl,b⟩
end
section
open Go.Proofs.Tryz Go.RowKit
structure zg where
 name:ByteArray
 ji:Nat
 qh:Nat
def RX(a b:ByteArray):Bool:=Op.bytesLess a.toList b.toList
def zT:List zg->ByteArray->Nat
 |[],_=>0
 |e::r,n=>if RX e.name n then zT r n+1 else 0
def Ah:∀(t:List zg) (n:ByteArray),zT t n<=t.length
 |[],_=>zf _
 |e::r,n=>by have:=Ah r n;unfold zT;split<;>simp<;>omega
def i5:∀(t:List zg) (n:ByteArray) (k:Nat),(∀j (b:j<t.length),j<k->RX t[j].name n=true)->k<=t.length->zT t n=k+zT (t.drop k) n
 |[],n,k,_,a=>by simp at a;subst a;simp
 |e::r,n,0,_,_=>by simp
 |e::r,n,k+1,h,a=>by
  have c:=h 0 (by simp) (by omega);simp at c;have:=i5 r n k (λj b d=>by have:=h (j+1) (by simpa using b) (by omega);simpa using this) (by simpa using a);simp[zT,c];omega
def Cj(t:List zg)(n:ByteArray)(k:Nat)(h:∀j (c:j<t.length),j<k->RX t[j].name n=true)(b:k<t.length)(a:RX t[k].name n=false):zT t n=k:=by
 rw[i5 t n k h (by omega),xh b,zT,a];rfl
def De(t:List zg)(n:ByteArray)(h:∀j (a:j<t.length),RX t[j].name n=true):zT t n=t.length:=by
 rw[i5 t n t.length (λj a _=>h j a) (zf _)];simp[zT]
def uh(t:List zg):List Value:=t.flatMap λe=>[.string e.name,ι (e.ji:Int),ι (e.qh:Int)]
def oF(t:List zg):(uh t).length=t.length*3:=by
 induction t with
 |nil=>rfl
 |cons a t b=>simp[uh] at b ⊢;omega
def EC:∀(t:List zg) (k:Nat) (a:k<t.length),(uh t)[k*3]?=some (.string t[k].name)/\(uh t)[k*3+1]?=some (ι (t[k].ji:Int))/\(uh t)[k*3+2]?=some (ι (t[k].qh:Int))
 |[],k,a=>by simp at a
 |e::r,0,_=>by simp[uh]
 |e::r,k+1,a=>by
  have:=EC r k (by simpa using a);simp only[uh,uA] at this ⊢;rw[show(k+1)*3=k*3+1+1+1 from by omega,show k*3+1+1+1+1=k*3+1+1+1+1 from rfl,show k*3+1+1+1+2=k*3+2+1+1+1 from by omega];simpa using this
def TA(B:Nat)(w:World)(tb:Nat)(t:List zg):Prop:=∃a,Rz w tb #[a] 127/\w.ownsRow B 221 3 a t.length (uh t)
def TA.below{B:Nat}{w w':World}{tb:Nat}{t:List zg}(h:TA B w tb t)(a:μ w w'):TA B w' tb t:=by
 obtain⟨c,d,b⟩:=h;exact⟨c,d.below a,zB b a⟩
def TA.view{B:Nat}{w:World}{tb:Nat}{t:List zg}(h:TA B w tb t):∃b a,Rz w tb #[.slice b t.length a] 127/\w.ownsRow B 221 3 (.slice b t.length a) t.length (uh t):=by
 obtain⟨e,d,c⟩:=h;obtain⟨b,a,rfl⟩:=zq c;exact⟨b,a,d,c⟩
def kJ{B:Nat}{w:World}{b:Option Addr}{n cap:Nat}{t:List zg}(h:w.ownsRow B 221 3 (.slice b n cap) t.length (uh t))(k:Nat)(f:k<t.length):∃g,b=some ⟨g,0,none⟩/\g<w.heap.size/\B<=g ∧
  w.cell? ⟨g,k*3,none⟩=some (.string t[k].name)/\w.cell? ⟨g,k*3+1,none⟩=some (ι (t[k].ji:Int))/\w.cell? ⟨g,k*3+2,none⟩=some (ι (t[k].qh:Int)):=by
 obtain⟨g,d,c,e,l,a⟩:=yw h (by omega);simp at c;obtain⟨j,m,i⟩:=EC t k f;exact⟨g,c.1,l,e,a _ _ j,a _ _ m,a _ _ i⟩
def wW(B:Nat)(w:World)(tb:Nat)(t:List zg)(n:ByteArray)(h:TA B w tb t)(x:t.length<=1000):
  Calls prog 126 #[(π tb),.string n] w λe q=>e=ε (ι (zT t n))/\q=w:=by
 obtain⟨v,o,l,c⟩:=h.view;obtain⟨y,s⟩:=l.rules;go_enter func126,ntmps126;go_wp2;go_loop [5] (λi=>∃k:Nat,k<=t.length/\i=ι k/\Hid (∀j (a:j<t.length),j<k->RX t[j].name n=true)) (λi=>t.length-(intOf i).toNat);exact⟨0,zv _,rfl,λj a h=>by omega⟩;obtain⟨k,r,rfl,H⟩:=hrel;by_cases d:k<t.length
 .obtain⟨g,rfl,u,_,p,_,_⟩:=kJ c k d;cases f:RX t[k].name n
  .have b:=Ry (Cj t n k H.out d f);unfold RX at f;go_wp2;go_ret;exact⟨by rw[b.out];rfl,rfl⟩
  have b:Hid (∀j (a:j<t.length),j<k+1->RX t[j].name n=true):=λj a h=>by
   rcases dI j k with m|m;exact H.out j a m;obtain rfl:j=k:=by omega
   exact f
  unfold RX at f;go_wp2;go_round;exact⟨k+1,by omega,by go_num,b⟩;simp[intOf];omega
 have b:Hid (zT t n=k):=by
  have:=De t n (λj a=>H.out j a (by omega));unfold Hid;omega
 go_wp2;go_ret;exact⟨by rw[b.out];rfl,rfl⟩
end
section
open Go.Proofs.Tryz Go.RowKit
variable {xs:List Value}
def uH{w:World}{b:Nat}{e:TypeId}{a g n cap m:Nat}(h:w.ownsRow b e a (.slice (some ⟨g,0,none⟩) n cap) m xs)(o:Nat):w.frozen? ⟨g,o,none⟩=false:=by
 obtain⟨_,⟨c,_⟩|⟨j,d,f,c,_,i,_⟩⟩:=h;cases c;simp at c;obtain⟨rfl,_⟩:=c;unfold World.frozen?;rw[i];simp
def uj{w:World}{b:Nat}{e:TypeId}{a g n cap m:Nat}(h:w.ownsRow b e a (.slice (some ⟨g,0,none⟩) n cap) m xs)(j:Nat)(_:j<xs.length)(u:Value):
  (w.setCell ⟨g,j,none⟩ u).ownsRow b e a (.slice (some ⟨g,0,none⟩) n cap) m (xs.set j u):=by
 obtain⟨q,⟨c,_⟩|⟨s,f,d,c,l,p,o,r,k,i⟩⟩:=h;cases c;simp at c;obtain⟨rfl,rfl,rfl⟩:=c;refine⟨by simpa using q,ze ⟨g,cap,d.setIfInBounds j u,rfl,l,?_,o,r,by simpa using k,?_⟩⟩;simp[World.setCell,Array.getElem?_modify,p];rw[←i];rw[Array.toList_setIfInBounds,List.take_set]
def zU(t:List zg)(n:ByteArray):Option zg:=match t[zT t n]? with
 |none=>none
 |some e=>if e.name=n then some e else none
def jj{t:List zg}{n:ByteArray}{e:zg}(h:zU t n=some e):∃b:zT t n<t.length,t[zT t n]=e/\e.name=n:=by
 unfold zU at h;split at h;cases h;rename_i c a;split at h<;>simp at h
 subst h;obtain⟨b,a⟩:=kf.1 a;exact⟨b,a,by assumption⟩
def sW{t:List zg}{n:ByteArray}(h:zU t n=none):¬zT t n<t.length∨∃b:zT t n<t.length,t[zT t n].name≠n:=by
 unfold zU at h;split at h;rename_i a;left;rw[List.getElem?_eq_none_iff] at a;omega;rename_i e a;split at h<;>simp at h
 obtain⟨b,a⟩:=kf.1 a;right;exact⟨b,by rw[a];assumption⟩
def Dv(B:Nat)(w:World)(tb:Nat)(t:List zg)(n:ByteArray)(h:TA B w tb t)(o:t.length<=1000)(j:zU t n=none):
  Calls prog 77 #[(π tb),.string n] w λe c=>e=ε (.tuple #[ι 0,.bool false])/\c=w:=by
 have i:=wW B w tb t n h o;obtain⟨s,l,f,b⟩:=h.view;obtain⟨u,q⟩:=f.rules;have a:=Ry i;rcases sW j with k|⟨k,d⟩
 .clear j;go_enter func77,ntmps77;go_wp2_with (go_at_call 126;refine a.out.mono ?_;rintro e c ⟨rfl,rfl⟩;clear a)
  go_ret2
  exact⟨rfl,rfl⟩
 obtain⟨g,rfl,r,_,m,_,_⟩:=kJ b _ k;have p:=qb d;go_enter func77,ntmps77;go_wp2_with (go_at_call 126;refine a.out.mono ?_;rintro e c ⟨rfl,rfl⟩;clear a)
 go_ret2
 exact⟨rfl,rfl⟩
def Ea(B:Nat)(w:World)(tb:Nat)(t:List zg)(n:ByteArray)(p:zg)(h:TA B w tb t)(r:t.length<=1000)(l:zU t n=some p):
  Calls prog 77 #[(π tb),.string n] w λe k=>e=ε (.tuple #[ι (zT t n),.bool true])/\k=w:=by
 have j:=wW B w tb t n h r;obtain⟨v,o,f,a⟩:=h.view;obtain⟨x,s⟩:=f.rules;have b:=Ry j;obtain⟨m,c,q⟩:=jj l;obtain⟨g,rfl,u,_,d,_,i⟩:=kJ a _ m;rw[c] at d i;go_enter func77,ntmps77;go_wp2_with (go_at_call 126;refine b.out.mono ?_;rintro e k ⟨rfl,rfl⟩;clear b)
 go_ret2
 exact⟨rfl,rfl⟩
def Nm(B:Nat)(w:World)(tb:Nat)(t:List zg)(n:ByteArray)(h:TA B w tb t)(d:t.length<=1000)(a:zU t n=none):
  Calls prog 159 #[(π tb),.string n] w λe c=>e=ε (.tuple #[ι 0,.bool false])/\c=w:=by
 have b:=Ry (Dv B w tb t n h d a);clear h a d;go_enter func159,ntmps159;go_wp2_with (go_at_call 77;refine b.out.mono ?_;rintro e c ⟨rfl,rfl⟩;clear b)
 go_ret2
 exact⟨rfl,rfl⟩
def AT(B:Nat)(w:World)(tb:Nat)(t:List zg)(n:ByteArray)(b:zg)(h:TA B w tb t)(q:t.length<=1000)(d:zU t n=some b):
  Calls prog 159 #[(π tb),.string n] w λe i=>e=ε (.tuple #[ι b.qh,.bool true])/\i=w:=by
 have f:=Ry (Ea B w tb t n b h q d);obtain⟨u,l,c,a⟩:=h.view;obtain⟨v,r⟩:=c.rules;obtain⟨k,j,o⟩:=jj d;obtain⟨g,rfl,s,_,m,_,p⟩:=kJ a _ k;go_enter func159,ntmps159;go_wp2_with (go_at_call 77;refine f.out.mono ?_;rintro e i ⟨rfl,rfl⟩;clear f)
 go_ret2
 exact⟨rfl,rfl⟩
def Bz:∀(t:List zg) (k:Nat) (e:zg) (d:k<t.length),t[k].name=e.name->t[k].ji=e.ji->(uh t).set (k*3+2) (ι (e.qh:Int))=uh (t.set k e)
 |[],k,_,d,_,_=>by simp at d
 |a::r,0,e,_,c,b=>by simp at c b;simp[uh,c,b]
 |a::r,k+1,e,d,c,b=>by
  have:=Bz r k e (by simpa using d) (by simpa using c) (by simpa using b);simp only[uh,uA,nS] at this ⊢;rw[show(k+1)*3+2=k*3+2+1+1+1 from by omega];simpa using this
def xL(t:List zg)(n:ByteArray)(s:Nat):List zg×Bool:=match zU t n with
 |none=>(t,false)
 |some e=>if s<=e.qh then(t,false) else(t.set (zT t n) {e with qh:=s},true)
def Ic(t:List zg)(n:ByteArray)(s:Nat):(xL t n s).1.length=t.length:=by
 unfold xL;split;rfl;split<;>simp
def SF(B:Nat)(w:World)(tb:Nat)(t:List zg)(n:ByteArray)(s:Nat)(h:TA B w tb t)(y:t.length<=1000)(_:s<=3000000):
  Calls prog 151 #[(π tb),.string n,ι s] w λe j=>e=ε (.bool (xL t n s).2)/\TA B j tb (xL t n s).1/\Below B w j:=by
 obtain⟨K,G,b,a⟩:=h.view;obtain⟨M,N⟩:=b.rules;have z:=Ry h;rcases f:zU t n with _|o
 .have l:Hid (xL t n s=(t,false)):=by unfold Hid xL;rw[f]
  have d:=Ry (Dv B w tb t n h y f);rw[l.out];go_enter func151,ntmps151;go_wp2_with (go_at_call 77;refine d.out.mono ?_;rintro e j ⟨rfl,rfl⟩;clear d)
  go_ret;exact⟨rfl,z,zp _ _⟩
 have d:=Ry (Ea B w tb t n o h y f);obtain⟨x,k,H⟩:=jj f;obtain⟨g,rfl,J,v,D,_,F⟩:=kJ a _ x;have I:=uH a;by_cases m:s<=o.qh
 .have l:Hid (xL t n s=(t,false)):=by unfold Hid xL;rw[f];simp[m]
  rw[l.out];go_enter func151,ntmps151;go_wp2_with (go_at_call 77;refine d.out.mono ?_;rintro e j ⟨rfl,rfl⟩;clear d)
  go_ret;exact⟨rfl,z,zp _ _⟩
 have l:Hid (xL t n s=(t.set (zT t n) {o with qh:=s},true)):=by unfold Hid xL;rw[f];simp[m]
 rw[l.out];have c:=uj a (zT t n*3+2) (by rw[oF];omega) (ι (s:Int));rw[Bz t (zT t n) {o with qh:=s} x (by rw[k]) (by rw[k])] at c;have p:tb≠g:=by
  intro u;subst u;obtain⟨_,⟨q,_⟩|⟨L,A,C,q,_,E,_⟩⟩:=a;cases q;simp at q;obtain⟨rfl,_⟩:=q;unfold Rz at b;rw[E] at b;simp at b
 have i:=b.set_ne p (zT t n*3+2) (ι (s:Int));have r:Hid (TA B (w.setCell ⟨g,zT t n*3+2,none⟩ (ι (s:Int))) tb (t.set (zT t n) {o with qh:=s})):=⟨_,i,by simpa using c⟩;go_enter func151,ntmps151;go_wp2_with (go_at_call 77;refine d.out.mono ?_;rintro e j ⟨rfl,rfl⟩;clear d)
 go_ret;exact⟨rfl,r,(zp _ _).setCell v _⟩
end
section
open Go.Proofs.Tryz Go.RowKit
variable {lo:Nat}
def ki(t:List zg)(l:zk):Nat:=match zU t l.pred with
 |none=>0
 |some e=>if l.neg then e.qh+1 else e.qh
def qu(t:List zg)(n:Nat)(l:zk):Nat:=if n<ki t l then ki t l else n
def qQ(t:List zg)(c:zd):Nat:=c.body.foldl (qu t) 0
def Cm{t:List zg}{M:Nat}(h:∀e∈t,e.qh<=M)(l:zk):ki t l<=M+1:=by
 unfold ki;split;omega;rename_i e b;obtain⟨c,a,_⟩:=jj b;have:=h e (by rw[←a];exact zt c);split<;>omega
def B9{t:List zg}{M:Nat}(h:∀e∈t,e.qh<=M):∀(a:List zk) (n:Nat),n<=M+1->a.foldl (qu t) n<=M+1
 |[],n,b=>b
 |l::a,n,b=>by
  refine B9 h a _ ?_;unfold qu;have:=Cm h l;split<;>omega
def Ca(B M:Nat)(w:World)(tb:Nat)(t:List zg)(c:zd)(J vb:Value)(h:TA B w tb t)(F:t.length<=1000)(I:∀e∈t,e.qh<=M)(Y:M<=2000000)(hs:R7 lo w J c.head.args)(K:Sc lo w vb c.body)(Z:c.body.length<=1000):
  Calls prog 150 #[(π tb),.agg #[.bool c.head.neg,.string c.head.pred,J,vb]] w λe R=>e=ε (ι (qQ t c))/\μ w R:=by
 obtain⟨ao,T,rfl⟩:=hs.qy;obtain⟨V,P,rfl⟩:=K.qy;have U:=Ry I;clear I;go_enter func150,ntmps150;go_wp2;go_loopw [5,13] (λn i wr=>∃k m:Nat,k<=c.body.length/\i=ι k/\n=ι m/\m<=M+1/\μ w wr/\Hid (m=(c.body.take k).foldl (qu t) 0)) (λ_ i _=>c.body.length-(intOf i).toNat);exact⟨0,0,zv _,rfl,rfl,zv _,(by go_grown),rfl⟩;obtain⟨k,m,hk,rfl,rfl,E,d,H⟩:=hrel;have N:=d.size;by_cases y:k<c.body.length
 .obtain⟨g,S,L,rfl,C,z,v,x,G⟩:=K.cell k y;have u:=zl d C z;have W:=zl d C v;have Q:=zl d C x;have X:g<wr.heap.size:=by omega
  have s:Hid ((c.body.take (k+1)).foldl (qu t) 0=qu t m c.body[k]):=by rw[Hid,H.out,yP y,jr];rfl
  have p:=h.below d;clear z v x G H;generalize c.body[k]=a at *;have q:=Cm U.out a;rcases l:zU t a.pred with _|f
  .have j:Hid (ki t a=0):=by unfold Hid ki;rw[l]
   have D:Hid ((c.body.take (k+1)).foldl (qu t) 0=m):=by rw[Hid,s.out,qu,j.out];simp
   have A:=Ry l;clear s j l q;go_wp2_with (go_at_call 159;refine(Nm B _ tb t a.pred (by exact p.below (by go_grown)) F A).mono ?_;rintro e O ⟨rfl,rfl⟩)
   go_roundw;exact⟨k+1,m,by omega,by go_num,rfl,E,(by go_grown),D.out.symm⟩;simp[intOf];omega
  have A:=Ry l;cases r:a.neg
  .have o:ki t a=f.qh:=by unfold ki;rw[l,r];rfl
   have j:Hid (qu t m a=if m<f.qh then f.qh else m):=by unfold Hid qu;rw[o]
   rw[r] at u;rw[o] at q;clear o l r;by_cases b:m<f.qh
   all_goals
    go_wp2_with (go_at_call 159;refine(AT B _ tb t a.pred f (by exact p.below (by go_grown)) F A).mono ?_;rintro e O ⟨rfl,rfl⟩)
    go_roundw;first|exact⟨k+1,f.qh,by omega,by go_num,by go_num,by omega,(by go_grown),by rw[Hid,s.out,j.out,zb b]⟩|exact⟨k+1,m,by omega,by go_num,rfl,E,(by go_grown),by rw[Hid,s.out,j.out,za b]⟩
    simp[intOf];omega
  have o:ki t a=f.qh+1:=by unfold ki;rw[l,r];rfl
  have j:Hid (qu t m a=if m<f.qh+1 then f.qh+1 else m):=by unfold Hid qu;rw[o]
  rw[r] at u;rw[o] at q;clear o l r;by_cases b:m<f.qh+1
  all_goals
   go_wp2_with (go_at_call 159;refine(AT B _ tb t a.pred f (by exact p.below (by go_grown)) F A).mono ?_;rintro e O ⟨rfl,rfl⟩)
   go_roundw;first|exact⟨k+1,f.qh+1,by omega,by go_num,by go_num,by omega,(by go_grown),by rw[Hid,s.out,j.out,zb b]⟩|exact⟨k+1,m,by omega,by go_num,rfl,E,(by go_grown),by rw[Hid,s.out,j.out,za b]⟩
   simp[intOf];omega
 have D:Hid (m=qQ t c):=by rw[Hid,H.out,xk (by omega)];rfl
 clear H;go_wp2;go_ret;exact⟨by rw[←D.out];rfl,d⟩
def vU(x:List zg×Bool)(c:zd):List zg×Bool:=((xL x.1 c.head.pred (qQ x.1 c)).1,x.2||(xL x.1 c.head.pred (qQ x.1 c)).2)
def vL(t:List zg)(cs:List zd):List zg×Bool:=cs.foldl vU (t,false)
def GG{t:List zg}{n:ByteArray}{s M:Nat}(h:∀e∈t,e.qh<=M)(hs:s<=M):∀e∈(xL t n s).1,e.qh<=M:=by
 unfold xL;split;exact h;split;exact h;intro e a;rcases lz a with a|a;exact h e a;subst a;exact hs
def Ki{α β:Type}(f:β->α->β)(b:β)(l:List α)(k:Nat)(a:k<l.length):(l.take (k+1)).foldl f b=f ((l.take k).foldl f b) l[k]:=by rw[yP a,jr];rfl
def IB(B M:Nat)(w:World)(tb:Nat)(t:List zg)(v:Value)(cs:List zd)(G:World)(T:G.heap.size=B)(I:Below B G w)(L:Se lo 171 G v cs)(P:∀c∈cs,vT c)(_:cs.length<=1000)
  (h:TA B w tb t) (hl:t.length<=1000) (hM:∀e∈t,e.qh<=M) (ap:M+cs.length<=1900000):
  Calls prog 104 #[(π tb),v] w λe w'=>e=ε (.bool (vL t cs).2)/\TA B w' tb (vL t cs).1/\Below B w w'/\(vL t cs).1.length=t.length/\(∀e∈(vL t cs).1,e.qh<=M+cs.length):=by
 obtain⟨ao,ak,rfl⟩:=L.qy;have V:Hid (∀c∈cs,vT c):=P;have ac:=I.size;clear P;go_enter func104,ntmps104;go_wp2;go_loopw [5,11] (λr i wr=>∃k:Nat,k<=cs.length/\i=ι k/\r=.bool ((cs.take k).foldl vU (t,false)).2/\Below B w wr/\TA B wr tb ((cs.take k).foldl vU (t,false)).1/\((cs.take k).foldl vU (t,false)).1.length=t.length/\Hid (∀e∈((cs.take k).foldl vU (t,false)).1,e.qh<=M+k)) (λ_ i _=>cs.length-(intOf i).toNat);exact⟨0,zv _,rfl,rfl,zp _ _,h,rfl,hM⟩;obtain⟨k,hk,rfl,rfl,b,d,z,u⟩:=hrel;have j:Below G.heap.size G wr:=by rw[T];exact I.trans b
 have ab:=b.size;by_cases C:k<cs.length
 .have F:=Ki vU (t,false) cs k C;obtain⟨g,aj,aa,af,Y,rfl,hg,N,E,K,H,O,s⟩:=L.cell k C;have ad:=(j.cell (p:=⟨g,k*4,none⟩) (by omega)).trans N;have am:=(j.cell (p:=⟨g,k*4+1,none⟩) (by omega)).trans E;have ag:=(j.cell (p:=⟨g,k*4+2,none⟩) (by omega)).trans K;have ah:=(j.cell (p:=⟨g,k*4+3,none⟩) (by omega)).trans H;have an:g<wr.heap.size:=by omega
  have o:=O.below j;have q:=s.below j;obtain⟨al,J⟩:=V.out _ (zt C);clear N E K H O s;generalize cs[k]=a at *;generalize (cs.take k).foldl vU (t,false)=x at *;obtain⟨tk,Z⟩:=x;simp only at d z u ⊢;have Q:Hid ((cs.take (k+1)).foldl vU (t,false)=vU (tk,Z) a):=F;clear F;have ae:qQ tk a<=M+k+1:=B9 u.out a.body 0 (by omega);have ai:=Ic tk a.head.pred (qQ tk a);have HB:Hid (∀e∈(xL tk a.head.pred (qQ tk a)).1,e.qh<=M+(k+1)):=GG (λe he=>by have:=u.out e he;omega) (by omega);cases hR:(xL tk a.head.pred (qQ tk a)).2
  .have n:Hid (((cs.take (k+1)).foldl vU (t,false))=((xL tk a.head.pred (qQ tk a)).1,Z)):=by rw[Hid,Q.out,vU];simp[hR]
   clear Q;go_wp2_with (first|(go_at_call 150;refine(Ca B (M+k) _ tb tk a _ _ (by exact d.below (by go_grown)) (by omega) u.out (by omega) (by exact o.below (by go_grown)) (by exact q.below (by go_grown)) J).mono ?_;rintro e w1 ⟨rfl,m⟩;have f:=R5 ((zp wr.heap.size wr).alloc (zf _) _) m;have D:=d.below f;have U:=f.size;have l:=(Rz.new wr _ _).below m;obtain⟨W,X⟩:=l.rules)|(go_at_call 151;refine(SF B _ tb tk a.head.pred (qQ tk a) D (by omega) (by omega)).mono ?_;rintro e w2 ⟨rfl,A,y⟩))
   go_roundw;exact⟨k+1,by omega,by go_num,by rw[n.out],(b.trans (f.mono (by omega))).trans y,by rw[n.out];exact A,by rw[n.out];simp only;omega,by rw[n.out];exact HB⟩;simp[intOf];omega
  have n:Hid (((cs.take (k+1)).foldl vU (t,false))=((xL tk a.head.pred (qQ tk a)).1,true)):=by rw[Hid,Q.out,vU];simp[hR]
  clear Q;go_wp2_with (first|(go_at_call 150;refine(Ca B (M+k) _ tb tk a _ _ (by exact d.below (by go_grown)) (by omega) u.out (by omega) (by exact o.below (by go_grown)) (by exact q.below (by go_grown)) J).mono ?_;rintro e w1 ⟨rfl,m⟩;have f:=R5 ((zp wr.heap.size wr).alloc (zf _) _) m;have D:=d.below f;have U:=f.size;have l:=(Rz.new wr _ _).below m;obtain⟨W,X⟩:=l.rules)|(go_at_call 151;refine(SF B _ tb tk a.head.pred (qQ tk a) D (by omega) (by omega)).mono ?_;rintro e w2 ⟨rfl,A,y⟩))
  go_roundw;exact⟨k+1,by omega,by go_num,by rw[n.out],(b.trans (f.mono (by omega))).trans y,by rw[n.out];exact A,by rw[n.out];simp only;omega,by rw[n.out];exact HB⟩;simp[intOf];omega
 have hE:cs.take k=cs:=xk (by omega);rw[hE] at d z u ⊢;have S:k=cs.length:=by omega
 have R:Hid (∀e∈(vL t cs).1,e.qh<=M+cs.length):=by rw[←S];exact u
 clear hE u;go_wp2;go_ret;exact⟨rfl,d,b,z,R⟩
def xX:Nat->List zg->List zd->List zg×Bool
 |0,t,_=>(t,false)
 |m+1,t,a=>if (vL t a).2 then xX m (vL t a).1 a else((vL t a).1,true)
def Ff(B:Nat)(w:World)(tb:Nat)(t:List zg)(v:Value)(cs:List zd)(r:World)(o:r.heap.size=B)(G:Below B r w)(J:Se lo 171 r v cs)(A:∀c∈cs,vT c)(m:cs.length<=1000)
  (h:TA B w tb t) (U:t.length<=1000) (M:∀e∈t,e.qh<=0):
  Calls prog 64 #[(π tb),v] w λe s=>e=ε (.bool (xX (t.length+1) t cs).2)/\TA B s tb (xX (t.length+1) t cs).1/\Below B w s:=by
 have E:Hid (∀c∈cs,vT c):=A;have O:Hid (r.heap.size=B):=o;clear A o;go_enter func64,ntmps64;go_wp2;go_loopw [5] (λi wr=>∃(p:Nat) (tk:List zg),p<=t.length+1/\i=ι p/\Below B w wr/\TA B wr tb tk/\tk.length=t.length/\Hid (∀e∈tk,e.qh<=p*cs.length)/\Hid (xX (t.length+1) t cs=xX (t.length+1-p) tk cs)) (λi _=>t.length+1-(intOf i).toNat);exact⟨0,t,zv _,rfl,zp _ _,h,rfl,(by simpa [Hid] using M),rfl⟩;obtain⟨p,tk,T,rfl,b,f,I,K,H⟩:=hrel;obtain⟨S,N,y,u⟩:=f.view;obtain⟨Q,V⟩:=y.rules;rw[I] at Q y u;by_cases R:p<=t.length
 .have z:p*cs.length<=1000*1000:=Nat.mul_le_mul (by omega) m;have x:=IB B (p*cs.length) wr tb tk v cs r O.out (G.trans b) J E.out m f (by omega) K.out (by omega);have a:Hid (Calls prog 104 #[(π tb),v] wr λe s=>e=ε (.bool (vL tk cs).2)/\TA B s tb (vL tk cs).1/\Below B wr s/\(vL tk cs).1.length=tk.length/\(∀e∈(vL tk cs).1,e.qh<=p*cs.length+cs.length)):=x;have q:t.length+1-p=(t.length-p)+1:=by omega
  have C:Hid (xX (t.length+1) t cs=if (vL tk cs).2 then xX (t.length-p) (vL tk cs).1 cs else((vL tk cs).1,true)):=by rw[Hid,H.out,q];rfl
  clear x q H;have n:p*cs.length+cs.length=(p+1)*cs.length:=by rw[lm];omega
  have F:Hid (p*cs.length+cs.length=(p+1)*cs.length):=n;clear n z K;cases l:(vL tk cs).2
  .have d:Hid (xX (t.length+1) t cs=((vL tk cs).1,true)):=by rw[Hid,C.out,l];simp
   clear C;rw[l] at a;clear l;generalize (vL tk cs).1=L at *;go_wp2_with (go_at_call 104;refine a.out.mono ?_;rintro e P ⟨rfl,k,g,D,j⟩;clear a)
   go_ret;exact⟨by rw[d.out];rfl,by rw[d.out];exact k,b.trans g⟩
  have d:Hid (xX (t.length+1) t cs=xX (t.length+1-(p+1)) (vL tk cs).1 cs):=by rw[Hid,C.out,l];simp
  clear C;rw[l] at a;clear l;generalize (vL tk cs).1=L at *;go_wp2_with (go_at_call 104;refine a.out.mono ?_;rintro e P ⟨rfl,k,g,D,j⟩;clear a)
  go_roundw;exact⟨p+1,L,by omega,by go_num,b.trans g,k,by omega,by rw[F.out] at j;exact j,d⟩;simp[intOf];omega
 have d:Hid (xX (t.length+1) t cs=(tk,false)):=by rw[Hid,H.out,show t.length+1-p=0 by omega];rfl
 clear H;go_wp2;go_ret;exact⟨by rw[d.out];rfl,by rw[d.out];exact f,b⟩
end
section
open Go.Proofs.Tryz Go.RowKit
variable {w w':World}{base n b g cap m tb:Nat}{v:Value}{xs:List Value}{c:Array Value}
def Rz.newAt(w:World)(b:Nat)(c:Array Value)(T:TypeId)(h:b=w.heap.size):Rz (w.alloc (.cells c T)) b c T:=by subst h;exact Rz.new w c T
def Rz.drew{w:World}{b:Nat}{c:Array Value}{T:TypeId}(h:Rz w b c T):Rz w.drew b c T:=h
def N5{e:TypeId}{a:Nat}(h:w.ownsRow base e a v n xs)(o:w.heap.size<=b):some b≠v.ownBlock:=by
 intro f;obtain⟨_,⟨i,_⟩|⟨p,k,l,d,_,j,_⟩⟩:=h;subst i;cases f;subst d;simp only[Value.ownBlock,zr] at f;subst f;have:=(jU.1 j).1;omega
def fU{e T:TypeId}{d:Nat}(h:w.ownsRow base e d v n xs)(l:Rz w b c T)(p:e≠T):some b≠v.ownBlock:=by
 intro i;obtain⟨_,⟨j,_⟩|⟨q,o,k,f,_,a,_⟩⟩:=h;subst j;cases i;subst f;simp only[Value.ownBlock,zr] at i;subst i;unfold Rz at l;rw[l] at a;simp at a;exact p a.2.symm
def Rz.keep{e f:World}{T:TypeId}(h:Rz e b c T)(a:some b≠v.ownBlock)(i:∀k,k<e.heap.size->some k≠v.ownBlock->f.heap[k]?=e.heap[k]?):Rz f b c T:=by
 have d:=h.lt;unfold Rz at *;rw[i b d a];exact h
def LY{e T:TypeId}{a:Nat}(h:w.ownsRow base e a (.slice (some ⟨g,0,none⟩) n cap) m xs)(j:Rz w b c T)(o:c.size<m*a):b≠g:=by
 intro q;subst q;obtain⟨_,⟨i,_⟩|⟨s,k,l,f,_,d,r,t,p,_⟩⟩:=h;cases i;simp at f;obtain⟨rfl,rfl,rfl⟩:=f;unfold Rz at j;rw[j] at d;simp at d;rw[←d.1] at p;have:=dM a r;omega
section
variable {P:Program} {ops:Array Oper} {o:Oper} {a:Act} {K:Act->World->Prop} {Q:Exit->Act->World->Prop}
def Ai{E:Prop}(C D:World)(l:List Value)(X:TypeId)(I:o.guard=none)(s x:Operand)(t:TypeId)
  (ho:o.op=.call {callee:=.builtin .append,args:=#[s,x],argTypes:=#[t,t]})
  (base:Nat) (e:TypeId) (i:TypeInfo) (z:Value) (d f:Nat) (ht:P.underlying t=some (.slice e)) (hi:P.info? e=some i) (hz:i.zero=some z)
  (A:i.size=d) (J:i.bytes=f) (O:z.cells.size=d) (H:0<d)
  (v:Value) (n:Nat) (xs:List Value) (hs:a.eval s=v) (y:C.ownsRow base e d v n xs) (q:μ C D)
  (b c:Nat) (Y:a.eval x=.slice (some ⟨b,0,none⟩) 1 c) (W:Rz D b l.toArray X) (hl:l.length=d) (Z:∀u∈l,u.oneCell'=true)
  (hn:n<=1048576) (r:f<=1000) (M:base<=C.heap.size)
  (h:∀G w',w'.ownsRow base e d G (n+1) (xs++l)->Below base C w'->(∀k,k<D.heap.size->some k≠v.ownBlock->w'.heap[k]?=D.heap[k]?)->D.heap.size<=w'.heap.size->K (a.put o.dst G) w'):
  if Region.wanted o (yielded ops a.tmps)=true then Oper.wp P o a D K Q else E:=by
 have hw:Region.wanted o (yielded ops a.tmps)=true:=by simp[Region.wanted,I]
 rw[zb hw];have B:=zB y q;have R:∀k,v.ownBlock=some k->base<=k/\k<C.heap.size:=by
  intro k F;obtain⟨_,L⟩:=y;rcases L with⟨N,_⟩|⟨g,cap,T,N,I,U,_⟩
  .subst N;cases F
  .subst N;simp only[Value.ownBlock,zr] at F;subst F;exact⟨I,(jU.1 U).1⟩
 have S:=q.size;refine wp_append_own _ s x t ho base e i z d f ht hi hz A J O H v n xs hs B ⟨b,0,none⟩ 1 c l Y (by omega) ?_ Z ?_ ?_ ?_ ?_
 .intro j u V;rw[Addr.add_lit,vn,W.rules.1];simpa using V
 .unfold maxLen;omega
 .have:(n+1)*f<=1048577*1000:=Nat.mul_le_mul (by omega) r;omega
 .omega
 .intro G w' L p _;refine h G w' L ⟨p.os.trans q.os,p.tape.trans q.tape,p.output.trans q.output,by have:=p.size;omega,λk F=>?_⟩ p.block p.size;rw[p.block k (by omega) (λe=>by have:=R k e.symm;omega)];exact q.block k (by omega)
end
def vr(t:List zg)(x:zg)(k:Nat):List zg:=t.take k++x::t.drop k
def fD(t:List zg)(x:zg)(k:Nat):(vr t x k).length=t.length+1:=by simp[vr];omega
def Ip(t:List zg)(x:zg):vr t x t.length=t++[x]:=by simp[vr]
def JZ(t:List zg)(x:zg)(j:Nat)(d:j<t.length):∃h:j<(vr t x (j+1)).length,(vr t x (j+1))[j]=t[j]:=by
 refine⟨by rw[fD];omega,?_⟩;unfold vr;rw[uD (by simp;omega)];simp
def Mw(t:List zg)(x:zg)(j:Nat)(d:j<=t.length):∃h:j<(vr t x j).length,(vr t x j)[j]=x:=by
 refine⟨by rw[fD];omega,?_⟩;unfold vr;rw[l5 (by simp;omega)];simp[d]
def IC(t:List zg)(x:zg)(j:Nat)(e:j<t.length):((vr t x (j+1)).set (j+1) t[j]).set j x=vr t x j:=by
 unfold vr;have h:=yP e;have f:=xh e;have d:(t.take j).length=j:=by simp;omega
 rw[h,f,kz,fm _ _ (by omega),d,fm _ _ (by omega),d];simp
def DL:∀(t:List zg) (k:Nat) (e:zg),k<t.length->(((uh t).set (k*3) (.string e.name)).set (k*3+1) (ι (e.ji:Int))).set (k*3+2) (ι (e.qh:Int))=uh (t.set k e)
 |[],k,_,d=>by simp at d
 |a::r,0,e,_=>by simp[uh]
 |a::r,k+1,e,d=>by
  have:=DL r k e (by simpa using d);simp only[uh,uA,nS] at this ⊢;rw[show(k+1)*3=k*3+1+1+1 from by omega,show k*3+1+1+1+2=k*3+2+1+1+1 from by omega];simpa using this
def oe{B:Nat}{t:List zg}(h:w.ownsRow B 221 3 (.slice (some ⟨g,0,none⟩) n cap) m (uh t))(k:Nat)(d:k<t.length)(e:zg):
  (((w.setCell ⟨g,k*3,none⟩ (.string e.name)).setCell ⟨g,k*3+1,none⟩ (ι (e.ji:Int))).setCell ⟨g,k*3+2,none⟩ (ι (e.qh:Int))).ownsRow B 221 3 (.slice (some ⟨g,0,none⟩) n cap) m (uh (t.set k e)):=by
 have f:=oF t;rw[←DL t k e d];exact uj (uj (uj h _ (by omega) _) _ (by simp;omega) _) _ (by simp;omega) _
structure vZ (tb:Nat) (w w':World):Prop where
 size:w.heap.size<=w'.heap.size
 box:∀b c T,b≠tb->T≠221->Rz w b c T->Rz w' b c T
def vZ.trans{a b c:World}(h:vZ tb a b)(k:vZ tb b c):vZ tb a c:=⟨zZ h.size k.size,λx y z e d f=>k.box x y z e d (h.box x y z e d f)⟩
def vZ.of(h:μ w w'):vZ tb w w':=⟨h.size,λ_ _ _ _ _ k=>k.below h⟩
def vZ.drew{tb:Nat}{w w':World}(h:vZ tb w w'):vZ tb w w'.drew:=⟨h.size,λb c T e d f=>(h.box b c T e d f).drew⟩
def vZ.setRow(h:vZ tb w w'){B:Nat}(j:w'.ownsRow B 221 3 (.slice (some ⟨g,0,none⟩) n cap) m xs)(o:Nat)(u:Value):vZ tb w (w'.setCell ⟨g,o,none⟩ u):=by
 refine⟨by simp[World.setCell];exact h.size,λb c T i e f=>?_⟩;have d:=h.box b c T i e f;have:=fU j d (Ne.symm e);simp only[Value.ownBlock,ne_eq,zr] at this;exact d.set_ne this _ _
def BW(h:vZ tb w w'){B:Nat}{t:List zg}(d:w'.ownsRow B 221 3 (.slice (some ⟨g,0,none⟩) n cap) m (uh t))(k:Nat)(f:k<t.length)(u1 u2 u3:Value):
  vZ tb w (((w'.setCell ⟨g,k*3,none⟩ u1).setCell ⟨g,k*3+1,none⟩ u2).setCell ⟨g,k*3+2,none⟩ u3):=by
 have e:=oF t;exact((h.setRow d _ _).setRow (uj d _ (by omega) _) _ _).setRow (uj (uj d _ (by omega) _) _ (by simp;omega) _) _ _
def Rw:(prog.info? 221).map (λi=>(i.zero,i.size,i.bytes))=some (some (.agg #[.string ByteArray.empty,ι 0,ι 0]),3,32):=by kernel_rfl
def Cp(B:Nat)(w:World)(tb:Nat)(t:List zg)(i:Nat)(x:zg)(h:TA B w tb t)(hl:t.length<=1000)(hi:i<=t.length)(hB:B<=w.heap.size)(ae:B<=tb):
  Calls prog 147 #[(π tb),ι i,.agg #[.string x.name,ι x.ji,ι x.qh]] w λe w'=>e=ε (.tuple #[])/\TA B w' tb (t.take i++x::t.drop i)/\Below B w w'/\vZ tb w w':=by
 obtain⟨i0,Y,ad,X,R⟩:=info_parts Rw;obtain⟨ao,cap,D,p⟩:=h.view;obtain⟨hc,hf,aq⟩:=D.boxed;have y:μ w (((w.alloc (.cells #[.string x.name,ι (x.ji:Int),ι (x.qh:Int)] 221)).alloc (.cells #[.string x.name,ι (x.ji:Int),ι (x.qh:Int)] 221)).drew):=(by go_grown);go_enter func147,ntmps147;go_wp2;go_region_law (first|(refine Ai w _ [.string x.name,ι (x.ji:Int),ι (x.qh:Int)] 221 rfl (.tmp 11) (.tmp 13) 125 rfl B 221 i0 _ 3 32 underlying125 Y ad X R rfl (by decide) _ _ _ (by simp[Act.eval]) p (by exact(by go_grown)) (w.heap.size+1) 1 (by simp[Act.eval]) (by exact Rz.drew (Rz.newAt _ _ _ _ (by simp))) rfl (by simp[Value.oneCell']) (by omega) (by omega) hB ?_;intro v' w2 E F C ag;obtain⟨A,r,rfl⟩:=zq E;have q:=(D.below y).keep (fU p D (by decide)) C;obtain⟨an,ar⟩:=q.rules;have H:=Rz.keep (Rz.drew ((Rz.new w _ _).below zP)) (N5 p (zf _)) C))
 all_goals
  go_wp2;go_loopw [6] (λk wr=>∃j:Nat,i<=j/\j<=t.length/\k=ι j/\Rz wr tb #[.slice A (t.length+1) r] 127/\wr.ownsRow B 221 3 (.slice A (t.length+1) r) (t.length+1) (uh (vr t x j))/\Rz wr w.heap.size #[.string x.name,ι (x.ji:Int),ι (x.qh:Int)] 221/\Below B w wr/\vZ tb w wr) (λk _=>(intOf k).toNat);refine⟨t.length,hi,zf _,rfl,q.set 0 _,?_,H.set_ne (by omega) _ _,?_,?_⟩;rw[Ip];have:=xF E ((RD.refl tb w2).setCell 0 (.slice A (t.length+1) r)) q (by decide);simpa [uh] using this;exact F.setCell ae _;exact⟨by simp[World.setCell];exact F.size,λb c T h1 h2 h3=>((h3.below y).keep (fU p h3 (Ne.symm h2)) C).set_ne h1 _ _⟩;obtain⟨j,am,au,rfl,s,l,z,G,u⟩:=hrel;obtain⟨aj,al⟩:=s.rules;obtain⟨ai,ah⟩:=z.rules;by_cases af:i<j
  .obtain⟨j,rfl⟩:∃j',j=j'+1:=⟨j-1,by omega⟩;obtain⟨ac,J⟩:=JZ t x j (by omega);obtain⟨g,rfl,hg,ap,N,ab,O⟩:=kJ (t:=vr t x (j+1)) (by rw[fD];exact l) j ac;rw[J] at N ab O;have ak:=uH l;have d:=fU l s (by decide);have f:=LY l z (by simp;omega);simp only[Value.ownBlock,ne_eq,zr] at d;obtain⟨W,M⟩:=Mw t x (j+1) (by omega);obtain⟨g',I,_,_,U,aa,Z⟩:=kJ (t:=vr t x (j+1)) (by rw[fD];exact l) (j+1) W;simp at I;subst I;rw[M] at U aa Z;clear J M;go_wp2;go_region
   go_wp2;go_region
   go_wp2;have L:=oe (oe l (j+1) (by rw[fD];omega) t[j]) j (by rw[gx,fD];omega) x;have V:=BW (BW u l (j+1) (by rw[fD];omega) (.string t[j].name) (ι (t[j].ji:Int)) (ι (t[j].qh:Int))) (oe l (j+1) (by rw[fD];omega) t[j]) j (by rw[gx,fD];omega) (.string x.name) (ι (x.ji:Int)) (ι (x.qh:Int));rw[IC t x j (by omega)] at L;go_roundw;exact⟨j,by omega,by omega,rfl,(((((((s.set_ne d _ _).set_ne d _ _).set_ne d _ _).set_ne d _ _).set_ne d _ _).set_ne d _ _).drew).drew,L.drew.drew,(((((((z.set_ne f _ _).set_ne f _ _).set_ne f _ _).set_ne f _ _).set_ne f _ _).set_ne f _ _).drew).drew,(by go_grown),V.drew.drew⟩;simp[intOf]
  have S:j=i:=by omega
  subst S;go_wp2;go_end0
  exact⟨rfl,⟨_,s,by rw[show(t.take j++x::t.drop j).length=t.length+1 from fD t x j];exact l⟩,G,u⟩
end
section
open Go.Proofs.Tryz Go.RowKit
def Hg(a b:Nat):((a:Int) == (b:Int))=decide (a=b):=by
 by_cases h:a=b;subst h;simp;rw[decide_eq_false h,beq_eq_false_iff_ne];omega
def Jc{a b:Bool}(h:a=b):Ending.returned (.bool a)=ε (.bool b):=by rw[h]
def vz(t:List zg)(l:zk):Option (List zg):=match zU t l.pred with
 |some e=>if e.ji=l.args.length then some t else none
 |none=>some (vr t ⟨l.pred,l.args.length,0⟩ (zT t l.pred))
def Cc(B:Nat)(w:World)(tb:Nat)(t:List zg)(l:zk)(b:Option Addr)(a:Nat)(h:TA B w tb t)(u:t.length<=1000)(o:zg)(q:zU t l.pred=some o):
  Calls prog 102 #[(π tb),.agg #[.bool l.neg,.string l.pred,.slice b l.args.length a]] w λe n=>e=ε (.bool (decide (o.ji=l.args.length)))/\μ w n:=by
 obtain⟨y,r,f,d⟩:=h.view;have v:=f.lt;have i:=(zp w.heap.size w).alloc (zf _) (.cells #[.bool l.neg,.string l.pred,.slice b l.args.length a] 90);have c:=Ry (wW B _ tb t l.pred (h.below i) u);obtain⟨z,A⟩:=f.rules;obtain⟨p,k,s⟩:=jj q;obtain⟨g,rfl,x,_,j,m,_⟩:=kJ d _ p;rw[k] at j m;go_enter func102,ntmps102;go_wp2_with (go_at_call 126;refine c.out.mono ?_;rintro e n ⟨rfl,rfl⟩;clear c)
 go_quiet (fail)
 go_wp2;go_quiet (fail)
 go_wp2;go_ret;exact⟨Jc (Hg _ _),(by repeat'(first|with_reducible(first|apply zR|assumption|apply zN|apply zA|apply zD|apply zS)|go_size))⟩
def Kw(B:Nat)(w:World)(tb:Nat)(t:List zg)(l:zk)(j:Option Addr)(d:Nat)(h:TA B w tb t)(v:t.length<=1000)(z:zU t l.pred=none)(s:B<=w.heap.size)(q:B<=tb):
  Calls prog 102 #[(π tb),.agg #[.bool l.neg,.string l.pred,.slice j l.args.length d]] w λe o=>e=ε (.bool true)/\TA B o tb (vr t ⟨l.pred,l.args.length,0⟩ (zT t l.pred))/\Below B w o/\vZ tb w o:=by
 obtain⟨I,E,r,p⟩:=h.view;have G:=r.lt;have m:=Ah t l.pred;have a:=(zp w.heap.size w).alloc (zf _) (.cells #[.bool l.neg,.string l.pred,.slice j l.args.length d] 90);have c:=Ry (wW B _ tb t l.pred (h.below a) v);obtain⟨K,L⟩:=r.rules;have x:=h;have n:=Ry x;have A:Hid (vr t ⟨l.pred,l.args.length,0⟩ (zT t l.pred)=t.take (zT t l.pred)++⟨l.pred,l.args.length,0⟩::t.drop (zT t l.pred)):=rfl;rcases sW z with y|⟨y,u⟩
 .clear z;generalize zT t l.pred=k at *;go_enter func102,ntmps102;go_wp2_with (go_at_call 126;refine c.out.mono ?_;rintro e o ⟨rfl,rfl⟩;clear c)
  go_quiet (fail)
  go_wp2_with (go_at_call 147;refine(Cp B _ tb t k ⟨l.pred,l.args.length,0⟩ (by exact n.out.below (by repeat'(first|with_reducible(first|apply zR|assumption|apply zN|apply zA|apply zD|apply zS)|go_size))) v m (by exact zZ s (by simp)) q).mono ?_;rintro e D ⟨rfl,i,f,b⟩)
  go_ret;exact⟨rfl,i,((zI (a.mono s) _)).trans f,(vZ.of (zI a _)).trans b⟩
 obtain⟨g,rfl,H,_,C,F,_⟩:=kJ p _ y;have J:=qb u;generalize zT t l.pred=k at *;go_enter func102,ntmps102;go_wp2_with (go_at_call 126;refine c.out.mono ?_;rintro e o ⟨rfl,rfl⟩;clear c)
 go_quiet (fail)
 go_wp2_with (go_at_call 147;refine(Cp B _ tb t k ⟨l.pred,l.args.length,0⟩ (by exact n.out.below (by repeat'(first|with_reducible(first|apply zR|assumption|apply zN|apply zA|apply zD|apply zS)|go_size))) v m (by exact zZ s (by simp)) q).mono ?_;rintro e D ⟨rfl,i,f,b⟩)
 go_ret;exact⟨rfl,i,((zI (a.mono s) _)).trans f,(vZ.of (zI a _)).trans b⟩
end
section
open Go.Proofs.Tryz Go.RowKit
variable {lo:Nat}{t:List zg}{o:Option (List zg)}
def A9{a:List zg}{l:zk}(h:vz t l=some a):a.length<=t.length+1:=by
 unfold vz at h;split at h;split at h<;>simp at h;subst h;omega
 simp at h;subst h;rw[fD];omega
def Qm{c:List zg}{l:zk}(h:vz t l=some c)(b:∀e∈t,e.qh<=0):∀e∈c,e.qh<=0:=by
 unfold vz at h;split at h;split at h<;>simp at h;subst h;exact b
 simp at h;subst h;intro e a;unfold vr at a;rcases zW.1 a with a|a;exact b e (dJ a);rcases zy.1 a with a|a;subst a;exact zf _;exact b e (dT a)
def uv(o:Option (List zg))(l:zk):Option (List zg):=o.bind (vz · l)
def zm(c:zd):List zk:=c.head::c.body
def uq(cs:List zd):Option (List zg):=(cs.flatMap zm).foldl uv (some [])
def pM(b:List zk):b.foldl uv none=none:=by
 induction b with
 |nil=>rfl
 |cons a b c=>exact c
def ev:∀(b:List zk) (t:List zg),(∀e∈t,e.qh<=0)->∀a,b.foldl uv (some t)=some a->∀e∈a,e.qh<=0
 |[],t,d,a,h=>by simp at h;subst h;exact d
 |l::b,t,d,a,h=>by
  simp only[uu] at h;cases c:vz t l with
  |none=>rw[show uv (some t) l=none from c,pM] at h;cases h
  |some f=>rw[show uv (some t) l=some f from c] at h;exact ev b f (Qm c d) a h
def wF:∀(b:List zk) (t:List zg),∀a,b.foldl uv (some t)=some a->a.length<=t.length+b.length
 |[],t,a,h=>by simp at h;subst h;simp
 |l::b,t,a,h=>by
  simp only[uu] at h;cases c:vz t l with
  |none=>rw[show uv (some t) l=none from c,pM] at h;cases h
  |some d=>rw[show uv (some t) l=some d from c] at h;have:=wF b d a h;have:=A9 c;simp;omega
def AN(B:Nat)(w:World)(tb:Nat)(t:List zg)(l:zk)(c:Option Addr)(a:Nat)(h:TA B w tb t)(i:t.length<=1000)(b:vz t l=none):
  Calls prog 102 #[(π tb),.agg #[.bool l.neg,.string l.pred,.slice c l.args.length a]] w λe j=>e=ε (.bool false)/\μ w j:=by
 unfold vz at b;split at b;rename_i f g;split at b;cases b;rename_i d;have:=Cc B w tb t l c a h i f g;rw[decide_eq_false d] at this;exact this;cases b
def Bd(B:Nat)(w:World)(tb:Nat)(t n:List zg)(l:zk)(c:Option Addr)(a:Nat)(h:TA B w tb t)(m:t.length<=1000)(b:vz t l=some n)(k:B<=w.heap.size)(i:B<=tb):
  Calls prog 102 #[(π tb),.agg #[.bool l.neg,.string l.pred,.slice c l.args.length a]] w λe d=>e=ε (.bool true)/\TA B d tb n/\Below B w d/\vZ tb w d:=by
 unfold vz at b;split at b;rename_i p g;split at b;rename_i j;simp at b;subst b;have:=Cc B w tb t l c a h m p g;rw[decide_eq_true j] at this;refine this.mono ?_;rintro e d ⟨rfl,f⟩;exact⟨rfl,h.below f,f.mono k,vZ.of f⟩;cases b;rename_i g;simp at b;subst b;exact Kw B w tb t l c a h m g k i
def ic(o:Option (List zg))(w:World)(e:Ending)(w':World):Prop:=
 μ w w'/\match o with
  |none=>e=ε (.tuple #[.agg #[ν],.bool false])
  |some t=>∃a,e=ε (.tuple #[.agg #[a],.bool true])/\w'.ownsRow w.heap.size 221 3 a t.length (uh t)
def B3{w w':World}(h:Hid (o=none))(b:μ w w'):ic o w (ε (.tuple #[.agg #[ν],.bool false])) w':=by
 have a:o=none:=h;subst a;exact⟨b,rfl⟩
def KD{w w':World}{a:Value}(h:Hid (o=some t))(d:μ w w')(c:w'.ownsRow w.heap.size 221 3 a t.length (uh t)):ic o w (ε (.tuple #[.agg #[a],.bool true])) w':=by
 have b:o=some t:=h;subst b;exact⟨d,a,rfl,c⟩
def Ck(w:World)(v:Value)(cs:List zd)(J:Se lo 171 w v cs)(hN:(cs.flatMap zm).length<=1000):
  Calls prog 62 #[v] w λe w'=>ic (uq cs) w e w':=by
 obtain⟨ao,aB,rfl⟩:=J.qy;have a3:cs.length<=1000:=by
  have:cs.length<=(cs.flatMap zm).length:=by
   clear hN J;induction cs with
   |nil=>simp
   |cons c cs ih=>simp[zm] at ih ⊢;omega
  omega
 go_enter func62,ntmps62;go_wp2;go_loopw [11] (λi wr=>∃(k:Nat) (tk:List zg),k<=cs.length/\i=ι k/\μ w wr/\TA w.heap.size wr (w.heap.size+1) tk/\Rz wr w.heap.size #[ν] 127/\tk.length+((cs.drop k).flatMap zm).length<=1000/\Hid (uq cs=((cs.drop k).flatMap zm).foldl uv (some tk))) (λi _=>cs.length-(intOf i).toNat);have u:=(zp w.heap.size w).alloc (zf _) (.cells #[ν] 127);exact⟨0,[],zv _,rfl,(by go_grown),⟨_,Rz.newAt _ _ _ _ (by simp),yW _ _ _ _⟩,(Rz.new w _ _).below zP,(by simpa using hN),rfl⟩;obtain⟨k,tk,hk,rfl,l,x,f,W,H⟩:=hrel;have C:=l.size;have af:=f.lt;have a6:w.heap.size+1<wr.heap.size:=by obtain⟨_,hb,_⟩:=x;exact hb.lt
 by_cases X:k<cs.length
 .have I:=xh X;obtain⟨g,a2,av,aE,aw,rfl,hg,Q,Z,P,N,aq,ar⟩:=J.cell k X;have a5:=zl l hg Q;have aG:=zl l hg Z;have a9:=zl l hg P;have aA:=zl l hg N;have aH:g<wr.heap.size:=by omega
  clear Q Z P N aq;generalize cs[k]=c at *;rw[I] at W;have H1:Hid (uq cs=(c.body++(cs.drop (k+1)).flatMap zm).foldl uv (uv (some tk) c.head)):=by rw[Hid,H.out,I];rfl
  simp only[uA,zm,yC,xr] at W;generalize hR:(cs.drop (k+1)).flatMap zm=rest at *;have HR:=Ry hR;clear hR H I;rcases h:vz tk c.head with _|t1
  .have L:=Ry h;have S:Hid (uq cs=none):=by rw[Hid,H1.out,show uv (some tk) c.head=none from h,pM]
   clear H1 h;go_wp2_with (go_at_call 102;refine(AN w.heap.size _ (w.heap.size+1) tk c.head _ _ (by exact x.below (by go_grown)) (by omega) L).mono ?_;rintro e w1 ⟨rfl,u⟩;have ad:=R5 ((zp wr.heap.size wr).alloc (zf _) _) u;have ac:=R5 l ad;have d:=f.below ad;obtain⟨q,aa,au⟩:=d.boxed)
   exact zO (v:=.tuple #[.agg #[ν],.bool false]) (by simp[results,results62,go_sem,q]) rfl (B3 S (by go_grown))
  have L:=Ry h;have aD:=A9 h;have H2:Hid (uq cs=(c.body++rest).foldl uv (some t1)):=by rw[Hid,H1.out,show uv (some tk) c.head=some t1 from h]
  clear H1 h;go_wp2_with (go_at_call 102;refine(Bd w.heap.size _ (w.heap.size+1) tk t1 c.head _ _ (by exact x.below (by go_grown)) (by omega) L (by exact zZ C (by simp)) (by omega)).mono ?_;rintro e w1 ⟨rfl,aj,u,D⟩;have ac:=(l.alloc C _).trans u;have d:=D.box _ _ _ (by omega) (by decide) (f.below zP);have V:=D.box _ _ _ (by omega) (by decide) (Rz.new wr _ _);obtain⟨al,ag,ap⟩:=V.boxed;have au:=d.lt)
  go_loopw [23] (λi wj=>∃(j:Nat) (p:List zg),j<=c.body.length/\i=ι j/\μ w wj/\TA w.heap.size wj (w.heap.size+1) p/\Rz wj w.heap.size #[ν] 127/\p.length+(c.body.drop j).length+rest.length<=1000/\Hid (uq cs=(c.body.drop j++rest).foldl uv (some p))) (λi _=>c.body.length-(intOf i).toNat);exact⟨0,t1,zv _,rfl,ac,aj,d,(by simp;omega),H2⟩;clear al ag V ap;obtain⟨j,p,hj,rfl,m,s,b,O,HJ⟩:=hrel;have A:=m.size;have ai:=b.lt;by_cases Y:j<c.body.length
  .obtain⟨gl,a4,ay,rfl,K,M,z,B,_⟩:=ar.cell j Y;have a0:=zl m K M;have a7:=zl m K z;have aC:=zl m K B;have aF:gl<wr.heap.size:=by omega
   have F:=xh Y;clear M z B;generalize c.body[j]=a at *;rw[F] at O;have r:Hid (uq cs=(c.body.drop (j+1)++rest).foldl uv (uv (some p) a)):=by rw[Hid,HJ.out,F];rfl
   simp only[xr] at O;clear F HJ;rcases h:vz p a with _|t2
   .have L:=Ry h;have S:Hid (uq cs=none):=by rw[Hid,r.out,show uv (some p) a=none from h,pM]
    clear r h;go_wp2_with (go_at_call 102;refine(AN w.heap.size _ (w.heap.size+1) p a _ _ (by exact s.below (by go_grown)) (by omega) L).mono ?_;rintro e w3 ⟨rfl,G⟩;have T:=R5 ((zp wr.heap.size wr).alloc (zf _) _) G;have E:=R5 m T;have n:=b.below T;obtain⟨q,aa,a1⟩:=n.boxed)
    exact zO (v:=.tuple #[.agg #[ν],.bool false]) (by simp[results,results62,go_sem,q]) rfl (B3 S (by go_grown))
   have L:=Ry h;have a8:=A9 h;have am:Hid (uq cs=(c.body.drop (j+1)++rest).foldl uv (some t2)):=by rw[Hid,r.out,show uv (some p) a=some t2 from h]
   have ax:w.heap.size+1<wr.heap.size:=by obtain⟨_,hb,_⟩:=s;exact hb.lt
   clear r h;go_wp2_with (go_at_call 102;refine(Bd w.heap.size _ (w.heap.size+1) p t2 a _ _ (by exact s.below (by go_grown)) (by omega) L (by exact zZ A (by simp)) (by omega)).mono ?_;rintro e w3 ⟨rfl,ak,G,ab⟩;have E:=(m.alloc A _).trans G;have n:=ab.box _ _ _ (by omega) (by decide) (b.below zP))
   go_roundw;exact⟨j+1,t2,by omega,by go_num,E,ak,n,by omega,am⟩;simp[intOf];omega
  have HE:Hid (uq cs=((cs.drop (k+1)).flatMap zm).foldl uv (some p)):=by rw[Hid,HJ.out,ua (by omega),HR.out];rfl
  have an:p.length+rest.length<=1000:=by omega
  clear HJ;go_wp2;go_roundw;exact⟨k+1,p,by omega,by go_num,m,s,b,by rw[HR.out];exact an,HE⟩;simp[intOf];omega
 have S:Hid (uq cs=some tk):=by rw[Hid,H.out,ua (by omega)];rfl
 obtain⟨ae,y,R,U⟩:=x.view;obtain⟨hc,hf⟩:=R.rules;obtain⟨q,aa⟩:=f.rules;have az:=R.lt;clear H;go_wp2;have ah:=xF U ((RD.refl w.heap.size wr).setCell 0 (.slice ae tk.length y)) f (by decide);exact zO (v:=.tuple #[.agg #[.slice ae tk.length y],.bool true]) (by simp[results,results62,go_sem,q]) rfl (KD S (by go_grown) ah)
end
section
open Go.RowKit
variable {lo:Nat}
def C8(l:zk):Prop:=l.pred.size<=6/\0<l.pred.size/\l.args.length<=1000/\∀t∈l.args,0<t.size/\t.size<=6
def eG(c:zd):Prop:=(∀l∈zm c,C8 l)/\c.body.length<=1000
end
section
open Go.Proofs.Tryz Go.RowKit
variable {lo:Nat}{r r2:List R8}
def kK(l:zk):Nat:=l.args.length+1
def SX(a:List zk):Nat:=a.foldr (λl n=>kK l+n) 0
def Tq(c:zd):Nat:=kK c.head+SX c.body
def Ta(cs:List zd):Nat:=cs.foldr (λc n=>Tq c+n) 0
def EQ:∀(r:List R8) {ts:κ} {r2:List R8},yq r=some (ts,r2)->ts.length+r2.length<=r.length
 |[],_,_,h=>by simp[yq] at h
 |[x],ts,r2,h=>by
  simp only[yq] at h;split at h<;>simp at h
  obtain⟨rfl,rfl⟩:=h;simp
 |x::y::r,ts,r2,h=>by
  simp only[yq] at h;split at h
  .split at h
   .cases a:yq r with
    |none=>rw[a] at h;simp at h
    |some z=>
     obtain⟨b,c⟩:=z;rw[a] at h;simp at h;have:=EQ r a;obtain⟨rfl,rfl⟩:=h;simp;omega
   .simp at h;obtain⟨rfl,rfl⟩:=h;simp;omega
  .simp at h
def oG{a:zk}(h:xo r=some (a,r2)):kK a+r2.length<=r.length:=by
 rcases r with _|⟨x,r⟩;simp[xo,RP] at h;unfold xo at h;split at h;split at h;split at h;simp at h;rename_i d c b;have:=EQ _ b;split at h<;>simp at h
 obtain⟨rfl,rfl⟩:=h;simp[kK] at this ⊢;omega;simp at h;obtain⟨rfl,rfl⟩:=h;simp[kK];omega;simp at h
def OI{a:zk}(h:uK r=some (a,r2)):kK a+r2.length<=r.length:=by
 unfold uK at h;split at h;rcases b:xo r.tail with _|z;rw[b] at h;simp at h;obtain⟨d,c⟩:=z;rw[b] at h;simp at h;have:=oG b;obtain⟨rfl,rfl⟩:=h;simp[kK] at this ⊢;omega;exact oG h
def PU{n:Nat}:∀{r r2:List R8} {b:List zk},xW n r=some (b,r2)->SX b+r2.length<=r.length:=by
 induction n with
 |zero=>intro r r2 b h;simp[xW] at h
 |succ n g=>
  intro r r2 b h;rcases c:uK r with _|z;rw[rS c] at h;cases h;obtain⟨a,f⟩:=z;have:=OI c;by_cases e:RP f=6;rw[pR c e] at h;rcases d:xW n f.tail with _|z;rw[d] at h;simp at h;rw[d] at h;simp at h;have:=g d;obtain⟨rfl,rfl⟩:=h;simp[SX] at this ⊢;omega;rw[py c e] at h;simp at h;obtain⟨rfl,rfl⟩:=h;simp[SX];omega
def Kl{n:Nat}{c:zd}(h:vl n r=some (c,r2)):Tq c+r2.length<=r.length:=by
 unfold vl at h;split at h;cases h;rename_i a g d;have:=oG d;split at h;split at h;cases h;rename_i b f e;have:=PU e;split at h<;>simp at h
 obtain⟨rfl,rfl⟩:=h;simp[Tq] at this ⊢;omega;split at h<;>simp at h
 obtain⟨rfl,rfl⟩:=h;simp[Tq,SX];omega
def tS{d:Nat}:∀{m:Nat} {r:List R8} {cs:List zd},yO d m r=some cs->Ta cs<=r.length
 |_,[],cs,h=>by simp[yO] at h;subst h;simp[Ta]
 |0,_::_,cs,h=>by simp[yO] at h
 |m+1,x::r,cs,h=>by
  cases b:vl d (x::r) with
  |none=>rw[tK (by simp) b] at h;cases h
  |some z=>
   obtain⟨c,r2⟩:=z;rw[ry (by simp) b] at h;cases a:yO d m r2 with
   |none=>rw[a] at h;simp at h
   |some e=>
    rw[a] at h;simp at h;subst h;have f:=Kl b;have g:=tS a;simp only[Ta,List.foldr_cons,xr] at f g ⊢;omega
def sO(b:List zk):xg b+b.length=SX b:=by
 induction b with
 |nil=>rfl
 |cons a b c=>simp[xg,SX,kK] at c ⊢;omega
def eJ{cs:List zd}{c:zd}(h:c∈cs):Tq c<=Ta cs:=by
 induction cs with
 |nil=>cases h
 |cons a cs b=>
  rcases zy.1 h with rfl|h;simp[Ta];have:=b h;simp[Ta] at this ⊢;omega
def A5(cs:List zd):(cs.flatMap zm).length<=Ta cs:=by
 induction cs with
 |nil=>simp
 |cons a cs b=>have:=sO a.body;simp[Ta,Tq,zm,kK] at b ⊢;omega
def eC(cs:List zd):cs.length<=Ta cs:=by
 induction cs with
 |nil=>simp
 |cons a cs b=>simp[Ta,Tq,kK] at b ⊢;omega
def As{cs:List zd}(h:Ta cs<=1000):∀c∈cs,vT c:=λc a=>by
 have b:=eJ a;have d:=sO c.body;unfold Tq kK at b;exact⟨by omega,by omega⟩
def A8:∀(n:Nat) (s:ByteArray) (i:Nat) (l:List (Int×ByteArray)),RH n s i=some l->l.length<=s.size-i
 |0,_,_,l,h=>by simp[RH] at h;subst h;simp
 |n+1,s,i,l,h=>by
  unfold RH at h;split at h
  .rename_i c;split at h
   .have:=A8 n s (i+1) l h;omega
   .split at h
    .cases h
    .rename_i d;split at h
     .cases h
     .cases a:RH n s (yr s i (xp (RA s i) (RA s (i+1)))) with
      |none=>rw[a] at h;simp at h
      |some b=>
       rw[a] at h;simp at h;subst h;have:=A8 n s _ b a;have:=rO s i _ c rfl d;simp;omega
  .simp at h;subst h;simp
def wK{s:ByteArray}{l:List R8}(h:RC s=some l):l.length<=s.size:=by have:=A8 _ s 0 l h;omega
def ur(s:ByteArray):Except Int (List zd×List zg):=
 if 500<s.size then .error 1 else
 match RC s with
 |none=>.error 2
 |some l=>
  match yO l.length l.length l with
  |none=>.error 3
  |some a=>
   if a.any yM then .error 4 else
   match uq a with
   |none=>.error 5
   |some t=>
    if a.all xt then
     if (xX (t.length+1) t a).2 then .ok (a,(xX (t.length+1) t a).1) else .error 7
    else .error 6
def lI(o:Except Int (List zd×List zg))(w:World)(e:Ending)(w':World):Prop:=
 μ w w'/\match o with
  |.error n=>e=ε (.tuple #[.pointer none,ι n])
  |.ok (c,t)=>∃a v b,e=ε (.tuple #[(π a),ι 0])/\Rz w' a #[v,b] 131/\Se w.heap.size 171 w' v c/\w'.ownsRow w.heap.size 221 3 b t.length (uh t)/\w.heap.size<=a
def On(s:ByteArray)(w:World)(hs:s.size<=500)(h:RC s=none):Calls prog 59 #[.string s] w λe b=>e=ε (.tuple #[ν,.bool false])/\μ w b:=by
 refine(Fy s w hs).mono ?_;rintro e b ⟨c,a⟩;rw[h] at a;exact⟨a,c⟩
def pu(s:ByteArray)(w:World)(l:List R8)(hs:s.size<=500)(h:RC s=some l):Calls prog 59 #[.string s] w λe d=>∃v,e=ε (.tuple #[v,.bool true])/\d.ownsRow w.heap.size 182 2 v l.length (jP l)/\l.length<=500/\μ w d:=by
 refine(Fy s w hs).mono ?_;rintro e d ⟨g,f⟩;rw[h] at f;obtain⟨v,a,b,c⟩:=f;exact⟨v,a,b,by omega,g⟩
def Ha(w:World)(b:Value)(l:List R8)(a:Nat)(i:w.ownsRow a 182 2 b l.length (jP l))(g:l.length<=500)(h:yO l.length l.length l=none):
  Calls prog 60 #[b] w λe d=>e=ε (.tuple #[ν,.bool false])/\μ w d:=by
 refine(SD w b l a i g).mono ?_;rintro e d ⟨f,c⟩;rw[h] at c;exact⟨c,f⟩
def rZ(w:World)(d:Value)(l:List R8)(c:Nat)(cs:List zd)(k:w.ownsRow c 182 2 d l.length (jP l))(j:l.length<=500)(h:yO l.length l.length l=some cs):
  Calls prog 60 #[d] w λe f=>∃v,e=ε (.tuple #[v,.bool true])/\Se w.heap.size 171 f v cs/\μ w f:=by
 refine(SD w d l c k j).mono ?_;rintro e f ⟨i,g⟩;rw[h] at g;obtain⟨v,a,b⟩:=g;exact⟨v,a,b,i⟩
def Pb(w:World)(v:Value)(cs:List zd)(a:Se lo 171 w v cs)(d:(cs.flatMap zm).length<=1000)(h:uq cs=none):
  Calls prog 62 #[v] w λe c=>e=ε (.tuple #[.agg #[ν],.bool false])/\μ w c:=by
 refine(Ck w v cs a d).mono ?_;rintro e c ⟨f,b⟩;rw[h] at b;exact⟨b,f⟩
def Af(w:World)(v:Value)(cs:List zd)(t:List zg)(c:Se lo 171 w v cs)(i:(cs.flatMap zm).length<=1000)(h:uq cs=some t):
  Calls prog 62 #[v] w λe d=>∃f,e=ε (.tuple #[.agg #[f],.bool true])/\d.ownsRow w.heap.size 221 3 f t.length (uh t)/\μ w d:=by
 refine(Ck w v cs c i).mono ?_;rintro e d ⟨j,g⟩;rw[h] at g;obtain⟨v,a,b⟩:=g;exact⟨v,a,b,j⟩
def Lo(s:ByteArray)(w:World)(hs:500<s.size)(b:s.size<=9223372036854775807):
  Calls prog 32 #[.string s] w λe a=>lI (.error 1) w e a:=by
 go_enter func32,ntmps32;go_wp2;go_ret2
 exact⟨zp _ _,rfl⟩
def KB(s:ByteArray)(w:World)(hs:s.size<=500)(b:RC s=none):
  Calls prog 32 #[.string s] w λe d=>lI (.error 2) w e d:=by
 have c:=Ry b;clear b;go_enter func32,ntmps32;go_wp2_with (go_at_call 59;refine(On s _ hs c).mono ?_;rintro e f ⟨rfl,a⟩)
 go_ret2
 exact⟨a,rfl⟩
def Is(s:ByteArray)(w:World)(hs:s.size<=500)(l:List R8)(g:RC s=some l)(h:yO l.length l.length l=none):
  Calls prog 32 #[.string s] w λe n=>lI (.error 3) w e n:=by
 have k:=Ry g;have j:=Ry h;clear g h;go_enter func32,ntmps32;go_wp2_with (first|(go_at_call 59;refine(pu s _ l hs k).mono ?_;rintro e p ⟨q,rfl,a,d,c⟩;obtain⟨m,i,rfl⟩:=zq a)|(go_at_call 60;refine(Ha _ _ l _ a d j).mono ?_;rintro e o ⟨rfl,f⟩;have b:=R5 c f))
 go_ret2
 exact⟨b,rfl⟩
def J3(s:ByteArray)(w:World)(hs:s.size<=500)(l:List R8)(cs:List zd)(G:cs.any yM=true)(y:RC s=some l)(z:yO l.length l.length l=some cs)(p:∀c∈cs,vT c)(f:cs.length<=1000):
  Calls prog 32 #[.string s] w λe x=>lI (.error 4) w e x:=by
 have B:=Ry y;have v:=Ry z;have k:=Ry p;have d:=Ry f;go_enter func32,ntmps32;go_wp2_with (first|(go_at_call 59;refine(pu s _ l hs B).mono ?_;rintro e H ⟨E,rfl,b,h,o⟩;obtain⟨u,q,rfl⟩:=zq b)|(go_at_call 60;refine(rZ _ _ l _ cs b h v).mono ?_;rintro e C ⟨F,rfl,a,n⟩;obtain⟨A,t,rfl⟩:=a.qy;have j:=R5 o n)|(go_at_call 61;refine(sy _ _ cs a k.out d.out).mono ?_;rintro e D ⟨rfl,g⟩;have m:=R5 j g;have i:=a.below g))
 go_ret2
 exact⟨m,rfl⟩
def PH(s:ByteArray)(w:World)(hs:s.size<=500)(l:List R8)(cs:List zd)(O:cs.any yM=false)(E:RC s=some l)(F:yO l.length l.length l=some cs)(v:∀c∈cs,vT c)(i:cs.length<=1000)(f:(cs.flatMap zm).length<=1000)(C:uq cs=none):
  Calls prog 32 #[.string s] w λe B=>lI (.error 5) w e B:=by
 have H:=Ry E;have A:=Ry F;have p:=Ry v;have h:=Ry i;have g:=Ry f;have D:=Ry C;go_enter func32,ntmps32;go_wp2_with (first|(go_at_call 59;refine(pu s _ l hs H).mono ?_;rintro e P ⟨M,rfl,b,k,u⟩;obtain⟨z,x,rfl⟩:=zq b)|(go_at_call 60;refine(rZ _ _ l _ cs b k A).mono ?_;rintro e J ⟨N,rfl,a,t⟩;obtain⟨G,y,rfl⟩:=a.qy;have o:=R5 u t)|(go_at_call 61;refine(sy _ _ cs a p.out h.out).mono ?_;rintro e L ⟨rfl,j⟩;have q:=R5 o j;have d:=a.below j)|(go_at_call 62;refine(Pb _ _ cs d g.out D).mono ?_;rintro e K ⟨rfl,n⟩;have m:=R5 q n;have I:=m.size))
 go_ret2
 exact⟨(by go_grown),rfl⟩
def PB(s:ByteArray)(w:World)(hs:s.size<=500)(l:List R8)(cs:List zd)(t:List zg)(Z:cs.any yM=false)(J:cs.all xt=false)(P:RC s=some l)(Q:yO l.length l.length l=some cs)(F:∀c∈cs,vT c)(p:cs.length<=1000)(h:(cs.flatMap zm).length<=1000)(N:uq cs=some t):
  Calls prog 32 #[.string s] w λe M=>lI (.error 6) w e M:=by
 have S:=Ry P;have L:=Ry Q;have n:=Ry F;have d:=Ry p;have i:=Ry h;have O:=Ry N;go_enter func32,ntmps32;go_wp2_with (first|(go_at_call 59;refine(pu s _ l hs S).mono ?_;rintro e w1 ⟨X,rfl,f,v,D⟩;obtain⟨K,G,rfl⟩:=zq f)|(go_at_call 60;refine(rZ _ _ l _ cs f v L).mono ?_;rintro e U ⟨Y,rfl,b,C⟩;obtain⟨R,I,rfl⟩:=b.qy;have A:=R5 D C)|(go_at_call 61;refine(sy _ _ cs b n.out d.out).mono ?_;rintro e W ⟨rfl,q⟩;have B:=R5 A q;have a:=b.below q)|(go_at_call 62;refine(Af _ _ cs t a i.out O).mono ?_;rintro e H ⟨pv,rfl,u,k⟩;obtain⟨z,o,rfl⟩:=zq u;have j:=R5 B k;have T:=j.size;have g:=a.below k)|(go_at_call 63;refine(i9 _ _ cs (by exact g.below (by go_grown)) n.out d.out).mono ?_;rintro e V ⟨rfl,E⟩;have y:=(zp H.heap.size H).alloc (zf _) (.cells #[.slice z t.length o] 127);have m:=R5 y E;have x:=R5 j m))
 go_ret2
 exact⟨x,rfl⟩
def L1(s:ByteArray)(w:World)(hs:s.size<=500)(l:List R8)(cs:List zd)(t:List zg)(hm:cs.any yM=false)(V:cs.all xt=true)(Z:(xX (t.length+1) t cs).2=false)(hS:RC s=some l)(hP:yO l.length l.length l=some cs)(P:∀c∈cs,vT c)(x:cs.length<=1000)(m:(cs.flatMap zm).length<=1000)(hC:uq cs=some t)(C:t.length<=1000)(M:∀e∈t,e.qh<=0):
  Calls prog 32 #[.string s] w λe w'=>lI (.error 7) w e w':=by
 have HS:=Ry hS;have Y:=Ry hP;have k:=Ry P;have b:=Ry x;have n:=Ry m;have HC:=Ry hC;have K:=Ry C;have O:=Ry M;go_enter func32,ntmps32;go_wp2_with (first|(go_at_call 59;refine(pu s _ l hs HS).mono ?_;rintro e w1 ⟨fv,rfl,h,B,N⟩;obtain⟨W,Q,rfl⟩:=zq h)|(go_at_call 60;refine(rZ _ _ l _ cs h B Y).mono ?_;rintro e w2 ⟨cv,rfl,f,H⟩;obtain⟨ab,T,rfl⟩:=f.qy;have G:=R5 N H)|(go_at_call 61;refine(sy _ _ cs f k.out b.out).mono ?_;rintro e S ⟨rfl,y⟩;have u:=R5 G y;have a:=f.below y)|(go_at_call 62;refine(Af _ _ cs t a n.out HC).mono ?_;rintro e A ⟨pv,rfl,o,j⟩;obtain⟨F,v,rfl⟩:=zq o;have q:=R5 u j;have ad:=q.size;have i:=a.below j)|(go_at_call 63;refine(i9 _ _ cs (by exact i.below (by go_grown)) k.out b.out).mono ?_;rintro e w5 ⟨rfl,z⟩;have E:=(zp A.heap.size A).alloc (zf _) (.cells #[.slice F t.length v] 127);have d:=R5 E z;have D:=R5 q d)|(go_at_call 64;refine(Ff S.heap.size _ A.heap.size t _ cs S rfl (R5 j d) a k.out b.out ⟨_,(Rz.new A _ _).below z,zB o d⟩ K.out O.out).mono ?_;rintro e w6 ⟨rfl,p,I⟩;obtain⟨U,R,g,J⟩:=p.view;obtain⟨X,aa⟩:=g.rules;have L:=D.trans (I.mono (zZ u.size (zf _)));have ac:=g.lt))
 go_ret2
 exact⟨L,rfl⟩
def NP(s:ByteArray)(w:World)(hs:s.size<=500)(l:List R8)(cs:List zd)(t:List zg)(hm:cs.any yM=false)(X:cs.all xt=true)(ab:(xX (t.length+1) t cs).2=true)(hS:RC s=some l)(hP:yO l.length l.length l=some cs)(R:∀c∈cs,vT c)(C:cs.length<=1000)(p:(cs.flatMap zm).length<=1000)(hC:uq cs=some t)(H:t.length<=1000)(P:∀e∈t,e.qh<=0):
  Calls prog 32 #[.string s] w λe w'=>lI (.ok (cs,(xX (t.length+1) t cs).1)) w e w':=by
 have HS:=Ry hS;have HP:=Ry hP;have k:=Ry R;have d:=Ry C;have q:=Ry p;have HC:=Ry hC;have N:=Ry H;have Q:=Ry P;go_enter func32,ntmps32;go_wp2_with (first|(go_at_call 59;refine(pu s _ l hs HS).mono ?_;rintro e w1 ⟨fv,rfl,i,G,B⟩;obtain⟨Y,S,rfl⟩:=zq i)|(go_at_call 60;refine(rZ _ _ l _ cs i G HP).mono ?_;rintro e w2 ⟨cv,rfl,f,M⟩;obtain⟨ad,V,rfl⟩:=f.qy;have L:=R5 B M)|(go_at_call 61;refine(sy _ _ cs f k.out d.out).mono ?_;rintro e U ⟨rfl,D⟩;have m:=R5 L D;have a:=f.below D)|(go_at_call 62;refine(Af _ _ cs t a q.out HC).mono ?_;rintro e F ⟨pv,rfl,u,g⟩;obtain⟨K,y,rfl⟩:=zq u;have x:=R5 m g;have af:=x.size;have j:=a.below g)|(go_at_call 63;refine(i9 _ _ cs (by exact j.below (by go_grown)) k.out d.out).mono ?_;rintro e w5 ⟨rfl,E⟩;have J:=(zp F.heap.size F).alloc (zf _) (.cells #[.slice K t.length y] 127);have b:=R5 J E;have I:=R5 x b)|(go_at_call 64;refine(Ff U.heap.size _ F.heap.size t _ cs U rfl (R5 g b) a k.out d.out ⟨_,(Rz.new F _ _).below E,zB u b⟩ N.out Q.out).mono ?_;rintro e Z ⟨rfl,v,A⟩;obtain⟨W,T,h,n⟩:=v.view;obtain⟨aa,ac⟩:=h.rules;have O:=I.trans (A.mono (zZ m.size (zf _)));have ae:=h.lt))
 have z:=O.size;have o:=a.below ((R5 g b).trans A);go_ret2
 exact⟨(by go_grown),Z.heap.size,_,_,rfl,Rz.new _ _ _,(o.low B.size).below zP,yk (zB n zP) m.size,z⟩
def Fd(s:ByteArray)(w:World)(q:s.size<=9223372036854775807):
  Calls prog 32 #[.string s] w λe v=>lI (ur s) w e v:=by
 unfold ur;split;rename_i u;exact Lo s w u q;rename_i u;have c:s.size<=500:=by omega
 split;rename_i h;exact KB s w c h;rename_i l h;split;rename_i j;exact Is s w c l h j;rename_i d j;have x:l.length<=500:=by
  have:=wK h;omega
 have y:=tS j;have f:=As (cs:=d) (by omega);have b:d.length<=1000:=by have:=eC d;omega
 have a:(d.flatMap zm).length<=1000:=by have:=A5 d;omega
 split;rename_i p;exact J3 s w c l d p h j f b;rename_i p;have i:d.any yM=false:=by simpa using p
 split;rename_i m;exact PH s w c l d i h j f b a m;rename_i t m;have n:t.length<=1000:=by have:=wF _ _ _ m;simp only[g5] at this;omega
 have o:=ev _ [] (by simp) t m;split;rename_i g;split;rename_i k;exact NP s w c l d t i g k h j f b a m n o;rename_i k;exact L1 s w c l d t i g (by simpa using k) h j f b a m n o;rename_i g;exact PB s w c l d t i (by simpa using g) h j f b a m
end
section
open Go.RowKit
variable {lo:Nat}
def jX(lo:Nat)(w:World)(pb:Nat)(cs:List zd)(t:List zg):Prop:=lo<=pb/\∃v a,Rz w pb #[v,a] 131/\Se lo 171 w v cs/\w.ownsRow lo 221 3 a t.length (uh t)
def jX.below{w w':World}{pb:Nat}{cs:List zd}{t:List zg}(h:jX lo w pb cs t)(a:μ w w'):jX lo w' pb cs t:=by
 obtain⟨e,v,c,d,f,b⟩:=h;exact⟨e,v,c,d.below a,f.below a,zB b a⟩
end
section
open Go.RowKit
variable {lo:Nat}{w:World}{base g cap:Nat}{ys:List (Value×Value×Value)}{ls:List zk}{gs:List Nat}
def pN(t:Value×Value×Value):List Value:=[t.1,t.2.1,t.2.2]
def RQ(ys:List (Value×Value×Value)):List Value:=ys.flatMap pN
def sc(ys:List (Value×Value×Value)):(RQ ys).length=ys.length*3:=by
 induction ys with
 |nil=>rfl
 |cons a l b=>simp[RQ,pN] at b ⊢;omega
def oy:∀(ys:List (Value×Value×Value)) (k:Nat) (_:k<ys.length) (a b c:Value),(((RQ ys).set (k*3) a).set (k*3+1) b).set (k*3+2) c=RQ (ys.set k (a,b,c))
 |[],k,d,_,_,_=>by simp at d
 |y::r,0,_,a,b,c=>by simp[RQ,pN]
 |y::r,k+1,d,a,b,c=>by
  have:=oy r k (by simpa using d) a b c;simp only[RQ,uA,nS,pN] at this ⊢;rw[show(k+1)*3=k*3+1+1+1 from by omega,show k*3+1+1+1+1=k*3+1+1+1+1 from rfl,show k*3+1+1+1+2=k*3+2+1+1+1 from by omega];simpa using this
def tU:∀(ys:List (Value×Value×Value)) (k:Nat) (a:k<ys.length),(RQ ys)[k*3]?=some ys[k].1/\(RQ ys)[k*3+1]?=some ys[k].2.1/\(RQ ys)[k*3+2]?=some ys[k].2.2
 |[],k,a=>by simp at a
 |y::r,0,_=>by simp[RQ,pN]
 |y::r,k+1,a=>by
  have:=tU r k (by simpa using a);simp only[RQ,uA,pN] at this ⊢;rw[show(k+1)*3=k*3+1+1+1 from by omega,show k*3+1+1+1+1=k*3+1+1+1+1 from rfl,show k*3+1+1+1+2=k*3+2+1+1+1 from by omega];simpa using this
def Ov(b a c:Value):∀(n i:Nat),i<n*3->(madeCells #[b,a,c] (n*3))[i]?=(RQ (List.replicate n (b,a,c)))[i]?:=by
 intro n i o;obtain⟨k,j,p,rfl⟩:∃k j,j<3/\i=k*3+j:=⟨i / 3,i%3,Nat.mod_lt _ (by decide),by omega⟩;have h:k<n:=by omega
 obtain⟨e,d,f⟩:=tU (List.replicate n (b,a,c)) k (by simpa using h);simp only[tp] at e d f;have l:(k*3+j)%3=j:=by omega
 simp only[madeCells,Array.getElem?_map,Array.getElem?_range];rw[zb o];simp only[jC];have m:(#[b,a,c]:Array Value).size=3:=rfl;rw[m,l];match j,p with
 |0,_=>rw[uX,e];rfl
 |1,_=>rw[d];rfl
 |2,_=>rw[f];rfl
def JP(w:World)(n:Nat)(T:TypeId)(d a b:Value)(e:n<=maxLen):(w.alloc (.cells (madeCells #[d,a,b] (n*3)) T)).ownsRow w.heap.size T 3 (.slice (some ⟨w.heap.size,0,none⟩) n n) n (RQ (List.replicate n (d,a,b))):=by
 refine⟨by rw[sc];simp,ze ⟨w.heap.size,n,madeCells #[d,a,b] (n*3),rfl,zf _,?_,zf _,e,by rw[size_madeCells],?_⟩⟩;show(w.heap.push _)[w.heap.size]?=_;simp;apply mA;intro i;by_cases c:i<n*3;rw[mp,zb c,Array.getElem?_toList,Ov _ _ _ n i c];rw[mp,za c,kM (by rw[sc];simp;omega)]
def OJ{e:TypeId}{n m:Nat}(h:w.ownsRow base e 3 (.slice (some ⟨g,0,none⟩) n cap) m (RQ ys))(k:Nat)(f:k<ys.length)(a b c:Value):
  (((w.setCell ⟨g,k*3,none⟩ a).setCell ⟨g,k*3+1,none⟩ b).setCell ⟨g,k*3+2,none⟩ c).ownsRow base e 3 (.slice (some ⟨g,0,none⟩) n cap) m (RQ (ys.set k (a,b,c))):=by
 have l:=sc ys;have i:=uj h (k*3) (by omega) a;have j:=uj i (k*3+1) (by simp;omega) b;have d:=uj j (k*3+2) (by simp;omega) c;rw[oy ys k f] at d;exact d
def tC{e:TypeId}{n m:Nat}(h:w.ownsRow base e 3 (.slice (some ⟨g,0,none⟩) n cap) m (RQ ys))(k:Nat)(d:k<ys.length):
  g<w.heap.size/\w.cell? ⟨g,k*3,none⟩=some ys[k].1/\w.cell? ⟨g,k*3+1,none⟩=some ys[k].2.1/\w.cell? ⟨g,k*3+2,none⟩=some ys[k].2.2:=by
 have f:0<m:=by have:=h.1;rw[sc] at this;omega
 obtain⟨p,c,b,_,i,a⟩:=yw h f;simp at b;obtain⟨rfl,_⟩:=b;obtain⟨l,j,o⟩:=tU ys k d;exact⟨i,a _ _ l,a _ _ j,a _ _ o⟩
def DH{e:TypeId}{b n m:Nat}{xs:List Value}(h:w.ownsRow base e b (.slice (some ⟨g,0,none⟩) n cap) m xs):∃a,w.heap[g]?=some (.cells a e (0,0)):=by
 obtain⟨_,⟨c,_⟩|⟨i,d,a,c,_,f,_⟩⟩:=h;cases c;simp at c;obtain⟨rfl,_⟩:=c;exact⟨a,f⟩
def RS(lo:Nat)(w:World)(ls:List zk)(gs:List Nat):Prop:=gs.length=ls.length/\gs.Pairwise (·<·)/\∀k (b:k<ls.length) (a:k<gs.length),lo<=gs[k]/\R7 lo w (.slice (some ⟨gs[k],0,none⟩) ls[k].args.length ls[k].args.length) ls[k].args
def RS.nil(w:World):RS lo w [] []:=⟨rfl,List.Pairwise.nil,λk a=>by simp at a⟩
def RS.mono{w':World}(h:RS lo w ls gs)(c:∀v l,R7 lo w v l->R7 lo w' v l):RS lo w' ls gs:=⟨h.1,h.2.1,λk b a=>⟨(h.2.2 k b a).1,c _ _ (h.2.2 k b a).2⟩⟩
def RS.lt(h:RS lo w ls gs):∀g∈gs,g<w.heap.size:=by
 intro g a;obtain⟨k,c,rfl⟩:=uO a;obtain⟨d,b⟩:=DH (h.2.2 k (by have:=h.1;omega) c).2;exact(jU.1 b).1
def RS.snoc{l:zk}(h:RS lo w ls gs)(c:∀x∈gs,x<g)(o:lo<=g)(hs:R7 lo w (.slice (some ⟨g,0,none⟩) l.args.length l.args.length) l.args):RS lo w (ls++[l]) (gs++[g]):=by
 obtain⟨e,p,n⟩:=h;refine⟨by simp[e],?_,?_⟩;rw[lH];exact⟨p,List.pairwise_singleton _ _,λa m b i=>by simp at i;subst i;exact c a m⟩;intro k d r;simp at d;by_cases f:k<ls.length;have:=n k f (by omega);simpa [List.getElem_append,f,e] using this;obtain rfl:k=ls.length:=by omega
 have j:(ls++[l])[ls.length]=l:=by simp
 have q:(gs++[g])[ls.length]=g:=by simp[←e]
 rw[j,q];exact⟨o,hs⟩
end
section
open Go.Proofs.Tryz Go.RowKit
variable {lo:Nat}{M:List Nat}{w w':World}{b base n:Nat}{c:Array Value}{v:Value}{xs xs1:List Value}
structure zc (M:List Nat) (w w':World):Prop where
 os:w'.os=w.os
 tape:w'.tape=w.tape
 output:w'.output=w.output
 size:w.heap.size<=w'.heap.size
 block:∀k,k<w.heap.size->k∉M->w'.heap[k]?=w.heap[k]?
def zc.refl(M:List Nat)(w:World):zc M w w:=⟨rfl,rfl,rfl,zf _,λ_ _ _=>rfl⟩
def zc.of(h:μ w w'):zc M w w':=⟨h.os,h.tape,h.output,h.size,λk a _=>h.block k a⟩
def zc.trans{M:List Nat}{a b c:World}(h:zc M a b)(k:zc M b c):zc M a c:=
 ⟨k.os.trans h.os,k.tape.trans h.tape,k.output.trans h.output,zZ h.size k.size,λx e d=>(k.block x (yE e h.size) d).trans (h.block x e d)⟩
def zc.more{N:List Nat}(h:zc M w w')(hs:∀x∈M,x∈N):zc N w w':=⟨h.os,h.tape,h.output,h.size,λk d a=>h.block k d λe=>a (hs k e)⟩
def zc.newer{N:List Nat}{a b c:World}(h:zc M a b)(k:zc N b c)(g:∀x∈N,x∈M∨a.heap.size<=x):zc M a c:=
 ⟨k.os.trans h.os,k.tape.trans h.tape,k.output.trans h.output,zZ h.size k.size,λx f e=>(k.block x (yE f h.size) λd=>(g x d).elim e λi=>by omega).trans (h.block x f e)⟩
def zc.below{B:Nat}(h:zc M w w')(a:∀x∈M,B<=x)(e:B<=w.heap.size):Below B w w':=
 ⟨h.os,h.tape,h.output,h.size,λk f=>h.block k (by omega) λd=>by have:=a k d;omega⟩
def yK{e:TypeId}{a:Nat}(h:w.ownsRow base e a v n xs)(hs:zc M w w')(l:∀b,v.ownBlock=some b->b∉M):w'.ownsRow base e a v n xs:=by
 obtain⟨p,i⟩:=h;refine⟨p,?_⟩;rcases i with i|⟨g,d,f,k,o,j,m⟩;exact zh i;refine ze ⟨g,d,f,k,o,?_,m⟩;rw[hs.block g (jU.1 j).1 (l g (by rw[k];rfl))];exact j
def Rz.save{T:TypeId}(h:Rz w b c T)(hs:zc M w w')(a:b∉M):Rz w' b c T:=by
 have:=h.lt;unfold Rz at *;rw[hs.block b this a];exact h
section
variable {P:Program} {ops:Array Oper} {rest:List Oper} {o:Oper} {a:Act} {Q:Exit->Act->World->Prop}
def ko(B y:World)(l:List Value)(K:TypeId)(O:o.guard=none)(s x:Operand)(t:TypeId)
  (ho:o.op=.call {callee:=.builtin .append,args:=#[s,x],argTypes:=#[t,t]})
  (base:Nat) (e:TypeId) (i:TypeInfo) (z:Value) (d f:Nat) (X:P.underlying t=some (.slice e)) (hi:P.info? e=some i) (W:i.zero=some z)
  (q:i.size=d) (G:i.bytes=f) (I:z.cells.size=d) (F:0<d)
  (v:Value) (n:Nat) (xs:List Value) (Y:a.eval s=v) (C:B.ownsRow base e d v n xs) (m:μ B y)
  (b c:Nat) (U:a.eval x=.slice (some ⟨b,0,none⟩) 1 c) (T:b=y.heap.size) (hl:l.length=d) (V:∀u∈l,u.oneCell'=true)
  (hn:n<=4000000000000) (D:(n+1)*f<=100000000000000) (H:base<=B.heap.size)
  (h:∀A w',w'.ownsRow base e d A (n+1) (xs++l)->zc v.ownBlock.toList B w'->(A.ownBlock=v.ownBlock∨∃g,A.ownBlock=some g/\B.heap.size<=g)->wpList P ops Q rest (a.put o.dst A) w'):
  wpList P ops Q (o::rest) a (y.alloc (.cells l.toArray K)):=by
 have r:=zB C m;have L:=m.size;subst T;refine wpList_append_own_at _ O s x t ho base e i z d f X hi W q G I F v n xs Y (r.alloc _) ⟨y.heap.size,0,none⟩ 1 c l U (by omega) ?_ V ?_ ?_ ?_ ?_
 .intro j u S;rw[Addr.add_lit,vn,World.cell?_alloc_mark];simpa using S
 .unfold maxLen;omega
 .omega
 .simp;omega
 .intro A w' R p _ E;refine h A w' R ⟨p.os.trans m.os,p.tape.trans m.tape,p.output.trans m.output,?_,λk N Z=>?_⟩ ?_
  .have:=p.size;simp at this;omega
  .rw[p.block k (by simp;omega) (λe=>Z (by rw[←e];simp))];rw[show(y.alloc (.cells l.toArray K)).heap[k]?=y.heap[k]? from Below.heap_alloc _ _ _ (by omega)];exact m.block k N
  .rcases E with J|J
   .exact zh J
   .exact ze ⟨_,J,by simp;omega⟩
end
def yA{e:TypeId}{d:Nat}(h:w.ownsRow base e d v n xs)(f:v.ownBlock=some b):b<w.heap.size:=by
 obtain⟨_,⟨i,_⟩|⟨g,j,k,i,_,l,_⟩⟩:=h;subst i;cases f;subst i;simp only[Value.ownBlock,zr] at f;subst f;exact(jU.1 l).1
def zc.set(w:World)(b o:Nat)(u:Value):zc [b] w (w.setCell ⟨b,o,none⟩ u):=
 ⟨rfl,rfl,rfl,by simp[World.setCell],λk _ d=>Below.heap_setCell _ _ _ _ (by simp at d;exact d)⟩
def xb(h:b∈v.ownBlock.toList):v.ownBlock=some b:=by simpa using h
def qK{e T:TypeId}{d:Nat}(h:w.ownsRow base e d v n xs)(g:Rz w b c T)(f:e≠T):b∉v.ownBlock.toList:=by
 intro i;have:=fU h g f;exact this (by simpa [eq_comm] using i)
def sl(g n:Nat):Value:=.slice (some ⟨g,0,none⟩) n n
def m7{u t:Nat}{q m:TypeId}{x D:Nat}{l k:Value}{C F:Nat}{j:List Value}(A:w.ownsRow u q x l C xs1)(z:w.ownsRow t m D k F j)(E:q≠m)(h:l.ownBlock=some b):k.ownBlock≠some b:=by
 intro e;obtain⟨_,⟨i,_⟩|⟨g,B,s,i,_,y,_⟩⟩:=A;subst i;cases h;obtain⟨_,⟨f,_⟩|⟨G,p,r,f,_,d,_⟩⟩:=z;subst f;cases e;subst i;subst f;simp only[Value.ownBlock,zr] at h e;subst h;subst e;rw[y] at d;simp at d;exact E d.2
def vD{g:Nat}{e T:TypeId}{j:Nat}{d:Value}{f:Nat}(i:w.ownsRow g e j d f xs1){wb:Nat}(k:Rz w wb c T)(l:e≠T)(h:d.ownBlock=some b):b≠wb:=by
 rintro rfl;exact fU i k l h.symm
def yX{e:TypeId}{d:Nat}(h:w.ownsRow base e d v n xs)(i:v.ownBlock=some b):base<=b:=by
 obtain⟨_,⟨f,_⟩|⟨g,j,k,f,l,_,_⟩⟩:=h;subst f;cases i;subst f;simp only[Value.ownBlock,zr] at i;omega
def JX{α:Type}{f:α->Nat}{l:List α}(h:(l.map f).Nodup){i j:Nat}(k:i<l.length)(g:j<l.length)(d:i≠j):f l[i]≠f l[j]:=by
 intro e;have:=(List.getElem_inj (h₀:=by simpa using k) (h₁:=by simpa using g) h).1 (by simpa using e);exact d this
def QO:(prog.info? 3).map (λi=>(i.zero,i.size,i.bytes))=some (some (ι 0),1,8):=by kernel_rfl
def Sf(s:Nat):Value:=ι (s:Int)
def C4(w:World)(n:Nat)(T:TypeId)(e:n<=maxLen):(w.alloc (.cells (madeCells #[ι 0] n) T)).ownsRow w.heap.size T 1 (.slice (some ⟨w.heap.size,0,none⟩) n n) n ((List.replicate n 0).map Sf):=by
 refine⟨by simp,ze ⟨w.heap.size,n,madeCells #[ι 0] n,rfl,zf _,?_,zf _,e,by rw[size_madeCells];omega,?_⟩⟩;show(w.heap.push _)[w.heap.size]?=_;simp;apply mA;intro i;by_cases d:i<n;simp[d,madeCells,Sf,Nat.mod_one];simp[List.getElem?_take,d]
end
structure qa where
 leap:List Nat
 down:List Nat
 deriving DecidableEq
structure zj where
 qf:Nat
 ql:Nat
 qi:List qa
 count:Nat
 deriving DecidableEq
abbrev zi:=List Nat
def qa.zero:qa:=⟨[],[]⟩
def y7(T:zj):zj:={T with qi:=T.qi++[⟨List.replicate T.qf T.qf,List.replicate T.qf 0⟩]}
def zL(a:Nat):Nat:=if a<1 then 1 else a
def xi(a:Nat):Nat:=if (if a<1 then 1 else a)>3 then 3 else(if a<1 then 1 else a)
def xd(b a:Nat):zj:=y7 ⟨zL b,xi a,[],0⟩
def yB(T:zj)(at' «from» : Nat):Option Nat:=
 if at'<T.qi.length/\«from»<T.qf then
  let v:=(T.qi.getD at' qa.zero).leap.getD «from» 0
  if v≥T.qf then none else some v
 else none
def zH(T:zj)(at' v:Nat):Option Nat:=
 match yB T at' v with
 |none=>none
 |some u=>if u=v then some ((T.qi.getD at' qa.zero).down.getD v 0) else none
def kg(v:Nat):Nat->List Nat->List Nat
 |0,l=>l
 |n+1,l=>if l.getD n 0>v then kg v n (l.set n v) else l
def fS(n:qa)(v d:Nat):qa:=⟨kg v (v+1) n.leap,n.down.set v d⟩
def ye(T:zj)(at' v d:Nat):zj:=
 if at'<T.qi.length/\v<T.qf then{T with qi:=T.qi.set at' (fS (T.qi.getD at' qa.zero) v d)} else T
def qk(T:zj)(at' v:Nat):zj×Nat:=
 match zH T at' v with
 |some b=>(T,b)
 |none=>(ye (y7 T) at' v T.qi.length,T.qi.length)
def gN(T:zj)(at' v a:Nat):zj×Bool:=
 match zH T at' v with
 |some _=>(T,false)
 |none=>({ye T at' v a with count:=(ye T at' v a).count+1},true)
def ln(T:zj)(row:zi):Bool:=row.all (λv=>v<T.qf)
def vh(a:Nat):zj->Nat->Nat->zi->zj×Bool
 |T,_,_,[]=>(T,false)
 |T,at',level,v::r=>
  if level+1≥T.ql then gN T at' v a else vh a (qk T at' v).1 (qk T at' v).2 (level+1) r
def yx(T:zj)(row:zi)(a:Nat):zj×Bool:=if ln T row then vh a T 0 0 row else(T,false)
def uM(T:zj):Nat->Nat->zi->Option Nat
 |_,_,[]=>none
 |at',level,v::r=>
  match zH T at' v with
  |none=>none
  |some b=>if level+1≥T.ql then some b else uM T b (level+1) r
def ut(T:zj)(row:zi):Option Nat:=uM T 0 0 row
def xQ(T:zj):Nat->Nat->Nat->Nat->zi->List zi->Option (zi×List zi)
 |0,_,_,_,_,_=>none
 |n+1,at',level,«from»,row,a=>
  match yB T at' «from» with
  |none=>some (row,a)
  |some v=>
   let row:=row.set level v
   if level+1≥T.ql then xQ T n at' level (v+1) row (a++[row])
   else if level+1≥3 then xQ T n at' level (v+1) row a
   else match xQ T n ((zH T at' v).getD 0) (level+1) 0 row a with
    |none=>none
    |some (row,a)=>xQ T n at' level (v+1) row a
def lD(a:Nat)(T:zj):Option (List zi):=(xQ T a 0 0 0 [0,0,0] []).map (·.2)
structure yd where
 var:Bool
 num:Nat
 level:Nat
 deriving DecidableEq
structure zw where
 pred:Nat
 qg:List yd
 deriving DecidableEq
structure zs where
 qh:Nat
 vars:Nat
 head:zw
 qc:List zw
 qw:List zw
 deriving DecidableEq
def zJ(l:zw)(place:Nat):Bool:=l.qg.any λt=>t.var&&t.num == place
def yV(l:zw)(place:Nat):Option Nat:=if zJ l place then some ((List.range place).countP (zJ l)) else none
def yZ(l:zw):Nat:=(List.range 5).countP (zJ l)
def uU(l:zw):Nat:=l.qg.foldl (λk t=>if t.var&&decide (t.num≥k) then t.num+1 else k) 0
def jQ(l:zw)(je:Int):Int:=l.qg.foldl (λk t=>if t.var&&decide ((t.num:Int)<je)&&decide ((t.num:Int)>k) then(t.num:Int) else k) (-1)
def qC(l:zw)(je:Int):Int:=if (uU l:Int)<=je then -1 else jQ l je
def vM(je b:Int)(l:zw):Int:=if qC l je>b then qC l je else b
def xE(r:zs)(je:Int):Int:=r.qw.foldl (vM je) (r.qc.foldl (vM je) (jQ r.head je))
def SG(t:yd)(vals:List Nat):Nat:=if t.var&&decide (t.num<5) then vals.getD t.num 0 else t.num
def R0(l:zw)(vals:List Nat)(i:Nat):Nat:=if i<l.qg.length then SG (l.qg.getD i ⟨false,0,0⟩) vals else 0
def zG(l:zw)(vals:List Nat):zi:=[R0 l vals 0,R0 l vals 1,R0 l vals 2]
def leveled(t:yd):Bool:=t.var&&decide (t.level<3)
def qO(l:zw)(row f:zi)(i:Nat):zi:=
 if i<l.qg.length/\leveled (l.qg.getD i ⟨false,0,0⟩)=true then f.set (l.qg.getD i ⟨false,0,0⟩).level (row.getD i 0) else f
def uz(l:zw)(row:zi):zi:=qO l row (qO l row (qO l row [0,0,0] 0) 1) 2
def jO(t:yd)(v:Nat)(f:zi):Bool:=if leveled t then f.getD t.level 0 == v else t.num == v
def xJ(l:zw)(row f:zi)(i:Nat):Bool:=decide (l.qg.length<=i)||jO (l.qg.getD i ⟨false,0,0⟩) (row.getD i 0) f
def xO(l:zw)(row:zi):Option zi:=
 if xJ l row (uz l row) 0&&xJ l row (uz l row) 1&&xJ l row (uz l row) 2 then some (uz l row) else none
structure yS where
 rows:zj
 qi:List Nat
 deriving DecidableEq
structure sT where
 lit:zw
 je:Nat
 rows:zj
 deriving DecidableEq
structure z7 where
 head:zw
 vars:Nat
 ja:List yS
 bars:List sT
 jf:List (List (Nat×Nat))
 jh:List Int
 last:Int
 jd:List Nat
 «from» : List Nat
 ql:Int
 /-- as the code counts them: an int of Go's -/
 jg:Int
 deriving DecidableEq
def yS.zero:yS:=⟨⟨0,0,[],0⟩,[]⟩
def xn(r:zs)(place:Nat):List (Nat×Nat):=
 r.qc.zipIdx.filterMap λx=>(yV x.1 place).map λa=>(x.2,a)
def uW(J:z7)(je:Nat):Bool:=J.bars.any λb=>b.je == je&&(ut b.rows (zG b.lit J.jd)).isSome
def xB(r:zs)(qc qw:List zj):z7:=
 let J:z7:={head:=r.head,vars:=r.vars,ja:=qc.map (λT=>⟨T,[0,0,0]⟩),bars:=(r.qw.zip qw).map (λx=>⟨x.1,uU x.1,x.2⟩),jf:=(List.range 5).map (xn r),jh:=(List.range 5).map (λp=>xE r (p:Nat)),last:=xE r r.vars,jd:=[0,0,0,0,0],«from»:=[0,0,0,0,0],ql:=if qc.any (λT=>T.count == 0) then -1 else 0,jg:=0}
 if uW J 0 then{J with ql:=-1} else J
def vI(J:z7)(h:Nat×Nat):Bool:=decide (h.1<J.ja.length)&&decide (h.2<3)
def vP(J:z7)(h:Nat×Nat)(«from» : Nat):z7×Option Nat:=
 if vI J h then({J with jg:=IntKind.i64.wrap (J.jg+1)},yB (J.ja.getD h.1 yS.zero).rows ((J.ja.getD h.1 yS.zero).qi.getD h.2 0) «from») else(J,none)
def kY:Nat->z7->List (Nat×Nat)->Nat->Nat->Nat->Option (z7×Option Nat)
 |0,_,_,_,_,_=>none
 |n+1,J,c,at',b,a=>
  if b<c.length then
   match vP J (c.getD a (0,0)) at' with
   |(J,none)=>some (J,none)
   |(J,some v)=>kY n J c (if v>at' then v else at') ((if v>at' then 0 else b)+1) (if a+1≥c.length then 0 else a+1)
  else some (J,some at')
def fe(a:Nat)(J:z7)(place «from» : Nat):Option (z7×Option Nat):=
 if place≥5∨(J.jf.getD place []).length=0 then some (J,none) else kY a J (J.jf.getD place []) «from» 0 0
def vf(v:Nat)(J:z7)(h:Nat×Nat):z7:=
 if vI J h=false∨h.2+1≥3 then J
 else{J with ja:=J.ja.set h.1 {(J.ja.getD h.1 yS.zero) with qi:=(J.ja.getD h.1 yS.zero).qi.set (h.2+1) ((zH (J.ja.getD h.1 yS.zero).rows ((J.ja.getD h.1 yS.zero).qi.getD h.2 0) v).getD 0)}}
def us(J:z7)(place v:Nat):z7:=
 if place≥5 then J
 else(J.jf.getD place []).foldl (vf v) {J with jd:=J.jd.set place v,«from»:=(if place+1<5 then(J.from.set place (v+1)).set (place+1) 0 else J.from.set place (v+1))}
def qS:Nat->z7->Int->Option (z7×Bool)
 |0,_,_=>none
 |n+1,J,a=>
  if 0<=a/\a<J.vars/\a<5 then
   match fe n J a.toNat (J.from.getD a.toNat 0) with
   |none=>none
   |some (J,none)=>qS n J (J.jh.getD a.toNat 0)
   |some (J,some v)=>qS n (us J a.toNat v) (if uW (us J a.toNat v) (a.toNat+1) then a else a+1)
  else some (J,decide (a≥J.vars))
def fB(b:Nat)(J:z7):Option (z7×Bool):=
 match qS b J J.ql with
 |none=>none
 |some (J,a)=>some ({J with ql:=if a then J.last else -1},a)
section
open Go.Proofs.Tryz Go.RowKit
variable {lo:Nat}{w:World}{tb:Nat}{T:zj}{nv:Value}{ns:List (Nat×Nat)}
def lc(wd:Nat)(ns:List (Nat×Nat)):List Value:=ns.flatMap λx=>[sl x.1 wd,sl x.2 wd]
def oN(wd:Nat):∀(ns:List (Nat×Nat)) (k:Nat) (a:k<ns.length),(lc wd ns)[k*2]?=some (sl ns[k].1 wd)/\(lc wd ns)[k*2+1]?=some (sl ns[k].2 wd)
 |[],k,a=>by simp at a
 |p::r,0,_=>by simp[lc]
 |p::r,k+1,a=>by
  have:=oN wd r k (by simpa using a);simp only[lc,uA] at this ⊢;rw[show(k+1)*2=k*2+1+1 from by omega,show k*2+1+1+1=k*2+1+1+1 from rfl];simpa using this
def RU(ns:List (Nat×Nat)):List Nat:=ns.flatMap λx=>[x.1,x.2]
structure vu (lo:Nat) (w:World) (tb:Nat) (T:zj) (nv:Value) (ns:List (Nat×Nat)):Prop where
 low:lo<=tb
 box:Rz w tb #[ι T.qf,ι T.ql,nv,ι T.count] 229
 qi:w.ownsRow lo 273 2 nv T.qi.length (lc T.qf ns)
 len:ns.length=T.qi.length
 leap:∀i (h:i<T.qi.length) (h2:i<ns.length),w.ownsRow lo 3 1 (sl ns[i].1 T.qf) T.qf (T.qi[i].leap.map Sf)
 down:∀i (h:i<T.qi.length) (h2:i<ns.length),w.ownsRow lo 3 1 (sl ns[i].2 T.qf) T.qf (T.qi[i].down.map Sf)
 apart:(RU ns).Nodup
 wide:T.qf<=1000
 many:T.qi.length<=100000000
 deep:T.ql<=3
 few:T.count<=1000000000
def S3(tb:Nat)(nv:Value)(ns:List (Nat×Nat)):List Nat:=tb::(nv.ownBlock.toList++RU ns)
def ya(lo:Nat)(w:World)(tb:Nat)(T:zj)(fp:List Nat):Prop:=∃nv ns,vu lo w tb T nv ns/\fp=S3 tb nv ns
def vu.leapLen(h:vu lo w tb T nv ns)(i:Nat)(a:i<T.qi.length):T.qi[i].leap.length=T.qf:=by
 have:=(h.leap i a (by rw[h.len];exact a)).1;simpa using this
def vu.downLen(h:vu lo w tb T nv ns)(i:Nat)(a:i<T.qi.length):T.qi[i].down.length=T.qf:=by
 have:=(h.down i a (by rw[h.len];exact a)).1;simpa using this
def Aj{b:Nat}(h:b∈RU ns):∃i,∃h:i<ns.length,b=ns[i].1∨b=ns[i].2:=by
 simp only[RU,uP,zy,lY,or_false] at h;obtain⟨x,a,c⟩:=h;obtain⟨i,d,rfl⟩:=uO a;exact⟨i,d,c⟩
def tM{i:Nat}(h:i<ns.length):ns[i].1∈RU ns/\ns[i].2∈RU ns:=by
 simp only[RU,uP,zy,lY,or_false];exact⟨⟨_,zt h,zh rfl⟩,⟨_,zt h,ze rfl⟩⟩
def vu.lt{w:World}{tb:Nat}{T:zj}{nv:Value}{ns:List (Nat×Nat)}(h:vu lo w tb T nv ns):∀b∈S3 tb nv ns,lo<=b/\b<w.heap.size:=by
 intro b c;simp only[S3,zy,zW] at c;rcases c with rfl|c|c;exact⟨h.low,h.box.lt⟩;exact⟨yX h.qi (xb c),yA h.qi (xb c)⟩;obtain⟨i,a,rfl|rfl⟩:=Aj c;exact⟨yX (h.leap i (by rw[←h.len];exact a) a) rfl,yA (h.leap i (by rw[←h.len];exact a) a) rfl⟩;exact⟨yX (h.down i (by rw[←h.len];exact a) a) rfl,yA (h.down i (by rw[←h.len];exact a) a) rfl⟩
def ya.lt{w:World}{tb:Nat}{T:zj}{fp:List Nat}(h:ya lo w tb T fp):∀b∈fp,lo<=b/\b<w.heap.size:=by
 obtain⟨nv,ns,a,rfl⟩:=h;exact a.lt
def ya.save{w w':World}{tb:Nat}{T:zj}{fp N:List Nat}(h:ya lo w tb T fp)(hs:zc N w w')(g:∀b∈fp,b∉N):ya lo w' tb T fp:=by
 obtain⟨nv,ns,c,rfl⟩:=h;have e:=g;refine⟨nv,ns,⟨c.low,c.box.save hs (e tb (by simp[S3])),yK c.qi hs λb d=>e b ?_,c.len,λi f a=>yK (c.leap i f a) hs λb d=>e b ?_,λi f a=>yK (c.down i f a) hs λb d=>e b ?_,c.apart,c.wide,c.many,c.deep,c.few⟩,rfl⟩;simp[S3,d];simp only[sl,Value.ownBlock,zr] at d;subst d;simp only[S3,zy,zW];exact ze (ze (tM a).1);simp only[sl,Value.ownBlock,zr] at d;subst d;simp only[S3,zy,zW];exact ze (ze (tM a).2)
def ya.below{w':World}{fp:List Nat}(h:ya lo w tb T fp)(a:μ w w'):ya lo w' tb T fp:=h.save (zc.of (M:=[]) a) (by simp)
def qY(o:Option Nat):Value:=.tuple #[ι ((o.getD 0:Nat):Int),.bool o.isSome]
def vu.leapAt(h:vu lo w tb T nv ns)(a f:Nat)(g:a<T.qi.length)(r:f<T.qf):
  ∃d i c,nv=.slice (some ⟨d,0,none⟩) T.qi.length i/\d<w.heap.size/\c<w.heap.size/\(∃s:a<ns.length,c=ns[a].1)/\w.cell? ⟨d,a*2,none⟩=some (.slice (some ⟨c,0,none⟩) T.qf T.qf)/\w.cell? ⟨c,f,none⟩=some (ι ((T.qi[a].leap.getD f 0:Nat):Int)):=by
 have b:a<ns.length:=by rw[h.len];exact g
 obtain⟨d,e,q,_,j,k⟩:=yw h.qi (by omega);obtain⟨c,o,n,_,m,l⟩:=yw (h.leap a g b) (by omega);obtain⟨⟨rfl,_⟩,_,_⟩:=n;have p:=h.leapLen a g;refine⟨d,e,_,q,j,m,⟨b,rfl⟩,k _ _ (oN T.qf ns a b).1,l f _ ?_⟩;rw[mo,yi (by omega),ks,yi (by omega)];rfl
def vu.downAt(h:vu lo w tb T nv ns)(a f:Nat)(g:a<T.qi.length)(r:f<T.qf):
  ∃d i c,nv=.slice (some ⟨d,0,none⟩) T.qi.length i/\d<w.heap.size/\c<w.heap.size/\(∃s:a<ns.length,c=ns[a].2)/\w.cell? ⟨d,a*2+1,none⟩=some (.slice (some ⟨c,0,none⟩) T.qf T.qf)/\w.cell? ⟨c,f,none⟩=some (ι ((T.qi[a].down.getD f 0:Nat):Int)):=by
 have b:a<ns.length:=by rw[h.len];exact g
 obtain⟨d,e,q,_,j,k⟩:=yw h.qi (by omega);obtain⟨c,o,n,_,m,l⟩:=yw (h.down a g b) (by omega);obtain⟨⟨rfl,_⟩,_,_⟩:=n;have p:=h.downLen a g;refine⟨d,e,_,q,j,m,⟨b,rfl⟩,k _ _ (oN T.qf ns a b).2,l f _ ?_⟩;rw[mo,yi (by omega),ks,yi (by omega)];rfl
def so(w:World)(tb:Nat)(T:zj)(fp:List Nat)(a f:Nat)(h:ya lo w tb T fp):
  Calls prog 167 #[(π tb),ι a,ι f] w λe q=>e=ε (qY (yB T a f))/\q=w:=by
 obtain⟨nv,ns,g,rfl⟩:=h;obtain⟨u,n⟩:=g.box.rules;by_cases i:a<T.qi.length
 .by_cases k:f<T.qf
  .obtain⟨t,c,s,rfl,p,r,_,l,o⟩:=g.leapAt a f i k;have d:yB T a f=if T.qi[a].leap.getD f 0≥T.qf then none else some (T.qi[a].leap.getD f 0):=by
    unfold yB;rw[zb ⟨i,k⟩];simp[List.getD_eq_getElem?_getD,i]
   generalize T.qi[a].leap.getD f 0=v at *;by_cases j:v≥T.qf
   .rw[zb j] at d;have b:=Ry d;go_enter func167,ntmps167;go_wp2;go_ret2
    exact⟨by rw[b.out];rfl,rfl⟩
   rw[za j] at d;have b:=Ry d;go_enter func167,ntmps167;go_wp2;go_ret2
   exact⟨by rw[b.out];rfl,rfl⟩
  have b:Hid (yB T a f=none):=by unfold yB;rw[Hid,za (by omega)]
  obtain⟨m,c,rfl⟩:=zq g.qi;go_enter func167,ntmps167;go_wp2;go_ret2
  exact⟨by rw[b.out];rfl,rfl⟩
 have b:Hid (yB T a f=none):=by unfold yB;rw[Hid,za (by omega)]
 obtain⟨m,c,rfl⟩:=zq g.qi;go_enter func167,ntmps167;go_wp2;go_ret2
 exact⟨by rw[b.out];rfl,rfl⟩
def nM(w:World)(tb:Nat)(T:zj)(fp:List Nat)(a f:Nat)(h:ya lo w tb T fp):
  Calls prog 130 #[(π tb),ι a,ι f] w λe j=>e=ε (qY (zH T a f))/\j=w:=by
 have d:=Ry (so w tb T fp a f h);obtain⟨nv,ns,m,rfl⟩:=h;obtain⟨x,p⟩:=m.box.rules;rcases c:yB T a f with _|u
 .have i:Hid (zH T a f=none):=by unfold zH;rw[Hid,c]
  rw[c] at d;simp only[qY,gM,gL] at d;go_enter func130,ntmps130;go_wp2_with (go_at_call 167;refine d.out.mono ?_;rintro e j ⟨rfl,b⟩;obtain rfl:=b.symm)
  go_ret2
  exact⟨by rw[i.out];rfl,rfl⟩
 have g:a<T.qi.length/\f<T.qf:=by
  unfold yB at c;split at c;assumption
  cases c
 obtain⟨v,n,t,rfl,r,s,_,o,q⟩:=m.downAt a f g.1 g.2;have k:zH T a f=if u=f then some (T.qi[a].down.getD f 0) else none:=by
  unfold zH;rw[c];simp[List.getD_eq_getElem?_getD,g.1]
 rw[c] at d;simp only[qY,uL,kc] at d;by_cases l:u=f
 .subst l;have i:=Ry k;go_enter func130,ntmps130;go_wp2_with (go_at_call 167;refine d.out.mono ?_;rintro e j ⟨rfl,b⟩;obtain rfl:=b.symm)
  go_ret2
  exact⟨by rw[i.out];rfl,rfl⟩
 rw[za l] at k;have i:=Ry k;go_enter func130,ntmps130;go_wp2_with (go_at_call 167;refine d.out.mono ?_;rintro e j ⟨rfl,b⟩;obtain rfl:=b.symm)
 go_ret2
 exact⟨by rw[i.out];rfl,rfl⟩
def Gp(w:World)(tb:Nat)(T:zj)(fp:List Nat)(h:ya lo w tb T fp):
  Calls prog 209 #[(π tb)] w λe b=>e=ε (ι T.count)/\b=w:=by
 obtain⟨nv,ns,a,rfl⟩:=h;obtain⟨f,d,c⟩:=a.box.boxed;clear a;go_enter func209,ntmps209;go_wp2;go_ret;exact⟨rfl,rfl⟩
end
section
open Go.Proofs.Tryz Go.RowKit
variable {lo:Nat}{ns:List (Nat×Nat)}
def Sl:∀(ns:List (Nat×Nat)) (k:Nat) (a:k<ns.length),(RU ns)[k*2]?=some ns[k].1/\(RU ns)[k*2+1]?=some ns[k].2
 |[],k,a=>by simp at a
 |p::r,0,_=>by simp[RU]
 |p::r,k+1,a=>by
  have:=Sl r k (by simpa using a);simp only[RU,uA] at this ⊢;rw[show(k+1)*2=k*2+1+1 from by omega,show k*2+1+1+1=k*2+1+1+1 from rfl];simpa using this
def iT{l:List Nat}(h:l.Nodup){i j x y:Nat}(c:l[i]?=some x)(e:l[j]?=some y)(a:i≠j):x≠y:=by
 obtain⟨b,rfl⟩:=kf.1 c;obtain⟨d,rfl⟩:=kf.1 e;exact JX (f:=id) (by simpa using h) b d a
def wT(h:(RU ns).Nodup){i j:Nat}(b:i<ns.length)(a:j<ns.length):(i≠j->ns[i].1≠ns[j].1/\ns[i].2≠ns[j].2)/\ns[i].1≠ns[j].2:=
 ⟨λc=>⟨iT h (Sl ns i b).1 (Sl ns j a).1 (by omega),iT h (Sl ns i b).2 (Sl ns j a).2 (by omega)⟩,iT h (Sl ns i b).1 (Sl ns j a).2 (by omega)⟩
def setNode(T:zj)(a:Nat)(n:qa):zj:={T with qi:=T.qi.set a n}
def vu.setLeap{w:World}{tb:Nat}{T:zj}{n:Value}(h:vu lo w tb T n ns)(a u x:Nat)(o:a<T.qi.length)(m:a<ns.length)(r:u<T.qf):
  vu lo (w.setCell ⟨ns[a].1,u,none⟩ (ι x)) tb (setNode T a ⟨T.qi[a].leap.set u x,T.qi[a].down⟩) n ns:=by
 have p:=h.leapLen a o;have j:=zc.set w ns[a].1 u (ι x);have k:=h.leap a o m;refine⟨h.low,h.box.save j (by have:=vD k h.box (by decide) rfl;simpa using Ne.symm this),?_,by simpa [setNode] using h.len,λi l c=>?_,λi l c=>?_,h.apart,h.wide,by simpa [setNode] using h.many,h.deep,h.few⟩;have:=yK h.qi j (λb g d=>m7 k h.qi (by decide) rfl (by simp at d;rw[←d];exact g));simpa [setNode] using this;have f:i<T.qi.length:=by simpa [setNode] using l
 by_cases e:i=a;subst e;have q:=uj k u (by simp;omega) (ι x);simp only[setNode,mw];rw[gA];exact q;simp only[setNode,m8 (Ne.symm e)];exact yK (h.leap i f c) j (λb g d=>by simp[sl,Value.ownBlock] at g d;exact((wT h.apart c m).1 e).1 (g.trans d));have f:i<T.qi.length:=by simpa [setNode] using l
 have q:=yK (h.down i f c) j (λb g d=>by simp[sl,Value.ownBlock] at g d;exact(wT h.apart m c).2 (d.symm.trans g.symm));by_cases e:i=a;subst e;simp only[setNode,mw];exact q;simp only[setNode,m8 (Ne.symm e)];exact q
def vu.setDown{w:World}{tb:Nat}{T:zj}{n:Value}(h:vu lo w tb T n ns)(a u x:Nat)(o:a<T.qi.length)(m:a<ns.length)(r:u<T.qf):
  vu lo (w.setCell ⟨ns[a].2,u,none⟩ (ι x)) tb (setNode T a ⟨T.qi[a].leap,T.qi[a].down.set u x⟩) n ns:=by
 have p:=h.downLen a o;have j:=zc.set w ns[a].2 u (ι x);have k:=h.down a o m;refine⟨h.low,h.box.save j (by have:=vD k h.box (by decide) rfl;simpa using Ne.symm this),?_,by simpa [setNode] using h.len,λi l c=>?_,λi l c=>?_,h.apart,h.wide,by simpa [setNode] using h.many,h.deep,h.few⟩;have:=yK h.qi j (λb g d=>m7 k h.qi (by decide) rfl (by simp at d;rw[←d];exact g));simpa [setNode] using this;have f:i<T.qi.length:=by simpa [setNode] using l
 have q:=yK (h.leap i f c) j (λb g d=>by simp[sl,Value.ownBlock] at g d;exact(wT h.apart c m).2 (g.trans d));by_cases e:i=a;subst e;simp only[setNode,mw];exact q;simp only[setNode,m8 (Ne.symm e)];exact q;have f:i<T.qi.length:=by simpa [setNode] using l
 by_cases e:i=a;subst e;have q:=uj k u (by simp;omega) (ι x);simp only[setNode,mw];rw[gA];exact q;simp only[setNode,m8 (Ne.symm e)];exact yK (h.down i f c) j (λb g d=>by simp[sl,Value.ownBlock] at g d;exact((wT h.apart c m).1 e).2 (g.trans d))
structure RT (lo:Nat) (w w':World) (tb:Nat) (T:zj) (fp:List Nat) (fp':List Nat):Prop where
 trie:ya lo w' tb T fp'
 save:zc fp w w'
 qp:∀b∈fp',b∈fp∨w.heap.size<=b
def OR(T:zj)(a:Nat)(n m:qa):setNode (setNode T a n) a m=setNode T a m:=by simp[setNode]
def PS{T:zj}{a v d:Nat}(b:a<T.qi.length)(c:v<T.qf):ye T a v d=setNode T a ⟨kg v (v+1) T.qi[a].leap,T.qi[a].down.set v d⟩:=by
 unfold ye;rw[zb ⟨b,c⟩];simp[setNode,fS,List.getD_eq_getElem?_getD,b]
def Td(w:World)(tb:Nat)(T:zj)(fp:List Nat)(a v d:Nat)(h:ya lo w tb T fp):
  Calls prog 203 #[(π tb),ι a,ι v,ι d] w λe w'=>e=ε (.tuple #[])/\RT lo w w' tb (ye T a v d) fp fp:=by
 have N:=h;obtain⟨nv,ns,f,rfl⟩:=h;have ac:=f.wide;have aa:=f.many;by_cases z:a<T.qi.length
 .by_cases Q:v<T.qf
  .have g:a<ns.length:=by rw[f.len];exact z
   have E:Hid (ye T a v d=setNode T a ⟨kg v (v+1) T.qi[a].leap,T.qi[a].down.set v d⟩):=PS z Q;obtain⟨D,i,Z,rfl,J,H,⟨_,rfl⟩,A,p⟩:=f.downAt a v z Q;obtain⟨M,s,q⟩:=f.box.boxed;have U:=uH (f.down a z g);have G:=uH (f.leap a z g);have u:=f.setDown a v d z g Q;have H1:=Ry f;clear f N;have P:T.qi[a].down.set v d=T.qi[a].down.set v d:=rfl;generalize V:T.qi[a].down.set v d=C at *;generalize O:T.qi[a].leap=W at *;clear P V O;go_enter func203,ntmps203;go_wp2;clear A p M s q U G H J;go_loopw [8] (λS wr=>∃(n:Nat) (l:List Nat),n<=v+1/\S=ι ((n:Int)-1)/\vu lo wr tb (setNode T a ⟨l,C⟩) (.slice (some ⟨D,0,none⟩) T.qi.length i) ns/\Hid (kg v (v+1) W=kg v n l)/\zc (S3 tb (.slice (some ⟨D,0,none⟩) T.qi.length i) ns) w wr) (λS _=>(intOf S+1).toNat);refine⟨v+1,W,zf _,by go_num,u,rfl,(zc.set _ _ _ _).more λx y=>?_⟩;simp only[xC] at y;subst y;simp only[S3,zy,zW];exact ze (ze (tM g).2);clear u;obtain⟨n,l,hn,rfl,c,t,K⟩:=hrel;have r:a<(setNode T a ⟨l,C⟩).qi.length:=by simpa [setNode] using z
   have j:(setNode T a ⟨l,C⟩).qi[a]=⟨l,C⟩:=by simp[setNode]
   have o:(setNode T a ⟨l,C⟩).qf=T.qf:=rfl;obtain⟨M,s,q⟩:=c.box.boxed;have G:=uH (c.leap a r g);have k:Hid (kg v n l=l->RT lo w wr tb (ye T a v d) (S3 tb (.slice (some ⟨D,0,none⟩) T.qi.length i) ns) (S3 tb (.slice (some ⟨D,0,none⟩) T.qi.length i) ns)):=λe=>⟨⟨_,ns,by rw[E.out,t.out,e];exact c,rfl⟩,K,λb F=>zh F⟩;rcases n with _|m
   .clear c;go_wp2;go_end0
    exact⟨rfl,k.out rfl⟩
   have e:((m+1:Nat):Int)-1=(m:Int):=by omega
   rw[e];have X:m<T.qf:=by omega
   obtain⟨ad,Y,Z,I,J,H,⟨_,rfl⟩,A,p⟩:=c.leapAt a m r (by rw[o];exact X);simp only[Value.slice.injEq,zr,Addr.mk.injEq] at I;obtain⟨⟨rfl,_⟩,_,rfl⟩:=I;rw[j] at p;rw[o] at A;have B:=c.setLeap a m v r g (by rw[o];exact X);rw[j,OR] at B;have L:Hid (kg v (m+1) l=if l.getD m 0>v then kg v m (l.set m v) else l):=by rw[Hid,kg]
   have ab:=Ry c;clear c r j e;have R:Hid (vu lo (wr.setCell ⟨ns[a].1,m,none⟩ (ι v)) tb (setNode T a ⟨l.set m v,C⟩) (.slice (some ⟨D,0,none⟩) T.qi.length i) ns):=B;clear B;simp only at p;generalize l.getD m 0=x at *;by_cases y:x>v
   .rw[zb y] at L;go_wp2;go_roundw;refine⟨m,l.set m v,by omega,by go_num,R.out,t.trans L,K.trans ((zc.set _ _ _ _).more λx y=>?_)⟩;simp only[xC] at y;subst y;simp only[S3,zy,zW];exact ze (ze (tM g).1);simp[intOf]
   rw[za y] at L;go_wp2;go_end0
   exact⟨rfl,k.out L.out⟩
  have E:Hid (ye T a v d=T):=by unfold ye;rw[Hid,za (by omega)]
  obtain⟨ao,i,rfl⟩:=zq f.qi;obtain⟨M,s,q⟩:=f.box.boxed;clear f;go_enter func203,ntmps203;go_wp2
  (try simp only[Exit.inBlock,Exit.then]);refine zO (results_none rfl _ _ _) rfl ?_
  exact⟨rfl,by rw[E.out];exact⟨N,zc.refl _ _,λb F=>zh F⟩⟩
 have E:Hid (ye T a v d=T):=by unfold ye;rw[Hid,za (by omega)]
 obtain⟨ao,i,rfl⟩:=zq f.qi;obtain⟨M,s,q⟩:=f.box.boxed;clear f;go_enter func203,ntmps203;go_wp2
 (try simp only[Exit.inBlock,Exit.then]);refine zO (results_none rfl _ _ _) rfl ?_
 exact⟨rfl,by rw[E.out];exact⟨N,zc.refl _ _,λb F=>zh F⟩⟩
end
section
open Go.Proofs.Tryz Go.RowKit
variable {lo:Nat}
def QR:(prog.info? 273).map (λi=>(i.zero,i.size,i.bytes))=some (some (.agg #[ν,ν]),2,48):=by kernel_rfl
section
variable {P:Program} {ops:Array Oper} {o:Oper} {a:Act} {K:Act->World->Prop} {Q:Exit->Act->World->Prop}
def fw{E:Prop}(D B:World)(l:List Value)(X:TypeId)(T:o.guard=none)(s x:Operand)(t:TypeId)
  (ho:o.op=.call {callee:=.builtin .append,args:=#[s,x],argTypes:=#[t,t]})
  (p:Nat) (e:TypeId) (i:TypeInfo) (z:Value) (d f:Nat) (ht:P.underlying t=some (.slice e)) (hi:P.info? e=some i) (hz:i.zero=some z)
  (w:i.size=d) (L:i.bytes=f) (O:z.cells.size=d) (J:0<d)
  (v:Value) (n:Nat) (G:List Value) (hs:a.eval s=v) (F:D.ownsRow p e d v n G) (q:μ D B)
  (b c:Nat) (Y:a.eval x=.slice (some ⟨b,0,none⟩) 1 c) (W:Rz B b l.toArray X) (hl:l.length=d) (Z:∀u∈l,u.oneCell'=true)
  (hn:n<=10000000000) (r:f<=1000) (N:p<=D.heap.size)
  (h:∀C A,A.ownsRow p e d C (n+1) (G++l)->zc v.ownBlock.toList D A->(C.ownBlock=v.ownBlock∨∃g,C.ownBlock=some g/\D.heap.size<=g)->(∀k,k<B.heap.size->some k≠v.ownBlock->A.heap[k]?=B.heap[k]?)->B.heap.size<=A.heap.size->K (a.put o.dst C) A):
  if Region.wanted o (yielded ops a.tmps)=true then Oper.wp P o a B K Q else E:=by
 have hw:Region.wanted o (yielded ops a.tmps)=true:=by simp[Region.wanted,T]
 rw[zb hw];have y:=zB F q;have S:=q.size;obtain⟨C,A,hr,U,m,_,I⟩:=run_append_own_at (P:=P) B p t o.type e i z d f ht hi hz w L O J v n G y ⟨b,0,none⟩ 1 c l (by omega) (by
  intro j u V;rw[Addr.add_lit,vn,W.rules.1];simpa using V) Z (by unfold maxLen;omega) (by
  have:(n+1)*f<=10000000001*1000:=Nat.mul_le_mul (by omega) r;omega) (by omega)
 unfold Oper.wp execOp;simp only[ho,resolve,invoke,builtin,Sem.run_bind,Sem.run_pure,Result.andThen_ok,List.map_toArray,xZ,List.map_nil,hs,Y,hr];refine h C A U ⟨m.os.trans q.os,m.tape.trans q.tape,m.output.trans q.output,by have:=m.size;omega,λk H hm=>?_⟩ ?_ (λk H M=>m.block k H M) m.size
 .rw[m.block k (by omega) (λe=>hm (by rw[←e];simp))];exact q.block k H
 .rcases I with R|R
  .exact zh R
  .exact ze ⟨_,R,by omega⟩
end
def CI{W:World}{g n:Nat}{T:TypeId}(h:W.heap[g]?=some (.cells (madeCells #[ι 0] n) T (0,0)))(c:lo<=g)(d:n<=maxLen):W.ownsRow lo T 1 (sl g n) n ((List.replicate n 0).map Sf):=by
 refine⟨by simp,ze ⟨g,n,madeCells #[ι 0] n,rfl,c,h,zf _,d,by rw[size_madeCells];omega,?_⟩⟩;apply mA;intro i;by_cases b:i<n;simp[b,madeCells,Sf,Nat.mod_one];simp[List.getElem?_take,b]
def lW(w:World)(a b c:Obj):((((w.alloc a).alloc b).alloc c).drew).heap[w.heap.size]?=some a/\((((w.alloc a).alloc b).alloc c).drew).heap[w.heap.size+1]?=some b/\((((w.alloc a).alloc b).alloc c).drew).heap[w.heap.size+1+1]?=some c:=by
 refine⟨?_,?_,?_⟩;show(((w.heap.push a).push b).push c)[w.heap.size]?=_;simp[Array.getElem?_push];omega;show(((w.heap.push a).push b).push c)[w.heap.size+1]?=_;rw[Array.getElem?_push,za (by simp),Array.getElem?_push,zb (by simp)];show(((w.heap.push a).push b).push c)[w.heap.size+1+1]?=_;rw[Array.getElem?_push,zb (by simp)]
def MW(wd:Nat)(ns:List (Nat×Nat))(x:Nat×Nat):lc wd (ns++[x])=lc wd ns++[sl x.1 wd,sl x.2 wd]:=by simp[lc]
def Cq(ns:List (Nat×Nat))(x:Nat×Nat):RU (ns++[x])=RU ns++[x.1,x.2]:=by simp[RU]
def vu.grow{w wr r:World}{tb:Nat}{T:zj}{u c:Value}{ns:List (Nat×Nat)}{k l:Nat}(h:vu lo w tb T u ns)(t:μ w wr)(aa:w.heap.size<=k)(Y:w.heap.size<=l)(J:k≠l)
  (Z:wr.ownsRow w.heap.size 3 1 (sl k T.qf) T.qf ((List.replicate T.qf T.qf).map Sf)) (W:wr.ownsRow w.heap.size 3 1 (sl l T.qf) T.qf ((List.replicate T.qf 0).map Sf))
  (hs:zc u.ownBlock.toList wr r) (G:r.ownsRow lo 273 2 c (T.qi.length+1) (lc T.qf ns++[sl k T.qf,sl l T.qf])) (H:c.ownBlock=u.ownBlock∨∃g,c.ownBlock=some g/\wr.heap.size<=g) (E:T.qi.length<100000000):
  ∃N,RT lo w (r.setCell ⟨tb,2,none⟩ c) tb (y7 T) (S3 tb u ns) N:=by
 have y:lo<=w.heap.size:=by have:=h.low;have:=h.box.lt;omega
 have A:=h.box.below t;have z:=zB h.qi t;have p:=A.save hs (qK z A (by decide));have f:=zc.set r tb 2 c;have S:∀{C:Nat} {e:TypeId} {V:Nat} {v:Value} {F:Nat} {B:List Value},r.ownsRow C e V v F B->e≠229->∀b,v.ownBlock=some b->b∉[tb]:=λG hT b s E=>vD G p hT s (by simpa using E);have n:∀{C:Nat} {v:Value} {F:Nat} {B:List Value},wr.ownsRow C 3 1 v F B->(r.setCell ⟨tb,2,none⟩ c).ownsRow C 3 1 v F B:=λq=>by
  have R:=yK q hs (λb s E=>m7 q z (by decide) s (xb E));exact yK R f (S R (by decide))
 have L:zc (S3 tb u ns) w (r.setCell ⟨tb,2,none⟩ c):=((zc.of (M:=S3 tb u ns) t).newer hs (λx D=>zh (by simp only[S3,zy,zW];exact ze (zh D)))).newer f (λx D=>zh (by simp at D;simp[S3,D]));refine⟨_,⟨c,ns++[(k,l)],⟨h.low,?_,?_,by simp[y7,h.len],λi O I=>?_,λi O I=>?_,?_,h.wide,by simp[y7];omega,h.deep,h.few⟩,rfl⟩,L,λb m=>?_⟩;have X:=p.set 2 c;simpa [y7] using X;rw[MW];have:=yK G f (S G (by decide));simpa [y7] using this;simp[y7] at O;by_cases d:i<T.qi.length;have j:i<ns.length:=by rw[h.len];exact d
 simp only[y7,uD d,uD j];exact n (zB (h.leap i d j) t);obtain rfl:i=T.qi.length:=by omega
 have e:(ns++[(k,l)])[T.qi.length]=(k,l):=by simp[←h.len]
 rw[e];simp only[y7,nK];exact n (yk Z y);simp[y7] at O;by_cases d:i<T.qi.length;have j:i<ns.length:=by rw[h.len];exact d
 simp only[y7,uD d,uD j];exact n (zB (h.down i d j) t);obtain rfl:i=T.qi.length:=by omega
 have e:(ns++[(k,l)])[T.qi.length]=(k,l):=by simp[←h.len]
 rw[e];simp only[y7,nK];exact n (yk W y);rw[Cq,pz];refine⟨h.apart,by simp[J],λa U b m e=>?_⟩;have:=(h.lt a (by simp only[S3,zy,zW];exact ze (ze U))).2;simp at m;omega;simp only[S3,zy,zW,Cq] at m ⊢;rcases m with q|q|q|q;simp[q];rcases H with e|⟨g,e,hg⟩;rw[e] at q;simp[q];rw[e] at q;simp at q;have:=t.size;right;omega;simp[q];simp at q;right;omega
def Iw(k n x:Nat)(c:k<n):((List.replicate k x++List.replicate (n-k) 0).map Sf)[k]?=some (ι (0:Int)):=by
 obtain⟨m,b⟩:∃m,n-k=m+1:=⟨n-k-1,by omega⟩;rw[b,mo,d9 (by simp),List.length_replicate,jv];rfl
def Qe(k n x:Nat)(c:k<n):((List.replicate k x++List.replicate (n-k) 0).map Sf).set k (.int .i64 x)=(List.replicate (k+1) x++List.replicate (n-(k+1)) 0).map Sf:=by
 obtain⟨m,b⟩:∃m,n-k=m+1:=⟨n-k-1,by omega⟩;rw[show n-(k+1)=m from by omega,b,show Value.int .i64 x=Sf x from rfl,←gA,fm _ _ (by simp),List.length_replicate,jv,List.replicate_succ' (n:=k),kz];rfl
def wk(w b:World)(wd:Nat)(s:Value):Prop:=∃e c d,s=(π e)/\c≠d/\w.heap.size<=e/\Rz b e #[.slice (some ⟨c,0,none⟩) wd wd,.slice (some ⟨d,0,none⟩) wd wd] 273/\b.ownsRow w.heap.size 3 1 (sl c wd) wd ((List.replicate wd 0).map Sf)/\b.ownsRow w.heap.size 3 1 (sl d wd) wd ((List.replicate wd 0).map Sf)/\μ w b
def wk.mk'{w d:World}{wd e b c:Nat}(h:Rz d e #[.slice (some ⟨b,0,none⟩) wd wd,.slice (some ⟨c,0,none⟩) wd wd] 273)(l:d.heap[b]?=some (.cells (madeCells #[ι 0] wd) 3 (0,0)))(k:d.heap[c]?=some (.cells (madeCells #[ι 0] wd) 3 (0,0)))(f:b≠c)(g:w.heap.size<=e)(j:w.heap.size<=b)(m:w.heap.size<=c)(n:wd<=1000)(i:μ w d):wk w d wd ((π e)):=
 ⟨e,b,c,rfl,f,g,h,CI l j (by unfold maxLen;omega),CI k m (by unfold maxLen;omega),i⟩
def BJ(w:World)(tb:Nat)(T:zj)(fp:List Nat)(h:ya lo w tb T fp)(Y:T.qi.length<100000000):
  Calls prog 162 #[(π tb)] w λe V=>e=ε (ι T.qi.length)/\∃s,RT lo w V tb (y7 T) fp s:=by
 obtain⟨nv,ns,C,rfl⟩:=h;have ad:=C.wide;have am:=C.many;have ac:=λW:World=>run_make_row' (P:=prog) (w:=W) 24 3 (ι 0) 8 underlying24 QO rfl .i64 .i64 T.qf (by omega) (by omega);obtain⟨F,m,l⟩:=C.box.boxed;have t:=Ry C;clear C;have L:w.cell? ⟨tb,0,none⟩=some (ι T.qf):=by simp[F]
 go_enter func162,ntmps162;go_upto_region 1 with fail
 go_cut [3] from 5 to 15 (λs3 wx=>wk w wx T.qf s3)
 .go_region_held3 (λV=>V.cell? ⟨tb,0,none⟩=some (ι T.qf)) (exact(Below.cell (w:=w) (p:=⟨tb,0,none⟩) (show μ w _ from(by go_grown)) l).trans L) (fail)
  all_goals
   go_wp2_with fail
   go_meet
   apply wk.mk';first|exact(lW w _ _ _).1|exact(lW w _ _ _).2.1|exact(lW w _ _ _).2.2
   first|exact(lW w _ _ _).1|exact(lW w _ _ _).2.1|exact(lW w _ _ _).2.2
   first|exact(lW w _ _ _).1|exact(lW w _ _ _).2.1|exact(lW w _ _ _).2.2
   omega;omega;omega;omega;exact ad;exact(by go_grown)
 obtain⟨nb,r,S,rfl,O,aq,g,c,j,f⟩:=hcut;clear ac L F m l;obtain⟨G,D,A⟩:=g.boxed;have d:=t.out.box.below f;obtain⟨F,m,l⟩:=d.boxed;go_wp2;clear G D A F m l;go_loopw [19] (λaf wr=>∃k:Nat,k<=T.qf/\af=ι k/\Rz wr nb #[.slice (some ⟨r,0,none⟩) T.qf T.qf,.slice (some ⟨S,0,none⟩) T.qf T.qf] 273/\Rz wr tb #[ι T.qf,ι T.ql,nv,ι T.count] 229/\wr.ownsRow w.heap.size 3 1 (sl r T.qf) T.qf ((List.replicate k T.qf++List.replicate (T.qf-k) 0).map Sf)/\wr.ownsRow w.heap.size 3 1 (sl S T.qf) T.qf ((List.replicate T.qf 0).map Sf)/\μ w wr) (λi _=>T.qf-(intOf i).toNat);exact⟨0,zv _,rfl,g,d,by simpa using c,j,f⟩;clear g c j f d;obtain⟨k,hk,rfl,g,d,c,j,f⟩:=hrel;obtain⟨G,D,A⟩:=g.boxed;obtain⟨F,m,l⟩:=d.boxed;by_cases v:k<T.qf
 .have an:=yA c rfl;have x:=yX c rfl;have al:=uH c;obtain⟨av,ai,hv,_,_,J⟩:=yw c (by omega);simp only[sl,Value.slice.injEq,zr,Addr.mk.injEq] at hv;obtain⟨⟨rfl,_⟩,_,H⟩:=hv;clear H;have M:=J k _ (Iw k T.qf T.qf v);have n:=uj c k (by simp;omega) (ι T.qf);rw[Qe k T.qf T.qf v] at n;have ab:r≠nb:=vD c g (by decide) rfl;have aa:r≠tb:=vD c d (by decide) rfl;have E:=yK j (zc.set wr r k (ι T.qf)) (λb hb Y=>by simp[sl,Value.ownBlock] at hb Y;omega);have z:=g.set_ne (Ne.symm ab) k (ι T.qf);have u:=d.set_ne (Ne.symm aa) k (ι T.qf);have R:=f.setCell (p:=⟨r,k,none⟩) x (ι T.qf);clear J;go_wp2;go_region
  all_goals
   go_wp2;go_roundw;exact⟨k+1,by omega,by go_num,Rz.drew z,Rz.drew u,zB n (zp _ _).drew,zB E (zp _ _).drew,R.drew⟩;simp[intOf];omega
 obtain rfl:k=T.qf:=by omega
 rw[jv,List.replicate_zero,vR] at c;obtain⟨i0,hi,ae,X,N⟩:=info_parts QR;obtain⟨ao,Z,rfl⟩:=zq t.out.qi;have q:=zB t.out.qi f;have ak:lo<=w.heap.size:=by have:=t.out.low;have:=t.out.box.lt;omega
 have ap:=f.size;go_wp2;go_region_law (first|(refine fw wr _ [.slice (some ⟨r,0,none⟩) T.qf T.qf,.slice (some ⟨S,0,none⟩) T.qf T.qf] 273 rfl (.tmp 35) (.tmp 37) 227 rfl lo 273 i0 _ 2 48 underlying227 hi ae X N rfl (by decide) (.slice ao T.qi.length Z) T.qi.length (lc T.qf ns) (by simp[Act.eval]) q (by exact(by go_grown)) wr.heap.size 1 (by simp[Act.eval]) (by exact Rz.drew (Rz.new _ _ _)) rfl (by simp[Value.oneCell']) (by omega) (by omega) (by omega) ?_;intro v' w2 y I B ar ah;obtain⟨aj,ag,rfl⟩:=zq y;have U:=d.save I (qK q d (by decide));obtain⟨au,aw,ax⟩:=U.boxed))
 all_goals
  obtain⟨s,hW⟩:=t.out.grow f (yX c rfl) (yX j rfl) O c j I y B Y;have HW:=Ry hW;clear hW;go_wp2;go_ret;exact⟨by simp,s,HW.out⟩
def Qw(d:Nat):xi d<=3:=by unfold xi;(repeat' split)<;>omega
def oO(w:World)(wd c:Nat)(z:wd<=1000)(y:c<=100000000):
  Calls prog 119 #[ι wd,ι c] w λe m=>∃s g,e=ε ((π s))/\ya w.heap.size m s (xd wd c) g/\μ w m:=by
 have n:∀a b:Nat,a=zL wd->b=xi c->vu w.heap.size (w.alloc (.cells #[ι (a:Nat),ι (b:Nat),ν,ι 0] 229)) w.heap.size ⟨zL wd,xi c,[],0⟩ (ν) []:=by
  rintro a b rfl rfl;refine⟨zf _,Rz.new _ _ _,yW _ _ _ _,rfl,λi h=>by simp at h,λi h=>by simp at h,by simp[RU],?_,by simp,?_,by simp⟩;simp only[zL];split<;>omega
  exact Qw c
 have k:Hid (∀a b:Nat,a=zL wd->b=xi c->Calls prog 162 #[.pointer (some ⟨w.heap.size,0,none⟩)] (w.alloc (.cells #[ι (a:Nat),ι (b:Nat),ν,ι 0] 229)) λe m=>∃g,e=ε (ι 0)/\ya w.heap.size m w.heap.size (xd wd c) g/\μ w m):=λa b t j=>by
  refine(BJ _ _ _ _ ⟨_,_,n a b t j,rfl⟩ (by simp)).mono λe m ⟨v,q,r⟩=>⟨q,v,r.trie,?_⟩;exact((zp w.heap.size w).alloc (zf _) _).trans (r.save.below (by simp[S3,RU,Value.ownBlock]) (by simp))
 clear n;by_cases A:wd<1
 .by_cases u:c<1
  .have f:1=zL wd:=by unfold zL;split<;>omega
   have d:1=xi c:=by unfold xi;(repeat' split)<;>omega
   have H:=Ry (k.out _ _ f d);clear f d k;go_enter func119,ntmps119;go_wp2_with (go_at_call 162;refine H.out.mono ?_;rintro e p ⟨g,rfl,l,j⟩)
   go_ret;exact⟨_,g,rfl,l,j⟩
  by_cases x:c>3
  .have f:1=zL wd:=by unfold zL;split<;>omega
   have d:3=xi c:=by unfold xi;(repeat' split)<;>omega
   have H:=Ry (k.out _ _ f d);clear f d k;go_enter func119,ntmps119;go_wp2_with (go_at_call 162;refine H.out.mono ?_;rintro e p ⟨g,rfl,l,j⟩)
   go_ret;exact⟨_,g,rfl,l,j⟩
  have f:1=zL wd:=by unfold zL;split<;>omega
  have d:c=xi c:=by unfold xi;(repeat' split)<;>omega
  have H:=Ry (k.out _ _ f d);clear f d k;go_enter func119,ntmps119;go_wp2_with (go_at_call 162;refine H.out.mono ?_;rintro e p ⟨g,rfl,l,j⟩)
  go_ret;exact⟨_,g,rfl,l,j⟩
 by_cases u:c<1
 .have f:wd=zL wd:=by unfold zL;split<;>omega
  have d:1=xi c:=by unfold xi;(repeat' split)<;>omega
  have H:=Ry (k.out _ _ f d);clear f d k;go_enter func119,ntmps119;go_wp2_with (go_at_call 162;refine H.out.mono ?_;rintro e p ⟨g,rfl,l,j⟩)
  go_ret;exact⟨_,g,rfl,l,j⟩
 by_cases x:c>3
 .have f:wd=zL wd:=by unfold zL;split<;>omega
  have d:3=xi c:=by unfold xi;(repeat' split)<;>omega
  have H:=Ry (k.out _ _ f d);clear f d k;go_enter func119,ntmps119;go_wp2_with (go_at_call 162;refine H.out.mono ?_;rintro e p ⟨g,rfl,l,j⟩)
  go_ret;exact⟨_,g,rfl,l,j⟩
 have f:wd=zL wd:=by unfold zL;split<;>omega
 have d:c=xi c:=by unfold xi;(repeat' split)<;>omega
 have H:=Ry (k.out _ _ f d);clear f d k;go_enter func119,ntmps119;go_wp2_with (go_at_call 162;refine H.out.mono ?_;rintro e p ⟨g,rfl,l,j⟩)
 go_ret;exact⟨_,g,rfl,l,j⟩
end
structure yF where
 lit:zw
 before:zj
 qp:zj
 all:zj
 deriving DecidableEq
structure yb where
 rule:zs
 qm:List yF
 deriving DecidableEq
structure qV where
 pred:Nat
 row:zi
 deriving DecidableEq
structure qJ where
 qf:Nat
 qj:List Nat
 facts:List qV
 rules:List zs
 deriving DecidableEq
structure zu where
 rows:List zj
 count:Nat
 qx:Nat
 jg:Int
 qp:List (List zi)
 deriving DecidableEq
def zj.zero:zj:=⟨0,0,[],0⟩
def qD(R:zu):zu:={R with qp:=List.replicate R.rows.length []}
def okT(T:zj):Bool:=decide (T.qi.length<=90000000)&&decide (T.count<1000000000)
def xK:List zi->zj->Option zj
 |[],T=>some T
 |r::a,T=>if okT T then xK a (yx T r 0).1 else none
def rowsG(a:Nat)(T:zj):Option (List zi):=
 match lD a T with
 |none=>none
 |some b=>if b.length<=1048576 then some b else none
def jM(b:Nat)(R:zu)(a:Nat)(row:zi):Option (zu×Bool):=
 if a<R.rows.length/\a<R.qp.length/\okT (R.rows.getD a zj.zero)=true/\R.count<=1048576/\(R.qp.getD a []).length<=1048576 then
  match yx (R.rows.getD a zj.zero) row R.qx with
  |(T,false)=>some ({R with rows:=R.rows.set a T},true)
  |(T,true)=>some ({R with rows:=R.rows.set a T,qp:=R.qp.set a (R.qp.getD a []++[row]),count:=R.count+1},decide (R.count+1<=b))
 else none
def ly(b:Nat)(R:zu)(a:Nat):zj:=if a≥R.rows.length then xd b 0 else R.rows.getD a zj.zero
def dU(d g:Nat)(V:yF)(c:List zi):Option yF:=
 match rowsG d V.qp with
 |none=>none
 |some e=>
  match xK e V.before,xK (c.filterMap (xO V.lit)) (xd g (yZ V.lit)),xK (c.filterMap (xO V.lit)) V.all with
  |some b,some f,some a=>some {V with before:=b,qp:=f,all:=a}
  |_,_,_=>none
def kR(a:Nat)(l:zw):yF:=⟨l,xd a (yZ l),xd a (yZ l),xd a (yZ l)⟩
def d8(a c:Nat)(R:zu):List zw->Option (List yF)
 |[]=>some []
 |l::r=>
  match rowsG a (ly c R l.pred) with
  |none=>none
  |some b=>match dU a c (kR c l) b,d8 a c R r with
   |some v,some vs=>some (v::vs)
   |_,_=>none
def RY(a b:Nat)(R:zu)(c:Nat):List zs->Option (List yb)
 |[]=>some []
 |r::d=>
  if r.qh=c then
   match d8 a b R r.qc,RY a b R c d with
   |some vs,some e=>some (⟨r,vs⟩::e)
   |_,_=>none
  else RY a b R c d
def vG(a b:Nat):Nat->zu->z7->Option (zu×Bool)
 |0,_,_=>none
 |n+1,R,J=>
  match fB n J with
  |none=>none
  |some (J,false)=>some ({R with jg:=IntKind.i64.wrap (R.jg+J.jg)},true)
  |some (J,true)=>match jM a R b (zG J.head J.jd) with
   |none=>none
   |some (R,false)=>some (R,false)
   |some (R,true)=>vG a b n R J
def ju(a:Nat)(R:zu)(r:zs):List zj:=r.qw.map λl=>ly a R l.pred
def RN(vs:List yF)(place:Nat):List zj:=vs.zipIdx.map λx=>if x.2<place then x.1.before else if x.2=place then x.1.qp else x.1.all
def jJ(b c a:Nat)(W:yb):Nat->Nat->zu->Option (zu×Bool)
 |0,_,R=>some (R,true)
 |n+1,i,R=>
  if (W.qm.getD i ⟨⟨0,[]⟩,zj.zero,zj.zero,zj.zero⟩).qp.count>0 then
   match vG a W.rule.head.pred b R (xB W.rule (RN W.qm i) (ju c R W.rule)) with
   |none=>none
   |some (R,false)=>some (R,false)
   |some (R,true)=>jJ b c a W n (i+1) R
  else jJ b c a W n (i+1) R
def kG(b c a:Nat)(first:Bool)(R:zu)(W:yb):Option (zu×Bool):=
 if first then vG a W.rule.head.pred b R (xB W.rule (W.qm.map (·.all)) (ju c R W.rule))
 else jJ b c a W W.qm.length 0 R
def kS(b c a:Nat)(first:Bool):List yb->zu->Option (zu×Bool)
 |[],R=>some (R,true)
 |W::d,R=>
  match kG b c a first R W with
  |none=>none
  |some (R,false)=>some (R,false)
  |some (R,true)=>kS b c a first d R
def dX(a c:Nat)(b:List (List zi)):List yF->Option (List yF)
 |[]=>some []
 |V::vs=>
  match (if V.lit.pred<b.length then dU a c V (b.getD V.lit.pred []) else some V),dX a c b vs with
  |some v,some vs=>some (v::vs)
  |_,_=>none
def gR(a d:Nat)(c:List (List zi)):List yb->Option (List yb)
 |[]=>some []
 |W::b=>
  match dX a d c W.qm,gR a d c b with
  |some v,some b=>some ({W with qm:=v}::b)
  |_,_=>none
def nX(b d a:Nat)(first:Bool)(c:List yb)(R:zu):Option (zu×List yb×Bool):=
 match kS b d a first c (qD {R with qx:=R.qx+1}) with
 |none=>none
 |some (R,false)=>some (R,c,false)
 |some (R,true)=>(gR b d R.qp c).map λc=>(R,c,true)
def kL(e b a:Nat):Nat->Bool->List yb->zu->Option (zu×Bool)
 |0,_,_,_=>none
 |n+1,first,d,R=>
  if R.qx≥a then some (R,false)
  else match nX n e b first d R with
   |none=>none
   |some (c,_,false)=>some (c,false)
   |some (c,d,true)=>if c.count>R.count then kL e b a n false d c else some (c,true)
def pj(c f b a:Nat)(d:List zs)(R:zu)(s:Nat):Option (zu×Bool):=
 match RY c f R s d with
 |none=>none
 |some e=>if e.length>0 then kL f b a c true e R else some (R,true)
def ku(d e b a:Nat)(c:List zs):Nat->Nat->zu->Option (zu×Bool)
 |0,_,R=>some (R,true)
 |n+1,s,R=>
  match pj d e b a c R s with
  |none=>none
  |some (R,false)=>some (R,false)
  |some (R,true)=>ku d e b a c n (s+1) R
def kO(a:Nat):List qV->zu->Option (zu×Bool)
 |[],R=>some (R,true)
 |f::b,R=>
  match jM a R f.pred f.row with
  |none=>none
  |some (R,false)=>some (R,false)
  |some (R,true)=>kO a b R
def fH(S:qJ):zu:=qD ⟨S.qj.map (xd S.qf),0,0,0,[]⟩
def mz(c:Nat)(S:qJ)(a b:Nat):Option (Option zu):=
 match kO a S.facts (fH S) with
 |none=>none
 |some (_,false)=>some none
 |some (R,true)=>(ku c S.qf a b S.rules S.qj.length 0 R).map λx=>if x.2 then some x.1 else none
section
variable {d i:Nat}{listed:Array Bool}{a:Act}{w:World}
section
variable {P:Program} {ops:Array Oper} {Q:Exit->Act->World->Prop} {md:Region.Mode} {S:World->Prop}
def lf(P:Program)(md:Region.Mode)(ops:Array Oper)(Q:Exit->Act->World->Prop)(S:World->Prop)(d:Nat):Nat->Array Bool->Act->World->Prop
 |0,listed,a,w=>Region.ready md ops listed=[]/\Q .normal a w
 |b+1,listed,a,w=>
  (Region.ready md ops listed=[]->Q .normal a w) ∧
  ∀i∈Region.ready md ops listed,wpOp P ops Q i (λe c=>(i≠d->S c)/\lf P md ops Q S d b (listed.setIfInBounds i true) e c) a w
def Cy{d:Nat}:∀(b:Nat) (listed:Array Bool) (a:Act) (w:World),lf P md ops Q S d b listed a w->wpAny P md ops Q b listed a w
 |0,_,_,_,h=>h
 |b+1,_,_,_,h=>⟨h.1,λi c=>wpOp_mono (λe f g=>Cy b _ e f g.2) (h.2 i c)⟩
def Sw(md:Region.Mode)(ops:Array Oper)(d i:Nat):Bool:=match ops[d]? with
 |none=>false
 |some o=>o.after.toList.any λe=>Region.binds md e&&e.on == i
def Ng(h:Sw md ops d i=true):∃o,ops[d]?=some o/\∃e∈o.after,Region.binds md e=true/\e.on=i:=by
 unfold Sw at h;split at h;cases h;rename_i o f;obtain⟨e,c,b⟩:=gi.1 h;simp only[uG,beq_iff_eq] at b;exact⟨o,f,e,by simpa using c,b⟩
def QC{s:Oper}{v:Value}(R:ops[i]?=some s)(r:∀(j:Nat) (o:Oper) y b,ops[j]?=some o->o.op≠.select y b)
  (hQ:∀c a w,Q (.panic c) (a.put s.dst v) w->Q (.panic c) a w) (hd:Sw md ops d i=true):
  ∀(g:Nat) (listed:Array Bool) (a:Act) (w:World),
   (∀j u,ops[j]?=some u->j≠i->listed.getD j true=false->(∀e∈u.after,Region.binds md e=true->e.on≠i)->s.apart ops u=true) →
   i∈Region.ready md ops listed->YieldsIf P ops S s v a->S w →
   lf P md ops Q S d g (listed.setIfInBounds i true) (a.put s.dst v) w->lf P md ops Q S d (g+1) listed a w:=by
 intro g;induction g with
 |zero=>
  intro listed a w _ x E B H;refine⟨λh=>(by rw[h] at x;cases x),λj D=>?_⟩;by_cases f:j=i;subst f;exact E.wpOp R B ⟨λ_=>B,H⟩;have:=ready_mono D f;rw[H.1] at this;cases this
 |succ g X=>
  intro listed a w l x E B H;refine⟨λh=>(by rw[h] at x;cases x),λj D=>?_⟩;by_cases f:j=i;subst f;exact E.wpOp R B ⟨λ_=>B,H⟩;have t:=H.2 j (ready_mono D f);obtain⟨p,u,m,z⟩:=mem_ready.1 D;have q:∀e∈u.after,Region.binds md e=true->e.on≠i:=λe L J N=>by
   have t:=z e L J;have T:=(mem_ready.1 x).1;rw[N] at t;rcases dI i listed.size with I|I;simp[I] at T t;rw[T] at t;cases t;simp[Array.getElem?_eq_none I] at t
  have G:j≠d:=λe=>by
   subst e;obtain⟨od,U,e,L,J,K⟩:=Ng hd;rw[m] at U;cases U;exact q e L J K
  have W:=wpOp_putIf m (l j u m f p q) (λy b=>r i s y b R) (λy b=>r j u y b m) hQ E t;have n:∀k ok,ops[k]?=some ok->k≠i->(listed.setIfInBounds j true).getD k true=false →
    (∀e∈ok.after,Region.binds md e=true->e.on≠i)->s.apart ops ok=true:=λk ok V M A O=>by
   refine l k ok V M ?_ O;by_cases C:j=k
   .subst C;exact p
   .rw[getD_set_ne true C] at A;exact A
  refine wpOp_mono (λZ Y F=>⟨F.2.1,X (listed.setIfInBounds j true) Z Y n (ready_mono x (Ne.symm f)) F.1 (F.2.1 G) ?_⟩) W;rw[Array.setIfInBounds_comm _ _ f];exact F.2.2
def uk{e:Oper}{v:Value}{b:Nat}(f:ops[i]?=some e)
  (hs:Region.noSelect ops=true) (k:Region.free md ops listed i=true) (j:(Region.ready md ops listed).contains i=true) (m:Sw md ops d i=true)
  (n:∀c a w,Q (.panic c) (a.put e.dst v) w->Q (.panic c) a w) (g:YieldsIf P ops S e v a) (l:S w)
  (h:lf P md ops Q S d b (listed.setIfInBounds i true) (a.put e.dst v) w):lf P md ops Q S d (b+1) listed a w:=
 QC f (Region.noSelect_spec hs) n m b listed a w (Region.free_spec f k) (by simpa using j) g l h
def gX{o:Oper}{b:Nat}(e:Region.ready md ops listed=[i])(m:ops[i]?=some o)
  (h:∀c:Act->World->Prop,Shut (∀a w,(i≠d->S w)->lf P md ops Q S d b (listed.setIfInBounds i true) a w->c a w)->if Region.wanted o (yielded ops a.tmps)=true then Oper.wp P o a w c Q else c (a.put o.dst undef) w):lf P md ops Q S d (b+1) listed a w:=by
 refine⟨λf=>(by rw[e] at f;cases f),λj g=>?_⟩;rw[e] at g;obtain rfl:j=i:=by simpa using g
 exact wpOp_step m (λc k=>h c (λa w l n=>k a w ⟨l,n⟩))
def oL(c:Region.ready md ops listed=[])(h:Q .normal a w):∀b,lf P md ops Q S d b listed a w
 |0=>⟨c,h⟩
 |_+1=>⟨λ_=>h,by rw[c];simp⟩
def oH{id:Nat}(c:P.follows .mixedOrders=true)(b:S w.drew)
  (h:S w.drew->lf P .any ops Q S d ops.size (Array.replicate ops.size false) a w.drew):(Code.region id ops true).wp P Q a w:=
 wp_region_any c (Cy _ _ _ _ (h b))
end
end
section
variable {v:ByteArray}{vs:κ}
def Q8{t:ByteArray}:v∈j5 vs t↔v∈vs∨(v=t/\zQ v=true):=by
 unfold j5;cases a:zQ t;exact⟨zh,λh=>h.elim id λx=>by have g:=x.2;rw[x.1,a] at g;cases g⟩;cases b:yu t vs;simp only[Bool.not_false,Bool.and_true,if_true,zW,xC];exact⟨λh=>h.elim zh λe=>ze ⟨e,by rw[e];exact a⟩,λh=>h.elim zh λe=>ze e.1⟩;exact⟨zh,λh=>h.elim id fun⟨e,_⟩=>by subst e;exact vH.1 b⟩
def w9{v:ByteArray}:∀{args vs:κ},v∈xz vs args↔v∈vs∨(v∈args/\zQ v=true)
 |[],vs=>by simp[xz]
 |t::r,vs=>by
  show v∈xz (j5 vs t) r↔_;rw[w9,Q8,zy];constructor
  .rintro((h|⟨h,g⟩)|⟨h,g⟩)
   .exact zh h
   .exact ze ⟨zh h,g⟩
   .exact ze ⟨ze h,g⟩
  .rintro(h|⟨h|h,g⟩)
   .exact zh (zh h)
   .exact zh (ze ⟨h,g⟩)
   .exact ze ⟨h,g⟩
def Fv{v:ByteArray}:∀{a:List zk} {vs:κ},v∈a.foldl kI vs↔v∈vs∨(zQ v=true/\∃l∈a,v∈l.args)
 |[],vs=>by simp
 |l::r,vs=>by
  rw[uu,Fv,kI,w9];simp only[zy,exists_eq_or_imp];constructor
  .rintro((h|⟨h,g⟩)|⟨g,h⟩)
   .exact zh h
   .exact ze ⟨g,zh h⟩
   .exact ze ⟨g,ze h⟩
  .rintro(h|⟨g,h|h⟩)
   .exact zh (zh h)
   .exact zh (ze ⟨h,g⟩)
   .exact ze ⟨g,h⟩
def Ef{v:ByteArray}:∀{a:List zk} {vs:κ},v∈a.foldl vS vs↔v∈vs∨(zQ v=true/\∃l∈a,l.neg=false/\v∈l.args)
 |[],vs=>by simp
 |l::r,vs=>by
  rw[uu,Ef,vS];simp only[zy,exists_eq_or_imp];cases b:l.neg with
  |true=>simp
  |false=>
   rw[za (by simp),w9];constructor
   .rintro((h|⟨h,g⟩)|⟨g,h⟩)
    .exact zh h
    .exact ze ⟨g,zh ⟨rfl,h⟩⟩
    .exact ze ⟨g,ze h⟩
   .rintro(h|⟨g,⟨-,h⟩|h⟩)
    .exact zh (zh h)
    .exact zh (ze ⟨h,g⟩)
    .exact ze ⟨g,h⟩
def tD{c:zd}:v∈ud c↔zQ v=true/\(v∈c.head.args∨∃l∈c.body,v∈l.args):=by
 unfold ud;rw[Fv,w9];constructor;rintro((h|⟨h,g⟩)|⟨g,h⟩);exact z9 h (by simp);exact⟨g,zh h⟩;exact⟨g,ze h⟩;rintro⟨g,h|h⟩;exact zh (ze ⟨h,g⟩);exact ze ⟨g,h⟩
def gY{c:zd}:v∈zx c↔zQ v=true/\∃l∈c.body,l.neg=false/\v∈l.args:=by
 unfold zx;rw[Ef];simp
def mG{args:κ}:qH vs args=true↔∀t∈args,zQ t=true->t∈vs:=by
 unfold qH;rw[fL];constructor;intro h t a b;have:=h t a;rw[b,mX,pk] at this;exact vH.1 this;intro h t a;cases b:zQ t;rfl;rw[mX,pk];exact vH.2 (h t a b)
end
section
variable {a b:ByteArray}
def AZ:∀a:List UInt8,Op.bytesLess a a=false
 |[]=>rfl
 |x::a=>by simp[Op.bytesLess,AZ a]
def EN:∀a b:List UInt8,Op.bytesLess a b=false->Op.bytesLess b a=false->a=b
 |[],[],_,_=>rfl
 |[],_::_,h,_=>by simp[Op.bytesLess] at h
 |_::_,[],_,h=>by simp[Op.bytesLess] at h
 |x::a,y::b,d,e=>by
  simp only[Op.bytesLess,n8,decide_eq_false_iff_not,Bool.and_eq_false_iff,beq_eq_false_iff_ne] at d e;have c:x=y:=by
   have f:=d.1;have g:=e.1;rw[UInt8.not_lt] at f g;exact UInt8.le_antisymm g f
  subst c;rw[EN a b (d.2.resolve_left λh=>h rfl) (e.2.resolve_left λh=>h rfl)]
def Bw:∀a b c:List UInt8,Op.bytesLess a b=true->Op.bytesLess b c=true->Op.bytesLess a c=true
 |_,[],_,h,_=>by cases ‹List UInt8›<;>simp[Op.bytesLess] at h
 |_,_::_,[],_,h=>by simp[Op.bytesLess] at h
 |[],_::_,_::_,_,_=>rfl
 |x::a,y::b,z::c,e,d=>by
  simp only[Op.bytesLess,fu,decide_eq_true_eq,uG,beq_iff_eq] at e d ⊢;rcases e with e|⟨rfl,e⟩
  .rcases d with d|⟨rfl,d⟩
   .exact zh (UInt8.lt_trans e d)
   .exact zh e
  .rcases d with d|⟨rfl,d⟩
   .exact zh d
   .exact ze ⟨rfl,Bw a b c e d⟩
def RF(a:ByteArray):RX a a=false:=AZ _
def sw(d:RX a b=false)(c:RX b a=false):a=b:=S8 (EN _ _ d c)
def lt_trans{c:ByteArray}(e:RX a b=true)(d:RX b c=true):RX a c=true:=Bw _ _ _ e d
def Ij(h:RX a b=true):RX b a=false:=by
 cases c:RX b a;rfl;have:=lt_trans h c;rw[RF] at this;cases this
def yz(l:κ):Prop:=l.Pairwise λa b=>RX a b=true
def EY:∀{a b:κ},yz a->yz b->(∀x,x∈a↔x∈b)->a=b
 |[],[],_,_,_=>rfl
 |[],y::b,_,_,h=>by have:=(h y).2 (by simp);cases this
 |x::a,[],_,_,h=>by have:=(h x).1 (by simp);cases this
 |x::a,y::b,q,r,h=>by
  obtain⟨i,l⟩:=fR.1 q;obtain⟨d,m⟩:=fR.1 r;have j:x=y:=by
   have f:=(h x).1 (by simp);have g:=(h y).2 (by simp);rcases zy.1 f with f|f
   .exact f
   .rcases zy.1 g with g|g
    .exact g.symm
    .have p:=d x f;have s:=i y g;have:=lt_trans p s;rw[RF] at this;cases this
  subst j;have o:x∉a:=λc=>by have:=i x c;rw[RF] at this;cases this
  have k:x∉b:=λc=>by have:=d x c;rw[RF] at this;cases this
  rw[EY l m (λz=>?_)];have n:=h z;simp only[zy] at n;constructor
  .intro c;rcases n.1 (ze c) with e|e
   .subst e;exact z9 c o
   .exact e
  .intro c;rcases n.2 (ze c) with e|e
   .subst e;exact z9 c k
   .exact e
def lq(l c:κ):Nat:=(l.filter λy=>!yu y c).length
def Qx{l c:κ}{x:ByteArray}(n:x∈l)(m:x∉c):lq l (c++[x])<lq l c:=by
 unfold lq;have j:∀l:κ,(l.filter λy=>!yu y (c++[x])).length<=(l.filter λy=>!yu y c).length/\(x∈l->(l.filter λy=>!yu y (c++[x])).length<(l.filter λy=>!yu y c).length):=by
  intro l;induction l with
  |nil=>simp
  |cons y l k=>
   have f:yu y c=true->yu y (c++[x])=true:=λh=>vH.2 (zW.2 (zh (vH.1 h)));cases g:yu y c;cases d:yu y (c++[x]);simp only[List.filter_cons,g,d,Bool.not_false,if_true,xr];refine⟨by omega,λi=>?_⟩;rcases zy.1 i with e|e;subst e;rw[rE] at d;simp at d;have:=k.2 e;omega;simp only[List.filter_cons,g,d,mX,Bool.not_false,gQ,if_false,if_true,xr];exact⟨by omega,λ_=>by omega⟩;have d:=f g;simp only[List.filter_cons,g,d,mX,gQ,if_false];refine⟨k.1,λi=>k.2 ?_⟩;rcases zy.1 i with e|e;subst e;exact z9 (vH.1 g) m;exact e
 exact(j l).2 n
def C2(l:κ):lq l []=l.length:=by
 simp[lq,yu]
end
section
variable {t:List zg}
def R4(t:List zg):κ:=t.map zg.name
def rU:∀(t:List zg) (n:ByteArray),∀e∈t.take (zT t n),RX e.name n=true
 |[],_,e,h=>by simp at h
 |a::r,n,e,h=>by
  unfold zT at h;cases b:RX a.name n with
  |false=>simp[b] at h
  |true=>
   simp only[b,if_true,ph,zy] at h;rcases h with rfl|h
   .exact b
   .exact rU r n e h
def rD:∀(t:List zg) (n:ByteArray),yz (R4 t)->∀e∈t.drop (zT t n),RX e.name n=false
 |[],_,_,e,h=>by simp at h
 |a::r,n,d,e,h=>by
  have b:yz (a.name::R4 r):=d;unfold yz at b;rw[fR] at b;unfold zT at h;cases c:RX a.name n with
  |true=>
   simp only[c,if_true,mj] at h;exact rD r n b.2 e h
  |false=>
   simp only[c,gQ,if_false,gW,zy] at h;rcases h with rfl|h
   .exact c
   .cases f:RX e.name n with
    |false=>rfl
    |true=>
     have:=lt_trans (b.1 e.name (zE.2 ⟨e,h,rfl⟩)) f;rw[c] at this;cases this
def pi{n:ByteArray}{e:zg}(h:zU t n=some e):e∈t/\e.name=n:=by
 obtain⟨c,b,a⟩:=jj h;exact⟨by rw[←b];exact zt c,a⟩
def nJ{n:ByteArray}(k:yz (R4 t))(h:zU t n=none):∀e∈t,e.name≠n:=by
 intro e a d;rw[←jx (zT t n) t,zW] at a;rcases a with a|a;have:=rU t n e a;rw[d,RF] at this;cases this;rcases sW h with j|⟨j,f⟩;rw[ua (by omega)] at a;cases a;have g:=xh j;have i:=rD t n k t[zT t n] (by rw[g];exact rJ);rw[g,zy] at a;rcases a with rfl|a;exact f d;have c:yz (R4 (t.drop (zT t n))):=by
  unfold yz R4 at *;rw[List.map_drop];exact k.sublist (List.drop_sublist _ _)
 rw[g] at c;have b:yz (t[zT t n].name::R4 (t.drop (zT t n+1))):=c;unfold yz at b;rw[fR] at b;have:=b.1 e.name (zE.2 ⟨e,a,rfl⟩);rw[d,i] at this;cases this
def sI{x e:zg}{k:Nat}:e∈vr t x k↔e=x∨e∈t:=by
 unfold vr;rw[zW,zy];constructor;rintro(h|h|h);exact ze (dJ h);exact zh h;exact ze (dT h);rintro(h|h);exact ze (zh h);rw[←jx k t,zW] at h;rcases h with h|h;exact zh h;exact ze (ze h)
def Q6{x:zg}(i:yz (R4 t))(j:∀e∈t,e.name≠x.name):yz (R4 (vr t x (zT t x.name))):=by
 have k:=rU t x.name;have l:=rD t x.name i;have g:∀e∈t.drop (zT t x.name),RX x.name e.name=true:=by
  intro e d;cases m:RX x.name e.name;exact z9 (sw (l e d) m) (j e (dT d));rfl
 have c:=i;rw[←jx (zT t x.name) t] at c;unfold yz R4 at c ⊢;unfold vr;rw[vg,lH] at c;rw[vg,xZ,lH,fR];refine⟨c.1,⟨?_,c.2.1⟩,?_⟩;intro b f;obtain⟨e,d,rfl⟩:=zE.1 f;exact g e d;intro a h b f;obtain⟨e,d,rfl⟩:=zE.1 h;rcases zy.1 f with rfl|f;exact k e d;exact c.2.2 _ h b f
structure SH (t:List zg) (ls:List zk):Prop where
 rise:yz (R4 t)
 names:∀n,n∈R4 t↔∃l∈ls,l.pred=n
 ji:∀e∈t,∀l∈ls,l.pred=e.name->l.args.length=e.ji
def SH.step{v:List zg}{s:List zk}{l:zk}(h:SH t s)(i:vz t l=some v):SH v (s++[l]):=by
 unfold vz at i;split at i;rename_i e r;obtain⟨c,p⟩:=pi r;split at i;rename_i q;simp only[zr] at i;subst i;refine⟨h.rise,λn=>?_,λk g d a b=>?_⟩;rw[h.names];constructor;rintro⟨d,a,b⟩;exact⟨d,by simp[a],b⟩;rintro⟨d,a,b⟩;rcases zW.1 a with a|a;exact⟨d,a,b⟩;simp at a;subst a;exact(h.names n).1 (zE.2 ⟨e,c,by rw[p,b]⟩);rcases zW.1 a with a|a;exact h.ji k g d a b;simp at a;subst a;obtain⟨u,m,o⟩:=(h.names e.name).1 (zE.2 ⟨e,c,rfl⟩);rw[←q,←h.ji e c u m o];exact h.ji k g u m (by rw[o,p,b]);cases i;rename_i r;simp only[zr] at i;subst i;have f:=nJ h.rise r;refine⟨Q6 h.rise f,λn=>?_,λk g d a b=>?_⟩;constructor;intro p;obtain⟨e,c,rfl⟩:=zE.1 p;rcases sI.1 c with rfl|c;exact⟨l,by simp,rfl⟩;obtain⟨d,a,b⟩:=(h.names e.name).1 (zE.2 ⟨e,c,rfl⟩);exact⟨d,by simp[a],b⟩;rintro⟨d,a,b⟩;rcases zW.1 a with a|a;obtain⟨e,c,j⟩:=zE.1 ((h.names n).2 ⟨d,a,b⟩);exact zE.2 ⟨e,sI.2 (ze c),j⟩;simp at a;subst a;exact zE.2 ⟨_,sI.2 (zh rfl),b⟩;rcases sI.1 g with rfl|c;rcases zW.1 a with a|a;obtain⟨e,c,j⟩:=zE.1 ((h.names d.pred).2 ⟨d,a,rfl⟩);exact z9 (j.trans b) (f e c);simp at a;subst a;rfl;rcases zW.1 a with a|a;exact h.ji k c d a b;simp at a;subst a;exact z9 b.symm (f k c)
def Be:∀(b done:List zk) (t a:List zg),SH t done->b.foldl uv (some t)=some a->SH a (done++b)
 |[],done,t,a,h,e=>by simp at e;subst e;simpa using h
 |l::b,done,t,a,h,e=>by
  rw[uu] at e;cases c:vz t l with
  |none=>rw[show uv (some t) l=none from c,pM] at e;cases e
  |some d=>
   rw[show uv (some t) l=some d from c] at e;have:=Be b (done++[l]) d a (h.step c) e;rwa [kz] at this
def tq:SH [] []:=⟨List.Pairwise.nil,λn=>by simp[R4],λe a=>by cases a⟩
def Bu{cs:List zd}(h:uq cs=some t):SH t (cs.flatMap zm):=by
 have:=Be (cs.flatMap zm) [] [] t tq h;simpa using this
end
section
variable {cs:List zd}
def up(l:zk):Nat:=if l.neg then 1 else 0
def S2(cs:List zd)(f:ByteArray->Nat):Prop:=∀c∈cs,∀l∈c.body,f l.pred+up l<=f c.head.pred
def Sj(cs:List zd)(f:ByteArray->Nat):Prop:=S2 cs f/\∀g,S2 cs g->∀n,f n<=g n
def FQ{g:ByteArray->Nat}(r:S2 cs g):∃f,Sj cs f:=by
 have a:∀n,∃k,(∃h,S2 cs h/\h n=k)/\∀h,S2 cs h->k<=h n:=by
  intro n;have j:∀m,(∃h,S2 cs h/\h n<=m)->∃k,(∃h,S2 cs h/\h n=k)/\∀h,S2 cs h->k<=h n:=by
   intro m;induction m with
   |zero=>rintro⟨h,b,s⟩;exact⟨0,⟨h,b,by omega⟩,λ_ _=>zv _⟩
   |succ m u=>
    intro q;by_cases o:∃h,S2 cs h/\h n<=m;exact u o;obtain⟨h,b,s⟩:=q;have d:∀e,S2 cs e->m+1<=e n:=λe i=>by
     false_or_by_contra;rename_i p;exact o ⟨e,i,by omega⟩
    exact⟨m+1,⟨h,b,by have:=d h b;omega⟩,d⟩
  exact j (g n) ⟨g,r,zf _⟩
 refine⟨λn=>(a n).choose,λc p l t=>?_,λh b n=>(a n).choose_spec.2 h b⟩;obtain⟨⟨h,b,w⟩,-⟩:=(a c.head.pred).choose_spec;have v:=(a l.pred).choose_spec.2 h b;have x:=b c p l t;simp only;omega
def T0:∀(N:Nat) (L:List Nat),(∀k,k<=N->k∈L)->N+1<=L.length
 |0,L,h=>by
  have:=h 0 (zf _);cases L with
  |nil=>cases this
  |cons=>simp
 |N+1,L,h=>by
  have a:=h (N+1) (zf _);have:=T0 N (L.erase (N+1)) λk b=>(m4 (by omega)).2 (h k (by omega));rw[nI a] at this;have:0<L.length:=nH a;omega
def A6{f:ByteArray->Nat}(h:Sj cs f){ps:κ}(g:∀c∈cs,∀l∈zm c,l.pred∈ps){n:ByteArray}(q:n∈ps):f n<ps.length:=by
 false_or_by_contra
 rename_i v;have u:∃k,k<=ps.length/\k∉ps.map f:=by
  apply Classical.byContradiction;intro b;have:=T0 ps.length (ps.map f) λk j=>Classical.byContradiction λi=>b ⟨k,j,i⟩;rw[xY] at this;omega
 obtain⟨k,j,d⟩:=u;have a:∀m∈ps,f m≠k:=λm s e=>d (zE.2 ⟨m,s,e⟩);have r:S2 cs λm=>if k<f m then f m-1 else f m:=by
  intro c p l o;have y:=h.1 c p l o;have z:=a l.pred (g c p l (by simp[zm,o]));have x:up l<=1:=by unfold up;split<;>omega
  simp only;split<;>split<;>omega
 have t:=h.2 _ r n;have w:=a n q;split at t<;>omega
def Mi{f a b:ByteArray->Nat}(h:Sj cs f)(g:∀n,a n<=b n)(j:∀n,b n<=f n)(i:∀c∈cs,∀l∈c.body,a l.pred+up l<=b c.head.pred)
  (d:∀n,b n=f n->a n=f n):∀n,a n=f n:=by
 apply Classical.byContradiction;intro q;have ⟨n,t⟩:∃n,¬a n=f n:=Classical.byContradiction λw=>q λn=>Classical.byContradiction λo=>w ⟨n,o⟩;have y:S2 cs λm=>if a m=f m then f m else f m-1:=by
  intro c o l s;have x:=h.1 c o l s;have z:=i c o l s;have D:=g c.head.pred;have B:=j c.head.pred;have r:=d c.head.pred;have u:=g l.pred;have v:=j l.pred;have C:up l<=1:=by unfold up;split<;>omega
  simp only;by_cases p:a l.pred=f l.pred;by_cases k:a c.head.pred=f c.head.pred;rw[zb p,zb k];exact x;have A:¬b c.head.pred=f c.head.pred:=λe=>k (r e);rw[zb p,za k];omega;by_cases k:a c.head.pred=f c.head.pred;rw[za p,zb k];omega;rw[za p,za k];omega
 have r:=h.2 _ y n;simp only[t,if_false] at r;have u:=g n;have v:=j n;omega
end
section
variable {t:List zg}
def val(t:List zg)(n:ByteArray):Nat:=match zU t n with
 |some e=>e.qh
 |none=>0
def oW:∀{t c:List zg},R4 t=R4 c->∀n,zT t n=zT c n
 |[],[],_,_=>rfl
 |[],_::_,h,_=>by simp[R4] at h
 |_::_,[],h,_=>by simp[R4] at h
 |a::r,b::q,h,n=>by
  simp only[R4,xZ,lP] at h;unfold zT;rw[h.1,oW h.2 n]
def CJ{k:Nat}{e:zg}(d:k<t.length)(a:e.name=t[k].name):R4 (t.set k e)=R4 t:=by
 unfold R4;rw[gA,a];apply j7 (by simp);intro i c b;rw[lg];split;rename_i h;subst h;simp;rfl
def N1(t:List zg)(n:ByteArray)(s:Nat):R4 (xL t n s).1=R4 t:=by
 unfold xL;split;rfl;rename_i e b;obtain⟨c,a,d⟩:=jj b;split;rfl;exact CJ c (by rw[a])
def O9{n:ByteArray}{e:zg}(s:Nat)(g:zU t n=some e)(m:ByteArray):zU (t.set (zT t n) {e with qh:=s}) m=if m=n then some {e with qh:=s} else zU t m:=by
 obtain⟨a,d,f⟩:=jj g;have h:zT (t.set (zT t n) {e with qh:=s}) m=zT t m:=oW (CJ a (by rw[d])) m;unfold zU;rw[h,rp];by_cases b:m=n;subst b;rw[zb rfl,zb rfl,zb a];simp[f];rw[za b];by_cases c:zT t n=zT t m;rw[zb c,zb a,←c,yi a,d];simp[f,Ne.symm b];rw[za c]
def DR(t:List zg)(n:ByteArray)(s:Nat)(m:ByteArray):val (xL t n s).1 m=if m=n/\(zU t n).isSome=true then max (val t n) s else val t m:=by
 unfold xL;rcases b:zU t n with _|e;simp;simp only[kc,and_true];have d:val t n=e.qh:=by simp[val,b]
 split;split;rename_i c f;rw[f,d];omega;rfl;rename_i c;unfold val;rw[O9 s b m,b];by_cases a:m=n;rw[zb a,zb a];simp only;omega;rw[za a,za a]
def Mu(t:List zg)(n:ByteArray)(s:Nat):((xL t n s).2=false->(xL t n s).1=t)/\((xL t n s).2=true->val t n<val (xL t n s).1 n):=by
 constructor;unfold xL;split;exact λ_=>rfl;split;exact λ_=>rfl;intro h;cases h;intro h;rw[DR];unfold xL at h;split at h;cases h;rename_i e a;split at h;cases h;rename_i c;have b:val t n=e.qh:=by simp[val,a]
 rw[zb ⟨rfl,by simp[a]⟩];omega
def Ci{t:List zg}:∀(b:List zk) (n:Nat),n<=b.foldl (qu t) n/\∀l∈b,ki t l<=b.foldl (qu t) n
 |[],n=>⟨zf _,λl c=>by cases c⟩
 |a::b,n=>by
  have ⟨e,d⟩:=Ci (t:=t) b (qu t n a);have f:n<=qu t n a/\ki t a<=qu t n a:=by unfold qu;split<;>omega
  rw[uu];refine⟨by omega,λl c=>?_⟩;rcases zy.1 c with rfl|c
  .omega
  .exact d l c
def Ge{t:List zg}{M:Nat}:∀(b:List zk) (n:Nat),n<=M->(∀l∈b,ki t l<=M)->b.foldl (qu t) n<=M
 |[],n,h,_=>h
 |a::b,n,h,c=>by
  rw[uu];refine Ge b _ ?_ λl d=>c l (by simp[d]);have:=c a (by simp);unfold qu;split<;>omega
def NU{l:zk}(h:(zU t l.pred).isSome=true):ki t l=val t l.pred+up l:=by
 unfold ki val up;rcases a:zU t l.pred with _|e;rw[a] at h;cases h;simp only;split<;>rfl
end
section
variable {t t':List zg}
def AI(t:List zg)(n:ByteArray):(zU t n).isSome=true↔(R4 t)[zT t n]?=some n:=by
 unfold zU R4;rw[mo];rcases h:t[zT t n]? with _|e;simp;simp only[jC,zr];split<;>simp[*]
def BY(h:R4 t=R4 t')(n:ByteArray):(zU t n).isSome=true↔(zU t' n).isSome=true:=by
 rw[AI,AI,h,oW h n]
def kw(t:List zg)(cs:List zd):Prop:=∀c∈cs,∀l∈zm c,(zU t l.pred).isSome=true
def kw.names{cs:List zd}(h:kw t cs)(a:R4 t=R4 t'):kw t' cs:=λc b l d=>(BY a _).1 (h c b l d)
structure Bp (x y:List zg×Bool) (ds:List zd):Prop where
 names:R4 y.1=R4 x.1
 grow:∀n,val x.1 n<=val y.1 n
 step:∀c∈ds,∀l∈c.body,val x.1 l.pred+up l<=val y.1 c.head.pred
 low:∀f,S2 ds f->(∀n,val x.1 n<=f n)->∀n,val y.1 n<=f n
 still:y.2=false->y.1=x.1/\x.2=false
 moved:y.2=true->x.2=true∨∃n,val x.1 n<val y.1 n
def Ie{x:List zg×Bool}{c:zd}(h:kw x.1 [c]):Bp x (vU x c) [c]:=by
 have r:=h c (by simp) c.head (by simp[zm]);have i:∀l∈c.body,ki x.1 l=val x.1 l.pred+up l:=λl i=>NU (h c (by simp) l (by simp[zm,i]));have k:=λm=>DR x.1 c.head.pred (qQ x.1 c) m;have p:=Mu x.1 c.head.pred (qQ x.1 c);refine⟨N1 _ _ _,λn=>?_,λs g l d=>?_,λf q b n=>?_,λo=>?_,λj=>?_⟩;show _<=val (xL _ _ _).1 n;rw[k];split;rename_i e;rw[e.1];omega;omega;simp at g;subst g;show _<=val (xL _ _ _).1 _;rw[k,zb ⟨rfl,r⟩,←i l d];have:=(Ci (t:=x.1) s.body 0).2 l d;unfold qQ;omega;show val (xL _ _ _).1 n<=_;rw[k];split;rename_i e;rw[e.1];have u:=b c.head.pred;have a:qQ x.1 c<=f c.head.pred:=by
  unfold qQ;refine Ge c.body 0 (zv _) λl d=>?_;have:=q c (by simp) l d;have:=b l.pred;rw[i l d];omega
 omega;exact b n;have a:(x.2||(xL x.1 c.head.pred (qQ x.1 c)).2)=false:=o;rw[n8] at a;exact⟨p.1 a.2,a.1⟩;have a:(x.2||(xL x.1 c.head.pred (qQ x.1 c)).2)=true:=j;rw[fu] at a;rcases a with a|a;exact zh a;exact ze ⟨_,p.2 a⟩
def rH:∀(k:List zd) (x:List zg×Bool),kw x.1 k->Bp x (k.foldl vU x) k
 |[],x,_=>⟨rfl,λ_=>zf _,λc r=>by(cases r),λ_ _ h=>h,λh=>⟨rfl,h⟩,λh=>zh h⟩
 |c::k,x,h=>by
  have d:=Ie (x:=x) (c:=c) λb a=>by simp at a;subst a;exact h b (by simp)
  have e:=rH k (vU x c) (kw.names (λb a=>h b (by simp[a])) d.names.symm);rw[uu];refine⟨e.names.trans d.names,λn=>zZ (d.grow n) (e.grow n),λb a l q=>?_,λf p j=>?_,λo=>?_,λm=>?_⟩
  .rcases zy.1 a with rfl|a
   .exact zZ (d.step b (by simp) l q) (e.grow _)
   .have:=e.step b a l q;have:=d.grow l.pred;omega
  .exact e.low f (λb a=>p b (by simp[a])) (d.low f (λb a=>by simp at a;subst a;exact p b (by simp)) j)
  .have g:=e.still o;have i:=d.still g.2;exact⟨g.1.trans i.1,i.2⟩
  .rcases e.moved m with g|⟨n,g⟩
   .rcases d.moved g with i|⟨n,i⟩
    .exact zh i
    .exact ze ⟨n,yE i (e.grow n)⟩
   .exact ze ⟨n,Nat.lt_of_le_of_lt (d.grow n) g⟩
def oQ{n:ByteArray}(h:n∉R4 t):val t n=0:=by
 unfold val;split;rename_i e b;obtain⟨c,a⟩:=pi b;exact z9 (zE.2 ⟨e,c,a⟩) h;rfl
def rest(f:ByteArray->Nat)(t:List zg):Nat:=((R4 t).filter λn=>decide (val t n≠f n)).length
def K4{f:ByteArray->Nat}(k:R4 t'=R4 t)(b:∀n,val t n=f n->val t' n=f n){m:ByteArray}(d:m∈R4 t)(o:val t m≠f m)(p:val t' m=f m):rest f t'<rest f t:=by
 unfold rest;rw[k];generalize R4 t=j at d;have i:∀l:κ,(l.filter λn=>decide (val t' n≠f n)).length<=(l.filter λn=>decide (val t n≠f n)).length:=by
  intro l;induction l with
  |nil=>simp
  |cons a l g=>
   by_cases c:val t a=f a;simp[c,b a c];simpa using g;by_cases e:val t' a=f a;simp[c,e];have:=g;simp at this;omega;simp[c,e];simpa using g
 induction j with
 |nil=>cases d
 |cons a j g=>
  have h:=i j;rcases zy.1 d with rfl|d;simp[o,p];simp at h;omega;have:=g d;by_cases c:val t a=f a;simp[c,b a c];simpa using this;by_cases e:val t' a=f a;simp[c,e];simp at this;omega;simp[c,e];simpa using this
def tY:∀(m:Nat) (t:List zg) (cs:List zd),kw t cs->R4 (xX m t cs).1=R4 t
 |0,_,_,_=>rfl
 |m+1,t,cs,h=>by
  have p:=rH cs (t,false) h;unfold xX;split
  .exact(tY m _ cs (h.names p.names.symm)).trans p.names
  .exact p.names
def F5{f:ByteArray->Nat}:∀(m:Nat) (t:List zg) (cs:List zd),kw t cs->S2 cs f->(∀n,val t n<=f n)->∀n,val (xX m t cs).1 n<=f n
 |0,_,_,_,_,h=>h
 |m+1,t,cs,h,b,a=>by
  have p:=rH cs (t,false) h;have:=p.low f b a;unfold xX;split
  .exact F5 m _ cs (h.names p.names.symm) b this
  .exact this
def es:∀(m:Nat) (t:List zg) (cs:List zd),kw t cs->(xX m t cs).2=true->S2 cs (val (xX m t cs).1)
 |0,_,_,_,h=>by cases h
 |m+1,t,cs,h,b=>by
  have p:=rH cs (t,false) h;unfold xX at b ⊢;split at b
  .rename_i a;rw[zb a];exact es m _ cs (h.names p.names.symm) b
  .rename_i a;rw[za a];have f:=(p.still (by simpa [vL] using a)).1;intro c d l g;have e:=p.step c d l g;show val (cs.foldl vU (t,false)).1 l.pred+up l<=val (cs.foldl vU (t,false)).1 c.head.pred;rw[f] at e ⊢;exact e
def Ch{f:ByteArray->Nat}{cs:List zd}(j:Sj cs f):∀(m:Nat) (t:List zg),kw t cs->(∀n,val t n<=f n)->rest f t<m->(xX m t cs).2=true
 |0,_,_,_,h=>by omega
 |m+1,t,h,c,u=>by
  have p:=rH cs (t,false) h;have a:=p.low f j.1 c;unfold xX;split
  .rename_i o;refine Ch j m _ (h.names p.names.symm) a ?_;have g:¬∀n,val t n=f n:=by
    intro b;rcases p.moved o with e|⟨n,e⟩
    .cases e
    .have:=a n;have:=b n;simp only at e;omega
   have ⟨n,i,l⟩:∃n,val (cs.foldl vU (t,false)).1 n=f n/\val t n≠f n:=by
    apply Classical.byContradiction;intro d;exact g (Mi j p.grow a p.step λn s=>Classical.byContradiction λo=>d ⟨n,s,o⟩)
   have r:n∈R4 t:=by
    apply Classical.byContradiction;intro d;have e:=oQ d;have v:val (cs.foldl vU (t,false)).1 n=0:=oQ (by rw[p.names];exact d);omega
   have:=K4 (f:=f) (t:=t) p.names (λk q=>Nat.le_antisymm (a k) (by rw[←q];exact p.grow k)) r l i;show rest f (cs.foldl vU (t,false)).1<m;omega
  .rfl
def eA{cs:List zd}(h:kw t cs)(b:∀n,val t n=0):((xX (t.length+1) t cs).2=true↔∃f,S2 cs f)/\((xX (t.length+1) t cs).2=true->Sj cs (val (xX (t.length+1) t cs).1)):=by
 refine⟨⟨λe=>⟨_,es _ t cs h e⟩,?_⟩,λe=>⟨es _ t cs h e,λg a=>F5 _ t cs h a λn=>by rw[b];omega⟩⟩;rintro⟨g,a⟩;obtain⟨f,c⟩:=FQ a;refine Ch c _ t h (λn=>by rw[b];omega) ?_;have:=pL (λn=>decide (val t n≠f n)) (R4 t);have d:(R4 t).length=t.length:=by simp[R4]
 unfold rest;omega
end
structure kX (w:Nat) (n:qa):Prop where
 len:n.leap.length=w
 dlen:n.down.length=w
 ge:∀i,i<w->i<=n.leap.getD i 0
 le:∀i,i<w->n.leap.getD i 0<=w
 fix:∀i,i<w->n.leap.getD i 0<w->n.leap.getD (n.leap.getD i 0) 0=n.leap.getD i 0
 seg:∀i j,i<w->i<=j->j<n.leap.getD i 0->n.leap.getD j 0=n.leap.getD i 0
def uB(l:List Nat)(i j v d:Nat):(l.set i v).getD j d=if i=j/\i<l.length then v else l.getD j d:=by
 simp only[ks,rp];by_cases h:i=j;subst h;by_cases a:i<l.length;simp[a];simp[a];simp[h]
def Cg(v:Nat):∀(n:Nat) (l:List Nat),(kg v n l).length=l.length
 |0,l=>rfl
 |n+1,l=>by
  unfold kg;split
  .rw[Cg];simp
  .rfl
open Classical in
def F6(v:Nat):∀(n:Nat) (l:List Nat) (u:Nat),n<=l.length->(kg v n l).getD u 0=if u<n/\∀j,u<=j->j<n->l.getD j 0>v then v else l.getD u 0
 |0,l,u,_=>by simp[kg]
 |n+1,l,u,h=>by
  unfold kg;by_cases c:l.getD n 0>v
  .rw[zb c,F6 v n (l.set n v) u (by simp;omega)];by_cases e:u<n
   .by_cases d:∀j,u<=j->j<n->l.getD j 0>v
    .rw[zb ⟨e,λj a b=>by rw[uB,za (by omega)];exact d j a b⟩,zb ⟨by omega,λj a b=>by
      by_cases g:j=n
      .subst g;exact c
      .exact d j a (by omega)⟩]
    .rw[za (λq=>d λj a b=>by have:=q.2 j a b;rwa [uB,za (by omega)] at this),za (λq=>d λj a b=>q.2 j a (by omega)),uB,za (by omega)]
   .rw[za (λq=>e q.1),uB];by_cases f:n=u
    .subst f;rw[zb ⟨rfl,by omega⟩,zb ⟨by omega,λj a b=>by
      have:j=n:=by omega
      subst this;exact c⟩]
    .rw[za (by omega),za (by omega)]
  .rw[za c];by_cases e:u<n+1
   .rw[za (λq=>c (q.2 n (by omega) (by omega)))]
   .rw[za (λq=>e q.1)]
def lC(w:Nat)(n:qa)(v:Nat):Prop:=v<w/\n.leap.getD v 0=v
def kX.none{w:Nat}{n:qa}(h:kX w n){i:Nat}(a:i<w)(e:¬n.leap.getD i 0<w):∀u,i<=u->¬lC w n u:=by
 intro u b ⟨c,d⟩;have:=h.seg i u a b (by omega);omega
def kX.some{w:Nat}{n:qa}(h:kX w n){i:Nat}(a:i<w)(b:n.leap.getD i 0<w):i<=n.leap.getD i 0/\lC w n (n.leap.getD i 0)/\∀u,i<=u->u<n.leap.getD i 0->¬lC w n u:=by
 refine⟨h.ge i a,⟨b,h.fix i a b⟩,λu c d ⟨f,e⟩=>?_⟩;have:=h.seg i u a c d;omega
def kX.put{w:Nat}{n:qa}(h:kX w n){v d:Nat}(l:v<w)(y:¬lC w n v):kX w (fS n v d)/\(∀u,lC w (fS n v d) u↔u=v∨lC w n u)/\∀u,(fS n v d).down.getD u 0=if u=v then d else n.down.getD u 0:=by
 have z:=h.len;have k:n.leap.getD v 0>v:=by
  have s:=h.ge v l;rcases Nat.lt_or_eq_of_le s with q|q;exact q;exact z9 ⟨l,q.symm⟩ y
 have p:∀u,(kg v (v+1) n.leap).getD u 0=if u<=v/\n.leap.getD u 0>v then v else n.leap.getD u 0:=by
  intro u;rw[F6 v (v+1) n.leap u (by omega)];by_cases m:u<=v;by_cases f:n.leap.getD u 0>v;have r:∀j,u<=j->j<v+1->n.leap.getD j 0>v:=λj s x=>by
   have:=h.seg u j (by omega) s (by omega);omega
  rw[zb ⟨by omega,r⟩,zb ⟨m,f⟩];rw[za (λq=>f (q.2 u (zf _) (by omega))),za (λq=>f q.2)];rw[za (λq=>by omega),za (λq=>by omega)]
 have a:∀u,(fS n v d).leap.getD u 0=if u<=v/\n.leap.getD u 0>v then v else n.leap.getD u 0:=p
 have e:(fS n v d).leap.getD v 0=v:=by rw[a,zb ⟨zf _,k⟩]
 refine⟨⟨by simp[fS,Cg,z],by simp[fS,h.dlen],λi c=>?_,λi c=>?_,λi c f=>?_,λi j c g t=>?_⟩,λu=>?_,λu=>?_⟩;rw[a];split;omega;exact h.ge i c;rw[a];split;omega;exact h.le i c;by_cases b:i<=v/\n.leap.getD i 0>v;rw[a i,zb b];exact e;rw[a i,za b] at f ⊢;have x:=h.fix i c f;rw[a];by_cases o:n.leap.getD i 0<=v/\n.leap.getD (n.leap.getD i 0) 0>v;omega;rw[za o];exact x;by_cases b:i<=v/\n.leap.getD i 0>v;rw[a i,zb b] at t ⊢;have:=h.seg i j c g (by omega);rw[a,zb ⟨by omega,by omega⟩];rw[a i,za b] at t ⊢;have:=h.seg i j c g t;rw[a,this];rw[za (by omega)];unfold lC;rw[a];by_cases b:u<=v/\n.leap.getD u 0>v;rw[zb b];constructor;rintro⟨_,q⟩;exact zh q.symm;rintro(q|q);subst q;exact⟨l,rfl⟩;omega;rw[za b];constructor;intro q;exact ze q;rintro(q|q);subst q;exact z9 ⟨zf _,k⟩ b;exact q;show(n.down.set v d).getD u 0=_;rw[uB];by_cases m:u=v;subst m;rw[zb ⟨rfl,by rw[h.dlen];exact l⟩,zb rfl];rw[za (by omega),za m]
def pK(k d i:Nat)(a:i<k)(x:Nat):(List.replicate k x).getD i d=x:=by simp[List.getD_eq_getElem?_getD,a]
def kX.new(w:Nat):kX w ⟨List.replicate w w,List.replicate w 0⟩/\∀v,¬lC w ⟨List.replicate w w,List.replicate w 0⟩ v:=by
 refine⟨⟨by simp,by simp,λi a=>?_,λi a=>?_,λi a c=>?_,λi j a e b=>?_⟩,λv ⟨d,f⟩=>?_⟩<;>simp only at *
 rw[pK _ _ _ a];omega;rw[pK _ _ _ a];exact zf _;rw[pK _ _ _ a] at c;omega;rw[pK _ _ _ a] at b ⊢;rw[pK _ _ _ b];rw[pK _ _ _ d] at f;omega
section
variable {T:zj}{a:Nat}
def jE(T:zj)(a:Nat):qa:=T.qi.getD a qa.zero
def dZ(T:zj):Prop:=∀a,a<T.qi.length->kX T.qf (jE T a)
def lQ(T:zj)(a v:Nat):zH T a v=if a<T.qi.length/\v<T.qf/\(jE T a).leap.getD v 0=v then some ((jE T a).down.getD v 0) else none:=by
 unfold zH yB jE;by_cases b:a<T.qi.length/\v<T.qf;rw[zb b];dsimp only;generalize (T.qi.getD a qa.zero).leap.getD v 0=x;by_cases c:x=v;subst c;rw[za (by omega:¬x≥T.qf)];simp[b];by_cases d:x≥T.qf;simp[d,c];simp[d,c];rw[za b,za (λq=>b ⟨q.1,q.2.1⟩)]
def fg{v b:Nat}(h:zH T a v=some b):a<T.qi.length/\v<T.qf:=by
 unfold zH yB at h;by_cases c:a<T.qi.length/\v<T.qf;exact c;rw[za c] at h;cases h
def Dd(h:dZ T){f v:Nat}(b:yB T a f=some v):f<=v/\v<T.qf/\(zH T a v).isSome=true/\∀u,f<=u->u<v->zH T a u=none:=by
 unfold yB at b;split at b;rename_i d;simp only at b;split at b;cases b;rename_i i;simp only[zr] at b;have c:=(h a d.1).some d.2 (by unfold jE;omega);unfold jE at c;rw[b] at c i;refine⟨c.1,by omega,?_,λu g e=>?_⟩;rw[lQ,zb ⟨d.1,by omega,c.2.1.2⟩];rfl;rw[lQ,za (λq=>c.2.2 u g e ⟨q.2.1,q.2.2⟩)];cases b
def DD(h:dZ T){f:Nat}(b:yB T a f=none):∀u,f<=u->zH T a u=none:=by
 intro u c;rw[lQ];refine za λq=>?_;unfold yB at b;rw[zb ⟨q.1,by omega⟩] at b;simp only at b;split at b;rename_i d;exact(h a q.1).none (show f<T.qf by omega) (by unfold jE;omega) u c ⟨q.2.1,q.2.2⟩;cases b
def Sh(T:zj):Nat->zi->Option Nat
 |a,[]=>some a
 |a,v::r=>match zH T a v with
  |none=>none
  |some b=>Sh T b r
def nE(T:zj):∀(p q:zi) (a:Nat),Sh T a (p++q)=(Sh T a p).bind λb=>Sh T b q
 |[],q,a=>rfl
 |v::p,q,a=>by
  simp only[hO,Sh];cases zH T a v with
  |none=>rfl
  |some b=>exact nE T p q b
structure ke (T:zj) (pth:Nat->zi):Prop where
 dep:1<=T.ql/\T.ql<=3
 wid:1<=T.qf
 pos:0<T.qi.length
 node:dZ T
 root:pth 0=[]
 lev:∀a,a<T.qi.length->(pth a).length<T.ql
 inj:∀a b,a<T.qi.length->b<T.qi.length->pth a=pth b->a=b
 kid:∀a v b,zH T a v=some b->(pth a).length+1<T.ql->b<T.qi.length/\pth b=pth a++[v]
 par:∀b,b<T.qi.length->b≠0->∃a v,zH T a v=some b/\(pth a).length+1<T.ql/\pth b=pth a++[v]
def LF(l:List qa)(i j:Nat)(v d:qa):(l.set i v).getD j d=if i=j/\i<l.length then v else l.getD j d:=by
 simp only[ks,rp];by_cases h:i=j;subst h;by_cases b:i<l.length;simp[b];simp[b];simp[h]
def EA(T:zj)(a v d b:Nat)(c:a<T.qi.length)(e:v<T.qf):jE (ye T a v d) b=if b=a then fS (jE T a) v d else jE T b:=by
 unfold ye jE;rw[zb ⟨c,e⟩];simp only;rw[LF];by_cases h:b=a;subst h;rw[zb ⟨rfl,c⟩,zb rfl];rw[za (λq=>h q.1.symm),za h]
def lu(T:zj)(a v d:Nat):(ye T a v d).qi.length=T.qi.length:=by unfold ye;split<;>simp
def nF(T:zj)(a v d:Nat):(ye T a v d).qf=T.qf:=by unfold ye;split<;>rfl
def pD(T:zj)(a v d:Nat):(ye T a v d).ql=T.ql:=by unfold ye;split<;>rfl
def Ep(T:zj)(a v d:Nat):(ye T a v d).count=T.count:=by unfold ye;split<;>rfl
def Gj(h:dZ T){v d:Nat}(f:a<T.qi.length)(g:v<T.qf)(m:zH T a v=none):dZ (ye T a v d)/\∀b u,zH (ye T a v d) b u=if b=a/\u=v then some d else zH T b u:=by
 have j:¬lC T.qf (jE T a) v:=λq=>by rw[lQ,zb ⟨f,g,q.2⟩] at m;cases m
 obtain⟨n,k,o⟩:=(h a f).put (d:=d) g j;have l:dZ (ye T a v d):=by
  intro b e;rw[lu] at e;rw[nF,EA T a v d b f g];split;exact n;exact h b e
 refine⟨l,λb u=>?_⟩;rw[lQ,lu,nF,EA T a v d b f g,lQ];by_cases e:b=a;subst e;rw[zb rfl,o];by_cases i:u=v;subst i;rw[zb rfl,zb ⟨f,g,((k u).2 (zh rfl)).2⟩,zb ⟨rfl,rfl⟩];rw[za i,za (λq:b=b/\u=v=>i q.2)];by_cases c:b<T.qi.length/\u<T.qf/\(jE T b).leap.getD u 0=u;rw[zb c,zb ⟨c.1,c.2.1,((k u).2 (ze c.2)).2⟩];rw[za c];refine za λq=>c ⟨q.1,?_⟩;rcases(k u).1 q.2 with r|r
 exact z9 r i;exact r;rw[za e,za (λq:b=a/\u=v=>e q.1)]
def QA(h:dZ T):dZ (y7 T)/\∀b u,zH (y7 T) b u=zH T b u:=by
 have d:∀b,jE (y7 T) b=if b<T.qi.length then jE T b else if b=T.qi.length then⟨List.replicate T.qf T.qf,List.replicate T.qf 0⟩ else qa.zero:=by
  intro b;unfold jE y7;simp only[ks,List.getElem?_append];by_cases c:b<T.qi.length;simp[c];rw[za c,za c];by_cases f:b=T.qi.length;subst f;simp;rw[za f];rw[kM (by simp;omega)];rfl
 have g:(y7 T).qi.length=T.qi.length+1:=by simp[y7]
 have i:dZ (y7 T):=by
  intro b j;rw[d];by_cases c:b<T.qi.length;rw[zb c];exact h b c;rw[za c,zb (by omega)];exact(kX.new T.qf).1
 refine⟨i,λb u=>?_⟩;rw[lQ,lQ,d,g,show(y7 T).qf=T.qf from rfl];by_cases c:b<T.qi.length;rw[zb c];by_cases e:u<T.qf/\(jE T b).leap.getD u 0=u;rw[zb ⟨by omega,e⟩,zb ⟨c,e⟩];rw[za (λq=>e q.2),za (λq=>e q.2)];rw[za c,za (λq:b<T.qi.length/\_=>c q.1)];by_cases f:b=T.qi.length;rw[zb f];exact za λq=>(kX.new T.qf).2 u q.2;exact za λq=>by omega
end
end Go.Proofs.YteampbddflhngaaGreat
