import Derived.WalkKit
import Derived.WalkSpells
import Derived.WalkLawsBesides
import Derived.Deep.Light
import Derived.Handy
import Derived.Laws.IdiomStrings
import Derived.WalkSmall
import Derived.WideShapes
import Derived.Test.YteampbddflhngaaGreatProg
import Derived.Deep.QuietTactic
import Derived.BigQuiet
import Derived.Deep.LoopGhost
import Derived.Deep.RegionLaw
import Derived.Deep.OwnRows
import Derived.Deep.RegionHeld3
namespace Go.Proofs.YteampbddflhngaaGreat
open List renaming length→List.j,getD→List.g,take→List.G,map→List.w,foldl→List.H
open _root_.Array renaming size→Array.q,getD→Array.g,toList→Array.v,map→Array.w,foldl→Array.H
open _root_.ByteArray renaming size→ByteArray.q,toList→ByteArray.v
open Go.RowKit.Below renaming size→Go.RowKit.Below.q,setCell→Go.RowKit.Below.x,mono→Go.RowKit.Below.y,trans→Go.RowKit.Below.A,alloc→Go.RowKit.Below.C
open Go.TypeInfo renaming size→Go.TypeInfo.q
open Go.World.grownBy renaming size→Go.World.grownBy.q
open Go.RowKit.Hid renaming out→Go.RowKit.Hid.l
open Go.World renaming heap→Go.World.o,setCell→Go.World.x,cell?→Go.World.p,alloc→Go.World.C,ownsRow→Go.World.r
open Go.Value renaming slice→Go.Value.k,string→Go.Value.d,bool→Go.Value.i,cells→Go.Value.E,ownBlock→Go.Value.m,tuple→Go.Value.B
open Go.TypeDesc renaming slice→Go.TypeDesc.k,string→Go.TypeDesc.d,bool→Go.TypeDesc.i,tuple→Go.TypeDesc.B
open Option renaming getD→Option.g,toList→Option.v,map→Option.w,isSome→Option.I,some→Z,none→Y
open Go.Calls renaming mono→Go.Calls.y
open Eq renaming trans→Eq.A,symm→Eq.z
open Iff renaming trans→Iff.A,symm→Iff.z
open Go.World.ownsRow renaming alloc→Go.World.ownsRow.C
open Go.Obj renaming cells→Go.Obj.E
open Int renaming toNat→Int.D
open UInt8 renaming toNat→UInt8.D
open Ne renaming symm→Ne.z
open Go.RowKit renaming Hid→X
open Go renaming World→U,Value→O
set_option linter.all false
set_option maxRecDepth 100000
set_option maxHeartbeats 2000000
section
open Go.RowKit
abbrev ι(x:Int):Value:=.int .i64 x
abbrev π(b:Nat):Value:=.pointer (Z ⟨b,0,Y⟩)
abbrev ν:Value:=.k Y 0 0
abbrev μ(w w':U):Prop:=Go.RowKit.Below w.o.q w w'
abbrev κ:=List ByteArray
abbrev ε:=Ending.returned
abbrev δ(b:Nat):Addr:=⟨b,0,Y⟩
abbrev ω(b o:Nat):Addr:=⟨b,o,Y⟩
abbrev Φ:=List Nat
abbrev Γ:=List O
def η{P:Prop}(h:P:=by omega):P:=h
def θ{P:Prop}(h:P:=by decide):P:=h
def ζ{P:Prop}(h:P:=by simp):P:=h
def γ{P:Prop}(h:P:=by go_grown):P:=h
def χ{P:Prop}(h:P:=by kernel_rfl):P:=h
def ξ{P:Prop}(h:P:=by go_num):P:=h
def υ{P:Prop}(h:P:=by simp;omega):P:=h
def a_{P:Prop}(h:P:=by simp[Go.Value.oneCell']):P:=h
def b_{P:Prop}(h:P:=by unfold Go.maxLen;omega):P:=h
variable {w1 w:U}
def Th{p:Prop}(h:p):X p:=h
def Mh{W:U}(a:μ W w1):(∀b o,b<W.o.q->w1.p (ω b o)=W.p (ω b o))/\(∀b o,b<W.o.q->w1.frozen? (ω b o)=W.frozen? (ω b o)):=
 ⟨λb o h=>a.cell (p:=(ω b o)) h,λb o h=>a.frozen (p:=(ω b o)) h⟩
def zI{B:Nat}{a w:U}(h:Below B a w)(n:Nat):Below B a (w.drewN n):=below_drewN h n
abbrev zR:=@Below.refl
abbrev zN:=@zI
abbrev zA:=@Below.alloc
abbrev zD:=@Below.drew
abbrev zS:=@Below.setCell
def φ{P:Prop}(h:P:=by repeat'(first|with_reducible(first|apply zR|assumption|apply zN|apply zA|apply zD|apply zS)|go_size)):P:=h
def zT{B:Nat}{a:U}(b:Below B w a)(c:μ a w1)(d:B<=w.o.q):Below B w w1:=
 b.A (c.y (Nat.le_trans d b.q))
def Tl{a:U}(b:μ w a)(c:μ a w1):μ w w1:=zT b c (Nat.le_refl _)
def zO{o:Obj}:μ w (w.C o):=(Below.refl _ _).C (Nat.le_refl _) _
def zi{B b o:Nat}{w':U}{v:Option O}(h:Below B w w')(a:b<B)(c:w.p (ω b o)=v):w'.p (ω b o)=v:=(h.cell (p:=(ω b o)) a).A c
def zy{w':U}{a:Nat}{e:TypeId}{b:Nat}{v:O}{n:Nat}{xs:Γ}(h:w.r a e b v n xs)(l:μ w w'):w'.r a e b v n xs:=by
 obtain⟨j,d⟩:=h;refine⟨j,?_⟩;rcases d with d|⟨g,c,f,k,m,i,r⟩;exact Or.inl d;refine Or.inr ⟨g,c,f,k,m,?_,r⟩;rw[l.block g (Array.getElem?_eq_some_iff.1 i).1];exact i
section
variable {P:Program} {ops:Array Oper} {rest:List Oper} {o:Oper} {a:Act} {Q:Exit->Act->U->Prop}
def gz(B q:U)(l:Γ)(te:TypeId)(W:o.guard=Y)(s x:Operand)(t:TypeId)
  (ho:o.op=.call {callee:=.builtin .append,args:=#[s,x],argTypes:=#[t,t]})
  (f:Nat) (e:TypeId) (i:TypeInfo) (z:O) (d m:Nat) (ht:P.underlying t=Z (.k e)) (hi:P.info? e=Z i) (hz:i.zero=Z z)
  (F:i.q=d) (R:i.bytes=m) (N:z.E.q=d) (aa:0<d)
  (v:O) (n:Nat) (T:Γ) (hs:a.eval s=v) (E:B.r f e d v n T) (p:μ B q)
  (b c:Nat) (hx:a.eval x=.k (Z (δ b)) 1 c) (hb:b=q.o.q) (hl:l.j=d) (h1:∀u∈l,u.oneCell'=true)
  (hn:n<=1048576) (C:m<=1000) (V:f<=B.o.q)
  (h:∀K A,A.r f e d K (n+1) (T++l)->Below f B A->(∀b o,B.o.q<=b->b<q.o.q->A.p (ω b o)=q.p (ω b o)) →
   (∀b o,B.o.q<=b->b<q.o.q->A.frozen? (ω b o)=q.frozen? (ω b o)) →
   (∀k,k<B.o.q->Z k≠v.m->A.o[k]?=B.o[k]?)->q.o.q<=A.o.q->wpList P ops Q rest (a.put o.dst K) A):
  wpList P ops Q (o::rest) a (q.C (.E l.toArray te)):=by
 have G:=zy E p;have I:∀k,v.m=Z k->f<=k/\k<B.o.q:=by
  intro k D;obtain⟨_,h2⟩:=E;rcases h2 with⟨M,_⟩|⟨g,ac,ad,M,W,hh,_⟩
  .subst M;cases D
  .subst M;simp only[O.ownBlock,Option.some.injEq] at D;subst D;exact⟨W,(Array.getElem?_eq_some_iff.1 hh).1⟩
 have ab:=p.q;subst hb;refine wpList_append_own _ W s x t ho f e i z d m ht hi hz F R N aa v n T hs (G.C _) (δ q.o.q) 1 c l hx η ?_ h1 ?_ ?_ ?_ ?_
 .intro j u hj;rw[Addr.add_lit,Nat.zero_add,U.cell?_alloc_mark];simpa using hj
 .unfold maxLen;omega
 .have:(n+1)*m<=1048577*1000:=Nat.mul_le_mul η C;omega
 .simp;omega
 .intro K A h2 y _;have r:∀k,k<q.o.q->Z k≠v.m->A.o[k]?=q.o[k]?:=λk D H=>by
   rw[y.block k υ H];exact Below.heap_alloc _ _ _ D
  have L:q.o.q<=A.o.q:=by have:=y.q;simp at this;omega
  refine h K A h2 ⟨y.os.A p.os,y.tape.A p.tape,y.output.A p.output,η,λk D=>?_⟩ (λb o S J=>?_) (λb o S J=>?_) (λk D H=>?_) L
  .rw[r k η (λe=>by have:=I k e.z;omega)];exact p.block k η
  .exact U.cell?_of_block (w:=q) (r b J (λe=>by have:=I b e.z;omega))
  .exact U.frozen?_of_block (w:=q) (r b J (λe=>by have:=I b e.z;omega))
  .rw[r k η H];exact p.block k D
def Q8(w:U)(n:o.guard=Y)(x:Operand)(b c e:TypeId)(h:o.op=.convert b c x)
  (hs:P.underlying b=Z .d) (m:P.underlying c=Z (.k e)) (p:P.underlying e=Z (.int .u8)) (s:ByteArray) (l:a.eval x=.d s)
  (k:∀d g,(∀j (i:j<s.data.q),g.p (ω w.o.q j)=Z (.int .u8 (s.data[j].D:Int)))->μ w g →
   wpList P ops Q rest (a.put o.dst (.k (Z (δ w.o.q)) s.q d)) g):wpList P ops Q (o::rest) a w:=by
 refine wpList_plain n λK f=>?_;have q:=run_bytes_of_string (P:=P) w b c e s hs m p;unfold Oper.wp;simp[execOp,h,l,q,Result.andThen];refine f _ _ (k _ _ (λj i=>?_) ?_);have:=U.cell?_alloc_mark w.drew (bytesRow s (grownCap w s.q 0 e)) e ((bytesRow s (grownCap w s.q 0 e)).q,(bytesRow s (grownCap w s.q 0 e)).q+1) j;rw[bytesRow_at s _ j i] at this;exact this;exact(Below.refl _ _).drew.C (Nat.le_refl _) _
def Q4(w:U)(r:o.guard=Y)(x:Operand)(c d e:TypeId)(i:o.op=.convert c d x)
  (hs:P.underlying c=Z (.k e)) (t:P.underlying e=Z (.int .u8)) (p:P.underlying d=Z .d) (s:ByteArray) (b cap:Nat) (m:a.eval x=.k (Z (δ b)) s.q cap)
  (q:∀j (g:j<s.data.q),w.p (ω b j)=Z (.int .u8 (s.data[j].D:Int)))
  (l:wpList P ops Q rest (a.put o.dst (.d s)) w):wpList P ops Q (o::rest) a w:=by
 refine wpList_plain r λK h=>?_;have k:=run_convert_bytes_back (P:=P) w c d e (δ b) cap s.data.v hs t p (λj g=>by
  have f:j<s.data.q:=by rw[Array.length_toList] at g;exact g
  rw[Addr.add_lit,Nat.zero_add,q j f,Array.getElem_toList])
 have n:s.data.v.j=s.q:=by rw[Array.length_toList];rfl
 rw[n] at k;unfold Oper.wp;simp[execOp,i,m,k,Result.andThen];exact h _ _ l
end
abbrev zf:=@Nat.le_refl
abbrev zt:=@Option.some.injEq
abbrev zq:=@List.getElem_mem
abbrev zn:=@Below.refl
abbrev yN:=@List.take_succ_eq_append_getElem
abbrev za:=@if_neg
abbrev kS:=@List.getD_eq_getElem?_getD
abbrev yn:=@List.getElem?_eq_getElem
abbrev zb:=@if_pos
abbrev zs:=@Nat.zero_le
abbrev zG:=@List.mem_cons
abbrev zF:=@List.mem_map
abbrev xp:=@List.drop_eq_getElem_cons
abbrev ym:=@Nat.lt_of_lt_of_le
abbrev yV:=@List.take_of_length_le
abbrev ze:=@Or.inr
abbrev ya:=@List.mem_append
abbrev zh:=@Or.inl
abbrev yK:=@List.length_append
abbrev zP:=@bodyPost_ret
abbrev zY:=@Nat.le_trans
abbrev ye:=@Prod.mk.injEq
abbrev uk:=@List.drop_eq_nil_of_le
abbrev uG:=@List.getElem_append_left
abbrev xo:=@World.ownsRow_nil
abbrev xL:=@List.mem_singleton
abbrev xu:=@List.length_cons
abbrev xt:=@List.length_map
abbrev xy:=@List.mem_filter
abbrev ue:=@List.getElem_map
abbrev gi:=@List.getElem?_eq_none
abbrev qq:=@Option.map_eq_some_iff
abbrev vh:=@List.getElem_of_mem
abbrev ks:=@Array.getElem?_eq_some_iff
abbrev jC:=@List.getElem?_eq_some_iff
abbrev vQ:=@List.mem_iff_getElem
abbrev uE:=@Option.getD_some
abbrev uX:=@List.flatMap_cons
abbrev uI:=@Bool.and_eq_true
abbrev zC:=@absurd
abbrev uY:=@List.take_length
abbrev uJ:=@List.foldl_cons
abbrev vd:=@List.length_take
abbrev vg:=@List.mem_flatMap
abbrev uq:=@List.map_cons
abbrev jQ:=@List.take_append_drop
abbrev fR:=@List.getElem?_append_right
abbrev j6:=@Option.isSome_some
abbrev qZ:=@List.foldl_append
abbrev qn:=@List.append_nil
abbrev lI:=@List.eq_nil_of_length_eq_zero
abbrev gh:=@List.mem_of_mem_take
abbrev qF:=@List.map_append
abbrev jv:=@List.ext_getElem
abbrev gQ:=@List.getElem_cons_zero
abbrev lW:=@List.getElem_append_right
abbrev kT:=@List.append_assoc
abbrev vJ:=@Nat.zero_add
abbrev qv:=@List.mem_range
abbrev jr:=@List.length_nil
abbrev jx:=@List.nodup_cons
abbrev kK:=@Option.isSome_none
abbrev vu:=@Nat.add_zero
abbrev gE:=@List.map_congr_left
abbrev mn:=@List.mem_or_eq_of_mem_set
abbrev l9:=@List.getElem?_cons_zero
abbrev qt:=@List.sum_cons
abbrev lV:=@Option.isSome_iff_exists
abbrev kF:=@Option.getD_none
abbrev jL:=@Option.map_some
abbrev fB:=@List.mem_of_mem_drop
abbrev fK:=@Nat.mul_le_mul_right
abbrev ft:=@List.mem_of_getElem?
abbrev r9:=@List.getElem?_append_left
abbrev fY:=@List.set_append_right
abbrev dU:=@Bool.false_eq_true
abbrev nf:=@List.getElem?_take
abbrev nt:=@List.length_erase_of_mem
abbrev gO:=@List.all_eq_true
abbrev np:=@List.getElem?_cons_succ
abbrev mJ:=@List.zipWith_cons_cons
abbrev lN:=@List.mem_erase_of_ne
abbrev fg:=@List.any_eq_true
abbrev dX:=@Nat.min_eq_left
abbrev l8:=@List.getElem_range
abbrev j4:=@Nat.sub_self
abbrev m6:=@List.getElem?_toArray
abbrev pV:=@List.nodup_iff_pairwise_ne
abbrev pO:=@List.getElem_concat_length
abbrev nZ:=@Array.length_toList
abbrev nU:=@List.length_eq_zero_iff
abbrev pM:=@List.pairwise_iff_getElem
abbrev mH:=@List.pairwise_append
abbrev pd:=@List.length_pos_of_mem
abbrev se:=@List.mem_zipIdx_iff_getElem?
abbrev mp:=@List.pairwise_cons
abbrev mF:=@List.drop_succ_cons
abbrev fz:=@List.length_set
abbrev lr:=@List.cons_append
abbrev mG:=@List.getElem?_map
abbrev sW:=@Array.getElem?_setIfInBounds_ne
abbrev nP:=@List.mem_cons_of_mem
abbrev mM:=@List.mem_filterMap
abbrev pF:=@List.getElem_cons_succ
abbrev fX:=@Bool.or_eq_true
abbrev fM:=@List.drop_zero
abbrev lT:=@List.getElem_set
abbrev nB:=@Nat.mul_le_mul_left
abbrev mX:=@List.pairwise_map
abbrev p7:=@List.getElem_set_self
abbrev tR:=@List.countP_eq_length_filter
abbrev pJ:=@Bool.or_eq_false_iff
abbrev gV:=@Nat.lt_or_ge
abbrev lf:=@List.map_set
abbrev pE:=@List.take_succ_cons
abbrev ph:=@List.flatten_cons
abbrev nI:=@List.ext_getElem?
abbrev pL:=@List.takeWhile_cons
abbrev rn:=@List.getElem_set_ne
abbrev mS:=@List.cons.injEq
abbrev rA:=@List.length_filter_le
abbrev sQ:=@List.filter_append
abbrev pC:=@List.set_cons_succ
abbrev rq:=@List.set_cons_zero
abbrev tq:=@List.length_filterMap_le
abbrev nQ:=@List.not_mem_nil
abbrev mR:=@List.tail_cons
abbrev rf:=@Nat.lt_trichotomy
abbrev ri:=@List.length_range
abbrev rT:=@List.replicate_succ
abbrev tV:=@List.countP_le_length
abbrev rF:=@List.nodup_append
abbrev re:=@List.nil_append
abbrev oG:=@List.range_succ
abbrev nM:=@Bool.true_and
abbrev Ap:=@List.zipWith_append
abbrev n7:=@Bool.not_true
abbrev e8:=@Nat.add_sub_cancel_left
abbrev tG:=@List.filterMap_cons
abbrev mm:=@Nat.add_mul
abbrev rI:=@Bool.not_eq_true
abbrev rL:=@List.append_inj'
abbrev eD:=@List.drop_of_length_le
abbrev eP:=@List.getElem_replicate
abbrev iD:=@List.filter_eq_nil_iff
abbrev Ad:=@List.dropLast_concat_getLast
abbrev sM:=@List.mem_cons_self
abbrev pg:=@List.map_map
abbrev ik:=@List.set_getElem_self
abbrev ig:=@List.filterMap_append
abbrev wW:=@Bool.and_eq_false_iff
abbrev SA:=@Array.getElem?_modify
abbrev ij:=@List.eq_nil_or_concat
abbrev eV:=@List.concat_eq_append
abbrev sX:=@Bool.not_eq_true'
abbrev sN:=@List.map_take
abbrev p8:=@Bool.false_or
abbrev tM:=@Bool.not_eq_false
abbrev sV:=@List.getElem?_set
end
section
variable {s b:ByteArray}{i n:Nat}{p:Int->Bool}
def xi(c:Int):Bool:=decide (97<=c)&&decide (c<=122)
def qe(c:Int):Bool:=decide (65<=c)&&decide (c<=90)
def yY(c:Int):Bool:=decide (48<=c)&&decide (c<=57)
def qS(c:Int):Bool:=c == 32||c == 10
def TL(c:Int):Bool:=xi c||qe c||yY c
def fo(c:Int):Int:=if c=40 then 4 else if c=41 then 5 else if c=44 then 6 else if c=46 then 7 else if c=33 then 8 else 0
def xw(a b:Int):Int:=if xi a then 1 else if qe a then 2 else if yY a then 3 else if a=58/\b=45 then 9 else fo a
def Tt(s:ByteArray)(i:Nat):Int:=if h:i<s.q then(s[i].D:Int) else 0
def qV(h:i<s.q):Tt s i=(s[i].D:Int):=by simp[Tt,h]
def pI(h:¬i<s.q):Tt s i=0:=by simp[Tt,h]
def ma(s:ByteArray)(i:Nat):0<=Tt s i/\Tt s i<256:=by
 unfold Tt;split;rename_i h;have:=s[i].toNat_lt;omega;omega
def yJ(p:Int->Bool)(s:ByteArray)(i:Nat):Nat:=if h:i<s.q then(if p (Tt s i) then yJ p s (i+1) else i) else i
 termination_by s.q-i
def fx(h:¬i<s.q):yJ p s i=i:=by rw[yJ];simp[h]
def nY(h:p (Tt s i)=false):yJ p s i=i:=by rw[yJ];simp[h]
def mL(h:i<s.q)(a:p (Tt s i)=true):yJ p s i=yJ p s (i+1):=by
 conv=>lhs;rw[yJ]
 simp[h,a]
def EC(p:Int->Bool)(s:ByteArray):∀(n i:Nat),s.q-i<=n->i<=yJ p s i/\(i<=s.q->yJ p s i<=s.q):=by
 intro n;induction n with
 |zero=>intro i h;rw[fx η];omega
 |succ n d=>
  intro i h;by_cases a:i<s.q;cases c:p (Tt s i);rw[nY c];omega;rw[mL a c];have:=d (i+1) η;omega;rw[fx a];omega
def MG(p:Int->Bool)(s:ByteArray)(i:Nat):i<=yJ p s i:=(EC p s _ i (Nat.le_refl _)).1
def I0(p:Int->Bool)(s:ByteArray)(i:Nat)(h:i<=s.q):yJ p s i<=s.q:=(EC p s _ i (Nat.le_refl _)).2 h
def yx(s:ByteArray)(i:Nat)(k:Int):Nat:=if k=0 then i else if k=9 then i+2 else if k=1∨k=2 then yJ TL s i else if k=3 then yJ yY s i else i+1
def tz(s:ByteArray)(i:Nat)(k:Int)(g:i<s.q)(a:xw (Tt s i) (Tt s (i+1))=k)(d:k≠0):i<yx s i k/\yx s i k<=s.q:=by
 have c:∀p:Int->Bool,p (Tt s i)=true->i<yJ p s i/\yJ p s i<=s.q:=λp j=>by
  rw[mL g j];have:=MG p s (i+1);have:=I0 p s (i+1) η;omega
 unfold xw at a;unfold yx;split at a;rename_i h;subst a;simp;exact c TL (by simp[TL,h]);split at a;rename_i h;subst a;simp;exact c TL (by simp[TL,h]);split at a;rename_i h;subst a;simp;exact c yY h;split at a;rename_i h;subst a;simp;have:i+1<s.q:=by
  false_or_by_contra;rename_i e;rw[pI e] at h;omega
 omega;have f:k≠9/\k≠1/\k≠2/\k≠3:=by subst a;unfold fo;(repeat' split)<;>simp
 simp[d,f];omega
def Ty:Nat->ByteArray->Nat->Option (List (Int×ByteArray))
 |0,_,_=>Z []
 |n+1,s,i=>
  if i<s.q then
   if qS (Tt s i) then Ty n s (i+1)
   else if xw (Tt s i) (Tt s (i+1))=0 then Y
   else if 6<yx s i (xw (Tt s i) (Tt s (i+1)))-i then Y
   else(Ty n s (yx s i (xw (Tt s i) (Tt s (i+1))))).w ((xw (Tt s i) (Tt s (i+1)),s.extract i (yx s i (xw (Tt s i) (Tt s (i+1)))))::·)
  else Z []
def Tu(s:ByteArray):Option (List (Int×ByteArray)):=Ty s.q s 0
def sE(h:¬i<s.q):Ty n s i=Z []:=by cases n<;>simp[Ty,h]
def wT(h:i<s.q)(a:qS (Tt s i)=true):Ty (n+1) s i=Ty n s (i+1):=by simp[Ty,h,a]
def wH(h:i<s.q)(c:qS (Tt s i)=false)(a:xw (Tt s i) (Tt s (i+1))=0):Ty (n+1) s i=none:=by simp[Ty,h,c,a]
def eZ{k:Int}(h:i<s.q)(c:qS (Tt s i)=false)(a:xw (Tt s i) (Tt s (i+1))=k)(d:6<yx s i k-i):Ty (n+1) s i=none:=by
 subst a;simp[Ty,h,c,d]
def iV{k:Int}(h:i<s.q)(d:qS (Tt s i)=false)(c:xw (Tt s i) (Tt s (i+1))=k)(a:k≠0)(e:¬6<yx s i k-i):
  Ty (n+1) s i=(Ty n s (yx s i k)).w ((k,s.extract i (yx s i k))::·):=by
 subst c;simp[Ty,h,d,e,a]
def sO{α:Type}(o:Option (List α))(a:List α)(x:α):(o.w (x::·)).w (a++·)=o.w ((a++[x])++·):=by cases o<;>simp
def PQ(s:ByteArray):∀(n i:Nat) (r:List UInt8),s.q-i<=n->ByteArray.toList.loop s i r=r.reverse++s.data.v.drop i:=by
 intro n;induction n with
 |zero=>
  intro i r h;rw[ByteArray.toList.loop,if_neg η,List.drop_eq_nil_of_le (by rw[Array.length_toList];show s.q<=i;omega),List.append_nil]
 |succ n d=>
  intro i r h;rw[ByteArray.toList.loop];split;rename_i a;rw[d (i+1) _ η];have c:i<s.data.v.j:=by rw[Array.length_toList];exact a
  rw[List.drop_eq_getElem_cons c];simp[ByteArray.get!,a];rw[List.drop_eq_nil_of_le (by rw[Array.length_toList];show s.q<=i;omega),List.append_nil]
def jS(s:ByteArray):s.v=s.data.v:=by
 rw[ByteArray.toList,PQ s _ 0 [] (Nat.le_refl _)];simp
def Ur{a:ByteArray}(h:a.v=b.v):a=b:=by
 rw[jS,jS] at h;exact Go.WideShapes.bytes_inj h
def Cs(a b:ByteArray):(a.v == b.v)=decide (a=b):=by
 by_cases h:a=b;subst h;simp;rw[decide_eq_false h,beq_eq_false_iff_ne];exact λk=>h (Ur k)
def jq{a:ByteArray}(h:a=b):(a.v == b.v)=true:=by rw[Cs];simpa using h
def vU{a:ByteArray}(h:a≠b):(a.v == b.v)=false:=by rw[Cs];simpa using h
def zQ(t:ByteArray):Bool:=qe (Tt t 0)
def yi(t:ByteArray):κ->Bool
 |[]=>false
 |x::r=>decide (x=t)||yi t r
def vS{t:ByteArray}:∀{vs:κ},yi t vs=true↔t∈vs
 |[]=>by simp[yi]
 |x::r=>by simp only[yi,Bool.or_eq_true,decide_eq_true_eq,List.mem_cons,vS (vs:=r)];constructor<;>(rintro(h|h)<;>simp[h])
def tU{t:ByteArray}{vs:κ}:yi t vs=false↔t∉vs:=by rw[←vS];simp
def ke(vs:κ)(t:ByteArray):κ:=if zQ t&&!yi t vs then vs++[t] else vs
def xH(vs args:κ):κ:=args.H ke vs
def Kc(vs:κ)(t:ByteArray):(ke vs t).j<=vs.j+1:=by unfold ke;split<;>simp
def pW(args:κ):∀vs:κ,(xH vs args).j<=vs.j+args.j:=by
 induction args with
 |nil=>intro vs;simp[xH]
 |cons a r c=>intro vs;have:=c (ke vs a);have:=Kc vs a;simp only[xH,List.foldl_cons,List.length_cons] at *;omega
end
section
open Go.Proofs.Tryz Go.RowKit
def en(c:Int)(w:U):
  Calls prog 98 #[.int .u8 c] w λe a=>e=ε (.i (qS c))/\a=w:=by
 go_enter func98,ntmps98;go_wp2
 all_goals go_ret
 all_goals exact⟨by simp[qS, *],rfl⟩
def Dk(c:Int)(w:U):
  Calls prog 173 #[.int .u8 c] w λe a=>e=ε (.i (xi c))/\a=w:=by
 go_enter func173,ntmps173;go_wp2
 all_goals go_ret
 all_goals exact⟨by simp[xi, *]<;>omega,rfl⟩
def CO(c:Int)(w:U):
  Calls prog 174 #[.int .u8 c] w λe a=>e=ε (.i (qe c))/\a=w:=by
 go_enter func174,ntmps174;go_wp2
 all_goals go_ret
 all_goals exact⟨by simp[qe, *]<;>omega,rfl⟩
def tF(c:Int)(w:U):
  Calls prog 175 #[.int .u8 c] w λe a=>e=ε (.i (yY c))/\a=w:=by
 go_enter func175,ntmps175;go_wp2
 all_goals go_ret
 all_goals exact⟨by simp[yY, *]<;>omega,rfl⟩
def BG(c:Int)(w:U):
  Calls prog 198 #[.int .u8 c] w λe a=>e=ε (.i (TL c))/\a=w:=by
 go_enter func198,ntmps198;go_wp2_with (first|(go_at_call 173;refine(Dk _ _).y ?_;rintro e a ⟨rfl,rfl⟩)|(go_at_call 174;refine(CO _ _).y ?_;rintro e a ⟨rfl,rfl⟩)|(go_at_call 175;refine(tF _ _).y ?_;rintro e a ⟨rfl,rfl⟩))
 all_goals go_ret
 all_goals exact⟨by simp[TL, *],rfl⟩
def GS(s:ByteArray)(i:Int)(w:U)(b:0<=i)(_:s.q<=500):
  Calls prog 139 #[.d s,ι i] w λe a=>e=ε (.int .u8 (Tt s i.D))/\a=w:=by
 obtain⟨i,rfl⟩:=Int.eq_ofNat_of_zero_le b;rw[Int.toNat_natCast];by_cases h:i<s.q
 .rw[qV h];go_enter func139,ntmps139;go_wp2
  all_goals go_ret
  all_goals exact⟨rfl,rfl⟩
 rw[pI h];go_enter func139,ntmps139;go_wp2
 all_goals go_ret
 all_goals exact⟨rfl,rfl⟩
def Md(c:Int)(w:U):
  Calls prog 176 #[.int .u8 c] w λe a=>e=ε (ι (fo c))/\a=w:=by
 go_enter func176,ntmps176;go_wp2
 all_goals go_ret
 all_goals go_light
 all_goals exact⟨by simp_all [fo],rfl⟩
def FI(a b:Int)(w:U):
  Calls prog 140 #[.int .u8 a,.int .u8 b] w λe c=>e=ε (ι (xw a b))/\c=w:=by
 go_enter func140,ntmps140;go_wp2_with (first|(go_at_call 173;refine(Dk _ _).y ?_;rintro e c ⟨rfl,rfl⟩)|(go_at_call 174;refine(CO _ _).y ?_;rintro e c ⟨rfl,rfl⟩)|(go_at_call 175;refine(tF _ _).y ?_;rintro e c ⟨rfl,rfl⟩)|(go_at_call 176;refine(Md _ _).y ?_;rintro e c ⟨rfl,rfl⟩))
 all_goals go_ret
 all_goals go_light
 all_goals exact⟨by first|(simp_all [xw];done)|(simp_all [xw,xi,qe,yY];done),rfl⟩
def Rt(s:ByteArray)(i:Nat)(w:U)(hs:s.q<=500)(g:i<=s.q):
  Calls prog 177 #[.d s,ι i] w λe c=>e=ε (ι (yJ TL s i))/\c=w:=by
 go_enter func177,ntmps177;go_wp2;go_loop [5] (λt=>∃k:Nat,k<=s.q/\t=ι k/\X (yJ TL s i=yJ TL s k)) (λt=>s.q-(intOf t).D);exact⟨i,g,rfl,rfl⟩;obtain⟨k,h,rfl,H⟩:=hrel;by_cases a:k<s.q
 .have f:=qV a;cases d:TL (Tt s k)
  .have b:X (yJ TL s i=k):=by rw[X.out H,nY d];rfl
   rw[f] at d;go_wp2_with (go_at_call 198;refine(BG _ _).y ?_;rintro e c ⟨rfl,rfl⟩)
   go_ret;exact⟨by rw[X.out b];rfl,rfl⟩
  have b:X (yJ TL s i=yJ TL s (k+1)):=by rw[X.out H,mL a d];rfl
  rw[f] at d;go_wp2_with (go_at_call 198;refine(BG _ _).y ?_;rintro e c ⟨rfl,rfl⟩)
  go_round;exact⟨k+1,η,ξ,b⟩;simp[intOf];omega
 have b:X (yJ TL s i=k):=by rw[X.out H,fx a];rfl
 go_wp2_with (go_at_call 198;refine(BG _ _).y ?_;rintro e c ⟨rfl,rfl⟩)
 go_ret;exact⟨by rw[X.out b];rfl,rfl⟩
def KU(s:ByteArray)(i:Nat)(w:U)(hs:s.q<=500)(g:i<=s.q):
  Calls prog 178 #[.d s,ι i] w λe c=>e=ε (ι (yJ yY s i))/\c=w:=by
 go_enter func178,ntmps178;go_wp2;go_loop [5] (λt=>∃k:Nat,k<=s.q/\t=ι k/\X (yJ yY s i=yJ yY s k)) (λt=>s.q-(intOf t).D);exact⟨i,g,rfl,rfl⟩;obtain⟨k,h,rfl,H⟩:=hrel;by_cases a:k<s.q
 .have f:=qV a;cases d:yY (Tt s k)
  .have b:X (yJ yY s i=k):=by rw[X.out H,nY d];rfl
   rw[f] at d;go_wp2_with (go_at_call 175;refine(tF _ _).y ?_;rintro e c ⟨rfl,rfl⟩)
   go_ret;exact⟨by rw[X.out b];rfl,rfl⟩
  have b:X (yJ yY s i=yJ yY s (k+1)):=by rw[X.out H,mL a d];rfl
  rw[f] at d;go_wp2_with (go_at_call 175;refine(tF _ _).y ?_;rintro e c ⟨rfl,rfl⟩)
  go_round;exact⟨k+1,η,ξ,b⟩;simp[intOf];omega
 have b:X (yJ yY s i=k):=by rw[X.out H,fx a];rfl
 go_wp2_with (go_at_call 175;refine(tF _ _).y ?_;rintro e c ⟨rfl,rfl⟩)
 go_ret;exact⟨by rw[X.out b];rfl,rfl⟩
def FT(s:ByteArray)(i:Nat)(k:Int)(w:U)(hs:s.q<=500)(b:i<=s.q):
  Calls prog 141 #[.d s,ι i,ι k] w λe a=>e=ε (ι (yx s i k))/\a=w:=by
 go_enter func141,ntmps141;go_wp2_with (first|(go_at_call 177;refine(Rt _ _ _ hs b).y ?_;rintro e a ⟨rfl,rfl⟩)|(go_at_call 178;refine(KU _ _ _ hs b).y ?_;rintro e a ⟨rfl,rfl⟩))
 all_goals go_ret
 all_goals go_light
 all_goals exact⟨by simp_all [yx],rfl⟩
def Ni(s:ByteArray)(i:Nat)(w:U)(hs:s.q<=500)(c:i<s.q)(d:xw (Tt s i) (Tt s (i+1))=0):
  Calls prog 99 #[.d s,ι i] w λe a=>e=ε (.agg #[ι 0,.d ByteArray.empty])/\μ w a:=by
 have f:yx s i 0=i:=rfl;have b:((i:Int)+1).D=i+1:=η;go_enter func99,ntmps99;go_wp2_with (first|(go_at_call 139;refine(GS s _ _ η hs).y ?_;rintro e a ⟨rfl,rfl⟩)|(go_at_call 140;refine(FI _ _ _).y ?_;rintro e a ⟨rfl,rfl⟩)|(go_at_call 141;refine(FT s i _ _ hs η).y ?_;rintro e a ⟨rfl,rfl⟩))
 go_returns
 exact⟨rfl,γ⟩
def Kk(s:ByteArray)(i:Nat)(k:Int)(w:U)(hs:s.q<=500)(o:i<s.q)(p:xw (Tt s i) (Tt s (i+1))=k)
  (m:i<yx s i k) (j:yx s i k<=s.q):
  Calls prog 99 #[.d s,ι i] w λe b=>e=ε (.agg #[ι k,.d (s.extract i (yx s i k))])/\μ w b:=by
 have n:((i:Int)+1).D=i+1:=η;go_enter func99,ntmps99;go_wp2_with (first|(go_at_call 139;refine(GS s _ _ η hs).y ?_;rintro e b ⟨rfl,rfl⟩)|(go_at_call 140;refine(FI _ _ _).y ?_;rintro e b ⟨rfl,rfl⟩)|(go_at_call 141;refine(FT s i _ _ hs η).y ?_;rintro e b ⟨rfl,rfl⟩)|(refine Q8 _ rfl (.tmp 41) 9 238 5 rfl underlying9 underlying238 underlying5 _ rfl ?_;intro g h c a;obtain⟨d,f⟩:=Mh a;have l:=a.q;simp only[U.size_alloc] at l)|(refine Q4 _ rfl (.tmp 42) 238 9 5 rfl underlying238 underlying5 underlying9 _ _ _ rfl ?_ ?_;(first|exact c|fail)))
 have q:μ w h:=Tl zO a;exact zP (v:=.agg #[ι k,.d (s.extract i (yx s i k))]) (by simp[results,results99,go_sem,d]) rfl ⟨rfl,γ⟩
def kC(l:List (Int×ByteArray)):List Value:=l.flatMap λx=>[ι x.1,.d x.2]
def QM(l:List (Int×ByteArray))(k:Int)(t:ByteArray):kC (l++[(k,t)])=kC l++[ι k,.d t]:=by simp[kC]
def Te:(prog.info? 182).w (λi=>(i.zero,i.q,i.bytes))=Z (Z (.agg #[ι 0,.d ByteArray.empty]),2,24):=χ
def tI(s:ByteArray)(w:U)(e:Ending)(w':U):Prop:=
 μ w w'/\match Tu s with
  |none=>e=ε (.B #[ν,.i false])
  |some l=>∃v,e=ε (.B #[v,.i true])/\w'.r w.o.q 182 2 v l.j (kC l)/\l.j<=s.q
def Gg{s:ByteArray}{w w':U}(h:X (Tu s=Y))(b:μ w w'):tI s w (ε (.B #[ν,.i false])) w':=by
 have a:Tu s=none:=h;unfold tI;rw[a];exact⟨b,rfl⟩
def Je{s:ByteArray}{w w':U}{v:O}{l:List (Int×ByteArray)}(h:X (Tu s=Z l))(b:μ w w')(d:w'.r w.o.q 182 2 v l.j (kC l))(a:l.j<=s.q):
  tI s w (ε (.B #[v,.i true])) w':=by
 have c:Tu s=Z l:=h;unfold tI;rw[c];exact⟨b,v,rfl,d,a⟩
def Ij(s:ByteArray)(w:U)(hs:s.q<=500):
  Calls prog 59 #[.d s] w λe z=>tI s w e z:=by
 obtain⟨Q,S,A,I,J⟩:=info_parts Te;go_enter func59,ntmps59;go_wp2;go_loopw [4,5] (λv t wr=>∃(k:Nat) (a:List (Int×ByteArray)) (m:Nat),k<=s.q/\t=ι k/\s.q-k<=m/\X (Tu s=(Ty m s k).w (a++·))/\a.j<=k ∧
   wr.r w.o.q 182 2 v a.j (kC a)/\μ w wr) (λ_ t _=>s.q-(intOf t).D)
 exact⟨0,[],s.q,zs _,rfl,η,(by simp[Tu,X]),zf _,xo _ _ _ _,zn _ _⟩;obtain⟨k,a,m,W,rfl,hm,H,T,i,c⟩:=hrel;by_cases b:k<s.q
 .have n:=qV b;obtain⟨m,rfl⟩:∃V,m=V+1:=⟨m-1,η⟩;cases p:qS (Tt s k)
  .by_cases h:xw (Tt s k) (Tt s (k+1))=0
   .have j:X (Tu s=Y):=by rw[X.out H,wH b p h];simp[X]
    have q:=Ni s k wr hs b h;rw[n] at p;clear n H h;go_wp2_with (first|(go_at_call 98;refine(en _ _).y ?_;rintro e z ⟨rfl,rfl⟩)|(go_at_call 99;refine q.y ?_;rintro e E ⟨rfl,g⟩;clear q;have r:=Tl c g;have u:=r.q))
    go_ret2
    exact Gg j γ
   obtain⟨f,d⟩:∃f,xw (Tt s k) (Tt s (k+1))=f:=⟨_,rfl⟩;have l:f≠0:=by rw[←d];exact h
   obtain⟨L,C⟩:=tz s k f b d l;have q:=Kk s k f wr hs b d L C;by_cases P:6<yx s k f-k
   .have j:X (Tu s=Y):=by rw[X.out H,eZ b p d P];simp[X]
    rw[n] at p;clear n H h d;generalize yx s k f=o at *;have K:(s.extract k o).q=o-k:=by rw[ByteArray.size_extract];omega
    generalize s.extract k o=N at *;have y:(f == 0)=false:=by simpa using l
    go_wp2_with (first|(go_at_call 98;refine(en _ _).y ?_;rintro e z ⟨rfl,rfl⟩)|(go_at_call 99;refine q.y ?_;rintro e E ⟨rfl,g⟩;clear q;have r:=Tl c g;have u:=r.q))
    go_ret2
    exact Gg j γ
   have j:X (Tu s=(Ty m s (yx s k f)).w ((a++[(f,s.extract k (yx s k f))])++·)):=by rw[X.out H,iV b p d l P,sO];rfl
   rw[n] at p;clear n H h d;generalize yx s k f=o at *;have K:(s.extract k o).q=o-k:=by rw[ByteArray.size_extract];omega
   generalize s.extract k o=N at *;have y:(f == 0)=false:=by simpa using l
   go_wp2_with (first|(go_at_call 98;refine(en _ _).y ?_;rintro e z ⟨rfl,rfl⟩)|(go_at_call 99;refine q.y ?_;rintro e E ⟨rfl,g⟩;clear q;have r:=Tl c g;have u:=r.q;have D:=zy i g)|(at_builtin;refine gz E _ _ _ rfl (.tmp 29) (.tmp 31) 118 rfl w.o.q 182 Q _ 2 24 underlying118 S A I J rfl θ _ _ _ rfl D zO _ _ rfl ζ rfl a_ η η η ?_;intro v' w2 B F G M R x;simp only[U.size_alloc] at G M x))
   go_roundw;exact⟨o,a++[(f,N)],m,η,ξ,η,j,by simp;omega,by rw[yK,QM];exact B,r.A F⟩;simp[intOf];omega
  have j:X (Tu s=(Ty m s (k+1)).w (a++·)):=by rw[←wT b p];exact H
  rw[n] at p;clear n H;go_wp2_with (go_at_call 98;refine(en _ _).y ?_;rintro e z ⟨rfl,rfl⟩)
  go_roundw;exact⟨k+1,a,m,η,ξ,η,j,η,i,c⟩;simp[intOf];omega
 have j:X (Tu s=Z a):=by rw[X.out H,sE b];simp[X]
 clear H;go_wp2;go_ret2
 exact Je j c i η
end
section
open Go.RowKit
variable {lo:Nat}{t:ByteArray}{r base n b:Nat}{w w':U}{v wv:O}{xs:List O}{c:Array O}{l:κ}
abbrev Tp:=Int×ByteArray
abbrev Δ:=List Tp
structure zj where
 i:Bool
 o:ByteArray
 k:κ
abbrev Ω:=List zj
structure zc where
 g:zj
 d:List zj
abbrev Ξ:=List zc
def Uo(k:Int):Bool:=k == 1||k == 3||k == 2
def T7:List Tp->Int
 |[]=>0
 |x::_=>x.1
def yw:List Tp->Option (κ×List Tp)
 |[]=>Y
 |[x]=>if Uo x.1 then Z ([x.2],[]) else Y
 |x::y::r=>if Uo x.1 then(if y.1=6 then(yw r).w λz=>(x.2::z.1,z.2) else Z ([x.2],y::r)) else Y
def Ks{k:Int}{r:Δ}(h:Uo k=false):yw ((k,t)::r)=none:=by cases r<;>simp[yw,h]
def FZ{k:Int}{r:Δ}(h:Uo k=true)(a:T7 r≠6):yw ((k,t)::r)=Z ([t],r):=by
 rcases r with _|⟨y,r⟩;simp[yw,h];simp only[T7] at a;simp[yw,h,a]
def Ml{k:Int}{r:Δ}(h:Uo k=true)(a:T7 r=6):yw ((k,t)::r)=(yw r.tail).w λz=>(t::z.1,z.2):=by
 rcases r with _|⟨y,r⟩;simp[T7] at a;simp only[T7] at a;simp[yw,h,a]
def xx(r:List Tp):Option (zj×List Tp):=
 if T7 r=1 then
  if T7 r.tail=4 then
   match yw r.tail.tail with
   |none=>Y
   |some (d,a)=>if T7 a=5 then Z (⟨false,(r.headD (0,ByteArray.empty)).2,d⟩,a.tail) else Y
  else Z (⟨false,(r.headD (0,ByteArray.empty)).2,[]⟩,r.tail)
 else Y
def uU(r:List Tp):Option (zj×List Tp):=
 if T7 r=8 then(xx r.tail).w λz=>({z.1 with i:=true},z.2) else xx r
structure Tv (r:Nat) (w w':U):Prop where
 os:w'.os=w.os
 tape:w'.tape=w.tape
 output:w'.output=w.output
 q:w.o.q<=w'.o.q
 block:∀k,k<w.o.q->k≠r->w'.o[k]?=w.o[k]?
def Tv.refl(r:Nat)(w:U):Tv r w w:=⟨rfl,rfl,rfl,zf _,λ_ _ _=>rfl⟩
def Tv.A{r:Nat}{a b c:U}(h:Tv r a b)(k:Tv r b c):Tv r a c:=
 ⟨k.os.A h.os,k.tape.A h.tape,k.output.A h.output,zY h.q k.q,λi d e=>(k.block i (ym d h.q) e).A (h.block i d e)⟩
def Tv.of(h:μ w w'):Tv r w w':=⟨h.os,h.tape,h.output,h.q,λk a _=>h.block k a⟩
def Tv.u{B:Nat}(h:Tv r w w')(e:B<=r)(d:B<=w.o.q):Below B w w':=⟨h.os,h.tape,h.output,h.q,λk a=>h.block k η η⟩
def Tv.x{r:Nat}{a w:U}(h:Tv r a w)(o:Nat)(u:O):Tv r a (w.x (ω r o) u):=
 h.A ⟨rfl,rfl,rfl,by simp[U.setCell],λ_ _ d=>Below.heap_setCell _ _ _ _ d⟩
def Tv.drew{r:Nat}{a w:U}(h:Tv r a w):Tv r a w.drew:=⟨h.os,h.tape,h.output,h.q,h.block⟩
def Tv.drewN{r:Nat}{a w:U}(h:Tv r a w)(n:Nat):Tv r a (w.drewN n):=h.A (Tv.of (zI (zn _ _) n))
def Tv.C{r:Nat}{a w:U}(h:Tv r a w)(o:Obj):Tv r a (w.C o):=h.A (Tv.of ((zn _ _).C (zf _) o))
def Tv.setNew{r:Nat}{a w:U}(h:Tv r a w){p:Addr}(f:a.o.q<=p.block)(u:O):Tv r a (w.x p u):=
 ⟨h.os,h.tape,h.output,by simp[U.setCell];exact h.q,λk d e=>(Below.heap_setCell _ _ _ _ η).A (h.block k d e)⟩
abbrev xR:=@Tv.refl
abbrev xN:=@Tv.drewN
abbrev xA:=@Tv.C
abbrev xD:=@Tv.drew
abbrev xS:=@Tv.x
abbrev xT:=@Tv.setNew
def ψ{P:Prop}(h:P:=by repeat'(first|with_reducible(first|apply xR|assumption|apply xN|apply xA|apply xD|apply xS|apply xT)|go_size)):P:=h
def xP{e:TypeId}{a:Nat}(h:w.r base e a v n xs)(x:Tv r w w')
  {c:Array O} {T:TypeId} {f:Nat×Nat} (o:w.o[r]?=Z (.E c T f)) (u:T≠e):w'.r base e a v n xs:=by
 obtain⟨p,k⟩:=h;refine⟨p,?_⟩;rcases k with k|⟨g,d,m,s,y,i,q⟩;exact zh k;refine ze ⟨g,d,m,s,y,?_,q⟩;rw[x.block g (ks.1 i).1 (λj=>by subst j;rw[i] at o;simp at o;exact u o.2.1.z)];exact i
def zr{e:TypeId}{d:Nat}(h:w.r base e d v n xs):∃j a,v=.k j n a:=by
 obtain⟨_,⟨f,i⟩|⟨g,a,k,f,_⟩⟩:=h;exact⟨Y,0,by rw[f,i]⟩;exact⟨_,a,f⟩
def yq{e:TypeId}{d:Nat}(h:w.r base e d v n xs)(y:0<n):
  ∃g a,v=.k (Z (δ g)) n a/\base<=g/\g<w.o.q/\∀j u,xs[j]?=Z u->w.p (ω g j)=Z u:=by
 obtain⟨z,⟨i,A⟩|⟨g,a,s,i,x,k,q,o,p,m⟩⟩:=h;omega;refine⟨g,a,i,x,(ks.1 k).1,λj u f=>?_⟩;unfold U.cell?;rw[k];simp;rw[←m,nf] at f;split at f;simpa using f;simp at f
def Ti(w:U)(b:Nat)(c:Array O)(T:TypeId):Prop:=w.o[b]?=Z (.E c T (0,0))
def Ti.lt{T:TypeId}(h:Ti w b c T):b<w.o.q:=(ks.1 h).1
def Ti.new(w:U)(c:Array O)(T:TypeId):Ti (w.C (.E c T)) w.o.q c T:=by unfold Ti;show(w.o.push _)[w.o.q]?=_;simp
def Ti.u{T:TypeId}(h:Ti w b c T)(a:μ w w'):Ti w' b c T:=by have:=h.lt;unfold Ti at *;rw[a.block b this];exact h
def Ti.but{T:TypeId}(h:Ti w b c T)(d:Tv r w w')(a:b≠r):Ti w' b c T:=by have:=h.lt;unfold Ti at *;rw[d.block b this a];exact h
def Ti.H{T:TypeId}(h:Ti w b c T):(∀o,w.p (ω b o)=c[o]?)/\(∀o,w.frozen? (ω b o)=false):=by
 unfold Ti at h;exact⟨λo=>by unfold U.cell?;rw[h];simp,λo=>by unfold U.frozen?;rw[h];simp⟩
def Ti.e{T:TypeId}(h:Ti w b c T):(∀o,w.p (ω b o)=c[o]?)/\(∀o,w.frozen? (ω b o)=false)/\b<w.o.q:=⟨h.H.1,h.H.2,h.lt⟩
def To(lo:Nat)(w:U)(v:O)(l:κ):Prop:=w.r lo 9 1 v l.j (l.w O.string)
def yo{a:Nat}{e:TypeId}{d:Nat}(h:w.r b e d v n xs)(p:a<=b):w.r a e d v n xs:=by
 obtain⟨k,i⟩:=h;refine⟨k,?_⟩;rcases i with i|⟨g,f,j,o,q,m⟩;exact zh i;exact ze ⟨g,f,j,o,η,m⟩
def To.low{a:Nat}(h:To b w v l)(d:a<=b):To a w v l:=yo h d
def To.nil(w:U):To lo w (ν) []:=xo _ _ _ _
def To.qy(h:To lo w v l):∃d a,v=.k d l.j a:=zr h
def To.u(h:To lo w v l)(a:μ w w'):To lo w' v l:=zy h a
def To.but(h:To lo w v l)(a:Tv r w w'){T:TypeId}{f:Nat×Nat}(e:w.o[r]?=Z (.E c T f))(d:T≠9):To lo w' v l:=by
 exact xP h a e d
structure Rd (w:U) (r:Nat) (wv:O) (l rest:List Tp):Prop where
 box:∃p:Nat,p<=l.j/\rest=l.drop p/\w.o[r]?=Z (.E #[wv,ι p] 185 (0,0))
 words:∃base,w.r base 182 2 wv l.j (kC l)
def Rd.cell{l rest:Δ}(h:Rd w r wv l rest):∃c f,w.o[r]?=Z (.E c 185 f):=by
 obtain⟨p,_,_,a⟩:=h.box;exact⟨_,_,a⟩
def Rd.lt{l rest:Δ}(h:Rd w r wv l rest):r<w.o.q:=by
 obtain⟨p,_,_,a⟩:=h.box;exact(ks.1 a).1
def Rd.u{l rest:Δ}(h:Rd w r wv l rest)(d:μ w w'):Rd w' r wv l rest:=by
 have a:=h.lt;obtain⟨⟨p,e,g,f⟩,b,i⟩:=h;exact⟨⟨p,e,g,by rw[d.block r a];exact f⟩,b,zy i d⟩
def Mj(l:Δ)(p:Nat)(k:Int)(t:ByteArray)(r:Δ)(h:(k,t)::r=l.drop p):(kC l)[p*2]?=Z (ι k)/\(kC l)[p*2+1]?=Z (.d t):=by
 induction l generalizing p with
 |nil=>simp at h
 |cons x l a=>
  rcases p with _|p;simp at h;obtain⟨rfl,_⟩:=h;simp[kC];have:=a p (by simpa using h);simp only[kC,uX] at this ⊢;rw[show(p+1)*2=p*2+1+1 from by omega];simpa using this
def Rd.view{l rest:Δ}(h:Rd w r wv l rest):∃(p:Nat) (d:Option Addr) (cap:Nat),p<=l.j/\rest=l.drop p/\wv=.k d l.j cap ∧
  w.o[r]?=Z (.E #[wv,ι p] 185 (0,0))/\w.p (δ r)=Z wv/\w.p (ω r 1)=Z (ι p)/\(∀o,w.frozen? (ω r o)=false) ∧
  (∀k t i,rest=(k,t)::i->∃g,d=Z (δ g)/\g<w.o.q/\p<l.j/\w.p (ω g (p*2))=Z (ι k)/\w.p (ω g (p*2+1))=Z (.d t)):=by
 obtain⟨⟨p,x,f,e⟩,b,s⟩:=h;obtain⟨d,cap,m⟩:=zr s;refine⟨p,d,cap,x,f,m,e,by unfold U.cell?;rw[e];simp,by unfold U.cell?;rw[e];simp,λo=>by unfold U.frozen?;rw[e];simp,?_⟩;intro k t i j;have A:p<l.j:=by
  rcases gV p l.j with h|h;exact h;rw[uk h] at f;rw[f] at j;cases j
 obtain⟨g,u,a,_,B,q⟩:=yq s η;rw[m] at a;simp at a;obtain⟨z,y⟩:=Mj l p k t i (by rw[←j,f]);exact⟨g,a.1,B,A,q _ _ z,q _ _ y⟩
def Rd.keep{q u:U}{l a rest:Δ}(y:Rd w r wv l a)(h:Rd q r wv l rest)(s:Below w.o.q q u):Rd u r wv l rest:=by
 have k:=y.lt;obtain⟨_,I,_,m⟩:=y;obtain⟨⟨p,D,H,G⟩,b,E,i⟩:=h;refine⟨⟨p,D,H,by rw[s.block r k];exact G⟩,b,E,?_⟩;rcases i with i|⟨g,f,o,e,C,B,A⟩;exact zh i;refine ze ⟨g,f,o,e,C,?_,A⟩;rcases m with⟨d,_⟩|⟨F,z,x,d,_,j,_⟩
 rw[d] at e;cases e;rw[d] at e;simp at e;obtain⟨rfl,rfl⟩:=e;rw[s.block F (ks.1 j).1];exact B
def Tv.onto{a b c:U}(h:Tv r a b)(k:Below a.o.q b c):Tv r a c:=
 ⟨k.os.A h.os,k.tape.A h.tape,k.output.A h.output,zY h.q k.q,λi d e=>(k.block i d).A (h.block i d e)⟩
def Rd.next{l rest:Δ}{p:Nat}(a:w.o[r]?=Z (.E #[wv,ι p] 185 (0,0)))(g:p<l.j)(e:rest=l.drop p)
  (d:∃base,w.r base 182 2 wv l.j (kC l)):Rd (w.x (ω r 1) (ι ((p:Int)+1))) r wv l rest.tail:=by
 refine⟨⟨p+1,g,by rw[e,List.tail_drop],?_⟩,?_⟩;simp[U.setCell,Array.getElem?_modify,a];obtain⟨b,f⟩:=d;exact⟨b,xP f ((Tv.refl r w).x 1 _) a θ⟩
end
section
open Go.Proofs.Tryz Go.RowKit
def A9(k:Int)(w:U):
  Calls prog 199 #[ι k] w λe a=>e=ε (.i (Uo k))/\a=w:=by
 go_enter func199,ntmps199;go_wp2
 all_goals go_ret
 all_goals go_light
 all_goals exact⟨by simp_all [Uo],rfl⟩
def rg(w:U)(r:Nat)(m:O)(l rest:Δ)(h:Rd w r m l rest)(_:l.j<=500):
  Calls prog 179 #[(π r)] w λe n=>e=ε (.agg #[ι (T7 rest),.d (rest.headD (0,ByteArray.empty)).2])/\μ w n:=by
 have o:=h.lt;obtain⟨p,z,i,B,u,rfl,b,d,s,c,j⟩:=h.view;rcases rest with _|⟨x,f⟩
 .have a:p=l.j:=by
   have:=congrArg List.length u;simp at this;omega
  subst a;go_enter func179,ntmps179;go_wp2;go_quiet (fail)
  go_wp2;go_returns
  exact⟨rfl,φ⟩
 obtain⟨k,t⟩:=x;obtain⟨g,rfl,A,a,q,y⟩:=j k t f rfl;go_enter func179,ntmps179;go_wp2;go_quiet (fail)
 go_wp2;go_region
 all_goals go_wp2
 all_goals exact zP (v:=.agg #[ι k,.d t]) (by simp[results,results179,go_sem]) rfl ⟨rfl,φ⟩
def TZ(w:U)(r:Nat)(s:O)(l rest:Δ)(k:Int)(h:Rd w r s l rest)(K:l.j<=500)(B:k≠0):
  Calls prog 143 #[(π r),ι k] w λe y=>e=ε (.i (T7 rest == k))/\Rd y r s l (if T7 rest=k then rest.tail else rest)/\Tv r w y:=by
 have b:=rg w r s l rest h K;by_cases f:T7 rest=k
 .obtain⟨p,P,G,S,I,J,d,A,q,i,L⟩:=h.view;have o:=h.words;have c:=h.lt;rcases rest with _|⟨x,z⟩;exact zC f.z B;obtain⟨u,t⟩:=x;obtain⟨g,_,R,m,C,H⟩:=L u t z rfl;have M:=Th I;subst f;simp only[if_true,beq_self_eq_true,mR];go_enter func143,ntmps143;go_wp2_with (go_at_call 179;(refine b.y ?_;rintro e j ⟨rfl,a⟩;clear b;have N:=a.q;have v:r<j.o.q:=η;have D:=zi a c q;have F:=(a.frozen (p:=(ω r 1)) c).A (i 1)))
  go_ret;refine⟨rfl,?_,?_⟩;obtain⟨E,o⟩:=o;exact(Rd.next (w:=j) (rest:=(u,t)::z) ((a.block r c).A d) m M ⟨E,zy o a⟩).u zO;have Q:=Tv.of (r:=r) a;exact ψ
 rw[za f];have n:(T7 rest == k)=false:=by simpa using f
 rw[n];go_enter func143,ntmps143;go_wp2_with (go_at_call 179;refine b.y ?_;rintro e j ⟨rfl,a⟩;clear b)
 go_ret;exact⟨rfl,h.u (a.C a.q _),Tv.of (a.C a.q _)⟩
def kO(w:U)(r:Nat)(a:O)(l rest:Δ)(k:Int)(h:Rd w r a l rest)(d:l.j<=500)(f:k≠0)(b:T7 rest=k):
  Calls prog 143 #[(π r),ι k] w λe c=>e=ε (.i true)/\Rd c r a l rest.tail/\Tv r w c:=by
 have:=TZ w r a l rest k h d f;rw[zb b,b,beq_self_eq_true] at this;exact this
def nH(w:U)(r:Nat)(a:O)(l rest:Δ)(k:Int)(h:Rd w r a l rest)(d:l.j<=500)(f:k≠0)(b:T7 rest≠k):
  Calls prog 143 #[(π r),ι k] w λe c=>e=ε (.i false)/\Rd c r a l rest/\Tv r w c:=by
 have:=TZ w r a l rest k h d f;rw[za b,show(T7 rest == k)=false by simpa using b] at this;exact this
end
section
open Go.Proofs.Tryz Go.RowKit
variable {lo:Nat}
def SG:(prog.info? 9).w (λi=>(i.zero,i.q,i.bytes))=Z (Z (.d ByteArray.empty),1,16):=χ
def tw(w:U)(r:Nat)(b:O)(l rest:List Tp)(e:Ending)(w':U):Prop:=
 Tv r w w'/\match yw rest with
  |none=>e=ε (.B #[ν,.i false])
  |some (a,c)=>∃v,e=ε (.B #[v,.i true])/\To w.o.q w' v a/\Rd w' r b l c
def DR{w w':U}{r:Nat}{c:O}{l rest:Δ}(h:X (yw rest=Y))(b:Tv r w w'):tw w r c l rest (ε (.B #[ν,.i false])) w':=by
 have a:yw rest=none:=h;unfold tw;rw[a];exact⟨b,rfl⟩
def KM{w w':U}{r:Nat}{a v:O}{l rest r2:Δ}{ts:κ}(h:X (yw rest=Z (ts,r2)))(c:Tv r w w')(hs:To w.o.q w' v ts)(d:Rd w' r a l r2):
  tw w r a l rest (ε (.B #[v,.i true])) w':=by
 have b:yw rest=Z (ts,r2):=h;unfold tw;rw[b];exact⟨c,v,rfl,hs,d⟩
def Ig{α β:Type}(o:Option (List α×β))(a:List α)(x:α):((o.w λz=>(x::z.1,z.2)).w λz=>(a++z.1,z.2))=o.w λz=>((a++[x])++z.1,z.2):=by cases o<;>simp
def In(w:U)(r:Nat)(L:O)(l rest:Δ)(h:Rd w r L l rest)(hl:l.j<=500):
  Calls prog 180 #[(π r)] w λe P=>tw w r L l rest e P:=by
 obtain⟨i0,hi,S,ae,ai⟩:=info_parts SG;have ax:=h.lt;go_enter func180,ntmps180;go_wp2;go_loopg [4,5] (rest.j) (λn v t wr=>∃(f:κ) (c:Δ) (more:Bool),t=.i more/\c.j<=n/\c.j+f.j<=rest.j ∧
   wr.r w.o.q 9 1 v f.j (f.w O.string)/\Rd wr r L l c/\Tv r w wr ∧
   X (more=true->yw rest=(yw c).w λz=>(f++z.1,z.2))/\X (more=false->yw rest=Z (f,c)))
 case atStart=>exact⟨[],rest,true,rfl,zf _,ζ,xo _ _ _ _,h,Tv.refl _ _,(λ_=>ζ),(λh=>by cases h)⟩
 obtain⟨f,c,more,rfl,hn,J,y,q,d,D,M⟩:=hrel;have ap:rest.j<=l.j:=by
  obtain⟨p,_,hp,_⟩:=h.box;rw[hp];simp
 have aw:=d.q;have j:=q.lt;cases more
 .have E:=Th (M rfl);clear D M;go_wp2;go_ret2
  exact KM E d y q
 have b:=rg wr r L l c q hl;rcases c with _|⟨x,i⟩
 .have E:X (yw rest=Y):=by rw[X.out D rfl];simp[yw,X]
  clear D M;have N:Uo 0=false:=rfl;simp only[T7] at b;go_wp2_with (first|(go_at_call 179;refine b.y ?_;rintro e s ⟨rfl,a⟩;clear b;have hz:=a.q)|(go_at_call 199;refine(A9 _ _).y ?_;rintro e P ⟨rfl,rfl⟩))
  go_ret2
  have hB:=d.A (Tv.of a);exact DR E ψ
 obtain⟨k,t⟩:=x;simp only[T7,List.headD_cons] at b;cases N:Uo k
 .have E:X (yw rest=Y):=by rw[X.out D rfl,Ks N];simp[X]
  clear D M;go_wp2_with (first|(go_at_call 179;refine b.y ?_;rintro e s ⟨rfl,a⟩;clear b;have hz:=a.q)|(go_at_call 199;refine(A9 _ _).y ?_;rintro e P ⟨rfl,rfl⟩))
  go_ret2
  have hB:=d.A (Tv.of a);exact DR E ψ
 obtain⟨p,ao,av,hp,hr,K,A,T,ag,Q,hx⟩:=q.view;obtain⟨g,_,hg,ac,aa,aj⟩:=hx k t i rfl;have HR:X ((k,t)::i=l.drop p):=hr;have HW:=Th K;clear hx hr aa aj T K;go_wp2_with (first|(go_at_call 179;refine b.y ?_;rintro e s ⟨rfl,a⟩;clear b;have hz:=a.q;have an:r<s.o.q:=η;have aq:=zi a j ag;have au:=(a.frozen (p:=(ω r 1)) j).A (Q 1);have ah:=a;have I:=Rd.next (w:=s) (rest:=(k,t)::i) ((a.block r j).A A) ac HR ⟨_,zy q.words.choose_spec a⟩;have ak:=xP (zy y a) ((Tv.refl r s).x 1 (ι ((p:Int)+1))) ((a.block r j).A A) θ;have W:=(d.A (Tv.of a)).x 1 (ι ((p:Int)+1));have ar:(s.x (ω r 1) (ι ((p:Int)+1))).o.q=s.o.q:=ζ;clear ah)|(go_at_call 199;refine(A9 _ _).y ?_;rintro e P ⟨rfl,rfl⟩)|(at_builtin;refine gz (s.x (ω r 1) (ι ((p:Int)+1))) _ _ _ rfl (.tmp 21) (.tmp 24) 30 rfl w.o.q 9 i0 _ 1 16 underlying30 hi S ae ai rfl θ _ _ _ rfl ak zO _ _ rfl ζ rfl a_ (by simp at J;omega) η η ?_;intro v' w2 V F ad al af am;clear ad al af;have u:=Rd.keep h I F;have C:=W.onto F;have G:=TZ w2 r L l i 6 u hl θ)|(go_at_call 143;refine G.y ?_;rintro e w3 ⟨rfl,H,m⟩;clear G))
 obtain⟨c3,f3,B⟩:=u.cell;have R:=xP V m B θ;have hP:=X.out D trivial;simp only[xu] at hn J;have ab:(if T7 i=6 then i.tail else i).j<=i.j:=by split<;>simp
 go_roundg i.j
 case measure=>omega
 refine⟨f++[t],(if T7 i=6 then i.tail else i),(T7 i == 6),rfl,ab,by simp;omega,by simpa using R,H,C.A m,?_,?_⟩;intro h6;have o:T7 i=6:=by simpa using h6
 rw[zb o,hP,Ml N o,Ig];intro h6;have o:T7 i≠6:=by simpa using h6
 rw[za o,hP,FZ N o];simp
def Mo(w:U)(r:Nat)(a:O)(l rest:Δ)(h:Rd w r a l rest)(f:l.j<=500)(g:yw rest=Y):
  Calls prog 180 #[(π r)] w λe c=>e=ε (.B #[ν,.i false])/\Tv r w c:=by
 refine(In w r a l rest h f).y ?_;rintro e c ⟨d,b⟩;rw[g] at b;exact⟨b,d⟩
def CL(w:U)(r:Nat)(f:O)(l rest r2:Δ)(ts:κ)(h:Rd w r f l rest)(j:l.j<=500)(k:yw rest=Z (ts,r2)):
  Calls prog 180 #[(π r)] w λe d=>∃v,e=ε (.B #[v,.i true])/\To w.o.q d v ts/\Rd d r f l r2/\Tv r w d:=by
 refine(In w r f l rest h j).y ?_;rintro e d ⟨i,g⟩;rw[k] at g;obtain⟨v,a,b,c⟩:=g;exact⟨v,a,b,c,i⟩
def mZ(o:Option (zj×List Tp))(w:U)(r:Nat)(c:O)(l:List Tp)(e:Ending)(w':U):Prop:=
 Tv r w w'/\match o with
  |none=>e=ε (.B #[.agg #[.i false,.d ByteArray.empty,ν],.i false])
  |some (a,d)=>∃b,e=ε (.B #[.agg #[.i a.i,.d a.o,b],.i true])/\To w.o.q w' b a.k/\Rd w' r c l d
def Qq(w:U)(r:Nat)(d:O)(l rest:Δ)(h:Rd w r d l rest)(m:l.j<=500)(t:(T7 rest == 1)=false):
  Calls prog 142 #[(π r)] w λe q=>mZ Y w r d l e q:=by
 have p:=h.lt;have k:w.o.q≠r:=η;go_enter func142,ntmps142;go_wp2_with (first|(go_at_call 179;refine(rg _ r d l rest (by exact h.u γ) m).y ?_;rintro e o ⟨rfl,b⟩;have c:=Tl zO b;have i:=(Ti.new w _ _).u b;have f:=h.u c)|(go_at_call 143;refine(TZ _ r d l rest 1 (by exact f.u γ) m θ).y ?_;rintro e u ⟨rfl,n,a⟩;have g:=(i.u zO).but a k;obtain⟨j,s⟩:=g.H))
 have x:=(Tv.of c).A (((Tv.refl r o).C _).A a);exact zP (v:=.B #[.agg #[.i false,.d ByteArray.empty,ν],.i false]) (by simp[results,results142,go_sem,j];rfl) rfl ⟨ψ,rfl⟩
def RK(w:U)(r:Nat)(g:O)(l rest:Δ)(h:Rd w r g l rest)(E:l.j<=500)(L:T7 rest=1)(h4:T7 rest.tail≠4):
  Calls prog 142 #[(π r)] w λe F=>mZ (Z (⟨false,(rest.headD (0,ByteArray.empty)).2,[]⟩,rest.tail)) w r g l e F:=by
 have ac:=h.lt;have q:w.o.q≠r:=η;generalize P:(rest.headD (0,ByteArray.empty)).2=t;have HT:=Th P;have H1:=Th L;have D:X (∀W,Rd W r g l rest->Calls prog 179 #[(π r)] W λe F=>e=ε (.agg #[ι 1,.d t])/\μ W F):=λW hW=>by
  have:=rg W r g l rest hW E;rw[L,X.out HT] at this;exact this
 have Q:=Th h4;go_enter func142,ntmps142;go_wp2_with (first|(go_at_call 179;refine(X.out D _ (by exact h.u γ)).y ?_;rintro e u ⟨rfl,m⟩;have o:=Tl zO m;have j:=(Ti.new w _ _).u m;have T:=j.lt;have x:=h.u o;have K:r<u.o.q:=η;have c:u.o.q≠r:=η)|(go_at_call 143;have i:=s;refine(nH _ r g l rest.tail 4 i E θ Q).y ?_;rintro e w3 ⟨rfl,n,a⟩;have p:=d.but a q;have k:=f.but a c;clear B G C y;obtain⟨z,aa⟩:=p.H;obtain⟨N,S⟩:=k.H;have V:=p.lt;have H:=k.lt;have I:=n.lt;have R:=A.A a;clear i)|(go_at_call 143;have i:=x;refine(kO _ r g l rest 1 (by exact i.u γ) E θ H1).y ?_;rintro e w2 ⟨rfl,s,b⟩;have d:=(j.u zO).but b q;have f:=(Ti.new u _ _).but b c;obtain⟨B,G⟩:=d.H;obtain⟨C,y⟩:=f.H;have ab:=d.lt;have M:=f.lt;have J:=s.lt;have A:=(Tv.of o).A (((Tv.refl r u).C _).A b);clear i))
 exact zP (v:=.B #[.agg #[.i false,.d t,ν],.i true]) (by simp[results,results142,go_sem,z]) rfl ⟨ψ,_,rfl,To.nil _,h.keep n γ⟩
def KB(w:U)(r:Nat)(m:O)(l rest:Δ)(h:Rd w r m l rest)(A:l.j<=500)(h1:T7 rest=1)(h4:T7 rest.tail=4)(h5:yw rest.tail.tail=Y):
  Calls prog 142 #[(π r)] w λe N=>mZ Y w r m l e N:=by
 have aj:=h.lt;have k:w.o.q≠r:=η;obtain⟨t,HT⟩:∃t,X ((rest.headD (0,ByteArray.empty)).2=t):=⟨_,rfl⟩;have H1:=Th h1;have L:X (∀W,Rd W r m l rest->Calls prog 179 #[(π r)] W λe N=>e=ε (.agg #[ι 1,.d t])/\μ W N):=λW hW=>by
  have:=rg W r m l rest hW A;rw[h1,X.out HT] at this;exact this
 have H4:=Th h4;have H5:=Th h5;go_enter func142,ntmps142;go_wp2_with (first|(go_at_call 179;refine(X.out L _ (by exact h.u γ)).y ?_;rintro e z ⟨rfl,q⟩;have x:=Tl zO q;have p:=(Ti.new w _ _).u q;have af:=p.lt;have B:=h.u x;have V:r<z.o.q:=η;have d:z.o.q≠r:=η)|(go_at_call 180;refine(Mo _ r m l rest.tail.tail u A H5).y ?_;rintro e w4 ⟨rfl,a⟩;have n:=j.but a k;have s:=g.but a d;clear E K C H;obtain⟨M,ai⟩:=n.H;obtain⟨ad,ab⟩:=s.H;have ac:=n.lt;have Q:=s.lt;have ae:=F.A a)|(go_at_call 143;have o:=y;refine(kO _ r m l rest.tail 4 o A θ H4).y ?_;rintro e w3 ⟨rfl,u,b⟩;have j:=f.but b k;have g:=i.but b d;clear I P J D;obtain⟨E,K⟩:=j.H;obtain⟨C,H⟩:=g.H;have ag:=j.lt;have R:=g.lt;have S:=u.lt;have F:=G.A b;clear o)|(go_at_call 143;have o:=B;refine(kO _ r m l rest 1 (by exact o.u γ) A θ H1).y ?_;rintro e w2 ⟨rfl,y,c⟩;have f:=(p.u zO).but c k;have i:=(Ti.new z _ _).but c d;obtain⟨I,P⟩:=f.H;obtain⟨J,D⟩:=i.H;have ah:=f.lt;have aa:=i.lt;have T:=y.lt;have G:=(Tv.of x).A (((Tv.refl r z).C _).A c);clear o))
 exact zP (v:=.B #[.agg #[.i false,.d ByteArray.empty,ν],.i false]) (by simp[results,results142,go_sem,M];rfl) rfl ⟨ψ,rfl⟩
def K9(w:U)(r:Nat)(i:O)(l rest r2:Δ)(ts:κ)(h:Rd w r i l rest)(D:l.j<=500)(h1:T7 rest=1)(h4:T7 rest.tail=4)(h5:yw rest.tail.tail=Z (ts,r2))(h6:T7 r2≠5):
  Calls prog 142 #[(π r)] w λe w'=>mZ Y w r i l e w':=by
 have ax:=h.lt;have g:w.o.q≠r:=η;obtain⟨t,HT⟩:∃t,X ((rest.headD (0,ByteArray.empty)).2=t):=⟨_,rfl⟩;have H1:=Th h1;have K:X (∀W,Rd W r i l rest->Calls prog 179 #[(π r)] W λe w'=>e=ε (.agg #[ι 1,.d t])/\μ W w'):=λW hW=>by
  have:=rg W r i l rest hW D;rw[h1,X.out HT] at this;exact this
 have H4:=Th h4;have H5:=Th h5;have H6:=Th h6;go_enter func142,ntmps142;go_wp2_with (first|(go_at_call 179;refine(X.out K _ (by exact h.u γ)).y ?_;rintro e F ⟨rfl,z⟩;have y:=Tl zO z;have u:=(Ti.new w _ _).u z;have a0:=u.lt;have L:=h.u y;have am:r<F.o.q:=η;have f:F.o.q≠r:=η)|(go_at_call 180;refine(CL _ r i l rest.tail.tail r2 ts B D H5).y ?_;rintro e w4 ⟨va,rfl,A,s,c⟩;obtain⟨ao,cp,rfl⟩:=A.qy;have m:=q.but c g;have p:=o.but c f;clear I ac Q P;obtain⟨ae,ad⟩:=m.H;obtain⟨V,R⟩:=p.H;have ay:=m.lt;have ai:=p.lt;have al:=s.lt;have N:=M.A c)|(go_at_call 143;have j:=s;refine(nH _ r i l r2 5 j D θ H6).y ?_;rintro e w5 ⟨rfl,G,a⟩;have x:=m.but a g;have E:=p.but a f;clear ae ad V R;obtain⟨ab,ap⟩:=x.H;obtain⟨az,aq⟩:=E.H;have av:=x.lt;have aj:=E.lt;have ag:=G.lt;have au:=N.A a;clear j)|(go_at_call 143;have j:=C;refine(kO _ r i l rest.tail 4 j D θ H4).y ?_;rintro e w3 ⟨rfl,B,b⟩;have q:=n.but b g;have o:=k.but b f;clear J T S H;obtain⟨I,ac⟩:=q.H;obtain⟨Q,P⟩:=o.H;have ar:=q.lt;have af:=o.lt;have ah:=B.lt;have M:=aa.A b;clear j)|(go_at_call 143;have j:=L;refine(kO _ r i l rest 1 (by exact j.u γ) D θ H1).y ?_;rintro e w2 ⟨rfl,C,d⟩;have n:=(u.u zO).but d g;have k:=(Ti.new F _ _).but d f;obtain⟨J,T⟩:=n.H;obtain⟨S,H⟩:=k.H;have aw:=n.lt;have an:=k.lt;have ak:=C.lt;have aa:=(Tv.of y).A (((Tv.refl r F).C _).A d);clear j))
 exact zP (v:=.B #[.agg #[.i false,.d ByteArray.empty,ν],.i false]) (by simp[results,results142,go_sem,ab];rfl) rfl ⟨ψ,rfl⟩
def LC(w:U)(r:Nat)(j:O)(l rest r2:Δ)(ts:κ)(h:Rd w r j l rest)(F:l.j<=500)(h1:T7 rest=1)(h4:T7 rest.tail=4)(h5:yw rest.tail.tail=Z (ts,r2))(h6:T7 r2=5):
  Calls prog 142 #[(π r)] w λe w'=>mZ (Z (⟨false,(rest.headD (0,ByteArray.empty)).2,ts⟩,r2.tail)) w r j l e w':=by
 have az:=h.lt;have g:w.o.q≠r:=η;generalize ht:(rest.headD (0,ByteArray.empty)).2=t;have HT:=Th ht;have H1:=Th h1;have M:X (∀W,Rd W r j l rest->Calls prog 179 #[(π r)] W λe w'=>e=ε (.agg #[ι 1,.d t])/\μ W w'):=λW hW=>by
  have:=rg W r j l rest hW F;rw[h1,X.out HT] at this;exact this
 have H4:=Th h4;have H5:=Th h5;have H6:=Th h6;go_enter func142,ntmps142;go_wp2_with (first|(go_at_call 179;refine(X.out M _ (by exact h.u γ)).y ?_;rintro e H ⟨rfl,C⟩;have A:=Tl zO C;have y:=(Ti.new w _ _).u C;have a2:=y.lt;have N:=h.u A;have ap:r<H.o.q:=η;have f:H.o.q≠r:=η)|(go_at_call 180;refine(CL _ r j l rest.tail.tail r2 ts D F H5).y ?_;rintro e w4 ⟨va,rfl,i,m,c⟩;obtain⟨ao,cp,rfl⟩:=i.qy;have p:=x.but c g;have u:=s.but c f;clear K ae R Q;obtain⟨ag,af⟩:=p.H;obtain⟨ab,S⟩:=u.H;have a0:=p.lt;have ak:=u.lt;have an:=m.lt;have P:=B.A c)|(go_at_call 143;have k:=m;refine(kO _ r j l r2 5 k F θ H6).y ?_;rintro e w5 ⟨rfl,z,a⟩;have o:=p.but a g;have G:=u.but a f;clear ag af ab S;obtain⟨ad,ar⟩:=o.H;obtain⟨a1,au⟩:=G.H;have ax:=o.lt;have al:=G.lt;have ai:=z.lt;have aw:=P.A a;clear k)|(go_at_call 143;have k:=E;refine(kO _ r j l rest.tail 4 k F θ H4).y ?_;rintro e w3 ⟨rfl,D,b⟩;have x:=q.but b g;have s:=n.but b f;clear L aa V J;obtain⟨K,ae⟩:=x.H;obtain⟨R,Q⟩:=s.H;have av:=x.lt;have ah:=s.lt;have aj:=D.lt;have B:=ac.A b;clear k)|(go_at_call 143;have k:=N;refine(kO _ r j l rest 1 (by exact k.u γ) F θ H1).y ?_;rintro e w2 ⟨rfl,E,d⟩;have q:=(y.u zO).but d g;have n:=(Ti.new H _ _).but d f;obtain⟨L,aa⟩:=q.H;obtain⟨V,J⟩:=n.H;have ay:=q.lt;have aq:=n.lt;have am:=E.lt;have ac:=(Tv.of A).A (((Tv.refl r H).C _).A d);clear k))
 obtain⟨c4,f4,I⟩:=m.cell;have T:=i.but a I θ;exact zP (v:=.B #[.agg #[.i false,.d t,.k ao ts.j cp],.i true]) (by simp[results,results142,go_sem,ad]) rfl ⟨ψ,_,rfl,(T.low B.q).but (r:=w.o.q) ψ o θ,h.keep z γ⟩
def Ei(w:U)(r:Nat)(a:O)(l rest:Δ)(h:Rd w r a l rest)(c:l.j<=500):
  Calls prog 142 #[(π r)] w λe k=>mZ (xx rest) w r a l e k:=by
 unfold xx;split;rename_i b;split;rename_i d;split;rename_i f;exact KB w r a l rest h c b d f;rename_i i j f;split;rename_i g;exact LC w r a l rest j i h c b d f g;rename_i g;exact K9 w r a l rest j i h c b d f g;rename_i d;exact RK w r a l rest h c b d;rename_i b;exact Qq w r a l rest h c (by simpa using b)
def Dj(w:U)(r:Nat)(a:O)(l rest:Δ)(h:Rd w r a l rest)(f:l.j<=500)(g:xx rest=Y):
  Calls prog 142 #[(π r)] w λe c=>e=ε (.B #[.agg #[.i false,.d ByteArray.empty,ν],.i false])/\Tv r w c:=by
 refine(Ei w r a l rest h f).y ?_;rintro e c ⟨d,b⟩;rw[g] at b;exact⟨b,d⟩
def r8(w:U)(r:Nat)(f:O)(l rest r2:Δ)(a:zj)(h:Rd w r f l rest)(k:l.j<=500)(m:xx rest=Z (a,r2)):
  Calls prog 142 #[(π r)] w λe d=>∃g,e=ε (.B #[.agg #[.i a.i,.d a.o,g],.i true])/\To w.o.q d g a.k/\Rd d r f l r2/\Tv r w d:=by
 refine(Ei w r f l rest h k).y ?_;rintro e d ⟨j,i⟩;rw[m] at i;obtain⟨v,a,b,c⟩:=i;exact⟨v,a,b,c,j⟩
def GV(b:Bool)(w:U)(r:Nat)(f:O)(l rest a:Δ)(h:Rd w r f l rest)(A:l.j<=500)
  (k:∀W,Rd W r f l rest->Calls prog 143 #[(π r),ι 8] W λe g=>e=ε (.i b)/\Rd g r f l a/\Tv r W g) (t:xx a=Y):
  Calls prog 181 #[(π r)] w λe g=>mZ Y w r f l e g:=by
 have B:=h.lt;have m:w.o.q≠r:=η;have o:X (∀W,Rd W r f l rest->Calls prog 143 #[(π r),ι 8] W λe g=>e=ε (.i b)/\Rd g r f l a/\Tv r W g):=k;clear k;have x:X (xx a=Y):=t;clear t;go_enter func181,ntmps181;go_wp2_with (first|(go_at_call 143;refine(X.out o _ (by exact h.u γ)).y ?_;rintro e D ⟨rfl,i,c⟩;have j:=(Ti.new w _ _).but c m;have z:=j.lt;have u:=i.lt;have q:=((Tv.refl r w).C _).A c)|(go_at_call 142;refine(Dj _ r f l a i A x).y ?_;rintro e E ⟨rfl,d⟩;have n:=j.but d m;obtain⟨p,C,s⟩:=n.e;have y:=q.A d))
 exact zP (v:=.B #[.agg #[.i false,.d ByteArray.empty,ν],.i false]) (by simp[results,results181,go_sem,p,s];rfl) rfl ⟨ψ,rfl⟩
def Db(b:Bool)(w:U)(r:Nat)(i:O)(l rest c r2:Δ)(a:zj)(h:Rd w r i l rest)(F:l.j<=500)
  (o:∀W,Rd W r i l rest->Calls prog 143 #[(π r),ι 8] W λe j=>e=ε (.i b)/\Rd j r i l c/\Tv r W j) (y:xx c=Z (a,r2)):
  Calls prog 181 #[(π r)] w λe j=>mZ (Z ({a with i:=b},r2)) w r i l e j:=by
 have G:=h.lt;have q:w.o.q≠r:=η;have s:X (∀W,Rd W r i l rest->Calls prog 143 #[(π r),ι 8] W λe j=>e=ε (.i b)/\Rd j r i l c/\Tv r W j):=o;clear o;have A:X (xx c=Z (a,r2)):=y;clear y;go_enter func181,ntmps181;go_wp2_with (first|(go_at_call 143;refine(X.out s _ (by exact h.u γ)).y ?_;rintro e J ⟨rfl,k,d⟩;have m:=(Ti.new w _ _).but d q;have C:=m.lt;have z:=k.lt;have p:=((Tv.refl r w).C _).A d)|(go_at_call 142;refine(r8 _ r i l c r2 a k F A).y ?_;rintro e K ⟨I,rfl,g,x,f⟩;obtain⟨D,E,rfl⟩:=g.qy;have n:=m.but f q;obtain⟨t,H,u⟩:=n.e;have B:=p.A f))
 exact zP (v:=.B #[.agg #[.i b,.d a.o,.k D a.k.j E],.i true]) (by simp[results,results181,go_sem,t,u]) rfl ⟨ψ,_,rfl,(g.low p.q).but (r:=w.o.q) ψ n θ,h.keep x γ⟩
def Lw{rest r2:Δ}{a:zj}(h:xx rest=Z (a,r2)):a.i=false:=by
 unfold xx at h
 (repeat' split at h)<;>first|(cases h;done)|(simp at h;obtain⟨rfl,_⟩:=h;rfl)
def DZ(w:U)(r:Nat)(b:O)(l rest:Δ)(h:Rd w r b l rest)(c:l.j<=500):
  Calls prog 181 #[(π r)] w λe j=>mZ (uU rest) w r b l e j:=by
 unfold uU;split;rename_i g;rcases f:xx rest.tail with _|z;exact GV true w r b l rest rest.tail h c (λW d=>kO W r b l rest 8 d c θ g) f;obtain⟨a,i⟩:=z;exact Db true w r b l rest rest.tail i a h c (λW d=>kO W r b l rest 8 d c θ g) f;rename_i g;rcases f:xx rest with _|z;exact GV false w r b l rest rest h c (λW d=>nH W r b l rest 8 d c θ g) f;obtain⟨a,i⟩:=z;have:=Db false w r b l rest rest i a h c (λW d=>nH W r b l rest 8 d c θ g) f;rwa [show({a with i:=false}:zj)=a by rw[←Lw f]] at this
end
section
open Go.Proofs.Tryz Go.RowKit
variable {lo:Nat}{v:O}{n:Nat}{w:U}{r r2:List Tp}{o:Option (List zj×List Tp)}
def gR{d C:U}{b D:Nat}{e x:TypeId}{s A:Nat}{y:O}{E:Nat}{xs c:Γ}(G:d.r b e s v n xs)(m:e≠x)(h:d.r D x A y E c)
  (H:∀k,k<d.o.q->Z k≠v.m->C.o[k]?=d.o[k]?):C.r D x A y E c:=by
 obtain⟨J,q⟩:=h;refine⟨J,?_⟩;rcases q with q|⟨g,j,u,f,I,i,F⟩;exact zh q;refine ze ⟨g,j,u,f,I,?_,F⟩;rw[H g (ks.1 i).1 ?_];exact i;intro t;obtain⟨_,⟨p,_⟩|⟨K,B,z,l,_,a,_⟩⟩:=G;subst p;cases t;subst l;simp only[O.ownBlock,zt] at t;subst t;rw[i] at a;simp at a;exact m a.2.z
def uZ(lo:Nat)(w:U):List zj->List O->Prop
 |[],b=>b=[]
 |a::d,b=>∃c r,b=.i a.i::.d a.o::c::r/\To lo w c a.k/\uZ lo w d r
def uZ.snoc{w:U}{a:zj}{b:O}(hs:To lo w b a.k):∀{c:Ω} {xs:Γ},uZ lo w c xs->uZ lo w (c++[a]) (xs++[.i a.i,.d a.o,b])
 |[],_,h=>by simp only[uZ] at h;subst h;exact⟨b,[],rfl,hs,rfl⟩
 |_::c,_,h=>by obtain⟨v,r,rfl,d,e⟩:=h;exact⟨v,r++[.i a.i,.d a.o,b],rfl,d,uZ.snoc hs e⟩
def uZ.y{w w':U}(b:∀c l,To lo w c l->To lo w' c l):∀{a:Ω} {xs:Γ},uZ lo w a xs->uZ lo w' a xs
 |[],_,h=>h
 |_::a,_,h=>by obtain⟨v,r,rfl,d,e⟩:=h;exact⟨v,r,rfl,b _ _ d,uZ.y b e⟩
def uZ.at{w:U}:∀{d:Ω} {xs:Γ} (i:Nat) (a:zj),uZ lo w d xs->d[i]?=Z a->∃c,xs[i*3]?=Z (.i a.i)/\xs[i*3+1]?=Z (.d a.o)/\xs[i*3+2]?=Z c/\To lo w c a.k
 |[],_,i,a,_,b=>by simp at b
 |_::d,_,0,a,h,b=>by obtain⟨v,r,rfl,e,f⟩:=h;simp at b;subst b;exact⟨v,rfl,rfl,rfl,e⟩
 |_::d,_,i+1,a,h,b=>by
  obtain⟨v,r,rfl,e,f⟩:=h;obtain⟨c,k,g,j,l⟩:=uZ.at i a f (by simpa using b);refine⟨c,?_,?_,?_,l⟩
  .rw[show(i+1)*3=i*3+1+1+1 from by omega];simpa using k
  .rw[show(i+1)*3+1=i*3+1+1+1+1 from by omega];simpa using g
  .rw[show(i+1)*3+2=i*3+2+1+1+1 from by omega];simpa using j
def TN(lo:Nat)(w:U)(v:O)(b:List zj):Prop:=∃a,w.r lo 90 3 v b.j a/\uZ lo w b a
def uZ.low{a b:Nat}{w:U}(c:a<=b):∀{d:Ω} {xs:Γ},uZ b w d xs->uZ a w d xs
 |[],_,h=>h
 |_::d,_,h=>by obtain⟨v,r,rfl,e,f⟩:=h;exact⟨v,r,rfl,e.low c,uZ.low c f⟩
def TN.low{a b:Nat}{w:U}{v:O}{l:Ω}(h:TN b w v l)(c:a<=b):TN a w v l:=by obtain⟨e,h,d⟩:=h;exact⟨e,yo h c,d.low c⟩
def TN.nil(w:U):TN lo w (ν) []:=⟨[],xo _ _ _ _,rfl⟩
def TN.qy{l:Ω}(h:TN lo w v l):∃b a,v=.k b l.j a:=by obtain⟨c,h,_⟩:=h;exact zr h
def TN.u{w w':U}{v:O}{l:Ω}(h:TN lo w v l)(a:μ w w'):TN lo w' v l:=by
 obtain⟨c,h,b⟩:=h;exact⟨c,zy h a,b.y λ_ _ k=>k.u a⟩
def TN.but{r:Nat}{w w':U}{v:O}{l:Ω}(h:TN lo w v l)(b:Tv r w w'){c:Array O}{T:TypeId}{f:Nat×Nat}(d:w.o[r]?=Z (.E c T f))(g:T≠9)(a:T≠90):TN lo w' v l:=by
 obtain⟨e,h,i⟩:=h;exact⟨e,xP h b d a,i.y λ_ _ k=>k.but b d g⟩
def uh:Nat->List Tp->Option (List zj×List Tp)
 |0,_=>Y
 |n+1,r=>match uU r with
  |none=>Y
  |some (a,r2)=>if T7 r2=6 then(uh n r2.tail).w λz=>(a::z.1,z.2) else Z ([a],r2)
def sY(h:uU r=Y):uh (n+1) r=none:=by simp[uh,h]
def s6{a:zj}(h:uU r=Z (a,r2))(b:T7 r2=6):uh (n+1) r=(uh n r2.tail).w λz=>(a::z.1,z.2):=by simp[uh,h,b]
def rB{a:zj}(h:uU r=Z (a,r2))(b:T7 r2≠6):uh (n+1) r=Z ([a],r2):=by simp[uh,h,b]
def Hh:∀(r:Δ) {ts:κ} {r2:Δ},yw r=Z (ts,r2)->r2.j<r.j
 |[],_,_,h=>by simp[yw] at h
 |[x],ts,r2,h=>by
  simp only[yw] at h;split at h<;>simp at h
  obtain⟨_,rfl⟩:=h;simp
 |x::y::r,ts,r2,h=>by
  simp only[yw] at h;split at h
  .split at h
   .cases a:yw r with
    |none=>rw[a] at h;simp at h
    |some z=>
     obtain⟨b,c⟩:=z;rw[a] at h;simp at h;have:=Hh r a;obtain⟨_,rfl⟩:=h;simp;omega
   .simp at h;obtain⟨_,rfl⟩:=h;simp
  .simp at h
def eI{a:zj}(h:xx r=Z (a,r2)):r2.j<r.j:=by
 rcases r with _|⟨x,r⟩;simp[xx,T7] at h;unfold xx at h;split at h;split at h;split at h;simp at h;rename_i c d b;have:=Hh _ b;split at h<;>simp at h
 obtain⟨_,rfl⟩:=h;simp at this ⊢;omega;simp at h;obtain⟨_,rfl⟩:=h;simp;simp at h
def C0{a:zj}(h:uU r=Z (a,r2)):r2.j<r.j:=by
 unfold uU at h;split at h;rcases b:xx r.tail with _|z;rw[b] at h;simp at h;obtain⟨d,c⟩:=z;rw[b] at h;simp at h;have:=eI b;obtain⟨_,rfl⟩:=h;simp at this;omega;exact eI h
def NZ(w:U)(r:Nat)(a:O)(l rest:Δ)(h:Rd w r a l rest)(f:l.j<=500)(g:uU rest=Y):
  Calls prog 181 #[(π r)] w λe c=>e=ε (.B #[.agg #[.i false,.d ByteArray.empty,ν],.i false])/\Tv r w c:=by
 refine(DZ w r a l rest h f).y ?_;rintro e c ⟨d,b⟩;rw[g] at b;exact⟨b,d⟩
def Kj(w:U)(r:Nat)(f:O)(l rest r2:Δ)(a:zj)(h:Rd w r f l rest)(k:l.j<=500)(m:uU rest=Z (a,r2)):
  Calls prog 181 #[(π r)] w λe d=>∃g,e=ε (.B #[.agg #[.i a.i,.d a.o,g],.i true])/\To w.o.q d g a.k/\Rd d r f l r2/\Tv r w d:=by
 refine(DZ w r f l rest h k).y ?_;rintro e d ⟨j,i⟩;rw[m] at i;obtain⟨v,a,b,c⟩:=i;exact⟨v,a,b,c,j⟩
def S9:(prog.info? 90).w (λi=>(i.zero,i.q,i.bytes))=Z (Z (.agg #[.i false,.d ByteArray.empty,ν]),3,48):=χ
def Bh(o:Option (List zj×List Tp))(w:U)(r:Nat)(a:O)(l:List Tp)(e:Ending)(w':U):Prop:=
 Tv r w w'/\match o with
  |none=>e=ε (.B #[ν,.i false])
  |some (b,r2)=>∃v,e=ε (.B #[v,.i true])/\TN w.o.q w' v b/\Rd w' r a l r2
def Ng{w':U}{r:Nat}{c:O}{l:Δ}(h:X (o=Y))(b:Tv r w w'):Bh o w r c l (ε (.B #[ν,.i false])) w':=by
 have a:o=none:=h;subst a;exact⟨b,rfl⟩
def Iu{w':U}{r:Nat}{b:O}{l:Δ}{a:Ω}(h:X (o=Z (a,r2)))(d:Tv r w w')(hs:TN w.o.q w' v a)(e:Rd w' r b l r2):
  Bh o w r b l (ε (.B #[v,.i true])) w':=by
 have c:o=Z (a,r2):=h;subst c;exact⟨d,v,rfl,hs,e⟩
def H8(w:U)(r:Nat)(H:O)(l rest:Δ)(h:Rd w r H l rest)(hl:l.j<=500)(G:Nat)(ak:rest.j<G):
  Calls prog 144 #[(π r)] w λe w'=>Bh (uh G rest) w r H l e w':=by
 obtain⟨i0,hi,aa,ad,aj⟩:=info_parts S9;have ar:=h.lt;go_enter func144,ntmps144;go_wp2;go_loopg [4,5] (rest.j) (λn v t wr=>∃(g:Ω) (b:Δ) (more:Bool) (m:Nat) (xs:Γ),t=.i more/\b.j<=n/\b.j<m/\b.j+g.j<=rest.j ∧
   wr.r w.o.q 90 3 v g.j xs/\uZ w.o.q wr g xs/\Rd wr r H l b/\Tv r w wr ∧
   X (more=true->uh G rest=(uh m b).w λz=>(g++z.1,z.2))/\X (more=false->uh G rest=Z (g,b)))
 case atStart=>exact⟨[],rest,true,G,[],rfl,zf _,ak,ζ,xo _ _ _ _,rfl,h,Tv.refl _ _,(λ_=>ζ),(λh=>by cases h)⟩
 obtain⟨g,b,more,m,xs,rfl,hn,hm,aq,B,R,u,j,M,S⟩:=hrel;have an:rest.j<=l.j:=by
  obtain⟨p,_,hp,_⟩:=h.box;rw[hp];simp
 have ai:=j.q;obtain⟨c0,f0,i⟩:=u.cell;cases more
 .have E:=Th (S rfl);clear M S;go_wp2;go_ret2
  exact Iu E j ⟨_,B,R⟩ u
 obtain⟨m,rfl⟩:∃m',m=m'+1:=⟨m-1,η⟩;have HC:=Th i;rcases F:uU b with _|z
 .have E:X (uh G rest=Y):=by rw[X.out M rfl,sY F];simp[X]
  have T:=Th F;clear M S F;go_wp2_with (go_at_call 181;refine(NZ _ r H l b u hl T).y ?_;rintro e w1 ⟨rfl,c⟩;have s:=j.A c;have ah:=s.q)
  go_ret2
  exact Ng E ψ
 obtain⟨a,r2⟩:=z;have T:=Th F;have ap:=C0 F;have E:=Th (M rfl);clear M S F;go_wp2_with (first|(go_at_call 181;refine(Kj _ r H l b r2 a u hl T).y ?_;rintro e w1 ⟨va,rfl,x,V,c⟩;obtain⟨ao,cp,rfl⟩:=x.qy;have s:=j.A c;have ah:=s.q;have C:=xP B c i θ;have Q:=R.y λ_ _ k=>k.but c i θ)|(at_builtin;refine gz w1 _ _ _ rfl (.tmp 16) (.tmp 18) 91 rfl w.o.q 90 i0 _ 3 48 underlying91 hi aa ad aj rfl θ _ _ _ rfl C zO _ _ rfl ζ rfl a_ η η η ?_;intro v' w2 ab I af al K am;clear af al;have y:=Rd.keep h V I;have D:=s.onto I;have ac:To w.o.q w2 (O.slice ao a.k.j cp) a.k:=yo (gR C θ x K) ai;have N:=Q.y λ_ _ k=>gR C θ k K;have J:=TZ w2 r H l r2 6 y hl θ)|(go_at_call 143;refine J.y ?_;rintro e w3 ⟨rfl,L,d⟩;clear J))
 obtain⟨c3,f3,f⟩:=y.cell;have W:=xP ab d f θ;have ag:=ac.but d f θ;have P:=N.y λ_ _ k=>k.but d f θ;have ae:(if T7 r2=6 then r2.tail else r2).j<=r2.j:=by split<;>simp
 have A:uU b=Z (a,r2):=T;go_roundg r2.j
 case measure=>omega
 refine⟨g++[a],(if T7 r2=6 then r2.tail else r2),(T7 r2 == 6),m,_,rfl,ae,η,by simp;omega,by rw[yK];exact W,P.snoc ag,L,D.A d,?_,?_⟩;intro h6;have q:T7 r2=6:=by simpa using h6
 rw[zb q,X.out E,s6 A q,Ig];intro h6;have q:T7 r2≠6:=by simpa using h6
 rw[za q,X.out E,rB A q];simp
end
section
open Go.Proofs.Tryz Go.RowKit
variable {lo:Nat}
def vH(n:Nat)(r:List Tp):Option (zc×List Tp):=
 match xx r with
 |none=>Y
 |some (a,c)=>
  if T7 c=9 then
   match uh n c.tail with
   |none=>Y
   |some (b,d)=>if T7 d=7 then Z (⟨a,b⟩,d.tail) else Y
  else if T7 c=7 then Z (⟨a,[]⟩,c.tail) else Y
def QE(w:U)(r:Nat)(c:O)(l rest:Δ)(h:Rd w r c l rest)(i:l.j<=500)(b:Nat)(a:rest.j<b)(j:uh b rest=Y):
  Calls prog 144 #[(π r)] w λe f=>e=ε (.B #[ν,.i false])/\Tv r w f:=by
 refine(H8 w r c l rest h i b a).y ?_;rintro e f ⟨g,d⟩;rw[j] at d;exact⟨d,g⟩
def FB(w:U)(r:Nat)(f:O)(l rest r2:Δ)(b:Ω)(h:Rd w r f l rest)(m:l.j<=500)(i:Nat)(g:rest.j<i)(n:uh i rest=Z (b,r2)):
  Calls prog 144 #[(π r)] w λe d=>∃v,e=ε (.B #[v,.i true])/\TN w.o.q d v b/\Rd d r f l r2/\Tv r w d:=by
 refine(H8 w r f l rest h m i g).y ?_;rintro e d ⟨k,j⟩;rw[n] at j;obtain⟨v,a,b,c⟩:=j;exact⟨v,a,b,c,k⟩
def ru(o:Option (zc×List Tp))(w:U)(r:Nat)(d:O)(l:List Tp)(e:Ending)(w':U):Prop:=
 Tv r w w'/\match o with
  |none=>e=ε (.B #[.agg #[.i false,.d ByteArray.empty,ν,ν],.i false])
  |some (c,f)=>∃a b,e=ε (.B #[.agg #[.i c.g.i,.d c.g.o,a,b],.i true])/\To w.o.q w' a c.g.k/\TN w.o.q w' b c.d/\Rd w' r d l f
def Px(w:U)(r:Nat)(d:O)(l rest:Δ)(h:Rd w r d l rest)(i:l.j<=500)(o:xx rest=Y):
  Calls prog 100 #[(π r)] w λe p=>ru Y w r d l e p:=by
 have k:=h.lt;have g:w.o.q≠r:=η;have j:=Th o;go_enter func100,ntmps100;go_wp2_with (go_at_call 142;refine(Dj _ r d l rest (by exact h.u γ) i j).y ?_;rintro e q ⟨rfl,a⟩;have c:=(Ti.new w _ _).but a g;obtain⟨f,m,b⟩:=c.e;have n:=((Tv.refl r w).C _).A a)
 exact zP (v:=.B #[.agg #[.i false,.d ByteArray.empty,ν,ν],.i false]) (by simp[results,results100,go_sem,f,b];rfl) rfl ⟨ψ,rfl⟩
def Ol(w:U)(r:Nat)(z:O)(l rest:Δ)(h:Rd w r z l rest)(J:l.j<=500)(q:Δ)(a:zj)(W:xx rest=Z (a,q))(h9:T7 q≠9)(h7:T7 q≠7):
  Calls prog 100 #[(π r)] w λe V=>ru Y w r z l e V:=by
 have ag:=h.lt;have o:w.o.q≠r:=η;have S:=Th W;have H9:=Th h9;have H7:=Th h7;go_enter func100,ntmps100;go_wp2_with (first|(go_at_call 142;refine(r8 _ r z l rest q a (by exact h.u γ) J S).y ?_;rintro e D ⟨va,rfl,t,j,g⟩;obtain⟨ao,cp,rfl⟩:=t.qy;have s:=(Ti.new w _ _).but g o;have ab:=s.lt;have P:=j.lt;have i:D.o.q≠r:=η;have I:=((Tv.refl r w).C _).A g)|(go_at_call 143;have p:=y;refine(nH _ r z l q 7 p J θ H7).y ?_;rintro e w3 ⟨rfl,F,b⟩;obtain⟨c7,f7,f⟩:=p.cell;have ac:=A.but b f θ;have x:=k.but b o;have u:=n.but b i;clear G K H B;obtain⟨C,ae⟩:=x.H;obtain⟨R,aa⟩:=u.H;have ad:=x.lt;have L:=u.lt;have M:=F.lt;have T:=E.A b;clear p f)|(go_at_call 143;have p:=j;refine(nH _ r z l q 9 (by exact p.u γ) J θ H9).y ?_;rintro e w2 ⟨rfl,y,c⟩;have m:=(Tv.refl r D).C (Obj.cells #[.i a.i,.d a.o,.k ao a.k.j cp] 90);obtain⟨c1,f1,d⟩:=j.cell;have A:=t.but (m.A c) d θ;have k:=(s.u zO).but c o;have n:=(Ti.new D _ _).but c i;obtain⟨G,K⟩:=k.H;obtain⟨H,B⟩:=n.H;have af:=k.lt;have Q:=n.lt;have N:=y.lt;have E:=I.A (m.A c);clear p m d))
 exact zP (v:=.B #[.agg #[.i false,.d ByteArray.empty,ν,ν],.i false]) (by simp[results,results100,go_sem,C];rfl) rfl ⟨ψ,rfl⟩
def MK(w:U)(r:Nat)(A:O)(l rest:Δ)(h:Rd w r A l rest)(K:l.j<=500)(o:Δ)(a:zj)(ha:xx rest=Z (a,o))(h9:T7 o≠9)(h7:T7 o=7):
  Calls prog 100 #[(π r)] w λe w'=>ru (Z (⟨a,[]⟩,o.tail)) w r A l e w':=by
 have ag:=h.lt;have q:w.o.q≠r:=η;have W:=Th ha;have H9:=Th h9;have H7:=Th h7;go_enter func100,ntmps100;go_wp2_with (first|(go_at_call 142;refine(r8 _ r A l rest o a (by exact h.u γ) K W).y ?_;rintro e E ⟨va,rfl,u,j,g⟩;obtain⟨Q,R,rfl⟩:=u.qy;have t:=(Ti.new w _ _).but g q;have ac:=t.lt;have S:=j.lt;have i:E.o.q≠r:=η;have J:=((Tv.refl r w).C _).A g)|(go_at_call 143;have s:=z;refine(kO _ r A l o 7 s K θ H7).y ?_;rintro e w3 ⟨rfl,y,b⟩;obtain⟨c7,f7,f⟩:=s.cell;have H:=B.but b f θ;have p:=k.but b q;have x:=n.but b i;clear G L I C;obtain⟨D,ae⟩:=p.H;obtain⟨V,ab⟩:=x.H;have ad:=p.lt;have M:=x.lt;have N:=y.lt;have aa:=F.A b;clear s f)|(go_at_call 143;have s:=j;refine(nH _ r A l o 9 (by exact s.u γ) K θ H9).y ?_;rintro e w2 ⟨rfl,z,c⟩;have m:=(Tv.refl r E).C (Obj.cells #[.i a.i,.d a.o,.k Q a.k.j R] 90);obtain⟨c1,f1,d⟩:=j.cell;have B:=u.but (m.A c) d θ;have k:=(t.u zO).but c q;have n:=(Ti.new E _ _).but c i;obtain⟨G,L⟩:=k.H;obtain⟨I,C⟩:=n.H;have af:=k.lt;have T:=n.lt;have P:=z.lt;have F:=J.A (m.A c);clear s m d))
 exact zP (v:=.B #[.agg #[.i a.i,.d a.o,.k Q a.k.j R,ν],.i true]) (by simp[results,results100,go_sem,D]) rfl ⟨ψ,_,_,rfl,(H.low (by first|(simp;done)|omega)).but (r:=w.o.q) ψ p θ,TN.nil _,h.keep y γ⟩
def Mq(w:U)(r:Nat)(x:O)(l rest:Δ)(h:Rd w r x l rest)(G:l.j<=500)(n:Δ)(a:zj)(C:Nat)(S:xx rest=Z (a,n))(h9:T7 n=9)(hn:n.tail.j<C)(T:uh C n.tail=Y):
  Calls prog 100 #[(π r)] w λe w'=>ru Y w r x l e w':=by
 have ad:=h.lt;have o:w.o.q≠r:=η;have Q:=Th S;have H9:=Th h9;have HN:=Th hn;have HB:=Th T;go_enter func100,ntmps100;go_wp2_with (first|(go_at_call 142;refine(r8 _ r x l rest n a (by exact h.u γ) G Q).y ?_;rintro e A ⟨va,rfl,q,i,f⟩;obtain⟨ao,cp,rfl⟩:=q.qy;have p:=(Ti.new w _ _).but f o;have W:=p.lt;have L:=i.lt;have g:A.o.q≠r:=η;have F:=((Tv.refl r w).C _).A f)|(go_at_call 144;refine(QE _ r x l n.tail u G C HN HB).y ?_;rintro e w3 ⟨rfl,c⟩;have t:=j.but c o;have s:=m.but c g;clear D H E y;obtain⟨z,ab⟩:=t.H;obtain⟨N,V⟩:=s.H;have aa:=t.lt;have J:=s.lt;have R:=B.A c)|(go_at_call 143;have I:=i;refine(kO _ r x l n 9 (by exact I.u γ) G θ H9).y ?_;rintro e w2 ⟨rfl,u,b⟩;have k:=(Tv.refl r A).C (Obj.cells #[.i a.i,.d a.o,.k ao a.k.j cp] 90);obtain⟨c1,f1,d⟩:=i.cell;have P:=q.but (k.A b) d θ;have j:=(p.u zO).but b o;have m:=(Ti.new A _ _).but b g;obtain⟨D,H⟩:=j.H;obtain⟨E,y⟩:=m.H;have ac:=j.lt;have M:=m.lt;have K:=u.lt;have B:=F.A (k.A b);clear I k d))
 exact zP (v:=.B #[.agg #[.i false,.d ByteArray.empty,ν,ν],.i false]) (by simp[results,results100,go_sem,z];rfl) rfl ⟨ψ,rfl⟩
def Kl(w:U)(r:Nat)(z:O)(l rest:Δ)(h:Rd w r z l rest)(G:l.j<=500)(u r2:Δ)(a:zj)(b:Ω)(T:Nat)(ha:xx rest=Z (a,u))(h9:T7 u=9)(hn:u.tail.j<T)(hb:uh T u.tail=Z (b,r2))(h7:T7 r2≠7):
  Calls prog 100 #[(π r)] w λe w'=>ru Y w r z l e w':=by
 have av:=h.lt;have n:w.o.q≠r:=η;have HA:=Th ha;have H9:=Th h9;have HN:=Th hn;have HB:=Th hb;have H7:=Th h7;go_enter func100,ntmps100;go_wp2_with (first|(go_at_call 142;refine(r8 _ r z l rest u a (by exact h.u γ) G HA).y ?_;rintro e K ⟨va,rfl,C,p,k⟩;obtain⟨ao,cp,rfl⟩:=C.qy;have B:=(Ti.new w _ _).but k n;have ay:=B.lt;have aj:=p.lt;have m:K.o.q≠r:=η;have N:=((Tv.refl r w).C _).A k)|(go_at_call 144;refine(FB _ r z l u.tail r2 b y G T HN HB).y ?_;rintro e w3 ⟨vb,rfl,M,F,c⟩;obtain⟨ar,ap,rfl⟩:=M.qy;obtain⟨c3,f3,j⟩:=y.cell;have V:=S.but c j θ;have x:=q.but c n;have s:=o.but c m;clear L aa W I;obtain⟨J,ac⟩:=x.H;obtain⟨R,Q⟩:=s.H;have an:=x.lt;have ae:=s.lt;have af:=F.lt;have P:=ab.A c;clear j)|(go_at_call 143;have A:=F;refine(nH _ r z l r2 7 A G θ H7).y ?_;rintro e w4 ⟨rfl,H,d⟩;obtain⟨c7,f7,i⟩:=A.cell;have al:=V.but d i θ;have D:=x.but d n;have E:=s.but d m;clear J ac R Q;obtain⟨ad,az⟩:=D.H;obtain⟨ax,aq⟩:=E.H;have aw:=D.lt;have ag:=E.lt;have ai:=H.lt;have am:=P.A d;clear A i)|(go_at_call 143;have A:=p;refine(kO _ r z l u 9 (by exact A.u γ) G θ H9).y ?_;rintro e w2 ⟨rfl,y,f⟩;have t:=(Tv.refl r K).C (Obj.cells #[.i a.i,.d a.o,.k ao a.k.j cp] 90);obtain⟨c1,f1,g⟩:=p.cell;have S:=C.but (t.A f) g θ;have q:=(B.u zO).but f n;have o:=(Ti.new K _ _).but f m;obtain⟨L,aa⟩:=q.H;obtain⟨W,I⟩:=o.H;have au:=q.lt;have ak:=o.lt;have ah:=y.lt;have ab:=N.A (t.A f);clear A t g))
 exact zP (v:=.B #[.agg #[.i false,.d ByteArray.empty,ν,ν],.i false]) (by simp[results,results100,go_sem,ad];rfl) rfl ⟨ψ,rfl⟩
def LZ(w:U)(r:Nat)(A:O)(l rest:Δ)(h:Rd w r A l rest)(I:l.j<=500)(x r2:Δ)(a:zj)(b:Ω)(n0:Nat)(ha:xx rest=Z (a,x))(h9:T7 x=9)(hn:x.tail.j<n0)(hb:uh n0 x.tail=Z (b,r2))(h7:T7 r2=7):
  Calls prog 100 #[(π r)] w λe w'=>ru (Z (⟨a,b⟩,r2.tail)) w r A l e w':=by
 have av:=h.lt;have o:w.o.q≠r:=η;have HA:=Th ha;have H9:=Th h9;have HN:=Th hn;have HB:=Th hb;have H7:=Th h7;go_enter func100,ntmps100;go_wp2_with (first|(go_at_call 142;refine(r8 _ r A l rest x a (by exact h.u γ) I HA).y ?_;rintro e N ⟨va,rfl,E,q,k⟩;obtain⟨ao,cp,rfl⟩:=E.qy;have D:=(Ti.new w _ _).but k o;have ay:=D.lt;have am:=q.lt;have m:N.o.q≠r:=η;have Q:=((Tv.refl r w).C _).A k)|(go_at_call 144;refine(FB _ r A l x.tail r2 b z I n0 HN HB).y ?_;rintro e w3 ⟨vb,rfl,F,H,d⟩;obtain⟨ac,T,rfl⟩:=F.qy;obtain⟨c3,f3,j⟩:=z.cell;have aa:=W.but d j θ;have y:=s.but d o;have t:=p.but d m;clear P ad ab J;obtain⟨L,af⟩:=y.H;obtain⟨V,S⟩:=t.H;have aq:=y.lt;have ah:=t.lt;have ai:=H.lt;have R:=ae.A d;clear j)|(go_at_call 143;have B:=H;refine(kO _ r A l r2 7 B I θ H7).y ?_;rintro e w4 ⟨rfl,C,c⟩;obtain⟨c7,f7,f⟩:=B.cell;have K:=aa.but c f θ;have M:=F.but c f θ θ;have n:=y.but c o;have G:=t.but c m;clear L af V S;obtain⟨ag,az⟩:=n.H;obtain⟨ax,ar⟩:=G.H;have aw:=n.lt;have aj:=G.lt;have al:=C.lt;have ap:=R.A c;clear B f)|(go_at_call 143;have B:=q;refine(kO _ r A l x 9 (by exact B.u γ) I θ H9).y ?_;rintro e w2 ⟨rfl,z,g⟩;have u:=(Tv.refl r N).C (Obj.cells #[.i a.i,.d a.o,.k ao a.k.j cp] 90);obtain⟨c1,f1,i⟩:=q.cell;have W:=E.but (u.A g) i θ;have s:=(D.u zO).but g o;have p:=(Ti.new N _ _).but g m;obtain⟨P,ad⟩:=s.H;obtain⟨ab,J⟩:=p.H;have au:=s.lt;have an:=p.lt;have ak:=z.lt;have ae:=Q.A (u.A g);clear B u i))
 exact zP (v:=.B #[.agg #[.i a.i,.d a.o,.k ao a.k.j cp,.k ac b.j T],.i true]) (by simp[results,results100,go_sem,ag]) rfl ⟨ψ,_,_,rfl,(K.low (by first|(simp;done)|omega)).but (r:=w.o.q) ψ n θ,(M.low (by first|(simp;done)|omega)).but (r:=w.o.q) ψ n θ θ,h.keep C γ⟩
def GD(w:U)(r:Nat)(c:O)(l rest:Δ)(h:Rd w r c l rest)(g:l.j<=500)(k:Nat)(q:rest.j<=k):
  Calls prog 100 #[(π r)] w λe s=>ru (vH k rest) w r c l e s:=by
 unfold vH;split;rename_i d;exact Px w r c l rest h g d;rename_i a j d;have o:=eI d;split;rename_i i;have n:j.tail.j<k:=by simp;omega
 split;rename_i m;exact Mq w r c l rest h g j a k d i n m;rename_i b p m;split;rename_i f;exact LZ w r c l rest h g j p a b k d i n m f;rename_i f;exact Kl w r c l rest h g j p a b k d i n m f;rename_i i;split;rename_i f;exact MK w r c l rest h g j a d i f;rename_i f;exact Ol w r c l rest h g j a d i f
end
section
open Go.Proofs.Tryz Go.RowKit
variable {lo:Nat}{w:U}{v:O}{r:List Tp}{o:Option (List zc)}
def qR(lo:Nat)(w:U):List zc->List O->Prop
 |[],a=>a=[]
 |c::e,a=>∃b d r,a=.i c.g.i::.d c.g.o::b::d::r/\To lo w b c.g.k/\TN lo w d c.d/\qR lo w e r
def qR.snoc{w:U}{c:zc}{a vb:O}(hs:To lo w a c.g.k)(d:TN lo w vb c.d):∀{b:Ξ} {xs:Γ},qR lo w b xs->qR lo w (b++[c]) (xs++[.i c.g.i,.d c.g.o,a,vb])
 |[],_,h=>by simp only[qR] at h;subst h;exact⟨a,vb,[],rfl,hs,d,rfl⟩
 |_::b,_,h=>by obtain⟨v,f,r,rfl,e,i,g⟩:=h;exact⟨v,f,r++[.i c.g.i,.d c.g.o,a,vb],rfl,e,i,qR.snoc hs d g⟩
def qR.y{w w':U}(d:∀a l,To lo w a l->To lo w' a l)(b:∀a l,TN lo w a l->TN lo w' a l):∀{c:Ξ} {xs:Γ},qR lo w c xs->qR lo w' c xs
 |[],_,h=>h
 |_::c,_,h=>by obtain⟨v,f,r,rfl,e,i,g⟩:=h;exact⟨v,f,r,rfl,d _ _ e,b _ _ i,qR.y d b g⟩
def qR.at{w:U}:∀{f:Ξ} {xs:Γ} (i:Nat) (c:zc),qR lo w f xs->f[i]?=Z c →
  ∃d e,xs[i*4]?=Z (.i c.g.i)/\xs[i*4+1]?=Z (.d c.g.o)/\xs[i*4+2]?=Z d/\xs[i*4+3]?=Z e/\To lo w d c.g.k/\TN lo w e c.d
 |[],_,i,a,_,b=>by simp at b
 |_::f,_,0,a,h,b=>by obtain⟨v,j,r,rfl,g,l,k⟩:=h;simp at b;subst b;exact⟨v,j,rfl,rfl,rfl,rfl,g,l⟩
 |_::f,_,i+1,a,h,b=>by
  obtain⟨v,j,r,rfl,g,l,k⟩:=h;obtain⟨d,e,p,m,n,s,q⟩:=qR.at i a k (by simpa using b);refine⟨d,e,?_,?_,?_,?_,q⟩
  .rw[show(i+1)*4=i*4+1+1+1+1 from by omega];simpa using p
  .rw[show(i+1)*4+1=i*4+1+1+1+1+1 from by omega];simpa using m
  .rw[show(i+1)*4+2=i*4+2+1+1+1+1 from by omega];simpa using n
  .rw[show(i+1)*4+3=i*4+3+1+1+1+1 from by omega];simpa using s
def TR(lo:Nat)(T:TypeId)(w:U)(v:O)(b:List zc):Prop:=∃a,w.r lo T 4 v b.j a/\qR lo w b a
def qR.low{a b:Nat}{w:U}(c:a<=b):∀{d:Ξ} {xs:Γ},qR b w d xs->qR a w d xs
 |[],_,h=>h
 |_::d,_,h=>by obtain⟨v,f,r,rfl,e,i,g⟩:=h;exact⟨v,f,r,rfl,e.low c,i.low c,qR.low c g⟩
def TR.low{a b:Nat}{T:TypeId}{w:U}{v:O}{l:Ξ}(h:TR b T w v l)(c:a<=b):TR a T w v l:=by obtain⟨e,h,d⟩:=h;exact⟨e,yo h c,d.low c⟩
def TR.qy{T:TypeId}{l:Ξ}(h:TR lo T w v l):∃b a,v=.k b l.j a:=by obtain⟨c,h,_⟩:=h;exact zr h
def TR.u{T:TypeId}{w w':U}{v:O}{l:Ξ}(h:TR lo T w v l)(a:μ w w'):TR lo T w' v l:=by
 obtain⟨c,h,b⟩:=h;exact⟨c,zy h a,b.y (λ_ _ k=>k.u a) (λ_ _ k=>k.u a)⟩
def TN.push{c i:U}{b:Nat}{e:TypeId}{s:Nat}{g:O}{n:Nat}{xs:Γ}{m:Ω}(j:c.r b e s v n xs)(f:e≠90)(a:e≠9)(h:TN lo c g m)
  (l:∀k,k<c.o.q->Z k≠v.m->i.o[k]?=c.o[k]?):TN lo i g m:=by
 obtain⟨d,p,q⟩:=h;exact⟨d,gR j f p l,q.y λ_ _ k=>gR j a k l⟩
def yX(a:Nat):Nat->List Tp->Option (List zc)
 |_,[]=>Z []
 |0,_::_=>Y
 |m+1,x::r=>match vH a (x::r) with
  |none=>Y
  |some (c,b)=>(yX a m b).w (c::·)
def iL{a m:Nat}(b:r≠[])(h:vH a r=Y):yX a (m+1) r=none:=by
 rcases r with _|⟨x,r⟩;exact zC rfl b;simp[yX,h]
def we{a m:Nat}{r2:Δ}{c:zc}(b:r≠[])(h:vH a r=Z (c,r2)):yX a (m+1) r=(yX a m r2).w (c::·):=by
 rcases r with _|⟨x,r⟩;exact zC rfl b;simp[yX,h]
def Pn{n:Nat}:∀{r r2:Δ} {b:Ω},uh n r=Z (b,r2)->r2.j<r.j:=by
 induction n with
 |zero=>intro r r2 b h;simp[uh] at h
 |succ n g=>
  intro r r2 b h;rcases c:uU r with _|z;rw[sY c] at h;cases h;obtain⟨a,e⟩:=z;have:=C0 c;by_cases f:T7 e=6;rw[s6 c f] at h;rcases d:uh n e.tail with _|z;rw[d] at h;simp at h;rw[d] at h;simp at h;have:=g d;obtain⟨_,rfl⟩:=h;simp at this;omega;rw[rB c f] at h;simp at h;obtain⟨_,rfl⟩:=h;omega
def JT{n:Nat}{r2:Δ}{c:zc}(h:vH n r=Z (c,r2)):r2.j<r.j:=by
 unfold vH at h;split at h;cases h;rename_i a f e;have:=eI e;split at h;split at h;cases h;rename_i b g d;have:=Pn d;split at h<;>simp at h
 obtain⟨_,rfl⟩:=h;simp at this ⊢;omega;split at h<;>simp at h
 obtain⟨_,rfl⟩:=h;simp;omega
def R7(w:U)(r:Nat)(c:O)(l rest:Δ)(h:Rd w r c l rest)(i:l.j<=500)(b:Nat)(a:rest.j<=b)(j:vH b rest=Y):
  Calls prog 100 #[(π r)] w λe f=>e=ε (.B #[.agg #[.i false,.d ByteArray.empty,ν,ν],.i false])/\Tv r w f:=by
 refine(GD w r c l rest h i b a).y ?_;rintro e f ⟨g,d⟩;rw[j] at d;exact⟨d,g⟩
def PB(w:U)(r:Nat)(g:O)(l rest r2:Δ)(c:zc)(h:Rd w r g l rest)(q:l.j<=500)(j:Nat)(i:rest.j<=j)(t:vH j rest=Z (c,r2)):
  Calls prog 100 #[(π r)] w λe f=>∃k m,e=ε (.B #[.agg #[.i c.g.i,.d c.g.o,k,m],.i true])/\To w.o.q f k c.g.k/\TN w.o.q f m c.d/\Rd f r g l r2/\Tv r w f:=by
 refine(GD w r g l rest h q j i).y ?_;rintro e f ⟨p,n⟩;rw[t] at n;obtain⟨v,s,a,b,c,d⟩:=n;exact⟨v,s,a,b,c,d,p⟩
def Ta:(prog.info? 171).w (λi=>(i.zero,i.q,i.bytes))=Z (Z (.agg #[.i false,.d ByteArray.empty,ν,ν]),4,72):=χ
def oH(o:Option (List zc))(w:U)(e:Ending)(w':U):Prop:=
 μ w w'/\match o with
  |none=>e=ε (.B #[ν,.i false])
  |some a=>∃v,e=ε (.B #[v,.i true])/\TR w.o.q 171 w' v a
def MC{w':U}(h:X (o=Y))(b:μ w w'):oH o w (ε (.B #[ν,.i false])) w':=by
 have a:o=none:=h;subst a;exact⟨b,rfl⟩
def Jh{w':U}{cs:Ξ}(h:X (o=Z cs))(b:μ w w')(hs:TR w.o.q 171 w' v cs):oH o w (ε (.B #[v,.i true])) w':=by
 have a:o=Z cs:=h;subst a;exact⟨b,v,rfl,hs⟩
def Uy(w:U)(wv:O)(l:Δ)(y:Nat)(hw:w.r y 182 2 wv l.j (kC l))(hl:l.j<=500):
  Calls prog 60 #[wv] w λe w'=>oH (yX l.j l.j l) w e w':=by
 obtain⟨i0,hi,aa,aj,ak⟩:=info_parts Ta;obtain⟨W,q,rfl⟩:=zr hw;have h0:Rd (w.C (.E #[.k W l.j q,ι 0] 185)) w.o.q (.k W l.j q) l l:=
  ⟨⟨0,zs _,rfl,Ti.new _ _ _⟩,y,zy hw zO⟩
 clear hw;go_enter func60,ntmps60;go_wp2;go_loopg [5] (l.j) (λn v wr=>∃(f:Ξ) (b:Δ) (m:Nat) (xs:Γ),b.j<=n/\b.j<=m/\b.j+f.j<=l.j ∧
   wr.r (w.o.q+1) 171 4 v f.j xs/\qR w.o.q wr f xs/\Rd wr w.o.q (.k W l.j q) l b/\Tv w.o.q (w.C (.E #[.k W l.j q,ι 0] 185)) wr ∧
   X (yX l.j l.j l=(yX l.j m b).w (f++·)))
 case atStart=>exact⟨[],l,l.j,[],zf _,zf _,ζ,xo _ _ _ _,rfl,h0,Tv.refl _ _,(by simp[X])⟩
 obtain⟨f,b,m,xs,hn,hm,a0,A,I,t,g,E⟩:=hrel;have G:w.o.q<=wr.o.q:=by have:=g.q;simp at this;omega
 obtain⟨c0,f0,d⟩:=t.cell;have an:=Th d;obtain⟨p,au,aq,hp,J,al,S,ar,aw,ay,hx⟩:=t.view;clear al hx S;rcases b with _|⟨x,r0⟩
 .have M:p=l.j:=by
   have:=congrArg List.length J;simp at this;omega
  have L:X (yX l.j l.j l=Z f):=by rw[X.out E];cases m<;>simp[yX,X]
  have R:=zO.A (g.u (zf _) ζ);subst M;clear J E d;go_wp2;go_ret2
  exact Jh L R ⟨_,yo A η,I⟩
 have M:p<l.j:=by
  rcases gV p l.j with h|h;exact h;rw[uk h] at J;cases J
 clear J;have s:x::r0≠[]:=ζ;obtain⟨m,rfl⟩:∃m',m=m'+1:=⟨m-1,by simp at hm;omega⟩;generalize x::r0=b at *;have HN:X (b.j<=l.j):=by unfold X;omega
 rcases B:vH l.j b with _|z
 .have HC:=Th B;have L:X (yX l.j l.j l=Y):=by rw[X.out E,iL s B];simp[X]
  clear B s E;go_wp2_with (go_at_call 100;refine(R7 _ w.o.q _ l b t hl l.j HN HC).y ?_;rintro e w1 ⟨rfl,a⟩;have i:=g.A a;have Q:=i.q;have D:=zO.A (i.u (zf _) ζ))
  go_ret2
  have ap:=D.q;exact MC L γ
 obtain⟨c,V⟩:=z;have HC:=Th B;have av:=JT B;have L:X (yX l.j l.j l=(yX l.j m V).w ((f++[c])++·)):=by rw[X.out E,we s B,sO];rfl
 clear B s E;go_wp2_with (first|(go_at_call 100;refine(PB _ w.o.q _ l b V c t hl l.j HN HC).y ?_;rintro e w1 ⟨va,vb,rfl,F,H,af,a⟩;obtain⟨ae,ab,rfl⟩:=F.qy;obtain⟨az,ax,rfl⟩:=H.qy;have i:=g.A a;have Q:=i.q;have ad:=(by simpa using Q);have j:=xP A a d θ;have T:=I.y (λ_ _ k=>k.but a d θ) (λ_ _ k=>k.but a d θ θ))|(at_builtin;refine gz w1 _ _ _ rfl (.tmp 22) (.tmp 24) 121 rfl (w.o.q+1) 171 i0 _ 4 72 underlying121 hi aa aj ak rfl θ _ _ _ rfl j zO _ _ rfl ζ rfl a_ η η ad ?_;intro v' w2 ag N ac am u ao;clear ac am;have P:=Rd.keep h0 af (by simpa using N);have C:=i.onto (by simpa using N);have ai:To w.o.q w2 (O.slice ae c.g.k.j ab) c.g.k:=yo (gR j θ F u) G;have ah:=(H.push j θ θ u).low G;have K:=T.y (λ_ _ k=>gR j θ k u) (λ_ _ k=>k.push j θ θ u)))
 go_roundg V.j
 case measure=>omega
 exact⟨f++[c],V,m,_,zf _,η,by simp;omega,by rw[yK];exact ag,K.snoc ai ah,P,C,L⟩
end
section
open Go.Proofs.Tryz Go.RowKit
variable {lo:Nat}{l:κ}
def lX(t:ByteArray)(w:U):
  Calls prog 156 #[.d t] w λe a=>e=ε (.i (zQ t))/\a=w:=by
 unfold zQ;by_cases h:0<t.q
 .rw[qV h];go_enter func156,ntmps156;go_wp2
  all_goals go_ret
  all_goals go_light
  all_goals exact⟨by simp_all [qe];try omega,rfl⟩
 rw[pI h];go_enter func156,ntmps156;go_wp2
 all_goals go_ret
 all_goals go_light
 all_goals exact⟨by simp_all [qe],rfl⟩
def To.cell{w:U}{b:Option Addr}{n cap:Nat}{vs:κ}(h:To lo w (.k b n cap) vs)(k:Nat)(f:k<vs.j):∃g,b=Z (δ g)/\g<w.o.q/\w.p (ω g k)=Z (.d vs[k]):=by
 have e:=h;obtain⟨g,d,c,_,i,a⟩:=yq e η;simp at c;exact⟨g,c.1,i,a k _ (by simp[f])⟩
def y7:κ->ByteArray->Option Nat
 |[],_=>Y
 |y::r,n=>if y=n then Z 0 else(y7 r n).w (·+1)
def l6(l:κ)(n:ByteArray):Int:=match y7 l n with
 |none=>-1
 |some k=>k
def lM:∀{l:κ} {n:ByteArray} {k:Nat},y7 l n=Z k->∃h:k<l.j,l[k]=n
 |[],_,_,h=>by simp[y7] at h
 |y::r,n,k,h=>by
  unfold y7 at h;split at h
  .simp at h;subst h;exact⟨ζ,by simpa⟩
  .cases a:y7 r n with
   |none=>rw[a] at h;simp at h
   |some j=>rw[a] at h;simp at h;subst h;obtain⟨b,c⟩:=lM a;exact⟨by simpa using b,by simpa using c⟩
def oC{n:ByteArray}{k:Nat}(b:k<l.j)(a:l[k]≠n):y7 (l.drop k) n=(y7 (l.drop (k+1)) n).w (·+1):=by rw[xp b,y7,za a]
def oW{n:ByteArray}{k:Nat}(a:k<l.j)(b:l[k]=n):y7 (l.drop k) n=Z 0:=by rw[xp a,y7,zb b]
def oy:∀(l:κ) (n:ByteArray),(y7 l n).I=yi n l
 |[],n=>by rw[tU.2 ζ];rfl
 |y::r,n=>by
  unfold y7;by_cases e:y=n
  .rw[zb e,vS.2 (by simp[e])];rfl
  .rw[za e,Option.isSome_map,oy r n];cases h:yi n r with
   |true=>exact(vS.2 (nP _ (vS.1 h))).z
   |false=>exact(tU.2 (by have:=tU.1 h;simp[this,Ne.symm e])).z
def Lf(w:U)(vb:Nat)(f:O)(vs:κ)(t:ByteArray)(c:Ti w vb #[f] 246)(hs:To lo w f vs)(o:vs.j<=1000):
  Calls prog 200 #[(π vb),.d t] w λe m=>e=ε (.B #[ι ((y7 vs t).g 0:Nat),.i (y7 vs t).I])/\m=w:=by
 obtain⟨r,s⟩:=c.H;obtain⟨p,h,rfl⟩:=hs.qy;go_enter func200,ntmps200;go_wp2;go_loop [13] (λi=>∃k:Nat,k<=vs.j/\i=ι k/\X (y7 vs t=(y7 (vs.drop k) t).w (·+k))) (λi=>vs.j-(intOf i).D);exact⟨0,zs _,rfl,by simp[X]⟩;obtain⟨k,q,rfl,H⟩:=hrel;by_cases a:k<vs.j
 .obtain⟨g,rfl,u,j⟩:=hs.cell k a;by_cases d:vs[k]=t
  .have n:=jq d;have b:X (y7 vs t=Z k):=by rw[X,H.l,oW a d];simp
   go_wp2;go_ret2
   exact⟨by rw[b.l];rfl,rfl⟩
  have n:=vU d;have b:X (y7 vs t=(y7 (vs.drop (k+1)) t).w (·+(k+1))):=by
   rw[X,H.l,oC a d];cases y7 (vs.drop (k+1)) t<;>simp;omega
  go_wp2;go_round;exact⟨k+1,η,ξ,b⟩;simp[intOf];omega
 have b:X (y7 vs t=Y):=by rw[X,H.l,uk η];rfl
 go_wp2;go_ret2
 exact⟨by rw[b.l];rfl,rfl⟩
def i4(w:U)(vb:Nat)(b:O)(vs:κ)(t:ByteArray)(a:Ti w vb #[b] 246)(hs:To lo w b vs)(f:vs.j<=1000):
  Calls prog 183 #[(π vb),.d t] w λe d=>e=ε (.i (yi t vs))/\d=w:=by
 rw[←oy vs t];have c:=Th (Lf w vb b vs t a hs f);generalize y7 vs t=o at *;go_enter func183,ntmps183;go_wp2_with (go_at_call 200;refine c.l.y ?_;rintro e d ⟨rfl,rfl⟩;clear c)
 go_ret;exact⟨rfl,rfl⟩
end
section
open Go.Proofs.Tryz Go.RowKit
variable {lo:Nat}{w:U}{c:Array O}{vs:κ}{t:ByteArray}
def Ti.set{b:Nat}{T:TypeId}(h:Ti w b c T)(o:Nat)(u:O):Ti (w.x (ω b o) u) b (c.setIfInBounds o u) T:=by
 unfold Ti at *;simp[U.setCell,Array.getElem?_modify,h]
def Ti.set_ne{b b':Nat}{T:TypeId}(h:Ti w b c T)(a:b≠b')(o:Nat)(u:O):Ti (w.x (ω b' o) u) b c T:=by
 unfold Ti at *;rw[Below.heap_setCell _ _ _ _ a];exact h
def Ti.push{d o:U}{b:Nat}{e T:TypeId}{s:Nat}{v:O}{n i:Nat}{xs:Γ}(r:d.r b e s v n xs)(m:e≠T)(h:Ti d i c T)
  (u:∀k,k<d.o.q->Z k≠v.m->o.o[k]?=d.o[k]?):Ti o i c T:=by
 have j:=h.lt;unfold Ti at *;rw[u i j ?_];exact h;intro l;obtain⟨_,⟨f,_⟩|⟨x,q,p,g,_,a,_⟩⟩:=r;subst f;cases l;subst g;simp only[O.ownBlock,zt] at l;subst l;rw[h] at a;simp at a;exact m a.2.z
structure fF (vb:Nat) (w w':U):Prop where
 q:w.o.q<=w'.o.q
 box:∀b c T,b≠vb->T≠9->Ti w b c T->Ti w' b c T
def fF.refl(vb:Nat)(w:U):fF vb w w:=⟨zf _,λ_ _ _ _ _ h=>h⟩
def fF.A{vb:Nat}{a b c:U}(h:fF vb a b)(k:fF vb b c):fF vb a c:=⟨zY h.q k.q,λx y z d e f=>k.box x y z d e (h.box x y z d e f)⟩
def fF.of{vb:Nat}{w':U}(h:μ w w'):fF vb w w':=⟨h.q,λ_ _ _ _ _ k=>k.u h⟩
def VA(B:Nat)(w:U)(vb:Nat)(vs:κ):Prop:=∃a,Ti w vb #[a] 246/\w.r B 9 1 a vs.j (vs.w O.string)
def VA.u{B:Nat}{w w':U}{vb:Nat}{vs:κ}(h:VA B w vb vs)(a:μ w w'):VA B w' vb vs:=by
 obtain⟨b,d,e⟩:=h;exact⟨b,d.u a,zy e a⟩
def FN(vs args:κ)(k:Nat)(a:k<args.j):xH vs (args.G (k+1))=ke (xH vs (args.G k)) args[k]:=by
 unfold xH;rw[yN a,qZ];rfl
def EU(a:zQ t=true)(b:yi t vs=false):ke vs t=vs++[t]:=by simp[ke,a,b]
def FK(a:zQ t=false):ke vs t=vs:=by simp[ke,a]
def EW(a:yi t vs=true):ke vs t=vs:=by simp[ke,a]
def U3(d w:U)(vb:Nat)(vs args:κ)(neg:Bool)(r:ByteArray)(W:O)(h0:μ d w)(hs:To lo d W args)(K:VA d.o.q w vb vs)(H:d.o.q<=vb)(hl:vs.j+args.j<=1000):
  Calls prog 182 #[(π vb),.agg #[.i neg,.d r,W]] w λe p=>e=ε (.B #[])/\VA d.o.q p vb (xH vs args)/\μ d p/\fF vb w p:=by
 obtain⟨i0,hi,F,I,Q⟩:=info_parts SG;obtain⟨ao,N,rfl⟩:=hs.qy;have V:=h0.q;go_enter func182,ntmps182;go_wp2;go_loopw [9] (λi wr=>∃k:Nat,k<=args.j/\i=ι k/\VA d.o.q wr vb (xH vs (args.G k))/\μ d wr/\fF vb w wr) (λi _=>args.j-(intOf i).D);have L:=(zn w.o.q w).C (zf _) (.E #[.i neg,.d r,.k ao args.j N] 90);exact⟨0,zs _,rfl,K.u L,Tl h0 L,fF.of L⟩;obtain⟨k,hk,rfl,o,f,n⟩:=hrel;by_cases D:k<args.j
 .obtain⟨g,rfl,hg,aa⟩:=(hs.u f).cell k D;have v:=FN vs args k D;have C:=pW (args.G k) vs;have A:(args.G k).j=k:=by simp;omega
  rw[A] at C;clear A;generalize args[k]=t at *;generalize xH vs (args.G k)=m at *;have u:=Th v;clear v;cases hT:zQ t
  .have q:xH vs (args.G (k+1))=m:=by rw[u.l,FK hT]
   have E:=Th q;clear q u;go_wp2_with (go_at_call 156;refine(lX _ _).y ?_;rintro e p ⟨rfl,rfl⟩)
   go_roundw;exact⟨k+1,η,ξ,by rw[E.l];exact o,f,n⟩;simp[intOf];omega
  obtain⟨nv,h,a⟩:=o;obtain⟨ac,S,rfl⟩:=zr a;obtain⟨hc,hf⟩:=h.H;cases hM:yi t m
  .have q:xH vs (args.G (k+1))=m++[t]:=by rw[u.l,EU hT hM]
   have E:=Th q;clear q u;go_wp2_with (first|(go_at_call 156;refine(lX _ _).y ?_;rintro e p ⟨rfl,rfl⟩)|(go_at_call 183;refine(i4 _ vb _ m t h a η).y ?_;rintro e p ⟨rfl,rfl⟩)|(at_builtin;refine gz _ _ _ _ rfl (.tmp 25) (.tmp 27) 30 rfl d.o.q 9 i0 _ 1 16 underlying30 hi F I Q rfl θ _ _ _ rfl a (zn _ _) _ _ rfl ζ rfl a_ η η f.q ?_;intro v' P x J M R B z;clear M R;obtain⟨s,j,rfl⟩:=zr x;have l:=Ti.push a θ h B;obtain⟨ab,ad⟩:=l.H))
   have G:fF vb p (P.x (δ vb) (.k s (m.j+1) j)):=⟨by simp[U.setCell];exact z,λb c T h1 h2 h3=>(Ti.push a (Ne.symm h2) h3 B).set_ne h1 _ _⟩;have y:VA d.o.q (P.x (δ vb) (.k s (m.j+1) j)) vb (m++[t]):=⟨_,l.set 0 _,by
    have:=xP x ((Tv.refl vb P).x 0 (.k s (m.j+1) j)) l θ;simpa using this⟩
   go_roundw;exact⟨k+1,η,ξ,by rw[E.l];exact y,(f.A J).x H _,n.A G⟩;simp[intOf];omega
  have q:xH vs (args.G (k+1))=m:=by rw[u.l,EW hM]
  have E:=Th q;clear q u;go_wp2_with (first|(go_at_call 156;refine(lX _ _).y ?_;rintro e p ⟨rfl,rfl⟩)|(go_at_call 183;refine(i4 _ vb _ m t h a η).y ?_;rintro e p ⟨rfl,rfl⟩))
  go_roundw;exact⟨k+1,η,ξ,by rw[E.l];exact⟨_,h,a⟩,f,n⟩;simp[intOf];omega
 have hE:args.G k=args:=yV η;rw[hE] at o;clear hE;go_wp2;go_end0
 exact⟨rfl,o,f,n⟩
end
section
open Go.Proofs.Tryz Go.RowKit
variable {lo:Nat}
def TN.cell{w:U}{e:Option Addr}{n cap:Nat}{c:Ω}(h:TN lo w (.k e n cap) c)(k:Nat)(p:k<c.j):∃g b a,e=Z (δ g)/\g<w.o.q ∧
  w.p (ω g (k*3))=Z (.i c[k].i)/\w.p (ω g (k*3+1))=Z (.d c[k].o)/\w.p (ω g (k*3+2))=Z (.k b c[k].k.j a)/\To lo w (.k b c[k].k.j a) c[k].k:=by
 obtain⟨t,q,r⟩:=h;obtain⟨g,j,f,_,s,d⟩:=yq q η;simp at f;obtain⟨u,o,l,m,i⟩:=r.at k c[k] (by simp[p]);obtain⟨b,a,rfl⟩:=i.qy;exact⟨g,b,a,f.1,s,d _ _ o,d _ _ l,d _ _ m,i⟩
def kX(vs:κ)(l:zj):κ:=xH vs l.k
def qk(vs:κ)(l:zj):κ:=if l.i then vs else xH vs l.k
def um(c:zc):κ:=c.d.H kX (xH [] c.g.k)
def zx(c:zc):κ:=c.d.H qk []
def xj(a:List zj):Nat:=a.foldr (λl n=>l.k.j+n) 0
def sH(b:Ω):∀k,k<b.j->xj (b.G k)+(b[k]?.w (·.k.j)).g 0<=xj b:=by
 induction b with
 |nil=>intro k h;simp at h
 |cons a b c=>
  intro k h;rcases k with _|k;simp[xj];have:=c k (by simpa using h);simp[xj] at this ⊢;omega
def RZ(c:Ω)(a:zj):xj (c++[a])=xj c+a.k.j:=by
 induction c with
 |nil=>simp[xj]
 |cons b c d=>simp[xj] at d ⊢;omega
def Ew(b:Ω):∀vs:κ,(b.H kX vs).j<=vs.j+xj b:=by
 induction b with
 |nil=>intro vs;simp[xj]
 |cons a b c=>intro vs;have:=c (kX vs a);have:=pW a.k vs;simp[xj,kX] at *;omega
def iz(b:Ω):∀vs:κ,(b.H qk vs).j<=vs.j+xj b:=by
 induction b with
 |nil=>intro vs;simp[xj]
 |cons a b c=>
  intro vs;have d:=c (qk vs a);have f:=pW a.k vs;have e:(qk vs a).j<=vs.j+a.k.j:=by unfold qk;split<;>omega
  simp[xj] at *;omega
def Qa(w:U)(c:zc)(P vb:O)(hs:To lo w P c.g.k)(R:TN lo w vb c.d)(hl:c.g.k.j+xj c.d<=1000)(ae:c.d.j<=1000):
  Calls prog 145 #[.agg #[.i c.g.i,.d c.g.o,P,vb]] w λe W=>∃K,e=ε (.agg #[K])/\W.r w.o.q 9 1 K (um c).j ((um c).w O.string)/\μ w W:=by
 obtain⟨u,d,rfl⟩:=hs.qy;obtain⟨f,b,rfl⟩:=R.qy;have I:μ w (((w.C (.E #[.i c.g.i,.d c.g.o,.k u c.g.k.j d,.k f c.d.j b] 171)).C (.E #[ν] 246)).C (.E #[ν] 246)):=γ;have B:VA w.o.q (((w.C (.E #[.i c.g.i,.d c.g.o,.k u c.g.k.j d,.k f c.d.j b] 171)).C (.E #[ν] 246)).C (.E #[ν] 246)) (w.o.q+2) []:=⟨_,by have:=Ti.new ((w.C (.E #[.i c.g.i,.d c.g.o,.k u c.g.k.j d,.k f c.d.j b] 171)).C (.E #[ν] 246)) #[ν] 246;simpa using this,xo _ _ _ _⟩;have s:Ti (((w.C (.E #[.i c.g.i,.d c.g.o,.k u c.g.k.j d,.k f c.d.j b] 171)).C (.E #[ν] 246)).C (.E #[ν] 246)) (w.o.q+1) #[ν] 246:=by have:=(Ti.new (w.C (.E #[.i c.g.i,.d c.g.o,.k u c.g.k.j d,.k f c.d.j b] 171)) #[ν] 246).u ((zn _ _).C (zf _) (.E #[ν] 246));simpa using this
 have F:Ti (((w.C (.E #[.i c.g.i,.d c.g.o,.k u c.g.k.j d,.k f c.d.j b] 171)).C (.E #[ν] 246)).C (.E #[ν] 246)) w.o.q #[.i c.g.i,.d c.g.o,.k u c.g.k.j d,.k f c.d.j b] 171:=((Ti.new w _ _).u zO).u zO;go_enter func145,ntmps145;go_wp2_with (go_at_call 182;refine(U3 w _ (w.o.q+2) [] c.g.k _ _ _ (by exact I) hs (by exact B) η υ).y ?_;rintro e w1 ⟨rfl,j,r,l⟩;have h:=l.box _ _ _ η θ s;have G:=l.box _ _ _ η θ F;obtain⟨ad,ai,S⟩:=G.e)
 go_loopw [12] (λi wr=>∃k:Nat,k<=c.d.j/\i=ι k/\VA w.o.q wr (w.o.q+2) ((c.d.G k).H kX (xH [] c.g.k))/\μ w wr/\Ti wr (w.o.q+1) #[ν] 246) (λi _=>c.d.j-(intOf i).D);exact⟨0,zs _,rfl,j,r,h⟩;obtain⟨k,hk,rfl,x,m,t⟩:=hrel;have V:=m.q;by_cases o:k<c.d.j
 .obtain⟨g,ac,N,rfl,M,y,E,n,L⟩:=R.cell k o;have aa:=zi m M y;have ab:=zi m M E;have ag:=zi m M n;have ah:g<wr.o.q:=η;have T:=Ew (c.d.G k) (xH [] c.g.k);have C:=sH c.d k o;have J:=pW c.g.k [];have z:(c.d.G (k+1)).H kX (xH [] c.g.k)=kX ((c.d.G k).H kX (xH [] c.g.k)) c.d[k]:=by rw[yN o,qZ];rfl
  rw[yn o] at C;simp only[jL,uE] at C;clear y E n;generalize c.d[k]=a at *;generalize (c.d.G k).H kX (xH [] c.g.k)=vk at *;have HS:=Th z;clear z;go_wp2_with (go_at_call 182;refine(U3 w _ (w.o.q+2) vk a.k _ _ _ γ L (by exact x.u γ) η (by simp at *;omega)).y ?_;rintro e w1 ⟨rfl,j,r,l⟩;have h:=l.box _ _ _ η θ (t.u γ))
  go_roundw;exact⟨k+1,η,ξ,by rw[HS.l];exact j,r,h⟩;simp[intOf];omega
 have Q:c.d.G k=c.d:=yV η;rw[Q] at x;obtain⟨K,A,q⟩:=x;obtain⟨D,p,rfl⟩:=zr q;obtain⟨hc,hf⟩:=A.H;obtain⟨n,aj⟩:=t.H;have af:=A.lt;clear Q;go_wp2;have H:=xP q ((Tv.refl (w.o.q+1) wr).x 0 (.k D (c.d.H kX (xH [] c.g.k)).j p)) t θ;exact zP (v:=.agg #[.k D (c.d.H kX (xH [] c.g.k)).j p]) (by simp[results,results145,go_sem,n]) rfl ⟨_,rfl,H,γ⟩
def oA(w:U)(c:zc)(S vb:O)(hs:To lo w S c.g.k)(V:TN lo w vb c.d)(hl:c.g.k.j+xj c.d<=1000)(ae:c.d.j<=1000):
  Calls prog 148 #[.agg #[.i c.g.i,.d c.g.o,S,vb]] w λe w'=>∃L,e=ε (.agg #[L])/\w'.r w.o.q 9 1 L (zx c).j ((zx c).w O.string)/\μ w w':=by
 obtain⟨r,d,rfl⟩:=hs.qy;obtain⟨f,b,rfl⟩:=V.qy;have H:μ w (((w.C (.E #[.i c.g.i,.d c.g.o,.k r c.g.k.j d,.k f c.d.j b] 171)).C (.E #[ν] 246)).C (.E #[ν] 246)):=γ;have B:VA w.o.q (((w.C (.E #[.i c.g.i,.d c.g.o,.k r c.g.k.j d,.k f c.d.j b] 171)).C (.E #[ν] 246)).C (.E #[ν] 246)) (w.o.q+2) []:=⟨_,by have:=Ti.new ((w.C (.E #[.i c.g.i,.d c.g.o,.k r c.g.k.j d,.k f c.d.j b] 171)).C (.E #[ν] 246)) #[ν] 246;simpa using this,xo _ _ _ _⟩;have q:Ti (((w.C (.E #[.i c.g.i,.d c.g.o,.k r c.g.k.j d,.k f c.d.j b] 171)).C (.E #[ν] 246)).C (.E #[ν] 246)) (w.o.q+1) #[ν] 246:=by have:=(Ti.new (w.C (.E #[.i c.g.i,.d c.g.o,.k r c.g.k.j d,.k f c.d.j b] 171)) #[ν] 246).u ((zn _ _).C (zf _) (.E #[ν] 246));simpa using this
 have aa:Ti (((w.C (.E #[.i c.g.i,.d c.g.o,.k r c.g.k.j d,.k f c.d.j b] 171)).C (.E #[ν] 246)).C (.E #[ν] 246)) w.o.q #[.i c.g.i,.d c.g.o,.k r c.g.k.j d,.k f c.d.j b] 171:=((Ti.new w _ _).u zO).u zO;go_enter func148,ntmps148;go_wp2;go_loopw [9] (λi wr=>∃k:Nat,k<=c.d.j/\i=ι k/\VA w.o.q wr (w.o.q+2) ((c.d.G k).H qk [])/\μ w wr/\Ti wr (w.o.q+1) #[ν] 246) (λi _=>c.d.j-(intOf i).D);exact⟨0,zs _,rfl,B,H,q⟩;obtain⟨k,hk,rfl,m,h,l⟩:=hrel;have ab:=h.q;by_cases n:k<c.d.j
 .obtain⟨g,ad,R,rfl,N,u,E,j,M⟩:=V.cell k n;have y:=zi h N u;have ac:=zi h N E;have ag:=zi h N j;have ah:g<wr.o.q:=η;have W:=iz (c.d.G k) [];have C:=sH c.d k n;have K:True:=trivial;have x:(c.d.G (k+1)).H qk []=qk ((c.d.G k).H qk []) c.d[k]:=by rw[yN n,qZ];rfl
  rw[yn n] at C;simp only[jL,uE] at C;clear u E j;generalize c.d[k]=a at *;generalize (c.d.G k).H qk []=P at *;have F:=Th x;clear x;cases t:a.i
  .rw[t] at y;have Q:X ((c.d.G (k+1)).H qk []=xH P a.k):=by rw[X,F.l,qk,t];rfl
   clear F t;go_wp2_with (go_at_call 182;refine(U3 w _ (w.o.q+2) P a.k _ _ _ γ M (by exact m.u γ) η (by simp at *;omega)).y ?_;rintro e w1 ⟨rfl,A,J,I⟩;have s:=I.box _ _ _ η θ (l.u γ))
   go_roundw;exact⟨k+1,η,ξ,by rw[Q.l];exact A,J,s⟩;simp[intOf];omega
  rw[t] at y;have Q:X ((c.d.G (k+1)).H qk []=P):=by rw[X,F.l,qk,t,zb rfl]
  clear F t;go_wp2;go_roundw;exact⟨k+1,η,ξ,by rw[Q.l];exact m.u γ,γ,l.u γ⟩;simp[intOf];omega
 have T:c.d.G k=c.d:=yV η;rw[T] at m;obtain⟨L,z,p⟩:=m;obtain⟨D,o,rfl⟩:=zr p;obtain⟨hc,hf⟩:=z.H;obtain⟨j,ai⟩:=l.H;have af:=z.lt;clear T;go_wp2;have G:=xP p ((Tv.refl (w.o.q+1) wr).x 0 (.k D (c.d.H qk []).j o)) l θ;exact zP (v:=.agg #[.k D (c.d.H qk []).j o]) (by simp[results,results148,go_sem,j]) rfl ⟨_,rfl,G,γ⟩
def UJ(w:U)(vb:Nat)(b:O)(vs:κ)(a:Ti w vb #[b] 246)(hs:To lo w b vs):
  Calls prog 146 #[(π vb)] w λe d=>e=ε (ι vs.j)/\d=w:=by
 obtain⟨g,h⟩:=a.H;obtain⟨f,c,rfl⟩:=hs.qy;go_enter func146,ntmps146;go_wp2;go_ret;exact⟨rfl,rfl⟩
def qI(vs args:κ):Bool:=args.all λt=>!zQ t||yi t vs
def oT{α:Type}(l:List α)(p:α->Bool)(k:Nat)(a:k<l.j):(l.drop k).all p=(p l[k]&&(l.drop (k+1)).all p):=by rw[xp a,List.all_cons]
def oq{α:Type}(l:List α)(p:α->Bool)(k:Nat)(a:k<l.j):(l.drop k).any p=(p l[k]||(l.drop (k+1)).any p):=by rw[xp a,List.any_cons]
def eE(w:U)(vb:Nat)(r:O)(vs args:κ)(neg:Bool)(c:ByteArray)(q:O)(h:Ti w vb #[r] 246)(z:To lo w r vs){m:Nat}(hs:To m w q args)(v:vs.j<=1000)(A:args.j<=1000):
  Calls prog 149 #[(π vb),.agg #[.i neg,.d c,q]] w λe f=>e=ε (.i (qI vs args))/\μ w f:=by
 obtain⟨B,o,rfl⟩:=hs.qy;have b:=(zn w.o.q w).C (zf _) (.E #[.i neg,.d c,.k B args.j o] 90);have a:=h.u b;have j:=z.u b;go_enter func149,ntmps149;go_wp2;go_loop [10] (λi=>∃k:Nat,k<=args.j/\i=ι k/\X (qI vs args=(args.drop k).all λt=>!zQ t||yi t vs)) (λi=>args.j-(intOf i).D);exact⟨0,zs _,rfl,rfl⟩;obtain⟨k,C,rfl,H⟩:=hrel;by_cases l:k<args.j
 .obtain⟨g,rfl,D,y⟩:=hs.cell k l;have n:=oT args (λt=>!zQ t||yi t vs) k l;generalize args[k]=x at *;have p:X (qI vs args=((!zQ x||yi x vs)&&(args.drop (k+1)).all λt=>!zQ t||yi t vs)):=by rw[X,H.l,n]
  cases s:zQ x
  .have d:X (qI vs args=(args.drop (k+1)).all λt=>!zQ t||yi t vs):=by rw[X,p.l,s];rfl
   go_wp2_with (go_at_call 156;refine(lX _ _).y ?_;rintro e f ⟨rfl,rfl⟩)
   go_round;exact⟨k+1,η,ξ,d⟩;simp[intOf];omega
  cases u:yi x vs
  .have d:X (qI vs args=false):=by rw[X,p.l,u,s];rfl
   go_wp2_with (first|(go_at_call 156;refine(lX _ _).y ?_;rintro e f ⟨rfl,rfl⟩)|(go_at_call 183;refine(i4 _ vb _ vs x a j v).y ?_;rintro e f ⟨rfl,rfl⟩))
   go_ret;exact⟨by rw[d.l];rfl,b⟩
  have d:X (qI vs args=(args.drop (k+1)).all λt=>!zQ t||yi t vs):=by rw[X,p.l,u];simp
  go_wp2_with (first|(go_at_call 156;refine(lX _ _).y ?_;rintro e f ⟨rfl,rfl⟩)|(go_at_call 183;refine(i4 _ vb _ vs x a j v).y ?_;rintro e f ⟨rfl,rfl⟩))
  go_round;exact⟨k+1,η,ξ,d⟩;simp[intOf];omega
 have d:X (qI vs args=true):=by rw[X,H.l,uk η];rfl
 go_wp2;go_ret;exact⟨by rw[d.l];rfl,b⟩
def yQ(c:zc):Bool:=decide (3<c.g.k.j)||decide (6<c.d.j)||c.d.any (λl=>decide (3<l.k.j))||decide (5<(um c).j)
def xB(c:zc):Bool:=qI (zx c) c.g.k&&c.d.all λl=>!l.i||qI (zx c) l.k
def DY(w:U)(c:zc)(z vb:O)(hs:To lo w z c.g.k)(B:TN lo w vb c.d)(hl:c.g.k.j+xj c.d<=1000)(C:c.d.j<=1000):
  Calls prog 101 #[.agg #[.i c.g.i,.d c.g.o,z,vb]] w λe w'=>e=ε (.i (yQ c))/\μ w w':=by
 have d:=λW J y=>Qa (lo:=lo) W c z vb J y hl C;obtain⟨ao,E,rfl⟩:=hs.qy;obtain⟨F,o,rfl⟩:=B.qy;have u:=Th d;clear d;by_cases h:3<c.g.k.j∨6<c.d.j
 .have j:X (yQ c=true):=by unfold X yQ;rcases h with h|h<;>simp[h]
  go_enter func101,ntmps101;rcases h with h|h
  .go_wp2;go_ret;exact⟨by rw[j.l];rfl,γ⟩
  by_cases N:3<c.g.k.j
  all_goals
   go_wp2;go_ret;exact⟨by rw[j.l];rfl,γ⟩
 have N:¬3<c.g.k.j:=η;have V:¬6<c.d.j:=η;have j:X (yQ c=(c.d.any (λl=>decide (3<l.k.j))||decide (5<(um c).j))):=by unfold X yQ;simp[N,V]
 clear h;go_enter func101,ntmps101;go_wp2;go_loopw [20] (λi wr=>∃k:Nat,k<=c.d.j/\i=ι k/\μ w wr/\Ti wr w.o.q #[.i c.g.i,.d c.g.o,.k ao c.g.k.j E,.k F c.d.j o] 171/\X (yQ c=((c.d.drop k).any (λl=>decide (3<l.k.j))||decide (5<(um c).j)))) (λi _=>c.d.j-(intOf i).D);exact⟨0,zs _,rfl,γ,Ti.new _ _ _,j⟩;obtain⟨k,hk,rfl,b,n,H⟩:=hrel;have P:=b.q;by_cases r:k<c.d.j
 .obtain⟨g,aa,L,rfl,I,m,q,p,D⟩:=B.cell k r;have S:=zi b I m;have T:=zi b I q;have ad:=zi b I p;have ae:g<wr.o.q:=η;have t:=oq c.d (λl=>decide (3<l.k.j)) k r;clear m q p D;generalize c.d[k]=a at *;have v:X (yQ c=(decide (3<a.k.j)||(c.d.drop (k+1)).any (λl=>decide (3<l.k.j))||decide (5<(um c).j))):=by rw[X,H.l,t]
  clear t H j;by_cases Q:3<a.k.j
  .have s:X (yQ c=true):=by rw[X,v.l];simp[Q]
   clear v;go_wp2;go_ret;exact⟨by rw[s.l];rfl,γ⟩
  have s:X (yQ c=((c.d.drop (k+1)).any (λl=>decide (3<l.k.j))||decide (5<(um c).j))):=by rw[X,v.l];simp[Q]
  clear v;go_wp2;go_roundw;exact⟨k+1,η,ξ,γ,n.u γ,s⟩;simp[intOf];omega
 have s:X (yQ c=decide (5<(um c).j)):=by rw[X,H.l,uk η];simp
 have x:=hs.u b;have K:=B.u b;obtain⟨hc,hf,R⟩:=n.e;clear H j;go_wp2_with (first|(go_at_call 145;refine(u.l _ x K).y ?_;rintro e w1 ⟨nv,rfl,f,A⟩;obtain⟨ab,M,rfl⟩:=zr f;have G:=Tl b A;have ac:=G.q)|(go_at_call 146;refine(UJ _ _ _ (um c) (by exact Ti.new _ _ _) (by exact zy f γ)).y ?_;rintro e w2 ⟨rfl,rfl⟩))
 go_ret;exact⟨by rw[s.l];simp;omega,γ⟩
def GL(w:U)(c:zc)(va vb:O)(hs:To lo w va c.g.k)(hb:TN lo w vb c.d)(hl:c.g.k.j+xj c.d<=1000)(ad:c.d.j<=1000):
  Calls prog 103 #[.agg #[.i c.g.i,.d c.g.o,va,vb]] w λe w'=>e=ε (.i (xB c))/\μ w w':=by
 have t:=λW ag aa=>oA (lo:=lo) W c va vb ag aa hl ad;obtain⟨ao,an,rfl⟩:=hs.qy;obtain⟨aq,ai,rfl⟩:=hb.qy;have y:=Th t;clear t;have s:(zx c).j<=1000:=by have:=iz c.d [];unfold zx;simp at this;omega
 have m:∀k (V:k<c.d.j),c.d[k].k.j<=1000:=λk V=>by
  have:=sH c.d k V;rw[yn V] at this;simp at this;omega
 have E:=Th m;clear m;cases hH:qI (zx c) c.g.k
 .have N:X (xB c=false):=by unfold X xB;simp[hH]
  go_enter func103,ntmps103;go_wp2_with (first|(go_at_call 148;refine(y.l _ (by exact hs.u γ) (by exact hb.u γ)).y ?_;rintro e w1 ⟨nv,rfl,b,o⟩;obtain⟨B,p,rfl⟩:=zr b;have f:=Tl zO o;have D:=f.q;have j:=(Ti.new w _ _).u o;obtain⟨ae,ac,M⟩:=j.e)|(go_at_call 149;refine(eE _ _ _ (zx c) c.g.k _ _ _ (by exact Ti.new _ _ _) (by exact zy b γ) (by exact(hs.u f).u γ) s η).y ?_;rintro e w2 ⟨rfl,h⟩;have A:=Tl (f.C D _) h))
  go_ret;exact⟨by rw[N.l];rfl,A⟩
 have N:X (xB c=c.d.all λl=>!l.i||qI (zx c) l.k):=by unfold X xB;simp[hH]
 go_enter func103,ntmps103;go_wp2_with (first|(go_at_call 148;refine(y.l _ (by exact hs.u γ) (by exact hb.u γ)).y ?_;rintro e w1 ⟨nv,rfl,b,o⟩;obtain⟨B,p,rfl⟩:=zr b;have f:=Tl zO o;have D:=f.q;have j:=(Ti.new w _ _).u o;obtain⟨ae,ac,M⟩:=j.e)|(go_at_call 149;refine(eE _ _ _ (zx c) c.g.k _ _ _ (by exact Ti.new _ _ _) (by exact zy b γ) (by exact(hs.u f).u γ) s η).y ?_;rintro e w2 ⟨rfl,h⟩;have A:=Tl (f.C D _) h;have af:=h.q;simp only[U.size_alloc] at af;have R:=(j.u zO).u h;obtain⟨am,au,ab⟩:=R.e;have T:=(Ti.new w1 _ _).u h;have z:=zy (zy b zO) h))
 go_loopw [15] (λi wr=>∃k:Nat,k<=c.d.j/\i=ι k/\μ w wr/\Ti wr w1.o.q #[.k B (zx c).j p] 246/\To 0 wr (.k B (zx c).j p) (zx c)/\X (xB c=(c.d.drop k).all λl=>!l.i||qI (zx c) l.k)) (λi _=>c.d.j-(intOf i).D);exact⟨0,zs _,rfl,A,T,yo z (zs _),N⟩;obtain⟨k,V,rfl,d,r,q,H⟩:=hrel;have aj:=d.q;by_cases G:k<c.d.j
 .obtain⟨g,al,ah,rfl,hg,K,u,v,P⟩:=hb.cell k G;have L:=zi d hg K;have ak:=zi d hg u;have ap:=zi d hg v;have ar:g<wr.o.q:=η;have S:=oT c.d (λl=>!l.i||qI (zx c) l.k) k G;have x:=P.u d;have Q:=E.l k G;clear K u v P;generalize c.d[k]=a at *;have J:X (xB c=((!a.i||qI (zx c) a.k)&&(c.d.drop (k+1)).all λl=>!l.i||qI (zx c) l.k)):=by rw[X,H.l,S]
  clear S H N;cases C:a.i
  .have I:X (xB c=(c.d.drop (k+1)).all λl=>!l.i||qI (zx c) l.k):=by rw[X,J.l,C];rfl
   rw[C] at L;clear J C;go_wp2;go_roundw;exact⟨k+1,η,ξ,γ,r.u γ,q.u γ,I⟩;simp[intOf];omega
  rw[C] at L;cases hC:qI (zx c) a.k
  .have I:X (xB c=false):=by rw[X,J.l,hC,C];rfl
   clear J C;go_wp2_with (go_at_call 149;refine(eE _ _ _ (zx c) a.k _ _ _ (by exact r.u γ) (by exact q.u γ) (by exact x.u γ) s Q).y ?_;rintro e w3 ⟨rfl,F⟩;have n:=Tl ((zn wr.o.q wr).C (zf _) _) F)
   go_ret;exact⟨by rw[I.l];rfl,Tl d n⟩
  have I:X (xB c=(c.d.drop (k+1)).all λl=>!l.i||qI (zx c) l.k):=by rw[X,J.l,hC];simp
  clear J C;go_wp2_with (go_at_call 149;refine(eE _ _ _ (zx c) a.k _ _ _ (by exact r.u γ) (by exact q.u γ) (by exact x.u γ) s Q).y ?_;rintro e w3 ⟨rfl,F⟩;have n:=Tl ((zn wr.o.q wr).C (zf _) _) F)
  go_roundw;exact⟨k+1,η,ξ,Tl d n,r.u n,q.u n,I⟩;simp[intOf];omega
 have I:X (xB c=true):=by rw[X,H.l,uk η];rfl
 clear H N;go_wp2;go_ret;exact⟨by rw[I.l];rfl,d⟩
def TR.cell{T:TypeId}{w:U}{m:Option Addr}{n cap:Nat}{cs:Ξ}(h:TR lo T w (.k m n cap) cs)(k:Nat)(o:k<cs.j):∃g d a e b,m=Z (δ g)/\g<w.o.q ∧
  w.p (ω g (k*4))=Z (.i cs[k].g.i)/\w.p (ω g (k*4+1))=Z (.d cs[k].g.o)/\w.p (ω g (k*4+2))=Z (.k d cs[k].g.k.j a) ∧
  w.p (ω g (k*4+3))=Z (.k e cs[k].d.j b)/\To lo w (.k d cs[k].g.k.j a) cs[k].g.k/\TN lo w (.k e cs[k].d.j b) cs[k].d:=by
 obtain⟨y,q,r⟩:=h;obtain⟨g,j,f,_,s,c⟩:=yq q η;simp at f;obtain⟨x,z,v,t,u,p,l,i⟩:=r.at k cs[k] (by simp[o]);obtain⟨d,a,rfl⟩:=l.qy;obtain⟨e,b,rfl⟩:=i.qy;exact⟨g,d,a,e,b,f.1,s,c _ _ v,c _ _ t,c _ _ u,c _ _ p,l,i⟩
def qb(c:zc):Prop:=c.g.k.j+xj c.d<=1000/\c.d.j<=1000
def tN(w:U)(v:O)(cs:Ξ)(n:TR lo 171 w v cs)(s:∀c∈cs,qb c)(V:cs.j<=1000):
  Calls prog 61 #[v] w λe R=>e=ε (.i (cs.any yQ))/\μ w R:=by
 obtain⟨T,P,rfl⟩:=n.qy;have x:=Th s;go_enter func61,ntmps61;go_wp2;go_loopw [7] (λi wr=>∃k:Nat,k<=cs.j/\i=ι k/\μ w wr/\X (cs.any yQ=(cs.drop k).any yQ)) (λi _=>cs.j-(intOf i).D);exact⟨0,zs _,rfl,zn _ _,rfl⟩;obtain⟨k,S,rfl,b,H⟩:=hrel;have F:=b.q;by_cases l:k<cs.j
 .have u:=oq cs yQ k l;obtain⟨g,L,C,N,D,rfl,q,r,A,y,t,z,B⟩:=n.cell k l;have J:=zi b q r;have K:=zi b q A;have Q:=zi b q y;have I:=zi b q t;have d:=z.u b;have f:=B.u b;obtain⟨m,o⟩:=x.l _ (zq l);generalize cs[k]=a at *;have G:X (cs.any yQ=(yQ a||(cs.drop (k+1)).any yQ)):=by rw[X,H.l,u]
  cases E:yQ a
  .have p:X (cs.any yQ=(cs.drop (k+1)).any yQ):=by rw[X,G.l,E];rfl
   go_wp2_with (go_at_call 101;refine(DY _ a _ _ (by exact d.u γ) (by exact f.u γ) m o).y ?_;rintro e M ⟨rfl,h⟩;have j:=Tl ((zn wr.o.q wr).C (zf _) _) h)
   go_roundw;exact⟨k+1,η,ξ,Tl b j,p⟩;simp[intOf];omega
  have p:X (cs.any yQ=true):=by rw[X,G.l,E];rfl
  go_wp2_with (go_at_call 101;refine(DY _ a _ _ (by exact d.u γ) (by exact f.u γ) m o).y ?_;rintro e M ⟨rfl,h⟩;have j:=Tl ((zn wr.o.q wr).C (zf _) _) h)
  go_ret;exact⟨by rw[p.l];rfl,Tl b j⟩
 have p:X (cs.any yQ=false):=by rw[X,H.l,uk η];rfl
 go_wp2;go_ret;exact⟨by rw[p.l];rfl,b⟩
def Bs(w:U)(v:O)(cs:Ξ)(n:TR lo 171 w v cs)(s:∀c∈cs,qb c)(V:cs.j<=1000):
  Calls prog 63 #[v] w λe R=>e=ε (.i (cs.all xB))/\μ w R:=by
 obtain⟨T,P,rfl⟩:=n.qy;have x:=Th s;go_enter func63,ntmps63;go_wp2;go_loopw [7] (λi wr=>∃k:Nat,k<=cs.j/\i=ι k/\μ w wr/\X (cs.all xB=(cs.drop k).all xB)) (λi _=>cs.j-(intOf i).D);exact⟨0,zs _,rfl,zn _ _,rfl⟩;obtain⟨k,S,rfl,b,H⟩:=hrel;have F:=b.q;by_cases l:k<cs.j
 .have u:=oT cs xB k l;obtain⟨g,L,C,N,D,rfl,q,r,A,y,t,z,B⟩:=n.cell k l;have J:=zi b q r;have K:=zi b q A;have Q:=zi b q y;have I:=zi b q t;have d:=z.u b;have f:=B.u b;obtain⟨m,o⟩:=x.l _ (zq l);generalize cs[k]=a at *;have G:X (cs.all xB=(xB a&&(cs.drop (k+1)).all xB)):=by rw[X,H.l,u]
  cases E:xB a
  .have p:X (cs.all xB=false):=by rw[X,G.l,E];rfl
   go_wp2_with (go_at_call 103;refine(GL _ a _ _ (by exact d.u γ) (by exact f.u γ) m o).y ?_;rintro e M ⟨rfl,h⟩;have j:=Tl ((zn wr.o.q wr).C (zf _) _) h)
   go_ret;exact⟨by rw[p.l];rfl,Tl b j⟩
  have p:X (cs.all xB=(cs.drop (k+1)).all xB):=by rw[X,G.l,E];rfl
  go_wp2_with (go_at_call 103;refine(GL _ a _ _ (by exact d.u γ) (by exact f.u γ) m o).y ?_;rintro e M ⟨rfl,h⟩;have j:=Tl ((zn wr.o.q wr).C (zf _) _) h)
  go_roundw;exact⟨k+1,η,ξ,Tl b j,p⟩;simp[intOf];omega
 have p:X (cs.all xB=true):=by rw[X,H.l,uk η];rfl
 go_wp2;go_ret;exact⟨by rw[p.l];rfl,b⟩
end
section
open Go.Proofs.Tryz Go.RowKit
structure zg where
 name:ByteArray
 jh:Nat
 L:Nat
abbrev Ψ:=List zg
def TC(a b:ByteArray):Bool:=Op.bytesLess a.v b.v
def zW:List zg->ByteArray->Nat
 |[],_=>0
 |e::r,n=>if TC e.name n then zW r n+1 else 0
def Aa:∀(t:Ψ) (n:ByteArray),zW t n<=t.j
 |[],_=>zf _
 |e::r,n=>by have:=Aa r n;unfold zW;split<;>simp<;>omega
def AG:∀(t:Ψ) (n:ByteArray) (k:Nat),(∀j (c:j<t.j),j<k->TC t[j].name n=true)->k<=t.j->zW t n=k+zW (t.drop k) n
 |[],n,k,_,a=>by simp at a;subst a;simp
 |e::r,n,0,_,_=>ζ
 |e::r,n,k+1,h,a=>by
  have b:=h 0 ζ η;simp at b;have:=AG r n k (λj c d=>by have:=h (j+1) (by simpa using c) η;simpa using this) (by simpa using a);simp[zW,b];omega
def Ik(t:Ψ)(n:ByteArray)(k:Nat)(h:∀j (c:j<t.j),j<k->TC t[j].name n=true)(a:k<t.j)(b:TC t[k].name n=false):zW t n=k:=by
 rw[AG t n k h η,xp a,zW,b];rfl
def Ee(t:Ψ)(n:ByteArray)(h:∀j (a:j<t.j),TC t[j].name n=true):zW t n=t.j:=by
 rw[AG t n t.j (λj a _=>h j a) (zf _)];simp[zW]
def uo(t:List zg):List Value:=t.flatMap λe=>[.d e.name,ι (e.jh:Int),ι (e.L:Int)]
def Ba(t:Ψ):(uo t).j=t.j*3:=by
 induction t with
 |nil=>rfl
 |cons a t b=>simp[uo] at b ⊢;omega
def EJ:∀(t:Ψ) (k:Nat) (a:k<t.j),(uo t)[k*3]?=Z (.d t[k].name)/\(uo t)[k*3+1]?=Z (ι (t[k].jh:Int))/\(uo t)[k*3+2]?=Z (ι (t[k].L:Int))
 |[],k,a=>by simp at a
 |e::r,0,_=>by simp[uo]
 |e::r,k+1,a=>by
  have:=EJ r k (by simpa using a);simp only[uo,uX] at this ⊢;rw[show(k+1)*3=k*3+1+1+1 from by omega,show k*3+1+1+1+1=k*3+1+1+1+1 from rfl,show k*3+1+1+1+2=k*3+2+1+1+1 from by omega];simpa using this
def TA(B:Nat)(w:U)(tb:Nat)(t:List zg):Prop:=∃a,Ti w tb #[a] 127/\w.r B 221 3 a t.j (uo t)
def TA.u{B:Nat}{w w':U}{tb:Nat}{t:Ψ}(h:TA B w tb t)(a:μ w w'):TA B w' tb t:=by
 obtain⟨b,c,d⟩:=h;exact⟨b,c.u a,zy d a⟩
def TA.view{B:Nat}{w:U}{tb:Nat}{t:Ψ}(h:TA B w tb t):∃b a,Ti w tb #[.k b t.j a] 127/\w.r B 221 3 (.k b t.j a) t.j (uo t):=by
 obtain⟨e,d,c⟩:=h;obtain⟨b,a,rfl⟩:=zr c;exact⟨b,a,d,c⟩
def gN{B:Nat}{w:U}{b:Option Addr}{n cap:Nat}{t:Ψ}(h:w.r B 221 3 (.k b n cap) t.j (uo t))(k:Nat)(j:k<t.j):∃g,b=Z (δ g)/\g<w.o.q/\B<=g ∧
  w.p (ω g (k*3))=Z (.d t[k].name)/\w.p (ω g (k*3+1))=Z (ι (t[k].jh:Int))/\w.p (ω g (k*3+2))=Z (ι (t[k].L:Int)):=by
 obtain⟨g,d,c,l,m,a⟩:=yq h η;simp at c;obtain⟨i,e,f⟩:=EJ t k j;exact⟨g,c.1,m,l,a _ _ i,a _ _ e,a _ _ f⟩
def eo(B:Nat)(w:U)(tb:Nat)(t:Ψ)(n:ByteArray)(h:TA B w tb t)(r:t.j<=1000):
  Calls prog 126 #[(π tb),.d n] w λe q=>e=ε (ι (zW t n))/\q=w:=by
 obtain⟨s,o,l,d⟩:=h.view;obtain⟨v,x⟩:=l.H;go_enter func126,ntmps126;go_wp2;go_loop [5] (λi=>∃k:Nat,k<=t.j/\i=ι k/\X (∀j (a:j<t.j),j<k->TC t[j].name n=true)) (λi=>t.j-(intOf i).D);exact⟨0,zs _,rfl,λj a h=>η⟩;obtain⟨k,u,rfl,H⟩:=hrel;by_cases c:k<t.j
 .obtain⟨g,rfl,y,_,p,_,_⟩:=gN d k c;cases f:TC t[k].name n
  .have b:=Th (Ik t n k H.l c f);unfold TC at f;go_wp2;go_ret;exact⟨by rw[b.l];rfl,rfl⟩
  have b:X (∀j (a:j<t.j),j<k+1->TC t[j].name n=true):=λj a h=>by
   rcases gV j k with m|m;exact H.l j a m;obtain rfl:j=k:=η;exact f
  unfold TC at f;go_wp2;go_round;exact⟨k+1,η,ξ,b⟩;simp[intOf];omega
 have b:X (zW t n=k):=by
  have:=Ee t n (λj a=>H.l j a η);unfold X;omega
 go_wp2;go_ret;exact⟨by rw[b.l];rfl,rfl⟩
end
section
open Go.Proofs.Tryz Go.RowKit
variable {xs:List O}
def vl{w:U}{a:Nat}{e:TypeId}{b g n cap m:Nat}(h:w.r a e b (.k (Z (δ g)) n cap) m xs)(o:Nat):w.frozen? (ω g o)=false:=by
 obtain⟨_,⟨c,_⟩|⟨j,d,i,c,_,f,_⟩⟩:=h;cases c;simp at c;obtain⟨rfl,_⟩:=c;unfold U.frozen?;rw[f];simp
def uD{w:U}{a:Nat}{e:TypeId}{b g n cap m:Nat}(h:w.r a e b (.k (Z (δ g)) n cap) m xs)(j:Nat)(_:j<xs.j)(u:O):
  (w.x (ω g j) u).r a e b (.k (Z (δ g)) n cap) m (xs.set j u):=by
 obtain⟨k,⟨c,_⟩|⟨s,f,d,c,r,o,i,p,l,q⟩⟩:=h;cases c;simp at c;obtain⟨rfl,rfl,rfl⟩:=c;refine⟨by simpa using k,ze ⟨g,cap,d.setIfInBounds j u,rfl,r,?_,i,p,by simpa using l,?_⟩⟩;simp[U.setCell,Array.getElem?_modify,o];rw[←q];rw[Array.toList_setIfInBounds,List.take_set]
def zU(t:List zg)(n:ByteArray):Option zg:=match t[zW t n]? with
 |none=>Y
 |some e=>if e.name=n then Z e else Y
def jn{t:Ψ}{n:ByteArray}{e:zg}(h:zU t n=Z e):∃b:zW t n<t.j,t[zW t n]=e/\e.name=n:=by
 unfold zU at h;split at h;cases h;rename_i c a;split at h<;>simp at h
 subst h;obtain⟨b,a⟩:=jC.1 a;exact⟨b,a,by assumption⟩
def ie{t:Ψ}{n:ByteArray}(h:zU t n=Y):¬zW t n<t.j∨∃b:zW t n<t.j,t[zW t n].name≠n:=by
 unfold zU at h;split at h;rename_i a;left;rw[List.getElem?_eq_none_iff] at a;omega;rename_i e a;split at h<;>simp at h
 obtain⟨b,a⟩:=jC.1 a;right;exact⟨b,by rw[a];assumption⟩
def Ey(B:Nat)(w:U)(tb:Nat)(t:Ψ)(n:ByteArray)(h:TA B w tb t)(m:t.j<=1000)(j:zU t n=Y):
  Calls prog 77 #[(π tb),.d n] w λe i=>e=ε (.B #[ι 0,.i false])/\i=w:=by
 have f:=eo B w tb t n h m;obtain⟨p,l,d,b⟩:=h.view;obtain⟨r,q⟩:=d.H;have a:=Th f;rcases ie j with k|⟨k,c⟩
 .clear j;go_enter func77,ntmps77;go_wp2_with (go_at_call 126;refine a.l.y ?_;rintro e i ⟨rfl,rfl⟩;clear a)
  go_ret2
  exact⟨rfl,rfl⟩
 obtain⟨g,rfl,u,_,o,_,_⟩:=gN b _ k;have s:=vU c;go_enter func77,ntmps77;go_wp2_with (go_at_call 126;refine a.l.y ?_;rintro e i ⟨rfl,rfl⟩;clear a)
 go_ret2
 exact⟨rfl,rfl⟩
def Dz(B:Nat)(w:U)(tb:Nat)(t:Ψ)(n:ByteArray)(p:zg)(h:TA B w tb t)(m:t.j<=1000)(o:zU t n=Z p):
  Calls prog 77 #[(π tb),.d n] w λe k=>e=ε (.B #[ι (zW t n),.i true])/\k=w:=by
 have f:=eo B w tb t n h m;obtain⟨s,l,d,b⟩:=h.view;obtain⟨u,v⟩:=d.H;have a:=Th f;obtain⟨q,j,r⟩:=jn o;obtain⟨g,rfl,x,_,c,_,i⟩:=gN b _ q;rw[j] at c i;go_enter func77,ntmps77;go_wp2_with (go_at_call 126;refine a.l.y ?_;rintro e k ⟨rfl,rfl⟩;clear a)
 go_ret2
 exact⟨rfl,rfl⟩
def QN(B:Nat)(w:U)(tb:Nat)(t:Ψ)(n:ByteArray)(h:TA B w tb t)(a:t.j<=1000)(b:zU t n=Y):
  Calls prog 159 #[(π tb),.d n] w λe c=>e=ε (.B #[ι 0,.i false])/\c=w:=by
 have d:=Th (Ey B w tb t n h a b);clear h b a;go_enter func159,ntmps159;go_wp2_with (go_at_call 77;refine d.l.y ?_;rintro e c ⟨rfl,rfl⟩;clear d)
 go_ret2
 exact⟨rfl,rfl⟩
def FH(B:Nat)(w:U)(tb:Nat)(t:Ψ)(n:ByteArray)(b:zg)(h:TA B w tb t)(l:t.j<=1000)(f:zU t n=Z b):
  Calls prog 159 #[(π tb),.d n] w λe i=>e=ε (.B #[ι b.L,.i true])/\i=w:=by
 have d:=Th (Dz B w tb t n b h l f);obtain⟨r,j,c,a⟩:=h.view;obtain⟨s,u⟩:=c.H;obtain⟨m,q,p⟩:=jn f;obtain⟨g,rfl,v,_,k,_,o⟩:=gN a _ m;go_enter func159,ntmps159;go_wp2_with (go_at_call 77;refine d.l.y ?_;rintro e i ⟨rfl,rfl⟩;clear d)
 go_ret2
 exact⟨rfl,rfl⟩
def Fc:∀(t:Ψ) (k:Nat) (e:zg) (b:k<t.j),t[k].name=e.name->t[k].jh=e.jh->(uo t).set (k*3+2) (ι (e.L:Int))=uo (t.set k e)
 |[],k,_,b,_,_=>by simp at b
 |a::r,0,e,_,c,d=>by simp at c d;simp[uo,c,d]
 |a::r,k+1,e,b,c,d=>by
  have:=Fc r k e (by simpa using b) (by simpa using c) (by simpa using d);simp only[uo,uX,pC] at this ⊢;rw[show(k+1)*3+2=k*3+2+1+1+1 from by omega];simpa using this
def xZ(t:List zg)(n:ByteArray)(s:Nat):List zg×Bool:=match zU t n with
 |none=>(t,false)
 |some e=>if s<=e.L then(t,false) else(t.set (zW t n) {e with L:=s},true)
def JD(t:Ψ)(n:ByteArray)(s:Nat):(xZ t n s).1.j=t.j:=by
 unfold xZ;split;rfl;split<;>simp
def Uw(B:Nat)(w:U)(tb:Nat)(t:Ψ)(n:ByteArray)(s:Nat)(h:TA B w tb t)(z:t.j<=1000)(_:s<=3000000):
  Calls prog 151 #[(π tb),.d n,ι s] w λe o=>e=ε (.i (xZ t n s).2)/\TA B o tb (xZ t n s).1/\Below B w o:=by
 obtain⟨L,F,b,a⟩:=h.view;obtain⟨K,J⟩:=b.H;have A:=Th h;rcases f:zU t n with _|i
 .have l:X (xZ t n s=(t,false)):=by unfold X xZ;rw[f]
  have d:=Th (Ey B w tb t n h z f);rw[l.l];go_enter func151,ntmps151;go_wp2_with (go_at_call 77;refine d.l.y ?_;rintro e o ⟨rfl,rfl⟩;clear d)
  go_ret;exact⟨rfl,A,zn _ _⟩
 have d:=Th (Dz B w tb t n i h z f);obtain⟨x,k,H⟩:=jn f;obtain⟨g,rfl,M,v,D,_,G⟩:=gN a _ x;have C:=vl a;by_cases p:s<=i.L
 .have l:X (xZ t n s=(t,false)):=by unfold X xZ;rw[f];simp[p]
  rw[l.l];go_enter func151,ntmps151;go_wp2_with (go_at_call 77;refine d.l.y ?_;rintro e o ⟨rfl,rfl⟩;clear d)
  go_ret;exact⟨rfl,A,zn _ _⟩
 have l:X (xZ t n s=(t.set (zW t n) {i with L:=s},true)):=by unfold X xZ;rw[f];simp[p]
 rw[l.l];have c:=uD a (zW t n*3+2) (by rw[Ba];omega) (ι (s:Int));rw[Fc t (zW t n) {i with L:=s} x (by rw[k]) (by rw[k])] at c;have j:tb≠g:=by
  intro r;subst r;obtain⟨_,⟨q,_⟩|⟨N,y,I,q,_,E,_⟩⟩:=a;cases q;simp at q;obtain⟨rfl,_⟩:=q;unfold Ti at b;rw[E] at b;simp at b
 have m:=b.set_ne j (zW t n*3+2) (ι (s:Int));have u:X (TA B (w.x (ω g (zW t n*3+2)) (ι (s:Int))) tb (t.set (zW t n) {i with L:=s})):=⟨_,m,by simpa using c⟩;go_enter func151,ntmps151;go_wp2_with (go_at_call 77;refine d.l.y ?_;rintro e o ⟨rfl,rfl⟩;clear d)
 go_ret;exact⟨rfl,u,(zn _ _).x v _⟩
end
section
open Go.Proofs.Tryz Go.RowKit
variable {lo:Nat}
def kw(t:List zg)(l:zj):Nat:=match zU t l.o with
 |none=>0
 |some e=>if l.i then e.L+1 else e.L
def qP(t:List zg)(n:Nat)(l:zj):Nat:=if n<kw t l then kw t l else n
def jy(t:List zg)(c:zc):Nat:=c.d.H (qP t) 0
def FW{t:Ψ}{M:Nat}(h:∀e∈t,e.L<=M)(l:zj):kw t l<=M+1:=by
 unfold kw;split;omega;rename_i e c;obtain⟨b,a,_⟩:=jn c;have:=h e (by rw[←a];exact zq b);split<;>omega
def EN{t:Ψ}{M:Nat}(h:∀e∈t,e.L<=M):∀(a:Ω) (n:Nat),n<=M+1->a.H (qP t) n<=M+1
 |[],n,b=>b
 |l::a,n,b=>by
  refine EN h a _ ?_;unfold qP;have:=FW h l;split<;>omega
def Dn(B M:Nat)(w:U)(tb:Nat)(t:Ψ)(c:zc)(J vb:O)(h:TA B w tb t)(F:t.j<=1000)(P:∀e∈t,e.L<=M)(W:M<=2000000)(hs:To lo w J c.g.k)(N:TN lo w vb c.d)(V:c.d.j<=1000):
  Calls prog 150 #[(π tb),.agg #[.i c.g.i,.d c.g.o,J,vb]] w λe w'=>e=ε (ι (jy t c))/\μ w w':=by
 obtain⟨ao,aa,rfl⟩:=hs.qy;obtain⟨ac,L,rfl⟩:=N.qy;have T:=Th P;clear P;go_enter func150,ntmps150;go_wp2;go_loopw [5,13] (λn i wr=>∃k m:Nat,k<=c.d.j/\i=ι k/\n=ι m/\m<=M+1/\μ w wr/\X (m=(c.d.G k).H (qP t) 0)) (λ_ i _=>c.d.j-(intOf i).D);exact⟨0,0,zs _,rfl,rfl,zs _,γ,rfl⟩;obtain⟨k,m,hk,rfl,rfl,E,d,H⟩:=hrel;have Q:=d.q;by_cases z:k<c.d.j
 .obtain⟨g,S,I,rfl,D,u,y,x,C⟩:=N.cell k z;have v:=zi d D u;have R:=zi d D y;have ab:=zi d D x;have ad:g<wr.o.q:=η;have r:X ((c.d.G (k+1)).H (qP t) 0=qP t m c.d[k]):=by rw[X,H.l,yN z,qZ];rfl
  have q:=h.u d;clear u y x C H;generalize c.d[k]=a at *;have o:=FW T.l a;rcases j:zU t a.o with _|f
  .have l:X (kw t a=0):=by unfold X kw;rw[j]
   have G:X ((c.d.G (k+1)).H (qP t) 0=m):=by rw[X,r.l,qP,l.l];simp
   have A:=Th j;clear r l j o;go_wp2_with (go_at_call 159;refine(QN B _ tb t a.o (by exact q.u γ) F A).y ?_;rintro e K ⟨rfl,rfl⟩)
   go_roundw;exact⟨k+1,m,η,ξ,rfl,E,γ,G.l.z⟩;simp[intOf];omega
  have A:=Th j;cases s:a.i
  .have p:kw t a=f.L:=by unfold kw;rw[j,s];rfl
   have l:X (qP t m a=if m<f.L then f.L else m):=by unfold X qP;rw[p]
   rw[s] at v;rw[p] at o;clear p j s;by_cases b:m<f.L
   all_goals
    go_wp2_with (go_at_call 159;refine(FH B _ tb t a.o f (by exact q.u γ) F A).y ?_;rintro e K ⟨rfl,rfl⟩)
    go_roundw;first|exact⟨k+1,f.L,η,ξ,ξ,η,γ,by rw[X,r.l,l.l,zb b]⟩|exact⟨k+1,m,η,ξ,rfl,E,γ,by rw[X,r.l,l.l,za b]⟩
    simp[intOf];omega
  have p:kw t a=f.L+1:=by unfold kw;rw[j,s];rfl
  have l:X (qP t m a=if m<f.L+1 then f.L+1 else m):=by unfold X qP;rw[p]
  rw[s] at v;rw[p] at o;clear p j s;by_cases b:m<f.L+1
  all_goals
   go_wp2_with (go_at_call 159;refine(FH B _ tb t a.o f (by exact q.u γ) F A).y ?_;rintro e K ⟨rfl,rfl⟩)
   go_roundw;first|exact⟨k+1,f.L+1,η,ξ,ξ,η,γ,by rw[X,r.l,l.l,zb b]⟩|exact⟨k+1,m,η,ξ,rfl,E,γ,by rw[X,r.l,l.l,za b]⟩
   simp[intOf];omega
 have G:X (m=jy t c):=by rw[X,H.l,yV η];rfl
 clear H;go_wp2;go_ret;exact⟨by rw[←G.l];rfl,d⟩
def vZ(x:List zg×Bool)(c:zc):List zg×Bool:=((xZ x.1 c.g.o (jy x.1 c)).1,x.2||(xZ x.1 c.g.o (jy x.1 c)).2)
def qa(t:List zg)(cs:List zc):List zg×Bool:=cs.H vZ (t,false)
def Pe{t:Ψ}{n:ByteArray}{s M:Nat}(h:∀e∈t,e.L<=M)(hs:s<=M):∀e∈(xZ t n s).1,e.L<=M:=by
 unfold xZ;split;exact h;split;exact h;intro e a;rcases mn a with a|a;exact h e a;subst a;exact hs
def P6{α β:Type}(f:β->α->β)(b:β)(l:List α)(k:Nat)(a:k<l.j):(l.G (k+1)).H f b=f ((l.G k).H f b) l[k]:=by rw[yN a,qZ];rfl
def Lz(B M:Nat)(w:U)(tb:Nat)(t:Ψ)(v:O)(cs:Ξ)(H:U)(ac:H.o.q=B)(I:Below B H w)(K:TR lo 171 H v cs)(G:∀c∈cs,qb c)(_:cs.j<=1000)
  (h:TA B w tb t) (hl:t.j<=1000) (hM:∀e∈t,e.L<=M) (ap:M+cs.j<=1900000):
  Calls prog 104 #[(π tb),v] w λe w'=>e=ε (.i (qa t cs).2)/\TA B w' tb (qa t cs).1/\Below B w w'/\(qa t cs).1.j=t.j/\(∀e∈(qa t cs).1,e.L<=M+cs.j):=by
 obtain⟨ao,aq,rfl⟩:=K.qy;have W:X (∀c∈cs,qb c):=G;have ae:=I.q;clear G;go_enter func104,ntmps104;go_wp2;go_loopw [5,11] (λr i wr=>∃k:Nat,k<=cs.j/\i=ι k/\r=.i ((cs.G k).H vZ (t,false)).2/\Below B w wr/\TA B wr tb ((cs.G k).H vZ (t,false)).1/\((cs.G k).H vZ (t,false)).1.j=t.j/\X (∀e∈((cs.G k).H vZ (t,false)).1,e.L<=M+k)) (λ_ i _=>cs.j-(intOf i).D);exact⟨0,zs _,rfl,rfl,zn _ _,h,rfl,hM⟩;obtain⟨k,hk,rfl,rfl,b,d,A,u⟩:=hrel;have j:Below H.o.q H wr:=by rw[ac];exact I.A b
 have ag:=b.q;by_cases C:k<cs.j
 .have F:=P6 vZ (t,false) cs k C;obtain⟨g,al,ad,an,af,rfl,hg,E,Q,L,J,N,o⟩:=K.cell k C;have ai:=(j.cell (p:=(ω g (k*4))) η).A E;have ak:=(j.cell (p:=(ω g (k*4+1))) η).A Q;have au:=(j.cell (p:=(ω g (k*4+2))) η).A L;have ah:=(j.cell (p:=(ω g (k*4+3))) η).A J;have av:g<wr.o.q:=η;have q:=N.u j;have s:=o.u j;obtain⟨am,P⟩:=W.l _ (zq C);clear E Q L J N o;generalize cs[k]=a at *;generalize (cs.G k).H vZ (t,false)=x at *;obtain⟨tk,rk⟩:=x;simp only at d A u ⊢;have R:X ((cs.G (k+1)).H vZ (t,false)=vZ (tk,rk) a):=F;clear F;have ar:jy tk a<=M+k+1:=EN u.l a.d 0 η;have aj:=JD tk a.g.o (jy tk a);have HB:X (∀e∈(xZ tk a.g.o (jy tk a)).1,e.L<=M+(k+1)):=Pe (λe he=>by have:=u.l e he;omega) η;cases hR:(xZ tk a.g.o (jy tk a)).2
  .have n:X (((cs.G (k+1)).H vZ (t,false))=((xZ tk a.g.o (jy tk a)).1,rk)):=by rw[X,R.l,vZ];simp[hR]
   clear R;go_wp2_with (first|(go_at_call 150;refine(Dn B (M+k) _ tb tk a _ _ (by exact d.u γ) η u.l η (by exact q.u γ) (by exact s.u γ) P).y ?_;rintro e w1 ⟨rfl,l⟩;have f:=Tl ((zn wr.o.q wr).C (zf _) _) l;have z:=d.u f;have aa:=f.q;have m:=(Ti.new wr _ _).u l;obtain⟨V,S⟩:=m.H)|(go_at_call 151;refine(Uw B _ tb tk a.g.o (jy tk a) z η η).y ?_;rintro e w2 ⟨rfl,y,D⟩))
   go_roundw;exact⟨k+1,η,ξ,by rw[n.l],(b.A (f.y η)).A D,by rw[n.l];exact y,by rw[n.l];simp only;omega,by rw[n.l];exact HB⟩;simp[intOf];omega
  have n:X (((cs.G (k+1)).H vZ (t,false))=((xZ tk a.g.o (jy tk a)).1,true)):=by rw[X,R.l,vZ];simp[hR]
  clear R;go_wp2_with (first|(go_at_call 150;refine(Dn B (M+k) _ tb tk a _ _ (by exact d.u γ) η u.l η (by exact q.u γ) (by exact s.u γ) P).y ?_;rintro e w1 ⟨rfl,l⟩;have f:=Tl ((zn wr.o.q wr).C (zf _) _) l;have z:=d.u f;have aa:=f.q;have m:=(Ti.new wr _ _).u l;obtain⟨V,S⟩:=m.H)|(go_at_call 151;refine(Uw B _ tb tk a.g.o (jy tk a) z η η).y ?_;rintro e w2 ⟨rfl,y,D⟩))
  go_roundw;exact⟨k+1,η,ξ,by rw[n.l],(b.A (f.y η)).A D,by rw[n.l];exact y,by rw[n.l];simp only;omega,by rw[n.l];exact HB⟩;simp[intOf];omega
 have hE:cs.G k=cs:=yV η;rw[hE] at d A u ⊢;have ab:k=cs.j:=η;have T:X (∀e∈(qa t cs).1,e.L<=M+cs.j):=by rw[←ab];exact u
 clear hE u;go_wp2;go_ret;exact⟨rfl,d,b,A,T⟩
def ui:Nat->List zg->List zc->List zg×Bool
 |0,t,_=>(t,false)
 |m+1,t,a=>if (qa t a).2 then ui m (qa t a).1 a else((qa t a).1,true)
def DT(B:Nat)(w:U)(tb:Nat)(t:Ψ)(v:O)(cs:Ξ)(o:U)(z:o.o.q=B)(D:Below B o w)(F:TR lo 171 o v cs)(m:∀c∈cs,qb c)(x:cs.j<=1000)
  (h:TA B w tb t) (hl:t.j<=1000) (R:∀e∈t,e.L<=0):
  Calls prog 64 #[(π tb),v] w λe A=>e=ε (.i (ui (t.j+1) t cs).2)/\TA B A tb (ui (t.j+1) t cs).1/\Below B w A:=by
 have G:X (∀c∈cs,qb c):=m;have N:X (o.o.q=B):=z;clear m z;go_enter func64,ntmps64;go_wp2;go_loopw [5] (λi wr=>∃(p:Nat) (tk:Ψ),p<=t.j+1/\i=ι p/\Below B w wr/\TA B wr tb tk/\tk.j=t.j/\X (∀e∈tk,e.L<=p*cs.j)/\X (ui (t.j+1) t cs=ui (t.j+1-p) tk cs)) (λi _=>t.j+1-(intOf i).D);exact⟨0,t,zs _,rfl,zn _ _,h,rfl,(by simpa [X] using R),rfl⟩;obtain⟨p,tk,W,rfl,b,j,J,K,H⟩:=hrel;obtain⟨V,Q,n,u⟩:=j.view;obtain⟨P,T⟩:=n.H;rw[J] at P n u;by_cases S:p<=t.j
 .have r:p*cs.j<=1000*1000:=Nat.mul_le_mul η x;have y:=Lz B (p*cs.j) wr tb tk v cs o N.l (D.A b) F G.l x j η K.l η;have a:X (Calls prog 104 #[(π tb),v] wr λe A=>e=ε (.i (qa tk cs).2)/\TA B A tb (qa tk cs).1/\Below B wr A/\(qa tk cs).1.j=tk.j/\(∀e∈(qa tk cs).1,e.L<=p*cs.j+cs.j)):=y;have s:t.j+1-p=(t.j-p)+1:=η;have C:X (ui (t.j+1) t cs=if (qa tk cs).2 then ui (t.j-p) (qa tk cs).1 cs else((qa tk cs).1,true)):=by rw[X,H.l,s];rfl
  clear y s H;have q:p*cs.j+cs.j=(p+1)*cs.j:=by rw[mm];omega
  have I:X (p*cs.j+cs.j=(p+1)*cs.j):=q;clear q r K;cases l:(qa tk cs).2
  .have d:X (ui (t.j+1) t cs=((qa tk cs).1,true)):=by rw[X,C.l,l];simp
   clear C;rw[l] at a;clear l;generalize (qa tk cs).1=L at *;go_wp2_with (go_at_call 104;refine a.l.y ?_;rintro e M ⟨rfl,g,f,E,k⟩;clear a)
   go_ret;exact⟨by rw[d.l];rfl,by rw[d.l];exact g,b.A f⟩
  have d:X (ui (t.j+1) t cs=ui (t.j+1-(p+1)) (qa tk cs).1 cs):=by rw[X,C.l,l];simp
  clear C;rw[l] at a;clear l;generalize (qa tk cs).1=L at *;go_wp2_with (go_at_call 104;refine a.l.y ?_;rintro e M ⟨rfl,g,f,E,k⟩;clear a)
  go_roundw;exact⟨p+1,L,η,ξ,b.A f,g,η,by rw[I.l] at k;exact k,d⟩;simp[intOf];omega
 have d:X (ui (t.j+1) t cs=(tk,false)):=by rw[X,H.l,show t.j+1-p=0 by omega];rfl
 clear H;go_wp2;go_ret;exact⟨by rw[d.l];rfl,by rw[d.l];exact j,b⟩
end
section
open Go.Proofs.Tryz Go.RowKit
variable {w w':U}{base n b g cap m tb:Nat}{v:O}{xs:List O}{c:Array O}
def Ti.newAt(w:U)(b:Nat)(c:Array O)(T:TypeId)(h:b=w.o.q):Ti (w.C (.E c T)) b c T:=by subst h;exact Ti.new w c T
def Ti.drew{w:U}{b:Nat}{c:Array O}{T:TypeId}(h:Ti w b c T):Ti w.drew b c T:=h
def JK{e:TypeId}{a:Nat}(h:w.r base e a v n xs)(p:w.o.q<=b):Z b≠v.m:=by
 intro j;obtain⟨_,⟨f,_⟩|⟨o,l,k,i,_,d,_⟩⟩:=h;subst f;cases j;subst i;simp only[O.ownBlock,zt] at j;subst j;have:=(ks.1 d).1;omega
def mq{e T:TypeId}{d:Nat}(h:w.r base e d v n xs)(l:Ti w b c T)(p:e≠T):Z b≠v.m:=by
 intro j;obtain⟨_,⟨f,_⟩|⟨q,o,k,i,_,a,_⟩⟩:=h;subst f;cases j;subst i;simp only[O.ownBlock,zt] at j;subst j;unfold Ti at l;rw[l] at a;simp at a;exact p a.2.z
def Ti.keep{a f:U}{T:TypeId}(h:Ti a b c T)(e:Z b≠v.m)(i:∀k,k<a.o.q->Z k≠v.m->f.o[k]?=a.o[k]?):Ti f b c T:=by
 have d:=h.lt;unfold Ti at *;rw[i b d e];exact h
def RN{e T:TypeId}{a:Nat}(h:w.r base e a (.k (Z (δ g)) n cap) m xs)(k:Ti w b c T)(p:c.q<m*a):b≠g:=by
 intro r;subst r;obtain⟨_,⟨i,_⟩|⟨t,l,j,f,_,d,o,s,q,_⟩⟩:=h;cases i;simp at f;obtain⟨rfl,rfl,rfl⟩:=f;unfold Ti at k;rw[k] at d;simp at d;rw[←d.1] at q;have:=fK a o;omega
section
variable {P:Program} {ops:Array Oper} {o:Oper} {a:Act} {K:Act->U->Prop} {Q:Exit->Act->U->Prop}
def A7{E:Prop}(C D:U)(l:Γ)(W:TypeId)(M:o.guard=Y)(s x:Operand)(t:TypeId)
  (ho:o.op=.call {callee:=.builtin .append,args:=#[s,x],argTypes:=#[t,t]})
  (base:Nat) (e:TypeId) (i:TypeInfo) (z:O) (d f:Nat) (V:P.underlying t=Z (.k e)) (hi:P.info? e=Z i) (hz:i.zero=Z z)
  (A:i.q=d) (J:i.bytes=f) (I:z.E.q=d) (R:0<d)
  (v:O) (n:Nat) (xs:Γ) (hs:a.eval s=v) (y:C.r base e d v n xs) (q:μ C D)
  (b c:Nat) (hx:a.eval x=.k (Z (δ b)) 1 c) (hb:Ti D b l.toArray W) (hl:l.j=d) (h1:∀u∈l,u.oneCell'=true)
  (hn:n<=1048576) (r:f<=1000) (L:base<=C.o.q)
  (h:∀G w',w'.r base e d G (n+1) (xs++l)->Below base C w'->(∀k,k<D.o.q->Z k≠v.m->w'.o[k]?=D.o[k]?)->D.o.q<=w'.o.q->K (a.put o.dst G) w'):
  if Region.wanted o (yielded ops a.tmps)=true then Oper.wp P o a D K Q else E:=by
 have hw:Region.wanted o (yielded ops a.tmps)=true:=by simp[Region.wanted,M]
 rw[zb hw];have B:=zy y q;have N:∀k,v.m=Z k->base<=k/\k<C.o.q:=by
  intro k F;obtain⟨_,S⟩:=y;rcases S with⟨H,_⟩|⟨g,cap,aa,H,M,hh,_⟩
  .subst H;cases F
  .subst H;simp only[O.ownBlock,zt] at F;subst F;exact⟨M,(ks.1 hh).1⟩
 have T:=q.q;refine wp_append_own _ s x t ho base e i z d f V hi hz A J I R v n xs hs B (δ b) 1 c l hx η ?_ h1 ?_ ?_ ?_ ?_
 .intro j u hj;rw[Addr.add_lit,vJ,hb.H.1];simpa using hj
 .unfold maxLen;omega
 .have:(n+1)*f<=1048577*1000:=Nat.mul_le_mul η r;omega
 .omega
 .intro G w' S p _;refine h G w' S ⟨p.os.A q.os,p.tape.A q.tape,p.output.A q.output,by have:=p.q;omega,λk F=>?_⟩ p.block p.q;rw[p.block k η (λe=>by have:=N k e.z;omega)];exact q.block k η
end
def vy(t:List zg)(x:zg)(k:Nat):List zg:=t.G k++x::t.drop k
def lu(t:Ψ)(x:zg)(k:Nat):(vy t x k).j=t.j+1:=by simp[vy];omega
def OE(t:Ψ)(x:zg):vy t x t.j=t++[x]:=by simp[vy]
def Jw(t:Ψ)(x:zg)(j:Nat)(d:j<t.j):∃h:j<(vy t x (j+1)).j,(vy t x (j+1))[j]=t[j]:=by
 refine⟨by rw[lu];omega,?_⟩;unfold vy;rw[uG υ];simp
def Ji(t:Ψ)(x:zg)(j:Nat)(d:j<=t.j):∃h:j<(vy t x j).j,(vy t x j)[j]=x:=by
 refine⟨by rw[lu];omega,?_⟩;unfold vy;rw[lW υ];simp[d]
def Of(t:Ψ)(x:zg)(j:Nat)(e:j<t.j):((vy t x (j+1)).set (j+1) t[j]).set j x=vy t x j:=by
 unfold vy;have f:=yN e;have h:=xp e;have d:(t.G j).j=j:=by simp;omega
 rw[f,h,kT,fY _ _ η,d,fY _ _ η,d];simp
def CT:∀(t:Ψ) (k:Nat) (e:zg),k<t.j->(((uo t).set (k*3) (.d e.name)).set (k*3+1) (ι (e.jh:Int))).set (k*3+2) (ι (e.L:Int))=uo (t.set k e)
 |[],k,_,d=>by simp at d
 |a::r,0,e,_=>by simp[uo]
 |a::r,k+1,e,d=>by
  have:=CT r k e (by simpa using d);simp only[uo,uX,pC] at this ⊢;rw[show(k+1)*3=k*3+1+1+1 from by omega,show k*3+1+1+1+2=k*3+2+1+1+1 from by omega];simpa using this
def ox{B:Nat}{t:Ψ}(h:w.r B 221 3 (.k (Z (δ g)) n cap) m (uo t))(k:Nat)(d:k<t.j)(e:zg):
  (((w.x (ω g (k*3)) (.d e.name)).x (ω g (k*3+1)) (ι (e.jh:Int))).x (ω g (k*3+2)) (ι (e.L:Int))).r B 221 3 (.k (Z (δ g)) n cap) m (uo (t.set k e)):=by
 have f:=Ba t;rw[←CT t k e d];exact uD (uD (uD h _ η _) _ υ _) _ υ _
structure vW (tb:Nat) (w w':U):Prop where
 q:w.o.q<=w'.o.q
 box:∀b c T,b≠tb->T≠221->Ti w b c T->Ti w' b c T
def vW.refl(tb:Nat)(w:U):vW tb w w:=⟨zf _,λ_ _ _ _ _ h=>h⟩
def vW.A{a b c:U}(h:vW tb a b)(k:vW tb b c):vW tb a c:=⟨zY h.q k.q,λx y z d e f=>k.box x y z d e (h.box x y z d e f)⟩
def vW.of(h:μ w w'):vW tb w w':=⟨h.q,λ_ _ _ _ _ k=>k.u h⟩
def vW.drew{tb:Nat}{w w':U}(h:vW tb w w'):vW tb w w'.drew:=⟨h.q,λb c T d f e=>(h.box b c T d f e).drew⟩
def vW.setRow(h:vW tb w w'){B:Nat}(i:w'.r B 221 3 (.k (Z (δ g)) n cap) m xs)(o:Nat)(u:O):vW tb w (w'.x (ω g o) u):=by
 refine⟨by simp[U.setCell];exact h.q,λb c T f d j=>?_⟩;have e:=h.box b c T f d j;have:=mq i e (Ne.symm d);simp only[O.ownBlock,ne_eq,zt] at this;exact e.set_ne this _ _
def GC(h:vW tb w w'){B:Nat}{t:Ψ}(d:w'.r B 221 3 (.k (Z (δ g)) n cap) m (uo t))(k:Nat)(f:k<t.j)(u1 u2 u3:O):
  vW tb w (((w'.x (ω g (k*3)) u1).x (ω g (k*3+1)) u2).x (ω g (k*3+2)) u3):=by
 have e:=Ba t;exact((h.setRow d _ _).setRow (uD d _ η _) _ _).setRow (uD (uD d _ η _) _ υ _) _ _
def S7:(prog.info? 221).w (λi=>(i.zero,i.q,i.bytes))=Z (Z (.agg #[.d ByteArray.empty,ι 0,ι 0]),3,32):=χ
def C5(B:Nat)(w:U)(tb:Nat)(t:Ψ)(i:Nat)(x:zg)(h:TA B w tb t)(hl:t.j<=1000)(hi:i<=t.j)(hB:B<=w.o.q)(ad:B<=tb):
  Calls prog 147 #[(π tb),ι i,.agg #[.d x.name,ι x.jh,ι x.L]] w λe w'=>e=ε (.B #[])/\TA B w' tb (t.G i++x::t.drop i)/\Below B w w'/\vW tb w w':=by
 obtain⟨i0,ai,N,ab,ah⟩:=info_parts S7;obtain⟨ao,cap,z,p⟩:=h.view;obtain⟨hc,hf,ax⟩:=z.e;have u:μ w (((w.C (.E #[.d x.name,ι (x.jh:Int),ι (x.L:Int)] 221)).C (.E #[.d x.name,ι (x.jh:Int),ι (x.L:Int)] 221)).drew):=γ;go_enter func147,ntmps147;go_wp2;go_region_law (first|(refine A7 w _ [.d x.name,ι (x.jh:Int),ι (x.L:Int)] 221 rfl (.tmp 11) (.tmp 13) 125 rfl B 221 i0 _ 3 32 underlying125 ai N ab ah rfl θ _ _ _ (by simp[Act.eval]) p γ (w.o.q+1) 1 (by simp[Act.eval]) (by exact Ti.drew (Ti.newAt _ _ _ _ ζ)) rfl a_ η η hB ?_;intro v' w2 F I C ak;obtain⟨A,q,rfl⟩:=zr F;have r:=(z.u u).keep (mq p z θ) C;obtain⟨av,az⟩:=r.H;have M:=Ti.keep (Ti.drew ((Ti.new w _ _).u zO)) (JK p (zf _)) C))
 all_goals
  go_wp2;go_loopw [6] (λk wr=>∃j:Nat,i<=j/\j<=t.j/\k=ι j/\Ti wr tb #[.k A (t.j+1) q] 127/\wr.r B 221 3 (.k A (t.j+1) q) (t.j+1) (uo (vy t x j))/\Ti wr w.o.q #[.d x.name,ι (x.jh:Int),ι (x.L:Int)] 221/\Below B w wr/\vW tb w wr) (λk _=>(intOf k).D);refine⟨t.j,hi,zf _,rfl,r.set 0 _,?_,M.set_ne η _ _,?_,?_⟩;rw[OE];have:=xP F ((Tv.refl tb w2).x 0 (.k A (t.j+1) q)) r θ;simpa [uo] using this;exact I.x ad _;exact⟨by simp[U.setCell];exact I.q,λb c T h1 h2 h3=>((h3.u u).keep (mq p h3 (Ne.symm h2)) C).set_ne h1 _ _⟩;obtain⟨j,aq,au,rfl,s,l,D,H,y⟩:=hrel;obtain⟨aw,ap⟩:=s.H;obtain⟨am,an⟩:=D.H;by_cases al:i<j
  .obtain⟨j,rfl⟩:∃j',j=j'+1:=⟨j-1,η⟩;obtain⟨ae,E⟩:=Jw t x j η;obtain⟨g,rfl,hg,ay,R,ac,ag⟩:=gN (t:=vy t x (j+1)) (by rw[lu];exact l) j ae;rw[E] at R ac ag;have ar:=vl l;have d:=mq l s θ;have f:=RN l D υ;simp only[O.ownBlock,ne_eq,zt] at d;obtain⟨W,G⟩:=Ji t x (j+1) η;obtain⟨g',J,_,_,af,aj,S⟩:=gN (t:=vy t x (j+1)) (by rw[lu];exact l) (j+1) W;simp at J;subst J;rw[G] at af aj S;clear E G;go_wp2;go_region
   go_wp2;go_region
   go_wp2;have L:=ox (ox l (j+1) (by rw[lu];omega) t[j]) j (by rw[fz,lu];omega) x;have aa:=GC (GC y l (j+1) (by rw[lu];omega) (.d t[j].name) (ι (t[j].jh:Int)) (ι (t[j].L:Int))) (ox l (j+1) (by rw[lu];omega) t[j]) j (by rw[fz,lu];omega) (.d x.name) (ι (x.jh:Int)) (ι (x.L:Int));rw[Of t x j η] at L;go_roundw;exact⟨j,η,η,rfl,(((((((s.set_ne d _ _).set_ne d _ _).set_ne d _ _).set_ne d _ _).set_ne d _ _).set_ne d _ _).drew).drew,L.drew.drew,(((((((D.set_ne f _ _).set_ne f _ _).set_ne f _ _).set_ne f _ _).set_ne f _ _).set_ne f _ _).drew).drew,γ,aa.drew.drew⟩;simp[intOf]
  have V:j=i:=η;subst V;go_wp2;go_end0
  exact⟨rfl,⟨_,s,by rw[show(t.G j++x::t.drop j).j=t.j+1 from lu t x j];exact l⟩,H,y⟩
end
section
open Go.Proofs.Tryz Go.RowKit
def Lb(a b:Nat):((a:Int) == (b:Int))=decide (a=b):=by
 by_cases h:a=b;subst h;simp;rw[decide_eq_false h,beq_eq_false_iff_ne];omega
def OO{a b:Bool}(h:a=b):Ending.returned (.i a)=ε (.i b):=by rw[h]
def vP(t:List zg)(l:zj):Option (List zg):=match zU t l.o with
 |some e=>if e.jh=l.k.j then Z t else Y
 |none=>Z (vy t ⟨l.o,l.k.j,0⟩ (zW t l.o))
def EG(B:Nat)(w:U)(tb:Nat)(t:Ψ)(l:zj)(f:Option Addr)(a:Nat)(h:TA B w tb t)(s:t.j<=1000)(n:zg)(u:zU t l.o=Z n):
  Calls prog 102 #[(π tb),.agg #[.i l.i,.d l.o,.k f l.k.j a]] w λe o=>e=ε (.i (decide (n.jh=l.k.j)))/\μ w o:=by
 obtain⟨z,q,b,c⟩:=h.view;have v:=b.lt;have k:=(zn w.o.q w).C (zf _) (.E #[.i l.i,.d l.o,.k f l.k.j a] 90);have d:=Th (eo B _ tb t l.o (h.u k) s);obtain⟨y,x⟩:=b.H;obtain⟨p,m,r⟩:=jn u;obtain⟨g,rfl,A,_,i,j,_⟩:=gN c _ p;rw[m] at i j;go_enter func102,ntmps102;go_wp2_with (go_at_call 126;refine d.l.y ?_;rintro e o ⟨rfl,rfl⟩;clear d)
 go_quiet (fail)
 go_wp2;go_quiet (fail)
 go_wp2;go_ret;exact⟨OO (Lb _ _),φ⟩
def LK(B:Nat)(w:U)(tb:Nat)(t:Ψ)(l:zj)(r:Option Addr)(d:Nat)(h:TA B w tb t)(x:t.j<=1000)(A:zU t l.o=Y)(s:B<=w.o.q)(m:B<=tb):
  Calls prog 102 #[(π tb),.agg #[.i l.i,.d l.o,.k r l.k.j d]] w λe q=>e=ε (.i true)/\TA B q tb (vy t ⟨l.o,l.k.j,0⟩ (zW t l.o))/\Below B w q/\vW tb w q:=by
 obtain⟨J,E,j,o⟩:=h.view;have G:=j.lt;have n:=Aa t l.o;have a:=(zn w.o.q w).C (zf _) (.E #[.i l.i,.d l.o,.k r l.k.j d] 90);have c:=Th (eo B _ tb t l.o (h.u a) x);obtain⟨I,H⟩:=j.H;have u:=h;have p:=Th u;have z:X (vy t ⟨l.o,l.k.j,0⟩ (zW t l.o)=t.G (zW t l.o)++⟨l.o,l.k.j,0⟩::t.drop (zW t l.o)):=rfl;rcases ie A with y|⟨y,v⟩
 .clear A;generalize zW t l.o=k at *;go_enter func102,ntmps102;go_wp2_with (go_at_call 126;refine c.l.y ?_;rintro e q ⟨rfl,rfl⟩;clear c)
  go_quiet (fail)
  go_wp2_with (go_at_call 147;refine(C5 B _ tb t k ⟨l.o,l.k.j,0⟩ (by exact p.l.u φ) x n (by exact zY s ζ) m).y ?_;rintro e F ⟨rfl,f,i,b⟩)
  go_ret;exact⟨rfl,f,((zI (a.y s) _)).A i,(vW.of (zI a _)).A b⟩
 obtain⟨g,rfl,K,_,C,D,_⟩:=gN o _ y;have L:=vU v;generalize zW t l.o=k at *;go_enter func102,ntmps102;go_wp2_with (go_at_call 126;refine c.l.y ?_;rintro e q ⟨rfl,rfl⟩;clear c)
 go_quiet (fail)
 go_wp2_with (go_at_call 147;refine(C5 B _ tb t k ⟨l.o,l.k.j,0⟩ (by exact p.l.u φ) x n (by exact zY s ζ) m).y ?_;rintro e F ⟨rfl,f,i,b⟩)
 go_ret;exact⟨rfl,f,((zI (a.y s) _)).A i,(vW.of (zI a _)).A b⟩
end
section
open Go.Proofs.Tryz Go.RowKit
variable {lo:Nat}{t:List zg}{o:Option (List zg)}
def BP{a:Ψ}{l:zj}(h:vP t l=Z a):a.j<=t.j+1:=by
 unfold vP at h;split at h;split at h<;>simp at h;subst h;omega
 simp at h;subst h;rw[lu];omega
def P9{c:Ψ}{l:zj}(h:vP t l=Z c)(b:∀e∈t,e.L<=0):∀e∈c,e.L<=0:=by
 unfold vP at h;split at h;split at h<;>simp at h;subst h;exact b
 simp at h;subst h;intro e a;unfold vy at a;rcases ya.1 a with a|a;exact b e (gh a);rcases zG.1 a with a|a;subst a;exact zf _;exact b e (fB a)
def uK(o:Option (List zg))(l:zj):Option (List zg):=o.bind (vP · l)
def zm(c:zc):List zj:=c.g::c.d
def uF(cs:List zc):Option (List zg):=(cs.flatMap zm).H uK (Z [])
def so(b:Ω):b.H uK Y=none:=by
 induction b with
 |nil=>rfl
 |cons a b c=>exact c
def eN:∀(d:Ω) (t:Ψ),(∀e∈t,e.L<=0)->∀a,d.H uK (Z t)=Z a->∀e∈a,e.L<=0
 |[],t,b,a,h=>by simp at h;subst h;exact b
 |l::d,t,b,a,h=>by
  simp only[uJ] at h;cases c:vP t l with
  |none=>rw[show uK (Z t) l=Y from c,so] at h;cases h
  |some f=>rw[show uK (Z t) l=Z f from c] at h;exact eN d f (P9 c b) a h
def wJ:∀(b:Ω) (t:Ψ),∀a,b.H uK (Z t)=Z a->a.j<=t.j+b.j
 |[],t,a,h=>by simp at h;subst h;simp
 |l::b,t,a,h=>by
  simp only[uJ] at h;cases c:vP t l with
  |none=>rw[show uK (Z t) l=Y from c,so] at h;cases h
  |some d=>rw[show uK (Z t) l=Z d from c] at h;have:=wJ b d a h;have:=BP c;simp;omega
def Fb(B:Nat)(w:U)(tb:Nat)(t:Ψ)(l:zj)(c:Option Addr)(a:Nat)(h:TA B w tb t)(f:t.j<=1000)(b:vP t l=Y):
  Calls prog 102 #[(π tb),.agg #[.i l.i,.d l.o,.k c l.k.j a]] w λe j=>e=ε (.i false)/\μ w j:=by
 unfold vP at b;split at b;rename_i g i;split at b;cases b;rename_i d;have:=EG B w tb t l c a h f g i;rw[decide_eq_false d] at this;exact this;cases b
def Cj(B:Nat)(w:U)(tb:Nat)(t m:Ψ)(l:zj)(c:Option Addr)(a:Nat)(h:TA B w tb t)(k:t.j<=1000)(b:vP t l=Z m)(n:B<=w.o.q)(f:B<=tb):
  Calls prog 102 #[(π tb),.agg #[.i l.i,.d l.o,.k c l.k.j a]] w λe d=>e=ε (.i true)/\TA B d tb m/\Below B w d/\vW tb w d:=by
 unfold vP at b;split at b;rename_i p j;split at b;rename_i g;simp at b;subst b;have:=EG B w tb t l c a h k p j;rw[decide_eq_true g] at this;refine this.y ?_;rintro e d ⟨rfl,i⟩;exact⟨rfl,h.u i,i.y n,vW.of i⟩;cases b;rename_i j;simp at b;subst b;exact LK B w tb t l c a h k j n f
def BE(o:Option (List zg))(w:U)(e:Ending)(w':U):Prop:=
 μ w w'/\match o with
  |none=>e=ε (.B #[.agg #[ν],.i false])
  |some t=>∃a,e=ε (.B #[.agg #[a],.i true])/\w'.r w.o.q 221 3 a t.j (uo t)
def GQ{w w':U}(h:X (o=Y))(b:μ w w'):BE o w (ε (.B #[.agg #[ν],.i false])) w':=by
 have a:o=none:=h;subst a;exact⟨b,rfl⟩
def N5{w w':U}{a:O}(h:X (o=Z t))(c:μ w w')(d:w'.r w.o.q 221 3 a t.j (uo t)):BE o w (ε (.B #[.agg #[a],.i true])) w':=by
 have b:o=Z t:=h;subst b;exact⟨c,a,rfl,d⟩
def Cm(w:U)(v:O)(cs:Ξ)(F:TR lo 171 w v cs)(hN:(cs.flatMap zm).j<=1000):
  Calls prog 62 #[v] w λe w'=>BE (uF cs) w e w':=by
 obtain⟨ao,aH,rfl⟩:=F.qy;have a4:cs.j<=1000:=by
  have:cs.j<=(cs.flatMap zm).j:=by
   clear hN F;induction cs with
   |nil=>simp
   |cons c cs ih=>simp[zm] at ih ⊢;omega
  omega
 go_enter func62,ntmps62;go_wp2;go_loopw [11] (λi wr=>∃(k:Nat) (tk:Ψ),k<=cs.j/\i=ι k/\μ w wr/\TA w.o.q wr (w.o.q+1) tk/\Ti wr w.o.q #[ν] 127/\tk.j+((cs.drop k).flatMap zm).j<=1000/\X (uF cs=((cs.drop k).flatMap zm).H uK (Z tk))) (λi _=>cs.j-(intOf i).D);have s:=(zn w.o.q w).C (zf _) (.E #[ν] 127);exact⟨0,[],zs _,rfl,γ,⟨_,Ti.newAt _ _ _ _ ζ,xo _ _ _ _⟩,(Ti.new w _ _).u zO,(by simpa using hN),rfl⟩;obtain⟨k,tk,hk,rfl,m,r,f,W,H⟩:=hrel;have E:=m.q;have am:=f.lt;have aA:w.o.q+1<wr.o.q:=by obtain⟨_,hb,_⟩:=r;exact hb.lt
 by_cases ah:k<cs.j
 .have I:=xp ah;obtain⟨g,aF,a2,a7,a0,rfl,hg,M,ad,R,N,av,au⟩:=F.cell k ah;have aL:=zi m hg M;have a6:=zi m hg ad;have aJ:=zi m hg R;have aE:=zi m hg N;have aD:g<wr.o.q:=η;clear M ad R N av;generalize cs[k]=c at *;rw[I] at W;have H1:X (uF cs=(c.d++(cs.drop (k+1)).flatMap zm).H uK (uK (Z tk) c.g)):=by rw[X,H.l,I];rfl
  simp only[uX,zm,yK,xu] at W;generalize hR:(cs.drop (k+1)).flatMap zm=rest at *;have HR:=Th hR;clear hR H I;rcases l:vP tk c.g with _|t1
  .have J:=Th l;have HF:X (uF cs=Y):=by rw[X,H1.l,show uK (Z tk) c.g=Y from l,so]
   clear H1 l;go_wp2_with (go_at_call 102;refine(Fb w.o.q _ (w.o.q+1) tk c.g _ _ (by exact r.u γ) η J).y ?_;rintro e w1 ⟨rfl,s⟩;have T:=Tl ((zn wr.o.q wr).C (zf _) _) s;have ag:=Tl m T;have b:=f.u T;obtain⟨q,aa,aw⟩:=b.e)
   exact zP (v:=.B #[.agg #[ν],.i false]) (by simp[results,results62,go_sem,q]) rfl (GQ HF γ)
  have J:=Th l;have a9:=BP l;have H2:X (uF cs=(c.d++rest).H uK (Z t1)):=by rw[X,H1.l,show uK (Z tk) c.g=Z t1 from l]
  clear H1 l;go_wp2_with (go_at_call 102;refine(Cj w.o.q _ (w.o.q+1) tk t1 c.g _ _ (by exact r.u γ) η J (by exact zY E ζ) η).y ?_;rintro e w1 ⟨rfl,ap,s,z⟩;have ag:=(m.C E _).A s;have b:=z.box _ _ _ η θ (f.u zO);have ae:=z.box _ _ _ η θ (Ti.new wr _ _);obtain⟨aq,ay,aj⟩:=ae.e;have aw:=b.lt)
  go_loopw [23] (λi wj=>∃(j:Nat) (p:Ψ),j<=c.d.j/\i=ι j/\μ w wj/\TA w.o.q wj (w.o.q+1) p/\Ti wj w.o.q #[ν] 127/\p.j+(c.d.drop j).j+rest.j<=1000/\X (uF cs=(c.d.drop j++rest).H uK (Z p))) (λi _=>c.d.j-(intOf i).D);exact⟨0,t1,zs _,rfl,ag,ap,b,υ,H2⟩;clear aq ay ae aj;obtain⟨j,p,hj,rfl,n,x,d,S,HJ⟩:=hrel;have A:=n.q;have ak:=d.lt;by_cases Q:j<c.d.j
  .obtain⟨gl,aK,az,rfl,L,ai,D,C,_⟩:=au.cell j Q;have aI:=zi n L ai;have a8:=zi n L D;have a5:=zi n L C;have aG:gl<wr.o.q:=η;have K:=xp Q;clear ai D C;generalize c.d[j]=a at *;rw[K] at S;have u:X (uF cs=(c.d.drop (j+1)++rest).H uK (uK (Z p) a)):=by rw[X,HJ.l,K];rfl
   simp only[xu] at S;clear K HJ;rcases l:vP p a with _|t2
   .have J:=Th l;have HF:X (uF cs=Y):=by rw[X,u.l,show uK (Z p) a=Y from l,so]
    clear u l;go_wp2_with (go_at_call 102;refine(Fb w.o.q _ (w.o.q+1) p a _ _ (by exact x.u γ) η J).y ?_;rintro e w3 ⟨rfl,G⟩;have ab:=Tl ((zn wr.o.q wr).C (zf _) _) G;have B:=Tl n ab;have h:=d.u ab;obtain⟨q,aa,aC⟩:=h.e)
    exact zP (v:=.B #[.agg #[ν],.i false]) (by simp[results,results62,go_sem,q]) rfl (GQ HF γ)
   have J:=Th l;have aB:=BP l;have ax:X (uF cs=(c.d.drop (j+1)++rest).H uK (Z t2)):=by rw[X,u.l,show uK (Z p) a=Z t2 from l]
   have a3:w.o.q+1<wr.o.q:=by obtain⟨_,hb,_⟩:=x;exact hb.lt
   clear u l;go_wp2_with (go_at_call 102;refine(Cj w.o.q _ (w.o.q+1) p t2 a _ _ (by exact x.u γ) η J (by exact zY A ζ) η).y ?_;rintro e w3 ⟨rfl,ar,G,ac⟩;have B:=(n.C A _).A G;have h:=ac.box _ _ _ η θ (d.u zO))
   go_roundw;exact⟨j+1,t2,η,ξ,B,ar,h,η,ax⟩;simp[intOf];omega
  have HE:X (uF cs=((cs.drop (k+1)).flatMap zm).H uK (Z p)):=by rw[X,HJ.l,uk η,HR.l];rfl
  have al:p.j+rest.j<=1000:=η;clear HJ;go_wp2;go_roundw;exact⟨k+1,p,η,ξ,n,x,d,by rw[HR.l];exact al,HE⟩;simp[intOf];omega
 have HF:X (uF cs=Z tk):=by rw[X,H.l,uk η];rfl
 obtain⟨P,y,af,V⟩:=r.view;obtain⟨hc,hf⟩:=af.H;obtain⟨q,aa⟩:=f.H;have a1:=af.lt;clear H;go_wp2;have an:=xP V ((Tv.refl w.o.q wr).x 0 (.k P tk.j y)) f θ;exact zP (v:=.B #[.agg #[.k P tk.j y],.i true]) (by simp[results,results62,go_sem,q]) rfl (N5 HF γ an)
end
section
open Go.Proofs.Tryz Go.RowKit
variable {lo:Nat}
def ug:ByteArray:=⟨#[44,32]⟩
def yB:κ->ByteArray
 |[]=>ByteArray.empty
 |[t]=>t
 |t::r=>t++ug++yB r
def Hl:∀(l:κ) (x:ByteArray),l≠[]->yB (l++[x])=yB l++ug++x
 |[],_,h=>zC rfl h
 |[t],x,_=>rfl
 |t::u::r,x,_=>by
  show t++ug++yB (u::(r++[x]))=t++ug++yB (u::r)++ug++x;have:=Hl (u::r) x ζ;rw[lr] at this;rw[this];simp only[ByteArray.append_assoc]
def tO{l:κ}{k:Nat}(a:k<l.j):yB (l.G (k+1))=if k=0 then l[k] else yB (l.G k)++ug++l[k]:=by
 rw[yN a];split;rename_i h;subst h;rfl;rw[Hl];intro h;have:=congrArg List.length h;rw[vd,jr] at this;omega
def OH(w:U)(v:O)(l:κ)(hs:To lo w v l)(G:l.j<=1000)(m:∀t∈l,t.q<=6):
  Calls prog 169 #[v] w λe D=>e=ε (.d (yB l))/\μ w D:=by
 obtain⟨F,u,rfl⟩:=hs.qy;have A:=Th m;clear m;go_enter func169,ntmps169;go_wp2;go_loopw [3,8] (λr C wr=>∃(k:Nat) (s:ByteArray),k<=l.j/\C=ι k/\r=.d s/\s.q<=8*k/\X (s=yB (l.G k))/\μ w wr) (λ_ i _=>l.j-(intOf i).D);exact⟨0,_,zs _,rfl,rfl,zf _,rfl,zn _ _⟩;obtain⟨k,s,E,rfl,rfl,B,H,a⟩:=hrel;have n:=a.q;by_cases b:k<l.j
 .obtain⟨g,rfl,z,c⟩:=hs.cell k b;have p:=zi a z c;have y:g<wr.o.q:=η;have f:=tO b;have q:=A.l _ (zq b);clear c;generalize l[k]=x at *;by_cases h:k=0
  .have d:X (s++x=yB (l.G (k+1))):=by rw[X,f,zb h,H.l,h];simp[yB]
   subst h;clear f H;go_wp2;go_roundw;exact⟨1,s++x,η,ξ,rfl,(by rw[ByteArray.size_append];omega),d,γ⟩;simp[intOf];omega
  have d:X (s++ug++x=yB (l.G (k+1))):=by rw[X,f,za h,H.l]
  have j:ug.q=2:=rfl;have o:(s++ug).q=s.q+2:=by rw[ByteArray.size_append,j]
  clear f H;go_wp2;go_roundw;exact⟨k+1,s++ug++x,η,ξ,rfl,(by rw[ByteArray.size_append];omega),d,γ⟩;simp[intOf];omega
 have d:X (s=yB l):=by rw[X,H.l,yV η]
 clear H;go_wp2;go_ret;exact⟨by rw[←d.l];rfl,a⟩
def jP:ByteArray:=⟨#[33]⟩
def ju:ByteArray:=⟨#[40]⟩
def fZ:ByteArray:=⟨#[41]⟩
def gL(l:zj):ByteArray:=if l.i then jP++l.o else l.o
def xg(l:zj):ByteArray:=if l.k.j=0 then gL l else gL l++ju++yB l.k++fZ
def BM:∀(l:κ),(∀t∈l,t.q<=6)->(yB l).q<=8*l.j
 |[],_=>by simp[yB]
 |[t],h=>by have:=h t ζ;simp[yB];omega
 |t::u::r,h=>by
  have c:=h t ζ;have b:=BM (u::r) λx a=>h x (nP _ a);show(t++ug++yB (u::r)).q<=_;rw[ByteArray.size_append,ByteArray.size_append,show ug.q=2 from rfl];simp only[xu] at b ⊢;omega
def B0{l:zj}(h:l.o.q<=6):(gL l).q<=7:=by
 unfold gL;split;rw[ByteArray.size_append,show jP.q=1 from rfl];omega;omega
def rE(l:zj):Prop:=l.o.q<=6/\0<l.o.q/\l.k.j<=1000/\∀t∈l.k,0<t.q/\t.q<=6
def td{l:zj}(h:rE l):(xg l).q<=9+8*l.k.j:=by
 obtain⟨b,_,_,a⟩:=h;have d:=B0 b;unfold xg;split;omega;rw[ByteArray.size_append,ByteArray.size_append,ByteArray.size_append,show ju.q=1 from rfl,show fZ.q=1 from rfl];have:=BM l.k λt c=>(a t c).2;omega
def CH(w:U)(l:zj)(i:O)(hs:To lo w i l.k)(q:rE l):
  Calls prog 131 #[.agg #[.i l.i,.d l.o,i]] w λe A=>e=ε (.d (xg l))/\μ w A:=by
 obtain⟨B,u,rfl⟩:=hs.qy;obtain⟨E,F,x,o⟩:=q;have k:=Th λt p=>(o t p).2;have m:=Th λW y=>OH W _ l.k (hs.u y) x k.l;have C:=BM l.k k.l;have r:jP.q=1:=rfl;have z:ju.q=1:=rfl;have v:fZ.q=1:=rfl;clear o;cases b:l.i
 .by_cases f:l.k.j=0
  .have d:X (xg l=l.o):=by unfold X xg gL;rw[zb f,b];rfl
   have c:((l.k.j:Int) == 0)=true:=by rw[beq_iff_eq];omega
   clear b;generalize yB l.k=j at *;generalize l.k.j=n at *;go_enter func131,ntmps131;go_wp2;go_ret;exact⟨by rw[d.l];rfl,γ⟩
  have d:X (xg l=l.o++ju++yB l.k++fZ):=by unfold X xg gL;rw[za f,b];rfl
  have c:((l.k.j:Int) == 0)=false:=by rw[beq_eq_false_iff_ne];omega
  have h:(l.o++ju).q<=8:=by rw[ByteArray.size_append];omega
  have g:(l.o++ju++yB l.k).q<=8+8*l.k.j:=by rw[ByteArray.size_append];omega
  clear b;generalize yB l.k=j at *;generalize l.k.j=n at *;go_enter func131,ntmps131;go_wp2_with (go_at_call 169;refine(m.l _ γ).y ?_;rintro e s ⟨rfl,a⟩)
  go_ret;exact⟨by rw[d.l];rfl,Tl ((zn w.o.q w).C (zf _) _) a⟩
 have D:(jP++l.o).q<=7:=by rw[ByteArray.size_append];omega
 by_cases f:l.k.j=0
 .have d:X (xg l=jP++l.o):=by unfold X xg gL;rw[zb f,b];rfl
  have c:((l.k.j:Int) == 0)=true:=by rw[beq_iff_eq];omega
  clear b;generalize yB l.k=j at *;generalize l.k.j=n at *;go_enter func131,ntmps131;go_wp2;go_ret;exact⟨by rw[d.l];rfl,γ⟩
 have d:X (xg l=jP++l.o++ju++yB l.k++fZ):=by unfold X xg gL;rw[za f,b];rfl
 have c:((l.k.j:Int) == 0)=false:=by rw[beq_eq_false_iff_ne];omega
 have h:(jP++l.o++ju).q<=8:=by rw[ByteArray.size_append];omega
 have g:(jP++l.o++ju++yB l.k).q<=8+8*l.k.j:=by rw[ByteArray.size_append];omega
 clear b;generalize yB l.k=j at *;generalize l.k.j=n at *;go_enter func131,ntmps131;go_wp2_with (go_at_call 169;refine(m.l _ γ).y ?_;rintro e s ⟨rfl,a⟩)
 go_ret;exact⟨by rw[d.l];rfl,Tl ((zn w.o.q w).C (zf _) _) a⟩
def fh:ByteArray:=⟨#[32,58,45,32]⟩
def sg:ByteArray:=⟨#[46]⟩
def p9:ByteArray:=⟨#[10]⟩
def TQ(b:List zj):ByteArray:=if b.j=0 then ByteArray.empty else fh++yB (b.w xg)
def Vb(c:zc):ByteArray:=xg c.g++TQ c.d++sg
def rz(c:zc):Prop:=(∀l∈zm c,rE l)/\c.d.j<=1000
def O5{b:Ω}{k:Nat}(d:k<b.j)(s:ByteArray):s++TQ (b.G (k+1))=if k=0 then s++fh++xg b[k] else s++TQ (b.G k)++ug++xg b[k]:=by
 have a:(b.G (k+1)).j≠0:=by rw[vd];omega
 have c:yB ((b.G (k+1)).w xg)=if k=0 then xg b[k] else yB ((b.G k).w xg)++ug++xg b[k]:=by
  have:=tO (l:=b.w xg) (k:=k) (by simpa using d);rw[←sN,←sN] at this;simpa using this
 unfold TQ;rw[za a,c];split;rw[ByteArray.append_assoc];rw[za (by rw[vd];omega)];simp only[ByteArray.append_assoc]
def Qf(w:U)(c:zc)(M vb:O)(hs:To lo w M c.g.k)(P:TN lo w vb c.d)(hf:rz c):
  Calls prog 85 #[.agg #[.i c.g.i,.d c.g.o,M,vb]] w λe w'=>e=ε (.d (Vb c))/\μ w w':=by
 obtain⟨Q,t,rfl⟩:=hs.qy;obtain⟨u,g,rfl⟩:=P.qy;obtain⟨d,ak⟩:=hf;have HF:=Th d;have C:=d c.g (by simp[zm]);have af:=td C;have ac:=C.2.2.1;have HH:=Th λW L=>CH W c.g _ (hs.u L) C;have HC:X (Vb c=xg c.g++TQ c.d++sg):=rfl;clear d C;generalize Vb c=tc at *;generalize xg c.g=o at *;go_enter func85,ntmps85;go_wp2_with (go_at_call 131;refine(HH.l _ γ).y ?_;rintro e w1 ⟨rfl,q⟩;have J:=Tl ((zn w.o.q w).C (zf _) (.E #[.i c.g.i,.d c.g.o,.k Q c.g.k.j t,.k u c.d.j g] 171)) q;have y:=(Ti.new w #[.i c.g.i,.d c.g.o,.k Q c.g.k.j t,.k u c.d.j g] 171).u q;obtain⟨K,d,S⟩:=y.e)
 clear K d;go_loopw [3,12] (λv3 G wr=>∃(k:Nat) (s:ByteArray),k<=c.d.j/\G=ι k/\v3=.d s/\s.q<=10000*(k+1)/\X (s=o++TQ (c.d.G k))/\μ w wr) (λ_ i _=>c.d.j-(intOf i).D);exact⟨0,o,zs _,rfl,rfl,η,(by simp[X,TQ]),J⟩;obtain⟨k,s,hk,rfl,rfl,ai,H,b⟩:=hrel;have j:=b.q;by_cases z:k<c.d.j
 .obtain⟨gl,ad,N,rfl,l,v,p,r,x⟩:=P.cell k z;have ag:=zi b l v;have aj:=zi b l p;have ab:=zi b l r;have ah:gl<wr.o.q:=η;have D:=O5 z o;have f:=HF.l c.d[k] (by simp[zm]);have h:=x.u b;clear v p r x;generalize c.d[k]=a at *;have ae:=td f;have T:=f.2.2.1;have R:=Th λW L=>CH W a _ (h.u L) f;clear h f;generalize xg a=B at *;have F:fh.q=4:=rfl;have I:ug.q=2:=rfl;by_cases E:k=0
  .have A:X (s++fh++B=o++TQ (c.d.G (k+1))):=by rw[X,D,zb E,H.l,E];simp[TQ]
   have V:(s++fh).q=s.q+4:=by rw[ByteArray.size_append,F]
   subst E;clear D H;go_wp2_with (go_at_call 131;refine(R.l _ γ).y ?_;rintro e w2 ⟨rfl,n⟩;have m:=Tl (b.C j _) n)
   go_roundw;exact⟨1,s++fh++B,η,ξ,rfl,(by rw[ByteArray.size_append];omega),A,m⟩;simp[intOf];omega
  have A:X (s++ug++B=o++TQ (c.d.G (k+1))):=by rw[X,D,za E,H.l]
  have V:(s++ug).q=s.q+2:=by rw[ByteArray.size_append,I]
  clear D H;go_wp2_with (go_at_call 131;refine(R.l _ γ).y ?_;rintro e w2 ⟨rfl,n⟩;have m:=Tl (b.C j _) n)
  go_roundw;exact⟨k+1,s++ug++B,η,ξ,rfl,(by rw[ByteArray.size_append];omega),A,m⟩;simp[intOf];omega
 have A:X (s++sg=tc):=by rw[X,HC.l,H.l,yV η]
 have aa:sg.q=1:=rfl;clear H;go_wp2;go_ret;exact⟨by rw[←A.l];rfl,b⟩
end
section
open Go.Proofs.Tryz Go.RowKit
variable {lo:Nat}{r r2:List Tp}
def g5(l:zj):Nat:=l.k.j+1
def UB(a:List zj):Nat:=a.foldr (λl n=>g5 l+n) 0
def UQ(c:zc):Nat:=g5 c.g+UB c.d
def UF(cs:List zc):Nat:=cs.foldr (λc n=>UQ c+n) 0
def EQ:∀(r:Δ) {ts:κ} {r2:Δ},yw r=Z (ts,r2)->ts.j+r2.j<=r.j
 |[],_,_,h=>by simp[yw] at h
 |[x],ts,r2,h=>by
  simp only[yw] at h;split at h<;>simp at h
  obtain⟨rfl,rfl⟩:=h;simp
 |x::y::r,ts,r2,h=>by
  simp only[yw] at h;split at h
  .split at h
   .cases a:yw r with
    |none=>rw[a] at h;simp at h
    |some z=>
     obtain⟨b,c⟩:=z;rw[a] at h;simp at h;have:=EQ r a;obtain⟨rfl,rfl⟩:=h;simp;omega
   .simp at h;obtain⟨rfl,rfl⟩:=h;simp;omega
  .simp at h
def oM{a:zj}(h:xx r=Z (a,r2)):g5 a+r2.j<=r.j:=by
 rcases r with _|⟨x,r⟩;simp[xx,T7] at h;unfold xx at h;split at h;split at h;split at h;simp at h;rename_i c d b;have:=EQ _ b;split at h<;>simp at h
 obtain⟨rfl,rfl⟩:=h;simp[g5] at this ⊢;omega;simp at h;obtain⟨rfl,rfl⟩:=h;simp[g5];omega;simp at h
def Le{a:zj}(h:uU r=Z (a,r2)):g5 a+r2.j<=r.j:=by
 unfold uU at h;split at h;rcases b:xx r.tail with _|z;rw[b] at h;simp at h;obtain⟨d,c⟩:=z;rw[b] at h;simp at h;have:=oM b;obtain⟨rfl,rfl⟩:=h;simp[g5] at this ⊢;omega;exact oM h
def Rx{n:Nat}:∀{r r2:Δ} {b:Ω},uh n r=Z (b,r2)->UB b+r2.j<=r.j:=by
 induction n with
 |zero=>intro r r2 b h;simp[uh] at h
 |succ n g=>
  intro r r2 b h;rcases c:uU r with _|z;rw[sY c] at h;cases h;obtain⟨a,e⟩:=z;have:=Le c;by_cases f:T7 e=6;rw[s6 c f] at h;rcases d:uh n e.tail with _|z;rw[d] at h;simp at h;rw[d] at h;simp at h;have:=g d;obtain⟨rfl,rfl⟩:=h;simp[UB] at this ⊢;omega;rw[rB c f] at h;simp at h;obtain⟨rfl,rfl⟩:=h;simp[UB];omega
def NF{n:Nat}{c:zc}(h:vH n r=Z (c,r2)):UQ c+r2.j<=r.j:=by
 unfold vH at h;split at h;cases h;rename_i a f e;have:=oM e;split at h;split at h;cases h;rename_i b g d;have:=Rx d;split at h<;>simp at h
 obtain⟨rfl,rfl⟩:=h;simp[UQ] at this ⊢;omega;split at h<;>simp at h
 obtain⟨rfl,rfl⟩:=h;simp[UQ,UB];omega
def iH{d:Nat}:∀{m:Nat} {r:Δ} {cs:Ξ},yX d m r=Z cs->UF cs<=r.j
 |_,[],cs,h=>by simp[yX] at h;subst h;simp[UF]
 |0,_::_,cs,h=>by simp[yX] at h
 |m+1,x::r,cs,h=>by
  cases b:vH d (x::r) with
  |none=>rw[iL ζ b] at h;cases h
  |some z=>
   obtain⟨c,r2⟩:=z;rw[we ζ b] at h;cases a:yX d m r2 with
   |none=>rw[a] at h;simp at h
   |some f=>
    rw[a] at h;simp at h;subst h;have e:=NF b;have g:=iH a;simp only[UF,List.foldr_cons,xu] at e g ⊢;omega
def tp(b:Ω):xj b+b.j=UB b:=by
 induction b with
 |nil=>rfl
 |cons a b c=>simp[xj,UB,g5] at c ⊢;omega
def Ai{cs:Ξ}{c:zc}(h:c∈cs):UQ c<=UF cs:=by
 induction cs with
 |nil=>cases h
 |cons a cs b=>
  rcases zG.1 h with rfl|h;simp[UF];have:=b h;simp[UF] at this ⊢;omega
def o6(cs:Ξ):(cs.flatMap zm).j<=UF cs:=by
 induction cs with
 |nil=>simp
 |cons a cs b=>have:=tp a.d;simp[UF,UQ,zm,g5] at b ⊢;omega
def oQ(cs:Ξ):cs.j<=UF cs:=by
 induction cs with
 |nil=>simp
 |cons a cs b=>simp[UF,UQ,g5] at b ⊢;omega
def Bw{cs:Ξ}(h:UF cs<=1000):∀c∈cs,qb c:=λc b=>by
 have a:=Ai b;have d:=tp c.d;unfold UQ g5 at a;exact⟨η,η⟩
def B1:∀(n:Nat) (s:ByteArray) (i:Nat) (l:List (Int×ByteArray)),Ty n s i=Z l->l.j<=s.q-i
 |0,_,_,l,h=>by simp[Ty] at h;subst h;simp
 |n+1,s,i,l,h=>by
  unfold Ty at h;split at h
  .rename_i d;split at h
   .have:=B1 n s (i+1) l h;omega
   .split at h
    .cases h
    .rename_i b;split at h
     .cases h
     .cases a:Ty n s (yx s i (xw (Tt s i) (Tt s (i+1)))) with
      |none=>rw[a] at h;simp at h
      |some c=>
       rw[a] at h;simp at h;subst h;have:=B1 n s _ c a;have:=tz s i _ d rfl b;simp;omega
  .simp at h;subst h;simp
def ip{s:ByteArray}{l:Δ}(h:Tu s=Z l):l.j<=s.q:=by have:=B1 _ s 0 l h;omega
def uC(s:ByteArray):Except Int (List zc×List zg):=
 if 500<s.q then .error 1 else
 match Tu s with
 |none=>.error 2
 |some l=>
  match yX l.j l.j l with
  |none=>.error 3
  |some a=>
   if a.any yQ then .error 4 else
   match uF a with
   |none=>.error 5
   |some t=>
    if a.all xB then
     if (ui (t.j+1) t a).2 then .ok (a,(ui (t.j+1) t a).1) else .error 7
    else .error 6
def mP(o:Except Int (List zc×List zg))(w:U)(e:Ending)(w':U):Prop:=
 μ w w'/\match o with
  |.error n=>e=ε (.B #[.pointer Y,ι n])
  |.ok (c,t)=>∃a v b,e=ε (.B #[(π a),ι 0])/\Ti w' a #[v,b] 131/\TR w.o.q 171 w' v c/\w'.r w.o.q 221 3 b t.j (uo t)/\w.o.q<=a
def Rf(s:ByteArray)(w:U)(hs:s.q<=500)(h:Tu s=Y):Calls prog 59 #[.d s] w λe a=>e=ε (.B #[ν,.i false])/\μ w a:=by
 refine(Ij s w hs).y ?_;rintro e a ⟨c,b⟩;rw[h] at b;exact⟨b,c⟩
def rP(s:ByteArray)(w:U)(l:Δ)(hs:s.q<=500)(h:Tu s=Z l):Calls prog 59 #[.d s] w λe d=>∃v,e=ε (.B #[v,.i true])/\d.r w.o.q 182 2 v l.j (kC l)/\l.j<=500/\μ w d:=by
 refine(Ij s w hs).y ?_;rintro e d ⟨g,f⟩;rw[h] at f;obtain⟨v,a,b,c⟩:=f;exact⟨v,a,b,η,g⟩
def K6(w:U)(b:O)(l:Δ)(a:Nat)(i:w.r a 182 2 b l.j (kC l))(g:l.j<=500)(h:yX l.j l.j l=Y):
  Calls prog 60 #[b] w λe d=>e=ε (.B #[ν,.i false])/\μ w d:=by
 refine(Uy w b l a i g).y ?_;rintro e d ⟨f,c⟩;rw[h] at c;exact⟨c,f⟩
def tr(w:U)(d:O)(l:Δ)(c:Nat)(cs:Ξ)(k:w.r c 182 2 d l.j (kC l))(j:l.j<=500)(h:yX l.j l.j l=Z cs):
  Calls prog 60 #[d] w λe f=>∃v,e=ε (.B #[v,.i true])/\TR w.o.q 171 f v cs/\μ w f:=by
 refine(Uy w d l c k j).y ?_;rintro e f ⟨i,g⟩;rw[h] at g;obtain⟨v,a,b⟩:=g;exact⟨v,a,b,i⟩
def LN(w:U)(v:O)(cs:Ξ)(a:TR lo 171 w v cs)(f:(cs.flatMap zm).j<=1000)(h:uF cs=Y):
  Calls prog 62 #[v] w λe c=>e=ε (.B #[.agg #[ν],.i false])/\μ w c:=by
 refine(Cm w v cs a f).y ?_;rintro e c ⟨d,b⟩;rw[h] at b;exact⟨b,d⟩
def Bd(w:U)(v:O)(cs:Ξ)(t:Ψ)(c:TR lo 171 w v cs)(j:(cs.flatMap zm).j<=1000)(h:uF cs=Z t):
  Calls prog 62 #[v] w λe d=>∃f,e=ε (.B #[.agg #[f],.i true])/\d.r w.o.q 221 3 f t.j (uo t)/\μ w d:=by
 refine(Cm w v cs c j).y ?_;rintro e d ⟨i,g⟩;rw[h] at g;obtain⟨v,a,b⟩:=g;exact⟨v,a,b,i⟩
def IW(s:ByteArray)(w:U)(hs:500<s.q)(a:s.q<=9223372036854775807):
  Calls prog 32 #[.d s] w λe b=>mP (.error 1) w e b:=by
 go_enter func32,ntmps32;go_wp2;go_ret2
 exact⟨zn _ _,rfl⟩
def I6(s:ByteArray)(w:U)(hs:s.q<=500)(b:Tu s=Y):
  Calls prog 32 #[.d s] w λe c=>mP (.error 2) w e c:=by
 have d:=Th b;clear b;go_enter func32,ntmps32;go_wp2_with (go_at_call 59;refine(Rf s _ hs d).y ?_;rintro e f ⟨rfl,a⟩)
 go_ret2
 exact⟨a,rfl⟩
def NW(s:ByteArray)(w:U)(hs:s.q<=500)(l:Δ)(i:Tu s=Z l)(g:yX l.j l.j l=Y):
  Calls prog 32 #[.d s] w λe m=>mP (.error 3) w e m:=by
 have n:=Th i;have k:=Th g;clear i g;go_enter func32,ntmps32;go_wp2_with (first|(go_at_call 59;refine(rP s _ l hs n).y ?_;rintro e q ⟨o,rfl,a,b,c⟩;obtain⟨j,h,rfl⟩:=zr a)|(go_at_call 60;refine(K6 _ _ l _ a b k).y ?_;rintro e p ⟨rfl,f⟩;have d:=Tl c f))
 go_ret2
 exact⟨d,rfl⟩
def Qp(s:ByteArray)(w:U)(hs:s.q<=500)(l:Δ)(cs:Ξ)(G:cs.any yQ=true)(A:Tu s=Z l)(z:yX l.j l.j l=Z cs)(h:∀c∈cs,qb c)(f:cs.j<=1000):
  Calls prog 32 #[.d s] w λe B=>mP (.error 4) w e B:=by
 have x:=Th A;have v:=Th z;have m:=Th h;have g:=Th f;go_enter func32,ntmps32;go_wp2_with (first|(go_at_call 59;refine(rP s _ l hs x).y ?_;rintro e E ⟨C,rfl,b,n,j⟩;obtain⟨u,q,rfl⟩:=zr b)|(go_at_call 60;refine(tr _ _ l _ cs b n v).y ?_;rintro e F ⟨H,rfl,a,p⟩;obtain⟨y,t,rfl⟩:=a.qy;have k:=Tl j p)|(go_at_call 61;refine(tN _ _ cs a m.l g.l).y ?_;rintro e D ⟨rfl,d⟩;have i:=Tl k d;have o:=a.u d))
 go_ret2
 exact⟨i,rfl⟩
def Mb(s:ByteArray)(w:U)(hs:s.q<=500)(l:Δ)(cs:Ξ)(P:cs.any yQ=false)(H:Tu s=Z l)(E:yX l.j l.j l=Z cs)(k:∀c∈cs,qb c)(i:cs.j<=1000)(g:(cs.flatMap zm).j<=1000)(G:uF cs=Y):
  Calls prog 32 #[.d s] w λe I=>mP (.error 5) w e I:=by
 have C:=Th H;have B:=Th E;have q:=Th k;have j:=Th i;have d:=Th g;have F:=Th G;go_enter func32,ntmps32;go_wp2_with (first|(go_at_call 59;refine(rP s _ l hs C).y ?_;rintro e L ⟨J,rfl,b,t,n⟩;obtain⟨A,x,rfl⟩:=zr b)|(go_at_call 60;refine(tr _ _ l _ cs b t B).y ?_;rintro e M ⟨Q,rfl,a,v⟩;obtain⟨D,y,rfl⟩:=a.qy;have p:=Tl n v)|(go_at_call 61;refine(tN _ _ cs a q.l j.l).y ?_;rintro e K ⟨rfl,h⟩;have m:=Tl p h;have f:=a.u h)|(go_at_call 62;refine(LN _ _ cs f d.l F).y ?_;rintro e N ⟨rfl,u⟩;have o:=Tl m u;have z:=o.q))
 go_ret2
 exact⟨γ,rfl⟩
def RY(s:ByteArray)(w:U)(hs:s.q<=500)(l:Δ)(cs:Ξ)(t:Ψ)(hm:cs.any yQ=false)(R:cs.all xB=false)(T:Tu s=Z l)(P:yX l.j l.j l=Z cs)(u:∀c∈cs,qb c)(p:cs.j<=1000)(i:(cs.flatMap zm).j<=1000)(S:uF cs=Z t):
  Calls prog 32 #[.d s] w λe V=>mP (.error 6) w e V:=by
 have M:=Th T;have L:=Th P;have k:=Th u;have f:=Th p;have h:=Th i;have Q:=Th S;go_enter func32,ntmps32;go_wp2_with (first|(go_at_call 59;refine(rP s _ l hs M).y ?_;rintro e w1 ⟨W,rfl,d,D,A⟩;obtain⟨K,G,rfl⟩:=zr d)|(go_at_call 60;refine(tr _ _ l _ cs d D L).y ?_;rintro e w2 ⟨cv,rfl,b,F⟩;obtain⟨N,I,rfl⟩:=b.qy;have B:=Tl A F)|(go_at_call 61;refine(tN _ _ cs b k.l f.l).y ?_;rintro e w3 ⟨rfl,o⟩;have v:=Tl B o;have a:=b.u o)|(go_at_call 62;refine(Bd _ _ cs t a h.l Q).y ?_;rintro e H ⟨pv,rfl,C,q⟩;obtain⟨x,n,rfl⟩:=zr C;have j:=Tl v q;have J:=j.q;have g:=a.u q)|(go_at_call 63;refine(Bs _ _ cs (by exact g.u γ) k.l f.l).y ?_;rintro e w5 ⟨rfl,E⟩;have y:=(zn H.o.q H).C (zf _) (.E #[.k x t.j n] 127);have m:=Tl y E;have z:=Tl j m))
 go_ret2
 exact⟨z,rfl⟩
def Qb(s:ByteArray)(w:U)(hs:s.q<=500)(l:Δ)(cs:Ξ)(t:Ψ)(hm:cs.any yQ=false)(ah:cs.all xB=true)(ab:(ui (t.j+1) t cs).2=false)(hS:Tu s=Z l)(hP:yX l.j l.j l=Z cs)(C:∀c∈cs,qb c)(z:cs.j<=1000)(n:(cs.flatMap zm).j<=1000)(hC:uF cs=Z t)(J:t.j<=1000)(N:∀e∈t,e.L<=0):
  Calls prog 32 #[.d s] w λe w'=>mP (.error 7) w e w':=by
 have HS:=Th hS;have HP:=Th hP;have k:=Th C;have f:=Th z;have j:=Th n;have HC:=Th hC;have B:=Th J;have P:=Th N;go_enter func32,ntmps32;go_wp2_with (first|(go_at_call 59;refine(rP s _ l hs HS).y ?_;rintro e w1 ⟨fv,rfl,h,M,I⟩;obtain⟨aa,R,rfl⟩:=zr h)|(go_at_call 60;refine(tr _ _ l _ cs h M HP).y ?_;rintro e w2 ⟨cv,rfl,d,Q⟩;obtain⟨ac,T,rfl⟩:=d.qy;have K:=Tl I Q)|(go_at_call 61;refine(tN _ _ cs d k.l f.l).y ?_;rintro e S ⟨rfl,y⟩;have o:=Tl K y;have a:=d.u y)|(go_at_call 62;refine(Bd _ _ cs t a j.l HC).y ?_;rintro e A ⟨pv,rfl,u,m⟩;obtain⟨F,v,rfl⟩:=zr u;have p:=Tl o m;have W:=p.q;have i:=a.u m)|(go_at_call 63;refine(Bs _ _ cs (by exact i.u γ) k.l f.l).y ?_;rintro e w5 ⟨rfl,x⟩;have G:=(zn A.o.q A).C (zf _) (.E #[.k F t.j v] 127);have b:=Tl G x;have H:=Tl p b)|(go_at_call 64;refine(DT S.o.q _ A.o.q t _ cs S rfl (Tl m b) a k.l f.l ⟨_,(Ti.new A _ _).u x,zy u b⟩ B.l P.l).y ?_;rintro e w6 ⟨rfl,q,E⟩;obtain⟨af,V,g,D⟩:=q.view;obtain⟨ad,ae⟩:=g.H;have L:=H.A (E.y (zY o.q (zf _)));have ag:=g.lt))
 go_ret2
 exact⟨L,rfl⟩
def NU(s:ByteArray)(w:U)(hs:s.q<=500)(l:Δ)(cs:Ξ)(t:Ψ)(hm:cs.any yQ=false)(aj:cs.all xB=true)(ad:(ui (t.j+1) t cs).2=true)(hS:Tu s=Z l)(hP:yX l.j l.j l=Z cs)(H:∀c∈cs,qb c)(E:cs.j<=1000)(q:(cs.flatMap zm).j<=1000)(hC:uF cs=Z t)(L:t.j<=1000)(Q:∀e∈t,e.L<=0):
  Calls prog 32 #[.d s] w λe w'=>mP (.ok (cs,(ui (t.j+1) t cs).1)) w e w':=by
 have HS:=Th hS;have HP:=Th hP;have o:=Th H;have f:=Th E;have n:=Th q;have HC:=Th hC;have G:=Th L;have R:=Th Q;go_enter func32,ntmps32;go_wp2_with (first|(go_at_call 59;refine(rP s _ l hs HS).y ?_;rintro e w1 ⟨fv,rfl,i,P,v⟩;obtain⟨ac,T,rfl⟩:=zr i)|(go_at_call 60;refine(tr _ _ l _ cs i P HP).y ?_;rintro e w2 ⟨cv,rfl,d,S⟩;obtain⟨ae,W,rfl⟩:=d.qy;have M:=Tl v S)|(go_at_call 61;refine(tN _ _ cs d o.l f.l).y ?_;rintro e V ⟨rfl,D⟩;have m:=Tl M D;have a:=d.u D)|(go_at_call 62;refine(Bd _ _ cs t a n.l HC).y ?_;rintro e F ⟨pv,rfl,z,g⟩;obtain⟨I,B,rfl⟩:=zr z;have x:=Tl m g;have ab:=x.q;have j:=a.u g)|(go_at_call 63;refine(Bs _ _ cs (by exact j.u γ) o.l f.l).y ?_;rintro e w5 ⟨rfl,C⟩;have J:=(zn F.o.q F).C (zf _) (.E #[.k I t.j B] 127);have b:=Tl J C;have K:=Tl x b)|(go_at_call 64;refine(DT V.o.q _ F.o.q t _ cs V rfl (Tl g b) a o.l f.l ⟨_,(Ti.new F _ _).u C,zy z b⟩ G.l R.l).y ?_;rintro e w6 ⟨rfl,y,u⟩;obtain⟨ah,aa,h,k⟩:=y.view;obtain⟨af,ag⟩:=h.H;have N:=K.A (u.y (zY m.q (zf _)));have ai:=h.lt))
 have A:=N.q;have p:=a.u ((Tl g b).A u);go_ret2
 exact⟨γ,w6.o.q,_,_,rfl,Ti.new _ _ _,(p.low v.q).u zO,yo (zy k zO) m.q,A⟩
def Fx(s:ByteArray)(w:U)(p:s.q<=9223372036854775807):
  Calls prog 32 #[.d s] w λe v=>mP (uC s) w e v:=by
 unfold uC;split;rename_i u;exact IW s w u p;rename_i u;have c:s.q<=500:=η;split;rename_i i;exact I6 s w c i;rename_i l i;split;rename_i j;exact NW s w c l i j;rename_i d j;have y:l.j<=500:=by
  have:=ip i;omega
 have x:=iH j;have f:=Bw (cs:=d) η;have b:d.j<=1000:=by have:=oQ d;omega
 have a:(d.flatMap zm).j<=1000:=by have:=o6 d;omega
 split;rename_i q;exact Qp s w c l d q i j f b;rename_i q;have g:d.any yQ=false:=by simpa using q
 split;rename_i m;exact Mb s w c l d g i j f b a m;rename_i t m;have n:t.j<=1000:=by have:=wJ _ _ _ m;simp only[jr] at this;omega
 have o:=eN _ [] ζ t m;split;rename_i h;split;rename_i k;exact NU s w c l d t g h k i j f b a m n o;rename_i k;exact Qb s w c l d t g h (by simpa using k) i j f b a m n o;rename_i h;exact RY s w c l d t g (by simpa using h) i j f b a m
end
section
open Go.RowKit
variable {lo:Nat}
def TP(B:Nat)(w:U)(tb:Nat)(t:List zg):Prop:=∃b a,Ti w tb #[b,a] 131/\w.r B 221 3 a t.j (uo t)
def TP.u{B:Nat}{w w':U}{tb:Nat}{t:Ψ}(h:TP B w tb t)(a:μ w w'):TP B w' tb t:=by
 obtain⟨e,c,b,d⟩:=h;exact⟨e,c,b.u a,zy d a⟩
end
section
open Go.Proofs.Tryz Go.RowKit
variable {lo:Nat}
def qX(lo:Nat)(w:U)(pb:Nat)(cs:List zc)(t:List zg):Prop:=lo<=pb/\∃v a,Ti w pb #[v,a] 131/\TR lo 171 w v cs/\w.r lo 221 3 a t.j (uo t)
def qX.u{w w':U}{pb:Nat}{cs:Ξ}{t:Ψ}(h:qX lo w pb cs t)(a:μ w w'):qX lo w' pb cs t:=by
 obtain⟨d,v,c,b,f,e⟩:=h;exact⟨d,v,c,b.u a,f.u a,zy e a⟩
def JJ(w:U)(pb:Nat)(cs:Ξ)(t:Ψ)(h:qX lo w pb cs t):
  Calls prog 48 #[(π pb)] w λe f=>e=ε (ι cs.j)/\f=w:=by
 obtain⟨_,v,g,a,d,_⟩:=h;obtain⟨i,b,rfl⟩:=d.qy;obtain⟨j,k,c⟩:=a.e;go_enter func48,ntmps48;go_wp2;go_ret;exact⟨rfl,rfl⟩
def kE(cs:List zc):ByteArray:=cs.H (λs c=>s++(Vb c++p9)) ByteArray.empty
def EX{cs:Ξ}{k:Nat}(a:k<cs.j):kE (cs.G (k+1))=kE (cs.G k)++(Vb cs[k]++p9):=by
 unfold kE;rw[yN a,qZ];rfl
def Fs(M:Nat):∀(l:κ),(∀t∈l,t.q<=M)->(yB l).q<=(M+2)*l.j
 |[],_=>by simp[yB]
 |[t],h=>by have:=h t ζ;simp[yB];omega
 |t::u::r,h=>by
  have c:=h t ζ;have b:=Fs M (u::r) λx a=>h x (nP _ a);show(t++ug++yB (u::r)).q<=_;rw[ByteArray.size_append,ByteArray.size_append,show ug.q=2 from rfl];simp only[xu] at b ⊢;rw[Nat.mul_add,Nat.mul_one];omega
def Kw{c:zc}(h:rz c):(Vb c).q<=10000000:=by
 obtain⟨b,f⟩:=h;have a:∀l∈zm c,(xg l).q<=8009:=λl a=>by have:=td (b l a);have:=(b l a).2.2.1;omega
 have g:=a c.g (by simp[zm]);have i:(TQ c.d).q<=4+8011*c.d.j:=by
  unfold TQ;split;simp;rw[ByteArray.size_append,show fh.q=4 from rfl];have:=Fs 8009 (c.d.w xg) λt e=>by
   obtain⟨l,d,rfl⟩:=zF.1 e;exact a l (by simp[zm,d])
  rw[xt] at this;omega
 unfold Vb;rw[ByteArray.size_append,ByteArray.size_append,show sg.q=1 from rfl];omega
def KG(w:U)(pb:Nat)(cs:Ξ)(t:Ψ)(h:qX lo w pb cs t)(hl:cs.j<=1000)(F:∀c∈cs,rz c):
  Calls prog 47 #[(π pb)] w λe w'=>e=ε (.d (kE cs))/\μ w w':=by
 obtain⟨_,v,pv,h1,K,_⟩:=h;obtain⟨ao,T,rfl⟩:=K.qy;obtain⟨P,y,ac⟩:=h1.e;have V:=Th F;clear F;go_enter func47,ntmps47;go_wp2;go_loopw [3,11] (λN A wr=>∃(k:Nat) (s:ByteArray),k<=cs.j/\A=ι k/\N=.d s/\s.q<=10000001*k/\X (s=kE (cs.G k))/\μ w wr) (λ_ i _=>cs.j-(intOf i).D);exact⟨0,_,zs _,rfl,rfl,zf _,rfl,zn _ _⟩;clear P y;obtain⟨k,s,hk,rfl,rfl,ad,H,a⟩:=hrel;have r:=a.q;by_cases f:k<cs.j
 .obtain⟨g,M,E,Q,G,rfl,x,m,n,p,l,o,q⟩:=K.cell k f;have aa:=zi a x m;have ae:=zi a x n;have L:=zi a x p;have R:=zi a x l;have ab:g<wr.o.q:=η;have I:=EX f;have j:=V.l _ (zq f);have b:=o.u a;have d:=q.u a;clear m n p l o q;generalize cs[k]=c at *;have S:=Kw j;have HL:=Th λW J=>Qf W c _ _ (b.u J) (d.u J) j;clear b d j;generalize Vb c=u at *;have B:p9.q=1:=rfl;have hq:(u++p9).q=u.q+1:=by rw[ByteArray.size_append,B]
  have D:X (s++(u++p9)=kE (cs.G (k+1))):=by rw[X,I,H.l]
  clear I H;go_wp2_with (go_at_call 85;refine(HL.l _ γ).y ?_;rintro e w2 ⟨rfl,C⟩;have z:=Tl (a.C r _) C)
  go_roundw;exact⟨k+1,s++(u++p9),η,ξ,rfl,(by rw[ByteArray.size_append];omega),D,z⟩;simp[intOf];omega
 have D:X (s=kE cs):=by rw[X,H.l,yV η]
 clear H;go_wp2;go_ret;exact⟨by rw[←D.l];rfl,a⟩
end
structure qD where
 D:List Nat
 down:List Nat
 deriving DecidableEq
structure zl where
 r:Nat
 ql:Nat
 B:List qD
 count:Nat
 deriving DecidableEq
abbrev zk:=List Nat
def qD.zero:qD:=⟨[],[]⟩
def yD(T:zl):zl:={T with B:=T.B++[⟨List.replicate T.r T.r,List.replicate T.r 0⟩]}
def zM(a:Nat):Nat:=if a<1 then 1 else a
def xv(a:Nat):Nat:=if (if a<1 then 1 else a)>3 then 3 else(if a<1 then 1 else a)
def xk(a b:Nat):zl:=yD ⟨zM a,xv b,[],0⟩
def yG(T:zl)(at' «from» : Nat):Option Nat:=
 if at'<T.B.j/\«from»<T.r then
  let v:=(T.B.g at' qD.zero).D.g «from» 0
  if v≥T.r then Y else Z v
 else Y
def zJ(T:zl)(at' v:Nat):Option Nat:=
 match yG T at' v with
 |none=>Y
 |some u=>if u=v then Z ((T.B.g at' qD.zero).down.g v 0) else Y
def ko(v:Nat):Nat->List Nat->List Nat
 |0,l=>l
 |n+1,l=>if l.g n 0>v then ko v n (l.set n v) else l
def lY(n:qD)(v d:Nat):qD:=⟨ko v (v+1) n.D,n.down.set v d⟩
def yk(T:zl)(at' v d:Nat):zl:=
 if at'<T.B.j/\v<T.r then{T with B:=T.B.set at' (lY (T.B.g at' qD.zero) v d)} else T
def qu(T:zl)(at' v:Nat):zl×Nat:=
 match zJ T at' v with
 |some b=>(T,b)
 |none=>(yk (yD T) at' v T.B.j,T.B.j)
def gZ(T:zl)(at' v a:Nat):zl×Bool:=
 match zJ T at' v with
 |some _=>(T,false)
 |none=>({yk T at' v a with count:=(yk T at' v a).count+1},true)
def mt(T:zl)(row:zk):Bool:=row.all (λv=>v<T.r)
def vG(a:Nat):zl->Nat->Nat->zk->zl×Bool
 |T,_,_,[]=>(T,false)
 |T,at',level,v::r=>
  if level+1≥T.ql then gZ T at' v a else vG a (qu T at' v).1 (qu T at' v).2 (level+1) r
def yC(T:zl)(row:zk)(a:Nat):zl×Bool:=if mt T row then vG a T 0 0 row else(T,false)
def uV(T:zl):Nat->Nat->zk->Option Nat
 |_,_,[]=>Y
 |at',level,v::r=>
  match zJ T at' v with
  |none=>Y
  |some b=>if level+1≥T.ql then Z b else uV T b (level+1) r
def uf(T:zl)(row:zk):Option Nat:=uV T 0 0 row
def ub(T:zl):Nat->Nat->Nat->Nat->zk->List zk->Option (zk×List zk)
 |0,_,_,_,_,_=>Y
 |n+1,at',level,«from»,row,a=>
  match yG T at' «from» with
  |none=>Z (row,a)
  |some v=>
   let row:=row.set level v
   if level+1≥T.ql then ub T n at' level (v+1) row (a++[row])
   else if level+1≥3 then ub T n at' level (v+1) row a
   else match ub T n ((zJ T at' v).g 0) (level+1) 0 row a with
    |none=>Y
    |some (row,a)=>ub T n at' level (v+1) row a
def mY(a:Nat)(T:zl):Option (List zk):=(ub T a 0 0 0 [0,0,0] []).w (·.2)
structure yh where
 var:Bool
 z:Nat
 w:Nat
 deriving DecidableEq
structure zw where
 o:Nat
 v:List yh
 deriving DecidableEq
structure zu where
 L:Nat
 m:Nat
 g:zw
 qc:List zw
 qx:List zw
 deriving DecidableEq
def zK(l:zw)(place:Nat):Bool:=l.v.any λt=>t.var&&t.z == place
def xd(l:zw)(place:Nat):Option Nat:=if zK l place then Z ((List.range place).countP (zK l)) else Y
def xe(l:zw):Nat:=(List.range 5).countP (zK l)
def vm(l:zw):Nat:=l.v.H (λk t=>if t.var&&decide (t.z≥k) then t.z+1 else k) 0
def ky(l:zw)(je:Int):Int:=l.v.H (λk t=>if t.var&&decide ((t.z:Int)<je)&&decide ((t.z:Int)>k) then(t.z:Int) else k) (-1)
def qL(l:zw)(je:Int):Int:=if (vm l:Int)<=je then -1 else ky l je
def qr(je b:Int)(l:zw):Int:=if qL l je>b then qL l je else b
def xO(r:zu)(je:Int):Int:=r.qx.H (qr je) (r.qc.H (qr je) (ky r.g je))
def U1(t:yh)(vals:List Nat):Nat:=if t.var&&decide (t.z<5) then vals.g t.z 0 else t.z
def Tk(l:zw)(vals:List Nat)(i:Nat):Nat:=if i<l.v.j then U1 (l.v.g i ⟨false,0,0⟩) vals else 0
def zH(l:zw)(vals:List Nat):zk:=[Tk l vals 0,Tk l vals 1,Tk l vals 2]
def leveled(t:yh):Bool:=t.var&&decide (t.w<3)
def qW(l:zw)(row f:zk)(i:Nat):zk:=
 if i<l.v.j/\leveled (l.v.g i ⟨false,0,0⟩)=true then f.set (l.v.g i ⟨false,0,0⟩).w (row.g i 0) else f
def uH(l:zw)(row:zk):zk:=qW l row (qW l row (qW l row [0,0,0] 0) 1) 2
def kh(t:yh)(v:Nat)(f:zk):Bool:=if leveled t then f.g t.w 0 == v else t.z == v
def xU(l:zw)(row f:zk)(i:Nat):Bool:=decide (l.v.j<=i)||kh (l.v.g i ⟨false,0,0⟩) (row.g i 0) f
def xW(l:zw)(row:zk):Option zk:=
 if xU l row (uH l row) 0&&xU l row (uH l row) 1&&xU l row (uH l row) 2 then Z (uH l row) else Y
structure xa where
 I:zl
 B:List Nat
 deriving DecidableEq
structure iC where
 lit:zw
 je:Nat
 I:zl
 deriving DecidableEq
structure zE where
 g:zw
 m:Nat
 ja:List xa
 bars:List iC
 jf:List (List (Nat×Nat))
 ji:List Int
 last:Int
 P:List Nat
 «from» : List Nat
 ql:Int
 /-- as the code counts them: an int of Go's -/
 jg:Int
 deriving DecidableEq
def xa.zero:xa:=⟨⟨0,0,[],0⟩,[]⟩
def xz(r:zu)(place:Nat):List (Nat×Nat):=
 r.qc.zipIdx.filterMap λx=>(xd x.1 place).w λa=>(x.2,a)
def vi(J:zE)(je:Nat):Bool:=J.bars.any λb=>b.je == je&&(uf b.I (zH b.lit J.P)).I
def xK(r:zu)(qc qx:List zl):zE:=
 let J:zE:={g:=r.g,m:=r.m,ja:=qc.w (λT=>⟨T,[0,0,0]⟩),bars:=(r.qx.zip qx).w (λx=>⟨x.1,vm x.1,x.2⟩),jf:=(List.range 5).w (xz r),ji:=(List.range 5).w (λp=>xO r (p:Nat)),last:=xO r r.m,P:=[0,0,0,0,0],«from»:=[0,0,0,0,0],ql:=if qc.any (λT=>T.count == 0) then -1 else 0,jg:=0}
 if vi J 0 then{J with ql:=-1} else J
def vL(J:zE)(h:Nat×Nat):Bool:=decide (h.1<J.ja.j)&&decide (h.2<3)
def qd(J:zE)(h:Nat×Nat)(«from» : Nat):zE×Option Nat:=
 if vL J h then({J with jg:=IntKind.i64.wrap (J.jg+1)},yG (J.ja.g h.1 xa.zero).I ((J.ja.g h.1 xa.zero).B.g h.2 0) «from») else(J,Y)
def gC:Nat->zE->List (Nat×Nat)->Nat->Nat->Nat->Option (zE×Option Nat)
 |0,_,_,_,_,_=>Y
 |n+1,J,c,at',b,a=>
  if b<c.j then
   match qd J (c.g a (0,0)) at' with
   |(J,Y)=>Z (J,Y)
   |(J,Z v)=>gC n J c (if v>at' then v else at') ((if v>at' then 0 else b)+1) (if a+1≥c.j then 0 else a+1)
  else Z (J,Z at')
def lc(a:Nat)(J:zE)(place «from» : Nat):Option (zE×Option Nat):=
 if place≥5∨(J.jf.g place []).j=0 then Z (J,Y) else gC a J (J.jf.g place []) «from» 0 0
def vF(v:Nat)(J:zE)(h:Nat×Nat):zE:=
 if vL J h=false∨h.2+1≥3 then J
 else{J with ja:=J.ja.set h.1 {(J.ja.g h.1 xa.zero) with B:=(J.ja.g h.1 xa.zero).B.set (h.2+1) ((zJ (J.ja.g h.1 xa.zero).I ((J.ja.g h.1 xa.zero).B.g h.2 0) v).g 0)}}
def uB(J:zE)(place v:Nat):zE:=
 if place≥5 then J
 else(J.jf.g place []).H (vF v) {J with P:=J.P.set place v,«from»:=(if place+1<5 then(J.from.set place (v+1)).set (place+1) 0 else J.from.set place (v+1))}
def jF:Nat->zE->Int->Option (zE×Bool)
 |0,_,_=>Y
 |n+1,J,a=>
  if 0<=a/\a<J.m/\a<5 then
   match lc n J a.D (J.from.g a.D 0) with
   |none=>Y
   |some (J,Y)=>jF n J (J.ji.g a.D 0)
   |some (J,Z v)=>jF n (uB J a.D v) (if vi (uB J a.D v) (a.D+1) then a else a+1)
  else Z (J,decide (a≥J.m))
def ly(b:Nat)(J:zE):Option (zE×Bool):=
 match jF b J J.ql with
 |none=>Y
 |some (J,a)=>Z ({J with ql:=if a then J.last else -1},a)
structure yO where
 lit:zw
 before:zl
 qw:zl
 all:zl
 deriving DecidableEq
structure yd where
 p:zu
 F:List yO
 deriving DecidableEq
structure jI where
 o:Nat
 row:zk
 deriving DecidableEq
structure qY where
 r:Nat
 M:List Nat
 facts:List jI
 H:List zu
 deriving DecidableEq
structure zv where
 I:List zl
 count:Nat
 Q:Nat
 jg:Int
 qw:List (List zk)
 deriving DecidableEq
def zl.zero:zl:=⟨0,0,[],0⟩
def qT(R:zv):zv:={R with qw:=List.replicate R.I.j []}
def okT(T:zl):Bool:=decide (T.B.j<=90000000)&&decide (T.count<1000000000)
def xX:List zk->zl->Option zl
 |[],T=>Z T
 |r::a,T=>if okT T then xX a (yC T r 0).1 else Y
def rowsG(a:Nat)(T:zl):Option (List zk):=
 match mY a T with
 |none=>Y
 |some b=>if b.j<=1048576 then Z b else Y
def jV(b:Nat)(R:zv)(a:Nat)(row:zk):Option (zv×Bool):=
 if a<R.I.j/\a<R.qw.j/\okT (R.I.g a zl.zero)=true/\R.count<=1048576/\(R.qw.g a []).j<=1048576 then
  match yC (R.I.g a zl.zero) row R.Q with
  |(T,false)=>Z ({R with I:=R.I.set a T},true)
  |(T,true)=>Z ({R with I:=R.I.set a T,qw:=R.qw.set a (R.qw.g a []++[row]),count:=R.count+1},decide (R.count+1<=b))
 else Y
def lP(b:Nat)(R:zv)(a:Nat):zl:=if a≥R.I.j then xk b 0 else R.I.g a zl.zero
def fQ(d g:Nat)(V:yO)(c:List zk):Option yO:=
 match rowsG d V.qw with
 |none=>Y
 |some e=>
  match xX e V.before,xX (c.filterMap (xW V.lit)) (xk g (xe V.lit)),xX (c.filterMap (xW V.lit)) V.all with
  |some b,Z f,Z a=>Z {V with before:=b,qw:=f,all:=a}
  |_,_,_=>Y
def gF(a:Nat)(l:zw):yO:=⟨l,xk a (xe l),xk a (xe l),xk a (xe l)⟩
def fA(a c:Nat)(R:zv):List zw->Option (List yO)
 |[]=>Z []
 |l::r=>
  match rowsG a (lP c R l.o) with
  |none=>Y
  |some b=>match fQ a c (gF c l) b,fA a c R r with
   |some v,Z vs=>Z (v::vs)
   |_,_=>Y
def TF(a b:Nat)(R:zv)(c:Nat):List zu->Option (List yd)
 |[]=>Z []
 |r::d=>
  if r.L=c then
   match fA a b R r.qc,TF a b R c d with
   |some vs,Z e=>Z (⟨r,vs⟩::e)
   |_,_=>Y
  else TF a b R c d
def vM(a b:Nat):Nat->zv->zE->Option (zv×Bool)
 |0,_,_=>Y
 |n+1,R,J=>
  match ly n J with
  |none=>Y
  |some (J,false)=>Z ({R with jg:=IntKind.i64.wrap (R.jg+J.jg)},true)
  |some (J,true)=>match jV a R b (zH J.g J.P) with
   |none=>Y
   |some (R,false)=>Z (R,false)
   |some (R,true)=>vM a b n R J
def jH(a:Nat)(R:zv)(r:zu):List zl:=r.qx.w λl=>lP a R l.o
def T5(vs:List yO)(place:Nat):List zl:=vs.zipIdx.w λx=>if x.2<place then x.1.before else if x.2=place then x.1.qw else x.1.all
def kl(b c a:Nat)(W:yd):Nat->Nat->zv->Option (zv×Bool)
 |0,_,R=>Z (R,true)
 |n+1,i,R=>
  if (W.F.g i ⟨⟨0,[]⟩,zl.zero,zl.zero,zl.zero⟩).qw.count>0 then
   match vM a W.p.g.o b R (xK W.p (T5 W.F i) (jH c R W.p)) with
   |none=>Y
   |some (R,false)=>Z (R,false)
   |some (R,true)=>kl b c a W n (i+1) R
  else kl b c a W n (i+1) R
def kV(b c a:Nat)(first:Bool)(R:zv)(W:yd):Option (zv×Bool):=
 if first then vM a W.p.g.o b R (xK W.p (W.F.w (·.all)) (jH c R W.p))
 else kl b c a W W.F.j 0 R
def gx(b c a:Nat)(first:Bool):List yd->zv->Option (zv×Bool)
 |[],R=>Z (R,true)
 |W::d,R=>
  match kV b c a first R W with
  |none=>Y
  |some (R,false)=>Z (R,false)
  |some (R,true)=>gx b c a first d R
def f6(a c:Nat)(b:List (List zk)):List yO->Option (List yO)
 |[]=>Z []
 |V::vs=>
  match (if V.lit.o<b.j then fQ a c V (b.g V.lit.o []) else Z V),f6 a c b vs with
  |some v,Z vs=>Z (v::vs)
  |_,_=>Y
def fc(a c:Nat)(d:List (List zk)):List yd->Option (List yd)
 |[]=>Z []
 |W::b=>
  match f6 a c d W.F,fc a c d b with
  |some v,Z b=>Z ({W with F:=v}::b)
  |_,_=>Y
def rt(b d a:Nat)(first:Bool)(c:List yd)(R:zv):Option (zv×List yd×Bool):=
 match gx b d a first c (qT {R with Q:=R.Q+1}) with
 |none=>Y
 |some (R,false)=>Z (R,c,false)
 |some (R,true)=>(fc b d R.qw c).w λc=>(R,c,true)
def gD(e b a:Nat):Nat->Bool->List yd->zv->Option (zv×Bool)
 |0,_,_,_=>Y
 |n+1,first,d,R=>
  if R.Q≥a then Z (R,false)
  else match rt n e b first d R with
   |none=>Y
   |some (c,_,false)=>Z (c,false)
   |some (c,d,true)=>if c.count>R.count then gD e b a n false d c else Z (c,true)
def py(c e b a:Nat)(d:List zu)(R:zv)(s:Nat):Option (zv×Bool):=
 match TF c e R s d with
 |none=>Y
 |some f=>if f.j>0 then gD e b a c true f R else Z (R,true)
def kR(d e b a:Nat)(c:List zu):Nat->Nat->zv->Option (zv×Bool)
 |0,_,R=>Z (R,true)
 |n+1,s,R=>
  match py d e b a c R s with
  |none=>Y
  |some (R,false)=>Z (R,false)
  |some (R,true)=>kR d e b a c n (s+1) R
def kY(a:Nat):List jI->zv->Option (zv×Bool)
 |[],R=>Z (R,true)
 |f::b,R=>
  match jV a R f.o f.row with
  |none=>Y
  |some (R,false)=>Z (R,false)
  |some (R,true)=>kY a b R
def lz(S:qY):zv:=qT ⟨S.M.w (xk S.r),0,0,0,[]⟩
def pn(c:Nat)(S:qY)(a b:Nat):Option (Option zv):=
 match kY a S.facts (lz S) with
 |none=>Y
 |some (_,false)=>Z Y
 |some (R,true)=>(kR c S.r a b S.H S.M.j 0 R).w λx=>if x.2 then Z x.1 else Y
section
variable {d i:Nat}{listed:Array Bool}{w:U}
section
variable {P:Program} {ops:Array Oper} {Q:Exit->Act->U->Prop} {md:Region.Mode} {S:U->Prop}
def mu(P:Program)(md:Region.Mode)(ops:Array Oper)(Q:Exit->Act->U->Prop)(S:U->Prop)(d:Nat):Nat->Array Bool->Act->U->Prop
 |0,listed,a,w=>Region.ready md ops listed=[]/\Q .normal a w
 |b+1,listed,a,w=>
  (Region.ready md ops listed=[]->Q .normal a w) ∧
  ∀i∈Region.ready md ops listed,wpOp P ops Q i (λe c=>(i≠d->S c)/\mu P md ops Q S d b (listed.setIfInBounds i true) e c) a w
def DO{d:Nat}:∀(b:Nat) (listed:Array Bool) (a:Act) (w:U),mu P md ops Q S d b listed a w->wpAny P md ops Q b listed a w
 |0,_,_,_,h=>h
 |b+1,_,_,_,h=>⟨h.1,λi c=>wpOp_mono (λg f e=>DO b _ g f e.2) (h.2 i c)⟩
def Ud(md:Region.Mode)(ops:Array Oper)(d i:Nat):Bool:=match ops[d]? with
 |none=>false
 |some o=>o.after.v.any λe=>Region.binds md e&&e.on == i
def Lo(h:Ud md ops d i=true):∃o,ops[d]?=Z o/\∃e∈o.after,Region.binds md e=true/\e.on=i:=by
 unfold Ud at h;split at h;cases h;rename_i o c;obtain⟨e,b,a⟩:=fg.1 h;simp only[uI,beq_iff_eq] at a;exact⟨o,c,e,by simpa using b,a⟩
def Rs{s:Oper}{v:O}(R:ops[i]?=Z s)(r:∀(j:Nat) (o:Oper) B b,ops[j]?=Z o->o.op≠.select B b)
  (hQ:∀c a w,Q (.panic c) (a.put s.dst v) w->Q (.panic c) a w) (hd:Ud md ops d i=true):
  ∀(g:Nat) (listed:Array Bool) (a:Act) (w:U),
   (∀j x,ops[j]?=Z x->j≠i->listed.g j true=false->(∀e∈x.after,Region.binds md e=true->e.on≠i)->s.apart ops x=true) →
   i∈Region.ready md ops listed->YieldsIf P ops S s v a->S w →
   mu P md ops Q S d g (listed.setIfInBounds i true) (a.put s.dst v) w->mu P md ops Q S d (g+1) listed a w:=by
 intro g;induction g with
 |zero=>
  intro listed a w _ t D C H;refine⟨λh=>(by rw[h] at t;cases t),λj E=>?_⟩;by_cases f:j=i;subst f;exact D.wpOp R C ⟨λ_=>C,H⟩;have:=ready_mono E f;rw[H.1] at this;cases this
 |succ g ih=>
  intro listed a w l t D C H;refine⟨λh=>(by rw[h] at t;cases t),λj E=>?_⟩;by_cases f:j=i;subst f;exact D.wpOp R C ⟨λ_=>C,H⟩;have u:=H.2 j (ready_mono E f);obtain⟨q,x,m,z⟩:=mem_ready.1 E;have p:∀e∈x.after,Region.binds md e=true->e.on≠i:=λe G L M=>by
   have u:=z e G L;have W:=(mem_ready.1 t).1;rw[M] at u;rcases gV i listed.q with K|K;simp[K] at W u;rw[W] at u;cases u;simp[Array.getElem?_eq_none K] at u
  have T:j≠d:=λe=>by
   subst e;obtain⟨od,V,e,G,L,J⟩:=Lo hd;rw[m] at V;cases V;exact p e G L J
  have h2:=wpOp_putIf m (l j x m f q p) (λB b=>r i s B b R) (λB b=>r j x B b m) hQ D u;have n:∀k ok,ops[k]?=Z ok->k≠i->(listed.setIfInBounds j true).g k true=false →
    (∀e∈ok.after,Region.binds md e=true->e.on≠i)->s.apart ops ok=true:=λk ok hk I y N=>by
   refine l k ok hk I ?_ N;by_cases A:j=k
   .subst A;exact q
   .rw[getD_set_ne true A] at y;exact y
  refine wpOp_mono (λa' w' F=>⟨F.2.1,ih (listed.setIfInBounds j true) a' w' n (ready_mono t (Ne.symm f)) F.1 (F.2.1 T) ?_⟩) h2;rw[Array.setIfInBounds_comm _ _ f];exact F.2.2
def uv{e:Oper}{v:O}{b:Nat}{a:Act}(f:ops[i]?=Z e)
  (hs:Region.noSelect ops=true) (l:Region.free md ops listed i=true) (n:(Region.ready md ops listed).contains i=true) (j:Ud md ops d i=true)
  (g:∀c a w,Q (.panic c) (a.put e.dst v) w->Q (.panic c) a w) (k:YieldsIf P ops S e v a) (m:S w)
  (h:mu P md ops Q S d b (listed.setIfInBounds i true) (a.put e.dst v) w):mu P md ops Q S d (b+1) listed a w:=
 Rs f (Region.noSelect_spec hs) g j b listed a w (Region.free_spec f l) (by simpa using n) k m h
def fy{o:Oper}{b:Nat}{a:Act}(g:Region.ready md ops listed=[i])(l:ops[i]?=Z o)
  (h:∀c:Act->U->Prop,Shut (∀a w,(i≠d->S w)->mu P md ops Q S d b (listed.setIfInBounds i true) a w->c a w)->if Region.wanted o (yielded ops a.tmps)=true then Oper.wp P o a w c Q else c (a.put o.dst undef) w):mu P md ops Q S d (b+1) listed a w:=by
 refine⟨λe=>(by rw[g] at e;cases e),λj f=>?_⟩;rw[g] at f;obtain rfl:j=i:=by simpa using f
 exact wpOp_step l (λc k=>h c (λa w n m=>k a w ⟨n,m⟩))
def BV{a:Act}(c:Region.ready md ops listed=[])(h:Q .normal a w):∀b,mu P md ops Q S d b listed a w
 |0=>⟨c,h⟩
 |_+1=>⟨λ_=>h,by rw[c];simp⟩
def Ae{id:Nat}{a:Act}(c:P.follows .mixedOrders=true)(b:S w.drew)
  (h:S w.drew->mu P .any ops Q S d ops.q (Array.replicate ops.q false) a w.drew):(Code.region id ops true).wp P Q a w:=
 wp_region_any c (DO _ _ _ _ (h b))
end
end
section
open Go.RowKit
structure V9 where
 kind:Int
 a:Int
 b:Int
 c:Int
 s:ByteArray
structure V6 (w:U) (v:O) (l:List V9):Prop where
 qy:∃ao cap,v=.k ao l.j cap
 E:∀k (hk:k<l.j),∃b o cap,v=.k (Z ⟨b,o,Y⟩) l.j cap/\b<w.o.q/\w.p ⟨b,o+k*5,Y⟩=Z (ι l[k].kind)/\w.p ⟨b,o+k*5+1,Y⟩=Z (ι l[k].a) ∧
  w.p ⟨b,o+k*5+2,Y⟩=Z (ι l[k].b)/\w.p ⟨b,o+k*5+3,Y⟩=Z (ι l[k].c)/\w.p ⟨b,o+k*5+4,Y⟩=Z (.d l[k].s)
 len:l.j<=281474976710656
 fits:∀x∈l,x.s.q<=281474976710656
def V6.u{w w':U}{v:O}{l:List V9}(h:V6 w v l)(c:μ w w'):V6 w' v l:=
 ⟨h.qy,λk i=>by
  obtain⟨b,o,d,g,a,f,e,m,j,n⟩:=h.E k i;exact⟨b,o,d,g,ym a c.q,(zi c a f),(zi c a e),(zi c a m),(zi c a j),(zi c a n)⟩,h.len,h.fits⟩
def V6.cell{w:U}{c:Option Addr}{n cap:Nat}{l:List V9}(h:V6 w (.k c n cap) l)(k:Nat)(e:k<l.j):∃b o,c=Z (ω b o)/\b<w.o.q/\w.p (ω b (o+k*5))=Z (ι l[k].kind)/\w.p (ω b (o+k*5+1))=Z (ι l[k].a) ∧
  w.p (ω b (o+k*5+2))=Z (ι l[k].b)/\w.p (ω b (o+k*5+3))=Z (ι l[k].c)/\w.p (ω b (o+k*5+4))=Z (.d l[k].s):=by
 obtain⟨b,o,a,d,r⟩:=h.E k e;simp at d;exact⟨b,o,d.1,r⟩
def Vm(w:U)(v:O)(b:List Int):Prop:=∃a,w.r a 3 1 v b.j (b.w (O.int .i64))
def Vm.u{w w':U}{v:O}{l:List Int}(h:Vm w v l)(a:μ w w'):Vm w' v l:=by obtain⟨b,h⟩:=h;exact⟨b,zy h a⟩
def Vm.qy{w:U}{v:O}{l:List Int}(h:Vm w v l):∃c a,v=.k c l.j a:=by obtain⟨b,h⟩:=h;exact zr h
def Vm.cell{w:U}{d:Option Addr}{n cap:Nat}{b:List Int}(h:Vm w (.k d n cap) b)(k:Nat)(i:k<b.j):∃g,d=Z (δ g)/\g<w.o.q/\w.p (ω g k)=Z (ι b[k]):=by
 obtain⟨c,j⟩:=h;obtain⟨g,f,e,_,l,a⟩:=yq j η;simp at e;exact⟨g,e.1,l,a k _ (by simp[i])⟩
end
section
variable {v:ByteArray}{vs:κ}
def Si{t:ByteArray}:v∈ke vs t↔v∈vs∨(v=t/\zQ v=true):=by
 unfold ke;cases a:zQ t;exact⟨zh,λh=>h.elim id λx=>by have g:=x.2;rw[x.1,a] at g;cases g⟩;cases b:yi t vs;simp only[Bool.not_false,Bool.and_true,if_true,ya,xL];exact⟨λh=>h.elim zh λe=>ze ⟨e,by rw[e];exact a⟩,λh=>h.elim zh λe=>ze e.1⟩;exact⟨zh,λh=>h.elim id fun⟨e,_⟩=>by subst e;exact vS.1 b⟩
def iQ{v:ByteArray}:∀{args vs:κ},v∈xH vs args↔v∈vs∨(v∈args/\zQ v=true)
 |[],vs=>by simp[xH]
 |t::r,vs=>by
  show v∈xH (ke vs t) r↔_;rw[iQ,Si,zG];constructor
  .rintro((h|⟨h,g⟩)|⟨h,g⟩)
   .exact zh h
   .exact ze ⟨zh h,g⟩
   .exact ze ⟨ze h,g⟩
  .rintro(h|⟨h|h,g⟩)
   .exact zh (zh h)
   .exact zh (ze ⟨h,g⟩)
   .exact ze ⟨h,g⟩
def Ex{v:ByteArray}:∀{a:Ω} {vs:κ},v∈a.H kX vs↔v∈vs∨(zQ v=true/\∃l∈a,v∈l.k)
 |[],vs=>ζ
 |l::r,vs=>by
  rw[uJ,Ex,kX,iQ];simp only[zG,exists_eq_or_imp];constructor
  .rintro((h|⟨h,g⟩)|⟨g,h⟩)
   .exact zh h
   .exact ze ⟨g,zh h⟩
   .exact ze ⟨g,ze h⟩
  .rintro(h|⟨g,h|h⟩)
   .exact zh (zh h)
   .exact zh (ze ⟨h,g⟩)
   .exact ze ⟨g,h⟩
def FS{v:ByteArray}:∀{a:Ω} {vs:κ},v∈a.H qk vs↔v∈vs∨(zQ v=true/\∃l∈a,l.i=false/\v∈l.k)
 |[],vs=>ζ
 |l::r,vs=>by
  rw[uJ,FS,qk];simp only[zG,exists_eq_or_imp];cases b:l.i with
  |true=>simp
  |false=>
   rw[za ζ,iQ];constructor
   .rintro((h|⟨h,g⟩)|⟨g,h⟩)
    .exact zh h
    .exact ze ⟨g,zh ⟨rfl,h⟩⟩
    .exact ze ⟨g,ze h⟩
   .rintro(h|⟨g,⟨-,h⟩|h⟩)
    .exact zh (zh h)
    .exact zh (ze ⟨h,g⟩)
    .exact ze ⟨g,h⟩
def iP{c:zc}:v∈um c↔zQ v=true/\(v∈c.g.k∨∃l∈c.d,v∈l.k):=by
 unfold um;rw[Ex,iQ];constructor;rintro((h|⟨h,g⟩)|⟨g,h⟩);exact zC h ζ;exact⟨g,zh h⟩;exact⟨g,ze h⟩;rintro⟨g,h|h⟩;exact zh (ze ⟨h,g⟩);exact ze ⟨g,h⟩
def fL{c:zc}:v∈zx c↔zQ v=true/\∃l∈c.d,l.i=false/\v∈l.k:=by
 unfold zx;rw[FS];simp
def n8{args:κ}:qI vs args=true↔∀t∈args,zQ t=true->t∈vs:=by
 unfold qI;rw[gO];constructor;intro h t a b;have:=h t a;rw[b,n7,p8] at this;exact vS.1 this;intro h t a;cases b:zQ t;rfl;rw[n7,p8];exact vS.2 (h t a b)
end
section
variable {b:ByteArray}
def ED:∀a:List UInt8,Op.bytesLess a a=false
 |[]=>rfl
 |x::a=>by simp[Op.bytesLess,ED a]
def GX:∀a b:List UInt8,Op.bytesLess a b=false->Op.bytesLess b a=false->a=b
 |[],[],_,_=>rfl
 |[],_::_,h,_=>by simp[Op.bytesLess] at h
 |_::_,[],_,h=>by simp[Op.bytesLess] at h
 |x::a,y::b,c,e=>by
  simp only[Op.bytesLess,pJ,decide_eq_false_iff_not,wW,beq_eq_false_iff_ne] at c e;have d:x=y:=by
   have f:=c.1;have g:=e.1;rw[UInt8.not_lt] at f g;exact UInt8.le_antisymm g f
  subst d;rw[GX a b (c.2.resolve_left λh=>h rfl) (e.2.resolve_left λh=>h rfl)]
def Ii:∀a b c:List UInt8,Op.bytesLess a b=true->Op.bytesLess b c=true->Op.bytesLess a c=true
 |_,[],_,h,_=>by cases ‹List UInt8›<;>simp[Op.bytesLess] at h
 |_,_::_,[],_,h=>by simp[Op.bytesLess] at h
 |[],_::_,_::_,_,_=>rfl
 |x::a,y::b,z::c,e,d=>by
  simp only[Op.bytesLess,fX,decide_eq_true_eq,uI,beq_iff_eq] at e d ⊢;rcases e with e|⟨rfl,e⟩
  .rcases d with d|⟨rfl,d⟩
   .exact zh (UInt8.lt_trans e d)
   .exact zh e
  .rcases d with d|⟨rfl,d⟩
   .exact zh d
   .exact ze ⟨rfl,Ii a b c e d⟩
def Tw(a:ByteArray):TC a a=false:=ED _
def tE{a:ByteArray}(c:TC a b=false)(d:TC b a=false):a=b:=Ur (GX _ _ c d)
def lt_trans{a c:ByteArray}(d:TC a b=true)(e:TC b c=true):TC a c=true:=Ii _ _ _ d e
def KR{a:ByteArray}(h:TC a b=true):TC b a=false:=by
 cases c:TC b a;rfl;have:=lt_trans h c;rw[Tw] at this;cases this
def y6(l:κ):Prop:=l.Pairwise λa b=>TC a b=true
def Ea:∀{a b:κ},y6 a->y6 b->(∀x,x∈a↔x∈b)->a=b
 |[],[],_,_,_=>rfl
 |[],y::b,_,_,h=>by have:=(h y).2 ζ;cases this
 |x::a,[],_,_,h=>by have:=(h x).1 ζ;cases this
 |x::a,y::b,q,r,h=>by
  obtain⟨f,j⟩:=mp.1 q;obtain⟨g,m⟩:=mp.1 r;have k:x=y:=by
   have d:=(h x).1 ζ;have i:=(h y).2 ζ;rcases zG.1 d with d|d
   .exact d
   .rcases zG.1 i with i|i
    .exact i.z
    .have p:=g x d;have s:=f y i;have:=lt_trans p s;rw[Tw] at this;cases this
  subst k;have o:x∉a:=λc=>by have:=f x c;rw[Tw] at this;cases this
  have n:x∉b:=λc=>by have:=g x c;rw[Tw] at this;cases this
  rw[Ea j m (λz=>?_)];have l:=h z;simp only[zG] at l;constructor
  .intro c;rcases l.1 (ze c) with e|e
   .subst e;exact zC c o
   .exact e
  .intro c;rcases l.2 (ze c) with e|e
   .subst e;exact zC c n
   .exact e
def lG(l a:κ):Nat:=(l.filter λy=>!yi y a).j
def PR{l a:κ}{x:ByteArray}(k:x∈l)(m:x∉a):lG l (a++[x])<lG l a:=by
 unfold lG;have i:∀l:κ,(l.filter λy=>!yi y (a++[x])).j<=(l.filter λy=>!yi y a).j/\(x∈l->(l.filter λy=>!yi y (a++[x])).j<(l.filter λy=>!yi y a).j):=by
  intro l;induction l with
  |nil=>simp
  |cons y l j=>
   have f:yi y a=true->yi y (a++[x])=true:=λh=>vS.2 (ya.2 (zh (vS.1 h)));cases d:yi y a;cases c:yi y (a++[x]);simp only[List.filter_cons,d,c,Bool.not_false,if_true,xu];refine⟨η,λg=>?_⟩;rcases zG.1 g with e|e;subst e;rw[tU] at c;simp at c;have:=j.2 e;omega;simp only[List.filter_cons,d,c,n7,Bool.not_false,dU,if_false,if_true,xu];exact⟨η,λ_=>η⟩;have c:=f d;simp only[List.filter_cons,d,c,n7,dU,if_false];refine⟨j.1,λg=>j.2 ?_⟩;rcases zG.1 g with e|e;subst e;exact zC (vS.1 d) m;exact e
 exact(i l).2 k
def Hd(l:κ):lG l []=l.j:=by
 simp[lG,yi]
end
section
variable {t:List zg}
def Tj(t:List zg):κ:=t.w zg.name
def tY:∀(t:Ψ) (n:ByteArray),∀e∈t.G (zW t n),TC e.name n=true
 |[],_,e,h=>by simp at h
 |a::r,n,e,h=>by
  unfold zW at h;cases b:TC a.name n with
  |false=>simp[b] at h
  |true=>
   simp only[b,if_true,pE,zG] at h;rcases h with rfl|h
   .exact b
   .exact tY r n e h
def tJ:∀(t:Ψ) (n:ByteArray),y6 (Tj t)->∀e∈t.drop (zW t n),TC e.name n=false
 |[],_,_,e,h=>by simp at h
 |a::r,n,f,e,h=>by
  have b:y6 (a.name::Tj r):=f;unfold y6 at b;rw[mp] at b;unfold zW at h;cases c:TC a.name n with
  |true=>
   simp only[c,if_true,mF] at h;exact tJ r n b.2 e h
  |false=>
   simp only[c,dU,if_false,fM,zG] at h;rcases h with rfl|h
   .exact c
   .cases d:TC e.name n with
    |false=>rfl
    |true=>
     have:=lt_trans (b.1 e.name (zF.2 ⟨e,h,rfl⟩)) d;rw[c] at this;cases this
def rx{n:ByteArray}{e:zg}(h:zU t n=Z e):e∈t/\e.name=n:=by
 obtain⟨a,b,c⟩:=jn h;exact⟨by rw[←b];exact zq a,c⟩
def ry{n:ByteArray}(k:y6 (Tj t))(h:zU t n=Y):∀e∈t,e.name≠n:=by
 intro e a g;rw[←jQ (zW t n) t,ya] at a;rcases a with a|a;have:=tY t n e a;rw[g,Tw] at this;cases this;rcases ie h with j|⟨j,f⟩;rw[uk η] at a;cases a;have i:=xp j;have d:=tJ t n k t[zW t n] (by rw[i];exact sM);rw[i,zG] at a;rcases a with rfl|a;exact f g;have c:y6 (Tj (t.drop (zW t n))):=by
  unfold y6 Tj at *;rw[List.map_drop];exact k.sublist (List.drop_sublist _ _)
 rw[i] at c;have b:y6 (t[zW t n].name::Tj (t.drop (zW t n+1))):=c;unfold y6 at b;rw[mp] at b;have:=b.1 e.name (zF.2 ⟨e,a,rfl⟩);rw[g,d] at this;cases this
def sG{x e:zg}{k:Nat}:e∈vy t x k↔e=x∨e∈t:=by
 unfold vy;rw[ya,zG];constructor;rintro(h|h|h);exact ze (gh h);exact zh h;exact ze (fB h);rintro(h|h);exact ze (zh h);rw[←jQ k t,ya] at h;rcases h with h|h;exact zh h;exact ze (ze h)
def IN{x:zg}(i:y6 (Tj t))(k:∀e∈t,e.name≠x.name):y6 (Tj (vy t x (zW t x.name))):=by
 have j:=tY t x.name;have m:=tJ t x.name i;have g:∀e∈t.drop (zW t x.name),TC x.name e.name=true:=by
  intro e d;cases l:TC x.name e.name;exact zC (tE (m e d) l) (k e (fB d));rfl
 have c:=i;rw[←jQ (zW t x.name) t] at c;unfold y6 Tj at c ⊢;unfold vy;rw[qF,mH] at c;rw[qF,uq,mH,mp];refine⟨c.1,⟨?_,c.2.1⟩,?_⟩;intro b f;obtain⟨e,d,rfl⟩:=zF.1 f;exact g e d;intro a h b f;obtain⟨e,d,rfl⟩:=zF.1 h;rcases zG.1 f with rfl|f;exact j e d;exact c.2.2 _ h b f
structure U2 (t:List zg) (ls:List zj):Prop where
 rise:y6 (Tj t)
 names:∀n,n∈Tj t↔∃l∈ls,l.o=n
 jh:∀e∈t,∀l∈ls,l.o=e.name->l.k.j=e.jh
def U2.step{s:Ψ}{v:Ω}{l:zj}(h:U2 t v)(i:vP t l=Z s):U2 s (v++[l]):=by
 unfold vP at i;split at i;rename_i e r;obtain⟨c,p⟩:=rx r;split at i;rename_i q;simp only[zt] at i;subst i;refine⟨h.rise,λn=>?_,λk g d a b=>?_⟩;rw[h.names];constructor;rintro⟨d,a,b⟩;exact⟨d,by simp[a],b⟩;rintro⟨d,a,b⟩;rcases ya.1 a with a|a;exact⟨d,a,b⟩;simp at a;subst a;exact(h.names n).1 (zF.2 ⟨e,c,by rw[p,b]⟩);rcases ya.1 a with a|a;exact h.jh k g d a b;simp at a;subst a;obtain⟨u,o,m⟩:=(h.names e.name).1 (zF.2 ⟨e,c,rfl⟩);rw[←q,←h.jh e c u o m];exact h.jh k g u o (by rw[m,p,b]);cases i;rename_i r;simp only[zt] at i;subst i;have f:=ry h.rise r;refine⟨IN h.rise f,λn=>?_,λk g d a b=>?_⟩;constructor;intro p;obtain⟨e,c,rfl⟩:=zF.1 p;rcases sG.1 c with rfl|c;exact⟨l,ζ,rfl⟩;obtain⟨d,a,b⟩:=(h.names e.name).1 (zF.2 ⟨e,c,rfl⟩);exact⟨d,by simp[a],b⟩;rintro⟨d,a,b⟩;rcases ya.1 a with a|a;obtain⟨e,c,j⟩:=zF.1 ((h.names n).2 ⟨d,a,b⟩);exact zF.2 ⟨e,sG.2 (ze c),j⟩;simp at a;subst a;exact zF.2 ⟨_,sG.2 (zh rfl),b⟩;rcases sG.1 g with rfl|c;rcases ya.1 a with a|a;obtain⟨e,c,j⟩:=zF.1 ((h.names d.o).2 ⟨d,a,rfl⟩);exact zC (j.A b) (f e c);simp at a;subst a;rfl;rcases ya.1 a with a|a;exact h.jh k c d a b;simp at a;subst a;exact zC b.z (f k c)
def Eh:∀(b done:Ω) (t a:Ψ),U2 t done->b.H uK (Z t)=Z a->U2 a (done++b)
 |[],done,t,a,h,e=>by simp at e;subst e;simpa using h
 |l::b,done,t,a,h,e=>by
  rw[uJ] at e;cases c:vP t l with
  |none=>rw[show uK (Z t) l=Y from c,so] at e;cases e
  |some d=>
   rw[show uK (Z t) l=Z d from c] at e;have:=Eh b (done++[l]) d a (h.step c) e;rwa [kT] at this
def iN:U2 [] []:=⟨List.Pairwise.nil,λn=>by simp[Tj],λe a=>by cases a⟩
def Cl{cs:Ξ}(h:uF cs=Z t):U2 t (cs.flatMap zm):=by
 have:=Eh (cs.flatMap zm) [] [] t iN h;simpa using this
end
section
variable {cs:List zc}
def up(l:zj):Nat:=if l.i then 1 else 0
def Uk(cs:List zc)(f:ByteArray->Nat):Prop:=∀c∈cs,∀l∈c.d,f l.o+up l<=f c.g.o
def TU(cs:List zc)(f:ByteArray->Nat):Prop:=Uk cs f/\∀g,Uk cs g->∀n,f n<=g n
def Gh{g:ByteArray->Nat}(t:Uk cs g):∃f,TU cs f:=by
 have a:∀n,∃k,(∃h,Uk cs h/\h n=k)/\∀h,Uk cs h->k<=h n:=by
  intro n;have j:∀m,(∃h,Uk cs h/\h n<=m)->∃k,(∃h,Uk cs h/\h n=k)/\∀h,Uk cs h->k<=h n:=by
   intro m;induction m with
   |zero=>rintro⟨h,b,r⟩;exact⟨0,⟨h,b,η⟩,λ_ _=>zs _⟩
   |succ m u=>
    intro q;by_cases o:∃h,Uk cs h/\h n<=m;exact u o;obtain⟨h,b,r⟩:=q;have d:∀e,Uk cs e->m+1<=e n:=λe i=>by
     false_or_by_contra;rename_i p;exact o ⟨e,i,η⟩
    exact⟨m+1,⟨h,b,by have:=d h b;omega⟩,d⟩
  exact j (g n) ⟨g,t,zf _⟩
 refine⟨λn=>(a n).choose,λc p l s=>?_,λh b n=>(a n).choose_spec.2 h b⟩;obtain⟨⟨h,b,w⟩,-⟩:=(a c.g.o).choose_spec;have v:=(a l.o).choose_spec.2 h b;have x:=b c p l s;simp only;omega
def Vh:∀(N:Nat) (L:Φ),(∀k,k<=N->k∈L)->N+1<=L.j
 |0,L,h=>by
  have:=h 0 (zf _);cases L with
  |nil=>cases this
  |cons=>simp
 |N+1,L,h=>by
  have a:=h (N+1) (zf _);have:=Vh N (L.erase (N+1)) λk b=>(lN η).2 (h k η);rw[nt a] at this;have:0<L.j:=pd a;omega
def BO{f:ByteArray->Nat}(h:TU cs f){ps:κ}(b:∀c∈cs,∀l∈zm c,l.o∈ps){n:ByteArray}(u:n∈ps):f n<ps.j:=by
 false_or_by_contra
 rename_i s;have t:∃k,k<=ps.j/\k∉ps.w f:=by
  apply Classical.byContradiction;intro d;have:=Vh ps.j (ps.w f) λk o=>Classical.byContradiction λg=>d ⟨k,o,g⟩;rw[xt] at this;omega
 obtain⟨k,o,i⟩:=t;have a:∀m∈ps,f m≠k:=λm r e=>i (zF.2 ⟨m,r,e⟩);have q:Uk cs λm=>if k<f m then f m-1 else f m:=by
  intro c p l j;have w:=h.1 c p l j;have y:=a l.o (b c p l (by simp[zm,j]));have z:up l<=1:=by unfold up;split<;>omega
  simp only;split<;>split<;>omega
 have v:=h.2 _ q n;have x:=a n u;split at v<;>omega
def Q6{f a b:ByteArray->Nat}(h:TU cs f)(i:∀n,a n<=b n)(j:∀n,b n<=f n)(g:∀c∈cs,∀l∈c.d,a l.o+up l<=b c.g.o)
  (d:∀n,b n=f n->a n=f n):∀n,a n=f n:=by
 apply Classical.byContradiction;intro r;have ⟨n,x⟩:∃n,¬a n=f n:=Classical.byContradiction λw=>r λn=>Classical.byContradiction λo=>w ⟨n,o⟩;have u:Uk cs λm=>if a m=f m then f m else f m-1:=by
  intro c o l s;have v:=h.1 c o l s;have C:=g c o l s;have B:=i c.g.o;have D:=j c.g.o;have q:=d c.g.o;have t:=i l.o;have y:=j l.o;have z:up l<=1:=by unfold up;split<;>omega
  simp only;by_cases p:a l.o=f l.o;by_cases k:a c.g.o=f c.g.o;rw[zb p,zb k];exact v;have A:¬b c.g.o=f c.g.o:=λe=>k (q e);rw[zb p,za k];omega;by_cases k:a c.g.o=f c.g.o;rw[za p,zb k];omega;rw[za p,za k];omega
 have q:=h.2 _ u n;simp only[x,if_false] at q;have t:=i n;have y:=j n;omega
end
section
variable {t:List zg}
def val(t:List zg)(n:ByteArray):Nat:=match zU t n with
 |some e=>e.L
 |none=>0
def o7:∀{t c:Ψ},Tj t=Tj c->∀n,zW t n=zW c n
 |[],[],_,_=>rfl
 |[],_::_,h,_=>by simp[Tj] at h
 |_::_,[],h,_=>by simp[Tj] at h
 |a::r,b::q,h,n=>by
  simp only[Tj,uq,mS] at h;unfold zW;rw[h.1,o7 h.2 n]
def Ib{k:Nat}{e:zg}(b:k<t.j)(a:e.name=t[k].name):Tj (t.set k e)=Tj t:=by
 unfold Tj;rw[lf,a];apply jv ζ;intro i c d;rw[lT];split;rename_i h;subst h;simp;rfl
def Se(t:Ψ)(n:ByteArray)(s:Nat):Tj (xZ t n s).1=Tj t:=by
 unfold xZ;split;rfl;rename_i e c;obtain⟨a,b,d⟩:=jn c;split;rfl;exact Ib a (by rw[b])
def MO{n:ByteArray}{e:zg}(s:Nat)(g:zU t n=Z e)(m:ByteArray):zU (t.set (zW t n) {e with L:=s}) m=if m=n then Z {e with L:=s} else zU t m:=by
 obtain⟨a,d,f⟩:=jn g;have h:zW (t.set (zW t n) {e with L:=s}) m=zW t m:=o7 (Ib a (by rw[d])) m;unfold zU;rw[h,sV];by_cases b:m=n;subst b;rw[zb rfl,zb rfl,zb a];simp[f];rw[za b];by_cases c:zW t n=zW t m;rw[zb c,zb a,←c,yn a,d];simp[f,Ne.symm b];rw[za c]
def E3(t:Ψ)(n:ByteArray)(s:Nat)(m:ByteArray):val (xZ t n s).1 m=if m=n/\(zU t n).I=true then max (val t n) s else val t m:=by
 unfold xZ;rcases b:zU t n with _|e;simp;simp only[j6,and_true];have d:val t n=e.L:=by simp[val,b]
 split;split;rename_i c f;rw[f,d];omega;rfl;rename_i c;unfold val;rw[MO s b m,b];by_cases a:m=n;rw[zb a,zb a];simp only;omega;rw[za a,za a]
def KV(t:Ψ)(n:ByteArray)(s:Nat):((xZ t n s).2=false->(xZ t n s).1=t)/\((xZ t n s).2=true->val t n<val (xZ t n s).1 n):=by
 constructor;unfold xZ;split;exact λ_=>rfl;split;exact λ_=>rfl;intro h;cases h;intro h;rw[E3];unfold xZ at h;split at h;cases h;rename_i e a;split at h;cases h;rename_i b;have c:val t n=e.L:=by simp[val,a]
 rw[zb ⟨rfl,by simp[a]⟩];omega
def CQ{t:Ψ}:∀(b:Ω) (n:Nat),n<=b.H (qP t) n/\∀l∈b,kw t l<=b.H (qP t) n
 |[],n=>⟨zf _,λl c=>by cases c⟩
 |a::b,n=>by
  have ⟨e,d⟩:=CQ (t:=t) b (qP t n a);have f:n<=qP t n a/\kw t a<=qP t n a:=by unfold qP;split<;>omega
  rw[uJ];refine⟨η,λl c=>?_⟩;rcases zG.1 c with rfl|c
  .omega
  .exact d l c
def Fy{t:Ψ}{M:Nat}:∀(b:Ω) (n:Nat),n<=M->(∀l∈b,kw t l<=M)->b.H (qP t) n<=M
 |[],n,h,_=>h
 |a::b,n,h,c=>by
  rw[uJ];refine Fy b _ ?_ λl d=>c l (by simp[d]);have:=c a ζ;unfold qP;split<;>omega
def KF{l:zj}(h:(zU t l.o).I=true):kw t l=val t l.o+up l:=by
 unfold kw val up;rcases a:zU t l.o with _|e;rw[a] at h;cases h;simp only;split<;>rfl
end
section
variable {t t':List zg}
def Id(t:Ψ)(n:ByteArray):(zU t n).I=true↔(Tj t)[zW t n]?=Z n:=by
 unfold zU Tj;rw[mG];rcases h:t[zW t n]? with _|e;simp;simp only[jL,zt];split<;>simp[*]
def CC(h:Tj t=Tj t')(n:ByteArray):(zU t n).I=true↔(zU t' n).I=true:=by
 rw[Id,Id,h,o7 h n]
def kP(t:List zg)(cs:List zc):Prop:=∀c∈cs,∀l∈zm c,(zU t l.o).I=true
def kP.names{cs:Ξ}(h:kP t cs)(b:Tj t=Tj t'):kP t' cs:=λc d l a=>(CC b _).1 (h c d l a)
structure Ff (x y:List zg×Bool) (ds:List zc):Prop where
 names:Tj y.1=Tj x.1
 grow:∀n,val x.1 n<=val y.1 n
 step:∀c∈ds,∀l∈c.d,val x.1 l.o+up l<=val y.1 c.g.o
 low:∀f,Uk ds f->(∀n,val x.1 n<=f n)->∀n,val y.1 n<=f n
 still:y.2=false->y.1=x.1/\x.2=false
 moved:y.2=true->x.2=true∨∃n,val x.1 n<val y.1 n
def Iv{x:Ψ×Bool}{c:zc}(h:kP x.1 [c]):Ff x (vZ x c) [c]:=by
 have s:=h c ζ c.g (by simp[zm]);have i:∀l∈c.d,kw x.1 l=val x.1 l.o+up l:=λl i=>KF (h c ζ l (by simp[zm,i]));have o:=λm=>E3 x.1 c.g.o (jy x.1 c) m;have p:=KV x.1 c.g.o (jy x.1 c);refine⟨Se _ _ _,λn=>?_,λr g l a=>?_,λf q b n=>?_,λj=>?_,λk=>?_⟩;show _<=val (xZ _ _ _).1 n;rw[o];split;rename_i e;rw[e.1];omega;omega;simp at g;subst g;show _<=val (xZ _ _ _).1 _;rw[o,zb ⟨rfl,s⟩,←i l a];have:=(CQ (t:=x.1) r.d 0).2 l a;unfold jy;omega;show val (xZ _ _ _).1 n<=_;rw[o];split;rename_i e;rw[e.1];have u:=b c.g.o;have d:jy x.1 c<=f c.g.o:=by
  unfold jy;refine Fy c.d 0 (zs _) λl a=>?_;have:=q c ζ l a;have:=b l.o;rw[i l a];omega
 omega;exact b n;have d:(x.2||(xZ x.1 c.g.o (jy x.1 c)).2)=false:=j;rw[pJ] at d;exact⟨p.1 d.2,d.1⟩;have d:(x.2||(xZ x.1 c.g.o (jy x.1 c)).2)=true:=k;rw[fX] at d;rcases d with d|d;exact zh d;exact ze ⟨_,p.2 d⟩
def wu:∀(j:Ξ) (x:Ψ×Bool),kP x.1 j->Ff x (j.H vZ x) j
 |[],x,_=>⟨rfl,λ_=>zf _,λc r=>by(cases r),λ_ _ h=>h,λh=>⟨rfl,h⟩,λh=>zh h⟩
 |c::j,x,h=>by
  have d:=Iv (x:=x) (c:=c) λb a=>by simp at a;subst a;exact h b ζ
  have e:=wu j (vZ x c) (kP.names (λb a=>h b (by simp[a])) d.names.z);rw[uJ];refine⟨e.names.A d.names,λn=>zY (d.grow n) (e.grow n),λb a l q=>?_,λf p k=>?_,λm=>?_,λo=>?_⟩
  .rcases zG.1 a with rfl|a
   .exact zY (d.step b ζ l q) (e.grow _)
   .have:=e.step b a l q;have:=d.grow l.o;omega
  .exact e.low f (λb a=>p b (by simp[a])) (d.low f (λb a=>by simp at a;subst a;exact p b ζ) k)
  .have i:=e.still m;have g:=d.still i.2;exact⟨i.1.A g.1,g.2⟩
  .rcases e.moved o with i|⟨n,i⟩
   .rcases d.moved i with g|⟨n,g⟩
    .exact zh g
    .exact ze ⟨n,ym g (e.grow n)⟩
   .exact ze ⟨n,Nat.lt_of_le_of_lt (d.grow n) i⟩
def Bi{n:ByteArray}(h:n∉Tj t):val t n=0:=by
 unfold val;split;rename_i e c;obtain⟨b,a⟩:=rx c;exact zC (zF.2 ⟨e,b,a⟩) h;rfl
def rest(f:ByteArray->Nat)(t:List zg):Nat:=((Tj t).filter λn=>decide (val t n≠f n)).j
def L9{f:ByteArray->Nat}(o:Tj t'=Tj t)(b:∀n,val t n=f n->val t' n=f n){m:ByteArray}(d:m∈Tj t)(k:val t m≠f m)(p:val t' m=f m):rest f t'<rest f t:=by
 unfold rest;rw[o];generalize Tj t=i at d;have j:∀l:κ,(l.filter λn=>decide (val t' n≠f n)).j<=(l.filter λn=>decide (val t n≠f n)).j:=by
  intro l;induction l with
  |nil=>simp
  |cons a l g=>
   by_cases c:val t a=f a;simp[c,b a c];simpa using g;by_cases e:val t' a=f a;simp[c,e];have:=g;simp at this;omega;simp[c,e];simpa using g
 induction i with
 |nil=>cases d
 |cons a i g=>
  have h:=j i;rcases zG.1 d with rfl|d;simp[k,p];simp at h;omega;have:=g d;by_cases c:val t a=f a;simp[c,b a c];simpa using this;by_cases e:val t' a=f a;simp[c,e];simp at this;omega;simp[c,e];simpa using this
def iy:∀(m:Nat) (t:Ψ) (cs:Ξ),kP t cs->Tj (ui m t cs).1=Tj t
 |0,_,_,_=>rfl
 |m+1,t,cs,h=>by
  have p:=wu cs (t,false) h;unfold ui;split
  .exact(iy m _ cs (h.names p.names.z)).A p.names
  .exact p.names
def Cn{f:ByteArray->Nat}:∀(m:Nat) (t:Ψ) (cs:Ξ),kP t cs->Uk cs f->(∀n,val t n<=f n)->∀n,val (ui m t cs).1 n<=f n
 |0,_,_,_,_,h=>h
 |m+1,t,cs,h,b,a=>by
  have p:=wu cs (t,false) h;have:=p.low f b a;unfold ui;split
  .exact Cn m _ cs (h.names p.names.z) b this
  .exact this
def iM:∀(m:Nat) (t:Ψ) (cs:Ξ),kP t cs->(ui m t cs).2=true->Uk cs (val (ui m t cs).1)
 |0,_,_,_,h=>by cases h
 |m+1,t,cs,h,b=>by
  have p:=wu cs (t,false) h;unfold ui at b ⊢;split at b
  .rename_i a;rw[zb a];exact iM m _ cs (h.names p.names.z) b
  .rename_i a;rw[za a];have f:=(p.still (by simpa [qa] using a)).1;intro c d l g;have e:=p.step c d l g;show val (cs.H vZ (t,false)).1 l.o+up l<=val (cs.H vZ (t,false)).1 c.g.o;rw[f] at e ⊢;exact e
def ET{f:ByteArray->Nat}{cs:Ξ}(o:TU cs f):∀(m:Nat) (t:Ψ),kP t cs->(∀n,val t n<=f n)->rest f t<m->(ui m t cs).2=true
 |0,_,_,_,h=>η
 |m+1,t,h,b,v=>by
  have p:=wu cs (t,false) h;have a:=p.low f o.1 b;unfold ui;split
  .rename_i l;refine ET o m _ (h.names p.names.z) a ?_;have j:¬∀n,val t n=f n:=by
    intro c;rcases p.moved l with d|⟨n,d⟩
    .cases d
    .have:=a n;have:=c n;simp only at d;omega
   have ⟨n,g,i⟩:∃n,val (cs.H vZ (t,false)).1 n=f n/\val t n≠f n:=by
    apply Classical.byContradiction;intro e;exact j (Q6 o p.grow a p.step λn s=>Classical.byContradiction λl=>e ⟨n,s,l⟩)
   have q:n∈Tj t:=by
    apply Classical.byContradiction;intro e;have d:=Bi e;have u:val (cs.H vZ (t,false)).1 n=0:=Bi (by rw[p.names];exact e);omega
   have:=L9 (f:=f) (t:=t) p.names (λk r=>Nat.le_antisymm (a k) (by rw[←r];exact p.grow k)) q i g;show rest f (cs.H vZ (t,false)).1<m;omega
  .rfl
def wG{cs:Ξ}(h:kP t cs)(b:∀n,val t n=0):((ui (t.j+1) t cs).2=true↔∃f,Uk cs f)/\((ui (t.j+1) t cs).2=true->TU cs (val (ui (t.j+1) t cs).1)):=by
 refine⟨⟨λe=>⟨_,iM _ t cs h e⟩,?_⟩,λe=>⟨iM _ t cs h e,λg a=>Cn _ t cs h a λn=>by rw[b];omega⟩⟩;rintro⟨g,a⟩;obtain⟨f,c⟩:=Gh a;refine ET c _ t h (λn=>by rw[b];omega) ?_;have:=rA (λn=>decide (val t n≠f n)) (Tj t);have d:(Tj t).j=t.j:=by simp[Tj]
 unfold rest;omega
end
section
open Go.Proofs.Tryz Go.RowKit
def UE(c:Int)(s:ByteArray):Bool:=s.data.v.any λb=>(b.D:Int) == c
def pq(c:Int)(s:ByteArray)(w:U)(hs:s.q<=1000):
  Calls prog 105 #[.int .u8 c,.d s] w λe m=>e=ε (.i (UE c s))/\m=w:=by
 go_enter func105,ntmps105;go_wp2;go_loop [5] (λi=>∃k:Nat,k<=s.q/\i=ι k/\X (UE c s=(s.data.v.drop k).any λb=>(b.D:Int) == c)) (λi=>s.q-(intOf i).D);exact⟨0,zs _,rfl,rfl⟩;obtain⟨k,n,rfl,H⟩:=hrel;by_cases f:k<s.q
 .have g:k<s.data.v.j:=by rw[nZ];exact f
  have a:=oq s.data.v (λb=>(b.D:Int) == c) k g;have h:s.data.v[k]=s[k]:=rfl;rw[h] at a;have l:X (UE c s=(((s[k].D:Int) == c)||(s.data.v.drop (k+1)).any λb=>(b.D:Int) == c)):=by rw[X,H.l,a]
  cases j:((s[k].D:Int) == c)
  .have d:X (UE c s=(s.data.v.drop (k+1)).any λb=>(b.D:Int) == c):=by rw[X,l.l,j];rfl
   go_wp2;go_round;exact⟨k+1,η,ξ,d⟩;simp[intOf];omega
  have d:X (UE c s=true):=by rw[X,l.l,j];rfl
  go_wp2;go_ret;exact⟨by rw[d.l];rfl,rfl⟩
 have d:X (UE c s=false):=by rw[X,H.l,uk (by rw[nZ];show s.q<=k;omega)];rfl
 go_wp2;go_ret;exact⟨by rw[d.l];rfl,rfl⟩
def pX(p:Int->Bool)(s:ByteArray)(h:(List.range 256).all (λn=>UE (n:Int) s == p (n:Int))=true)(c:Int)(a:0<=c)(b:c<256):UE c s=p c:=by
 obtain⟨n,rfl⟩:=Int.eq_ofNat_of_zero_le a;have:=gO.1 h n υ;simpa using this
def UO(c:Int):Bool:=c == 40||c == 41||c == 44||c == 46||c == 33
def pk(c:Int):Bool:=xi c||qe c
def OI(c:Int)(a:0<=c)(b:c<256):UE c {data:=#[32,10]}=qS c:=pX qS _ (by decide +kernel) c a b
def Nc(c:Int)(a:0<=c)(b:c<256):UE c {data:=#[48,49,50,51,52,53,54,55,56,57]}=yY c:=pX yY _ (by decide +kernel) c a b
def MI(c:Int)(a:0<=c)(b:c<256):UE c {data:=#[97,98,99,100,101,102,103,104,105,106,107,108,109,110,111,112,113,114,115,116,117,118,119,120,121,122]}=xi c:=pX xi _ (by decide +kernel) c a b
def Mx(c:Int)(a:0<=c)(b:c<256):UE c {data:=#[65,66,67,68,69,70,71,72,73,74,75,76,77,78,79,80,81,82,83,84,85,86,87,88,89,90]}=qe c:=pX qe _ (by decide +kernel) c a b
def RM(c:Int)(a:0<=c)(b:c<256):UE c {data:=#[97,98,99,100,101,102,103,104,105,106,107,108,109,110,111,112,113,114,115,116,117,118,119,120,121,122,65,66,67,68,69,70,71,72,73,74,75,76,77,78,79,80,81,82,83,84,85,86,87,88,89,90]}=pk c:=pX pk _ (by decide +kernel) c a b
def QH(c:Int)(a:0<=c)(b:c<256):UE c {data:=#[97,98,99,100,101,102,103,104,105,106,107,108,109,110,111,112,113,114,115,116,117,118,119,120,121,122,65,66,67,68,69,70,71,72,73,74,75,76,77,78,79,80,81,82,83,84,85,86,87,88,89,90,48,49,50,51,52,53,54,55,56,57]}=TL c:=pX TL _ (by decide +kernel) c a b
def M0(c:Int)(a:0<=c)(b:c<256):UE c {data:=#[40,41,44,46,33]}=UO c:=pX UO _ (by decide +kernel) c a b
def rG(c:Int)(w:U)(a:0<=c)(b:c<256):Calls prog 105 #[.int .u8 c,.d {data:=#[32,10]}] w λe d=>e=ε (.i (qS c))/\d=w:=by
 have:=pq c {data:=#[32,10]} w θ;rw[OI c a b] at this;exact this
def mV(c:Int)(w:U)(a:0<=c)(b:c<256):Calls prog 105 #[.int .u8 c,.d {data:=#[48,49,50,51,52,53,54,55,56,57]}] w λe d=>e=ε (.i (yY c))/\d=w:=by
 have:=pq c {data:=#[48,49,50,51,52,53,54,55,56,57]} w θ;rw[Nc c a b] at this;exact this
def QB(c:Int)(w:U)(a:0<=c)(b:c<256):Calls prog 105 #[.int .u8 c,.d {data:=#[97,98,99,100,101,102,103,104,105,106,107,108,109,110,111,112,113,114,115,116,117,118,119,120,121,122]}] w λe d=>e=ε (.i (xi c))/\d=w:=by
 have:=pq c {data:=#[97,98,99,100,101,102,103,104,105,106,107,108,109,110,111,112,113,114,115,116,117,118,119,120,121,122]} w θ;rw[MI c a b] at this;exact this
def L4(c:Int)(w:U)(a:0<=c)(b:c<256):Calls prog 105 #[.int .u8 c,.d {data:=#[65,66,67,68,69,70,71,72,73,74,75,76,77,78,79,80,81,82,83,84,85,86,87,88,89,90]}] w λe d=>e=ε (.i (qe c))/\d=w:=by
 have:=pq c {data:=#[65,66,67,68,69,70,71,72,73,74,75,76,77,78,79,80,81,82,83,84,85,86,87,88,89,90]} w θ;rw[Mx c a b] at this;exact this
def m5(c:Int)(w:U)(a:0<=c)(b:c<256):Calls prog 105 #[.int .u8 c,.d {data:=#[97,98,99,100,101,102,103,104,105,106,107,108,109,110,111,112,113,114,115,116,117,118,119,120,121,122,65,66,67,68,69,70,71,72,73,74,75,76,77,78,79,80,81,82,83,84,85,86,87,88,89,90]}] w λe d=>e=ε (.i (pk c))/\d=w:=by
 have:=pq c {data:=#[97,98,99,100,101,102,103,104,105,106,107,108,109,110,111,112,113,114,115,116,117,118,119,120,121,122,65,66,67,68,69,70,71,72,73,74,75,76,77,78,79,80,81,82,83,84,85,86,87,88,89,90]} w θ;rw[RM c a b] at this;exact this
def mv(c:Int)(w:U)(a:0<=c)(b:c<256):Calls prog 105 #[.int .u8 c,.d {data:=#[97,98,99,100,101,102,103,104,105,106,107,108,109,110,111,112,113,114,115,116,117,118,119,120,121,122,65,66,67,68,69,70,71,72,73,74,75,76,77,78,79,80,81,82,83,84,85,86,87,88,89,90,48,49,50,51,52,53,54,55,56,57]}] w λe d=>e=ε (.i (TL c))/\d=w:=by
 have:=pq c {data:=#[97,98,99,100,101,102,103,104,105,106,107,108,109,110,111,112,113,114,115,116,117,118,119,120,121,122,65,66,67,68,69,70,71,72,73,74,75,76,77,78,79,80,81,82,83,84,85,86,87,88,89,90,48,49,50,51,52,53,54,55,56,57]} w θ;rw[QH c a b] at this;exact this
def kI(c:Int)(w:U)(a:0<=c)(b:c<256):Calls prog 105 #[.int .u8 c,.d {data:=#[40,41,44,46,33]}] w λe d=>e=ε (.i (UO c))/\d=w:=by
 have:=pq c {data:=#[40,41,44,46,33]} w θ;rw[M0 c a b] at this;exact this
def gu(s:ByteArray)(w:U)(h:0<s.q):
  Calls prog 184 #[.d s] w λe a=>e=ε (.i (xi (Tt s 0)))/\a=w:=by
 have b:=ma s 0;rw[qV h] at b ⊢;go_enter func184,ntmps184;go_wp2_with (go_at_call 105;refine(QB _ _ η η).y ?_;rintro e a ⟨rfl,rfl⟩)
 go_ret;exact⟨rfl,rfl⟩
def wR(s:ByteArray)(w:U)(h:0<s.q):
  Calls prog 154 #[.d s] w λe a=>e=ε (.i (qe (Tt s 0)))/\a=w:=by
 have b:=ma s 0;rw[qV h] at b ⊢;go_enter func154,ntmps154;go_wp2_with (go_at_call 105;refine(L4 _ _ η η).y ?_;rintro e a ⟨rfl,rfl⟩)
 go_ret;exact⟨rfl,rfl⟩
def n6(s:ByteArray)(w:U)(h:0<s.q):
  Calls prog 185 #[.d s] w λe a=>e=ε (.i (TL (Tt s 0)))/\a=w:=by
 have b:=ma s 0;rw[qV h] at b ⊢;go_enter func185,ntmps185;go_wp2_with (go_at_call 105;refine(mv _ _ η η).y ?_;rintro e a ⟨rfl,rfl⟩)
 go_ret;exact⟨rfl,rfl⟩
def DP(s:ByteArray)(h:1<s.q):((s.extract 0 2).v == [58,45])=(decide (Tt s 0=58)&&decide (Tt s 1=45)):=by
 rw[jS,qV (by omega:0<s.q),qV h];have d:(s.extract 0 2).data.v=[s[0],s[1]]:=by
  rw[ByteArray.data_extract,Array.toList_extract];obtain⟨⟨l⟩⟩:=s;match l,h with
  |a::b::r,_=>rfl
 rw[d];have e:∀(x:UInt8) (n:UInt8),(x == n)=decide ((x.D:Int)=(n.D:Int)):=λx n=>by
  by_cases c:x=n;subst c;simp;rw[beq_eq_false_iff_ne.2 c];symm;rw[decide_eq_false_iff_not];intro f;exact c (UInt8.toNat_inj.1 η)
 simp only[List.cons_beq_cons,e,List.nil_beq_eq,List.isEmpty_nil,Bool.and_true];rfl
def xC(s:ByteArray):Nat:=yx s 0 (xw (Tt s 0) (Tt s 1))
def L8(s:ByteArray)(w:U)(_:s.q<=500)(d:1<s.q)(c:Tt s 0=58)(b:Tt s 1=45):
  Calls prog 106 #[.d s] w λe h=>e=ε (ι (xC s))/\h=w:=by
 have f:X (xC s=2):=by unfold X xC;rw[c,b];rfl
 have a:=DP s d;rw[c,b] at a;have g:((s.extract 0 2).v == [58,45])=true:=a;clear a c b;go_enter func106,ntmps106;go_wp2_with fail
 go_ret;exact⟨by rw[f.l];rfl,rfl⟩
def tT(s:ByteArray):Prop:=¬1<s.q∨(1<s.q/\((s.extract 0 2).v == [58,45])=false)
def Jj(s:ByteArray)(h:¬(Tt s 0=58/\Tt s 1=45)):tT s:=by
 by_cases a:1<s.q;right;refine⟨a,?_⟩;rw[DP s a];simp only[wW,decide_eq_false_iff_not];omega;left;exact a
def Jc(s:ByteArray)(w:U)(hs:s.q<=500)(g:0<s.q)(b:tT s)(h:UO (Tt s 0)=true):
  Calls prog 106 #[.d s] w λe d=>e=ε (ι (1))/\d=w:=by
 have c:=ma s 0;have a:=qV g;rw[a] at c h;clear a;rcases b with b|⟨f,b⟩
 all_goals
  go_enter func106,ntmps106;go_wp2_with (go_at_call 105;refine(kI _ _ η η).y ?_;rintro e d ⟨rfl,rfl⟩)
  go_ret;exact⟨rfl,rfl⟩
def LV(s:ByteArray)(w:U)(hs:s.q<=500)(o:0<s.q)(i:tT s)(h:UO (Tt s 0)=false)(n:yY (Tt s 0)=true):
  Calls prog 106 #[.d s] w λe a=>e=ε (ι (yJ yY s 0))/\a=w:=by
 have l:=ma s 0;have j:=qV o;rw[j] at l h n;rcases i with i|⟨m,i⟩
 all_goals
  go_enter func106,ntmps106;go_wp2_with (first|(go_at_call 105;with_reducible refine(kI _ _ η η).y ?_;rintro e a ⟨rfl,rfl⟩)|(go_at_call 105;with_reducible refine(mV _ _ η η).y ?_;rintro e a ⟨rfl,rfl⟩)|(go_at_call 105;with_reducible refine(m5 _ _ η η).y ?_;rintro e a ⟨rfl,rfl⟩)|(go_at_call 105;with_reducible refine(mv _ _ η η).y ?_;rintro e a ⟨rfl,rfl⟩))
  go_loop [3] (λt=>∃k:Nat,k<=s.q/\t=ι k/\X (yJ yY s 0=yJ yY s k)) (λt=>s.q-(intOf t).D);exact⟨0,zs _,rfl,rfl⟩;obtain⟨k,p,rfl,H⟩:=hrel;by_cases c:k<s.q
  .have g:=qV c;have f:=ma s k;cases b:yY (Tt s k)
   .have d:X (yJ yY s 0=k):=by rw[X.out H,nY b];rfl
    rw[g] at b f;go_wp2_with (first|(go_at_call 105;with_reducible refine(kI _ _ η η).y ?_;rintro e a ⟨rfl,rfl⟩)|(go_at_call 105;with_reducible refine(mV _ _ η η).y ?_;rintro e a ⟨rfl,rfl⟩)|(go_at_call 105;with_reducible refine(m5 _ _ η η).y ?_;rintro e a ⟨rfl,rfl⟩)|(go_at_call 105;with_reducible refine(mv _ _ η η).y ?_;rintro e a ⟨rfl,rfl⟩))
    go_ret;exact⟨by rw[X.out d];rfl,rfl⟩
   have d:X (yJ yY s 0=yJ yY s (k+1)):=by rw[X.out H,mL c b];rfl
   rw[g] at b f;go_wp2_with (first|(go_at_call 105;with_reducible refine(kI _ _ η η).y ?_;rintro e a ⟨rfl,rfl⟩)|(go_at_call 105;with_reducible refine(mV _ _ η η).y ?_;rintro e a ⟨rfl,rfl⟩)|(go_at_call 105;with_reducible refine(m5 _ _ η η).y ?_;rintro e a ⟨rfl,rfl⟩)|(go_at_call 105;with_reducible refine(mv _ _ η η).y ?_;rintro e a ⟨rfl,rfl⟩))
   go_round;exact⟨k+1,η,ξ,d⟩;simp[intOf];omega
  have d:X (yJ yY s 0=k):=by rw[X.out H,fx c];rfl
  go_wp2_with (first|(go_at_call 105;with_reducible refine(kI _ _ η η).y ?_;rintro e a ⟨rfl,rfl⟩)|(go_at_call 105;with_reducible refine(mV _ _ η η).y ?_;rintro e a ⟨rfl,rfl⟩)|(go_at_call 105;with_reducible refine(m5 _ _ η η).y ?_;rintro e a ⟨rfl,rfl⟩)|(go_at_call 105;with_reducible refine(mv _ _ η η).y ?_;rintro e a ⟨rfl,rfl⟩))
  go_ret;exact⟨by rw[X.out d];rfl,rfl⟩
def N2(s:ByteArray)(w:U)(hs:s.q<=500)(p:0<s.q)(i:tT s)(h:UO (Tt s 0)=false)(o:yY (Tt s 0)=false)(n:pk (Tt s 0)=true):
  Calls prog 106 #[.d s] w λe a=>e=ε (ι (yJ TL s 0))/\a=w:=by
 have l:=ma s 0;have j:=qV p;rw[j] at l h o n;rcases i with i|⟨m,i⟩
 all_goals
  go_enter func106,ntmps106;go_wp2_with (first|(go_at_call 105;with_reducible refine(kI _ _ η η).y ?_;rintro e a ⟨rfl,rfl⟩)|(go_at_call 105;with_reducible refine(mV _ _ η η).y ?_;rintro e a ⟨rfl,rfl⟩)|(go_at_call 105;with_reducible refine(m5 _ _ η η).y ?_;rintro e a ⟨rfl,rfl⟩)|(go_at_call 105;with_reducible refine(mv _ _ η η).y ?_;rintro e a ⟨rfl,rfl⟩))
  go_loop [3] (λt=>∃k:Nat,k<=s.q/\t=ι k/\X (yJ TL s 0=yJ TL s k)) (λt=>s.q-(intOf t).D);exact⟨0,zs _,rfl,rfl⟩;obtain⟨k,q,rfl,H⟩:=hrel;by_cases c:k<s.q
  .have g:=qV c;have f:=ma s k;cases b:TL (Tt s k)
   .have d:X (yJ TL s 0=k):=by rw[X.out H,nY b];rfl
    rw[g] at b f;go_wp2_with (first|(go_at_call 105;with_reducible refine(kI _ _ η η).y ?_;rintro e a ⟨rfl,rfl⟩)|(go_at_call 105;with_reducible refine(mV _ _ η η).y ?_;rintro e a ⟨rfl,rfl⟩)|(go_at_call 105;with_reducible refine(m5 _ _ η η).y ?_;rintro e a ⟨rfl,rfl⟩)|(go_at_call 105;with_reducible refine(mv _ _ η η).y ?_;rintro e a ⟨rfl,rfl⟩))
    go_ret;exact⟨by rw[X.out d];rfl,rfl⟩
   have d:X (yJ TL s 0=yJ TL s (k+1)):=by rw[X.out H,mL c b];rfl
   rw[g] at b f;go_wp2_with (first|(go_at_call 105;with_reducible refine(kI _ _ η η).y ?_;rintro e a ⟨rfl,rfl⟩)|(go_at_call 105;with_reducible refine(mV _ _ η η).y ?_;rintro e a ⟨rfl,rfl⟩)|(go_at_call 105;with_reducible refine(m5 _ _ η η).y ?_;rintro e a ⟨rfl,rfl⟩)|(go_at_call 105;with_reducible refine(mv _ _ η η).y ?_;rintro e a ⟨rfl,rfl⟩))
   go_round;exact⟨k+1,η,ξ,d⟩;simp[intOf];omega
  have d:X (yJ TL s 0=k):=by rw[X.out H,fx c];rfl
  go_wp2_with (first|(go_at_call 105;with_reducible refine(kI _ _ η η).y ?_;rintro e a ⟨rfl,rfl⟩)|(go_at_call 105;with_reducible refine(mV _ _ η η).y ?_;rintro e a ⟨rfl,rfl⟩)|(go_at_call 105;with_reducible refine(m5 _ _ η η).y ?_;rintro e a ⟨rfl,rfl⟩)|(go_at_call 105;with_reducible refine(mv _ _ η η).y ?_;rintro e a ⟨rfl,rfl⟩))
  go_ret;exact⟨by rw[X.out d];rfl,rfl⟩
def Mv(s:ByteArray)(w:U)(hs:s.q<=500)(j:0<s.q)(b:tT s)(h:UO (Tt s 0)=false)(i:yY (Tt s 0)=false)(g:pk (Tt s 0)=false):
  Calls prog 106 #[.d s] w λe a=>e=ε (ι (0))/\a=w:=by
 have d:=ma s 0;have c:=qV j;rw[c] at d h i g;rcases b with b|⟨f,b⟩
 all_goals
  go_enter func106,ntmps106;go_wp2_with (first|(go_at_call 105;with_reducible refine(kI _ _ η η).y ?_;rintro e a ⟨rfl,rfl⟩)|(go_at_call 105;with_reducible refine(mV _ _ η η).y ?_;rintro e a ⟨rfl,rfl⟩)|(go_at_call 105;with_reducible refine(m5 _ _ η η).y ?_;rintro e a ⟨rfl,rfl⟩)|(go_at_call 105;with_reducible refine(mv _ _ η η).y ?_;rintro e a ⟨rfl,rfl⟩))
  go_ret;exact⟨rfl,rfl⟩
def UL(s:ByteArray)(w:U)(hs:s.q<=500)(f:0<s.q):
  Calls prog 106 #[.d s] w λe k=>e=ε (ι (xC s))/\k=w:=by
 by_cases a:Tt s 0=58/\Tt s 1=45;refine L8 s w hs ?_ a.1 a.2;false_or_by_contra;rename_i d;rw[pI d] at a;omega
 have d:=Jj s a;cases h:UO (Tt s 0);have i:fo (Tt s 0)=0:=by
  simp only[UO,pJ,beq_eq_false_iff_ne] at h;unfold fo;simp[h]
 cases c:yY (Tt s 0);cases b:pk (Tt s 0);have:=Mv s w hs f d h c b;have e:xC s=0:=by
  simp only[pk,pJ] at b;unfold xC xw;simp[b.1,b.2,c,a,i,yx]
 rw[e];exact this;have:=N2 s w hs f d h c b;have e:xC s=yJ TL s 0:=by
  unfold xC xw;simp only[pk,fX] at b;cases g:xi (Tt s 0);rw[g] at b;simp at b;simp[b,yx];simp[yx]
 rw[e];exact this;have:=LV s w hs f d h c;have e:xC s=yJ yY s 0:=by
  have g:xi (Tt s 0)=false:=by simp[yY,xi] at c ⊢;omega
  have j:qe (Tt s 0)=false:=by simp[yY,qe] at c ⊢;omega
  unfold xC xw;simp[g,j,c,yx]
 rw[e];exact this;have:=Jc s w hs f d h;have e:xC s=1:=by
  unfold xC xw;simp only[UO,fX,beq_iff_eq] at h;rcases h with (((h|h)|h)|h)|h<;>rw[h]<;>rfl
 rw[e];exact this
end
section
open Go.Proofs.Tryz Go.RowKit
variable {n:Nat}{s:ByteArray}{o:Option (κ)}
def x9:Nat->ByteArray->Option (κ)
 |0,_=>Z []
 |n+1,s=>if s.q=0 then Z [] else if qS (Tt s 0) then x9 n (s.extract 1 s.q) else if xC s=0 then Y else if 6<xC s then Y
  else(x9 n (s.extract (xC s) s.q)).w (s.extract 0 (xC s)::·)
def BF(h:s.q=0):x9 n s=Z []:=by cases n<;>simp[x9,h]
def E5(h:0<s.q)(a:qS (Tt s 0)=true):x9 (n+1) s=x9 n (s.extract 1 s.q):=by simp[x9,Nat.ne_of_gt h,a]
def oX(h:0<s.q)(b:qS (Tt s 0)=false)(a:xC s=0∨6<xC s):x9 (n+1) s=none:=by
 simp only[x9,za (Nat.ne_of_gt h),b];rcases a with a|a;simp[a];simp[a]
def CI(h:0<s.q)(b:qS (Tt s 0)=false)(c:xC s≠0)(a:¬6<xC s):x9 (n+1) s=(x9 n (s.extract (xC s) s.q)).w (s.extract 0 (xC s)::·):=by
 simp[x9,Nat.ne_of_gt h,b,c,a]
def KY(h:6<xC s):Tt s 0≠58/\UO (Tt s 0)=false:=by
 unfold xC xw at h;refine⟨λc=>?_,?_⟩;rw[c] at h;by_cases b:Tt s 1=45;rw[b] at h;simp[xi,qe,yY,yx] at h;simp[xi,qe,yY,yx,b,fo] at h;false_or_by_contra
 rename_i a;simp only[tM,UO,fX,beq_iff_eq] at a;rcases a with (((a|a)|a)|a)|a<;>(rw[a] at h;simp[xi,qe,yY,yx,fo] at h)
def NC(s:ByteArray)(a:0<s.q):xC s<=s.q:=by
 unfold xC;by_cases h:xw (Tt s 0) (Tt s 1)=0;rw[h];simp[yx];exact(tz s 0 _ a rfl h).2
def Br(o:Option (κ))(w:U)(e:Ending)(w':U):Prop:=
 μ w w'/\match o with
  |none=>e=ε (.B #[ν,.i false])
  |some l=>∃v,e=ε (.B #[v,.i true])/\w'.r w.o.q 9 1 v l.j (l.w O.string)
def AH{w w':U}(h:X (o=Y))(b:μ w w'):Br o w (ε (.B #[ν,.i false])) w':=by
 have a:o=none:=h;subst a;exact⟨b,rfl⟩
def IR{w w':U}{l:κ}{v:O}(h:X (o=Z l))(b:μ w w')(c:w'.r w.o.q 9 1 v l.j (l.w O.string)):Br o w (ε (.B #[v,.i true])) w':=by
 have a:o=Z l:=h;subst a;exact⟨b,v,rfl,c⟩
def eR(s:ByteArray)(w:U)(hs:s.q<=500):
  Calls prog 65 #[.d s] w λe f=>Br (x9 s.q s) w e f:=by
 obtain⟨Q,S,B,E,J⟩:=info_parts SG;go_enter func65,ntmps65;go_wp2;go_loopg [0,4] (s.q) (λn u v wr=>∃(a:ByteArray) (b:κ) (m:Nat),u=.d a/\a.q<=n/\a.q<=m/\b.j+a.q<=s.q/\X (x9 s.q s=(x9 m a).w (b++·)) ∧
   wr.r w.o.q 9 1 v b.j (b.w O.string)/\μ w wr)
 case atStart=>exact⟨s,[],s.q,rfl,zf _,zf _,ζ,(by simp[X]),xo _ _ _ _,zn _ _⟩
 obtain⟨a,b,m,rfl,hn,hm,N,H,j,g⟩:=hrel;by_cases x:0<a.q
 .have p:=ma a 0;have d:=qV x;have K:(a.v == [])=false:=by
   rw[jS,beq_eq_false_iff_ne];intro h;have:a.data.v.j=a.q:=nZ;rw[h] at this;simp at this;omega
  obtain⟨m,rfl⟩:∃T,m=T+1:=⟨m-1,η⟩;cases r:qS (Tt a 0)
  .have i:=Th λW=>UL a W η x;have L:=NC a x;by_cases k:xC a=0∨6<xC a
   .have l:X (x9 s.q s=Y):=by rw[X,H.l,oX x r k];rfl
    rcases k with k|k
    .rw[k] at i;rw[d] at r p;clear H d k L;by_cases c:((a[0].D:Int) == 58)=true
     .go_wp2_with (first|(go_at_call 105;with_reducible refine(rG _ _ η η).y ?_;rintro e f ⟨rfl,rfl⟩)|(go_at_call 105;with_reducible refine(kI _ _ η η).y ?_;rintro e f ⟨rfl,rfl⟩)|(go_at_call 106;refine(i.l _).y ?_;rintro e f ⟨rfl,rfl⟩))
      go_ret2
      exact AH l g
     have q:((a[0].D:Int) == 58)=false:=by simpa using c
     clear c;go_wp2_with (first|(go_at_call 105;with_reducible refine(rG _ _ η η).y ?_;rintro e f ⟨rfl,rfl⟩)|(go_at_call 105;with_reducible refine(kI _ _ η η).y ?_;rintro e f ⟨rfl,rfl⟩)|(go_at_call 106;refine(i.l _).y ?_;rintro e f ⟨rfl,rfl⟩))
     go_ret2
     exact AH l g
    obtain⟨c,A⟩:=KY k;rw[d] at r p c A;have q:((a[0].D:Int) == 58)=false:=by simpa using c
    clear H d c;generalize xC a=t at *;have z:((t:Int) == 0)=false:=by rw[beq_eq_false_iff_ne];omega
    go_wp2_with (first|(go_at_call 105;with_reducible refine(rG _ _ η η).y ?_;rintro e f ⟨rfl,rfl⟩)|(go_at_call 105;with_reducible refine(kI _ _ η η).y ?_;rintro e f ⟨rfl,rfl⟩)|(go_at_call 106;refine(i.l _).y ?_;rintro e f ⟨rfl,rfl⟩))
    go_ret2
    exact AH l g
   have D:xC a≠0:=λh=>k (zh h);have I:¬6<xC a:=λh=>k (ze h);have l:X (x9 s.q s=(x9 m (a.extract (xC a) a.q)).w ((b++[a.extract 0 (xC a)])++·)):=by rw[X,H.l,CI x r D I,sO]
   rw[d] at r p;clear H d k;generalize xC a=t at *;have z:((t:Int) == 0)=false:=by rw[beq_eq_false_iff_ne];omega
   have y:(a.extract t a.q).q=a.q-t:=by rw[ByteArray.size_extract];omega
   by_cases c:((a[0].D:Int) == 58)=true;rotate_left
   have q:((a[0].D:Int) == 58)=false:=by simpa using c
   clear c
   all_goals
    go_wp2_with (first|(go_at_call 105;with_reducible refine(rG _ _ η η).y ?_;rintro e f ⟨rfl,rfl⟩)|(go_at_call 105;with_reducible refine(kI _ _ η η).y ?_;rintro e f ⟨rfl,rfl⟩)|(go_at_call 106;refine(i.l _).y ?_;rintro e f ⟨rfl,rfl⟩)|(at_builtin;refine gz _ _ _ _ rfl (.tmp 34) (.tmp 38) 30 rfl w.o.q 9 Q _ 1 16 underlying30 S B E J rfl θ _ _ _ rfl j (zn _ _) _ _ rfl ζ rfl a_ η η g.q ?_;intro V w2 C F G M R P;clear G M))
    go_roundg (a.q-1)
    case measure=>omega
    exact⟨_,b++[a.extract 0 t],m,rfl,η,η,by simp;omega,l,by simpa using C,g.A F⟩
  have l:X (x9 s.q s=(x9 m (a.extract 1 a.q)).w (b++·)):=by rw[X,H.l,E5 x r]
  have y:(a.extract 1 a.q).q=a.q-1:=by rw[ByteArray.size_extract];omega
  rw[d] at r p;clear H d;go_wp2_with (go_at_call 105;with_reducible refine(rG _ _ η η).y ?_;rintro e f ⟨rfl,rfl⟩)
  go_roundg (a.q-1)
  case measure=>omega
  exact⟨_,b,m,rfl,η,η,η,l,j,g⟩
 have y:a.q=0:=η;have l:X (x9 s.q s=Z b):=by rw[X,H.l,BF y];simp
 have K:(a.v == [])=true:=by
  rw[jS,beq_iff_eq];exact lI (by rw[nZ];exact y)
 clear H;go_wp2_with (first|(go_at_call 105;with_reducible refine(rG _ _ η η).y ?_;rintro e f ⟨rfl,rfl⟩)|(go_at_call 105;with_reducible refine(kI _ _ η η).y ?_;rintro e f ⟨rfl,rfl⟩)|(go_at_call 106;refine(i.l _).y ?_;rintro e f ⟨rfl,rfl⟩))
 go_ret2
 exact IR l g j
end
section
open Go.Proofs.Tryz Go.RowKit
variable {w:U}{v:O}{l:κ}
def SV(w:U)(v:O)(l:κ):Prop:=∃c a,v=.k c l.j a/\l.j<=a ∧
 ((c=Y/\a=0)∨∃b o,c=Z ⟨b,o,Y⟩/\b<w.o.q/\∀k (d:k<l.j),w.p ⟨b,o+k,Y⟩=Z (.d l[k]))
def SV.of{b:Nat}(h:w.r b 9 1 v l.j (l.w O.string)):SV w v l:=by
 have j:=h;obtain⟨_,⟨c,m⟩|⟨g,e,p,c,_,o,i,_⟩⟩:=h;refine⟨Y,0,?_,η,zh ⟨rfl,rfl⟩⟩;rw[c,m];refine⟨_,e,c,i,ze ⟨g,0,rfl,(ks.1 o).1,λk n=>?_⟩⟩;obtain⟨q,f,a,_,_,d⟩:=yq j η;rw[c] at a;simp at a;obtain⟨rfl,_⟩:=a;rw[vJ];exact d k _ (by simp[n])
def SV.qy(h:SV w v l):∃b a,v=.k b l.j a:=by obtain⟨b,a,c,_⟩:=h;exact⟨b,a,c⟩
def SV.u{w':U}(h:SV w v l)(f:μ w w'):SV w' v l:=by
 obtain⟨g,d,i,m,e⟩:=h;refine⟨g,d,i,m,?_⟩;rcases e with e|⟨b,o,n,a,c⟩;exact zh e;exact ze ⟨b,o,n,ym a f.q,λk j=>(f.cell (p:=(ω b (o+k))) a).A (c k j)⟩
def SV.cell{w:U}{d:Option Addr}{n cap:Nat}{l:κ}(h:SV w (.k d n cap) l)(k:Nat)(i:k<l.j):∃b o,d=Z (ω b o)/\b<w.o.q/\w.p (ω b (o+k))=Z (.d l[k]):=by
 obtain⟨m,g,e,p,f⟩:=h;simp at e;obtain⟨rfl,_,rfl⟩:=e;rcases f with⟨_,f⟩|⟨b,o,j,c,a⟩
 omega;exact⟨b,o,j,c,a k i⟩
def SV.E{d:Option Addr}{n cap:Nat}(h:SV w (.k d n cap) l)(m:0<l.j):∃b o,d=Z (ω b o)/\b<w.o.q/\∀k (p:k<l.j),w.p (ω b (o+k))=Z (.d l[k]):=by
 obtain⟨j,g,e,q,f⟩:=h;simp at e;obtain⟨rfl,_,rfl⟩:=e;rcases f with⟨_,f⟩|⟨b,o,i,c,a⟩
 omega;exact⟨b,o,i,c,a⟩
section
variable {P:Program} {ops:Array Oper} {rest:List Oper} {o:Oper} {a:Act} {Q:Exit->Act->U->Prop}
def jz(w D:U)(N:o.guard=Y)(x:Operand)(t e:TypeId)(lo g:Option Operand)(y:o.op=.k t x lo g Y)
  (H:P.underlying t=Z (.k e)) (A:TypeInfo) (he:P.info? e=Z A) (s:P.cellsOf e=1) (v:O) (l:κ) (S:a.eval x=v) (I:SV D v l)
  (i j:Nat) (r:lo.w a.eval=Y/\i=0∨lo.w a.eval=Z (ι (i:Int))) (z:g.w a.eval=Y/\j=l.j∨g.w a.eval=Z (ι (j:Int))) (J:i<=j) (hj:j<=l.j) (n:Nat) (T:j-i=n)
  (M:∀f c,SV D (.k f n c) ((l.drop i).G n)->wpList P ops Q rest (a.put o.dst (.k f n c)) w):wpList P ops Q (o::rest) a w:=by
 subst T;obtain⟨f,c,rfl,hc,W⟩:=I;have V:(j:Int)<=(c:Int):=η;have R:(i:Int)<=(j:Int):=η;have L:(Instr.sliceBounds true l.j c (lo.w a.eval) (g.w a.eval) Y).run P w=.ok (i,j,c) w:=by
  rcases r with⟨F,rfl⟩|F<;>rcases z with⟨G,rfl⟩|G<;>rw[F,G]<;>simp[Instr.sliceBounds,run_sliceBound,V,R]
 refine wpList_plain N λK B=>?_;unfold Oper.wp;have d:((l.drop i).G (j-i)).j=j-i:=by simp;omega
 have C:(sizeOf e).run P w=.ok 1 w:=by rw[←s];simp[sizeOf,typeInfo,Program.cellsOf,he]
 have m:(Instr.sliceAt t (.k f l.j c) (lo.w a.eval) (g.w a.eval) Y).run P w=.ok (.k (if c=i then f else f.w (·.add (i*1))) (j-i) (c-i)) w:=by
  simp[Instr.sliceAt,run_underlying H,Instr.slice,L,C]
 simp only[execOp,y,S,Option.map_none,m,Sem.run_bind,Result.andThen];simp;refine B _ _ (M _ _ ?_);refine⟨_,_,by rw[d],by rw[d];omega,?_⟩;rcases W with⟨rfl,rfl⟩|⟨b,E,rfl,h,q⟩
 left;exact⟨by split<;>rfl,η⟩;right;by_cases p:c=i;refine⟨b,E,by rw[zb p],h,λk u=>?_⟩;rw[d] at u;omega;refine⟨b,E+i,?_,h,λk u=>?_⟩;rw[za p];simp[Addr.add_lit];rw[d] at u;rw[Nat.add_assoc,q (i+k) η];simp
end
def S6:prog.cellsOf 9=1:=χ
end
section
open Go.RowKit
variable {lo:Nat}{l:κ}
def gB(l:κ)(i:Nat):ByteArray:=l.g i ByteArray.empty
def xJ{i:Nat}(h:i<l.j):l[i]=gB l i:=by simp[gB,h]
def UW(l:κ)(i:Nat):Bool:=if i%2=0 then TL (Tt (gB l i) 0) else((gB l i).v == [44])
def vj(l:κ):Nat->κ
 |0=>[]
 |i+1=>vj l i++(if 2<=i/\i%2=0 then [gB l i] else [])
def Bo(l:κ):∀i,(vj l i).j<=i
 |0=>zf _
 |i+1=>by have:=Bo l i;unfold vj;split<;>simp<;>omega
def qC(l:κ):Nat->Bool
 |0=>true
 |i+1=>qC l i&&(decide (i<2)||UW l i)
def Hm{i:Nat}(h:qC l i=false):∀k,i<=k->qC l k=false:=by
 intro k c;induction k with
 |zero=>
  have:i=0:=η;subst this;exact h
 |succ k b=>
  rcases gV k i with a|a;have:i=k+1:=η;subst this;exact h;simp[qC,b a]
def x6(neg:Bool)(l:κ):Option zj:=
 if l.j=0 then Y else if xi (Tt (gB l 0) 0)=false then Y else if l.j=1 then Z ⟨neg,gB l 0,[]⟩
 else if l.j<4∨l.j%2=1∨((gB l 1).v == [40])=false∨((gB l (l.j-1)).v == [41])=false then Y
 else if qC l (l.j-1) then Z ⟨neg,gB l 0,vj l (l.j-1)⟩ else Y
def TW(l:κ)(a:Bool):Bool:=decide (0<l.j)&&((gB l 0).v == [33])&&!a
def kj(l:κ)(a:Bool):Option zj:=if TW l a then x6 true l.tail else x6 false l
def jW(o:Option zj)(w:U)(e:Ending)(w':U):Prop:=
 μ w w'/\match o with
  |none=>∃b p f n c,e=ε (.B #[.agg #[.i b,.d p,.k f n c],.i false])
  |some a=>∃d,e=ε (.B #[.agg #[.i a.i,.d a.o,d],.i true])/\To w.o.q w' d a.k
def nO{a:Bool}(b:TW l a=false):¬0<l.j∨(0<l.j/\((gB l 0).v == [33])=false)∨((0<l.j/\((gB l 0).v == [33])=true)/\a=true):=by
 by_cases c:0<l.j;right;simp only[TW,decide_eq_true c,nM,wW] at b;cases h:((gB l 0).v == [33]);exact zh ⟨c,rfl⟩;rw[h] at b;simp at b;exact ze ⟨⟨c,rfl⟩,b⟩;exact zh c
end
section
variable {l:κ}
def yS(l:κ):Nat->Nat->Int->Nat->Option (List zj)
 |0,_,_,_=>Z []
 |n+1,b,d,i=>
  if i<l.j then
   if ((gB l i).v == [40]) then yS l n b (d+1) (i+1)
   else if ((gB l i).v == [41]) then yS l n b (d-1) (i+1)
   else if ((gB l i).v == [44])=false∨0<d then yS l n b d (i+1)
   else match kj ((l.drop b).G (i-b)) false with
    |none=>Y
    |some a=>(yS l n (i+1) d (i+1)).w (a::·)
  else match kj ((l.drop b).G (i-b)) false with
   |none=>Y
   |some a=>Z [a]
def s40{x:ByteArray}(h:(x.v == [40])=true):(x.v == [41])=false/\(x.v == [44])=false:=by rw[beq_iff_eq] at h;rw[h];exact⟨rfl,rfl⟩
def s41{x:ByteArray}(h:(x.v == [41])=true):(x.v == [40])=false/\(x.v == [44])=false:=by rw[beq_iff_eq] at h;rw[h];exact⟨rfl,rfl⟩
def uc:κ->Nat
 |[]=>0
 |x::r=>if (x.v == [58,45]) then 0 else uc r+1
def DI:∀l,uc l<=l.j
 |[]=>zf _
 |x::r=>by have:=DI r;unfold uc;split<;>simp<;>omega
def PL{j:Nat}(a:j<l.j)(h:((gB l j).v == [58,45])=false):uc (l.drop j)=uc (l.drop (j+1))+1:=by
 rw[xp a,uc,xJ a,h];rfl
def Jz{j:Nat}(a:j<l.j)(h:((gB l j).v == [58,45])=true):uc (l.drop j)=0:=by
 rw[xp a,uc,xJ a,h];rfl
def kr(l:κ):Option zc:=
 match kj (l.G (uc l)) true with
 |none=>Y
 |some h=>if uc l=l.j then Z ⟨h,[]⟩ else
  match yS (l.drop (uc l+1)) ((l.drop (uc l+1)).j+1) 0 0 0 with
  |none=>Y
  |some b=>Z ⟨h,b⟩
def qO(l:κ):Nat->Nat->Nat->Option (List zc)
 |0,a,_=>if a=l.j then Z [] else Y
 |n+1,a,i=>
  if ((gB l i).v == [46]) then
   match kr ((l.drop a).G (i-a)) with
   |none=>Y
   |some c=>(qO l n (i+1) (i+1)).w (c::·)
  else qO l n a (i+1)
def vB(l:κ):Option (List zc):=qO l l.j 0 0
end
def mW(s:ByteArray)(i:Nat):(s.extract i s.q).q=s.q-i:=by simp[ByteArray.size_extract]
def BL(s:ByteArray)(i j k:Nat)(c:j<=s.q)(b:i+k<j):Tt (s.extract i j) k=Tt s (i+k):=by
 have a:k<(s.extract i j).q:=by rw[ByteArray.size_extract];omega
 rw[qV a,qV (by omega:i+k<s.q)];simp[ByteArray.getElem_extract]
def sR(s:ByteArray)(i k:Nat):Tt (s.extract i s.q) k=Tt s (i+k):=by
 by_cases h:i+k<s.q;exact BL s i s.q k (zf _) h;rw[pI h,pI (by rw[mW];omega)]
def EY(p:Int->Bool)(s:ByteArray)(i:Nat):∀(n j:Nat),s.q-i-j<=n->yJ p (s.extract i s.q) j+i=yJ p s (i+j):=by
 intro n;induction n with
 |zero=>intro j b;rw[fx (by rw[mW];omega),fx η];omega
 |succ n c=>
  intro j b;by_cases h:i+j<s.q;cases a:p (Tt s (i+j));rw[nY (by rw[sR];exact a),nY a];omega;rw[mL (by rw[mW];omega) (by rw[sR];exact a),mL h a,c (j+1) η];rfl;rw[fx (by rw[mW];omega),fx h];omega
def PA(s:ByteArray)(i:Nat)(k:Int):yx (s.extract i s.q) 0 k+i=yx s i k:=by
 unfold yx;have a:=EY TL s i _ 0 (zf _);have b:=EY yY s i _ 0 (zf _);simp only[vu] at a b;repeat' split
 all_goals omega
def K2(s:ByteArray)(i:Nat):xC (s.extract i s.q)+i=yx s i (xw (Tt s i) (Tt s (i+1))):=by
 unfold xC;rw[sR,sR,PA];rfl
def oo(s:ByteArray)(i a b x y:Nat)(c:i+a=x)(d:min (i+b) s.q=y):(s.extract i s.q).extract a b=s.extract x y:=by
 rw[ByteArray.extract_extract,c,d]
def Sh(s:ByteArray)(i:Nat):yx s i 0=i:=by simp[yx]
def OB(s:ByteArray):∀(n i:Nat),i<=s.q->s.q-i<=n->x9 n (s.extract i s.q)=(Ty n s i).w (·.w Prod.snd):=by
 intro n;induction n with
 |zero=>intro i o m;rw[BF (by rw[mW];omega),sE η];rfl
 |succ n j=>
  intro i o m;by_cases h:i<s.q;have e:0<(s.extract i s.q).q:=by rw[mW];omega
  have a:=sR s i 0;cases b:qS (Tt s i);have g:=K2 s i;generalize d:xw (Tt s i) (Tt s (i+1))=k at g;by_cases c:k=0;subst c;rw[Sh] at g;rw[oX e (by rw[a];exact b) (zh η),wH h b d];rfl;have q:=tz s i k h d c;by_cases f:6<yx s i k-i;rw[oX e (by rw[a];exact b) (ze η),eZ h b d f];rfl;rw[CI e (by rw[a];exact b) η η,iV h b d c f];have l:(s.extract i s.q).extract 0 (xC (s.extract i s.q))=s.extract i (yx s i k):=oo s i _ _ _ _ rfl η;have p:(s.extract i s.q).extract (xC (s.extract i s.q)) (s.extract i s.q).q=s.extract (yx s i k) s.q:=oo s i _ _ _ _ η (by rw[mW];omega);rw[l,p,j _ η η,Option.map_map,Option.map_map];rfl;rw[E5 e (by rw[a];exact b),wT h b,←j (i+1) η η,oo s i 1 _ (i+1) s.q rfl (by rw[mW];omega)];rw[BF (by rw[mW];omega),sE h];rfl
def sK(s:ByteArray):x9 s.q s=(Tu s).w (·.w Prod.snd):=by
 have h:=OB s s.q 0 η η;rwa [show s.extract 0 s.q=s by simp] at h
section
variable {t:ByteArray}
def AU(t:ByteArray)(i:Nat):Tt t i=((t.v[i]?.w λb=>(b.D:Int)).g 0):=by
 rw[jS];by_cases h:i<t.q;rw[qV h,yn (by simpa using h)];rfl;rw[pI h,gi (by simpa using h)];rfl
def A6(t:ByteArray):t.v.j=t.q:=by rw[jS];simp
def Pt(h:t.q=1)(c:UInt8):(t.v == [c])=(Tt t 0 == (c.D:Int)):=by
 have b:=(A6 t).A h;rw[AU];revert b
 generalize t.v=l;intro b;match l,b with
 |[a],_=>
  by_cases d:a=c;subst d;simp;have:a.D≠c.D:=λh=>d (UInt8.toNat_inj.1 h);rw[show([a] == [c])=false by simpa using d];simp;omega
def Js{c:UInt8}{r:List UInt8}(h:Tt t 0≠(c.D:Int)):(t.v == c::r)=false:=by
 rw[beq_eq_false_iff_ne];intro a;apply h;rw[AU,a];rfl
structure lF (x:Tp):Prop where
 n:(x.1 == 1)=xi (Tt x.2 0)
 t:Uo x.1=TL (Tt x.2 0)
 k4:(x.1 == 4)=(x.2.v == [40])
 k5:(x.1 == 5)=(x.2.v == [41])
 k6:(x.1 == 6)=(x.2.v == [44])
 k7:(x.1 == 7)=(x.2.v == [46])
 k8:(x.1 == 8)=(x.2.v == [33])
 k9:(x.1 == 9)=(x.2.v == [58,45])
def NT(h:TL (Tt t 0)=true)(c:UInt8)(b:TL (c.D:Int)=false)(r:List UInt8):(t.v == c::r)=false:=by
 apply Js;intro a;rw[a,b] at h;exact zC h ζ
def og{k:Int}(h:TL (Tt t 0)=true)(a:k=1∨k=2∨k=3)(b:(k == 1)=xi (Tt t 0)):lF (k,t):=by
 refine⟨b,?_,?_,?_,?_,?_,?_,?_⟩;rw[h];rcases a with h|h|h<;>subst h<;>rfl
 all_goals
  show _=(t.v == _::_);rw[NT h _ θ];rcases a with h|h|h<;>subst h<;>rfl
def Ow(h:t.q=2)(c:Tt t 0=58)(d:Tt t 1=45):lF (9,t):=by
 have e:t.v=[58,45]:=by
  have f:=(A6 t).A h;rw[AU] at c d;revert f c d
  generalize t.v=l;intro c d f;match l,f,c,d with
  |[a,b],_,c,d=>
   have c:(a.D:Int)=58:=c;have d:(b.D:Int)=45:=d;have g:a=58:=UInt8.toNat_inj.1 (by simpa using(by omega:a.D=58));have i:b=45:=UInt8.toNat_inj.1 (by simpa using(by omega:b.D=45));rw[g,i]
 constructor<;>(try rw[c])<;>(try (show _=(t.v == _);rw[e]))<;>rfl
def QI{k c:Int}(e:t.q=1)(d:Tt t 0=c)(a:fo c=k)(g:k≠0):lF (k,t):=by
 have b:c=40∨c=41∨c=44∨c=46∨c=33:=by unfold fo at a;(repeat' split at a)<;>omega
 have f:(t.v == [58,45])=false:=by
  rw[beq_eq_false_iff_ne];intro i;have:=A6 t;rw[i,e] at this;simp at this
 constructor
 case n=>show _=xi (Tt t 0);rw[d];rcases b with h|h|h|h|h<;>subst h<;>subst a<;>rfl
 case t=>show _=TL (Tt t 0);rw[d];rcases b with h|h|h|h|h<;>subst h<;>subst a<;>rfl
 case k9=>show _=(t.v == _);rw[f];rcases b with h|h|h|h|h<;>subst h<;>subst a<;>rfl
 all_goals
  show _=(t.v == _);rw[Pt e,d];rcases b with h|h|h|h|h<;>subst h<;>subst a<;>rfl
def Og(s:ByteArray)(i:Nat)(k:Int)(h:i<s.q)(b:xw (Tt s i) (Tt s (i+1))=k)(d:k≠0):lF (k,s.extract i (yx s i k))/\0<(s.extract i (yx s i k)).q:=by
 have j:=tz s i k h b d;have g:(s.extract i (yx s i k)).q=yx s i k-i:=by rw[ByteArray.size_extract];omega
 refine⟨?_,η⟩;have a:Tt (s.extract i (yx s i k)) 0=Tt s i:=BL s i _ 0 j.2 η;have f:=fun(m:i+1<yx s i k)=>BL s i _ 1 j.2 m;unfold xw at b;split at b;rename_i c;subst b;exact og (by rw[a];simp[TL,c]) (zh rfl) (by rw[a,c];rfl);rename_i e;split at b;rename_i c;subst b;exact og (by rw[a];simp[TL,c]) (ze (zh rfl)) (by rw[a];simp[e]);rename_i p;split at b;rename_i c;subst b;exact og (by rw[a];simp[TL,c]) (ze (ze rfl)) (by rw[a];simp[e]);split at b;rename_i o c;subst b;have q:yx s i 9=i+2:=by simp[yx]
 exact Ow (by rw[g,q];omega) (by rw[a];exact c.1) (by rw[f η];exact c.2);have l:yx s i k=i+1:=by
  have n:k≠9/\k≠1/\k≠2/\k≠3:=by subst b;unfold fo;(repeat' split)<;>simp
  simp[yx,d,n]
 exact QI (by rw[g,l];omega) a b d
def R0(s:ByteArray):∀(n i:Nat) (l:Δ),Ty n s i=Z l->∀x∈l,lF x/\0<x.2.q:=by
 intro n;induction n with
 |zero=>intro i l h;simp[Ty] at h;subst h;simp
 |succ n g=>
  intro i l h;by_cases b:i<s.q;cases d:qS (Tt s i);generalize c:xw (Tt s i) (Tt s (i+1))=k;by_cases a:k=0;subst a;rw[wH b d c] at h;exact zC h ζ;by_cases f:6<yx s i k-i;rw[eZ b d c f] at h;exact zC h ζ;rw[iV b d c a f] at h;obtain⟨r,j,rfl⟩:=qq.1 h;intro x e;rcases zG.1 e with rfl|e;exact Og s i k b c a;exact g _ _ j x e;rw[wT b d] at h;exact g _ _ h;rw[sE b] at h;simp at h;subst h;simp
def sm{s:ByteArray}{l:Δ}(h:Tu s=Z l):∀x∈l,lF x/\0<x.2.q:=R0 s _ _ l h
end
section
variable {r p r2:List Tp}
inductive l5:κ->List Tp->Prop
 |one {x:Tp}:Uo x.1=true->l5 [x.2] [x]
 |more {x c:Tp} {ts:κ} {r:List Tp}:Uo x.1=true->c.1=6->l5 ts r->l5 (x.2::ts) (x::c::r)
inductive qU:zj->List Tp->Prop
 |bare {n:Tp}:n.1=1->qU ⟨false,n.2,[]⟩ [n]
 |k {n o c:Tp} {ts:κ} {p:List Tp}:n.1=1->o.1=4->l5 ts p->c.1=5->qU ⟨false,n.2,ts⟩ (n::o::(p++[c]))
inductive gW:zj->List Tp->Prop
 |qc {a:zj} {p:List Tp}:qU a p->gW a p
 |i {a:zj} {n:Tp} {p:List Tp}:n.1=8->qU a p->gW {a with i:=true} (n::p)
inductive dR:List zj->List Tp->Prop
 |one {a:zj} {p:List Tp}:gW a p->dR [a] p
 |more {a:zj} {p q:List Tp} {c:Tp} {b:List zj}:gW a p->c.1=6->dR b q->dR (a::b) (p++c::q)
inductive hO:zc->List Tp->Prop
 |fact {a:zj} {p:List Tp}:qU a p->hO ⟨a,[]⟩ p
 |p {a:zj} {b:List zj} {p q:List Tp} {i:Tp}:qU a p->i.1=9->dR b q->hO ⟨a,b⟩ (p++i::q)
inductive lm:List zc->List Tp->Prop
 |nil:lm [] []
 |cons {c:zc} {cs:List zc} {p q:List Tp} {d:Tp}:hO c p->d.1=7->lm cs q->lm (c::cs) (p++d::q)
def nF{k:Int}(a:k≠0)(h:T7 r=k):∃x t,r=x::t/\x.1=k:=by
 rcases r with _|⟨x,t⟩;exact zC h.z a;exact⟨x,t,rfl,h⟩
def Do:∀(r:Δ) {ts:κ} {r2:Δ},yw r=Z (ts,r2)->∃p,r=p++r2/\l5 ts p
 |[],_,_,h=>by simp[yw] at h
 |[x],ts,r2,h=>by
  cases a:Uo x.1 with
  |false=>simp[yw,a] at h
  |true=>simp[yw,a] at h;obtain⟨rfl,rfl⟩:=h;exact⟨[x],rfl,.one a⟩
 |x::y::r,ts,r2,h=>by
  cases a:Uo x.1 with
  |false=>simp[yw,a] at h
  |true=>
   by_cases b:y.1=6
   .simp only[yw,a,b,if_true] at h;obtain⟨⟨f,g⟩,d,c⟩:=qq.1 h;simp at c;obtain⟨rfl,rfl⟩:=c;obtain⟨p,rfl,e⟩:=Do r d;exact⟨x::y::p,rfl,.more a b e⟩
   .simp[yw,a,b] at h;obtain⟨rfl,rfl⟩:=h;exact⟨[x],rfl,.one a⟩
def OJ{ts:κ}(h:l5 ts p)(b:T7 r2≠6):yw (p++r2)=Z (ts,r2):=by
 induction h with
 |one a=>exact FZ a b
 |more a c _ d=>simp only[lr,yw,a,c,if_true];rw[d];rfl
def Ax{a:zj}(h:xx r=Z (a,r2)):∃p,r=p++r2/\qU a p:=by
 unfold xx at h;split at h;rename_i f;obtain⟨n,t,rfl,e⟩:=nF θ f;by_cases b:T7 t=4;rw[zb (show T7 (n::t).tail=4 from b)] at h;obtain⟨o,t,rfl,g⟩:=nF θ b;split at h;exact zC h ζ;rename_i l m d;split at h;rename_i j;obtain⟨p,rfl,k⟩:=Do _ d;obtain⟨c,t,rfl,i⟩:=nF θ j;simp at h;obtain⟨rfl,rfl⟩:=h;exact⟨n::o::(p++[c]),ζ,.k e g k i⟩;exact zC h ζ;rw[za (show ¬T7 (n::t).tail=4 from b)] at h;simp at h;obtain⟨rfl,rfl⟩:=h;exact⟨[n],rfl,.bare e⟩;exact zC h ζ
def e9{a:zj}(h:qU a p)(g:T7 r2≠4):xx (p++r2)=Z (a,r2):=by
 cases h with
 |bare b=>simp[xx,T7,b];intro h;exact zC h g
 |k b f i d=>
  rename_i n o c j p;have e:(n::o::(p++[c]))++r2=n::o::(p++(c::r2)):=ζ;rw[e];simp only[xx,T7,b,f,if_true,mR,List.headD_cons];rw[OJ i (by simp[T7,d])];simp[d]
def qU.hd{a:zj}(h:qU a p)(r:Δ):T7 (p++r)=1:=by cases h<;>assumption
def qU.len{a:zj}(h:qU a p):0<p.j:=by cases h<;>simp
def Jl{a:zj}(h:uU r=Z (a,r2)):∃p,r=p++r2/\gW a p:=by
 unfold uU at h;split at h;rename_i g;obtain⟨n,t,rfl,f⟩:=nF θ g;obtain⟨⟨i,j⟩,e,d⟩:=qq.1 h;simp at d;obtain⟨rfl,rfl⟩:=d;obtain⟨p,b,c⟩:=Ax e;simp only[mR] at b;subst b;exact⟨n::p,rfl,.i f c⟩;obtain⟨p,b,c⟩:=Ax h;exact⟨p,b,.qc c⟩
def Fv{a:zj}(h:gW a p)(c:T7 r2≠4):uU (p++r2)=Z (a,r2):=by
 cases h with
 |qc b=>unfold uU;rw[b.hd,e9 b c];rfl
 |i d b=>simp only[uU,lr,T7,d,if_true,mR];rw[e9 b c];rfl
def gW.len{a:zj}{p:Δ}(h:gW a p):0<p.j:=by cases h with
 |qc h=>exact h.len
 |i _ h=>simp
def It:∀{n:Nat} {r r2:Δ} {b:Ω},uh n r=Z (b,r2)->∃p,r=p++r2/\dR b p:=by
 intro n;induction n with
 |zero=>intro r r2 b h;simp[uh] at h
 |succ n o=>
  intro r r2 b h;rcases d:uU r with _|z;rw[sY d] at h;exact zC h ζ;obtain⟨a,l⟩:=z;obtain⟨p,rfl,i⟩:=Jl d;by_cases e:T7 l=6;rw[s6 d e] at h;obtain⟨⟨s,u⟩,j,g⟩:=qq.1 h;simp at g;obtain⟨rfl,rfl⟩:=g;obtain⟨c,t,rfl,k⟩:=nF θ e;obtain⟨q,f,m⟩:=o j;simp only[mR] at f;subst f;exact⟨p++c::q,ζ,.more i k m⟩;rw[rB d e] at h;simp at h;obtain⟨rfl,rfl⟩:=h;exact⟨p,rfl,.one i⟩
def Ma{b:Ω}(h:dR b p)(j:T7 r2≠4)(k:T7 r2≠6):∀n,p.j<=n->uh n (p++r2)=Z (b,r2):=by
 induction h with
 |one d=>
  intro n f;have:=d.len;obtain⟨m,rfl⟩:∃m,n=m+1:=⟨n-1,η⟩;rw[rB (Fv d j) k]
 |more d g _ l=>
  rename_i a p q c b _;intro n f;simp only[yK,xu] at f;obtain⟨m,rfl⟩:∃m,n=m+1:=⟨n-1,η⟩;have e:(p++c::q)++r2=p++(c::(q++r2)):=ζ;have i:=Fv d (r2:=c::(q++r2)) (by simp[T7,g]);rw[e,s6 i g,mR,l m η];rfl
def LB{n:Nat}{c:zc}(h:vH n r=Z (c,r2)):∃p d,r=p++d::r2/\d.1=7/\hO c p:=by
 unfold vH at h;split at h;exact zC h ζ;rename_i a s f;obtain⟨p,rfl,k⟩:=Ax f;split at h;rename_i l;obtain⟨i,t,rfl,m⟩:=nF θ l;split at h;exact zC h ζ;rename_i b u j;obtain⟨q,rfl,o⟩:=It j;split at h;rename_i e;obtain⟨d,t,rfl,g⟩:=nF θ e;simp at h;obtain⟨rfl,rfl⟩:=h;exact⟨p++i::q,d,ζ,g,.p k m o⟩;exact zC h ζ;split at h;rename_i e;obtain⟨d,t,rfl,g⟩:=nF θ e;simp at h;obtain⟨rfl,rfl⟩:=h;exact⟨p,d,rfl,g,.fact k⟩;exact zC h ζ
def PE{c:zc}(h:hO c p){d:Tp}(f:d.1=7)(r2:Δ)(n:Nat)(k:p.j<=n):vH n (p++d::r2)=Z (c,r2):=by
 cases h with
 |fact g=>
  unfold vH;rw[e9 g (by simp[T7,f])];simp[T7,f]
 |p g j l=>
  rename_i a b p q i;simp only[yK,xu] at k;have e:(p++i::q)++d::r2=p++(i::(q++d::r2)):=ζ;unfold vH;rw[e,e9 g (by simp[T7,j])];simp only[T7,j,if_true,mR];rw[Ma l (by simp[T7,f]) (by simp[T7,f]) n η];simp[f]
def hO.len{c:zc}{p:Δ}(h:hO c p):0<p.j:=by cases h with
 |fact h=>exact h.len
 |p h=>simp;omega
def NO{n:Nat}:∀(m:Nat) {r:Δ} {cs:Ξ},yX n m r=Z cs->lm cs r:=by
 intro m;induction m with
 |zero=>
  intro r cs h;rcases r with _|⟨x,r⟩;simp[yX] at h;subst h;exact .nil;simp[yX] at h
 |succ m i=>
  intro r cs h;rcases r with _|⟨x,r⟩;simp[yX] at h;subst h;exact .nil;rcases a:vH n (x::r) with _|z;rw[iL ζ a] at h;exact zC h ζ;rw[we ζ a] at h;obtain⟨c,b,rfl⟩:=qq.1 h;obtain⟨p,d,e,f,g⟩:=LB a;rw[e];exact .cons g f (i b)
def QT{n:Nat}{cs:Ξ}(h:lm cs r):∀m,r.j<=m->r.j<=n->yX n m r=Z cs:=by
 induction h with
 |nil=>intro m _ _;cases m<;>rfl
 |cons a d _ e=>
  intro m b c;have:=a.len;simp only[yK,xu] at b c;obtain⟨k,rfl⟩:∃k,m=k+1:=⟨m-1,η⟩;rw[we ζ (PE a d _ n η),e k η η];rfl
def Jf(l:Δ)(cs:Ξ):yX l.j l.j l=Z cs↔lm cs l:=
 ⟨NO _,λh=>QT h _ (zf _) (zf _)⟩
end
section
variable {p:List Tp}
def ut(l:List Tp):Prop:=∀x∈l,lF x
def zX(l:List Tp):κ:=l.w Prod.snd
def tk(l:List Tp)(i:Nat):Tp:=l.g i (0,ByteArray.empty)
def Jx:lF (0,ByteArray.empty):=by constructor<;>first|rfl|(show _=(ByteArray.empty.toList == _);rw[jS];rfl)
def ut.tk{l:Δ}(h:ut l)(i:Nat):lF (tk l i):=by
 unfold Go.Proofs.YteampbddflhngaaGreat.tk;by_cases a:i<l.j;rw[kS,yn a];exact h _ (zq a);rw[kS,gi η];exact Jx
def fD(l:Δ)(i:Nat):gB (zX l) i=(tk l i).2:=by
 unfold gB zX tk;by_cases a:i<l.j;simp[List.getD_eq_getElem?_getD,a];simp[List.getD_eq_getElem?_getD,a]
def kH(l:Δ):(zX l).j=l.j:=by simp[zX]
def ut.G{l:Δ}(h:ut l)(n:Nat):ut (l.G n):=λx a=>h x (gh a)
def ut.drop{l:Δ}(h:ut l)(n:Nat):ut (l.drop n):=λx a=>h x (fB a)
def jp{k c:Int}{b:Bool}(h:(k == c)=b):b=true↔k=c:=by subst h;simp
def TY{α:Type}:List α->List α
 |[]=>[]
 |[x]=>[x]
 |x::_::r=>x::TY r
def Fd{α:Type}(y:α):∀x:List α,TY (x++[y])=TY x++(if x.j%2=0 then [y] else [])
 |[]=>rfl
 |[a]=>rfl
 |a::b::r=>by
  have:=Fd y r;have c:(a::b::r).j%2=r.j%2:=by simp only[xu];omega
  rw[c];simp only[lr,TY,this]
def Dy(l:κ):∀m,m<=l.j->vj l m=TY ((l.drop 2).G (m-2))
 |0,_=>by simp[vj,TY]
 |m+1,h=>by
  rw[vj,Dy l m η];by_cases a:2<=m
  .have e:(l.drop 2).G (m+1-2)=(l.drop 2).G (m-2)++[gB l m]:=by
    rw[show m+1-2=(m-2)+1 by omega,List.take_add_one];congr 1;rw[List.getElem?_drop,show 2+(m-2)=m by omega,yn η,xJ η];rfl
   rw[e,Fd];congr 1;have b:((l.drop 2).G (m-2)).j=m-2:=by simp;omega
   rw[b];simp only[a,true_and];rw[show(m-2)%2=m%2 by omega]
  .rw[show m+1-2=0 by omega,show m-2=0 by omega];simp[TY,a]
def Gv(l:κ):∀m,qC l m=true↔∀i,2<=i->i<m->UW l i=true
 |0=>by simp[qC]
 |m+1=>by
  have f:=Gv l m;simp only[qC,uI,fX,decide_eq_true_eq,f];constructor
  .rintro⟨c,a⟩ i b d;by_cases e:i=m
   .subst e;rcases a with a|a
    .omega
    .exact a
   .exact c i b η
  .intro h;refine⟨λi b d=>h i b η,?_⟩;by_cases a:m<2
   .exact zh a
   .exact ze (h m η η)
def V7(q:List Tp):Prop:=q.j%2=1/\∀i,i<q.j->if i%2=0 then Uo (tk q i).1=true else(tk q i).1=6
def fS(x:Tp)(l:Δ)(i:Nat):tk (x::l) (i+1)=tk l i:=by simp[tk]
def lg(x:Tp)(l:Δ):tk (x::l) 0=x:=by simp[tk]
def RX{ts:κ}{q:Δ}(h:l5 ts q):V7 q/\ts=TY (zX q):=by
 induction h with
 |one b=>exact⟨⟨rfl,λi a=>by simp at a;subst a;simpa [lg] using b⟩,rfl⟩
 |more b d _ f=>
  obtain⟨⟨g,e⟩,c⟩:=f;refine⟨⟨by simp only[xu];omega,λi a=>?_⟩,by rw[c];rfl⟩;match i with
  |0=>simpa [lg] using b
  |1=>simpa [fS,lg] using d
  |i+2=>
   have:=e i (by simp only[xu] at a;omega);rw[fS,fS,show(i+2)%2=i%2 by omega];exact this
def Ec:∀(q:Δ),V7 q->l5 (TY (zX q)) q
 |[],h=>by have:=h.1;simp at this
 |[x],h=>by have:=h.2 0 ζ;simp[lg] at this;exact .one this
 |x::y::r,h=>by
  have a:=h.2 0 ζ;have b:=h.2 1 ζ;simp[lg] at a;simp[fS,lg] at b;refine .more a b (Ec r ⟨by have:=h.1;simp only[xu] at this;omega,λi c=>?_⟩);have:=h.2 (i+2) (by simp only[xu];omega);rw[fS,fS,show(i+2)%2=i%2 by omega] at this;exact this
def R4{r:Δ}{i:Nat}(h:i<p.j):tk (p++r) i=tk p i:=by
 simp[tk,List.getD_eq_getElem?_getD,List.getElem?_append_left h]
def LR{r:Δ}{c:Tp}:tk (p++c::r) p.j=c:=by simp[tk,List.getD_eq_getElem?_getD]
def Kd{neg:Bool}{n o c:Tp}{q:Δ}(h:ut (n::o::(q++[c])))(a:zj):
  x6 neg (zX (n::o::(q++[c])))=Z a↔n.1=1/\o.1=4/\c.1=5/\V7 q/\a=⟨neg,n.2,TY (zX q)⟩:=by
 have v:=jp (h n ζ).n;have s:=jp (h o ζ).k4;have t:=jp (h c ζ).k5;have B:gB (zX (n::o::(q++[c]))) 0=n.2:=by rw[fD,lg]
 have E:gB (zX (n::o::(q++[c]))) 1=o.2:=by rw[fD,fS,lg]
 have z:(zX (n::o::(q++[c]))).j=q.j+3:=by rw[kH];simp
 have D:gB (zX (n::o::(q++[c]))) (q.j+2)=c.2:=by rw[fD,fS,fS,LR]
 have l:qC (zX (n::o::(q++[c]))) (q.j+2)=true↔∀i,i<q.j->if i%2=0 then Uo (tk q i).1=true else(tk q i).1=6:=by
  have f:∀i,i<q.j->(UW (zX (n::o::(q++[c]))) (i+2)=true↔if i%2=0 then Uo (tk q i).1=true else(tk q i).1=6):=by
   intro i j;have r:lF (tk q i):=ut.tk (λx A=>h x (by simp[A])) i;unfold UW;rw[fD,fS,fS,R4 j,show(i+2)%2=i%2 by omega];split;rw[r.t];exact jp r.k6
  rw[Gv];constructor;intro m i j;exact(f i j).1 (m (i+2) η η);intro m i F j;have:=(f (i-2) η).2 (m (i-2) η);rwa [show i-2+2=i by omega] at this
 have d:vj (zX (n::o::(q++[c]))) (q.j+2)=TY (zX q):=by
  rw[Dy _ _ η];simp[zX]
 unfold x6;rw[z,B,E,show q.j+3-1=q.j+2 by omega,D,d];rw[za η];by_cases g:n.1=1;rw[za (by rw[v.2 g];simp),za η];by_cases b:q.j+3<4∨(q.j+3)%2=1∨(o.2.v == [40])=false∨(c.2.v == [41])=false;rw[zb b];simp only[reduceCtorEq,false_iff];rintro⟨-,C,y,w,-⟩;rw[s.2 C,t.2 y] at b;have:=w.1;simp at b;omega;rw[za b];simp only[not_or,tM] at b;have u:V7 q↔qC (zX (n::o::(q++[c]))) (q.j+2)=true:=by
  rw[l];exact⟨λh=>h.2,λh=>⟨η,h⟩⟩
 by_cases k:qC (zX (n::o::(q++[c]))) (q.j+2)=true;rw[zb k];simp only[zt];exact⟨λe=>⟨g,s.1 b.2.2.1,t.1 b.2.2.2,u.2 k,e.z⟩,λe=>e.2.2.2.2.z⟩;rw[za k];simp only[reduceCtorEq,false_iff];exact λe=>k (u.1 e.2.2.2.1);have:xi (Tt n.2 0)=false:=by rw[←rI];exact λe=>g (v.1 e)
 rw[zb this];simp only[reduceCtorEq,false_iff];exact λe=>g e.1
def em{neg:Bool}(h:ut p)(a:zj):x6 neg (zX p)=Z a↔∃f,qU f p/\a={f with i:=neg}:=by
 match p,h with
 |[],_=>
  simp only[x6,zX,List.map_nil,jr,if_true,reduceCtorEq,false_iff];rintro⟨f,b,-⟩;cases b
 |[n],h=>
  have s:=jp (h n ζ).n;have t:gB (zX [n]) 0=n.2:=by rw[fD,lg]
  unfold x6;rw[kH,t];constructor;intro e;cases g:xi (Tt n.2 0);simp[g] at e;simp[g] at e;exact⟨_,.bare (s.1 g),e.z⟩;rintro⟨f,b,rfl⟩;cases b with
  |bare j=>simp[s.2 j]
 |n::o::r,h=>
  rcases ij r with rfl|⟨q,c,rfl⟩;constructor;intro e;unfold x6 at e;rw[kH] at e;simp at e;rintro⟨f,b,rfl⟩;generalize d:[n,o]=p at b;cases b with
  |bare=>simp at d
  |k=>simp at d
  rw[eV] at h ⊢;rw[Kd h];constructor;rintro⟨i,k,m,l,rfl⟩;exact⟨_,.k i k (Ec q l) m,rfl⟩;rintro⟨f,b,rfl⟩;generalize d:n::o::(q++[c])=p at b;cases b with
  |bare=>simp at d
  |k i k u m=>
   simp only[mS] at d;obtain⟨rfl,rfl,d⟩:=d;have:=rL d rfl;simp only[mS,and_true] at this;obtain⟨rfl,rfl⟩:=this;obtain⟨l,rfl⟩:=RX u;exact⟨i,k,m,l,rfl⟩
def qU.qc{a:zj}(h:qU a p):{a with i:=false}=a:=by cases h<;>rfl
def B6(h:ut p)(a:zj):kj (zX p) true=Z a↔qU a p:=by
 have c:TW (zX p) true=false:=by simp[TW]
 unfold kj;rw[c,za ζ,em h];exact⟨fun⟨d,b,e⟩=>by rw[e,b.qc];exact b,λb=>⟨a,b,b.qc.z⟩⟩
def eJ(h:ut p)(a:zj):kj (zX p) false=Z a↔gW a p:=by
 rcases p with _|⟨n,r⟩;have l:TW (zX []) false=false:=rfl;unfold kj;rw[l,za ζ,em h];constructor;rintro⟨j,b,-⟩;cases b;intro c;cases c with
 |qc b=>cases b
 have f:=jp (h n ζ).k8;have g:TW (zX (n::r)) false=(n.2.v == [33]):=by
  unfold TW;rw[fD,lg,kH];simp
 unfold kj;rw[g];cases i:(n.2.v == [33]);have d:n.1≠8:=λe=>by rw[f.2 e] at i;exact zC i ζ
 rw[za ζ,em h];constructor;rintro⟨j,b,rfl⟩;rw[b.qc];exact .qc b;intro c;cases c with
 |qc b=>exact⟨_,b,b.qc.z⟩
 |i f _=>exact zC f d
 have d:=f.1 i;rw[zb rfl,show(zX (n::r)).tail=zX r from rfl,em (show ut r from λx k=>h x (by simp[k]))];constructor;rintro⟨j,b,rfl⟩;exact .i d b;intro c;cases c with
 |qc b=>have:=b.hd [];simp[T7,d] at this
 |i _ b=>exact⟨_,b,rfl⟩
end
section
variable {l r p:List Tp}
def Ar{f i:Nat}(b:f<=i)(a:i<l.j):l.drop f=(l.drop f).G (i-f)++l[i]::l.drop (i+1):=by
 have e:(l.drop f).drop (i-f)=l[i]::l.drop (i+1):=by
  rw[List.drop_drop,show f+(i-f)=i by omega,xp a]
 rw[←e,jQ]
def sc(l:Δ)(f k:Nat):((zX l).drop f).G k=zX ((l.drop f).G k):=by simp[zX,List.map_take,List.map_drop]
def sU{i:Nat}(h:i<l.j):tk l i=l[i]:=by simp[tk,List.getD_eq_getElem?_getD,h]
def eb{i:Nat}{x:Tp}(h:l.drop i=x::r):tk l i=x/\i<l.j/\l.drop (i+1)=r:=by
 have a:i<l.j:=by
  false_or_by_contra;rename_i b
  rw[uk η] at h;exact zC h ζ
 rw[xp a] at h;simp only[mS] at h;exact⟨by rw[sU a];exact h.1,a,h.2⟩
def Mi(h:ut l):∀(n f i:Nat) (d:Int) (b:Ω),f<=i->i+n=l.j+1->yS (zX l) n f d i=Z b->dR b (l.drop f)∨(n=0/\b=[]):=by
 intro n;induction n with
 |zero=>intro f i d b _ _ e;simp[yS] at e;exact ze ⟨rfl,e⟩
 |succ n x=>
  intro f i d b w y e;left;have step:∀{j m k},j<=i+1->i<l.j->yS (zX l) n j m (i+1)=Z k->dR k (l.drop j):=by
   intro j m k t z u;rcases x j (i+1) m k t η u with o|⟨rfl,-⟩
   exact o;omega
  unfold yS at e;rw[kH] at e;by_cases c:i<l.j;rw[zb c] at e;split at e;exact step η c e;split at e;exact step η c e;split at e;exact step η c e;rename_i s;split at e;exact zC e ζ;rename_i a g;rw[sc,eJ ((h.drop f).G _)] at g;obtain⟨k,v,rfl⟩:=qq.1 e;have o:=step (zf _) c v;rw[Ar w c];refine .more g ?_ o;have q:=jp (h.tk i).k6;rw[sU c] at q;apply q.1;simp only[not_or,tM] at s;have:=s.1;rwa [fD,sU c] at this;rw[za c] at e;split at e;exact zC e ζ;rename_i a g;rw[sc,eJ ((h.drop f).G _)] at g;simp only[zt] at e;subst e;have:(l.drop f).G (i-f)=l.drop f:=yV υ;rw[this] at g;exact .one g
def dep:Int->List Tp->Option Int
 |d,[]=>Z d
 |d,x::r=>if x.1=4 then dep (d+1) r else if x.1=5 then dep (d-1) r else if x.1≠6∨0<d then dep d r else Y
def wV:∀(p q:Δ) (d:Int),dep d (p++q)=(dep d p).bind λa=>dep a q
 |[],q,d=>rfl
 |x::p,q,d=>by
  simp only[lr,dep];split
  .exact wV p q _
  .split
   .exact wV p q _
   .split
    .exact wV p q _
    .rfl
def LQ{ts:κ}(h:l5 ts p){d:Int}(c:0<d):dep d p=Z d:=by
 have b:∀{x:Tp},Uo x.1=true->x.1≠4/\x.1≠5/\x.1≠6:=by
  intro x a;simp[Uo] at a;omega
 induction h with
 |one a=>have:=b a;simp[dep,this]
 |more a e _ f=>have:=b a;simp[dep,this,e,c,f]
def DD{a:zj}(h:qU a p):dep 0 p=Z 0:=by
 cases h with
 |bare b=>simp[dep,b]
 |k b c f e=>
  simp only[dep,b,c];simp only[wV,LQ f (d:=0+1) η];simp[dep,e]
def FL{a:zj}(h:gW a p):dep 0 p=Z 0:=by
 cases h with
 |qc b=>exact DD b
 |i c b=>simp[dep,c,DD b]
def Ab{l:Δ}(h:ut l)(f:Nat):∀(p r:Δ) (d g:Int) (i n:Nat),l.drop i=p++r->dep d p=Z g->yS (zX l) (n+p.j) f d i=yS (zX l) n f g (i+p.j)
 |[],r,d,g,i,n,_,a=>by simp[dep] at a;subst a;rfl
 |x::p,r,d,g,i,n,t,a=>by
  obtain⟨o,w,v⟩:=eb t;have j:=h.tk i;rw[o] at j;have s:=jp j.k4;have q:=jp j.k5;have y:=jp j.k6;have c:=λu=>Ab h f p r u g (i+1) n v;rw[show n+(x::p).j=(n+p.j)+1 by simp only[xu];omega,show i+(x::p).j=i+1+p.j by simp only[xu];omega];rw[yS,kH,zb w,fD,o];unfold dep at a;by_cases k:x.1=4
  .rw[zb (s.2 k)];rw[zb k] at a;exact c _ a
  .rw[za (λe=>k (s.1 e))];rw[za k] at a;by_cases m:x.1=5
   .rw[zb (q.2 m)];rw[zb m] at a;exact c _ a
   .rw[za (λe=>m (q.1 e))];rw[za m] at a;by_cases b:x.1≠6∨0<d
    .rw[zb b] at a;rw[zb (by
      rcases b with b|b
      .left;rw[←rI];exact λe=>b (y.1 e)
      .exact ze b)]
     exact c _ a
    .rw[za b] at a;exact zC a ζ
def Uq{f:Nat}(a:l.drop f=p++r):(l.drop f).G (f+p.j-f)=p:=by
 rw[a,show f+p.j-f=p.j by omega];simp
def Bg{f:Nat}(a:l.drop f=p++r):l.drop (f+p.j)=r:=by
 rw[←List.drop_drop,a];simp
def K5(h:ut l){b:Ω}(y:dR b p):∀f,l.drop f=p->yS (zX l) (p.j+1) f 0 f=Z b:=by
 induction y with
 |one j=>
  rename_i a p;intro f d;have g:l.drop f=p++[]:=by simpa using d
  rw[show p.j+1=1+p.j by omega,Ab h f p [] 0 0 f 1 g (FL j),yS,kH];have m:=Bg g;rw[List.drop_eq_nil_iff] at m;rw[za η,sc,Uq g,(eJ (by rw[←d];exact h.drop f) a).2 j]
 |more j w _ A=>
  rename_i a p q c b _;intro f d;have B:ut p:=λx t=>h x (fB (i:=f) (by rw[d];simp[t]));have m:=Bg d;obtain⟨n,v,u⟩:=eb m;have k:=h.tk (f+p.j);rw[n] at k;have s:=jp k.k4;have o:=jp k.k5;have z:=jp k.k6;rw[show(p++c::q).j+1=(q.j+1+1)+p.j by simp;omega,Ab h f p (c::q) 0 0 f _ d (FL j),yS,kH,zb v,fD,n,
   za (λe=>by have:=s.1 e;omega),za (λe=>by have:=o.1 e;omega),za (by rw[z.2 w];simp),sc,Uq d,(eJ B a).2 j]
  simp only;rw[A (f+p.j+1) u];rfl
def Cd(h:ut l)(b:Ω):yS (zX l) ((zX l).j+1) 0 0 0=Z b↔dR b l:=by
 rw[kH];constructor;intro e;rcases Mi h _ 0 0 0 b (zf _) η e with a|⟨c,-⟩
 simpa using a;omega;intro a;exact K5 h a 0 ζ
end
section
variable {k:Int}{p l:List Tp}
def No(k:Int)(l:List Tp):Prop:=∀x∈l,x.1≠k
def No.app{q:Δ}(h:No k p)(g:No k q):No k (p++q):=λx a=>(ya.1 a).elim (h x) (g x)
def No.cons{x:Tp}{q:Δ}(h:x.1≠k)(g:No k q):No k (x::q):=λy a=>by
 rcases zG.1 a with rfl|a
 .exact h
 .exact g y a
def No.nil(k:Int):No k []:=λx a=>zC a ζ
def RC{ts:κ}(h:l5 ts p)(d:6<k):No k p:=by
 have b:∀{x:Tp},Uo x.1=true->x.1≠k:=by intro x a;simp[Uo] at a;omega
 induction h with
 |one a=>exact .cons (b a) (.nil k)
 |more a e _ c=>exact .cons (b a) (.cons η c)
def su{a:zj}(h:qU a p)(d:6<k):No k p:=by
 cases h with
 |bare b=>exact .cons η (.nil k)
 |k b e c f=>exact .cons η (.cons η (.app (RC c d) (.cons η (.nil k))))
def Cu{a:zj}(h:gW a p)(c:k=7∨k=9):No k p:=by
 cases h with
 |qc b=>exact su b η
 |i d b=>exact .cons η (su b η)
def My{b:Ω}(h:dR b p)(c:k=7∨k=9):No k p:=by
 induction h with
 |one a=>exact Cu a c
 |more a e _ d=>exact .app (Cu a c) (.cons η d)
def Ov{c:zc}(h:hO c p):No 7 p:=by
 cases h with
 |fact a=>exact su a η
 |p a d b=>exact .app (su a η) (.cons η (My b (zh rfl)))
def oS:∀(p r:Δ),ut p->No 9 p->uc (zX (p++r))=p.j+uc (zX r)
 |[],r,_,_=>ζ
 |x::p,r,h,b=>by
  have d:=jp (h x ζ).k9;have c:(x.2.v == [58,45])=false:=by rw[←rI];exact λe=>b x ζ (d.1 e)
  show uc (x.2::zX (p++r))=_;rw[uc,c,oS p r (λy a=>h y (by simp[a])) (λy a=>b y (by simp[a]))];simp only[xu];rw[za ζ];omega
def Gz:∀(l:Δ),ut l->uc (zX l)<l.j->(tk l (uc (zX l))).1=9
 |[],_,h=>by simp at h
 |x::l,a,h=>by
  have d:=jp (a x ζ).k9;change uc (x.2::zX l)<_ at h;show(tk (x::l) (uc (x.2::zX l))).1=9;rw[uc] at h ⊢;cases b:(x.2.v == [58,45]) with
  |true=>rw[zb rfl,lg];exact d.1 b
  |false=>
   rw[b,za ζ] at h;rw[za ζ,fS];exact Gz l (λy c=>a y (by simp[c])) (by simp only[xu] at h;omega)
def Fh(l:Δ)(k:Nat):(zX l).G k=zX (l.G k):=by simp[zX,List.map_take]
def DH(l:Δ)(k:Nat):(zX l).drop k=zX (l.drop k):=by simp[zX,List.map_drop]
def Gx(h:ut l)(c:zc):kr (zX l)=Z c↔hO c l:=by
 constructor;intro e;have r:=DI (zX l);rw[kH] at r;unfold kr at e;rw[Fh,DH,kH] at e;split at e;exact zC e ζ;rename_i B m;rw[B6 (h.G _)] at m;split at e;rename_i s;simp only[zt] at e;subst e;rw[s,yV (zf _)] at m;exact .fact m;rename_i s;have d:uc (zX l)<l.j:=η;split at e;exact zC e ζ;rename_i b t;rw[Cd (h.drop _)] at t;simp only[zt] at e;subst e;have j:=Gz l h d;rw[sU d] at j;have g:=Ar (l:=l) (zs (uc (zX l))) d;rw[fM,Nat.sub_zero] at g;have w:=hO.p m j t;rwa [←g] at w;intro z;unfold kr;rw[Fh,DH,kH];cases z with
 |fact f=>
  have o:uc (zX l)=l.j:=by
   have:=oS l [] h (su f η);simpa [zX,uc] using this
  rw[o,yV (zf _),(B6 h _).2 f];simp
 |p f j A=>
  rename_i a b p q i;have u:ut p:=λx n=>h x (by simp[n]);have y:ut q:=λx n=>h x (by simp[n]);have o:uc (zX (p++i::q))=p.j:=by
   rw[oS p (i::q) u (su f η)];show p.j+uc (i.2::zX q)=_;rw[uc,(jp (h i ζ).k9).2 j];rfl
  rw[o];have v:(p++i::q).G p.j=p:=ζ;have g:(p++i::q).drop (p.j+1)=q:=by rw[←List.drop_drop];simp
  rw[v,g,(B6 u _).2 f,(Cd y _).2 A];simp only;rw[za ζ]
def L3(h:ut l):∀(n f i:Nat) (cs:Ξ),f<=i->i+n=l.j->qO (zX l) n f i=Z cs->lm cs (l.drop f):=by
 intro n;induction n with
 |zero=>
  intro f i cs g o e;unfold qO at e;rw[kH] at e;split at e;rename_i s;simp only[zt] at e;subst e;rw[uk η];exact .nil;exact zC e ζ
 |succ n j=>
  intro f i cs g o e;have a:i<l.j:=η;unfold qO at e;rw[fD,sU a] at e;split at e;rename_i q;have r:=(jp (h l[i] (zq a)).k7).1 q;split at e;exact zC e ζ;rename_i c d;rw[sc,Gx ((h.drop f).G _)] at d;obtain⟨m,b,rfl⟩:=qq.1 e;rw[Ar g a];exact .cons d r (j _ _ _ (zf _) η b);exact j _ _ _ η η e
def Gk{l:Δ}(h:ut l)(f:Nat):∀(p r:Δ) (i n:Nat),l.drop i=p++r->No 7 p->qO (zX l) (n+p.j) f i=qO (zX l) n f (i+p.j)
 |[],r,i,n,_,_=>rfl
 |x::p,r,i,n,g,c=>by
  obtain⟨a,o,m⟩:=eb g;have b:=h.tk i;rw[a] at b;have d:=jp b.k7;rw[show n+(x::p).j=(n+p.j)+1 by simp only[xu];omega,show i+(x::p).j=i+1+p.j by simp only[xu];omega];rw[qO,fD,a,za (λe=>c x ζ (d.1 e))];exact Gk h f p r (i+1) n m (λy j=>c y (by simp[j]))
def O9(h:ut l){cs:Ξ}(n:lm cs p):∀f,f<=l.j->l.drop f=p->qO (zX l) p.j f f=Z cs:=by
 induction n with
 |nil=>
  intro f r a;rw[List.drop_eq_nil_iff] at a;rw[jr,qO,kH,zb η]
 |cons e o _ t=>
  rename_i c cs p q d _;intro f r a;have u:ut p:=λx m=>h x (fB (i:=f) (by rw[a];simp[m]));have j:=Bg a;obtain⟨g,v,s⟩:=eb j;have b:=h.tk (f+p.j);rw[g] at b;rw[show(p++d::q).j=(q.j+1)+p.j by simp;omega,Gk h f p (d::q) f _ a (Ov e),qO,fD,g,zb ((jp b.k7).2 o),sc,Uq a,(Gx u c).2 e];simp only;rw[t (f+p.j+1) η s];rfl
def AB(h:ut l)(cs:Ξ):vB (zX l)=Z cs↔lm cs l:=by
 unfold vB;rw[kH];constructor;intro e;have:=L3 h _ 0 0 cs (zf _) η e;simpa using this;intro a;exact O9 h a 0 η ζ
def K0(h:ut l):vB (zX l)=yX l.j l.j l:=by
 apply Option.ext;intro a;show vB (zX l)=Z a↔yX l.j l.j l=Z a;rw[AB h,Jf]
def o8(s:ByteArray):(x9 s.q s).bind vB=(Tu s).bind λl=>yX l.j l.j l:=by
 rw[sK];rcases b:Tu s with _|l;rfl;exact K0 λx a=>(sm b x a).1
end
structure gJ (w:Nat) (n:qD):Prop where
 len:n.D.j=w
 dlen:n.down.j=w
 ge:∀i,i<w->i<=n.D.g i 0
 le:∀i,i<w->n.D.g i 0<=w
 fix:∀i,i<w->n.D.g i 0<w->n.D.g (n.D.g i 0) 0=n.D.g i 0
 seg:∀i j,i<w->i<=j->j<n.D.g i 0->n.D.g j 0=n.D.g i 0
def uN(l:Φ)(i j v d:Nat):(l.set i v).g j d=if i=j/\i<l.j then v else l.g j d:=by
 simp only[kS,sV];by_cases h:i=j;subst h;by_cases a:i<l.j;simp[a];simp[a];simp[h]
def DG(v:Nat):∀(n:Nat) (l:Φ),(ko v n l).j=l.j
 |0,l=>rfl
 |n+1,l=>by
  unfold ko;split
  .rw[DG];simp
  .rfl
open Classical in
def Fp(v:Nat):∀(n:Nat) (l:Φ) (u:Nat),n<=l.j->(ko v n l).g u 0=if u<n/\∀j,u<=j->j<n->l.g j 0>v then v else l.g u 0
 |0,l,u,_=>by simp[ko]
 |n+1,l,u,h=>by
  unfold ko;by_cases c:l.g n 0>v
  .rw[zb c,Fp v n (l.set n v) u υ];by_cases e:u<n
   .by_cases d:∀j,u<=j->j<n->l.g j 0>v
    .rw[zb ⟨e,λj a b=>by rw[uN,za η];exact d j a b⟩,zb ⟨η,λj a b=>by
      by_cases g:j=n
      .subst g;exact c
      .exact d j a η⟩]
    .rw[za (λq=>d λj a b=>by have:=q.2 j a b;rwa [uN,za η] at this),za (λq=>d λj a b=>q.2 j a η),uN,za η]
   .rw[za (λq=>e q.1),uN];by_cases f:n=u
    .subst f;rw[zb ⟨rfl,η⟩,zb ⟨η,λj a b=>by
      have:j=n:=η;subst this;exact c⟩]
    .rw[za η,za η]
  .rw[za c];by_cases e:u<n+1
   .rw[za (λq=>c (q.2 n η η))]
   .rw[za (λq=>e q.1)]
def n5(w:Nat)(n:qD)(v:Nat):Prop:=v<w/\n.D.g v 0=v
def gJ.none{w:Nat}{n:qD}(h:gJ w n){i:Nat}(a:i<w)(d:¬n.D.g i 0<w):∀u,i<=u->¬n5 w n u:=by
 intro u b ⟨c,e⟩;have:=h.seg i u a b η;omega
def gJ.some{w:Nat}{n:qD}(h:gJ w n){i:Nat}(a:i<w)(b:n.D.g i 0<w):i<=n.D.g i 0/\n5 w n (n.D.g i 0)/\∀u,i<=u->u<n.D.g i 0->¬n5 w n u:=by
 refine⟨h.ge i a,⟨b,h.fix i a b⟩,λu c d ⟨e,f⟩=>?_⟩;have:=h.seg i u a c d;omega
def gJ.put{w:Nat}{n:qD}(h:gJ w n){v d:Nat}(l:v<w)(z:¬n5 w n v):gJ w (lY n v d)/\(∀u,n5 w (lY n v d) u↔u=v∨n5 w n u)/\∀u,(lY n v d).down.g u 0=if u=v then d else n.down.g u 0:=by
 have y:=h.len;have k:n.D.g v 0>v:=by
  have o:=h.ge v l;rcases Nat.lt_or_eq_of_le o with q|q;exact q;exact zC ⟨l,q.z⟩ z
 have p:∀u,(ko v (v+1) n.D).g u 0=if u<=v/\n.D.g u 0>v then v else n.D.g u 0:=by
  intro u;rw[Fp v (v+1) n.D u η];by_cases m:u<=v;by_cases f:n.D.g u 0>v;have r:∀j,u<=j->j<v+1->n.D.g j 0>v:=λj o x=>by
   have:=h.seg u j η o η;omega
  rw[zb ⟨η,r⟩,zb ⟨m,f⟩];rw[za (λq=>f (q.2 u (zf _) η)),za (λq=>f q.2)];rw[za (λq=>η),za (λq=>η)]
 have a:∀u,(lY n v d).D.g u 0=if u<=v/\n.D.g u 0>v then v else n.D.g u 0:=p
 have e:(lY n v d).D.g v 0=v:=by rw[a,zb ⟨zf _,k⟩]
 refine⟨⟨by simp[lY,DG,y],by simp[lY,h.dlen],λi c=>?_,λi c=>?_,λi c f=>?_,λi j c g s=>?_⟩,λu=>?_,λu=>?_⟩;rw[a];split;omega;exact h.ge i c;rw[a];split;omega;exact h.le i c;by_cases b:i<=v/\n.D.g i 0>v;rw[a i,zb b];exact e;rw[a i,za b] at f ⊢;have x:=h.fix i c f;rw[a];by_cases t:n.D.g i 0<=v/\n.D.g (n.D.g i 0) 0>v;omega;rw[za t];exact x;by_cases b:i<=v/\n.D.g i 0>v;rw[a i,zb b] at s ⊢;have:=h.seg i j c g η;rw[a,zb ⟨η,η⟩];rw[a i,za b] at s ⊢;have:=h.seg i j c g s;rw[a,this];rw[za η];unfold n5;rw[a];by_cases b:u<=v/\n.D.g u 0>v;rw[zb b];constructor;rintro⟨_,q⟩;exact zh q.z;rintro(q|q);subst q;exact⟨l,rfl⟩;omega;rw[za b];constructor;intro q;exact ze q;rintro(q|q);subst q;exact zC ⟨zf _,k⟩ b;exact q;show(n.down.set v d).g u 0=_;rw[uN];by_cases m:u=v;subst m;rw[zb ⟨rfl,by rw[h.dlen];exact l⟩,zb rfl];rw[za η,za m]
def rJ(k d i:Nat)(a:i<k)(x:Nat):(List.replicate k x).g i d=x:=by simp[List.getD_eq_getElem?_getD,a]
def gJ.new(w:Nat):gJ w ⟨List.replicate w w,List.replicate w 0⟩/\∀v,¬n5 w ⟨List.replicate w w,List.replicate w 0⟩ v:=by
 refine⟨⟨ζ,ζ,λi a=>?_,λi a=>?_,λi a e=>?_,λi j a d b=>?_⟩,λv ⟨c,f⟩=>?_⟩<;>simp only at *
 rw[rJ _ _ _ a];omega;rw[rJ _ _ _ a];exact zf _;rw[rJ _ _ _ a] at e;omega;rw[rJ _ _ _ a] at b ⊢;rw[rJ _ _ _ b];rw[rJ _ _ _ c] at f;omega
section
variable {T:zl}
def kf(T:zl)(a:Nat):qD:=T.B.g a qD.zero
def ld(T:zl):Prop:=∀a,a<T.B.j->gJ T.r (kf T a)
def mD(T:zl)(a v:Nat):zJ T a v=if a<T.B.j/\v<T.r/\(kf T a).D.g v 0=v then Z ((kf T a).down.g v 0) else none:=by
 unfold zJ yG kf;by_cases b:a<T.B.j/\v<T.r;rw[zb b];dsimp only;generalize (T.B.g a qD.zero).D.g v 0=x;by_cases c:x=v;subst c;rw[za (by omega:¬x≥T.r)];simp[b];by_cases d:x≥T.r;simp[d,c];simp[d,c];rw[za b,za (λq=>b ⟨q.1,q.2.1⟩)]
def ln{a v b:Nat}(h:zJ T a v=Z b):a<T.B.j/\v<T.r:=by
 unfold zJ yG at h;by_cases c:a<T.B.j/\v<T.r;exact c;rw[za c] at h;cases h
def Ed(h:ld T){a f v:Nat}(b:yG T a f=Z v):f<=v/\v<T.r/\(zJ T a v).I=true/\∀u,f<=u->u<v->zJ T a u=none:=by
 unfold yG at b;split at b;rename_i d;simp only at b;split at b;cases b;rename_i g;simp only[zt] at b;have c:=(h a d.1).some d.2 (by unfold kf;omega);unfold kf at c;rw[b] at c g;refine⟨c.1,η,?_,λu e i=>?_⟩;rw[mD,zb ⟨d.1,η,c.2.1.2⟩];rfl;rw[mD,za (λq=>c.2.2 u e i ⟨q.2.1,q.2.2⟩)];cases b
def CK(h:ld T){a f:Nat}(b:yG T a f=Y):∀u,f<=u->zJ T a u=none:=by
 intro u c;rw[mD];refine za λq=>?_;unfold yG at b;rw[zb ⟨q.1,η⟩] at b;simp only at b;split at b;rename_i d;exact(h a q.1).none (show f<T.r by omega) (by unfold kf;omega) u c ⟨q.2.1,q.2.2⟩;cases b
def TS(T:zl):Nat->zk->Option Nat
 |a,[]=>Z a
 |a,v::r=>match zJ T a v with
  |none=>Y
  |some b=>TS T b r
def pK(T:zl):∀(p q:zk) (a:Nat),TS T a (p++q)=(TS T a p).bind λb=>TS T b q
 |[],q,a=>rfl
 |v::p,q,a=>by
  simp only[lr,TS];cases zJ T a v with
  |none=>rfl
  |some b=>exact pK T p q b
structure kp (T:zl) (pth:Nat->zk):Prop where
 dep:1<=T.ql/\T.ql<=3
 wid:1<=T.r
 pos:0<T.B.j
 node:ld T
 root:pth 0=[]
 lev:∀a,a<T.B.j->(pth a).j<T.ql
 inj:∀a b,a<T.B.j->b<T.B.j->pth a=pth b->a=b
 kid:∀a v b,zJ T a v=Z b->(pth a).j+1<T.ql->b<T.B.j/\pth b=pth a++[v]
 par:∀b,b<T.B.j->b≠0->∃a v,zJ T a v=Z b/\(pth a).j+1<T.ql/\pth b=pth a++[v]
def Lm(l:List qD)(i j:Nat)(v d:qD):(l.set i v).g j d=if i=j/\i<l.j then v else l.g j d:=by
 simp only[kS,sV];by_cases h:i=j;subst h;by_cases a:i<l.j;simp[a];simp[a];simp[h]
def Fo(T:zl)(a v d b:Nat)(c:a<T.B.j)(e:v<T.r):kf (yk T a v d) b=if b=a then lY (kf T a) v d else kf T b:=by
 unfold yk kf;rw[zb ⟨c,e⟩];simp only;rw[Lm];by_cases h:b=a;subst h;rw[zb ⟨rfl,c⟩,zb rfl];rw[za (λq=>h q.1.z),za h]
def lZ(T:zl)(a v d:Nat):(yk T a v d).B.j=T.B.j:=by unfold yk;split<;>simp
def pQ(T:zl)(a v d:Nat):(yk T a v d).r=T.r:=by unfold yk;split<;>rfl
def rY(T:zl)(a v d:Nat):(yk T a v d).ql=T.ql:=by unfold yk;split<;>rfl
def Ef(T:zl)(a v d:Nat):(yk T a v d).count=T.count:=by unfold yk;split<;>rfl
def GN(h:ld T){a v d:Nat}(g:a<T.B.j)(f:v<T.r)(m:zJ T a v=Y):ld (yk T a v d)/\∀b u,zJ (yk T a v d) b u=if b=a/\u=v then Z d else zJ T b u:=by
 have j:¬n5 T.r (kf T a) v:=λq=>by rw[mD,zb ⟨g,f,q.2⟩] at m;cases m
 obtain⟨o,l,n⟩:=(h a g).put (d:=d) f j;have k:ld (yk T a v d):=by
  intro b e;rw[lZ] at e;rw[pQ,Fo T a v d b g f];split;exact o;exact h b e
 refine⟨k,λb u=>?_⟩;rw[mD,lZ,pQ,Fo T a v d b g f,mD];by_cases e:b=a;subst e;rw[zb rfl,n];by_cases i:u=v;subst i;rw[zb rfl,zb ⟨g,f,((l u).2 (zh rfl)).2⟩,zb ⟨rfl,rfl⟩];rw[za i,za (λq:b=b/\u=v=>i q.2)];by_cases c:b<T.B.j/\u<T.r/\(kf T b).D.g u 0=u;rw[zb c,zb ⟨c.1,c.2.1,((l u).2 (ze c.2)).2⟩];rw[za c];refine za λq=>c ⟨q.1,?_⟩;rcases(l u).1 q.2 with r|r
 exact zC r i;exact r;rw[za e,za (λq:b=a/\u=v=>e q.1)]
def KT(h:ld T):ld (yD T)/\∀b u,zJ (yD T) b u=zJ T b u:=by
 have c:∀b,kf (yD T) b=if b<T.B.j then kf T b else if b=T.B.j then⟨List.replicate T.r T.r,List.replicate T.r 0⟩ else qD.zero:=by
  intro b;unfold kf yD;simp only[kS,List.getElem?_append];by_cases a:b<T.B.j;simp[a];rw[za a,za a];by_cases e:b=T.B.j;subst e;simp;rw[za e];rw[gi υ];rfl
 have f:(yD T).B.j=T.B.j+1:=by simp[yD]
 have g:ld (yD T):=by
  intro b i;rw[c];by_cases a:b<T.B.j;rw[zb a];exact h b a;rw[za a,zb η];exact(gJ.new T.r).1
 refine⟨g,λb u=>?_⟩;rw[mD,mD,c,f,show(yD T).r=T.r from rfl];by_cases a:b<T.B.j;rw[zb a];by_cases d:u<T.r/\(kf T b).D.g u 0=u;rw[zb ⟨η,d⟩,zb ⟨a,d⟩];rw[za (λq=>d q.2),za (λq=>d q.2)];rw[za a,za (λq:b<T.B.j/\_=>a q.1)];by_cases e:b=T.B.j;rw[zb e];exact za λq=>(gJ.new T.r).2 u q.2;exact za λq=>η
end
section
variable {pth:Nat->zk}
def uA(T:zl)(q:zk):Option Nat:=TS T 0 q
structure Vg (T T':zl) (key:zk) (m:Nat) (new:Bool) (room:Nat):Prop where
 inv:∃pth',kp T' pth'
 r:T'.r=T.r
 ql:T'.ql=T.ql
 is:new=(uA T key).isNone
 same:new=false->T'=T
 more:new=true->T'.count=T.count+1/\T'.B.j<=T.B.j+room
 sem:∀q,q.j=T.ql->uA T' q=if q=key then Z ((uA T q).g m) else uA T q
def kp.grow{T:zl}(h:kp T pth){a v:Nat}(G:a<T.B.j)(D:v<T.r)(K:(pth a).j+1<T.ql)(t:zJ T a v=Y):
  kp (yk (yD T) a v T.B.j) (λc=>if c=T.B.j then pth a++[v] else pth c)/\(∀b u,zJ (yk (yD T) a v T.B.j) b u=if b=a/\u=v then Z T.B.j else zJ T b u)/\(yk (yD T) a v T.B.j).B.j=T.B.j+1/\(yk (yD T) a v T.B.j).r=T.r/\(yk (yD T) a v T.B.j).ql=T.ql/\(yk (yD T) a v T.B.j).count=T.count:=by
 have A:=KT h.node;have o:(yD T).B.j=T.B.j+1:=by simp[yD]
 obtain⟨E,F⟩:=GN A.1 (a:=a) (v:=v) (d:=T.B.j) (by rw[o];omega) (show v<(yD T).r from D) (by rw[A.2];exact t);have s:∀b u,zJ (yk (yD T) a v T.B.j) b u=if b=a/\u=v then Z T.B.j else zJ T b u:=λb u=>by rw[F,A.2]
 have j:(yk (yD T) a v T.B.j).B.j=T.B.j+1:=by rw[lZ,o]
 have p:(yk (yD T) a v T.B.j).r=T.r:=by rw[pQ];rfl
 have i:(yk (yD T) a v T.B.j).ql=T.ql:=by rw[rY];rfl
 have z:(yk (yD T) a v T.B.j).count=T.count:=by rw[Ef];rfl
 have g:∀c,c<T.B.j->pth c≠pth a++[v]:=by
  intro c q e;have x:c≠0:=by rintro rfl;rw[h.root] at e;exact zC e.z ζ
  obtain⟨J,L,k,C,r⟩:=h.par c q x;rw[e] at r;have l:=rL r rfl;have n:=h.inj a J G (ln k).1 l.1;subst n;simp only[mS,and_true] at l;rw[←l.2] at k;rw[k] at t;cases t
 refine⟨⟨by rw[i];exact h.dep,by rw[p];exact h.wid,by rw[j];omega,E,?_,λc q=>?_,λc d q B e=>?_,λc u b f m=>?_,λb H y=>?_⟩,s,j,p,i,z⟩;rw[za η];exact h.root;rw[j] at q;rw[i];by_cases e:c=T.B.j;rw[zb e];simp;omega;rw[za e];exact h.lev c η;rw[j] at q B;by_cases l:c=T.B.j;by_cases n:d=T.B.j;rw[l,n];rw[zb l,za n] at e;exact zC e.z (g d η);by_cases n:d=T.B.j;rw[za l,zb n] at e;exact zC e (g c η);rw[za l,za n] at e;exact h.inj c d η η e;rw[s] at f;rw[i] at m;by_cases e:c=a/\u=v;rw[zb e] at f;simp only[zt] at f;obtain⟨rfl,rfl⟩:=e;subst f;rw[zb rfl,za η];exact⟨η,rfl⟩;rw[za e] at f;have w:=(ln f).1;rw[za η] at m;obtain⟨M,I⟩:=h.kid c u b f m;rw[za η,za η];exact⟨η,I⟩;rw[j] at H;by_cases e:b=T.B.j;refine⟨a,v,by rw[s,zb ⟨rfl,rfl⟩,e],by rw[za η,i];exact K,by rw[zb e,za η]⟩;obtain⟨c,u,k,C,r⟩:=h.par b η y;have w:=(ln k).1;refine⟨c,u,?_,by rw[za η,i];exact C,by rw[za e,za η];exact r⟩;rw[s,za];exact k;rintro⟨rfl,rfl⟩;rw[t] at k;cases k
def kp.grow_sem{T k:zl}{pth:Nat->zk}(h:kp T pth){a v:Nat}(n:(pth a).j+1<T.ql)(j:zJ T a v=Y)(g:∀b u,zJ k b u=if b=a/\u=v then Z T.B.j else zJ T b u):∀(q:zk) (c:Nat),c<T.B.j->(pth c).j+q.j=T.ql->TS k c q=TS T c q
 |[],c,_,_=>rfl
 |u::q,c,p,i=>by
  simp only[TS,g];simp only[xu] at i;by_cases e:c=a/\u=v
  .obtain⟨rfl,rfl⟩:=e;rw[zb ⟨rfl,rfl⟩,j];simp only;cases q with
   |nil=>simp at i;omega
   |cons x q=>
    simp only[TS,g];by_cases d:c=T.B.j
    .omega
    .rw[za (λq=>d q.1.z)];cases f:zJ T T.B.j x with
     |none=>rfl
     |some y=>have:=(ln f).1;omega
  .rw[za e];cases f:zJ T c u with
   |none=>rfl
   |some b=>
    simp only;by_cases m:(pth c).j+1<T.ql
    .obtain⟨l,o⟩:=h.kid c u b f m;exact h.grow_sem n j g q b l (by rw[o];simp;omega)
    .cases q with
     |nil=>rfl
     |cons x q=>simp at i;omega
def kp.put_sem{T C:zl}{pth:Nat->zk}(h:kp T pth){a v m:Nat}(J:(pth a).j+1=T.ql)(t:a<T.B.j)(K:zJ T a v=Y)(D:∀b u,zJ C b u=if b=a/\u=v then Z m else zJ T b u):∀(q:zk) (c:Nat),c<T.B.j->(pth c).j+q.j=T.ql->TS C c q=if pth c++q=pth a++[v] then Z m else TS T c q
 |[],c,n,p=>by have:=h.lev c n;simp at p;omega
 |u::q,c,n,p=>by
  simp only[TS,D];simp only[xu] at p;by_cases G:(pth c).j+1<T.ql
  .have z:c≠a:=by rintro rfl;omega
   rw[za (λq=>z q.1)];cases F:zJ T c u with
   |none=>
    simp only;rw[za];intro e;have A:∀(k:Nat) (q:zk) (b:Nat),q.j=k->b<T.B.j->pth c++u::q=pth b->False:=by
     intro k;induction k with
     |zero=>
      intro q b o w e;have:q=[]:=nU.1 o;subst this;have g:b≠0:=by rintro rfl;rw[h.root] at e;simp at e
      obtain⟨x,y,j,I,l⟩:=h.par b w g;rw[←e] at l;have f:=rL l rfl;have:=h.inj c x n (ln j).1 f.1;subst this;simp only[mS,and_true] at f;rw[←f.2,F] at j;cases j
     |succ k L=>
      intro q b o w e;have g:b≠0:=by rintro rfl;rw[h.root] at e;simp at e
      obtain⟨x,y,j,I,l⟩:=h.par b w g;have d:q≠[]:=by rintro rfl;simp at o
      have i:q=q.dropLast++[q.getLast d]:=(Ad d).z;rw[←e,i] at l;have s:(pth c++u::q.dropLast)++[q.getLast d]=pth x++[y]:=by rw[←l];simp
      have f:=rL s rfl;exact L q.dropLast x (by simp[o]) (ln j).1 f.1
    have d:q≠[]:=by rintro rfl;simp at p;omega
    have i:q=q.dropLast++[q.getLast d]:=(Ad d).z;rw[i] at e;have s:(pth c++u::q.dropLast)++[q.getLast d]=pth a++[v]:=by rw[←e];simp
    have f:=rL s rfl;exact A _ q.dropLast a rfl t f.1
   |some b=>
    simp only;obtain⟨H,E⟩:=h.kid c u b F G;rw[h.put_sem J t K D q b H (by rw[E];simp;omega),E];simp
  .have r:q=[]:=nU.1 (by have:=h.lev c n;omega);subst r;by_cases e:c=a/\u=v
   .obtain⟨rfl,rfl⟩:=e;simp[TS]
   .rw[za e];have B:¬pth c++[u]=pth a++[v]:=by
     intro M;have f:=rL M rfl;exact e ⟨h.inj c a n t f.1,by simpa using f.2⟩
    rw[za B];cases zJ T c u<;>rfl
def kp.reach{T:zl}(h:kp T pth):∀(k:Nat) (b:Nat),b<T.B.j->(pth b).j=k->TS T 0 (pth b)=Z b:=by
 intro k;induction k with
 |zero=>
  intro b d a;have e:pth b=pth 0:=by rw[h.root];exact nU.1 a
  have:=h.inj b 0 d h.pos e;subst this;rw[h.root];rfl
 |succ k j=>
  intro b d a;have c:b≠0:=by rintro rfl;rw[h.root] at a;simp at a
  obtain⟨x,y,f,l,g⟩:=h.par b d c;have i:=j x (ln f).1 (by rw[g] at a;simpa using a);rw[g,pK,i];simp[TS,f]
def oj(m:Nat):∀(r:zk) (T:zl) (pth:Nat->zk) (a:Nat),kp T pth->a<T.B.j->T.ql<=(pth a).j+r.j->(∀v∈r,v<T.r)->Vg T (vG m T a (pth a).j r).1 (pth a++r.G (T.ql-(pth a).j)) m (vG m T a (pth a).j r).2 (T.ql-1-(pth a).j)
 |[],T,pth,a,h,w,P,_=>by have:=h.lev a w;simp at P;omega
 |v::r,T,pth,a,h,w,P,I=>by
  have aa:=h.lev a w;have S:v<T.r:=I v ζ;have i:=h.reach _ a w rfl;simp only[xu] at P;unfold vG;by_cases V:(pth a).j+1≥T.ql
  .rw[zb V];have K:T.ql-(pth a).j=1:=η;rw[K];have j:uA T (pth a++(v::r).G 1)=zJ T a v:=by
    unfold uA;rw[pK,i];simp only[pE,List.take_zero,Option.bind_some,TS];cases zJ T a v<;>rfl
   unfold gZ;cases g:zJ T a v with
   |some b=>
    refine⟨⟨pth,h⟩,rfl,rfl,by rw[j,g];rfl,λ_=>rfl,λq=>by simp at q,λq s=>?_⟩;by_cases e:q=pth a++(v::r).G 1
    .subst e;rw[zb rfl,j,g];rfl
    .rw[za e]
   |none=>
    have y:=GN h.node (d:=m) w S g;have F:∀q c,TS {yk T a v m with count:=(yk T a v m).count+1} c q=TS (yk T a v m) c q:=by
     intro q;induction q with
     |nil=>intro c;rfl
     |cons x q f=>
      intro c;simp only[TS];have:zJ {yk T a v m with count:=(yk T a v m).count+1} c x=zJ (yk T a v m) c x:=rfl;rw[this];cases zJ (yk T a v m) c x with
      |none=>rfl
      |some b=>exact f b
    refine⟨⟨pth,?_⟩,pQ _ _ _ _,rY _ _ _ _,by rw[j,g];rfl,λq=>by simp at q,λ_=>⟨by simp[Ef],by simp[lZ]⟩,λq s=>?_⟩
    .have l:∀b u,zJ {yk T a v m with count:=(yk T a v m).count+1} b u=if b=a/\u=v then Z m else zJ T b u:=y.2
     refine⟨by show 1<=(yk T a v m).ql/\(yk T a v m).ql<=3;rw[rY];exact h.dep,by show 1<=(yk T a v m).r;rw[pQ];exact h.wid,by show 0<(yk T a v m).B.j;rw[lZ];exact h.pos,y.1,h.root,λc M=>by show _<(yk T a v m).ql;rw[rY];exact h.lev c (by simpa [lZ] using M),λc d M J e=>h.inj c d (by simpa [lZ] using M) (by simpa [lZ] using J) e,λc u b t Q=>?_,λb hb H=>?_⟩
     .rw[l] at t;have B:(pth c).j+1<T.ql:=by simpa [rY] using Q
      by_cases e:c=a/\u=v
      .obtain⟨rfl,rfl⟩:=e;omega
      .rw[za e] at t;obtain⟨N,D⟩:=h.kid c u b t B;exact⟨by simpa [lZ] using N,D⟩
     .obtain⟨c,u,G,q2,q3⟩:=h.par b (by simpa [lZ] using hb) H;refine⟨c,u,?_,by simpa [rY] using q2,q3⟩;rw[l,za]
      .exact G
      .rintro⟨rfl,rfl⟩;rw[g] at G;cases G
    .unfold uA;rw[F,h.put_sem η w g y.2 q 0 h.pos (by rw[h.root];simpa using s),h.root];have C:(v::r).G 1=[v]:=ζ;rw[C,re];by_cases e:q=pth a++[v]
     .rw[zb e,zb e];have:TS T 0 q=none:=by rw[e];have:=j;unfold uA at this;rw[C] at this;rw[this,g]
      rw[this];rfl
     .rw[za e,za e]
  .rw[za V];obtain⟨L,l⟩:∃L,T.ql-(pth a).j=L+1:=⟨T.ql-(pth a).j-1,η⟩;have A:∀p:zk,p=pth a++[v]->p++r.G (T.ql-p.j)=pth a++(v::r).G (T.ql-(pth a).j):=by
    rintro p rfl;rw[l,pE];have:T.ql-(pth a++[v]).j=L:=by simp;omega
    rw[this];simp
   unfold qu;cases g:zJ T a v with
   |some b=>
    obtain⟨N,D⟩:=h.kid a v b g η;have f:=oj m r T pth b h N (by rw[D];simp;omega) (λx g=>I x (by simp[g]));rw[A _ D] at f;have e:(pth b).j=(pth a).j+1:=by rw[D];simp
    rw[e] at f;exact⟨f.inv,f.r,f.ql,f.is,f.same,λq=>⟨(f.more q).1,by have:=(f.more q).2;simp only at this ⊢;omega⟩,f.sem⟩
   |none=>
    obtain⟨g1,g2,W,R,E,g6⟩:=h.grow w S η g;have f:=oj m r (yk (yD T) a v T.B.j) _ T.B.j g1 (by rw[W];omega) (by rw[zb rfl,E];simp;omega) (λx g=>by rw[R];exact I x (by simp[g]));rw[zb rfl,E,A _ rfl] at f;have e:(pth a++[v]).j=(pth a).j+1:=ζ;rw[e] at f;have n:∀q:zk,q.j=T.ql->uA (yk (yD T) a v T.B.j) q=uA T q:=λq s=>h.grow_sem η g g2 q 0 h.pos (by rw[h.root];simpa using s);have o:(pth a++(v::r).G (T.ql-(pth a).j)).j=T.ql:=by simp;omega
    have k:uA T (pth a++(v::r).G (T.ql-(pth a).j))=none:=by
     unfold uA;rw[pK,i,l,pE];simp[TS,g]
    have z:=f.is;rw[n _ o,k] at z;refine⟨f.inv,by rw[f.r,R],by rw[f.ql,E],by rw[k];exact z,λq=>?_,λq=>⟨by rw[(f.more q).1,g6],by have:=(f.more q).2;rw[W] at this;simp only at this ⊢;omega⟩,λq s=>?_⟩
    .rw[z] at q;cases q
    .rw[f.sem q (by rw[E];exact s),n q s]
end
end Go.Proofs.YteampbddflhngaaGreat
