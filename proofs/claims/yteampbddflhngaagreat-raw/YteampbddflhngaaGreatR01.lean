import Derived.WalkKit
import Derived.WalkSpells
import Derived.WalkLawsBesides
import Derived.Deep.Light
import Derived.Handy
import Derived.Laws.IdiomStrings
import Derived.WalkSmall
import Derived.WideShapes
import Derived.Test.YteampbddflhngaaGreatProg
import Derived.Deep.QuietTactic
import Derived.BigQuiet
import Derived.Deep.LoopGhost
import Derived.Deep.RegionLaw
import Derived.Deep.OwnRows
import Derived.Deep.RegionHeld3
namespace Go.Proofs.YteampbddflhngaaGreat
open List renaming length→List.j,getD→List.g,take→List.G,map→List.w,foldl→List.H
open _root_.Array renaming size→Array.q,getD→Array.g,toList→Array.v,map→Array.w,foldl→Array.H
open _root_.ByteArray renaming size→ByteArray.q,toList→ByteArray.v
open Go.RowKit.Below renaming size→Go.RowKit.Below.q,setCell→Go.RowKit.Below.x,mono→Go.RowKit.Below.y,trans→Go.RowKit.Below.A,alloc→Go.RowKit.Below.C
open Go.TypeInfo renaming size→Go.TypeInfo.q
open Go.World.grownBy renaming size→Go.World.grownBy.q
open Go.RowKit.Hid renaming out→Go.RowKit.Hid.l
open Go.World renaming heap→Go.World.o,setCell→Go.World.x,cell?→Go.World.p,alloc→Go.World.C,ownsRow→Go.World.r
open Go.Value renaming slice→Go.Value.k,string→Go.Value.d,bool→Go.Value.i,cells→Go.Value.E,ownBlock→Go.Value.m,tuple→Go.Value.B
open Go.TypeDesc renaming slice→Go.TypeDesc.k,string→Go.TypeDesc.d,bool→Go.TypeDesc.i,tuple→Go.TypeDesc.B
open Option renaming getD→Option.g,toList→Option.v,map→Option.w,isSome→Option.I,some→Z,none→Y
open Go.Calls renaming mono→Go.Calls.y
open Eq renaming trans→Eq.A,symm→Eq.z
open Iff renaming trans→Iff.A,symm→Iff.z
open Go.World.ownsRow renaming alloc→Go.World.ownsRow.C
open Go.Obj renaming cells→Go.Obj.E
open Int renaming toNat→Int.D
open UInt8 renaming toNat→UInt8.D
open Ne renaming symm→Ne.z
open Go.RowKit renaming Hid→X
open Go renaming World→U,Value→O
set_option linter.all false
set_option maxRecDepth 100000
set_option maxHeartbeats 2000000
section
open Go.RowKit
abbrev ι(x:Int):Value:=.int .i64 x
abbrev π(b:Nat):Value:=.pointer (Z ⟨b,0,Y⟩)
abbrev ν:Value:=.k Y 0 0
abbrev μ(w w':U):Prop:=Go.RowKit.Below w.o.q w w'
abbrev κ:=List ByteArray
abbrev ε:=Ending.returned
abbrev δ(b:Nat):Addr:=⟨b,0,Y⟩
abbrev ω(b o:Nat):Addr:=⟨b,o,Y⟩
abbrev Φ:=List Nat
abbrev Γ:=List O
def η{P:Prop}(h:P:=by omega):P:=h
def θ{P:Prop}(h:P:=by decide):P:=h
def ζ{P:Prop}(h:P:=by simp):P:=h
def γ{P:Prop}(h:P:=by go_grown):P:=h
def χ{P:Prop}(h:P:=by kernel_rfl):P:=h
def ξ{P:Prop}(h:P:=by go_num):P:=h
def υ{P:Prop}(h:P:=by simp;omega):P:=h
def a_{P:Prop}(h:P:=by simp[Go.Value.oneCell']):P:=h
def b_{P:Prop}(h:P:=by unfold Go.maxLen;omega):P:=h
variable {w1 w:U}
def Tg{p:Prop}(h:p):X p:=h
def JQ{W:U}(a:μ W w1):(∀b o,b<W.o.q->w1.p (ω b o)=W.p (ω b o))/\(∀b o,b<W.o.q->w1.frozen? (ω b o)=W.frozen? (ω b o)):=
 ⟨λb o h=>a.cell (p:=(ω b o)) h,λb o h=>a.frozen (p:=(ω b o)) h⟩
def zI{B:Nat}{a w:U}(h:Below B a w)(n:Nat):Below B a (w.drewN n):=below_drewN h n
abbrev zR:=@Below.refl
abbrev zN:=@zI
abbrev zA:=@Below.alloc
abbrev zD:=@Below.drew
abbrev zS:=@Below.setCell
def φ{P:Prop}(h:P:=by repeat'(first|with_reducible(first|apply zR|assumption|apply zN|apply zA|apply zD|apply zS)|go_size)):P:=h
def zQ{B:Nat}{a:U}(b:Below B w a)(d:μ a w1)(c:B<=w.o.q):Below B w w1:=
 b.A (d.y (Nat.le_trans c b.q))
def Tk{a:U}(b:μ w a)(c:μ a w1):μ w w1:=zQ b c (Nat.le_refl _)
def zP{o:Obj}:μ w (w.C o):=(Below.refl _ _).C (Nat.le_refl _) _
def zi{B b o:Nat}{w':U}{v:Option O}(h:Below B w w')(c:b<B)(a:w.p (ω b o)=v):w'.p (ω b o)=v:=(h.cell (p:=(ω b o)) c).A a
def zy{w':U}{b:Nat}{e:TypeId}{a:Nat}{v:O}{n:Nat}{xs:Γ}(h:w.r b e a v n xs)(m:μ w w'):w'.r b e a v n xs:=by
 obtain⟨l,d⟩:=h;refine⟨l,?_⟩;rcases d with d|⟨g,c,f,j,k,i,r⟩;exact Or.inl d;refine Or.inr ⟨g,c,f,j,k,?_,r⟩;rw[m.block g (Array.getElem?_eq_some_iff.1 i).1];exact i
section
variable {P:Program} {ops:Array Oper} {rest:List Oper} {o:Oper} {a:Act} {Q:Exit->Act->U->Prop}
def gu(B q:U)(l:Γ)(te:TypeId)(W:o.guard=Y)(s x:Operand)(t:TypeId)
  (ho:o.op=.call {callee:=.builtin .append,args:=#[s,x],argTypes:=#[t,t]})
  (f:Nat) (e:TypeId) (i:TypeInfo) (z:O) (d m:Nat) (ht:P.underlying t=Z (.k e)) (hi:P.info? e=Z i) (hz:i.zero=Z z)
  (F:i.q=d) (V:i.bytes=m) (M:z.E.q=d) (aa:0<d)
  (v:O) (n:Nat) (xs:Γ) (hs:a.eval s=v) (D:B.r f e d v n xs) (p:μ B q)
  (b c:Nat) (hx:a.eval x=.k (Z (δ b)) 1 c) (hb:b=q.o.q) (hl:l.j=d) (h1:∀u∈l,u.oneCell'=true)
  (hn:n<=1048576) (C:m<=1000) (R:f<=B.o.q)
  (h:∀K A,A.r f e d K (n+1) (xs++l)->Below f B A->(∀b o,B.o.q<=b->b<q.o.q->A.p (ω b o)=q.p (ω b o)) →
   (∀b o,B.o.q<=b->b<q.o.q->A.frozen? (ω b o)=q.frozen? (ω b o)) →
   (∀k,k<B.o.q->Z k≠v.m->A.o[k]?=B.o[k]?)->q.o.q<=A.o.q->wpList P ops Q rest (a.put o.dst K) A):
  wpList P ops Q (o::rest) a (q.C (.E l.toArray te)):=by
 have J:=zy D p;have I:∀k,v.m=Z k->f<=k/\k<B.o.q:=by
  intro k E;obtain⟨_,S⟩:=D;rcases S with⟨N,_⟩|⟨g,ac,ad,N,W,hh,_⟩
  .subst N;cases E
  .subst N;simp only[O.ownBlock,Option.some.injEq] at E;subst E;exact⟨W,(Array.getElem?_eq_some_iff.1 hh).1⟩
 have ab:=p.q;subst hb;refine wpList_append_own _ W s x t ho f e i z d m ht hi hz F V M aa v n xs hs (J.C _) (δ q.o.q) 1 c l hx η ?_ h1 ?_ ?_ ?_ ?_
 .intro j u hj;rw[Addr.add_lit,Nat.zero_add,U.cell?_alloc_mark];simpa using hj
 .unfold maxLen;omega
 .have:(n+1)*m<=1048577*1000:=Nat.mul_le_mul η C;omega
 .simp;omega
 .intro K A S y _;have r:∀k,k<q.o.q->Z k≠v.m->A.o[k]?=q.o[k]?:=λk E G=>by
   rw[y.block k υ G];exact Below.heap_alloc _ _ _ E
  have L:q.o.q<=A.o.q:=by have:=y.q;simp at this;omega
  refine h K A S ⟨y.os.A p.os,y.tape.A p.tape,y.output.A p.output,η,λk E=>?_⟩ (λb o T H=>?_) (λb o T H=>?_) (λk E G=>?_) L
  .rw[r k η (λe=>by have:=I k e.z;omega)];exact p.block k η
  .exact U.cell?_of_block (w:=q) (r b H (λe=>by have:=I b e.z;omega))
  .exact U.frozen?_of_block (w:=q) (r b H (λe=>by have:=I b e.z;omega))
  .rw[r k η G];exact p.block k E
def OI(w:U)(l:o.guard=Y)(x:Operand)(c b e:TypeId)(h:o.op=.convert c b x)
  (hs:P.underlying c=Z .d) (m:P.underlying b=Z (.k e)) (k:P.underlying e=Z (.int .u8)) (s:ByteArray) (p:a.eval x=.d s)
  (n:∀d f,(∀j (i:j<s.data.q),f.p (ω w.o.q j)=Z (.int .u8 (s.data[j].D:Int)))->μ w f →
   wpList P ops Q rest (a.put o.dst (.k (Z (δ w.o.q)) s.q d)) f):wpList P ops Q (o::rest) a w:=by
 refine wpList_plain l λK g=>?_;have q:=run_bytes_of_string (P:=P) w c b e s hs m k;unfold Oper.wp;simp[execOp,h,p,q,Result.andThen];refine g _ _ (n _ _ (λj i=>?_) ?_);have:=U.cell?_alloc_mark w.drew (bytesRow s (grownCap w s.q 0 e)) e ((bytesRow s (grownCap w s.q 0 e)).q,(bytesRow s (grownCap w s.q 0 e)).q+1) j;rw[bytesRow_at s _ j i] at this;exact this;exact(Below.refl _ _).drew.C (Nat.le_refl _) _
def OS(w:U)(q:o.guard=Y)(x:Operand)(d c e:TypeId)(h:o.op=.convert d c x)
  (hs:P.underlying d=Z (.k e)) (m:P.underlying e=Z (.int .u8)) (p:P.underlying c=Z .d) (s:ByteArray) (b cap:Nat) (t:a.eval x=.k (Z (δ b)) s.q cap)
  (n:∀j (f:j<s.data.q),w.p (ω b j)=Z (.int .u8 (s.data[j].D:Int)))
  (r:wpList P ops Q rest (a.put o.dst (.d s)) w):wpList P ops Q (o::rest) a w:=by
 refine wpList_plain q λK g=>?_;have k:=run_convert_bytes_back (P:=P) w d c e (δ b) cap s.data.v hs m p (λj f=>by
  have i:j<s.data.q:=by rw[Array.length_toList] at f;exact f
  rw[Addr.add_lit,Nat.zero_add,n j i,Array.getElem_toList])
 have l:s.data.v.j=s.q:=by rw[Array.length_toList];rfl
 rw[l] at k;unfold Oper.wp;simp[execOp,h,t,k,Result.andThen];exact g _ _ r
end
abbrev zg:=@Nat.le_refl
abbrev zt:=@Option.some.injEq
abbrev zq:=@List.getElem_mem
abbrev zn:=@Below.refl
abbrev yM:=@List.take_succ_eq_append_getElem
abbrev za:=@if_neg
abbrev kL:=@List.getD_eq_getElem?_getD
abbrev yn:=@List.getElem?_eq_getElem
abbrev zb:=@if_pos
abbrev zs:=@Nat.zero_le
abbrev zG:=@List.mem_cons
abbrev zF:=@List.mem_map
abbrev xn:=@List.drop_eq_getElem_cons
abbrev ym:=@Nat.lt_of_lt_of_le
abbrev yV:=@List.take_of_length_le
abbrev ze:=@Or.inr
abbrev ya:=@List.mem_append
abbrev zh:=@Or.inl
abbrev yN:=@List.length_append
abbrev zO:=@bodyPost_ret
abbrev zY:=@Nat.le_trans
abbrev ye:=@Prod.mk.injEq
abbrev ui:=@List.drop_eq_nil_of_le
abbrev uH:=@List.getElem_append_left
abbrev xp:=@World.ownsRow_nil
abbrev xQ:=@List.mem_singleton
abbrev xt:=@List.length_cons
abbrev xu:=@List.length_map
abbrev xz:=@List.mem_filter
abbrev ub:=@List.getElem_map
abbrev gL:=@List.getElem?_eq_none
abbrev qn:=@Option.map_eq_some_iff
abbrev vd:=@List.getElem_of_mem
abbrev kp:=@Array.getElem?_eq_some_iff
abbrev j5:=@List.getElem?_eq_some_iff
abbrev vL:=@List.mem_iff_getElem
abbrev uD:=@Option.getD_some
abbrev uU:=@List.flatMap_cons
abbrev uK:=@Bool.and_eq_true
abbrev zB:=@absurd
abbrev uW:=@List.take_length
abbrev uG:=@List.foldl_cons
abbrev ve:=@List.mem_flatMap
abbrev vc:=@List.length_take
abbrev un:=@List.map_cons
abbrev kj:=@List.take_append_drop
abbrev ff:=@List.getElem?_append_right
abbrev j8:=@Option.isSome_some
abbrev qZ:=@List.foldl_append
abbrev qb:=@List.append_nil
abbrev lP:=@List.eq_nil_of_length_eq_zero
abbrev gH:=@List.mem_of_mem_take
abbrev qF:=@List.map_append
abbrev dZ:=@List.getElem_cons_zero
abbrev jy:=@List.ext_getElem
abbrev lB:=@List.getElem_append_right
abbrev kO:=@List.append_assoc
abbrev vx:=@Nat.zero_add
abbrev qG:=@List.mem_range
abbrev jp:=@List.nodup_cons
abbrev qW:=@List.length_nil
abbrev kN:=@Option.isSome_none
abbrev vr:=@Nat.add_zero
abbrev kV:=@List.map_congr_left
abbrev hY:=@List.getElem?_cons_zero
abbrev lK:=@List.mem_or_eq_of_mem_set
abbrev qD:=@List.sum_cons
abbrev mh:=@Option.isSome_iff_exists
abbrev kG:=@Option.getD_none
abbrev jZ:=@Option.map_some
abbrev fB:=@Nat.mul_le_mul_right
abbrev fD:=@List.mem_of_getElem?
abbrev fg:=@List.mem_of_mem_drop
abbrev l0:=@List.set_append_right
abbrev rV:=@List.getElem?_append_left
abbrev gR:=@Bool.false_eq_true
abbrev nc:=@List.getElem?_take
abbrev mN:=@List.length_erase_of_mem
abbrev gd:=@List.all_eq_true
abbrev mE:=@List.getElem?_cons_succ
abbrev ny:=@List.zipWith_cons_cons
abbrev me:=@List.mem_erase_of_ne
abbrev fc:=@List.any_eq_true
abbrev gV:=@Nat.min_eq_left
abbrev fR:=@List.getElem_range
abbrev jC:=@Nat.sub_self
abbrev mQ:=@List.getElem?_toArray
abbrev pL:=@List.getElem_concat_length
abbrev pG:=@List.nodup_iff_pairwise_ne
abbrev nE:=@Array.length_toList
abbrev pe:=@List.length_eq_zero_iff
abbrev rx:=@List.pairwise_iff_getElem
abbrev m7:=@List.pairwise_append
abbrev nI:=@List.length_pos_of_mem
abbrev lH:=@List.pairwise_cons
abbrev su:=@List.mem_zipIdx_iff_getElem?
abbrev fo:=@List.length_set
abbrev mF:=@List.drop_succ_cons
abbrev lr:=@List.cons_append
abbrev mL:=@List.getElem?_map
abbrev tP:=@Array.getElem?_setIfInBounds_ne
abbrev nX:=@List.mem_cons_of_mem
abbrev mP:=@List.mem_filterMap
abbrev pC:=@List.getElem_cons_succ
abbrev lz:=@Bool.or_eq_true
abbrev fx:=@List.drop_zero
abbrev lV:=@List.getElem_set
abbrev nC:=@Nat.mul_le_mul_left
abbrev mT:=@List.pairwise_map
abbrev pU:=@List.getElem_set_self
abbrev tL:=@List.countP_eq_length_filter
abbrev pN:=@Bool.or_eq_false_iff
abbrev dV:=@Nat.lt_or_ge
abbrev lx:=@List.map_set
abbrev nM:=@List.flatten_cons
abbrev pw:=@List.takeWhile_cons
abbrev pW:=@List.getElem_set_ne
abbrev nL:=@List.ext_getElem?
abbrev pR:=@List.take_succ_cons
abbrev rL:=@List.length_filter_le
abbrev m4:=@List.cons.injEq
abbrev rt:=@List.set_cons_succ
abbrev pF:=@List.set_cons_zero
abbrev wa:=@List.filter_append
abbrev tz:=@List.length_filterMap_le
abbrev nB:=@List.not_mem_nil
abbrev mR:=@List.tail_cons
abbrev pE:=@List.length_range
abbrev rm:=@Nat.lt_trichotomy
abbrev sq:=@List.replicate_succ
abbrev tu:=@List.countP_le_length
abbrev oj:=@List.range_succ
abbrev rj:=@List.nil_append
abbrev sj:=@List.nodup_append
abbrev nY:=@Bool.true_and
abbrev nT:=@Bool.not_true
abbrev Bi:=@List.zipWith_append
abbrev i4:=@Nat.add_sub_cancel_left
abbrev th:=@List.filterMap_cons
abbrev lG:=@Nat.add_mul
abbrev rz:=@Bool.not_eq_true
abbrev rQ:=@List.append_inj'
abbrev ib:=@List.drop_of_length_le
abbrev eX:=@List.getElem_replicate
abbrev eZ:=@List.filter_eq_nil_iff
abbrev sL:=@List.mem_cons_self
abbrev Aw:=@List.dropLast_concat_getLast
abbrev ez:=@List.eq_nil_or_concat
abbrev iU:=@List.concat_eq_append
abbrev eM:=@Bool.and_eq_false_iff
abbrev Td:=@Array.getElem?_modify
abbrev ic:=@List.set_getElem_self
abbrev eR:=@List.filterMap_append
abbrev nA:=@List.map_map
abbrev tI:=@List.getElem?_set
abbrev p8:=@Bool.false_or
abbrev sG:=@Bool.not_eq_false
abbrev tB:=@List.map_take
abbrev tp:=@Bool.not_eq_true'
end
section
variable {s b:ByteArray}{i n:Nat}{p:Int->Bool}
def xe(c:Int):Bool:=decide (97<=c)&&decide (c<=122)
def qr(c:Int):Bool:=decide (65<=c)&&decide (c<=90)
def yY(c:Int):Bool:=decide (48<=c)&&decide (c<=57)
def qJ(c:Int):Bool:=c == 32||c == 10
def TK(c:Int):Bool:=xe c||qr c||yY c
def fy(c:Int):Int:=if c=40 then 4 else if c=41 then 5 else if c=44 then 6 else if c=46 then 7 else if c=33 then 8 else 0
def xw(a b:Int):Int:=if xe a then 1 else if qr a then 2 else if yY a then 3 else if a=58/\b=45 then 9 else fy a
def Tr(s:ByteArray)(i:Nat):Int:=if h:i<s.q then(s[i].D:Int) else 0
def qL(h:i<s.q):Tr s i=(s[i].D:Int):=by simp[Tr,h]
def pH(h:¬i<s.q):Tr s i=0:=by simp[Tr,h]
def mq(s:ByteArray)(i:Nat):0<=Tr s i/\Tr s i<256:=by
 unfold Tr;split;rename_i h;have:=s[i].toNat_lt;omega;omega
def yK(p:Int->Bool)(s:ByteArray)(i:Nat):Nat:=if h:i<s.q then(if p (Tr s i) then yK p s (i+1) else i) else i
 termination_by s.q-i
def fH(h:¬i<s.q):yK p s i=i:=by rw[yK];simp[h]
def pn(h:p (Tr s i)=false):yK p s i=i:=by rw[yK];simp[h]
def np(h:i<s.q)(a:p (Tr s i)=true):yK p s i=yK p s (i+1):=by
 conv=>lhs;rw[yK]
 simp[h,a]
def Ev(p:Int->Bool)(s:ByteArray):∀(n i:Nat),s.q-i<=n->i<=yK p s i/\(i<=s.q->yK p s i<=s.q):=by
 intro n;induction n with
 |zero=>intro i h;rw[fH η];omega
 |succ n d=>
  intro i h;by_cases c:i<s.q;cases a:p (Tr s i);rw[pn a];omega;rw[np c a];have:=d (i+1) η;omega;rw[fH c];omega
def Nd(p:Int->Bool)(s:ByteArray)(i:Nat):i<=yK p s i:=(Ev p s _ i (Nat.le_refl _)).1
def Lg(p:Int->Bool)(s:ByteArray)(i:Nat)(h:i<=s.q):yK p s i<=s.q:=(Ev p s _ i (Nat.le_refl _)).2 h
def yv(s:ByteArray)(i:Nat)(k:Int):Nat:=if k=0 then i else if k=9 then i+2 else if k=1∨k=2 then yK TK s i else if k=3 then yK yY s i else i+1
def sF(s:ByteArray)(i:Nat)(k:Int)(g:i<s.q)(a:xw (Tr s i) (Tr s (i+1))=k)(d:k≠0):i<yv s i k/\yv s i k<=s.q:=by
 have c:∀p:Int->Bool,p (Tr s i)=true->i<yK p s i/\yK p s i<=s.q:=λp e=>by
  rw[np g e];have:=Nd p s (i+1);have:=Lg p s (i+1) η;omega
 unfold xw at a;unfold yv;split at a;rename_i h;subst a;simp;exact c TK (by simp[TK,h]);split at a;rename_i h;subst a;simp;exact c TK (by simp[TK,h]);split at a;rename_i h;subst a;simp;exact c yY h;split at a;rename_i h;subst a;simp;have:i+1<s.q:=by
  false_or_by_contra;rename_i f;rw[pH f] at h;omega
 omega;have j:k≠9/\k≠1/\k≠2/\k≠3:=by subst a;unfold fy;(repeat' split)<;>simp
 simp[d,j];omega
def Tx:Nat->ByteArray->Nat->Option (List (Int×ByteArray))
 |0,_,_=>Z []
 |n+1,s,i=>
  if i<s.q then
   if qJ (Tr s i) then Tx n s (i+1)
   else if xw (Tr s i) (Tr s (i+1))=0 then Y
   else if 6<yv s i (xw (Tr s i) (Tr s (i+1)))-i then Y
   else(Tx n s (yv s i (xw (Tr s i) (Tr s (i+1))))).w ((xw (Tr s i) (Tr s (i+1)),s.extract i (yv s i (xw (Tr s i) (Tr s (i+1)))))::·)
  else Z []
def Tt(s:ByteArray):Option (List (Int×ByteArray)):=Tx s.q s 0
def sA(h:¬i<s.q):Tx n s i=Z []:=by cases n<;>simp[Tx,h]
def ii(h:i<s.q)(a:qJ (Tr s i)=true):Tx (n+1) s i=Tx n s (i+1):=by simp[Tx,h,a]
def ir(h:i<s.q)(a:qJ (Tr s i)=false)(c:xw (Tr s i) (Tr s (i+1))=0):Tx (n+1) s i=none:=by simp[Tx,h,a,c]
def iV{k:Int}(h:i<s.q)(c:qJ (Tr s i)=false)(d:xw (Tr s i) (Tr s (i+1))=k)(a:6<yv s i k-i):Tx (n+1) s i=none:=by
 subst d;simp[Tx,h,c,a]
def i5{k:Int}(h:i<s.q)(d:qJ (Tr s i)=false)(e:xw (Tr s i) (Tr s (i+1))=k)(a:k≠0)(c:¬6<yv s i k-i):
  Tx (n+1) s i=(Tx n s (yv s i k)).w ((k,s.extract i (yv s i k))::·):=by
 subst e;simp[Tx,h,d,c,a]
def sW{α:Type}(o:Option (List α))(a:List α)(x:α):(o.w (x::·)).w (a++·)=o.w ((a++[x])++·):=by cases o<;>simp
def NC(s:ByteArray):∀(n i:Nat) (r:List UInt8),s.q-i<=n->ByteArray.toList.loop s i r=r.reverse++s.data.v.drop i:=by
 intro n;induction n with
 |zero=>
  intro i r h;rw[ByteArray.toList.loop,if_neg η,List.drop_eq_nil_of_le (by rw[Array.length_toList];show s.q<=i;omega),List.append_nil]
 |succ n c=>
  intro i r h;rw[ByteArray.toList.loop];split;rename_i a;rw[c (i+1) _ η];have d:i<s.data.v.j:=by rw[Array.length_toList];exact a
  rw[List.drop_eq_getElem_cons d];simp[ByteArray.get!,a];rw[List.drop_eq_nil_of_le (by rw[Array.length_toList];show s.q<=i;omega),List.append_nil]
def kd(s:ByteArray):s.v=s.data.v:=by
 rw[ByteArray.toList,NC s _ 0 [] (Nat.le_refl _)];simp
def Uo{a:ByteArray}(h:a.v=b.v):a=b:=by
 rw[kd,kd] at h;exact Go.WideShapes.bytes_inj h
def Ch(a b:ByteArray):(a.v == b.v)=decide (a=b):=by
 by_cases h:a=b;subst h;simp;rw[decide_eq_false h,beq_eq_false_iff_ne];exact λk=>h (Uo k)
def jt{a:ByteArray}(h:a=b):(a.v == b.v)=true:=by rw[Ch];simpa using h
def vV{a:ByteArray}(h:a≠b):(a.v == b.v)=false:=by rw[Ch];simpa using h
def zT(t:ByteArray):Bool:=qr (Tr t 0)
def yh(t:ByteArray):κ->Bool
 |[]=>false
 |x::r=>decide (x=t)||yh t r
def vO{t:ByteArray}:∀{vs:κ},yh t vs=true↔t∈vs
 |[]=>by simp[yh]
 |x::r=>by simp only[yh,Bool.or_eq_true,decide_eq_true_eq,List.mem_cons,vO (vs:=r)];constructor<;>(rintro(h|h)<;>simp[h])
def tN{t:ByteArray}{vs:κ}:yh t vs=false↔t∉vs:=by rw[←vO];simp
def jX(vs:κ)(t:ByteArray):κ:=if zT t&&!yh t vs then vs++[t] else vs
def xG(vs args:κ):κ:=args.H jX vs
def Sw(vs:κ)(t:ByteArray):(jX vs t).j<=vs.j+1:=by unfold jX;split<;>simp
def pq(args:κ):∀vs:κ,(xG vs args).j<=vs.j+args.j:=by
 induction args with
 |nil=>intro vs;simp[xG]
 |cons a r c=>intro vs;have:=c (jX vs a);have:=Sw vs a;simp only[xG,List.foldl_cons,List.length_cons] at *;omega
end
section
open Go.Proofs.Tryz Go.RowKit
def wE(c:Int)(w:U):
  Calls prog 98 #[.int .u8 c] w λe a=>e=ε (.i (qJ c))/\a=w:=by
 go_enter func98,ntmps98;go_wp2
 all_goals go_ret
 all_goals exact⟨by simp[qJ, *],rfl⟩
def Ds(c:Int)(w:U):
  Calls prog 173 #[.int .u8 c] w λe a=>e=ε (.i (xe c))/\a=w:=by
 go_enter func173,ntmps173;go_wp2
 all_goals go_ret
 all_goals exact⟨by simp[xe, *]<;>omega,rfl⟩
def In(c:Int)(w:U):
  Calls prog 174 #[.int .u8 c] w λe a=>e=ε (.i (qr c))/\a=w:=by
 go_enter func174,ntmps174;go_wp2
 all_goals go_ret
 all_goals exact⟨by simp[qr, *]<;>omega,rfl⟩
def sN(c:Int)(w:U):
  Calls prog 175 #[.int .u8 c] w λe a=>e=ε (.i (yY c))/\a=w:=by
 go_enter func175,ntmps175;go_wp2
 all_goals go_ret
 all_goals exact⟨by simp[yY, *]<;>omega,rfl⟩
def oO(c:Int)(w:U):
  Calls prog 198 #[.int .u8 c] w λe a=>e=ε (.i (TK c))/\a=w:=by
 go_enter func198,ntmps198;go_wp2_with (first|(go_at_call 173;refine(Ds _ _).y ?_;rintro e a ⟨rfl,rfl⟩)|(go_at_call 174;refine(In _ _).y ?_;rintro e a ⟨rfl,rfl⟩)|(go_at_call 175;refine(sN _ _).y ?_;rintro e a ⟨rfl,rfl⟩))
 all_goals go_ret
 all_goals exact⟨by simp[TK, *],rfl⟩
def H8(s:ByteArray)(i:Int)(w:U)(b:0<=i)(_:s.q<=500):
  Calls prog 139 #[.d s,ι i] w λe a=>e=ε (.int .u8 (Tr s i.D))/\a=w:=by
 obtain⟨i,rfl⟩:=Int.eq_ofNat_of_zero_le b;rw[Int.toNat_natCast];by_cases h:i<s.q
 .rw[qL h];go_enter func139,ntmps139;go_wp2
  all_goals go_ret
  all_goals exact⟨rfl,rfl⟩
 rw[pH h];go_enter func139,ntmps139;go_wp2
 all_goals go_ret
 all_goals exact⟨rfl,rfl⟩
def Ry(c:Int)(w:U):
  Calls prog 176 #[.int .u8 c] w λe a=>e=ε (ι (fy c))/\a=w:=by
 go_enter func176,ntmps176;go_wp2
 all_goals go_ret
 all_goals go_light
 all_goals exact⟨by simp_all [fy],rfl⟩
def GP(a b:Int)(w:U):
  Calls prog 140 #[.int .u8 a,.int .u8 b] w λe c=>e=ε (ι (xw a b))/\c=w:=by
 go_enter func140,ntmps140;go_wp2_with (first|(go_at_call 173;refine(Ds _ _).y ?_;rintro e c ⟨rfl,rfl⟩)|(go_at_call 174;refine(In _ _).y ?_;rintro e c ⟨rfl,rfl⟩)|(go_at_call 175;refine(sN _ _).y ?_;rintro e c ⟨rfl,rfl⟩)|(go_at_call 176;refine(Ry _ _).y ?_;rintro e c ⟨rfl,rfl⟩))
 all_goals go_ret
 all_goals go_light
 all_goals exact⟨by first|(simp_all [xw];done)|(simp_all [xw,xe,qr,yY];done),rfl⟩
def Q2(s:ByteArray)(i:Nat)(w:U)(hs:s.q<=500)(g:i<=s.q):
  Calls prog 177 #[.d s,ι i] w λe d=>e=ε (ι (yK TK s i))/\d=w:=by
 go_enter func177,ntmps177;go_wp2;go_loop [5] (λt=>∃k:Nat,k<=s.q/\t=ι k/\X (yK TK s i=yK TK s k)) (λt=>s.q-(intOf t).D);exact⟨i,g,rfl,rfl⟩;obtain⟨k,h,rfl,H⟩:=hrel;by_cases a:k<s.q
 .have f:=qL a;cases c:TK (Tr s k)
  .have b:X (yK TK s i=k):=by rw[X.out H,pn c];rfl
   rw[f] at c;go_wp2_with (go_at_call 198;refine(oO _ _).y ?_;rintro e d ⟨rfl,rfl⟩)
   go_ret;exact⟨by rw[X.out b];rfl,rfl⟩
  have b:X (yK TK s i=yK TK s (k+1)):=by rw[X.out H,np a c];rfl
  rw[f] at c;go_wp2_with (go_at_call 198;refine(oO _ _).y ?_;rintro e d ⟨rfl,rfl⟩)
  go_round;exact⟨k+1,η,ξ,b⟩;simp[intOf];omega
 have b:X (yK TK s i=k):=by rw[X.out H,fH a];rfl
 go_wp2_with (go_at_call 198;refine(oO _ _).y ?_;rintro e d ⟨rfl,rfl⟩)
 go_ret;exact⟨by rw[X.out b];rfl,rfl⟩
def RF(s:ByteArray)(i:Nat)(w:U)(hs:s.q<=500)(g:i<=s.q):
  Calls prog 178 #[.d s,ι i] w λe d=>e=ε (ι (yK yY s i))/\d=w:=by
 go_enter func178,ntmps178;go_wp2;go_loop [5] (λt=>∃k:Nat,k<=s.q/\t=ι k/\X (yK yY s i=yK yY s k)) (λt=>s.q-(intOf t).D);exact⟨i,g,rfl,rfl⟩;obtain⟨k,h,rfl,H⟩:=hrel;by_cases a:k<s.q
 .have f:=qL a;cases c:yY (Tr s k)
  .have b:X (yK yY s i=k):=by rw[X.out H,pn c];rfl
   rw[f] at c;go_wp2_with (go_at_call 175;refine(sN _ _).y ?_;rintro e d ⟨rfl,rfl⟩)
   go_ret;exact⟨by rw[X.out b];rfl,rfl⟩
  have b:X (yK yY s i=yK yY s (k+1)):=by rw[X.out H,np a c];rfl
  rw[f] at c;go_wp2_with (go_at_call 175;refine(sN _ _).y ?_;rintro e d ⟨rfl,rfl⟩)
  go_round;exact⟨k+1,η,ξ,b⟩;simp[intOf];omega
 have b:X (yK yY s i=k):=by rw[X.out H,fH a];rfl
 go_wp2_with (go_at_call 175;refine(sN _ _).y ?_;rintro e d ⟨rfl,rfl⟩)
 go_ret;exact⟨by rw[X.out b];rfl,rfl⟩
def GX(s:ByteArray)(i:Nat)(k:Int)(w:U)(hs:s.q<=500)(b:i<=s.q):
  Calls prog 141 #[.d s,ι i,ι k] w λe a=>e=ε (ι (yv s i k))/\a=w:=by
 go_enter func141,ntmps141;go_wp2_with (first|(go_at_call 177;refine(Q2 _ _ _ hs b).y ?_;rintro e a ⟨rfl,rfl⟩)|(go_at_call 178;refine(RF _ _ _ hs b).y ?_;rintro e a ⟨rfl,rfl⟩))
 all_goals go_ret
 all_goals go_light
 all_goals exact⟨by simp_all [yv],rfl⟩
def ML(s:ByteArray)(i:Nat)(w:U)(hs:s.q<=500)(d:i<s.q)(f:xw (Tr s i) (Tr s (i+1))=0):
  Calls prog 99 #[.d s,ι i] w λe a=>e=ε (.agg #[ι 0,.d ByteArray.empty])/\μ w a:=by
 have b:yv s i 0=i:=rfl;have c:((i:Int)+1).D=i+1:=η;go_enter func99,ntmps99;go_wp2_with (first|(go_at_call 139;refine(H8 s _ _ η hs).y ?_;rintro e a ⟨rfl,rfl⟩)|(go_at_call 140;refine(GP _ _ _).y ?_;rintro e a ⟨rfl,rfl⟩)|(go_at_call 141;refine(GX s i _ _ hs η).y ?_;rintro e a ⟨rfl,rfl⟩))
 go_returns
 exact⟨rfl,γ⟩
def QF(s:ByteArray)(i:Nat)(k:Int)(w:U)(hs:s.q<=500)(p:i<s.q)(q:xw (Tr s i) (Tr s (i+1))=k)
  (g:i<yv s i k) (h:yv s i k<=s.q):
  Calls prog 99 #[.d s,ι i] w λe b=>e=ε (.agg #[ι k,.d (s.extract i (yv s i k))])/\μ w b:=by
 have o:((i:Int)+1).D=i+1:=η;go_enter func99,ntmps99;go_wp2_with (first|(go_at_call 139;refine(H8 s _ _ η hs).y ?_;rintro e b ⟨rfl,rfl⟩)|(go_at_call 140;refine(GP _ _ _).y ?_;rintro e b ⟨rfl,rfl⟩)|(go_at_call 141;refine(GX s i _ _ hs η).y ?_;rintro e b ⟨rfl,rfl⟩)|(refine OI _ rfl (.tmp 41) 9 238 5 rfl underlying9 underlying238 underlying5 _ rfl ?_;intro j l d a;obtain⟨c,m⟩:=JQ a;have f:=a.q;simp only[U.size_alloc] at f)|(refine OS _ rfl (.tmp 42) 238 9 5 rfl underlying238 underlying5 underlying9 _ _ _ rfl ?_ ?_;(first|exact d|fail)))
 have n:μ w l:=Tk zP a;exact zO (v:=.agg #[ι k,.d (s.extract i (yv s i k))]) (by simp[results,results99,go_sem,c]) rfl ⟨rfl,γ⟩
def kt(l:List (Int×ByteArray)):List Value:=l.flatMap λx=>[ι x.1,.d x.2]
def QP(l:List (Int×ByteArray))(k:Int)(t:ByteArray):kt (l++[(k,t)])=kt l++[ι k,.d t]:=by simp[kt]
def Sy:(prog.info? 182).map (λi=>(i.zero,i.q,i.bytes))=Z (Z (.agg #[ι 0,.d ByteArray.empty]),2,24):=χ
def td(s:ByteArray)(w:U)(e:Ending)(w':U):Prop:=
 μ w w'/\match Tt s with
  |none=>e=ε (.B #[ν,.i false])
  |some l=>∃v,e=ε (.B #[v,.i true])/\w'.r w.o.q 182 2 v l.j (kt l)/\l.j<=s.q
def G1{s:ByteArray}{w w':U}(h:X (Tt s=Y))(a:μ w w'):td s w (ε (.B #[ν,.i false])) w':=by
 have b:Tt s=none:=h;unfold td;rw[b];exact⟨a,rfl⟩
def PV{s:ByteArray}{w w':U}{v:O}{l:List (Int×ByteArray)}(h:X (Tt s=Z l))(b:μ w w')(c:w'.r w.o.q 182 2 v l.j (kt l))(a:l.j<=s.q):
  td s w (ε (.B #[v,.i true])) w':=by
 have d:Tt s=Z l:=h;unfold td;rw[d];exact⟨b,v,rfl,c,a⟩
def Gv(s:ByteArray)(w:U)(hs:s.q<=500):
  Calls prog 59 #[.d s] w λe z=>td s w e z:=by
 obtain⟨V,T,I,B,L⟩:=info_parts Sy;go_enter func59,ntmps59;go_wp2;go_loopw [4,5] (λv t wr=>∃(k:Nat) (a:List (Int×ByteArray)) (m:Nat),k<=s.q/\t=ι k/\s.q-k<=m/\X (Tt s=(Tx m s k).map (a++·))/\a.j<=k ∧
   wr.r w.o.q 182 2 v a.j (kt a)/\μ w wr) (λ_ t _=>s.q-(intOf t).D)
 exact⟨0,[],s.q,zs _,rfl,η,(by simp[Tt,X]),zg _,xp _ _ _ _,zn _ _⟩;obtain⟨k,a,m,W,rfl,hm,H,S,i,c⟩:=hrel;by_cases b:k<s.q
 .have p:=qL b;obtain⟨m,rfl⟩:∃R,m=R+1:=⟨m-1,η⟩;cases o:qJ (Tr s k)
  .by_cases h:xw (Tr s k) (Tr s (k+1))=0
   .have j:X (Tt s=Y):=by rw[X.out H,ir b o h];simp[X]
    have q:=ML s k wr hs b h;rw[p] at o;clear p H h;go_wp2_with (first|(go_at_call 98;refine(wE _ _).y ?_;rintro e z ⟨rfl,rfl⟩)|(go_at_call 99;refine q.y ?_;rintro e D ⟨rfl,g⟩;clear q;have r:=Tk c g;have x:=r.q))
    go_ret2
    exact G1 j γ
   obtain⟨f,d⟩:∃f,xw (Tr s k) (Tr s (k+1))=f:=⟨_,rfl⟩;have l:f≠0:=by rw[←d];exact h
   obtain⟨C,A⟩:=sF s k f b d l;have q:=QF s k f wr hs b d C A;by_cases P:6<yv s k f-k
   .have j:X (Tt s=Y):=by rw[X.out H,iV b o d P];simp[X]
    rw[p] at o;clear p H h d;generalize yv s k f=n at *;have M:(s.extract k n).q=n-k:=by rw[ByteArray.size_extract];omega
    generalize s.extract k n=N at *;have y:(f == 0)=false:=by simpa using l
    go_wp2_with (first|(go_at_call 98;refine(wE _ _).y ?_;rintro e z ⟨rfl,rfl⟩)|(go_at_call 99;refine q.y ?_;rintro e D ⟨rfl,g⟩;clear q;have r:=Tk c g;have x:=r.q))
    go_ret2
    exact G1 j γ
   have j:X (Tt s=(Tx m s (yv s k f)).map ((a++[(f,s.extract k (yv s k f))])++·)):=by rw[X.out H,i5 b o d l P,sW];rfl
   rw[p] at o;clear p H h d;generalize yv s k f=n at *;have M:(s.extract k n).q=n-k:=by rw[ByteArray.size_extract];omega
   generalize s.extract k n=N at *;have y:(f == 0)=false:=by simpa using l
   go_wp2_with (first|(go_at_call 98;refine(wE _ _).y ?_;rintro e z ⟨rfl,rfl⟩)|(go_at_call 99;refine q.y ?_;rintro e D ⟨rfl,g⟩;clear q;have r:=Tk c g;have x:=r.q;have J:=zy i g)|(at_builtin;refine gu D _ _ _ rfl (.tmp 29) (.tmp 31) 118 rfl w.o.q 182 V _ 2 24 underlying118 T I B L rfl θ _ _ _ rfl J zP _ _ rfl ζ rfl a_ η η η ?_;intro v' w2 F G E K Q u;simp only[U.size_alloc] at E K u))
   go_roundw;exact⟨n,a++[(f,N)],m,η,ξ,η,j,by simp;omega,by rw[yN,QP];exact F,r.A G⟩;simp[intOf];omega
  have j:X (Tt s=(Tx m s (k+1)).map (a++·)):=by rw[←ii b o];exact H
  rw[p] at o;clear p H;go_wp2_with (go_at_call 98;refine(wE _ _).y ?_;rintro e z ⟨rfl,rfl⟩)
  go_roundw;exact⟨k+1,a,m,η,ξ,η,j,η,i,c⟩;simp[intOf];omega
 have j:X (Tt s=Z a):=by rw[X.out H,sA b];simp[X]
 clear H;go_wp2;go_ret2
 exact PV j c i η
end
section
open Go.RowKit
variable {lo:Nat}{t:ByteArray}{r base n b:Nat}{w w':U}{v wv:O}{xs:List O}{c:Array O}{l:κ}
abbrev To:=Int×ByteArray
abbrev Δ:=List To
structure zj where
 i:Bool
 o:ByteArray
 k:κ
abbrev Ω:=List zj
structure zc where
 g:zj
 d:List zj
abbrev Ξ:=List zc
def Un(k:Int):Bool:=k == 1||k == 3||k == 2
def T6:List To->Int
 |[]=>0
 |x::_=>x.1
def yx:List To->Option (κ×List To)
 |[]=>Y
 |[x]=>if Un x.1 then Z ([x.2],[]) else Y
 |x::y::r=>if Un x.1 then(if y.1=6 then(yx r).map λz=>(x.2::z.1,z.2) else Z ([x.2],y::r)) else Y
def Jj{k:Int}{r:Δ}(h:Un k=false):yx ((k,t)::r)=none:=by cases r<;>simp[yx,h]
def Fu{k:Int}{r:Δ}(h:Un k=true)(a:T6 r≠6):yx ((k,t)::r)=Z ([t],r):=by
 rcases r with _|⟨y,r⟩;simp[yx,h];simp only[T6] at a;simp[yx,h,a]
def O5{k:Int}{r:Δ}(h:Un k=true)(a:T6 r=6):yx ((k,t)::r)=(yx r.tail).map λz=>(t::z.1,z.2):=by
 rcases r with _|⟨y,r⟩;simp[T6] at a;simp only[T6] at a;simp[yx,h,a]
def xv(r:List To):Option (zj×List To):=
 if T6 r=1 then
  if T6 r.tail=4 then
   match yx r.tail.tail with
   |none=>Y
   |some (d,a)=>if T6 a=5 then Z (⟨false,(r.headD (0,ByteArray.empty)).2,d⟩,a.tail) else Y
  else Z (⟨false,(r.headD (0,ByteArray.empty)).2,[]⟩,r.tail)
 else Y
def uY(r:List To):Option (zj×List To):=
 if T6 r=8 then(xv r.tail).map λz=>({z.1 with i:=true},z.2) else xv r
structure Tu (r:Nat) (w w':U):Prop where
 os:w'.os=w.os
 tape:w'.tape=w.tape
 output:w'.output=w.output
 q:w.o.q<=w'.o.q
 block:∀k,k<w.o.q->k≠r->w'.o[k]?=w.o[k]?
def Tu.refl(r:Nat)(w:U):Tu r w w:=⟨rfl,rfl,rfl,zg _,λ_ _ _=>rfl⟩
def Tu.A{r:Nat}{a b c:U}(h:Tu r a b)(k:Tu r b c):Tu r a c:=
 ⟨k.os.A h.os,k.tape.A h.tape,k.output.A h.output,zY h.q k.q,λi e d=>(k.block i (ym e h.q) d).A (h.block i e d)⟩
def Tu.of(h:μ w w'):Tu r w w':=⟨h.os,h.tape,h.output,h.q,λk a _=>h.block k a⟩
def Tu.u{B:Nat}(h:Tu r w w')(d:B<=r)(a:B<=w.o.q):Below B w w':=⟨h.os,h.tape,h.output,h.q,λk e=>h.block k η η⟩
def Tu.x{r:Nat}{a w:U}(h:Tu r a w)(o:Nat)(u:O):Tu r a (w.x (ω r o) u):=
 h.A ⟨rfl,rfl,rfl,by simp[U.setCell],λ_ _ d=>Below.heap_setCell _ _ _ _ d⟩
def Tu.drew{r:Nat}{a w:U}(h:Tu r a w):Tu r a w.drew:=⟨h.os,h.tape,h.output,h.q,h.block⟩
def Tu.drewN{r:Nat}{a w:U}(h:Tu r a w)(n:Nat):Tu r a (w.drewN n):=h.A (Tu.of (zI (zn _ _) n))
def Tu.C{r:Nat}{a w:U}(h:Tu r a w)(o:Obj):Tu r a (w.C o):=h.A (Tu.of ((zn _ _).C (zg _) o))
def Tu.setNew{r:Nat}{a w:U}(h:Tu r a w){p:Addr}(f:a.o.q<=p.block)(u:O):Tu r a (w.x p u):=
 ⟨h.os,h.tape,h.output,by simp[U.setCell];exact h.q,λk e d=>(Below.heap_setCell _ _ _ _ η).A (h.block k e d)⟩
abbrev xR:=@Tu.refl
abbrev xN:=@Tu.drewN
abbrev xA:=@Tu.C
abbrev xD:=@Tu.drew
abbrev xS:=@Tu.x
abbrev xT:=@Tu.setNew
def ψ{P:Prop}(h:P:=by repeat'(first|with_reducible(first|apply xR|assumption|apply xN|apply xA|apply xD|apply xS|apply xT)|go_size)):P:=h
def xL{e:TypeId}{a:Nat}(h:w.r base e a v n xs)(u:Tu r w w')
  {c:Array O} {T:TypeId} {f:Nat×Nat} (o:w.o[r]?=Z (.E c T f)) (p:T≠e):w'.r base e a v n xs:=by
 obtain⟨x,k⟩:=h;refine⟨x,?_⟩;rcases k with k|⟨g,i,m,s,q,j,y⟩;exact zh k;refine ze ⟨g,i,m,s,q,?_,y⟩;rw[u.block g (kp.1 j).1 (λd=>by subst d;rw[j] at o;simp at o;exact p o.2.1.z)];exact j
def zr{e:TypeId}{d:Nat}(h:w.r base e d v n xs):∃j a,v=.k j n a:=by
 obtain⟨_,⟨f,i⟩|⟨g,a,k,f,_⟩⟩:=h;exact⟨Y,0,by rw[f,i]⟩;exact⟨_,a,f⟩
def yr{e:TypeId}{d:Nat}(h:w.r base e d v n xs)(A:0<n):
  ∃g a,v=.k (Z (δ g)) n a/\base<=g/\g<w.o.q/\∀j u,xs[j]?=Z u->w.p (ω g j)=Z u:=by
 obtain⟨y,⟨i,z⟩|⟨g,a,x,i,m,k,q,p,o,s⟩⟩:=h;omega;refine⟨g,a,i,m,(kp.1 k).1,λj u f=>?_⟩;unfold U.cell?;rw[k];simp;rw[←s,nc] at f;split at f;simpa using f;simp at f
def Th(w:U)(b:Nat)(c:Array O)(T:TypeId):Prop:=w.o[b]?=Z (.E c T (0,0))
def Th.lt{T:TypeId}(h:Th w b c T):b<w.o.q:=(kp.1 h).1
def Th.new(w:U)(c:Array O)(T:TypeId):Th (w.C (.E c T)) w.o.q c T:=by unfold Th;show(w.o.push _)[w.o.q]?=_;simp
def Th.u{T:TypeId}(h:Th w b c T)(a:μ w w'):Th w' b c T:=by have:=h.lt;unfold Th at *;rw[a.block b this];exact h
def Th.but{T:TypeId}(h:Th w b c T)(d:Tu r w w')(a:b≠r):Th w' b c T:=by have:=h.lt;unfold Th at *;rw[d.block b this a];exact h
def Th.H{T:TypeId}(h:Th w b c T):(∀o,w.p (ω b o)=c[o]?)/\(∀o,w.frozen? (ω b o)=false):=by
 unfold Th at h;exact⟨λo=>by unfold U.cell?;rw[h];simp,λo=>by unfold U.frozen?;rw[h];simp⟩
def Th.e{T:TypeId}(h:Th w b c T):(∀o,w.p (ω b o)=c[o]?)/\(∀o,w.frozen? (ω b o)=false)/\b<w.o.q:=⟨h.H.1,h.H.2,h.lt⟩
def Tn(lo:Nat)(w:U)(v:O)(l:κ):Prop:=w.r lo 9 1 v l.j (l.map O.string)
def yo{a:Nat}{e:TypeId}{d:Nat}(h:w.r b e d v n xs)(m:a<=b):w.r a e d v n xs:=by
 obtain⟨o,i⟩:=h;refine⟨o,?_⟩;rcases i with i|⟨g,f,j,k,q,p⟩;exact zh i;exact ze ⟨g,f,j,k,η,p⟩
def Tn.low{a:Nat}(h:Tn b w v l)(d:a<=b):Tn a w v l:=yo h d
def Tn.nil(w:U):Tn lo w (ν) []:=xp _ _ _ _
def Tn.qy(h:Tn lo w v l):∃d a,v=.k d l.j a:=zr h
def Tn.u(h:Tn lo w v l)(a:μ w w'):Tn lo w' v l:=zy h a
def Tn.but(h:Tn lo w v l)(e:Tu r w w'){T:TypeId}{f:Nat×Nat}(d:w.o[r]?=Z (.E c T f))(a:T≠9):Tn lo w' v l:=by
 exact xL h e d a
structure Rd (w:U) (r:Nat) (wv:O) (l rest:List To):Prop where
 box:∃p:Nat,p<=l.j/\rest=l.drop p/\w.o[r]?=Z (.E #[wv,ι p] 185 (0,0))
 words:∃base,w.r base 182 2 wv l.j (kt l)
def Rd.cell{l rest:Δ}(h:Rd w r wv l rest):∃c f,w.o[r]?=Z (.E c 185 f):=by
 obtain⟨p,_,_,a⟩:=h.box;exact⟨_,_,a⟩
def Rd.lt{l rest:Δ}(h:Rd w r wv l rest):r<w.o.q:=by
 obtain⟨p,_,_,a⟩:=h.box;exact(kp.1 a).1
def Rd.u{l rest:Δ}(h:Rd w r wv l rest)(d:μ w w'):Rd w' r wv l rest:=by
 have a:=h.lt;obtain⟨⟨p,f,e,i⟩,b,g⟩:=h;exact⟨⟨p,f,e,by rw[d.block r a];exact i⟩,b,zy g d⟩
def Rq(l:Δ)(p:Nat)(k:Int)(t:ByteArray)(r:Δ)(h:(k,t)::r=l.drop p):(kt l)[p*2]?=Z (ι k)/\(kt l)[p*2+1]?=Z (.d t):=by
 induction l generalizing p with
 |nil=>simp at h
 |cons x l a=>
  rcases p with _|p;simp at h;obtain⟨rfl,_⟩:=h;simp[kt];have:=a p (by simpa using h);simp only[kt,uU] at this ⊢;rw[show(p+1)*2=p*2+1+1 from by omega];simpa using this
def Rd.view{l rest:Δ}(h:Rd w r wv l rest):∃(p:Nat) (e:Option Addr) (cap:Nat),p<=l.j/\rest=l.drop p/\wv=.k e l.j cap ∧
  w.o[r]?=Z (.E #[wv,ι p] 185 (0,0))/\w.p (δ r)=Z wv/\w.p (ω r 1)=Z (ι p)/\(∀o,w.frozen? (ω r o)=false) ∧
  (∀k t i,rest=(k,t)::i->∃g,e=Z (δ g)/\g<w.o.q/\p<l.j/\w.p (ω g (p*2))=Z (ι k)/\w.p (ω g (p*2+1))=Z (.d t)):=by
 obtain⟨⟨p,A,d,f⟩,b,u⟩:=h;obtain⟨e,cap,q⟩:=zr u;refine⟨p,e,cap,A,d,q,f,by unfold U.cell?;rw[f];simp,by unfold U.cell?;rw[f];simp,λo=>by unfold U.frozen?;rw[f];simp,?_⟩;intro k t i j;have y:p<l.j:=by
  rcases dV p l.j with h|h;exact h;rw[ui h] at d;rw[d] at j;cases j
 obtain⟨g,m,a,_,x,s⟩:=yr u η;rw[q] at a;simp at a;obtain⟨z,B⟩:=Rq l p k t i (by rw[←j,d]);exact⟨g,a.1,x,y,s _ _ z,s _ _ B⟩
def Rd.keep{q x:U}{l a rest:Δ}(s:Rd w r wv l a)(h:Rd q r wv l rest)(z:Below w.o.q q x):Rd x r wv l rest:=by
 have o:=s.lt;obtain⟨_,I,_,f⟩:=s;obtain⟨⟨p,F,C,G⟩,b,E,i⟩:=h;refine⟨⟨p,F,C,by rw[z.block r o];exact G⟩,b,E,?_⟩;rcases i with i|⟨g,j,k,e,D,A,B⟩;exact zh i;refine ze ⟨g,j,k,e,D,?_,B⟩;rcases f with⟨d,_⟩|⟨H,u,y,d,_,m,_⟩
 rw[d] at e;cases e;rw[d] at e;simp at e;obtain⟨rfl,rfl⟩:=e;rw[z.block H (kp.1 m).1];exact A
def Tu.onto{a b c:U}(h:Tu r a b)(k:Below a.o.q b c):Tu r a c:=
 ⟨k.os.A h.os,k.tape.A h.tape,k.output.A h.output,zY h.q k.q,λi d e=>(k.block i d).A (h.block i d e)⟩
def Rd.next{l rest:Δ}{p:Nat}(a:w.o[r]?=Z (.E #[wv,ι p] 185 (0,0)))(e:p<l.j)(f:rest=l.drop p)
  (d:∃base,w.r base 182 2 wv l.j (kt l)):Rd (w.x (ω r 1) (ι ((p:Int)+1))) r wv l rest.tail:=by
 refine⟨⟨p+1,e,by rw[f,List.tail_drop],?_⟩,?_⟩;simp[U.setCell,Array.getElem?_modify,a];obtain⟨b,g⟩:=d;exact⟨b,xL g ((Tu.refl r w).x 1 _) a θ⟩
end
section
open Go.Proofs.Tryz Go.RowKit
def Bx(k:Int)(w:U):
  Calls prog 199 #[ι k] w λe a=>e=ε (.i (Un k))/\a=w:=by
 go_enter func199,ntmps199;go_wp2
 all_goals go_ret
 all_goals go_light
 all_goals exact⟨by simp_all [Un],rfl⟩
def pS(w:U)(r:Nat)(s:O)(l rest:Δ)(h:Rd w r s l rest)(_:l.j<=500):
  Calls prog 179 #[(π r)] w λe m=>e=ε (.agg #[ι (T6 rest),.d (rest.headD (0,ByteArray.empty)).2])/\μ w m:=by
 have u:=h.lt;obtain⟨p,B,i,A,y,rfl,b,o,q,c,j⟩:=h.view;rcases rest with _|⟨x,n⟩
 .have a:p=l.j:=by
   have:=congrArg List.length y;simp at this;omega
  subst a;go_enter func179,ntmps179;go_wp2;go_quiet (fail)
  go_wp2;go_returns
  exact⟨rfl,φ⟩
 obtain⟨k,t⟩:=x;obtain⟨g,rfl,z,a,f,d⟩:=j k t n rfl;go_enter func179,ntmps179;go_wp2;go_quiet (fail)
 go_wp2;go_region
 all_goals go_wp2
 all_goals exact zO (v:=.agg #[ι k,.d t]) (by simp[results,results179,go_sem]) rfl ⟨rfl,φ⟩
def TY(w:U)(r:Nat)(j:O)(l rest:Δ)(k:Int)(h:Rd w r j l rest)(G:l.j<=500)(K:k≠0):
  Calls prog 143 #[(π r),ι k] w λe z=>e=ε (.i (T6 rest == k))/\Rd z r j l (if T6 rest=k then rest.tail else rest)/\Tu r w z:=by
 have b:=pS w r j l rest h G;by_cases f:T6 rest=k
 .obtain⟨p,R,E,S,L,I,d,F,s,o,M⟩:=h.view;have m:=h.words;have c:=h.lt;rcases rest with _|⟨x,v⟩;exact zB f.z K;obtain⟨y,t⟩:=x;obtain⟨g,_,Q,i,H,A⟩:=M y t v rfl;have J:=Tg L;subst f;simp only[if_true,beq_self_eq_true,mR];go_enter func143,ntmps143;go_wp2_with (go_at_call 179;(refine b.y ?_;rintro e n ⟨rfl,a⟩;clear b;have N:=a.q;have u:r<n.o.q:=η;have C:=zi a c s;have B:=(a.frozen (p:=(ω r 1)) c).A (o 1)))
  go_ret;refine⟨rfl,?_,?_⟩;obtain⟨D,m⟩:=m;exact(Rd.next (w:=n) (rest:=(y,t)::v) ((a.block r c).A d) i J ⟨D,zy m a⟩).u zP;have P:=Tu.of (r:=r) a;exact ψ
 rw[za f];have q:(T6 rest == k)=false:=by simpa using f
 rw[q];go_enter func143,ntmps143;go_wp2_with (go_at_call 179;refine b.y ?_;rintro e n ⟨rfl,a⟩;clear b)
 go_ret;exact⟨rfl,h.u (a.C a.q _),Tu.of (a.C a.q _)⟩
def kR(w:U)(r:Nat)(a:O)(l rest:Δ)(k:Int)(h:Rd w r a l rest)(d:l.j<=500)(f:k≠0)(c:T6 rest=k):
  Calls prog 143 #[(π r),ι k] w λe b=>e=ε (.i true)/\Rd b r a l rest.tail/\Tu r w b:=by
 have:=TY w r a l rest k h d f;rw[zb c,c,beq_self_eq_true] at this;exact this
def n5(w:U)(r:Nat)(a:O)(l rest:Δ)(k:Int)(h:Rd w r a l rest)(d:l.j<=500)(f:k≠0)(c:T6 rest≠k):
  Calls prog 143 #[(π r),ι k] w λe b=>e=ε (.i false)/\Rd b r a l rest/\Tu r w b:=by
 have:=TY w r a l rest k h d f;rw[za c,show(T6 rest == k)=false by simpa using c] at this;exact this
end
section
open Go.Proofs.Tryz Go.RowKit
variable {lo:Nat}
def SL:(prog.info? 9).map (λi=>(i.zero,i.q,i.bytes))=Z (Z (.d ByteArray.empty),1,16):=χ
def sJ(w:U)(r:Nat)(c:O)(l rest:List To)(e:Ending)(w':U):Prop:=
 Tu r w w'/\match yx rest with
  |none=>e=ε (.B #[ν,.i false])
  |some (a,b)=>∃v,e=ε (.B #[v,.i true])/\Tn w.o.q w' v a/\Rd w' r c l b
def Dz{w w':U}{r:Nat}{b:O}{l rest:Δ}(h:X (yx rest=Y))(a:Tu r w w'):sJ w r b l rest (ε (.B #[ν,.i false])) w':=by
 have c:yx rest=none:=h;unfold sJ;rw[c];exact⟨a,rfl⟩
def Pw{w w':U}{r:Nat}{a v:O}{l rest r2:Δ}{ts:κ}(h:X (yx rest=Z (ts,r2)))(c:Tu r w w')(hs:Tn w.o.q w' v ts)(b:Rd w' r a l r2):
  sJ w r a l rest (ε (.B #[v,.i true])) w':=by
 have d:yx rest=Z (ts,r2):=h;unfold sJ;rw[d];exact⟨c,v,rfl,hs,b⟩
def Hl{α β:Type}(o:Option (List α×β))(a:List α)(x:α):((o.map λz=>(x::z.1,z.2)).map λz=>(a++z.1,z.2))=o.map λz=>((a++[x])++z.1,z.2):=by cases o<;>simp
def Fo(w:U)(r:Nat)(F:O)(l rest:Δ)(h:Rd w r F l rest)(hl:l.j<=500):
  Calls prog 180 #[(π r)] w λe P=>sJ w r F l rest e P:=by
 obtain⟨i0,hi,ai,T,ak⟩:=info_parts SL;have ax:=h.lt;go_enter func180,ntmps180;go_wp2;go_loopg [4,5] (rest.j) (λn v t wr=>∃(f:κ) (d:Δ) (more:Bool),t=.i more/\d.j<=n/\d.j+f.j<=rest.j ∧
   wr.r w.o.q 9 1 v f.j (f.map O.string)/\Rd wr r F l d/\Tu r w wr ∧
   X (more=true->yx rest=(yx d).map λz=>(f++z.1,z.2))/\X (more=false->yx rest=Z (f,d)))
 case atStart=>exact⟨[],rest,true,rfl,zg _,ζ,xp _ _ _ _,h,Tu.refl _ _,(λ_=>ζ),(λh=>by cases h)⟩
 obtain⟨f,d,more,rfl,hn,L,s,m,b,D,N⟩:=hrel;have av:rest.j<=l.j:=by
  obtain⟨p,_,hp,_⟩:=h.box;rw[hp];simp
 have ay:=b.q;have j:=m.lt;cases more
 .have H:=Tg (N rfl);clear D N;go_wp2;go_ret2
  exact Pw H b s m
 have c:=pS wr r F l d m hl;rcases d with _|⟨x,i⟩
 .have H:X (yx rest=Y):=by rw[X.out D rfl];simp[yx,X]
  clear D N;have M:Un 0=false:=rfl;simp only[T6] at c;go_wp2_with (first|(go_at_call 179;refine c.y ?_;rintro e u ⟨rfl,a⟩;clear c;have hz:=a.q)|(go_at_call 199;refine(Bx _ _).y ?_;rintro e P ⟨rfl,rfl⟩))
  go_ret2
  have hB:=b.A (Tu.of a);exact Dz H ψ
 obtain⟨k,t⟩:=x;simp only[T6,List.headD_cons] at c;cases M:Un k
 .have H:X (yx rest=Y):=by rw[X.out D rfl,Jj M];simp[X]
  clear D N;go_wp2_with (first|(go_at_call 179;refine c.y ?_;rintro e u ⟨rfl,a⟩;clear c;have hz:=a.q)|(go_at_call 199;refine(Bx _ _).y ?_;rintro e P ⟨rfl,rfl⟩))
  go_ret2
  have hB:=b.A (Tu.of a);exact Dz H ψ
 obtain⟨p,ao,au,hp,hr,K,y,ab,al,af,hx⟩:=m.view;obtain⟨g,_,hg,S,ag,Q⟩:=hx k t i rfl;have HR:X ((k,t)::i=l.drop p):=hr;have HW:=Tg K;clear hx hr ag Q ab K;go_wp2_with (first|(go_at_call 179;refine c.y ?_;rintro e u ⟨rfl,a⟩;clear c;have hz:=a.q;have ap:r<u.o.q:=η;have ar:=zi a j al;have aq:=(a.frozen (p:=(ω r 1)) j).A (af 1);have ad:=a;have I:=Rd.next (w:=u) (rest:=(k,t)::i) ((a.block r j).A y) S HR ⟨_,zy m.words.choose_spec a⟩;have am:=xL (zy s a) ((Tu.refl r u).x 1 (ι ((p:Int)+1))) ((a.block r j).A y) θ;have ah:=(b.A (Tu.of a)).x 1 (ι ((p:Int)+1));have aw:(u.x (ω r 1) (ι ((p:Int)+1))).o.q=u.o.q:=ζ;clear ad)|(go_at_call 199;refine(Bx _ _).y ?_;rintro e P ⟨rfl,rfl⟩)|(at_builtin;refine gu (u.x (ω r 1) (ι ((p:Int)+1))) _ _ _ rfl (.tmp 21) (.tmp 24) 30 rfl w.o.q 9 i0 _ 1 16 underlying30 hi ai T ak rfl θ _ _ _ rfl am zP _ _ rfl ζ rfl a_ (by simp at L;omega) η η ?_;intro v' w2 aa J W aj R an;clear W aj R;have A:=Rd.keep h I J;have B:=ah.onto J;have E:=TY w2 r F l i 6 A hl θ)|(go_at_call 143;refine E.y ?_;rintro e w3 ⟨rfl,G,q⟩;clear E))
 obtain⟨c3,f3,C⟩:=A.cell;have ac:=xL aa q C θ;have hP:=X.out D trivial;simp only[xt] at hn L;have ae:(if T6 i=6 then i.tail else i).j<=i.j:=by split<;>simp
 go_roundg i.j
 case measure=>omega
 refine⟨f++[t],(if T6 i=6 then i.tail else i),(T6 i == 6),rfl,ae,by simp;omega,by simpa using ac,G,B.A q,?_,?_⟩;intro V;have o:T6 i=6:=by simpa using V
 rw[zb o,hP,O5 M o,Hl];intro V;have o:T6 i≠6:=by simpa using V
 rw[za o,hP,Fu M o];simp
def Q0(w:U)(r:Nat)(c:O)(l rest:Δ)(h:Rd w r c l rest)(d:l.j<=500)(f:yx rest=Y):
  Calls prog 180 #[(π r)] w λe a=>e=ε (.B #[ν,.i false])/\Tu r w a:=by
 refine(Fo w r c l rest h d).y ?_;rintro e a ⟨g,b⟩;rw[f] at b;exact⟨b,g⟩
def ED(w:U)(r:Nat)(f:O)(l rest r2:Δ)(ts:κ)(h:Rd w r f l rest)(i:l.j<=500)(j:yx rest=Z (ts,r2)):
  Calls prog 180 #[(π r)] w λe d=>∃v,e=ε (.B #[v,.i true])/\Tn w.o.q d v ts/\Rd d r f l r2/\Tu r w d:=by
 refine(Fo w r f l rest h i).y ?_;rintro e d ⟨k,g⟩;rw[j] at g;obtain⟨v,a,b,c⟩:=g;exact⟨v,a,b,c,k⟩
def nh(o:Option (zj×List To))(w:U)(r:Nat)(d:O)(l:List To)(e:Ending)(w':U):Prop:=
 Tu r w w'/\match o with
  |none=>e=ε (.B #[.agg #[.i false,.d ByteArray.empty,ν],.i false])
  |some (a,c)=>∃b,e=ε (.B #[.agg #[.i a.i,.d a.o,b],.i true])/\Tn w.o.q w' b a.k/\Rd w' r d l c
def ID(w:U)(r:Nat)(d:O)(l rest:Δ)(h:Rd w r d l rest)(m:l.j<=500)(u:(T6 rest == 1)=false):
  Calls prog 142 #[(π r)] w λe o=>nh Y w r d l e o:=by
 have s:=h.lt;have j:w.o.q≠r:=η;go_enter func142,ntmps142;go_wp2_with (first|(go_at_call 179;refine(pS _ r d l rest (by exact h.u γ) m).y ?_;rintro e p ⟨rfl,c⟩;have b:=Tk zP c;have k:=(Th.new w _ _).u c;have g:=h.u b)|(go_at_call 143;refine(TY _ r d l rest 1 (by exact g.u γ) m θ).y ?_;rintro e x ⟨rfl,n,a⟩;have f:=(k.u zP).but a j;obtain⟨i,q⟩:=f.H))
 have t:=(Tu.of b).A (((Tu.refl r p).C _).A a);exact zO (v:=.B #[.agg #[.i false,.d ByteArray.empty,ν],.i false]) (by simp[results,results142,go_sem,i];rfl) rfl ⟨ψ,rfl⟩
def L2(w:U)(r:Nat)(g:O)(l rest:Δ)(h:Rd w r g l rest)(D:l.j<=500)(K:T6 rest=1)(V:T6 rest.tail≠4):
  Calls prog 142 #[(π r)] w λe G=>nh (Z (⟨false,(rest.headD (0,ByteArray.empty)).2,[]⟩,rest.tail)) w r g l e G:=by
 have ac:=h.lt;have n:w.o.q≠r:=η;generalize ht:(rest.headD (0,ByteArray.empty)).2=t;have T:=Tg ht;have H1:=Tg K;have E:X (∀W,Rd W r g l rest->Calls prog 179 #[(π r)] W λe G=>e=ε (.agg #[ι 1,.d t])/\μ W G):=λW hW=>by
  have:=pS W r g l rest hW D;rw[K,X.out T] at this;exact this
 have H4:=Tg V;go_enter func142,ntmps142;go_wp2_with (first|(go_at_call 179;refine(X.out E _ (by exact h.u γ)).y ?_;rintro e u ⟨rfl,k⟩;have q:=Tk zP k;have s:=(Th.new w _ _).u k;have P:=s.lt;have x:=h.u q;have J:r<u.o.q:=η;have c:u.o.q≠r:=η)|(go_at_call 143;have o:=p;refine(n5 _ r g l rest.tail 4 o D θ H4).y ?_;rintro e w3 ⟨rfl,i,b⟩;have j:=d.but b n;have m:=f.but b c;clear B F z y;obtain⟨A,aa⟩:=j.H;obtain⟨R,Q⟩:=m.H;have S:=j.lt;have M:=m.lt;have I:=i.lt;have N:=C.A b;clear o)|(go_at_call 143;have o:=x;refine(kR _ r g l rest 1 (by exact o.u γ) D θ H1).y ?_;rintro e w2 ⟨rfl,p,a⟩;have d:=(s.u zP).but a n;have f:=(Th.new u _ _).but a c;obtain⟨B,F⟩:=d.H;obtain⟨z,y⟩:=f.H;have ab:=d.lt;have H:=f.lt;have L:=p.lt;have C:=(Tu.of q).A (((Tu.refl r u).C _).A a);clear o))
 exact zO (v:=.B #[.agg #[.i false,.d t,ν],.i true]) (by simp[results,results142,go_sem,A]) rfl ⟨ψ,_,rfl,Tn.nil _,h.keep i γ⟩
def PO(w:U)(r:Nat)(g:O)(l rest:Δ)(h:Rd w r g l rest)(A:l.j<=500)(V:T6 rest=1)(h4:T6 rest.tail=4)(h5:yx rest.tail.tail=Y):
  Calls prog 142 #[(π r)] w λe P=>nh Y w r g l e P:=by
 have ak:=h.lt;have m:w.o.q≠r:=η;obtain⟨t,HT⟩:∃t,X ((rest.headD (0,ByteArray.empty)).2=t):=⟨_,rfl⟩;have H1:=Tg V;have K:X (∀W,Rd W r g l rest->Calls prog 179 #[(π r)] W λe P=>e=ε (.agg #[ι 1,.d t])/\μ W P):=λW hW=>by
  have:=pS W r g l rest hW A;rw[V,X.out HT] at this;exact this
 have H4:=Tg h4;have H5:=Tg h5;go_enter func142,ntmps142;go_wp2_with (first|(go_at_call 179;refine(X.out K _ (by exact h.u γ)).y ?_;rintro e z ⟨rfl,p⟩;have x:=Tk zP p;have y:=(Th.new w _ _).u p;have ae:=y.lt;have C:=h.u x;have T:r<z.o.q:=η;have d:z.o.q≠r:=η)|(go_at_call 180;refine(Q0 _ r g l rest.tail.tail o A H5).y ?_;rintro e w4 ⟨rfl,c⟩;have n:=f.but c m;have q:=j.but c d;clear H N G F;obtain⟨L,ac⟩:=n.H;obtain⟨ah,ai⟩:=q.H;have ad:=n.lt;have S:=q.lt;have ag:=B.A c)|(go_at_call 143;have s:=u;refine(kR _ r g l rest.tail 4 s A θ H4).y ?_;rintro e w3 ⟨rfl,o,b⟩;have f:=i.but b m;have j:=k.but b d;clear I M E D;obtain⟨H,N⟩:=f.H;obtain⟨G,F⟩:=j.H;have af:=f.lt;have ab:=j.lt;have R:=o.lt;have B:=J.A b;clear s)|(go_at_call 143;have s:=C;refine(kR _ r g l rest 1 (by exact s.u γ) A θ H1).y ?_;rintro e w2 ⟨rfl,u,a⟩;have i:=(y.u zP).but a m;have k:=(Th.new z _ _).but a d;obtain⟨I,M⟩:=i.H;obtain⟨E,D⟩:=k.H;have aj:=i.lt;have Q:=k.lt;have aa:=u.lt;have J:=(Tu.of x).A (((Tu.refl r z).C _).A a);clear s))
 exact zO (v:=.B #[.agg #[.i false,.d ByteArray.empty,ν],.i false]) (by simp[results,results142,go_sem,L];rfl) rfl ⟨ψ,rfl⟩
def MA(w:U)(r:Nat)(i:O)(l rest r2:Δ)(ts:κ)(h:Rd w r i l rest)(B:l.j<=500)(h1:T6 rest=1)(h4:T6 rest.tail=4)(h5:yx rest.tail.tail=Z (ts,r2))(h6:T6 r2≠5):
  Calls prog 142 #[(π r)] w λe w'=>nh Y w r i l e w':=by
 have aq:=h.lt;have g:w.o.q≠r:=η;obtain⟨t,HT⟩:∃t,X ((rest.headD (0,ByteArray.empty)).2=t):=⟨_,rfl⟩;have H1:=Tg h1;have ae:X (∀W,Rd W r i l rest->Calls prog 179 #[(π r)] W λe w'=>e=ε (.agg #[ι 1,.d t])/\μ W w'):=λW hW=>by
  have:=pS W r i l rest hW B;rw[h1,X.out HT] at this;exact this
 have H4:=Tg h4;have H5:=Tg h5;have H6:=Tg h6;go_enter func142,ntmps142;go_wp2_with (first|(go_at_call 179;refine(X.out ae _ (by exact h.u γ)).y ?_;rintro e F ⟨rfl,u⟩;have x:=Tk zP u;have y:=(Th.new w _ _).u u;have az:=y.lt;have ac:=h.u x;have al:r<F.o.q:=η;have f:F.o.q≠r:=η)|(go_at_call 180;refine(ED _ r i l rest.tail.tail r2 ts s B H5).y ?_;rintro e w4 ⟨va,rfl,E,z,d⟩;obtain⟨ao,cp,rfl⟩:=E.qy;have n:=p.but d g;have m:=q.but d f;clear ab M H V;obtain⟨K,S⟩:=n.H;obtain⟨I,L⟩:=m.H;have ar:=n.lt;have ak:=m.lt;have af:=z.lt;have aa:=R.A d)|(go_at_call 143;have j:=z;refine(n5 _ r i l r2 5 j B θ H6).y ?_;rintro e w5 ⟨rfl,N,b⟩;have A:=n.but b g;have D:=m.but b f;clear K S I L;obtain⟨P,ap⟩:=A.H;obtain⟨ay,ax⟩:=D.H;have aw:=A.lt;have ai:=D.lt;have an:=N.lt;have av:=aa.A b;clear j)|(go_at_call 143;have j:=C;refine(kR _ r i l rest.tail 4 j B θ H4).y ?_;rintro e w3 ⟨rfl,s,c⟩;have p:=k.but c g;have q:=o.but c f;clear J Q T G;obtain⟨ab,M⟩:=p.H;obtain⟨H,V⟩:=q.H;have au:=p.lt;have ah:=q.lt;have aj:=s.lt;have R:=ad.A c;clear j)|(go_at_call 143;have j:=ac;refine(kR _ r i l rest 1 (by exact j.u γ) B θ H1).y ?_;rintro e w2 ⟨rfl,C,a⟩;have k:=(y.u zP).but a g;have o:=(Th.new F _ _).but a f;obtain⟨J,Q⟩:=k.H;obtain⟨T,G⟩:=o.H;have a0:=k.lt;have am:=o.lt;have ag:=C.lt;have ad:=(Tu.of x).A (((Tu.refl r F).C _).A a);clear j))
 exact zO (v:=.B #[.agg #[.i false,.d ByteArray.empty,ν],.i false]) (by simp[results,results142,go_sem,P];rfl) rfl ⟨ψ,rfl⟩
def NX(w:U)(r:Nat)(i:O)(l rest r2:Δ)(ts:κ)(h:Rd w r i l rest)(E:l.j<=500)(h1:T6 rest=1)(h4:T6 rest.tail=4)(h5:yx rest.tail.tail=Z (ts,r2))(h6:T6 r2=5):
  Calls prog 142 #[(π r)] w λe w'=>nh (Z (⟨false,(rest.headD (0,ByteArray.empty)).2,ts⟩,r2.tail)) w r i l e w':=by
 have au:=h.lt;have g:w.o.q≠r:=η;generalize ht:(rest.headD (0,ByteArray.empty)).2=t;have HT:=Tg ht;have H1:=Tg h1;have ag:X (∀W,Rd W r i l rest->Calls prog 179 #[(π r)] W λe w'=>e=ε (.agg #[ι 1,.d t])/\μ W w'):=λW hW=>by
  have:=pS W r i l rest hW E;rw[h1,X.out HT] at this;exact this
 have H4:=Tg h4;have H5:=Tg h5;have H6:=Tg h6;go_enter func142,ntmps142;go_wp2_with (first|(go_at_call 179;refine(X.out ag _ (by exact h.u γ)).y ?_;rintro e H ⟨rfl,z⟩;have A:=Tk zP z;have C:=(Th.new w _ _).u z;have a1:=C.lt;have ad:=h.u A;have an:r<H.o.q:=η;have f:H.o.q≠r:=η)|(go_at_call 180;refine(ED _ r i l rest.tail.tail r2 ts y E H5).y ?_;rintro e w4 ⟨va,rfl,k,p,d⟩;obtain⟨ao,cp,rfl⟩:=k.qy;have o:=u.but d g;have n:=x.but d f;clear ac Q J aa;obtain⟨N,T⟩:=o.H;obtain⟨K,P⟩:=n.H;have av:=o.lt;have am:=n.lt;have ah:=p.lt;have ab:=D.A d)|(go_at_call 143;have j:=p;refine(kR _ r i l r2 5 j E θ H6).y ?_;rintro e w5 ⟨rfl,B,a⟩;have q:=o.but a g;have G:=n.but a f;clear N T K P;obtain⟨R,ar⟩:=q.H;obtain⟨a0,az⟩:=G.H;have ay:=q.lt;have ak:=G.lt;have aq:=B.lt;have ax:=ab.A a;clear j)|(go_at_call 143;have j:=F;refine(kR _ r i l rest.tail 4 j E θ H4).y ?_;rintro e w3 ⟨rfl,y,c⟩;have u:=m.but c g;have x:=s.but c f;clear L S V I;obtain⟨ac,Q⟩:=u.H;obtain⟨J,aa⟩:=x.H;have aw:=u.lt;have aj:=x.lt;have al:=y.lt;have D:=ae.A c;clear j)|(go_at_call 143;have j:=ad;refine(kR _ r i l rest 1 (by exact j.u γ) E θ H1).y ?_;rintro e w2 ⟨rfl,F,b⟩;have m:=(C.u zP).but b g;have s:=(Th.new H _ _).but b f;obtain⟨L,S⟩:=m.H;obtain⟨V,I⟩:=s.H;have a2:=m.lt;have ap:=s.lt;have ai:=F.lt;have ae:=(Tu.of A).A (((Tu.refl r H).C _).A b);clear j))
 obtain⟨c4,f4,af⟩:=p.cell;have M:=k.but a af θ;exact zO (v:=.B #[.agg #[.i false,.d t,.k ao ts.j cp],.i true]) (by simp[results,results142,go_sem,R]) rfl ⟨ψ,_,rfl,(M.low D.q).but (r:=w.o.q) ψ q θ,h.keep B γ⟩
def GM(w:U)(r:Nat)(a:O)(l rest:Δ)(h:Rd w r a l rest)(c:l.j<=500):
  Calls prog 142 #[(π r)] w λe k=>nh (xv rest) w r a l e k:=by
 unfold xv;split;rename_i b;split;rename_i d;split;rename_i f;exact PO w r a l rest h c b d f;rename_i j i f;split;rename_i g;exact NX w r a l rest i j h c b d f g;rename_i g;exact MA w r a l rest i j h c b d f g;rename_i d;exact L2 w r a l rest h c b d;rename_i b;exact ID w r a l rest h c (by simpa using b)
def Ha(w:U)(r:Nat)(c:O)(l rest:Δ)(h:Rd w r c l rest)(d:l.j<=500)(f:xv rest=Y):
  Calls prog 142 #[(π r)] w λe a=>e=ε (.B #[.agg #[.i false,.d ByteArray.empty,ν],.i false])/\Tu r w a:=by
 refine(GM w r c l rest h d).y ?_;rintro e a ⟨g,b⟩;rw[f] at b;exact⟨b,g⟩
def rP(w:U)(r:Nat)(f:O)(l rest r2:Δ)(a:zj)(h:Rd w r f l rest)(j:l.j<=500)(k:xv rest=Z (a,r2)):
  Calls prog 142 #[(π r)] w λe d=>∃g,e=ε (.B #[.agg #[.i a.i,.d a.o,g],.i true])/\Tn w.o.q d g a.k/\Rd d r f l r2/\Tu r w d:=by
 refine(GM w r f l rest h j).y ?_;rintro e d ⟨m,i⟩;rw[k] at i;obtain⟨v,a,b,c⟩:=i;exact⟨v,a,b,c,m⟩
def Ci(b:Bool)(w:U)(r:Nat)(f:O)(l rest a:Δ)(h:Rd w r f l rest)(A:l.j<=500)
  (j:∀W,Rd W r f l rest->Calls prog 143 #[(π r),ι 8] W λe g=>e=ε (.i b)/\Rd g r f l a/\Tu r W g) (u:xv a=Y):
  Calls prog 181 #[(π r)] w λe g=>nh Y w r f l e g:=by
 have C:=h.lt;have k:w.o.q≠r:=η;have p:X (∀W,Rd W r f l rest->Calls prog 143 #[(π r),ι 8] W λe g=>e=ε (.i b)/\Rd g r f l a/\Tu r W g):=j;clear j;have y:X (xv a=Y):=u;clear u;go_enter func181,ntmps181;go_wp2_with (first|(go_at_call 143;refine(X.out p _ (by exact h.u γ)).y ?_;rintro e D ⟨rfl,i,d⟩;have m:=(Th.new w _ _).but d k;have x:=m.lt;have t:=i.lt;have q:=((Tu.refl r w).C _).A d)|(go_at_call 142;refine(Ha _ r f l a i A y).y ?_;rintro e E ⟨rfl,c⟩;have n:=m.but c k;obtain⟨o,B,s⟩:=n.e;have z:=q.A c))
 exact zO (v:=.B #[.agg #[.i false,.d ByteArray.empty,ν],.i false]) (by simp[results,results181,go_sem,o,s];rfl) rfl ⟨ψ,rfl⟩
def Ht(b:Bool)(w:U)(r:Nat)(i:O)(l rest c r2:Δ)(a:zj)(h:Rd w r i l rest)(E:l.j<=500)
  (m:∀W,Rd W r i l rest->Calls prog 143 #[(π r),ι 8] W λe j=>e=ε (.i b)/\Rd j r i l c/\Tu r W j) (z:xv c=Z (a,r2)):
  Calls prog 181 #[(π r)] w λe j=>nh (Z ({a with i:=b},r2)) w r i l e j:=by
 have H:=h.lt;have o:w.o.q≠r:=η;have t:X (∀W,Rd W r i l rest->Calls prog 143 #[(π r),ι 8] W λe j=>e=ε (.i b)/\Rd j r i l c/\Tu r W j):=m;clear m;have B:X (xv c=Z (a,r2)):=z;clear z;go_enter func181,ntmps181;go_wp2_with (first|(go_at_call 143;refine(X.out t _ (by exact h.u γ)).y ?_;rintro e J ⟨rfl,k,f⟩;have q:=(Th.new w _ _).but f o;have A:=q.lt;have y:=k.lt;have p:=((Tu.refl r w).C _).A f)|(go_at_call 142;refine(rP _ r i l c r2 a k E B).y ?_;rintro e K ⟨I,rfl,g,u,d⟩;obtain⟨G,C,rfl⟩:=g.qy;have n:=q.but d o;obtain⟨s,F,x⟩:=n.e;have D:=p.A d))
 exact zO (v:=.B #[.agg #[.i b,.d a.o,.k G a.k.j C],.i true]) (by simp[results,results181,go_sem,s,x]) rfl ⟨ψ,_,rfl,(g.low p.q).but (r:=w.o.q) ψ n θ,h.keep u γ⟩
def RZ{rest r2:Δ}{a:zj}(h:xv rest=Z (a,r2)):a.i=false:=by
 unfold xv at h
 (repeat' split at h)<;>first|(cases h;done)|(simp at h;obtain⟨rfl,_⟩:=h;rfl)
def E1(w:U)(r:Nat)(b:O)(l rest:Δ)(h:Rd w r b l rest)(c:l.j<=500):
  Calls prog 181 #[(π r)] w λe j=>nh (uY rest) w r b l e j:=by
 unfold uY;split;rename_i g;rcases f:xv rest.tail with _|z;exact Ci true w r b l rest rest.tail h c (λW d=>kR W r b l rest 8 d c θ g) f;obtain⟨a,i⟩:=z;exact Ht true w r b l rest rest.tail i a h c (λW d=>kR W r b l rest 8 d c θ g) f;rename_i g;rcases f:xv rest with _|z;exact Ci false w r b l rest rest h c (λW d=>n5 W r b l rest 8 d c θ g) f;obtain⟨a,i⟩:=z;have:=Ht false w r b l rest rest i a h c (λW d=>n5 W r b l rest 8 d c θ g) f;rwa [show({a with i:=false}:zj)=a by rw[←RZ f]] at this
end
section
open Go.Proofs.Tryz Go.RowKit
variable {lo:Nat}{v:O}{n:Nat}{w:U}{r r2:List To}{o:Option (List zj×List To)}
def gW{d E:U}{b A:Nat}{e u:TypeId}{s C:Nat}{y:O}{D:Nat}{xs c:Γ}(F:d.r b e s v n xs)(q:e≠u)(h:d.r A u C y D c)
  (I:∀k,k<d.o.q->Z k≠v.m->E.o[k]?=d.o[k]?):E.r A u C y D c:=by
 obtain⟨H,l⟩:=h;refine⟨H,?_⟩;rcases l with l|⟨g,m,t,f,G,j,J⟩;exact zh l;refine ze ⟨g,m,t,f,G,?_,J⟩;rw[I g (kp.1 j).1 ?_];exact j;intro i;obtain⟨_,⟨x,_⟩|⟨K,z,B,p,_,a,_⟩⟩:=F;subst x;cases i;subst p;simp only[O.ownBlock,zt] at i;subst i;rw[j] at a;simp at a;exact q a.2.z
def vl(lo:Nat)(w:U):List zj->List O->Prop
 |[],b=>b=[]
 |a::d,b=>∃c r,b=.i a.i::.d a.o::c::r/\Tn lo w c a.k/\vl lo w d r
def vl.snoc{w:U}{a:zj}{b:O}(hs:Tn lo w b a.k):∀{c:Ω} {xs:Γ},vl lo w c xs->vl lo w (c++[a]) (xs++[.i a.i,.d a.o,b])
 |[],_,h=>by simp only[vl] at h;subst h;exact⟨b,[],rfl,hs,rfl⟩
 |_::c,_,h=>by obtain⟨v,r,rfl,e,d⟩:=h;exact⟨v,r++[.i a.i,.d a.o,b],rfl,e,vl.snoc hs d⟩
def vl.y{w w':U}(b:∀c l,Tn lo w c l->Tn lo w' c l):∀{a:Ω} {xs:Γ},vl lo w a xs->vl lo w' a xs
 |[],_,h=>h
 |_::a,_,h=>by obtain⟨v,r,rfl,e,d⟩:=h;exact⟨v,r,rfl,b _ _ e,vl.y b d⟩
def vl.at{w:U}:∀{d:Ω} {xs:Γ} (i:Nat) (a:zj),vl lo w d xs->d[i]?=Z a->∃c,xs[i*3]?=Z (.i a.i)/\xs[i*3+1]?=Z (.d a.o)/\xs[i*3+2]?=Z c/\Tn lo w c a.k
 |[],_,i,a,_,b=>by simp at b
 |_::d,_,0,a,h,b=>by obtain⟨v,r,rfl,f,e⟩:=h;simp at b;subst b;exact⟨v,rfl,rfl,rfl,f⟩
 |_::d,_,i+1,a,h,b=>by
  obtain⟨v,r,rfl,f,e⟩:=h;obtain⟨c,g,l,j,k⟩:=vl.at i a e (by simpa using b);refine⟨c,?_,?_,?_,k⟩
  .rw[show(i+1)*3=i*3+1+1+1 from by omega];simpa using g
  .rw[show(i+1)*3+1=i*3+1+1+1+1 from by omega];simpa using l
  .rw[show(i+1)*3+2=i*3+2+1+1+1 from by omega];simpa using j
def TL(lo:Nat)(w:U)(v:O)(b:List zj):Prop:=∃a,w.r lo 90 3 v b.j a/\vl lo w b a
def vl.low{a b:Nat}{w:U}(c:a<=b):∀{d:Ω} {xs:Γ},vl b w d xs->vl a w d xs
 |[],_,h=>h
 |_::d,_,h=>by obtain⟨v,r,rfl,e,f⟩:=h;exact⟨v,r,rfl,e.low c,vl.low c f⟩
def TL.low{a b:Nat}{w:U}{v:O}{l:Ω}(h:TL b w v l)(c:a<=b):TL a w v l:=by obtain⟨e,h,d⟩:=h;exact⟨e,yo h c,d.low c⟩
def TL.nil(w:U):TL lo w (ν) []:=⟨[],xp _ _ _ _,rfl⟩
def TL.qy{l:Ω}(h:TL lo w v l):∃b a,v=.k b l.j a:=by obtain⟨c,h,_⟩:=h;exact zr h
def TL.u{w w':U}{v:O}{l:Ω}(h:TL lo w v l)(a:μ w w'):TL lo w' v l:=by
 obtain⟨c,h,b⟩:=h;exact⟨c,zy h a,b.y λ_ _ k=>k.u a⟩
def TL.but{r:Nat}{w w':U}{v:O}{l:Ω}(h:TL lo w v l)(d:Tu r w w'){c:Array O}{T:TypeId}{f:Nat×Nat}(b:w.o[r]?=Z (.E c T f))(e:T≠9)(a:T≠90):TL lo w' v l:=by
 obtain⟨i,h,g⟩:=h;exact⟨i,xL h d b a,g.y λ_ _ k=>k.but d b e⟩
def uj:Nat->List To->Option (List zj×List To)
 |0,_=>Y
 |n+1,r=>match uY r with
  |none=>Y
  |some (a,r2)=>if T6 r2=6 then(uj n r2.tail).map λz=>(a::z.1,z.2) else Z ([a],r2)
def tw(h:uY r=Y):uj (n+1) r=none:=by simp[uj,h]
def sd{a:zj}(h:uY r=Z (a,r2))(b:T6 r2=6):uj (n+1) r=(uj n r2.tail).map λz=>(a::z.1,z.2):=by simp[uj,h,b]
def rR{a:zj}(h:uY r=Z (a,r2))(b:T6 r2≠6):uj (n+1) r=Z ([a],r2):=by simp[uj,h,b]
def E8:∀(r:Δ) {ts:κ} {r2:Δ},yx r=Z (ts,r2)->r2.j<r.j
 |[],_,_,h=>by simp[yx] at h
 |[x],ts,r2,h=>by
  simp only[yx] at h;split at h<;>simp at h
  obtain⟨_,rfl⟩:=h;simp
 |x::y::r,ts,r2,h=>by
  simp only[yx] at h;split at h
  .split at h
   .cases a:yx r with
    |none=>rw[a] at h;simp at h
    |some z=>
     obtain⟨b,c⟩:=z;rw[a] at h;simp at h;have:=E8 r a;obtain⟨_,rfl⟩:=h;simp;omega
   .simp at h;obtain⟨_,rfl⟩:=h;simp
  .simp at h
def wH{a:zj}(h:xv r=Z (a,r2)):r2.j<r.j:=by
 rcases r with _|⟨x,r⟩;simp[xv,T6] at h;unfold xv at h;split at h;split at h;split at h;simp at h;rename_i c d b;have:=E8 _ b;split at h<;>simp at h
 obtain⟨_,rfl⟩:=h;simp at this ⊢;omega;simp at h;obtain⟨_,rfl⟩:=h;simp;simp at h
def Ik{a:zj}(h:uY r=Z (a,r2)):r2.j<r.j:=by
 unfold uY at h;split at h;rcases b:xv r.tail with _|z;rw[b] at h;simp at h;obtain⟨d,c⟩:=z;rw[b] at h;simp at h;have:=wH b;obtain⟨_,rfl⟩:=h;simp at this;omega;exact wH h
def QG(w:U)(r:Nat)(c:O)(l rest:Δ)(h:Rd w r c l rest)(d:l.j<=500)(f:uY rest=Y):
  Calls prog 181 #[(π r)] w λe a=>e=ε (.B #[.agg #[.i false,.d ByteArray.empty,ν],.i false])/\Tu r w a:=by
 refine(E1 w r c l rest h d).y ?_;rintro e a ⟨g,b⟩;rw[f] at b;exact⟨b,g⟩
def K7(w:U)(r:Nat)(f:O)(l rest r2:Δ)(a:zj)(h:Rd w r f l rest)(j:l.j<=500)(k:uY rest=Z (a,r2)):
  Calls prog 181 #[(π r)] w λe d=>∃g,e=ε (.B #[.agg #[.i a.i,.d a.o,g],.i true])/\Tn w.o.q d g a.k/\Rd d r f l r2/\Tu r w d:=by
 refine(E1 w r f l rest h j).y ?_;rintro e d ⟨m,i⟩;rw[k] at i;obtain⟨v,a,b,c⟩:=i;exact⟨v,a,b,c,m⟩
def SU:(prog.info? 90).map (λi=>(i.zero,i.q,i.bytes))=Z (Z (.agg #[.i false,.d ByteArray.empty,ν]),3,48):=χ
def oq(o:Option (List zj×List To))(w:U)(r:Nat)(a:O)(l:List To)(e:Ending)(w':U):Prop:=
 Tu r w w'/\match o with
  |none=>e=ε (.B #[ν,.i false])
  |some (b,r2)=>∃v,e=ε (.B #[v,.i true])/\TL w.o.q w' v b/\Rd w' r a l r2
def PI{w':U}{r:Nat}{b:O}{l:Δ}(h:X (o=Y))(a:Tu r w w'):oq o w r b l (ε (.B #[ν,.i false])) w':=by
 have c:o=none:=h;subst c;exact⟨a,rfl⟩
def Ru{w':U}{r:Nat}{b:O}{l:Δ}{a:Ω}(h:X (o=Z (a,r2)))(e:Tu r w w')(hs:TL w.o.q w' v a)(d:Rd w' r b l r2):
  oq o w r b l (ε (.B #[v,.i true])) w':=by
 have c:o=Z (a,r2):=h;subst c;exact⟨e,v,rfl,hs,d⟩
def Ej(w:U)(r:Nat)(E:O)(l rest:Δ)(h:Rd w r E l rest)(hl:l.j<=500)(H:Nat)(aa:rest.j<H):
  Calls prog 144 #[(π r)] w λe w'=>oq (uj H rest) w r E l e w':=by
 obtain⟨i0,hi,aj,V,ad⟩:=info_parts SU;have ar:=h.lt;go_enter func144,ntmps144;go_wp2;go_loopg [4,5] (rest.j) (λn v t wr=>∃(i:Ω) (c:Δ) (more:Bool) (m:Nat) (xs:Γ),t=.i more/\c.j<=n/\c.j<m/\c.j+i.j<=rest.j ∧
   wr.r w.o.q 90 3 v i.j xs/\vl w.o.q wr i xs/\Rd wr r E l c/\Tu r w wr ∧
   X (more=true->uj H rest=(uj m c).map λz=>(i++z.1,z.2))/\X (more=false->uj H rest=Z (i,c)))
 case atStart=>exact⟨[],rest,true,H,[],rfl,zg _,aa,ζ,xp _ _ _ _,rfl,h,Tu.refl _ _,(λ_=>ζ),(λh=>by cases h)⟩
 obtain⟨i,c,more,m,xs,rfl,hn,hm,ap,x,N,s,j,Q,S⟩:=hrel;have an:rest.j<=l.j:=by
  obtain⟨p,_,hp,_⟩:=h.box;rw[hp];simp
 have al:=j.q;obtain⟨c0,f0,g⟩:=s.cell;cases more
 .have G:=Tg (S rfl);clear Q S;go_wp2;go_ret2
  exact Ru G j ⟨_,x,N⟩ s
 obtain⟨m,rfl⟩:∃m',m=m'+1:=⟨m-1,η⟩;have HC:=Tg g;rcases F:uY c with _|z
 .have G:X (uj H rest=Y):=by rw[X.out Q rfl,tw F];simp[X]
  have T:=Tg F;clear Q S F;go_wp2_with (go_at_call 181;refine(QG _ r E l c s hl T).y ?_;rintro e w1 ⟨rfl,b⟩;have u:=j.A b;have ab:=u.q)
  go_ret2
  exact PI G ψ
 obtain⟨a,r2⟩:=z;have T:=Tg F;have aq:=Ik F;have G:=Tg (Q rfl);clear Q S F;go_wp2_with (first|(go_at_call 181;refine(K7 _ r E l c r2 a s hl T).y ?_;rintro e w1 ⟨va,rfl,B,W,b⟩;obtain⟨ao,cp,rfl⟩:=B.qy;have u:=j.A b;have ab:=u.q;have D:=xL x b g θ;have K:=N.y λ_ _ k=>k.but b g θ)|(at_builtin;refine gu w1 _ _ _ rfl (.tmp 16) (.tmp 18) 91 rfl w.o.q 90 i0 _ 3 48 underlying91 hi aj V ad rfl θ _ _ _ rfl D zP _ _ rfl ζ rfl a_ η η η ?_;intro v' w2 ag P af ak I am;clear af ak;have A:=Rd.keep h W P;have C:=u.onto P;have ae:Tn w.o.q w2 (O.slice ao a.k.j cp) a.k:=yo (gW D θ B I) al;have R:=K.y λ_ _ k=>gW D θ k I;have J:=TY w2 r E l r2 6 A hl θ)|(go_at_call 143;refine J.y ?_;rintro e w3 ⟨rfl,L,f⟩;clear J))
 obtain⟨c3,f3,d⟩:=A.cell;have ah:=xL ag f d θ;have ac:=ae.but f d θ;have M:=R.y λ_ _ k=>k.but f d θ;have ai:(if T6 r2=6 then r2.tail else r2).j<=r2.j:=by split<;>simp
 have y:uY c=Z (a,r2):=T;go_roundg r2.j
 case measure=>omega
 refine⟨i++[a],(if T6 r2=6 then r2.tail else r2),(T6 r2 == 6),m,_,rfl,ai,η,by simp;omega,by rw[yN];exact ah,M.snoc ac,L,C.A f,?_,?_⟩;intro h6;have q:T6 r2=6:=by simpa using h6
 rw[zb q,X.out G,sd y q,Hl];intro h6;have q:T6 r2≠6:=by simpa using h6
 rw[za q,X.out G,rR y q];simp
end
section
open Go.Proofs.Tryz Go.RowKit
variable {lo:Nat}
def vE(n:Nat)(r:List To):Option (zc×List To):=
 match xv r with
 |none=>Y
 |some (a,c)=>
  if T6 c=9 then
   match uj n c.tail with
   |none=>Y
   |some (b,d)=>if T6 d=7 then Z (⟨a,b⟩,d.tail) else Y
  else if T6 c=7 then Z (⟨a,[]⟩,c.tail) else Y
def JC(w:U)(r:Nat)(f:O)(l rest:Δ)(h:Rd w r f l rest)(g:l.j<=500)(a:Nat)(b:rest.j<a)(i:uj a rest=Y):
  Calls prog 144 #[(π r)] w λe c=>e=ε (.B #[ν,.i false])/\Tu r w c:=by
 refine(Ej w r f l rest h g a b).y ?_;rintro e c ⟨j,d⟩;rw[i] at d;exact⟨d,j⟩
def Cn(w:U)(r:Nat)(i:O)(l rest r2:Δ)(b:Ω)(h:Rd w r i l rest)(k:l.j<=500)(f:Nat)(g:rest.j<f)(m:uj f rest=Z (b,r2)):
  Calls prog 144 #[(π r)] w λe d=>∃v,e=ε (.B #[v,.i true])/\TL w.o.q d v b/\Rd d r i l r2/\Tu r w d:=by
 refine(Ej w r i l rest h k f g).y ?_;rintro e d ⟨n,j⟩;rw[m] at j;obtain⟨v,a,b,c⟩:=j;exact⟨v,a,b,c,n⟩
def pD(o:Option (zc×List To))(w:U)(r:Nat)(f:O)(l:List To)(e:Ending)(w':U):Prop:=
 Tu r w w'/\match o with
  |none=>e=ε (.B #[.agg #[.i false,.d ByteArray.empty,ν,ν],.i false])
  |some (c,d)=>∃b a,e=ε (.B #[.agg #[.i c.g.i,.d c.g.o,b,a],.i true])/\Tn w.o.q w' b c.g.k/\TL w.o.q w' a c.d/\Rd w' r f l d
def Rx(w:U)(r:Nat)(f:O)(l rest:Δ)(h:Rd w r f l rest)(k:l.j<=500)(i:xv rest=Y):
  Calls prog 100 #[(π r)] w λe n=>pD Y w r f l e n:=by
 have o:=h.lt;have c:w.o.q≠r:=η;have j:=Tg i;go_enter func100,ntmps100;go_wp2_with (go_at_call 142;refine(Ha _ r f l rest (by exact h.u γ) k j).y ?_;rintro e q ⟨rfl,a⟩;have d:=(Th.new w _ _).but a c;obtain⟨g,p,b⟩:=d.e;have m:=((Tu.refl r w).C _).A a)
 exact zO (v:=.B #[.agg #[.i false,.d ByteArray.empty,ν,ν],.i false]) (by simp[results,results100,go_sem,g,b];rfl) rfl ⟨ψ,rfl⟩
def KZ(w:U)(r:Nat)(t:O)(l rest:Δ)(h:Rd w r t l rest)(I:l.j<=500)(p:Δ)(a:zj)(ha:xv rest=Z (a,p))(h9:T6 p≠9)(S:T6 p≠7):
  Calls prog 100 #[(π r)] w λe w'=>pD Y w r t l e w':=by
 have af:=h.lt;have o:w.o.q≠r:=η;have HA:=Tg ha;have H9:=Tg h9;have T:=Tg S;go_enter func100,ntmps100;go_wp2_with (first|(go_at_call 142;refine(rP _ r t l rest p a (by exact h.u γ) I HA).y ?_;rintro e F ⟨va,rfl,x,j,g⟩;obtain⟨ao,cp,rfl⟩:=x.qy;have z:=(Th.new w _ _).but g o;have V:=z.lt;have N:=j.lt;have i:F.o.q≠r:=η;have K:=((Tu.refl r w).C _).A g)|(go_at_call 143;have q:=y;refine(n5 _ r t l p 7 q I θ T).y ?_;rintro e w3 ⟨rfl,B,c⟩;obtain⟨c7,f7,d⟩:=q.cell;have W:=D.but c d θ;have s:=k.but c o;have u:=m.but c i;clear G J C A;obtain⟨E,ad⟩:=s.H;obtain⟨ab,aa⟩:=u.H;have ac:=s.lt;have Q:=u.lt;have M:=B.lt;have R:=H.A c;clear q d)|(go_at_call 143;have q:=j;refine(n5 _ r t l p 9 (by exact q.u γ) I θ H9).y ?_;rintro e w2 ⟨rfl,y,b⟩;have n:=(Tu.refl r F).C (Obj.cells #[.i a.i,.d a.o,.k ao a.k.j cp] 90);obtain⟨c1,f1,f⟩:=j.cell;have D:=x.but (n.A b) f θ;have k:=(z.u zP).but b o;have m:=(Th.new F _ _).but b i;obtain⟨G,J⟩:=k.H;obtain⟨C,A⟩:=m.H;have ae:=k.lt;have L:=m.lt;have P:=y.lt;have H:=K.A (n.A b);clear q n f))
 exact zO (v:=.B #[.agg #[.i false,.d ByteArray.empty,ν,ν],.i false]) (by simp[results,results100,go_sem,E];rfl) rfl ⟨ψ,rfl⟩
def KV(w:U)(r:Nat)(u:O)(l rest:Δ)(h:Rd w r u l rest)(J:l.j<=500)(o:Δ)(a:zj)(ha:xv rest=Z (a,o))(h9:T6 o≠9)(W:T6 o=7):
  Calls prog 100 #[(π r)] w λe w'=>pD (Z (⟨a,[]⟩,o.tail)) w r u l e w':=by
 have ag:=h.lt;have q:w.o.q≠r:=η;have HA:=Tg ha;have H9:=Tg h9;have H7:=Tg W;go_enter func100,ntmps100;go_wp2_with (first|(go_at_call 142;refine(rP _ r u l rest o a (by exact h.u γ) J HA).y ?_;rintro e G ⟨va,rfl,y,j,g⟩;obtain⟨R,P,rfl⟩:=y.qy;have A:=(Th.new w _ _).but g q;have aa:=A.lt;have Q:=j.lt;have i:G.o.q≠r:=η;have L:=((Tu.refl r w).C _).A g)|(go_at_call 143;have s:=z;refine(kR _ r u l o 7 s J θ H7).y ?_;rintro e w3 ⟨rfl,t,c⟩;obtain⟨c7,f7,d⟩:=s.cell;have D:=E.but c d θ;have k:=m.but c q;have x:=n.but c i;clear H K C B;obtain⟨F,ae⟩:=k.H;obtain⟨ac,ab⟩:=x.H;have ad:=k.lt;have T:=x.lt;have N:=t.lt;have V:=I.A c;clear s d)|(go_at_call 143;have s:=j;refine(n5 _ r u l o 9 (by exact s.u γ) J θ H9).y ?_;rintro e w2 ⟨rfl,z,b⟩;have p:=(Tu.refl r G).C (Obj.cells #[.i a.i,.d a.o,.k R a.k.j P] 90);obtain⟨c1,f1,f⟩:=j.cell;have E:=y.but (p.A b) f θ;have m:=(A.u zP).but b q;have n:=(Th.new G _ _).but b i;obtain⟨H,K⟩:=m.H;obtain⟨C,B⟩:=n.H;have af:=m.lt;have M:=n.lt;have S:=z.lt;have I:=L.A (p.A b);clear s p f))
 exact zO (v:=.B #[.agg #[.i a.i,.d a.o,.k R a.k.j P,ν],.i true]) (by simp[results,results100,go_sem,F]) rfl ⟨ψ,_,_,rfl,(D.low (by first|(simp;done)|omega)).but (r:=w.o.q) ψ k θ,TL.nil _,h.keep t γ⟩
def Oy(w:U)(r:Nat)(q:O)(l rest:Δ)(h:Rd w r q l rest)(F:l.j<=500)(m:Δ)(a:zj)(E:Nat)(ha:xv rest=Z (a,m))(h9:T6 m=9)(hn:m.tail.j<E)(hb:uj E m.tail=Y):
  Calls prog 100 #[(π r)] w λe w'=>pD Y w r q l e w':=by
 have ac:=h.lt;have o:w.o.q≠r:=η;have S:=Tg ha;have H9:=Tg h9;have HN:=Tg hn;have HB:=Tg hb;go_enter func100,ntmps100;go_wp2_with (first|(go_at_call 142;refine(rP _ r q l rest m a (by exact h.u γ) F S).y ?_;rintro e B ⟨va,rfl,t,i,f⟩;obtain⟨ao,W,rfl⟩:=t.qy;have x:=(Th.new w _ _).but f o;have P:=x.lt;have J:=i.lt;have g:B.o.q≠r:=η;have H:=((Tu.refl r w).C _).A f)|(go_at_call 144;refine(JC _ r q l m.tail u F E HN HB).y ?_;rintro e w3 ⟨rfl,c⟩;have p:=j.but c o;have s:=k.but c g;clear C G z y;obtain⟨A,aa⟩:=p.H;obtain⟨R,Q⟩:=s.H;have T:=p.lt;have L:=s.lt;have N:=D.A c)|(go_at_call 143;have M:=i;refine(kR _ r q l m 9 (by exact M.u γ) F θ H9).y ?_;rintro e w2 ⟨rfl,u,b⟩;have n:=(Tu.refl r B).C (Obj.cells #[.i a.i,.d a.o,.k ao a.k.j W] 90);obtain⟨c1,f1,d⟩:=i.cell;have V:=t.but (n.A b) d θ;have j:=(x.u zP).but b o;have k:=(Th.new B _ _).but b g;obtain⟨C,G⟩:=j.H;obtain⟨z,y⟩:=k.H;have ab:=j.lt;have I:=k.lt;have K:=u.lt;have D:=H.A (n.A b);clear M n d))
 exact zO (v:=.B #[.agg #[.i false,.d ByteArray.empty,ν,ν],.i false]) (by simp[results,results100,go_sem,A];rfl) rfl ⟨ψ,rfl⟩
def OX(w:U)(r:Nat)(z:O)(l rest:Δ)(h:Rd w r z l rest)(G:l.j<=500)(p r2:Δ)(a:zj)(b:Ω)(n0:Nat)(ha:xv rest=Z (a,p))(h9:T6 p=9)(hn:p.tail.j<n0)(hb:uj n0 p.tail=Z (b,r2))(h7:T6 r2≠7):
  Calls prog 100 #[(π r)] w λe w'=>pD Y w r z l e w':=by
 have an:=h.lt;have n:w.o.q≠r:=η;have HA:=Tg ha;have H9:=Tg h9;have HN:=Tg hn;have HB:=Tg hb;have H7:=Tg h7;go_enter func100,ntmps100;go_wp2_with (first|(go_at_call 142;refine(rP _ r z l rest p a (by exact h.u γ) G HA).y ?_;rintro e R ⟨va,rfl,F,t,m⟩;obtain⟨ao,cp,rfl⟩:=F.qy;have D:=(Th.new w _ _).but m n;have aw:=D.lt;have ai:=t.lt;have k:R.o.q≠r:=η;have M:=((Tu.refl r w).C _).A m)|(go_at_call 144;refine(Cn _ r z l p.tail r2 b y G n0 HN HB).y ?_;rintro e w3 ⟨vb,rfl,T,B,d⟩;obtain⟨ax,av,rfl⟩:=T.qy;obtain⟨c3,f3,g⟩:=y.cell;have N:=Q.but d g θ;have u:=o.but d n;have x:=q.but d k;clear J S W H;obtain⟨ab,L⟩:=u.H;obtain⟨I,aa⟩:=x.H;have aq:=u.lt;have af:=x.lt;have ag:=B.lt;have V:=ac.A d;clear g)|(go_at_call 143;have A:=B;refine(n5 _ r z l r2 7 A G θ H7).y ?_;rintro e w4 ⟨rfl,P,f⟩;obtain⟨c7,f7,j⟩:=A.cell;have am:=N.but f j θ;have E:=u.but f n;have C:=x.but f k;clear ab L I aa;obtain⟨K,ar⟩:=E.H;obtain⟨ak,al⟩:=C.H;have ap:=E.lt;have ah:=C.lt;have ad:=P.lt;have au:=V.A f;clear A j)|(go_at_call 143;have A:=t;refine(kR _ r z l p 9 (by exact A.u γ) G θ H9).y ?_;rintro e w2 ⟨rfl,y,c⟩;have s:=(Tu.refl r R).C (Obj.cells #[.i a.i,.d a.o,.k ao a.k.j cp] 90);obtain⟨c1,f1,i⟩:=t.cell;have Q:=F.but (s.A c) i θ;have o:=(D.u zP).but c n;have q:=(Th.new R _ _).but c k;obtain⟨J,S⟩:=o.H;obtain⟨W,H⟩:=q.H;have ay:=o.lt;have aj:=q.lt;have ae:=y.lt;have ac:=M.A (s.A c);clear A s i))
 exact zO (v:=.B #[.agg #[.i false,.d ByteArray.empty,ν,ν],.i false]) (by simp[results,results100,go_sem,K];rfl) rfl ⟨ψ,rfl⟩
def MG(w:U)(r:Nat)(A:O)(l rest:Δ)(h:Rd w r A l rest)(I:l.j<=500)(q r2:Δ)(a:zj)(b:Ω)(n0:Nat)(ha:xv rest=Z (a,q))(h9:T6 q=9)(hn:q.tail.j<n0)(hb:uj n0 q.tail=Z (b,r2))(h7:T6 r2=7):
  Calls prog 100 #[(π r)] w λe w'=>pD (Z (⟨a,b⟩,r2.tail)) w r A l e w':=by
 have ar:=h.lt;have o:w.o.q≠r:=η;have HA:=Tg ha;have H9:=Tg h9;have HN:=Tg hn;have HB:=Tg hb;have H7:=Tg h7;go_enter func100,ntmps100;go_wp2_with (first|(go_at_call 142;refine(rP _ r A l rest q a (by exact h.u γ) I HA).y ?_;rintro e T ⟨va,rfl,H,u,m⟩;obtain⟨ao,cp,rfl⟩:=H.qy;have E:=(Th.new w _ _).but m o;have ay:=E.lt;have am:=u.lt;have k:T.o.q≠r:=η;have P:=((Tu.refl r w).C _).A m)|(go_at_call 144;refine(Cn _ r A l q.tail r2 b z I n0 HN HB).y ?_;rintro e w3 ⟨vb,rfl,G,C,g⟩;obtain⟨af,ac,rfl⟩:=G.qy;obtain⟨c3,f3,i⟩:=z.cell;have R:=S.but g i θ;have x:=p.but g o;have y:=s.but g k;clear L V aa J;obtain⟨ad,N⟩:=x.H;obtain⟨K,ab⟩:=y.H;have av:=x.lt;have aj:=y.lt;have ak:=C.lt;have W:=ae.A g;clear i)|(go_at_call 143;have B:=C;refine(kR _ r A l r2 7 B I θ H7).y ?_;rintro e w4 ⟨rfl,F,c⟩;obtain⟨c7,f7,f⟩:=B.cell;have Q:=R.but c f θ;have ag:=G.but c f θ θ;have n:=x.but c o;have D:=y.but c k;clear ad N K ab;obtain⟨M,aw⟩:=n.H;obtain⟨ap,aq⟩:=D.H;have au:=n.lt;have al:=D.lt;have ah:=F.lt;have ax:=W.A c;clear B f)|(go_at_call 143;have B:=u;refine(kR _ r A l q 9 (by exact B.u γ) I θ H9).y ?_;rintro e w2 ⟨rfl,z,d⟩;have t:=(Tu.refl r T).C (Obj.cells #[.i a.i,.d a.o,.k ao a.k.j cp] 90);obtain⟨c1,f1,j⟩:=u.cell;have S:=H.but (t.A d) j θ;have p:=(E.u zP).but d o;have s:=(Th.new T _ _).but d k;obtain⟨L,V⟩:=p.H;obtain⟨aa,J⟩:=s.H;have az:=p.lt;have an:=s.lt;have ai:=z.lt;have ae:=P.A (t.A d);clear B t j))
 exact zO (v:=.B #[.agg #[.i a.i,.d a.o,.k ao a.k.j cp,.k af b.j ac],.i true]) (by simp[results,results100,go_sem,M]) rfl ⟨ψ,_,_,rfl,(Q.low (by first|(simp;done)|omega)).but (r:=w.o.q) ψ n θ,(ag.low (by first|(simp;done)|omega)).but (r:=w.o.q) ψ n θ θ,h.keep F γ⟩
def ER(w:U)(r:Nat)(d:O)(l rest:Δ)(h:Rd w r d l rest)(i:l.j<=500)(g:Nat)(s:rest.j<=g):
  Calls prog 100 #[(π r)] w λe q=>pD (vE g rest) w r d l e q:=by
 unfold vE;split;rename_i c;exact Rx w r d l rest h i c;rename_i a j c;have o:=wH c;split;rename_i k;have n:j.tail.j<g:=by simp;omega
 split;rename_i m;exact Oy w r d l rest h i j a g c k n m;rename_i b p m;split;rename_i f;exact MG w r d l rest h i j p a b g c k n m f;rename_i f;exact OX w r d l rest h i j p a b g c k n m f;rename_i k;split;rename_i f;exact KV w r d l rest h i j a c k f;rename_i f;exact KZ w r d l rest h i j a c k f
end
section
open Go.Proofs.Tryz Go.RowKit
variable {lo:Nat}{w:U}{v:O}{r:List To}{o:Option (List zc)}
def qN(lo:Nat)(w:U):List zc->List O->Prop
 |[],a=>a=[]
 |c::e,a=>∃d b r,a=.i c.g.i::.d c.g.o::d::b::r/\Tn lo w d c.g.k/\TL lo w b c.d/\qN lo w e r
def qN.snoc{w:U}{c:zc}{a vb:O}(hs:Tn lo w a c.g.k)(d:TL lo w vb c.d):∀{b:Ξ} {xs:Γ},qN lo w b xs->qN lo w (b++[c]) (xs++[.i c.g.i,.d c.g.o,a,vb])
 |[],_,h=>by simp only[qN] at h;subst h;exact⟨a,vb,[],rfl,hs,d,rfl⟩
 |_::b,_,h=>by obtain⟨v,e,r,rfl,g,f,i⟩:=h;exact⟨v,e,r++[.i c.g.i,.d c.g.o,a,vb],rfl,g,f,qN.snoc hs d i⟩
def qN.y{w w':U}(d:∀b l,Tn lo w b l->Tn lo w' b l)(a:∀b l,TL lo w b l->TL lo w' b l):∀{c:Ξ} {xs:Γ},qN lo w c xs->qN lo w' c xs
 |[],_,h=>h
 |_::c,_,h=>by obtain⟨v,e,r,rfl,g,f,i⟩:=h;exact⟨v,e,r,rfl,d _ _ g,a _ _ f,qN.y d a i⟩
def qN.at{w:U}:∀{e:Ξ} {xs:Γ} (i:Nat) (c:zc),qN lo w e xs->e[i]?=Z c →
  ∃d f,xs[i*4]?=Z (.i c.g.i)/\xs[i*4+1]?=Z (.d c.g.o)/\xs[i*4+2]?=Z d/\xs[i*4+3]?=Z f/\Tn lo w d c.g.k/\TL lo w f c.d
 |[],_,i,a,_,b=>by simp at b
 |_::e,_,0,a,h,b=>by obtain⟨v,g,r,rfl,k,j,l⟩:=h;simp at b;subst b;exact⟨v,g,rfl,rfl,rfl,rfl,k,j⟩
 |_::e,_,i+1,a,h,b=>by
  obtain⟨v,g,r,rfl,k,j,l⟩:=h;obtain⟨d,f,n,s,p,q,m⟩:=qN.at i a l (by simpa using b);refine⟨d,f,?_,?_,?_,?_,m⟩
  .rw[show(i+1)*4=i*4+1+1+1+1 from by omega];simpa using n
  .rw[show(i+1)*4+1=i*4+1+1+1+1+1 from by omega];simpa using s
  .rw[show(i+1)*4+2=i*4+2+1+1+1+1 from by omega];simpa using p
  .rw[show(i+1)*4+3=i*4+3+1+1+1+1 from by omega];simpa using q
def TO(lo:Nat)(T:TypeId)(w:U)(v:O)(b:List zc):Prop:=∃a,w.r lo T 4 v b.j a/\qN lo w b a
def qN.low{a b:Nat}{w:U}(c:a<=b):∀{d:Ξ} {xs:Γ},qN b w d xs->qN a w d xs
 |[],_,h=>h
 |_::d,_,h=>by obtain⟨v,e,r,rfl,g,f,i⟩:=h;exact⟨v,e,r,rfl,g.low c,f.low c,qN.low c i⟩
def TO.low{a b:Nat}{T:TypeId}{w:U}{v:O}{l:Ξ}(h:TO b T w v l)(c:a<=b):TO a T w v l:=by obtain⟨e,h,d⟩:=h;exact⟨e,yo h c,d.low c⟩
def TO.qy{T:TypeId}{l:Ξ}(h:TO lo T w v l):∃b a,v=.k b l.j a:=by obtain⟨c,h,_⟩:=h;exact zr h
def TO.u{T:TypeId}{w w':U}{v:O}{l:Ξ}(h:TO lo T w v l)(a:μ w w'):TO lo T w' v l:=by
 obtain⟨c,h,b⟩:=h;exact⟨c,zy h a,b.y (λ_ _ k=>k.u a) (λ_ _ k=>k.u a)⟩
def TL.push{c m:U}{b:Nat}{e:TypeId}{s:Nat}{i:O}{n:Nat}{xs:Γ}{j:Ω}(g:c.r b e s v n xs)(f:e≠90)(a:e≠9)(h:TL lo c i j)
  (l:∀k,k<c.o.q->Z k≠v.m->m.o[k]?=c.o[k]?):TL lo m i j:=by
 obtain⟨d,q,p⟩:=h;exact⟨d,gW g f q l,p.y λ_ _ k=>gW g a k l⟩
def yW(a:Nat):Nat->List To->Option (List zc)
 |_,[]=>Z []
 |0,_::_=>Y
 |m+1,x::r=>match vE a (x::r) with
  |none=>Y
  |some (c,b)=>(yW a m b).map (c::·)
def iy{a m:Nat}(b:r≠[])(h:vE a r=Y):yW a (m+1) r=none:=by
 rcases r with _|⟨x,r⟩;exact zB rfl b;simp[yW,h]
def sZ{a m:Nat}{r2:Δ}{c:zc}(b:r≠[])(h:vE a r=Z (c,r2)):yW a (m+1) r=(yW a m r2).map (c::·):=by
 rcases r with _|⟨x,r⟩;exact zB rfl b;simp[yW,h]
def QR{n:Nat}:∀{r r2:Δ} {b:Ω},uj n r=Z (b,r2)->r2.j<r.j:=by
 induction n with
 |zero=>intro r r2 b h;simp[uj] at h
 |succ n g=>
  intro r r2 b h;rcases c:uY r with _|z;rw[tw c] at h;cases h;obtain⟨a,e⟩:=z;have:=Ik c;by_cases f:T6 e=6;rw[sd c f] at h;rcases d:uj n e.tail with _|z;rw[d] at h;simp at h;rw[d] at h;simp at h;have:=g d;obtain⟨_,rfl⟩:=h;simp at this;omega;rw[rR c f] at h;simp at h;obtain⟨_,rfl⟩:=h;omega
def Qj{n:Nat}{r2:Δ}{c:zc}(h:vE n r=Z (c,r2)):r2.j<r.j:=by
 unfold vE at h;split at h;cases h;rename_i a g d;have:=wH d;split at h;split at h;cases h;rename_i b f e;have:=QR e;split at h<;>simp at h
 obtain⟨_,rfl⟩:=h;simp at this ⊢;omega;split at h<;>simp at h
 obtain⟨_,rfl⟩:=h;simp;omega
def Mo(w:U)(r:Nat)(f:O)(l rest:Δ)(h:Rd w r f l rest)(g:l.j<=500)(a:Nat)(b:rest.j<=a)(i:vE a rest=Y):
  Calls prog 100 #[(π r)] w λe c=>e=ε (.B #[.agg #[.i false,.d ByteArray.empty,ν,ν],.i false])/\Tu r w c:=by
 refine(ER w r f l rest h g a b).y ?_;rintro e c ⟨j,d⟩;rw[i] at d;exact⟨d,j⟩
def Qw(w:U)(r:Nat)(j:O)(l rest r2:Δ)(c:zc)(h:Rd w r j l rest)(p:l.j<=500)(g:Nat)(i:rest.j<=g)(q:vE g rest=Z (c,r2)):
  Calls prog 100 #[(π r)] w λe f=>∃k m,e=ε (.B #[.agg #[.i c.g.i,.d c.g.o,k,m],.i true])/\Tn w.o.q f k c.g.k/\TL w.o.q f m c.d/\Rd f r j l r2/\Tu r w f:=by
 refine(ER w r j l rest h p g i).y ?_;rintro e f ⟨t,n⟩;rw[q] at n;obtain⟨v,s,a,b,c,d⟩:=n;exact⟨v,s,a,b,c,d,t⟩
def Tb:(prog.info? 171).map (λi=>(i.zero,i.q,i.bytes))=Z (Z (.agg #[.i false,.d ByteArray.empty,ν,ν]),4,72):=χ
def Ai(o:Option (List zc))(w:U)(e:Ending)(w':U):Prop:=
 μ w w'/\match o with
  |none=>e=ε (.B #[ν,.i false])
  |some a=>∃v,e=ε (.B #[v,.i true])/\TO w.o.q 171 w' v a
def Rt{w':U}(h:X (o=Y))(a:μ w w'):Ai o w (ε (.B #[ν,.i false])) w':=by
 have b:o=none:=h;subst b;exact⟨a,rfl⟩
def RA{w':U}{cs:Ξ}(h:X (o=Z cs))(a:μ w w')(hs:TO w.o.q 171 w' v cs):Ai o w (ε (.B #[v,.i true])) w':=by
 have b:o=Z cs:=h;subst b;exact⟨a,v,rfl,hs⟩
def Uw(w:U)(wv:O)(l:Δ)(A:Nat)(hw:w.r A 182 2 wv l.j (kt l))(hl:l.j<=500):
  Calls prog 60 #[wv] w λe w'=>Ai (yW l.j l.j l) w e w':=by
 obtain⟨i0,hi,ad,aj,aa⟩:=info_parts Tb;obtain⟨W,s,rfl⟩:=zr hw;have h0:Rd (w.C (.E #[.k W l.j s,ι 0] 185)) w.o.q (.k W l.j s) l l:=
  ⟨⟨0,zs _,rfl,Th.new _ _ _⟩,A,zy hw zP⟩
 clear hw;go_enter func60,ntmps60;go_wp2;go_loopg [5] (l.j) (λn v wr=>∃(f:Ξ) (b:Δ) (m:Nat) (xs:Γ),b.j<=n/\b.j<=m/\b.j+f.j<=l.j ∧
   wr.r (w.o.q+1) 171 4 v f.j xs/\qN w.o.q wr f xs/\Rd wr w.o.q (.k W l.j s) l b/\Tu w.o.q (w.C (.E #[.k W l.j s,ι 0] 185)) wr ∧
   X (yW l.j l.j l=(yW l.j m b).map (f++·)))
 case atStart=>exact⟨[],l,l.j,[],zg _,zg _,ζ,xp _ _ _ _,rfl,h0,Tu.refl _ _,(by simp[X])⟩
 obtain⟨f,b,m,xs,hn,hm,a0,y,F,q,g,E⟩:=hrel;have G:w.o.q<=wr.o.q:=by have:=g.q;simp at this;omega
 obtain⟨c0,f0,d⟩:=q.cell;have an:=Tg d;obtain⟨p,ax,ao,hp,J,al,T,aw,ay,au,hx⟩:=q.view;clear al hx T;rcases b with _|⟨x,r0⟩
 .have P:p=l.j:=by
   have:=congrArg List.length J;simp at this;omega
  have L:X (yW l.j l.j l=Z f):=by rw[X.out E];cases m<;>simp[yW,X]
  have I:=zP.A (g.u (zg _) ζ);subst P;clear J E d;go_wp2;go_ret2
  exact RA L I ⟨_,yo y η,F⟩
 have P:p<l.j:=by
  rcases dV p l.j with h|h;exact h;rw[ui h] at J;cases J
 clear J;have u:x::r0≠[]:=ζ;obtain⟨m,rfl⟩:∃m',m=m'+1:=⟨m-1,by simp at hm;omega⟩;generalize x::r0=b at *;have HN:X (b.j<=l.j):=by unfold X;omega
 rcases D:vE l.j b with _|z
 .have HC:=Tg D;have L:X (yW l.j l.j l=Y):=by rw[X.out E,iy u D];simp[X]
  clear D u E;go_wp2_with (go_at_call 100;refine(Mo _ w.o.q _ l b q hl l.j HN HC).y ?_;rintro e w1 ⟨rfl,a⟩;have i:=g.A a;have Q:=i.q;have C:=zP.A (i.u (zg _) ζ))
  go_ret2
  have aq:=C.q;exact Rt L γ
 obtain⟨c,V⟩:=z;have HC:=Tg D;have ar:=Qj D;have L:X (yW l.j l.j l=(yW l.j m V).map ((f++[c])++·)):=by rw[X.out E,sZ u D,sW];rfl
 clear D u E;go_wp2_with (first|(go_at_call 100;refine(Qw _ w.o.q _ l b V c q hl l.j HN HC).y ?_;rintro e w1 ⟨va,vb,rfl,M,H,ak,a⟩;obtain⟨ae,am,rfl⟩:=M.qy;obtain⟨az,av,rfl⟩:=H.qy;have i:=g.A a;have Q:=i.q;have ai:=(by simpa using Q);have j:=xL y a d θ;have K:=F.y (λ_ _ k=>k.but a d θ) (λ_ _ k=>k.but a d θ θ))|(at_builtin;refine gu w1 _ _ _ rfl (.tmp 22) (.tmp 24) 121 rfl (w.o.q+1) 171 i0 _ 4 72 underlying121 hi ad aj aa rfl θ _ _ _ rfl j zP _ _ rfl ζ rfl a_ η η ai ?_;intro v' w2 ac R ab ah t ap;clear ab ah;have S:=Rd.keep h0 ak (by simpa using R);have B:=i.onto (by simpa using R);have af:Tn w.o.q w2 (O.slice ae c.g.k.j am) c.g.k:=yo (gW j θ M t) G;have ag:=(H.push j θ θ t).low G;have N:=K.y (λ_ _ k=>gW j θ k t) (λ_ _ k=>k.push j θ θ t)))
 go_roundg V.j
 case measure=>omega
 exact⟨f++[c],V,m,_,zg _,η,by simp;omega,by rw[yN];exact ac,N.snoc af ag,S,B,L⟩
end
section
open Go.Proofs.Tryz Go.RowKit
variable {lo:Nat}{l:κ}
def lX(t:ByteArray)(w:U):
  Calls prog 156 #[.d t] w λe a=>e=ε (.i (zT t))/\a=w:=by
 unfold zT;by_cases h:0<t.q
 .rw[qL h];go_enter func156,ntmps156;go_wp2
  all_goals go_ret
  all_goals go_light
  all_goals exact⟨by simp_all [qr];try omega,rfl⟩
 rw[pH h];go_enter func156,ntmps156;go_wp2
 all_goals go_ret
 all_goals go_light
 all_goals exact⟨by simp_all [qr],rfl⟩
def Tn.cell{w:U}{d:Option Addr}{n cap:Nat}{vs:κ}(h:Tn lo w (.k d n cap) vs)(k:Nat)(i:k<vs.j):∃g,d=Z (δ g)/\g<w.o.q/\w.p (ω g k)=Z (.d vs[k]):=by
 have f:=h;obtain⟨g,b,c,_,e,a⟩:=yr f η;simp at c;exact⟨g,c.1,e,a k _ (by simp[i])⟩
def yA:κ->ByteArray->Option Nat
 |[],_=>Y
 |y::r,n=>if y=n then Z 0 else(yA r n).map (·+1)
def lc(l:κ)(n:ByteArray):Int:=match yA l n with
 |none=>-1
 |some k=>k
def lN:∀{l:κ} {n:ByteArray} {k:Nat},yA l n=Z k->∃h:k<l.j,l[k]=n
 |[],_,_,h=>by simp[yA] at h
 |y::r,n,k,h=>by
  unfold yA at h;split at h
  .simp at h;subst h;exact⟨ζ,by simpa⟩
  .cases a:yA r n with
   |none=>rw[a] at h;simp at h
   |some j=>rw[a] at h;simp at h;subst h;obtain⟨c,b⟩:=lN a;exact⟨by simpa using c,by simpa using b⟩
def Ay{n:ByteArray}{k:Nat}(b:k<l.j)(a:l[k]≠n):yA (l.drop k) n=(yA (l.drop (k+1)) n).map (·+1):=by rw[xn b,yA,za a]
def B0{n:ByteArray}{k:Nat}(b:k<l.j)(a:l[k]=n):yA (l.drop k) n=Z 0:=by rw[xn b,yA,zb a]
def B6:∀(l:κ) (n:ByteArray),(yA l n).I=yh n l
 |[],n=>by rw[tN.2 ζ];rfl
 |y::r,n=>by
  unfold yA;by_cases e:y=n
  .rw[zb e,vO.2 (by simp[e])];rfl
  .rw[za e,Option.isSome_map,B6 r n];cases h:yh n r with
   |true=>exact(vO.2 (nX _ (vO.1 h))).z
   |false=>exact(tN.2 (by have:=tN.1 h;simp[this,Ne.symm e])).z
def Jx(w:U)(vb:Nat)(f:O)(vs:κ)(t:ByteArray)(b:Th w vb #[f] 246)(hs:Tn lo w f vs)(p:vs.j<=1000):
  Calls prog 200 #[(π vb),.d t] w λe m=>e=ε (.B #[ι ((yA vs t).g 0:Nat),.i (yA vs t).I])/\m=w:=by
 obtain⟨r,o⟩:=b.H;obtain⟨s,j,rfl⟩:=hs.qy;go_enter func200,ntmps200;go_wp2;go_loop [13] (λi=>∃k:Nat,k<=vs.j/\i=ι k/\X (yA vs t=(yA (vs.drop k) t).map (·+k))) (λi=>vs.j-(intOf i).D);exact⟨0,zs _,rfl,by simp[X]⟩;obtain⟨k,u,rfl,H⟩:=hrel;by_cases a:k<vs.j
 .obtain⟨g,rfl,q,n⟩:=hs.cell k a;by_cases d:vs[k]=t
  .have h:=jt d;have c:X (yA vs t=Z k):=by rw[X,H.l,B0 a d];simp
   go_wp2;go_ret2
   exact⟨by rw[c.l];rfl,rfl⟩
  have h:=vV d;have c:X (yA vs t=(yA (vs.drop (k+1)) t).map (·+(k+1))):=by
   rw[X,H.l,Ay a d];cases yA (vs.drop (k+1)) t<;>simp;omega
  go_wp2;go_round;exact⟨k+1,η,ξ,c⟩;simp[intOf];omega
 have c:X (yA vs t=Y):=by rw[X,H.l,ui η];rfl
 go_wp2;go_ret2
 exact⟨by rw[c.l];rfl,rfl⟩
def eG(w:U)(vb:Nat)(b:O)(vs:κ)(t:ByteArray)(a:Th w vb #[b] 246)(hs:Tn lo w b vs)(f:vs.j<=1000):
  Calls prog 183 #[(π vb),.d t] w λe d=>e=ε (.i (yh t vs))/\d=w:=by
 rw[←B6 vs t];have c:=Tg (Jx w vb b vs t a hs f);generalize yA vs t=o at *;go_enter func183,ntmps183;go_wp2_with (go_at_call 200;refine c.l.y ?_;rintro e d ⟨rfl,rfl⟩;clear c)
 go_ret;exact⟨rfl,rfl⟩
end
section
open Go.Proofs.Tryz Go.RowKit
variable {lo:Nat}{w:U}{c:Array O}{vs:κ}{t:ByteArray}
def Th.set{b:Nat}{T:TypeId}(h:Th w b c T)(o:Nat)(u:O):Th (w.x (ω b o) u) b (c.setIfInBounds o u) T:=by
 unfold Th at *;simp[U.setCell,Array.getElem?_modify,h]
def Th.set_ne{b b':Nat}{T:TypeId}(h:Th w b c T)(a:b≠b')(o:Nat)(u:O):Th (w.x (ω b' o) u) b c T:=by
 unfold Th at *;rw[Below.heap_setCell _ _ _ _ a];exact h
def Th.push{d q:U}{b:Nat}{e T:TypeId}{s:Nat}{v:O}{n j:Nat}{xs:Γ}(r:d.r b e s v n xs)(g:e≠T)(h:Th d j c T)
  (u:∀k,k<d.o.q->Z k≠v.m->q.o[k]?=d.o[k]?):Th q j c T:=by
 have l:=h.lt;unfold Th at *;rw[u j l ?_];exact h;intro f;obtain⟨_,⟨i,_⟩|⟨x,p,o,m,_,a,_⟩⟩:=r;subst i;cases f;subst m;simp only[O.ownBlock,zt] at f;subst f;rw[h] at a;simp at a;exact g a.2.z
structure fK (vb:Nat) (w w':U):Prop where
 q:w.o.q<=w'.o.q
 box:∀b c T,b≠vb->T≠9->Th w b c T->Th w' b c T
def fK.refl(vb:Nat)(w:U):fK vb w w:=⟨zg _,λ_ _ _ _ _ h=>h⟩
def fK.A{vb:Nat}{a b c:U}(h:fK vb a b)(k:fK vb b c):fK vb a c:=⟨zY h.q k.q,λx y z e d f=>k.box x y z e d (h.box x y z e d f)⟩
def fK.of{vb:Nat}{w':U}(h:μ w w'):fK vb w w':=⟨h.q,λ_ _ _ _ _ k=>k.u h⟩
def VA(B:Nat)(w:U)(vb:Nat)(vs:κ):Prop:=∃a,Th w vb #[a] 246/\w.r B 9 1 a vs.j (vs.map O.string)
def VA.u{B:Nat}{w w':U}{vb:Nat}{vs:κ}(h:VA B w vb vs)(a:μ w w'):VA B w' vb vs:=by
 obtain⟨b,e,d⟩:=h;exact⟨b,e.u a,zy d a⟩
def Ca(vs args:κ)(k:Nat)(a:k<args.j):xG vs (args.G (k+1))=jX (xG vs (args.G k)) args[k]:=by
 unfold xG;rw[yM a,qZ];rfl
def G7(b:zT t=true)(a:yh t vs=false):jX vs t=vs++[t]:=by simp[jX,b,a]
def Fs(a:zT t=false):jX vs t=vs:=by simp[jX,a]
def Hc(a:yh t vs=true):jX vs t=vs:=by simp[jX,a]
def Uz(d w:U)(vb:Nat)(vs args:κ)(neg:Bool)(r:ByteArray)(va:O)(h0:μ d w)(hs:Tn lo d va args)(M:VA d.o.q w vb vs)(N:d.o.q<=vb)(hl:vs.j+args.j<=1000):
  Calls prog 182 #[(π vb),.agg #[.i neg,.d r,va]] w λe p=>e=ε (.B #[])/\VA d.o.q p vb (xG vs args)/\μ d p/\fK vb w p:=by
 obtain⟨i0,hi,K,F,G⟩:=info_parts SL;obtain⟨ao,H,rfl⟩:=hs.qy;have V:=h0.q;go_enter func182,ntmps182;go_wp2;go_loopw [9] (λi wr=>∃k:Nat,k<=args.j/\i=ι k/\VA d.o.q wr vb (xG vs (args.G k))/\μ d wr/\fK vb w wr) (λi _=>args.j-(intOf i).D);have R:=(zn w.o.q w).C (zg _) (.E #[.i neg,.d r,.k ao args.j H] 90);exact⟨0,zs _,rfl,M.u R,Tk h0 R,fK.of R⟩;obtain⟨k,hk,rfl,o,f,n⟩:=hrel;by_cases E:k<args.j
 .obtain⟨g,rfl,hg,ab⟩:=(hs.u f).cell k E;have z:=Ca vs args k E;have C:=pq (args.G k) vs;have y:(args.G k).j=k:=by simp;omega
  rw[y] at C;clear y;generalize args[k]=t at *;generalize xG vs (args.G k)=m at *;have u:=Tg z;clear z;cases W:zT t
  .have q:xG vs (args.G (k+1))=m:=by rw[u.l,Fs W]
   have B:=Tg q;clear q u;go_wp2_with (go_at_call 156;refine(lX _ _).y ?_;rintro e p ⟨rfl,rfl⟩)
   go_roundw;exact⟨k+1,η,ξ,by rw[B.l];exact o,f,n⟩;simp[intOf];omega
  obtain⟨nv,h,a⟩:=o;obtain⟨ad,S,rfl⟩:=zr a;obtain⟨hc,hf⟩:=h.H;cases hM:yh t m
  .have q:xG vs (args.G (k+1))=m++[t]:=by rw[u.l,G7 W hM]
   have B:=Tg q;clear q u;go_wp2_with (first|(go_at_call 156;refine(lX _ _).y ?_;rintro e p ⟨rfl,rfl⟩)|(go_at_call 183;refine(eG _ vb _ m t h a η).y ?_;rintro e p ⟨rfl,rfl⟩)|(at_builtin;refine gu _ _ _ _ rfl (.tmp 25) (.tmp 27) 30 rfl d.o.q 9 i0 _ 1 16 underlying30 hi K F G rfl θ _ _ _ rfl a (zn _ _) _ _ rfl ζ rfl a_ η η f.q ?_;intro v' P A J I L v x;clear I L;obtain⟨s,j,rfl⟩:=zr A;have l:=Th.push a θ h v;obtain⟨aa,ac⟩:=l.H))
   have Q:fK vb p (P.x (δ vb) (.k s (m.j+1) j)):=⟨by simp[U.setCell];exact x,λb c T h1 h2 h3=>(Th.push a (Ne.symm h2) h3 v).set_ne h1 _ _⟩;have D:VA d.o.q (P.x (δ vb) (.k s (m.j+1) j)) vb (m++[t]):=⟨_,l.set 0 _,by
    have:=xL A ((Tu.refl vb P).x 0 (.k s (m.j+1) j)) l θ;simpa using this⟩
   go_roundw;exact⟨k+1,η,ξ,by rw[B.l];exact D,(f.A J).x N _,n.A Q⟩;simp[intOf];omega
  have q:xG vs (args.G (k+1))=m:=by rw[u.l,Hc hM]
  have B:=Tg q;clear q u;go_wp2_with (first|(go_at_call 156;refine(lX _ _).y ?_;rintro e p ⟨rfl,rfl⟩)|(go_at_call 183;refine(eG _ vb _ m t h a η).y ?_;rintro e p ⟨rfl,rfl⟩))
  go_roundw;exact⟨k+1,η,ξ,by rw[B.l];exact⟨_,h,a⟩,f,n⟩;simp[intOf];omega
 have hE:args.G k=args:=yV η;rw[hE] at o;clear hE;go_wp2;go_end0
 exact⟨rfl,o,f,n⟩
end
section
open Go.Proofs.Tryz Go.RowKit
variable {lo:Nat}
def TL.cell{w:U}{i:Option Addr}{n cap:Nat}{c:Ω}(h:TL lo w (.k i n cap) c)(k:Nat)(s:k<c.j):∃g b a,i=Z (δ g)/\g<w.o.q ∧
  w.p (ω g (k*3))=Z (.i c[k].i)/\w.p (ω g (k*3+1))=Z (.d c[k].o)/\w.p (ω g (k*3+2))=Z (.k b c[k].k.j a)/\Tn lo w (.k b c[k].k.j a) c[k].k:=by
 obtain⟨u,o,l⟩:=h;obtain⟨g,e,f,_,m,d⟩:=yr o η;simp at f;obtain⟨t,p,r,q,j⟩:=l.at k c[k] (by simp[s]);obtain⟨b,a,rfl⟩:=j.qy;exact⟨g,b,a,f.1,m,d _ _ p,d _ _ r,d _ _ q,j⟩
def gC(vs:κ)(l:zj):κ:=xG vs l.k
def qd(vs:κ)(l:zj):κ:=if l.i then vs else xG vs l.k
def uq(c:zc):κ:=c.d.H gC (xG [] c.g.k)
def zx(c:zc):κ:=c.d.H qd []
def xj(a:List zj):Nat:=a.foldr (λl n=>l.k.j+n) 0
def tF(b:Ω):∀k,k<b.j->xj (b.G k)+(b[k]?.map (·.k.j)).g 0<=xj b:=by
 induction b with
 |nil=>intro k h;simp at h
 |cons a b c=>
  intro k h;rcases k with _|k;simp[xj];have:=c k (by simpa using h);simp[xj] at this ⊢;omega
def K1(c:Ω)(a:zj):xj (c++[a])=xj c+a.k.j:=by
 induction c with
 |nil=>simp[xj]
 |cons b c d=>simp[xj] at d ⊢;omega
def Ed(b:Ω):∀vs:κ,(b.H gC vs).j<=vs.j+xj b:=by
 induction b with
 |nil=>intro vs;simp[xj]
 |cons a b c=>intro vs;have:=c (gC vs a);have:=pq a.k vs;simp[xj,gC] at *;omega
def eJ(b:Ω):∀vs:κ,(b.H qd vs).j<=vs.j+xj b:=by
 induction b with
 |nil=>intro vs;simp[xj]
 |cons a b c=>
  intro vs;have e:=c (qd vs a);have d:=pq a.k vs;have f:(qd vs a).j<=vs.j+a.k.j:=by unfold qd;split<;>omega
  simp[xj] at *;omega
def IS(w:U)(c:zc)(P vb:O)(hs:Tn lo w P c.g.k)(V:TL lo w vb c.d)(hl:c.g.k.j+xj c.d<=1000)(af:c.d.j<=1000):
  Calls prog 145 #[.agg #[.i c.g.i,.d c.g.o,P,vb]] w λe T=>∃K,e=ε (.agg #[K])/\T.r w.o.q 9 1 K (uq c).j ((uq c).map O.string)/\μ w T:=by
 obtain⟨u,d,rfl⟩:=hs.qy;obtain⟨f,b,rfl⟩:=V.qy;have M:μ w (((w.C (.E #[.i c.g.i,.d c.g.o,.k u c.g.k.j d,.k f c.d.j b] 171)).C (.E #[ν] 246)).C (.E #[ν] 246)):=γ;have G:VA w.o.q (((w.C (.E #[.i c.g.i,.d c.g.o,.k u c.g.k.j d,.k f c.d.j b] 171)).C (.E #[ν] 246)).C (.E #[ν] 246)) (w.o.q+2) []:=⟨_,by have:=Th.new ((w.C (.E #[.i c.g.i,.d c.g.o,.k u c.g.k.j d,.k f c.d.j b] 171)).C (.E #[ν] 246)) #[ν] 246;simpa using this,xp _ _ _ _⟩;have s:Th (((w.C (.E #[.i c.g.i,.d c.g.o,.k u c.g.k.j d,.k f c.d.j b] 171)).C (.E #[ν] 246)).C (.E #[ν] 246)) (w.o.q+1) #[ν] 246:=by have:=(Th.new (w.C (.E #[.i c.g.i,.d c.g.o,.k u c.g.k.j d,.k f c.d.j b] 171)) #[ν] 246).u ((zn _ _).C (zg _) (.E #[ν] 246));simpa using this
 have z:Th (((w.C (.E #[.i c.g.i,.d c.g.o,.k u c.g.k.j d,.k f c.d.j b] 171)).C (.E #[ν] 246)).C (.E #[ν] 246)) w.o.q #[.i c.g.i,.d c.g.o,.k u c.g.k.j d,.k f c.d.j b] 171:=((Th.new w _ _).u zP).u zP;go_enter func145,ntmps145;go_wp2_with (go_at_call 182;refine(Uz w _ (w.o.q+2) [] c.g.k _ _ _ (by exact M) hs (by exact G) η υ).y ?_;rintro e w1 ⟨rfl,j,r,l⟩;have h:=l.box _ _ _ η θ s;have A:=l.box _ _ _ η θ z;obtain⟨aj,ad,W⟩:=A.e)
 go_loopw [12] (λi wr=>∃k:Nat,k<=c.d.j/\i=ι k/\VA w.o.q wr (w.o.q+2) ((c.d.G k).H gC (xG [] c.g.k))/\μ w wr/\Th wr (w.o.q+1) #[ν] 246) (λi _=>c.d.j-(intOf i).D);exact⟨0,zs _,rfl,j,r,h⟩;obtain⟨k,hk,rfl,t,o,x⟩:=hrel;have R:=o.q;by_cases n:k<c.d.j
 .obtain⟨g,ah,N,rfl,H,E,F,m,J⟩:=V.cell k n;have ae:=zi o H E;have ac:=zi o H F;have aa:=zi o H m;have ai:g<wr.o.q:=η;have S:=Ed (c.d.G k) (xG [] c.g.k);have y:=tF c.d k n;have L:=pq c.g.k [];have C:(c.d.G (k+1)).H gC (xG [] c.g.k)=gC ((c.d.G k).H gC (xG [] c.g.k)) c.d[k]:=by rw[yM n,qZ];rfl
  rw[yn n] at y;simp only[jZ,uD] at y;clear E F m;generalize c.d[k]=a at *;generalize (c.d.G k).H gC (xG [] c.g.k)=vk at *;have HS:=Tg C;clear C;go_wp2_with (go_at_call 182;refine(Uz w _ (w.o.q+2) vk a.k _ _ _ γ J (by exact t.u γ) η (by simp at *;omega)).y ?_;rintro e w1 ⟨rfl,j,r,l⟩;have h:=l.box _ _ _ η θ (x.u γ))
  go_roundw;exact⟨k+1,η,ξ,by rw[HS.l];exact j,r,h⟩;simp[intOf];omega
 have Q:c.d.G k=c.d:=yV η;rw[Q] at t;obtain⟨K,D,p⟩:=t;obtain⟨B,q,rfl⟩:=zr p;obtain⟨hc,hf⟩:=D.H;obtain⟨m,ag⟩:=x.H;have ab:=D.lt;clear Q;go_wp2;have I:=xL p ((Tu.refl (w.o.q+1) wr).x 0 (.k B (c.d.H gC (xG [] c.g.k)).j q)) x θ;exact zO (v:=.agg #[.k B (c.d.H gC (xG [] c.g.k)).j q]) (by simp[results,results145,go_sem,m]) rfl ⟨_,rfl,I,γ⟩
def Bc(w:U)(c:zc)(T vb:O)(hs:Tn lo w T c.g.k)(hb:TL lo w vb c.d)(hl:c.g.k.j+xj c.d<=1000)(ae:c.d.j<=1000):
  Calls prog 148 #[.agg #[.i c.g.i,.d c.g.o,T,vb]] w λe w'=>∃L,e=ε (.agg #[L])/\w'.r w.o.q 9 1 L (zx c).j ((zx c).map O.string)/\μ w w':=by
 obtain⟨r,d,rfl⟩:=hs.qy;obtain⟨f,b,rfl⟩:=hb.qy;have P:μ w (((w.C (.E #[.i c.g.i,.d c.g.o,.k r c.g.k.j d,.k f c.d.j b] 171)).C (.E #[ν] 246)).C (.E #[ν] 246)):=γ;have E:VA w.o.q (((w.C (.E #[.i c.g.i,.d c.g.o,.k r c.g.k.j d,.k f c.d.j b] 171)).C (.E #[ν] 246)).C (.E #[ν] 246)) (w.o.q+2) []:=⟨_,by have:=Th.new ((w.C (.E #[.i c.g.i,.d c.g.o,.k r c.g.k.j d,.k f c.d.j b] 171)).C (.E #[ν] 246)) #[ν] 246;simpa using this,xp _ _ _ _⟩;have q:Th (((w.C (.E #[.i c.g.i,.d c.g.o,.k r c.g.k.j d,.k f c.d.j b] 171)).C (.E #[ν] 246)).C (.E #[ν] 246)) (w.o.q+1) #[ν] 246:=by have:=(Th.new (w.C (.E #[.i c.g.i,.d c.g.o,.k r c.g.k.j d,.k f c.d.j b] 171)) #[ν] 246).u ((zn _ _).C (zg _) (.E #[ν] 246));simpa using this
 have R:Th (((w.C (.E #[.i c.g.i,.d c.g.o,.k r c.g.k.j d,.k f c.d.j b] 171)).C (.E #[ν] 246)).C (.E #[ν] 246)) w.o.q #[.i c.g.i,.d c.g.o,.k r c.g.k.j d,.k f c.d.j b] 171:=((Th.new w _ _).u zP).u zP;go_enter func148,ntmps148;go_wp2;go_loopw [9] (λi wr=>∃k:Nat,k<=c.d.j/\i=ι k/\VA w.o.q wr (w.o.q+2) ((c.d.G k).H qd [])/\μ w wr/\Th wr (w.o.q+1) #[ν] 246) (λi _=>c.d.j-(intOf i).D);exact⟨0,zs _,rfl,E,P,q⟩;obtain⟨k,hk,rfl,l,m,n⟩:=hrel;have W:=m.q;by_cases j:k<c.d.j
 .obtain⟨g,ag,S,rfl,I,C,D,h,K⟩:=hb.cell k j;have B:=zi m I C;have ad:=zi m I D;have ab:=zi m I h;have ah:g<wr.o.q:=η;have aa:=eJ (c.d.G k) [];have u:=tF c.d k j;have M:True:=trivial;have z:(c.d.G (k+1)).H qd []=qd ((c.d.G k).H qd []) c.d[k]:=by rw[yM j,qZ];rfl
  rw[yn j] at u;simp only[jZ,uD] at u;clear C D h;generalize c.d[k]=a at *;generalize (c.d.G k).H qd []=Q at *;have F:=Tg z;clear z;cases t:a.i
  .rw[t] at B;have N:X ((c.d.G (k+1)).H qd []=xG Q a.k):=by rw[X,F.l,qd,t];rfl
   clear F t;go_wp2_with (go_at_call 182;refine(Uz w _ (w.o.q+2) Q a.k _ _ _ γ K (by exact l.u γ) η (by simp at *;omega)).y ?_;rintro e w1 ⟨rfl,x,H,G⟩;have s:=G.box _ _ _ η θ (n.u γ))
   go_roundw;exact⟨k+1,η,ξ,by rw[N.l];exact x,H,s⟩;simp[intOf];omega
  rw[t] at B;have N:X ((c.d.G (k+1)).H qd []=Q):=by rw[X,F.l,qd,t,zb rfl]
  clear F t;go_wp2;go_roundw;exact⟨k+1,η,ξ,by rw[N.l];exact l.u γ,γ,n.u γ⟩;simp[intOf];omega
 have V:c.d.G k=c.d:=yV η;rw[V] at l;obtain⟨L,A,o⟩:=l;obtain⟨y,p,rfl⟩:=zr o;obtain⟨hc,hf⟩:=A.H;obtain⟨h,af⟩:=n.H;have ac:=A.lt;clear V;go_wp2;have J:=xL o ((Tu.refl (w.o.q+1) wr).x 0 (.k y (c.d.H qd []).j p)) n θ;exact zO (v:=.agg #[.k y (c.d.H qd []).j p]) (by simp[results,results148,go_sem,h]) rfl ⟨_,rfl,J,γ⟩
def UI(w:U)(vb:Nat)(b:O)(vs:κ)(a:Th w vb #[b] 246)(hs:Tn lo w b vs):
  Calls prog 146 #[(π vb)] w λe d=>e=ε (ι vs.j)/\d=w:=by
 obtain⟨g,f⟩:=a.H;obtain⟨h,c,rfl⟩:=hs.qy;go_enter func146,ntmps146;go_wp2;go_ret;exact⟨rfl,rfl⟩
def qK(vs args:κ):Bool:=args.all λt=>!zT t||yh t vs
def Ae{α:Type}(l:List α)(p:α->Bool)(k:Nat)(a:k<l.j):(l.drop k).all p=(p l[k]&&(l.drop (k+1)).all p):=by rw[xn a,List.all_cons]
def BL{α:Type}(l:List α)(p:α->Bool)(k:Nat)(a:k<l.j):(l.drop k).any p=(p l[k]||(l.drop (k+1)).any p):=by rw[xn a,List.any_cons]
def ed(w:U)(vb:Nat)(s:O)(vs args:κ)(neg:Bool)(c:ByteArray)(r:O)(h:Th w vb #[s] 246)(y:Tn lo w s vs){n:Nat}(hs:Tn n w r args)(u:vs.j<=1000)(z:args.j<=1000):
  Calls prog 149 #[(π vb),.agg #[.i neg,.d c,r]] w λe f=>e=ε (.i (qK vs args))/\μ w f:=by
 obtain⟨A,o,rfl⟩:=hs.qy;have b:=(zn w.o.q w).C (zg _) (.E #[.i neg,.d c,.k A args.j o] 90);have a:=h.u b;have j:=y.u b;go_enter func149,ntmps149;go_wp2;go_loop [10] (λi=>∃k:Nat,k<=args.j/\i=ι k/\X (qK vs args=(args.drop k).all λt=>!zT t||yh t vs)) (λi=>args.j-(intOf i).D);exact⟨0,zs _,rfl,rfl⟩;obtain⟨k,D,rfl,H⟩:=hrel;by_cases l:k<args.j
 .obtain⟨g,rfl,C,B⟩:=hs.cell k l;have m:=Ae args (λt=>!zT t||yh t vs) k l;generalize args[k]=x at *;have p:X (qK vs args=((!zT x||yh x vs)&&(args.drop (k+1)).all λt=>!zT t||yh t vs)):=by rw[X,H.l,m]
  cases q:zT x
  .have d:X (qK vs args=(args.drop (k+1)).all λt=>!zT t||yh t vs):=by rw[X,p.l,q];rfl
   go_wp2_with (go_at_call 156;refine(lX _ _).y ?_;rintro e f ⟨rfl,rfl⟩)
   go_round;exact⟨k+1,η,ξ,d⟩;simp[intOf];omega
  cases v:yh x vs
  .have d:X (qK vs args=false):=by rw[X,p.l,v,q];rfl
   go_wp2_with (first|(go_at_call 156;refine(lX _ _).y ?_;rintro e f ⟨rfl,rfl⟩)|(go_at_call 183;refine(eG _ vb _ vs x a j u).y ?_;rintro e f ⟨rfl,rfl⟩))
   go_ret;exact⟨by rw[d.l];rfl,b⟩
  have d:X (qK vs args=(args.drop (k+1)).all λt=>!zT t||yh t vs):=by rw[X,p.l,v];simp
  go_wp2_with (first|(go_at_call 156;refine(lX _ _).y ?_;rintro e f ⟨rfl,rfl⟩)|(go_at_call 183;refine(eG _ vb _ vs x a j u).y ?_;rintro e f ⟨rfl,rfl⟩))
  go_round;exact⟨k+1,η,ξ,d⟩;simp[intOf];omega
 have d:X (qK vs args=true):=by rw[X,H.l,ui η];rfl
 go_wp2;go_ret;exact⟨by rw[d.l];rfl,b⟩
def yR(c:zc):Bool:=decide (3<c.g.k.j)||decide (6<c.d.j)||c.d.any (λl=>decide (3<l.k.j))||decide (5<(uq c).j)
def xB(c:zc):Bool:=qK (zx c) c.g.k&&c.d.all λl=>!l.i||qK (zx c) l.k
def Cv(w:U)(c:zc)(C vb:O)(hs:Tn lo w C c.g.k)(K:TL lo w vb c.d)(hl:c.g.k.j+xj c.d<=1000)(D:c.d.j<=1000):
  Calls prog 101 #[.agg #[.i c.g.i,.d c.g.o,C,vb]] w λe w'=>e=ε (.i (yR c))/\μ w w':=by
 have f:=λW I x=>IS (lo:=lo) W c C vb I x hl D;obtain⟨ao,A,rfl⟩:=hs.qy;obtain⟨G,u,rfl⟩:=K.qy;have r:=Tg f;clear f;by_cases h:3<c.g.k.j∨6<c.d.j
 .have j:X (yR c=true):=by unfold X yR;rcases h with h|h<;>simp[h]
  go_enter func101,ntmps101;rcases h with h|h
  .go_wp2;go_ret;exact⟨by rw[j.l];rfl,γ⟩
  by_cases R:3<c.g.k.j
  all_goals
   go_wp2;go_ret;exact⟨by rw[j.l];rfl,γ⟩
 have R:¬3<c.g.k.j:=η;have V:¬6<c.d.j:=η;have j:X (yR c=(c.d.any (λl=>decide (3<l.k.j))||decide (5<(uq c).j))):=by unfold X yR;simp[R,V]
 clear h;go_enter func101,ntmps101;go_wp2;go_loopw [20] (λi wr=>∃k:Nat,k<=c.d.j/\i=ι k/\μ w wr/\Th wr w.o.q #[.i c.g.i,.d c.g.o,.k ao c.g.k.j A,.k G c.d.j u] 171/\X (yR c=((c.d.drop k).any (λl=>decide (3<l.k.j))||decide (5<(uq c).j)))) (λi _=>c.d.j-(intOf i).D);exact⟨0,zs _,rfl,γ,Th.new _ _ _,j⟩;obtain⟨k,hk,rfl,b,n,H⟩:=hrel;have P:=b.q;by_cases t:k<c.d.j
 .obtain⟨g,ad,L,rfl,B,p,s,o,E⟩:=K.cell k t;have ac:=zi b B p;have ab:=zi b B s;have S:=zi b B o;have ae:g<wr.o.q:=η;have m:=BL c.d (λl=>decide (3<l.k.j)) k t;clear p s o E;generalize c.d[k]=a at *;have v:X (yR c=(decide (3<a.k.j)||(c.d.drop (k+1)).any (λl=>decide (3<l.k.j))||decide (5<(uq c).j))):=by rw[X,H.l,m]
  clear m H j;by_cases N:3<a.k.j
  .have q:X (yR c=true):=by rw[X,v.l];simp[N]
   clear v;go_wp2;go_ret;exact⟨by rw[q.l];rfl,γ⟩
  have q:X (yR c=((c.d.drop (k+1)).any (λl=>decide (3<l.k.j))||decide (5<(uq c).j))):=by rw[X,v.l];simp[N]
  clear v;go_wp2;go_roundw;exact⟨k+1,η,ξ,γ,n.u γ,q⟩;simp[intOf];omega
 have q:X (yR c=decide (5<(uq c).j)):=by rw[X,H.l,ui η];simp
 have F:=hs.u b;have z:=K.u b;obtain⟨hc,hf,Q⟩:=n.e;clear H j;go_wp2_with (first|(go_at_call 145;refine(r.l _ F z).y ?_;rintro e w1 ⟨nv,rfl,d,y⟩;obtain⟨aa,M,rfl⟩:=zr d;have J:=Tk b y;have T:=J.q)|(go_at_call 146;refine(UI _ _ _ (uq c) (by exact Th.new _ _ _) (by exact zy d γ)).y ?_;rintro e w2 ⟨rfl,rfl⟩))
 go_ret;exact⟨by rw[q.l];simp;omega,γ⟩
def Ey(w:U)(c:zc)(va vb:O)(hs:Tn lo w va c.g.k)(hb:TL lo w vb c.d)(hl:c.g.k.j+xj c.d<=1000)(ad:c.d.j<=1000):
  Calls prog 103 #[.agg #[.i c.g.i,.d c.g.o,va,vb]] w λe w'=>e=ε (.i (xB c))/\μ w w':=by
 have u:=λW ae aa=>Bc (lo:=lo) W c va vb ae aa hl ad;obtain⟨ao,am,rfl⟩:=hs.qy;obtain⟨ap,aj,rfl⟩:=hb.qy;have x:=Tg u;clear u;have q:(zx c).j<=1000:=by have:=eJ c.d [];unfold zx;simp at this;omega
 have p:∀k (V:k<c.d.j),c.d[k].k.j<=1000:=λk V=>by
  have:=tF c.d k V;rw[yn V] at this;simp at this;omega
 have D:=Tg p;clear p;cases hH:qK (zx c) c.g.k
 .have T:X (xB c=false):=by unfold X xB;simp[hH]
  go_enter func103,ntmps103;go_wp2_with (first|(go_at_call 148;refine(x.l _ (by exact hs.u γ) (by exact hb.u γ)).y ?_;rintro e w1 ⟨nv,rfl,b,n⟩;obtain⟨A,o,rfl⟩:=zr b;have f:=Tk zP n;have z:=f.q;have j:=(Th.new w _ _).u n;obtain⟨ag,ac,Q⟩:=j.e)|(go_at_call 149;refine(ed _ _ _ (zx c) c.g.k _ _ _ (by exact Th.new _ _ _) (by exact zy b γ) (by exact(hs.u f).u γ) q η).y ?_;rintro e w2 ⟨rfl,h⟩;have E:=Tk (f.C z _) h))
  go_ret;exact⟨by rw[T.l];rfl,E⟩
 have T:X (xB c=c.d.all λl=>!l.i||qK (zx c) l.k):=by unfold X xB;simp[hH]
 go_enter func103,ntmps103;go_wp2_with (first|(go_at_call 148;refine(x.l _ (by exact hs.u γ) (by exact hb.u γ)).y ?_;rintro e w1 ⟨nv,rfl,b,n⟩;obtain⟨A,o,rfl⟩:=zr b;have f:=Tk zP n;have z:=f.q;have j:=(Th.new w _ _).u n;obtain⟨ag,ac,Q⟩:=j.e)|(go_at_call 149;refine(ed _ _ _ (zx c) c.g.k _ _ _ (by exact Th.new _ _ _) (by exact zy b γ) (by exact(hs.u f).u γ) q η).y ?_;rintro e w2 ⟨rfl,h⟩;have E:=Tk (f.C z _) h;have af:=h.q;simp only[U.size_alloc] at af;have S:=(j.u zP).u h;obtain⟨an,aq,ab⟩:=S.e;have L:=(Th.new w1 _ _).u h;have C:=zy (zy b zP) h))
 go_loopw [15] (λi wr=>∃k:Nat,k<=c.d.j/\i=ι k/\μ w wr/\Th wr w1.o.q #[.k A (zx c).j o] 246/\Tn 0 wr (.k A (zx c).j o) (zx c)/\X (xB c=(c.d.drop k).all λl=>!l.i||qK (zx c) l.k)) (λi _=>c.d.j-(intOf i).D);exact⟨0,zs _,rfl,E,L,yo C (zs _),T⟩;obtain⟨k,V,rfl,d,r,s,H⟩:=hrel;have ai:=d.q;by_cases F:k<c.d.j
 .obtain⟨g,ar,ah,rfl,hg,N,y,v,P⟩:=hb.cell k F;have M:=zi d hg N;have al:=zi d hg y;have ak:=zi d hg v;have au:g<wr.o.q:=η;have K:=Ae c.d (λl=>!l.i||qK (zx c) l.k) k F;have t:=P.u d;have R:=D.l k F;clear N y v P;generalize c.d[k]=a at *;have J:X (xB c=((!a.i||qK (zx c) a.k)&&(c.d.drop (k+1)).all λl=>!l.i||qK (zx c) l.k)):=by rw[X,H.l,K]
  clear K H T;cases B:a.i
  .have G:X (xB c=(c.d.drop (k+1)).all λl=>!l.i||qK (zx c) l.k):=by rw[X,J.l,B];rfl
   rw[B] at M;clear J B;go_wp2;go_roundw;exact⟨k+1,η,ξ,γ,r.u γ,s.u γ,G⟩;simp[intOf];omega
  rw[B] at M;cases hC:qK (zx c) a.k
  .have G:X (xB c=false):=by rw[X,J.l,hC,B];rfl
   clear J B;go_wp2_with (go_at_call 149;refine(ed _ _ _ (zx c) a.k _ _ _ (by exact r.u γ) (by exact s.u γ) (by exact t.u γ) q R).y ?_;rintro e w3 ⟨rfl,I⟩;have m:=Tk ((zn wr.o.q wr).C (zg _) _) I)
   go_ret;exact⟨by rw[G.l];rfl,Tk d m⟩
  have G:X (xB c=(c.d.drop (k+1)).all λl=>!l.i||qK (zx c) l.k):=by rw[X,J.l,hC];simp
  clear J B;go_wp2_with (go_at_call 149;refine(ed _ _ _ (zx c) a.k _ _ _ (by exact r.u γ) (by exact s.u γ) (by exact t.u γ) q R).y ?_;rintro e w3 ⟨rfl,I⟩;have m:=Tk ((zn wr.o.q wr).C (zg _) _) I)
  go_roundw;exact⟨k+1,η,ξ,Tk d m,r.u m,s.u m,G⟩;simp[intOf];omega
 have G:X (xB c=true):=by rw[X,H.l,ui η];rfl
 clear H T;go_wp2;go_ret;exact⟨by rw[G.l];rfl,d⟩
def TO.cell{T:TypeId}{w:U}{m:Option Addr}{n cap:Nat}{cs:Ξ}(h:TO lo T w (.k m n cap) cs)(k:Nat)(s:k<cs.j):∃g e a c b,m=Z (δ g)/\g<w.o.q ∧
  w.p (ω g (k*4))=Z (.i cs[k].g.i)/\w.p (ω g (k*4+1))=Z (.d cs[k].g.o)/\w.p (ω g (k*4+2))=Z (.k e cs[k].g.k.j a) ∧
  w.p (ω g (k*4+3))=Z (.k c cs[k].d.j b)/\Tn lo w (.k e cs[k].g.k.j a) cs[k].g.k/\TL lo w (.k c cs[k].d.j b) cs[k].d:=by
 obtain⟨z,t,p⟩:=h;obtain⟨g,l,i,_,o,d⟩:=yr t η;simp at i;obtain⟨x,y,u,r,v,q,f,j⟩:=p.at k cs[k] (by simp[s]);obtain⟨e,a,rfl⟩:=f.qy;obtain⟨c,b,rfl⟩:=j.qy;exact⟨g,e,a,c,b,i.1,o,d _ _ u,d _ _ r,d _ _ v,d _ _ q,f,j⟩
def qo(c:zc):Prop:=c.g.k.j+xj c.d<=1000/\c.d.j<=1000
def ty(w:U)(v:O)(cs:Ξ)(p:TO lo 171 w v cs)(A:∀c∈cs,qo c)(S:cs.j<=1000):
  Calls prog 61 #[v] w λe R=>e=ε (.i (cs.any yR))/\μ w R:=by
 obtain⟨T,M,rfl⟩:=p.qy;have y:=Tg A;go_enter func61,ntmps61;go_wp2;go_loopw [7] (λi wr=>∃k:Nat,k<=cs.j/\i=ι k/\μ w wr/\X (cs.any yR=(cs.drop k).any yR)) (λi _=>cs.j-(intOf i).D);exact⟨0,zs _,rfl,zn _ _,rfl⟩;obtain⟨k,V,rfl,b,H⟩:=hrel;have F:=b.q;by_cases l:k<cs.j
 .have r:=BL cs yR k l;obtain⟨g,Q,C,K,D,rfl,q,x,B,u,t,z,s⟩:=p.cell k l;have P:=zi b q x;have L:=zi b q B;have I:=zi b q u;have J:=zi b q t;have d:=z.u b;have f:=s.u b;obtain⟨m,n⟩:=y.l _ (zq l);generalize cs[k]=a at *;have E:X (cs.any yR=(yR a||(cs.drop (k+1)).any yR)):=by rw[X,H.l,r]
  cases G:yR a
  .have o:X (cs.any yR=(cs.drop (k+1)).any yR):=by rw[X,E.l,G];rfl
   go_wp2_with (go_at_call 101;refine(Cv _ a _ _ (by exact d.u γ) (by exact f.u γ) m n).y ?_;rintro e N ⟨rfl,h⟩;have j:=Tk ((zn wr.o.q wr).C (zg _) _) h)
   go_roundw;exact⟨k+1,η,ξ,Tk b j,o⟩;simp[intOf];omega
  have o:X (cs.any yR=true):=by rw[X,E.l,G];rfl
  go_wp2_with (go_at_call 101;refine(Cv _ a _ _ (by exact d.u γ) (by exact f.u γ) m n).y ?_;rintro e N ⟨rfl,h⟩;have j:=Tk ((zn wr.o.q wr).C (zg _) _) h)
  go_ret;exact⟨by rw[o.l];rfl,Tk b j⟩
 have o:X (cs.any yR=false):=by rw[X,H.l,ui η];rfl
 go_wp2;go_ret;exact⟨by rw[o.l];rfl,b⟩
def Au(w:U)(v:O)(cs:Ξ)(p:TO lo 171 w v cs)(A:∀c∈cs,qo c)(S:cs.j<=1000):
  Calls prog 63 #[v] w λe R=>e=ε (.i (cs.all xB))/\μ w R:=by
 obtain⟨T,M,rfl⟩:=p.qy;have y:=Tg A;go_enter func63,ntmps63;go_wp2;go_loopw [7] (λi wr=>∃k:Nat,k<=cs.j/\i=ι k/\μ w wr/\X (cs.all xB=(cs.drop k).all xB)) (λi _=>cs.j-(intOf i).D);exact⟨0,zs _,rfl,zn _ _,rfl⟩;obtain⟨k,V,rfl,b,H⟩:=hrel;have F:=b.q;by_cases l:k<cs.j
 .have r:=Ae cs xB k l;obtain⟨g,Q,C,K,D,rfl,q,x,B,u,t,z,s⟩:=p.cell k l;have P:=zi b q x;have L:=zi b q B;have I:=zi b q u;have J:=zi b q t;have d:=z.u b;have f:=s.u b;obtain⟨m,n⟩:=y.l _ (zq l);generalize cs[k]=a at *;have E:X (cs.all xB=(xB a&&(cs.drop (k+1)).all xB)):=by rw[X,H.l,r]
  cases G:xB a
  .have o:X (cs.all xB=false):=by rw[X,E.l,G];rfl
   go_wp2_with (go_at_call 103;refine(Ey _ a _ _ (by exact d.u γ) (by exact f.u γ) m n).y ?_;rintro e N ⟨rfl,h⟩;have j:=Tk ((zn wr.o.q wr).C (zg _) _) h)
   go_ret;exact⟨by rw[o.l];rfl,Tk b j⟩
  have o:X (cs.all xB=(cs.drop (k+1)).all xB):=by rw[X,E.l,G];rfl
  go_wp2_with (go_at_call 103;refine(Ey _ a _ _ (by exact d.u γ) (by exact f.u γ) m n).y ?_;rintro e N ⟨rfl,h⟩;have j:=Tk ((zn wr.o.q wr).C (zg _) _) h)
  go_roundw;exact⟨k+1,η,ξ,Tk b j,o⟩;simp[intOf];omega
 have o:X (cs.all xB=true):=by rw[X,H.l,ui η];rfl
 go_wp2;go_ret;exact⟨by rw[o.l];rfl,b⟩
end
section
open Go.Proofs.Tryz Go.RowKit
structure zf where
 name:ByteArray
 jh:Nat
 L:Nat
abbrev Ψ:=List zf
def TB(a b:ByteArray):Bool:=Op.bytesLess a.v b.v
def zV:List zf->ByteArray->Nat
 |[],_=>0
 |e::r,n=>if TB e.name n then zV r n+1 else 0
def Ad:∀(t:Ψ) (n:ByteArray),zV t n<=t.j
 |[],_=>zg _
 |e::r,n=>by have:=Ad r n;unfold zV;split<;>simp<;>omega
def oB:∀(t:Ψ) (n:ByteArray) (k:Nat),(∀j (c:j<t.j),j<k->TB t[j].name n=true)->k<=t.j->zV t n=k+zV (t.drop k) n
 |[],n,k,_,a=>by simp at a;subst a;simp
 |e::r,n,0,_,_=>ζ
 |e::r,n,k+1,h,a=>by
  have b:=h 0 ζ η;simp at b;have:=oB r n k (λj c d=>by have:=h (j+1) (by simpa using c) η;simpa using this) (by simpa using a);simp[zV,b];omega
def GT(t:Ψ)(n:ByteArray)(k:Nat)(h:∀j (c:j<t.j),j<k->TB t[j].name n=true)(b:k<t.j)(a:TB t[k].name n=false):zV t n=k:=by
 rw[oB t n k h η,xn b,zV,a];rfl
def EJ(t:Ψ)(n:ByteArray)(h:∀j (a:j<t.j),TB t[j].name n=true):zV t n=t.j:=by
 rw[oB t n t.j (λj a _=>h j a) (zg _)];simp[zV]
def um(t:List zf):List Value:=t.flatMap λe=>[.d e.name,ι (e.jh:Int),ι (e.L:Int)]
def Bq(t:Ψ):(um t).j=t.j*3:=by
 induction t with
 |nil=>rfl
 |cons a t b=>simp[um] at b ⊢;omega
def GD:∀(t:Ψ) (k:Nat) (a:k<t.j),(um t)[k*3]?=Z (.d t[k].name)/\(um t)[k*3+1]?=Z (ι (t[k].jh:Int))/\(um t)[k*3+2]?=Z (ι (t[k].L:Int))
 |[],k,a=>by simp at a
 |e::r,0,_=>by simp[um]
 |e::r,k+1,a=>by
  have:=GD r k (by simpa using a);simp only[um,uU] at this ⊢;rw[show(k+1)*3=k*3+1+1+1 from by omega,show k*3+1+1+1+1=k*3+1+1+1+1 from rfl,show k*3+1+1+1+2=k*3+2+1+1+1 from by omega];simpa using this
def TA(B:Nat)(w:U)(tb:Nat)(t:List zf):Prop:=∃a,Th w tb #[a] 127/\w.r B 221 3 a t.j (um t)
def TA.u{B:Nat}{w w':U}{tb:Nat}{t:Ψ}(h:TA B w tb t)(a:μ w w'):TA B w' tb t:=by
 obtain⟨b,d,c⟩:=h;exact⟨b,d.u a,zy c a⟩
def TA.view{B:Nat}{w:U}{tb:Nat}{t:Ψ}(h:TA B w tb t):∃b a,Th w tb #[.k b t.j a] 127/\w.r B 221 3 (.k b t.j a) t.j (um t):=by
 obtain⟨e,d,c⟩:=h;obtain⟨b,a,rfl⟩:=zr c;exact⟨b,a,d,c⟩
def gx{B:Nat}{w:U}{d:Option Addr}{n cap:Nat}{t:Ψ}(h:w.r B 221 3 (.k d n cap) t.j (um t))(k:Nat)(l:k<t.j):∃g,d=Z (δ g)/\g<w.o.q/\B<=g ∧
  w.p (ω g (k*3))=Z (.d t[k].name)/\w.p (ω g (k*3+1))=Z (ι (t[k].jh:Int))/\w.p (ω g (k*3+2))=Z (ι (t[k].L:Int)):=by
 obtain⟨g,b,c,e,f,a⟩:=yr h η;simp at c;obtain⟨i,m,j⟩:=GD t k l;exact⟨g,c.1,f,e,a _ _ i,a _ _ m,a _ _ j⟩
def io(B:Nat)(w:U)(tb:Nat)(t:Ψ)(n:ByteArray)(h:TA B w tb t)(s:t.j<=1000):
  Calls prog 126 #[(π tb),.d n] w λe p=>e=ε (ι (zV t n))/\p=w:=by
 obtain⟨y,o,l,b⟩:=h.view;obtain⟨v,r⟩:=l.H;go_enter func126,ntmps126;go_wp2;go_loop [5] (λi=>∃k:Nat,k<=t.j/\i=ι k/\X (∀j (a:j<t.j),j<k->TB t[j].name n=true)) (λi=>t.j-(intOf i).D);exact⟨0,zs _,rfl,λj a h=>η⟩;obtain⟨k,x,rfl,H⟩:=hrel;by_cases d:k<t.j
 .obtain⟨g,rfl,u,_,q,_,_⟩:=gx b k d;cases f:TB t[k].name n
  .have c:=Tg (GT t n k H.l d f);unfold TB at f;go_wp2;go_ret;exact⟨by rw[c.l];rfl,rfl⟩
  have c:X (∀j (a:j<t.j),j<k+1->TB t[j].name n=true):=λj a h=>by
   rcases dV j k with m|m;exact H.l j a m;obtain rfl:j=k:=η;exact f
  unfold TB at f;go_wp2;go_round;exact⟨k+1,η,ξ,c⟩;simp[intOf];omega
 have c:X (zV t n=k):=by
  have:=EJ t n (λj a=>H.l j a η);unfold X;omega
 go_wp2;go_ret;exact⟨by rw[c.l];rfl,rfl⟩
end
section
open Go.Proofs.Tryz Go.RowKit
variable {xs:List O}
def vg{w:U}{b:Nat}{e:TypeId}{a g n cap m:Nat}(h:w.r b e a (.k (Z (δ g)) n cap) m xs)(o:Nat):w.frozen? (ω g o)=false:=by
 obtain⟨_,⟨c,_⟩|⟨j,d,i,c,_,f,_⟩⟩:=h;cases c;simp at c;obtain⟨rfl,_⟩:=c;unfold U.frozen?;rw[f];simp
def uB{w:U}{b:Nat}{e:TypeId}{a g n cap m:Nat}(h:w.r b e a (.k (Z (δ g)) n cap) m xs)(j:Nat)(_:j<xs.j)(u:O):
  (w.x (ω g j) u).r b e a (.k (Z (δ g)) n cap) m (xs.set j u):=by
 obtain⟨i,⟨c,_⟩|⟨s,f,d,c,k,l,q,o,r,p⟩⟩:=h;cases c;simp at c;obtain⟨rfl,rfl,rfl⟩:=c;refine⟨by simpa using i,ze ⟨g,cap,d.setIfInBounds j u,rfl,k,?_,q,o,by simpa using r,?_⟩⟩;simp[U.setCell,Array.getElem?_modify,l];rw[←p];rw[Array.toList_setIfInBounds,List.take_set]
def zU(t:List zf)(n:ByteArray):Option zf:=match t[zV t n]? with
 |none=>Y
 |some e=>if e.name=n then Z e else Y
def jw{t:Ψ}{n:ByteArray}{e:zf}(h:zU t n=Z e):∃b:zV t n<t.j,t[zV t n]=e/\e.name=n:=by
 unfold zU at h;split at h;cases h;rename_i c a;split at h<;>simp at h
 subst h;obtain⟨b,a⟩:=j5.1 a;exact⟨b,a,by assumption⟩
def iQ{t:Ψ}{n:ByteArray}(h:zU t n=Y):¬zV t n<t.j∨∃b:zV t n<t.j,t[zV t n].name≠n:=by
 unfold zU at h;split at h;rename_i a;left;rw[List.getElem?_eq_none_iff] at a;omega;rename_i e a;split at h<;>simp at h
 obtain⟨b,a⟩:=j5.1 a;right;exact⟨b,by rw[a];assumption⟩
def CE(B:Nat)(w:U)(tb:Nat)(t:Ψ)(n:ByteArray)(h:TA B w tb t)(l:t.j<=1000)(j:zU t n=Y):
  Calls prog 77 #[(π tb),.d n] w λe d=>e=ε (.B #[ι 0,.i false])/\d=w:=by
 have f:=io B w tb t n h l;obtain⟨u,m,c,b⟩:=h.view;obtain⟨r,p⟩:=c.H;have a:=Tg f;rcases iQ j with k|⟨k,i⟩
 .clear j;go_enter func77,ntmps77;go_wp2_with (go_at_call 126;refine a.l.y ?_;rintro e d ⟨rfl,rfl⟩;clear a)
  go_ret2
  exact⟨rfl,rfl⟩
 obtain⟨g,rfl,s,_,o,_,_⟩:=gx b _ k;have q:=vV i;go_enter func77,ntmps77;go_wp2_with (go_at_call 126;refine a.l.y ?_;rintro e d ⟨rfl,rfl⟩;clear a)
 go_ret2
 exact⟨rfl,rfl⟩
def DR(B:Nat)(w:U)(tb:Nat)(t:Ψ)(n:ByteArray)(m:zf)(h:TA B w tb t)(l:t.j<=1000)(p:zU t n=Z m):
  Calls prog 77 #[(π tb),.d n] w λe k=>e=ε (.B #[ι (zV t n),.i true])/\k=w:=by
 have f:=io B w tb t n h l;obtain⟨x,o,c,a⟩:=h.view;obtain⟨v,s⟩:=c.H;have b:=Tg f;obtain⟨q,j,r⟩:=jw p;obtain⟨g,rfl,u,_,i,_,d⟩:=gx a _ q;rw[j] at i d;go_enter func77,ntmps77;go_wp2_with (go_at_call 126;refine b.l.y ?_;rintro e k ⟨rfl,rfl⟩;clear b)
 go_ret2
 exact⟨rfl,rfl⟩
def Ra(B:Nat)(w:U)(tb:Nat)(t:Ψ)(n:ByteArray)(h:TA B w tb t)(b:t.j<=1000)(d:zU t n=Y):
  Calls prog 159 #[(π tb),.d n] w λe a=>e=ε (.B #[ι 0,.i false])/\a=w:=by
 have c:=Tg (CE B w tb t n h b d);clear h d b;go_enter func159,ntmps159;go_wp2_with (go_at_call 77;refine c.l.y ?_;rintro e a ⟨rfl,rfl⟩;clear c)
 go_ret2
 exact⟨rfl,rfl⟩
def Gl(B:Nat)(w:U)(tb:Nat)(t:Ψ)(n:ByteArray)(c:zf)(h:TA B w tb t)(j:t.j<=1000)(f:zU t n=Z c):
  Calls prog 159 #[(π tb),.d n] w λe i=>e=ε (.B #[ι c.L,.i true])/\i=w:=by
 have d:=Tg (DR B w tb t n c h j f);obtain⟨v,k,b,a⟩:=h.view;obtain⟨u,r⟩:=b.H;obtain⟨p,o,q⟩:=jw f;obtain⟨g,rfl,s,_,m,_,l⟩:=gx a _ p;go_enter func159,ntmps159;go_wp2_with (go_at_call 77;refine d.l.y ?_;rintro e i ⟨rfl,rfl⟩;clear d)
 go_ret2
 exact⟨rfl,rfl⟩
def GI:∀(t:Ψ) (k:Nat) (e:zf) (d:k<t.j),t[k].name=e.name->t[k].jh=e.jh->(um t).set (k*3+2) (ι (e.L:Int))=um (t.set k e)
 |[],k,_,d,_,_=>by simp at d
 |a::r,0,e,_,c,b=>by simp at c b;simp[um,c,b]
 |a::r,k+1,e,d,c,b=>by
  have:=GI r k e (by simpa using d) (by simpa using c) (by simpa using b);simp only[um,uU,rt] at this ⊢;rw[show(k+1)*3+2=k*3+2+1+1+1 from by omega];simpa using this
def xW(t:List zf)(n:ByteArray)(s:Nat):List zf×Bool:=match zU t n with
 |none=>(t,false)
 |some e=>if s<=e.L then(t,false) else(t.set (zV t n) {e with L:=s},true)
def LE(t:Ψ)(n:ByteArray)(s:Nat):(xW t n s).1.j=t.j:=by
 unfold xW;split;rfl;split<;>simp
def Ux(B:Nat)(w:U)(tb:Nat)(t:Ψ)(n:ByteArray)(s:Nat)(h:TA B w tb t)(y:t.j<=1000)(_:s<=3000000):
  Calls prog 151 #[(π tb),.d n,ι s] w λe o=>e=ε (.i (xW t n s).2)/\TA B o tb (xW t n s).1/\Below B w o:=by
 obtain⟨N,E,b,a⟩:=h.view;obtain⟨M,J⟩:=b.H;have x:=Tg h;rcases f:zU t n with _|k
 .have l:X (xW t n s=(t,false)):=by unfold X xW;rw[f]
  have d:=Tg (CE B w tb t n h y f);rw[l.l];go_enter func151,ntmps151;go_wp2_with (go_at_call 77;refine d.l.y ?_;rintro e o ⟨rfl,rfl⟩;clear d)
  go_ret;exact⟨rfl,x,zn _ _⟩
 have d:=Tg (DR B w tb t n k h y f);obtain⟨A,m,H⟩:=jw f;obtain⟨g,rfl,K,v,F,_,C⟩:=gx a _ A;have G:=vg a;by_cases i:s<=k.L
 .have l:X (xW t n s=(t,false)):=by unfold X xW;rw[f];simp[i]
  rw[l.l];go_enter func151,ntmps151;go_wp2_with (go_at_call 77;refine d.l.y ?_;rintro e o ⟨rfl,rfl⟩;clear d)
  go_ret;exact⟨rfl,x,zn _ _⟩
 have l:X (xW t n s=(t.set (zV t n) {k with L:=s},true)):=by unfold X xW;rw[f];simp[i]
 rw[l.l];have c:=uB a (zV t n*3+2) (by rw[Bq];omega) (ι (s:Int));rw[GI t (zV t n) {k with L:=s} A (by rw[m]) (by rw[m])] at c;have j:tb≠g:=by
  intro r;subst r;obtain⟨_,⟨q,_⟩|⟨L,z,I,q,_,D,_⟩⟩:=a;cases q;simp at q;obtain⟨rfl,_⟩:=q;unfold Th at b;rw[D] at b;simp at b
 have p:=b.set_ne j (zV t n*3+2) (ι (s:Int));have u:X (TA B (w.x (ω g (zV t n*3+2)) (ι (s:Int))) tb (t.set (zV t n) {k with L:=s})):=⟨_,p,by simpa using c⟩;go_enter func151,ntmps151;go_wp2_with (go_at_call 77;refine d.l.y ?_;rintro e o ⟨rfl,rfl⟩;clear d)
 go_ret;exact⟨rfl,u,(zn _ _).x v _⟩
end
section
open Go.Proofs.Tryz Go.RowKit
variable {lo:Nat}
def kw(t:List zf)(l:zj):Nat:=match zU t l.o with
 |none=>0
 |some e=>if l.i then e.L+1 else e.L
def qT(t:List zf)(n:Nat)(l:zj):Nat:=if n<kw t l then kw t l else n
def qY(t:List zf)(c:zc):Nat:=c.d.H (qT t) 0
def GW{t:Ψ}{M:Nat}(h:∀e∈t,e.L<=M)(l:zj):kw t l<=M+1:=by
 unfold kw;split;omega;rename_i e b;obtain⟨c,a,_⟩:=jw b;have:=h e (by rw[←a];exact zq c);split<;>omega
def Ie{t:Ψ}{M:Nat}(h:∀e∈t,e.L<=M):∀(a:Ω) (n:Nat),n<=M+1->a.H (qT t) n<=M+1
 |[],n,b=>b
 |l::a,n,b=>by
  refine Ie h a _ ?_;unfold qT;have:=GW h l;split<;>omega
def FW(B M:Nat)(w:U)(tb:Nat)(t:Ψ)(c:zc)(J vb:O)(h:TA B w tb t)(E:t.j<=1000)(N:∀e∈t,e.L<=M)(ac:M<=2000000)(hs:Tn lo w J c.g.k)(Q:TL lo w vb c.d)(V:c.d.j<=1000):
  Calls prog 150 #[(π tb),.agg #[.i c.g.i,.d c.g.o,J,vb]] w λe w'=>e=ε (ι (qY t c))/\μ w w':=by
 obtain⟨ao,T,rfl⟩:=hs.qy;obtain⟨W,P,rfl⟩:=Q.qy;have HM:=Tg N;clear N;go_enter func150,ntmps150;go_wp2;go_loopw [5,13] (λn i wr=>∃k m:Nat,k<=c.d.j/\i=ι k/\n=ι m/\m<=M+1/\μ w wr/\X (m=(c.d.G k).H (qT t) 0)) (λ_ i _=>c.d.j-(intOf i).D);exact⟨0,0,zs _,rfl,rfl,zs _,γ,rfl⟩;obtain⟨k,m,hk,rfl,rfl,G,d,H⟩:=hrel;have L:=d.q;by_cases z:k<c.d.j
 .obtain⟨g,aa,I,rfl,C,x,y,u,D⟩:=Q.cell k z;have v:=zi d C x;have S:=zi d C y;have R:=zi d C u;have ab:g<wr.o.q:=η;have s:X ((c.d.G (k+1)).H (qT t) 0=qT t m c.d[k]):=by rw[X,H.l,yM z,qZ];rfl
  have q:=h.u d;clear x y u D H;generalize c.d[k]=a at *;have p:=GW HM.l a;rcases j:zU t a.o with _|f
  .have l:X (kw t a=0):=by unfold X kw;rw[j]
   have F:X ((c.d.G (k+1)).H (qT t) 0=m):=by rw[X,s.l,qT,l.l];simp
   have A:=Tg j;clear s l j p;go_wp2_with (go_at_call 159;refine(Ra B _ tb t a.o (by exact q.u γ) E A).y ?_;rintro e K ⟨rfl,rfl⟩)
   go_roundw;exact⟨k+1,m,η,ξ,rfl,G,γ,F.l.z⟩;simp[intOf];omega
  have A:=Tg j;cases r:a.i
  .have o:kw t a=f.L:=by unfold kw;rw[j,r];rfl
   have l:X (qT t m a=if m<f.L then f.L else m):=by unfold X qT;rw[o]
   rw[r] at v;rw[o] at p;clear o j r;by_cases b:m<f.L
   all_goals
    go_wp2_with (go_at_call 159;refine(Gl B _ tb t a.o f (by exact q.u γ) E A).y ?_;rintro e K ⟨rfl,rfl⟩)
    go_roundw;first|exact⟨k+1,f.L,η,ξ,ξ,η,γ,by rw[X,s.l,l.l,zb b]⟩|exact⟨k+1,m,η,ξ,rfl,G,γ,by rw[X,s.l,l.l,za b]⟩
    simp[intOf];omega
  have o:kw t a=f.L+1:=by unfold kw;rw[j,r];rfl
  have l:X (qT t m a=if m<f.L+1 then f.L+1 else m):=by unfold X qT;rw[o]
  rw[r] at v;rw[o] at p;clear o j r;by_cases b:m<f.L+1
  all_goals
   go_wp2_with (go_at_call 159;refine(Gl B _ tb t a.o f (by exact q.u γ) E A).y ?_;rintro e K ⟨rfl,rfl⟩)
   go_roundw;first|exact⟨k+1,f.L+1,η,ξ,ξ,η,γ,by rw[X,s.l,l.l,zb b]⟩|exact⟨k+1,m,η,ξ,rfl,G,γ,by rw[X,s.l,l.l,za b]⟩
   simp[intOf];omega
 have F:X (m=qY t c):=by rw[X,H.l,yV η];rfl
 clear H;go_wp2;go_ret;exact⟨by rw[←F.l];rfl,d⟩
def vZ(x:List zf×Bool)(c:zc):List zf×Bool:=((xW x.1 c.g.o (qY x.1 c)).1,x.2||(xW x.1 c.g.o (qY x.1 c)).2)
def qk(t:List zf)(cs:List zc):List zf×Bool:=cs.H vZ (t,false)
def Oi{t:Ψ}{n:ByteArray}{s M:Nat}(h:∀e∈t,e.L<=M)(hs:s<=M):∀e∈(xW t n s).1,e.L<=M:=by
 unfold xW;split;exact h;split;exact h;intro e a;rcases lK a with a|a;exact h e a;subst a;exact hs
def PP{α β:Type}(f:β->α->β)(b:β)(l:List α)(k:Nat)(a:k<l.j):(l.G (k+1)).H f b=f ((l.G k).H f b) l[k]:=by rw[yM a,qZ];rfl
def Pt(B M:Nat)(w:U)(tb:Nat)(t:Ψ)(v:O)(cs:Ξ)(J:U)(T:J.o.q=B)(P:Below B J w)(N:TO lo 171 J v cs)(L:∀c∈cs,qo c)(_:cs.j<=1000)
  (h:TA B w tb t) (hl:t.j<=1000) (hM:∀e∈t,e.L<=M) (av:M+cs.j<=1900000):
  Calls prog 104 #[(π tb),v] w λe w'=>e=ε (.i (qk t cs).2)/\TA B w' tb (qk t cs).1/\Below B w w'/\(qk t cs).1.j=t.j/\(∀e∈(qk t cs).1,e.L<=M+cs.j):=by
 obtain⟨ao,am,rfl⟩:=N.qy;have aa:X (∀c∈cs,qo c):=L;have ae:=P.q;clear L;go_enter func104,ntmps104;go_wp2;go_loopw [5,11] (λr i wr=>∃k:Nat,k<=cs.j/\i=ι k/\r=.i ((cs.G k).H vZ (t,false)).2/\Below B w wr/\TA B wr tb ((cs.G k).H vZ (t,false)).1/\((cs.G k).H vZ (t,false)).1.j=t.j/\X (∀e∈((cs.G k).H vZ (t,false)).1,e.L<=M+k)) (λ_ i _=>cs.j-(intOf i).D);exact⟨0,zs _,rfl,rfl,zn _ _,h,rfl,hM⟩;obtain⟨k,hk,rfl,rfl,b,d,z,u⟩:=hrel;have j:Below J.o.q J wr:=by rw[T];exact P.A b
 have ag:=b.q;by_cases D:k<cs.j
 .have F:=PP vZ (t,false) cs k D;obtain⟨g,aq,ad,ak,af,rfl,hg,I,Q,H,G,K,s⟩:=N.cell k D;have an:=(j.cell (p:=(ω g (k*4))) η).A I;have al:=(j.cell (p:=(ω g (k*4+1))) η).A Q;have ai:=(j.cell (p:=(ω g (k*4+2))) η).A H;have aj:=(j.cell (p:=(ω g (k*4+3))) η).A G;have ar:g<wr.o.q:=η;have o:=K.u j;have q:=s.u j;obtain⟨ah,E⟩:=aa.l _ (zq D);clear I Q H G K s;generalize cs[k]=a at *;generalize (cs.G k).H vZ (t,false)=x at *;obtain⟨tk,rk⟩:=x;simp only at d z u ⊢;have R:X ((cs.G (k+1)).H vZ (t,false)=vZ (tk,rk) a):=F;clear F;have au:qY tk a<=M+k+1:=Ie u.l a.d 0 η;have ap:=LE tk a.g.o (qY tk a);have HB:X (∀e∈(xW tk a.g.o (qY tk a)).1,e.L<=M+(k+1)):=Oi (λe he=>by have:=u.l e he;omega) η;cases hR:(xW tk a.g.o (qY tk a)).2
  .have n:X (((cs.G (k+1)).H vZ (t,false))=((xW tk a.g.o (qY tk a)).1,rk)):=by rw[X,R.l,vZ];simp[hR]
   clear R;go_wp2_with (first|(go_at_call 150;refine(FW B (M+k) _ tb tk a _ _ (by exact d.u γ) η u.l η (by exact o.u γ) (by exact q.u γ) E).y ?_;rintro e w1 ⟨rfl,l⟩;have f:=Tk ((zn wr.o.q wr).C (zg _) _) l;have y:=d.u f;have S:=f.q;have m:=(Th.new wr _ _).u l;obtain⟨ab,ac⟩:=m.H)|(go_at_call 151;refine(Ux B _ tb tk a.g.o (qY tk a) y η η).y ?_;rintro e w2 ⟨rfl,A,C⟩))
   go_roundw;exact⟨k+1,η,ξ,by rw[n.l],(b.A (f.y η)).A C,by rw[n.l];exact A,by rw[n.l];simp only;omega,by rw[n.l];exact HB⟩;simp[intOf];omega
  have n:X (((cs.G (k+1)).H vZ (t,false))=((xW tk a.g.o (qY tk a)).1,true)):=by rw[X,R.l,vZ];simp[hR]
  clear R;go_wp2_with (first|(go_at_call 150;refine(FW B (M+k) _ tb tk a _ _ (by exact d.u γ) η u.l η (by exact o.u γ) (by exact q.u γ) E).y ?_;rintro e w1 ⟨rfl,l⟩;have f:=Tk ((zn wr.o.q wr).C (zg _) _) l;have y:=d.u f;have S:=f.q;have m:=(Th.new wr _ _).u l;obtain⟨ab,ac⟩:=m.H)|(go_at_call 151;refine(Ux B _ tb tk a.g.o (qY tk a) y η η).y ?_;rintro e w2 ⟨rfl,A,C⟩))
  go_roundw;exact⟨k+1,η,ξ,by rw[n.l],(b.A (f.y η)).A C,by rw[n.l];exact A,by rw[n.l];simp only;omega,by rw[n.l];exact HB⟩;simp[intOf];omega
 have hE:cs.G k=cs:=yV η;rw[hE] at d z u ⊢;have W:k=cs.j:=η;have V:X (∀e∈(qk t cs).1,e.L<=M+cs.j):=by rw[←W];exact u
 clear hE u;go_wp2;go_ret;exact⟨rfl,d,b,z,V⟩
def ul:Nat->List zf->List zc->List zf×Bool
 |0,t,_=>(t,false)
 |m+1,t,a=>if (qk t a).2 then ul m (qk t a).1 a else((qk t a).1,true)
def HY(B:Nat)(w:U)(tb:Nat)(t:Ψ)(v:O)(cs:Ξ)(r:U)(o:r.o.q=B)(J:Below B r w)(I:TO lo 171 r v cs)(y:∀c∈cs,qo c)(s:cs.j<=1000)
  (h:TA B w tb t) (V:t.j<=1000) (R:∀e∈t,e.L<=0):
  Calls prog 64 #[(π tb),v] w λe A=>e=ε (.i (ul (t.j+1) t cs).2)/\TA B A tb (ul (t.j+1) t cs).1/\Below B w A:=by
 have F:X (∀c∈cs,qo c):=y;have P:X (r.o.q=B):=o;clear y o;go_enter func64,ntmps64;go_wp2;go_loopw [5] (λi wr=>∃(p:Nat) (tk:Ψ),p<=t.j+1/\i=ι p/\Below B w wr/\TA B wr tb tk/\tk.j=t.j/\X (∀e∈tk,e.L<=p*cs.j)/\X (ul (t.j+1) t cs=ul (t.j+1-p) tk cs)) (λi _=>t.j+1-(intOf i).D);exact⟨0,t,zs _,rfl,zn _ _,h,rfl,(by simpa [X] using R),rfl⟩;obtain⟨p,tk,hp,rfl,b,d,E,L,H⟩:=hrel;obtain⟨W,M,q,m⟩:=d.view;obtain⟨Q,T⟩:=q.H;rw[E] at Q q m;by_cases S:p<=t.j
 .have u:p*cs.j<=1000*1000:=Nat.mul_le_mul η s;have z:=Pt B (p*cs.j) wr tb tk v cs r P.l (J.A b) I F.l s d η L.l η;have a:X (Calls prog 104 #[(π tb),v] wr λe A=>e=ε (.i (qk tk cs).2)/\TA B A tb (qk tk cs).1/\Below B wr A/\(qk tk cs).1.j=tk.j/\(∀e∈(qk tk cs).1,e.L<=p*cs.j+cs.j)):=z;have x:t.j+1-p=(t.j-p)+1:=η;have C:X (ul (t.j+1) t cs=if (qk tk cs).2 then ul (t.j-p) (qk tk cs).1 cs else((qk tk cs).1,true)):=by rw[X,H.l,x];rfl
  clear z x H;have n:p*cs.j+cs.j=(p+1)*cs.j:=by rw[lG];omega
  have G:X (p*cs.j+cs.j=(p+1)*cs.j):=n;clear n u L;cases l:(qk tk cs).2
  .have j:X (ul (t.j+1) t cs=((qk tk cs).1,true)):=by rw[X,C.l,l];simp
   clear C;rw[l] at a;clear l;generalize (qk tk cs).1=K at *;go_wp2_with (go_at_call 104;refine a.l.y ?_;rintro e N ⟨rfl,g,f,D,k⟩;clear a)
   go_ret;exact⟨by rw[j.l];rfl,by rw[j.l];exact g,b.A f⟩
  have j:X (ul (t.j+1) t cs=ul (t.j+1-(p+1)) (qk tk cs).1 cs):=by rw[X,C.l,l];simp
  clear C;rw[l] at a;clear l;generalize (qk tk cs).1=K at *;go_wp2_with (go_at_call 104;refine a.l.y ?_;rintro e N ⟨rfl,g,f,D,k⟩;clear a)
  go_roundw;exact⟨p+1,K,η,ξ,b.A f,g,η,by rw[G.l] at k;exact k,j⟩;simp[intOf];omega
 have j:X (ul (t.j+1) t cs=(tk,false)):=by rw[X,H.l,show t.j+1-p=0 by omega];rfl
 clear H;go_wp2;go_ret;exact⟨by rw[j.l];rfl,by rw[j.l];exact d,b⟩
end
section
open Go.Proofs.Tryz Go.RowKit
variable {w w':U}{base n b g cap m tb:Nat}{v:O}{xs:List O}{c:Array O}
def Th.newAt(w:U)(b:Nat)(c:Array O)(T:TypeId)(h:b=w.o.q):Th (w.C (.E c T)) b c T:=by subst h;exact Th.new w c T
def Th.drew{w:U}{b:Nat}{c:Array O}{T:TypeId}(h:Th w b c T):Th w.drew b c T:=h
def L7{e:TypeId}{a:Nat}(h:w.r base e a v n xs)(p:w.o.q<=b):Z b≠v.m:=by
 intro d;obtain⟨_,⟨i,_⟩|⟨o,l,k,j,_,f,_⟩⟩:=h;subst i;cases d;subst j;simp only[O.ownBlock,zt] at d;subst d;have:=(kp.1 f).1;omega
def mn{e T:TypeId}{d:Nat}(h:w.r base e d v n xs)(o:Th w b c T)(p:e≠T):Z b≠v.m:=by
 intro f;obtain⟨_,⟨i,_⟩|⟨q,l,k,j,_,a,_⟩⟩:=h;subst i;cases f;subst j;simp only[O.ownBlock,zt] at f;subst f;unfold Th at o;rw[o] at a;simp at a;exact p a.2.z
def Th.keep{a f:U}{T:TypeId}(h:Th a b c T)(d:Z b≠v.m)(i:∀k,k<a.o.q->Z k≠v.m->f.o[k]?=a.o[k]?):Th f b c T:=by
 have e:=h.lt;unfold Th at *;rw[i b e d];exact h
def QC{e T:TypeId}{a:Nat}(h:w.r base e a (.k (Z (δ g)) n cap) m xs)(l:Th w b c T)(r:c.q<m*a):b≠g:=by
 intro o;subst o;obtain⟨_,⟨i,_⟩|⟨s,k,j,f,_,d,p,t,q,_⟩⟩:=h;cases i;simp at f;obtain⟨rfl,rfl,rfl⟩:=f;unfold Th at l;rw[l] at d;simp at d;rw[←d.1] at q;have:=fB a p;omega
section
variable {P:Program} {ops:Array Oper} {o:Oper} {a:Act} {K:Act->U->Prop} {Q:Exit->Act->U->Prop}
def BE{E:Prop}(C D:U)(l:Γ)(te:TypeId)(N:o.guard=Y)(s x:Operand)(t:TypeId)
  (ho:o.op=.call {callee:=.builtin .append,args:=#[s,x],argTypes:=#[t,t]})
  (base:Nat) (e:TypeId) (i:TypeInfo) (z:O) (d f:Nat) (ht:P.underlying t=Z (.k e)) (hi:P.info? e=Z i) (V:i.zero=Z z)
  (A:i.q=d) (M:i.bytes=f) (H:z.E.q=d) (R:0<d)
  (v:O) (n:Nat) (xs:Γ) (hs:a.eval s=v) (y:C.r base e d v n xs) (q:μ C D)
  (b c:Nat) (hx:a.eval x=.k (Z (δ b)) 1 c) (hb:Th D b l.toArray te) (hl:l.j=d) (h1:∀u∈l,u.oneCell'=true)
  (hn:n<=1048576) (r:f<=1000) (J:base<=C.o.q)
  (h:∀G w',w'.r base e d G (n+1) (xs++l)->Below base C w'->(∀k,k<D.o.q->Z k≠v.m->w'.o[k]?=D.o[k]?)->D.o.q<=w'.o.q->K (a.put o.dst G) w'):
  if Region.wanted o (yielded ops a.tmps)=true then Oper.wp P o a D K Q else E:=by
 have hw:Region.wanted o (yielded ops a.tmps)=true:=by simp[Region.wanted,N]
 rw[zb hw];have B:=zy y q;have S:∀k,v.m=Z k->base<=k/\k<C.o.q:=by
  intro k F;obtain⟨_,L⟩:=y;rcases L with⟨I,_⟩|⟨g,cap,aa,I,N,W,_⟩
  .subst I;cases F
  .subst I;simp only[O.ownBlock,zt] at F;subst F;exact⟨N,(kp.1 W).1⟩
 have T:=q.q;refine wp_append_own _ s x t ho base e i z d f ht hi V A M H R v n xs hs B (δ b) 1 c l hx η ?_ h1 ?_ ?_ ?_ ?_
 .intro j u hj;rw[Addr.add_lit,vx,hb.H.1];simpa using hj
 .unfold maxLen;omega
 .have:(n+1)*f<=1048577*1000:=Nat.mul_le_mul η r;omega
 .omega
 .intro G w' L p _;refine h G w' L ⟨p.os.A q.os,p.tape.A q.tape,p.output.A q.output,by have:=p.q;omega,λk F=>?_⟩ p.block p.q;rw[p.block k η (λe=>by have:=S k e.z;omega)];exact q.block k η
end
def vF(t:List zf)(x:zf)(k:Nat):List zf:=t.G k++x::t.drop k
def fV(t:Ψ)(x:zf)(k:Nat):(vF t x k).j=t.j+1:=by simp[vF];omega
def Ob(t:Ψ)(x:zf):vF t x t.j=t++[x]:=by simp[vF]
def KJ(t:Ψ)(x:zf)(j:Nat)(d:j<t.j):∃h:j<(vF t x (j+1)).j,(vF t x (j+1))[j]=t[j]:=by
 refine⟨by rw[fV];omega,?_⟩;unfold vF;rw[uH υ];simp
def KX(t:Ψ)(x:zf)(j:Nat)(d:j<=t.j):∃h:j<(vF t x j).j,(vF t x j)[j]=x:=by
 refine⟨by rw[fV];omega,?_⟩;unfold vF;rw[lB υ];simp[d]
def Kr(t:Ψ)(x:zf)(j:Nat)(e:j<t.j):((vF t x (j+1)).set (j+1) t[j]).set j x=vF t x j:=by
 unfold vF;have h:=yM e;have f:=xn e;have d:(t.G j).j=j:=by simp;omega
 rw[h,f,kO,l0 _ _ η,d,l0 _ _ η,d];simp
def CG:∀(t:Ψ) (k:Nat) (e:zf),k<t.j->(((um t).set (k*3) (.d e.name)).set (k*3+1) (ι (e.jh:Int))).set (k*3+2) (ι (e.L:Int))=um (t.set k e)
 |[],k,_,d=>by simp at d
 |a::r,0,e,_=>by simp[um]
 |a::r,k+1,e,d=>by
  have:=CG r k e (by simpa using d);simp only[um,uU,rt] at this ⊢;rw[show(k+1)*3=k*3+1+1+1 from by omega,show k*3+1+1+1+2=k*3+2+1+1+1 from by omega];simpa using this
def AU{B:Nat}{t:Ψ}(h:w.r B 221 3 (.k (Z (δ g)) n cap) m (um t))(k:Nat)(d:k<t.j)(e:zf):
  (((w.x (ω g (k*3)) (.d e.name)).x (ω g (k*3+1)) (ι (e.jh:Int))).x (ω g (k*3+2)) (ι (e.L:Int))).r B 221 3 (.k (Z (δ g)) n cap) m (um (t.set k e)):=by
 have f:=Bq t;rw[←CG t k e d];exact uB (uB (uB h _ η _) _ υ _) _ υ _
structure vQ (tb:Nat) (w w':U):Prop where
 q:w.o.q<=w'.o.q
 box:∀b c T,b≠tb->T≠221->Th w b c T->Th w' b c T
def vQ.refl(tb:Nat)(w:U):vQ tb w w:=⟨zg _,λ_ _ _ _ _ h=>h⟩
def vQ.A{a b c:U}(h:vQ tb a b)(k:vQ tb b c):vQ tb a c:=⟨zY h.q k.q,λx y z e d f=>k.box x y z e d (h.box x y z e d f)⟩
def vQ.of(h:μ w w'):vQ tb w w':=⟨h.q,λ_ _ _ _ _ k=>k.u h⟩
def vQ.drew{tb:Nat}{w w':U}(h:vQ tb w w'):vQ tb w w'.drew:=⟨h.q,λb c T f e d=>(h.box b c T f e d).drew⟩
def vQ.setRow(h:vQ tb w w'){B:Nat}(f:w'.r B 221 3 (.k (Z (δ g)) n cap) m xs)(o:Nat)(u:O):vQ tb w (w'.x (ω g o) u):=by
 refine⟨by simp[U.setCell];exact h.q,λb c T i d j=>?_⟩;have e:=h.box b c T i d j;have:=mn f e (Ne.symm d);simp only[O.ownBlock,ne_eq,zt] at this;exact e.set_ne this _ _
def EZ(h:vQ tb w w'){B:Nat}{t:Ψ}(d:w'.r B 221 3 (.k (Z (δ g)) n cap) m (um t))(k:Nat)(f:k<t.j)(u1 u2 u3:O):
  vQ tb w (((w'.x (ω g (k*3)) u1).x (ω g (k*3+1)) u2).x (ω g (k*3+2)) u3):=by
 have e:=Bq t;exact((h.setRow d _ _).setRow (uB d _ η _) _ _).setRow (uB (uB d _ η _) _ υ _) _ _
def SG:(prog.info? 221).map (λi=>(i.zero,i.q,i.bytes))=Z (Z (.agg #[.d ByteArray.empty,ι 0,ι 0]),3,32):=χ
def FR(B:Nat)(w:U)(tb:Nat)(t:Ψ)(i:Nat)(x:zf)(h:TA B w tb t)(hl:t.j<=1000)(hi:i<=t.j)(hB:B<=w.o.q)(aj:B<=tb):
  Calls prog 147 #[(π tb),ι i,.agg #[.d x.name,ι x.jh,ι x.L]] w λe w'=>e=ε (.B #[])/\TA B w' tb (t.G i++x::t.drop i)/\Below B w w'/\vQ tb w w':=by
 obtain⟨i0,ac,ae,N,V⟩:=info_parts SG;obtain⟨ao,cap,A,p⟩:=h.view;obtain⟨hc,hf,ay⟩:=A.e;have u:μ w (((w.C (.E #[.d x.name,ι (x.jh:Int),ι (x.L:Int)] 221)).C (.E #[.d x.name,ι (x.jh:Int),ι (x.L:Int)] 221)).drew):=γ;go_enter func147,ntmps147;go_wp2;go_region_law (first|(refine BE w _ [.d x.name,ι (x.jh:Int),ι (x.L:Int)] 221 rfl (.tmp 11) (.tmp 13) 125 rfl B 221 i0 _ 3 32 underlying125 ac ae N V rfl θ _ _ _ (by simp[Act.eval]) p γ (w.o.q+1) 1 (by simp[Act.eval]) (by exact Th.drew (Th.newAt _ _ _ _ ζ)) rfl a_ η η hB ?_;intro v' w2 I J z ak;obtain⟨D,q,rfl⟩:=zr I;have r:=(A.u u).keep (mn p A θ) z;obtain⟨aq,av⟩:=r.H;have H:=Th.keep (Th.drew ((Th.new w _ _).u zP)) (L7 p (zg _)) z))
 all_goals
  go_wp2;go_loopw [6] (λk wr=>∃j:Nat,i<=j/\j<=t.j/\k=ι j/\Th wr tb #[.k D (t.j+1) q] 127/\wr.r B 221 3 (.k D (t.j+1) q) (t.j+1) (um (vF t x j))/\Th wr w.o.q #[.d x.name,ι (x.jh:Int),ι (x.L:Int)] 221/\Below B w wr/\vQ tb w wr) (λk _=>(intOf k).D);refine⟨t.j,hi,zg _,rfl,r.set 0 _,?_,H.set_ne η _ _,?_,?_⟩;rw[Ob];have:=xL I ((Tu.refl tb w2).x 0 (.k D (t.j+1) q)) r θ;simpa [um] using this;exact J.x aj _;exact⟨by simp[U.setCell];exact J.q,λb c T h1 h2 h3=>((h3.u u).keep (mn p h3 (Ne.symm h2)) z).set_ne h1 _ _⟩;obtain⟨j,ax,an,rfl,s,l,C,M,y⟩:=hrel;obtain⟨aw,au⟩:=s.H;obtain⟨am,ar⟩:=C.H;by_cases al:i<j
  .obtain⟨j,rfl⟩:∃j',j=j'+1:=⟨j-1,η⟩;obtain⟨ad,E⟩:=KJ t x j η;obtain⟨g,rfl,hg,az,ab,W,S⟩:=gx (t:=vF t x (j+1)) (by rw[fV];exact l) j ad;rw[E] at ab W S;have ap:=vg l;have d:=mn l s θ;have f:=QC l C υ;simp only[O.ownBlock,ne_eq,zt] at d;obtain⟨af,L⟩:=KX t x (j+1) η;obtain⟨g',F,_,_,ag,aa,R⟩:=gx (t:=vF t x (j+1)) (by rw[fV];exact l) (j+1) af;simp at F;subst F;rw[L] at ag aa R;clear E L;go_wp2;go_region
   go_wp2;go_region
   go_wp2;have G:=AU (AU l (j+1) (by rw[fV];omega) t[j]) j (by rw[fo,fV];omega) x;have ai:=EZ (EZ y l (j+1) (by rw[fV];omega) (.d t[j].name) (ι (t[j].jh:Int)) (ι (t[j].L:Int))) (AU l (j+1) (by rw[fV];omega) t[j]) j (by rw[fo,fV];omega) (.d x.name) (ι (x.jh:Int)) (ι (x.L:Int));rw[Kr t x j η] at G;go_roundw;exact⟨j,η,η,rfl,(((((((s.set_ne d _ _).set_ne d _ _).set_ne d _ _).set_ne d _ _).set_ne d _ _).set_ne d _ _).drew).drew,G.drew.drew,(((((((C.set_ne f _ _).set_ne f _ _).set_ne f _ _).set_ne f _ _).set_ne f _ _).set_ne f _ _).drew).drew,γ,ai.drew.drew⟩;simp[intOf]
  have ah:j=i:=η;subst ah;go_wp2;go_end0
  exact⟨rfl,⟨_,s,by rw[show(t.G j++x::t.drop j).j=t.j+1 from fV t x j];exact l⟩,M,y⟩
end
section
open Go.Proofs.Tryz Go.RowKit
def Q3(a b:Nat):((a:Int) == (b:Int))=decide (a=b):=by
 by_cases h:a=b;subst h;simp;rw[decide_eq_false h,beq_eq_false_iff_ne];omega
def L5{a b:Bool}(h:a=b):Ending.returned (.i a)=ε (.i b):=by rw[h]
def vS(t:List zf)(l:zj):Option (List zf):=match zU t l.o with
 |some e=>if e.jh=l.k.j then Z t else Y
 |none=>Z (vF t ⟨l.o,l.k.j,0⟩ (zV t l.o))
def CV(B:Nat)(w:U)(tb:Nat)(t:Ψ)(l:zj)(b:Option Addr)(a:Nat)(h:TA B w tb t)(q:t.j<=1000)(n:zf)(r:zU t l.o=Z n):
  Calls prog 102 #[(π tb),.agg #[.i l.i,.d l.o,.k b l.k.j a]] w λe o=>e=ε (.i (decide (n.jh=l.k.j)))/\μ w o:=by
 obtain⟨A,p,d,c⟩:=h.view;have v:=d.lt;have k:=(zn w.o.q w).C (zg _) (.E #[.i l.i,.d l.o,.k b l.k.j a] 90);have f:=Tg (io B _ tb t l.o (h.u k) q);obtain⟨z,x⟩:=d.H;obtain⟨s,m,u⟩:=jw r;obtain⟨g,rfl,y,_,j,i,_⟩:=gx c _ s;rw[m] at j i;go_enter func102,ntmps102;go_wp2_with (go_at_call 126;refine f.l.y ?_;rintro e o ⟨rfl,rfl⟩;clear f)
 go_quiet (fail)
 go_wp2;go_quiet (fail)
 go_wp2;go_ret;exact⟨L5 (Q3 _ _),φ⟩
def Qy(B:Nat)(w:U)(tb:Nat)(t:Ψ)(l:zj)(j:Option Addr)(d:Nat)(h:TA B w tb t)(u:t.j<=1000)(z:zU t l.o=Y)(s:B<=w.o.q)(r:B<=tb):
  Calls prog 102 #[(π tb),.agg #[.i l.i,.d l.o,.k j l.k.j d]] w λe q=>e=ε (.i true)/\TA B q tb (vF t ⟨l.o,l.k.j,0⟩ (zV t l.o))/\Below B w q/\vQ tb w q:=by
 obtain⟨L,D,o,m⟩:=h.view;have G:=o.lt;have n:=Ad t l.o;have a:=(zn w.o.q w).C (zg _) (.E #[.i l.i,.d l.o,.k j l.k.j d] 90);have c:=Tg (io B _ tb t l.o (h.u a) u);obtain⟨K,I⟩:=o.H;have x:=h;have p:=Tg x;have y:X (vF t ⟨l.o,l.k.j,0⟩ (zV t l.o)=t.G (zV t l.o)++⟨l.o,l.k.j,0⟩::t.drop (zV t l.o)):=rfl;rcases iQ z with A|⟨A,v⟩
 .clear z;generalize zV t l.o=k at *;go_enter func102,ntmps102;go_wp2_with (go_at_call 126;refine c.l.y ?_;rintro e q ⟨rfl,rfl⟩;clear c)
  go_quiet (fail)
  go_wp2_with (go_at_call 147;refine(FR B _ tb t k ⟨l.o,l.k.j,0⟩ (by exact p.l.u φ) u n (by exact zY s ζ) r).y ?_;rintro e F ⟨rfl,f,i,b⟩)
  go_ret;exact⟨rfl,f,((zI (a.y s) _)).A i,(vQ.of (zI a _)).A b⟩
 obtain⟨g,rfl,J,_,E,C,_⟩:=gx m _ A;have H:=vV v;generalize zV t l.o=k at *;go_enter func102,ntmps102;go_wp2_with (go_at_call 126;refine c.l.y ?_;rintro e q ⟨rfl,rfl⟩;clear c)
 go_quiet (fail)
 go_wp2_with (go_at_call 147;refine(FR B _ tb t k ⟨l.o,l.k.j,0⟩ (by exact p.l.u φ) u n (by exact zY s ζ) r).y ?_;rintro e F ⟨rfl,f,i,b⟩)
 go_ret;exact⟨rfl,f,((zI (a.y s) _)).A i,(vQ.of (zI a _)).A b⟩
end
section
open Go.Proofs.Tryz Go.RowKit
variable {lo:Nat}{t:List zf}{o:Option (List zf)}
def BO{a:Ψ}{l:zj}(h:vS t l=Z a):a.j<=t.j+1:=by
 unfold vS at h;split at h;split at h<;>simp at h;subst h;omega
 simp at h;subst h;rw[fV];omega
def I2{c:Ψ}{l:zj}(h:vS t l=Z c)(b:∀e∈t,e.L<=0):∀e∈c,e.L<=0:=by
 unfold vS at h;split at h;split at h<;>simp at h;subst h;exact b
 simp at h;subst h;intro e a;unfold vF at a;rcases ya.1 a with a|a;exact b e (gH a);rcases zG.1 a with a|a;subst a;exact zg _;exact b e (fg a)
def uI(o:Option (List zf))(l:zj):Option (List zf):=o.bind (vS · l)
def zm(c:zc):List zj:=c.g::c.d
def uC(cs:List zc):Option (List zf):=(cs.flatMap zm).H uI (Z [])
def rK(b:Ω):b.H uI Y=none:=by
 induction b with
 |nil=>rfl
 |cons a b c=>exact c
def iq:∀(d:Ω) (t:Ψ),(∀e∈t,e.L<=0)->∀a,d.H uI (Z t)=Z a->∀e∈a,e.L<=0
 |[],t,b,a,h=>by simp at h;subst h;exact b
 |l::d,t,b,a,h=>by
  simp only[uG] at h;cases c:vS t l with
  |none=>rw[show uI (Z t) l=Y from c,rK] at h;cases h
  |some f=>rw[show uI (Z t) l=Z f from c] at h;exact iq d f (I2 c b) a h
def iO:∀(b:Ω) (t:Ψ),∀a,b.H uI (Z t)=Z a->a.j<=t.j+b.j
 |[],t,a,h=>by simp at h;subst h;simp
 |l::b,t,a,h=>by
  simp only[uG] at h;cases c:vS t l with
  |none=>rw[show uI (Z t) l=Y from c,rK] at h;cases h
  |some d=>rw[show uI (Z t) l=Z d from c] at h;have:=iO b d a h;have:=BO c;simp;omega
def DF(B:Nat)(w:U)(tb:Nat)(t:Ψ)(l:zj)(b:Option Addr)(a:Nat)(h:TA B w tb t)(f:t.j<=1000)(c:vS t l=Y):
  Calls prog 102 #[(π tb),.agg #[.i l.i,.d l.o,.k b l.k.j a]] w λe j=>e=ε (.i false)/\μ w j:=by
 unfold vS at c;split at c;rename_i i g;split at c;cases c;rename_i d;have:=CV B w tb t l b a h f i g;rw[decide_eq_false d] at this;exact this;cases c
def Fr(B:Nat)(w:U)(tb:Nat)(t n:Ψ)(l:zj)(c:Option Addr)(a:Nat)(h:TA B w tb t)(m:t.j<=1000)(b:vS t l=Z n)(k:B<=w.o.q)(j:B<=tb):
  Calls prog 102 #[(π tb),.agg #[.i l.i,.d l.o,.k c l.k.j a]] w λe d=>e=ε (.i true)/\TA B d tb n/\Below B w d/\vQ tb w d:=by
 unfold vS at b;split at b;rename_i p f;split at b;rename_i g;simp at b;subst b;have:=CV B w tb t l c a h m p f;rw[decide_eq_true g] at this;refine this.y ?_;rintro e d ⟨rfl,i⟩;exact⟨rfl,h.u i,i.y k,vQ.of i⟩;cases b;rename_i f;simp at b;subst b;exact Qy B w tb t l c a h m f k j
def Ax(o:Option (List zf))(w:U)(e:Ending)(w':U):Prop:=
 μ w w'/\match o with
  |none=>e=ε (.B #[.agg #[ν],.i false])
  |some t=>∃a,e=ε (.B #[.agg #[a],.i true])/\w'.r w.o.q 221 3 a t.j (um t)
def DI{w w':U}(h:X (o=Y))(a:μ w w'):Ax o w (ε (.B #[.agg #[ν],.i false])) w':=by
 have b:o=none:=h;subst b;exact⟨a,rfl⟩
def LO{w w':U}{a:O}(h:X (o=Z t))(b:μ w w')(c:w'.r w.o.q 221 3 a t.j (um t)):Ax o w (ε (.B #[.agg #[a],.i true])) w':=by
 have d:o=Z t:=h;subst d;exact⟨b,a,rfl,c⟩
def DG(w:U)(v:O)(cs:Ξ)(F:TO lo 171 w v cs)(hN:(cs.flatMap zm).j<=1000):
  Calls prog 62 #[v] w λe w'=>Ax (uC cs) w e w':=by
 obtain⟨ao,a8,rfl⟩:=F.qy;have aK:cs.j<=1000:=by
  have:cs.j<=(cs.flatMap zm).j:=by
   clear hN F;induction cs with
   |nil=>simp
   |cons c cs ih=>simp[zm] at ih ⊢;omega
  omega
 go_enter func62,ntmps62;go_wp2;go_loopw [11] (λi wr=>∃(k:Nat) (tk:Ψ),k<=cs.j/\i=ι k/\μ w wr/\TA w.o.q wr (w.o.q+1) tk/\Th wr w.o.q #[ν] 127/\tk.j+((cs.drop k).flatMap zm).j<=1000/\X (uC cs=((cs.drop k).flatMap zm).H uI (Z tk))) (λi _=>cs.j-(intOf i).D);have u:=(zn w.o.q w).C (zg _) (.E #[ν] 127);exact⟨0,[],zs _,rfl,γ,⟨_,Th.newAt _ _ _ _ ζ,xp _ _ _ _⟩,(Th.new w _ _).u zP,(by simpa using hN),rfl⟩;obtain⟨k,tk,hk,rfl,n,s,f,af,H⟩:=hrel;have y:=n.q;have al:=f.lt;have aE:w.o.q+1<wr.o.q:=by obtain⟨_,hb,_⟩:=s;exact hb.lt
 by_cases V:k<cs.j
 .have K:=xn V;obtain⟨g,aL,a1,aJ,a2,rfl,hg,ae,ag,P,ad,ax,aw⟩:=F.cell k V;have aA:=zi n hg ae;have aG:=zi n hg ag;have aF:=zi n hg P;have a6:=zi n hg ad;have aI:g<wr.o.q:=η;clear ae ag P ad ax;generalize cs[k]=c at *;rw[K] at af;have H1:X (uC cs=(c.d++(cs.drop (k+1)).flatMap zm).H uI (uI (Z tk) c.g)):=by rw[X,H.l,K];rfl
  simp only[uU,zm,yN,xt] at af;generalize hR:(cs.drop (k+1)).flatMap zm=rest at *;have HR:=Tg hR;clear hR H K;rcases l:vS tk c.g with _|t1
  .have I:=Tg l;have HF:X (uC cs=Y):=by rw[X,H1.l,show uI (Z tk) c.g=Y from l,rK]
   clear H1 l;go_wp2_with (go_at_call 102;refine(DF w.o.q _ (w.o.q+1) tk c.g _ _ (by exact s.u γ) η I).y ?_;rintro e w1 ⟨rfl,u⟩;have T:=Tk ((zn wr.o.q wr).C (zg _) _) u;have ah:=Tk n T;have b:=f.u T;obtain⟨q,W,ay⟩:=b.e)
   exact zO (v:=.B #[.agg #[ν],.i false]) (by simp[results,results62,go_sem,q]) rfl (DI HF γ)
  have I:=Tg l;have aB:=BO l;have H2:X (uC cs=(c.d++rest).H uI (Z t1)):=by rw[X,H1.l,show uI (Z tk) c.g=Z t1 from l]
  clear H1 l;go_wp2_with (go_at_call 102;refine(Fr w.o.q _ (w.o.q+1) tk t1 c.g _ _ (by exact s.u γ) η I (by exact zY y ζ) η).y ?_;rintro e w1 ⟨rfl,au,u,z⟩;have ah:=(n.C y _).A u;have b:=z.box _ _ _ η θ (f.u zP);have ai:=z.box _ _ _ η θ (Th.new wr _ _);obtain⟨an,ap,aq⟩:=ai.e;have ay:=b.lt)
  go_loopw [23] (λi wj=>∃(j:Nat) (p:Ψ),j<=c.d.j/\i=ι j/\μ w wj/\TA w.o.q wj (w.o.q+1) p/\Th wj w.o.q #[ν] 127/\p.j+(c.d.drop j).j+rest.j<=1000/\X (uC cs=(c.d.drop j++rest).H uI (Z p))) (λi _=>c.d.j-(intOf i).D);exact⟨0,t1,zs _,rfl,ah,au,b,υ,H2⟩;clear an ap ai aq;obtain⟨j,p,hj,rfl,h,r,d,R,HJ⟩:=hrel;have C:=h.q;have ar:=d.lt;by_cases N:j<c.d.j
  .obtain⟨gl,a7,az,rfl,L,Q,B,D,_⟩:=aw.cell j N;have aH:=zi h L Q;have a9:=zi h L B;have a4:=zi h L D;have a5:gl<wr.o.q:=η;have G:=xn N;clear Q B D;generalize c.d[j]=a at *;rw[G] at R;have x:X (uC cs=(c.d.drop (j+1)++rest).H uI (uI (Z p) a)):=by rw[X,HJ.l,G];rfl
   simp only[xt] at R;clear G HJ;rcases l:vS p a with _|t2
   .have I:=Tg l;have HF:X (uC cs=Y):=by rw[X,x.l,show uI (Z p) a=Y from l,rK]
    clear x l;go_wp2_with (go_at_call 102;refine(DF w.o.q _ (w.o.q+1) p a _ _ (by exact r.u γ) η I).y ?_;rintro e w3 ⟨rfl,J⟩;have ab:=Tk ((zn wr.o.q wr).C (zg _) _) J;have A:=Tk h ab;have m:=d.u ab;obtain⟨q,W,aC⟩:=m.e)
    exact zO (v:=.B #[.agg #[ν],.i false]) (by simp[results,results62,go_sem,q]) rfl (DI HF γ)
   have I:=Tg l;have aD:=BO l;have av:X (uC cs=(c.d.drop (j+1)++rest).H uI (Z t2)):=by rw[X,x.l,show uI (Z p) a=Z t2 from l]
   have a3:w.o.q+1<wr.o.q:=by obtain⟨_,hb,_⟩:=r;exact hb.lt
   clear x l;go_wp2_with (go_at_call 102;refine(Fr w.o.q _ (w.o.q+1) p t2 a _ _ (by exact r.u γ) η I (by exact zY C ζ) η).y ?_;rintro e w3 ⟨rfl,am,J,M⟩;have A:=(h.C C _).A J;have m:=M.box _ _ _ η θ (d.u zP))
   go_roundw;exact⟨j+1,t2,η,ξ,A,am,m,η,av⟩;simp[intOf];omega
  have HE:X (uC cs=((cs.drop (k+1)).flatMap zm).H uI (Z p)):=by rw[X,HJ.l,ui η,HR.l];rfl
  have aj:p.j+rest.j<=1000:=η;clear HJ;go_wp2;go_roundw;exact⟨k+1,p,η,ξ,h,r,d,by rw[HR.l];exact aj,HE⟩;simp[intOf];omega
 have HF:X (uC cs=Z tk):=by rw[X,H.l,ui η];rfl
 obtain⟨S,E,aa,ac⟩:=s.view;obtain⟨hc,hf⟩:=aa.H;obtain⟨q,W⟩:=f.H;have a0:=aa.lt;clear H;go_wp2;have ak:=xL ac ((Tu.refl w.o.q wr).x 0 (.k S tk.j E)) f θ;exact zO (v:=.B #[.agg #[.k S tk.j E],.i true]) (by simp[results,results62,go_sem,q]) rfl (LO HF γ ak)
end
section
open Go.Proofs.Tryz Go.RowKit
variable {lo:Nat}
def ug:ByteArray:=⟨#[44,32]⟩
def y6:κ->ByteArray
 |[]=>ByteArray.empty
 |[t]=>t
 |t::r=>t++ug++y6 r
def Hq:∀(l:κ) (x:ByteArray),l≠[]->y6 (l++[x])=y6 l++ug++x
 |[],_,h=>zB rfl h
 |[t],x,_=>rfl
 |t::u::r,x,_=>by
  show t++ug++y6 (u::(r++[x]))=t++ug++y6 (u::r)++ug++x;have:=Hq (u::r) x ζ;rw[lr] at this;rw[this];simp only[ByteArray.append_assoc]
def sE{l:κ}{k:Nat}(a:k<l.j):y6 (l.G (k+1))=if k=0 then l[k] else y6 (l.G k)++ug++l[k]:=by
 rw[yM a];split;rename_i h;subst h;rfl;rw[Hq];intro h;have:=congrArg List.length h;rw[vc,qW] at this;omega
def Kn(w:U)(v:O)(l:κ)(hs:Tn lo w v l)(E:l.j<=1000)(m:∀t∈l,t.q<=6):
  Calls prog 169 #[v] w λe C=>e=ε (.d (y6 l))/\μ w C:=by
 obtain⟨F,r,rfl⟩:=hs.qy;have o:=Tg m;clear m;go_enter func169,ntmps169;go_wp2;go_loopw [3,8] (λA p wr=>∃(k:Nat) (s:ByteArray),k<=l.j/\p=ι k/\A=.d s/\s.q<=8*k/\X (s=y6 (l.G k))/\μ w wr) (λ_ i _=>l.j-(intOf i).D);exact⟨0,_,zs _,rfl,rfl,zg _,rfl,zn _ _⟩;obtain⟨k,s,G,rfl,rfl,z,H,a⟩:=hrel;have n:=a.q;by_cases b:k<l.j
 .obtain⟨g,rfl,u,c⟩:=hs.cell k b;have y:=zi a u c;have B:g<wr.o.q:=η;have f:=sE b;have D:=o.l _ (zq b);clear c;generalize l[k]=x at *;by_cases h:k=0
  .have d:X (s++x=y6 (l.G (k+1))):=by rw[X,f,zb h,H.l,h];simp[y6]
   subst h;clear f H;go_wp2;go_roundw;exact⟨1,s++x,η,ξ,rfl,(by rw[ByteArray.size_append];omega),d,γ⟩;simp[intOf];omega
  have d:X (s++ug++x=y6 (l.G (k+1))):=by rw[X,f,za h,H.l]
  have j:ug.q=2:=rfl;have q:(s++ug).q=s.q+2:=by rw[ByteArray.size_append,j]
  clear f H;go_wp2;go_roundw;exact⟨k+1,s++ug++x,η,ξ,rfl,(by rw[ByteArray.size_append];omega),d,γ⟩;simp[intOf];omega
 have d:X (s=y6 l):=by rw[X,H.l,yV η]
 clear H;go_wp2;go_ret;exact⟨by rw[←d.l];rfl,a⟩
def ke:ByteArray:=⟨#[33]⟩
def jj:ByteArray:=⟨#[40]⟩
def fT:ByteArray:=⟨#[41]⟩
def gI(l:zj):ByteArray:=if l.i then ke++l.o else l.o
def xd(l:zj):ByteArray:=if l.k.j=0 then gI l else gI l++jj++y6 l.k++fT
def At:∀(l:κ),(∀t∈l,t.q<=6)->(y6 l).q<=8*l.j
 |[],_=>by simp[y6]
 |[t],h=>by have:=h t ζ;simp[y6];omega
 |t::u::r,h=>by
  have c:=h t ζ;have a:=At (u::r) λx b=>h x (nX _ b);show(t++ug++y6 (u::r)).q<=_;rw[ByteArray.size_append,ByteArray.size_append,show ug.q=2 from rfl];simp only[xt] at a ⊢;omega
def oy{l:zj}(h:l.o.q<=6):(gI l).q<=7:=by
 unfold gI;split;rw[ByteArray.size_append,show ke.q=1 from rfl];omega;omega
def sB(l:zj):Prop:=l.o.q<=6/\0<l.o.q/\l.k.j<=1000/\∀t∈l.k,0<t.q/\t.q<=6
def t7{l:zj}(h:sB l):(xd l).q<=9+8*l.k.j:=by
 obtain⟨a,_,_,c⟩:=h;have d:=oy a;unfold xd;split;omega;rw[ByteArray.size_append,ByteArray.size_append,ByteArray.size_append,show jj.q=1 from rfl,show fT.q=1 from rfl];have:=At l.k λt b=>(c t b).2;omega
def GQ(w:U)(l:zj)(i:O)(hs:Tn lo w i l.k)(q:sB l):
  Calls prog 131 #[.agg #[.i l.i,.d l.o,i]] w λe z=>e=ε (.d (xd l))/\μ w z:=by
 obtain⟨D,r,rfl⟩:=hs.qy;obtain⟨C,B,x,k⟩:=q;have o:=Tg λt u=>(k t u).2;have m:=Tg λW v=>Kn W _ l.k (hs.u v) x o.l;have F:=At l.k o.l;have p:ke.q=1:=rfl;have y:jj.q=1:=rfl;have A:fT.q=1:=rfl;clear k;cases b:l.i
 .by_cases f:l.k.j=0
  .have c:X (xd l=l.o):=by unfold X xd gI;rw[zb f,b];rfl
   have d:((l.k.j:Int) == 0)=true:=by rw[beq_iff_eq];omega
   clear b;generalize y6 l.k=j at *;generalize l.k.j=n at *;go_enter func131,ntmps131;go_wp2;go_ret;exact⟨by rw[c.l];rfl,γ⟩
  have c:X (xd l=l.o++jj++y6 l.k++fT):=by unfold X xd gI;rw[za f,b];rfl
  have d:((l.k.j:Int) == 0)=false:=by rw[beq_eq_false_iff_ne];omega
  have h:(l.o++jj).q<=8:=by rw[ByteArray.size_append];omega
  have g:(l.o++jj++y6 l.k).q<=8+8*l.k.j:=by rw[ByteArray.size_append];omega
  clear b;generalize y6 l.k=j at *;generalize l.k.j=n at *;go_enter func131,ntmps131;go_wp2_with (go_at_call 169;refine(m.l _ γ).y ?_;rintro e s ⟨rfl,a⟩)
  go_ret;exact⟨by rw[c.l];rfl,Tk ((zn w.o.q w).C (zg _) _) a⟩
 have E:(ke++l.o).q<=7:=by rw[ByteArray.size_append];omega
 by_cases f:l.k.j=0
 .have c:X (xd l=ke++l.o):=by unfold X xd gI;rw[zb f,b];rfl
  have d:((l.k.j:Int) == 0)=true:=by rw[beq_iff_eq];omega
  clear b;generalize y6 l.k=j at *;generalize l.k.j=n at *;go_enter func131,ntmps131;go_wp2;go_ret;exact⟨by rw[c.l];rfl,γ⟩
 have c:X (xd l=ke++l.o++jj++y6 l.k++fT):=by unfold X xd gI;rw[za f,b];rfl
 have d:((l.k.j:Int) == 0)=false:=by rw[beq_eq_false_iff_ne];omega
 have h:(ke++l.o++jj).q<=8:=by rw[ByteArray.size_append];omega
 have g:(ke++l.o++jj++y6 l.k).q<=8+8*l.k.j:=by rw[ByteArray.size_append];omega
 clear b;generalize y6 l.k=j at *;generalize l.k.j=n at *;go_enter func131,ntmps131;go_wp2_with (go_at_call 169;refine(m.l _ γ).y ?_;rintro e s ⟨rfl,a⟩)
 go_ret;exact⟨by rw[c.l];rfl,Tk ((zn w.o.q w).C (zg _) _) a⟩
def fQ:ByteArray:=⟨#[32,58,45,32]⟩
def sD:ByteArray:=⟨#[46]⟩
def rg:ByteArray:=⟨#[10]⟩
def TQ(b:List zj):ByteArray:=if b.j=0 then ByteArray.empty else fQ++y6 (b.map xd)
def UW(c:zc):ByteArray:=xd c.g++TQ c.d++sD
def rf(c:zc):Prop:=(∀l∈zm c,sB l)/\c.d.j<=1000
def N4{b:Ω}{k:Nat}(c:k<b.j)(s:ByteArray):s++TQ (b.G (k+1))=if k=0 then s++fQ++xd b[k] else s++TQ (b.G k)++ug++xd b[k]:=by
 have a:(b.G (k+1)).j≠0:=by rw[vc];omega
 have d:y6 ((b.G (k+1)).map xd)=if k=0 then xd b[k] else y6 ((b.G k).map xd)++ug++xd b[k]:=by
  have:=sE (l:=b.map xd) (k:=k) (by simpa using c);rw[←tB,←tB] at this;simpa using this
 unfold TQ;rw[za a,d];split;rw[ByteArray.append_assoc];rw[za (by rw[vc];omega)];simp only[ByteArray.append_assoc]
def MU(w:U)(c:zc)(M vb:O)(hs:Tn lo w M c.g.k)(T:TL lo w vb c.d)(hf:rf c):
  Calls prog 85 #[.agg #[.i c.g.i,.d c.g.o,M,vb]] w λe w'=>e=ε (.d (UW c))/\μ w w':=by
 obtain⟨R,r,rfl⟩:=hs.qy;obtain⟨x,j,rfl⟩:=T.qy;obtain⟨d,ah⟩:=hf;have V:=Tg d;have B:=d c.g (by simp[zm]);have ad:=t7 B;have ab:=B.2.2.1;have HH:=Tg λW G=>GQ W c.g _ (hs.u G) B;have HC:X (UW c=xd c.g++TQ c.d++sD):=rfl;clear d B;generalize UW c=tc at *;generalize xd c.g=u at *;go_enter func85,ntmps85;go_wp2_with (go_at_call 131;refine(HH.l _ γ).y ?_;rintro e w1 ⟨rfl,o⟩;have I:=Tk ((zn w.o.q w).C (zg _) (.E #[.i c.g.i,.d c.g.o,.k R c.g.k.j r,.k x c.d.j j] 171)) o;have p:=(Th.new w #[.i c.g.i,.d c.g.o,.k R c.g.k.j r,.k x c.d.j j] 171).u o;obtain⟨K,d,Q⟩:=p.e)
 clear K d;go_loopw [3,12] (λv3 L wr=>∃(k:Nat) (s:ByteArray),k<=c.d.j/\L=ι k/\v3=.d s/\s.q<=10000*(k+1)/\X (s=u++TQ (c.d.G k))/\μ w wr) (λ_ i _=>c.d.j-(intOf i).D);exact⟨0,u,zs _,rfl,rfl,η,(by simp[X,TQ]),I⟩;obtain⟨k,s,hk,rfl,rfl,ag,H,b⟩:=hrel;have g:=b.q;by_cases A:k<c.d.j
 .obtain⟨gl,ae,N,rfl,l,y,q,t,v⟩:=T.cell k A;have ai:=zi b l y;have af:=zi b l q;have aa:=zi b l t;have ak:gl<wr.o.q:=η;have D:=N4 A u;have f:=V.l c.d[k] (by simp[zm]);have h:=v.u b;clear y q t v;generalize c.d[k]=a at *;have aj:=t7 f;have P:=f.2.2.1;have S:=Tg λW G=>GQ W a _ (h.u G) f;clear h f;generalize xd a=C at *;have F:fQ.q=4:=rfl;have J:ug.q=2:=rfl;by_cases E:k=0
  .have z:X (s++fQ++C=u++TQ (c.d.G (k+1))):=by rw[X,D,zb E,H.l,E];simp[TQ]
   have hq:(s++fQ).q=s.q+4:=by rw[ByteArray.size_append,F]
   subst E;clear D H;go_wp2_with (go_at_call 131;refine(S.l _ γ).y ?_;rintro e w2 ⟨rfl,n⟩;have m:=Tk (b.C g _) n)
   go_roundw;exact⟨1,s++fQ++C,η,ξ,rfl,(by rw[ByteArray.size_append];omega),z,m⟩;simp[intOf];omega
  have z:X (s++ug++C=u++TQ (c.d.G (k+1))):=by rw[X,D,za E,H.l]
  have hq:(s++ug).q=s.q+2:=by rw[ByteArray.size_append,J]
  clear D H;go_wp2_with (go_at_call 131;refine(S.l _ γ).y ?_;rintro e w2 ⟨rfl,n⟩;have m:=Tk (b.C g _) n)
  go_roundw;exact⟨k+1,s++ug++C,η,ξ,rfl,(by rw[ByteArray.size_append];omega),z,m⟩;simp[intOf];omega
 have z:X (s++sD=tc):=by rw[X,HC.l,H.l,yV η]
 have ac:sD.q=1:=rfl;clear H;go_wp2;go_ret;exact⟨by rw[←z.l];rfl,b⟩
end
section
open Go.Proofs.Tryz Go.RowKit
variable {lo:Nat}{r r2:List To}
def gG(l:zj):Nat:=l.k.j+1
def UB(a:List zj):Nat:=a.foldr (λl n=>gG l+n) 0
def US(c:zc):Nat:=gG c.g+UB c.d
def UA(cs:List zc):Nat:=cs.foldr (λc n=>US c+n) 0
def Hx:∀(r:Δ) {ts:κ} {r2:Δ},yx r=Z (ts,r2)->ts.j+r2.j<=r.j
 |[],_,_,h=>by simp[yx] at h
 |[x],ts,r2,h=>by
  simp only[yx] at h;split at h<;>simp at h
  obtain⟨rfl,rfl⟩:=h;simp
 |x::y::r,ts,r2,h=>by
  simp only[yx] at h;split at h
  .split at h
   .cases a:yx r with
    |none=>rw[a] at h;simp at h
    |some z=>
     obtain⟨b,c⟩:=z;rw[a] at h;simp at h;have:=Hx r a;obtain⟨rfl,rfl⟩:=h;simp;omega
   .simp at h;obtain⟨rfl,rfl⟩:=h;simp;omega
  .simp at h
def Bf{a:zj}(h:xv r=Z (a,r2)):gG a+r2.j<=r.j:=by
 rcases r with _|⟨x,r⟩;simp[xv,T6] at h;unfold xv at h;split at h;split at h;split at h;simp at h;rename_i c d b;have:=Hx _ b;split at h<;>simp at h
 obtain⟨rfl,rfl⟩:=h;simp[gG] at this ⊢;omega;simp at h;obtain⟨rfl,rfl⟩:=h;simp[gG];omega;simp at h
def OC{a:zj}(h:uY r=Z (a,r2)):gG a+r2.j<=r.j:=by
 unfold uY at h;split at h;rcases b:xv r.tail with _|z;rw[b] at h;simp at h;obtain⟨d,c⟩:=z;rw[b] at h;simp at h;have:=Bf b;obtain⟨rfl,rfl⟩:=h;simp[gG] at this ⊢;omega;exact Bf h
def Rn{n:Nat}:∀{r r2:Δ} {b:Ω},uj n r=Z (b,r2)->UB b+r2.j<=r.j:=by
 induction n with
 |zero=>intro r r2 b h;simp[uj] at h
 |succ n g=>
  intro r r2 b h;rcases c:uY r with _|z;rw[tw c] at h;cases h;obtain⟨a,e⟩:=z;have:=OC c;by_cases f:T6 e=6;rw[sd c f] at h;rcases d:uj n e.tail with _|z;rw[d] at h;simp at h;rw[d] at h;simp at h;have:=g d;obtain⟨rfl,rfl⟩:=h;simp[UB] at this ⊢;omega;rw[rR c f] at h;simp at h;obtain⟨rfl,rfl⟩:=h;simp[UB];omega
def Mi{n:Nat}{c:zc}(h:vE n r=Z (c,r2)):US c+r2.j<=r.j:=by
 unfold vE at h;split at h;cases h;rename_i a g d;have:=Bf d;split at h;split at h;cases h;rename_i b f e;have:=Rn e;split at h<;>simp at h
 obtain⟨rfl,rfl⟩:=h;simp[US] at this ⊢;omega;split at h<;>simp at h
 obtain⟨rfl,rfl⟩:=h;simp[US,UB];omega
def ix{a:Nat}:∀{m:Nat} {r:Δ} {cs:Ξ},yW a m r=Z cs->UA cs<=r.j
 |_,[],cs,h=>by simp[yW] at h;subst h;simp[UA]
 |0,_::_,cs,h=>by simp[yW] at h
 |m+1,x::r,cs,h=>by
  cases b:vE a (x::r) with
  |none=>rw[iy ζ b] at h;cases h
  |some z=>
   obtain⟨c,r2⟩:=z;rw[sZ ζ b] at h;cases d:yW a m r2 with
   |none=>rw[d] at h;simp at h
   |some e=>
    rw[d] at h;simp at h;subst h;have g:=Mi b;have f:=ix d;simp only[UA,List.foldr_cons,xt] at g f ⊢;omega
def wk(b:Ω):xj b+b.j=UB b:=by
 induction b with
 |nil=>rfl
 |cons a b c=>simp[xj,UB,gG] at c ⊢;omega
def oC{cs:Ξ}{c:zc}(h:c∈cs):US c<=UA cs:=by
 induction cs with
 |nil=>cases h
 |cons a cs b=>
  rcases zG.1 h with rfl|h;simp[UA];have:=b h;simp[UA] at this ⊢;omega
def ot(cs:Ξ):(cs.flatMap zm).j<=UA cs:=by
 induction cs with
 |nil=>simp
 |cons a cs b=>have:=wk a.d;simp[UA,US,zm,gG] at b ⊢;omega
def oG(cs:Ξ):cs.j<=UA cs:=by
 induction cs with
 |nil=>simp
 |cons a cs b=>simp[UA,US,gG] at b ⊢;omega
def oW{cs:Ξ}(h:UA cs<=1000):∀c∈cs,qo c:=λc a=>by
 have b:=oC a;have d:=wk c.d;unfold US gG at b;exact⟨η,η⟩
def BF:∀(n:Nat) (s:ByteArray) (i:Nat) (l:List (Int×ByteArray)),Tx n s i=Z l->l.j<=s.q-i
 |0,_,_,l,h=>by simp[Tx] at h;subst h;simp
 |n+1,s,i,l,h=>by
  unfold Tx at h;split at h
  .rename_i d;split at h
   .have:=BF n s (i+1) l h;omega
   .split at h
    .cases h
    .rename_i c;split at h
     .cases h
     .cases a:Tx n s (yv s i (xw (Tr s i) (Tr s (i+1)))) with
      |none=>rw[a] at h;simp at h
      |some b=>
       rw[a] at h;simp at h;subst h;have:=BF n s _ b a;have:=sF s i _ d rfl c;simp;omega
  .simp at h;subst h;simp
def eP{s:ByteArray}{l:Δ}(h:Tt s=Z l):l.j<=s.q:=by have:=BF _ s 0 l h;omega
def uF(s:ByteArray):Except Int (List zc×List zf):=
 if 500<s.q then .error 1 else
 match Tt s with
 |none=>.error 2
 |some l=>
  match yW l.j l.j l with
  |none=>.error 3
  |some a=>
   if a.any yR then .error 4 else
   match uC a with
   |none=>.error 5
   |some t=>
    if a.all xB then
     if (ul (t.j+1) t a).2 then .ok (a,(ul (t.j+1) t a).1) else .error 7
    else .error 6
def nw(o:Except Int (List zc×List zf))(w:U)(e:Ending)(w':U):Prop:=
 μ w w'/\match o with
  |.error n=>e=ε (.B #[.pointer Y,ι n])
  |.ok (c,t)=>∃a v b,e=ε (.B #[(π a),ι 0])/\Th w' a #[v,b] 131/\TO w.o.q 171 w' v c/\w'.r w.o.q 221 3 b t.j (um t)/\w.o.q<=a
def Rm(s:ByteArray)(w:U)(hs:s.q<=500)(h:Tt s=Y):Calls prog 59 #[.d s] w λe a=>e=ε (.B #[ν,.i false])/\μ w a:=by
 refine(Gv s w hs).y ?_;rintro e a ⟨c,b⟩;rw[h] at b;exact⟨b,c⟩
def rF(s:ByteArray)(w:U)(l:Δ)(hs:s.q<=500)(h:Tt s=Z l):Calls prog 59 #[.d s] w λe d=>∃v,e=ε (.B #[v,.i true])/\d.r w.o.q 182 2 v l.j (kt l)/\l.j<=500/\μ w d:=by
 refine(Gv s w hs).y ?_;rintro e d ⟨g,f⟩;rw[h] at f;obtain⟨v,a,b,c⟩:=f;exact⟨v,a,b,η,g⟩
def Qc(w:U)(b:O)(l:Δ)(a:Nat)(g:w.r a 182 2 b l.j (kt l))(f:l.j<=500)(h:yW l.j l.j l=Y):
  Calls prog 60 #[b] w λe c=>e=ε (.B #[ν,.i false])/\μ w c:=by
 refine(Uw w b l a g f).y ?_;rintro e c ⟨i,d⟩;rw[h] at d;exact⟨d,i⟩
def we(w:U)(f:O)(l:Δ)(c:Nat)(cs:Ξ)(j:w.r c 182 2 f l.j (kt l))(i:l.j<=500)(h:yW l.j l.j l=Z cs):
  Calls prog 60 #[f] w λe d=>∃v,e=ε (.B #[v,.i true])/\TO w.o.q 171 d v cs/\μ w d:=by
 refine(Uw w f l c j i).y ?_;rintro e d ⟨k,g⟩;rw[h] at g;obtain⟨v,a,b⟩:=g;exact⟨v,a,b,k⟩
def Mj(w:U)(v:O)(cs:Ξ)(a:TO lo 171 w v cs)(d:(cs.flatMap zm).j<=1000)(h:uC cs=Y):
  Calls prog 62 #[v] w λe b=>e=ε (.B #[.agg #[ν],.i false])/\μ w b:=by
 refine(DG w v cs a d).y ?_;rintro e b ⟨f,c⟩;rw[h] at c;exact⟨c,f⟩
def o9(w:U)(v:O)(cs:Ξ)(t:Ψ)(d:TO lo 171 w v cs)(i:(cs.flatMap zm).j<=1000)(h:uC cs=Z t):
  Calls prog 62 #[v] w λe c=>∃f,e=ε (.B #[.agg #[f],.i true])/\c.r w.o.q 221 3 f t.j (um t)/\μ w c:=by
 refine(DG w v cs d i).y ?_;rintro e c ⟨j,g⟩;rw[h] at g;obtain⟨v,a,b⟩:=g;exact⟨v,a,b,j⟩
def OU(s:ByteArray)(w:U)(hs:500<s.q)(a:s.q<=9223372036854775807):
  Calls prog 32 #[.d s] w λe b=>nw (.error 1) w e b:=by
 go_enter func32,ntmps32;go_wp2;go_ret2
 exact⟨zn _ _,rfl⟩
def OR(s:ByteArray)(w:U)(hs:s.q<=500)(b:Tt s=Y):
  Calls prog 32 #[.d s] w λe d=>nw (.error 2) w e d:=by
 have c:=Tg b;clear b;go_enter func32,ntmps32;go_wp2_with (go_at_call 59;refine(Rm s _ hs c).y ?_;rintro e f ⟨rfl,a⟩)
 go_ret2
 exact⟨a,rfl⟩
def Lf(s:ByteArray)(w:U)(hs:s.q<=500)(l:Δ)(i:Tt s=Z l)(h:yW l.j l.j l=Y):
  Calls prog 32 #[.d s] w λe m=>nw (.error 3) w e m:=by
 have k:=Tg i;have j:=Tg h;clear i h;go_enter func32,ntmps32;go_wp2_with (first|(go_at_call 59;refine(rF s _ l hs k).y ?_;rintro e p ⟨o,rfl,a,b,f⟩;obtain⟨n,g,rfl⟩:=zr a)|(go_at_call 60;refine(Qc _ _ l _ a b j).y ?_;rintro e q ⟨rfl,c⟩;have d:=Tk f c))
 go_ret2
 exact⟨d,rfl⟩
def LZ(s:ByteArray)(w:U)(hs:s.q<=500)(l:Δ)(cs:Ξ)(G:cs.any yR=true)(x:Tt s=Z l)(A:yW l.j l.j l=Z cs)(m:∀c∈cs,qo c)(f:cs.j<=1000):
  Calls prog 32 #[.d s] w λe B=>nw (.error 4) w e B:=by
 have z:=Tg x;have u:=Tg A;have j:=Tg m;have d:=Tg f;go_enter func32,ntmps32;go_wp2_with (first|(go_at_call 59;refine(rF s _ l hs z).y ?_;rintro e E ⟨F,rfl,b,n,i⟩;obtain⟨v,q,rfl⟩:=zr b)|(go_at_call 60;refine(we _ _ l _ cs b n u).y ?_;rintro e H ⟨D,rfl,a,o⟩;obtain⟨y,t,rfl⟩:=a.qy;have k:=Tk i o)|(go_at_call 61;refine(ty _ _ cs a j.l d.l).y ?_;rintro e C ⟨rfl,g⟩;have h:=Tk k g;have p:=a.u g))
 go_ret2
 exact⟨h,rfl⟩
def Pr(s:ByteArray)(w:U)(hs:s.q<=500)(l:Δ)(cs:Ξ)(P:cs.any yR=false)(D:Tt s=Z l)(H:yW l.j l.j l=Z cs)(t:∀c∈cs,qo c)(i:cs.j<=1000)(f:(cs.flatMap zm).j<=1000)(C:uC cs=Y):
  Calls prog 32 #[.d s] w λe I=>nw (.error 5) w e I:=by
 have F:=Tg D;have A:=Tg H;have p:=Tg t;have h:=Tg i;have d:=Tg f;have G:=Tg C;go_enter func32,ntmps32;go_wp2_with (first|(go_at_call 59;refine(rF s _ l hs F).y ?_;rintro e L ⟨N,rfl,b,u,m⟩;obtain⟨B,x,rfl⟩:=zr b)|(go_at_call 60;refine(we _ _ l _ cs b u A).y ?_;rintro e Q ⟨K,rfl,a,v⟩;obtain⟨E,y,rfl⟩:=a.qy;have q:=Tk m v)|(go_at_call 61;refine(ty _ _ cs a p.l h.l).y ?_;rintro e J ⟨rfl,j⟩;have k:=Tk q j;have g:=a.u j)|(go_at_call 62;refine(Mj _ _ cs g d.l G).y ?_;rintro e M ⟨rfl,o⟩;have n:=Tk k o;have z:=n.q))
 go_ret2
 exact⟨γ,rfl⟩
def Ro(s:ByteArray)(w:U)(hs:s.q<=500)(l:Δ)(cs:Ξ)(t:Ψ)(hm:cs.any yR=false)(K:cs.all xB=false)(P:Tt s=Z l)(T:yW l.j l.j l=Z cs)(A:∀c∈cs,qo c)(o:cs.j<=1000)(i:(cs.flatMap zm).j<=1000)(N:uC cs=Z t):
  Calls prog 32 #[.d s] w λe V=>nw (.error 6) w e V:=by
 have R:=Tg P;have L:=Tg T;have n:=Tg A;have f:=Tg o;have g:=Tg i;have S:=Tg N;go_enter func32,ntmps32;go_wp2_with (first|(go_at_call 59;refine(rF s _ l hs R).y ?_;rintro e w1 ⟨fv,rfl,d,E,y⟩;obtain⟨M,G,rfl⟩:=zr d)|(go_at_call 60;refine(we _ _ l _ cs d E L).y ?_;rintro e w2 ⟨cv,rfl,a,F⟩;obtain⟨Q,I,rfl⟩:=a.qy;have z:=Tk y F)|(go_at_call 61;refine(ty _ _ cs a n.l f.l).y ?_;rintro e W ⟨rfl,q⟩;have u:=Tk z q;have b:=a.u q)|(go_at_call 62;refine(o9 _ _ cs t b g.l S).y ?_;rintro e H ⟨pv,rfl,C,m⟩;obtain⟨D,p,rfl⟩:=zr C;have j:=Tk u m;have J:=j.q;have h:=b.u m)|(go_at_call 63;refine(Au _ _ cs (by exact h.u γ) n.l f.l).y ?_;rintro e w5 ⟨rfl,v⟩;have x:=(zn H.o.q H).C (zg _) (.E #[.k D t.j p] 127);have k:=Tk x v;have B:=Tk j k))
 go_ret2
 exact⟨B,rfl⟩
def NE(s:ByteArray)(w:U)(hs:s.q<=500)(l:Δ)(cs:Ξ)(t:Ψ)(hm:cs.any yR=false)(ac:cs.all xB=true)(W:(ul (t.j+1) t cs).2=false)(hS:Tt s=Z l)(hP:yW l.j l.j l=Z cs)(I:∀c∈cs,qo c)(v:cs.j<=1000)(n:(cs.flatMap zm).j<=1000)(hC:uC cs=Z t)(H:t.j<=1000)(Q:∀e∈t,e.L<=0):
  Calls prog 32 #[.d s] w λe w'=>nw (.error 7) w e w':=by
 have HS:=Tg hS;have HP:=Tg hP;have j:=Tg I;have f:=Tg v;have k:=Tg n;have HC:=Tg hC;have P:=Tg H;have L:=Tg Q;go_enter func32,ntmps32;go_wp2_with (first|(go_at_call 59;refine(rF s _ l hs HS).y ?_;rintro e w1 ⟨fv,rfl,g,M,C⟩;obtain⟨ae,R,rfl⟩:=zr g)|(go_at_call 60;refine(we _ _ l _ cs g M HP).y ?_;rintro e w2 ⟨cv,rfl,b,N⟩;obtain⟨af,V,rfl⟩:=b.qy;have F:=Tk C N)|(go_at_call 61;refine(ty _ _ cs b j.l f.l).y ?_;rintro e S ⟨rfl,z⟩;have o:=Tk F z;have a:=b.u z)|(go_at_call 62;refine(o9 _ _ cs t a k.l HC).y ?_;rintro e A ⟨pv,rfl,u,i⟩;obtain⟨K,x,rfl⟩:=zr u;have q:=Tk o i;have ab:=q.q;have m:=a.u i)|(go_at_call 63;refine(Au _ _ cs (by exact m.u γ) j.l f.l).y ?_;rintro e w5 ⟨rfl,p⟩;have B:=(zn A.o.q A).C (zg _) (.E #[.k K t.j x] 127);have d:=Tk B p;have J:=Tk q d)|(go_at_call 64;refine(HY S.o.q _ A.o.q t _ cs S rfl (Tk i d) a j.l f.l ⟨_,(Th.new A _ _).u p,zy u d⟩ P.l L.l).y ?_;rintro e w6 ⟨rfl,y,E⟩;obtain⟨ag,T,h,G⟩:=y.view;obtain⟨aa,ad⟩:=h.H;have D:=J.A (E.y (zY o.q (zg _)));have ah:=h.lt))
 go_ret2
 exact⟨D,rfl⟩
def Sq(s:ByteArray)(w:U)(hs:s.q<=500)(l:Δ)(cs:Ξ)(t:Ψ)(hm:cs.any yR=false)(ae:cs.all xB=true)(ab:(ul (t.j+1) t cs).2=true)(hS:Tt s=Z l)(hP:yW l.j l.j l=Z cs)(K:∀c∈cs,qo c)(B:cs.j<=1000)(q:(cs.flatMap zm).j<=1000)(hC:uC cs=Z t)(J:t.j<=1000)(S:∀e∈t,e.L<=0):
  Calls prog 32 #[.d s] w λe w'=>nw (.ok (cs,(ul (t.j+1) t cs).1)) w e w':=by
 have HS:=Tg hS;have HP:=Tg hP;have k:=Tg K;have f:=Tg B;have m:=Tg q;have HC:=Tg hC;have R:=Tg J;have N:=Tg S;go_enter func32,ntmps32;go_wp2_with (first|(go_at_call 59;refine(rF s _ l hs HS).y ?_;rintro e w1 ⟨fv,rfl,h,P,v⟩;obtain⟨ag,T,rfl⟩:=zr h)|(go_at_call 60;refine(we _ _ l _ cs h P HP).y ?_;rintro e w2 ⟨cv,rfl,d,Q⟩;obtain⟨ah,aa,rfl⟩:=d.qy;have I:=Tk v Q)|(go_at_call 61;refine(ty _ _ cs d k.l f.l).y ?_;rintro e V ⟨rfl,E⟩;have j:=Tk I E;have a:=d.u E)|(go_at_call 62;refine(o9 _ _ cs t a m.l HC).y ?_;rintro e F ⟨pv,rfl,A,g⟩;obtain⟨M,C,rfl⟩:=zr A;have y:=Tk j g;have ad:=y.q;have p:=a.u g)|(go_at_call 63;refine(Au _ _ cs (by exact p.u γ) k.l f.l).y ?_;rintro e w5 ⟨rfl,u⟩;have G:=(zn F.o.q F).C (zg _) (.E #[.k M t.j C] 127);have b:=Tk G u;have L:=Tk y b)|(go_at_call 64;refine(HY V.o.q _ F.o.q t _ cs V rfl (Tk g b) a k.l f.l ⟨_,(Th.new F _ _).u u,zy A b⟩ R.l N.l).y ?_;rintro e w6 ⟨rfl,D,x⟩;obtain⟨ai,W,i,n⟩:=D.view;obtain⟨ac,af⟩:=i.H;have H:=L.A (x.y (zY j.q (zg _)));have aj:=i.lt))
 have z:=H.q;have o:=a.u ((Tk g b).A x);go_ret2
 exact⟨γ,w6.o.q,_,_,rfl,Th.new _ _ _,(o.low v.q).u zP,yo (zy n zP) j.q,z⟩
def CQ(s:ByteArray)(w:U)(p:s.q<=9223372036854775807):
  Calls prog 32 #[.d s] w λe v=>nw (uF s) w e v:=by
 unfold uF;split;rename_i u;exact OU s w u p;rename_i u;have c:s.q<=500:=η;split;rename_i i;exact OR s w c i;rename_i l i;split;rename_i j;exact Lf s w c l i j;rename_i d j;have y:l.j<=500:=by
  have:=eP i;omega
 have x:=ix j;have f:=oW (cs:=d) η;have b:d.j<=1000:=by have:=oG d;omega
 have a:(d.flatMap zm).j<=1000:=by have:=ot d;omega
 split;rename_i q;exact LZ s w c l d q i j f b;rename_i q;have h:d.any yR=false:=by simpa using q
 split;rename_i m;exact Pr s w c l d h i j f b a m;rename_i t m;have n:t.j<=1000:=by have:=iO _ _ _ m;simp only[qW] at this;omega
 have o:=iq _ [] ζ t m;split;rename_i g;split;rename_i k;exact Sq s w c l d t h g k i j f b a m n o;rename_i k;exact NE s w c l d t h g (by simpa using k) i j f b a m n o;rename_i g;exact Ro s w c l d t h (by simpa using g) i j f b a m
end
section
open Go.RowKit
variable {lo:Nat}
def TP(B:Nat)(w:U)(tb:Nat)(t:List zf):Prop:=∃b a,Th w tb #[b,a] 131/\w.r B 221 3 a t.j (um t)
def TP.u{B:Nat}{w w':U}{tb:Nat}{t:Ψ}(h:TP B w tb t)(a:μ w w'):TP B w' tb t:=by
 obtain⟨e,b,d,c⟩:=h;exact⟨e,b,d.u a,zy c a⟩
end
section
open Go.Proofs.Tryz Go.RowKit
variable {lo:Nat}
def jq(lo:Nat)(w:U)(pb:Nat)(cs:List zc)(t:List zf):Prop:=lo<=pb/\∃v a,Th w pb #[v,a] 131/\TO lo 171 w v cs/\w.r lo 221 3 a t.j (um t)
def jq.u{w w':U}{pb:Nat}{cs:Ξ}{t:Ψ}(h:jq lo w pb cs t)(a:μ w w'):jq lo w' pb cs t:=by
 obtain⟨b,v,c,e,d,f⟩:=h;exact⟨b,v,c,e.u a,d.u a,zy f a⟩
def NM(w:U)(pb:Nat)(cs:Ξ)(t:Ψ)(h:jq lo w pb cs t):
  Calls prog 48 #[(π pb)] w λe b=>e=ε (ι cs.j)/\b=w:=by
 obtain⟨_,v,j,d,c,_⟩:=h;obtain⟨k,a,rfl⟩:=c.qy;obtain⟨i,g,f⟩:=d.e;go_enter func48,ntmps48;go_wp2;go_ret;exact⟨rfl,rfl⟩
def kF(cs:List zc):ByteArray:=cs.H (λs c=>s++(UW c++rg)) ByteArray.empty
def Hm{cs:Ξ}{k:Nat}(a:k<cs.j):kF (cs.G (k+1))=kF (cs.G k)++(UW cs[k]++rg):=by
 unfold kF;rw[yM a,qZ];rfl
def F7(M:Nat):∀(l:κ),(∀t∈l,t.q<=M)->(y6 l).q<=(M+2)*l.j
 |[],_=>by simp[y6]
 |[t],h=>by have:=h t ζ;simp[y6];omega
 |t::u::r,h=>by
  have c:=h t ζ;have a:=F7 M (u::r) λx b=>h x (nX _ b);show(t++ug++y6 (u::r)).q<=_;rw[ByteArray.size_append,ByteArray.size_append,show ug.q=2 from rfl];simp only[xt] at a ⊢;rw[Nat.mul_add,Nat.mul_one];omega
def J8{c:zc}(h:rf c):(UW c).q<=10000000:=by
 obtain⟨b,g⟩:=h;have a:∀l∈zm c,(xd l).q<=8009:=λl a=>by have:=t7 (b l a);have:=(b l a).2.2.1;omega
 have f:=a c.g (by simp[zm]);have i:(TQ c.d).q<=4+8011*c.d.j:=by
  unfold TQ;split;simp;rw[ByteArray.size_append,show fQ.q=4 from rfl];have:=F7 8009 (c.d.map xd) λt e=>by
   obtain⟨l,d,rfl⟩:=zF.1 e;exact a l (by simp[zm,d])
  rw[xu] at this;omega
 unfold UW;rw[ByteArray.size_append,ByteArray.size_append,show sD.q=1 from rfl];omega
def R6(w:U)(pb:Nat)(cs:Ξ)(t:Ψ)(h:jq lo w pb cs t)(hl:cs.j<=1000)(G:∀c∈cs,rf c):
  Calls prog 47 #[(π pb)] w λe w'=>e=ε (.d (kF cs))/\μ w w':=by
 obtain⟨_,v,pv,h1,F,_⟩:=h;obtain⟨ao,R,rfl⟩:=F.qy;obtain⟨T,A,ae⟩:=h1.e;have L:=Tg G;clear G;go_enter func47,ntmps47;go_wp2;go_loopw [3,11] (λV B wr=>∃(k:Nat) (s:ByteArray),k<=cs.j/\B=ι k/\V=.d s/\s.q<=10000001*k/\X (s=kF (cs.G k))/\μ w wr) (λ_ i _=>cs.j-(intOf i).D);exact⟨0,_,zs _,rfl,rfl,zg _,rfl,zn _ _⟩;clear T A;obtain⟨k,s,hk,rfl,rfl,S,H,a⟩:=hrel;have r:=a.q;by_cases j:k<cs.j
 .obtain⟨g,ab,E,P,I,rfl,u,p,n,l,m,q,o⟩:=F.cell k j;have aa:=zi a u p;have Q:=zi a u n;have M:=zi a u l;have N:=zi a u m;have ac:g<wr.o.q:=η;have J:=Hm j;have f:=L.l _ (zq j);have b:=q.u a;have d:=o.u a;clear p n l m q o;generalize cs[k]=c at *;have ad:=J8 f;have HL:=Tg λW K=>MU W c _ _ (b.u K) (d.u K) f;clear b d f;generalize UW c=x at *;have y:rg.q=1:=rfl;have hq:(x++rg).q=x.q+1:=by rw[ByteArray.size_append,y]
  have C:X (s++(x++rg)=kF (cs.G (k+1))):=by rw[X,J,H.l]
  clear J H;go_wp2_with (go_at_call 85;refine(HL.l _ γ).y ?_;rintro e w2 ⟨rfl,D⟩;have z:=Tk (a.C r _) D)
  go_roundw;exact⟨k+1,s++(x++rg),η,ξ,rfl,(by rw[ByteArray.size_append];omega),C,z⟩;simp[intOf];omega
 have C:X (s=kF cs):=by rw[X,H.l,yV η]
 clear H;go_wp2;go_ret;exact⟨by rw[←C.l];rfl,a⟩
end
structure qC where
 D:List Nat
 down:List Nat
 deriving DecidableEq
structure zl where
 r:Nat
 ql:Nat
 B:List qC
 count:Nat
 deriving DecidableEq
abbrev zk:=List Nat
def qC.zero:qC:=⟨[],[]⟩
def yD(T:zl):zl:={T with B:=T.B++[⟨List.replicate T.r T.r,List.replicate T.r 0⟩]}
def zM(a:Nat):Nat:=if a<1 then 1 else a
def xx(a:Nat):Nat:=if (if a<1 then 1 else a)>3 then 3 else(if a<1 then 1 else a)
def xk(b a:Nat):zl:=yD ⟨zM b,xx a,[],0⟩
def yF(T:zl)(at' «from» : Nat):Option Nat:=
 if at'<T.B.j/\«from»<T.r then
  let v:=(T.B.g at' qC.zero).D.g «from» 0
  if v≥T.r then Y else Z v
 else Y
def zJ(T:zl)(at' v:Nat):Option Nat:=
 match yF T at' v with
 |none=>Y
 |some u=>if u=v then Z ((T.B.g at' qC.zero).down.g v 0) else Y
def kq(v:Nat):Nat->List Nat->List Nat
 |0,l=>l
 |n+1,l=>if l.g n 0>v then kq v n (l.set n v) else l
def lM(n:qC)(v d:Nat):qC:=⟨kq v (v+1) n.D,n.down.set v d⟩
def yk(T:zl)(at' v d:Nat):zl:=
 if at'<T.B.j/\v<T.r then{T with B:=T.B.set at' (lM (T.B.g at' qC.zero) v d)} else T
def qA(T:zl)(at' v:Nat):zl×Nat:=
 match zJ T at' v with
 |some b=>(T,b)
 |none=>(yk (yD T) at' v T.B.j,T.B.j)
def dY(T:zl)(at' v a:Nat):zl×Bool:=
 match zJ T at' v with
 |some _=>(T,false)
 |none=>({yk T at' v a with count:=(yk T at' v a).count+1},true)
def lE(T:zl)(row:zk):Bool:=row.all (λv=>v<T.r)
def vB(a:Nat):zl->Nat->Nat->zk->zl×Bool
 |T,_,_,[]=>(T,false)
 |T,at',level,v::r=>
  if level+1≥T.ql then dY T at' v a else vB a (qA T at' v).1 (qA T at' v).2 (level+1) r
def yC(T:zl)(row:zk)(a:Nat):zl×Bool:=if lE T row then vB a T 0 0 row else(T,false)
def uT(T:zl):Nat->Nat->zk->Option Nat
 |_,_,[]=>Y
 |at',level,v::r=>
  match zJ T at' v with
  |none=>Y
  |some b=>if level+1≥T.ql then Z b else uT T b (level+1) r
def ua(T:zl)(row:zk):Option Nat:=uT T 0 0 row
def ud(T:zl):Nat->Nat->Nat->Nat->zk->List zk->Option (zk×List zk)
 |0,_,_,_,_,_=>Y
 |n+1,at',level,«from»,row,a=>
  match yF T at' «from» with
  |none=>Z (row,a)
  |some v=>
   let row:=row.set level v
   if level+1≥T.ql then ud T n at' level (v+1) row (a++[row])
   else if level+1≥3 then ud T n at' level (v+1) row a
   else match ud T n ((zJ T at' v).g 0) (level+1) 0 row a with
    |none=>Y
    |some (row,a)=>ud T n at' level (v+1) row a
def my(a:Nat)(T:zl):Option (List zk):=(ud T a 0 0 0 [0,0,0] []).w (·.2)
structure yi where
 var:Bool
 z:Nat
 w:Nat
 deriving DecidableEq
structure zw where
 o:Nat
 v:List yi
 deriving DecidableEq
structure zu where
 L:Nat
 m:Nat
 g:zw
 qc:List zw
 qx:List zw
 deriving DecidableEq
def zK(l:zw)(place:Nat):Bool:=l.v.any λt=>t.var&&t.z == place
def xh(l:zw)(place:Nat):Option Nat:=if zK l place then Z ((List.range place).countP (zK l)) else Y
def xi(l:zw):Nat:=(List.range 5).countP (zK l)
def vj(l:zw):Nat:=l.v.H (λk t=>if t.var&&decide (t.z≥k) then t.z+1 else k) 0
def ku(l:zw)(je:Int):Int:=l.v.H (λk t=>if t.var&&decide ((t.z:Int)<je)&&decide ((t.z:Int)>k) then(t.z:Int) else k) (-1)
def qV(l:zw)(je:Int):Int:=if (vj l:Int)<=je then -1 else ku l je
def qa(je b:Int)(l:zw):Int:=if qV l je>b then qV l je else b
def xM(r:zu)(je:Int):Int:=r.qx.H (qa je) (r.qc.H (qa je) (ku r.g je))
def U0(t:yi)(vals:List Nat):Nat:=if t.var&&decide (t.z<5) then vals.g t.z 0 else t.z
def Tj(l:zw)(vals:List Nat)(i:Nat):Nat:=if i<l.v.j then U0 (l.v.g i ⟨false,0,0⟩) vals else 0
def zH(l:zw)(vals:List Nat):zk:=[Tj l vals 0,Tj l vals 1,Tj l vals 2]
def leveled(t:yi):Bool:=t.var&&decide (t.w<3)
def jv(l:zw)(row f:zk)(i:Nat):zk:=
 if i<l.v.j/\leveled (l.v.g i ⟨false,0,0⟩)=true then f.set (l.v.g i ⟨false,0,0⟩).w (row.g i 0) else f
def uL(l:zw)(row:zk):zk:=jv l row (jv l row (jv l row [0,0,0] 0) 1) 2
def jM(t:yi)(v:Nat)(f:zk):Bool:=if leveled t then f.g t.w 0 == v else t.z == v
def xU(l:zw)(row f:zk)(i:Nat):Bool:=decide (l.v.j<=i)||jM (l.v.g i ⟨false,0,0⟩) (row.g i 0) f
def xZ(l:zw)(row:zk):Option zk:=
 if xU l row (uL l row) 0&&xU l row (uL l row) 1&&xU l row (uL l row) 2 then Z (uL l row) else Y
structure xb where
 I:zl
 B:List Nat
 deriving DecidableEq
structure wG where
 lit:zw
 je:Nat
 I:zl
 deriving DecidableEq
structure zE where
 g:zw
 m:Nat
 ja:List xb
 bars:List wG
 jf:List (List (Nat×Nat))
 ji:List Int
 last:Int
 P:List Nat
 «from» : List Nat
 ql:Int
 /-- as the code counts them: an int of Go's -/
 jg:Int
 deriving DecidableEq
def xb.zero:xb:=⟨⟨0,0,[],0⟩,[]⟩
def xy(r:zu)(place:Nat):List (Nat×Nat):=
 r.qc.zipIdx.filterMap λx=>(xh x.1 place).w λa=>(x.2,a)
def vi(J:zE)(je:Nat):Bool:=J.bars.any λb=>b.je == je&&(ua b.I (zH b.lit J.P)).I
def xK(r:zu)(qc qx:List zl):zE:=
 let J:zE:={g:=r.g,m:=r.m,ja:=qc.w (λT=>⟨T,[0,0,0]⟩),bars:=(r.qx.zip qx).w (λx=>⟨x.1,vj x.1,x.2⟩),jf:=(List.range 5).w (xy r),ji:=(List.range 5).w (λp=>xM r (p:Nat)),last:=xM r r.m,P:=[0,0,0,0,0],«from»:=[0,0,0,0,0],ql:=if qc.any (λT=>T.count == 0) then -1 else 0,jg:=0}
 if vi J 0 then{J with ql:=-1} else J
def vY(J:zE)(h:Nat×Nat):Bool:=decide (h.1<J.ja.j)&&decide (h.2<3)
def qe(J:zE)(h:Nat×Nat)(«from» : Nat):zE×Option Nat:=
 if vY J h then({J with jg:=IntKind.i64.wrap (J.jg+1)},yF (J.ja.g h.1 xb.zero).I ((J.ja.g h.1 xb.zero).B.g h.2 0) «from») else(J,Y)
def gE:Nat->zE->List (Nat×Nat)->Nat->Nat->Nat->Option (zE×Option Nat)
 |0,_,_,_,_,_=>Y
 |n+1,J,c,at',b,a=>
  if b<c.j then
   match qe J (c.g a (0,0)) at' with
   |(J,Y)=>Z (J,Y)
   |(J,Z v)=>gE n J c (if v>at' then v else at') ((if v>at' then 0 else b)+1) (if a+1≥c.j then 0 else a+1)
  else Z (J,Z at')
def l6(a:Nat)(J:zE)(place «from» : Nat):Option (zE×Option Nat):=
 if place≥5∨(J.jf.g place []).j=0 then Z (J,Y) else gE a J (J.jf.g place []) «from» 0 0
def vw(v:Nat)(J:zE)(h:Nat×Nat):zE:=
 if vY J h=false∨h.2+1≥3 then J
 else{J with ja:=J.ja.set h.1 {(J.ja.g h.1 xb.zero) with B:=(J.ja.g h.1 xb.zero).B.set (h.2+1) ((zJ (J.ja.g h.1 xb.zero).I ((J.ja.g h.1 xb.zero).B.g h.2 0) v).g 0)}}
def uE(J:zE)(place v:Nat):zE:=
 if place≥5 then J
 else(J.jf.g place []).H (vw v) {J with P:=J.P.set place v,«from»:=(if place+1<5 then(J.from.set place (v+1)).set (place+1) 0 else J.from.set place (v+1))}
def jE:Nat->zE->Int->Option (zE×Bool)
 |0,_,_=>Y
 |n+1,J,a=>
  if 0<=a/\a<J.m/\a<5 then
   match l6 n J a.D (J.from.g a.D 0) with
   |none=>Y
   |some (J,Y)=>jE n J (J.ji.g a.D 0)
   |some (J,Z v)=>jE n (uE J a.D v) (if vi (uE J a.D v) (a.D+1) then a else a+1)
  else Z (J,decide (a≥J.m))
def lf(b:Nat)(J:zE):Option (zE×Bool):=
 match jE b J J.ql with
 |none=>Y
 |some (J,a)=>Z ({J with ql:=if a then J.last else -1},a)
structure yH where
 lit:zw
 before:zl
 qw:zl
 all:zl
 deriving DecidableEq
structure yd where
 p:zu
 F:List yH
 deriving DecidableEq
structure jI where
 o:Nat
 row:zk
 deriving DecidableEq
structure js where
 r:Nat
 M:List Nat
 facts:List jI
 H:List zu
 deriving DecidableEq
structure zv where
 I:List zl
 count:Nat
 Q:Nat
 jg:Int
 qw:List (List zk)
 deriving DecidableEq
def zl.zero:zl:=⟨0,0,[],0⟩
def qS(R:zv):zv:={R with qw:=List.replicate R.I.j []}
def okT(T:zl):Bool:=decide (T.B.j<=90000000)&&decide (T.count<1000000000)
def xY:List zk->zl->Option zl
 |[],T=>Z T
 |r::a,T=>if okT T then xY a (yC T r 0).1 else Y
def rowsG(a:Nat)(T:zl):Option (List zk):=
 match my a T with
 |none=>Y
 |some b=>if b.j<=1048576 then Z b else Y
def jV(b:Nat)(R:zv)(a:Nat)(row:zk):Option (zv×Bool):=
 if a<R.I.j/\a<R.qw.j/\okT (R.I.g a zl.zero)=true/\R.count<=1048576/\(R.qw.g a []).j<=1048576 then
  match yC (R.I.g a zl.zero) row R.Q with
  |(T,false)=>Z ({R with I:=R.I.set a T},true)
  |(T,true)=>Z ({R with I:=R.I.set a T,qw:=R.qw.set a (R.qw.g a []++[row]),count:=R.count+1},decide (R.count+1<=b))
 else Y
def ma(b:Nat)(R:zv)(a:Nat):zl:=if a≥R.I.j then xk b 0 else R.I.g a zl.zero
def fz(d g:Nat)(V:yH)(c:List zk):Option yH:=
 match rowsG d V.qw with
 |none=>Y
 |some e=>
  match xY e V.before,xY (c.filterMap (xZ V.lit)) (xk g (xi V.lit)),xY (c.filterMap (xZ V.lit)) V.all with
  |some b,Z f,Z a=>Z {V with before:=b,qw:=f,all:=a}
  |_,_,_=>Y
def gF(a:Nat)(l:zw):yH:=⟨l,xk a (xi l),xk a (xi l),xk a (xi l)⟩
def fA(a c:Nat)(R:zv):List zw->Option (List yH)
 |[]=>Z []
 |l::r=>
  match rowsG a (ma c R l.o) with
  |none=>Y
  |some b=>match fz a c (gF c l) b,fA a c R r with
   |some v,Z vs=>Z (v::vs)
   |_,_=>Y
def TE(a b:Nat)(R:zv)(c:Nat):List zu->Option (List yd)
 |[]=>Z []
 |r::d=>
  if r.L=c then
   match fA a b R r.qc,TE a b R c d with
   |some vs,Z e=>Z (⟨r,vs⟩::e)
   |_,_=>Y
  else TE a b R c d
def vX(a b:Nat):Nat->zv->zE->Option (zv×Bool)
 |0,_,_=>Y
 |n+1,R,J=>
  match lf n J with
  |none=>Y
  |some (J,false)=>Z ({R with jg:=IntKind.i64.wrap (R.jg+J.jg)},true)
  |some (J,true)=>match jV a R b (zH J.g J.P) with
   |none=>Y
   |some (R,false)=>Z (R,false)
   |some (R,true)=>vX a b n R J
def j0(a:Nat)(R:zv)(r:zu):List zl:=r.qx.w λl=>ma a R l.o
def T5(vs:List yH)(place:Nat):List zl:=vs.zipIdx.w λx=>if x.2<place then x.1.before else if x.2=place then x.1.qw else x.1.all
def jR(b c a:Nat)(W:yd):Nat->Nat->zv->Option (zv×Bool)
 |0,_,R=>Z (R,true)
 |n+1,i,R=>
  if (W.F.g i ⟨⟨0,[]⟩,zl.zero,zl.zero,zl.zero⟩).qw.count>0 then
   match vX a W.p.g.o b R (xK W.p (T5 W.F i) (j0 c R W.p)) with
   |none=>Y
   |some (R,false)=>Z (R,false)
   |some (R,true)=>jR b c a W n (i+1) R
  else jR b c a W n (i+1) R
def gh(b c a:Nat)(first:Bool)(R:zv)(W:yd):Option (zv×Bool):=
 if first then vX a W.p.g.o b R (xK W.p (W.F.w (·.all)) (j0 c R W.p))
 else jR b c a W W.F.j 0 R
def gq(b c a:Nat)(first:Bool):List yd->zv->Option (zv×Bool)
 |[],R=>Z (R,true)
 |W::d,R=>
  match gh b c a first R W with
  |none=>Y
  |some (R,false)=>Z (R,false)
  |some (R,true)=>gq b c a first d R
def f6(a c:Nat)(b:List (List zk)):List yH->Option (List yH)
 |[]=>Z []
 |V::vs=>
  match (if V.lit.o<b.j then fz a c V (b.g V.lit.o []) else Z V),f6 a c b vs with
  |some v,Z vs=>Z (v::vs)
  |_,_=>Y
def fe(a c:Nat)(d:List (List zk)):List yd->Option (List yd)
 |[]=>Z []
 |W::b=>
  match f6 a c d W.F,fe a c d b with
  |some v,Z b=>Z ({W with F:=v}::b)
  |_,_=>Y
def pT(b d a:Nat)(first:Bool)(c:List yd)(R:zv):Option (zv×List yd×Bool):=
 match gq b d a first c (qS {R with Q:=R.Q+1}) with
 |none=>Y
 |some (R,false)=>Z (R,c,false)
 |some (R,true)=>(fe b d R.qw c).w λc=>(R,c,true)
def kY(e b a:Nat):Nat->Bool->List yd->zv->Option (zv×Bool)
 |0,_,_,_=>Y
 |n+1,first,d,R=>
  if R.Q≥a then Z (R,false)
  else match pT n e b first d R with
   |none=>Y
   |some (c,_,false)=>Z (c,false)
   |some (c,d,true)=>if c.count>R.count then kY e b a n false d c else Z (c,true)
def pO(c f b a:Nat)(d:List zu)(R:zv)(s:Nat):Option (zv×Bool):=
 match TE c f R s d with
 |none=>Y
 |some e=>if e.j>0 then kY f b a c true e R else Z (R,true)
def kP(d e b a:Nat)(c:List zu):Nat->Nat->zv->Option (zv×Bool)
 |0,_,R=>Z (R,true)
 |n+1,s,R=>
  match pO d e b a c R s with
  |none=>Y
  |some (R,false)=>Z (R,false)
  |some (R,true)=>kP d e b a c n (s+1) R
def gJ(a:Nat):List jI->zv->Option (zv×Bool)
 |[],R=>Z (R,true)
 |f::b,R=>
  match jV a R f.o f.row with
  |none=>Y
  |some (R,false)=>Z (R,false)
  |some (R,true)=>gJ a b R
def l7(S:js):zv:=qS ⟨S.M.w (xk S.r),0,0,0,[]⟩
def pk(c:Nat)(S:js)(a b:Nat):Option (Option zv):=
 match gJ a S.facts (l7 S) with
 |none=>Y
 |some (_,false)=>Z Y
 |some (R,true)=>(kP c S.r a b S.H S.M.j 0 R).w λx=>if x.2 then Z x.1 else Y
section
variable {d i:Nat}{listed:Array Bool}{w:U}
section
variable {P:Program} {ops:Array Oper} {Q:Exit->Act->U->Prop} {md:Region.Mode} {S:U->Prop}
def lI(P:Program)(md:Region.Mode)(ops:Array Oper)(Q:Exit->Act->U->Prop)(S:U->Prop)(d:Nat):Nat->Array Bool->Act->U->Prop
 |0,listed,a,w=>Region.ready md ops listed=[]/\Q .normal a w
 |b+1,listed,a,w=>
  (Region.ready md ops listed=[]->Q .normal a w) ∧
  ∀i∈Region.ready md ops listed,wpOp P ops Q i (λe c=>(i≠d->S c)/\lI P md ops Q S d b (listed.setIfInBounds i true) e c) a w
def DO{d:Nat}:∀(b:Nat) (listed:Array Bool) (a:Act) (w:U),lI P md ops Q S d b listed a w->wpAny P md ops Q b listed a w
 |0,_,_,_,h=>h
 |b+1,_,_,_,h=>⟨h.1,λi e=>wpOp_mono (λg c f=>DO b _ g c f.2) (h.2 i e)⟩
def Ud(md:Region.Mode)(ops:Array Oper)(d i:Nat):Bool:=match ops[d]? with
 |none=>false
 |some o=>o.after.v.any λe=>Region.binds md e&&e.on == i
def Qg(h:Ud md ops d i=true):∃o,ops[d]?=Z o/\∃e∈o.after,Region.binds md e=true/\e.on=i:=by
 unfold Ud at h;split at h;cases h;rename_i o c;obtain⟨e,b,a⟩:=fc.1 h;simp only[uK,beq_iff_eq] at a;exact⟨o,c,e,by simpa using b,a⟩
def PR{s:Oper}{v:O}(M:ops[i]?=Z s)(r:∀(j:Nat) (o:Oper) y b,ops[j]?=Z o->o.op≠.select y b)
  (hQ:∀c a w,Q (.panic c) (a.put s.dst v) w->Q (.panic c) a w) (hd:Ud md ops d i=true):
  ∀(g:Nat) (listed:Array Bool) (a:Act) (w:U),
   (∀j x,ops[j]?=Z x->j≠i->listed.g j true=false->(∀e∈x.after,Region.binds md e=true->e.on≠i)->s.apart ops x=true) →
   i∈Region.ready md ops listed->YieldsIf P ops S s v a->S w →
   lI P md ops Q S d g (listed.setIfInBounds i true) (a.put s.dst v) w->lI P md ops Q S d (g+1) listed a w:=by
 intro g;induction g with
 |zero=>
  intro listed a w _ u D C H;refine⟨λh=>(by rw[h] at u;cases u),λj F=>?_⟩;by_cases f:j=i;subst f;exact D.wpOp M C ⟨λ_=>C,H⟩;have:=ready_mono F f;rw[H.1] at this;cases this
 |succ g ih=>
  intro listed a w l u D C H;refine⟨λh=>(by rw[h] at u;cases u),λj F=>?_⟩;by_cases f:j=i;subst f;exact D.wpOp M C ⟨λ_=>C,H⟩;have t:=H.2 j (ready_mono F f);obtain⟨q,x,n,z⟩:=mem_ready.1 F;have p:∀e∈x.after,Region.binds md e=true->e.on≠i:=λe G T R=>by
   have t:=z e G T;have V:=(mem_ready.1 u).1;rw[R] at t;rcases dV i listed.q with J|J;simp[J] at V t;rw[V] at t;cases t;simp[Array.getElem?_eq_none J] at t
  have L:j≠d:=λe=>by
   subst e;obtain⟨od,W,e,G,T,I⟩:=Qg hd;rw[n] at W;cases W;exact p e G T I
  have h2:=wpOp_putIf n (l j x n f q p) (λy b=>r i s y b M) (λy b=>r j x y b n) hQ D t;have m:∀k ok,ops[k]?=Z ok->k≠i->(listed.setIfInBounds j true).g k true=false →
    (∀e∈ok.after,Region.binds md e=true->e.on≠i)->s.apart ops ok=true:=λk ok hk K B N=>by
   refine l k ok hk K ?_ N;by_cases A:j=k
   .subst A;exact q
   .rw[getD_set_ne true A] at B;exact B
  refine wpOp_mono (λa' w' E=>⟨E.2.1,ih (listed.setIfInBounds j true) a' w' m (ready_mono u (Ne.symm f)) E.1 (E.2.1 L) ?_⟩) h2;rw[Array.setIfInBounds_comm _ _ f];exact E.2.2
def uA{e:Oper}{v:O}{b:Nat}{a:Act}(f:ops[i]?=Z e)
  (hs:Region.noSelect ops=true) (g:Region.free md ops listed i=true) (n:(Region.ready md ops listed).contains i=true) (m:Ud md ops d i=true)
  (l:∀c a w,Q (.panic c) (a.put e.dst v) w->Q (.panic c) a w) (k:YieldsIf P ops S e v a) (j:S w)
  (h:lI P md ops Q S d b (listed.setIfInBounds i true) (a.put e.dst v) w):lI P md ops Q S d (b+1) listed a w:=
 PR f (Region.noSelect_spec hs) l m b listed a w (Region.free_spec f g) (by simpa using n) k j h
def fI{o:Oper}{b:Nat}{a:Act}(e:Region.ready md ops listed=[i])(k:ops[i]?=Z o)
  (h:∀c:Act->U->Prop,Shut (∀a w,(i≠d->S w)->lI P md ops Q S d b (listed.setIfInBounds i true) a w->c a w)->if Region.wanted o (yielded ops a.tmps)=true then Oper.wp P o a w c Q else c (a.put o.dst undef) w):lI P md ops Q S d (b+1) listed a w:=by
 refine⟨λf=>(by rw[e] at f;cases f),λj g=>?_⟩;rw[e] at g;obtain rfl:j=i:=by simpa using g
 exact wpOp_step k (λc m=>h c (λa w n l=>m a w ⟨n,l⟩))
def iZ{a:Act}(c:Region.ready md ops listed=[])(h:Q .normal a w):∀b,lI P md ops Q S d b listed a w
 |0=>⟨c,h⟩
 |_+1=>⟨λ_=>h,by rw[c];simp⟩
def BX{id:Nat}{a:Act}(b:P.follows .mixedOrders=true)(c:S w.drew)
  (h:S w.drew->lI P .any ops Q S d ops.q (Array.replicate ops.q false) a w.drew):(Code.region id ops true).wp P Q a w:=
 wp_region_any b (DO _ _ _ _ (h c))
end
end
section
open Go.RowKit
structure V8 where
 kind:Int
 a:Int
 b:Int
 c:Int
 s:ByteArray
structure V2 (w:U) (v:O) (l:List V8):Prop where
 qy:∃ao cap,v=.k ao l.j cap
 E:∀k (hk:k<l.j),∃b o cap,v=.k (Z ⟨b,o,Y⟩) l.j cap/\b<w.o.q/\w.p ⟨b,o+k*5,Y⟩=Z (ι l[k].kind)/\w.p ⟨b,o+k*5+1,Y⟩=Z (ι l[k].a) ∧
  w.p ⟨b,o+k*5+2,Y⟩=Z (ι l[k].b)/\w.p ⟨b,o+k*5+3,Y⟩=Z (ι l[k].c)/\w.p ⟨b,o+k*5+4,Y⟩=Z (.d l[k].s)
 len:l.j<=281474976710656
 fits:∀x∈l,x.s.q<=281474976710656
def V2.u{w w':U}{v:O}{l:List V8}(h:V2 w v l)(c:μ w w'):V2 w' v l:=
 ⟨h.qy,λk j=>by
  obtain⟨b,o,d,f,a,e,i,g,n,m⟩:=h.E k j;exact⟨b,o,d,f,ym a c.q,(zi c a e),(zi c a i),(zi c a g),(zi c a n),(zi c a m)⟩,h.len,h.fits⟩
def V2.cell{w:U}{d:Option Addr}{n cap:Nat}{l:List V8}(h:V2 w (.k d n cap) l)(k:Nat)(e:k<l.j):∃b o,d=Z (ω b o)/\b<w.o.q/\w.p (ω b (o+k*5))=Z (ι l[k].kind)/\w.p (ω b (o+k*5+1))=Z (ι l[k].a) ∧
  w.p (ω b (o+k*5+2))=Z (ι l[k].b)/\w.p (ω b (o+k*5+3))=Z (ι l[k].c)/\w.p (ω b (o+k*5+4))=Z (.d l[k].s):=by
 obtain⟨b,o,a,c,r⟩:=h.E k e;simp at c;exact⟨b,o,c.1,r⟩
def Vs(w:U)(v:O)(b:List Int):Prop:=∃a,w.r a 3 1 v b.j (b.w (O.int .i64))
def Vs.u{w w':U}{v:O}{l:List Int}(h:Vs w v l)(a:μ w w'):Vs w' v l:=by obtain⟨b,h⟩:=h;exact⟨b,zy h a⟩
def Vs.qy{w:U}{v:O}{l:List Int}(h:Vs w v l):∃c a,v=.k c l.j a:=by obtain⟨b,h⟩:=h;exact zr h
def Vs.cell{w:U}{e:Option Addr}{n cap:Nat}{b:List Int}(h:Vs w (.k e n cap) b)(k:Nat)(l:k<b.j):∃g,e=Z (δ g)/\g<w.o.q/\w.p (ω g k)=Z (ι b[k]):=by
 obtain⟨f,j⟩:=h;obtain⟨g,c,d,_,i,a⟩:=yr j η;simp at d;exact⟨g,d.1,i,a k _ (by simp[l])⟩
end
section
variable {v:ByteArray}{vs:κ}
def KP{t:ByteArray}:v∈jX vs t↔v∈vs∨(v=t/\zT v=true):=by
 unfold jX;cases a:zT t;exact⟨zh,λh=>h.elim id λx=>by have g:=x.2;rw[x.1,a] at g;cases g⟩;cases b:yh t vs;simp only[Bool.not_false,Bool.and_true,if_true,ya,xQ];exact⟨λh=>h.elim zh λe=>ze ⟨e,by rw[e];exact a⟩,λh=>h.elim zh λe=>ze e.1⟩;exact⟨zh,λh=>h.elim id fun⟨e,_⟩=>by subst e;exact vO.1 b⟩
def iN{v:ByteArray}:∀{args vs:κ},v∈xG vs args↔v∈vs∨(v∈args/\zT v=true)
 |[],vs=>by simp[xG]
 |t::r,vs=>by
  show v∈xG (jX vs t) r↔_;rw[iN,KP,zG];constructor
  .rintro((h|⟨h,g⟩)|⟨h,g⟩)
   .exact zh h
   .exact ze ⟨zh h,g⟩
   .exact ze ⟨ze h,g⟩
  .rintro(h|⟨h|h,g⟩)
   .exact zh (zh h)
   .exact zh (ze ⟨h,g⟩)
   .exact ze ⟨h,g⟩
def De{v:ByteArray}:∀{a:Ω} {vs:κ},v∈a.H gC vs↔v∈vs∨(zT v=true/\∃l∈a,v∈l.k)
 |[],vs=>ζ
 |l::r,vs=>by
  rw[uG,De,gC,iN];simp only[zG,exists_eq_or_imp];constructor
  .rintro((h|⟨h,g⟩)|⟨g,h⟩)
   .exact zh h
   .exact ze ⟨g,zh h⟩
   .exact ze ⟨g,ze h⟩
  .rintro(h|⟨g,h|h⟩)
   .exact zh (zh h)
   .exact zh (ze ⟨h,g⟩)
   .exact ze ⟨g,h⟩
def Ii{v:ByteArray}:∀{a:Ω} {vs:κ},v∈a.H qd vs↔v∈vs∨(zT v=true/\∃l∈a,l.i=false/\v∈l.k)
 |[],vs=>ζ
 |l::r,vs=>by
  rw[uG,Ii,qd];simp only[zG,exists_eq_or_imp];cases b:l.i with
  |true=>simp
  |false=>
   rw[za ζ,iN];constructor
   .rintro((h|⟨h,g⟩)|⟨g,h⟩)
    .exact zh h
    .exact ze ⟨g,zh ⟨rfl,h⟩⟩
    .exact ze ⟨g,ze h⟩
   .rintro(h|⟨g,⟨-,h⟩|h⟩)
    .exact zh (zh h)
    .exact zh (ze ⟨h,g⟩)
    .exact ze ⟨g,h⟩
def ev{c:zc}:v∈uq c↔zT v=true/\(v∈c.g.k∨∃l∈c.d,v∈l.k):=by
 unfold uq;rw[De,iN];constructor;rintro((h|⟨h,g⟩)|⟨g,h⟩);exact zB h ζ;exact⟨g,zh h⟩;exact⟨g,ze h⟩;rintro⟨g,h|h⟩;exact zh (ze ⟨h,g⟩);exact ze ⟨g,h⟩
def fm{c:zc}:v∈zx c↔zT v=true/\∃l∈c.d,l.i=false/\v∈l.k:=by
 unfold zx;rw[Ii];simp
def nN{args:κ}:qK vs args=true↔∀t∈args,zT t=true->t∈vs:=by
 unfold qK;rw[gd];constructor;intro h t b a;have:=h t b;rw[a,nT,p8] at this;exact vO.1 this;intro h t b;cases a:zT t;rfl;rw[nT,p8];exact vO.2 (h t b a)
end
section
variable {b:ByteArray}
def Dm:∀a:List UInt8,Op.bytesLess a a=false
 |[]=>rfl
 |x::a=>by simp[Op.bytesLess,Dm a]
def FX:∀a b:List UInt8,Op.bytesLess a b=false->Op.bytesLess b a=false->a=b
 |[],[],_,_=>rfl
 |[],_::_,h,_=>by simp[Op.bytesLess] at h
 |_::_,[],_,h=>by simp[Op.bytesLess] at h
 |x::a,y::b,d,c=>by
  simp only[Op.bytesLess,pN,decide_eq_false_iff_not,eM,beq_eq_false_iff_ne] at d c;have e:x=y:=by
   have f:=d.1;have g:=c.1;rw[UInt8.not_lt] at f g;exact UInt8.le_antisymm g f
  subst e;rw[FX a b (d.2.resolve_left λh=>h rfl) (c.2.resolve_left λh=>h rfl)]
def Fg:∀a b c:List UInt8,Op.bytesLess a b=true->Op.bytesLess b c=true->Op.bytesLess a c=true
 |_,[],_,h,_=>by cases ‹List UInt8›<;>simp[Op.bytesLess] at h
 |_,_::_,[],_,h=>by simp[Op.bytesLess] at h
 |[],_::_,_::_,_,_=>rfl
 |x::a,y::b,z::c,e,d=>by
  simp only[Op.bytesLess,lz,decide_eq_true_eq,uK,beq_iff_eq] at e d ⊢;rcases e with e|⟨rfl,e⟩
  .rcases d with d|⟨rfl,d⟩
   .exact zh (UInt8.lt_trans e d)
   .exact zh e
  .rcases d with d|⟨rfl,d⟩
   .exact zh d
   .exact ze ⟨rfl,Fg a b c e d⟩
def Tv(a:ByteArray):TB a a=false:=Dm _
def sV{a:ByteArray}(d:TB a b=false)(c:TB b a=false):a=b:=Uo (FX _ _ d c)
def lt_trans{a c:ByteArray}(e:TB a b=true)(d:TB b c=true):TB a c=true:=Fg _ _ _ e d
def MF{a:ByteArray}(h:TB a b=true):TB b a=false:=by
 cases c:TB b a;rfl;have:=lt_trans h c;rw[Tv] at this;cases this
def y9(l:κ):Prop:=l.Pairwise λa b=>TB a b=true
def FG:∀{a b:κ},y9 a->y9 b->(∀x,x∈a↔x∈b)->a=b
 |[],[],_,_,_=>rfl
 |[],y::b,_,_,h=>by have:=(h y).2 ζ;cases this
 |x::a,[],_,_,h=>by have:=(h x).1 ζ;cases this
 |x::a,y::b,p,s,h=>by
  obtain⟨d,n⟩:=lH.1 p;obtain⟨i,l⟩:=lH.1 s;have o:x=y:=by
   have g:=(h x).1 ζ;have f:=(h y).2 ζ;rcases zG.1 g with g|g
   .exact g
   .rcases zG.1 f with f|f
    .exact f.z
    .have q:=i x g;have r:=d y f;have:=lt_trans q r;rw[Tv] at this;cases this
  subst o;have k:x∉a:=λc=>by have:=d x c;rw[Tv] at this;cases this
  have m:x∉b:=λc=>by have:=i x c;rw[Tv] at this;cases this
  rw[FG n l (λz=>?_)];have j:=h z;simp only[zG] at j;constructor
  .intro c;rcases j.1 (ze c) with e|e
   .subst e;exact zB c k
   .exact e
  .intro c;rcases j.2 (ze c) with e|e
   .subst e;exact zB c m
   .exact e
def mj(l a:κ):Nat:=(l.filter λy=>!yh y a).j
def JF{l a:κ}{x:ByteArray}(m:x∈l)(k:x∉a):mj l (a++[x])<mj l a:=by
 unfold mj;have i:∀l:κ,(l.filter λy=>!yh y (a++[x])).j<=(l.filter λy=>!yh y a).j/\(x∈l->(l.filter λy=>!yh y (a++[x])).j<(l.filter λy=>!yh y a).j):=by
  intro l;induction l with
  |nil=>simp
  |cons y l j=>
   have d:yh y a=true->yh y (a++[x])=true:=λh=>vO.2 (ya.2 (zh (vO.1 h)));cases f:yh y a;cases c:yh y (a++[x]);simp only[List.filter_cons,f,c,Bool.not_false,if_true,xt];refine⟨η,λg=>?_⟩;rcases zG.1 g with e|e;subst e;rw[tN] at c;simp at c;have:=j.2 e;omega;simp only[List.filter_cons,f,c,nT,Bool.not_false,gR,if_false,if_true,xt];exact⟨η,λ_=>η⟩;have c:=d f;simp only[List.filter_cons,f,c,nT,gR,if_false];refine⟨j.1,λg=>j.2 ?_⟩;rcases zG.1 g with e|e;subst e;exact zB (vO.1 f) k;exact e
 exact(i l).2 m
def DN(l:κ):mj l []=l.j:=by
 simp[mj,yh]
end
section
variable {t:List zf}
def Ti(t:List zf):κ:=t.w zf.name
def sR:∀(t:Ψ) (n:ByteArray),∀e∈t.G (zV t n),TB e.name n=true
 |[],_,e,h=>by simp at h
 |a::r,n,e,h=>by
  unfold zV at h;cases b:TB a.name n with
  |false=>simp[b] at h
  |true=>
   simp only[b,if_true,pR,zG] at h;rcases h with rfl|h
   .exact b
   .exact sR r n e h
def sQ:∀(t:Ψ) (n:ByteArray),y9 (Ti t)->∀e∈t.drop (zV t n),TB e.name n=false
 |[],_,_,e,h=>by simp at h
 |a::r,n,d,e,h=>by
  have b:y9 (a.name::Ti r):=d;unfold y9 at b;rw[lH] at b;unfold zV at h;cases c:TB a.name n with
  |true=>
   simp only[c,if_true,mF] at h;exact sQ r n b.2 e h
  |false=>
   simp only[c,gR,if_false,fx,zG] at h;rcases h with rfl|h
   .exact c
   .cases f:TB e.name n with
    |false=>rfl
    |true=>
     have:=lt_trans (b.1 e.name (zF.2 ⟨e,h,rfl⟩)) f;rw[c] at this;cases this
def pQ{n:ByteArray}{e:zf}(h:zU t n=Z e):e∈t/\e.name=n:=by
 obtain⟨c,b,a⟩:=jw h;exact⟨by rw[←b];exact zq c,a⟩
def rp{n:ByteArray}(k:y9 (Ti t))(h:zU t n=Y):∀e∈t,e.name≠n:=by
 intro e a f;rw[←kj (zV t n) t,ya] at a;rcases a with a|a;have:=sR t n e a;rw[f,Tv] at this;cases this;rcases iQ h with j|⟨j,g⟩;rw[ui η] at a;cases a;have d:=xn j;have i:=sQ t n k t[zV t n] (by rw[d];exact sL);rw[d,zG] at a;rcases a with rfl|a;exact g f;have c:y9 (Ti (t.drop (zV t n))):=by
  unfold y9 Ti at *;rw[List.map_drop];exact k.sublist (List.drop_sublist _ _)
 rw[d] at c;have b:y9 (t[zV t n].name::Ti (t.drop (zV t n+1))):=c;unfold y9 at b;rw[lH] at b;have:=b.1 e.name (zF.2 ⟨e,a,rfl⟩);rw[f,i] at this;cases this
def tO{x e:zf}{k:Nat}:e∈vF t x k↔e=x∨e∈t:=by
 unfold vF;rw[ya,zG];constructor;rintro(h|h|h);exact ze (gH h);exact zh h;exact ze (fg h);rintro(h|h);exact ze (zh h);rw[←kj k t,ya] at h;rcases h with h|h;exact zh h;exact ze (ze h)
def OL{x:zf}(i:y9 (Ti t))(m:∀e∈t,e.name≠x.name):y9 (Ti (vF t x (zV t x.name))):=by
 have l:=sR t x.name;have k:=sQ t x.name i;have g:∀e∈t.drop (zV t x.name),TB x.name e.name=true:=by
  intro e d;cases j:TB x.name e.name;exact zB (sV (k e d) j) (m e (fg d));rfl
 have c:=i;rw[←kj (zV t x.name) t] at c;unfold y9 Ti at c ⊢;unfold vF;rw[qF,m7] at c;rw[qF,un,m7,lH];refine⟨c.1,⟨?_,c.2.1⟩,?_⟩;intro b f;obtain⟨e,d,rfl⟩:=zF.1 f;exact g e d;intro a h b f;obtain⟨e,d,rfl⟩:=zF.1 h;rcases zG.1 f with rfl|f;exact l e d;exact c.2.2 _ h b f
structure U2 (t:List zf) (ls:List zj):Prop where
 rise:y9 (Ti t)
 names:∀n,n∈Ti t↔∃l∈ls,l.o=n
 jh:∀e∈t,∀l∈ls,l.o=e.name->l.k.j=e.jh
def U2.step{s:Ψ}{v:Ω}{l:zj}(h:U2 t v)(i:vS t l=Z s):U2 s (v++[l]):=by
 unfold vS at i;split at i;rename_i e q;obtain⟨c,p⟩:=pQ q;split at i;rename_i r;simp only[zt] at i;subst i;refine⟨h.rise,λn=>?_,λk g d a b=>?_⟩;rw[h.names];constructor;rintro⟨d,a,b⟩;exact⟨d,by simp[a],b⟩;rintro⟨d,a,b⟩;rcases ya.1 a with a|a;exact⟨d,a,b⟩;simp at a;subst a;exact(h.names n).1 (zF.2 ⟨e,c,by rw[p,b]⟩);rcases ya.1 a with a|a;exact h.jh k g d a b;simp at a;subst a;obtain⟨u,o,m⟩:=(h.names e.name).1 (zF.2 ⟨e,c,rfl⟩);rw[←r,←h.jh e c u o m];exact h.jh k g u o (by rw[m,p,b]);cases i;rename_i q;simp only[zt] at i;subst i;have f:=rp h.rise q;refine⟨OL h.rise f,λn=>?_,λk g d a b=>?_⟩;constructor;intro p;obtain⟨e,c,rfl⟩:=zF.1 p;rcases tO.1 c with rfl|c;exact⟨l,ζ,rfl⟩;obtain⟨d,a,b⟩:=(h.names e.name).1 (zF.2 ⟨e,c,rfl⟩);exact⟨d,by simp[a],b⟩;rintro⟨d,a,b⟩;rcases ya.1 a with a|a;obtain⟨e,c,j⟩:=zF.1 ((h.names n).2 ⟨d,a,b⟩);exact zF.2 ⟨e,tO.2 (ze c),j⟩;simp at a;subst a;exact zF.2 ⟨_,tO.2 (zh rfl),b⟩;rcases tO.1 g with rfl|c;rcases ya.1 a with a|a;obtain⟨e,c,j⟩:=zF.1 ((h.names d.o).2 ⟨d,a,rfl⟩);exact zB (j.A b) (f e c);simp at a;subst a;rfl;rcases ya.1 a with a|a;exact h.jh k c d a b;simp at a;subst a;exact zB b.z (f k c)
def Ft:∀(b done:Ω) (t a:Ψ),U2 t done->b.H uI (Z t)=Z a->U2 a (done++b)
 |[],done,t,a,h,e=>by simp at e;subst e;simpa using h
 |l::b,done,t,a,h,e=>by
  rw[uG] at e;cases c:vS t l with
  |none=>rw[show uI (Z t) l=Y from c,rK] at e;cases e
  |some d=>
   rw[show uI (Z t) l=Z d from c] at e;have:=Ft b (done++[l]) d a (h.step c) e;rwa [kO] at this
def eV:U2 [] []:=⟨List.Pairwise.nil,λn=>by simp[Ti],λe a=>by cases a⟩
def Dn{cs:Ξ}(h:uC cs=Z t):U2 t (cs.flatMap zm):=by
 have:=Ft (cs.flatMap zm) [] [] t eV h;simpa using this
end
section
variable {cs:List zc}
def up(l:zj):Nat:=if l.i then 1 else 0
def Ul(cs:List zc)(f:ByteArray->Nat):Prop:=∀c∈cs,∀l∈c.d,f l.o+up l<=f c.g.o
def TT(cs:List zc)(f:ByteArray->Nat):Prop:=Ul cs f/\∀g,Ul cs g->∀n,f n<=g n
def Fc{g:ByteArray->Nat}(t:Ul cs g):∃f,TT cs f:=by
 have a:∀n,∃k,(∃h,Ul cs h/\h n=k)/\∀h,Ul cs h->k<=h n:=by
  intro n;have i:∀m,(∃h,Ul cs h/\h n<=m)->∃k,(∃h,Ul cs h/\h n=k)/\∀h,Ul cs h->k<=h n:=by
   intro m;induction m with
   |zero=>rintro⟨h,b,s⟩;exact⟨0,⟨h,b,η⟩,λ_ _=>zs _⟩
   |succ m u=>
    intro q;by_cases p:∃h,Ul cs h/\h n<=m;exact u p;obtain⟨h,b,s⟩:=q;have d:∀e,Ul cs e->m+1<=e n:=λe j=>by
     false_or_by_contra;rename_i o;exact p ⟨e,j,η⟩
    exact⟨m+1,⟨h,b,by have:=d h b;omega⟩,d⟩
  exact i (g n) ⟨g,t,zg _⟩
 refine⟨λn=>(a n).choose,λc o l r=>?_,λh b n=>(a n).choose_spec.2 h b⟩;obtain⟨⟨h,b,v⟩,-⟩:=(a c.g.o).choose_spec;have x:=(a l.o).choose_spec.2 h b;have w:=b c o l r;simp only;omega
def Vi:∀(N:Nat) (L:Φ),(∀k,k<=N->k∈L)->N+1<=L.j
 |0,L,h=>by
  have:=h 0 (zg _);cases L with
  |nil=>cases this
  |cons=>simp
 |N+1,L,h=>by
  have a:=h (N+1) (zg _);have:=Vi N (L.erase (N+1)) λk b=>(me η).2 (h k η);rw[mN a] at this;have:0<L.j:=nI a;omega
def Ap{f:ByteArray->Nat}(h:TT cs f){ps:κ}(d:∀c∈cs,∀l∈zm c,l.o∈ps){n:ByteArray}(t:n∈ps):f n<ps.j:=by
 false_or_by_contra
 rename_i u;have s:∃k,k<=ps.j/\k∉ps.w f:=by
  apply Classical.byContradiction;intro i;have:=Vi ps.j (ps.w f) λk p=>Classical.byContradiction λg=>i ⟨k,p,g⟩;rw[xu] at this;omega
 obtain⟨k,p,b⟩:=s;have a:∀m∈ps,f m≠k:=λm q e=>b (zF.2 ⟨m,q,e⟩);have r:Ul cs λm=>if k<f m then f m-1 else f m:=by
  intro c o l j;have y:=h.1 c o l j;have w:=a l.o (d c o l (by simp[zm,j]));have x:up l<=1:=by unfold up;split<;>omega
  simp only;split<;>split<;>omega
 have v:=h.2 _ r n;have z:=a n t;split at v<;>omega
def Rs{f a b:ByteArray->Nat}(h:TT cs f)(i:∀n,a n<=b n)(g:∀n,b n<=f n)(j:∀c∈cs,∀l∈c.d,a l.o+up l<=b c.g.o)
  (d:∀n,b n=f n->a n=f n):∀n,a n=f n:=by
 apply Classical.byContradiction;intro r;have ⟨n,w⟩:∃n,¬a n=f n:=Classical.byContradiction λy=>r λn=>Classical.byContradiction λp=>y ⟨n,p⟩;have v:Ul cs λm=>if a m=f m then f m else f m-1:=by
  intro c p l s;have x:=h.1 c p l s;have z:=j c p l s;have D:=i c.g.o;have B:=g c.g.o;have q:=d c.g.o;have u:=i l.o;have t:=g l.o;have A:up l<=1:=by unfold up;split<;>omega
  simp only;by_cases o:a l.o=f l.o;by_cases k:a c.g.o=f c.g.o;rw[zb o,zb k];exact x;have C:¬b c.g.o=f c.g.o:=λe=>k (q e);rw[zb o,za k];omega;by_cases k:a c.g.o=f c.g.o;rw[za o,zb k];omega;rw[za o,za k];omega
 have q:=h.2 _ v n;simp only[w,if_false] at q;have u:=i n;have t:=g n;omega
end
section
variable {t:List zf}
def val(t:List zf)(n:ByteArray):Nat:=match zU t n with
 |some e=>e.L
 |none=>0
def BV:∀{t c:Ψ},Ti t=Ti c->∀n,zV t n=zV c n
 |[],[],_,_=>rfl
 |[],_::_,h,_=>by simp[Ti] at h
 |_::_,[],h,_=>by simp[Ti] at h
 |a::r,b::q,h,n=>by
  simp only[Ti,un,m4] at h;unfold zV;rw[h.1,BV h.2 n]
def Gh{k:Nat}{e:zf}(d:k<t.j)(a:e.name=t[k].name):Ti (t.set k e)=Ti t:=by
 unfold Ti;rw[lx,a];apply jy ζ;intro i b c;rw[lV];split;rename_i h;subst h;simp;rfl
def Re(t:Ψ)(n:ByteArray)(s:Nat):Ti (xW t n s).1=Ti t:=by
 unfold xW;split;rfl;rename_i e b;obtain⟨c,a,d⟩:=jw b;split;rfl;exact Gh c (by rw[a])
def Ke{n:ByteArray}{e:zf}(s:Nat)(g:zU t n=Z e)(m:ByteArray):zU (t.set (zV t n) {e with L:=s}) m=if m=n then Z {e with L:=s} else zU t m:=by
 obtain⟨a,f,d⟩:=jw g;have h:zV (t.set (zV t n) {e with L:=s}) m=zV t m:=BV (Gh a (by rw[f])) m;unfold zU;rw[h,tI];by_cases b:m=n;subst b;rw[zb rfl,zb rfl,zb a];simp[d];rw[za b];by_cases c:zV t n=zV t m;rw[zb c,zb a,←c,yn a,f];simp[d,Ne.symm b];rw[za c]
def Ex(t:Ψ)(n:ByteArray)(s:Nat)(m:ByteArray):val (xW t n s).1 m=if m=n/\(zU t n).I=true then max (val t n) s else val t m:=by
 unfold xW;rcases b:zU t n with _|e;simp;simp only[j8,and_true];have c:val t n=e.L:=by simp[val,b]
 split;split;rename_i f d;rw[d,c];omega;rfl;rename_i f;unfold val;rw[Ke s b m,b];by_cases a:m=n;rw[zb a,zb a];simp only;omega;rw[za a,za a]
def OG(t:Ψ)(n:ByteArray)(s:Nat):((xW t n s).2=false->(xW t n s).1=t)/\((xW t n s).2=true->val t n<val (xW t n s).1 n):=by
 constructor;unfold xW;split;exact λ_=>rfl;split;exact λ_=>rfl;intro h;cases h;intro h;rw[Ex];unfold xW at h;split at h;cases h;rename_i e a;split at h;cases h;rename_i b;have c:val t n=e.L:=by simp[val,a]
 rw[zb ⟨rfl,by simp[a]⟩];omega
def Fh{t:Ψ}:∀(b:Ω) (n:Nat),n<=b.H (qT t) n/\∀l∈b,kw t l<=b.H (qT t) n
 |[],n=>⟨zg _,λl c=>by cases c⟩
 |a::b,n=>by
  have ⟨f,d⟩:=Fh (t:=t) b (qT t n a);have e:n<=qT t n a/\kw t a<=qT t n a:=by unfold qT;split<;>omega
  rw[uG];refine⟨η,λl c=>?_⟩;rcases zG.1 c with rfl|c
  .omega
  .exact d l c
def CJ{t:Ψ}{M:Nat}:∀(b:Ω) (n:Nat),n<=M->(∀l∈b,kw t l<=M)->b.H (qT t) n<=M
 |[],n,h,_=>h
 |a::b,n,h,c=>by
  rw[uG];refine CJ b _ ?_ λl d=>c l (by simp[d]);have:=c a ζ;unfold qT;split<;>omega
def Ni{l:zj}(h:(zU t l.o).I=true):kw t l=val t l.o+up l:=by
 unfold kw val up;rcases a:zU t l.o with _|e;rw[a] at h;cases h;simp only;split<;>rfl
end
section
variable {t t':List zf}
def Di(t:Ψ)(n:ByteArray):(zU t n).I=true↔(Ti t)[zV t n]?=Z n:=by
 unfold zU Ti;rw[mL];rcases h:t[zV t n]? with _|e;simp;simp only[jZ,zt];split<;>simp[*]
def CZ(h:Ti t=Ti t')(n:ByteArray):(zU t n).I=true↔(zU t' n).I=true:=by
 rw[Di,Di,h,BV h n]
def kJ(t:List zf)(cs:List zc):Prop:=∀c∈cs,∀l∈zm c,(zU t l.o).I=true
def kJ.names{cs:Ξ}(h:kJ t cs)(d:Ti t=Ti t'):kJ t' cs:=λc a l b=>(CZ d _).1 (h c a l b)
structure D8 (x y:List zf×Bool) (ds:List zc):Prop where
 names:Ti y.1=Ti x.1
 grow:∀n,val x.1 n<=val y.1 n
 step:∀c∈ds,∀l∈c.d,val x.1 l.o+up l<=val y.1 c.g.o
 low:∀f,Ul ds f->(∀n,val x.1 n<=f n)->∀n,val y.1 n<=f n
 still:y.2=false->y.1=x.1/\x.2=false
 moved:y.2=true->x.2=true∨∃n,val x.1 n<val y.1 n
def Ov{x:Ψ×Bool}{c:zc}(h:kJ x.1 [c]):D8 x (vZ x c) [c]:=by
 have r:=h c ζ c.g (by simp[zm]);have i:∀l∈c.d,kw x.1 l=val x.1 l.o+up l:=λl i=>Ni (h c ζ l (by simp[zm,i]));have o:=λm=>Ex x.1 c.g.o (qY x.1 c) m;have p:=OG x.1 c.g.o (qY x.1 c);refine⟨Re _ _ _,λn=>?_,λs g l a=>?_,λf q d n=>?_,λk=>?_,λj=>?_⟩;show _<=val (xW _ _ _).1 n;rw[o];split;rename_i e;rw[e.1];omega;omega;simp at g;subst g;show _<=val (xW _ _ _).1 _;rw[o,zb ⟨rfl,r⟩,←i l a];have:=(Fh (t:=x.1) s.d 0).2 l a;unfold qY;omega;show val (xW _ _ _).1 n<=_;rw[o];split;rename_i e;rw[e.1];have u:=d c.g.o;have b:qY x.1 c<=f c.g.o:=by
  unfold qY;refine CJ c.d 0 (zs _) λl a=>?_;have:=q c ζ l a;have:=d l.o;rw[i l a];omega
 omega;exact d n;have b:(x.2||(xW x.1 c.g.o (qY x.1 c)).2)=false:=k;rw[pN] at b;exact⟨p.1 b.2,b.1⟩;have b:(x.2||(xW x.1 c.g.o (qY x.1 c)).2)=true:=j;rw[lz] at b;rcases b with b|b;exact zh b;exact ze ⟨_,p.2 b⟩
def tQ:∀(k:Ξ) (x:Ψ×Bool),kJ x.1 k->D8 x (k.H vZ x) k
 |[],x,_=>⟨rfl,λ_=>zg _,λc r=>by(cases r),λ_ _ h=>h,λh=>⟨rfl,h⟩,λh=>zh h⟩
 |c::k,x,h=>by
  have d:=Ov (x:=x) (c:=c) λb a=>by simp at a;subst a;exact h b ζ
  have e:=tQ k (vZ x c) (kJ.names (λb a=>h b (by simp[a])) d.names.z);rw[uG];refine⟨e.names.A d.names,λn=>zY (d.grow n) (e.grow n),λb a l q=>?_,λf p j=>?_,λo=>?_,λm=>?_⟩
  .rcases zG.1 a with rfl|a
   .exact zY (d.step b ζ l q) (e.grow _)
   .have:=e.step b a l q;have:=d.grow l.o;omega
  .exact e.low f (λb a=>p b (by simp[a])) (d.low f (λb a=>by simp at a;subst a;exact p b ζ) j)
  .have g:=e.still o;have i:=d.still g.2;exact⟨g.1.A i.1,i.2⟩
  .rcases e.moved m with g|⟨n,g⟩
   .rcases d.moved g with i|⟨n,i⟩
    .exact zh i
    .exact ze ⟨n,ym i (e.grow n)⟩
   .exact ze ⟨n,Nat.lt_of_le_of_lt (d.grow n) g⟩
def BK{n:ByteArray}(h:n∉Ti t):val t n=0:=by
 unfold val;split;rename_i e b;obtain⟨a,c⟩:=pQ b;exact zB (zF.2 ⟨e,a,c⟩) h;rfl
def rest(f:ByteArray->Nat)(t:List zf):Nat:=((Ti t).filter λn=>decide (val t n≠f n)).j
def M8{f:ByteArray->Nat}(k:Ti t'=Ti t)(b:∀n,val t n=f n->val t' n=f n){m:ByteArray}(d:m∈Ti t)(p:val t m≠f m)(o:val t' m=f m):rest f t'<rest f t:=by
 unfold rest;rw[k];generalize Ti t=h at d;have j:∀l:κ,(l.filter λn=>decide (val t' n≠f n)).j<=(l.filter λn=>decide (val t n≠f n)).j:=by
  intro l;induction l with
  |nil=>simp
  |cons a l e=>
   by_cases c:val t a=f a;simp[c,b a c];simpa using e;by_cases g:val t' a=f a;simp[c,g];have:=e;simp at this;omega;simp[c,g];simpa using e
 induction h with
 |nil=>cases d
 |cons a h e=>
  have i:=j h;rcases zG.1 d with rfl|d;simp[p,o];simp at i;omega;have:=e d;by_cases c:val t a=f a;simp[c,b a c];simpa using this;by_cases g:val t' a=f a;simp[c,g];simp at this;omega;simp[c,g];simpa using this
def iG:∀(m:Nat) (t:Ψ) (cs:Ξ),kJ t cs->Ti (ul m t cs).1=Ti t
 |0,_,_,_=>rfl
 |m+1,t,cs,h=>by
  have p:=tQ cs (t,false) h;unfold ul;split
  .exact(iG m _ cs (h.names p.names.z)).A p.names
  .exact p.names
def G5{f:ByteArray->Nat}:∀(m:Nat) (t:Ψ) (cs:Ξ),kJ t cs->Ul cs f->(∀n,val t n<=f n)->∀n,val (ul m t cs).1 n<=f n
 |0,_,_,_,_,h=>h
 |m+1,t,cs,h,b,a=>by
  have p:=tQ cs (t,false) h;have:=p.low f b a;unfold ul;split
  .exact G5 m _ cs (h.names p.names.z) b this
  .exact this
def eQ:∀(m:Nat) (t:Ψ) (cs:Ξ),kJ t cs->(ul m t cs).2=true->Ul cs (val (ul m t cs).1)
 |0,_,_,_,h=>by cases h
 |m+1,t,cs,h,d=>by
  have p:=tQ cs (t,false) h;unfold ul at d ⊢;split at d
  .rename_i a;rw[zb a];exact eQ m _ cs (h.names p.names.z) d
  .rename_i a;rw[za a];have g:=(p.still (by simpa [qk] using a)).1;intro c b l f;have e:=p.step c b l f;show val (cs.H vZ (t,false)).1 l.o+up l<=val (cs.H vZ (t,false)).1 c.g.o;rw[g] at e ⊢;exact e
def Gq{f:ByteArray->Nat}{cs:Ξ}(g:TT cs f):∀(m:Nat) (t:Ψ),kJ t cs->(∀n,val t n<=f n)->rest f t<m->(ul m t cs).2=true
 |0,_,_,_,h=>η
 |m+1,t,h,b,u=>by
  have p:=tQ cs (t,false) h;have a:=p.low f g.1 b;unfold ul;split
  .rename_i j;refine Gq g m _ (h.names p.names.z) a ?_;have o:¬∀n,val t n=f n:=by
    intro c;rcases p.moved j with e|⟨n,e⟩
    .cases e
    .have:=a n;have:=c n;simp only at e;omega
   have ⟨n,i,l⟩:∃n,val (cs.H vZ (t,false)).1 n=f n/\val t n≠f n:=by
    apply Classical.byContradiction;intro d;exact o (Rs g p.grow a p.step λn s=>Classical.byContradiction λj=>d ⟨n,s,j⟩)
   have q:n∈Ti t:=by
    apply Classical.byContradiction;intro d;have e:=BK d;have v:val (cs.H vZ (t,false)).1 n=0:=BK (by rw[p.names];exact d);omega
   have:=M8 (f:=f) (t:=t) p.names (λk r=>Nat.le_antisymm (a k) (by rw[←r];exact p.grow k)) q l i;show rest f (cs.H vZ (t,false)).1<m;omega
  .rfl
def ef{cs:Ξ}(h:kJ t cs)(b:∀n,val t n=0):((ul (t.j+1) t cs).2=true↔∃f,Ul cs f)/\((ul (t.j+1) t cs).2=true->TT cs (val (ul (t.j+1) t cs).1)):=by
 refine⟨⟨λe=>⟨_,eQ _ t cs h e⟩,?_⟩,λe=>⟨eQ _ t cs h e,λg a=>G5 _ t cs h a λn=>by rw[b];omega⟩⟩;rintro⟨g,a⟩;obtain⟨f,c⟩:=Fc a;refine Gq c _ t h (λn=>by rw[b];omega) ?_;have:=rL (λn=>decide (val t n≠f n)) (Ti t);have d:(Ti t).j=t.j:=by simp[Ti]
 unfold rest;omega
end
section
open Go.Proofs.Tryz Go.RowKit
def UF(c:Int)(s:ByteArray):Bool:=s.data.v.any λb=>(b.D:Int) == c
def p9(c:Int)(s:ByteArray)(w:U)(hs:s.q<=1000):
  Calls prog 105 #[.int .u8 c,.d s] w λe m=>e=ε (.i (UF c s))/\m=w:=by
 go_enter func105,ntmps105;go_wp2;go_loop [5] (λi=>∃k:Nat,k<=s.q/\i=ι k/\X (UF c s=(s.data.v.drop k).any λb=>(b.D:Int) == c)) (λi=>s.q-(intOf i).D);exact⟨0,zs _,rfl,rfl⟩;obtain⟨k,n,rfl,H⟩:=hrel;by_cases h:k<s.q
 .have f:k<s.data.v.j:=by rw[nE];exact h
  have a:=BL s.data.v (λb=>(b.D:Int) == c) k f;have g:s.data.v[k]=s[k]:=rfl;rw[g] at a;have l:X (UF c s=(((s[k].D:Int) == c)||(s.data.v.drop (k+1)).any λb=>(b.D:Int) == c)):=by rw[X,H.l,a]
  cases j:((s[k].D:Int) == c)
  .have d:X (UF c s=(s.data.v.drop (k+1)).any λb=>(b.D:Int) == c):=by rw[X,l.l,j];rfl
   go_wp2;go_round;exact⟨k+1,η,ξ,d⟩;simp[intOf];omega
  have d:X (UF c s=true):=by rw[X,l.l,j];rfl
  go_wp2;go_ret;exact⟨by rw[d.l];rfl,rfl⟩
 have d:X (UF c s=false):=by rw[X,H.l,ui (by rw[nE];show s.q<=k;omega)];rfl
 go_wp2;go_ret;exact⟨by rw[d.l];rfl,rfl⟩
def p5(p:Int->Bool)(s:ByteArray)(h:(List.range 256).all (λn=>UF (n:Int) s == p (n:Int))=true)(c:Int)(a:0<=c)(b:c<256):UF c s=p c:=by
 obtain⟨n,rfl⟩:=Int.eq_ofNat_of_zero_le a;have:=gd.1 h n υ;simpa using this
def UL(c:Int):Bool:=c == 40||c == 41||c == 44||c == 46||c == 33
def pd(c:Int):Bool:=xe c||qr c
def OY(c:Int)(a:0<=c)(b:c<256):UF c {data:=#[32,10]}=qJ c:=p5 qJ _ (by decide +kernel) c a b
def MH(c:Int)(a:0<=c)(b:c<256):UF c {data:=#[48,49,50,51,52,53,54,55,56,57]}=yY c:=p5 yY _ (by decide +kernel) c a b
def PL(c:Int)(a:0<=c)(b:c<256):UF c {data:=#[97,98,99,100,101,102,103,104,105,106,107,108,109,110,111,112,113,114,115,116,117,118,119,120,121,122]}=xe c:=p5 xe _ (by decide +kernel) c a b
def M6(c:Int)(a:0<=c)(b:c<256):UF c {data:=#[65,66,67,68,69,70,71,72,73,74,75,76,77,78,79,80,81,82,83,84,85,86,87,88,89,90]}=qr c:=p5 qr _ (by decide +kernel) c a b
def JD(c:Int)(a:0<=c)(b:c<256):UF c {data:=#[97,98,99,100,101,102,103,104,105,106,107,108,109,110,111,112,113,114,115,116,117,118,119,120,121,122,65,66,67,68,69,70,71,72,73,74,75,76,77,78,79,80,81,82,83,84,85,86,87,88,89,90]}=pd c:=p5 pd _ (by decide +kernel) c a b
def Mv(c:Int)(a:0<=c)(b:c<256):UF c {data:=#[97,98,99,100,101,102,103,104,105,106,107,108,109,110,111,112,113,114,115,116,117,118,119,120,121,122,65,66,67,68,69,70,71,72,73,74,75,76,77,78,79,80,81,82,83,84,85,86,87,88,89,90,48,49,50,51,52,53,54,55,56,57]}=TK c:=p5 TK _ (by decide +kernel) c a b
def Oq(c:Int)(a:0<=c)(b:c<256):UF c {data:=#[40,41,44,46,33]}=UL c:=p5 UL _ (by decide +kernel) c a b
def s6(c:Int)(w:U)(a:0<=c)(d:c<256):Calls prog 105 #[.int .u8 c,.d {data:=#[32,10]}] w λe b=>e=ε (.i (qJ c))/\b=w:=by
 have:=p9 c {data:=#[32,10]} w θ;rw[OY c a d] at this;exact this
def mY(c:Int)(w:U)(a:0<=c)(d:c<256):Calls prog 105 #[.int .u8 c,.d {data:=#[48,49,50,51,52,53,54,55,56,57]}] w λe b=>e=ε (.i (yY c))/\b=w:=by
 have:=p9 c {data:=#[48,49,50,51,52,53,54,55,56,57]} w θ;rw[MH c a d] at this;exact this
def LR(c:Int)(w:U)(a:0<=c)(d:c<256):Calls prog 105 #[.int .u8 c,.d {data:=#[97,98,99,100,101,102,103,104,105,106,107,108,109,110,111,112,113,114,115,116,117,118,119,120,121,122]}] w λe b=>e=ε (.i (xe c))/\b=w:=by
 have:=p9 c {data:=#[97,98,99,100,101,102,103,104,105,106,107,108,109,110,111,112,113,114,115,116,117,118,119,120,121,122]} w θ;rw[PL c a d] at this;exact this
def QV(c:Int)(w:U)(a:0<=c)(d:c<256):Calls prog 105 #[.int .u8 c,.d {data:=#[65,66,67,68,69,70,71,72,73,74,75,76,77,78,79,80,81,82,83,84,85,86,87,88,89,90]}] w λe b=>e=ε (.i (qr c))/\b=w:=by
 have:=p9 c {data:=#[65,66,67,68,69,70,71,72,73,74,75,76,77,78,79,80,81,82,83,84,85,86,87,88,89,90]} w θ;rw[M6 c a d] at this;exact this
def mZ(c:Int)(w:U)(a:0<=c)(d:c<256):Calls prog 105 #[.int .u8 c,.d {data:=#[97,98,99,100,101,102,103,104,105,106,107,108,109,110,111,112,113,114,115,116,117,118,119,120,121,122,65,66,67,68,69,70,71,72,73,74,75,76,77,78,79,80,81,82,83,84,85,86,87,88,89,90]}] w λe b=>e=ε (.i (pd c))/\b=w:=by
 have:=p9 c {data:=#[97,98,99,100,101,102,103,104,105,106,107,108,109,110,111,112,113,114,115,116,117,118,119,120,121,122,65,66,67,68,69,70,71,72,73,74,75,76,77,78,79,80,81,82,83,84,85,86,87,88,89,90]} w θ;rw[JD c a d] at this;exact this
def mo(c:Int)(w:U)(a:0<=c)(d:c<256):Calls prog 105 #[.int .u8 c,.d {data:=#[97,98,99,100,101,102,103,104,105,106,107,108,109,110,111,112,113,114,115,116,117,118,119,120,121,122,65,66,67,68,69,70,71,72,73,74,75,76,77,78,79,80,81,82,83,84,85,86,87,88,89,90,48,49,50,51,52,53,54,55,56,57]}] w λe b=>e=ε (.i (TK c))/\b=w:=by
 have:=p9 c {data:=#[97,98,99,100,101,102,103,104,105,106,107,108,109,110,111,112,113,114,115,116,117,118,119,120,121,122,65,66,67,68,69,70,71,72,73,74,75,76,77,78,79,80,81,82,83,84,85,86,87,88,89,90,48,49,50,51,52,53,54,55,56,57]} w θ;rw[Mv c a d] at this;exact this
def kI(c:Int)(w:U)(a:0<=c)(d:c<256):Calls prog 105 #[.int .u8 c,.d {data:=#[40,41,44,46,33]}] w λe b=>e=ε (.i (UL c))/\b=w:=by
 have:=p9 c {data:=#[40,41,44,46,33]} w θ;rw[Oq c a d] at this;exact this
def gA(s:ByteArray)(w:U)(h:0<s.q):
  Calls prog 184 #[.d s] w λe a=>e=ε (.i (xe (Tr s 0)))/\a=w:=by
 have b:=mq s 0;rw[qL h] at b ⊢;go_enter func184,ntmps184;go_wp2_with (go_at_call 105;refine(LR _ _ η η).y ?_;rintro e a ⟨rfl,rfl⟩)
 go_ret;exact⟨rfl,rfl⟩
def iE(s:ByteArray)(w:U)(h:0<s.q):
  Calls prog 154 #[.d s] w λe a=>e=ε (.i (qr (Tr s 0)))/\a=w:=by
 have b:=mq s 0;rw[qL h] at b ⊢;go_enter func154,ntmps154;go_wp2_with (go_at_call 105;refine(QV _ _ η η).y ?_;rintro e a ⟨rfl,rfl⟩)
 go_ret;exact⟨rfl,rfl⟩
def nF(s:ByteArray)(w:U)(h:0<s.q):
  Calls prog 185 #[.d s] w λe a=>e=ε (.i (TK (Tr s 0)))/\a=w:=by
 have b:=mq s 0;rw[qL h] at b ⊢;go_enter func185,ntmps185;go_wp2_with (go_at_call 105;refine(mo _ _ η η).y ?_;rintro e a ⟨rfl,rfl⟩)
 go_ret;exact⟨rfl,rfl⟩
def E7(s:ByteArray)(h:1<s.q):((s.extract 0 2).v == [58,45])=(decide (Tr s 0=58)&&decide (Tr s 1=45)):=by
 rw[kd,qL (by omega:0<s.q),qL h];have d:(s.extract 0 2).data.v=[s[0],s[1]]:=by
  rw[ByteArray.data_extract,Array.toList_extract];obtain⟨⟨l⟩⟩:=s;match l,h with
  |a::b::r,_=>rfl
 rw[d];have e:∀(x:UInt8) (n:UInt8),(x == n)=decide ((x.D:Int)=(n.D:Int)):=λx n=>by
  by_cases c:x=n;subst c;simp;rw[beq_eq_false_iff_ne.2 c];symm;rw[decide_eq_false_iff_not];intro f;exact c (UInt8.toNat_inj.1 η)
 simp only[List.cons_beq_cons,e,List.nil_beq_eq,List.isEmpty_nil,Bool.and_true];rfl
def xF(s:ByteArray):Nat:=yv s 0 (xw (Tr s 0) (Tr s 1))
def O9(s:ByteArray)(w:U)(_:s.q<=500)(h:1<s.q)(a:Tr s 0=58)(b:Tr s 1=45):
  Calls prog 106 #[.d s] w λe g=>e=ε (ι (xF s))/\g=w:=by
 have f:X (xF s=2):=by unfold X xF;rw[a,b];rfl
 have c:=E7 s h;rw[a,b] at c;have d:((s.extract 0 2).v == [58,45])=true:=c;clear c a b;go_enter func106,ntmps106;go_wp2_with fail
 go_ret;exact⟨by rw[f.l];rfl,rfl⟩
def tX(s:ByteArray):Prop:=¬1<s.q∨(1<s.q/\((s.extract 0 2).v == [58,45])=false)
def II(s:ByteArray)(h:¬(Tr s 0=58/\Tr s 1=45)):tX s:=by
 by_cases a:1<s.q;right;refine⟨a,?_⟩;rw[E7 s a];simp only[eM,decide_eq_false_iff_not];omega;left;exact a
def R4(s:ByteArray)(w:U)(hs:s.q<=500)(g:0<s.q)(b:tX s)(h:UL (Tr s 0)=true):
  Calls prog 106 #[.d s] w λe d=>e=ε (ι (1))/\d=w:=by
 have c:=mq s 0;have a:=qL g;rw[a] at c h;clear a;rcases b with b|⟨f,b⟩
 all_goals
  go_enter func106,ntmps106;go_wp2_with (go_at_call 105;refine(kI _ _ η η).y ?_;rintro e d ⟨rfl,rfl⟩)
  go_ret;exact⟨rfl,rfl⟩
def IW(s:ByteArray)(w:U)(hs:s.q<=500)(n:0<s.q)(j:tX s)(h:UL (Tr s 0)=false)(o:yY (Tr s 0)=true):
  Calls prog 106 #[.d s] w λe a=>e=ε (ι (yK yY s 0))/\a=w:=by
 have l:=mq s 0;have i:=qL n;rw[i] at l h o;rcases j with j|⟨m,j⟩
 all_goals
  go_enter func106,ntmps106;go_wp2_with (first|(go_at_call 105;with_reducible refine(kI _ _ η η).y ?_;rintro e a ⟨rfl,rfl⟩)|(go_at_call 105;with_reducible refine(mY _ _ η η).y ?_;rintro e a ⟨rfl,rfl⟩)|(go_at_call 105;with_reducible refine(mZ _ _ η η).y ?_;rintro e a ⟨rfl,rfl⟩)|(go_at_call 105;with_reducible refine(mo _ _ η η).y ?_;rintro e a ⟨rfl,rfl⟩))
  go_loop [3] (λt=>∃k:Nat,k<=s.q/\t=ι k/\X (yK yY s 0=yK yY s k)) (λt=>s.q-(intOf t).D);exact⟨0,zs _,rfl,rfl⟩;obtain⟨k,p,rfl,H⟩:=hrel;by_cases c:k<s.q
  .have f:=qL c;have d:=mq s k;cases b:yY (Tr s k)
   .have g:X (yK yY s 0=k):=by rw[X.out H,pn b];rfl
    rw[f] at b d;go_wp2_with (first|(go_at_call 105;with_reducible refine(kI _ _ η η).y ?_;rintro e a ⟨rfl,rfl⟩)|(go_at_call 105;with_reducible refine(mY _ _ η η).y ?_;rintro e a ⟨rfl,rfl⟩)|(go_at_call 105;with_reducible refine(mZ _ _ η η).y ?_;rintro e a ⟨rfl,rfl⟩)|(go_at_call 105;with_reducible refine(mo _ _ η η).y ?_;rintro e a ⟨rfl,rfl⟩))
    go_ret;exact⟨by rw[X.out g];rfl,rfl⟩
   have g:X (yK yY s 0=yK yY s (k+1)):=by rw[X.out H,np c b];rfl
   rw[f] at b d;go_wp2_with (first|(go_at_call 105;with_reducible refine(kI _ _ η η).y ?_;rintro e a ⟨rfl,rfl⟩)|(go_at_call 105;with_reducible refine(mY _ _ η η).y ?_;rintro e a ⟨rfl,rfl⟩)|(go_at_call 105;with_reducible refine(mZ _ _ η η).y ?_;rintro e a ⟨rfl,rfl⟩)|(go_at_call 105;with_reducible refine(mo _ _ η η).y ?_;rintro e a ⟨rfl,rfl⟩))
   go_round;exact⟨k+1,η,ξ,g⟩;simp[intOf];omega
  have g:X (yK yY s 0=k):=by rw[X.out H,fH c];rfl
  go_wp2_with (first|(go_at_call 105;with_reducible refine(kI _ _ η η).y ?_;rintro e a ⟨rfl,rfl⟩)|(go_at_call 105;with_reducible refine(mY _ _ η η).y ?_;rintro e a ⟨rfl,rfl⟩)|(go_at_call 105;with_reducible refine(mZ _ _ η η).y ?_;rintro e a ⟨rfl,rfl⟩)|(go_at_call 105;with_reducible refine(mo _ _ η η).y ?_;rintro e a ⟨rfl,rfl⟩))
  go_ret;exact⟨by rw[X.out g];rfl,rfl⟩
def Ox(s:ByteArray)(w:U)(hs:s.q<=500)(o:0<s.q)(j:tX s)(h:UL (Tr s 0)=false)(p:yY (Tr s 0)=false)(m:pd (Tr s 0)=true):
  Calls prog 106 #[.d s] w λe a=>e=ε (ι (yK TK s 0))/\a=w:=by
 have l:=mq s 0;have i:=qL o;rw[i] at l h p m;rcases j with j|⟨n,j⟩
 all_goals
  go_enter func106,ntmps106;go_wp2_with (first|(go_at_call 105;with_reducible refine(kI _ _ η η).y ?_;rintro e a ⟨rfl,rfl⟩)|(go_at_call 105;with_reducible refine(mY _ _ η η).y ?_;rintro e a ⟨rfl,rfl⟩)|(go_at_call 105;with_reducible refine(mZ _ _ η η).y ?_;rintro e a ⟨rfl,rfl⟩)|(go_at_call 105;with_reducible refine(mo _ _ η η).y ?_;rintro e a ⟨rfl,rfl⟩))
  go_loop [3] (λt=>∃k:Nat,k<=s.q/\t=ι k/\X (yK TK s 0=yK TK s k)) (λt=>s.q-(intOf t).D);exact⟨0,zs _,rfl,rfl⟩;obtain⟨k,q,rfl,H⟩:=hrel;by_cases c:k<s.q
  .have f:=qL c;have d:=mq s k;cases b:TK (Tr s k)
   .have g:X (yK TK s 0=k):=by rw[X.out H,pn b];rfl
    rw[f] at b d;go_wp2_with (first|(go_at_call 105;with_reducible refine(kI _ _ η η).y ?_;rintro e a ⟨rfl,rfl⟩)|(go_at_call 105;with_reducible refine(mY _ _ η η).y ?_;rintro e a ⟨rfl,rfl⟩)|(go_at_call 105;with_reducible refine(mZ _ _ η η).y ?_;rintro e a ⟨rfl,rfl⟩)|(go_at_call 105;with_reducible refine(mo _ _ η η).y ?_;rintro e a ⟨rfl,rfl⟩))
    go_ret;exact⟨by rw[X.out g];rfl,rfl⟩
   have g:X (yK TK s 0=yK TK s (k+1)):=by rw[X.out H,np c b];rfl
   rw[f] at b d;go_wp2_with (first|(go_at_call 105;with_reducible refine(kI _ _ η η).y ?_;rintro e a ⟨rfl,rfl⟩)|(go_at_call 105;with_reducible refine(mY _ _ η η).y ?_;rintro e a ⟨rfl,rfl⟩)|(go_at_call 105;with_reducible refine(mZ _ _ η η).y ?_;rintro e a ⟨rfl,rfl⟩)|(go_at_call 105;with_reducible refine(mo _ _ η η).y ?_;rintro e a ⟨rfl,rfl⟩))
   go_round;exact⟨k+1,η,ξ,g⟩;simp[intOf];omega
  have g:X (yK TK s 0=k):=by rw[X.out H,fH c];rfl
  go_wp2_with (first|(go_at_call 105;with_reducible refine(kI _ _ η η).y ?_;rintro e a ⟨rfl,rfl⟩)|(go_at_call 105;with_reducible refine(mY _ _ η η).y ?_;rintro e a ⟨rfl,rfl⟩)|(go_at_call 105;with_reducible refine(mZ _ _ η η).y ?_;rintro e a ⟨rfl,rfl⟩)|(go_at_call 105;with_reducible refine(mo _ _ η η).y ?_;rintro e a ⟨rfl,rfl⟩))
  go_ret;exact⟨by rw[X.out g];rfl,rfl⟩
def O2(s:ByteArray)(w:U)(hs:s.q<=500)(i:0<s.q)(b:tX s)(h:UL (Tr s 0)=false)(j:yY (Tr s 0)=false)(f:pd (Tr s 0)=false):
  Calls prog 106 #[.d s] w λe a=>e=ε (ι (0))/\a=w:=by
 have c:=mq s 0;have d:=qL i;rw[d] at c h j f;rcases b with b|⟨g,b⟩
 all_goals
  go_enter func106,ntmps106;go_wp2_with (first|(go_at_call 105;with_reducible refine(kI _ _ η η).y ?_;rintro e a ⟨rfl,rfl⟩)|(go_at_call 105;with_reducible refine(mY _ _ η η).y ?_;rintro e a ⟨rfl,rfl⟩)|(go_at_call 105;with_reducible refine(mZ _ _ η η).y ?_;rintro e a ⟨rfl,rfl⟩)|(go_at_call 105;with_reducible refine(mo _ _ η η).y ?_;rintro e a ⟨rfl,rfl⟩))
  go_ret;exact⟨rfl,rfl⟩
def UK(s:ByteArray)(w:U)(hs:s.q<=500)(f:0<s.q):
  Calls prog 106 #[.d s] w λe j=>e=ε (ι (xF s))/\j=w:=by
 by_cases a:Tr s 0=58/\Tr s 1=45;refine O9 s w hs ?_ a.1 a.2;false_or_by_contra;rename_i d;rw[pH d] at a;omega
 have d:=II s a;cases h:UL (Tr s 0);have i:fy (Tr s 0)=0:=by
  simp only[UL,pN,beq_eq_false_iff_ne] at h;unfold fy;simp[h]
 cases c:yY (Tr s 0);cases b:pd (Tr s 0);have:=O2 s w hs f d h c b;have e:xF s=0:=by
  simp only[pd,pN] at b;unfold xF xw;simp[b.1,b.2,c,a,i,yv]
 rw[e];exact this;have:=Ox s w hs f d h c b;have e:xF s=yK TK s 0:=by
  unfold xF xw;simp only[pd,lz] at b;cases g:xe (Tr s 0);rw[g] at b;simp at b;simp[b,yv];simp[yv]
 rw[e];exact this;have:=IW s w hs f d h c;have e:xF s=yK yY s 0:=by
  have g:xe (Tr s 0)=false:=by simp[yY,xe] at c ⊢;omega
  have k:qr (Tr s 0)=false:=by simp[yY,qr] at c ⊢;omega
  unfold xF xw;simp[g,k,c,yv]
 rw[e];exact this;have:=R4 s w hs f d h;have e:xF s=1:=by
  unfold xF xw;simp only[UL,lz,beq_iff_eq] at h;rcases h with (((h|h)|h)|h)|h<;>rw[h]<;>rfl
 rw[e];exact this
end
section
open Go.Proofs.Tryz Go.RowKit
variable {n:Nat}{s:ByteArray}{o:Option (κ)}
def x9:Nat->ByteArray->Option (κ)
 |0,_=>Z []
 |n+1,s=>if s.q=0 then Z [] else if qJ (Tr s 0) then x9 n (s.extract 1 s.q) else if xF s=0 then Y else if 6<xF s then Y
  else(x9 n (s.extract (xF s) s.q)).map (s.extract 0 (xF s)::·)
def AF(h:s.q=0):x9 n s=Z []:=by cases n<;>simp[x9,h]
def EE(h:0<s.q)(a:qJ (Tr s 0)=true):x9 (n+1) s=x9 n (s.extract 1 s.q):=by simp[x9,Nat.ne_of_gt h,a]
def AX(h:0<s.q)(b:qJ (Tr s 0)=false)(a:xF s=0∨6<xF s):x9 (n+1) s=none:=by
 simp only[x9,za (Nat.ne_of_gt h),b];rcases a with a|a;simp[a];simp[a]
def DA(h:0<s.q)(c:qJ (Tr s 0)=false)(a:xF s≠0)(b:¬6<xF s):x9 (n+1) s=(x9 n (s.extract (xF s) s.q)).map (s.extract 0 (xF s)::·):=by
 simp[x9,Nat.ne_of_gt h,c,a,b]
def Iz(h:6<xF s):Tr s 0≠58/\UL (Tr s 0)=false:=by
 unfold xF xw at h;refine⟨λc=>?_,?_⟩;rw[c] at h;by_cases b:Tr s 1=45;rw[b] at h;simp[xe,qr,yY,yv] at h;simp[xe,qr,yY,yv,b,fy] at h;false_or_by_contra
 rename_i a;simp only[sG,UL,lz,beq_iff_eq] at a;rcases a with (((a|a)|a)|a)|a<;>(rw[a] at h;simp[xe,qr,yY,yv,fy] at h)
def JS(s:ByteArray)(a:0<s.q):xF s<=s.q:=by
 unfold xF;by_cases h:xw (Tr s 0) (Tr s 1)=0;rw[h];simp[yv];exact(sF s 0 _ a rfl h).2
def AB(o:Option (κ))(w:U)(e:Ending)(w':U):Prop:=
 μ w w'/\match o with
  |none=>e=ε (.B #[ν,.i false])
  |some l=>∃v,e=ε (.B #[v,.i true])/\w'.r w.o.q 9 1 v l.j (l.map O.string)
def Aq{w w':U}(h:X (o=Y))(a:μ w w'):AB o w (ε (.B #[ν,.i false])) w':=by
 have b:o=none:=h;subst b;exact⟨a,rfl⟩
def Kj{w w':U}{l:κ}{v:O}(h:X (o=Z l))(a:μ w w')(b:w'.r w.o.q 9 1 v l.j (l.map O.string)):AB o w (ε (.B #[v,.i true])) w':=by
 have c:o=Z l:=h;subst c;exact⟨a,v,rfl,b⟩
def iD(s:ByteArray)(w:U)(hs:s.q<=500):
  Calls prog 65 #[.d s] w λe f=>AB (x9 s.q s) w e f:=by
 obtain⟨T,S,K,A,D⟩:=info_parts SL;go_enter func65,ntmps65;go_wp2;go_loopg [0,4] (s.q) (λn u v wr=>∃(a:ByteArray) (b:κ) (m:Nat),u=.d a/\a.q<=n/\a.q<=m/\b.j+a.q<=s.q/\X (x9 s.q s=(x9 m a).map (b++·)) ∧
   wr.r w.o.q 9 1 v b.j (b.map O.string)/\μ w wr)
 case atStart=>exact⟨s,[],s.q,rfl,zg _,zg _,ζ,(by simp[X]),xp _ _ _ _,zn _ _⟩
 obtain⟨a,b,m,rfl,V,hm,P,H,j,g⟩:=hrel;by_cases x:0<a.q
 .have p:=mq a 0;have d:=qL x;have L:(a.v == [])=false:=by
   rw[kd,beq_eq_false_iff_ne];intro h;have:a.data.v.j=a.q:=nE;rw[h] at this;simp at this;omega
  obtain⟨m,rfl⟩:∃R,m=R+1:=⟨m-1,η⟩;cases r:qJ (Tr a 0)
  .have i:=Tg λW=>UK a W η x;have E:=JS a x;by_cases k:xF a=0∨6<xF a
   .have l:X (x9 s.q s=Y):=by rw[X,H.l,AX x r k];rfl
    rcases k with k|k
    .rw[k] at i;rw[d] at r p;clear H d k E;by_cases c:((a[0].D:Int) == 58)=true
     .go_wp2_with (first|(go_at_call 105;with_reducible refine(s6 _ _ η η).y ?_;rintro e f ⟨rfl,rfl⟩)|(go_at_call 105;with_reducible refine(kI _ _ η η).y ?_;rintro e f ⟨rfl,rfl⟩)|(go_at_call 106;refine(i.l _).y ?_;rintro e f ⟨rfl,rfl⟩))
      go_ret2
      exact Aq l g
     have q:((a[0].D:Int) == 58)=false:=by simpa using c
     clear c;go_wp2_with (first|(go_at_call 105;with_reducible refine(s6 _ _ η η).y ?_;rintro e f ⟨rfl,rfl⟩)|(go_at_call 105;with_reducible refine(kI _ _ η η).y ?_;rintro e f ⟨rfl,rfl⟩)|(go_at_call 106;refine(i.l _).y ?_;rintro e f ⟨rfl,rfl⟩))
     go_ret2
     exact Aq l g
    obtain⟨c,B⟩:=Iz k;rw[d] at r p c B;have q:((a[0].D:Int) == 58)=false:=by simpa using c
    clear H d c;generalize xF a=t at *;have J:((t:Int) == 0)=false:=by rw[beq_eq_false_iff_ne];omega
    go_wp2_with (first|(go_at_call 105;with_reducible refine(s6 _ _ η η).y ?_;rintro e f ⟨rfl,rfl⟩)|(go_at_call 105;with_reducible refine(kI _ _ η η).y ?_;rintro e f ⟨rfl,rfl⟩)|(go_at_call 106;refine(i.l _).y ?_;rintro e f ⟨rfl,rfl⟩))
    go_ret2
    exact Aq l g
   have z:xF a≠0:=λh=>k (zh h);have C:¬6<xF a:=λh=>k (ze h);have l:X (x9 s.q s=(x9 m (a.extract (xF a) a.q)).map ((b++[a.extract 0 (xF a)])++·)):=by rw[X,H.l,DA x r z C,sW]
   rw[d] at r p;clear H d k;generalize xF a=t at *;have J:((t:Int) == 0)=false:=by rw[beq_eq_false_iff_ne];omega
   have y:(a.extract t a.q).q=a.q-t:=by rw[ByteArray.size_extract];omega
   by_cases c:((a[0].D:Int) == 58)=true;rotate_left
   have q:((a[0].D:Int) == 58)=false:=by simpa using c
   clear c
   all_goals
    go_wp2_with (first|(go_at_call 105;with_reducible refine(s6 _ _ η η).y ?_;rintro e f ⟨rfl,rfl⟩)|(go_at_call 105;with_reducible refine(kI _ _ η η).y ?_;rintro e f ⟨rfl,rfl⟩)|(go_at_call 106;refine(i.l _).y ?_;rintro e f ⟨rfl,rfl⟩)|(at_builtin;refine gu _ _ _ _ rfl (.tmp 34) (.tmp 38) 30 rfl w.o.q 9 T _ 1 16 underlying30 S K A D rfl θ _ _ _ rfl j (zn _ _) _ _ rfl ζ rfl a_ η η g.q ?_;intro v' w2 G I F M Q N;clear F M))
    go_roundg (a.q-1)
    case measure=>omega
    exact⟨_,b++[a.extract 0 t],m,rfl,η,η,by simp;omega,l,by simpa using G,g.A I⟩
  have l:X (x9 s.q s=(x9 m (a.extract 1 a.q)).map (b++·)):=by rw[X,H.l,EE x r]
  have y:(a.extract 1 a.q).q=a.q-1:=by rw[ByteArray.size_extract];omega
  rw[d] at r p;clear H d;go_wp2_with (go_at_call 105;with_reducible refine(s6 _ _ η η).y ?_;rintro e f ⟨rfl,rfl⟩)
  go_roundg (a.q-1)
  case measure=>omega
  exact⟨_,b,m,rfl,η,η,η,l,j,g⟩
 have y:a.q=0:=η;have l:X (x9 s.q s=Z b):=by rw[X,H.l,AF y];simp
 have L:(a.v == [])=true:=by
  rw[kd,beq_iff_eq];exact lP (by rw[nE];exact y)
 clear H;go_wp2_with (first|(go_at_call 105;with_reducible refine(s6 _ _ η η).y ?_;rintro e f ⟨rfl,rfl⟩)|(go_at_call 105;with_reducible refine(kI _ _ η η).y ?_;rintro e f ⟨rfl,rfl⟩)|(go_at_call 106;refine(i.l _).y ?_;rintro e f ⟨rfl,rfl⟩))
 go_ret2
 exact Kj l g j
end
section
open Go.Proofs.Tryz Go.RowKit
variable {w:U}{v:O}{l:κ}
def SV(w:U)(v:O)(l:κ):Prop:=∃c a,v=.slice c l.j a/\l.j<=a ∧
 ((c=Y/\a=0)∨∃b o,c=Z ⟨b,o,Y⟩/\b<w.o.q/\∀k (d:k<l.j),w.p ⟨b,o+k,Y⟩=Z (.d l[k]))
def SV.of{b:Nat}(h:w.r b 9 1 v l.j (l.map O.string)):SV w v l:=by
 have i:=h;obtain⟨_,⟨c,m⟩|⟨g,d,p,c,_,j,n,_⟩⟩:=h;refine⟨Y,0,?_,η,zh ⟨rfl,rfl⟩⟩;rw[c,m];refine⟨_,d,c,n,ze ⟨g,0,rfl,(kp.1 j).1,λk o=>?_⟩⟩;obtain⟨q,f,a,_,_,e⟩:=yr i η;rw[c] at a;simp at a;obtain⟨rfl,_⟩:=a;rw[vx];exact e k _ (by simp[o])
def SV.qy(h:SV w v l):∃b a,v=.slice b l.j a:=by obtain⟨b,a,c,_⟩:=h;exact⟨b,a,c⟩
def SV.u{w':U}(h:SV w v l)(f:μ w w'):SV w' v l:=by
 obtain⟨m,c,i,j,d⟩:=h;refine⟨m,c,i,j,?_⟩;rcases d with d|⟨b,o,g,a,e⟩;exact zh d;exact ze ⟨b,o,g,ym a f.q,λk n=>(f.cell (p:=(ω b (o+k))) a).A (e k n)⟩
def SV.cell{w:U}{g:Option Addr}{n cap:Nat}{l:κ}(h:SV w (.slice g n cap) l)(k:Nat)(m:k<l.j):∃b o,g=Z (ω b o)/\b<w.o.q/\w.p (ω b (o+k))=Z (.d l[k]):=by
 obtain⟨i,d,e,p,f⟩:=h;simp at e;obtain⟨rfl,_,rfl⟩:=e;rcases f with⟨_,f⟩|⟨b,o,j,c,a⟩
 omega;exact⟨b,o,j,c,a k m⟩
def SV.E{g:Option Addr}{n cap:Nat}(h:SV w (.slice g n cap) l)(m:0<l.j):∃b o,g=Z (ω b o)/\b<w.o.q/\∀k (q:k<l.j),w.p (ω b (o+k))=Z (.d l[k]):=by
 obtain⟨i,d,e,p,f⟩:=h;simp at e;obtain⟨rfl,_,rfl⟩:=e;rcases f with⟨_,f⟩|⟨b,o,j,c,a⟩
 omega;exact⟨b,o,j,c,a⟩
section
variable {P:Program} {ops:Array Oper} {rest:List Oper} {o:Oper} {a:Act} {Q:Exit->Act->U->Prop}
def jF(w E:U)(L:o.guard=Y)(x:Operand)(t e:TypeId)(lo m:Option Operand)(u:o.op=.slice t x lo m Y)
  (M:P.underlying t=Z (.slice e)) (r:TypeInfo) (H:P.info? e=Z r) (A:P.cellsOf e=1) (v:O) (l:κ) (W:a.eval x=v) (I:SV E v l)
  (i j:Nat) (C:lo.map a.eval=Y/\i=0∨lo.map a.eval=Z (ι (i:Int))) (q:m.map a.eval=Y/\j=l.j∨m.map a.eval=Z (ι (j:Int))) (T:i<=j) (hj:j<=l.j) (n:Nat) (N:j-i=n)
  (R:∀f c,SV E (.slice f n c) ((l.drop i).G n)->wpList P ops Q rest (a.put o.dst (.slice f n c)) w):wpList P ops Q (o::rest) a w:=by
 subst N;obtain⟨f,c,rfl,hc,J⟩:=I;have V:(j:Int)<=(c:Int):=η;have S:(i:Int)<=(j:Int):=η;have hb:(Instr.sliceBounds true l.j c (lo.map a.eval) (m.map a.eval) Y).run P w=.ok (i,j,c) w:=by
  rcases C with⟨F,rfl⟩|F<;>rcases q with⟨G,rfl⟩|G<;>rw[F,G]<;>simp[Instr.sliceBounds,run_sliceBound,V,S]
 refine wpList_plain L λK s=>?_;unfold Oper.wp;have d:((l.drop i).G (j-i)).j=j-i:=by simp;omega
 have y:(sizeOf e).run P w=.ok 1 w:=by rw[←A];simp[sizeOf,typeInfo,Program.cellsOf,H]
 have h:(Instr.sliceAt t (.slice f l.j c) (lo.map a.eval) (m.map a.eval) Y).run P w=.ok (.slice (if c=i then f else f.map (·.add (i*1))) (j-i) (c-i)) w:=by
  simp[Instr.sliceAt,run_underlying M,Instr.slice,hb,y]
 simp only[execOp,u,W,Option.map_none,h,Sem.run_bind,Result.andThen];simp;refine s _ _ (R _ _ ?_);refine⟨_,_,by rw[d],by rw[d];omega,?_⟩;rcases J with⟨rfl,rfl⟩|⟨b,D,rfl,p,z⟩
 left;exact⟨by split<;>rfl,η⟩;right;by_cases g:c=i;refine⟨b,D,by rw[zb g],p,λk B=>?_⟩;rw[d] at B;omega;refine⟨b,D+i,?_,p,λk B=>?_⟩;rw[za g];simp[Addr.add_lit];rw[d] at B;rw[Nat.add_assoc,z (i+k) η];simp
end
def SZ:prog.cellsOf 9=1:=χ
end
section
open Go.RowKit
variable {lo:Nat}{l:κ}
def gB(l:κ)(i:Nat):ByteArray:=l.g i ByteArray.empty
def xJ{i:Nat}(h:i<l.j):l[i]=gB l i:=by simp[gB,h]
def UV(l:κ)(i:Nat):Bool:=if i%2=0 then TK (Tr (gB l i) 0) else((gB l i).v == [44])
def vm(l:κ):Nat->κ
 |0=>[]
 |i+1=>vm l i++(if 2<=i/\i%2=0 then [gB l i] else [])
def Av(l:κ):∀i,(vm l i).j<=i
 |0=>zg _
 |i+1=>by have:=Av l i;unfold vm;split<;>simp<;>omega
def qs(l:κ):Nat->Bool
 |0=>true
 |i+1=>qs l i&&(decide (i<2)||UV l i)
def Ip{i:Nat}(h:qs l i=false):∀k,i<=k->qs l k=false:=by
 intro k c;induction k with
 |zero=>
  have:i=0:=η;subst this;exact h
 |succ k b=>
  rcases dV k i with a|a;have:i=k+1:=η;subst this;exact h;simp[qs,b a]
def xC(neg:Bool)(l:κ):Option zj:=
 if l.j=0 then Y else if xe (Tr (gB l 0) 0)=false then Y else if l.j=1 then Z ⟨neg,gB l 0,[]⟩
 else if l.j<4∨l.j%2=1∨((gB l 1).v == [40])=false∨((gB l (l.j-1)).v == [41])=false then Y
 else if qs l (l.j-1) then Z ⟨neg,gB l 0,vm l (l.j-1)⟩ else Y
def TV(l:κ)(a:Bool):Bool:=decide (0<l.j)&&((gB l 0).v == [33])&&!a
def jS(l:κ)(a:Bool):Option zj:=if TV l a then xC true l.tail else xC false l
def kg(o:Option zj)(w:U)(e:Ending)(w':U):Prop:=
 μ w w'/\match o with
  |none=>∃b p f n c,e=ε (.B #[.agg #[.i b,.d p,.k f n c],.i false])
  |some a=>∃d,e=ε (.B #[.agg #[.i a.i,.d a.o,d],.i true])/\Tn w.o.q w' d a.k
def nK{a:Bool}(c:TV l a=false):¬0<l.j∨(0<l.j/\((gB l 0).v == [33])=false)∨((0<l.j/\((gB l 0).v == [33])=true)/\a=true):=by
 by_cases b:0<l.j;right;simp only[TV,decide_eq_true b,nY,eM] at c;cases h:((gB l 0).v == [33]);exact zh ⟨b,rfl⟩;rw[h] at c;simp at c;exact ze ⟨⟨b,rfl⟩,c⟩;exact zh b
end
section
variable {l:κ}
def yT(l:κ):Nat->Nat->Int->Nat->Option (List zj)
 |0,_,_,_=>Z []
 |n+1,b,d,i=>
  if i<l.j then
   if ((gB l i).v == [40]) then yT l n b (d+1) (i+1)
   else if ((gB l i).v == [41]) then yT l n b (d-1) (i+1)
   else if ((gB l i).v == [44])=false∨0<d then yT l n b d (i+1)
   else match jS ((l.drop b).G (i-b)) false with
    |none=>Y
    |some a=>(yT l n (i+1) d (i+1)).w (a::·)
  else match jS ((l.drop b).G (i-b)) false with
   |none=>Y
   |some a=>Z [a]
def s40{x:ByteArray}(h:(x.v == [40])=true):(x.v == [41])=false/\(x.v == [44])=false:=by rw[beq_iff_eq] at h;rw[h];exact⟨rfl,rfl⟩
def s41{x:ByteArray}(h:(x.v == [41])=true):(x.v == [40])=false/\(x.v == [44])=false:=by rw[beq_iff_eq] at h;rw[h];exact⟨rfl,rfl⟩
def uc:κ->Nat
 |[]=>0
 |x::r=>if (x.v == [58,45]) then 0 else uc r+1
def Gw:∀l,uc l<=l.j
 |[]=>zg _
 |x::r=>by have:=Gw r;unfold uc;split<;>simp<;>omega
def KI{j:Nat}(a:j<l.j)(h:((gB l j).v == [58,45])=false):uc (l.drop j)=uc (l.drop (j+1))+1:=by
 rw[xn a,uc,xJ a,h];rfl
def L8{j:Nat}(a:j<l.j)(h:((gB l j).v == [58,45])=true):uc (l.drop j)=0:=by
 rw[xn a,uc,xJ a,h];rfl
def km(l:κ):Option zc:=
 match jS (l.G (uc l)) true with
 |none=>Y
 |some h=>if uc l=l.j then Z ⟨h,[]⟩ else
  match yT (l.drop (uc l+1)) ((l.drop (uc l+1)).j+1) 0 0 0 with
  |none=>Y
  |some b=>Z ⟨h,b⟩
def qO(l:κ):Nat->Nat->Nat->Option (List zc)
 |0,a,_=>if a=l.j then Z [] else Y
 |n+1,a,i=>
  if ((gB l i).v == [46]) then
   match km ((l.drop a).G (i-a)) with
   |none=>Y
   |some c=>(qO l n (i+1) (i+1)).w (c::·)
  else qO l n a (i+1)
def vI(l:κ):Option (List zc):=qO l l.j 0 0
end
def mD(s:ByteArray)(i:Nat):(s.extract i s.q).q=s.q-i:=by simp[ByteArray.size_extract]
def Bo(s:ByteArray)(i j k:Nat)(c:j<=s.q)(b:i+k<j):Tr (s.extract i j) k=Tr s (i+k):=by
 have a:k<(s.extract i j).q:=by rw[ByteArray.size_extract];omega
 rw[qL a,qL (by omega:i+k<s.q)];simp[ByteArray.getElem_extract]
def sM(s:ByteArray)(i k:Nat):Tr (s.extract i s.q) k=Tr s (i+k):=by
 by_cases h:i+k<s.q;exact Bo s i s.q k (zg _) h;rw[pH h,pH (by rw[mD];omega)]
def Du(p:Int->Bool)(s:ByteArray)(i:Nat):∀(n j:Nat),s.q-i-j<=n->yK p (s.extract i s.q) j+i=yK p s (i+j):=by
 intro n;induction n with
 |zero=>intro j c;rw[fH (by rw[mD];omega),fH η];omega
 |succ n b=>
  intro j c;by_cases h:i+j<s.q;cases a:p (Tr s (i+j));rw[pn (by rw[sM];exact a),pn a];omega;rw[np (by rw[mD];omega) (by rw[sM];exact a),np h a,b (j+1) η];rfl;rw[fH (by rw[mD];omega),fH h];omega
def Lp(s:ByteArray)(i:Nat)(k:Int):yv (s.extract i s.q) 0 k+i=yv s i k:=by
 unfold yv;have b:=Du TK s i _ 0 (zg _);have a:=Du yY s i _ 0 (zg _);simp only[vr] at b a;repeat' split
 all_goals omega
def Ng(s:ByteArray)(i:Nat):xF (s.extract i s.q)+i=yv s i (xw (Tr s i) (Tr s (i+1))):=by
 unfold xF;rw[sM,sM,Lp];rfl
def A7(s:ByteArray)(i a b x y:Nat)(d:i+a=x)(c:min (i+b) s.q=y):(s.extract i s.q).extract a b=s.extract x y:=by
 rw[ByteArray.extract_extract,d,c]
def LI(s:ByteArray)(i:Nat):yv s i 0=i:=by simp[yv]
def Oe(s:ByteArray):∀(n i:Nat),i<=s.q->s.q-i<=n->x9 n (s.extract i s.q)=(Tx n s i).w (·.w Prod.snd):=by
 intro n;induction n with
 |zero=>intro i o m;rw[AF (by rw[mD];omega),sA η];rfl
 |succ n j=>
  intro i o m;by_cases h:i<s.q;have d:0<(s.extract i s.q).q:=by rw[mD];omega
  have a:=sM s i 0;cases b:qJ (Tr s i);have f:=Ng s i;generalize e:xw (Tr s i) (Tr s (i+1))=k at f;by_cases c:k=0;subst c;rw[LI] at f;rw[AX d (by rw[a];exact b) (zh η),ir h b e];rfl;have q:=sF s i k h e c;by_cases g:6<yv s i k-i;rw[AX d (by rw[a];exact b) (ze η),iV h b e g];rfl;rw[DA d (by rw[a];exact b) η η,i5 h b e c g];have l:(s.extract i s.q).extract 0 (xF (s.extract i s.q))=s.extract i (yv s i k):=A7 s i _ _ _ _ rfl η;have p:(s.extract i s.q).extract (xF (s.extract i s.q)) (s.extract i s.q).q=s.extract (yv s i k) s.q:=A7 s i _ _ _ _ η (by rw[mD];omega);rw[l,p,j _ η η,Option.map_map,Option.map_map];rfl;rw[EE d (by rw[a];exact b),ii h b,←j (i+1) η η,A7 s i 1 _ (i+1) s.q rfl (by rw[mD];omega)];rw[AF (by rw[mD];omega),sA h];rfl
def sO(s:ByteArray):x9 s.q s=(Tt s).w (·.w Prod.snd):=by
 have h:=Oe s s.q 0 η η;rwa [show s.extract 0 s.q=s by simp] at h
section
variable {t:ByteArray}
def o8(t:ByteArray)(i:Nat):Tr t i=((t.v[i]?.w λb=>(b.D:Int)).g 0):=by
 rw[kd];by_cases h:i<t.q;rw[qL h,yn (by simpa using h)];rfl;rw[pH h,gL (by simpa using h)];rfl
def Aj(t:ByteArray):t.v.j=t.q:=by rw[kd];simp
def M3(h:t.q=1)(c:UInt8):(t.v == [c])=(Tr t 0 == (c.D:Int)):=by
 have d:=(Aj t).A h;rw[o8];revert d
 generalize t.v=l;intro d;match l,d with
 |[a],_=>
  by_cases b:a=c;subst b;simp;have:a.D≠c.D:=λh=>b (UInt8.toNat_inj.1 h);rw[show([a] == [c])=false by simpa using b];simp;omega
def LS{c:UInt8}{r:List UInt8}(h:Tr t 0≠(c.D:Int)):(t.v == c::r)=false:=by
 rw[beq_eq_false_iff_ne];intro a;apply h;rw[o8,a];rfl
structure lD (x:To):Prop where
 n:(x.1 == 1)=xe (Tr x.2 0)
 t:Un x.1=TK (Tr x.2 0)
 k4:(x.1 == 4)=(x.2.v == [40])
 k5:(x.1 == 5)=(x.2.v == [41])
 k6:(x.1 == 6)=(x.2.v == [44])
 k7:(x.1 == 7)=(x.2.v == [46])
 k8:(x.1 == 8)=(x.2.v == [33])
 k9:(x.1 == 9)=(x.2.v == [58,45])
def My(h:TK (Tr t 0)=true)(c:UInt8)(a:TK (c.D:Int)=false)(r:List UInt8):(t.v == c::r)=false:=by
 apply LS;intro b;rw[b,a] at h;exact zB h ζ
def oH{k:Int}(h:TK (Tr t 0)=true)(a:k=1∨k=2∨k=3)(b:(k == 1)=xe (Tr t 0)):lD (k,t):=by
 refine⟨b,?_,?_,?_,?_,?_,?_,?_⟩;rw[h];rcases a with h|h|h<;>subst h<;>rfl
 all_goals
  show _=(t.v == _::_);rw[My h _ θ];rcases a with h|h|h<;>subst h<;>rfl
def Ko(h:t.q=2)(c:Tr t 0=58)(d:Tr t 1=45):lD (9,t):=by
 have e:t.v=[58,45]:=by
  have f:=(Aj t).A h;rw[o8] at c d;revert f c d
  generalize t.v=l;intro c d f;match l,f,c,d with
  |[a,b],_,c,d=>
   have c:(a.D:Int)=58:=c;have d:(b.D:Int)=45:=d;have g:a=58:=UInt8.toNat_inj.1 (by simpa using(by omega:a.D=58));have i:b=45:=UInt8.toNat_inj.1 (by simpa using(by omega:b.D=45));rw[g,i]
 constructor<;>(try rw[c])<;>(try (show _=(t.v == _);rw[e]))<;>rfl
def KY{k c:Int}(e:t.q=1)(d:Tr t 0=c)(a:fy c=k)(g:k≠0):lD (k,t):=by
 have b:c=40∨c=41∨c=44∨c=46∨c=33:=by unfold fy at a;(repeat' split at a)<;>omega
 have i:(t.v == [58,45])=false:=by
  rw[beq_eq_false_iff_ne];intro f;have:=Aj t;rw[f,e] at this;simp at this
 constructor
 case n=>show _=xe (Tr t 0);rw[d];rcases b with h|h|h|h|h<;>subst h<;>subst a<;>rfl
 case t=>show _=TK (Tr t 0);rw[d];rcases b with h|h|h|h|h<;>subst h<;>subst a<;>rfl
 case k9=>show _=(t.v == _);rw[i];rcases b with h|h|h|h|h<;>subst h<;>subst a<;>rfl
 all_goals
  show _=(t.v == _);rw[M3 e,d];rcases b with h|h|h|h|h<;>subst h<;>subst a<;>rfl
def KE(s:ByteArray)(i:Nat)(k:Int)(h:i<s.q)(b:xw (Tr s i) (Tr s (i+1))=k)(d:k≠0):lD (k,s.extract i (yv s i k))/\0<(s.extract i (yv s i k)).q:=by
 have j:=sF s i k h b d;have g:(s.extract i (yv s i k)).q=yv s i k-i:=by rw[ByteArray.size_extract];omega
 refine⟨?_,η⟩;have a:Tr (s.extract i (yv s i k)) 0=Tr s i:=Bo s i _ 0 j.2 η;have f:=fun(p:i+1<yv s i k)=>Bo s i _ 1 j.2 p;unfold xw at b;split at b;rename_i c;subst b;exact oH (by rw[a];simp[TK,c]) (zh rfl) (by rw[a,c];rfl);rename_i e;split at b;rename_i c;subst b;exact oH (by rw[a];simp[TK,c]) (ze (zh rfl)) (by rw[a];simp[e]);rename_i o;split at b;rename_i c;subst b;exact oH (by rw[a];simp[TK,c]) (ze (ze rfl)) (by rw[a];simp[e]);split at b;rename_i m c;subst b;have n:yv s i 9=i+2:=by simp[yv]
 exact Ko (by rw[g,n];omega) (by rw[a];exact c.1) (by rw[f η];exact c.2);have l:yv s i k=i+1:=by
  have q:k≠9/\k≠1/\k≠2/\k≠3:=by subst b;unfold fy;(repeat' split)<;>simp
  simp[yv,d,q]
 exact KY (by rw[g,l];omega) a b d
def KL(s:ByteArray):∀(n i:Nat) (l:Δ),Tx n s i=Z l->∀x∈l,lD x/\0<x.2.q:=by
 intro n;induction n with
 |zero=>intro i l h;simp[Tx] at h;subst h;simp
 |succ n g=>
  intro i l h;by_cases b:i<s.q;cases d:qJ (Tr s i);generalize c:xw (Tr s i) (Tr s (i+1))=k;by_cases a:k=0;subst a;rw[ir b d c] at h;exact zB h ζ;by_cases f:6<yv s i k-i;rw[iV b d c f] at h;exact zB h ζ;rw[i5 b d c a f] at h;obtain⟨r,j,rfl⟩:=qn.1 h;intro x e;rcases zG.1 e with rfl|e;exact KE s i k b c a;exact g _ _ j x e;rw[ii b d] at h;exact g _ _ h;rw[sA b] at h;simp at h;subst h;simp
def rE{s:ByteArray}{l:Δ}(h:Tt s=Z l):∀x∈l,lD x/\0<x.2.q:=KL s _ _ l h
end
section
variable {r p r2:List To}
inductive fY:κ->List To->Prop
 |one {x:To}:Un x.1=true->fY [x.2] [x]
 |more {x c:To} {ts:κ} {r:List To}:Un x.1=true->c.1=6->fY ts r->fY (x.2::ts) (x::c::r)
inductive qR:zj->List To->Prop
 |bare {n:To}:n.1=1->qR ⟨false,n.2,[]⟩ [n]
 |k {n o c:To} {ts:κ} {p:List To}:n.1=1->o.1=4->fY ts p->c.1=5->qR ⟨false,n.2,ts⟩ (n::o::(p++[c]))
inductive dU:zj->List To->Prop
 |qc {a:zj} {p:List To}:qR a p->dU a p
 |i {a:zj} {n:To} {p:List To}:n.1=8->qR a p->dU {a with i:=true} (n::p)
inductive gT:List zj->List To->Prop
 |one {a:zj} {p:List To}:dU a p->gT [a] p
 |more {a:zj} {p q:List To} {c:To} {b:List zj}:dU a p->c.1=6->gT b q->gT (a::b) (p++c::q)
inductive fZ:zc->List To->Prop
 |fact {a:zj} {p:List To}:qR a p->fZ ⟨a,[]⟩ p
 |p {a:zj} {b:List zj} {p q:List To} {i:To}:qR a p->i.1=9->gT b q->fZ ⟨a,b⟩ (p++i::q)
inductive ly:List zc->List To->Prop
 |nil:ly [] []
 |cons {c:zc} {cs:List zc} {p q:List To} {d:To}:fZ c p->d.1=7->ly cs q->ly (c::cs) (p++d::q)
def nD{k:Int}(a:k≠0)(h:T6 r=k):∃x t,r=x::t/\x.1=k:=by
 rcases r with _|⟨x,t⟩;exact zB h.z a;exact⟨x,t,rfl,h⟩
def Hn:∀(r:Δ) {ts:κ} {r2:Δ},yx r=Z (ts,r2)->∃p,r=p++r2/\fY ts p
 |[],_,_,h=>by simp[yx] at h
 |[x],ts,r2,h=>by
  cases a:Un x.1 with
  |false=>simp[yx,a] at h
  |true=>simp[yx,a] at h;obtain⟨rfl,rfl⟩:=h;exact⟨[x],rfl,.one a⟩
 |x::y::r,ts,r2,h=>by
  cases a:Un x.1 with
  |false=>simp[yx,a] at h
  |true=>
   by_cases b:y.1=6
   .simp only[yx,a,b,if_true] at h;obtain⟨⟨g,f⟩,e,c⟩:=qn.1 h;simp at c;obtain⟨rfl,rfl⟩:=c;obtain⟨p,rfl,d⟩:=Hn r e;exact⟨x::y::p,rfl,.more a b d⟩
   .simp[yx,a,b] at h;obtain⟨rfl,rfl⟩:=h;exact⟨[x],rfl,.one a⟩
def Nc{ts:κ}(h:fY ts p)(b:T6 r2≠6):yx (p++r2)=Z (ts,r2):=by
 induction h with
 |one a=>exact Fu a b
 |more a c _ d=>simp only[lr,yx,a,c,if_true];rw[d];rfl
def Bm{a:zj}(h:xv r=Z (a,r2)):∃p,r=p++r2/\qR a p:=by
 unfold xv at h;split at h;rename_i j;obtain⟨n,t,rfl,e⟩:=nD θ j;by_cases d:T6 t=4;rw[zb (show T6 (n::t).tail=4 from d)] at h;obtain⟨o,t,rfl,i⟩:=nD θ d;split at h;exact zB h ζ;rename_i m l b;split at h;rename_i k;obtain⟨p,rfl,f⟩:=Hn _ b;obtain⟨c,t,rfl,g⟩:=nD θ k;simp at h;obtain⟨rfl,rfl⟩:=h;exact⟨n::o::(p++[c]),ζ,.k e i f g⟩;exact zB h ζ;rw[za (show ¬T6 (n::t).tail=4 from d)] at h;simp at h;obtain⟨rfl,rfl⟩:=h;exact⟨[n],rfl,.bare e⟩;exact zB h ζ
def eh{a:zj}(h:qR a p)(i:T6 r2≠4):xv (p++r2)=Z (a,r2):=by
 cases h with
 |bare b=>simp[xv,T6,b];intro h;exact zB h i
 |k b g f d=>
  rename_i n o c j p;have e:(n::o::(p++[c]))++r2=n::o::(p++(c::r2)):=ζ;rw[e];simp only[xv,T6,b,g,if_true,mR,List.headD_cons];rw[Nc f (by simp[T6,d])];simp[d]
def qR.hd{a:zj}(h:qR a p)(r:Δ):T6 (p++r)=1:=by cases h<;>assumption
def qR.len{a:zj}(h:qR a p):0<p.j:=by cases h<;>simp
def Nu{a:zj}(h:uY r=Z (a,r2)):∃p,r=p++r2/\dU a p:=by
 unfold uY at h;split at h;rename_i f;obtain⟨n,t,rfl,e⟩:=nD θ f;obtain⟨⟨j,i⟩,g,d⟩:=qn.1 h;simp at d;obtain⟨rfl,rfl⟩:=d;obtain⟨p,b,c⟩:=Bm g;simp only[mR] at b;subst b;exact⟨n::p,rfl,.i e c⟩;obtain⟨p,b,c⟩:=Bm h;exact⟨p,b,.qc c⟩
def C0{a:zj}(h:dU a p)(c:T6 r2≠4):uY (p++r2)=Z (a,r2):=by
 cases h with
 |qc b=>unfold uY;rw[b.hd,eh b c];rfl
 |i d b=>simp only[uY,lr,T6,d,if_true,mR];rw[eh b c];rfl
def dU.len{a:zj}{p:Δ}(h:dU a p):0<p.j:=by cases h with
 |qc h=>exact h.len
 |i _ h=>simp
def Mb:∀{n:Nat} {r r2:Δ} {b:Ω},uj n r=Z (b,r2)->∃p,r=p++r2/\gT b p:=by
 intro n;induction n with
 |zero=>intro r r2 b h;simp[uj] at h
 |succ n m=>
  intro r r2 b h;rcases d:uY r with _|z;rw[tw d] at h;exact zB h ζ;obtain⟨a,k⟩:=z;obtain⟨p,rfl,i⟩:=Nu d;by_cases e:T6 k=6;rw[sd d e] at h;obtain⟨⟨u,s⟩,o,f⟩:=qn.1 h;simp at f;obtain⟨rfl,rfl⟩:=f;obtain⟨c,t,rfl,l⟩:=nD θ e;obtain⟨q,g,j⟩:=m o;simp only[mR] at g;subst g;exact⟨p++c::q,ζ,.more i l j⟩;rw[rR d e] at h;simp at h;obtain⟨rfl,rfl⟩:=h;exact⟨p,rfl,.one i⟩
def Jc{b:Ω}(h:gT b p)(j:T6 r2≠4)(k:T6 r2≠6):∀n,p.j<=n->uj n (p++r2)=Z (b,r2):=by
 induction h with
 |one d=>
  intro n g;have:=d.len;obtain⟨m,rfl⟩:∃m,n=m+1:=⟨n-1,η⟩;rw[rR (C0 d j) k]
 |more d f _ i=>
  rename_i a p q c b _;intro n g;simp only[yN,xt] at g;obtain⟨m,rfl⟩:∃m,n=m+1:=⟨n-1,η⟩;have e:(p++c::q)++r2=p++(c::(q++r2)):=ζ;have l:=C0 d (r2:=c::(q++r2)) (by simp[T6,f]);rw[e,sd l f,mR,i m η];rfl
def PD{n:Nat}{c:zc}(h:vE n r=Z (c,r2)):∃p d,r=p++d::r2/\d.1=7/\fZ c p:=by
 unfold vE at h;split at h;exact zB h ζ;rename_i a u j;obtain⟨p,rfl,k⟩:=Bm j;split at h;rename_i o;obtain⟨i,t,rfl,m⟩:=nD θ o;split at h;exact zB h ζ;rename_i b s e;obtain⟨q,rfl,l⟩:=Mb e;split at h;rename_i g;obtain⟨d,t,rfl,f⟩:=nD θ g;simp at h;obtain⟨rfl,rfl⟩:=h;exact⟨p++i::q,d,ζ,f,.p k m l⟩;exact zB h ζ;split at h;rename_i g;obtain⟨d,t,rfl,f⟩:=nD θ g;simp at h;obtain⟨rfl,rfl⟩:=h;exact⟨p,d,rfl,f,.fact k⟩;exact zB h ζ
def K6{c:zc}(h:fZ c p){d:To}(f:d.1=7)(r2:Δ)(n:Nat)(l:p.j<=n):vE n (p++d::r2)=Z (c,r2):=by
 cases h with
 |fact g=>
  unfold vE;rw[eh g (by simp[T6,f])];simp[T6,f]
 |p g j k=>
  rename_i a b p q i;simp only[yN,xt] at l;have e:(p++i::q)++d::r2=p++(i::(q++d::r2)):=ζ;unfold vE;rw[e,eh g (by simp[T6,j])];simp only[T6,j,if_true,mR];rw[Jc k (by simp[T6,f]) (by simp[T6,f]) n η];simp[f]
def fZ.len{c:zc}{p:Δ}(h:fZ c p):0<p.j:=by cases h with
 |fact h=>exact h.len
 |p h=>simp;omega
def Sm{n:Nat}:∀(m:Nat) {r:Δ} {cs:Ξ},yW n m r=Z cs->ly cs r:=by
 intro m;induction m with
 |zero=>
  intro r cs h;rcases r with _|⟨x,r⟩;simp[yW] at h;subst h;exact .nil;simp[yW] at h
 |succ m c=>
  intro r cs h;rcases r with _|⟨x,r⟩;simp[yW] at h;subst h;exact .nil;rcases a:vE n (x::r) with _|z;rw[iy ζ a] at h;exact zB h ζ;rw[sZ ζ a] at h;obtain⟨f,g,rfl⟩:=qn.1 h;obtain⟨p,d,e,b,i⟩:=PD a;rw[e];exact .cons i b (c g)
def ND{n:Nat}{cs:Ξ}(h:ly cs r):∀m,r.j<=m->r.j<=n->yW n m r=Z cs:=by
 induction h with
 |nil=>intro m _ _;cases m<;>rfl
 |cons a d _ c=>
  intro m b e;have:=a.len;simp only[yN,xt] at b e;obtain⟨k,rfl⟩:∃k,m=k+1:=⟨m-1,η⟩;rw[sZ ζ (K6 a d _ n η),c k η η];rfl
def Qs(l:Δ)(cs:Ξ):yW l.j l.j l=Z cs↔ly cs l:=
 ⟨Sm _,λh=>ND h _ (zg _) (zg _)⟩
end
section
variable {p:List To}
def uu(l:List To):Prop:=∀x∈l,lD x
def zX(l:List To):κ:=l.w Prod.snd
def tk(l:List To)(i:Nat):To:=l.g i (0,ByteArray.empty)
def KB:lD (0,ByteArray.empty):=by constructor<;>first|rfl|(show _=(ByteArray.empty.toList == _);rw[kd];rfl)
def uu.tk{l:Δ}(h:uu l)(i:Nat):lD (tk l i):=by
 unfold Go.Proofs.YteampbddflhngaaGreat.tk;by_cases a:i<l.j;rw[kL,yn a];exact h _ (zq a);rw[kL,gL η];exact KB
def fF(l:Δ)(i:Nat):gB (zX l) i=(tk l i).2:=by
 unfold gB zX tk;by_cases a:i<l.j;simp[List.getD_eq_getElem?_getD,a];simp[List.getD_eq_getElem?_getD,a]
def kK(l:Δ):(zX l).j=l.j:=by simp[zX]
def uu.G{l:Δ}(h:uu l)(n:Nat):uu (l.G n):=λx a=>h x (gH a)
def uu.drop{l:Δ}(h:uu l)(n:Nat):uu (l.drop n):=λx a=>h x (fg a)
def jn{k c:Int}{b:Bool}(h:(k == c)=b):b=true↔k=c:=by subst h;simp
def TX{α:Type}:List α->List α
 |[]=>[]
 |[x]=>[x]
 |x::_::r=>x::TX r
def Cz{α:Type}(y:α):∀x:List α,TX (x++[y])=TX x++(if x.j%2=0 then [y] else [])
 |[]=>rfl
 |[a]=>rfl
 |a::b::r=>by
  have:=Cz y r;have c:(a::b::r).j%2=r.j%2:=by simp only[xt];omega
  rw[c];simp only[lr,TX,this]
def FQ(l:κ):∀m,m<=l.j->vm l m=TX ((l.drop 2).G (m-2))
 |0,_=>by simp[vm,TX]
 |m+1,h=>by
  rw[vm,FQ l m η];by_cases a:2<=m
  .have e:(l.drop 2).G (m+1-2)=(l.drop 2).G (m-2)++[gB l m]:=by
    rw[show m+1-2=(m-2)+1 by omega,List.take_add_one];congr 1;rw[List.getElem?_drop,show 2+(m-2)=m by omega,yn η,xJ η];rfl
   rw[e,Cz];congr 1;have b:((l.drop 2).G (m-2)).j=m-2:=by simp;omega
   rw[b];simp only[a,true_and];rw[show(m-2)%2=m%2 by omega]
  .rw[show m+1-2=0 by omega,show m-2=0 by omega];simp[TX,a]
def Gc(l:κ):∀m,qs l m=true↔∀i,2<=i->i<m->UV l i=true
 |0=>by simp[qs]
 |m+1=>by
  have e:=Gc l m;simp only[qs,uK,lz,decide_eq_true_eq,e];constructor
  .rintro⟨f,a⟩ i b c;by_cases d:i=m
   .subst d;rcases a with a|a
    .omega
    .exact a
   .exact f i b η
  .intro h;refine⟨λi b c=>h i b η,?_⟩;by_cases a:m<2
   .exact zh a
   .exact ze (h m η η)
def V6(q:List To):Prop:=q.j%2=1/\∀i,i<q.j->if i%2=0 then Un (tk q i).1=true else(tk q i).1=6
def fh(x:To)(l:Δ)(i:Nat):tk (x::l) (i+1)=tk l i:=by simp[tk]
def l5(x:To)(l:Δ):tk (x::l) 0=x:=by simp[tk]
def JJ{ts:κ}{q:Δ}(h:fY ts q):V6 q/\ts=TX (zX q):=by
 induction h with
 |one b=>exact⟨⟨rfl,λi a=>by simp at a;subst a;simpa [l5] using b⟩,rfl⟩
 |more b c _ d=>
  obtain⟨⟨g,e⟩,f⟩:=d;refine⟨⟨by simp only[xt];omega,λi a=>?_⟩,by rw[f];rfl⟩;match i with
  |0=>simpa [l5] using b
  |1=>simpa [fh,l5] using c
  |i+2=>
   have:=e i (by simp only[xt] at a;omega);rw[fh,fh,show(i+2)%2=i%2 by omega];exact this
def Gy:∀(q:Δ),V6 q->fY (TX (zX q)) q
 |[],h=>by have:=h.1;simp at this
 |[x],h=>by have:=h.2 0 ζ;simp[l5] at this;exact .one this
 |x::y::r,h=>by
  have a:=h.2 0 ζ;have b:=h.2 1 ζ;simp[l5] at a;simp[fh,l5] at b;refine .more a b (Gy r ⟨by have:=h.1;simp only[xt] at this;omega,λi c=>?_⟩);have:=h.2 (i+2) (by simp only[xt];omega);rw[fh,fh,show(i+2)%2=i%2 by omega] at this;exact this
def KM{r:Δ}{i:Nat}(h:i<p.j):tk (p++r) i=tk p i:=by
 simp[tk,List.getD_eq_getElem?_getD,List.getElem?_append_left h]
def Qa{r:Δ}{c:To}:tk (p++c::r) p.j=c:=by simp[tk,List.getD_eq_getElem?_getD]
def Nh{neg:Bool}{n o c:To}{q:Δ}(h:uu (n::o::(q++[c])))(a:zj):
  xC neg (zX (n::o::(q++[c])))=Z a↔n.1=1/\o.1=4/\c.1=5/\V6 q/\a=⟨neg,n.2,TX (zX q)⟩:=by
 have u:=jn (h n ζ).n;have v:=jn (h o ζ).k4;have t:=jn (h c ζ).k5;have E:gB (zX (n::o::(q++[c]))) 0=n.2:=by rw[fF,l5]
 have w:gB (zX (n::o::(q++[c]))) 1=o.2:=by rw[fF,fh,l5]
 have C:(zX (n::o::(q++[c]))).j=q.j+3:=by rw[kK];simp
 have y:gB (zX (n::o::(q++[c]))) (q.j+2)=c.2:=by rw[fF,fh,fh,Qa]
 have m:qs (zX (n::o::(q++[c]))) (q.j+2)=true↔∀i,i<q.j->if i%2=0 then Un (tk q i).1=true else(tk q i).1=6:=by
  have f:∀i,i<q.j->(UV (zX (n::o::(q++[c]))) (i+2)=true↔if i%2=0 then Un (tk q i).1=true else(tk q i).1=6):=by
   intro i j;have s:lD (tk q i):=uu.tk (λx D=>h x (by simp[D])) i;unfold UV;rw[fF,fh,fh,KM j,show(i+2)%2=i%2 by omega];split;rw[s.t];exact jn s.k6
  rw[Gc];constructor;intro l i j;exact(f i j).1 (l (i+2) η η);intro l i F j;have:=(f (i-2) η).2 (l (i-2) η);rwa [show i-2+2=i by omega] at this
 have d:vm (zX (n::o::(q++[c]))) (q.j+2)=TX (zX q):=by
  rw[FQ _ _ η];simp[zX]
 unfold xC;rw[C,E,w,show q.j+3-1=q.j+2 by omega,y,d];rw[za η];by_cases g:n.1=1;rw[za (by rw[u.2 g];simp),za η];by_cases b:q.j+3<4∨(q.j+3)%2=1∨(o.2.v == [40])=false∨(c.2.v == [41])=false;rw[zb b];simp only[reduceCtorEq,false_iff];rintro⟨-,B,A,z,-⟩;rw[v.2 B,t.2 A] at b;have:=z.1;simp at b;omega;rw[za b];simp only[not_or,sG] at b;have r:V6 q↔qs (zX (n::o::(q++[c]))) (q.j+2)=true:=by
  rw[m];exact⟨λh=>h.2,λh=>⟨η,h⟩⟩
 by_cases k:qs (zX (n::o::(q++[c]))) (q.j+2)=true;rw[zb k];simp only[zt];exact⟨λe=>⟨g,v.1 b.2.2.1,t.1 b.2.2.2,r.2 k,e.z⟩,λe=>e.2.2.2.2.z⟩;rw[za k];simp only[reduceCtorEq,false_iff];exact λe=>k (r.1 e.2.2.2.1);have:xe (Tr n.2 0)=false:=by rw[←rz];exact λe=>g (u.1 e)
 rw[zb this];simp only[reduceCtorEq,false_iff];exact λe=>g e.1
def wL{neg:Bool}(h:uu p)(a:zj):xC neg (zX p)=Z a↔∃f,qR f p/\a={f with i:=neg}:=by
 match p,h with
 |[],_=>
  simp only[xC,zX,List.map_nil,qW,if_true,reduceCtorEq,false_iff];rintro⟨f,b,-⟩;cases b
 |[n],h=>
  have s:=jn (h n ζ).n;have u:gB (zX [n]) 0=n.2:=by rw[fF,l5]
  unfold xC;rw[kK,u];constructor;intro e;cases g:xe (Tr n.2 0);simp[g] at e;simp[g] at e;exact⟨_,.bare (s.1 g),e.z⟩;rintro⟨f,b,rfl⟩;cases b with
  |bare i=>simp[s.2 i]
 |n::o::r,h=>
  rcases ez r with rfl|⟨q,c,rfl⟩;constructor;intro e;unfold xC at e;rw[kK] at e;simp at e;rintro⟨f,b,rfl⟩;generalize d:[n,o]=p at b;cases b with
  |bare=>simp at d
  |k=>simp at d
  rw[iU] at h ⊢;rw[Nh h];constructor;rintro⟨l,k,j,m,rfl⟩;exact⟨_,.k l k (Gy q m) j,rfl⟩;rintro⟨f,b,rfl⟩;generalize d:n::o::(q++[c])=p at b;cases b with
  |bare=>simp at d
  |k l k t j=>
   simp only[m4] at d;obtain⟨rfl,rfl,d⟩:=d;have:=rQ d rfl;simp only[m4,and_true] at this;obtain⟨rfl,rfl⟩:=this;obtain⟨m,rfl⟩:=JJ t;exact⟨l,k,j,m,rfl⟩
def qR.qc{a:zj}(h:qR a p):{a with i:=false}=a:=by cases h<;>rfl
def Bb(h:uu p)(a:zj):jS (zX p) true=Z a↔qR a p:=by
 have c:TV (zX p) true=false:=by simp[TV]
 unfold jS;rw[c,za ζ,wL h];exact⟨fun⟨d,b,e⟩=>by rw[e,b.qc];exact b,λb=>⟨a,b,b.qc.z⟩⟩
def iJ(h:uu p)(a:zj):jS (zX p) false=Z a↔dU a p:=by
 rcases p with _|⟨n,r⟩;have l:TV (zX []) false=false:=rfl;unfold jS;rw[l,za ζ,wL h];constructor;rintro⟨j,b,-⟩;cases b;intro c;cases c with
 |qc b=>cases b
 have f:=jn (h n ζ).k8;have g:TV (zX (n::r)) false=(n.2.v == [33]):=by
  unfold TV;rw[fF,l5,kK];simp
 unfold jS;rw[g];cases i:(n.2.v == [33]);have d:n.1≠8:=λe=>by rw[f.2 e] at i;exact zB i ζ
 rw[za ζ,wL h];constructor;rintro⟨j,b,rfl⟩;rw[b.qc];exact .qc b;intro c;cases c with
 |qc b=>exact⟨_,b,b.qc.z⟩
 |i f _=>exact zB f d
 have d:=f.1 i;rw[zb rfl,show(zX (n::r)).tail=zX r from rfl,wL (show uu r from λx k=>h x (by simp[k]))];constructor;rintro⟨j,b,rfl⟩;exact .i d b;intro c;cases c with
 |qc b=>have:=b.hd [];simp[T6,d] at this
 |i _ b=>exact⟨_,b,rfl⟩
end
section
variable {l r p:List To}
def Bd{f i:Nat}(b:f<=i)(a:i<l.j):l.drop f=(l.drop f).G (i-f)++l[i]::l.drop (i+1):=by
 have e:(l.drop f).drop (i-f)=l[i]::l.drop (i+1):=by
  rw[List.drop_drop,show f+(i-f)=i by omega,xn a]
 rw[←e,kj]
def rB(l:Δ)(f k:Nat):((zX l).drop f).G k=zX ((l.drop f).G k):=by simp[zX,List.map_take,List.map_drop]
def tA{i:Nat}(h:i<l.j):tk l i=l[i]:=by simp[tk,List.getD_eq_getElem?_getD,h]
def ei{i:Nat}{x:To}(h:l.drop i=x::r):tk l i=x/\i<l.j/\l.drop (i+1)=r:=by
 have a:i<l.j:=by
  false_or_by_contra;rename_i b
  rw[ui η] at h;exact zB h ζ
 rw[xn a] at h;simp only[m4] at h;exact⟨by rw[tA a];exact h.1,a,h.2⟩
def JI(h:uu l):∀(n f i:Nat) (d:Int) (b:Ω),f<=i->i+n=l.j+1->yT (zX l) n f d i=Z b->gT b (l.drop f)∨(n=0/\b=[]):=by
 intro n;induction n with
 |zero=>intro f i d b _ _ e;simp[yT] at e;exact ze ⟨rfl,e⟩
 |succ n u=>
  intro f i d b t y e;left;have step:∀{j o k},j<=i+1->i<l.j->yT (zX l) n j o (i+1)=Z k->gT k (l.drop j):=by
   intro j o k v z w;rcases u j (i+1) o k v η w with m|⟨rfl,-⟩
   exact m;omega
  unfold yT at e;rw[kK] at e;by_cases c:i<l.j;rw[zb c] at e;split at e;exact step η c e;split at e;exact step η c e;split at e;exact step η c e;rename_i s;split at e;exact zB e ζ;rename_i a g;rw[rB,iJ ((h.drop f).G _)] at g;obtain⟨k,x,rfl⟩:=qn.1 e;have m:=step (zg _) c x;rw[Bd t c];refine .more g ?_ m;have q:=jn (h.tk i).k6;rw[tA c] at q;apply q.1;simp only[not_or,sG] at s;have:=s.1;rwa [fF,tA c] at this;rw[za c] at e;split at e;exact zB e ζ;rename_i a g;rw[rB,iJ ((h.drop f).G _)] at g;simp only[zt] at e;subst e;have:(l.drop f).G (i-f)=l.drop f:=yV υ;rw[this] at g;exact .one g
def dep:Int->List To->Option Int
 |d,[]=>Z d
 |d,x::r=>if x.1=4 then dep (d+1) r else if x.1=5 then dep (d-1) r else if x.1≠6∨0<d then dep d r else Y
def iM:∀(p q:Δ) (d:Int),dep d (p++q)=(dep d p).bind λa=>dep a q
 |[],q,d=>rfl
 |x::p,q,d=>by
  simp only[lr,dep];split
  .exact iM p q _
  .split
   .exact iM p q _
   .split
    .exact iM p q _
    .rfl
def Qm{ts:κ}(h:fY ts p){d:Int}(e:0<d):dep d p=Z d:=by
 have b:∀{x:To},Un x.1=true->x.1≠4/\x.1≠5/\x.1≠6:=by
  intro x a;simp[Un] at a;omega
 induction h with
 |one a=>have:=b a;simp[dep,this]
 |more a c _ f=>have:=b a;simp[dep,this,c,e,f]
def Db{a:zj}(h:qR a p):dep 0 p=Z 0:=by
 cases h with
 |bare b=>simp[dep,b]
 |k b f c e=>
  simp only[dep,b,f];simp only[iM,Qm c (d:=0+1) η];simp[dep,e]
def FD{a:zj}(h:dU a p):dep 0 p=Z 0:=by
 cases h with
 |qc b=>exact Db b
 |i c b=>simp[dep,c,Db b]
def A4{l:Δ}(h:uu l)(f:Nat):∀(p r:Δ) (d g:Int) (i n:Nat),l.drop i=p++r->dep d p=Z g->yT (zX l) (n+p.j) f d i=yT (zX l) n f g (i+p.j)
 |[],r,d,g,i,n,_,a=>by simp[dep] at a;subst a;rfl
 |x::p,r,d,g,i,n,u,a=>by
  obtain⟨s,w,y⟩:=ei u;have k:=h.tk i;rw[s] at k;have o:=jn k.k4;have q:=jn k.k5;have t:=jn k.k6;have b:=λv=>A4 h f p r v g (i+1) n y;rw[show n+(x::p).j=(n+p.j)+1 by simp only[xt];omega,show i+(x::p).j=i+1+p.j by simp only[xt];omega];rw[yT,kK,zb w,fF,s];unfold dep at a;by_cases j:x.1=4
  .rw[zb (o.2 j)];rw[zb j] at a;exact b _ a
  .rw[za (λe=>j (o.1 e))];rw[za j] at a;by_cases m:x.1=5
   .rw[zb (q.2 m)];rw[zb m] at a;exact b _ a
   .rw[za (λe=>m (q.1 e))];rw[za m] at a;by_cases c:x.1≠6∨0<d
    .rw[zb c] at a;rw[zb (by
      rcases c with c|c
      .left;rw[←rz];exact λe=>c (t.1 e)
      .exact ze c)]
     exact b _ a
    .rw[za c] at a;exact zB a ζ
def Ur{f:Nat}(a:l.drop f=p++r):(l.drop f).G (f+p.j-f)=p:=by
 rw[a,show f+p.j-f=p.j by omega];simp
def Bh{f:Nat}(a:l.drop f=p++r):l.drop (f+p.j)=r:=by
 rw[←List.drop_drop,a];simp
def Sj(h:uu l){b:Ω}(s:gT b p):∀f,l.drop f=p->yT (zX l) (p.j+1) f 0 f=Z b:=by
 induction s with
 |one j=>
  rename_i a p;intro f d;have g:l.drop f=p++[]:=by simpa using d
  rw[show p.j+1=1+p.j by omega,A4 h f p [] 0 0 f 1 g (FD j),yT,kK];have m:=Bh g;rw[List.drop_eq_nil_iff] at m;rw[za η,rB,Ur g,(iJ (by rw[←d];exact h.drop f) a).2 j]
 |more j w _ y=>
  rename_i a p q c b _;intro f d;have z:uu p:=λx u=>h x (fg (i:=f) (by rw[d];simp[u]));have m:=Bh d;obtain⟨n,B,A⟩:=ei m;have k:=h.tk (f+p.j);rw[n] at k;have o:=jn k.k4;have v:=jn k.k5;have t:=jn k.k6;rw[show(p++c::q).j+1=(q.j+1+1)+p.j by simp;omega,A4 h f p (c::q) 0 0 f _ d (FD j),yT,kK,zb B,fF,n,
   za (λe=>by have:=o.1 e;omega),za (λe=>by have:=v.1 e;omega),za (by rw[t.2 w];simp),rB,Ur d,(iJ z a).2 j]
  simp only;rw[y (f+p.j+1) A];rfl
def Fq(h:uu l)(b:Ω):yT (zX l) ((zX l).j+1) 0 0 0=Z b↔gT b l:=by
 rw[kK];constructor;intro e;rcases JI h _ 0 0 0 b (zg _) η e with a|⟨c,-⟩
 simpa using a;omega;intro a;exact Sj h a 0 ζ
end
section
variable {k:Int}{p l:List To}
def No(k:Int)(l:List To):Prop:=∀x∈l,x.1≠k
def No.app{q:Δ}(h:No k p)(g:No k q):No k (p++q):=λx a=>(ya.1 a).elim (h x) (g x)
def No.cons{x:To}{q:Δ}(h:x.1≠k)(g:No k q):No k (x::q):=λy a=>by
 rcases zG.1 a with rfl|a
 .exact h
 .exact g y a
def No.nil(k:Int):No k []:=λx a=>zB a ζ
def QE{ts:κ}(h:fY ts p)(e:6<k):No k p:=by
 have b:∀{x:To},Un x.1=true->x.1≠k:=by intro x a;simp[Un] at a;omega
 induction h with
 |one a=>exact .cons (b a) (.nil k)
 |more a d _ c=>exact .cons (b a) (.cons η c)
def rA{a:zj}(h:qR a p)(d:6<k):No k p:=by
 cases h with
 |bare c=>exact .cons η (.nil k)
 |k c f b e=>exact .cons η (.cons η (.app (QE b d) (.cons η (.nil k))))
def E6{a:zj}(h:dU a p)(c:k=7∨k=9):No k p:=by
 cases h with
 |qc b=>exact rA b η
 |i d b=>exact .cons η (rA b η)
def PH{b:Ω}(h:gT b p)(c:k=7∨k=9):No k p:=by
 induction h with
 |one a=>exact E6 a c
 |more a e _ d=>exact .app (E6 a c) (.cons η d)
def Jp{c:zc}(h:fZ c p):No 7 p:=by
 cases h with
 |fact a=>exact rA a η
 |p a d b=>exact .app (rA a η) (.cons η (PH b (zh rfl)))
def Bj:∀(p r:Δ),uu p->No 9 p->uc (zX (p++r))=p.j+uc (zX r)
 |[],r,_,_=>ζ
 |x::p,r,h,b=>by
  have c:=jn (h x ζ).k9;have d:(x.2.v == [58,45])=false:=by rw[←rz];exact λe=>b x ζ (c.1 e)
  show uc (x.2::zX (p++r))=_;rw[uc,d,Bj p r (λy a=>h y (by simp[a])) (λy a=>b y (by simp[a]))];simp only[xt];rw[za ζ];omega
def Ep:∀(l:Δ),uu l->uc (zX l)<l.j->(tk l (uc (zX l))).1=9
 |[],_,h=>by simp at h
 |x::l,a,h=>by
  have d:=jn (a x ζ).k9;change uc (x.2::zX l)<_ at h;show(tk (x::l) (uc (x.2::zX l))).1=9;rw[uc] at h ⊢;cases b:(x.2.v == [58,45]) with
  |true=>rw[zb rfl,l5];exact d.1 b
  |false=>
   rw[b,za ζ] at h;rw[za ζ,fh];exact Ep l (λy c=>a y (by simp[c])) (by simp only[xt] at h;omega)
def FT(l:Δ)(k:Nat):(zX l).G k=zX (l.G k):=by simp[zX,List.map_take]
def CD(l:Δ)(k:Nat):(zX l).drop k=zX (l.drop k):=by simp[zX,List.map_drop]
def Ij(h:uu l)(c:zc):km (zX l)=Z c↔fZ c l:=by
 constructor;intro e;have r:=Gw (zX l);rw[kK] at r;unfold km at e;rw[FT,CD,kK] at e;split at e;exact zB e ζ;rename_i B g;rw[Bb (h.G _)] at g;split at e;rename_i s;simp only[zt] at e;subst e;rw[s,yV (zg _)] at g;exact .fact g;rename_i s;have d:uc (zX l)<l.j:=η;split at e;exact zB e ζ;rename_i b u;rw[Fq (h.drop _)] at u;simp only[zt] at e;subst e;have m:=Ep l h d;rw[tA d] at m;have j:=Bd (l:=l) (zs (uc (zX l))) d;rw[fx,Nat.sub_zero] at j;have y:=fZ.p g m u;rwa [←j] at y;intro z;unfold km;rw[FT,CD,kK];cases z with
 |fact f=>
  have o:uc (zX l)=l.j:=by
   have:=Bj l [] h (rA f η);simpa [zX,uc] using this
  rw[o,yV (zg _),(Bb h _).2 f];simp
 |p f m v=>
  rename_i a b p q i;have t:uu p:=λx n=>h x (by simp[n]);have A:uu q:=λx n=>h x (by simp[n]);have o:uc (zX (p++i::q))=p.j:=by
   rw[Bj p (i::q) t (rA f η)];show p.j+uc (i.2::zX q)=_;rw[uc,(jn (h i ζ).k9).2 m];rfl
  rw[o];have w:(p++i::q).G p.j=p:=ζ;have j:(p++i::q).drop (p.j+1)=q:=by rw[←List.drop_drop];simp
  rw[w,j,(Bb t _).2 f,(Fq A _).2 v];simp only;rw[za ζ]
def NO(h:uu l):∀(n f i:Nat) (cs:Ξ),f<=i->i+n=l.j->qO (zX l) n f i=Z cs->ly cs (l.drop f):=by
 intro n;induction n with
 |zero=>
  intro f i cs d m e;unfold qO at e;rw[kK] at e;split at e;rename_i s;simp only[zt] at e;subst e;rw[ui η];exact .nil;exact zB e ζ
 |succ n j=>
  intro f i cs d m e;have a:i<l.j:=η;unfold qO at e;rw[fF,tA a] at e;split at e;rename_i o;have r:=(jn (h l[i] (zq a)).k7).1 o;split at e;exact zB e ζ;rename_i c g;rw[rB,Ij ((h.drop f).G _)] at g;obtain⟨q,b,rfl⟩:=qn.1 e;rw[Bd d a];exact .cons g r (j _ _ _ (zg _) η b);exact j _ _ _ η η e
def Hy{l:Δ}(h:uu l)(f:Nat):∀(p r:Δ) (i n:Nat),l.drop i=p++r->No 7 p->qO (zX l) (n+p.j) f i=qO (zX l) n f (i+p.j)
 |[],r,i,n,_,_=>rfl
 |x::p,r,i,n,d,a=>by
  obtain⟨b,o,j⟩:=ei d;have c:=h.tk i;rw[b] at c;have m:=jn c.k7;rw[show n+(x::p).j=(n+p.j)+1 by simp only[xt];omega,show i+(x::p).j=i+1+p.j by simp only[xt];omega];rw[qO,fF,b,za (λe=>a x ζ (m.1 e))];exact Hy h f p r (i+1) n j (λy g=>a y (by simp[g]))
def KN(h:uu l){cs:Ξ}(u:ly cs p):∀f,f<=l.j->l.drop f=p->qO (zX l) p.j f f=Z cs:=by
 induction u with
 |nil=>
  intro f j a;rw[List.drop_eq_nil_iff] at a;rw[qW,qO,kK,zb η]
 |cons e n _ o=>
  rename_i c cs p q d _;intro f j a;have m:uu p:=λx t=>h x (fg (i:=f) (by rw[a];simp[t]));have s:=Bh a;obtain⟨b,v,r⟩:=ei s;have g:=h.tk (f+p.j);rw[b] at g;rw[show(p++d::q).j=(q.j+1)+p.j by simp;omega,Hy h f p (d::q) f _ a (Jp e),qO,fF,b,zb ((jn g.k7).2 n),rB,Ur a,(Ij m c).2 e];simp only;rw[o (f+p.j+1) η r];rfl
def B9(h:uu l)(cs:Ξ):vI (zX l)=Z cs↔ly cs l:=by
 unfold vI;rw[kK];constructor;intro e;have:=NO h _ 0 0 cs (zg _) η e;simpa using this;intro a;exact KN h a 0 η ζ
def Nz(h:uu l):vI (zX l)=yW l.j l.j l:=by
 apply Option.ext;intro a;show vI (zX l)=Z a↔yW l.j l.j l=Z a;rw[B9 h,Qs]
def Be(s:ByteArray):(x9 s.q s).bind vI=(Tt s).bind λl=>yW l.j l.j l:=by
 rw[sO];rcases a:Tt s with _|l;rfl;exact Nz λx b=>(rE a x b).1
end
structure gK (w:Nat) (n:qC):Prop where
 len:n.D.j=w
 dlen:n.down.j=w
 ge:∀i,i<w->i<=n.D.g i 0
 le:∀i,i<w->n.D.g i 0<=w
 fix:∀i,i<w->n.D.g i 0<w->n.D.g (n.D.g i 0) 0=n.D.g i 0
 seg:∀i j,i<w->i<=j->j<n.D.g i 0->n.D.g j 0=n.D.g i 0
def uQ(l:Φ)(i j v d:Nat):(l.set i v).g j d=if i=j/\i<l.j then v else l.g j d:=by
 simp only[kL,tI];by_cases h:i=j;subst h;by_cases a:i<l.j;simp[a];simp[a];simp[h]
def Ea(v:Nat):∀(n:Nat) (l:Φ),(kq v n l).j=l.j
 |0,l=>rfl
 |n+1,l=>by
  unfold kq;split
  .rw[Ea];simp
  .rfl
open Classical in
def ES(v:Nat):∀(n:Nat) (l:Φ) (u:Nat),n<=l.j->(kq v n l).g u 0=if u<n/\∀j,u<=j->j<n->l.g j 0>v then v else l.g u 0
 |0,l,u,_=>by simp[kq]
 |n+1,l,u,h=>by
  unfold kq;by_cases c:l.g n 0>v
  .rw[zb c,ES v n (l.set n v) u υ];by_cases e:u<n
   .by_cases d:∀j,u<=j->j<n->l.g j 0>v
    .rw[zb ⟨e,λj a b=>by rw[uQ,za η];exact d j a b⟩,zb ⟨η,λj a b=>by
      by_cases g:j=n
      .subst g;exact c
      .exact d j a η⟩]
    .rw[za (λq=>d λj a b=>by have:=q.2 j a b;rwa [uQ,za η] at this),za (λq=>d λj a b=>q.2 j a η),uQ,za η]
   .rw[za (λq=>e q.1),uQ];by_cases f:n=u
    .subst f;rw[zb ⟨rfl,η⟩,zb ⟨η,λj a b=>by
      have:j=n:=η;subst this;exact c⟩]
    .rw[za η,za η]
  .rw[za c];by_cases e:u<n+1
   .rw[za (λq=>c (q.2 n η η))]
   .rw[za (λq=>e q.1)]
def mK(w:Nat)(n:qC)(v:Nat):Prop:=v<w/\n.D.g v 0=v
def gK.none{w:Nat}{n:qC}(h:gK w n){i:Nat}(a:i<w)(c:¬n.D.g i 0<w):∀u,i<=u->¬mK w n u:=by
 intro u b ⟨e,d⟩;have:=h.seg i u a b η;omega
def gK.some{w:Nat}{n:qC}(h:gK w n){i:Nat}(a:i<w)(b:n.D.g i 0<w):i<=n.D.g i 0/\mK w n (n.D.g i 0)/\∀u,i<=u->u<n.D.g i 0->¬mK w n u:=by
 refine⟨h.ge i a,⟨b,h.fix i a b⟩,λu d c ⟨f,e⟩=>?_⟩;have:=h.seg i u a d c;omega
def gK.put{w:Nat}{n:qC}(h:gK w n){v d:Nat}(l:v<w)(z:¬mK w n v):gK w (lM n v d)/\(∀u,mK w (lM n v d) u↔u=v∨mK w n u)/\∀u,(lM n v d).down.g u 0=if u=v then d else n.down.g u 0:=by
 have y:=h.len;have g:n.D.g v 0>v:=by
  have t:=h.ge v l;rcases Nat.lt_or_eq_of_le t with q|q;exact q;exact zB ⟨l,q.z⟩ z
 have p:∀u,(kq v (v+1) n.D).g u 0=if u<=v/\n.D.g u 0>v then v else n.D.g u 0:=by
  intro u;rw[ES v (v+1) n.D u η];by_cases m:u<=v;by_cases f:n.D.g u 0>v;have o:∀j,u<=j->j<v+1->n.D.g j 0>v:=λj t x=>by
   have:=h.seg u j η t η;omega
  rw[zb ⟨η,o⟩,zb ⟨m,f⟩];rw[za (λq=>f (q.2 u (zg _) η)),za (λq=>f q.2)];rw[za (λq=>η),za (λq=>η)]
 have a:∀u,(lM n v d).D.g u 0=if u<=v/\n.D.g u 0>v then v else n.D.g u 0:=p
 have e:(lM n v d).D.g v 0=v:=by rw[a,zb ⟨zg _,g⟩]
 refine⟨⟨by simp[lM,Ea,y],by simp[lM,h.dlen],λi c=>?_,λi c=>?_,λi c f=>?_,λi j c k s=>?_⟩,λu=>?_,λu=>?_⟩;rw[a];split;omega;exact h.ge i c;rw[a];split;omega;exact h.le i c;by_cases b:i<=v/\n.D.g i 0>v;rw[a i,zb b];exact e;rw[a i,za b] at f ⊢;have x:=h.fix i c f;rw[a];by_cases r:n.D.g i 0<=v/\n.D.g (n.D.g i 0) 0>v;omega;rw[za r];exact x;by_cases b:i<=v/\n.D.g i 0>v;rw[a i,zb b] at s ⊢;have:=h.seg i j c k η;rw[a,zb ⟨η,η⟩];rw[a i,za b] at s ⊢;have:=h.seg i j c k s;rw[a,this];rw[za η];unfold mK;rw[a];by_cases b:u<=v/\n.D.g u 0>v;rw[zb b];constructor;rintro⟨_,q⟩;exact zh q.z;rintro(q|q);subst q;exact⟨l,rfl⟩;omega;rw[za b];constructor;intro q;exact ze q;rintro(q|q);subst q;exact zB ⟨zg _,g⟩ b;exact q;show(n.down.set v d).g u 0=_;rw[uQ];by_cases m:u=v;subst m;rw[zb ⟨rfl,by rw[h.dlen];exact l⟩,zb rfl];rw[za η,za m]
def rI(k d i:Nat)(a:i<k)(x:Nat):(List.replicate k x).g i d=x:=by simp[List.getD_eq_getElem?_getD,a]
def gK.new(w:Nat):gK w ⟨List.replicate w w,List.replicate w 0⟩/\∀v,¬mK w ⟨List.replicate w w,List.replicate w 0⟩ v:=by
 refine⟨⟨ζ,ζ,λi a=>?_,λi a=>?_,λi a f=>?_,λi j a c b=>?_⟩,λv ⟨e,d⟩=>?_⟩<;>simp only at *
 rw[rI _ _ _ a];omega;rw[rI _ _ _ a];exact zg _;rw[rI _ _ _ a] at f;omega;rw[rI _ _ _ a] at b ⊢;rw[rI _ _ _ b];rw[rI _ _ _ e] at d;omega
section
variable {T:zl}
def jP(T:zl)(a:Nat):qC:=T.B.g a qC.zero
def lm(T:zl):Prop:=∀a,a<T.B.j->gK T.r (jP T a)
def mz(T:zl)(a v:Nat):zJ T a v=if a<T.B.j/\v<T.r/\(jP T a).D.g v 0=v then Z ((jP T a).down.g v 0) else none:=by
 unfold zJ yF jP;by_cases b:a<T.B.j/\v<T.r;rw[zb b];dsimp only;generalize (T.B.g a qC.zero).D.g v 0=x;by_cases c:x=v;subst c;rw[za (by omega:¬x≥T.r)];simp[b];by_cases d:x≥T.r;simp[d,c];simp[d,c];rw[za b,za (λq=>b ⟨q.1,q.2.1⟩)]
def fU{a v b:Nat}(h:zJ T a v=Z b):a<T.B.j/\v<T.r:=by
 unfold zJ yF at h;by_cases c:a<T.B.j/\v<T.r;exact c;rw[za c] at h;cases h
def Fn(h:lm T){a f v:Nat}(b:yF T a f=Z v):f<=v/\v<T.r/\(zJ T a v).I=true/\∀u,f<=u->u<v->zJ T a u=none:=by
 unfold yF at b;split at b;rename_i d;simp only at b;split at b;cases b;rename_i e;simp only[zt] at b;have c:=(h a d.1).some d.2 (by unfold jP;omega);unfold jP at c;rw[b] at c e;refine⟨c.1,η,?_,λu i g=>?_⟩;rw[mz,zb ⟨d.1,η,c.2.1.2⟩];rfl;rw[mz,za (λq=>c.2.2 u i g ⟨q.2.1,q.2.2⟩)];cases b
def DP(h:lm T){a f:Nat}(b:yF T a f=Y):∀u,f<=u->zJ T a u=none:=by
 intro u c;rw[mz];refine za λq=>?_;unfold yF at b;rw[zb ⟨q.1,η⟩] at b;simp only at b;split at b;rename_i d;exact(h a q.1).none (show f<T.r by omega) (by unfold jP;omega) u c ⟨q.2.1,q.2.2⟩;cases b
def TR(T:zl):Nat->zk->Option Nat
 |a,[]=>Z a
 |a,v::r=>match zJ T a v with
  |none=>Y
  |some b=>TR T b r
def p6(T:zl):∀(p q:zk) (a:Nat),TR T a (p++q)=(TR T a p).bind λb=>TR T b q
 |[],q,a=>rfl
 |v::p,q,a=>by
  simp only[lr,TR];cases zJ T a v with
  |none=>rfl
  |some b=>exact p6 T p q b
structure kr (T:zl) (pth:Nat->zk):Prop where
 dep:1<=T.ql/\T.ql<=3
 wid:1<=T.r
 pos:0<T.B.j
 node:lm T
 root:pth 0=[]
 lev:∀a,a<T.B.j->(pth a).j<T.ql
 inj:∀a b,a<T.B.j->b<T.B.j->pth a=pth b->a=b
 kid:∀a v b,zJ T a v=Z b->(pth a).j+1<T.ql->b<T.B.j/\pth b=pth a++[v]
 par:∀b,b<T.B.j->b≠0->∃a v,zJ T a v=Z b/\(pth a).j+1<T.ql/\pth b=pth a++[v]
def Jm(l:List qC)(i j:Nat)(v d:qC):(l.set i v).g j d=if i=j/\i<l.j then v else l.g j d:=by
 simp only[kL,tI];by_cases h:i=j;subst h;by_cases a:i<l.j;simp[a];simp[a];simp[h]
def Cq(T:zl)(a v d b:Nat)(c:a<T.B.j)(e:v<T.r):jP (yk T a v d) b=if b=a then lM (jP T a) v d else jP T b:=by
 unfold yk jP;rw[zb ⟨c,e⟩];simp only;rw[Jm];by_cases h:b=a;subst h;rw[zb ⟨rfl,c⟩,zb rfl];rw[za (λq=>h q.1.z),za h]
def lS(T:zl)(a v d:Nat):(yk T a v d).B.j=T.B.j:=by unfold yk;split<;>simp
def pY(T:zl)(a v d:Nat):(yk T a v d).r=T.r:=by unfold yk;split<;>rfl
def sm(T:zl)(a v d:Nat):(yk T a v d).ql=T.ql:=by unfold yk;split<;>rfl
def GV(T:zl)(a v d:Nat):(yk T a v d).count=T.count:=by unfold yk;split<;>rfl
def Eo(h:lm T){a v d:Nat}(f:a<T.B.j)(g:v<T.r)(m:zJ T a v=Y):lm (yk T a v d)/\∀b u,zJ (yk T a v d) b u=if b=a/\u=v then Z d else zJ T b u:=by
 have l:¬mK T.r (jP T a) v:=λq=>by rw[mz,zb ⟨f,g,q.2⟩] at m;cases m
 obtain⟨n,k,o⟩:=(h a f).put (d:=d) g l;have j:lm (yk T a v d):=by
  intro b e;rw[lS] at e;rw[pY,Cq T a v d b f g];split;exact n;exact h b e
 refine⟨j,λb u=>?_⟩;rw[mz,lS,pY,Cq T a v d b f g,mz];by_cases e:b=a;subst e;rw[zb rfl,o];by_cases i:u=v;subst i;rw[zb rfl,zb ⟨f,g,((k u).2 (zh rfl)).2⟩,zb ⟨rfl,rfl⟩];rw[za i,za (λq:b=b/\u=v=>i q.2)];by_cases c:b<T.B.j/\u<T.r/\(jP T b).D.g u 0=u;rw[zb c,zb ⟨c.1,c.2.1,((k u).2 (ze c.2)).2⟩];rw[za c];refine za λq=>c ⟨q.1,?_⟩;rcases(k u).1 q.2 with r|r
 exact zB r i;exact r;rw[za e,za (λq:b=a/\u=v=>e q.1)]
def MY(h:lm T):lm (yD T)/\∀b u,zJ (yD T) b u=zJ T b u:=by
 have c:∀b,jP (yD T) b=if b<T.B.j then jP T b else if b=T.B.j then⟨List.replicate T.r T.r,List.replicate T.r 0⟩ else qC.zero:=by
  intro b;unfold jP yD;simp only[kL,List.getElem?_append];by_cases a:b<T.B.j;simp[a];rw[za a,za a];by_cases d:b=T.B.j;subst d;simp;rw[za d];rw[gL υ];rfl
 have g:(yD T).B.j=T.B.j+1:=by simp[yD]
 have f:lm (yD T):=by
  intro b i;rw[c];by_cases a:b<T.B.j;rw[zb a];exact h b a;rw[za a,zb η];exact(gK.new T.r).1
 refine⟨f,λb u=>?_⟩;rw[mz,mz,c,g,show(yD T).r=T.r from rfl];by_cases a:b<T.B.j;rw[zb a];by_cases e:u<T.r/\(jP T b).D.g u 0=u;rw[zb ⟨η,e⟩,zb ⟨a,e⟩];rw[za (λq=>e q.2),za (λq=>e q.2)];rw[za a,za (λq:b<T.B.j/\_=>a q.1)];by_cases d:b=T.B.j;rw[zb d];exact za λq=>(gK.new T.r).2 u q.2;exact za λq=>η
end
section
variable {pth:Nat->zk}
def uv(T:zl)(q:zk):Option Nat:=TR T 0 q
structure Vf (T T':zl) (key:zk) (m:Nat) (new:Bool) (room:Nat):Prop where
 inv:∃pth',kr T' pth'
 r:T'.r=T.r
 ql:T'.ql=T.ql
 is:new=(uv T key).isNone
 same:new=false->T'=T
 more:new=true->T'.count=T.count+1/\T'.B.j<=T.B.j+room
 sem:∀q,q.j=T.ql->uv T' q=if q=key then Z ((uv T q).g m) else uv T q
def kr.grow{T:zl}(h:kr T pth){a v:Nat}(H:a<T.B.j)(D:v<T.r)(F:(pth a).j+1<T.ql)(t:zJ T a v=Y):
  kr (yk (yD T) a v T.B.j) (λc=>if c=T.B.j then pth a++[v] else pth c)/\(∀b u,zJ (yk (yD T) a v T.B.j) b u=if b=a/\u=v then Z T.B.j else zJ T b u)/\(yk (yD T) a v T.B.j).B.j=T.B.j+1/\(yk (yD T) a v T.B.j).r=T.r/\(yk (yD T) a v T.B.j).ql=T.ql/\(yk (yD T) a v T.B.j).count=T.count:=by
 have w:=MY h.node;have o:(yD T).B.j=T.B.j+1:=by simp[yD]
 obtain⟨E,J⟩:=Eo w.1 (a:=a) (v:=v) (d:=T.B.j) (by rw[o];omega) (show v<(yD T).r from D) (by rw[w.2];exact t);have r:∀b u,zJ (yk (yD T) a v T.B.j) b u=if b=a/\u=v then Z T.B.j else zJ T b u:=λb u=>by rw[J,w.2]
 have j:(yk (yD T) a v T.B.j).B.j=T.B.j+1:=by rw[lS,o]
 have q:(yk (yD T) a v T.B.j).r=T.r:=by rw[pY];rfl
 have i:(yk (yD T) a v T.B.j).ql=T.ql:=by rw[sm];rfl
 have B:(yk (yD T) a v T.B.j).count=T.count:=by rw[GV];rfl
 have g:∀c,c<T.B.j->pth c≠pth a++[v]:=by
  intro c p e;have x:c≠0:=by rintro rfl;rw[h.root] at e;exact zB e.z ζ
  obtain⟨G,L,l,C,s⟩:=h.par c p x;rw[e] at s;have k:=rQ s rfl;have n:=h.inj a G H (fU l).1 k.1;subst n;simp only[m4,and_true] at k;rw[←k.2] at l;rw[l] at t;cases t
 refine⟨⟨by rw[i];exact h.dep,by rw[q];exact h.wid,by rw[j];omega,E,?_,λc p=>?_,λc d p z e=>?_,λc u b f m=>?_,λb K A=>?_⟩,r,j,q,i,B⟩;rw[za η];exact h.root;rw[j] at p;rw[i];by_cases e:c=T.B.j;rw[zb e];simp;omega;rw[za e];exact h.lev c η;rw[j] at p z;by_cases k:c=T.B.j;by_cases n:d=T.B.j;rw[k,n];rw[zb k,za n] at e;exact zB e.z (g d η);by_cases n:d=T.B.j;rw[za k,zb n] at e;exact zB e (g c η);rw[za k,za n] at e;exact h.inj c d η η e;rw[r] at f;rw[i] at m;by_cases e:c=a/\u=v;rw[zb e] at f;simp only[zt] at f;obtain⟨rfl,rfl⟩:=e;subst f;rw[zb rfl,za η];exact⟨η,rfl⟩;rw[za e] at f;have y:=(fU f).1;rw[za η] at m;obtain⟨M,I⟩:=h.kid c u b f m;rw[za η,za η];exact⟨η,I⟩;rw[j] at K;by_cases e:b=T.B.j;refine⟨a,v,by rw[r,zb ⟨rfl,rfl⟩,e],by rw[za η,i];exact F,by rw[zb e,za η]⟩;obtain⟨c,u,l,C,s⟩:=h.par b η A;have y:=(fU l).1;refine⟨c,u,?_,by rw[za η,i];exact C,by rw[za e,za η];exact s⟩;rw[r,za];exact l;rintro⟨rfl,rfl⟩;rw[t] at l;cases l
def kr.grow_sem{T k:zl}{pth:Nat->zk}(h:kr T pth){a v:Nat}(m:(pth a).j+1<T.ql)(j:zJ T a v=Y)(g:∀b u,zJ k b u=if b=a/\u=v then Z T.B.j else zJ T b u):∀(q:zk) (c:Nat),c<T.B.j->(pth c).j+q.j=T.ql->TR k c q=TR T c q
 |[],c,_,_=>rfl
 |u::q,c,p,f=>by
  simp only[TR,g];simp only[xt] at f;by_cases e:c=a/\u=v
  .obtain⟨rfl,rfl⟩:=e;rw[zb ⟨rfl,rfl⟩,j];simp only;cases q with
   |nil=>simp at f;omega
   |cons x q=>
    simp only[TR,g];by_cases d:c=T.B.j
    .omega
    .rw[za (λq=>d q.1.z)];cases i:zJ T T.B.j x with
     |none=>rfl
     |some y=>have:=(fU i).1;omega
  .rw[za e];cases i:zJ T c u with
   |none=>rfl
   |some b=>
    simp only;by_cases l:(pth c).j+1<T.ql
    .obtain⟨n,o⟩:=h.kid c u b i l;exact h.grow_sem m j g q b n (by rw[o];simp;omega)
    .cases q with
     |nil=>rfl
     |cons x q=>simp at f;omega
def kr.put_sem{T E:zl}{pth:Nat->zk}(h:kr T pth){a v m:Nat}(G:(pth a).j+1=T.ql)(z:a<T.B.j)(I:zJ T a v=Y)(C:∀b u,zJ E b u=if b=a/\u=v then Z m else zJ T b u):∀(q:zk) (c:Nat),c<T.B.j->(pth c).j+q.j=T.ql->TR E c q=if pth c++q=pth a++[v] then Z m else TR T c q
 |[],c,l,o=>by have:=h.lev c l;simp at o;omega
 |u::q,c,l,o=>by
  simp only[TR,C];simp only[xt] at o;by_cases K:(pth c).j+1<T.ql
  .have r:c≠a:=by rintro rfl;omega
   rw[za (λq=>r q.1)];cases D:zJ T c u with
   |none=>
    simp only;rw[za];intro e;have s:∀(k:Nat) (q:zk) (b:Nat),q.j=k->b<T.B.j->pth c++u::q=pth b->False:=by
     intro k;induction k with
     |zero=>
      intro q b p B e;have:q=[]:=pe.1 p;subst this;have g:b≠0:=by rintro rfl;rw[h.root] at e;simp at e
      obtain⟨x,y,n,J,j⟩:=h.par b B g;rw[←e] at j;have f:=rQ j rfl;have:=h.inj c x l (fU n).1 f.1;subst this;simp only[m4,and_true] at f;rw[←f.2,D] at n;cases n
     |succ k H=>
      intro q b p B e;have g:b≠0:=by rintro rfl;rw[h.root] at e;simp at e
      obtain⟨x,y,n,J,j⟩:=h.par b B g;have d:q≠[]:=by rintro rfl;simp at p
      have i:q=q.dropLast++[q.getLast d]:=(Aw d).z;rw[←e,i] at j;have t:(pth c++u::q.dropLast)++[q.getLast d]=pth x++[y]:=by rw[←j];simp
      have f:=rQ t rfl;exact H q.dropLast x (by simp[p]) (fU n).1 f.1
    have d:q≠[]:=by rintro rfl;simp at o;omega
    have i:q=q.dropLast++[q.getLast d]:=(Aw d).z;rw[i] at e;have t:(pth c++u::q.dropLast)++[q.getLast d]=pth a++[v]:=by rw[←e];simp
    have f:=rQ t rfl;exact s _ q.dropLast a rfl z f.1
   |some b=>
    simp only;obtain⟨M,F⟩:=h.kid c u b D K;rw[h.put_sem G z I C q b M (by rw[F];simp;omega),F];simp
  .have A:q=[]:=pe.1 (by have:=h.lev c l;omega);subst A;by_cases e:c=a/\u=v
   .obtain⟨rfl,rfl⟩:=e;simp[TR]
   .rw[za e];have w:¬pth c++[u]=pth a++[v]:=by
     intro L;have f:=rQ L rfl;exact e ⟨h.inj c a l z f.1,by simpa using f.2⟩
    rw[za w];cases zJ T c u<;>rfl
def kr.reach{T:zl}(h:kr T pth):∀(k:Nat) (b:Nat),b<T.B.j->(pth b).j=k->TR T 0 (pth b)=Z b:=by
 intro k;induction k with
 |zero=>
  intro b d a;have e:pth b=pth 0:=by rw[h.root];exact pe.1 a
  have:=h.inj b 0 d h.pos e;subst this;rw[h.root];rfl
 |succ k i=>
  intro b d a;have c:b≠0:=by rintro rfl;rw[h.root] at a;simp at a
  obtain⟨x,y,g,l,f⟩:=h.par b d c;have j:=i x (fU g).1 (by rw[f] at a;simpa using a);rw[f,p6,j];simp[TR,g]
def A3(m:Nat):∀(r:zk) (T:zl) (pth:Nat->zk) (a:Nat),kr T pth->a<T.B.j->T.ql<=(pth a).j+r.j->(∀v∈r,v<T.r)->Vf T (vB m T a (pth a).j r).1 (pth a++r.G (T.ql-(pth a).j)) m (vB m T a (pth a).j r).2 (T.ql-1-(pth a).j)
 |[],T,pth,a,h,z,J,_=>by have:=h.lev a z;simp at J;omega
 |v::r,T,pth,a,h,z,J,F=>by
  have W:=h.lev a z;have R:v<T.r:=F v ζ;have j:=h.reach _ a z rfl;simp only[xt] at J;unfold vB;by_cases S:(pth a).j+1≥T.ql
  .rw[zb S];have G:T.ql-(pth a).j=1:=η;rw[G];have i:uv T (pth a++(v::r).G 1)=zJ T a v:=by
    unfold uv;rw[p6,j];simp only[pR,List.take_zero,Option.bind_some,TR];cases zJ T a v<;>rfl
   unfold dY;cases g:zJ T a v with
   |some b=>
    refine⟨⟨pth,h⟩,rfl,rfl,by rw[i,g];rfl,λ_=>rfl,λq=>by simp at q,λq y=>?_⟩;by_cases e:q=pth a++(v::r).G 1
    .subst e;rw[zb rfl,i,g];rfl
    .rw[za e]
   |none=>
    have o:=Eo h.node (d:=m) z R g;have M:∀q c,TR {yk T a v m with count:=(yk T a v m).count+1} c q=TR (yk T a v m) c q:=by
     intro q;induction q with
     |nil=>intro c;rfl
     |cons x q f=>
      intro c;simp only[TR];have:zJ {yk T a v m with count:=(yk T a v m).count+1} c x=zJ (yk T a v m) c x:=rfl;rw[this];cases zJ (yk T a v m) c x with
      |none=>rfl
      |some b=>exact f b
    refine⟨⟨pth,?_⟩,pY _ _ _ _,sm _ _ _ _,by rw[i,g];rfl,λq=>by simp at q,λ_=>⟨by simp[GV],by simp[lS]⟩,λq y=>?_⟩
    .have l:∀b u,zJ {yk T a v m with count:=(yk T a v m).count+1} b u=if b=a/\u=v then Z m else zJ T b u:=o.2
     refine⟨by show 1<=(yk T a v m).ql/\(yk T a v m).ql<=3;rw[sm];exact h.dep,by show 1<=(yk T a v m).r;rw[pY];exact h.wid,by show 0<(yk T a v m).B.j;rw[lS];exact h.pos,o.1,h.root,λc L=>by show _<(yk T a v m).ql;rw[sm];exact h.lev c (by simpa [lS] using L),λc d L K e=>h.inj c d (by simpa [lS] using L) (by simpa [lS] using K) e,λc u b s I=>?_,λb hb P=>?_⟩
     .rw[l] at s;have B:(pth c).j+1<T.ql:=by simpa [sm] using I
      by_cases e:c=a/\u=v
      .obtain⟨rfl,rfl⟩:=e;omega
      .rw[za e] at s;obtain⟨Q,D⟩:=h.kid c u b s B;exact⟨by simpa [lS] using Q,D⟩
     .obtain⟨c,u,N,q2,q3⟩:=h.par b (by simpa [lS] using hb) P;refine⟨c,u,?_,by simpa [sm] using q2,q3⟩;rw[l,za]
      .exact N
      .rintro⟨rfl,rfl⟩;rw[g] at N;cases N
    .unfold uv;rw[M,h.put_sem η z g o.2 q 0 h.pos (by rw[h.root];simpa using y),h.root];have A:(v::r).G 1=[v]:=ζ;rw[A,rj];by_cases e:q=pth a++[v]
     .rw[zb e,zb e];have:TR T 0 q=none:=by rw[e];have:=i;unfold uv at this;rw[A] at this;rw[this,g]
      rw[this];rfl
     .rw[za e,za e]
  .rw[za S];obtain⟨H,l⟩:∃H,T.ql-(pth a).j=H+1:=⟨T.ql-(pth a).j-1,η⟩;have C:∀p:zk,p=pth a++[v]->p++r.G (T.ql-p.j)=pth a++(v::r).G (T.ql-(pth a).j):=by
    rintro p rfl;rw[l,pR];have:T.ql-(pth a++[v]).j=H:=by simp;omega
    rw[this];simp
   unfold qA;cases g:zJ T a v with
   |some b=>
    obtain⟨Q,D⟩:=h.kid a v b g η;have f:=A3 m r T pth b h Q (by rw[D];simp;omega) (λx g=>F x (by simp[g]));rw[C _ D] at f;have e:(pth b).j=(pth a).j+1:=by rw[D];simp
    rw[e] at f;exact⟨f.inv,f.r,f.ql,f.is,f.same,λq=>⟨(f.more q).1,by have:=(f.more q).2;simp only at this ⊢;omega⟩,f.sem⟩
   |none=>
    obtain⟨g1,g2,g3,V,E,g6⟩:=h.grow z R η g;have f:=A3 m r (yk (yD T) a v T.B.j) _ T.B.j g1 (by rw[g3];omega) (by rw[zb rfl,E];simp;omega) (λx g=>by rw[V];exact F x (by simp[g]));rw[zb rfl,E,C _ rfl] at f;have e:(pth a++[v]).j=(pth a).j+1:=ζ;rw[e] at f;have n:∀q:zk,q.j=T.ql->uv (yk (yD T) a v T.B.j) q=uv T q:=λq y=>h.grow_sem η g g2 q 0 h.pos (by rw[h.root];simpa using y);have t:(pth a++(v::r).G (T.ql-(pth a).j)).j=T.ql:=by simp;omega
    have k:uv T (pth a++(v::r).G (T.ql-(pth a).j))=none:=by
     unfold uv;rw[p6,j,l,pR];simp[TR,g]
    have w:=f.is;rw[n _ t,k] at w;refine⟨f.inv,by rw[f.r,V],by rw[f.ql,E],by rw[k];exact w,λq=>?_,λq=>⟨by rw[(f.more q).1,g6],by have:=(f.more q).2;rw[g3] at this;simp only at this ⊢;omega⟩,λq y=>?_⟩
    .rw[w] at q;cases q
    .rw[f.sem q (by rw[E];exact y),n q y]
end
end Go.Proofs.YteampbddflhngaaGreat
