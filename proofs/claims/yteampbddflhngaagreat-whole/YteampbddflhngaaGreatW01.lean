import Derived.WalkKit
import Derived.WalkSpells
import Derived.WalkLawsBesides
import Derived.Deep.Light
import Derived.Handy
import Derived.Laws.IdiomStrings
import Derived.WalkSmall
import Derived.WideShapes
import Derived.Test.YteampbddflhngaaGreatProg

namespace Go.Proofs.YteampbddflhngaaGreat
open Go.RowKit
theorem z9z{W w1:World}(hb:Below W.heap.size W w1):(∀ b o,b < W.heap.size->w1.cell? ⟨b,o,none⟩=W.cell? ⟨b,o,none⟩)/\(∀ b o,b < W.heap.size->w1.frozen? ⟨b,o,none⟩=W.frozen? ⟨b,o,none⟩) :=
 ⟨fun b o h=>hb.cell (p:=⟨b,o,none⟩) h,fun b o h=>hb.frozen (p:=⟨b,o,none⟩) h⟩
theorem zau{B:Nat}{a w:World}(h:Below B a w)(n:Nat):Below B a (w.drewN n):=below_drewN h n
abbrev zR:=@Below.refl
abbrev zN:=@zau
abbrev zA:=@Below.alloc
abbrev zD:=@Below.drew
abbrev zS:=@Below.setCell
theorem zae{B:Nat}{w w0 w1:World}(h1:Below B w w0)(h2:Below w0.heap.size w0 w1)(hB:B<=w.heap.size):Below B w w1 :=
 h1.trans (h2.mono (Nat.le_trans hB h1.size))
theorem zaa{w w':World}{base:Nat}{e:TypeId}{size:Nat}{v:Value}{n:Nat}{xs:List Value}(h:w.ownsRow base e size v n xs)(hb:Below w.heap.size w w'):w'.ownsRow base e size v n xs:=by
 obtain⟨h1,h2⟩:=h
 refine⟨h1,?_⟩
 rcases h2 with h2|⟨g,cap,cur,hv,hg,hh,r⟩
 ·exact Or.inl h2
 ·refine Or.inr ⟨g,cap,cur,hv,hg,?_,r⟩
  rw[hb.block g (Array.getElem?_eq_some_iff.1 hh).1];exact hh
section
variable {P:Program} {ops:Array Oper} {rest:List Oper} {o:Oper} {a:Act} {Q:Exit->Act->World->Prop}
theorem zg3(wO w0:World)(l:List Value)(te:TypeId)(hg:o.guard=none)(s x:Operand)(t:TypeId)
  (ho:o.op=.call { callee:=.builtin .append,args:=#[s,x],argTypes:=#[t,t] })
  (base:Nat) (e:TypeId) (i:TypeInfo) (z:Value) (size bytes:Nat) (ht:P.underlying t=some (.slice e)) (hi:P.info? e=some i) (hz:i.zero=some z)
  (hsize:i.size=size) (hby:i.bytes=bytes) (hzs:z.cells.size=size) (hsz:0 < size)
  (v:Value) (n:Nat) (xs:List Value) (hs:a.eval s=v) (hown:wO.ownsRow base e size v n xs) (hbO:Below wO.heap.size wO w0)
  (b c:Nat) (hx:a.eval x=.slice (some ⟨b,0,none⟩) 1 c) (hb:b=w0.heap.size) (hl:l.length=size) (h1:∀ u∈l,u.oneCell'=true)
  (hn:n<=1048576) (hbytes:bytes<=1000) (hbase:base<=wO.heap.size)
  (h:∀ v' w',w'.ownsRow base e size v' (n+1) (xs++l)->Below base wO w'->(∀ b o,wO.heap.size<=b->b < w0.heap.size->w'.cell? ⟨b,o,none⟩=w0.cell? ⟨b,o,none⟩) →
   (∀ b o,wO.heap.size<=b->b < w0.heap.size->w'.frozen? ⟨b,o,none⟩=w0.frozen? ⟨b,o,none⟩) →
   (∀ k,k < wO.heap.size->some k≠v.ownBlock->w'.heap[k]?=wO.heap[k]?)->w0.heap.size<=w'.heap.size->wpList P ops Q rest (a.put o.dst v') w') :
  wpList P ops Q (o::rest) a (w0.alloc (.cells l.toArray te)):=by
 have hown':=zaa hown hbO
 have hlt:∀ k,v.ownBlock=some k->base<=k/\k < wO.heap.size:=by
  intro k hk
  obtain⟨_,h2⟩:=hown
  rcases h2 with ⟨hv,_⟩|⟨g,cap,cur,hv,hg,hh,_⟩
  ·subst hv;cases hk
  ·subst hv;simp only[Value.ownBlock,Option.some.injEq] at hk;subst hk
   exact⟨hg,(Array.getElem?_eq_some_iff.1 hh).1⟩
 have hsz0:=hbO.size
 subst hb
 refine wpList_append_own _ hg s x t ho base e i z size bytes ht hi hz hsize hby hzs hsz v n xs hs (hown'.alloc _) ⟨w0.heap.size,0,none⟩ 1 c l hx (by omega) ?_ h1 ?_ ?_ ?_ ?_
 ·intro j u hj
  rw[Addr.add_lit,Nat.zero_add,World.cell?_alloc_mark]
  simpa using hj
 ·unfold maxLen;omega
 ·have:(n+1) * bytes<=1048577 * 1000:=Nat.mul_le_mul (by omega) hbytes
  omega
 ·simp;omega
 ·intro v' w' h2 hgr _
  have hblk:∀ k,k < w0.heap.size->some k≠v.ownBlock->w'.heap[k]?=w0.heap[k]?:=fun k hk hne=>by
   rw[hgr.block k (by simp;omega) hne];exact Below.heap_alloc _ _ _ hk
  have hz':w0.heap.size<=w'.heap.size:=by have:=hgr.size;simp at this;omega
  refine h v' w' h2 ⟨hgr.os.trans hbO.os,hgr.tape.trans hbO.tape,hgr.output.trans hbO.output,by omega,fun k hk=>?_⟩ (fun b o hb1 hb2=>?_) (fun b o hb1 hb2=>?_) (fun k hk hne=>?_) hz'
  ·rw[hblk k (by omega) (fun e=>by have:=hlt k e.symm;omega)];exact hbO.block k (by omega)
  ·exact World.cell?_of_block (w:=w0) (hblk b hb2 (fun e=>by have:=hlt b e.symm;omega))
  ·exact World.frozen?_of_block (w:=w0) (hblk b hb2 (fun e=>by have:=hlt b e.symm;omega))
  ·rw[hblk k (by omega) hne];exact hbO.block k hk
theorem zpa(w:World)(hg:o.guard=none)(x:Operand)(src dst e:TypeId)(hop:o.op=.convert src dst x)
  (hs:P.underlying src=some .string) (hd:P.underlying dst=some (.slice e)) (he:P.underlying e=some (.int .u8)) (s:ByteArray) (hx:a.eval x=.string s)
  (hK:∀ cap w',(∀ j (hj:j < s.data.size),w'.cell? ⟨w.heap.size,j,none⟩=some (.int .u8 (s.data[j].toNat:Int)))->Below w.heap.size w w' →
   wpList P ops Q rest (a.put o.dst (.slice (some ⟨w.heap.size,0,none⟩) s.size cap)) w'):wpList P ops Q (o::rest) a w:=by
 refine wpList_plain hg fun K hK'=>?_
 have hr:=run_bytes_of_string (P:=P) w src dst e s hs hd he
 unfold Oper.wp
 simp[execOp,hop,hx,hr,Result.andThen]
 refine hK' _ _ (hK _ _ (fun j hj=>?_) ?_)
 ·have:=World.cell?_alloc_mark w.drew (bytesRow s (grownCap w s.size 0 e)) e ((bytesRow s (grownCap w s.size 0 e)).size,(bytesRow s (grownCap w s.size 0 e)).size+1) j
  rw[bytesRow_at s _ j hj] at this
  exact this
 ·exact(Below.refl _ _).drew.alloc (Nat.le_refl _) _
theorem zm5(w:World)(hg:o.guard=none)(x:Operand)(src dst e:TypeId)(hop:o.op=.convert src dst x)
  (hs:P.underlying src=some (.slice e)) (he:P.underlying e=some (.int .u8)) (hd:P.underlying dst=some .string) (s:ByteArray) (b cap:Nat) (hx:a.eval x=.slice (some ⟨b,0,none⟩) s.size cap)
  (hc:∀ j (hj:j < s.data.size),w.cell? ⟨b,j,none⟩=some (.int .u8 (s.data[j].toNat:Int)))
  (hK:wpList P ops Q rest (a.put o.dst (.string s)) w):wpList P ops Q (o::rest) a w:=by
 refine wpList_plain hg fun K hK'=>?_
 have hr:=run_convert_bytes_back (P:=P) w src dst e ⟨b,0,none⟩ cap s.data.toList hs he hd (fun j hj=>by
  have hj':j < s.data.size:=by rw[Array.length_toList] at hj;exact hj
  rw[Addr.add_lit,Nat.zero_add,hc j hj',Array.getElem_toList])
 have hz:s.data.toList.length=s.size:=by rw[Array.length_toList];rfl
 rw[hz] at hr
 unfold Oper.wp
 simp[execOp,hop,hx,hr,Result.andThen]
 exact hK' _ _ hK
end
abbrev uaa:=@Nat.le_refl
abbrev uab:=@Option.some.injEq
abbrev uac:=@List.getElem?_eq_getElem
abbrev uad:=@List.getElem_mem
abbrev uae:=@List.take_succ_eq_append_getElem
abbrev uaf:=@List.getD_eq_getElem?_getD
abbrev uag:=@List.mem_cons
abbrev uah:=@List.drop_eq_getElem_cons
abbrev uai:=@List.mem_map
abbrev uaj:=@Nat.zero_le
abbrev uak:=@Prod.mk.injEq
abbrev ual:=@Nat.lt_of_lt_of_le
abbrev uam:=@List.take_of_length_le
abbrev uan:=@List.getElem_append_left
abbrev uao:=@List.mem_append
abbrev uap:=@Nat.le_trans
abbrev uaq:=@List.drop_eq_nil_of_le
abbrev uar:=@List.length_append
abbrev uas:=@Option.getD_some
abbrev uat:=@List.getElem?_eq_some_iff
abbrev uau:=@List.getElem_of_mem
abbrev uav:=@List.getElem?_eq_none
abbrev uaw:=@List.getElem_map
abbrev uax:=@List.foldl_cons
abbrev uay:=@List.mem_filter
abbrev uaz:=@Array.getElem?_eq_some_iff
abbrev ua0:=@List.length_map
abbrev ua1:=@List.getElem?_append_right
abbrev ua2:=@List.length_take
abbrev ua3:=@List.mem_singleton
abbrev ua4:=@Option.isSome_some
abbrev ua5:=@List.flatMap_cons
abbrev ua6:=@Option.map_eq_some_iff
abbrev ua7:=@List.length_cons
abbrev ua8:=@List.map_append
abbrev ua9:=@Option.isSome_none
abbrev uba:=@List.append_assoc
abbrev ubb:=@Bool.and_eq_true
abbrev ubc:=@List.getElem?_cons_zero
abbrev ubd:=@List.set_append_right
abbrev ube:=@List.take_append_drop
abbrev ubf:=@Option.isSome_iff_exists
abbrev ubg:=@List.ext_getElem
abbrev ubh:=@Option.getD_none
abbrev ubi:=@List.mem_of_getElem?
abbrev ubj:=@List.foldl_append
abbrev ubk:=@List.nodup_cons
abbrev ubl:=@Nat.zero_add
abbrev ubm:=@List.length_eq_zero_iff
abbrev ubn:=@List.getElem?_cons_succ
abbrev ubo:=@List.mem_flatMap
abbrev ubp:=@Option.map_some
abbrev ubq:=@List.getElem?_take
abbrev ubr:=@Bool.false_eq_true
abbrev ubs:=@Nat.sub_self
abbrev ubt:=@List.getElem?_toArray
abbrev ubu:=@List.map_cons
abbrev ubv:=@Nat.min_eq_left
abbrev ubw:=@List.take_length
abbrev ubx:=@List.pairwise_iff_getElem
abbrev uby:=@List.mem_iff_getElem
abbrev ubz:=@List.zipWith_cons_cons
abbrev ub0:=@List.getElem_range
abbrev ub1:=@List.mem_zipIdx_iff_getElem?
abbrev ub2:=@List.map_congr_left
abbrev ub3:=@List.append_nil
abbrev ub4:=@List.any_eq_true
abbrev ub5:=@List.getElem?_map
abbrev ub6:=@Array.getElem?_setIfInBounds_ne
abbrev ub7:=@List.mem_filterMap
abbrev ub8:=@List.getElem_cons_succ
abbrev ub9:=@List.length_pos_of_mem
abbrev uca:=@List.getElem?_append_left
abbrev ucb:=@List.getElem_set
abbrev ucc:=@List.replicate_succ
abbrev ucd:=@List.length_erase_of_mem
abbrev uce:=@List.ext_getElem?
abbrev ucf:=@List.getElem_set_self
abbrev ucg:=@List.mem_range
abbrev uch:=@List.length_nil
abbrev uci:=@List.mem_erase_of_ne
abbrev ucj:=@List.map_set
abbrev uck:=@List.getElem_concat_length
abbrev ucl:=@List.take_succ_cons
abbrev ucm:=@List.takeWhile_cons
abbrev ucn:=@List.getElem_set_ne
abbrev uco:=@List.mem_or_eq_of_mem_set
abbrev ucp:=@List.getElem_append_right
abbrev ucq:=@List.length_set
abbrev ucr:=@List.length_filterMap_le
abbrev ucs:=@List.not_mem_nil
abbrev uct:=@List.mem_cons_of_mem
abbrev ucu:=@List.flatten_cons
abbrev ucv:=@List.zipWith_append
abbrev ucw:=@List.getElem_cons_zero
abbrev ucx:=@List.countP_le_length
abbrev ucy:=@List.length_filter_le
abbrev ucz:=@List.mem_of_mem_drop
abbrev uc0:=@List.pairwise_append
abbrev uc1:=@List.getElem_zipWith
abbrev uc2:=@Nat.mul_le_mul_right
abbrev uc3:=@Bool.or_eq_false_iff
abbrev uc4:=@Nat.lt_trichotomy
abbrev uc5:=@Array.length_toList
abbrev uc6:=@Nat.add_sub_cancel_left
abbrev uc7:=@List.drop_of_length_le
abbrev uc8:=@List.getElem_replicate
abbrev uc9:=@List.set_cons_succ
abbrev uda:=@List.set_cons_zero
abbrev udb:=@Array.getElem?_modify
abbrev udc:=@List.set_getElem_self
abbrev udd:=@List.length_replicate
abbrev ude:=@List.filterMap_append
abbrev udf:=@List.getElem?_set
end Go.Proofs.YteampbddflhngaaGreat
namespace Go.Proofs.YteampbddflhngaaGreat
variable {s a b:ByteArray}{i n:Nat}{p:Int->Bool}
def zst(c:Int):Bool:=decide (97<=c) && decide (c<=122)
def z7l(c:Int):Bool:=decide (65<=c) && decide (c<=90)
def zvp(c:Int):Bool:=decide (48<=c) && decide (c<=57)
def zmn(c:Int):Bool:=c == 32 || c == 10
def bLD(c:Int):Bool:=zst c || z7l c || zvp c
def z5d(c:Int):Int:=if c=40 then 4 else if c=41 then 5 else if c=44 then 6 else if c=46 then 7 else if c=33 then 8 else 0
def zii(a b:Int):Int:=if zst a then 1 else if z7l a then 2 else if zvp a then 3 else if a=58/\b=45 then 9 else z5d a
def bAt(s:ByteArray)(i:Nat):Int:=if h:i < s.size then(s[i].toNat:Int) else 0
theorem zss(h:i < s.size):bAt s i=(s[i].toNat:Int):=by simp[bAt,h]
theorem z1c(h:¬ i < s.size):bAt s i=0:=by simp[bAt,h]
def zc5(p:Int->Bool)(s:ByteArray)(i:Nat):Nat:=if h:i < s.size then(if p (bAt s i) then zc5 p s (i+1) else i) else i
 termination_by s.size - i
theorem zib(h:¬ i < s.size):zc5 p s i=i:=by rw[zc5];simp[h]
theorem zo0(h:p (bAt s i)=false):zc5 p s i=i:=by rw[zc5];simp[h]
theorem zjm(h:i < s.size)(hp:p (bAt s i)=true):zc5 p s i=zc5 p s (i+1):=by
 conv=>lhs;rw[zc5]
 simp[h,hp]
theorem zuq(p:Int->Bool)(s:ByteArray):∀(n i:Nat),s.size - i<=n->i<=zc5 p s i/\(i<=s.size->zc5 p s i<=s.size):=by
 intro n
 induction n with
 |zero=>intro i h;rw[zib (by omega)];omega
 |succ n ih =>
  intro i h
  by_cases hi:i < s.size
  ·cases hp:p (bAt s i) with
   |false=>rw[zo0 hp];omega
   |true=>rw[zjm hi hp];have:=ih (i+1) (by omega);omega
  ·rw[zib hi];omega
theorem z3w(p:Int->Bool)(s:ByteArray)(i:Nat):i<=zc5 p s i:=(zuq p s _ i (Nat.le_refl _)).1
theorem z3x(p:Int->Bool)(s:ByteArray)(i:Nat)(h:i<=s.size):zc5 p s i<=s.size:=(zuq p s _ i (Nat.le_refl _)).2 h
def zn2(s:ByteArray)(i:Nat)(k:Int):Nat:=if k=0 then i else if k=9 then i+2 else if k=1∨k=2 then zc5 bLD s i else if k=3 then zc5 zvp s i else i+1
theorem z1y(s:ByteArray)(i:Nat)(k:Int)(hi:i < s.size)(hk:zii (bAt s i) (bAt s (i+1))=k)(hk0:k≠0):i < zn2 s i k/\zn2 s i k<=s.size:=by
 have run:∀ p:Int->Bool,p (bAt s i)=true->i < zc5 p s i/\zc5 p s i<=s.size:=fun p hp=>by
  rw[zjm hi hp];have:=z3w p s (i+1);have:=z3x p s (i+1) (by omega);omega
 unfold zii at hk
 unfold zn2
 split at hk
 ·rename_i h;subst hk;simp;exact run bLD (by simp[bLD,h])
 ·split at hk
  ·rename_i h;subst hk;simp;exact run bLD (by simp[bLD,h])
  ·split at hk
   ·rename_i h;subst hk;simp;exact run zvp h
   ·split at hk
    ·rename_i h;subst hk;simp
     have:i+1 < s.size:=by
      false_or_by_contra;rename_i hn;rw[z1c hn] at h;omega
     omega
    ·have h9:k≠9/\k≠1/\k≠2/\k≠3:=by subst hk;unfold z5d;(repeat' split) <;> simp
     simp[hk0,h9];omega
def splitN:Nat->ByteArray->Nat->Option (List (Int × ByteArray))
 |0,_,_=>some []
 |n+1,s,i =>
  if i < s.size then
   if zmn (bAt s i) then splitN n s (i+1)
   else if zii (bAt s i) (bAt s (i+1))=0 then none
   else if 6 < zn2 s i (zii (bAt s i) (bAt s (i+1))) - i then none
   else(splitN n s (zn2 s i (zii (bAt s i) (bAt s (i+1))))).map ((zii (bAt s i) (bAt s (i+1)),s.extract i (zn2 s i (zii (bAt s i) (bAt s (i+1)))))::·)
  else some []
def splitB(s:ByteArray):Option (List (Int × ByteArray)):=splitN s.size s 0
theorem zwx(h:¬ i < s.size):splitN n s i=some []:=by cases n <;> simp[splitN,h]
theorem zur(h:i < s.size)(hb:zmn (bAt s i)=true):splitN (n+1) s i=splitN n s (i+1):=by simp[splitN,h,hb]
theorem zww(h:i < s.size)(hb:zmn (bAt s i)=false)(hk:zii (bAt s i) (bAt s (i+1))=0):splitN (n+1) s i=none:=by simp[splitN,h,hb,hk]
theorem zwv{k:Int}(h:i < s.size)(hb:zmn (bAt s i)=false)(hk:zii (bAt s i) (bAt s (i+1))=k)(hl:6 < zn2 s i k - i):splitN (n+1) s i=none:=by
 subst hk;simp[splitN,h,hb,hl]
theorem zwy{k:Int}(h:i < s.size)(hb:zmn (bAt s i)=false)(hk:zii (bAt s i) (bAt s (i+1))=k)(hk0:k≠0)(hl:¬ 6 < zn2 s i k - i) :
  splitN (n+1) s i=(splitN n s (zn2 s i k)).map ((k,s.extract i (zn2 s i k))::·):=by
 subst hk;simp[splitN,h,hb,hl,hk0]
theorem zxz{α:Type}(o:Option (List α))(acc:List α)(x:α):(o.map (x::·)).map (acc++·)=o.map ((acc++[x])++·):=by cases o <;> simp
theorem zy0(s:ByteArray):∀(n i:Nat) (r:List UInt8),s.size - i<=n->ByteArray.toList.loop s i r=r.reverse++s.data.toList.drop i:=by
 intro n
 induction n with
 |zero =>
  intro i r h
  rw[ByteArray.toList.loop,if_neg (by omega),List.drop_eq_nil_of_le (by rw[Array.length_toList];show s.size<=i;omega),List.append_nil]
 |succ n ih =>
  intro i r h
  rw[ByteArray.toList.loop]
  split
  ·rename_i hi
   rw[ih (i+1) _ (by omega)]
   have hd:i < s.data.toList.length:=by rw[Array.length_toList];exact hi
   rw[List.drop_eq_getElem_cons hd]
   simp[ByteArray.get!,hi]
  ·rw[List.drop_eq_nil_of_le (by rw[Array.length_toList];show s.size<=i;omega),List.append_nil]
theorem zmo(s:ByteArray):s.toList=s.data.toList:=by
 rw[ByteArray.toList,zy0 s _ 0 [] (Nat.le_refl _)];simp
theorem toList_inj(h:a.toList=b.toList):a=b:=by
 rw[zmo,zmo] at h;exact Go.WideShapes.bytes_inj h
theorem z7r(a b:ByteArray):(a.toList == b.toList)=decide (a=b):=by
 by_cases h:a=b
 ·subst h;simp
 ·rw[decide_eq_false h,beq_eq_false_iff_ne];exact fun k=>h (toList_inj k)
theorem zfm(h:a=b):(a.toList == b.toList)=true:=by rw[z7r];simpa using h
theorem zei(h:a≠b):(a.toList == b.toList)=false:=by rw[z7r];simpa using h
def za8(t:ByteArray):Bool:=z7l (bAt t 0)
def zpl(t:ByteArray):List ByteArray->Bool
 |[]=>false
 |x::r=>decide (x=t) || zpl t r
theorem zf4{t:ByteArray}:∀ {vs:List ByteArray},zpl t vs=true↔t∈vs
 |[]=>by simp[zpl]
 |x::r=>by simp only[zpl,Bool.or_eq_true,decide_eq_true_eq,List.mem_cons,zf4 (vs:=r)];constructor <;> (rintro(h|h) <;> simp[h])
theorem zwa{t:ByteArray}{vs:List ByteArray}:zpl t vs=false↔t∉vs:=by rw[← zf4];simp
def zsd(vs:List ByteArray)(t:ByteArray):List ByteArray:=if za8 t && !zpl t vs then vs++[t] else vs
def ze0(vs args:List ByteArray):List ByteArray:=args.foldl zsd vs
theorem z5a(vs:List ByteArray)(t:ByteArray):(zsd vs t).length<=vs.length+1:=by unfold zsd;split <;> simp
theorem zku(args:List ByteArray):∀ vs:List ByteArray,(ze0 vs args).length<=vs.length+args.length:=by
 induction args with
 |nil=>intro vs;simp[ze0]
 |cons a r ih=>intro vs;have:=ih (zsd vs a);have:=z5a vs a;simp only[ze0,List.foldl_cons,List.length_cons] at *;omega
end Go.Proofs.YteampbddflhngaaGreat
namespace Go.Proofs.YteampbddflhngaaGreat
set_option maxRecDepth 100000
set_option maxHeartbeats 400000
open Go.RowKit
theorem zh4(c:Int)(w:World) :
  Calls Tryz.prog 98 #[.int .u8 c] w fun e w'=>e=.returned (.bool (zmn c))/\w'=w:=by
 go_enter Tryz.func98,Tryz.ntmps98
 go_wp2
 all_goals go_ret
 all_goals exact⟨by simp[zmn, *],rfl⟩
theorem zob(c:Int)(w:World) :
  Calls Tryz.prog 173 #[.int .u8 c] w fun e w'=>e=.returned (.bool (zst c))/\w'=w:=by
 go_enter Tryz.func173,Tryz.ntmps173
 go_wp2
 all_goals go_ret
 all_goals exact⟨by simp[zst, *] <;> omega,rfl⟩
theorem zk7(c:Int)(w:World) :
  Calls Tryz.prog 174 #[.int .u8 c] w fun e w'=>e=.returned (.bool (z7l c))/\w'=w:=by
 go_enter Tryz.func174,Tryz.ntmps174
 go_wp2
 all_goals go_ret
 all_goals exact⟨by simp[z7l, *] <;> omega,rfl⟩
theorem zgy(c:Int)(w:World) :
  Calls Tryz.prog 175 #[.int .u8 c] w fun e w'=>e=.returned (.bool (zvp c))/\w'=w:=by
 go_enter Tryz.func175,Tryz.ntmps175
 go_wp2
 all_goals go_ret
 all_goals exact⟨by simp[zvp, *] <;> omega,rfl⟩
theorem ze2(c:Int)(w:World) :
  Calls Tryz.prog 198 #[.int .u8 c] w fun e w'=>e=.returned (.bool (bLD c))/\w'=w:=by
 go_enter Tryz.func198,Tryz.ntmps198
 go_wp2_with (first|(go_at_call 173;refine(zob _ _).mono ?_;rintro e w' ⟨rfl,rfl⟩)|(go_at_call 174;refine(zk7 _ _).mono ?_;rintro e w' ⟨rfl,rfl⟩)|(go_at_call 175;refine(zgy _ _).mono ?_;rintro e w' ⟨rfl,rfl⟩))
 all_goals go_ret
 all_goals exact⟨by simp[bLD, *],rfl⟩
theorem zpx(s:ByteArray)(i:Int)(w:World)(hi:0<=i)(_:s.size<=500) :
  Calls Tryz.prog 139 #[.string s,.int .i64 i] w fun e w'=>e=.returned (.int .u8 (bAt s i.toNat))/\w'=w:=by
 obtain⟨i,rfl⟩:=Int.eq_ofNat_of_zero_le hi
 rw[Int.toNat_natCast]
 by_cases h:i < s.size
 ·rw[zss h]
  go_enter Tryz.func139,Tryz.ntmps139
  go_wp2
  all_goals go_ret
  all_goals exact⟨rfl,rfl⟩
 ·rw[z1c h]
  go_enter Tryz.func139,Tryz.ntmps139
  go_wp2
  all_goals go_ret
  all_goals exact⟨rfl,rfl⟩
theorem z0l(c:Int)(w:World) :
  Calls Tryz.prog 176 #[.int .u8 c] w fun e w'=>e=.returned (.int .i64 (z5d c))/\w'=w:=by
 go_enter Tryz.func176,Tryz.ntmps176
 go_wp2
 all_goals go_ret
 all_goals go_light
 all_goals exact⟨by simp_all [z5d],rfl⟩
theorem zqd(a b:Int)(w:World) :
  Calls Tryz.prog 140 #[.int .u8 a,.int .u8 b] w fun e w'=>e=.returned (.int .i64 (zii a b))/\w'=w:=by
 go_enter Tryz.func140,Tryz.ntmps140
 go_wp2_with (first|(go_at_call 173;refine(zob _ _).mono ?_;rintro e w' ⟨rfl,rfl⟩)|(go_at_call 174;refine(zk7 _ _).mono ?_;rintro e w' ⟨rfl,rfl⟩)|(go_at_call 175;refine(zgy _ _).mono ?_;rintro e w' ⟨rfl,rfl⟩)|(go_at_call 176;refine(z0l _ _).mono ?_;rintro e w' ⟨rfl,rfl⟩))
 all_goals go_ret
 all_goals go_light
 all_goals exact⟨by first|(simp_all [zii];done)|(simp_all [zii,zst,z7l,zvp];done),rfl⟩
theorem zvw(s:ByteArray)(i:Nat)(w:World)(hs:s.size<=500)(hi:i<=s.size) :
  Calls Tryz.prog 177 #[.string s,.int .i64 i] w fun e w'=>e=.returned (.int .i64 (zc5 bLD s i))/\w'=w:=by
 go_enter Tryz.func177,Tryz.ntmps177
 go_wp2
 go_loop [5] (fun t=>∃ k:Nat,k<=s.size/\t=.int .i64 k/\Hid (zc5 bLD s i=zc5 bLD s k)) (fun t=>s.size - (intOf t).toNat)
 case atStart=>exact⟨i,hi,rfl,rfl⟩
 case round =>
  obtain⟨k,hk,rfl,H⟩:=hrel
  by_cases hlt:k < s.size
  ·have hb:=zss hlt
   cases hp:bLD (bAt s k) with
   |true =>
    have H2:Hid (zc5 bLD s i=zc5 bLD s (k+1)):=by rw[Hid.out H,zjm hlt hp];rfl
    rw[hb] at hp
    clear hb
    go_wp2_with (go_at_call 198;refine(ze2 _ _).mono ?_;rintro e w' ⟨rfl,rfl⟩)
    go_round
    case rel=>exact⟨k+1,by omega,by go_num,H2⟩
    case measure=>simp[intOf];omega
   |false =>
    have H2:Hid (zc5 bLD s i=k):=by rw[Hid.out H,zo0 hp];rfl
    rw[hb] at hp
    clear hb
    go_wp2_with (go_at_call 198;refine(ze2 _ _).mono ?_;rintro e w' ⟨rfl,rfl⟩)
    go_ret
    exact⟨by rw[Hid.out H2];rfl,rfl⟩
  ·have H2:Hid (zc5 bLD s i=k):=by rw[Hid.out H,zib hlt];rfl
   go_wp2_with (go_at_call 198;refine(ze2 _ _).mono ?_;rintro e w' ⟨rfl,rfl⟩)
   go_ret
   exact⟨by rw[Hid.out H2];rfl,rfl⟩
theorem zs8(s:ByteArray)(i:Nat)(w:World)(hs:s.size<=500)(hi:i<=s.size) :
  Calls Tryz.prog 178 #[.string s,.int .i64 i] w fun e w'=>e=.returned (.int .i64 (zc5 zvp s i))/\w'=w:=by
 go_enter Tryz.func178,Tryz.ntmps178
 go_wp2
 go_loop [5] (fun t=>∃ k:Nat,k<=s.size/\t=.int .i64 k/\Hid (zc5 zvp s i=zc5 zvp s k)) (fun t=>s.size - (intOf t).toNat)
 case atStart=>exact⟨i,hi,rfl,rfl⟩
 case round =>
  obtain⟨k,hk,rfl,H⟩:=hrel
  by_cases hlt:k < s.size
  ·have hb:=zss hlt
   cases hp:zvp (bAt s k) with
   |true =>
    have H2:Hid (zc5 zvp s i=zc5 zvp s (k+1)):=by rw[Hid.out H,zjm hlt hp];rfl
    rw[hb] at hp
    clear hb
    go_wp2_with (go_at_call 175;refine(zgy _ _).mono ?_;rintro e w' ⟨rfl,rfl⟩)
    go_round
    case rel=>exact⟨k+1,by omega,by go_num,H2⟩
    case measure=>simp[intOf];omega
   |false =>
    have H2:Hid (zc5 zvp s i=k):=by rw[Hid.out H,zo0 hp];rfl
    rw[hb] at hp
    clear hb
    go_wp2_with (go_at_call 175;refine(zgy _ _).mono ?_;rintro e w' ⟨rfl,rfl⟩)
    go_ret
    exact⟨by rw[Hid.out H2];rfl,rfl⟩
  ·have H2:Hid (zc5 zvp s i=k):=by rw[Hid.out H,zib hlt];rfl
   go_wp2_with (go_at_call 175;refine(zgy _ _).mono ?_;rintro e w' ⟨rfl,rfl⟩)
   go_ret
   exact⟨by rw[Hid.out H2];rfl,rfl⟩
theorem zs9(s:ByteArray)(i:Nat)(k:Int)(w:World)(hs:s.size<=500)(hi:i<=s.size) :
  Calls Tryz.prog 141 #[.string s,.int .i64 i,.int .i64 k] w fun e w'=>e=.returned (.int .i64 (zn2 s i k))/\w'=w:=by
 go_enter Tryz.func141,Tryz.ntmps141
 go_wp2_with (first|(go_at_call 177;refine(zvw _ _ _ hs hi).mono ?_;rintro e w' ⟨rfl,rfl⟩)|(go_at_call 178;refine(zs8 _ _ _ hs hi).mono ?_;rintro e w' ⟨rfl,rfl⟩))
 all_goals go_ret
 all_goals go_light
 all_goals exact⟨by simp_all [zn2],rfl⟩
set_option maxHeartbeats 1000000
theorem z4r(s:ByteArray)(i:Nat)(w:World)(hs:s.size<=500)(hi:i < s.size)(hk:zii (bAt s i) (bAt s (i+1))=0) :
  Calls Tryz.prog 99 #[.string s,.int .i64 i] w fun e w'=>e=.returned (.agg #[.int .i64 0,.string ByteArray.empty])/\Below w.heap.size w w':=by
 have he:zn2 s i 0=i:=rfl
 have e1:((i:Int)+1).toNat=i+1:=by omega
 go_enter Tryz.func99,Tryz.ntmps99
 go_wp2_with (first|(go_at_call 139;refine(zpx s _ _ (by omega) hs).mono ?_;rintro e w' ⟨rfl,rfl⟩)|(go_at_call 140;refine(zqd _ _ _).mono ?_;rintro e w' ⟨rfl,rfl⟩)|(go_at_call 141;refine(zs9 s i _ _ hs (by omega)).mono ?_;rintro e w' ⟨rfl,rfl⟩))
 go_returns
 exact⟨rfl,by go_grown⟩
theorem z0w(s:ByteArray)(i:Nat)(k:Int)(w:World)(hs:s.size<=500)(hi:i < s.size)(hk:zii (bAt s i) (bAt s (i+1))=k) 
  (he1:i < zn2 s i k) (he2:zn2 s i k<=s.size) :
  Calls Tryz.prog 99 #[.string s,.int .i64 i] w fun e w'=>e=.returned (.agg #[.int .i64 k,.string (s.extract i (zn2 s i k))])/\Below w.heap.size w w':=by
 have e1:((i:Int)+1).toNat=i+1:=by omega
 go_enter Tryz.func99,Tryz.ntmps99
 go_wp2_with (first|(go_at_call 139;refine(zpx s _ _ (by omega) hs).mono ?_;rintro e w' ⟨rfl,rfl⟩)|(go_at_call 140;refine(zqd _ _ _).mono ?_;rintro e w' ⟨rfl,rfl⟩)|(go_at_call 141;refine(zs9 s i _ _ hs (by omega)).mono ?_;rintro e w' ⟨rfl,rfl⟩)|(refine zpa _ rfl (.tmp 41) 9 238 5 rfl Tryz.underlying9 Tryz.underlying238 Tryz.underlying5 _ rfl ?_;intro cap w1 hc1 hb1;obtain⟨hcc,hff⟩:=z9z hb1;have hz:=hb1.size;simp only[World.size_alloc] at hz)|(refine zm5 _ rfl (.tmp 42) 238 9 5 rfl Tryz.underlying238 Tryz.underlying5 Tryz.underlying9 _ _ _ rfl ?_ ?_;(first|exact hc1|fail)))
 have hB:Below w.heap.size w w1:=zae ((Below.refl _ _).alloc (uaa _) _) hb1 (uaa _)
 exact bodyPost_ret (v:=.agg #[.int .i64 k,.string (s.extract i (zn2 s i k))]) (by simp[results,Tryz.results99,go_sem,hcc]) rfl ⟨rfl,by go_grown⟩
def zgi(l:List (Int × ByteArray)):List Value:=l.flatMap fun x=>[.int .i64 x.1,.string x.2]
theorem zw8(l:List (Int × ByteArray))(k:Int)(t:ByteArray):zgi (l++[(k,t)])=zgi l++[.int .i64 k,.string t]:=by simp[zgi]
theorem Tryz.infoWord:(Tryz.prog.info? 182).map (fun i=>(i.zero,i.size,i.bytes))=some (some (.agg #[.int .i64 0,.string ByteArray.empty]),2,24):=by kernel_rfl
def zio(s:ByteArray)(w:World)(e:Ending)(w':World):Prop :=
 Below w.heap.size w w'/\match splitB s with
  |none=>e=.returned (.tuple #[.slice none 0 0,.bool false])
  |some l=>∃ v,e=.returned (.tuple #[v,.bool true])/\w'.ownsRow w.heap.size 182 2 v l.length (zgi l)/\l.length<=s.size
theorem zj0{s:ByteArray}{w w':World}(h:Hid (splitB s=none))(hb:Below w.heap.size w w'):zio s w (.returned (.tuple #[.slice none 0 0,.bool false])) w':=by
 have h':splitB s=none:=h
 unfold zio;rw[h'];exact⟨hb,rfl⟩
theorem zpp{s:ByteArray}{w w':World}{v:Value}{l:List (Int × ByteArray)}(h:Hid (splitB s=some l))(hb:Below w.heap.size w w')(ho:w'.ownsRow w.heap.size 182 2 v l.length (zgi l))(hl:l.length<=s.size) :
  zio s w (.returned (.tuple #[v,.bool true])) w':=by
 have h':splitB s=some l:=h
 unfold zio;rw[h'];exact⟨hb,v,rfl,ho,hl⟩
theorem zus(s:ByteArray)(w:World)(hs:s.size<=500) :
  Calls Tryz.prog 59 #[.string s] w fun e w'=>zio s w e w':=by
 obtain⟨i0,hi,hz0,hz1,hz2⟩:=info_parts Tryz.infoWord
 go_enter Tryz.func59,Tryz.ntmps59
 go_wp2
 go_loopw [4,5] (fun v t wr=>∃(k:Nat) (acc:List (Int × ByteArray)) (m:Nat),k<=s.size/\t=.int .i64 k/\s.size - k<=m/\Hid (splitB s=(splitN m s k).map (acc++·))/\acc.length<=k ∧
   wr.ownsRow w.heap.size 182 2 v acc.length (zgi acc)/\Below w.heap.size w wr) (fun _ t _=>s.size - (intOf t).toNat)
 case atStart=>exact⟨0,[],s.size,uaj _,rfl,by omega,(by simp[splitB,Hid]),uaa _,World.ownsRow_nil _ _ _ _,Below.refl _ _⟩
 case round =>
  obtain⟨k,acc,m,hk,rfl,hm,H,hal,hown,hbel⟩:=hrel
  by_cases hlt:k < s.size
  ·have hb:=zss hlt
   obtain⟨m,rfl⟩:∃ m',m=m'+1:=⟨m - 1,by omega⟩
   cases hp:zmn (bAt s k) with
   |true =>
    have H2:Hid (splitB s=(splitN m s (k+1)).map (acc++·)):=by rw[← zur hlt hp];exact H
    rw[hb] at hp
    clear hb H
    go_wp2_with (go_at_call 98;refine(zh4 _ _).mono ?_;rintro e w' ⟨rfl,rfl⟩)
    go_roundw
    case rel=>exact⟨k+1,acc,m,by omega,by go_num,by omega,H2,by omega,hown,hbel⟩
    case measure=>simp[intOf];omega
   |false =>
    by_cases hk0:zii (bAt s k) (bAt s (k+1))=0
    ·have H2:Hid (splitB s=none):=by rw[Hid.out H,zww hlt hp hk0];simp[Hid]
     have hw:=z4r s k wr hs hlt hk0
     rw[hb] at hp
     clear hb H hk0
     go_wp2_with (first|(go_at_call 98;refine(zh4 _ _).mono ?_;rintro e w' ⟨rfl,rfl⟩)|(go_at_call 99;refine hw.mono ?_;rintro e w1 ⟨rfl,hb1⟩;clear hw;have hB:=zae hbel hb1 (uaa _);have hBs:=hB.size))
     go_ret2
     exact zj0 H2 (by go_grown)
    ·obtain⟨kd,hkd⟩:∃ kd,zii (bAt s k) (bAt s (k+1))=kd:=⟨_,rfl⟩
     have hkz:kd≠0:=by rw[← hkd];exact hk0
     obtain⟨he1,he2⟩:=z1y s k kd hlt hkd hkz
     have hw:=z0w s k kd wr hs hlt hkd he1 he2
     by_cases hl:6 < zn2 s k kd - k
     ·have H2:Hid (splitB s=none):=by rw[Hid.out H,zwv hlt hp hkd hl];simp[Hid]
      rw[hb] at hp
      clear hb H hk0 hkd
      generalize zn2 s k kd=en at *
      have htx:(s.extract k en).size=en - k:=by rw[ByteArray.size_extract];omega
      generalize s.extract k en=tx at *
      have hbeq:(kd == 0)=false:=by simpa using hkz
      go_wp2_with (first|(go_at_call 98;refine(zh4 _ _).mono ?_;rintro e w' ⟨rfl,rfl⟩)|(go_at_call 99;refine hw.mono ?_;rintro e w1 ⟨rfl,hb1⟩;clear hw;have hB:=zae hbel hb1 (uaa _);have hBs:=hB.size))
      go_ret2
      exact zj0 H2 (by go_grown)
     ·have H2:Hid (splitB s=(splitN m s (zn2 s k kd)).map ((acc++[(kd,s.extract k (zn2 s k kd))])++·)):=by rw[Hid.out H,zwy hlt hp hkd hkz hl,zxz];rfl
      rw[hb] at hp
      clear hb H hk0 hkd
      generalize zn2 s k kd=en at *
      have htx:(s.extract k en).size=en - k:=by rw[ByteArray.size_extract];omega
      generalize s.extract k en=tx at *
      have hbeq:(kd == 0)=false:=by simpa using hkz
      go_wp2_with (first|(go_at_call 98;refine(zh4 _ _).mono ?_;rintro e w' ⟨rfl,rfl⟩)|(go_at_call 99;refine hw.mono ?_;rintro e w1 ⟨rfl,hb1⟩;clear hw;have hB:=zae hbel hb1 (uaa _);have hBs:=hB.size;have ho1:=zaa hown hb1)|(at_builtin;refine zg3 w1 _ _ _ rfl (.tmp 29) (.tmp 31) 118 rfl w.heap.size 182 i0 _ 2 24 Tryz.underlying118 hi hz0 hz1 hz2 rfl (by decide) _ _ _ rfl ho1 ((Below.refl _ _).alloc (uaa _) _) _ _ rfl (by simp) rfl (by simp[Value.oneCell']) (by omega) (by omega) (by omega) ?_;intro v' w2 ho2 hB2 hc2 hf2 hk2 hz2';simp only[World.size_alloc] at hc2 hf2 hz2'))
      go_roundw
      case rel=>exact⟨en,acc++[(kd,tx)],m,by omega,by go_num,by omega,H2,by simp;omega,by rw[uar,zw8];exact ho2,hB.trans hB2⟩
      case measure=>simp[intOf];omega
  ·have H2:Hid (splitB s=some acc):=by rw[Hid.out H,zwx hlt];simp[Hid]
   clear H
   go_wp2
   go_ret2
   exact zpp H2 hbel hown (by omega)
end Go.Proofs.YteampbddflhngaaGreat
