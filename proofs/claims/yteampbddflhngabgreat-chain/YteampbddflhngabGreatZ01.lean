import Derived.WalkKit
import Derived.WalkSpells
import Derived.WalkLawsBesides
import Derived.Deep.Light
import Derived.Handy
import Derived.Laws.IdiomStrings
import Derived.WalkSmall
import Derived.WideShapes
import Derived.Test.YteampbddflhngabGreatProg

namespace Go.Proofs.YteampbddflhngabGreat
open Go.RowKit
theorem z8q{W w1:World}(hb:Below W.heap.size W w1):(∀ b o,b < W.heap.size->w1.cell? ⟨b,o,none⟩=W.cell? ⟨b,o,none⟩)/\(∀ b o,b < W.heap.size->w1.frozen? ⟨b,o,none⟩=W.frozen? ⟨b,o,none⟩) :=
 ⟨fun b o h=>hb.cell (p:=⟨b,o,none⟩) h,fun b o h=>hb.frozen (p:=⟨b,o,none⟩) h⟩
theorem zaw{B:Nat}{a w:World}(h:Below B a w)(n:Nat):Below B a (w.drewN n):=below_drewN h n
abbrev zR:=@Below.refl
abbrev zN:=@zaw
abbrev zA:=@Below.alloc
abbrev zD:=@Below.drew
abbrev zS:=@Below.setCell
theorem zae{B:Nat}{w w0 w1:World}(h1:Below B w w0)(h2:Below w0.heap.size w0 w1)(hB:B<=w.heap.size):Below B w w1 :=
 h1.trans (h2.mono (Nat.le_trans hB h1.size))
theorem zaa{w w':World}{base:Nat}{e:TypeId}{size:Nat}{v:Value}{n:Nat}{xs:List Value}(h:w.ownsRow base e size v n xs)(hb:Below w.heap.size w w'):w'.ownsRow base e size v n xs:=by
 obtain⟨h1,h2⟩:=h
 refine⟨h1,?_⟩
 rcases h2 with h2|⟨g,cap,cur,hv,hg,hh,r⟩
 ·exact Or.inl h2
 ·refine Or.inr ⟨g,cap,cur,hv,hg,?_,r⟩
  rw[hb.block g (Array.getElem?_eq_some_iff.1 hh).1];exact hh
section
variable {P:Program} {ops:Array Oper} {rest:List Oper} {o:Oper} {a:Act} {Q:Exit->Act->World->Prop}
theorem zgy(wO w0:World)(l:List Value)(te:TypeId)(hg:o.guard=none)(s x:Operand)(t:TypeId)
  (ho:o.op=.call { callee:=.builtin .append,args:=#[s,x],argTypes:=#[t,t] })
  (base:Nat) (e:TypeId) (i:TypeInfo) (z:Value) (size bytes:Nat) (ht:P.underlying t=some (.slice e)) (hi:P.info? e=some i) (hz:i.zero=some z)
  (hsize:i.size=size) (hby:i.bytes=bytes) (hzs:z.cells.size=size) (hsz:0 < size)
  (v:Value) (n:Nat) (xs:List Value) (hs:a.eval s=v) (hown:wO.ownsRow base e size v n xs) (hbO:Below wO.heap.size wO w0)
  (b c:Nat) (hx:a.eval x=.slice (some ⟨b,0,none⟩) 1 c) (hb:b=w0.heap.size) (hl:l.length=size) (h1:∀ u∈l,u.oneCell'=true)
  (hn:n<=1048576) (hbytes:bytes<=1000) (hbase:base<=wO.heap.size)
  (h:∀ v' w',w'.ownsRow base e size v' (n+1) (xs++l)->Below base wO w'->(∀ b o,wO.heap.size<=b->b < w0.heap.size->w'.cell? ⟨b,o,none⟩=w0.cell? ⟨b,o,none⟩) →
   (∀ b o,wO.heap.size<=b->b < w0.heap.size->w'.frozen? ⟨b,o,none⟩=w0.frozen? ⟨b,o,none⟩) →
   (∀ k,k < wO.heap.size->some k≠v.ownBlock->w'.heap[k]?=wO.heap[k]?)->w0.heap.size<=w'.heap.size->wpList P ops Q rest (a.put o.dst v') w') :
  wpList P ops Q (o::rest) a (w0.alloc (.cells l.toArray te)):=by
 have hown':=zaa hown hbO
 have hlt:∀ k,v.ownBlock=some k->base<=k/\k < wO.heap.size:=by
  intro k hk
  obtain⟨_,h2⟩:=hown
  rcases h2 with ⟨hv,_⟩|⟨g,cap,cur,hv,hg,hh,_⟩
  ·subst hv;cases hk
  ·subst hv;simp only[Value.ownBlock,Option.some.injEq] at hk;subst hk
   exact⟨hg,(Array.getElem?_eq_some_iff.1 hh).1⟩
 have hsz0:=hbO.size
 subst hb
 refine wpList_append_own _ hg s x t ho base e i z size bytes ht hi hz hsize hby hzs hsz v n xs hs (hown'.alloc _) ⟨w0.heap.size,0,none⟩ 1 c l hx (by omega) ?_ h1 ?_ ?_ ?_ ?_
 ·intro j u hj
  rw[Addr.add_lit,Nat.zero_add,World.cell?_alloc_mark]
  simpa using hj
 ·unfold maxLen;omega
 ·have:(n+1) * bytes<=1048577 * 1000:=Nat.mul_le_mul (by omega) hbytes
  omega
 ·simp;omega
 ·intro v' w' h2 hgr _
  have hblk:∀ k,k < w0.heap.size->some k≠v.ownBlock->w'.heap[k]?=w0.heap[k]?:=fun k hk hne=>by
   rw[hgr.block k (by simp;omega) hne];exact Below.heap_alloc _ _ _ hk
  have hz':w0.heap.size<=w'.heap.size:=by have:=hgr.size;simp at this;omega
  refine h v' w' h2 ⟨hgr.os.trans hbO.os,hgr.tape.trans hbO.tape,hgr.output.trans hbO.output,by omega,fun k hk=>?_⟩ (fun b o hb1 hb2=>?_) (fun b o hb1 hb2=>?_) (fun k hk hne=>?_) hz'
  ·rw[hblk k (by omega) (fun e=>by have:=hlt k e.symm;omega)];exact hbO.block k (by omega)
  ·exact World.cell?_of_block (w:=w0) (hblk b hb2 (fun e=>by have:=hlt b e.symm;omega))
  ·exact World.frozen?_of_block (w:=w0) (hblk b hb2 (fun e=>by have:=hlt b e.symm;omega))
  ·rw[hblk k (by omega) hne];exact hbO.block k hk
theorem zop(w:World)(hg:o.guard=none)(x:Operand)(src dst e:TypeId)(hop:o.op=.convert src dst x)
  (hs:P.underlying src=some .string) (hd:P.underlying dst=some (.slice e)) (he:P.underlying e=some (.int .u8)) (s:ByteArray) (hx:a.eval x=.string s)
  (hK:∀ cap w',(∀ j (hj:j < s.data.size),w'.cell? ⟨w.heap.size,j,none⟩=some (.int .u8 (s.data[j].toNat:Int)))->Below w.heap.size w w' →
   wpList P ops Q rest (a.put o.dst (.slice (some ⟨w.heap.size,0,none⟩) s.size cap)) w'):wpList P ops Q (o::rest) a w:=by
 refine wpList_plain hg fun K hK'=>?_
 have hr:=run_bytes_of_string (P:=P) w src dst e s hs hd he
 unfold Oper.wp
 simp[execOp,hop,hx,hr,Result.andThen]
 refine hK' _ _ (hK _ _ (fun j hj=>?_) ?_)
 ·have:=World.cell?_alloc_mark w.drew (bytesRow s (grownCap w s.size 0 e)) e ((bytesRow s (grownCap w s.size 0 e)).size,(bytesRow s (grownCap w s.size 0 e)).size+1) j
  rw[bytesRow_at s _ j hj] at this
  exact this
 ·exact(Below.refl _ _).drew.alloc (Nat.le_refl _) _
theorem zmq(w:World)(hg:o.guard=none)(x:Operand)(src dst e:TypeId)(hop:o.op=.convert src dst x)
  (hs:P.underlying src=some (.slice e)) (he:P.underlying e=some (.int .u8)) (hd:P.underlying dst=some .string) (s:ByteArray) (b cap:Nat) (hx:a.eval x=.slice (some ⟨b,0,none⟩) s.size cap)
  (hc:∀ j (hj:j < s.data.size),w.cell? ⟨b,j,none⟩=some (.int .u8 (s.data[j].toNat:Int)))
  (hK:wpList P ops Q rest (a.put o.dst (.string s)) w):wpList P ops Q (o::rest) a w:=by
 refine wpList_plain hg fun K hK'=>?_
 have hr:=run_convert_bytes_back (P:=P) w src dst e ⟨b,0,none⟩ cap s.data.toList hs he hd (fun j hj=>by
  have hj':j < s.data.size:=by rw[Array.length_toList] at hj;exact hj
  rw[Addr.add_lit,Nat.zero_add,hc j hj',Array.getElem_toList])
 have hz:s.data.toList.length=s.size:=by rw[Array.length_toList];rfl
 rw[hz] at hr
 unfold Oper.wp
 simp[execOp,hop,hx,hr,Result.andThen]
 exact hK' _ _ hK
end
def zr6(c:Int):Bool:=decide (97<=c) && decide (c<=122)
def z6j(c:Int):Bool:=decide (65<=c) && decide (c<=90)
def zu3(c:Int):Bool:=decide (48<=c) && decide (c<=57)
def zl7(c:Int):Bool:=c == 32 || c == 10
def bLD(c:Int):Bool:=zr6 c || z6j c || zu3 c
def z4c(c:Int):Int:=if c=40 then 4 else if c=41 then 5 else if c=44 then 6 else if c=46 then 7 else if c=33 then 8 else 0
def zib(a b:Int):Int:=if zr6 a then 1 else if z6j a then 2 else if zu3 a then 3 else if a=58/\b=45 then 9 else z4c a
def bAt(s:ByteArray)(i:Nat):Int:=if h:i < s.size then(s[i].toNat:Int) else 0
theorem zr5{s:ByteArray}{i:Nat}(h:i < s.size):bAt s i=(s[i].toNat:Int):=by simp[bAt,h]
theorem z0j{s:ByteArray}{i:Nat}(h:¬ i < s.size):bAt s i=0:=by simp[bAt,h]
def zc2(p:Int->Bool)(s:ByteArray)(i:Nat):Nat:=if h:i < s.size then(if p (bAt s i) then zc2 p s (i+1) else i) else i
 termination_by s.size - i
theorem zh5{p:Int->Bool}{s:ByteArray}{i:Nat}(h:¬ i < s.size):zc2 p s i=i:=by rw[zc2];simp[h]
theorem zof{p:Int->Bool}{s:ByteArray}{i:Nat}(h:p (bAt s i)=false):zc2 p s i=i:=by rw[zc2];simp[h]
theorem zjd{p:Int->Bool}{s:ByteArray}{i:Nat}(h:i < s.size)(hp:p (bAt s i)=true):zc2 p s i=zc2 p s (i+1):=by
 conv=>lhs;rw[zc2]
 simp[h,hp]
theorem zt3(p:Int->Bool)(s:ByteArray):∀(n i:Nat),s.size - i<=n->i<=zc2 p s i/\(i<=s.size->zc2 p s i<=s.size):=by
 intro n
 induction n with
 |zero=>intro i h;rw[zh5 (by omega)];omega
 |succ n ih =>
  intro i h
  by_cases hi:i < s.size
  ·cases hp:p (bAt s i) with
   |false=>rw[zof hp];omega
   |true=>rw[zjd hi hp];have:=ih (i+1) (by omega);omega
  ·rw[zh5 hi];omega
theorem z2t(p:Int->Bool)(s:ByteArray)(i:Nat):i<=zc2 p s i:=(zt3 p s _ i (Nat.le_refl _)).1
theorem z2u(p:Int->Bool)(s:ByteArray)(i:Nat)(h:i<=s.size):zc2 p s i<=s.size:=(zt3 p s _ i (Nat.le_refl _)).2 h
def znk(s:ByteArray)(i:Nat)(k:Int):Nat:=if k=0 then i else if k=9 then i+2 else if k=1∨k=2 then zc2 bLD s i else if k=3 then zc2 zu3 s i else i+1
theorem z04(s:ByteArray)(i:Nat)(k:Int)(hi:i < s.size)(hk:zib (bAt s i) (bAt s (i+1))=k)(hk0:k≠0):i < znk s i k/\znk s i k<=s.size:=by
 have run:∀ p:Int->Bool,p (bAt s i)=true->i < zc2 p s i/\zc2 p s i<=s.size:=fun p hp=>by
  rw[zjd hi hp];have:=z2t p s (i+1);have:=z2u p s (i+1) (by omega);omega
 unfold zib at hk
 unfold znk
 split at hk
 ·rename_i h;subst hk;simp;exact run bLD (by simp[bLD,h])
 ·split at hk
  ·rename_i h;subst hk;simp;exact run bLD (by simp[bLD,h])
  ·split at hk
   ·rename_i h;subst hk;simp;exact run zu3 h
   ·split at hk
    ·rename_i h;subst hk;simp
     have:i+1 < s.size:=by
      false_or_by_contra;rename_i hn;rw[z0j hn] at h;omega
     omega
    ·have h9:k≠9/\k≠1/\k≠2/\k≠3:=by subst hk;unfold z4c;(repeat' split) <;> simp
     simp[hk0,h9];omega
def splitN:Nat->ByteArray->Nat->Option (List (Int × ByteArray))
 |0,_,_=>some []
 |n+1,s,i =>
  if i < s.size then
   if zl7 (bAt s i) then splitN n s (i+1)
   else if zib (bAt s i) (bAt s (i+1))=0 then none
   else if 6 < znk s i (zib (bAt s i) (bAt s (i+1))) - i then none
   else(splitN n s (znk s i (zib (bAt s i) (bAt s (i+1))))).map ((zib (bAt s i) (bAt s (i+1)),s.extract i (znk s i (zib (bAt s i) (bAt s (i+1)))))::·)
  else some []
def splitB(s:ByteArray):Option (List (Int × ByteArray)):=splitN s.size s 0
theorem zv8{n:Nat}{s:ByteArray}{i:Nat}(h:¬ i < s.size):splitN n s i=some []:=by cases n <;> simp[splitN,h]
theorem zt4{n:Nat}{s:ByteArray}{i:Nat}(h:i < s.size)(hb:zl7 (bAt s i)=true):splitN (n+1) s i=splitN n s (i+1):=by simp[splitN,h,hb]
theorem zv7{n:Nat}{s:ByteArray}{i:Nat}(h:i < s.size)(hb:zl7 (bAt s i)=false)(hk:zib (bAt s i) (bAt s (i+1))=0):splitN (n+1) s i=none:=by simp[splitN,h,hb,hk]
theorem zv6{n:Nat}{s:ByteArray}{i:Nat}{k:Int}(h:i < s.size)(hb:zl7 (bAt s i)=false)(hk:zib (bAt s i) (bAt s (i+1))=k)(hl:6 < znk s i k - i):splitN (n+1) s i=none:=by
 subst hk;simp[splitN,h,hb,hl]
theorem zv9{n:Nat}{s:ByteArray}{i:Nat}{k:Int}(h:i < s.size)(hb:zl7 (bAt s i)=false)(hk:zib (bAt s i) (bAt s (i+1))=k)(hk0:k≠0)(hl:¬ 6 < znk s i k - i) :
  splitN (n+1) s i=(splitN n s (znk s i k)).map ((k,s.extract i (znk s i k))::·):=by
 subst hk;simp[splitN,h,hb,hl,hk0]
theorem zxa{α:Type}(o:Option (List α))(acc:List α)(x:α):(o.map (x::·)).map (acc++·)=o.map ((acc++[x])++·):=by cases o <;> simp
theorem zx9(s:ByteArray):∀(n i:Nat) (r:List UInt8),s.size - i<=n->ByteArray.toList.loop s i r=r.reverse++s.data.toList.drop i:=by
 intro n
 induction n with
 |zero =>
  intro i r h
  rw[ByteArray.toList.loop,if_neg (by omega),List.drop_eq_nil_of_le (by rw[Array.length_toList];show s.size<=i;omega),List.append_nil]
 |succ n ih =>
  intro i r h
  rw[ByteArray.toList.loop]
  split
  ·rename_i hi
   rw[ih (i+1) _ (by omega)]
   have hd:i < s.data.toList.length:=by rw[Array.length_toList];exact hi
   rw[List.drop_eq_getElem_cons hd]
   simp[ByteArray.get!,hi]
  ·rw[List.drop_eq_nil_of_le (by rw[Array.length_toList];show s.size<=i;omega),List.append_nil]
theorem zl8(s:ByteArray):s.toList=s.data.toList:=by
 rw[ByteArray.toList,zx9 s _ 0 [] (Nat.le_refl _)];simp
theorem toList_inj{a b:ByteArray}(h:a.toList=b.toList):a=b:=by
 rw[zl8,zl8] at h;exact Go.WideShapes.bytes_inj h
theorem z6o(a b:ByteArray):(a.toList == b.toList)=decide (a=b):=by
 by_cases h:a=b
 ·subst h;simp
 ·rw[decide_eq_false h,beq_eq_false_iff_ne];exact fun k=>h (toList_inj k)
theorem zf0{a b:ByteArray}(h:a=b):(a.toList == b.toList)=true:=by rw[z6o];simpa using h
theorem zfh{a b:ByteArray}(h:a≠b):(a.toList == b.toList)=false:=by rw[z6o];simpa using h
def za6(t:ByteArray):Bool:=z6j (bAt t 0)
def zo0(t:ByteArray):List ByteArray->Bool
 |[]=>false
 |x::r=>decide (x=t) || zo0 t r
theorem zfy{t:ByteArray}:∀ {vs:List ByteArray},zo0 t vs=true↔t∈vs
 |[]=>by simp[zo0]
 |x::r=>by simp only[zo0,Bool.or_eq_true,decide_eq_true_eq,List.mem_cons,zfy (vs:=r)];constructor <;> (rintro(h|h) <;> simp[h])
theorem zvm{t:ByteArray}{vs:List ByteArray}:zo0 t vs=false↔t∉vs:=by rw[← zfy];simp
def zrq(vs:List ByteArray)(t:ByteArray):List ByteArray:=if za6 t && !zo0 t vs then vs++[t] else vs
def zew(vs args:List ByteArray):List ByteArray:=args.foldl zrq vs
theorem z3z(vs:List ByteArray)(t:ByteArray):(zrq vs t).length<=vs.length+1:=by unfold zrq;split <;> simp
theorem zkk(args:List ByteArray):∀ vs:List ByteArray,(zew vs args).length<=vs.length+args.length:=by
 induction args with
 |nil=>intro vs;simp[zew]
 |cons a r ih=>intro vs;have:=ih (zrq vs a);have:=z3z vs a;simp only[zew,List.foldl_cons,List.length_cons] at *;omega
set_option maxRecDepth 100000
set_option maxHeartbeats 400000
theorem zhy(c:Int)(w:World) :
  Calls Tryz.prog 59 #[.int .u8 c] w fun e w'=>e=.returned (.bool (zl7 c))/\w'=w:=by
 go_enter Tryz.func59,Tryz.ntmps59
 go_wp2
 all_goals go_ret
 all_goals exact⟨by simp[zl7, *],rfl⟩
theorem zns(c:Int)(w:World) :
  Calls Tryz.prog 110 #[.int .u8 c] w fun e w'=>e=.returned (.bool (zr6 c))/\w'=w:=by
 go_enter Tryz.func110,Tryz.ntmps110
 go_wp2
 all_goals go_ret
 all_goals exact⟨by simp[zr6, *] <;> omega,rfl⟩
theorem zkw(c:Int)(w:World) :
  Calls Tryz.prog 111 #[.int .u8 c] w fun e w'=>e=.returned (.bool (z6j c))/\w'=w:=by
 go_enter Tryz.func111,Tryz.ntmps111
 go_wp2
 all_goals go_ret
 all_goals exact⟨by simp[z6j, *] <;> omega,rfl⟩
theorem zgt(c:Int)(w:World) :
  Calls Tryz.prog 112 #[.int .u8 c] w fun e w'=>e=.returned (.bool (zu3 c))/\w'=w:=by
 go_enter Tryz.func112,Tryz.ntmps112
 go_wp2
 all_goals go_ret
 all_goals exact⟨by simp[zu3, *] <;> omega,rfl⟩
theorem zez(c:Int)(w:World) :
  Calls Tryz.prog 129 #[.int .u8 c] w fun e w'=>e=.returned (.bool (bLD c))/\w'=w:=by
 go_enter Tryz.func129,Tryz.ntmps129
 go_wp2_with (first|(go_at_call 110;refine(zns _ _).mono ?_;rintro e w' ⟨rfl,rfl⟩)|(go_at_call 111;refine(zkw _ _).mono ?_;rintro e w' ⟨rfl,rfl⟩)|(go_at_call 112;refine(zgt _ _).mono ?_;rintro e w' ⟨rfl,rfl⟩))
 all_goals go_ret
 all_goals exact⟨by simp[bLD, *],rfl⟩
theorem zpc(s:ByteArray)(i:Int)(w:World)(hi:0<=i)(_:s.size<=500) :
  Calls Tryz.prog 85 #[.string s,.int .i64 i] w fun e w'=>e=.returned (.int .u8 (bAt s i.toNat))/\w'=w:=by
 obtain⟨i,rfl⟩:=Int.eq_ofNat_of_zero_le hi
 rw[Int.toNat_natCast]
 by_cases h:i < s.size
 ·rw[zr5 h]
  go_enter Tryz.func85,Tryz.ntmps85
  go_wp2
  all_goals go_ret
  all_goals exact⟨rfl,rfl⟩
 ·rw[z0j h]
  go_enter Tryz.func85,Tryz.ntmps85
  go_wp2
  all_goals go_ret
  all_goals exact⟨rfl,rfl⟩
theorem zzr(c:Int)(w:World) :
  Calls Tryz.prog 113 #[.int .u8 c] w fun e w'=>e=.returned (.int .i64 (z4c c))/\w'=w:=by
 go_enter Tryz.func113,Tryz.ntmps113
 go_wp2
 all_goals go_ret
 all_goals go_light
 all_goals exact⟨by simp_all [z4c],rfl⟩
theorem zps(a b:Int)(w:World) :
  Calls Tryz.prog 86 #[.int .u8 a,.int .u8 b] w fun e w'=>e=.returned (.int .i64 (zib a b))/\w'=w:=by
 go_enter Tryz.func86,Tryz.ntmps86
 go_wp2_with (first|(go_at_call 110;refine(zns _ _).mono ?_;rintro e w' ⟨rfl,rfl⟩)|(go_at_call 111;refine(zkw _ _).mono ?_;rintro e w' ⟨rfl,rfl⟩)|(go_at_call 112;refine(zgt _ _).mono ?_;rintro e w' ⟨rfl,rfl⟩)|(go_at_call 113;refine(zzr _ _).mono ?_;rintro e w' ⟨rfl,rfl⟩))
 all_goals go_ret
 all_goals go_light
 all_goals exact⟨by first|(simp_all [zib];done)|(simp_all [zib,zr6,z6j,zu3];done),rfl⟩
theorem zu9(s:ByteArray)(i:Nat)(w:World)(hs:s.size<=500)(hi:i<=s.size) :
  Calls Tryz.prog 114 #[.string s,.int .i64 i] w fun e w'=>e=.returned (.int .i64 (zc2 bLD s i))/\w'=w:=by
 go_enter Tryz.func114,Tryz.ntmps114
 go_wp2
 go_loop [5] (fun t=>∃ k:Nat,k<=s.size/\t=.int .i64 k/\Hid (zc2 bLD s i=zc2 bLD s k)) (fun t=>s.size - (intOf t).toNat)
 case atStart=>exact⟨i,hi,rfl,rfl⟩
 case round =>
  obtain⟨k,hk,rfl,H⟩:=hrel
  by_cases hlt:k < s.size
  ·have hb:=zr5 hlt
   cases hp:bLD (bAt s k) with
   |true =>
    have H2:Hid (zc2 bLD s i=zc2 bLD s (k+1)):=by rw[Hid.out H,zjd hlt hp];rfl
    rw[hb] at hp
    clear hb
    go_wp2_with (go_at_call 129;refine(zez _ _).mono ?_;rintro e w' ⟨rfl,rfl⟩)
    go_round
    case rel=>exact⟨k+1,by omega,by go_num,H2⟩
    case measure=>simp[intOf];omega
   |false =>
    have H2:Hid (zc2 bLD s i=k):=by rw[Hid.out H,zof hp];rfl
    rw[hb] at hp
    clear hb
    go_wp2_with (go_at_call 129;refine(zez _ _).mono ?_;rintro e w' ⟨rfl,rfl⟩)
    go_ret
    exact⟨by rw[Hid.out H2];rfl,rfl⟩
  ·have H2:Hid (zc2 bLD s i=k):=by rw[Hid.out H,zh5 hlt];rfl
   go_wp2_with (go_at_call 129;refine(zez _ _).mono ?_;rintro e w' ⟨rfl,rfl⟩)
   go_ret
   exact⟨by rw[Hid.out H2];rfl,rfl⟩
theorem zsi(s:ByteArray)(i:Nat)(w:World)(hs:s.size<=500)(hi:i<=s.size) :
  Calls Tryz.prog 115 #[.string s,.int .i64 i] w fun e w'=>e=.returned (.int .i64 (zc2 zu3 s i))/\w'=w:=by
 go_enter Tryz.func115,Tryz.ntmps115
 go_wp2
 go_loop [5] (fun t=>∃ k:Nat,k<=s.size/\t=.int .i64 k/\Hid (zc2 zu3 s i=zc2 zu3 s k)) (fun t=>s.size - (intOf t).toNat)
 case atStart=>exact⟨i,hi,rfl,rfl⟩
 case round =>
  obtain⟨k,hk,rfl,H⟩:=hrel
  by_cases hlt:k < s.size
  ·have hb:=zr5 hlt
   cases hp:zu3 (bAt s k) with
   |true =>
    have H2:Hid (zc2 zu3 s i=zc2 zu3 s (k+1)):=by rw[Hid.out H,zjd hlt hp];rfl
    rw[hb] at hp
    clear hb
    go_wp2_with (go_at_call 112;refine(zgt _ _).mono ?_;rintro e w' ⟨rfl,rfl⟩)
    go_round
    case rel=>exact⟨k+1,by omega,by go_num,H2⟩
    case measure=>simp[intOf];omega
   |false =>
    have H2:Hid (zc2 zu3 s i=k):=by rw[Hid.out H,zof hp];rfl
    rw[hb] at hp
    clear hb
    go_wp2_with (go_at_call 112;refine(zgt _ _).mono ?_;rintro e w' ⟨rfl,rfl⟩)
    go_ret
    exact⟨by rw[Hid.out H2];rfl,rfl⟩
  ·have H2:Hid (zc2 zu3 s i=k):=by rw[Hid.out H,zh5 hlt];rfl
   go_wp2_with (go_at_call 112;refine(zgt _ _).mono ?_;rintro e w' ⟨rfl,rfl⟩)
   go_ret
   exact⟨by rw[Hid.out H2];rfl,rfl⟩
theorem zsj(s:ByteArray)(i:Nat)(k:Int)(w:World)(hs:s.size<=500)(hi:i<=s.size) :
  Calls Tryz.prog 87 #[.string s,.int .i64 i,.int .i64 k] w fun e w'=>e=.returned (.int .i64 (znk s i k))/\w'=w:=by
 go_enter Tryz.func87,Tryz.ntmps87
 go_wp2_with (first|(go_at_call 114;refine(zu9 _ _ _ hs hi).mono ?_;rintro e w' ⟨rfl,rfl⟩)|(go_at_call 115;refine(zsi _ _ _ hs hi).mono ?_;rintro e w' ⟨rfl,rfl⟩))
 all_goals go_ret
 all_goals go_light
 all_goals exact⟨by simp_all [znk],rfl⟩
set_option maxHeartbeats 1000000
theorem z3o(s:ByteArray)(i:Nat)(w:World)(hs:s.size<=500)(hi:i < s.size)(hk:zib (bAt s i) (bAt s (i+1))=0) :
  Calls Tryz.prog 60 #[.string s,.int .i64 i] w fun e w'=>e=.returned (.agg #[.int .i64 0,.string ByteArray.empty])/\Below w.heap.size w w':=by
 have he:znk s i 0=i:=rfl
 have e1:((i:Int)+1).toNat=i+1:=by omega
 go_enter Tryz.func60,Tryz.ntmps60
 go_wp2_with (first|(go_at_call 85;refine(zpc s _ _ (by omega) hs).mono ?_;rintro e w' ⟨rfl,rfl⟩)|(go_at_call 86;refine(zps _ _ _).mono ?_;rintro e w' ⟨rfl,rfl⟩)|(go_at_call 87;refine(zsj s i _ _ hs (by omega)).mono ?_;rintro e w' ⟨rfl,rfl⟩))
 go_returns
 exact⟨rfl,by go_grown⟩
theorem zz2(s:ByteArray)(i:Nat)(k:Int)(w:World)(hs:s.size<=500)(hi:i < s.size)(hk:zib (bAt s i) (bAt s (i+1))=k) 
  (he1:i < znk s i k) (he2:znk s i k<=s.size) :
  Calls Tryz.prog 60 #[.string s,.int .i64 i] w fun e w'=>e=.returned (.agg #[.int .i64 k,.string (s.extract i (znk s i k))])/\Below w.heap.size w w':=by
 have e1:((i:Int)+1).toNat=i+1:=by omega
 go_enter Tryz.func60,Tryz.ntmps60
 go_wp2_with (first|(go_at_call 85;refine(zpc s _ _ (by omega) hs).mono ?_;rintro e w' ⟨rfl,rfl⟩)|(go_at_call 86;refine(zps _ _ _).mono ?_;rintro e w' ⟨rfl,rfl⟩)|(go_at_call 87;refine(zsj s i _ _ hs (by omega)).mono ?_;rintro e w' ⟨rfl,rfl⟩)|(refine zop _ rfl (.tmp 41) 9 119 5 rfl Tryz.underlying9 Tryz.underlying119 Tryz.underlying5 _ rfl ?_;intro cap w1 hc1 hb1;obtain⟨hcc,hff⟩:=z8q hb1;have hz:=hb1.size;simp only[World.size_alloc] at hz)|(refine zmq _ rfl (.tmp 42) 119 9 5 rfl Tryz.underlying119 Tryz.underlying5 Tryz.underlying9 _ _ _ rfl ?_ ?_;(first|exact hc1|fail)))
 have hB:Below w.heap.size w w1:=zae ((Below.refl _ _).alloc (Nat.le_refl _) _) hb1 (Nat.le_refl _)
 exact bodyPost_ret (v:=.agg #[.int .i64 k,.string (s.extract i (znk s i k))]) (by simp[results,Tryz.results60,go_sem,hcc]) rfl ⟨rfl,by go_grown⟩
def zgd(l:List (Int × ByteArray)):List Value:=l.flatMap fun x=>[.int .i64 x.1,.string x.2]
theorem zwj(l:List (Int × ByteArray))(k:Int)(t:ByteArray):zgd (l++[(k,t)])=zgd l++[.int .i64 k,.string t]:=by simp[zgd]
theorem Tryz.infoWord:(Tryz.prog.info? 129).map (fun i=>(i.zero,i.size,i.bytes))=some (some (.agg #[.int .i64 0,.string ByteArray.empty]),2,24):=by kernel_rfl
def zih(s:ByteArray)(w:World)(e:Ending)(w':World):Prop :=
 Below w.heap.size w w'/\match splitB s with
  |none=>e=.returned (.tuple #[.slice none 0 0,.bool false])
  |some l=>∃ v,e=.returned (.tuple #[v,.bool true])/\w'.ownsRow w.heap.size 129 2 v l.length (zgd l)/\l.length<=s.size
theorem zjr{s:ByteArray}{w w':World}(h:Hid (splitB s=none))(hb:Below w.heap.size w w'):zih s w (.returned (.tuple #[.slice none 0 0,.bool false])) w':=by
 have h':splitB s=none:=h
 unfold zih;rw[h'];exact⟨hb,rfl⟩
theorem zo4{s:ByteArray}{w w':World}{v:Value}{l:List (Int × ByteArray)}(h:Hid (splitB s=some l))(hb:Below w.heap.size w w')(ho:w'.ownsRow w.heap.size 129 2 v l.length (zgd l))(hl:l.length<=s.size) :
  zih s w (.returned (.tuple #[v,.bool true])) w':=by
 have h':splitB s=some l:=h
 unfold zih;rw[h'];exact⟨hb,v,rfl,ho,hl⟩
theorem zt5(s:ByteArray)(w:World)(hs:s.size<=500) :
  Calls Tryz.prog 37 #[.string s] w fun e w'=>zih s w e w':=by
 obtain⟨i0,hi,hz0,hz1,hz2⟩:=info_parts Tryz.infoWord
 go_enter Tryz.func37,Tryz.ntmps37
 go_wp2
 go_loopw [4,5] (fun v t wr=>∃(k:Nat) (acc:List (Int × ByteArray)) (m:Nat),k<=s.size/\t=.int .i64 k/\s.size - k<=m/\Hid (splitB s=(splitN m s k).map (acc++·))/\acc.length<=k ∧
   wr.ownsRow w.heap.size 129 2 v acc.length (zgd acc)/\Below w.heap.size w wr) (fun _ t _=>s.size - (intOf t).toNat)
 case atStart=>exact⟨0,[],s.size,Nat.zero_le _,rfl,by omega,(by simp[splitB,Hid]),Nat.le_refl _,World.ownsRow_nil _ _ _ _,Below.refl _ _⟩
 case round =>
  obtain⟨k,acc,m,hk,rfl,hm,H,hal,hown,hbel⟩:=hrel
  by_cases hlt:k < s.size
  ·have hb:=zr5 hlt
   obtain⟨m,rfl⟩:∃ m',m=m'+1:=⟨m - 1,by omega⟩
   cases hp:zl7 (bAt s k) with
   |true =>
    have H2:Hid (splitB s=(splitN m s (k+1)).map (acc++·)):=by rw[← zt4 hlt hp];exact H
    rw[hb] at hp
    clear hb H
    go_wp2_with (go_at_call 59;refine(zhy _ _).mono ?_;rintro e w' ⟨rfl,rfl⟩)
    go_roundw
    case rel=>exact⟨k+1,acc,m,by omega,by go_num,by omega,H2,by omega,hown,hbel⟩
    case measure=>simp[intOf];omega
   |false =>
    by_cases hk0:zib (bAt s k) (bAt s (k+1))=0
    ·have H2:Hid (splitB s=none):=by rw[Hid.out H,zv7 hlt hp hk0];simp[Hid]
     have hw:=z3o s k wr hs hlt hk0
     rw[hb] at hp
     clear hb H hk0
     go_wp2_with (first|(go_at_call 59;refine(zhy _ _).mono ?_;rintro e w' ⟨rfl,rfl⟩)|(go_at_call 60;refine hw.mono ?_;rintro e w1 ⟨rfl,hb1⟩;clear hw;have hB:=zae hbel hb1 (Nat.le_refl _);have hBs:=hB.size))
     go_ret2
     exact zjr H2 (by go_grown)
    ·obtain⟨kd,hkd⟩:∃ kd,zib (bAt s k) (bAt s (k+1))=kd:=⟨_,rfl⟩
     have hkz:kd≠0:=by rw[← hkd];exact hk0
     obtain⟨he1,he2⟩:=z04 s k kd hlt hkd hkz
     have hw:=zz2 s k kd wr hs hlt hkd he1 he2
     by_cases hl:6 < znk s k kd - k
     ·have H2:Hid (splitB s=none):=by rw[Hid.out H,zv6 hlt hp hkd hl];simp[Hid]
      rw[hb] at hp
      clear hb H hk0 hkd
      generalize znk s k kd=en at *
      have htx:(s.extract k en).size=en - k:=by rw[ByteArray.size_extract];omega
      generalize s.extract k en=tx at *
      have hbeq:(kd == 0)=false:=by simpa using hkz
      go_wp2_with (first|(go_at_call 59;refine(zhy _ _).mono ?_;rintro e w' ⟨rfl,rfl⟩)|(go_at_call 60;refine hw.mono ?_;rintro e w1 ⟨rfl,hb1⟩;clear hw;have hB:=zae hbel hb1 (Nat.le_refl _);have hBs:=hB.size))
      go_ret2
      exact zjr H2 (by go_grown)
     ·have H2:Hid (splitB s=(splitN m s (znk s k kd)).map ((acc++[(kd,s.extract k (znk s k kd))])++·)):=by rw[Hid.out H,zv9 hlt hp hkd hkz hl,zxa];rfl
      rw[hb] at hp
      clear hb H hk0 hkd
      generalize znk s k kd=en at *
      have htx:(s.extract k en).size=en - k:=by rw[ByteArray.size_extract];omega
      generalize s.extract k en=tx at *
      have hbeq:(kd == 0)=false:=by simpa using hkz
      go_wp2_with (first|(go_at_call 59;refine(zhy _ _).mono ?_;rintro e w' ⟨rfl,rfl⟩)|(go_at_call 60;refine hw.mono ?_;rintro e w1 ⟨rfl,hb1⟩;clear hw;have hB:=zae hbel hb1 (Nat.le_refl _);have hBs:=hB.size;have ho1:=zaa hown hb1)|(at_builtin;refine zgy w1 _ _ _ rfl (.tmp 29) (.tmp 31) 75 rfl w.heap.size 129 i0 _ 2 24 Tryz.underlying75 hi hz0 hz1 hz2 rfl (by decide) _ _ _ rfl ho1 ((Below.refl _ _).alloc (Nat.le_refl _) _) _ _ rfl (by simp) rfl (by simp[Value.oneCell']) (by omega) (by omega) (by omega) ?_;intro v' w2 ho2 hB2 hc2 hf2 hk2 hz2';simp only[World.size_alloc] at hc2 hf2 hz2'))
      go_roundw
      case rel=>exact⟨en,acc++[(kd,tx)],m,by omega,by go_num,by omega,H2,by simp;omega,by rw[List.length_append,zwj];exact ho2,hB.trans hB2⟩
      case measure=>simp[intOf];omega
  ·have H2:Hid (splitB s=some acc):=by rw[Hid.out H,zv8 hlt];simp[Hid]
   clear H
   go_wp2
   go_ret2
   exact zo4 H2 hbel hown (by omega)
end Go.Proofs.YteampbddflhngabGreat
namespace Go.Proofs.YteampbddflhngabGreat
open Go.RowKit
variable {lo:Nat}
abbrev Tok:=Int × ByteArray
structure zbz where
 neg:Bool
 pred:ByteArray
 args:List ByteArray
structure zab where
 head:zbz
 body:List zbz
def isT(k:Int):Bool:=k == 1 || k == 3 || k == 2
def hdK:List Tok->Int
 |[]=>0
 |x::_=>x.1
def zbr:List Tok->Option (List ByteArray × List Tok)
 |[]=>none
 |[x]=>if isT x.1 then some ([x.2],[]) else none
 |x::y::r=>if isT x.1 then(if y.1=6 then(zbr r).map fun z=>(x.2::z.1,z.2) else some ([x.2],y::r)) else none
theorem z2k{k:Int}{t:ByteArray}{r:List Tok}(h:isT k=false):zbr ((k,t)::r)=none:=by cases r <;> simp[zbr,h]
theorem zvx{k:Int}{t:ByteArray}{r:List Tok}(h:isT k=true)(h6:hdK r≠6):zbr ((k,t)::r)=some ([t],r):=by
 cases r with
 |nil=>simp[zbr,h]
 |cons y r=>simp only[hdK] at h6;simp[zbr,h,h6]
theorem zvw{k:Int}{t:ByteArray}{r:List Tok}(h:isT k=true)(h6:hdK r=6):zbr ((k,t)::r)=(zbr r.tail).map fun z=>(t::z.1,z.2):=by
 cases r with
 |nil=>simp[hdK] at h6
 |cons y r=>simp only[hdK] at h6;simp[zbr,h,h6]
def zed(r:List Tok):Option (zbz × List Tok) :=
 if hdK r=1 then
  if hdK r.tail=4 then
   match zbr r.tail.tail with
   |none=>none
   |some (ts,r2)=>if hdK r2=5 then some (⟨false,(r.headD (0,ByteArray.empty)).2,ts⟩,r2.tail) else none
  else some (⟨false,(r.headD (0,ByteArray.empty)).2,[]⟩,r.tail)
 else none
def zrt(r:List Tok):Option (zbz × List Tok) :=
 if hdK r=8 then(zed r.tail).map fun z=>({ z.1 with neg:=true },z.2) else zed r
structure But (r:Nat) (w w':World):Prop where
 os:w'.os=w.os
 tape:w'.tape=w.tape
 output:w'.output=w.output
 size:w.heap.size<=w'.heap.size
 block:∀ k,k < w.heap.size->k≠r->w'.heap[k]?=w.heap[k]?
theorem But.refl(r:Nat)(w:World):But r w w:=⟨rfl,rfl,rfl,Nat.le_refl _,fun _ _ _=>rfl⟩
theorem But.trans{r:Nat}{a b c:World}(h:But r a b)(k:But r b c):But r a c :=
 ⟨k.os.trans h.os,k.tape.trans h.tape,k.output.trans h.output,Nat.le_trans h.size k.size,fun i hi hr=>(k.block i (Nat.lt_of_lt_of_le hi h.size) hr).trans (h.block i hi hr)⟩
theorem But.of{r:Nat}{w w':World}(h:Below w.heap.size w w'):But r w w':=⟨h.os,h.tape,h.output,h.size,fun k hk _=>h.block k hk⟩
theorem But.below{r B:Nat}{w w':World}(h:But r w w')(hr:B<=r)(hB:B<=w.heap.size):Below B w w':=⟨h.os,h.tape,h.output,h.size,fun k hk=>h.block k (by omega) (by omega)⟩
theorem But.setCell{r:Nat}{a w:World}(h:But r a w)(o:Nat)(u:Value):But r a (w.setCell ⟨r,o,none⟩ u) :=
 h.trans ⟨rfl,rfl,rfl,by simp[World.setCell],fun _ _ hr=>Below.heap_setCell _ _ _ _ hr⟩
theorem But.alloc{r:Nat}{a w:World}(h:But r a w)(o:Obj):But r a (w.alloc o):=h.trans (But.of ((Below.refl _ _).alloc (Nat.le_refl _) o))
theorem But.setNew{r:Nat}{a w:World}(h:But r a w){p:Addr}(hp:a.heap.size<=p.block)(u:Value):But r a (w.setCell p u) :=
 ⟨h.os,h.tape,h.output,by simp[World.setCell];exact h.size,fun k hk hr=>(Below.heap_setCell _ _ _ _ (by omega)).trans (h.block k hk hr)⟩
theorem zb8{r:Nat}{w w':World}{base:Nat}{e:TypeId}{size:Nat}{v:Value}{n:Nat}{xs:List Value}(h:w.ownsRow base e size v n xs)(hb:But r w w')
  {c:Array Value} {T:TypeId} {f:Nat × Nat} (hr:w.heap[r]?=some (.cells c T f)) (hT:T≠e):w'.ownsRow base e size v n xs:=by
 obtain⟨h1,h2⟩:=h
 refine⟨h1,?_⟩
 rcases h2 with h2|⟨g,cap,cur,hv,hg,hh,rr⟩
 ·exact Or.inl h2
 ·refine Or.inr ⟨g,cap,cur,hv,hg,?_,rr⟩
  rw[hb.block g (Array.getElem?_eq_some_iff.1 hh).1 (fun hgr=>by subst hgr;rw[hh] at hr;simp at hr;exact hT hr.2.1.symm)];exact hh
theorem zac{w:World}{base:Nat}{e:TypeId}{size:Nat}{v:Value}{n:Nat}{xs:List Value}(h:w.ownsRow base e size v n xs):∃ ao cap,v=.slice ao n cap:=by
 obtain⟨_,⟨hv,hn⟩|⟨g,cap,cur,hv,_⟩⟩:=h
 ·exact⟨none,0,by rw[hv,hn]⟩
 ·exact⟨_,cap,hv⟩
theorem zas{w:World}{base:Nat}{e:TypeId}{size:Nat}{v:Value}{n:Nat}{xs:List Value}(h:w.ownsRow base e size v n xs)(hn:0 < n) :
  ∃ g cap,v=.slice (some ⟨g,0,none⟩) n cap/\base<=g/\g < w.heap.size/\∀ j u,xs[j]?=some u->w.cell? ⟨g,j,none⟩=some u:=by
 obtain⟨hl,⟨hv,h0⟩|⟨g,cap,cur,hv,hg,hh,hc1,hc2,hc3,hx⟩⟩:=h
 ·omega
 ·refine⟨g,cap,hv,hg,(Array.getElem?_eq_some_iff.1 hh).1,fun j u hj=>?_⟩
  unfold World.cell?
  rw[hh]
  simp
  rw[← hx,List.getElem?_take] at hj
  split at hj
  ·simpa using hj
  ·simp at hj
def Box(w:World)(b:Nat)(c:Array Value)(T:TypeId):Prop:=w.heap[b]?=some (.cells c T (0,0))
theorem Box.lt{w:World}{b:Nat}{c:Array Value}{T:TypeId}(h:Box w b c T):b < w.heap.size:=(Array.getElem?_eq_some_iff.1 h).1
theorem Box.new(w:World)(c:Array Value)(T:TypeId):Box (w.alloc (.cells c T)) w.heap.size c T:=by unfold Box;show(w.heap.push _)[w.heap.size]?=_;simp
theorem Box.below{w w':World}{b:Nat}{c:Array Value}{T:TypeId}(h:Box w b c T)(hb:Below w.heap.size w w'):Box w' b c T:=by have:=h.lt;unfold Box at *;rw[hb.block b this];exact h
theorem Box.but{r:Nat}{w w':World}{b:Nat}{c:Array Value}{T:TypeId}(h:Box w b c T)(hb:But r w w')(hne:b≠r):Box w' b c T:=by have:=h.lt;unfold Box at *;rw[hb.block b this hne];exact h
theorem Box.rules{w:World}{b:Nat}{c:Array Value}{T:TypeId}(h:Box w b c T):(∀ o,w.cell? ⟨b,o,none⟩=c[o]?)/\(∀ o,w.frozen? ⟨b,o,none⟩=false):=by
 unfold Box at h
 exact⟨fun o=>by unfold World.cell?;rw[h];simp,fun o=>by unfold World.frozen?;rw[h];simp⟩
def SIn(lo:Nat)(w:World)(v:Value)(l:List ByteArray):Prop:=w.ownsRow lo 9 1 v l.length (l.map Value.string)
theorem zbe{w:World}{a b:Nat}{e:TypeId}{size:Nat}{v:Value}{n:Nat}{xs:List Value}(h:w.ownsRow b e size v n xs)(hab:a<=b):w.ownsRow a e size v n xs:=by
 obtain⟨h1,h2⟩:=h
 refine⟨h1,?_⟩
 rcases h2 with h2|⟨g,cap,cur,hv,hg,rr⟩
 ·exact Or.inl h2
 ·exact Or.inr ⟨g,cap,cur,hv,by omega,rr⟩
theorem SIn.low{a b:Nat}{w:World}{v:Value}{l:List ByteArray}(h:SIn b w v l)(hab:a<=b):SIn a w v l:=zbe h hab
theorem SIn.nil(w:World):SIn lo w (.slice none 0 0) []:=World.ownsRow_nil _ _ _ _
theorem SIn.shape{w:World}{v:Value}{l:List ByteArray}(h:SIn lo w v l):∃ ao cap,v=.slice ao l.length cap:=zac h
theorem SIn.below{w w':World}{v:Value}{l:List ByteArray}(h:SIn lo w v l)(hb:Below w.heap.size w w'):SIn lo w' v l:=zaa h hb
theorem SIn.but{r:Nat}{w w':World}{v:Value}{l:List ByteArray}(h:SIn lo w v l)(hb:But r w w'){c:Array Value}{T:TypeId}{f:Nat × Nat}(hr:w.heap[r]?=some (.cells c T f))(hT:T≠9):SIn lo w' v l:=by
 exact zb8 h hb hr hT
structure Rd (w:World) (r:Nat) (wv:Value) (l rest:List Tok):Prop where
 box:∃ p:Nat,p<=l.length/\rest=l.drop p/\w.heap[r]?=some (.cells #[wv,.int .i64 p] 132 (0,0))
 words:∃ base,w.ownsRow base 129 2 wv l.length (zgd l)
theorem Rd.cell{w:World}{r:Nat}{wv:Value}{l rest:List Tok}(h:Rd w r wv l rest):∃ c f,w.heap[r]?=some (.cells c 132 f):=by
 obtain⟨p,_,_,hh⟩:=h.box;exact⟨_,_,hh⟩
theorem Rd.lt{w:World}{r:Nat}{wv:Value}{l rest:List Tok}(h:Rd w r wv l rest):r < w.heap.size:=by
 obtain⟨p,_,_,hh⟩:=h.box;exact(Array.getElem?_eq_some_iff.1 hh).1
theorem Rd.below{w w':World}{r:Nat}{wv:Value}{l rest:List Tok}(h:Rd w r wv l rest)(hb:Below w.heap.size w w'):Rd w' r wv l rest:=by
 have hlt:=h.lt
 obtain⟨⟨p,h1,h2,h3⟩,b,h4⟩:=h
 exact⟨⟨p,h1,h2,by rw[hb.block r hlt];exact h3⟩,b,zaa h4 hb⟩
theorem z3m(l:List Tok)(p:Nat)(k:Int)(t:ByteArray)(r:List Tok)(h:(k,t)::r=l.drop p):(zgd l)[p * 2]?=some (.int .i64 k)/\(zgd l)[p * 2+1]?=some (.string t):=by
 induction l generalizing p with
 |nil=>simp at h
 |cons x l ih =>
  cases p with
  |zero=>simp at h;obtain⟨rfl,_⟩:=h;simp[zgd]
  |succ p =>
   have:=ih p (by simpa using h)
   simp only[zgd,List.flatMap_cons] at this ⊢
   rw[show(p+1) * 2=p * 2+1+1 from by omega]
   simpa using this
theorem Rd.view{w:World}{r:Nat}{wv:Value}{l rest:List Tok}(h:Rd w r wv l rest):∃(p:Nat) (ao:Option Addr) (cap:Nat),p<=l.length/\rest=l.drop p/\wv=.slice ao l.length cap ∧
  w.heap[r]?=some (.cells #[wv,.int .i64 p] 132 (0,0))/\w.cell? ⟨r,0,none⟩=some wv/\w.cell? ⟨r,1,none⟩=some (.int .i64 p)/\(∀ o,w.frozen? ⟨r,o,none⟩=false) ∧
  (∀ k t r',rest=(k,t)::r'->∃ g,ao=some ⟨g,0,none⟩/\g < w.heap.size/\p < l.length/\w.cell? ⟨g,p * 2,none⟩=some (.int .i64 k)/\w.cell? ⟨g,p * 2+1,none⟩=some (.string t)):=by
 obtain⟨⟨p,h1,h2,h3⟩,b,h4⟩:=h
 obtain⟨ao,cap,hv⟩:=zac h4
 refine⟨p,ao,cap,h1,h2,hv,h3,by unfold World.cell?;rw[h3];simp,by unfold World.cell?;rw[h3];simp,fun o=>by unfold World.frozen?;rw[h3];simp,?_⟩
 intro k t r' hr
 have hp:p < l.length:=by
  rcases Nat.lt_or_ge p l.length with h|h
  ·exact h
  ·rw[List.drop_eq_nil_of_le h] at h2;rw[h2] at hr;cases hr
 obtain⟨g,cap',hv',_,hg,hc⟩:=zas h4 (by omega)
 rw[hv] at hv'
 simp at hv'
 obtain⟨w1,w2⟩:=z3m l p k t r' (by rw[← hr,h2])
 exact⟨g,hv'.1,hg,hp,hc _ _ w1,hc _ _ w2⟩
theorem Rd.keep{w wO w2:World}{r:Nat}{wv:Value}{l rest0 rest:List Tok}(h0:Rd w r wv l rest0)(h:Rd wO r wv l rest)(hb:Below w.heap.size wO w2):Rd w2 r wv l rest:=by
 have hlt:=h0.lt
 obtain⟨_,b0,_,hw0⟩:=h0
 obtain⟨⟨p,h1,h2,h3⟩,b,hl,hw⟩:=h
 refine⟨⟨p,h1,h2,by rw[hb.block r hlt];exact h3⟩,b,hl,?_⟩
 rcases hw with hw|⟨g,cap,cur,hv,hg,hh,rr⟩
 ·exact Or.inl hw
 ·refine Or.inr ⟨g,cap,cur,hv,hg,?_,rr⟩
  rcases hw0 with ⟨hv0,_⟩|⟨g0,cap0,cur0,hv0,_,hh0,_⟩
  ·rw[hv0] at hv;cases hv
  ·rw[hv0] at hv;simp at hv;obtain⟨rfl,rfl⟩:=hv
   rw[hb.block g0 (Array.getElem?_eq_some_iff.1 hh0).1];exact hh
theorem But.onto{r:Nat}{a b c:World}(h:But r a b)(k:Below a.heap.size b c):But r a c :=
 ⟨k.os.trans h.os,k.tape.trans h.tape,k.output.trans h.output,Nat.le_trans h.size k.size,fun i hi hr=>(k.block i hi).trans (h.block i hi hr)⟩
theorem Rd.next{w:World}{r:Nat}{wv:Value}{l rest:List Tok}{p:Nat}(h3:w.heap[r]?=some (.cells #[wv,.int .i64 p] 132 (0,0)))(hp:p < l.length)(h2:rest=l.drop p)
  (hw:∃ base,w.ownsRow base 129 2 wv l.length (zgd l)):Rd (w.setCell ⟨r,1,none⟩ (.int .i64 ((p:Int)+1))) r wv l rest.tail:=by
 refine⟨⟨p+1,hp,by rw[h2,List.tail_drop],?_⟩,?_⟩
 ·simp[World.setCell,Array.getElem?_modify,h3]
 ·obtain⟨b,hb⟩:=hw
  exact⟨b,zb8 hb ((But.refl r w).setCell 1 _) h3 (by decide)⟩
end Go.Proofs.YteampbddflhngabGreat
