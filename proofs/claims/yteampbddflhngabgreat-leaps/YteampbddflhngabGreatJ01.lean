import Derived.WalkKit
import Derived.WalkSpells
import Derived.WalkLawsBesides
import Derived.Deep.Light
import Derived.Handy
import Derived.Laws.IdiomStrings
import Derived.WalkSmall
import Derived.WideShapes
import Derived.Test.YteampbddflhngabGreatProg

namespace Go.Proofs.YteampbddflhngabGreat
open Go.RowKit
theorem z7o{W w1:World}(hb:Below W.heap.size W w1):(∀ b o,b < W.heap.size->w1.cell? ⟨b,o,none⟩=W.cell? ⟨b,o,none⟩)/\(∀ b o,b < W.heap.size->w1.frozen? ⟨b,o,none⟩=W.frozen? ⟨b,o,none⟩) :=
 ⟨fun b o h=>hb.cell (p:=⟨b,o,none⟩) h,fun b o h=>hb.frozen (p:=⟨b,o,none⟩) h⟩
theorem zax{B:Nat}{a w:World}(h:Below B a w)(n:Nat):Below B a (w.drewN n):=below_drewN h n
abbrev zR:=@Below.refl
abbrev zN:=@zax
abbrev zA:=@Below.alloc
abbrev zD:=@Below.drew
abbrev zS:=@Below.setCell
theorem zae{B:Nat}{w w0 w1:World}(h1:Below B w w0)(h2:Below w0.heap.size w0 w1)(hB:B<=w.heap.size):Below B w w1 :=
 h1.trans (h2.mono (Nat.le_trans hB h1.size))
theorem zaa{w w':World}{base:Nat}{e:TypeId}{size:Nat}{v:Value}{n:Nat}{xs:List Value}(h:w.ownsRow base e size v n xs)(hb:Below w.heap.size w w'):w'.ownsRow base e size v n xs:=by
 obtain⟨h1,h2⟩:=h
 refine⟨h1,?_⟩
 rcases h2 with h2|⟨g,cap,cur,hv,hg,hh,r⟩
 ·exact Or.inl h2
 ·refine Or.inr ⟨g,cap,cur,hv,hg,?_,r⟩
  rw[hb.block g (Array.getElem?_eq_some_iff.1 hh).1];exact hh
section
variable {P:Program} {ops:Array Oper} {rest:List Oper} {o:Oper} {a:Act} {Q:Exit->Act->World->Prop}
theorem zgw(wO w0:World)(l:List Value)(te:TypeId)(hg:o.guard=none)(s x:Operand)(t:TypeId)
  (ho:o.op=.call { callee:=.builtin .append,args:=#[s,x],argTypes:=#[t,t] })
  (base:Nat) (e:TypeId) (i:TypeInfo) (z:Value) (size bytes:Nat) (ht:P.underlying t=some (.slice e)) (hi:P.info? e=some i) (hz:i.zero=some z)
  (hsize:i.size=size) (hby:i.bytes=bytes) (hzs:z.cells.size=size) (hsz:0 < size)
  (v:Value) (n:Nat) (xs:List Value) (hs:a.eval s=v) (hown:wO.ownsRow base e size v n xs) (hbO:Below wO.heap.size wO w0)
  (b c:Nat) (hx:a.eval x=.slice (some ⟨b,0,none⟩) 1 c) (hb:b=w0.heap.size) (hl:l.length=size) (h1:∀ u∈l,u.oneCell'=true)
  (hn:n<=1048576) (hbytes:bytes<=1000) (hbase:base<=wO.heap.size)
  (h:∀ v' w',w'.ownsRow base e size v' (n+1) (xs++l)->Below base wO w'->(∀ b o,wO.heap.size<=b->b < w0.heap.size->w'.cell? ⟨b,o,none⟩=w0.cell? ⟨b,o,none⟩) →
   (∀ b o,wO.heap.size<=b->b < w0.heap.size->w'.frozen? ⟨b,o,none⟩=w0.frozen? ⟨b,o,none⟩) →
   (∀ k,k < wO.heap.size->some k≠v.ownBlock->w'.heap[k]?=wO.heap[k]?)->w0.heap.size<=w'.heap.size->wpList P ops Q rest (a.put o.dst v') w') :
  wpList P ops Q (o::rest) a (w0.alloc (.cells l.toArray te)):=by
 have hown':=zaa hown hbO
 have hlt:∀ k,v.ownBlock=some k->base<=k/\k < wO.heap.size:=by
  intro k hk
  obtain⟨_,h2⟩:=hown
  rcases h2 with ⟨hv,_⟩|⟨g,cap,cur,hv,hg,hh,_⟩
  ·subst hv;cases hk
  ·subst hv;simp only[Value.ownBlock,Option.some.injEq] at hk;subst hk
   exact⟨hg,(Array.getElem?_eq_some_iff.1 hh).1⟩
 have hsz0:=hbO.size
 subst hb
 refine wpList_append_own _ hg s x t ho base e i z size bytes ht hi hz hsize hby hzs hsz v n xs hs (hown'.alloc _) ⟨w0.heap.size,0,none⟩ 1 c l hx (by omega) ?_ h1 ?_ ?_ ?_ ?_
 ·intro j u hj
  rw[Addr.add_lit,Nat.zero_add,World.cell?_alloc_mark]
  simpa using hj
 ·unfold maxLen;omega
 ·have:(n+1) * bytes<=1048577 * 1000:=Nat.mul_le_mul (by omega) hbytes
  omega
 ·simp;omega
 ·intro v' w' h2 hgr _
  have hblk:∀ k,k < w0.heap.size->some k≠v.ownBlock->w'.heap[k]?=w0.heap[k]?:=fun k hk hne=>by
   rw[hgr.block k (by simp;omega) hne];exact Below.heap_alloc _ _ _ hk
  have hz':w0.heap.size<=w'.heap.size:=by have:=hgr.size;simp at this;omega
  refine h v' w' h2 ⟨hgr.os.trans hbO.os,hgr.tape.trans hbO.tape,hgr.output.trans hbO.output,by omega,fun k hk=>?_⟩ (fun b o hb1 hb2=>?_) (fun b o hb1 hb2=>?_) (fun k hk hne=>?_) hz'
  ·rw[hblk k (by omega) (fun e=>by have:=hlt k e.symm;omega)];exact hbO.block k (by omega)
  ·exact World.cell?_of_block (w:=w0) (hblk b hb2 (fun e=>by have:=hlt b e.symm;omega))
  ·exact World.frozen?_of_block (w:=w0) (hblk b hb2 (fun e=>by have:=hlt b e.symm;omega))
  ·rw[hblk k (by omega) hne];exact hbO.block k hk
theorem zod(w:World)(hg:o.guard=none)(x:Operand)(src dst e:TypeId)(hop:o.op=.convert src dst x)
  (hs:P.underlying src=some .string) (hd:P.underlying dst=some (.slice e)) (he:P.underlying e=some (.int .u8)) (s:ByteArray) (hx:a.eval x=.string s)
  (hK:∀ cap w',(∀ j (hj:j < s.data.size),w'.cell? ⟨w.heap.size,j,none⟩=some (.int .u8 (s.data[j].toNat:Int)))->Below w.heap.size w w' →
   wpList P ops Q rest (a.put o.dst (.slice (some ⟨w.heap.size,0,none⟩) s.size cap)) w'):wpList P ops Q (o::rest) a w:=by
 refine wpList_plain hg fun K hK'=>?_
 have hr:=run_bytes_of_string (P:=P) w src dst e s hs hd he
 unfold Oper.wp
 simp[execOp,hop,hx,hr,Result.andThen]
 refine hK' _ _ (hK _ _ (fun j hj=>?_) ?_)
 ·have:=World.cell?_alloc_mark w.drew (bytesRow s (grownCap w s.size 0 e)) e ((bytesRow s (grownCap w s.size 0 e)).size,(bytesRow s (grownCap w s.size 0 e)).size+1) j
  rw[bytesRow_at s _ j hj] at this
  exact this
 ·exact(Below.refl _ _).drew.alloc (Nat.le_refl _) _
theorem zme(w:World)(hg:o.guard=none)(x:Operand)(src dst e:TypeId)(hop:o.op=.convert src dst x)
  (hs:P.underlying src=some (.slice e)) (he:P.underlying e=some (.int .u8)) (hd:P.underlying dst=some .string) (s:ByteArray) (b cap:Nat) (hx:a.eval x=.slice (some ⟨b,0,none⟩) s.size cap)
  (hc:∀ j (hj:j < s.data.size),w.cell? ⟨b,j,none⟩=some (.int .u8 (s.data[j].toNat:Int)))
  (hK:wpList P ops Q rest (a.put o.dst (.string s)) w):wpList P ops Q (o::rest) a w:=by
 refine wpList_plain hg fun K hK'=>?_
 have hr:=run_convert_bytes_back (P:=P) w src dst e ⟨b,0,none⟩ cap s.data.toList hs he hd (fun j hj=>by
  have hj':j < s.data.size:=by rw[Array.length_toList] at hj;exact hj
  rw[Addr.add_lit,Nat.zero_add,hc j hj',Array.getElem_toList])
 have hz:s.data.toList.length=s.size:=by rw[Array.length_toList];rfl
 rw[hz] at hr
 unfold Oper.wp
 simp[execOp,hop,hx,hr,Result.andThen]
 exact hK' _ _ hK
end
def zru(c:Int):Bool:=decide (97<=c) && decide (c<=122)
def z5j(c:Int):Bool:=decide (65<=c) && decide (c<=90)
def zun(c:Int):Bool:=decide (48<=c) && decide (c<=57)
def zlv(c:Int):Bool:=c == 32 || c == 10
def bLD(c:Int):Bool:=zru c || z5j c || zun c
def z3g(c:Int):Int:=if c=40 then 4 else if c=41 then 5 else if c=44 then 6 else if c=46 then 7 else if c=33 then 8 else 0
def zh8(a b:Int):Int:=if zru a then 1 else if z5j a then 2 else if zun a then 3 else if a=58/\b=45 then 9 else z3g a
def bAt(s:ByteArray)(i:Nat):Int:=if h:i < s.size then(s[i].toNat:Int) else 0
theorem zrt{s:ByteArray}{i:Nat}(h:i < s.size):bAt s i=(s[i].toNat:Int):=by simp[bAt,h]
theorem zzz{s:ByteArray}{i:Nat}(h:¬ i < s.size):bAt s i=0:=by simp[bAt,h]
def zcy(p:Int->Bool)(s:ByteArray)(i:Nat):Nat:=if h:i < s.size then(if p (bAt s i) then zcy p s (i+1) else i) else i
 termination_by s.size - i
theorem zh2{p:Int->Bool}{s:ByteArray}{i:Nat}(h:¬ i < s.size):zcy p s i=i:=by rw[zcy];simp[h]
theorem zn3{p:Int->Bool}{s:ByteArray}{i:Nat}(h:p (bAt s i)=false):zcy p s i=i:=by rw[zcy];simp[h]
theorem zi7{p:Int->Bool}{s:ByteArray}{i:Nat}(h:i < s.size)(hp:p (bAt s i)=true):zcy p s i=zcy p s (i+1):=by
 conv=>lhs;rw[zcy]
 simp[h,hp]
theorem ztp(p:Int->Bool)(s:ByteArray):∀(n i:Nat),s.size - i<=n->i<=zcy p s i/\(i<=s.size->zcy p s i<=s.size):=by
 intro n
 induction n with
 |zero=>intro i h;rw[zh2 (by omega)];omega
 |succ n ih =>
  intro i h
  by_cases hi:i < s.size
  ·cases hp:p (bAt s i) with
   |false=>rw[zn3 hp];omega
   |true=>rw[zi7 hi hp];have:=ih (i+1) (by omega);omega
  ·rw[zh2 hi];omega
theorem z1z(p:Int->Bool)(s:ByteArray)(i:Nat):i<=zcy p s i:=(ztp p s _ i (Nat.le_refl _)).1
theorem z14(p:Int->Bool)(s:ByteArray)(i:Nat)(h:i<=s.size):zcy p s i<=s.size:=(ztp p s _ i (Nat.le_refl _)).2 h
def zm7(s:ByteArray)(i:Nat)(k:Int):Nat:=if k=0 then i else if k=9 then i+2 else if k=1∨k=2 then zcy bLD s i else if k=3 then zcy zun s i else i+1
theorem z0j(s:ByteArray)(i:Nat)(k:Int)(hi:i < s.size)(hk:zh8 (bAt s i) (bAt s (i+1))=k)(hk0:k≠0):i < zm7 s i k/\zm7 s i k<=s.size:=by
 have run:∀ p:Int->Bool,p (bAt s i)=true->i < zcy p s i/\zcy p s i<=s.size:=fun p hp=>by
  rw[zi7 hi hp];have:=z1z p s (i+1);have:=z14 p s (i+1) (by omega);omega
 unfold zh8 at hk
 unfold zm7
 split at hk
 ·rename_i h;subst hk;simp;exact run bLD (by simp[bLD,h])
 ·split at hk
  ·rename_i h;subst hk;simp;exact run bLD (by simp[bLD,h])
  ·split at hk
   ·rename_i h;subst hk;simp;exact run zun h
   ·split at hk
    ·rename_i h;subst hk;simp
     have:i+1 < s.size:=by
      false_or_by_contra;rename_i hn;rw[zzz hn] at h;omega
     omega
    ·have h9:k≠9/\k≠1/\k≠2/\k≠3:=by subst hk;unfold z3g;(repeat' split) <;> simp
     simp[hk0,h9];omega
def splitN:Nat->ByteArray->Nat->Option (List (Int × ByteArray))
 |0,_,_=>some []
 |n+1,s,i =>
  if i < s.size then
   if zlv (bAt s i) then splitN n s (i+1)
   else if zh8 (bAt s i) (bAt s (i+1))=0 then none
   else if 6 < zm7 s i (zh8 (bAt s i) (bAt s (i+1))) - i then none
   else(splitN n s (zm7 s i (zh8 (bAt s i) (bAt s (i+1))))).map ((zh8 (bAt s i) (bAt s (i+1)),s.extract i (zm7 s i (zh8 (bAt s i) (bAt s (i+1)))))::·)
  else some []
def splitB(s:ByteArray):Option (List (Int × ByteArray)):=splitN s.size s 0
theorem zvu{n:Nat}{s:ByteArray}{i:Nat}(h:¬ i < s.size):splitN n s i=some []:=by cases n <;> simp[splitN,h]
theorem ztq{n:Nat}{s:ByteArray}{i:Nat}(h:i < s.size)(hb:zlv (bAt s i)=true):splitN (n+1) s i=splitN n s (i+1):=by simp[splitN,h,hb]
theorem zvt{n:Nat}{s:ByteArray}{i:Nat}(h:i < s.size)(hb:zlv (bAt s i)=false)(hk:zh8 (bAt s i) (bAt s (i+1))=0):splitN (n+1) s i=none:=by simp[splitN,h,hb,hk]
theorem zvs{n:Nat}{s:ByteArray}{i:Nat}{k:Int}(h:i < s.size)(hb:zlv (bAt s i)=false)(hk:zh8 (bAt s i) (bAt s (i+1))=k)(hl:6 < zm7 s i k - i):splitN (n+1) s i=none:=by
 subst hk;simp[splitN,h,hb,hl]
theorem zvv{n:Nat}{s:ByteArray}{i:Nat}{k:Int}(h:i < s.size)(hb:zlv (bAt s i)=false)(hk:zh8 (bAt s i) (bAt s (i+1))=k)(hk0:k≠0)(hl:¬ 6 < zm7 s i k - i) :
  splitN (n+1) s i=(splitN n s (zm7 s i k)).map ((k,s.extract i (zm7 s i k))::·):=by
 subst hk;simp[splitN,h,hb,hl,hk0]
theorem zwt{α:Type}(o:Option (List α))(acc:List α)(x:α):(o.map (x::·)).map (acc++·)=o.map ((acc++[x])++·):=by cases o <;> simp
theorem zxr(s:ByteArray):∀(n i:Nat) (r:List UInt8),s.size - i<=n->ByteArray.toList.loop s i r=r.reverse++s.data.toList.drop i:=by
 intro n
 induction n with
 |zero =>
  intro i r h
  rw[ByteArray.toList.loop,if_neg (by omega),List.drop_eq_nil_of_le (by rw[Array.length_toList];show s.size<=i;omega),List.append_nil]
 |succ n ih =>
  intro i r h
  rw[ByteArray.toList.loop]
  split
  ·rename_i hi
   rw[ih (i+1) _ (by omega)]
   have hd:i < s.data.toList.length:=by rw[Array.length_toList];exact hi
   rw[List.drop_eq_getElem_cons hd]
   simp[ByteArray.get!,hi]
  ·rw[List.drop_eq_nil_of_le (by rw[Array.length_toList];show s.size<=i;omega),List.append_nil]
theorem zlw(s:ByteArray):s.toList=s.data.toList:=by
 rw[ByteArray.toList,zxr s _ 0 [] (Nat.le_refl _)];simp
theorem toList_inj{a b:ByteArray}(h:a.toList=b.toList):a=b:=by
 rw[zlw,zlw] at h;exact Go.WideShapes.bytes_inj h
theorem z5o(a b:ByteArray):(a.toList == b.toList)=decide (a=b):=by
 by_cases h:a=b
 ·subst h;simp
 ·rw[decide_eq_false h,beq_eq_false_iff_ne];exact fun k=>h (toList_inj k)
theorem zg4{a b:ByteArray}(h:a=b):(a.toList == b.toList)=true:=by rw[z5o];simpa using h
theorem zf3{a b:ByteArray}(h:a≠b):(a.toList == b.toList)=false:=by rw[z5o];simpa using h
def zba(t:ByteArray):Bool:=z5j (bAt t 0)
def zon(t:ByteArray):List ByteArray->Bool
 |[]=>false
 |x::r=>decide (x=t) || zon t r
theorem zfx{t:ByteArray}:∀ {vs:List ByteArray},zon t vs=true↔t∈vs
 |[]=>by simp[zon]
 |x::r=>by simp only[zon,Bool.or_eq_true,decide_eq_true_eq,List.mem_cons,zfx (vs:=r)];constructor <;> (rintro(h|h) <;> simp[h])
theorem zu7{t:ByteArray}{vs:List ByteArray}:zon t vs=false↔t∉vs:=by rw[← zfx];simp
def zrg(vs:List ByteArray)(t:ByteArray):List ByteArray:=if zba t && !zon t vs then vs++[t] else vs
def zer(vs args:List ByteArray):List ByteArray:=args.foldl zrg vs
theorem z3d(vs:List ByteArray)(t:ByteArray):(zrg vs t).length<=vs.length+1:=by unfold zrg;split <;> simp
theorem zkc(args:List ByteArray):∀ vs:List ByteArray,(zer vs args).length<=vs.length+args.length:=by
 induction args with
 |nil=>intro vs;simp[zer]
 |cons a r ih=>intro vs;have:=ih (zrg vs a);have:=z3d vs a;simp only[zer,List.foldl_cons,List.length_cons] at *;omega
set_option maxRecDepth 100000
set_option maxHeartbeats 400000
theorem zhx(c:Int)(w:World) :
  Calls Tryz.prog 59 #[.int .u8 c] w fun e w'=>e=.returned (.bool (zlv c))/\w'=w:=by
 go_enter Tryz.func59,Tryz.ntmps59
 go_wp2
 all_goals go_ret
 all_goals exact⟨by simp[zlv, *],rfl⟩
theorem zne(c:Int)(w:World) :
  Calls Tryz.prog 110 #[.int .u8 c] w fun e w'=>e=.returned (.bool (zru c))/\w'=w:=by
 go_enter Tryz.func110,Tryz.ntmps110
 go_wp2
 all_goals go_ret
 all_goals exact⟨by simp[zru, *] <;> omega,rfl⟩
theorem zko(c:Int)(w:World) :
  Calls Tryz.prog 111 #[.int .u8 c] w fun e w'=>e=.returned (.bool (z5j c))/\w'=w:=by
 go_enter Tryz.func111,Tryz.ntmps111
 go_wp2
 all_goals go_ret
 all_goals exact⟨by simp[z5j, *] <;> omega,rfl⟩
theorem zgr(c:Int)(w:World) :
  Calls Tryz.prog 112 #[.int .u8 c] w fun e w'=>e=.returned (.bool (zun c))/\w'=w:=by
 go_enter Tryz.func112,Tryz.ntmps112
 go_wp2
 all_goals go_ret
 all_goals exact⟨by simp[zun, *] <;> omega,rfl⟩
theorem zeu(c:Int)(w:World) :
  Calls Tryz.prog 129 #[.int .u8 c] w fun e w'=>e=.returned (.bool (bLD c))/\w'=w:=by
 go_enter Tryz.func129,Tryz.ntmps129
 go_wp2_with (first|(go_at_call 110;refine(zne _ _).mono ?_;rintro e w' ⟨rfl,rfl⟩)|(go_at_call 111;refine(zko _ _).mono ?_;rintro e w' ⟨rfl,rfl⟩)|(go_at_call 112;refine(zgr _ _).mono ?_;rintro e w' ⟨rfl,rfl⟩))
 all_goals go_ret
 all_goals exact⟨by simp[bLD, *],rfl⟩
theorem zoz(s:ByteArray)(i:Int)(w:World)(hi:0<=i)(_:s.size<=500) :
  Calls Tryz.prog 85 #[.string s,.int .i64 i] w fun e w'=>e=.returned (.int .u8 (bAt s i.toNat))/\w'=w:=by
 obtain⟨i,rfl⟩:=Int.eq_ofNat_of_zero_le hi
 rw[Int.toNat_natCast]
 by_cases h:i < s.size
 ·rw[zrt h]
  go_enter Tryz.func85,Tryz.ntmps85
  go_wp2
  all_goals go_ret
  all_goals exact⟨rfl,rfl⟩
 ·rw[zzz h]
  go_enter Tryz.func85,Tryz.ntmps85
  go_wp2
  all_goals go_ret
  all_goals exact⟨rfl,rfl⟩
theorem zy6(c:Int)(w:World) :
  Calls Tryz.prog 113 #[.int .u8 c] w fun e w'=>e=.returned (.int .i64 (z3g c))/\w'=w:=by
 go_enter Tryz.func113,Tryz.ntmps113
 go_wp2
 all_goals go_ret
 all_goals go_light
 all_goals exact⟨by simp_all [z3g],rfl⟩
theorem zpg(a b:Int)(w:World) :
  Calls Tryz.prog 86 #[.int .u8 a,.int .u8 b] w fun e w'=>e=.returned (.int .i64 (zh8 a b))/\w'=w:=by
 go_enter Tryz.func86,Tryz.ntmps86
 go_wp2_with (first|(go_at_call 110;refine(zne _ _).mono ?_;rintro e w' ⟨rfl,rfl⟩)|(go_at_call 111;refine(zko _ _).mono ?_;rintro e w' ⟨rfl,rfl⟩)|(go_at_call 112;refine(zgr _ _).mono ?_;rintro e w' ⟨rfl,rfl⟩)|(go_at_call 113;refine(zy6 _ _).mono ?_;rintro e w' ⟨rfl,rfl⟩))
 all_goals go_ret
 all_goals go_light
 all_goals exact⟨by first|(simp_all [zh8];done)|(simp_all [zh8,zru,z5j,zun];done),rfl⟩
theorem zut(s:ByteArray)(i:Nat)(w:World)(hs:s.size<=500)(hi:i<=s.size) :
  Calls Tryz.prog 114 #[.string s,.int .i64 i] w fun e w'=>e=.returned (.int .i64 (zcy bLD s i))/\w'=w:=by
 go_enter Tryz.func114,Tryz.ntmps114
 go_wp2
 go_loop [5] (fun t=>∃ k:Nat,k<=s.size/\t=.int .i64 k/\Hid (zcy bLD s i=zcy bLD s k)) (fun t=>s.size - (intOf t).toNat)
 case atStart=>exact⟨i,hi,rfl,rfl⟩
 case round =>
  obtain⟨k,hk,rfl,H⟩:=hrel
  by_cases hlt:k < s.size
  ·have hb:=zrt hlt
   cases hp:bLD (bAt s k) with
   |true =>
    have H2:Hid (zcy bLD s i=zcy bLD s (k+1)):=by rw[Hid.out H,zi7 hlt hp];rfl
    rw[hb] at hp
    clear hb
    go_wp2_with (go_at_call 129;refine(zeu _ _).mono ?_;rintro e w' ⟨rfl,rfl⟩)
    go_round
    case rel=>exact⟨k+1,by omega,by go_num,H2⟩
    case measure=>simp[intOf];omega
   |false =>
    have H2:Hid (zcy bLD s i=k):=by rw[Hid.out H,zn3 hp];rfl
    rw[hb] at hp
    clear hb
    go_wp2_with (go_at_call 129;refine(zeu _ _).mono ?_;rintro e w' ⟨rfl,rfl⟩)
    go_ret
    exact⟨by rw[Hid.out H2];rfl,rfl⟩
  ·have H2:Hid (zcy bLD s i=k):=by rw[Hid.out H,zh2 hlt];rfl
   go_wp2_with (go_at_call 129;refine(zeu _ _).mono ?_;rintro e w' ⟨rfl,rfl⟩)
   go_ret
   exact⟨by rw[Hid.out H2];rfl,rfl⟩
theorem zr6(s:ByteArray)(i:Nat)(w:World)(hs:s.size<=500)(hi:i<=s.size) :
  Calls Tryz.prog 115 #[.string s,.int .i64 i] w fun e w'=>e=.returned (.int .i64 (zcy zun s i))/\w'=w:=by
 go_enter Tryz.func115,Tryz.ntmps115
 go_wp2
 go_loop [5] (fun t=>∃ k:Nat,k<=s.size/\t=.int .i64 k/\Hid (zcy zun s i=zcy zun s k)) (fun t=>s.size - (intOf t).toNat)
 case atStart=>exact⟨i,hi,rfl,rfl⟩
 case round =>
  obtain⟨k,hk,rfl,H⟩:=hrel
  by_cases hlt:k < s.size
  ·have hb:=zrt hlt
   cases hp:zun (bAt s k) with
   |true =>
    have H2:Hid (zcy zun s i=zcy zun s (k+1)):=by rw[Hid.out H,zi7 hlt hp];rfl
    rw[hb] at hp
    clear hb
    go_wp2_with (go_at_call 112;refine(zgr _ _).mono ?_;rintro e w' ⟨rfl,rfl⟩)
    go_round
    case rel=>exact⟨k+1,by omega,by go_num,H2⟩
    case measure=>simp[intOf];omega
   |false =>
    have H2:Hid (zcy zun s i=k):=by rw[Hid.out H,zn3 hp];rfl
    rw[hb] at hp
    clear hb
    go_wp2_with (go_at_call 112;refine(zgr _ _).mono ?_;rintro e w' ⟨rfl,rfl⟩)
    go_ret
    exact⟨by rw[Hid.out H2];rfl,rfl⟩
  ·have H2:Hid (zcy zun s i=k):=by rw[Hid.out H,zh2 hlt];rfl
   go_wp2_with (go_at_call 112;refine(zgr _ _).mono ?_;rintro e w' ⟨rfl,rfl⟩)
   go_ret
   exact⟨by rw[Hid.out H2];rfl,rfl⟩
theorem zr7(s:ByteArray)(i:Nat)(k:Int)(w:World)(hs:s.size<=500)(hi:i<=s.size) :
  Calls Tryz.prog 87 #[.string s,.int .i64 i,.int .i64 k] w fun e w'=>e=.returned (.int .i64 (zm7 s i k))/\w'=w:=by
 go_enter Tryz.func87,Tryz.ntmps87
 go_wp2_with (first|(go_at_call 114;refine(zut _ _ _ hs hi).mono ?_;rintro e w' ⟨rfl,rfl⟩)|(go_at_call 115;refine(zr6 _ _ _ hs hi).mono ?_;rintro e w' ⟨rfl,rfl⟩))
 all_goals go_ret
 all_goals go_light
 all_goals exact⟨by simp_all [zm7],rfl⟩
set_option maxHeartbeats 1000000
theorem z2t(s:ByteArray)(i:Nat)(w:World)(hs:s.size<=500)(hi:i < s.size)(hk:zh8 (bAt s i) (bAt s (i+1))=0) :
  Calls Tryz.prog 60 #[.string s,.int .i64 i] w fun e w'=>e=.returned (.agg #[.int .i64 0,.string ByteArray.empty])/\Below w.heap.size w w':=by
 have he:zm7 s i 0=i:=rfl
 have e1:((i:Int)+1).toNat=i+1:=by omega
 go_enter Tryz.func60,Tryz.ntmps60
 go_wp2_with (first|(go_at_call 85;refine(zoz s _ _ (by omega) hs).mono ?_;rintro e w' ⟨rfl,rfl⟩)|(go_at_call 86;refine(zpg _ _ _).mono ?_;rintro e w' ⟨rfl,rfl⟩)|(go_at_call 87;refine(zr7 s i _ _ hs (by omega)).mono ?_;rintro e w' ⟨rfl,rfl⟩))
 go_returns
 exact⟨rfl,by go_grown⟩
theorem zzh(s:ByteArray)(i:Nat)(k:Int)(w:World)(hs:s.size<=500)(hi:i < s.size)(hk:zh8 (bAt s i) (bAt s (i+1))=k) 
  (he1:i < zm7 s i k) (he2:zm7 s i k<=s.size) :
  Calls Tryz.prog 60 #[.string s,.int .i64 i] w fun e w'=>e=.returned (.agg #[.int .i64 k,.string (s.extract i (zm7 s i k))])/\Below w.heap.size w w':=by
 have e1:((i:Int)+1).toNat=i+1:=by omega
 go_enter Tryz.func60,Tryz.ntmps60
 go_wp2_with (first|(go_at_call 85;refine(zoz s _ _ (by omega) hs).mono ?_;rintro e w' ⟨rfl,rfl⟩)|(go_at_call 86;refine(zpg _ _ _).mono ?_;rintro e w' ⟨rfl,rfl⟩)|(go_at_call 87;refine(zr7 s i _ _ hs (by omega)).mono ?_;rintro e w' ⟨rfl,rfl⟩)|(refine zod _ rfl (.tmp 41) 9 119 5 rfl Tryz.underlying9 Tryz.underlying119 Tryz.underlying5 _ rfl ?_;intro cap w1 hc1 hb1;obtain⟨hcc,hff⟩:=z7o hb1;have hz:=hb1.size;simp only[World.size_alloc] at hz)|(refine zme _ rfl (.tmp 42) 119 9 5 rfl Tryz.underlying119 Tryz.underlying5 Tryz.underlying9 _ _ _ rfl ?_ ?_;(first|exact hc1|fail)))
 have hB:Below w.heap.size w w1:=zae ((Below.refl _ _).alloc (Nat.le_refl _) _) hb1 (Nat.le_refl _)
 exact bodyPost_ret (v:=.agg #[.int .i64 k,.string (s.extract i (zm7 s i k))]) (by simp[results,Tryz.results60,go_sem,hcc]) rfl ⟨rfl,by go_grown⟩
def zgb(l:List (Int × ByteArray)):List Value:=l.flatMap fun x=>[.int .i64 x.1,.string x.2]
theorem zv5(l:List (Int × ByteArray))(k:Int)(t:ByteArray):zgb (l++[(k,t)])=zgb l++[.int .i64 k,.string t]:=by simp[zgb]
theorem Tryz.infoWord:(Tryz.prog.info? 129).map (fun i=>(i.zero,i.size,i.bytes))=some (some (.agg #[.int .i64 0,.string ByteArray.empty]),2,24):=by kernel_rfl
def zic(s:ByteArray)(w:World)(e:Ending)(w':World):Prop :=
 Below w.heap.size w w'/\match splitB s with
  |none=>e=.returned (.tuple #[.slice none 0 0,.bool false])
  |some l=>∃ v,e=.returned (.tuple #[v,.bool true])/\w'.ownsRow w.heap.size 129 2 v l.length (zgb l)/\l.length<=s.size
theorem zjh{s:ByteArray}{w w':World}(h:Hid (splitB s=none))(hb:Below w.heap.size w w'):zic s w (.returned (.tuple #[.slice none 0 0,.bool false])) w':=by
 have h':splitB s=none:=h
 unfold zic;rw[h'];exact⟨hb,rfl⟩
theorem zor{s:ByteArray}{w w':World}{v:Value}{l:List (Int × ByteArray)}(h:Hid (splitB s=some l))(hb:Below w.heap.size w w')(ho:w'.ownsRow w.heap.size 129 2 v l.length (zgb l))(hl:l.length<=s.size) :
  zic s w (.returned (.tuple #[v,.bool true])) w':=by
 have h':splitB s=some l:=h
 unfold zic;rw[h'];exact⟨hb,v,rfl,ho,hl⟩
theorem ztr(s:ByteArray)(w:World)(hs:s.size<=500) :
  Calls Tryz.prog 37 #[.string s] w fun e w'=>zic s w e w':=by
 obtain⟨i0,hi,hz0,hz1,hz2⟩:=info_parts Tryz.infoWord
 go_enter Tryz.func37,Tryz.ntmps37
 go_wp2
 go_loopw [4,5] (fun v t wr=>∃(k:Nat) (acc:List (Int × ByteArray)) (m:Nat),k<=s.size/\t=.int .i64 k/\s.size - k<=m/\Hid (splitB s=(splitN m s k).map (acc++·))/\acc.length<=k ∧
   wr.ownsRow w.heap.size 129 2 v acc.length (zgb acc)/\Below w.heap.size w wr) (fun _ t _=>s.size - (intOf t).toNat)
 case atStart=>exact⟨0,[],s.size,Nat.zero_le _,rfl,by omega,(by simp[splitB,Hid]),Nat.le_refl _,World.ownsRow_nil _ _ _ _,Below.refl _ _⟩
 case round =>
  obtain⟨k,acc,m,hk,rfl,hm,H,hal,hown,hbel⟩:=hrel
  by_cases hlt:k < s.size
  ·have hb:=zrt hlt
   obtain⟨m,rfl⟩:∃ m',m=m'+1:=⟨m - 1,by omega⟩
   cases hp:zlv (bAt s k) with
   |true =>
    have H2:Hid (splitB s=(splitN m s (k+1)).map (acc++·)):=by rw[← ztq hlt hp];exact H
    rw[hb] at hp
    clear hb H
    go_wp2_with (go_at_call 59;refine(zhx _ _).mono ?_;rintro e w' ⟨rfl,rfl⟩)
    go_roundw
    case rel=>exact⟨k+1,acc,m,by omega,by go_num,by omega,H2,by omega,hown,hbel⟩
    case measure=>simp[intOf];omega
   |false =>
    by_cases hk0:zh8 (bAt s k) (bAt s (k+1))=0
    ·have H2:Hid (splitB s=none):=by rw[Hid.out H,zvt hlt hp hk0];simp[Hid]
     have hw:=z2t s k wr hs hlt hk0
     rw[hb] at hp
     clear hb H hk0
     go_wp2_with (first|(go_at_call 59;refine(zhx _ _).mono ?_;rintro e w' ⟨rfl,rfl⟩)|(go_at_call 60;refine hw.mono ?_;rintro e w1 ⟨rfl,hb1⟩;clear hw;have hB:=zae hbel hb1 (Nat.le_refl _);have hBs:=hB.size))
     go_ret2
     exact zjh H2 (by go_grown)
    ·obtain⟨kd,hkd⟩:∃ kd,zh8 (bAt s k) (bAt s (k+1))=kd:=⟨_,rfl⟩
     have hkz:kd≠0:=by rw[← hkd];exact hk0
     obtain⟨he1,he2⟩:=z0j s k kd hlt hkd hkz
     have hw:=zzh s k kd wr hs hlt hkd he1 he2
     by_cases hl:6 < zm7 s k kd - k
     ·have H2:Hid (splitB s=none):=by rw[Hid.out H,zvs hlt hp hkd hl];simp[Hid]
      rw[hb] at hp
      clear hb H hk0 hkd
      generalize zm7 s k kd=en at *
      have htx:(s.extract k en).size=en - k:=by rw[ByteArray.size_extract];omega
      generalize s.extract k en=tx at *
      have hbeq:(kd == 0)=false:=by simpa using hkz
      go_wp2_with (first|(go_at_call 59;refine(zhx _ _).mono ?_;rintro e w' ⟨rfl,rfl⟩)|(go_at_call 60;refine hw.mono ?_;rintro e w1 ⟨rfl,hb1⟩;clear hw;have hB:=zae hbel hb1 (Nat.le_refl _);have hBs:=hB.size))
      go_ret2
      exact zjh H2 (by go_grown)
     ·have H2:Hid (splitB s=(splitN m s (zm7 s k kd)).map ((acc++[(kd,s.extract k (zm7 s k kd))])++·)):=by rw[Hid.out H,zvv hlt hp hkd hkz hl,zwt];rfl
      rw[hb] at hp
      clear hb H hk0 hkd
      generalize zm7 s k kd=en at *
      have htx:(s.extract k en).size=en - k:=by rw[ByteArray.size_extract];omega
      generalize s.extract k en=tx at *
      have hbeq:(kd == 0)=false:=by simpa using hkz
      go_wp2_with (first|(go_at_call 59;refine(zhx _ _).mono ?_;rintro e w' ⟨rfl,rfl⟩)|(go_at_call 60;refine hw.mono ?_;rintro e w1 ⟨rfl,hb1⟩;clear hw;have hB:=zae hbel hb1 (Nat.le_refl _);have hBs:=hB.size;have ho1:=zaa hown hb1)|(at_builtin;refine zgw w1 _ _ _ rfl (.tmp 29) (.tmp 31) 75 rfl w.heap.size 129 i0 _ 2 24 Tryz.underlying75 hi hz0 hz1 hz2 rfl (by decide) _ _ _ rfl ho1 ((Below.refl _ _).alloc (Nat.le_refl _) _) _ _ rfl (by simp) rfl (by simp[Value.oneCell']) (by omega) (by omega) (by omega) ?_;intro v' w2 ho2 hB2 hc2 hf2 hk2 hz2';simp only[World.size_alloc] at hc2 hf2 hz2'))
      go_roundw
      case rel=>exact⟨en,acc++[(kd,tx)],m,by omega,by go_num,by omega,H2,by simp;omega,by rw[List.length_append,zv5];exact ho2,hB.trans hB2⟩
      case measure=>simp[intOf];omega
  ·have H2:Hid (splitB s=some acc):=by rw[Hid.out H,zvu hlt];simp[Hid]
   clear H
   go_wp2
   go_ret2
   exact zor H2 hbel hown (by omega)
end Go.Proofs.YteampbddflhngabGreat
