import Derived.Test.YteampbddflhngaaGreatP08
import Derived.Deep.OwnRows
import Derived.Laws.CopyOwn
import Derived.Maps.AppendAt
import Derived.Test.YteampbddflhngaaGreatP01

namespace Go.Proofs.YteampbddflhngaaGreat
open Go.RowKit
variable {lo:Nat}
structure zar (M:List Nat) (w w':World):Prop where
 os:w'.os=w.os
 tape:w'.tape=w.tape
 output:w'.output=w.output
 size:w.heap.size<=w'.heap.size
 block:∀ k,k < w.heap.size->k∉M->w'.heap[k]?=w.heap[k]?
theorem zar.refl(M:List Nat)(w:World):zar M w w:=⟨rfl,rfl,rfl,Nat.le_refl _,fun _ _ _=>rfl⟩
theorem zar.of{M:List Nat}{w w':World}(h:Below w.heap.size w w'):zar M w w':=⟨h.os,h.tape,h.output,h.size,fun k hk _=>h.block k hk⟩
theorem zar.trans{M:List Nat}{a b c:World}(h:zar M a b)(k:zar M b c):zar M a c :=
 ⟨k.os.trans h.os,k.tape.trans h.tape,k.output.trans h.output,Nat.le_trans h.size k.size,fun x hx hn=>(k.block x (Nat.lt_of_lt_of_le hx h.size) hn).trans (h.block x hx hn)⟩
theorem zar.more{M N:List Nat}{w w':World}(h:zar M w w')(hs:∀ x∈M,x∈N):zar N w w':=⟨h.os,h.tape,h.output,h.size,fun k hk hn=>h.block k hk fun hm=>hn (hs k hm)⟩
theorem zar.newer{M N:List Nat}{a b c:World}(h:zar M a b)(k:zar N b c)(hn:∀ x∈N,x∈M∨a.heap.size<=x):zar M a c :=
 ⟨k.os.trans h.os,k.tape.trans h.tape,k.output.trans h.output,Nat.le_trans h.size k.size,fun x hx hm=>(k.block x (Nat.lt_of_lt_of_le hx h.size) fun hxn=>(hn x hxn).elim hm fun h2=>by omega).trans (h.block x hx hm)⟩
theorem zar.below{M:List Nat}{B:Nat}{w w':World}(h:zar M w w')(hM:∀ x∈M,B<=x)(hB:B<=w.heap.size):Below B w w' :=
 ⟨h.os,h.tape,h.output,h.size,fun k hk=>h.block k (by omega) fun hm=>by have:=hM k hm;omega⟩
theorem zbl{M:List Nat}{w w':World}{base:Nat}{e:TypeId}{size:Nat}{v:Value}{n:Nat}{xs:List Value}(h:w.ownsRow base e size v n xs)(hs:zar M w w')(hn:∀ b,v.ownBlock=some b->b∉M):w'.ownsRow base e size v n xs:=by
 obtain⟨h1,h2⟩:=h
 refine⟨h1,?_⟩
 rcases h2 with h2|⟨g,cap,cur,hv,hg,hh,rr⟩
 ·exact Or.inl h2
 ·refine Or.inr ⟨g,cap,cur,hv,hg,?_,rr⟩
  rw[hs.block g (Array.getElem?_eq_some_iff.1 hh).1 (hn g (by rw[hv];rfl))];exact hh
theorem Box.save{M:List Nat}{w w':World}{b:Nat}{c:Array Value}{T:TypeId}(h:Box w b c T)(hs:zar M w w')(hn:b∉M):Box w' b c T:=by
 have:=h.lt;unfold Box at *;rw[hs.block b this hn];exact h
section
variable {P:Program} {ops:Array Oper} {rest:List Oper} {o:Oper} {a:Act} {Q:Exit->Act->World->Prop}
theorem zcf(wO w0:World)(l:List Value)(te:TypeId)(hg:o.guard=none)(s x:Operand)(t:TypeId)
  (ho:o.op=.call { callee:=.builtin .append,args:=#[s,x],argTypes:=#[t,t] })
  (base:Nat) (e:TypeId) (i:TypeInfo) (z:Value) (size bytes:Nat) (ht:P.underlying t=some (.slice e)) (hi:P.info? e=some i) (hz:i.zero=some z)
  (hsize:i.size=size) (hby:i.bytes=bytes) (hzs:z.cells.size=size) (hsz:0 < size)
  (v:Value) (n:Nat) (xs:List Value) (hs:a.eval s=v) (hown:wO.ownsRow base e size v n xs) (hbO:Below wO.heap.size wO w0)
  (b c:Nat) (hx:a.eval x=.slice (some ⟨b,0,none⟩) 1 c) (hb:b=w0.heap.size) (hl:l.length=size) (h1:∀ u∈l,u.oneCell'=true)
  (hn:n<=10000000000) (hbytes:bytes<=1000) (hbase:base<=wO.heap.size)
  (h:∀ v' w',w'.ownsRow base e size v' (n+1) (xs++l)->zar v.ownBlock.toList wO w'->(v'.ownBlock=v.ownBlock∨∃ g,v'.ownBlock=some g/\wO.heap.size<=g)->wpList P ops Q rest (a.put o.dst v') w') :
  wpList P ops Q (o::rest) a (w0.alloc (.cells l.toArray te)):=by
 have hown':=zaa hown hbO
 have hsz0:=hbO.size
 subst hb
 refine wpList_append_own_at _ hg s x t ho base e i z size bytes ht hi hz hsize hby hzs hsz v n xs hs (hown'.alloc _) ⟨w0.heap.size,0,none⟩ 1 c l hx (by omega) ?_ h1 ?_ ?_ ?_ ?_
 ·intro j u hj
  rw[Addr.add_lit,Nat.zero_add,World.cell?_alloc_mark]
  simpa using hj
 ·unfold maxLen;omega
 ·have:(n+1) * bytes<=10000000001 * 1000:=Nat.mul_le_mul (by omega) hbytes
  omega
 ·simp;omega
 ·intro v' w' h2 hgr _ hat
  refine h v' w' h2 ⟨hgr.os.trans hbO.os,hgr.tape.trans hbO.tape,hgr.output.trans hbO.output,?_,fun k hk hm=>?_⟩ ?_
  ·have:=hgr.size;simp at this;omega
  ·rw[hgr.block k (by simp;omega) (fun e=>hm (by rw[← e];simp))]
   rw[show(w0.alloc (.cells l.toArray te)).heap[k]?=w0.heap[k]? from Below.heap_alloc _ _ _ (by omega)]
   exact hbO.block k hk
  ·rcases hat with h3|h3
   ·exact Or.inl h3
   ·exact Or.inr ⟨_,h3,by simp;omega⟩
end
theorem zdo{w:World}{base:Nat}{e:TypeId}{size:Nat}{v:Value}{n:Nat}{xs:List Value}(h:w.ownsRow base e size v n xs){b:Nat}(hb:v.ownBlock=some b):b < w.heap.size:=by
 obtain⟨_,⟨hv,_⟩|⟨g,cap,cur,hv,_,hh,_⟩⟩:=h
 ·subst hv;cases hb
 ·subst hv;simp only[Value.ownBlock,Option.some.injEq] at hb;subst hb;exact(Array.getElem?_eq_some_iff.1 hh).1
theorem zar.set(w:World)(b o:Nat)(u:Value):zar [b] w (w.setCell ⟨b,o,none⟩ u) :=
 ⟨rfl,rfl,rfl,by simp[World.setCell],fun k _ hn=>Below.heap_setCell _ _ _ _ (by simp at hn;exact hn)⟩
theorem zcw{v:Value}{b:Nat}(h:b∈v.ownBlock.toList):v.ownBlock=some b:=by simpa using h
theorem zds{w:World}{base:Nat}{e T:TypeId}{size:Nat}{v:Value}{n:Nat}{xs:List Value}(h:w.ownsRow base e size v n xs){b:Nat}{c:Array Value}(hb:Box w b c T)(hT:e≠T):b∉v.ownBlock.toList:=by
 intro hm
 have:=zfw h hb hT
 exact this (by simpa [eq_comm] using hm)
def sl(g n:Nat):Value:=.slice (some ⟨g,0,none⟩) n n
theorem zje{w:World}{b1 b2:Nat}{e1 e2:TypeId}{s1 s2:Nat}{v1 v2:Value}{n1 n2:Nat}{xs1 xs2:List Value}(h1:w.ownsRow b1 e1 s1 v1 n1 xs1)(h2:w.ownsRow b2 e2 s2 v2 n2 xs2)(hT:e1≠e2){b:Nat}(hb:v1.ownBlock=some b):v2.ownBlock≠some b:=by
 intro hb2
 obtain⟨_,⟨hv,_⟩|⟨g,cap,cur,hv,_,hh,_⟩⟩:=h1
 ·subst hv;cases hb
 ·obtain⟨_,⟨hv2,_⟩|⟨g2,cap2,cur2,hv2,_,hh2,_⟩⟩:=h2
  ·subst hv2;cases hb2
  ·subst hv;subst hv2
   simp only[Value.ownBlock,Option.some.injEq] at hb hb2
   subst hb;subst hb2
   rw[hh] at hh2
   simp at hh2
   exact hT hh2.2
theorem zbr{w:World}{b1:Nat}{e T:TypeId}{s1:Nat}{v1:Value}{n1:Nat}{xs1:List Value}(h1:w.ownsRow b1 e s1 v1 n1 xs1){wb:Nat}{c:Array Value}(h2:Box w wb c T)(hT:e≠T){b:Nat}(hb:v1.ownBlock=some b):b≠wb:=by
 rintro rfl
 exact zfw h1 h2 hT hb.symm
theorem zee{w:World}{base:Nat}{e:TypeId}{size:Nat}{v:Value}{n:Nat}{xs:List Value}(h:w.ownsRow base e size v n xs){b:Nat}(hb:v.ownBlock=some b):base<=b:=by
 obtain⟨_,⟨hv,_⟩|⟨g,cap,cur,hv,hg,_,_⟩⟩:=h
 ·subst hv;cases hb
 ·subst hv;simp only[Value.ownBlock,Option.some.injEq] at hb;omega
theorem z7f{α:Type}{f:α->Nat}{l:List α}(h:(l.map f).Nodup){i j:Nat}(hi:i < l.length)(hj:j < l.length)(hne:i≠j):f l[i]≠f l[j]:=by
 intro e
 have:=(List.getElem_inj (h₀:=by simpa using hi) (h₁:=by simpa using hj) h).1 (by simpa using e)
 exact hne this
theorem Tryz.infoInt:(Tryz.prog.info? 3).map (fun i=>(i.zero,i.size,i.bytes))=some (some (.int .i64 0),1,8):=by kernel_rfl
def ivN(s:Nat):Value:=.int .i64 (s:Int)
theorem z7i(w:World)(n:Nat)(T:TypeId)(hn:n<=maxLen):(w.alloc (.cells (madeCells #[.int .i64 0] n) T)).ownsRow w.heap.size T 1 (.slice (some ⟨w.heap.size,0,none⟩) n n) n ((List.replicate n 0).map ivN):=by
 refine⟨by simp,Or.inr ⟨w.heap.size,n,madeCells #[.int .i64 0] n,rfl,Nat.le_refl _,?_,Nat.le_refl _,hn,by rw[size_madeCells];omega,?_⟩⟩
 ·show(w.heap.push _)[w.heap.size]?=_
  simp
 ·apply List.ext_getElem?
  intro i
  by_cases hi:i < n
  ·simp[hi,madeCells,ivN,Nat.mod_one]
  ·simp[List.getElem?_take,hi]
end Go.Proofs.YteampbddflhngaaGreat
namespace Go.Proofs.YteampbddflhngaaGreat
structure zhk where
 leap:List Nat
 down:List Nat
 deriving DecidableEq
structure zad where
 width:Nat
 depth:Nat
 nodes:List zhk
 count:Nat
 deriving DecidableEq
abbrev zaq:=List Nat
def zhk.zero:zhk:=⟨[],[]⟩
def zb8(T:zad):zad:={ T with nodes:=T.nodes++[⟨List.replicate T.width T.width,List.replicate T.width 0⟩] }
def za4(width:Nat):Nat:=if width < 1 then 1 else width
def zby(depth:Nat):Nat:=if (if depth < 1 then 1 else depth) > 3 then 3 else(if depth < 1 then 1 else depth)
def zfu(width depth:Nat):zad:=zb8 ⟨za4 width,zby depth,[],0⟩
def zcn(T:zad)(at' «from» : Nat):Option Nat :=
 if at' < T.nodes.length/\«from» < T.width then
  let v:=(T.nodes.getD at' zhk.zero).leap.getD «from» 0
  if v ≥ T.width then none else some v
 else none
def zax(T:zad)(at' v:Nat):Option Nat :=
 match zcn T at' v with
 |none=>none
 |some u=>if u=v then some ((T.nodes.getD at' zhk.zero).down.getD v 0) else none
def zgi(v:Nat):Nat->List Nat->List Nat
 |0,l=>l
 |n+1,l=>if l.getD n 0 > v then zgi v n (l.set n v) else l
def z5s(n:zhk)(v d:Nat):zhk:=⟨zgi v (v+1) n.leap,n.down.set v d⟩
def ze5(T:zad)(at' v d:Nat):zad :=
 if at' < T.nodes.length/\v < T.width then{ T with nodes:=T.nodes.set at' (z5s (T.nodes.getD at' zhk.zero) v d) } else T
def zcp(T:zad)(at' v:Nat):zad × Nat :=
 match zax T at' v with
 |some b=>(T,b)
 |none=>(ze5 (zb8 T) at' v T.nodes.length,T.nodes.length)
def zp7(T:zad)(at' v mark:Nat):zad × Bool :=
 match zax T at' v with
 |some _=>(T,false)
 |none=>({ ze5 T at' v mark with count:=(ze5 T at' v mark).count+1 },true)
def zn6(T:zad)(row:zaq):Bool:=row.all (fun v=>v < T.width)
def zc5(mark:Nat):zad->Nat->Nat->zaq->zad × Bool
 |T,_,_,[]=>(T,false)
 |T,at',level,v::r =>
  if level+1 ≥ T.depth then zp7 T at' v mark else zc5 mark (zcp T at' v).1 (zcp T at' v).2 (level+1) r
def zfo(T:zad)(row:zaq)(mark:Nat):zad × Bool:=if zn6 T row then zc5 mark T 0 0 row else(T,false)
def zbb(T:zad):Nat->Nat->zaq->Option Nat
 |_,_,[]=>none
 |at',level,v::r =>
  match zax T at' v with
  |none=>none
  |some b=>if level+1 ≥ T.depth then some b else zbb T b (level+1) r
def zdr(T:zad)(row:zaq):Option Nat:=zbb T 0 0 row
def zdf(T:zad):Nat->Nat->Nat->Nat->zaq->List zaq->Option (zaq × List zaq)
 |0,_,_,_,_,_=>none
 |n+1,at',level,«from»,row,rows =>
  match zcn T at' «from» with
  |none=>some (row,rows)
  |some v =>
   let row:=row.set level v
   if level+1 ≥ T.depth then zdf T n at' level (v+1) row (rows++[row])
   else if level+1 ≥ 3 then zdf T n at' level (v+1) row rows
   else match zdf T n ((zax T at' v).getD 0) (level+1) 0 row rows with
    |none=>none
    |some (row,rows)=>zdf T n at' level (v+1) row rows
def zsd(fuel:Nat)(T:zad):Option (List zaq):=(zdf T fuel 0 0 0 [0,0,0] []).map (·.2)
structure zbn where
 var:Bool
 num:Nat
 level:Nat
 deriving DecidableEq
structure zak where
 pred:Nat
 terms:List zbn
 deriving DecidableEq
structure zaf where
 stratum:Nat
 vars:Nat
 head:zak
 plain:List zak
 nots:List zak
 deriving DecidableEq
def zde(l:zak)(place:Nat):Bool:=l.terms.any fun t=>t.var && t.num == place
def zbq(l:zak)(place:Nat):Option Nat:=if zde l place then some ((List.range place).countP (zde l)) else none
def za9(l:zak):Nat:=(List.range 5).countP (zde l)
def zdl(l:zak):Nat:=l.terms.foldl (fun k t=>if t.var && decide (t.num ≥ k) then t.num+1 else k) 0
def zij(l:zak)(known:Int):Int:=l.terms.foldl (fun k t=>if t.var && decide ((t.num:Int) < known) && decide ((t.num:Int) > k) then(t.num:Int) else k) (-1)
def zh2(l:zak)(known:Int):Int:=if (zdl l:Int)<=known then -1 else zij l known
def zba(known:Int)(b:Int)(l:zak):Int:=if zh2 l known > b then zh2 l known else b
def zd5(r:zaf)(known:Int):Int:=r.nots.foldl (zba known) (r.plain.foldl (zba known) (zij r.head known))
def atT(t:zbn)(vals:List Nat):Nat:=if t.var && decide (t.num < 5) then vals.getD t.num 0 else t.num
def rowCell(l:zak)(vals:List Nat)(i:Nat):Nat:=if i < l.terms.length then atT (l.terms.getD i ⟨false,0,0⟩) vals else 0
def zc0(l:zak)(vals:List Nat):zaq:=[rowCell l vals 0,rowCell l vals 1,rowCell l vals 2]
def leveled(t:zbn):Bool:=t.var && decide (t.level < 3)
def zbz(l:zak)(row:zaq)(f:zaq)(i:Nat):zaq :=
 if i < l.terms.length/\leveled (l.terms.getD i ⟨false,0,0⟩)=true then f.set (l.terms.getD i ⟨false,0,0⟩).level (row.getD i 0) else f
def zc7(l:zak)(row:zaq):zaq:=zbz l row (zbz l row (zbz l row [0,0,0] 0) 1) 2
def zd8(t:zbn)(v:Nat)(f:zaq):Bool:=if leveled t then f.getD t.level 0 == v else t.num == v
def zaz(l:zak)(row f:zaq)(i:Nat):Bool:=decide (l.terms.length<=i) || zd8 (l.terms.getD i ⟨false,0,0⟩) (row.getD i 0) f
def zb0(l:zak)(row:zaq):Option zaq :=
 if zaz l row (zc7 l row) 0 && zaz l row (zc7 l row) 1 && zaz l row (zc7 l row) 2 then some (zc7 l row) else none
structure zeh where
 rows:zad
 nodes:List Nat
 deriving DecidableEq
structure z96 where
 lit:zak
 known:Nat
 rows:zad
 deriving DecidableEq
structure zav where
 head:zak
 vars:Nat
 sides:List zeh
 bars:List z96
 holds:List (List (Nat × Nat))
 backs:List Int
 last:Int
 values:List Nat
 «from» : List Nat
 depth:Int
 /-- as the code counts them: an int of Go's -/
 moves:Int
 deriving DecidableEq
def zeh.zero:zeh:=⟨⟨0,0,[],0⟩,[]⟩
def zb2(r:zaf)(place:Nat):List (Nat × Nat) :=
 r.plain.zipIdx.filterMap fun x=>(zbq x.1 place).map fun lv=>(x.2,lv)
def zb3(J:zav)(known:Nat):Bool:=J.bars.any fun b=>b.known == known && (zdr b.rows (zc0 b.lit J.values)).isSome
def za3(r:zaf)(plain nots:List zad):zav :=
 let J:zav:={ head:=r.head,vars:=r.vars,sides:=plain.map (fun T=>⟨T,[0,0,0]⟩),bars:=(r.nots.zip nots).map (fun x=>⟨x.1,zdl x.1,x.2⟩),holds:=(List.range 5).map (zb2 r),backs:=(List.range 5).map (fun p=>zd5 r (p:Nat)),last:=zd5 r r.vars,values:=[0,0,0,0,0],«from»:=[0,0,0,0,0],depth:=if plain.any (fun T=>T.count == 0) then -1 else 0,moves:=0 }
 if zb3 J 0 then{ J with depth:=-1 } else J
def zcq(J:zav)(h:Nat × Nat):Bool:=decide (h.1 < J.sides.length) && decide (h.2 < 3)
def zhl(J:zav)(h:Nat × Nat)(«from» : Nat):zav × Option Nat :=
 if zcq J h then({ J with moves:=IntKind.i64.wrap (J.moves+1) },zcn (J.sides.getD h.1 zeh.zero).rows ((J.sides.getD h.1 zeh.zero).nodes.getD h.2 0) «from») else(J,none)
def zid:Nat->zav->List (Nat × Nat)->Nat->Nat->Nat->Option (zav × Option Nat)
 |0,_,_,_,_,_=>none
 |n+1,J,hs,at',same,turn =>
  if same < hs.length then
   match zhl J (hs.getD turn (0,0)) at' with
   |(J,none)=>some (J,none)
   |(J,some v)=>zid n J hs (if v > at' then v else at') ((if v > at' then 0 else same)+1) (if turn+1 ≥ hs.length then 0 else turn+1)
  else some (J,some at')
def zmj(fuel:Nat)(J:zav)(place «from» : Nat):Option (zav × Option Nat) :=
 if place ≥ 5∨(J.holds.getD place []).length=0 then some (J,none) else zid fuel J (J.holds.getD place []) «from» 0 0
def zei(v:Nat)(J:zav)(h:Nat × Nat):zav :=
 if zcq J h=false∨h.2+1 ≥ 3 then J
 else{ J with sides:=J.sides.set h.1 { (J.sides.getD h.1 zeh.zero) with nodes:=(J.sides.getD h.1 zeh.zero).nodes.set (h.2+1) ((zax (J.sides.getD h.1 zeh.zero).rows ((J.sides.getD h.1 zeh.zero).nodes.getD h.2 0) v).getD 0) } }
def zfz(J:zav)(place v:Nat):zav :=
 if place ≥ 5 then J
 else(J.holds.getD place []).foldl (zei v) { J with values:=J.values.set place v,«from»:=(if place+1 < 5 then(J.from.set place (v+1)).set (place+1) 0 else J.from.set place (v+1)) }
def ze7:Nat->zav->Int->Option (zav × Bool)
 |0,_,_=>none
 |n+1,J,depth =>
  if 0<=depth/\depth < J.vars/\depth < 5 then
   match zmj n J depth.toNat (J.from.getD depth.toNat 0) with
   |none=>none
   |some (J,none)=>ze7 n J (J.backs.getD depth.toNat 0)
   |some (J,some v)=>ze7 n (zfz J depth.toNat v) (if zb3 (zfz J depth.toNat v) (depth.toNat+1) then depth else depth+1)
  else some (J,decide (depth ≥ J.vars))
def zuo(fuel:Nat)(J:zav):Option (zav × Bool) :=
 match ze7 fuel J J.depth with
 |none=>none
 |some (J,found)=>some ({ J with depth:=if found then J.last else -1 },found)
end Go.Proofs.YteampbddflhngaaGreat
namespace Go.Proofs.YteampbddflhngaaGreat
set_option maxRecDepth 100000
set_option maxHeartbeats 2000000
open Go.RowKit
variable {lo:Nat}
def ze0(wd:Nat)(ns:List (Nat × Nat)):List Value:=ns.flatMap fun x=>[sl x.1 wd,sl x.2 wd]
theorem ziy(wd:Nat):∀(ns:List (Nat × Nat)) (k:Nat) (hk:k < ns.length),(ze0 wd ns)[k * 2]?=some (sl ns[k].1 wd)/\(ze0 wd ns)[k * 2+1]?=some (sl ns[k].2 wd)
 |[],k,hk=>by simp at hk
 |p::r,0,_=>by simp[ze0]
 |p::r,k+1,hk=>by
  have:=ziy wd r k (by simpa using hk)
  simp only[ze0,List.flatMap_cons] at this ⊢
  rw[show(k+1) * 2=k * 2+1+1 from by omega,show k * 2+1+1+1=k * 2+1+1+1 from rfl]
  simpa using this
def intsOf(ns:List (Nat × Nat)):List Nat:=ns.flatMap fun x=>[x.1,x.2]
structure zdi (lo:Nat) (w:World) (tb:Nat) (T:zad) (nv:Value) (ns:List (Nat × Nat)):Prop where
 low:lo<=tb
 box:Box w tb #[.int .i64 (T.width:Nat),.int .i64 (T.depth:Nat),nv,.int .i64 (T.count:Nat)] 229
 nodes:w.ownsRow lo 273 2 nv T.nodes.length (ze0 T.width ns)
 len:ns.length=T.nodes.length
 leap:∀ i (h:i < T.nodes.length) (h2:i < ns.length),w.ownsRow lo 3 1 (sl ns[i].1 T.width) T.width (T.nodes[i].leap.map ivN)
 down:∀ i (h:i < T.nodes.length) (h2:i < ns.length),w.ownsRow lo 3 1 (sl ns[i].2 T.width) T.width (T.nodes[i].down.map ivN)
 apart:(intsOf ns).Nodup
 wide:T.width<=1000
 many:T.nodes.length<=100000000
 deep:T.depth<=3
 few:T.count<=1000000000
def fpT(tb:Nat)(nv:Value)(ns:List (Nat × Nat)):List Nat:=tb::(nv.ownBlock.toList++intsOf ns)
def zat(lo:Nat)(w:World)(tb:Nat)(T:zad)(fp:List Nat):Prop:=∃ nv ns,zdi lo w tb T nv ns/\fp=fpT tb nv ns
theorem zdi.leapLen{w:World}{tb:Nat}{T:zad}{nv:Value}{ns:List (Nat × Nat)}(h:zdi lo w tb T nv ns)(i:Nat)(hi:i < T.nodes.length):T.nodes[i].leap.length=T.width:=by
 have:=(h.leap i hi (by rw[h.len];exact hi)).1;simpa using this
theorem zdi.downLen{w:World}{tb:Nat}{T:zad}{nv:Value}{ns:List (Nat × Nat)}(h:zdi lo w tb T nv ns)(i:Nat)(hi:i < T.nodes.length):T.nodes[i].down.length=T.width:=by
 have:=(h.down i hi (by rw[h.len];exact hi)).1;simpa using this
theorem zr6{ns:List (Nat × Nat)}{b:Nat}(h:b∈intsOf ns):∃ i,∃ h:i < ns.length,b=ns[i].1∨b=ns[i].2:=by
 simp only[intsOf,List.mem_flatMap,List.mem_cons,List.not_mem_nil,or_false] at h
 obtain⟨x,hx,hb⟩:=h
 obtain⟨i,hi,rfl⟩:=List.getElem_of_mem hx
 exact⟨i,hi,hb⟩
theorem zm9{ns:List (Nat × Nat)}{i:Nat}(h:i < ns.length):ns[i].1∈intsOf ns/\ns[i].2∈intsOf ns:=by
 simp only[intsOf,List.mem_flatMap,List.mem_cons,List.not_mem_nil,or_false]
 exact⟨⟨_,List.getElem_mem h,Or.inl rfl⟩,⟨_,List.getElem_mem h,Or.inr rfl⟩⟩
theorem zdi.lt{w:World}{tb:Nat}{T:zad}{nv:Value}{ns:List (Nat × Nat)}(h:zdi lo w tb T nv ns):∀ b∈fpT tb nv ns,lo<=b/\b < w.heap.size:=by
 intro b hb
 simp only[fpT,List.mem_cons,List.mem_append] at hb
 rcases hb with rfl|hb|hb
 ·exact⟨h.low,h.box.lt⟩
 ·exact⟨zee h.nodes (zcw hb),zdo h.nodes (zcw hb)⟩
 ·obtain⟨i,hi,rfl|rfl⟩:=zr6 hb
  ·exact⟨zee (h.leap i (by rw[← h.len];exact hi) hi) rfl,zdo (h.leap i (by rw[← h.len];exact hi) hi) rfl⟩
  ·exact⟨zee (h.down i (by rw[← h.len];exact hi) hi) rfl,zdo (h.down i (by rw[← h.len];exact hi) hi) rfl⟩
theorem zat.lt{w:World}{tb:Nat}{T:zad}{fp:List Nat}(h:zat lo w tb T fp):∀ b∈fp,lo<=b/\b < w.heap.size:=by
 obtain⟨nv,ns,h1,rfl⟩:=h;exact h1.lt
theorem zat.save{w w':World}{tb:Nat}{T:zad}{fp N:List Nat}(h:zat lo w tb T fp)(hs:zar N w w')(hN:∀ b∈fp,b∉N):zat lo w' tb T fp:=by
 obtain⟨nv,ns,h1,rfl⟩:=h
 have hm:∀ b∈fpT tb nv ns,b∉N:=hN
 refine⟨nv,ns,⟨h1.low,h1.box.save hs (hm tb (by simp[fpT])),zbl h1.nodes hs fun b hb=>hm b ?_,h1.len,fun i hi hi2=>zbl (h1.leap i hi hi2) hs fun b hb=>hm b ?_,fun i hi hi2=>zbl (h1.down i hi hi2) hs fun b hb=>hm b ?_,h1.apart,h1.wide,h1.many,h1.deep,h1.few⟩,rfl⟩
 ·simp[fpT,hb]
 ·simp only[sl,Value.ownBlock,Option.some.injEq] at hb;subst hb;simp only[fpT,List.mem_cons,List.mem_append];exact Or.inr (Or.inr (zm9 hi2).1)
 ·simp only[sl,Value.ownBlock,Option.some.injEq] at hb;subst hb;simp only[fpT,List.mem_cons,List.mem_append];exact Or.inr (Or.inr (zm9 hi2).2)
theorem zat.below{w w':World}{tb:Nat}{T:zad}{fp:List Nat}(h:zat lo w tb T fp)(hb:Below w.heap.size w w'):zat lo w' tb T fp:=h.save (zar.of (M:=[]) hb) (by simp)
def zpf(o:Option Nat):Value:=.tuple #[.int .i64 ((o.getD 0:Nat):Int),.bool o.isSome]
theorem zdi.leapAt{w:World}{tb:Nat}{T:zad}{nv:Value}{ns:List (Nat × Nat)}(h:zdi lo w tb T nv ns)(a f:Nat)(ha:a < T.nodes.length)(hf:f < T.width) :
  ∃ gn cap gl,nv=.slice (some ⟨gn,0,none⟩) T.nodes.length cap/\gn < w.heap.size/\gl < w.heap.size/\(∃ h2:a < ns.length,gl=ns[a].1)/\w.cell? ⟨gn,a * 2,none⟩=some (.slice (some ⟨gl,0,none⟩) T.width T.width)/\w.cell? ⟨gl,f,none⟩=some (.int .i64 ((T.nodes[a].leap.getD f 0:Nat):Int)):=by
 have hi2:a < ns.length:=by rw[h.len];exact ha
 obtain⟨gn,cap',hv,_,hgn,hcn⟩:=zal h.nodes (by omega)
 obtain⟨gl,cap'',hv2,_,hgl,hcl⟩:=zal (h.leap a ha hi2) (by omega)
 simp only[sl,Value.slice.injEq,Option.some.injEq,Addr.mk.injEq] at hv2
 obtain⟨⟨rfl,_⟩,_,_⟩:=hv2
 have hll:=h.leapLen a ha
 refine⟨gn,cap',_,hv,hgn,hgl,⟨hi2,rfl⟩,hcn _ _ (ziy T.width ns a hi2).1,hcl f _ ?_⟩
 rw[List.getElem?_map,List.getElem?_eq_getElem (by omega),List.getD_eq_getElem?_getD,List.getElem?_eq_getElem (by omega)]
 rfl
theorem zdi.downAt{w:World}{tb:Nat}{T:zad}{nv:Value}{ns:List (Nat × Nat)}(h:zdi lo w tb T nv ns)(a f:Nat)(ha:a < T.nodes.length)(hf:f < T.width) :
  ∃ gn cap gl,nv=.slice (some ⟨gn,0,none⟩) T.nodes.length cap/\gn < w.heap.size/\gl < w.heap.size/\(∃ h2:a < ns.length,gl=ns[a].2)/\w.cell? ⟨gn,a * 2+1,none⟩=some (.slice (some ⟨gl,0,none⟩) T.width T.width)/\w.cell? ⟨gl,f,none⟩=some (.int .i64 ((T.nodes[a].down.getD f 0:Nat):Int)):=by
 have hi2:a < ns.length:=by rw[h.len];exact ha
 obtain⟨gn,cap',hv,_,hgn,hcn⟩:=zal h.nodes (by omega)
 obtain⟨gl,cap'',hv2,_,hgl,hcl⟩:=zal (h.down a ha hi2) (by omega)
 simp only[sl,Value.slice.injEq,Option.some.injEq,Addr.mk.injEq] at hv2
 obtain⟨⟨rfl,_⟩,_,_⟩:=hv2
 have hll:=h.downLen a ha
 refine⟨gn,cap',_,hv,hgn,hgl,⟨hi2,rfl⟩,hcn _ _ (ziy T.width ns a hi2).2,hcl f _ ?_⟩
 rw[List.getElem?_map,List.getElem?_eq_getElem (by omega),List.getD_eq_getElem?_getD,List.getElem?_eq_getElem (by omega)]
 rfl
theorem zld(w:World)(tb:Nat)(T:zad)(fp:List Nat)(a f:Nat)(h:zat lo w tb T fp) :
  Calls Tryz.prog 167 #[.pointer (some ⟨tb,0,none⟩),.int .i64 a,.int .i64 f] w fun e w'=>e=.returned (zpf (zcn T a f))/\w'=w:=by
 obtain⟨nv,ns,h1,rfl⟩:=h
 obtain⟨hc,hfz⟩:=h1.box.rules
 have hlt:=h1.box.lt
 have hwd:=h1.wide
 have hmn:=h1.many
 by_cases h2:a < T.nodes.length
 ·by_cases h3:f < T.width
  ·obtain⟨gn,cap,gl,rfl,hgn,hgl,_,hn1,hv1⟩:=h1.leapAt a f h2 h3
   have hE:zcn T a f=if T.nodes[a].leap.getD f 0 ≥ T.width then none else some (T.nodes[a].leap.getD f 0):=by
    unfold zcn
    rw[if_pos ⟨h2,h3⟩]
    simp[List.getD_eq_getElem?_getD,h2]
   generalize T.nodes[a].leap.getD f 0=v at *
   clear h1
   by_cases h4:v ≥ T.width
   ·rw[if_pos h4] at hE
    have HE:Hid (zcn T a f=none):=hE
    clear hE
    go_enter Tryz.func167,Tryz.ntmps167
    go_wp2
    go_ret2
    exact⟨by rw[HE.out];rfl,rfl⟩
   ·rw[if_neg h4] at hE
    have HE:Hid (zcn T a f=some v):=hE
    clear hE
    go_enter Tryz.func167,Tryz.ntmps167
    go_wp2
    go_ret2
    exact⟨by rw[HE.out];rfl,rfl⟩
  ·have HE:Hid (zcn T a f=none):=by unfold zcn;rw[Hid,if_neg (by omega)]
   obtain⟨ao,cap,rfl⟩:=zac h1.nodes
   clear h1
   go_enter Tryz.func167,Tryz.ntmps167
   go_wp2
   go_ret2
   exact⟨by rw[HE.out];rfl,rfl⟩
 ·have HE:Hid (zcn T a f=none):=by unfold zcn;rw[Hid,if_neg (by omega)]
  obtain⟨ao,cap,rfl⟩:=zac h1.nodes
  clear h1
  go_enter Tryz.func167,Tryz.ntmps167
  go_wp2
  go_ret2
  exact⟨by rw[HE.out];rfl,rfl⟩
theorem zh4(w:World)(tb:Nat)(T:zad)(fp:List Nat)(a f:Nat)(h:zat lo w tb T fp) :
  Calls Tryz.prog 130 #[.pointer (some ⟨tb,0,none⟩),.int .i64 a,.int .i64 f] w fun e w'=>e=.returned (zpf (zax T a f))/\w'=w:=by
 have HL:Hid (Calls Tryz.prog 167 #[.pointer (some ⟨tb,0,none⟩),.int .i64 a,.int .i64 f] w fun e w'=>e=.returned (zpf (zcn T a f))/\w'=w):=zld w tb T fp a f h
 obtain⟨nv,ns,h1,rfl⟩:=h
 obtain⟨hc,hfz⟩:=h1.box.rules
 have hlt:=h1.box.lt
 have hwd:=h1.wide
 have hmn:=h1.many
 cases hl:zcn T a f with
 |none =>
  have HE:Hid (zax T a f=none):=by unfold zax;rw[Hid,hl]
  rw[hl] at HL
  simp only[zpf,Option.getD_none,Option.isSome_none] at HL
  clear hl h1
  go_enter Tryz.func130,Tryz.ntmps130
  go_wp2_with (first|(go_at_call 167;refine HL.out.mono ?_;rintro e w' ⟨rfl,hww⟩;obtain rfl:=hww.symm))
  go_ret2
  exact⟨by rw[HE.out];rfl,rfl⟩
 |some u =>
  have hin:a < T.nodes.length/\f < T.width:=by
   unfold zcn at hl
   split at hl
   ·assumption
   ·cases hl
  obtain⟨gn,cap,gl,rfl,hgn,hgl,_,hn1,hv1⟩:=h1.downAt a f hin.1 hin.2
  have hE:zax T a f=if u=f then some (T.nodes[a].down.getD f 0) else none:=by
   unfold zax;rw[hl];simp[List.getD_eq_getElem?_getD,hin.1]
  rw[hl] at HL
  simp only[zpf,Option.getD_some,Option.isSome_some] at HL
  obtain⟨h2,h3⟩:=hin
  generalize T.nodes[a].down.getD f 0=v at *
  clear hl h1
  by_cases h4:u=f
  ·subst h4
   rw[if_pos rfl] at hE
   have HE:Hid (zax T a u=some v):=hE
   clear hE
   go_enter Tryz.func130,Tryz.ntmps130
   go_wp2_with (first|(go_at_call 167;refine HL.out.mono ?_;rintro e w' ⟨rfl,hww⟩;obtain rfl:=hww.symm))
   go_ret2
   exact⟨by rw[HE.out];rfl,rfl⟩
  ·rw[if_neg h4] at hE
   have HE:Hid (zax T a f=none):=hE
   clear hE
   go_enter Tryz.func130,Tryz.ntmps130
   go_wp2_with (first|(go_at_call 167;refine HL.out.mono ?_;rintro e w' ⟨rfl,hww⟩;obtain rfl:=hww.symm))
   go_ret2
   exact⟨by rw[HE.out];rfl,rfl⟩
theorem zrd(w:World)(tb:Nat)(T:zad)(fp:List Nat)(h:zat lo w tb T fp) :
  Calls Tryz.prog 209 #[.pointer (some ⟨tb,0,none⟩)] w fun e w'=>e=.returned (.int .i64 (T.count:Nat))/\w'=w:=by
 obtain⟨nv,ns,h1,rfl⟩:=h
 obtain⟨hc,hfz⟩:=h1.box.rules
 have hlt:=h1.box.lt
 clear h1
 go_enter Tryz.func209,Tryz.ntmps209
 go_wp2
 go_ret
 exact⟨rfl,rfl⟩
theorem ints_at:∀(ns:List (Nat × Nat)) (k:Nat) (hk:k < ns.length),(intsOf ns)[k * 2]?=some ns[k].1/\(intsOf ns)[k * 2+1]?=some ns[k].2
 |[],k,hk=>by simp at hk
 |p::r,0,_=>by simp[intsOf]
 |p::r,k+1,hk=>by
  have:=ints_at r k (by simpa using hk)
  simp only[intsOf,List.flatMap_cons] at this ⊢
  rw[show(k+1) * 2=k * 2+1+1 from by omega,show k * 2+1+1+1=k * 2+1+1+1 from rfl]
  simpa using this
theorem zon{l:List Nat}(h:l.Nodup){i j x y:Nat}(hi:l[i]?=some x)(hj:l[j]?=some y)(hne:i≠j):x≠y:=by
 obtain⟨h1,rfl⟩:=List.getElem?_eq_some_iff.1 hi
 obtain⟨h2,rfl⟩:=List.getElem?_eq_some_iff.1 hj
 exact z7f (f:=id) (by simpa using h) h1 h2 hne
theorem zr1{ns:List (Nat × Nat)}(h:(intsOf ns).Nodup){i j:Nat}(hi:i < ns.length)(hj:j < ns.length):(i≠j->ns[i].1≠ns[j].1/\ns[i].2≠ns[j].2)/\ns[i].1≠ns[j].2 :=
 ⟨fun hne=>⟨zon h (ints_at ns i hi).1 (ints_at ns j hj).1 (by omega),zon h (ints_at ns i hi).2 (ints_at ns j hj).2 (by omega)⟩,zon h (ints_at ns i hi).1 (ints_at ns j hj).2 (by omega)⟩
def setNode(T:zad)(a:Nat)(n:zhk):zad:={ T with nodes:=T.nodes.set a n }
theorem zdi.setLeap{w:World}{tb:Nat}{T:zad}{nv:Value}{ns:List (Nat × Nat)}(h:zdi lo w tb T nv ns)(a u x:Nat)(ha:a < T.nodes.length)(h2:a < ns.length)(hu:u < T.width) :
  zdi lo (w.setCell ⟨ns[a].1,u,none⟩ (.int .i64 (x:Nat))) tb (setNode T a ⟨T.nodes[a].leap.set u x,T.nodes[a].down⟩) nv ns:=by
 have hl:=h.leapLen a ha
 have hs:=zar.set w ns[a].1 u (.int .i64 (x:Nat))
 have hA:=h.leap a ha h2
 refine⟨h.low,h.box.save hs (by have:=zbr hA h.box (by decide) rfl;simpa using Ne.symm this),?_,by simpa [setNode] using h.len,fun i hi hi2=>?_,fun i hi hi2=>?_,h.apart,h.wide,by simpa [setNode] using h.many,h.deep,h.few⟩
 ·have:=zbl h.nodes hs (fun b hb hm=>zje hA h.nodes (by decide) rfl (by simp at hm;rw[← hm];exact hb))
  simpa [setNode] using this
 ·have hi':i < T.nodes.length:=by simpa [setNode] using hi
  by_cases e:i=a
  ·subst e
   have q:=zb4 hA u (by simp;omega) (.int .i64 (x:Nat))
   simp only[setNode,List.getElem_set_self]
   rw[List.map_set]
   exact q
  ·simp only[setNode,List.getElem_set_ne (Ne.symm e)]
   exact zbl (h.leap i hi' hi2) hs (fun b hb hm=>by simp[sl,Value.ownBlock] at hb hm;exact((zr1 h.apart hi2 h2).1 e).1 (hb.trans hm))
 ·have hi':i < T.nodes.length:=by simpa [setNode] using hi
  have q:=zbl (h.down i hi' hi2) hs (fun b hb hm=>by simp[sl,Value.ownBlock] at hb hm;exact(zr1 h.apart h2 hi2).2 (hm.symm.trans hb.symm))
  by_cases e:i=a
  ·subst e
   simp only[setNode,List.getElem_set_self]
   exact q
  ·simp only[setNode,List.getElem_set_ne (Ne.symm e)]
   exact q
theorem zdi.setDown{w:World}{tb:Nat}{T:zad}{nv:Value}{ns:List (Nat × Nat)}(h:zdi lo w tb T nv ns)(a u x:Nat)(ha:a < T.nodes.length)(h2:a < ns.length)(hu:u < T.width) :
  zdi lo (w.setCell ⟨ns[a].2,u,none⟩ (.int .i64 (x:Nat))) tb (setNode T a ⟨T.nodes[a].leap,T.nodes[a].down.set u x⟩) nv ns:=by
 have hl:=h.downLen a ha
 have hs:=zar.set w ns[a].2 u (.int .i64 (x:Nat))
 have hA:=h.down a ha h2
 refine⟨h.low,h.box.save hs (by have:=zbr hA h.box (by decide) rfl;simpa using Ne.symm this),?_,by simpa [setNode] using h.len,fun i hi hi2=>?_,fun i hi hi2=>?_,h.apart,h.wide,by simpa [setNode] using h.many,h.deep,h.few⟩
 ·have:=zbl h.nodes hs (fun b hb hm=>zje hA h.nodes (by decide) rfl (by simp at hm;rw[← hm];exact hb))
  simpa [setNode] using this
 ·have hi':i < T.nodes.length:=by simpa [setNode] using hi
  have q:=zbl (h.leap i hi' hi2) hs (fun b hb hm=>by simp[sl,Value.ownBlock] at hb hm;exact(zr1 h.apart hi2 h2).2 (hb.trans hm))
  by_cases e:i=a
  ·subst e
   simp only[setNode,List.getElem_set_self]
   exact q
  ·simp only[setNode,List.getElem_set_ne (Ne.symm e)]
   exact q
 ·have hi':i < T.nodes.length:=by simpa [setNode] using hi
  by_cases e:i=a
  ·subst e
   have q:=zb4 hA u (by simp;omega) (.int .i64 (x:Nat))
   simp only[setNode,List.getElem_set_self]
   rw[List.map_set]
   exact q
  ·simp only[setNode,List.getElem_set_ne (Ne.symm e)]
   exact zbl (h.down i hi' hi2) hs (fun b hb hm=>by simp[sl,Value.ownBlock] at hb hm;exact((zr1 h.apart hi2 h2).1 e).2 (hb.trans hm))
structure Wrote (lo:Nat) (w w':World) (tb:Nat) (T:zad) (fp:List Nat) (fp':List Nat):Prop where
 trie:zat lo w' tb T fp'
 save:zar fp w w'
 fresh:∀ b∈fp',b∈fp∨w.heap.size<=b
theorem zo5(T:zad)(a:Nat)(n m:zhk):setNode (setNode T a n) a m=setNode T a m:=by simp[setNode]
theorem z9j{T:zad}{a v d:Nat}(ha:a < T.nodes.length)(hv:v < T.width):ze5 T a v d=setNode T a ⟨zgi v (v+1) T.nodes[a].leap,T.nodes[a].down.set v d⟩:=by
 unfold ze5;rw[if_pos ⟨ha,hv⟩];simp[setNode,z5s,List.getD_eq_getElem?_getD,ha]
theorem put_any(w:World)(tb:Nat)(T:zad)(fp:List Nat)(a v d:Nat)(h:zat lo w tb T fp) :
  Calls Tryz.prog 203 #[.pointer (some ⟨tb,0,none⟩),.int .i64 a,.int .i64 v,.int .i64 d] w fun e w'=>e=.returned (.tuple #[])/\Wrote lo w w' tb (ze5 T a v d) fp fp:=by
 have hh:=h
 obtain⟨nv,ns,h1,rfl⟩:=h
 have hwd:=h1.wide
 have hmn:=h1.many
 by_cases h2:a < T.nodes.length
 ·by_cases h3:v < T.width
  ·have hi2:a < ns.length:=by rw[h1.len];exact h2
   have HP:Hid (ze5 T a v d=setNode T a ⟨zgi v (v+1) T.nodes[a].leap,T.nodes[a].down.set v d⟩):=z9j h2 h3
   obtain⟨gn,cap,gl,rfl,hgn,hgl,⟨_,rfl⟩,hn1,hv1⟩:=h1.downAt a v h2 h3
   obtain⟨hc,hfz⟩:=h1.box.rules
   have hlt:=h1.box.lt
   have hfd:=zbt (h1.down a h2 hi2)
   have hfl:=zbt (h1.leap a h2 hi2)
   have hset:=h1.setDown a v d h2 hi2 h3
   have H1:Hid (zdi lo w tb T (.slice (some ⟨gn,0,none⟩) T.nodes.length cap) ns):=h1
   clear h1 hh
   have hE0:T.nodes[a].down.set v d=T.nodes[a].down.set v d:=rfl
   generalize hdw:T.nodes[a].down.set v d=dw at *
   generalize hlp:T.nodes[a].leap=lp at *
   clear hE0 hdw hlp
   go_enter Tryz.func203,Tryz.ntmps203
   go_wp2
   clear hn1 hv1 hc hfz hlt hfd hfl hgl hgn
   go_loopw [8] (fun v8 wr=>∃(n:Nat) (l:List Nat),n<=v+1/\v8=.int .i64 ((n:Int) - 1)/\zdi lo wr tb (setNode T a ⟨l,dw⟩) (.slice (some ⟨gn,0,none⟩) T.nodes.length cap) ns/\Hid (zgi v (v+1) lp=zgi v n l)/\zar (fpT tb (.slice (some ⟨gn,0,none⟩) T.nodes.length cap) ns) w wr) (fun v8 _=>(intOf v8+1).toNat)
   case atStart =>
    refine⟨v+1,lp,Nat.le_refl _,by go_num,hset,rfl,(zar.set _ _ _ _).more fun x hx=>?_⟩
    simp only[List.mem_singleton] at hx
    subst hx
    simp only[fpT,List.mem_cons,List.mem_append]
    exact Or.inr (Or.inr (zm9 hi2).2)
   case round =>
    clear hset
    obtain⟨n,l,hn,rfl,hti,hlow,hsv⟩:=hrel
    have h2':a < (setNode T a ⟨l,dw⟩).nodes.length:=by simpa [setNode] using h2
    have hnode:(setNode T a ⟨l,dw⟩).nodes[a]=⟨l,dw⟩:=by simp[setNode]
    have hwd':(setNode T a ⟨l,dw⟩).width=T.width:=rfl
    obtain⟨hc,hfz⟩:=hti.box.rules
    have hlt:=hti.box.lt
    have hfl:=zbt (hti.leap a h2' hi2)
    have HDONE:Hid (zgi v n l=l->Wrote lo w wr tb (ze5 T a v d) (fpT tb (.slice (some ⟨gn,0,none⟩) T.nodes.length cap) ns) (fpT tb (.slice (some ⟨gn,0,none⟩) T.nodes.length cap) ns)):=fun e=>⟨⟨_,ns,by rw[HP.out,hlow.out,e];exact hti,rfl⟩,hsv,fun b hb=>Or.inl hb⟩
    cases n with
    |zero =>
     clear hti
     go_wp2
     go_end0
     exact⟨rfl,HDONE.out rfl⟩
    |succ m =>
     have e:((m+1:Nat):Int) - 1=(m:Int):=by omega
     rw[e]
     have hm:m < T.width:=by omega
     obtain⟨gn',cap',gl,hnv,hgn,hgl,⟨_,rfl⟩,hn1,hv1⟩:=hti.leapAt a m h2' (by rw[hwd'];exact hm)
     simp only[Value.slice.injEq,Option.some.injEq,Addr.mk.injEq] at hnv
     obtain⟨⟨rfl,_⟩,_,rfl⟩:=hnv
     rw[hnode] at hv1
     rw[hwd'] at hn1
     have hs2:=hti.setLeap a m v h2' hi2 (by rw[hwd'];exact hm)
     rw[hnode,zo5] at hs2
     have HL:Hid (zgi v (m+1) l=if l.getD m 0 > v then zgi v m (l.set m v) else l):=by rw[Hid,zgi]
     have HTI:Hid (zdi lo wr tb (setNode T a ⟨l,dw⟩) (.slice (some ⟨gn,0,none⟩) T.nodes.length cap) ns):=hti
     clear hti h2' hnode e
     have HS2:Hid (zdi lo (wr.setCell ⟨ns[a].1,m,none⟩ (.int .i64 (v:Nat))) tb (setNode T a ⟨l.set m v,dw⟩) (.slice (some ⟨gn,0,none⟩) T.nodes.length cap) ns):=hs2
     clear hs2
     simp only at hv1
     generalize l.getD m 0=x at *
     by_cases hx:x > v
     ·rw[if_pos hx] at HL
      go_wp2
      go_roundw
      case rel =>
       refine⟨m,l.set m v,by omega,by go_num,HS2.out,hlow.trans HL,hsv.trans ((zar.set _ _ _ _).more fun x hx=>?_)⟩
       simp only[List.mem_singleton] at hx
       subst hx
       simp only[fpT,List.mem_cons,List.mem_append]
       exact Or.inr (Or.inr (zm9 hi2).1)
      case measure=>simp[intOf]
     ·rw[if_neg hx] at HL
      go_wp2
      go_end0
      exact⟨rfl,HDONE.out HL.out⟩
  ·have HP:Hid (ze5 T a v d=T):=by unfold ze5;rw[Hid,if_neg (by omega)]
   obtain⟨ao,cap,rfl⟩:=zac h1.nodes
   obtain⟨hc,hfz⟩:=h1.box.rules
   have hlt:=h1.box.lt
   clear h1
   go_enter Tryz.func203,Tryz.ntmps203
   go_wp2
   (try simp only[Exit.inBlock,Exit.then]);refine bodyPost_ret (results_none rfl _ _ _) rfl ?_
   exact⟨rfl,by rw[HP.out];exact⟨hh,zar.refl _ _,fun b hb=>Or.inl hb⟩⟩
 ·have HP:Hid (ze5 T a v d=T):=by unfold ze5;rw[Hid,if_neg (by omega)]
  obtain⟨ao,cap,rfl⟩:=zac h1.nodes
  obtain⟨hc,hfz⟩:=h1.box.rules
  have hlt:=h1.box.lt
  clear h1
  go_enter Tryz.func203,Tryz.ntmps203
  go_wp2
  (try simp only[Exit.inBlock,Exit.then]);refine bodyPost_ret (results_none rfl _ _ _) rfl ?_
  exact⟨rfl,by rw[HP.out];exact⟨hh,zar.refl _ _,fun b hb=>Or.inl hb⟩⟩
end Go.Proofs.YteampbddflhngaaGreat
