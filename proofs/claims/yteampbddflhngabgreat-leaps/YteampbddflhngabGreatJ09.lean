import Derived.Test.YteampbddflhngabGreatJ01
import Derived.Test.YteampbddflhngabGreatJ08

namespace Go.Proofs.YteampbddflhngabGreat
structure zha where
 leap:List Nat
 down:List Nat
 deriving DecidableEq
structure zad where
 width:Nat
 depth:Nat
 nodes:List zha
 count:Nat
 deriving DecidableEq
abbrev zaq:=List Nat
def zha.zero:zha:=⟨[],[]⟩
def zb3(T:zad):zad:={ T with nodes:=T.nodes++[⟨List.replicate T.width T.width,List.replicate T.width 0⟩] }
def za1(width:Nat):Nat:=if width < 1 then 1 else width
def zbp(depth:Nat):Nat:=if (if depth < 1 then 1 else depth) > 3 then 3 else(if depth < 1 then 1 else depth)
def zfp(width depth:Nat):zad:=zb3 ⟨za1 width,zbp depth,[],0⟩
def zcj(T:zad)(at' «from» : Nat):Option Nat :=
 if at' < T.nodes.length/\«from» < T.width then
  let v:=(T.nodes.getD at' zha.zero).leap.getD «from» 0
  if v ≥ T.width then none else some v
 else none
def zaw(T:zad)(at' v:Nat):Option Nat :=
 match zcj T at' v with
 |none=>none
 |some u=>if u=v then some ((T.nodes.getD at' zha.zero).down.getD v 0) else none
def zga(v:Nat):Nat->List Nat->List Nat
 |0,l=>l
 |n+1,l=>if l.getD n 0 > v then zga v n (l.set n v) else l
def z2x(n:zha)(v d:Nat):zha:=⟨zga v (v+1) n.leap,n.down.set v d⟩
def zey(T:zad)(at' v d:Nat):zad :=
 if at' < T.nodes.length/\v < T.width then{ T with nodes:=T.nodes.set at' (z2x (T.nodes.getD at' zha.zero) v d) } else T
def zcm(T:zad)(at' v:Nat):zad × Nat :=
 match zaw T at' v with
 |some b=>(T,b)
 |none=>(zey (zb3 T) at' v T.nodes.length,T.nodes.length)
def zo5(T:zad)(at' v mark:Nat):zad × Bool :=
 match zaw T at' v with
 |some _=>(T,false)
 |none=>({ zey T at' v mark with count:=(zey T at' v mark).count+1 },true)
def zm9(T:zad)(row:zaq):Bool:=row.all (fun v=>v < T.width)
def zc0(mark:Nat):zad->Nat->Nat->zaq->zad × Bool
 |T,_,_,[]=>(T,false)
 |T,at',level,v::r =>
  if level+1 ≥ T.depth then zo5 T at' v mark else zc0 mark (zcm T at' v).1 (zcm T at' v).2 (level+1) r
def zfh(T:zad)(row:zaq)(mark:Nat):zad × Bool:=if zm9 T row then zc0 mark T 0 0 row else(T,false)
def za9(T:zad):Nat->Nat->zaq->Option Nat
 |_,_,[]=>none
 |at',level,v::r =>
  match zaw T at' v with
  |none=>none
  |some b=>if level+1 ≥ T.depth then some b else za9 T b (level+1) r
def zes(T:zad)(row:zaq):Option Nat:=za9 T 0 0 row
def zc9(T:zad):Nat->Nat->Nat->Nat->zaq->List zaq->Option (zaq × List zaq)
 |0,_,_,_,_,_=>none
 |n+1,at',level,«from»,row,rows =>
  match zcj T at' «from» with
  |none=>some (row,rows)
  |some v =>
   let row:=row.set level v
   if level+1 ≥ T.depth then zc9 T n at' level (v+1) row (rows++[row])
   else if level+1 ≥ 3 then zc9 T n at' level (v+1) row rows
   else match zc9 T n ((zaw T at' v).getD 0) (level+1) 0 row rows with
    |none=>none
    |some (row,rows)=>zc9 T n at' level (v+1) row rows
def zq5(fuel:Nat)(T:zad):Option (List zaq):=(zc9 T fuel 0 0 0 [0,0,0] []).map (·.2)
structure zbh where
 var:Bool
 num:Nat
 level:Nat
 deriving DecidableEq
structure zai where
 pred:Nat
 terms:List zbh
 deriving DecidableEq
structure zaf where
 stratum:Nat
 vars:Nat
 head:zai
 plain:List zai
 nots:List zai
 deriving DecidableEq
def zc8(l:zai)(place:Nat):Bool:=l.terms.any fun t=>t.var && t.num == place
def zbj(l:zai)(place:Nat):Option Nat:=if zc8 l place then some ((List.range place).countP (zc8 l)) else none
def za7(l:zai):Nat:=(List.range 5).countP (zc8 l)
def zdg(l:zai):Nat:=l.terms.foldl (fun k t=>if t.var && decide (t.num ≥ k) then t.num+1 else k) 0
def zh9(l:zai)(known:Int):Int:=l.terms.foldl (fun k t=>if t.var && decide ((t.num:Int) < known) && decide ((t.num:Int) > k) then(t.num:Int) else k) (-1)
def zhs(l:zai)(known:Int):Int:=if (zdg l:Int)<=known then -1 else zh9 l known
def za8(known:Int)(b:Int)(l:zai):Int:=if zhs l known > b then zhs l known else b
def zdz(r:zaf)(known:Int):Int:=r.nots.foldl (za8 known) (r.plain.foldl (za8 known) (zh9 r.head known))
def atT(t:zbh)(vals:List Nat):Nat:=if t.var && decide (t.num < 5) then vals.getD t.num 0 else t.num
def rowCell(l:zai)(vals:List Nat)(i:Nat):Nat:=if i < l.terms.length then atT (l.terms.getD i ⟨false,0,0⟩) vals else 0
def zcp(l:zai)(vals:List Nat):zaq:=[rowCell l vals 0,rowCell l vals 1,rowCell l vals 2]
def leveled(t:zbh):Bool:=t.var && decide (t.level < 3)
def zbq(l:zai)(row:zaq)(f:zaq)(i:Nat):zaq :=
 if i < l.terms.length/\leveled (l.terms.getD i ⟨false,0,0⟩)=true then f.set (l.terms.getD i ⟨false,0,0⟩).level (row.getD i 0) else f
def zc3(l:zai)(row:zaq):zaq:=zbq l row (zbq l row (zbq l row [0,0,0] 0) 1) 2
def zd2(t:zbh)(v:Nat)(f:zaq):Bool:=if leveled t then f.getD t.level 0 == v else t.num == v
def zaz(l:zai)(row f:zaq)(i:Nat):Bool:=decide (l.terms.length<=i) || zd2 (l.terms.getD i ⟨false,0,0⟩) (row.getD i 0) f
def zbr(l:zai)(row:zaq):Option zaq :=
 if zaz l row (zc3 l row) 0 && zaz l row (zc3 l row) 1 && zaz l row (zc3 l row) 2 then some (zc3 l row) else none
structure zea where
 rows:zad
 nodes:List Nat
 deriving DecidableEq
structure z7h where
 lit:zai
 known:Nat
 rows:zad
 deriving DecidableEq
structure zat where
 head:zai
 vars:Nat
 sides:List zea
 bars:List z7h
 holds:List (List (Nat × Nat))
 backs:List Int
 last:Int
 values:List Nat
 «from» : List Nat
 depth:Int
 /-- as the code counts them: an int of Go's -/
 moves:Int
 deriving DecidableEq
def zea.zero:zea:=⟨⟨0,0,[],0⟩,[]⟩
def zbw(r:zaf)(place:Nat):List (Nat × Nat) :=
 r.plain.zipIdx.filterMap fun x=>(zbj x.1 place).map fun lv=>(x.2,lv)
def zbx(J:zat)(known:Nat):Bool:=J.bars.any fun b=>b.known == known && (zes b.rows (zcp b.lit J.values)).isSome
def za0(r:zaf)(plain nots:List zad):zat :=
 let J:zat:={ head:=r.head,vars:=r.vars,sides:=plain.map (fun T=>⟨T,[0,0,0]⟩),bars:=(r.nots.zip nots).map (fun x=>⟨x.1,zdg x.1,x.2⟩),holds:=(List.range 5).map (zbw r),backs:=(List.range 5).map (fun p=>zdz r (p:Nat)),last:=zdz r r.vars,values:=[0,0,0,0,0],«from»:=[0,0,0,0,0],depth:=if plain.any (fun T=>T.count == 0) then -1 else 0,moves:=0 }
 if zbx J 0 then{ J with depth:=-1 } else J
def zcn(J:zat)(h:Nat × Nat):Bool:=decide (h.1 < J.sides.length) && decide (h.2 < 3)
def zhb(J:zat)(h:Nat × Nat)(«from» : Nat):zat × Option Nat :=
 if zcn J h then({ J with moves:=IntKind.i64.wrap (J.moves+1) },zcj (J.sides.getD h.1 zea.zero).rows ((J.sides.getD h.1 zea.zero).nodes.getD h.2 0) «from») else(J,none)
def zh4:Nat->zat->List (Nat × Nat)->Nat->Nat->Nat->Option (zat × Option Nat)
 |0,_,_,_,_,_=>none
 |n+1,J,hs,at',same,turn =>
  if same < hs.length then
   match zhb J (hs.getD turn (0,0)) at' with
   |(J,none)=>some (J,none)
   |(J,some v)=>zh4 n J hs (if v > at' then v else at') ((if v > at' then 0 else same)+1) (if turn+1 ≥ hs.length then 0 else turn+1)
  else some (J,some at')
def zlu(fuel:Nat)(J:zat)(place «from» : Nat):Option (zat × Option Nat) :=
 if place ≥ 5∨(J.holds.getD place []).length=0 then some (J,none) else zh4 fuel J (J.holds.getD place []) «from» 0 0
def zeb(v:Nat)(J:zat)(h:Nat × Nat):zat :=
 if zcn J h=false∨h.2+1 ≥ 3 then J
 else{ J with sides:=J.sides.set h.1 { (J.sides.getD h.1 zea.zero) with nodes:=(J.sides.getD h.1 zea.zero).nodes.set (h.2+1) ((zaw (J.sides.getD h.1 zea.zero).rows ((J.sides.getD h.1 zea.zero).nodes.getD h.2 0) v).getD 0) } }
def zft(J:zat)(place v:Nat):zat :=
 if place ≥ 5 then J
 else(J.holds.getD place []).foldl (zeb v) { J with values:=J.values.set place v,«from»:=(if place+1 < 5 then(J.from.set place (v+1)).set (place+1) 0 else J.from.set place (v+1)) }
def ze0:Nat->zat->Int->Option (zat × Bool)
 |0,_,_=>none
 |n+1,J,depth =>
  if 0<=depth/\depth < J.vars/\depth < 5 then
   match zlu n J depth.toNat (J.from.getD depth.toNat 0) with
   |none=>none
   |some (J,none)=>ze0 n J (J.backs.getD depth.toNat 0)
   |some (J,some v)=>ze0 n (zft J depth.toNat v) (if zbx (zft J depth.toNat v) (depth.toNat+1) then depth else depth+1)
  else some (J,decide (depth ≥ J.vars))
def zs9(fuel:Nat)(J:zat):Option (zat × Bool) :=
 match ze0 fuel J J.depth with
 |none=>none
 |some (J,found)=>some ({ J with depth:=if found then J.last else -1 },found)
end Go.Proofs.YteampbddflhngabGreat
namespace Go.Proofs.YteampbddflhngabGreat
set_option maxRecDepth 100000
set_option maxHeartbeats 2000000
open Go.RowKit
variable {lo:Nat}
def zet(wd:Nat)(ns:List (Nat × Nat)):List Value:=ns.flatMap fun x=>[sl x.1 wd,sl x.2 wd]
theorem zim(wd:Nat):∀(ns:List (Nat × Nat)) (k:Nat) (hk:k < ns.length),(zet wd ns)[k * 2]?=some (sl ns[k].1 wd)/\(zet wd ns)[k * 2+1]?=some (sl ns[k].2 wd)
 |[],k,hk=>by simp at hk
 |p::r,0,_=>by simp[zet]
 |p::r,k+1,hk=>by
  have:=zim wd r k (by simpa using hk)
  simp only[zet,List.flatMap_cons] at this ⊢
  rw[show(k+1) * 2=k * 2+1+1 from by omega,show k * 2+1+1+1=k * 2+1+1+1 from rfl]
  simpa using this
def intsOf(ns:List (Nat × Nat)):List Nat:=ns.flatMap fun x=>[x.1,x.2]
structure zdd (lo:Nat) (w:World) (tb:Nat) (T:zad) (nv:Value) (ns:List (Nat × Nat)):Prop where
 low:lo<=tb
 box:Box w tb #[.int .i64 (T.width:Nat),.int .i64 (T.depth:Nat),nv,.int .i64 (T.count:Nat)] 168
 nodes:w.ownsRow lo 200 2 nv T.nodes.length (zet T.width ns)
 len:ns.length=T.nodes.length
 leap:∀ i (h:i < T.nodes.length) (h2:i < ns.length),w.ownsRow lo 3 1 (sl ns[i].1 T.width) T.width (T.nodes[i].leap.map ivN)
 down:∀ i (h:i < T.nodes.length) (h2:i < ns.length),w.ownsRow lo 3 1 (sl ns[i].2 T.width) T.width (T.nodes[i].down.map ivN)
 apart:(intsOf ns).Nodup
 wide:T.width<=1000
 many:T.nodes.length<=100000000
 deep:T.depth<=3
 few:T.count<=1000000000
def fpT(tb:Nat)(nv:Value)(ns:List (Nat × Nat)):List Nat:=tb::(nv.ownBlock.toList++intsOf ns)
def zar(lo:Nat)(w:World)(tb:Nat)(T:zad)(fp:List Nat):Prop:=∃ nv ns,zdd lo w tb T nv ns/\fp=fpT tb nv ns
theorem zdd.leapLen{w:World}{tb:Nat}{T:zad}{nv:Value}{ns:List (Nat × Nat)}(h:zdd lo w tb T nv ns)(i:Nat)(hi:i < T.nodes.length):T.nodes[i].leap.length=T.width:=by
 have:=(h.leap i hi (by rw[h.len];exact hi)).1;simpa using this
theorem zdd.downLen{w:World}{tb:Nat}{T:zad}{nv:Value}{ns:List (Nat × Nat)}(h:zdd lo w tb T nv ns)(i:Nat)(hi:i < T.nodes.length):T.nodes[i].down.length=T.width:=by
 have:=(h.down i hi (by rw[h.len];exact hi)).1;simpa using this
theorem zqw{ns:List (Nat × Nat)}{b:Nat}(h:b∈intsOf ns):∃ i,∃ h:i < ns.length,b=ns[i].1∨b=ns[i].2:=by
 simp only[intsOf,List.mem_flatMap,List.mem_cons,List.not_mem_nil,or_false] at h
 obtain⟨x,hx,hb⟩:=h
 obtain⟨i,hi,rfl⟩:=List.getElem_of_mem hx
 exact⟨i,hi,hb⟩
theorem zmi{ns:List (Nat × Nat)}{i:Nat}(h:i < ns.length):ns[i].1∈intsOf ns/\ns[i].2∈intsOf ns:=by
 simp only[intsOf,List.mem_flatMap,List.mem_cons,List.not_mem_nil,or_false]
 exact⟨⟨_,List.getElem_mem h,Or.inl rfl⟩,⟨_,List.getElem_mem h,Or.inr rfl⟩⟩
theorem zdd.lt{w:World}{tb:Nat}{T:zad}{nv:Value}{ns:List (Nat × Nat)}(h:zdd lo w tb T nv ns):∀ b∈fpT tb nv ns,lo<=b/\b < w.heap.size:=by
 intro b hb
 simp only[fpT,List.mem_cons,List.mem_append] at hb
 rcases hb with rfl|hb|hb
 ·exact⟨h.low,h.box.lt⟩
 ·exact⟨zej h.nodes (zc1 hb),zdk h.nodes (zc1 hb)⟩
 ·obtain⟨i,hi,rfl|rfl⟩:=zqw hb
  ·exact⟨zej (h.leap i (by rw[← h.len];exact hi) hi) rfl,zdk (h.leap i (by rw[← h.len];exact hi) hi) rfl⟩
  ·exact⟨zej (h.down i (by rw[← h.len];exact hi) hi) rfl,zdk (h.down i (by rw[← h.len];exact hi) hi) rfl⟩
theorem zar.lt{w:World}{tb:Nat}{T:zad}{fp:List Nat}(h:zar lo w tb T fp):∀ b∈fp,lo<=b/\b < w.heap.size:=by
 obtain⟨nv,ns,h1,rfl⟩:=h;exact h1.lt
theorem zar.save{w w':World}{tb:Nat}{T:zad}{fp N:List Nat}(h:zar lo w tb T fp)(hs:zao N w w')(hN:∀ b∈fp,b∉N):zar lo w' tb T fp:=by
 obtain⟨nv,ns,h1,rfl⟩:=h
 have hm:∀ b∈fpT tb nv ns,b∉N:=hN
 refine⟨nv,ns,⟨h1.low,h1.box.save hs (hm tb (by simp[fpT])),zbf h1.nodes hs fun b hb=>hm b ?_,h1.len,fun i hi hi2=>zbf (h1.leap i hi hi2) hs fun b hb=>hm b ?_,fun i hi hi2=>zbf (h1.down i hi hi2) hs fun b hb=>hm b ?_,h1.apart,h1.wide,h1.many,h1.deep,h1.few⟩,rfl⟩
 ·simp[fpT,hb]
 ·simp only[sl,Value.ownBlock,Option.some.injEq] at hb;subst hb;simp only[fpT,List.mem_cons,List.mem_append];exact Or.inr (Or.inr (zmi hi2).1)
 ·simp only[sl,Value.ownBlock,Option.some.injEq] at hb;subst hb;simp only[fpT,List.mem_cons,List.mem_append];exact Or.inr (Or.inr (zmi hi2).2)
theorem zar.below{w w':World}{tb:Nat}{T:zad}{fp:List Nat}(h:zar lo w tb T fp)(hb:Below w.heap.size w w'):zar lo w' tb T fp:=h.save (zao.of (M:=[]) hb) (by simp)
def zof(o:Option Nat):Value:=.tuple #[.int .i64 ((o.getD 0:Nat):Int),.bool o.isSome]
theorem zdd.leapAt{w:World}{tb:Nat}{T:zad}{nv:Value}{ns:List (Nat × Nat)}(h:zdd lo w tb T nv ns)(a f:Nat)(ha:a < T.nodes.length)(hf:f < T.width) :
  ∃ gn cap gl,nv=.slice (some ⟨gn,0,none⟩) T.nodes.length cap/\gn < w.heap.size/\gl < w.heap.size/\(∃ h2:a < ns.length,gl=ns[a].1)/\w.cell? ⟨gn,a * 2,none⟩=some (.slice (some ⟨gl,0,none⟩) T.width T.width)/\w.cell? ⟨gl,f,none⟩=some (.int .i64 ((T.nodes[a].leap.getD f 0:Nat):Int)):=by
 have hi2:a < ns.length:=by rw[h.len];exact ha
 obtain⟨gn,cap',hv,_,hgn,hcn⟩:=zas h.nodes (by omega)
 obtain⟨gl,cap'',hv2,_,hgl,hcl⟩:=zas (h.leap a ha hi2) (by omega)
 simp only[sl,Value.slice.injEq,Option.some.injEq,Addr.mk.injEq] at hv2
 obtain⟨⟨rfl,_⟩,_,_⟩:=hv2
 have hll:=h.leapLen a ha
 refine⟨gn,cap',_,hv,hgn,hgl,⟨hi2,rfl⟩,hcn _ _ (zim T.width ns a hi2).1,hcl f _ ?_⟩
 rw[List.getElem?_map,List.getElem?_eq_getElem (by omega),List.getD_eq_getElem?_getD,List.getElem?_eq_getElem (by omega)]
 rfl
theorem zdd.downAt{w:World}{tb:Nat}{T:zad}{nv:Value}{ns:List (Nat × Nat)}(h:zdd lo w tb T nv ns)(a f:Nat)(ha:a < T.nodes.length)(hf:f < T.width) :
  ∃ gn cap gl,nv=.slice (some ⟨gn,0,none⟩) T.nodes.length cap/\gn < w.heap.size/\gl < w.heap.size/\(∃ h2:a < ns.length,gl=ns[a].2)/\w.cell? ⟨gn,a * 2+1,none⟩=some (.slice (some ⟨gl,0,none⟩) T.width T.width)/\w.cell? ⟨gl,f,none⟩=some (.int .i64 ((T.nodes[a].down.getD f 0:Nat):Int)):=by
 have hi2:a < ns.length:=by rw[h.len];exact ha
 obtain⟨gn,cap',hv,_,hgn,hcn⟩:=zas h.nodes (by omega)
 obtain⟨gl,cap'',hv2,_,hgl,hcl⟩:=zas (h.down a ha hi2) (by omega)
 simp only[sl,Value.slice.injEq,Option.some.injEq,Addr.mk.injEq] at hv2
 obtain⟨⟨rfl,_⟩,_,_⟩:=hv2
 have hll:=h.downLen a ha
 refine⟨gn,cap',_,hv,hgn,hgl,⟨hi2,rfl⟩,hcn _ _ (zim T.width ns a hi2).2,hcl f _ ?_⟩
 rw[List.getElem?_map,List.getElem?_eq_getElem (by omega),List.getD_eq_getElem?_getD,List.getElem?_eq_getElem (by omega)]
 rfl
theorem zkt(w:World)(tb:Nat)(T:zad)(fp:List Nat)(a f:Nat)(h:zar lo w tb T fp) :
  Calls Tryz.prog 107 #[.pointer (some ⟨tb,0,none⟩),.int .i64 a,.int .i64 f] w fun e w'=>e=.returned (zof (zcj T a f))/\w'=w:=by
 obtain⟨nv,ns,h1,rfl⟩:=h
 obtain⟨hc,hfz⟩:=h1.box.rules
 have hlt:=h1.box.lt
 have hwd:=h1.wide
 have hmn:=h1.many
 by_cases h2:a < T.nodes.length
 ·by_cases h3:f < T.width
  ·obtain⟨gn,cap,gl,rfl,hgn,hgl,_,hn1,hv1⟩:=h1.leapAt a f h2 h3
   have hE:zcj T a f=if T.nodes[a].leap.getD f 0 ≥ T.width then none else some (T.nodes[a].leap.getD f 0):=by
    unfold zcj
    rw[if_pos ⟨h2,h3⟩]
    simp[List.getD_eq_getElem?_getD,h2]
   generalize T.nodes[a].leap.getD f 0=v at *
   clear h1
   by_cases h4:v ≥ T.width
   ·rw[if_pos h4] at hE
    have HE:Hid (zcj T a f=none):=hE
    clear hE
    go_enter Tryz.func107,Tryz.ntmps107
    go_wp2
    go_ret2
    exact⟨by rw[HE.out];rfl,rfl⟩
   ·rw[if_neg h4] at hE
    have HE:Hid (zcj T a f=some v):=hE
    clear hE
    go_enter Tryz.func107,Tryz.ntmps107
    go_wp2
    go_ret2
    exact⟨by rw[HE.out];rfl,rfl⟩
  ·have HE:Hid (zcj T a f=none):=by unfold zcj;rw[Hid,if_neg (by omega)]
   obtain⟨ao,cap,rfl⟩:=zab h1.nodes
   clear h1
   go_enter Tryz.func107,Tryz.ntmps107
   go_wp2
   go_ret2
   exact⟨by rw[HE.out];rfl,rfl⟩
 ·have HE:Hid (zcj T a f=none):=by unfold zcj;rw[Hid,if_neg (by omega)]
  obtain⟨ao,cap,rfl⟩:=zab h1.nodes
  clear h1
  go_enter Tryz.func107,Tryz.ntmps107
  go_wp2
  go_ret2
  exact⟨by rw[HE.out];rfl,rfl⟩
theorem zhv(w:World)(tb:Nat)(T:zad)(fp:List Nat)(a f:Nat)(h:zar lo w tb T fp) :
  Calls Tryz.prog 82 #[.pointer (some ⟨tb,0,none⟩),.int .i64 a,.int .i64 f] w fun e w'=>e=.returned (zof (zaw T a f))/\w'=w:=by
 have HL:Hid (Calls Tryz.prog 107 #[.pointer (some ⟨tb,0,none⟩),.int .i64 a,.int .i64 f] w fun e w'=>e=.returned (zof (zcj T a f))/\w'=w):=zkt w tb T fp a f h
 obtain⟨nv,ns,h1,rfl⟩:=h
 obtain⟨hc,hfz⟩:=h1.box.rules
 have hlt:=h1.box.lt
 have hwd:=h1.wide
 have hmn:=h1.many
 cases hl:zcj T a f with
 |none =>
  have HE:Hid (zaw T a f=none):=by unfold zaw;rw[Hid,hl]
  rw[hl] at HL
  simp only[zof,Option.getD_none,Option.isSome_none] at HL
  clear hl h1
  go_enter Tryz.func82,Tryz.ntmps82
  go_wp2_with (first|(go_at_call 107;refine HL.out.mono ?_;rintro e w' ⟨rfl,hww⟩;obtain rfl:=hww.symm))
  go_ret2
  exact⟨by rw[HE.out];rfl,rfl⟩
 |some u =>
  have hin:a < T.nodes.length/\f < T.width:=by
   unfold zcj at hl
   split at hl
   ·assumption
   ·cases hl
  obtain⟨gn,cap,gl,rfl,hgn,hgl,_,hn1,hv1⟩:=h1.downAt a f hin.1 hin.2
  have hE:zaw T a f=if u=f then some (T.nodes[a].down.getD f 0) else none:=by
   unfold zaw;rw[hl];simp[List.getD_eq_getElem?_getD,hin.1]
  rw[hl] at HL
  simp only[zof,Option.getD_some,Option.isSome_some] at HL
  obtain⟨h2,h3⟩:=hin
  generalize T.nodes[a].down.getD f 0=v at *
  clear hl h1
  by_cases h4:u=f
  ·subst h4
   rw[if_pos rfl] at hE
   have HE:Hid (zaw T a u=some v):=hE
   clear hE
   go_enter Tryz.func82,Tryz.ntmps82
   go_wp2_with (first|(go_at_call 107;refine HL.out.mono ?_;rintro e w' ⟨rfl,hww⟩;obtain rfl:=hww.symm))
   go_ret2
   exact⟨by rw[HE.out];rfl,rfl⟩
  ·rw[if_neg h4] at hE
   have HE:Hid (zaw T a f=none):=hE
   clear hE
   go_enter Tryz.func82,Tryz.ntmps82
   go_wp2_with (first|(go_at_call 107;refine HL.out.mono ?_;rintro e w' ⟨rfl,hww⟩;obtain rfl:=hww.symm))
   go_ret2
   exact⟨by rw[HE.out];rfl,rfl⟩
theorem zp7(w:World)(tb:Nat)(T:zad)(fp:List Nat)(h:zar lo w tb T fp) :
  Calls Tryz.prog 139 #[.pointer (some ⟨tb,0,none⟩)] w fun e w'=>e=.returned (.int .i64 (T.count:Nat))/\w'=w:=by
 obtain⟨nv,ns,h1,rfl⟩:=h
 obtain⟨hc,hfz⟩:=h1.box.rules
 have hlt:=h1.box.lt
 clear h1
 go_enter Tryz.func139,Tryz.ntmps139
 go_wp2
 go_ret
 exact⟨rfl,rfl⟩
theorem ints_at:∀(ns:List (Nat × Nat)) (k:Nat) (hk:k < ns.length),(intsOf ns)[k * 2]?=some ns[k].1/\(intsOf ns)[k * 2+1]?=some ns[k].2
 |[],k,hk=>by simp at hk
 |p::r,0,_=>by simp[intsOf]
 |p::r,k+1,hk=>by
  have:=ints_at r k (by simpa using hk)
  simp only[intsOf,List.flatMap_cons] at this ⊢
  rw[show(k+1) * 2=k * 2+1+1 from by omega,show k * 2+1+1+1=k * 2+1+1+1 from rfl]
  simpa using this
theorem znn{l:List Nat}(h:l.Nodup){i j x y:Nat}(hi:l[i]?=some x)(hj:l[j]?=some y)(hne:i≠j):x≠y:=by
 obtain⟨h1,rfl⟩:=List.getElem?_eq_some_iff.1 hi
 obtain⟨h2,rfl⟩:=List.getElem?_eq_some_iff.1 hj
 exact z4k (f:=id) (by simpa using h) h1 h2 hne
theorem zqq{ns:List (Nat × Nat)}(h:(intsOf ns).Nodup){i j:Nat}(hi:i < ns.length)(hj:j < ns.length):(i≠j->ns[i].1≠ns[j].1/\ns[i].2≠ns[j].2)/\ns[i].1≠ns[j].2 :=
 ⟨fun hne=>⟨znn h (ints_at ns i hi).1 (ints_at ns j hj).1 (by omega),znn h (ints_at ns i hi).2 (ints_at ns j hj).2 (by omega)⟩,znn h (ints_at ns i hi).1 (ints_at ns j hj).2 (by omega)⟩
def setNode(T:zad)(a:Nat)(n:zha):zad:={ T with nodes:=T.nodes.set a n }
theorem zdd.setLeap{w:World}{tb:Nat}{T:zad}{nv:Value}{ns:List (Nat × Nat)}(h:zdd lo w tb T nv ns)(a u x:Nat)(ha:a < T.nodes.length)(h2:a < ns.length)(hu:u < T.width) :
  zdd lo (w.setCell ⟨ns[a].1,u,none⟩ (.int .i64 (x:Nat))) tb (setNode T a ⟨T.nodes[a].leap.set u x,T.nodes[a].down⟩) nv ns:=by
 have hl:=h.leapLen a ha
 have hs:=zao.set w ns[a].1 u (.int .i64 (x:Nat))
 have hA:=h.leap a ha h2
 refine⟨h.low,h.box.save hs (by have:=zbk hA h.box (by decide) rfl;simpa using Ne.symm this),?_,by simpa [setNode] using h.len,fun i hi hi2=>?_,fun i hi hi2=>?_,h.apart,h.wide,by simpa [setNode] using h.many,h.deep,h.few⟩
 ·have:=zbf h.nodes hs (fun b hb hm=>zi1 hA h.nodes (by decide) rfl (by simp at hm;rw[← hm];exact hb))
  simpa [setNode] using this
 ·have hi':i < T.nodes.length:=by simpa [setNode] using hi
  by_cases e:i=a
  ·subst e
   have q:=zb7 hA u (by simp;omega) (.int .i64 (x:Nat))
   simp only[setNode,List.getElem_set_self]
   rw[List.map_set]
   exact q
  ·simp only[setNode,List.getElem_set_ne (Ne.symm e)]
   exact zbf (h.leap i hi' hi2) hs (fun b hb hm=>by simp[sl,Value.ownBlock] at hb hm;exact((zqq h.apart hi2 h2).1 e).1 (hb.trans hm))
 ·have hi':i < T.nodes.length:=by simpa [setNode] using hi
  have q:=zbf (h.down i hi' hi2) hs (fun b hb hm=>by simp[sl,Value.ownBlock] at hb hm;exact(zqq h.apart h2 hi2).2 (hm.symm.trans hb.symm))
  by_cases e:i=a
  ·subst e
   simp only[setNode,List.getElem_set_self]
   exact q
  ·simp only[setNode,List.getElem_set_ne (Ne.symm e)]
   exact q
theorem zdd.setDown{w:World}{tb:Nat}{T:zad}{nv:Value}{ns:List (Nat × Nat)}(h:zdd lo w tb T nv ns)(a u x:Nat)(ha:a < T.nodes.length)(h2:a < ns.length)(hu:u < T.width) :
  zdd lo (w.setCell ⟨ns[a].2,u,none⟩ (.int .i64 (x:Nat))) tb (setNode T a ⟨T.nodes[a].leap,T.nodes[a].down.set u x⟩) nv ns:=by
 have hl:=h.downLen a ha
 have hs:=zao.set w ns[a].2 u (.int .i64 (x:Nat))
 have hA:=h.down a ha h2
 refine⟨h.low,h.box.save hs (by have:=zbk hA h.box (by decide) rfl;simpa using Ne.symm this),?_,by simpa [setNode] using h.len,fun i hi hi2=>?_,fun i hi hi2=>?_,h.apart,h.wide,by simpa [setNode] using h.many,h.deep,h.few⟩
 ·have:=zbf h.nodes hs (fun b hb hm=>zi1 hA h.nodes (by decide) rfl (by simp at hm;rw[← hm];exact hb))
  simpa [setNode] using this
 ·have hi':i < T.nodes.length:=by simpa [setNode] using hi
  have q:=zbf (h.leap i hi' hi2) hs (fun b hb hm=>by simp[sl,Value.ownBlock] at hb hm;exact(zqq h.apart hi2 h2).2 (hb.trans hm))
  by_cases e:i=a
  ·subst e
   simp only[setNode,List.getElem_set_self]
   exact q
  ·simp only[setNode,List.getElem_set_ne (Ne.symm e)]
   exact q
 ·have hi':i < T.nodes.length:=by simpa [setNode] using hi
  by_cases e:i=a
  ·subst e
   have q:=zb7 hA u (by simp;omega) (.int .i64 (x:Nat))
   simp only[setNode,List.getElem_set_self]
   rw[List.map_set]
   exact q
  ·simp only[setNode,List.getElem_set_ne (Ne.symm e)]
   exact zbf (h.down i hi' hi2) hs (fun b hb hm=>by simp[sl,Value.ownBlock] at hb hm;exact((zqq h.apart hi2 h2).1 e).2 (hb.trans hm))
structure Wrote (lo:Nat) (w w':World) (tb:Nat) (T:zad) (fp:List Nat) (fp':List Nat):Prop where
 trie:zar lo w' tb T fp'
 save:zao fp w w'
 fresh:∀ b∈fp',b∈fp∨w.heap.size<=b
theorem zn5(T:zad)(a:Nat)(n m:zha):setNode (setNode T a n) a m=setNode T a m:=by simp[setNode]
theorem z6p{T:zad}{a v d:Nat}(ha:a < T.nodes.length)(hv:v < T.width):zey T a v d=setNode T a ⟨zga v (v+1) T.nodes[a].leap,T.nodes[a].down.set v d⟩:=by
 unfold zey;rw[if_pos ⟨ha,hv⟩];simp[setNode,z2x,List.getD_eq_getElem?_getD,ha]
theorem put_any(w:World)(tb:Nat)(T:zad)(fp:List Nat)(a v d:Nat)(h:zar lo w tb T fp) :
  Calls Tryz.prog 133 #[.pointer (some ⟨tb,0,none⟩),.int .i64 a,.int .i64 v,.int .i64 d] w fun e w'=>e=.returned (.tuple #[])/\Wrote lo w w' tb (zey T a v d) fp fp:=by
 have hh:=h
 obtain⟨nv,ns,h1,rfl⟩:=h
 have hwd:=h1.wide
 have hmn:=h1.many
 by_cases h2:a < T.nodes.length
 ·by_cases h3:v < T.width
  ·have hi2:a < ns.length:=by rw[h1.len];exact h2
   have HP:Hid (zey T a v d=setNode T a ⟨zga v (v+1) T.nodes[a].leap,T.nodes[a].down.set v d⟩):=z6p h2 h3
   obtain⟨gn,cap,gl,rfl,hgn,hgl,⟨_,rfl⟩,hn1,hv1⟩:=h1.downAt a v h2 h3
   obtain⟨hc,hfz⟩:=h1.box.rules
   have hlt:=h1.box.lt
   have hfd:=zby (h1.down a h2 hi2)
   have hfl:=zby (h1.leap a h2 hi2)
   have hset:=h1.setDown a v d h2 hi2 h3
   have H1:Hid (zdd lo w tb T (.slice (some ⟨gn,0,none⟩) T.nodes.length cap) ns):=h1
   clear h1 hh
   have hE0:T.nodes[a].down.set v d=T.nodes[a].down.set v d:=rfl
   generalize hdw:T.nodes[a].down.set v d=dw at *
   generalize hlp:T.nodes[a].leap=lp at *
   clear hE0 hdw hlp
   go_enter Tryz.func133,Tryz.ntmps133
   go_wp2
   clear hn1 hv1 hc hfz hlt hfd hfl hgl hgn
   go_loopw [8] (fun v8 wr=>∃(n:Nat) (l:List Nat),n<=v+1/\v8=.int .i64 ((n:Int) - 1)/\zdd lo wr tb (setNode T a ⟨l,dw⟩) (.slice (some ⟨gn,0,none⟩) T.nodes.length cap) ns/\Hid (zga v (v+1) lp=zga v n l)/\zao (fpT tb (.slice (some ⟨gn,0,none⟩) T.nodes.length cap) ns) w wr) (fun v8 _=>(intOf v8+1).toNat)
   case atStart =>
    refine⟨v+1,lp,Nat.le_refl _,by go_num,hset,rfl,(zao.set _ _ _ _).more fun x hx=>?_⟩
    simp only[List.mem_singleton] at hx
    subst hx
    simp only[fpT,List.mem_cons,List.mem_append]
    exact Or.inr (Or.inr (zmi hi2).2)
   case round =>
    clear hset
    obtain⟨n,l,hn,rfl,hti,hlow,hsv⟩:=hrel
    have h2':a < (setNode T a ⟨l,dw⟩).nodes.length:=by simpa [setNode] using h2
    have hnode:(setNode T a ⟨l,dw⟩).nodes[a]=⟨l,dw⟩:=by simp[setNode]
    have hwd':(setNode T a ⟨l,dw⟩).width=T.width:=rfl
    obtain⟨hc,hfz⟩:=hti.box.rules
    have hlt:=hti.box.lt
    have hfl:=zby (hti.leap a h2' hi2)
    have HDONE:Hid (zga v n l=l->Wrote lo w wr tb (zey T a v d) (fpT tb (.slice (some ⟨gn,0,none⟩) T.nodes.length cap) ns) (fpT tb (.slice (some ⟨gn,0,none⟩) T.nodes.length cap) ns)):=fun e=>⟨⟨_,ns,by rw[HP.out,hlow.out,e];exact hti,rfl⟩,hsv,fun b hb=>Or.inl hb⟩
    cases n with
    |zero =>
     clear hti
     go_wp2
     go_end0
     exact⟨rfl,HDONE.out rfl⟩
    |succ m =>
     have e:((m+1:Nat):Int) - 1=(m:Int):=by omega
     rw[e]
     have hm:m < T.width:=by omega
     obtain⟨gn',cap',gl,hnv,hgn,hgl,⟨_,rfl⟩,hn1,hv1⟩:=hti.leapAt a m h2' (by rw[hwd'];exact hm)
     simp only[Value.slice.injEq,Option.some.injEq,Addr.mk.injEq] at hnv
     obtain⟨⟨rfl,_⟩,_,rfl⟩:=hnv
     rw[hnode] at hv1
     rw[hwd'] at hn1
     have hs2:=hti.setLeap a m v h2' hi2 (by rw[hwd'];exact hm)
     rw[hnode,zn5] at hs2
     have HL:Hid (zga v (m+1) l=if l.getD m 0 > v then zga v m (l.set m v) else l):=by rw[Hid,zga]
     have HTI:Hid (zdd lo wr tb (setNode T a ⟨l,dw⟩) (.slice (some ⟨gn,0,none⟩) T.nodes.length cap) ns):=hti
     clear hti h2' hnode e
     have HS2:Hid (zdd lo (wr.setCell ⟨ns[a].1,m,none⟩ (.int .i64 (v:Nat))) tb (setNode T a ⟨l.set m v,dw⟩) (.slice (some ⟨gn,0,none⟩) T.nodes.length cap) ns):=hs2
     clear hs2
     simp only at hv1
     generalize l.getD m 0=x at *
     by_cases hx:x > v
     ·rw[if_pos hx] at HL
      go_wp2
      go_roundw
      case rel =>
       refine⟨m,l.set m v,by omega,by go_num,HS2.out,hlow.trans HL,hsv.trans ((zao.set _ _ _ _).more fun x hx=>?_)⟩
       simp only[List.mem_singleton] at hx
       subst hx
       simp only[fpT,List.mem_cons,List.mem_append]
       exact Or.inr (Or.inr (zmi hi2).1)
      case measure=>simp[intOf]
     ·rw[if_neg hx] at HL
      go_wp2
      go_end0
      exact⟨rfl,HDONE.out HL.out⟩
  ·have HP:Hid (zey T a v d=T):=by unfold zey;rw[Hid,if_neg (by omega)]
   obtain⟨ao,cap,rfl⟩:=zab h1.nodes
   obtain⟨hc,hfz⟩:=h1.box.rules
   have hlt:=h1.box.lt
   clear h1
   go_enter Tryz.func133,Tryz.ntmps133
   go_wp2
   (try simp only[Exit.inBlock,Exit.then]);refine bodyPost_ret (results_none rfl _ _ _) rfl ?_
   exact⟨rfl,by rw[HP.out];exact⟨hh,zao.refl _ _,fun b hb=>Or.inl hb⟩⟩
 ·have HP:Hid (zey T a v d=T):=by unfold zey;rw[Hid,if_neg (by omega)]
  obtain⟨ao,cap,rfl⟩:=zab h1.nodes
  obtain⟨hc,hfz⟩:=h1.box.rules
  have hlt:=h1.box.lt
  clear h1
  go_enter Tryz.func133,Tryz.ntmps133
  go_wp2
  (try simp only[Exit.inBlock,Exit.then]);refine bodyPost_ret (results_none rfl _ _ _) rfl ?_
  exact⟨rfl,by rw[HP.out];exact⟨hh,zao.refl _ _,fun b hb=>Or.inl hb⟩⟩
end Go.Proofs.YteampbddflhngabGreat
