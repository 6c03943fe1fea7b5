import Derived.Test.YteampbddflhngaaGreatB01
import Derived.Test.YteampbddflhngaaGreatB09

namespace Go.Proofs.YteampbddflhngaaGreat
structure PNode where
  leap:List Nat
  down:List Nat
  deriving DecidableEq
structure PTrie where
  width:Nat
  depth:Nat
  nodes:List PNode
  count:Nat
  deriving DecidableEq
abbrev PRow:=List Nat
def PNode.zero:PNode:=⟨[],[]⟩
def growP (T:PTrie):PTrie:={ T with nodes:=T.nodes++[⟨List.replicate T.width T.width,List.replicate T.width 0⟩] }
def widthP (width:Nat):Nat:=if width < 1 then 1 else width
def depthP (depth:Nat):Nat:=if (if depth < 1 then 1 else depth) > 3 then 3 else (if depth < 1 then 1 else depth)
def newP (width depth:Nat):PTrie:=growP ⟨widthP width,depthP depth,[],0⟩
def leapP (T:PTrie) (at' «from» : Nat):Option Nat :=
  if at' < T.nodes.length/\«from» < T.width then
    let v:=(T.nodes.getD at' PNode.zero).leap.getD «from» 0
    if v ≥ T.width then none else some v
  else none
def downP (T:PTrie) (at' v:Nat):Option Nat :=
  match leapP T at' v with
  | none=>none
  | some u=>if u=v then some ((T.nodes.getD at' PNode.zero).down.getD v 0) else none
def lowerP (v:Nat):Nat->List Nat->List Nat
  | 0,l=>l
  | n+1,l=>if l.getD n 0 > v then lowerP v n (l.set n v) else l
def putN (n:PNode) (v d:Nat):PNode:=⟨lowerP v (v+1) n.leap,n.down.set v d⟩
def putP (T:PTrie) (at' v d:Nat):PTrie :=
  if at' < T.nodes.length/\v < T.width then { T with nodes:=T.nodes.set at' (putN (T.nodes.getD at' PNode.zero) v d) } else T
def behindP (T:PTrie) (at' v:Nat):PTrie × Nat :=
  match downP T at' v with
  | some b=>(T,b)
  | none=>(putP (growP T) at' v T.nodes.length,T.nodes.length)
def endP (T:PTrie) (at' v mark:Nat):PTrie × Bool :=
  match downP T at' v with
  | some _=>(T,false)
  | none=>({ putP T at' v mark with count:=(putP T at' v mark).count+1 },true)
def fitsP (T:PTrie) (row:PRow):Bool:=row.all (fun v=>v < T.width)
def addFrom (mark:Nat):PTrie->Nat->Nat->PRow->PTrie × Bool
  | T,_,_,[]=>(T,false)
  | T,at',level,v::r =>
    if level+1 ≥ T.depth then endP T at' v mark else addFrom mark (behindP T at' v).1 (behindP T at' v).2 (level+1) r
def addP (T:PTrie) (row:PRow) (mark:Nat):PTrie × Bool:=if fitsP T row then addFrom mark T 0 0 row else (T,false)
def markFrom (T:PTrie):Nat->Nat->PRow->Option Nat
  | _,_,[]=>none
  | at',level,v::r =>
    match downP T at' v with
    | none=>none
    | some b=>if level+1 ≥ T.depth then some b else markFrom T b (level+1) r
def markP (T:PTrie) (row:PRow):Option Nat:=markFrom T 0 0 row
def walkP (T:PTrie):Nat->Nat->Nat->Nat->PRow->List PRow->Option (PRow × List PRow)
  | 0,_,_,_,_,_=>none
  | n+1,at',level,«from»,row,rows =>
    match leapP T at' «from» with
    | none=>some (row,rows)
    | some v =>
      let row:=row.set level v
      if level+1 ≥ T.depth then walkP T n at' level (v+1) row (rows++[row])
      else if level+1 ≥ 3 then walkP T n at' level (v+1) row rows
      else match walkP T n ((downP T at' v).getD 0) (level+1) 0 row rows with
        | none=>none
        | some (row,rows)=>walkP T n at' level (v+1) row rows
def rowsF (fuel:Nat) (T:PTrie):Option (List PRow):=(walkP T fuel 0 0 0 [0,0,0] []).map (·.2)
structure PTerm where
  var:Bool
  num:Nat
  level:Nat
  deriving DecidableEq
structure PRLit where
  pred:Nat
  terms:List PTerm
  deriving DecidableEq
structure PRule where
  stratum:Nat
  vars:Nat
  head:PRLit
  plain:List PRLit
  nots:List PRLit
  deriving DecidableEq
def hasL (l:PRLit) (place:Nat):Bool:=l.terms.any fun t=>t.var && t.num == place
def levelL (l:PRLit) (place:Nat):Option Nat:=if hasL l place then some ((List.range place).countP (hasL l)) else none
def depthL (l:PRLit):Nat:=(List.range 5).countP (hasL l)
def knownL (l:PRLit):Nat:=l.terms.foldl (fun k t=>if t.var && decide (t.num ≥ k) then t.num+1 else k) 0
def lastL (l:PRLit) (known:Int):Int:=l.terms.foldl (fun k t=>if t.var && decide ((t.num:Int) < known) && decide ((t.num:Int) > k) then (t.num:Int) else k) (-1)
def tiedL (l:PRLit) (known:Int):Int:=if (knownL l:Int)<=known then -1 else lastL l known
def backStep (known:Int) (b:Int) (l:PRLit):Int:=if tiedL l known > b then tiedL l known else b
def backR (r:PRule) (known:Int):Int:=r.nots.foldl (backStep known) (r.plain.foldl (backStep known) (lastL r.head known))
def atT (t:PTerm) (vals:List Nat):Nat:=if t.var && decide (t.num < 5) then vals.getD t.num 0 else t.num
def rowCell (l:PRLit) (vals:List Nat) (i:Nat):Nat:=if i < l.terms.length then atT (l.terms.getD i ⟨false,0,0⟩) vals else 0
def rowL (l:PRLit) (vals:List Nat):PRow:=[rowCell l vals 0,rowCell l vals 1,rowCell l vals 2]
def leveled (t:PTerm):Bool:=t.var && decide (t.level < 3)
def foundStep (l:PRLit) (row:PRow) (f:PRow) (i:Nat):PRow :=
  if i < l.terms.length/\leveled (l.terms.getD i ⟨false,0,0⟩)=true then f.set (l.terms.getD i ⟨false,0,0⟩).level (row.getD i 0) else f
def foundL (l:PRLit) (row:PRow):PRow:=foundStep l row (foundStep l row (foundStep l row [0,0,0] 0) 1) 2
def allowsT (t:PTerm) (v:Nat) (f:PRow):Bool:=if leveled t then f.getD t.level 0 == v else t.num == v
def allowsAt (l:PRLit) (row f:PRow) (i:Nat):Bool:=decide (l.terms.length<=i) || allowsT (l.terms.getD i ⟨false,0,0⟩) (row.getD i 0) f
def matchL (l:PRLit) (row:PRow):Option PRow :=
  if allowsAt l row (foundL l row) 0 && allowsAt l row (foundL l row) 1 && allowsAt l row (foundL l row) 2 then some (foundL l row) else none
structure PSide where
  rows:PTrie
  nodes:List Nat
  deriving DecidableEq
structure PBar where
  lit:PRLit
  known:Nat
  rows:PTrie
  deriving DecidableEq
structure PJoin where
  head:PRLit
  vars:Nat
  sides:List PSide
  bars:List PBar
  holds:List (List (Nat × Nat))
  backs:List Int
  last:Int
  values:List Nat
  «from» : List Nat
  depth:Int
  /-- as the code counts them: an int of Go's -/
  moves:Int
  deriving DecidableEq
def PSide.zero:PSide:=⟨⟨0,0,[],0⟩,[]⟩
def holdsJ (r:PRule) (place:Nat):List (Nat × Nat) :=
  r.plain.zipIdx.filterMap fun x=>(levelL x.1 place).map fun lv=>(x.2,lv)
def barredJ (J:PJoin) (known:Nat):Bool:=J.bars.any fun b=>b.known == known && (markP b.rows (rowL b.lit J.values)).isSome
def joinNew (r:PRule) (plain nots:List PTrie):PJoin :=
  let J:PJoin:={ head:=r.head,vars:=r.vars,sides:=plain.map (fun T=>⟨T,[0,0,0]⟩),bars:=(r.nots.zip nots).map (fun x=>⟨x.1,knownL x.1,x.2⟩),holds:=(List.range 5).map (holdsJ r),backs:=(List.range 5).map (fun p=>backR r (p:Nat)),last:=backR r r.vars,values:=[0,0,0,0,0],«from»:=[0,0,0,0,0],depth:=if plain.any (fun T=>T.count == 0) then -1 else 0,moves:=0 }
  if barredJ J 0 then { J with depth:=-1 } else J
def standsJ (J:PJoin) (h:Nat × Nat):Bool:=decide (h.1 < J.sides.length) && decide (h.2 < 3)
def leapJ (J:PJoin) (h:Nat × Nat) («from» : Nat):PJoin × Option Nat :=
  if standsJ J h then ({ J with moves:=IntKind.i64.wrap (J.moves+1) },leapP (J.sides.getD h.1 PSide.zero).rows ((J.sides.getD h.1 PSide.zero).nodes.getD h.2 0) «from») else (J,none)
def agreeN:Nat->PJoin->List (Nat × Nat)->Nat->Nat->Nat->Option (PJoin × Option Nat)
  | 0,_,_,_,_,_=>none
  | n+1,J,hs,at',same,turn =>
    if same < hs.length then
      match leapJ J (hs.getD turn (0,0)) at' with
      | (J,none)=>some (J,none)
      | (J,some v)=>agreeN n J hs (if v > at' then v else at') ((if v > at' then 0 else same)+1) (if turn+1 ≥ hs.length then 0 else turn+1)
    else some (J,some at')
def agreeJ (fuel:Nat) (J:PJoin) (place «from» : Nat):Option (PJoin × Option Nat) :=
  if place ≥ 5∨(J.holds.getD place []).length=0 then some (J,none) else agreeN fuel J (J.holds.getD place []) «from» 0 0
def downJ (v:Nat) (J:PJoin) (h:Nat × Nat):PJoin :=
  if standsJ J h=false∨h.2+1 ≥ 3 then J
  else { J with sides:=J.sides.set h.1 { (J.sides.getD h.1 PSide.zero) with nodes:=(J.sides.getD h.1 PSide.zero).nodes.set (h.2+1) ((downP (J.sides.getD h.1 PSide.zero).rows ((J.sides.getD h.1 PSide.zero).nodes.getD h.2 0) v).getD 0) } }
def takeJ (J:PJoin) (place v:Nat):PJoin :=
  if place ≥ 5 then J
  else (J.holds.getD place []).foldl (downJ v) { J with values:=J.values.set place v,«from»:=(if place+1 < 5 then (J.from.set place (v+1)).set (place+1) 0 else J.from.set place (v+1)) }
def searchN:Nat->PJoin->Int->Option (PJoin × Bool)
  | 0,_,_=>none
  | n+1,J,depth =>
    if 0<=depth/\depth < J.vars/\depth < 5 then
      match agreeJ n J depth.toNat (J.from.getD depth.toNat 0) with
      | none=>none
      | some (J,none)=>searchN n J (J.backs.getD depth.toNat 0)
      | some (J,some v)=>searchN n (takeJ J depth.toNat v) (if barredJ (takeJ J depth.toNat v) (depth.toNat+1) then depth else depth+1)
    else some (J,decide (depth ≥ J.vars))
def nextJ (fuel:Nat) (J:PJoin):Option (PJoin × Bool) :=
  match searchN fuel J J.depth with
  | none=>none
  | some (J,found)=>some ({ J with depth:=if found then J.last else -1 },found)
end Go.Proofs.YteampbddflhngaaGreat

namespace Go.Proofs.YteampbddflhngaaGreat
set_option maxRecDepth 100000
set_option maxHeartbeats 2000000
open Go.RowKit
variable {lo:Nat}
def nodeCells (wd:Nat) (ns:List (Nat × Nat)):List Value:=ns.flatMap fun x=>[sl x.1 wd,sl x.2 wd]
theorem nodeCells_at (wd:Nat):∀ (ns:List (Nat × Nat)) (k:Nat) (hk:k < ns.length),(nodeCells wd ns)[k * 2]?=some (sl ns[k].1 wd)/\(nodeCells wd ns)[k * 2+1]?=some (sl ns[k].2 wd)
  | [],k,hk=>by simp at hk
  | p::r,0,_=>by simp [nodeCells]
  | p::r,k+1,hk=>by
    have:=nodeCells_at wd r k (by simpa using hk)
    simp only [nodeCells,List.flatMap_cons] at this ⊢
    rw [show (k+1) * 2=k * 2+1+1 from by omega,show k * 2+1+1+1=k * 2+1+1+1 from rfl]
    simpa using this
def intsOf (ns:List (Nat × Nat)):List Nat:=ns.flatMap fun x=>[x.1,x.2]
structure TrieIn (lo:Nat) (w:World) (tb:Nat) (T:PTrie) (nv:Value) (ns:List (Nat × Nat)):Prop where
  low:lo<=tb
  box:Box w tb #[.int .i64 (T.width:Nat),.int .i64 (T.depth:Nat),nv,.int .i64 (T.count:Nat)] 229
  nodes:w.ownsRow lo 273 2 nv T.nodes.length (nodeCells T.width ns)
  len:ns.length=T.nodes.length
  leap:∀ i (h:i < T.nodes.length) (h2:i < ns.length),w.ownsRow lo 3 1 (sl ns[i].1 T.width) T.width (T.nodes[i].leap.map ivN)
  down:∀ i (h:i < T.nodes.length) (h2:i < ns.length),w.ownsRow lo 3 1 (sl ns[i].2 T.width) T.width (T.nodes[i].down.map ivN)
  apart:(intsOf ns).Nodup
  wide:T.width<=1000
  many:T.nodes.length<=100000000
  deep:T.depth<=3
  few:T.count<=1000000000
def fpT (tb:Nat) (nv:Value) (ns:List (Nat × Nat)):List Nat:=tb::(nv.ownBlock.toList++intsOf ns)
def TrieAt (lo:Nat) (w:World) (tb:Nat) (T:PTrie) (fp:List Nat):Prop:=∃ nv ns,TrieIn lo w tb T nv ns/\fp=fpT tb nv ns
theorem TrieIn.leapLen {w:World} {tb:Nat} {T:PTrie} {nv:Value} {ns:List (Nat × Nat)} (h:TrieIn lo w tb T nv ns) (i:Nat) (hi:i < T.nodes.length):T.nodes[i].leap.length=T.width:=by
  have:=(h.leap i hi (by rw [h.len];exact hi)).1;simpa using this
theorem TrieIn.downLen {w:World} {tb:Nat} {T:PTrie} {nv:Value} {ns:List (Nat × Nat)} (h:TrieIn lo w tb T nv ns) (i:Nat) (hi:i < T.nodes.length):T.nodes[i].down.length=T.width:=by
  have:=(h.down i hi (by rw [h.len];exact hi)).1;simpa using this
theorem mem_ints {ns:List (Nat × Nat)} {b:Nat} (h:b∈intsOf ns):∃ i,∃ h:i < ns.length,b=ns[i].1∨b=ns[i].2:=by
  simp only [intsOf,List.mem_flatMap,List.mem_cons,List.not_mem_nil,or_false] at h
  obtain ⟨x,hx,hb⟩:=h
  obtain ⟨i,hi,rfl⟩:=List.getElem_of_mem hx
  exact ⟨i,hi,hb⟩
theorem ints_mem {ns:List (Nat × Nat)} {i:Nat} (h:i < ns.length):ns[i].1∈intsOf ns/\ns[i].2∈intsOf ns:=by
  simp only [intsOf,List.mem_flatMap,List.mem_cons,List.not_mem_nil,or_false]
  exact ⟨⟨_,List.getElem_mem h,Or.inl rfl⟩,⟨_,List.getElem_mem h,Or.inr rfl⟩⟩
theorem TrieIn.lt {w:World} {tb:Nat} {T:PTrie} {nv:Value} {ns:List (Nat × Nat)} (h:TrieIn lo w tb T nv ns):∀ b∈fpT tb nv ns,lo<=b/\b < w.heap.size:=by
  intro b hb
  simp only [fpT,List.mem_cons,List.mem_append] at hb
  rcases hb with rfl | hb | hb
  · exact ⟨h.low,h.box.lt⟩
  · exact ⟨own_ge h.nodes (mem_own hb),own_lt h.nodes (mem_own hb)⟩
  · obtain ⟨i,hi,rfl | rfl⟩:=mem_ints hb
    · exact ⟨own_ge (h.leap i (by rw [← h.len];exact hi) hi) rfl,own_lt (h.leap i (by rw [← h.len];exact hi) hi) rfl⟩
    · exact ⟨own_ge (h.down i (by rw [← h.len];exact hi) hi) rfl,own_lt (h.down i (by rw [← h.len];exact hi) hi) rfl⟩
theorem TrieAt.lt {w:World} {tb:Nat} {T:PTrie} {fp:List Nat} (h:TrieAt lo w tb T fp):∀ b∈fp,lo<=b/\b < w.heap.size:=by
  obtain ⟨nv,ns,h1,rfl⟩:=h;exact h1.lt
theorem TrieAt.save {w w':World} {tb:Nat} {T:PTrie} {fp N:List Nat} (h:TrieAt lo w tb T fp) (hs:Save N w w') (hN:∀ b∈fp,b∉N):TrieAt lo w' tb T fp:=by
  obtain ⟨nv,ns,h1,rfl⟩:=h
  have hm:∀ b∈fpT tb nv ns,b∉N:=hN
  refine ⟨nv,ns,⟨h1.low,h1.box.save hs (hm tb (by simp [fpT])),own_save h1.nodes hs fun b hb=>hm b ?_,h1.len,fun i hi hi2=>own_save (h1.leap i hi hi2) hs fun b hb=>hm b ?_,fun i hi hi2=>own_save (h1.down i hi hi2) hs fun b hb=>hm b ?_,h1.apart,h1.wide,h1.many,h1.deep,h1.few⟩,rfl⟩
  · simp [fpT,hb]
  · simp only [sl,Value.ownBlock,Option.some.injEq] at hb;subst hb;simp only [fpT,List.mem_cons,List.mem_append];exact Or.inr (Or.inr (ints_mem hi2).1)
  · simp only [sl,Value.ownBlock,Option.some.injEq] at hb;subst hb;simp only [fpT,List.mem_cons,List.mem_append];exact Or.inr (Or.inr (ints_mem hi2).2)
theorem TrieAt.below {w w':World} {tb:Nat} {T:PTrie} {fp:List Nat} (h:TrieAt lo w tb T fp) (hb:Below w.heap.size w w'):TrieAt lo w' tb T fp:=h.save (Save.of (M:=[]) hb) (by simp)
def optV (o:Option Nat):Value:=.tuple #[.int .i64 ((o.getD 0:Nat):Int),.bool o.isSome]
theorem TrieIn.leapAt {w:World} {tb:Nat} {T:PTrie} {nv:Value} {ns:List (Nat × Nat)} (h:TrieIn lo w tb T nv ns) (a f:Nat) (ha:a < T.nodes.length) (hf:f < T.width) :
    ∃ gn cap gl,nv=.slice (some ⟨gn,0,none⟩) T.nodes.length cap/\gn < w.heap.size/\gl < w.heap.size/\(∃ h2:a < ns.length,gl=ns[a].1)/\w.cell? ⟨gn,a * 2,none⟩=some (.slice (some ⟨gl,0,none⟩) T.width T.width)/\w.cell? ⟨gl,f,none⟩=some (.int .i64 ((T.nodes[a].leap.getD f 0:Nat):Int)):=by
  have hi2:a < ns.length:=by rw [h.len];exact ha
  obtain ⟨gn,cap',hv,_,hgn,hcn⟩:=own_cells h.nodes (by omega)
  obtain ⟨gl,cap'',hv2,_,hgl,hcl⟩:=own_cells (h.leap a ha hi2) (by omega)
  simp only [sl,Value.slice.injEq,Option.some.injEq,Addr.mk.injEq] at hv2
  obtain ⟨⟨rfl,_⟩,_,_⟩:=hv2
  have hll:=h.leapLen a ha
  refine ⟨gn,cap',_,hv,hgn,hgl,⟨hi2,rfl⟩,hcn _ _ (nodeCells_at T.width ns a hi2).1,hcl f _ ?_⟩
  rw [List.getElem?_map,List.getElem?_eq_getElem (by omega),List.getD_eq_getElem?_getD,List.getElem?_eq_getElem (by omega)]
  rfl
theorem TrieIn.downAt {w:World} {tb:Nat} {T:PTrie} {nv:Value} {ns:List (Nat × Nat)} (h:TrieIn lo w tb T nv ns) (a f:Nat) (ha:a < T.nodes.length) (hf:f < T.width) :
    ∃ gn cap gl,nv=.slice (some ⟨gn,0,none⟩) T.nodes.length cap/\gn < w.heap.size/\gl < w.heap.size/\(∃ h2:a < ns.length,gl=ns[a].2)/\w.cell? ⟨gn,a * 2+1,none⟩=some (.slice (some ⟨gl,0,none⟩) T.width T.width)/\w.cell? ⟨gl,f,none⟩=some (.int .i64 ((T.nodes[a].down.getD f 0:Nat):Int)):=by
  have hi2:a < ns.length:=by rw [h.len];exact ha
  obtain ⟨gn,cap',hv,_,hgn,hcn⟩:=own_cells h.nodes (by omega)
  obtain ⟨gl,cap'',hv2,_,hgl,hcl⟩:=own_cells (h.down a ha hi2) (by omega)
  simp only [sl,Value.slice.injEq,Option.some.injEq,Addr.mk.injEq] at hv2
  obtain ⟨⟨rfl,_⟩,_,_⟩:=hv2
  have hll:=h.downLen a ha
  refine ⟨gn,cap',_,hv,hgn,hgl,⟨hi2,rfl⟩,hcn _ _ (nodeCells_at T.width ns a hi2).2,hcl f _ ?_⟩
  rw [List.getElem?_map,List.getElem?_eq_getElem (by omega),List.getD_eq_getElem?_getD,List.getElem?_eq_getElem (by omega)]
  rfl
theorem leap_any (w:World) (tb:Nat) (T:PTrie) (fp:List Nat) (a f:Nat) (h:TrieAt lo w tb T fp) :
    Calls Tryz.prog 167 #[.pointer (some ⟨tb,0,none⟩),.int .i64 a,.int .i64 f] w fun e w'=>e=.returned (optV (leapP T a f))/\w'=w:=by
  obtain ⟨nv,ns,h1,rfl⟩:=h
  obtain ⟨hc,hfz⟩:=h1.box.rules
  have hlt:=h1.box.lt
  have hwd:=h1.wide
  have hmn:=h1.many
  by_cases h2:a < T.nodes.length
  · by_cases h3:f < T.width
    · obtain ⟨gn,cap,gl,rfl,hgn,hgl,_,hn1,hv1⟩:=h1.leapAt a f h2 h3
      have hE:leapP T a f=if T.nodes[a].leap.getD f 0 ≥ T.width then none else some (T.nodes[a].leap.getD f 0):=by
        unfold leapP
        rw [if_pos ⟨h2,h3⟩]
        simp [List.getD_eq_getElem?_getD,h2]
      generalize T.nodes[a].leap.getD f 0=v at *
      clear h1
      by_cases h4:v ≥ T.width
      · rw [if_pos h4] at hE
        have HE:Hid (leapP T a f=none):=hE
        clear hE
        go_enter Tryz.func167,Tryz.ntmps167
        go_wp2
        go_ret2
        exact ⟨by rw [HE.out];rfl,rfl⟩
      · rw [if_neg h4] at hE
        have HE:Hid (leapP T a f=some v):=hE
        clear hE
        go_enter Tryz.func167,Tryz.ntmps167
        go_wp2
        go_ret2
        exact ⟨by rw [HE.out];rfl,rfl⟩
    · have HE:Hid (leapP T a f=none):=by unfold leapP;rw [Hid,if_neg (by omega)]
      obtain ⟨ao,cap,rfl⟩:=own_view h1.nodes
      clear h1
      go_enter Tryz.func167,Tryz.ntmps167
      go_wp2
      go_ret2
      exact ⟨by rw [HE.out];rfl,rfl⟩
  · have HE:Hid (leapP T a f=none):=by unfold leapP;rw [Hid,if_neg (by omega)]
    obtain ⟨ao,cap,rfl⟩:=own_view h1.nodes
    clear h1
    go_enter Tryz.func167,Tryz.ntmps167
    go_wp2
    go_ret2
    exact ⟨by rw [HE.out];rfl,rfl⟩
theorem down_any (w:World) (tb:Nat) (T:PTrie) (fp:List Nat) (a f:Nat) (h:TrieAt lo w tb T fp) :
    Calls Tryz.prog 130 #[.pointer (some ⟨tb,0,none⟩),.int .i64 a,.int .i64 f] w fun e w'=>e=.returned (optV (downP T a f))/\w'=w:=by
  have HL:Hid (Calls Tryz.prog 167 #[.pointer (some ⟨tb,0,none⟩),.int .i64 a,.int .i64 f] w fun e w'=>e=.returned (optV (leapP T a f))/\w'=w):=leap_any w tb T fp a f h
  obtain ⟨nv,ns,h1,rfl⟩:=h
  obtain ⟨hc,hfz⟩:=h1.box.rules
  have hlt:=h1.box.lt
  have hwd:=h1.wide
  have hmn:=h1.many
  cases hl:leapP T a f with
  | none =>
    have HE:Hid (downP T a f=none):=by unfold downP;rw [Hid,hl]
    rw [hl] at HL
    simp only [optV,Option.getD_none,Option.isSome_none] at HL
    clear hl h1
    go_enter Tryz.func130,Tryz.ntmps130
    go_wp2_with (first | (go_at_call 167;refine HL.out.mono ?_;rintro e w' ⟨rfl,hww⟩;obtain rfl:=hww.symm))
    go_ret2
    exact ⟨by rw [HE.out];rfl,rfl⟩
  | some u =>
    have hin:a < T.nodes.length/\f < T.width:=by
      unfold leapP at hl
      split at hl
      · assumption
      · cases hl
    obtain ⟨gn,cap,gl,rfl,hgn,hgl,_,hn1,hv1⟩:=h1.downAt a f hin.1 hin.2
    have hE:downP T a f=if u=f then some (T.nodes[a].down.getD f 0) else none:=by
      unfold downP;rw [hl];simp [List.getD_eq_getElem?_getD,hin.1]
    rw [hl] at HL
    simp only [optV,Option.getD_some,Option.isSome_some] at HL
    obtain ⟨h2,h3⟩:=hin
    generalize T.nodes[a].down.getD f 0=v at *
    clear hl h1
    by_cases h4:u=f
    · subst h4
      rw [if_pos rfl] at hE
      have HE:Hid (downP T a u=some v):=hE
      clear hE
      go_enter Tryz.func130,Tryz.ntmps130
      go_wp2_with (first | (go_at_call 167;refine HL.out.mono ?_;rintro e w' ⟨rfl,hww⟩;obtain rfl:=hww.symm))
      go_ret2
      exact ⟨by rw [HE.out];rfl,rfl⟩
    · rw [if_neg h4] at hE
      have HE:Hid (downP T a f=none):=hE
      clear hE
      go_enter Tryz.func130,Tryz.ntmps130
      go_wp2_with (first | (go_at_call 167;refine HL.out.mono ?_;rintro e w' ⟨rfl,hww⟩;obtain rfl:=hww.symm))
      go_ret2
      exact ⟨by rw [HE.out];rfl,rfl⟩
theorem tcount_any (w:World) (tb:Nat) (T:PTrie) (fp:List Nat) (h:TrieAt lo w tb T fp) :
    Calls Tryz.prog 209 #[.pointer (some ⟨tb,0,none⟩)] w fun e w'=>e=.returned (.int .i64 (T.count:Nat))/\w'=w:=by
  obtain ⟨nv,ns,h1,rfl⟩:=h
  obtain ⟨hc,hfz⟩:=h1.box.rules
  have hlt:=h1.box.lt
  clear h1
  go_enter Tryz.func209,Tryz.ntmps209
  go_wp2
  go_ret
  exact ⟨rfl,rfl⟩
end Go.Proofs.YteampbddflhngaaGreat

namespace Go.Proofs.YteampbddflhngaaGreat
set_option maxRecDepth 100000
set_option maxHeartbeats 2000000
open Go.RowKit
variable {lo:Nat}
theorem ints_at:∀ (ns:List (Nat × Nat)) (k:Nat) (hk:k < ns.length),(intsOf ns)[k * 2]?=some ns[k].1/\(intsOf ns)[k * 2+1]?=some ns[k].2
  | [],k,hk=>by simp at hk
  | p::r,0,_=>by simp [intsOf]
  | p::r,k+1,hk=>by
    have:=ints_at r k (by simpa using hk)
    simp only [intsOf,List.flatMap_cons] at this ⊢
    rw [show (k+1) * 2=k * 2+1+1 from by omega,show k * 2+1+1+1=k * 2+1+1+1 from rfl]
    simpa using this
theorem nodup_get {l:List Nat} (h:l.Nodup) {i j x y:Nat} (hi:l[i]?=some x) (hj:l[j]?=some y) (hne:i≠j):x≠y:=by
  obtain ⟨h1,rfl⟩:=List.getElem?_eq_some_iff.1 hi
  obtain ⟨h2,rfl⟩:=List.getElem?_eq_some_iff.1 hj
  exact nodup_at (f:=id) (by simpa using h) h1 h2 hne
theorem ints_ne {ns:List (Nat × Nat)} (h:(intsOf ns).Nodup) {i j:Nat} (hi:i < ns.length) (hj:j < ns.length):(i≠j->ns[i].1≠ns[j].1/\ns[i].2≠ns[j].2)/\ns[i].1≠ns[j].2 :=
  ⟨fun hne=>⟨nodup_get h (ints_at ns i hi).1 (ints_at ns j hj).1 (by omega),nodup_get h (ints_at ns i hi).2 (ints_at ns j hj).2 (by omega)⟩,nodup_get h (ints_at ns i hi).1 (ints_at ns j hj).2 (by omega)⟩
def setNode (T:PTrie) (a:Nat) (n:PNode):PTrie:={ T with nodes:=T.nodes.set a n }
theorem TrieIn.setLeap {w:World} {tb:Nat} {T:PTrie} {nv:Value} {ns:List (Nat × Nat)} (h:TrieIn lo w tb T nv ns) (a u x:Nat) (ha:a < T.nodes.length) (h2:a < ns.length) (hu:u < T.width) :
    TrieIn lo (w.setCell ⟨ns[a].1,u,none⟩ (.int .i64 (x:Nat))) tb (setNode T a ⟨T.nodes[a].leap.set u x,T.nodes[a].down⟩) nv ns:=by
  have hl:=h.leapLen a ha
  have hs:=Save.set w ns[a].1 u (.int .i64 (x:Nat))
  have hA:=h.leap a ha h2
  refine ⟨h.low,h.box.save hs (by have:=own_ne_box hA h.box (by decide) rfl;simpa using Ne.symm this),?_,by simpa [setNode] using h.len,fun i hi hi2=>?_,fun i hi hi2=>?_,h.apart,h.wide,by simpa [setNode] using h.many,h.deep,h.few⟩
  · have:=own_save h.nodes hs (fun b hb hm=>own_ne_own hA h.nodes (by decide) rfl (by simp at hm;rw [← hm];exact hb))
    simpa [setNode] using this
  · have hi':i < T.nodes.length:=by simpa [setNode] using hi
    by_cases e:i=a
    · subst e
      have q:=own_set hA u (by simp;omega) (.int .i64 (x:Nat))
      simp only [setNode,List.getElem_set_self]
      rw [List.map_set]
      exact q
    · simp only [setNode,List.getElem_set_ne (Ne.symm e)]
      exact own_save (h.leap i hi' hi2) hs (fun b hb hm=>by simp [sl,Value.ownBlock] at hb hm;exact ((ints_ne h.apart hi2 h2).1 e).1 (hb.trans hm))
  · have hi':i < T.nodes.length:=by simpa [setNode] using hi
    have q:=own_save (h.down i hi' hi2) hs (fun b hb hm=>by simp [sl,Value.ownBlock] at hb hm;exact (ints_ne h.apart h2 hi2).2 (hm.symm.trans hb.symm))
    by_cases e:i=a
    · subst e
      simp only [setNode,List.getElem_set_self]
      exact q
    · simp only [setNode,List.getElem_set_ne (Ne.symm e)]
      exact q
theorem TrieIn.setDown {w:World} {tb:Nat} {T:PTrie} {nv:Value} {ns:List (Nat × Nat)} (h:TrieIn lo w tb T nv ns) (a u x:Nat) (ha:a < T.nodes.length) (h2:a < ns.length) (hu:u < T.width) :
    TrieIn lo (w.setCell ⟨ns[a].2,u,none⟩ (.int .i64 (x:Nat))) tb (setNode T a ⟨T.nodes[a].leap,T.nodes[a].down.set u x⟩) nv ns:=by
  have hl:=h.downLen a ha
  have hs:=Save.set w ns[a].2 u (.int .i64 (x:Nat))
  have hA:=h.down a ha h2
  refine ⟨h.low,h.box.save hs (by have:=own_ne_box hA h.box (by decide) rfl;simpa using Ne.symm this),?_,by simpa [setNode] using h.len,fun i hi hi2=>?_,fun i hi hi2=>?_,h.apart,h.wide,by simpa [setNode] using h.many,h.deep,h.few⟩
  · have:=own_save h.nodes hs (fun b hb hm=>own_ne_own hA h.nodes (by decide) rfl (by simp at hm;rw [← hm];exact hb))
    simpa [setNode] using this
  · have hi':i < T.nodes.length:=by simpa [setNode] using hi
    have q:=own_save (h.leap i hi' hi2) hs (fun b hb hm=>by simp [sl,Value.ownBlock] at hb hm;exact (ints_ne h.apart hi2 h2).2 (hb.trans hm))
    by_cases e:i=a
    · subst e
      simp only [setNode,List.getElem_set_self]
      exact q
    · simp only [setNode,List.getElem_set_ne (Ne.symm e)]
      exact q
  · have hi':i < T.nodes.length:=by simpa [setNode] using hi
    by_cases e:i=a
    · subst e
      have q:=own_set hA u (by simp;omega) (.int .i64 (x:Nat))
      simp only [setNode,List.getElem_set_self]
      rw [List.map_set]
      exact q
    · simp only [setNode,List.getElem_set_ne (Ne.symm e)]
      exact own_save (h.down i hi' hi2) hs (fun b hb hm=>by simp [sl,Value.ownBlock] at hb hm;exact ((ints_ne h.apart hi2 h2).1 e).2 (hb.trans hm))
structure Wrote (lo:Nat) (w w':World) (tb:Nat) (T:PTrie) (fp:List Nat) (fp':List Nat):Prop where
  trie:TrieAt lo w' tb T fp'
  save:Save fp w w'
  fresh:∀ b∈fp',b∈fp∨w.heap.size<=b
theorem setNode_setNode (T:PTrie) (a:Nat) (n m:PNode):setNode (setNode T a n) a m=setNode T a m:=by simp [setNode]
theorem putP_in {T:PTrie} {a v d:Nat} (ha:a < T.nodes.length) (hv:v < T.width):putP T a v d=setNode T a ⟨lowerP v (v+1) T.nodes[a].leap,T.nodes[a].down.set v d⟩:=by
  unfold putP;rw [if_pos ⟨ha,hv⟩];simp [setNode,putN,List.getD_eq_getElem?_getD,ha]
theorem put_any (w:World) (tb:Nat) (T:PTrie) (fp:List Nat) (a v d:Nat) (h:TrieAt lo w tb T fp) :
    Calls Tryz.prog 203 #[.pointer (some ⟨tb,0,none⟩),.int .i64 a,.int .i64 v,.int .i64 d] w fun e w'=>e=.returned (.tuple #[])/\Wrote lo w w' tb (putP T a v d) fp fp:=by
  have hh:=h
  obtain ⟨nv,ns,h1,rfl⟩:=h
  have hwd:=h1.wide
  have hmn:=h1.many
  by_cases h2:a < T.nodes.length
  · by_cases h3:v < T.width
    · have hi2:a < ns.length:=by rw [h1.len];exact h2
      have HP:Hid (putP T a v d=setNode T a ⟨lowerP v (v+1) T.nodes[a].leap,T.nodes[a].down.set v d⟩):=putP_in h2 h3
      obtain ⟨gn,cap,gl,rfl,hgn,hgl,⟨_,rfl⟩,hn1,hv1⟩:=h1.downAt a v h2 h3
      obtain ⟨hc,hfz⟩:=h1.box.rules
      have hlt:=h1.box.lt
      have hfd:=own_free (h1.down a h2 hi2)
      have hfl:=own_free (h1.leap a h2 hi2)
      have hset:=h1.setDown a v d h2 hi2 h3
      have H1:Hid (TrieIn lo w tb T (.slice (some ⟨gn,0,none⟩) T.nodes.length cap) ns):=h1
      clear h1 hh
      have hE0:T.nodes[a].down.set v d=T.nodes[a].down.set v d:=rfl
      generalize hdw:T.nodes[a].down.set v d=dw at *
      generalize hlp:T.nodes[a].leap=lp at *
      clear hE0 hdw hlp
      go_enter Tryz.func203,Tryz.ntmps203
      go_wp2
      clear hn1 hv1 hc hfz hlt hfd hfl hgl hgn
      go_loopw [8] (fun v8 wr=>∃ (n:Nat) (l:List Nat),n<=v+1/\v8=.int .i64 ((n:Int) - 1)/\TrieIn lo wr tb (setNode T a ⟨l,dw⟩) (.slice (some ⟨gn,0,none⟩) T.nodes.length cap) ns/\Hid (lowerP v (v+1) lp=lowerP v n l)/\Save (fpT tb (.slice (some ⟨gn,0,none⟩) T.nodes.length cap) ns) w wr) (fun v8 _=>(intOf v8+1).toNat)
      case atStart =>
        refine ⟨v+1,lp,Nat.le_refl _,by go_num,hset,rfl,(Save.set _ _ _ _).more fun x hx=>?_⟩
        simp only [List.mem_singleton] at hx
        subst hx
        simp only [fpT,List.mem_cons,List.mem_append]
        exact Or.inr (Or.inr (ints_mem hi2).2)
      case round =>
        clear hset
        obtain ⟨n,l,hn,rfl,hti,hlow,hsv⟩:=hrel
        have h2':a < (setNode T a ⟨l,dw⟩).nodes.length:=by simpa [setNode] using h2
        have hnode:(setNode T a ⟨l,dw⟩).nodes[a]=⟨l,dw⟩:=by simp [setNode]
        have hwd':(setNode T a ⟨l,dw⟩).width=T.width:=rfl
        obtain ⟨hc,hfz⟩:=hti.box.rules
        have hlt:=hti.box.lt
        have hfl:=own_free (hti.leap a h2' hi2)
        have HDONE:Hid (lowerP v n l=l->Wrote lo w wr tb (putP T a v d) (fpT tb (.slice (some ⟨gn,0,none⟩) T.nodes.length cap) ns) (fpT tb (.slice (some ⟨gn,0,none⟩) T.nodes.length cap) ns)):=fun e=>⟨⟨_,ns,by rw [HP.out,hlow.out,e];exact hti,rfl⟩,hsv,fun b hb=>Or.inl hb⟩
        cases n with
        | zero =>
          clear hti
          go_wp2
          go_end0
          exact ⟨rfl,HDONE.out rfl⟩
        | succ m =>
          have e:((m+1:Nat):Int) - 1=(m:Int):=by omega
          rw [e]
          have hm:m < T.width:=by omega
          obtain ⟨gn',cap',gl,hnv,hgn,hgl,⟨_,rfl⟩,hn1,hv1⟩:=hti.leapAt a m h2' (by rw [hwd'];exact hm)
          simp only [Value.slice.injEq,Option.some.injEq,Addr.mk.injEq] at hnv
          obtain ⟨⟨rfl,_⟩,_,rfl⟩:=hnv
          rw [hnode] at hv1
          rw [hwd'] at hn1
          have hs2:=hti.setLeap a m v h2' hi2 (by rw [hwd'];exact hm)
          rw [hnode,setNode_setNode] at hs2
          have HL:Hid (lowerP v (m+1) l=if l.getD m 0 > v then lowerP v m (l.set m v) else l):=by rw [Hid,lowerP]
          have HTI:Hid (TrieIn lo wr tb (setNode T a ⟨l,dw⟩) (.slice (some ⟨gn,0,none⟩) T.nodes.length cap) ns):=hti
          clear hti h2' hnode e
          have HS2:Hid (TrieIn lo (wr.setCell ⟨ns[a].1,m,none⟩ (.int .i64 (v:Nat))) tb (setNode T a ⟨l.set m v,dw⟩) (.slice (some ⟨gn,0,none⟩) T.nodes.length cap) ns):=hs2
          clear hs2
          simp only at hv1
          generalize l.getD m 0=x at *
          by_cases hx:x > v
          · rw [if_pos hx] at HL
            go_wp2
            go_roundw
            case rel =>
              refine ⟨m,l.set m v,by omega,by go_num,HS2.out,hlow.trans HL,hsv.trans ((Save.set _ _ _ _).more fun x hx=>?_)⟩
              simp only [List.mem_singleton] at hx
              subst hx
              simp only [fpT,List.mem_cons,List.mem_append]
              exact Or.inr (Or.inr (ints_mem hi2).1)
            case measure=>simp [intOf]
          · rw [if_neg hx] at HL
            go_wp2
            go_end0
            exact ⟨rfl,HDONE.out HL.out⟩
    · have HP:Hid (putP T a v d=T):=by unfold putP;rw [Hid,if_neg (by omega)]
      obtain ⟨ao,cap,rfl⟩:=own_view h1.nodes
      obtain ⟨hc,hfz⟩:=h1.box.rules
      have hlt:=h1.box.lt
      clear h1
      go_enter Tryz.func203,Tryz.ntmps203
      go_wp2
      (try simp only [Exit.inBlock,Exit.then]);refine bodyPost_ret (results_none rfl _ _ _) rfl ?_
      exact ⟨rfl,by rw [HP.out];exact ⟨hh,Save.refl _ _,fun b hb=>Or.inl hb⟩⟩
  · have HP:Hid (putP T a v d=T):=by unfold putP;rw [Hid,if_neg (by omega)]
    obtain ⟨ao,cap,rfl⟩:=own_view h1.nodes
    obtain ⟨hc,hfz⟩:=h1.box.rules
    have hlt:=h1.box.lt
    clear h1
    go_enter Tryz.func203,Tryz.ntmps203
    go_wp2
    (try simp only [Exit.inBlock,Exit.then]);refine bodyPost_ret (results_none rfl _ _ _) rfl ?_
    exact ⟨rfl,by rw [HP.out];exact ⟨hh,Save.refl _ _,fun b hb=>Or.inl hb⟩⟩
end Go.Proofs.YteampbddflhngaaGreat
