import Derived.Test.YteampbddflhngabGreatY08

namespace Go.Proofs.YteampbddflhngabGreat
set_option maxRecDepth 100000
set_option maxHeartbeats 2000000
open Go.RowKit
variable {lo:Nat}
def ze1(wd:Nat)(ns:List (Nat × Nat)):List Value:=ns.flatMap fun x=>[sl x.1 wd,sl x.2 wd]
theorem zi0(wd:Nat):∀(ns:List (Nat × Nat)) (k:Nat) (hk:k < ns.length),(ze1 wd ns)[k * 2]?=some (sl ns[k].1 wd)/\(ze1 wd ns)[k * 2+1]?=some (sl ns[k].2 wd)
 |[],k,hk=>by simp at hk
 |p::r,0,_=>by simp[ze1]
 |p::r,k+1,hk=>by
  have:=zi0 wd r k (by simpa using hk)
  simp only[ze1,List.flatMap_cons] at this ⊢
  rw[show(k+1) * 2=k * 2+1+1 from by omega,show k * 2+1+1+1=k * 2+1+1+1 from rfl]
  simpa using this
def intsOf(ns:List (Nat × Nat)):List Nat:=ns.flatMap fun x=>[x.1,x.2]
structure zdk (lo:Nat) (w:World) (tb:Nat) (T:zad) (nv:Value) (ns:List (Nat × Nat)):Prop where
 low:lo<=tb
 box:Box w tb #[.int .i64 (T.width:Nat),.int .i64 (T.depth:Nat),nv,.int .i64 (T.count:Nat)] 168
 nodes:w.ownsRow lo 200 2 nv T.nodes.length (ze1 T.width ns)
 len:ns.length=T.nodes.length
 leap:∀ i (h:i < T.nodes.length) (h2:i < ns.length),w.ownsRow lo 3 1 (sl ns[i].1 T.width) T.width (T.nodes[i].leap.map ivN)
 down:∀ i (h:i < T.nodes.length) (h2:i < ns.length),w.ownsRow lo 3 1 (sl ns[i].2 T.width) T.width (T.nodes[i].down.map ivN)
 apart:(intsOf ns).Nodup
 wide:T.width<=1000
 many:T.nodes.length<=100000000
 deep:T.depth<=3
 few:T.count<=1000000000
def fpT(tb:Nat)(nv:Value)(ns:List (Nat × Nat)):List Nat:=tb::(nv.ownBlock.toList++intsOf ns)
def zat(lo:Nat)(w:World)(tb:Nat)(T:zad)(fp:List Nat):Prop:=∃ nv ns,zdk lo w tb T nv ns/\fp=fpT tb nv ns
theorem zdk.leapLen{w:World}{tb:Nat}{T:zad}{nv:Value}{ns:List (Nat × Nat)}(h:zdk lo w tb T nv ns)(i:Nat)(hi:i < T.nodes.length):T.nodes[i].leap.length=T.width:=by
 have:=(h.leap i hi (by rw[h.len];exact hi)).1;simpa using this
theorem zdk.downLen{w:World}{tb:Nat}{T:zad}{nv:Value}{ns:List (Nat × Nat)}(h:zdk lo w tb T nv ns)(i:Nat)(hi:i < T.nodes.length):T.nodes[i].down.length=T.width:=by
 have:=(h.down i hi (by rw[h.len];exact hi)).1;simpa using this
theorem zrx{ns:List (Nat × Nat)}{b:Nat}(h:b∈intsOf ns):∃ i,∃ h:i < ns.length,b=ns[i].1∨b=ns[i].2:=by
 simp only[intsOf,List.mem_flatMap,List.mem_cons,List.not_mem_nil,or_false] at h
 obtain⟨x,hx,hb⟩:=h
 obtain⟨i,hi,rfl⟩:=List.getElem_of_mem hx
 exact⟨i,hi,hb⟩
theorem zna{ns:List (Nat × Nat)}{i:Nat}(h:i < ns.length):ns[i].1∈intsOf ns/\ns[i].2∈intsOf ns:=by
 simp only[intsOf,List.mem_flatMap,List.mem_cons,List.not_mem_nil,or_false]
 exact⟨⟨_,List.getElem_mem h,Or.inl rfl⟩,⟨_,List.getElem_mem h,Or.inr rfl⟩⟩
theorem zdk.lt{w:World}{tb:Nat}{T:zad}{nv:Value}{ns:List (Nat × Nat)}(h:zdk lo w tb T nv ns):∀ b∈fpT tb nv ns,lo<=b/\b < w.heap.size:=by
 intro b hb
 simp only[fpT,List.mem_cons,List.mem_append] at hb
 rcases hb with rfl|hb|hb
 ·exact⟨h.low,h.box.lt⟩
 ·exact⟨zeg h.nodes (zcx hb),zdq h.nodes (zcx hb)⟩
 ·obtain⟨i,hi,rfl|rfl⟩:=zrx hb
  ·exact⟨zeg (h.leap i (by rw[← h.len];exact hi) hi) rfl,zdq (h.leap i (by rw[← h.len];exact hi) hi) rfl⟩
  ·exact⟨zeg (h.down i (by rw[← h.len];exact hi) hi) rfl,zdq (h.down i (by rw[← h.len];exact hi) hi) rfl⟩
theorem zat.lt{w:World}{tb:Nat}{T:zad}{fp:List Nat}(h:zat lo w tb T fp):∀ b∈fp,lo<=b/\b < w.heap.size:=by
 obtain⟨nv,ns,h1,rfl⟩:=h;exact h1.lt
theorem zat.save{w w':World}{tb:Nat}{T:zad}{fp N:List Nat}(h:zat lo w tb T fp)(hs:zas N w w')(hN:∀ b∈fp,b∉N):zat lo w' tb T fp:=by
 obtain⟨nv,ns,h1,rfl⟩:=h
 have hm:∀ b∈fpT tb nv ns,b∉N:=hN
 refine⟨nv,ns,⟨h1.low,h1.box.save hs (hm tb (by simp[fpT])),zbl h1.nodes hs fun b hb=>hm b ?_,h1.len,fun i hi hi2=>zbl (h1.leap i hi hi2) hs fun b hb=>hm b ?_,fun i hi hi2=>zbl (h1.down i hi hi2) hs fun b hb=>hm b ?_,h1.apart,h1.wide,h1.many,h1.deep,h1.few⟩,rfl⟩
 ·simp[fpT,hb]
 ·simp only[sl,Value.ownBlock,Option.some.injEq] at hb;subst hb;simp only[fpT,List.mem_cons,List.mem_append];exact Or.inr (Or.inr (zna hi2).1)
 ·simp only[sl,Value.ownBlock,Option.some.injEq] at hb;subst hb;simp only[fpT,List.mem_cons,List.mem_append];exact Or.inr (Or.inr (zna hi2).2)
theorem zat.below{w w':World}{tb:Nat}{T:zad}{fp:List Nat}(h:zat lo w tb T fp)(hb:Below w.heap.size w w'):zat lo w' tb T fp:=h.save (zas.of (M:=[]) hb) (by simp)
def zpc(o:Option Nat):Value:=.tuple #[.int .i64 ((o.getD 0:Nat):Int),.bool o.isSome]
theorem zdk.leapAt{w:World}{tb:Nat}{T:zad}{nv:Value}{ns:List (Nat × Nat)}(h:zdk lo w tb T nv ns)(a f:Nat)(ha:a < T.nodes.length)(hf:f < T.width) :
  ∃ gn cap gl,nv=.slice (some ⟨gn,0,none⟩) T.nodes.length cap/\gn < w.heap.size/\gl < w.heap.size/\(∃ h2:a < ns.length,gl=ns[a].1)/\w.cell? ⟨gn,a * 2,none⟩=some (.slice (some ⟨gl,0,none⟩) T.width T.width)/\w.cell? ⟨gl,f,none⟩=some (.int .i64 ((T.nodes[a].leap.getD f 0:Nat):Int)):=by
 have hi2:a < ns.length:=by rw[h.len];exact ha
 obtain⟨gn,cap',hv,_,hgn,hcn⟩:=zal h.nodes (by omega)
 obtain⟨gl,cap'',hv2,_,hgl,hcl⟩:=zal (h.leap a ha hi2) (by omega)
 simp only[sl,Value.slice.injEq,Option.some.injEq,Addr.mk.injEq] at hv2
 obtain⟨⟨rfl,_⟩,_,_⟩:=hv2
 have hll:=h.leapLen a ha
 refine⟨gn,cap',_,hv,hgn,hgl,⟨hi2,rfl⟩,hcn _ _ (zi0 T.width ns a hi2).1,hcl f _ ?_⟩
 rw[List.getElem?_map,List.getElem?_eq_getElem (by omega),List.getD_eq_getElem?_getD,List.getElem?_eq_getElem (by omega)]
 rfl
theorem zdk.downAt{w:World}{tb:Nat}{T:zad}{nv:Value}{ns:List (Nat × Nat)}(h:zdk lo w tb T nv ns)(a f:Nat)(ha:a < T.nodes.length)(hf:f < T.width) :
  ∃ gn cap gl,nv=.slice (some ⟨gn,0,none⟩) T.nodes.length cap/\gn < w.heap.size/\gl < w.heap.size/\(∃ h2:a < ns.length,gl=ns[a].2)/\w.cell? ⟨gn,a * 2+1,none⟩=some (.slice (some ⟨gl,0,none⟩) T.width T.width)/\w.cell? ⟨gl,f,none⟩=some (.int .i64 ((T.nodes[a].down.getD f 0:Nat):Int)):=by
 have hi2:a < ns.length:=by rw[h.len];exact ha
 obtain⟨gn,cap',hv,_,hgn,hcn⟩:=zal h.nodes (by omega)
 obtain⟨gl,cap'',hv2,_,hgl,hcl⟩:=zal (h.down a ha hi2) (by omega)
 simp only[sl,Value.slice.injEq,Option.some.injEq,Addr.mk.injEq] at hv2
 obtain⟨⟨rfl,_⟩,_,_⟩:=hv2
 have hll:=h.downLen a ha
 refine⟨gn,cap',_,hv,hgn,hgl,⟨hi2,rfl⟩,hcn _ _ (zi0 T.width ns a hi2).2,hcl f _ ?_⟩
 rw[List.getElem?_map,List.getElem?_eq_getElem (by omega),List.getD_eq_getElem?_getD,List.getElem?_eq_getElem (by omega)]
 rfl
theorem zld(w:World)(tb:Nat)(T:zad)(fp:List Nat)(a f:Nat)(h:zat lo w tb T fp) :
  Calls Tryz.prog 107 #[.pointer (some ⟨tb,0,none⟩),.int .i64 a,.int .i64 f] w fun e w'=>e=.returned (zpc (zcn T a f))/\w'=w:=by
 obtain⟨nv,ns,h1,rfl⟩:=h
 obtain⟨hc,hfz⟩:=h1.box.rules
 have hlt:=h1.box.lt
 have hwd:=h1.wide
 have hmn:=h1.many
 by_cases h2:a < T.nodes.length
 ·by_cases h3:f < T.width
  ·obtain⟨gn,cap,gl,rfl,hgn,hgl,_,hn1,hv1⟩:=h1.leapAt a f h2 h3
   have hE:zcn T a f=if T.nodes[a].leap.getD f 0 ≥ T.width then none else some (T.nodes[a].leap.getD f 0):=by
    unfold zcn
    rw[if_pos ⟨h2,h3⟩]
    simp[List.getD_eq_getElem?_getD,h2]
   generalize T.nodes[a].leap.getD f 0=v at *
   clear h1
   by_cases h4:v ≥ T.width
   ·rw[if_pos h4] at hE
    have HE:Hid (zcn T a f=none):=hE
    clear hE
    go_enter Tryz.func107,Tryz.ntmps107
    go_wp2
    go_ret2
    exact⟨by rw[HE.out];rfl,rfl⟩
   ·rw[if_neg h4] at hE
    have HE:Hid (zcn T a f=some v):=hE
    clear hE
    go_enter Tryz.func107,Tryz.ntmps107
    go_wp2
    go_ret2
    exact⟨by rw[HE.out];rfl,rfl⟩
  ·have HE:Hid (zcn T a f=none):=by unfold zcn;rw[Hid,if_neg (by omega)]
   obtain⟨ao,cap,rfl⟩:=zac h1.nodes
   clear h1
   go_enter Tryz.func107,Tryz.ntmps107
   go_wp2
   go_ret2
   exact⟨by rw[HE.out];rfl,rfl⟩
 ·have HE:Hid (zcn T a f=none):=by unfold zcn;rw[Hid,if_neg (by omega)]
  obtain⟨ao,cap,rfl⟩:=zac h1.nodes
  clear h1
  go_enter Tryz.func107,Tryz.ntmps107
  go_wp2
  go_ret2
  exact⟨by rw[HE.out];rfl,rfl⟩
theorem zh2(w:World)(tb:Nat)(T:zad)(fp:List Nat)(a f:Nat)(h:zat lo w tb T fp) :
  Calls Tryz.prog 82 #[.pointer (some ⟨tb,0,none⟩),.int .i64 a,.int .i64 f] w fun e w'=>e=.returned (zpc (zax T a f))/\w'=w:=by
 have HL:Hid (Calls Tryz.prog 107 #[.pointer (some ⟨tb,0,none⟩),.int .i64 a,.int .i64 f] w fun e w'=>e=.returned (zpc (zcn T a f))/\w'=w):=zld w tb T fp a f h
 obtain⟨nv,ns,h1,rfl⟩:=h
 obtain⟨hc,hfz⟩:=h1.box.rules
 have hlt:=h1.box.lt
 have hwd:=h1.wide
 have hmn:=h1.many
 cases hl:zcn T a f with
 |none =>
  have HE:Hid (zax T a f=none):=by unfold zax;rw[Hid,hl]
  rw[hl] at HL
  simp only[zpc,Option.getD_none,Option.isSome_none] at HL
  clear hl h1
  go_enter Tryz.func82,Tryz.ntmps82
  go_wp2_with (first|(go_at_call 107;refine HL.out.mono ?_;rintro e w' ⟨rfl,hww⟩;obtain rfl:=hww.symm))
  go_ret2
  exact⟨by rw[HE.out];rfl,rfl⟩
 |some u =>
  have hin:a < T.nodes.length/\f < T.width:=by
   unfold zcn at hl
   split at hl
   ·assumption
   ·cases hl
  obtain⟨gn,cap,gl,rfl,hgn,hgl,_,hn1,hv1⟩:=h1.downAt a f hin.1 hin.2
  have hE:zax T a f=if u=f then some (T.nodes[a].down.getD f 0) else none:=by
   unfold zax;rw[hl];simp[List.getD_eq_getElem?_getD,hin.1]
  rw[hl] at HL
  simp only[zpc,Option.getD_some,Option.isSome_some] at HL
  obtain⟨h2,h3⟩:=hin
  generalize T.nodes[a].down.getD f 0=v at *
  clear hl h1
  by_cases h4:u=f
  ·subst h4
   rw[if_pos rfl] at hE
   have HE:Hid (zax T a u=some v):=hE
   clear hE
   go_enter Tryz.func82,Tryz.ntmps82
   go_wp2_with (first|(go_at_call 107;refine HL.out.mono ?_;rintro e w' ⟨rfl,hww⟩;obtain rfl:=hww.symm))
   go_ret2
   exact⟨by rw[HE.out];rfl,rfl⟩
  ·rw[if_neg h4] at hE
   have HE:Hid (zax T a f=none):=hE
   clear hE
   go_enter Tryz.func82,Tryz.ntmps82
   go_wp2_with (first|(go_at_call 107;refine HL.out.mono ?_;rintro e w' ⟨rfl,hww⟩;obtain rfl:=hww.symm))
   go_ret2
   exact⟨by rw[HE.out];rfl,rfl⟩
theorem zq5(w:World)(tb:Nat)(T:zad)(fp:List Nat)(h:zat lo w tb T fp) :
  Calls Tryz.prog 139 #[.pointer (some ⟨tb,0,none⟩)] w fun e w'=>e=.returned (.int .i64 (T.count:Nat))/\w'=w:=by
 obtain⟨nv,ns,h1,rfl⟩:=h
 obtain⟨hc,hfz⟩:=h1.box.rules
 have hlt:=h1.box.lt
 clear h1
 go_enter Tryz.func139,Tryz.ntmps139
 go_wp2
 go_ret
 exact⟨rfl,rfl⟩
theorem ints_at:∀(ns:List (Nat × Nat)) (k:Nat) (hk:k < ns.length),(intsOf ns)[k * 2]?=some ns[k].1/\(intsOf ns)[k * 2+1]?=some ns[k].2
 |[],k,hk=>by simp at hk
 |p::r,0,_=>by simp[intsOf]
 |p::r,k+1,hk=>by
  have:=ints_at r k (by simpa using hk)
  simp only[intsOf,List.flatMap_cons] at this ⊢
  rw[show(k+1) * 2=k * 2+1+1 from by omega,show k * 2+1+1+1=k * 2+1+1+1 from rfl]
  simpa using this
theorem zok{l:List Nat}(h:l.Nodup){i j x y:Nat}(hi:l[i]?=some x)(hj:l[j]?=some y)(hne:i≠j):x≠y:=by
 obtain⟨h1,rfl⟩:=List.getElem?_eq_some_iff.1 hi
 obtain⟨h2,rfl⟩:=List.getElem?_eq_some_iff.1 hj
 exact z6j (f:=id) (by simpa using h) h1 h2 hne
theorem zrq{ns:List (Nat × Nat)}(h:(intsOf ns).Nodup){i j:Nat}(hi:i < ns.length)(hj:j < ns.length):(i≠j->ns[i].1≠ns[j].1/\ns[i].2≠ns[j].2)/\ns[i].1≠ns[j].2 :=
 ⟨fun hne=>⟨zok h (ints_at ns i hi).1 (ints_at ns j hj).1 (by omega),zok h (ints_at ns i hi).2 (ints_at ns j hj).2 (by omega)⟩,zok h (ints_at ns i hi).1 (ints_at ns j hj).2 (by omega)⟩
def setNode(T:zad)(a:Nat)(n:zhi):zad:={ T with nodes:=T.nodes.set a n }
theorem zdk.setLeap{w:World}{tb:Nat}{T:zad}{nv:Value}{ns:List (Nat × Nat)}(h:zdk lo w tb T nv ns)(a u x:Nat)(ha:a < T.nodes.length)(h2:a < ns.length)(hu:u < T.width) :
  zdk lo (w.setCell ⟨ns[a].1,u,none⟩ (.int .i64 (x:Nat))) tb (setNode T a ⟨T.nodes[a].leap.set u x,T.nodes[a].down⟩) nv ns:=by
 have hl:=h.leapLen a ha
 have hs:=zas.set w ns[a].1 u (.int .i64 (x:Nat))
 have hA:=h.leap a ha h2
 refine⟨h.low,h.box.save hs (by have:=zbs hA h.box (by decide) rfl;simpa using Ne.symm this),?_,by simpa [setNode] using h.len,fun i hi hi2=>?_,fun i hi hi2=>?_,h.apart,h.wide,by simpa [setNode] using h.many,h.deep,h.few⟩
 ·have:=zbl h.nodes hs (fun b hb hm=>zjf hA h.nodes (by decide) rfl (by simp at hm;rw[← hm];exact hb))
  simpa [setNode] using this
 ·have hi':i < T.nodes.length:=by simpa [setNode] using hi
  by_cases e:i=a
  ·subst e
   have q:=zb4 hA u (by simp;omega) (.int .i64 (x:Nat))
   simp only[setNode,List.getElem_set_self]
   rw[List.map_set]
   exact q
  ·simp only[setNode,List.getElem_set_ne (Ne.symm e)]
   exact zbl (h.leap i hi' hi2) hs (fun b hb hm=>by simp[sl,Value.ownBlock] at hb hm;exact((zrq h.apart hi2 h2).1 e).1 (hb.trans hm))
 ·have hi':i < T.nodes.length:=by simpa [setNode] using hi
  have q:=zbl (h.down i hi' hi2) hs (fun b hb hm=>by simp[sl,Value.ownBlock] at hb hm;exact(zrq h.apart h2 hi2).2 (hm.symm.trans hb.symm))
  by_cases e:i=a
  ·subst e
   simp only[setNode,List.getElem_set_self]
   exact q
  ·simp only[setNode,List.getElem_set_ne (Ne.symm e)]
   exact q
theorem zdk.setDown{w:World}{tb:Nat}{T:zad}{nv:Value}{ns:List (Nat × Nat)}(h:zdk lo w tb T nv ns)(a u x:Nat)(ha:a < T.nodes.length)(h2:a < ns.length)(hu:u < T.width) :
  zdk lo (w.setCell ⟨ns[a].2,u,none⟩ (.int .i64 (x:Nat))) tb (setNode T a ⟨T.nodes[a].leap,T.nodes[a].down.set u x⟩) nv ns:=by
 have hl:=h.downLen a ha
 have hs:=zas.set w ns[a].2 u (.int .i64 (x:Nat))
 have hA:=h.down a ha h2
 refine⟨h.low,h.box.save hs (by have:=zbs hA h.box (by decide) rfl;simpa using Ne.symm this),?_,by simpa [setNode] using h.len,fun i hi hi2=>?_,fun i hi hi2=>?_,h.apart,h.wide,by simpa [setNode] using h.many,h.deep,h.few⟩
 ·have:=zbl h.nodes hs (fun b hb hm=>zjf hA h.nodes (by decide) rfl (by simp at hm;rw[← hm];exact hb))
  simpa [setNode] using this
 ·have hi':i < T.nodes.length:=by simpa [setNode] using hi
  have q:=zbl (h.leap i hi' hi2) hs (fun b hb hm=>by simp[sl,Value.ownBlock] at hb hm;exact(zrq h.apart hi2 h2).2 (hb.trans hm))
  by_cases e:i=a
  ·subst e
   simp only[setNode,List.getElem_set_self]
   exact q
  ·simp only[setNode,List.getElem_set_ne (Ne.symm e)]
   exact q
 ·have hi':i < T.nodes.length:=by simpa [setNode] using hi
  by_cases e:i=a
  ·subst e
   have q:=zb4 hA u (by simp;omega) (.int .i64 (x:Nat))
   simp only[setNode,List.getElem_set_self]
   rw[List.map_set]
   exact q
  ·simp only[setNode,List.getElem_set_ne (Ne.symm e)]
   exact zbl (h.down i hi' hi2) hs (fun b hb hm=>by simp[sl,Value.ownBlock] at hb hm;exact((zrq h.apart hi2 h2).1 e).2 (hb.trans hm))
structure Wrote (lo:Nat) (w w':World) (tb:Nat) (T:zad) (fp:List Nat) (fp':List Nat):Prop where
 trie:zat lo w' tb T fp'
 save:zas fp w w'
 fresh:∀ b∈fp',b∈fp∨w.heap.size<=b
theorem zo2(T:zad)(a:Nat)(n m:zhi):setNode (setNode T a n) a m=setNode T a m:=by simp[setNode]
theorem z8w{T:zad}{a v d:Nat}(ha:a < T.nodes.length)(hv:v < T.width):ze6 T a v d=setNode T a ⟨zgh v (v+1) T.nodes[a].leap,T.nodes[a].down.set v d⟩:=by
 unfold ze6;rw[if_pos ⟨ha,hv⟩];simp[setNode,z4w,List.getD_eq_getElem?_getD,ha]
theorem put_any(w:World)(tb:Nat)(T:zad)(fp:List Nat)(a v d:Nat)(h:zat lo w tb T fp) :
  Calls Tryz.prog 133 #[.pointer (some ⟨tb,0,none⟩),.int .i64 a,.int .i64 v,.int .i64 d] w fun e w'=>e=.returned (.tuple #[])/\Wrote lo w w' tb (ze6 T a v d) fp fp:=by
 have hh:=h
 obtain⟨nv,ns,h1,rfl⟩:=h
 have hwd:=h1.wide
 have hmn:=h1.many
 by_cases h2:a < T.nodes.length
 ·by_cases h3:v < T.width
  ·have hi2:a < ns.length:=by rw[h1.len];exact h2
   have HP:Hid (ze6 T a v d=setNode T a ⟨zgh v (v+1) T.nodes[a].leap,T.nodes[a].down.set v d⟩):=z8w h2 h3
   obtain⟨gn,cap,gl,rfl,hgn,hgl,⟨_,rfl⟩,hn1,hv1⟩:=h1.downAt a v h2 h3
   obtain⟨hc,hfz⟩:=h1.box.rules
   have hlt:=h1.box.lt
   have hfd:=zbu (h1.down a h2 hi2)
   have hfl:=zbu (h1.leap a h2 hi2)
   have hset:=h1.setDown a v d h2 hi2 h3
   have H1:Hid (zdk lo w tb T (.slice (some ⟨gn,0,none⟩) T.nodes.length cap) ns):=h1
   clear h1 hh
   have hE0:T.nodes[a].down.set v d=T.nodes[a].down.set v d:=rfl
   generalize hdw:T.nodes[a].down.set v d=dw at *
   generalize hlp:T.nodes[a].leap=lp at *
   clear hE0 hdw hlp
   go_enter Tryz.func133,Tryz.ntmps133
   go_wp2
   clear hn1 hv1 hc hfz hlt hfd hfl hgl hgn
   go_loopw [8] (fun v8 wr=>∃(n:Nat) (l:List Nat),n<=v+1/\v8=.int .i64 ((n:Int) - 1)/\zdk lo wr tb (setNode T a ⟨l,dw⟩) (.slice (some ⟨gn,0,none⟩) T.nodes.length cap) ns/\Hid (zgh v (v+1) lp=zgh v n l)/\zas (fpT tb (.slice (some ⟨gn,0,none⟩) T.nodes.length cap) ns) w wr) (fun v8 _=>(intOf v8+1).toNat)
   case atStart =>
    refine⟨v+1,lp,Nat.le_refl _,by go_num,hset,rfl,(zas.set _ _ _ _).more fun x hx=>?_⟩
    simp only[List.mem_singleton] at hx
    subst hx
    simp only[fpT,List.mem_cons,List.mem_append]
    exact Or.inr (Or.inr (zna hi2).2)
   case round =>
    clear hset
    obtain⟨n,l,hn,rfl,hti,hlow,hsv⟩:=hrel
    have h2':a < (setNode T a ⟨l,dw⟩).nodes.length:=by simpa [setNode] using h2
    have hnode:(setNode T a ⟨l,dw⟩).nodes[a]=⟨l,dw⟩:=by simp[setNode]
    have hwd':(setNode T a ⟨l,dw⟩).width=T.width:=rfl
    obtain⟨hc,hfz⟩:=hti.box.rules
    have hlt:=hti.box.lt
    have hfl:=zbu (hti.leap a h2' hi2)
    have HDONE:Hid (zgh v n l=l->Wrote lo w wr tb (ze6 T a v d) (fpT tb (.slice (some ⟨gn,0,none⟩) T.nodes.length cap) ns) (fpT tb (.slice (some ⟨gn,0,none⟩) T.nodes.length cap) ns)):=fun e=>⟨⟨_,ns,by rw[HP.out,hlow.out,e];exact hti,rfl⟩,hsv,fun b hb=>Or.inl hb⟩
    cases n with
    |zero =>
     clear hti
     go_wp2
     go_end0
     exact⟨rfl,HDONE.out rfl⟩
    |succ m =>
     have e:((m+1:Nat):Int) - 1=(m:Int):=by omega
     rw[e]
     have hm:m < T.width:=by omega
     obtain⟨gn',cap',gl,hnv,hgn,hgl,⟨_,rfl⟩,hn1,hv1⟩:=hti.leapAt a m h2' (by rw[hwd'];exact hm)
     simp only[Value.slice.injEq,Option.some.injEq,Addr.mk.injEq] at hnv
     obtain⟨⟨rfl,_⟩,_,rfl⟩:=hnv
     rw[hnode] at hv1
     rw[hwd'] at hn1
     have hs2:=hti.setLeap a m v h2' hi2 (by rw[hwd'];exact hm)
     rw[hnode,zo2] at hs2
     have HL:Hid (zgh v (m+1) l=if l.getD m 0 > v then zgh v m (l.set m v) else l):=by rw[Hid,zgh]
     have HTI:Hid (zdk lo wr tb (setNode T a ⟨l,dw⟩) (.slice (some ⟨gn,0,none⟩) T.nodes.length cap) ns):=hti
     clear hti h2' hnode e
     have HS2:Hid (zdk lo (wr.setCell ⟨ns[a].1,m,none⟩ (.int .i64 (v:Nat))) tb (setNode T a ⟨l.set m v,dw⟩) (.slice (some ⟨gn,0,none⟩) T.nodes.length cap) ns):=hs2
     clear hs2
     simp only at hv1
     generalize l.getD m 0=x at *
     by_cases hx:x > v
     ·rw[if_pos hx] at HL
      go_wp2
      go_roundw
      case rel =>
       refine⟨m,l.set m v,by omega,by go_num,HS2.out,hlow.trans HL,hsv.trans ((zas.set _ _ _ _).more fun x hx=>?_)⟩
       simp only[List.mem_singleton] at hx
       subst hx
       simp only[fpT,List.mem_cons,List.mem_append]
       exact Or.inr (Or.inr (zna hi2).1)
      case measure=>simp[intOf]
     ·rw[if_neg hx] at HL
      go_wp2
      go_end0
      exact⟨rfl,HDONE.out HL.out⟩
  ·have HP:Hid (ze6 T a v d=T):=by unfold ze6;rw[Hid,if_neg (by omega)]
   obtain⟨ao,cap,rfl⟩:=zac h1.nodes
   obtain⟨hc,hfz⟩:=h1.box.rules
   have hlt:=h1.box.lt
   clear h1
   go_enter Tryz.func133,Tryz.ntmps133
   go_wp2
   (try simp only[Exit.inBlock,Exit.then]);refine bodyPost_ret (results_none rfl _ _ _) rfl ?_
   exact⟨rfl,by rw[HP.out];exact⟨hh,zas.refl _ _,fun b hb=>Or.inl hb⟩⟩
 ·have HP:Hid (ze6 T a v d=T):=by unfold ze6;rw[Hid,if_neg (by omega)]
  obtain⟨ao,cap,rfl⟩:=zac h1.nodes
  obtain⟨hc,hfz⟩:=h1.box.rules
  have hlt:=h1.box.lt
  clear h1
  go_enter Tryz.func133,Tryz.ntmps133
  go_wp2
  (try simp only[Exit.inBlock,Exit.then]);refine bodyPost_ret (results_none rfl _ _ _) rfl ?_
  exact⟨rfl,by rw[HP.out];exact⟨hh,zas.refl _ _,fun b hb=>Or.inl hb⟩⟩
end Go.Proofs.YteampbddflhngabGreat
