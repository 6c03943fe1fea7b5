import Derived.Test.YteampbddflhngabGreatZ08
import Derived.Deep.RegionHeld3
import Derived.Deep.CutRange

namespace Go.Proofs.YteampbddflhngabGreat
set_option maxRecDepth 100000
set_option maxHeartbeats 2000000
open Go.RowKit
variable {lo:Nat}
theorem ints_at:∀(ns:List (Nat × Nat)) (k:Nat) (hk:k < ns.length),(intsOf ns)[k * 2]?=some ns[k].1/\(intsOf ns)[k * 2+1]?=some ns[k].2
 |[],k,hk=>by simp at hk
 |p::r,0,_=>by simp[intsOf]
 |p::r,k+1,hk=>by
  have:=ints_at r k (by simpa using hk)
  simp only[intsOf,List.flatMap_cons] at this ⊢
  rw[show(k+1) * 2=k * 2+1+1 from by omega,show k * 2+1+1+1=k * 2+1+1+1 from rfl]
  simpa using this
theorem zn1{l:List Nat}(h:l.Nodup){i j x y:Nat}(hi:l[i]?=some x)(hj:l[j]?=some y)(hne:i≠j):x≠y:=by
 obtain⟨h1,rfl⟩:=List.getElem?_eq_some_iff.1 hi
 obtain⟨h2,rfl⟩:=List.getElem?_eq_some_iff.1 hj
 exact z5g (f:=id) (by simpa using h) h1 h2 hne
theorem zq2{ns:List (Nat × Nat)}(h:(intsOf ns).Nodup){i j:Nat}(hi:i < ns.length)(hj:j < ns.length):(i≠j->ns[i].1≠ns[j].1/\ns[i].2≠ns[j].2)/\ns[i].1≠ns[j].2 :=
 ⟨fun hne=>⟨zn1 h (ints_at ns i hi).1 (ints_at ns j hj).1 (by omega),zn1 h (ints_at ns i hi).2 (ints_at ns j hj).2 (by omega)⟩,zn1 h (ints_at ns i hi).1 (ints_at ns j hj).2 (by omega)⟩
def setNode(T:zad)(a:Nat)(n:zhb):zad:={ T with nodes:=T.nodes.set a n }
theorem zdj.setLeap{w:World}{tb:Nat}{T:zad}{nv:Value}{ns:List (Nat × Nat)}(h:zdj lo w tb T nv ns)(a u x:Nat)(ha:a < T.nodes.length)(h2:a < ns.length)(hu:u < T.width) :
  zdj lo (w.setCell ⟨ns[a].1,u,none⟩ (.int .i64 (x:Nat))) tb (setNode T a ⟨T.nodes[a].leap.set u x,T.nodes[a].down⟩) nv ns:=by
 have hl:=h.leapLen a ha
 have hs:=zaq.set w ns[a].1 u (.int .i64 (x:Nat))
 have hA:=h.leap a ha h2
 refine⟨h.low,h.box.save hs (by have:=zbp hA h.box (by decide) rfl;simpa using Ne.symm this),?_,by simpa [setNode] using h.len,fun i hi hi2=>?_,fun i hi hi2=>?_,h.apart,h.wide,by simpa [setNode] using h.many,h.deep,h.few⟩
 ·have:=zbi h.nodes hs (fun b hb hm=>zi6 hA h.nodes (by decide) rfl (by simp at hm;rw[← hm];exact hb))
  simpa [setNode] using this
 ·have hi':i < T.nodes.length:=by simpa [setNode] using hi
  by_cases e:i=a
  ·subst e
   have q:=zcb hA u (by simp;omega) (.int .i64 (x:Nat))
   simp only[setNode,List.getElem_set_self]
   rw[List.map_set]
   exact q
  ·simp only[setNode,List.getElem_set_ne (Ne.symm e)]
   exact zbi (h.leap i hi' hi2) hs (fun b hb hm=>by simp[sl,Value.ownBlock] at hb hm;exact((zq2 h.apart hi2 h2).1 e).1 (hb.trans hm))
 ·have hi':i < T.nodes.length:=by simpa [setNode] using hi
  have q:=zbi (h.down i hi' hi2) hs (fun b hb hm=>by simp[sl,Value.ownBlock] at hb hm;exact(zq2 h.apart h2 hi2).2 (hm.symm.trans hb.symm))
  by_cases e:i=a
  ·subst e
   simp only[setNode,List.getElem_set_self]
   exact q
  ·simp only[setNode,List.getElem_set_ne (Ne.symm e)]
   exact q
theorem zdj.setDown{w:World}{tb:Nat}{T:zad}{nv:Value}{ns:List (Nat × Nat)}(h:zdj lo w tb T nv ns)(a u x:Nat)(ha:a < T.nodes.length)(h2:a < ns.length)(hu:u < T.width) :
  zdj lo (w.setCell ⟨ns[a].2,u,none⟩ (.int .i64 (x:Nat))) tb (setNode T a ⟨T.nodes[a].leap,T.nodes[a].down.set u x⟩) nv ns:=by
 have hl:=h.downLen a ha
 have hs:=zaq.set w ns[a].2 u (.int .i64 (x:Nat))
 have hA:=h.down a ha h2
 refine⟨h.low,h.box.save hs (by have:=zbp hA h.box (by decide) rfl;simpa using Ne.symm this),?_,by simpa [setNode] using h.len,fun i hi hi2=>?_,fun i hi hi2=>?_,h.apart,h.wide,by simpa [setNode] using h.many,h.deep,h.few⟩
 ·have:=zbi h.nodes hs (fun b hb hm=>zi6 hA h.nodes (by decide) rfl (by simp at hm;rw[← hm];exact hb))
  simpa [setNode] using this
 ·have hi':i < T.nodes.length:=by simpa [setNode] using hi
  have q:=zbi (h.leap i hi' hi2) hs (fun b hb hm=>by simp[sl,Value.ownBlock] at hb hm;exact(zq2 h.apart hi2 h2).2 (hb.trans hm))
  by_cases e:i=a
  ·subst e
   simp only[setNode,List.getElem_set_self]
   exact q
  ·simp only[setNode,List.getElem_set_ne (Ne.symm e)]
   exact q
 ·have hi':i < T.nodes.length:=by simpa [setNode] using hi
  by_cases e:i=a
  ·subst e
   have q:=zcb hA u (by simp;omega) (.int .i64 (x:Nat))
   simp only[setNode,List.getElem_set_self]
   rw[List.map_set]
   exact q
  ·simp only[setNode,List.getElem_set_ne (Ne.symm e)]
   exact zbi (h.down i hi' hi2) hs (fun b hb hm=>by simp[sl,Value.ownBlock] at hb hm;exact((zq2 h.apart hi2 h2).1 e).2 (hb.trans hm))
structure Wrote (lo:Nat) (w w':World) (tb:Nat) (T:zad) (fp:List Nat) (fp':List Nat):Prop where
 trie:zat lo w' tb T fp'
 save:zaq fp w w'
 fresh:∀ b∈fp',b∈fp∨w.heap.size<=b
theorem zoh(T:zad)(a:Nat)(n m:zhb):setNode (setNode T a n) a m=setNode T a m:=by simp[setNode]
theorem z7o{T:zad}{a v d:Nat}(ha:a < T.nodes.length)(hv:v < T.width):ze3 T a v d=setNode T a ⟨zgc v (v+1) T.nodes[a].leap,T.nodes[a].down.set v d⟩:=by
 unfold ze3;rw[if_pos ⟨ha,hv⟩];simp[setNode,z3s,List.getD_eq_getElem?_getD,ha]
theorem put_any(w:World)(tb:Nat)(T:zad)(fp:List Nat)(a v d:Nat)(h:zat lo w tb T fp) :
  Calls Tryz.prog 133 #[.pointer (some ⟨tb,0,none⟩),.int .i64 a,.int .i64 v,.int .i64 d] w fun e w'=>e=.returned (.tuple #[])/\Wrote lo w w' tb (ze3 T a v d) fp fp:=by
 have hh:=h
 obtain⟨nv,ns,h1,rfl⟩:=h
 have hwd:=h1.wide
 have hmn:=h1.many
 by_cases h2:a < T.nodes.length
 ·by_cases h3:v < T.width
  ·have hi2:a < ns.length:=by rw[h1.len];exact h2
   have HP:Hid (ze3 T a v d=setNode T a ⟨zgc v (v+1) T.nodes[a].leap,T.nodes[a].down.set v d⟩):=z7o h2 h3
   obtain⟨gn,cap,gl,rfl,hgn,hgl,⟨_,rfl⟩,hn1,hv1⟩:=h1.downAt a v h2 h3
   obtain⟨hc,hfz⟩:=h1.box.rules
   have hlt:=h1.box.lt
   have hfd:=zb2 (h1.down a h2 hi2)
   have hfl:=zb2 (h1.leap a h2 hi2)
   have hset:=h1.setDown a v d h2 hi2 h3
   have H1:Hid (zdj lo w tb T (.slice (some ⟨gn,0,none⟩) T.nodes.length cap) ns):=h1
   clear h1 hh
   have hE0:T.nodes[a].down.set v d=T.nodes[a].down.set v d:=rfl
   generalize hdw:T.nodes[a].down.set v d=dw at *
   generalize hlp:T.nodes[a].leap=lp at *
   clear hE0 hdw hlp
   go_enter Tryz.func133,Tryz.ntmps133
   go_wp2
   clear hn1 hv1 hc hfz hlt hfd hfl hgl hgn
   go_loopw [8] (fun v8 wr=>∃(n:Nat) (l:List Nat),n<=v+1/\v8=.int .i64 ((n:Int) - 1)/\zdj lo wr tb (setNode T a ⟨l,dw⟩) (.slice (some ⟨gn,0,none⟩) T.nodes.length cap) ns/\Hid (zgc v (v+1) lp=zgc v n l)/\zaq (fpT tb (.slice (some ⟨gn,0,none⟩) T.nodes.length cap) ns) w wr) (fun v8 _=>(intOf v8+1).toNat)
   case atStart =>
    refine⟨v+1,lp,Nat.le_refl _,by go_num,hset,rfl,(zaq.set _ _ _ _).more fun x hx=>?_⟩
    simp only[List.mem_singleton] at hx
    subst hx
    simp only[fpT,List.mem_cons,List.mem_append]
    exact Or.inr (Or.inr (zmu hi2).2)
   case round =>
    clear hset
    obtain⟨n,l,hn,rfl,hti,hlow,hsv⟩:=hrel
    have h2':a < (setNode T a ⟨l,dw⟩).nodes.length:=by simpa [setNode] using h2
    have hnode:(setNode T a ⟨l,dw⟩).nodes[a]=⟨l,dw⟩:=by simp[setNode]
    have hwd':(setNode T a ⟨l,dw⟩).width=T.width:=rfl
    obtain⟨hc,hfz⟩:=hti.box.rules
    have hlt:=hti.box.lt
    have hfl:=zb2 (hti.leap a h2' hi2)
    have HDONE:Hid (zgc v n l=l->Wrote lo w wr tb (ze3 T a v d) (fpT tb (.slice (some ⟨gn,0,none⟩) T.nodes.length cap) ns) (fpT tb (.slice (some ⟨gn,0,none⟩) T.nodes.length cap) ns)):=fun e=>⟨⟨_,ns,by rw[HP.out,hlow.out,e];exact hti,rfl⟩,hsv,fun b hb=>Or.inl hb⟩
    cases n with
    |zero =>
     clear hti
     go_wp2
     go_end0
     exact⟨rfl,HDONE.out rfl⟩
    |succ m =>
     have e:((m+1:Nat):Int) - 1=(m:Int):=by omega
     rw[e]
     have hm:m < T.width:=by omega
     obtain⟨gn',cap',gl,hnv,hgn,hgl,⟨_,rfl⟩,hn1,hv1⟩:=hti.leapAt a m h2' (by rw[hwd'];exact hm)
     simp only[Value.slice.injEq,Option.some.injEq,Addr.mk.injEq] at hnv
     obtain⟨⟨rfl,_⟩,_,rfl⟩:=hnv
     rw[hnode] at hv1
     rw[hwd'] at hn1
     have hs2:=hti.setLeap a m v h2' hi2 (by rw[hwd'];exact hm)
     rw[hnode,zoh] at hs2
     have HL:Hid (zgc v (m+1) l=if l.getD m 0 > v then zgc v m (l.set m v) else l):=by rw[Hid,zgc]
     have HTI:Hid (zdj lo wr tb (setNode T a ⟨l,dw⟩) (.slice (some ⟨gn,0,none⟩) T.nodes.length cap) ns):=hti
     clear hti h2' hnode e
     have HS2:Hid (zdj lo (wr.setCell ⟨ns[a].1,m,none⟩ (.int .i64 (v:Nat))) tb (setNode T a ⟨l.set m v,dw⟩) (.slice (some ⟨gn,0,none⟩) T.nodes.length cap) ns):=hs2
     clear hs2
     simp only at hv1
     generalize l.getD m 0=x at *
     by_cases hx:x > v
     ·rw[if_pos hx] at HL
      go_wp2
      go_roundw
      case rel =>
       refine⟨m,l.set m v,by omega,by go_num,HS2.out,hlow.trans HL,hsv.trans ((zaq.set _ _ _ _).more fun x hx=>?_)⟩
       simp only[List.mem_singleton] at hx
       subst hx
       simp only[fpT,List.mem_cons,List.mem_append]
       exact Or.inr (Or.inr (zmu hi2).1)
      case measure=>simp[intOf]
     ·rw[if_neg hx] at HL
      go_wp2
      go_end0
      exact⟨rfl,HDONE.out HL.out⟩
  ·have HP:Hid (ze3 T a v d=T):=by unfold ze3;rw[Hid,if_neg (by omega)]
   obtain⟨ao,cap,rfl⟩:=zac h1.nodes
   obtain⟨hc,hfz⟩:=h1.box.rules
   have hlt:=h1.box.lt
   clear h1
   go_enter Tryz.func133,Tryz.ntmps133
   go_wp2
   (try simp only[Exit.inBlock,Exit.then]);refine bodyPost_ret (results_none rfl _ _ _) rfl ?_
   exact⟨rfl,by rw[HP.out];exact⟨hh,zaq.refl _ _,fun b hb=>Or.inl hb⟩⟩
 ·have HP:Hid (ze3 T a v d=T):=by unfold ze3;rw[Hid,if_neg (by omega)]
  obtain⟨ao,cap,rfl⟩:=zac h1.nodes
  obtain⟨hc,hfz⟩:=h1.box.rules
  have hlt:=h1.box.lt
  clear h1
  go_enter Tryz.func133,Tryz.ntmps133
  go_wp2
  (try simp only[Exit.inBlock,Exit.then]);refine bodyPost_ret (results_none rfl _ _ _) rfl ?_
  exact⟨rfl,by rw[HP.out];exact⟨hh,zaq.refl _ _,fun b hb=>Or.inl hb⟩⟩
set_option maxHeartbeats 4000000
theorem Tryz.infoNode:(Tryz.prog.info? 200).map (fun i=>(i.zero,i.size,i.bytes))=some (some (.agg #[.slice none 0 0,.slice none 0 0]),2,48):=by kernel_rfl
section
variable {P:Program} {ops:Array Oper} {o:Oper} {a:Act} {K:Act->World->Prop} {Q:Exit->Act->World->Prop}
theorem zgm{E:Prop}(wO wA:World)(l:List Value)(te:TypeId)(hg:o.guard=none)(s x:Operand)(t:TypeId)
  (ho:o.op=.call { callee:=.builtin .append,args:=#[s,x],argTypes:=#[t,t] })
  (base:Nat) (e:TypeId) (i:TypeInfo) (z:Value) (size bytes:Nat) (ht:P.underlying t=some (.slice e)) (hi:P.info? e=some i) (hz:i.zero=some z)
  (hsize:i.size=size) (hby:i.bytes=bytes) (hzs:z.cells.size=size) (hsz:0 < size)
  (v:Value) (n:Nat) (xs:List Value) (hs:a.eval s=v) (hown:wO.ownsRow base e size v n xs) (hbO:Below wO.heap.size wO wA)
  (b c:Nat) (hx:a.eval x=.slice (some ⟨b,0,none⟩) 1 c) (hb:Box wA b l.toArray te) (hl:l.length=size) (h1:∀ u∈l,u.oneCell'=true)
  (hn:n<=10000000000) (hbytes:bytes<=1000) (hbase:base<=wO.heap.size)
  (h:∀ v' w',w'.ownsRow base e size v' (n+1) (xs++l)->zaq v.ownBlock.toList wO w'->(v'.ownBlock=v.ownBlock∨∃ g,v'.ownBlock=some g/\wO.heap.size<=g)->(∀ k,k < wA.heap.size->some k≠v.ownBlock->w'.heap[k]?=wA.heap[k]?)->wA.heap.size<=w'.heap.size->K (a.put o.dst v') w') :
  if Region.wanted o (yielded ops a.tmps)=true then Oper.wp P o a wA K Q else E:=by
 have hw:Region.wanted o (yielded ops a.tmps)=true:=by simp[Region.wanted,hg]
 rw[if_pos hw]
 have hown':=zaa hown hbO
 have hsz0:=hbO.size
 obtain⟨v',w',hr,h2,hgr,_,hat⟩:=run_append_own_at (P:=P) wA base t o.type e i z size bytes ht hi hz hsize hby hzs hsz v n xs hown' ⟨b,0,none⟩ 1 c l (by omega) (by
  intro j u hj
  rw[Addr.add_lit,Nat.zero_add,hb.rules.1]
  simpa using hj) h1 (by unfold maxLen;omega) (by
  have:(n+1) * bytes<=10000000001 * 1000:=Nat.mul_le_mul (by omega) hbytes
  omega) (by omega)
 unfold Oper.wp execOp
 simp only[ho,resolve,invoke,builtin,Sem.run_bind,Sem.run_pure,Result.andThen_ok,List.map_toArray,List.map_cons,List.map_nil,hs,hx,hr]
 refine h v' w' h2 ⟨hgr.os.trans hbO.os,hgr.tape.trans hbO.tape,hgr.output.trans hbO.output,by have:=hgr.size;omega,fun k hk hm=>?_⟩ ?_ (fun k hk hne=>hgr.block k hk hne) hgr.size
 ·rw[hgr.block k (by omega) (fun e=>hm (by rw[← e];simp))]
  exact hbO.block k hk
 ·rcases hat with h3|h3
  ·exact Or.inl h3
  ·exact Or.inr ⟨_,h3,by omega⟩
end
theorem zn6{W:World}{g n:Nat}{T:TypeId}(h:W.heap[g]?=some (.cells (madeCells #[.int .i64 0] n) T (0,0)))(hg:lo<=g)(hn:n<=maxLen):W.ownsRow lo T 1 (sl g n) n ((List.replicate n 0).map ivN):=by
 refine⟨by simp,Or.inr ⟨g,n,madeCells #[.int .i64 0] n,rfl,hg,h,Nat.le_refl _,hn,by rw[size_madeCells];omega,?_⟩⟩
 apply List.ext_getElem?
 intro i
 by_cases hi:i < n
 ·simp[hi,madeCells,ivN,Nat.mod_one]
 ·simp[List.getElem?_take,hi]
theorem zq1(w:World)(a b c:Obj):((((w.alloc a).alloc b).alloc c).drew).heap[w.heap.size]?=some a/\((((w.alloc a).alloc b).alloc c).drew).heap[w.heap.size+1]?=some b/\((((w.alloc a).alloc b).alloc c).drew).heap[w.heap.size+1+1]?=some c:=by
 refine⟨?_,?_,?_⟩
 ·show(((w.heap.push a).push b).push c)[w.heap.size]?=_
  simp[Array.getElem?_push]
  omega
 ·show(((w.heap.push a).push b).push c)[w.heap.size+1]?=_
  rw[Array.getElem?_push,if_neg (by simp),Array.getElem?_push,if_pos (by simp)]
 ·show(((w.heap.push a).push b).push c)[w.heap.size+1+1]?=_
  rw[Array.getElem?_push,if_pos (by simp)]
theorem zo1(wd:Nat)(ns:List (Nat × Nat))(x:Nat × Nat):zex wd (ns++[x])=zex wd ns++[sl x.1 wd,sl x.2 wd]:=by simp[zex]
theorem zsu(ns:List (Nat × Nat))(x:Nat × Nat):intsOf (ns++[x])=intsOf ns++[x.1,x.2]:=by simp[intsOf]
theorem zdj.grow{w wr w2:World}{tb:Nat}{T:zad}{nv nv':Value}{ns:List (Nat × Nat)}{gl gd:Nat}(h:zdj lo w tb T nv ns)(hb:Below w.heap.size w wr)(hgl:w.heap.size<=gl)(hgd:w.heap.size<=gd)(hne:gl≠gd)
  (h1:wr.ownsRow w.heap.size 3 1 (sl gl T.width) T.width ((List.replicate T.width T.width).map ivN)) (h2:wr.ownsRow w.heap.size 3 1 (sl gd T.width) T.width ((List.replicate T.width 0).map ivN))
  (hs:zaq nv.ownBlock.toList wr w2) (ho:w2.ownsRow lo 200 2 nv' (T.nodes.length+1) (zex T.width ns++[sl gl T.width,sl gd T.width])) (hat:nv'.ownBlock=nv.ownBlock∨∃ g,nv'.ownBlock=some g/\wr.heap.size<=g) (hm:T.nodes.length < 100000000) :
  ∃ fp',Wrote lo w (w2.setCell ⟨tb,2,none⟩ nv') tb (zb7 T) (fpT tb nv ns) fp':=by
 have hlo:lo<=w.heap.size:=by have:=h.low;have:=h.box.lt;omega
 have hbx:=h.box.below hb
 have hnd:=zaa h.nodes hb
 have hbx2:=hbx.save hs (zdr hnd hbx (by decide))
 have hset:=zaq.set w2 tb 2 nv'
 have nt:∀ {b1:Nat} {e:TypeId} {s1:Nat} {v:Value} {n1:Nat} {xs:List Value},w2.ownsRow b1 e s1 v n1 xs->e≠168->∀ b,v.ownBlock=some b->b∉[tb]:=fun ho hT b hvb hm=>zbp ho hbx2 hT hvb (by simpa using hm)
 have two:∀ {b1:Nat} {v:Value} {n1:Nat} {xs:List Value},wr.ownsRow b1 3 1 v n1 xs->(w2.setCell ⟨tb,2,none⟩ nv').ownsRow b1 3 1 v n1 xs:=fun q=>by
  have q2:=zbi q hs (fun b hvb hm=>zi6 q hnd (by decide) hvb (zc5 hm))
  exact zbi q2 hset (nt q2 (by decide))
 have hB2:zaq (fpT tb nv ns) w (w2.setCell ⟨tb,2,none⟩ nv'):=((zaq.of (M:=fpT tb nv ns) hb).newer hs (fun x hx=>Or.inl (by simp only[fpT,List.mem_cons,List.mem_append];exact Or.inr (Or.inl hx)))).newer hset (fun x hx=>Or.inl (by simp at hx;simp[fpT,hx]))
 refine⟨_,⟨nv',ns++[(gl,gd)],⟨h.low,?_,?_,by simp[zb7,h.len],fun i hi hi2=>?_,fun i hi hi2=>?_,?_,h.wide,by simp[zb7];omega,h.deep,h.few⟩,rfl⟩,hB2,fun b hb2=>?_⟩
 ·have hq:=hbx2.set 2 nv';simpa [zb7] using hq
 ·rw[zo1]
  have:=zbi ho hset (nt ho (by decide))
  simpa [zb7] using this
 ·simp[zb7] at hi
  by_cases hlt:i < T.nodes.length
  ·have hi3:i < ns.length:=by rw[h.len];exact hlt
   simp only[zb7,List.getElem_append_left hlt,List.getElem_append_left hi3]
   exact two (zaa (h.leap i hlt hi3) hb)
  ·obtain rfl:i=T.nodes.length:=by omega
   have e:(ns++[(gl,gd)])[T.nodes.length]=(gl,gd):=by simp[← h.len]
   rw[e]
   simp only[zb7,List.getElem_concat_length]
   exact two (zbe h1 hlo)
 ·simp[zb7] at hi
  by_cases hlt:i < T.nodes.length
  ·have hi3:i < ns.length:=by rw[h.len];exact hlt
   simp only[zb7,List.getElem_append_left hlt,List.getElem_append_left hi3]
   exact two (zaa (h.down i hlt hi3) hb)
  ·obtain rfl:i=T.nodes.length:=by omega
   have e:(ns++[(gl,gd)])[T.nodes.length]=(gl,gd):=by simp[← h.len]
   rw[e]
   simp only[zb7,List.getElem_concat_length]
   exact two (zbe h2 hlo)
 ·rw[zsu,List.nodup_append]
  refine⟨h.apart,by simp[hne],fun a ha b hb2 e=>?_⟩
  have:=(h.lt a (by simp only[fpT,List.mem_cons,List.mem_append];exact Or.inr (Or.inr ha))).2
  simp at hb2
  omega
 ·simp only[fpT,List.mem_cons,List.mem_append,zsu] at hb2 ⊢
  rcases hb2 with q|q|q|q
  ·simp[q]
  ·rcases hat with e|⟨g,e,hg⟩
   ·rw[e] at q;simp[q]
   ·rw[e] at q;simp at q;have:=hb.size;right;omega
  ·simp[q]
  ·simp at q;right;omega
theorem z4t(k n x:Nat)(hk:k < n):((List.replicate k x++List.replicate (n - k) 0).map ivN)[k]?=some (.int .i64 (0:Int)):=by
 obtain⟨m,hm⟩:∃ m,n - k=m+1:=⟨n - k - 1,by omega⟩
 rw[hm,List.getElem?_map,List.getElem?_append_right (by simp),List.length_replicate,Nat.sub_self]
 rfl
theorem z1g(k n x:Nat)(hk:k < n):((List.replicate k x++List.replicate (n - k) 0).map ivN).set k (.int .i64 (x:Nat))=(List.replicate (k+1) x++List.replicate (n - (k+1)) 0).map ivN:=by
 obtain⟨m,hm⟩:∃ m,n - k=m+1:=⟨n - k - 1,by omega⟩
 rw[show n - (k+1)=m from by omega,hm,show Value.int .i64 (x:Nat)=ivN x from rfl,← List.map_set,List.set_append_right _ _ (by simp),List.length_replicate,Nat.sub_self,List.replicate_succ' (n:=k),List.append_assoc]
 rfl
def zmr(w wx:World)(wd:Nat)(s:Value):Prop:=∃ nb gl gd,s=.pointer (some ⟨nb,0,none⟩)/\gl≠gd/\w.heap.size<=nb/\Box wx nb #[.slice (some ⟨gl,0,none⟩) wd wd,.slice (some ⟨gd,0,none⟩) wd wd] 200/\wx.ownsRow w.heap.size 3 1 (sl gl wd) wd ((List.replicate wd 0).map ivN)/\wx.ownsRow w.heap.size 3 1 (sl gd wd) wd ((List.replicate wd 0).map ivN)/\Below w.heap.size w wx
theorem zmr.mk'{w wx:World}{wd nb gl gd:Nat}(hbx:Box wx nb #[.slice (some ⟨gl,0,none⟩) wd wd,.slice (some ⟨gd,0,none⟩) wd wd] 200)(hl:wx.heap[gl]?=some (.cells (madeCells #[.int .i64 0] wd) 3 (0,0)))(hd:wx.heap[gd]?=some (.cells (madeCells #[.int .i64 0] wd) 3 (0,0)))(hne:gl≠gd)(hnb:w.heap.size<=nb)(h1:w.heap.size<=gl)(h2:w.heap.size<=gd)(hw:wd<=1000)(hb:Below w.heap.size w wx):zmr w wx wd (.pointer (some ⟨nb,0,none⟩)) :=
 ⟨nb,gl,gd,rfl,hne,hnb,hbx,zn6 hl h1 (by unfold maxLen;omega),zn6 hd h2 (by unfold maxLen;omega),hb⟩
theorem zw2(w:World)(tb:Nat)(T:zad)(fp:List Nat)(h:zat lo w tb T fp)(hm:T.nodes.length < 100000000) :
  Calls Tryz.prog 103 #[.pointer (some ⟨tb,0,none⟩)] w fun e w'=>e=.returned (.int .i64 (T.nodes.length:Nat))/\∃ fp',Wrote lo w w' tb (zb7 T) fp fp':=by
 obtain⟨nv,ns,h1,rfl⟩:=h
 have hwd:=h1.wide
 have hmn:=h1.many
 have hmk:=fun W:World=>run_make_row' (P:=Tryz.prog) (w:=W) 70 3 (.int .i64 0) 8 Tryz.underlying70 Tryz.infoInt rfl .i64 .i64 T.width (by omega) (by omega)
 obtain⟨hc,hfz⟩:=h1.box.rules
 have hlt:=h1.box.lt
 have H1:Hid (zdj lo w tb T nv ns):=h1
 clear h1
 have hc0:w.cell? ⟨tb,0,none⟩=some (.int .i64 (T.width:Nat)):=by simp[hc]
 go_enter Tryz.func103,Tryz.ntmps103
 go_upto_region 1 with fail
 go_cut [3] from 5 to 15 (fun s3 wx=>zmr w wx T.width s3)
 case first =>
  go_region_held3 (fun w'=>w'.cell? ⟨tb,0,none⟩=some (.int .i64 (T.width:Nat))) (exact(Below.cell (w:=w) (p:=⟨tb,0,none⟩) (show Below w.heap.size w _ from(by go_grown)) hlt).trans hc0) (fail)
  all_goals
   go_wp2_with fail
   go_meet
   case rel =>
    apply zmr.mk'
    ·first|exact(zq1 w _ _ _).1|exact(zq1 w _ _ _).2.1|exact(zq1 w _ _ _).2.2
    ·first|exact(zq1 w _ _ _).1|exact(zq1 w _ _ _).2.1|exact(zq1 w _ _ _).2.2
    ·first|exact(zq1 w _ _ _).1|exact(zq1 w _ _ _).2.1|exact(zq1 w _ _ _).2.2
    ·omega
    ·omega
    ·omega
    ·omega
    ·exact hwd
    ·exact(by go_grown)
 case rest =>
  obtain⟨nb,gl,gd,rfl,hne,hnb,hbx,hol,hod,hBc⟩:=hcut
  clear hmk hc0 hc hfz hlt
  obtain⟨hnc,hnf⟩:=hbx.rules
  have hnl:=hbx.lt
  have hbt:=H1.out.box.below hBc
  obtain⟨hc,hfz⟩:=hbt.rules
  have hlt:=hbt.lt
  go_wp2
  clear hnc hnf hnl hc hfz hlt
  go_loopw [19] (fun v19 wr=>∃ k:Nat,k<=T.width/\v19=.int .i64 k/\Box wr nb #[.slice (some ⟨gl,0,none⟩) T.width T.width,.slice (some ⟨gd,0,none⟩) T.width T.width] 200/\Box wr tb #[.int .i64 (T.width:Nat),.int .i64 (T.depth:Nat),nv,.int .i64 (T.count:Nat)] 168/\wr.ownsRow w.heap.size 3 1 (sl gl T.width) T.width ((List.replicate k T.width++List.replicate (T.width - k) 0).map ivN)/\wr.ownsRow w.heap.size 3 1 (sl gd T.width) T.width ((List.replicate T.width 0).map ivN)/\Below w.heap.size w wr) (fun i _=>T.width - (intOf i).toNat)
  case atStart=>exact⟨0,Nat.zero_le _,rfl,hbx,hbt,by simpa using hol,hod,hBc⟩
  case round =>
   clear hbx hol hod hBc hbt
   obtain⟨k,hk,rfl,hbx,hbt,hol,hod,hBc⟩:=hrel
   obtain⟨hnc,hnf⟩:=hbx.rules
   have hnl:=hbx.lt
   obtain⟨hc,hfz⟩:=hbt.rules
   have hlt:=hbt.lt
   by_cases hkl:k < T.width
   ·have hgl:=zdo hol rfl
    have hglw:=zem hol rfl
    have hfl:=zb2 hol
    obtain⟨gl',cap',hv,_,_,hcl⟩:=zas hol (by omega)
    simp only[sl,Value.slice.injEq,Option.some.injEq,Addr.mk.injEq] at hv
    obtain⟨⟨rfl,_⟩,_,hcap⟩:=hv
    clear hcap
    have hcell:=hcl k _ (z4t k T.width T.width hkl)
    have hset:=zcb hol k (by simp;omega) (.int .i64 (T.width:Nat))
    rw[z1g k T.width T.width hkl] at hset
    have hnn:gl≠nb:=zbp hol hbx (by decide) rfl
    have hnt:gl≠tb:=zbp hol hbt (by decide) rfl
    have hod2:=zbi hod (zaq.set wr gl k (.int .i64 (T.width:Nat))) (fun b hb hm=>by simp[sl,Value.ownBlock] at hb hm;omega)
    have hbx2:=hbx.set_ne (Ne.symm hnn) k (.int .i64 (T.width:Nat))
    have hbt2:=hbt.set_ne (Ne.symm hnt) k (.int .i64 (T.width:Nat))
    have hB2:=hBc.setCell (p:=⟨gl,k,none⟩) hglw (.int .i64 (T.width:Nat))
    clear hcl
    go_wp2
    go_region
    all_goals
     go_wp2
     go_roundw
     case rel=>exact⟨k+1,by omega,by go_num,Box.drew hbx2,Box.drew hbt2,zaa hset (Below.refl _ _).drew,zaa hod2 (Below.refl _ _).drew,hB2.drew⟩
     case measure=>simp[intOf];omega
   ·obtain rfl:k=T.width:=by omega
    rw[Nat.sub_self,List.replicate_zero,List.append_nil] at hol
    obtain⟨i0,hi,hz0,hzs,hzb⟩:=info_parts Tryz.infoNode
    obtain⟨ao,cap,rfl⟩:=zac H1.out.nodes
    have hown:=zaa H1.out.nodes hBc
    have hlo:lo<=w.heap.size:=by have:=H1.out.low;have:=H1.out.box.lt;omega
    have hzz:=hBc.size
    go_wp2
    go_region_law (first|(refine zgm wr _ [.slice (some ⟨gl,0,none⟩) T.width T.width,.slice (some ⟨gd,0,none⟩) T.width T.width] 200 rfl (.tmp 35) (.tmp 37) 166 rfl lo 200 i0 _ 2 48 Tryz.underlying166 hi hz0 hzs hzb rfl (by decide) (.slice ao T.nodes.length cap) T.nodes.length (zex T.width ns) (by simp[Act.eval]) hown (by exact(by go_grown)) wr.heap.size 1 (by simp[Act.eval]) (by exact Box.drew (Box.new _ _ _)) rfl (by simp[Value.oneCell']) (by omega) (by omega) (by omega) ?_;intro v' w2 ho3 hS2 hat2 hk2 hz2';obtain⟨ao4,cap4,rfl⟩:=zac ho3;have hb2:=hbt.save hS2 (zdr hown hbt (by decide));obtain⟨hc2,hf2⟩:=hb2.rules;have hl2:=hb2.lt))
    all_goals
     obtain⟨fp',hW⟩:=H1.out.grow hBc (zem hol rfl) (zem hod rfl) hne hol hod hS2 ho3 hat2 hm
     have HW:Hid (Wrote lo w (w2.setCell ⟨tb,2,none⟩ (.slice ao4 (T.nodes.length+1) cap4)) tb (zb7 T) (fpT tb (.slice ao T.nodes.length cap) ns) fp'):=hW
     clear hW
     go_wp2
     go_ret
     exact⟨by simp,fp',HW.out⟩
theorem z02(d:Nat):zbu d<=3:=by unfold zbu;(repeat' split) <;> omega
theorem zrk(w:World)(wd dp:Nat)(hwd:wd<=1000)(hdp:dp<=100000000) :
  Calls Tryz.prog 74 #[.int .i64 wd,.int .i64 dp] w fun e w'=>∃ tb fp,e=.returned (.pointer (some ⟨tb,0,none⟩))/\zat w.heap.size w' tb (zfq wd dp) fp/\Below w.heap.size w w':=by
 have key:∀ a b:Nat,a=za2 wd->b=zbu dp->zdj w.heap.size (w.alloc (.cells #[.int .i64 (a:Nat),.int .i64 (b:Nat),.slice none 0 0,.int .i64 0] 168)) w.heap.size ⟨za2 wd,zbu dp,[],0⟩ (.slice none 0 0) []:=by
  rintro a b rfl rfl
  refine⟨Nat.le_refl _,Box.new _ _ _,World.ownsRow_nil _ _ _ _,rfl,fun i h=>by simp at h,fun i h=>by simp at h,by simp[intsOf],?_,by simp,?_,by simp⟩
  ·simp only[za2];split <;> omega
  ·exact z02 dp
 have HG:Hid (∀ a b:Nat,a=za2 wd->b=zbu dp->Calls Tryz.prog 103 #[.pointer (some ⟨w.heap.size,0,none⟩)] (w.alloc (.cells #[.int .i64 (a:Nat),.int .i64 (b:Nat),.slice none 0 0,.int .i64 0] 168)) fun e w'=>∃ fp,e=.returned (.int .i64 0)/\zat w.heap.size w' w.heap.size (zfq wd dp) fp/\Below w.heap.size w w'):=fun a b ha hb=>by
  refine(zw2 _ _ _ _ ⟨_,_,key a b ha hb,rfl⟩ (by simp)).mono fun e w' ⟨he,fp',hW⟩=>⟨fp',he,hW.trie,?_⟩
  exact((Below.refl w.heap.size w).alloc (Nat.le_refl _) _).trans (hW.save.below (by simp[fpT,intsOf,Value.ownBlock]) (by simp))
 clear key
 by_cases h1:wd < 1
 ·by_cases h2:dp < 1
  ·have e1:1=za2 wd:=by unfold za2;split <;> omega
   have e2:1=zbu dp:=by unfold zbu;(repeat' split) <;> omega
   have H:Hid (Calls Tryz.prog 103 #[.pointer (some ⟨w.heap.size,0,none⟩)] (w.alloc (.cells #[.int .i64 ((1:Nat):Int),.int .i64 ((1:Nat):Int),.slice none 0 0,.int .i64 0] 168)) fun e w'=>∃ fp,e=.returned (.int .i64 0)/\zat w.heap.size w' w.heap.size (zfq wd dp) fp/\Below w.heap.size w w'):=HG.out _ _ e1 e2
   clear e1 e2 HG
   go_enter Tryz.func74,Tryz.ntmps74
   go_wp2_with (first|(go_at_call 103;refine H.out.mono ?_;rintro e w1 ⟨fp,rfl,ht,hb⟩))
   go_ret
   exact⟨_,fp,rfl,ht,hb⟩
  ·by_cases h3:dp > 3
   ·have e1:1=za2 wd:=by unfold za2;split <;> omega
    have e2:3=zbu dp:=by unfold zbu;(repeat' split) <;> omega
    have H:Hid (Calls Tryz.prog 103 #[.pointer (some ⟨w.heap.size,0,none⟩)] (w.alloc (.cells #[.int .i64 ((1:Nat):Int),.int .i64 ((3:Nat):Int),.slice none 0 0,.int .i64 0] 168)) fun e w'=>∃ fp,e=.returned (.int .i64 0)/\zat w.heap.size w' w.heap.size (zfq wd dp) fp/\Below w.heap.size w w'):=HG.out _ _ e1 e2
    clear e1 e2 HG
    go_enter Tryz.func74,Tryz.ntmps74
    go_wp2_with (first|(go_at_call 103;refine H.out.mono ?_;rintro e w1 ⟨fp,rfl,ht,hb⟩))
    go_ret
    exact⟨_,fp,rfl,ht,hb⟩
   ·have e1:1=za2 wd:=by unfold za2;split <;> omega
    have e2:dp=zbu dp:=by unfold zbu;(repeat' split) <;> omega
    have H:Hid (Calls Tryz.prog 103 #[.pointer (some ⟨w.heap.size,0,none⟩)] (w.alloc (.cells #[.int .i64 ((1:Nat):Int),.int .i64 ((dp:Nat):Int),.slice none 0 0,.int .i64 0] 168)) fun e w'=>∃ fp,e=.returned (.int .i64 0)/\zat w.heap.size w' w.heap.size (zfq wd dp) fp/\Below w.heap.size w w'):=HG.out _ _ e1 e2
    clear e1 e2 HG
    go_enter Tryz.func74,Tryz.ntmps74
    go_wp2_with (first|(go_at_call 103;refine H.out.mono ?_;rintro e w1 ⟨fp,rfl,ht,hb⟩))
    go_ret
    exact⟨_,fp,rfl,ht,hb⟩
 ·by_cases h2:dp < 1
  ·have e1:wd=za2 wd:=by unfold za2;split <;> omega
   have e2:1=zbu dp:=by unfold zbu;(repeat' split) <;> omega
   have H:Hid (Calls Tryz.prog 103 #[.pointer (some ⟨w.heap.size,0,none⟩)] (w.alloc (.cells #[.int .i64 ((wd:Nat):Int),.int .i64 ((1:Nat):Int),.slice none 0 0,.int .i64 0] 168)) fun e w'=>∃ fp,e=.returned (.int .i64 0)/\zat w.heap.size w' w.heap.size (zfq wd dp) fp/\Below w.heap.size w w'):=HG.out _ _ e1 e2
   clear e1 e2 HG
   go_enter Tryz.func74,Tryz.ntmps74
   go_wp2_with (first|(go_at_call 103;refine H.out.mono ?_;rintro e w1 ⟨fp,rfl,ht,hb⟩))
   go_ret
   exact⟨_,fp,rfl,ht,hb⟩
  ·by_cases h3:dp > 3
   ·have e1:wd=za2 wd:=by unfold za2;split <;> omega
    have e2:3=zbu dp:=by unfold zbu;(repeat' split) <;> omega
    have H:Hid (Calls Tryz.prog 103 #[.pointer (some ⟨w.heap.size,0,none⟩)] (w.alloc (.cells #[.int .i64 ((wd:Nat):Int),.int .i64 ((3:Nat):Int),.slice none 0 0,.int .i64 0] 168)) fun e w'=>∃ fp,e=.returned (.int .i64 0)/\zat w.heap.size w' w.heap.size (zfq wd dp) fp/\Below w.heap.size w w'):=HG.out _ _ e1 e2
    clear e1 e2 HG
    go_enter Tryz.func74,Tryz.ntmps74
    go_wp2_with (first|(go_at_call 103;refine H.out.mono ?_;rintro e w1 ⟨fp,rfl,ht,hb⟩))
    go_ret
    exact⟨_,fp,rfl,ht,hb⟩
   ·have e1:wd=za2 wd:=by unfold za2;split <;> omega
    have e2:dp=zbu dp:=by unfold zbu;(repeat' split) <;> omega
    have H:Hid (Calls Tryz.prog 103 #[.pointer (some ⟨w.heap.size,0,none⟩)] (w.alloc (.cells #[.int .i64 ((wd:Nat):Int),.int .i64 ((dp:Nat):Int),.slice none 0 0,.int .i64 0] 168)) fun e w'=>∃ fp,e=.returned (.int .i64 0)/\zat w.heap.size w' w.heap.size (zfq wd dp) fp/\Below w.heap.size w w'):=HG.out _ _ e1 e2
    clear e1 e2 HG
    go_enter Tryz.func74,Tryz.ntmps74
    go_wp2_with (first|(go_at_call 103;refine H.out.mono ?_;rintro e w1 ⟨fp,rfl,ht,hb⟩))
    go_ret
    exact⟨_,fp,rfl,ht,hb⟩
end Go.Proofs.YteampbddflhngabGreat
