import Derived.Test.YteampbddflhngabGreatJ09
import Derived.Deep.RegionHeld3
import Derived.Deep.CutRange

namespace Go.Proofs.YteampbddflhngabGreat
set_option maxRecDepth 100000
set_option maxHeartbeats 4000000
open Go.RowKit
variable {lo:Nat}
theorem Tryz.infoNode:(Tryz.prog.info? 200).map (fun i=>(i.zero,i.size,i.bytes))=some (some (.agg #[.slice none 0 0,.slice none 0 0]),2,48):=by kernel_rfl
section
variable {P:Program} {ops:Array Oper} {o:Oper} {a:Act} {K:Act->World->Prop} {Q:Exit->Act->World->Prop}
theorem zgk{E:Prop}(wO wA:World)(l:List Value)(te:TypeId)(hg:o.guard=none)(s x:Operand)(t:TypeId)
  (ho:o.op=.call { callee:=.builtin .append,args:=#[s,x],argTypes:=#[t,t] })
  (base:Nat) (e:TypeId) (i:TypeInfo) (z:Value) (size bytes:Nat) (ht:P.underlying t=some (.slice e)) (hi:P.info? e=some i) (hz:i.zero=some z)
  (hsize:i.size=size) (hby:i.bytes=bytes) (hzs:z.cells.size=size) (hsz:0 < size)
  (v:Value) (n:Nat) (xs:List Value) (hs:a.eval s=v) (hown:wO.ownsRow base e size v n xs) (hbO:Below wO.heap.size wO wA)
  (b c:Nat) (hx:a.eval x=.slice (some ⟨b,0,none⟩) 1 c) (hb:Box wA b l.toArray te) (hl:l.length=size) (h1:∀ u∈l,u.oneCell'=true)
  (hn:n<=10000000000) (hbytes:bytes<=1000) (hbase:base<=wO.heap.size)
  (h:∀ v' w',w'.ownsRow base e size v' (n+1) (xs++l)->zao v.ownBlock.toList wO w'->(v'.ownBlock=v.ownBlock∨∃ g,v'.ownBlock=some g/\wO.heap.size<=g)->(∀ k,k < wA.heap.size->some k≠v.ownBlock->w'.heap[k]?=wA.heap[k]?)->wA.heap.size<=w'.heap.size->K (a.put o.dst v') w') :
  if Region.wanted o (yielded ops a.tmps)=true then Oper.wp P o a wA K Q else E:=by
 have hw:Region.wanted o (yielded ops a.tmps)=true:=by simp[Region.wanted,hg]
 rw[if_pos hw]
 have hown':=zaa hown hbO
 have hsz0:=hbO.size
 obtain⟨v',w',hr,h2,hgr,_,hat⟩:=run_append_own_at (P:=P) wA base t o.type e i z size bytes ht hi hz hsize hby hzs hsz v n xs hown' ⟨b,0,none⟩ 1 c l (by omega) (by
  intro j u hj
  rw[Addr.add_lit,Nat.zero_add,hb.rules.1]
  simpa using hj) h1 (by unfold maxLen;omega) (by
  have:(n+1) * bytes<=10000000001 * 1000:=Nat.mul_le_mul (by omega) hbytes
  omega) (by omega)
 unfold Oper.wp execOp
 simp only[ho,resolve,invoke,builtin,Sem.run_bind,Sem.run_pure,Result.andThen_ok,List.map_toArray,List.map_cons,List.map_nil,hs,hx,hr]
 refine h v' w' h2 ⟨hgr.os.trans hbO.os,hgr.tape.trans hbO.tape,hgr.output.trans hbO.output,by have:=hgr.size;omega,fun k hk hm=>?_⟩ ?_ (fun k hk hne=>hgr.block k hk hne) hgr.size
 ·rw[hgr.block k (by omega) (fun e=>hm (by rw[← e];simp))]
  exact hbO.block k hk
 ·rcases hat with h3|h3
  ·exact Or.inl h3
  ·exact Or.inr ⟨_,h3,by omega⟩
end
theorem zns{W:World}{g n:Nat}{T:TypeId}(h:W.heap[g]?=some (.cells (madeCells #[.int .i64 0] n) T (0,0)))(hg:lo<=g)(hn:n<=maxLen):W.ownsRow lo T 1 (sl g n) n ((List.replicate n 0).map ivN):=by
 refine⟨by simp,Or.inr ⟨g,n,madeCells #[.int .i64 0] n,rfl,hg,h,Nat.le_refl _,hn,by rw[size_madeCells];omega,?_⟩⟩
 apply List.ext_getElem?
 intro i
 by_cases hi:i < n
 ·simp[hi,madeCells,ivN,Nat.mod_one]
 ·simp[List.getElem?_take,hi]
theorem zqp(w:World)(a b c:Obj):((((w.alloc a).alloc b).alloc c).drew).heap[w.heap.size]?=some a/\((((w.alloc a).alloc b).alloc c).drew).heap[w.heap.size+1]?=some b/\((((w.alloc a).alloc b).alloc c).drew).heap[w.heap.size+1+1]?=some c:=by
 refine⟨?_,?_,?_⟩
 ·show(((w.heap.push a).push b).push c)[w.heap.size]?=_
  simp[Array.getElem?_push]
  omega
 ·show(((w.heap.push a).push b).push c)[w.heap.size+1]?=_
  rw[Array.getElem?_push,if_neg (by simp),Array.getElem?_push,if_pos (by simp)]
 ·show(((w.heap.push a).push b).push c)[w.heap.size+1+1]?=_
  rw[Array.getElem?_push,if_pos (by simp)]
theorem zoo(wd:Nat)(ns:List (Nat × Nat))(x:Nat × Nat):zet wd (ns++[x])=zet wd ns++[sl x.1 wd,sl x.2 wd]:=by simp[zet]
theorem zsi(ns:List (Nat × Nat))(x:Nat × Nat):intsOf (ns++[x])=intsOf ns++[x.1,x.2]:=by simp[intsOf]
theorem zdd.grow{w wr w2:World}{tb:Nat}{T:zad}{nv nv':Value}{ns:List (Nat × Nat)}{gl gd:Nat}(h:zdd lo w tb T nv ns)(hb:Below w.heap.size w wr)(hgl:w.heap.size<=gl)(hgd:w.heap.size<=gd)(hne:gl≠gd)
  (h1:wr.ownsRow w.heap.size 3 1 (sl gl T.width) T.width ((List.replicate T.width T.width).map ivN)) (h2:wr.ownsRow w.heap.size 3 1 (sl gd T.width) T.width ((List.replicate T.width 0).map ivN))
  (hs:zao nv.ownBlock.toList wr w2) (ho:w2.ownsRow lo 200 2 nv' (T.nodes.length+1) (zet T.width ns++[sl gl T.width,sl gd T.width])) (hat:nv'.ownBlock=nv.ownBlock∨∃ g,nv'.ownBlock=some g/\wr.heap.size<=g) (hm:T.nodes.length < 100000000) :
  ∃ fp',Wrote lo w (w2.setCell ⟨tb,2,none⟩ nv') tb (zb3 T) (fpT tb nv ns) fp':=by
 have hlo:lo<=w.heap.size:=by have:=h.low;have:=h.box.lt;omega
 have hbx:=h.box.below hb
 have hnd:=zaa h.nodes hb
 have hbx2:=hbx.save hs (zdm hnd hbx (by decide))
 have hset:=zao.set w2 tb 2 nv'
 have nt:∀ {b1:Nat} {e:TypeId} {s1:Nat} {v:Value} {n1:Nat} {xs:List Value},w2.ownsRow b1 e s1 v n1 xs->e≠168->∀ b,v.ownBlock=some b->b∉[tb]:=fun ho hT b hvb hm=>zbk ho hbx2 hT hvb (by simpa using hm)
 have two:∀ {b1:Nat} {v:Value} {n1:Nat} {xs:List Value},wr.ownsRow b1 3 1 v n1 xs->(w2.setCell ⟨tb,2,none⟩ nv').ownsRow b1 3 1 v n1 xs:=fun q=>by
  have q2:=zbf q hs (fun b hvb hm=>zi1 q hnd (by decide) hvb (zc1 hm))
  exact zbf q2 hset (nt q2 (by decide))
 have hB2:zao (fpT tb nv ns) w (w2.setCell ⟨tb,2,none⟩ nv'):=((zao.of (M:=fpT tb nv ns) hb).newer hs (fun x hx=>Or.inl (by simp only[fpT,List.mem_cons,List.mem_append];exact Or.inr (Or.inl hx)))).newer hset (fun x hx=>Or.inl (by simp at hx;simp[fpT,hx]))
 refine⟨_,⟨nv',ns++[(gl,gd)],⟨h.low,?_,?_,by simp[zb3,h.len],fun i hi hi2=>?_,fun i hi hi2=>?_,?_,h.wide,by simp[zb3];omega,h.deep,h.few⟩,rfl⟩,hB2,fun b hb2=>?_⟩
 ·have hq:=hbx2.set 2 nv';simpa [zb3] using hq
 ·rw[zoo]
  have:=zbf ho hset (nt ho (by decide))
  simpa [zb3] using this
 ·simp[zb3] at hi
  by_cases hlt:i < T.nodes.length
  ·have hi3:i < ns.length:=by rw[h.len];exact hlt
   simp only[zb3,List.getElem_append_left hlt,List.getElem_append_left hi3]
   exact two (zaa (h.leap i hlt hi3) hb)
  ·obtain rfl:i=T.nodes.length:=by omega
   have e:(ns++[(gl,gd)])[T.nodes.length]=(gl,gd):=by simp[← h.len]
   rw[e]
   simp only[zb3,List.getElem_concat_length]
   exact two (zbb h1 hlo)
 ·simp[zb3] at hi
  by_cases hlt:i < T.nodes.length
  ·have hi3:i < ns.length:=by rw[h.len];exact hlt
   simp only[zb3,List.getElem_append_left hlt,List.getElem_append_left hi3]
   exact two (zaa (h.down i hlt hi3) hb)
  ·obtain rfl:i=T.nodes.length:=by omega
   have e:(ns++[(gl,gd)])[T.nodes.length]=(gl,gd):=by simp[← h.len]
   rw[e]
   simp only[zb3,List.getElem_concat_length]
   exact two (zbb h2 hlo)
 ·rw[zsi,List.nodup_append]
  refine⟨h.apart,by simp[hne],fun a ha b hb2 e=>?_⟩
  have:=(h.lt a (by simp only[fpT,List.mem_cons,List.mem_append];exact Or.inr (Or.inr ha))).2
  simp at hb2
  omega
 ·simp only[fpT,List.mem_cons,List.mem_append,zsi] at hb2 ⊢
  rcases hb2 with q|q|q|q
  ·simp[q]
  ·rcases hat with e|⟨g,e,hg⟩
   ·rw[e] at q;simp[q]
   ·rw[e] at q;simp at q;have:=hb.size;right;omega
  ·simp[q]
  ·simp at q;right;omega
theorem z3x(k n x:Nat)(hk:k < n):((List.replicate k x++List.replicate (n - k) 0).map ivN)[k]?=some (.int .i64 (0:Int)):=by
 obtain⟨m,hm⟩:∃ m,n - k=m+1:=⟨n - k - 1,by omega⟩
 rw[hm,List.getElem?_map,List.getElem?_append_right (by simp),List.length_replicate,Nat.sub_self]
 rfl
theorem z0u(k n x:Nat)(hk:k < n):((List.replicate k x++List.replicate (n - k) 0).map ivN).set k (.int .i64 (x:Nat))=(List.replicate (k+1) x++List.replicate (n - (k+1)) 0).map ivN:=by
 obtain⟨m,hm⟩:∃ m,n - k=m+1:=⟨n - k - 1,by omega⟩
 rw[show n - (k+1)=m from by omega,hm,show Value.int .i64 (x:Nat)=ivN x from rfl,← List.map_set,List.set_append_right _ _ (by simp),List.length_replicate,Nat.sub_self,List.replicate_succ' (n:=k),List.append_assoc]
 rfl
def zmf(w wx:World)(wd:Nat)(s:Value):Prop:=∃ nb gl gd,s=.pointer (some ⟨nb,0,none⟩)/\gl≠gd/\w.heap.size<=nb/\Box wx nb #[.slice (some ⟨gl,0,none⟩) wd wd,.slice (some ⟨gd,0,none⟩) wd wd] 200/\wx.ownsRow w.heap.size 3 1 (sl gl wd) wd ((List.replicate wd 0).map ivN)/\wx.ownsRow w.heap.size 3 1 (sl gd wd) wd ((List.replicate wd 0).map ivN)/\Below w.heap.size w wx
theorem zmf.mk'{w wx:World}{wd nb gl gd:Nat}(hbx:Box wx nb #[.slice (some ⟨gl,0,none⟩) wd wd,.slice (some ⟨gd,0,none⟩) wd wd] 200)(hl:wx.heap[gl]?=some (.cells (madeCells #[.int .i64 0] wd) 3 (0,0)))(hd:wx.heap[gd]?=some (.cells (madeCells #[.int .i64 0] wd) 3 (0,0)))(hne:gl≠gd)(hnb:w.heap.size<=nb)(h1:w.heap.size<=gl)(h2:w.heap.size<=gd)(hw:wd<=1000)(hb:Below w.heap.size w wx):zmf w wx wd (.pointer (some ⟨nb,0,none⟩)) :=
 ⟨nb,gl,gd,rfl,hne,hnb,hbx,zns hl h1 (by unfold maxLen;omega),zns hd h2 (by unfold maxLen;omega),hb⟩
theorem zwk(w:World)(tb:Nat)(T:zad)(fp:List Nat)(h:zar lo w tb T fp)(hm:T.nodes.length < 100000000) :
  Calls Tryz.prog 103 #[.pointer (some ⟨tb,0,none⟩)] w fun e w'=>e=.returned (.int .i64 (T.nodes.length:Nat))/\∃ fp',Wrote lo w w' tb (zb3 T) fp fp':=by
 obtain⟨nv,ns,h1,rfl⟩:=h
 have hwd:=h1.wide
 have hmn:=h1.many
 have hmk:=fun W:World=>run_make_row' (P:=Tryz.prog) (w:=W) 70 3 (.int .i64 0) 8 Tryz.underlying70 Tryz.infoInt rfl .i64 .i64 T.width (by omega) (by omega)
 obtain⟨hc,hfz⟩:=h1.box.rules
 have hlt:=h1.box.lt
 have H1:Hid (zdd lo w tb T nv ns):=h1
 clear h1
 have hc0:w.cell? ⟨tb,0,none⟩=some (.int .i64 (T.width:Nat)):=by simp[hc]
 go_enter Tryz.func103,Tryz.ntmps103
 go_upto_region 1 with fail
 go_cut [3] from 5 to 15 (fun s3 wx=>zmf w wx T.width s3)
 case first =>
  go_region_held3 (fun w'=>w'.cell? ⟨tb,0,none⟩=some (.int .i64 (T.width:Nat))) (exact(Below.cell (w:=w) (p:=⟨tb,0,none⟩) (show Below w.heap.size w _ from(by go_grown)) hlt).trans hc0) (fail)
  all_goals
   go_wp2_with fail
   go_meet
   case rel =>
    apply zmf.mk'
    ·first|exact(zqp w _ _ _).1|exact(zqp w _ _ _).2.1|exact(zqp w _ _ _).2.2
    ·first|exact(zqp w _ _ _).1|exact(zqp w _ _ _).2.1|exact(zqp w _ _ _).2.2
    ·first|exact(zqp w _ _ _).1|exact(zqp w _ _ _).2.1|exact(zqp w _ _ _).2.2
    ·omega
    ·omega
    ·omega
    ·omega
    ·exact hwd
    ·exact(by go_grown)
 case rest =>
  obtain⟨nb,gl,gd,rfl,hne,hnb,hbx,hol,hod,hBc⟩:=hcut
  clear hmk hc0 hc hfz hlt
  obtain⟨hnc,hnf⟩:=hbx.rules
  have hnl:=hbx.lt
  have hbt:=H1.out.box.below hBc
  obtain⟨hc,hfz⟩:=hbt.rules
  have hlt:=hbt.lt
  go_wp2
  clear hnc hnf hnl hc hfz hlt
  go_loopw [19] (fun v19 wr=>∃ k:Nat,k<=T.width/\v19=.int .i64 k/\Box wr nb #[.slice (some ⟨gl,0,none⟩) T.width T.width,.slice (some ⟨gd,0,none⟩) T.width T.width] 200/\Box wr tb #[.int .i64 (T.width:Nat),.int .i64 (T.depth:Nat),nv,.int .i64 (T.count:Nat)] 168/\wr.ownsRow w.heap.size 3 1 (sl gl T.width) T.width ((List.replicate k T.width++List.replicate (T.width - k) 0).map ivN)/\wr.ownsRow w.heap.size 3 1 (sl gd T.width) T.width ((List.replicate T.width 0).map ivN)/\Below w.heap.size w wr) (fun i _=>T.width - (intOf i).toNat)
  case atStart=>exact⟨0,Nat.zero_le _,rfl,hbx,hbt,by simpa using hol,hod,hBc⟩
  case round =>
   clear hbx hol hod hBc hbt
   obtain⟨k,hk,rfl,hbx,hbt,hol,hod,hBc⟩:=hrel
   obtain⟨hnc,hnf⟩:=hbx.rules
   have hnl:=hbx.lt
   obtain⟨hc,hfz⟩:=hbt.rules
   have hlt:=hbt.lt
   by_cases hkl:k < T.width
   ·have hgl:=zdk hol rfl
    have hglw:=zej hol rfl
    have hfl:=zby hol
    obtain⟨gl',cap',hv,_,_,hcl⟩:=zas hol (by omega)
    simp only[sl,Value.slice.injEq,Option.some.injEq,Addr.mk.injEq] at hv
    obtain⟨⟨rfl,_⟩,_,hcap⟩:=hv
    clear hcap
    have hcell:=hcl k _ (z3x k T.width T.width hkl)
    have hset:=zb7 hol k (by simp;omega) (.int .i64 (T.width:Nat))
    rw[z0u k T.width T.width hkl] at hset
    have hnn:gl≠nb:=zbk hol hbx (by decide) rfl
    have hnt:gl≠tb:=zbk hol hbt (by decide) rfl
    have hod2:=zbf hod (zao.set wr gl k (.int .i64 (T.width:Nat))) (fun b hb hm=>by simp[sl,Value.ownBlock] at hb hm;omega)
    have hbx2:=hbx.set_ne (Ne.symm hnn) k (.int .i64 (T.width:Nat))
    have hbt2:=hbt.set_ne (Ne.symm hnt) k (.int .i64 (T.width:Nat))
    have hB2:=hBc.setCell (p:=⟨gl,k,none⟩) hglw (.int .i64 (T.width:Nat))
    clear hcl
    go_wp2
    go_region
    all_goals
     go_wp2
     go_roundw
     case rel=>exact⟨k+1,by omega,by go_num,Box.drew hbx2,Box.drew hbt2,zaa hset (Below.refl _ _).drew,zaa hod2 (Below.refl _ _).drew,hB2.drew⟩
     case measure=>simp[intOf];omega
   ·obtain rfl:k=T.width:=by omega
    rw[Nat.sub_self,List.replicate_zero,List.append_nil] at hol
    obtain⟨i0,hi,hz0,hzs,hzb⟩:=info_parts Tryz.infoNode
    obtain⟨ao,cap,rfl⟩:=zab H1.out.nodes
    have hown:=zaa H1.out.nodes hBc
    have hlo:lo<=w.heap.size:=by have:=H1.out.low;have:=H1.out.box.lt;omega
    have hzz:=hBc.size
    go_wp2
    go_region_law (first|(refine zgk wr _ [.slice (some ⟨gl,0,none⟩) T.width T.width,.slice (some ⟨gd,0,none⟩) T.width T.width] 200 rfl (.tmp 35) (.tmp 37) 166 rfl lo 200 i0 _ 2 48 Tryz.underlying166 hi hz0 hzs hzb rfl (by decide) (.slice ao T.nodes.length cap) T.nodes.length (zet T.width ns) (by simp[Act.eval]) hown (by exact(by go_grown)) wr.heap.size 1 (by simp[Act.eval]) (by exact Box.drew (Box.new _ _ _)) rfl (by simp[Value.oneCell']) (by omega) (by omega) (by omega) ?_;intro v' w2 ho3 hS2 hat2 hk2 hz2';obtain⟨ao4,cap4,rfl⟩:=zab ho3;have hb2:=hbt.save hS2 (zdm hown hbt (by decide));obtain⟨hc2,hf2⟩:=hb2.rules;have hl2:=hb2.lt))
    all_goals
     obtain⟨fp',hW⟩:=H1.out.grow hBc (zej hol rfl) (zej hod rfl) hne hol hod hS2 ho3 hat2 hm
     have HW:Hid (Wrote lo w (w2.setCell ⟨tb,2,none⟩ (.slice ao4 (T.nodes.length+1) cap4)) tb (zb3 T) (fpT tb (.slice ao T.nodes.length cap) ns) fp'):=hW
     clear hW
     go_wp2
     go_ret
     exact⟨by simp,fp',HW.out⟩
theorem z0i(d:Nat):zbp d<=3:=by unfold zbp;(repeat' split) <;> omega
theorem zq9(w:World)(wd dp:Nat)(hwd:wd<=1000)(hdp:dp<=100000000) :
  Calls Tryz.prog 74 #[.int .i64 wd,.int .i64 dp] w fun e w'=>∃ tb fp,e=.returned (.pointer (some ⟨tb,0,none⟩))/\zar w.heap.size w' tb (zfp wd dp) fp/\Below w.heap.size w w':=by
 have key:∀ a b:Nat,a=za1 wd->b=zbp dp->zdd w.heap.size (w.alloc (.cells #[.int .i64 (a:Nat),.int .i64 (b:Nat),.slice none 0 0,.int .i64 0] 168)) w.heap.size ⟨za1 wd,zbp dp,[],0⟩ (.slice none 0 0) []:=by
  rintro a b rfl rfl
  refine⟨Nat.le_refl _,Box.new _ _ _,World.ownsRow_nil _ _ _ _,rfl,fun i h=>by simp at h,fun i h=>by simp at h,by simp[intsOf],?_,by simp,?_,by simp⟩
  ·simp only[za1];split <;> omega
  ·exact z0i dp
 have HG:Hid (∀ a b:Nat,a=za1 wd->b=zbp dp->Calls Tryz.prog 103 #[.pointer (some ⟨w.heap.size,0,none⟩)] (w.alloc (.cells #[.int .i64 (a:Nat),.int .i64 (b:Nat),.slice none 0 0,.int .i64 0] 168)) fun e w'=>∃ fp,e=.returned (.int .i64 0)/\zar w.heap.size w' w.heap.size (zfp wd dp) fp/\Below w.heap.size w w'):=fun a b ha hb=>by
  refine(zwk _ _ _ _ ⟨_,_,key a b ha hb,rfl⟩ (by simp)).mono fun e w' ⟨he,fp',hW⟩=>⟨fp',he,hW.trie,?_⟩
  exact((Below.refl w.heap.size w).alloc (Nat.le_refl _) _).trans (hW.save.below (by simp[fpT,intsOf,Value.ownBlock]) (by simp))
 clear key
 by_cases h1:wd < 1
 ·by_cases h2:dp < 1
  ·have e1:1=za1 wd:=by unfold za1;split <;> omega
   have e2:1=zbp dp:=by unfold zbp;(repeat' split) <;> omega
   have H:Hid (Calls Tryz.prog 103 #[.pointer (some ⟨w.heap.size,0,none⟩)] (w.alloc (.cells #[.int .i64 ((1:Nat):Int),.int .i64 ((1:Nat):Int),.slice none 0 0,.int .i64 0] 168)) fun e w'=>∃ fp,e=.returned (.int .i64 0)/\zar w.heap.size w' w.heap.size (zfp wd dp) fp/\Below w.heap.size w w'):=HG.out _ _ e1 e2
   clear e1 e2 HG
   go_enter Tryz.func74,Tryz.ntmps74
   go_wp2_with (first|(go_at_call 103;refine H.out.mono ?_;rintro e w1 ⟨fp,rfl,ht,hb⟩))
   go_ret
   exact⟨_,fp,rfl,ht,hb⟩
  ·by_cases h3:dp > 3
   ·have e1:1=za1 wd:=by unfold za1;split <;> omega
    have e2:3=zbp dp:=by unfold zbp;(repeat' split) <;> omega
    have H:Hid (Calls Tryz.prog 103 #[.pointer (some ⟨w.heap.size,0,none⟩)] (w.alloc (.cells #[.int .i64 ((1:Nat):Int),.int .i64 ((3:Nat):Int),.slice none 0 0,.int .i64 0] 168)) fun e w'=>∃ fp,e=.returned (.int .i64 0)/\zar w.heap.size w' w.heap.size (zfp wd dp) fp/\Below w.heap.size w w'):=HG.out _ _ e1 e2
    clear e1 e2 HG
    go_enter Tryz.func74,Tryz.ntmps74
    go_wp2_with (first|(go_at_call 103;refine H.out.mono ?_;rintro e w1 ⟨fp,rfl,ht,hb⟩))
    go_ret
    exact⟨_,fp,rfl,ht,hb⟩
   ·have e1:1=za1 wd:=by unfold za1;split <;> omega
    have e2:dp=zbp dp:=by unfold zbp;(repeat' split) <;> omega
    have H:Hid (Calls Tryz.prog 103 #[.pointer (some ⟨w.heap.size,0,none⟩)] (w.alloc (.cells #[.int .i64 ((1:Nat):Int),.int .i64 ((dp:Nat):Int),.slice none 0 0,.int .i64 0] 168)) fun e w'=>∃ fp,e=.returned (.int .i64 0)/\zar w.heap.size w' w.heap.size (zfp wd dp) fp/\Below w.heap.size w w'):=HG.out _ _ e1 e2
    clear e1 e2 HG
    go_enter Tryz.func74,Tryz.ntmps74
    go_wp2_with (first|(go_at_call 103;refine H.out.mono ?_;rintro e w1 ⟨fp,rfl,ht,hb⟩))
    go_ret
    exact⟨_,fp,rfl,ht,hb⟩
 ·by_cases h2:dp < 1
  ·have e1:wd=za1 wd:=by unfold za1;split <;> omega
   have e2:1=zbp dp:=by unfold zbp;(repeat' split) <;> omega
   have H:Hid (Calls Tryz.prog 103 #[.pointer (some ⟨w.heap.size,0,none⟩)] (w.alloc (.cells #[.int .i64 ((wd:Nat):Int),.int .i64 ((1:Nat):Int),.slice none 0 0,.int .i64 0] 168)) fun e w'=>∃ fp,e=.returned (.int .i64 0)/\zar w.heap.size w' w.heap.size (zfp wd dp) fp/\Below w.heap.size w w'):=HG.out _ _ e1 e2
   clear e1 e2 HG
   go_enter Tryz.func74,Tryz.ntmps74
   go_wp2_with (first|(go_at_call 103;refine H.out.mono ?_;rintro e w1 ⟨fp,rfl,ht,hb⟩))
   go_ret
   exact⟨_,fp,rfl,ht,hb⟩
  ·by_cases h3:dp > 3
   ·have e1:wd=za1 wd:=by unfold za1;split <;> omega
    have e2:3=zbp dp:=by unfold zbp;(repeat' split) <;> omega
    have H:Hid (Calls Tryz.prog 103 #[.pointer (some ⟨w.heap.size,0,none⟩)] (w.alloc (.cells #[.int .i64 ((wd:Nat):Int),.int .i64 ((3:Nat):Int),.slice none 0 0,.int .i64 0] 168)) fun e w'=>∃ fp,e=.returned (.int .i64 0)/\zar w.heap.size w' w.heap.size (zfp wd dp) fp/\Below w.heap.size w w'):=HG.out _ _ e1 e2
    clear e1 e2 HG
    go_enter Tryz.func74,Tryz.ntmps74
    go_wp2_with (first|(go_at_call 103;refine H.out.mono ?_;rintro e w1 ⟨fp,rfl,ht,hb⟩))
    go_ret
    exact⟨_,fp,rfl,ht,hb⟩
   ·have e1:wd=za1 wd:=by unfold za1;split <;> omega
    have e2:dp=zbp dp:=by unfold zbp;(repeat' split) <;> omega
    have H:Hid (Calls Tryz.prog 103 #[.pointer (some ⟨w.heap.size,0,none⟩)] (w.alloc (.cells #[.int .i64 ((wd:Nat):Int),.int .i64 ((dp:Nat):Int),.slice none 0 0,.int .i64 0] 168)) fun e w'=>∃ fp,e=.returned (.int .i64 0)/\zar w.heap.size w' w.heap.size (zfp wd dp) fp/\Below w.heap.size w w'):=HG.out _ _ e1 e2
    clear e1 e2 HG
    go_enter Tryz.func74,Tryz.ntmps74
    go_wp2_with (first|(go_at_call 103;refine H.out.mono ?_;rintro e w1 ⟨fp,rfl,ht,hb⟩))
    go_ret
    exact⟨_,fp,rfl,ht,hb⟩
set_option maxHeartbeats 2000000
theorem Tryz.row0(x y z:Value)(w:World):(Instr.index 116 (.agg #[x,y,z]) (.int .i64 0)).run Tryz.prog w=.ok x w:=by kernel_rfl
theorem Tryz.row1(x y z:Value)(w:World):(Instr.index 116 (.agg #[x,y,z]) (.int .i64 1)).run Tryz.prog w=.ok y w:=by kernel_rfl
theorem Tryz.row2(x y z:Value)(w:World):(Instr.index 116 (.agg #[x,y,z]) (.int .i64 2)).run Tryz.prog w=.ok z w:=by kernel_rfl
theorem Wrote.trans{w w1 w2:World}{tb:Nat}{T1 T2:zad}{fp fp1 fp2:List Nat}(h:Wrote lo w w1 tb T1 fp fp1)(k:Wrote lo w1 w2 tb T2 fp1 fp2):Wrote lo w w2 tb T2 fp fp2 :=
 ⟨k.trie,h.save.newer k.save h.fresh,fun b hb=>(k.fresh b hb).elim (h.fresh b) fun q=>Or.inr (Nat.le_trans h.save.size q)⟩
theorem Wrote.refl{w:World}{tb:Nat}{T:zad}{fp:List Nat}(h:zar lo w tb T fp):Wrote lo w w tb T fp fp:=⟨h,zao.refl _ _,fun _ hb=>Or.inl hb⟩
theorem Wrote.below{w w1:World}{tb:Nat}{T:zad}{fp:List Nat}(h:zar lo w tb T fp)(hb:Below w.heap.size w w1):Wrote lo w w1 tb T fp fp:=⟨h.below hb,zao.of hb,fun _ hb=>Or.inl hb⟩
theorem zpw(T:zad)(a v d:Nat):(zey T a v d).nodes.length=T.nodes.length/\(zey T a v d).count=T.count/\(zey T a v d).depth=T.depth/\(zey T a v d).width=T.width:=by
 unfold zey;split <;> simp
theorem zkd(T:zad)(a v:Nat):(zcm T a v).1.nodes.length<=T.nodes.length+1/\(zcm T a v).1.count=T.count/\(zcm T a v).1.depth=T.depth/\(zcm T a v).1.width=T.width:=by
 unfold zcm
 split
 ·simp
 ·obtain⟨h1,h2,h3,h4⟩:=zpw (zb3 T) a v T.nodes.length
  simp only[h1,h2,h3,h4]
  simp[zb3]
theorem zoy(w:World)(tb:Nat)(T:zad)(fp:List Nat)(a v:Nat)(h:zar lo w tb T fp)(hm:T.nodes.length < 100000000) :
  Calls Tryz.prog 124 #[.pointer (some ⟨tb,0,none⟩),.int .i64 a,.int .i64 v] w fun e w'=>e=.returned (.int .i64 ((zcm T a v).2:Nat))/\∃ fp',Wrote lo w w' tb (zcm T a v).1 fp fp':=by
 have HD:Hid (Calls Tryz.prog 82 #[.pointer (some ⟨tb,0,none⟩),.int .i64 a,.int .i64 v] w fun e w'=>e=.returned (zof (zaw T a v))/\w'=w):=zhv w tb T fp a v h
 cases hd:zaw T a v with
 |some b =>
  have HE:Hid (zcm T a v=(T,b)):=by unfold zcm;rw[Hid,hd]
  rw[hd] at HD
  simp only[zof,Option.getD_some,Option.isSome_some] at HD
  clear hd
  have HT:Hid (zar lo w tb T fp):=h
  clear h
  go_enter Tryz.func124,Tryz.ntmps124
  go_wp2_with (first|(go_at_call 82;refine HD.out.mono ?_;rintro e w' ⟨rfl,hww⟩;obtain rfl:=hww.symm))
  go_ret
  exact⟨by rw[HE.out];rfl,fp,by rw[HE.out];exact Wrote.refl HT.out⟩
 |none =>
  have HE:Hid (zcm T a v=(zey (zb3 T) a v T.nodes.length,T.nodes.length)):=by unfold zcm;rw[Hid,hd]
  rw[hd] at HD
  simp only[zof,Option.getD_none,Option.isSome_none] at HD
  clear hd
  have HG:Hid (Calls Tryz.prog 103 #[.pointer (some ⟨tb,0,none⟩)] w fun e w'=>e=.returned (.int .i64 (T.nodes.length:Nat))/\∃ fp',Wrote lo w w' tb (zb3 T) fp fp'):=zwk w tb T fp h hm
  clear h
  go_enter Tryz.func124,Tryz.ntmps124
  go_wp2_with (first|(go_at_call 82;refine HD.out.mono ?_;rintro e w' ⟨rfl,hww⟩;obtain rfl:=hww.symm)|(go_at_call 103;refine HG.out.mono ?_;rintro e w1 ⟨rfl,fp1,hw1⟩;have HW1:Hid (Wrote lo w w1 tb (zb3 T) fp fp1):=hw1;clear hw1)|(go_at_call 133;refine(put_any w1 tb (zb3 T) fp1 a v T.nodes.length HW1.out.trie).mono ?_;rintro e w2 ⟨rfl,hw2⟩;have HW2:Hid (Wrote lo w1 w2 tb (zey (zb3 T) a v T.nodes.length) fp1 fp1):=hw2;clear hw2))
  go_ret
  exact⟨by rw[HE.out];rfl,fp1,by rw[HE.out];exact HW1.out.trans HW2.out⟩
theorem zdd.setCount{w:World}{tb:Nat}{T:zad}{nv:Value}{ns:List (Nat × Nat)}(h:zdd lo w tb T nv ns)(n:Nat)(hn:n<=1000000000):Wrote lo w (w.setCell ⟨tb,3,none⟩ (.int .i64 (n:Nat))) tb { T with count:=n } (fpT tb nv ns) (fpT tb nv ns):=by
 have hset:=zao.set w tb 3 (.int .i64 (n:Nat))
 have nt:∀ {b1:Nat} {e:TypeId} {s1:Nat} {v:Value} {n1:Nat} {xs:List Value},w.ownsRow b1 e s1 v n1 xs->e≠168->∀ b,v.ownBlock=some b->b∉[tb]:=fun ho hT b hvb hm=>zbk ho h.box hT hvb (by simpa using hm)
 refine⟨⟨nv,ns,⟨h.low,?_,zbf h.nodes hset (nt h.nodes (by decide)),h.len,fun i hi hi2=>zbf (h.leap i hi hi2) hset (nt (h.leap i hi hi2) (by decide)),fun i hi hi2=>zbf (h.down i hi hi2) hset (nt (h.down i hi hi2) (by decide)),h.apart,h.wide,h.many,h.deep,hn⟩,rfl⟩,hset.more (by simp[fpT]),fun b hb=>Or.inl hb⟩
 have hq:=h.box.set 3 (.int .i64 (n:Nat));simpa using hq
theorem zuu(w:World)(tb:Nat)(T:zad)(fp:List Nat)(a v m:Nat)(h:zar lo w tb T fp)(hc:T.count < 1000000000) :
  Calls Tryz.prog 123 #[.pointer (some ⟨tb,0,none⟩),.int .i64 a,.int .i64 v,.int .i64 m] w fun e w'=>e=.returned (.bool (zo5 T a v m).2)/\∃ fp',Wrote lo w w' tb (zo5 T a v m).1 fp fp':=by
 have HD:Hid (Calls Tryz.prog 82 #[.pointer (some ⟨tb,0,none⟩),.int .i64 a,.int .i64 v] w fun e w'=>e=.returned (zof (zaw T a v))/\w'=w):=zhv w tb T fp a v h
 cases hd:zaw T a v with
 |some b =>
  have HE:Hid (zo5 T a v m=(T,false)):=by unfold zo5;rw[Hid,hd]
  rw[hd] at HD
  simp only[zof,Option.getD_some,Option.isSome_some] at HD
  clear hd
  have HT:Hid (zar lo w tb T fp):=h
  clear h
  go_enter Tryz.func123,Tryz.ntmps123
  go_wp2_with (first|(go_at_call 82;refine HD.out.mono ?_;rintro e w' ⟨rfl,hww⟩;obtain rfl:=hww.symm))
  go_ret
  exact⟨by rw[HE.out];rfl,fp,by rw[HE.out];exact Wrote.refl HT.out⟩
 |none =>
  have HE:Hid (zo5 T a v m=({ zey T a v m with count:=(zey T a v m).count+1 },true)):=by unfold zo5;rw[Hid,hd]
  rw[hd] at HD
  simp only[zof,Option.getD_none,Option.isSome_none] at HD
  clear hd
  have HP:Hid (Calls Tryz.prog 133 #[.pointer (some ⟨tb,0,none⟩),.int .i64 a,.int .i64 v,.int .i64 m] w fun e w'=>e=.returned (.tuple #[])/\Wrote lo w w' tb (zey T a v m) fp fp):=put_any w tb T fp a v m h
  have hcc:=(zpw T a v m).2.1
  generalize zey T a v m=T1 at *
  rw[← hcc] at hc
  clear h hcc
  go_enter Tryz.func123,Tryz.ntmps123
  go_wp2_with (first|(go_at_call 82;refine HD.out.mono ?_;rintro e w' ⟨rfl,hww⟩;obtain rfl:=hww.symm)|(go_at_call 133;refine HP.out.mono ?_;rintro e w1 ⟨rfl,hw1⟩;obtain⟨nv,ns,ht1,hfp⟩:=hw1.trie;have HW1:Hid (Wrote lo w w1 tb T1 fp fp):=hw1;have HS:Hid (Wrote lo w1 (w1.setCell ⟨tb,3,none⟩ (.int .i64 ((T1.count+1:Nat)))) tb { T1 with count:=T1.count+1 } fp fp):=(by rw[hfp];exact ht1.setCount (T1.count+1) (by omega));have hbx:=ht1.box;clear hw1 ht1;obtain⟨hbc,hbf⟩:=hbx.rules;have hbl:=hbx.lt))
  go_ret
  exact⟨by rw[HE.out];rfl,fp,by rw[HE.out];exact HW1.out.trans HS.out⟩
theorem fits_any(w:World)(tb:Nat)(T:zad)(fp:List Nat)(x y z:Nat)(h:zar lo w tb T fp) :
  Calls Tryz.prog 122 #[.pointer (some ⟨tb,0,none⟩),.agg #[.int .i64 x,.int .i64 y,.int .i64 z]] w fun e w'=>e=.returned (.bool (zm9 T [x,y,z]))/\Below w.heap.size w w':=by
 obtain⟨nv,ns,h1,rfl⟩:=h
 have hwd:=h1.wide
 have hbx:=h1.box
 clear h1
 have hi0:=Tryz.row0 (.int .i64 x) (.int .i64 y) (.int .i64 z)
 have hi1:=Tryz.row1 (.int .i64 x) (.int .i64 y) (.int .i64 z)
 have hi2:=Tryz.row2 (.int .i64 x) (.int .i64 y) (.int .i64 z)
 have HF:Hid (zm9 T [x,y,z]=(decide (x < T.width) && (decide (y < T.width) && decide (z < T.width)))):=by simp[Hid,zm9]
 go_enter Tryz.func122,Tryz.ntmps122
 go_wp2
 go_loopw [8] (fun v8 wr=>∃ k:Nat,k<=3/\v8=.int .i64 k/\(1<=k->x < T.width)/\(2<=k->y < T.width)/\(3<=k->z < T.width)/\Below w.heap.size w wr) (fun i _=>3 - (intOf i).toNat)
 case atStart=>exact⟨0,by omega,rfl,by omega,by omega,by omega,(by go_grown)⟩
 case round =>
  obtain⟨k,hk,rfl,h1,h2,h3,hbk⟩:=hrel
  have hbxk:=hbx.below hbk
  obtain⟨hc,hfz⟩:=hbxk.rules
  have hlt:=hbxk.lt
  match k,hk with
  |0,_ =>
   by_cases hx:x < T.width
   ·go_wp2
    go_roundw
    case rel=>exact⟨1,by omega,rfl,fun _=>hx,by omega,by omega,hbk⟩
    case measure=>simp[intOf]
   ·go_wp2
    go_ret
    exact⟨by rw[HF.out];simp[hx],hbk⟩
  |1,_ =>
   have hx:=h1 (by omega)
   by_cases hy:y < T.width
   ·go_wp2
    go_roundw
    case rel=>exact⟨2,by omega,rfl,fun _=>hx,fun _=>hy,by omega,hbk⟩
    case measure=>simp[intOf]
   ·go_wp2
    go_ret
    exact⟨by rw[HF.out];simp[hy],hbk⟩
  |2,_ =>
   have hx:=h1 (by omega)
   have hy:=h2 (by omega)
   by_cases hz:z < T.width
   ·go_wp2
    go_roundw
    case rel=>exact⟨3,by omega,rfl,fun _=>hx,fun _=>hy,fun _=>hz,hbk⟩
    case measure=>simp[intOf]
   ·go_wp2
    go_ret
    exact⟨by rw[HF.out];simp[hz],hbk⟩
  |3,_ =>
   have hx:=h1 (by omega)
   have hy:=h2 (by omega)
   have hz:=h3 (by omega)
   go_wp2
   go_ret
   exact⟨by rw[HF.out];simp[hx,hy,hz],hbk⟩
end Go.Proofs.YteampbddflhngabGreat
