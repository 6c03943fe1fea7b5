import Derived.Test.YteampbddflhngaaGreatW08
import Derived.Deep.LoopGhost

namespace Go.Proofs.YteampbddflhngaaGreat
set_option maxRecDepth 100000
set_option maxHeartbeats 2000000
open Go.RowKit
variable {lo:Nat}
def halves(ns:List ByteArray)(x:ByteArray):Nat->Nat->Nat->Nat
 |0,l,_=>l
 |n+1,l,h=>if l < h then(if ltB (ns.getD (l+(h - l) / 2) ByteArray.empty) x then halves ns x n (l+(h - l) / 2+1) h else halves ns x n l (l+(h - l) / 2)) else l
def zbs(ns:List ByteArray)(x:ByteArray):Nat:=halves ns x (ns.length+1) 0 ns.length
def z4t(lo:Nat)(w:World)(cb:Nat)(ns:List ByteArray):Prop:=lo<=cb/\∃ v,Box w cb #[v] 141/\SIn lo w v ns
theorem z4t.below{w w':World}{cb:Nat}{ns:List ByteArray}(h:z4t lo w cb ns)(hb:Below w.heap.size w w'):z4t lo w' cb ns:=by
 obtain⟨h1,v,h2,h3⟩:=h;exact⟨h1,v,h2.below hb,h3.below hb⟩
theorem zp0(w:World)(cb:Nat)(ns:List ByteArray)(x:ByteArray)(h:z4t lo w cb ns)(hl:ns.length<=1000) :
  Calls Tryz.prog 168 #[.pointer (some ⟨cb,0,none⟩),.string x] w fun e w'=>e=.returned (.int .i64 (zbs ns x:Nat))/\∃ m,w'=w.drewN m:=by
 obtain⟨_,v,hbx,hs⟩:=h
 obtain⟨ao,cap,rfl⟩:=hs.shape
 obtain⟨hc,hf⟩:=hbx.rules
 have hlt:=hbx.lt
 go_enter Tryz.func168,Tryz.ntmps168
 go_wp2
 go_quiet (fail)
 have hB:Below w.heap.size w (w.drewN nq):=zau (Below.refl _ _) _
 have hbx2:=hbx.below hB
 have hs2:=hs.below hB
 have HEX:Hid (∃ m,w.drewN nq=w.drewN m):=⟨nq,rfl⟩
 clear hc hf hlt
 generalize w.drewN nq=w1 at *
 obtain⟨hc,hf⟩:=hbx2.rules
 have hlt:=hbx2.lt
 go_wp2
 go_loopg [5,6] (ns.length+1) (fun k v5 v6 wr=>∃ l h:Nat,v5=.int .i64 l/\v6=.int .i64 h/\h<=ns.length/\l<=ns.length/\h - l < k/\Hid (zbs ns x=halves ns x k l h)/\wr=w1)
 case atStart=>exact⟨0,ns.length,rfl,rfl,by omega,by omega,by omega,rfl,rfl⟩
 case round =>
  obtain⟨l,h,rfl,rfl,hh,hll,hgk,HP,rfl⟩:=hrel
  cases gk with
  |zero=>omega
  |succ m =>
   by_cases hlh:l < h
   ·obtain⟨md,hmd⟩:∃ md,md=l+(h - l) / 2:=⟨_,rfl⟩
    have hm1:l<=md:=by omega
    have hm2:md < h:=by omega
    have hmI:(l:Int)+((h:Int) - (l:Int)).tdiv 2=(md:Int):=by
     rw[Int.tdiv_eq_ediv_of_nonneg (by omega)];omega
    have hmn:md < ns.length:=by omega
    have q:=HP.out
    unfold halves at q
    rw[if_pos hlh,← hmd,show ns.getD md ByteArray.empty=ns[md] from by simp[List.getD_eq_getElem?_getD,hmn]] at q
    obtain⟨g,rfl,hg,hcell⟩:=hs2.cell md hmn
    clear hmd
    cases hL:ltB ns[md] x with
    |true =>
     rw[hL,if_pos rfl] at q
     have HQ:Hid (zbs ns x=halves ns x m (md+1) h):=q
     unfold ltB at hL
     clear q HP
     generalize ns[md]=y at *
     go_wp2
     go_roundg m
     case measure=>omega
     case rel=>exact⟨md+1,h,by go_num,rfl,hh,by omega,by omega,HQ,rfl⟩
    |false =>
     rw[hL,if_neg (by simp)] at q
     have HQ:Hid (zbs ns x=halves ns x m l md):=q
     unfold ltB at hL
     clear q HP
     generalize ns[md]=y at *
     go_wp2
     go_roundg m
     case measure=>omega
     case rel=>exact⟨l,md,rfl,rfl,by omega,hll,by omega,HQ,rfl⟩
   ·have q:=HP.out
    unfold halves at q
    rw[if_neg hlh] at q
    have HQ:Hid (zbs ns x=l):=q
    clear q HP
    go_wp2
    go_ret
    exact⟨by rw[HQ.out];rfl,HEX.out⟩
def zco(ns:List ByteArray)(x:ByteArray):Option Nat:=if zbs ns x < ns.length/\ns.getD (zbs ns x) ByteArray.empty=x then some (zbs ns x) else none
theorem zy7(w:World)(cb:Nat)(ns:List ByteArray)(x:ByteArray)(h:z4t lo w cb ns)(hl:ns.length<=1000) :
  Calls Tryz.prog 129 #[.pointer (some ⟨cb,0,none⟩),.string x] w fun e w'=>e=.returned (.tuple #[.int .i64 (((zco ns x).getD 0:Nat):Int),.bool (zco ns x).isSome])/\∃ m,w'=w.drewN m:=by
 have HP:Hid (Calls Tryz.prog 168 #[.pointer (some ⟨cb,0,none⟩),.string x] w fun e w'=>e=.returned (.int .i64 (zbs ns x:Nat))/\∃ m,w'=w.drewN m):=zp0 w cb ns x h hl
 obtain⟨_,v,hbx,hs⟩:=h
 obtain⟨ao,cap,rfl⟩:=hs.shape
 have HE:Hid (zco ns x=if zbs ns x < ns.length/\ns.getD (zbs ns x) ByteArray.empty=x then some (zbs ns x) else none):=rfl
 generalize zbs ns x=pc at *
 by_cases h1:pc < ns.length
 ·have eg:ns.getD pc ByteArray.empty=ns[pc]:=by simp[List.getD_eq_getElem?_getD,h1]
  rw[eg] at HE
  by_cases h2:ns[pc]=x
  ·rw[if_pos ⟨h1,h2⟩] at HE
   obtain⟨g,rfl,hg,hcell⟩:=hs.cell pc h1
   have hse:=zfm h2
   clear h2 eg
   generalize ns[pc]=y at *
   go_enter Tryz.func129,Tryz.ntmps129
   go_wp2_with (first|(go_at_call 168;refine HP.out.mono ?_;rintro r w' ⟨rfl,m,rfl⟩;have hbx2:=hbx.below (zau (Below.refl _ _) m);obtain⟨hc,hf⟩:=hbx2.rules;have hlt:=hbx2.lt;have hx:=((zau (Below.refl w.heap.size w) m).cell (p:=⟨g,pc,none⟩) hg).trans hcell;have hg2:g < (w.drewN m).heap.size:=hg))
   go_ret2
   exact⟨by rw[HE.out];rfl,m,rfl⟩
  ·rw[if_neg (fun q=>h2 q.2)] at HE
   obtain⟨g,rfl,hg,hcell⟩:=hs.cell pc h1
   have hse:=zei h2
   clear h2 eg
   generalize ns[pc]=y at *
   go_enter Tryz.func129,Tryz.ntmps129
   go_wp2_with (first|(go_at_call 168;refine HP.out.mono ?_;rintro r w' ⟨rfl,m,rfl⟩;have hbx2:=hbx.below (zau (Below.refl _ _) m);obtain⟨hc,hf⟩:=hbx2.rules;have hlt:=hbx2.lt;have hx:=((zau (Below.refl w.heap.size w) m).cell (p:=⟨g,pc,none⟩) hg).trans hcell;have hg2:g < (w.drewN m).heap.size:=hg))
   go_ret2
   exact⟨by rw[HE.out];rfl,m,rfl⟩
 ·rw[if_neg (fun q=>h1 q.1)] at HE
  have h1':ns.length<=pc:=by omega
  go_enter Tryz.func129,Tryz.ntmps129
  go_wp2_with (first|(go_at_call 168;refine HP.out.mono ?_;rintro r w' ⟨rfl,m,rfl⟩;have hbx2:=hbx.below (zau (Below.refl _ _) m);obtain⟨hc,hf⟩:=hbx2.rules;have hlt:=hbx2.lt))
  go_ret2
  exact⟨by rw[HE.out];rfl,m,rfl⟩
theorem zy1(w:World)(cb:Nat)(ns:List ByteArray)(h:z4t lo w cb ns) :
  Calls Tryz.prog 114 #[.pointer (some ⟨cb,0,none⟩)] w fun e w'=>e=.returned (.int .i64 (ns.length:Nat))/\w'=w:=by
 obtain⟨_,v,hbx,hs⟩:=h
 obtain⟨ao,cap,rfl⟩:=hs.shape
 obtain⟨hc,hf⟩:=hbx.rules
 have hlt:=hbx.lt
 clear hs
 go_enter Tryz.func114,Tryz.ntmps114
 go_wp2
 go_ret
 exact⟨rfl,rfl⟩
def zfq(lo:Nat)(w:World)(cb:Nat)(v:Value)(ns:List ByteArray):Prop:=lo<=cb/\Box w cb #[v] 141/\SIn lo w v ns
theorem zfq.tab{w:World}{cb:Nat}{v:Value}{ns:List ByteArray}(h:zfq lo w cb v ns):z4t lo w cb ns:=⟨h.1,v,h.2.1,h.2.2⟩
theorem zfq.below{w w':World}{cb:Nat}{v:Value}{ns:List ByteArray}(h:zfq lo w cb v ns)(hb:Below w.heap.size w w'):zfq lo w' cb v ns:=⟨h.1,h.2.1.below hb,h.2.2.below hb⟩
def z2h(ns:List ByteArray)(x:ByteArray):List ByteArray:=if zbs ns x < ns.length/\ns.getD (zbs ns x) ByteArray.empty=x then ns else ns.take (zbs ns x)++x::ns.drop (zbs ns x)
def zre(lo:Nat)(w:World)(cb:Nat)(v:Value)(ns:List ByteArray)(e:Ending)(w':World):Prop:=e=.returned (.tuple #[])/\∃ v',zfq lo w' cb v' ns/\zas (cb::v.ownBlock.toList) w w'/\(v'.ownBlock=v.ownBlock∨∃ g,v'.ownBlock=some g/\w.heap.size<=g)
theorem z94(ns:List ByteArray)(x:ByteArray)(k:Nat)(hk:k < ns.length):(((ns.take (k+1)++x::ns.drop (k+1)).set (k+1) ns[k]).set k x)=ns.take k++x::ns.drop k:=by
 have e1:(ns.take k).length=k:=by simp;omega
 rw[uae hk,uah hk,uba,ubd _ _ (by omega),e1,show k+1 - k=1 from by omega,ubd _ _ (by omega),e1,ubs]
 rfl
theorem zvs(w:World)(cb:Nat)(v:Value)(ns:List ByteArray)(x:ByteArray)(h:zfq lo w cb v ns)(hl:ns.length<=900) :
  Calls Tryz.prog 157 #[.pointer (some ⟨cb,0,none⟩),.string x] w fun e w'=>zre lo w cb v (z2h ns x) e w':=by
 have HP:Hid (Calls Tryz.prog 168 #[.pointer (some ⟨cb,0,none⟩),.string x] w fun e w'=>e=.returned (.int .i64 (zbs ns x:Nat))/\∃ m,w'=w.drewN m):=zp0 w cb ns x h.tab (by omega)
 have HH:Hid (zfq lo w cb v ns):=h
 obtain⟨hlo,hbx,hs⟩:=h
 obtain⟨ao,cap,rfl⟩:=hs.shape
 have HE:Hid (z2h ns x=if zbs ns x < ns.length/\ns.getD (zbs ns x) ByteArray.empty=x then ns else ns.take (zbs ns x)++x::ns.drop (zbs ns x)):=rfl
 generalize zbs ns x=pc at *
 by_cases hin:pc < ns.length/\ns.getD pc ByteArray.empty=x
 ·rw[if_pos hin] at HE
  obtain⟨h1,h2⟩:=hin
  rw[show ns.getD pc ByteArray.empty=ns[pc] from by simp[List.getD_eq_getElem?_getD,h1]] at h2
  obtain⟨g,rfl,hg,hcell⟩:=hs.cell pc h1
  have hse:=zfm h2
  clear h2
  generalize ns[pc]=y at *
  go_enter Tryz.func157,Tryz.ntmps157
  go_wp2_with (first|(go_at_call 168;refine HP.out.mono ?_;rintro r w' ⟨rfl,m,rfl⟩;have hbx2:=hbx.below (zau (Below.refl _ _) m);obtain⟨hc,hf⟩:=hbx2.rules;have hlt:=hbx2.lt;have hx:=((zau (Below.refl w.heap.size w) m).cell (p:=⟨g,pc,none⟩) hg).trans hcell;have hg2:g < (w.drewN m).heap.size:=hg))
  (try simp only[Exit.inBlock,Exit.then]);refine bodyPost_ret (results_none rfl _ _ _) rfl ?_
  exact⟨rfl,_,by rw[HE.out];exact HH.out.below (zau (Below.refl _ _) m),zas.of (zau (Below.refl _ _) m),Or.inl rfl⟩
 ·rw[if_neg hin] at HE
  obtain⟨i0,hi,hz0,hzs,hzb⟩:=info_parts Tryz.infoString
  have HNI:Hid (∀ m,pc < ns.length->∃(y:ByteArray) (g:Nat),ao=some ⟨g,0,none⟩/\g < (w.drewN m).heap.size/\(w.drewN m).cell? ⟨g,pc,none⟩=some (.string y)/\(y.toList == x.toList)=false):=fun m h1=>by
   obtain⟨g,e,hg,hcell⟩:=hs.cell pc h1
   have hn:ns[pc]≠x:=fun q=>hin ⟨h1,by rw[← q];simp[List.getD_eq_getElem?_getD,h1]⟩
   exact⟨ns[pc],g,e,hg,((zau (Below.refl w.heap.size w) m).cell (p:=⟨g,pc,none⟩) hg).trans hcell,zei hn⟩
  have hlow:lo<=w.heap.size:=by have:=hbx.lt;omega
  by_cases h1:pc < ns.length
  ·obtain⟨yy,gg,e1,_⟩:=HNI.out 0 h1
   subst e1
   go_enter Tryz.func157,Tryz.ntmps157
   go_wp2_with (first|(go_at_call 168;refine HP.out.mono ?_;rintro r w' ⟨rfl,m,rfl⟩;have hB1:Below w.heap.size w (w.drewN m):=(zau (Below.refl _ _) m);have hbx2:=hbx.below hB1;obtain⟨hc,hf⟩:=hbx2.rules;have hlt:=hbx2.lt;have hs2:=hs.below hB1;obtain⟨y,g,e1,hg,hx,hse⟩:=HNI.out m h1;simp only[uab,Addr.mk.injEq] at e1;obtain⟨rfl,_⟩:=e1)|(at_builtin;refine zce (w.drewN m) _ [.string x] _ rfl (.tmp 31) (.tmp 33) 30 rfl lo 9 i0 _ 1 16 Tryz.underlying30 hi hz0 hzs hzb rfl (by decide) (.slice (some ⟨gg,0,none⟩) ns.length cap) ns.length (ns.map Value.string) rfl hs2 (Below.refl _ _) _ _ rfl (by simp) rfl (by simp[Value.oneCell']) (by omega) (by omega) (by omega) ?_;intro v' w3 ho3 hS3 hat3;obtain⟨ao4,cap4,rfl⟩:=zac ho3;have hbx3:=hbx2.save hS3 (zdu hs2 hbx2 (by decide));obtain⟨hc3,hf3⟩:=hbx3.rules;have hlt3:=hbx3.lt))
   obtain⟨g4,cap5,hv4,hg4lo,hg4,_⟩:=zal ho3 (by omega)
   simp only[Value.slice.injEq] at hv4
   obtain⟨rfl,_,hcap⟩:=hv4
   clear hcap
   have hne4:g4≠cb:=zbr ho3 hbx3 (by decide) rfl
   have hbx5:=hbx3.set 0 (.slice (some ⟨g4,0,none⟩) (ns.length+1) cap4)
   simp at hbx5
   have hs5:SIn lo (w3.setCell ⟨cb,0,none⟩ (.slice (some ⟨g4,0,none⟩) (ns.length+1) cap4)) (.slice (some ⟨g4,0,none⟩) (ns.length+1) cap4) (ns.take ns.length++x::ns.drop ns.length):=by
    have q:=zb9 ho3 ((But.refl cb w3).setCell 0 (.slice (some ⟨g4,0,none⟩) (ns.length+1) cap4)) hbx3 (by decide)
    unfold SIn
    simpa using q
   have hg4m:∀ y∈[g4],y∈cb::(Value.slice (some ⟨gg,0,none⟩) ns.length cap).ownBlock.toList∨w.heap.size<=y:=fun y hy=>by
    simp only[ua3] at hy
    subst hy
    rcases hat3 with q|⟨g,q,hg⟩
    ·left
     simp only[uag]
     right
     rw[← q]
     simp[Value.ownBlock]
    ·right
     simp only[Value.ownBlock,uab] at q
     have:=hB1.size
     omega
   have hsv5:zas (cb::(Value.slice (some ⟨gg,0,none⟩) ns.length cap).ownBlock.toList) w (w3.setCell ⟨cb,0,none⟩ (.slice (some ⟨g4,0,none⟩) (ns.length+1) cap4)):=((zas.of (M:=cb::(Value.slice (some ⟨gg,0,none⟩) ns.length cap).ownBlock.toList) hB1).newer hS3 (fun y hy=>Or.inl (uct _ hy))).newer (zas.set _ _ _ _) (fun y hy=>Or.inl (by simp at hy;simp[hy]))
   have hat5:(Value.slice (some ⟨g4,0,none⟩) (ns.length+1) cap4).ownBlock=(Value.slice (some ⟨gg,0,none⟩) ns.length cap).ownBlock∨∃ g,(Value.slice (some ⟨g4,0,none⟩) (ns.length+1) cap4).ownBlock=some g/\w.heap.size<=g:=hat3.imp id (fun⟨g,q1,q2⟩=>⟨g,q1,by have:=hB1.size;omega⟩)
   clear hc hf hlt hc3 hf3 hlt3 hS3 hat3 ho3
   generalize w3.setCell ⟨cb,0,none⟩ (.slice (some ⟨g4,0,none⟩) (ns.length+1) cap4)=w5 at *
   generalize decide (pc < ns.length)=bq
   go_loopw [5] (fun v5 wr=>∃ k:Nat,v5=.int .i64 k/\k<=ns.length/\(pc<=k∨k=ns.length)/\Box wr cb #[.slice (some ⟨g4,0,none⟩) (ns.length+1) cap4] 141/\SIn lo wr (.slice (some ⟨g4,0,none⟩) (ns.length+1) cap4) (ns.take k++x::ns.drop k)/\zas (cb::(Value.slice (some ⟨gg,0,none⟩) ns.length cap).ownBlock.toList) w wr) (fun i _=>(intOf i).toNat)
   case atStart=>exact⟨ns.length,by go_num,uaa _,Or.inr rfl,hbx5,hs5,hsv5⟩
   case round =>
    obtain⟨k,rfl,hk,hor,hbk,hsk,hsvk⟩:=hrel
    obtain⟨hc,hf⟩:=hbk.rules
    have hlt:=hbk.lt
    by_cases hkp:pc < k
    ·obtain⟨j,rfl⟩:∃ j,k=j+1:=⟨k - 1,by omega⟩
     have hj:j < ns.length:=by omega
     have hlen:(ns.take (j+1)++x::ns.drop (j+1)).length=ns.length+1:=by simp;omega
     have hg4k:g4 < wr.heap.size:=zdq hsk rfl
     have hff:=zbt hsk
     obtain⟨_,e0,_,hx0⟩:=hsk.cell j (by omega)
     obtain⟨_,e1,_,hx1⟩:=hsk.cell (j+1) (by omega)
     simp only[uab,Addr.mk.injEq] at e0 e1
     obtain⟨rfl,_⟩:=e0
     obtain⟨rfl,_⟩:=e1
     have ej:(ns.take (j+1)++x::ns.drop (j+1))[j]'(by omega)=ns[j]:=by
      rw[uan (by simp;omega)]
      simp
     rw[ej] at hx0
     have q1:=zb4 hsk (j+1) (by simp;omega) (.string ns[j])
     have q2:=zb4 q1 j (by simp;omega) (.string x)
     have el:(((ns.take (j+1)++x::ns.drop (j+1)).map Value.string).set (j+1) (.string ns[j])).set j (.string x)=(ns.take j++x::ns.drop j).map Value.string:=by
      rw[← ucj,← ucj,z94 ns x j hj]
     rw[el] at q2
     have hlen2:(ns.take j++x::ns.drop j).length=ns.length+1:=by simp;omega
     have hq3:SIn lo ((wr.setCell ⟨g4,j+1,none⟩ (.string ns[j])).setCell ⟨g4,j,none⟩ (.string x)) (.slice (some ⟨g4,0,none⟩) (ns.length+1) cap4) (ns.take j++x::ns.drop j):=by
      unfold SIn
      rw[hlen2]
      rw[hlen] at q2
      exact q2
     have hbk2:=(hbk.set_ne (Ne.symm hne4) (j+1) (.string ns[j])).set_ne (Ne.symm hne4) j (.string x)
     have hsv2:=(hsvk.newer (zas.set wr g4 (j+1) (.string ns[j])) hg4m).newer (zas.set _ g4 j (.string x)) hg4m
     generalize (ns.take (j+1)++x::ns.drop (j+1))[j+1]'(by omega)=zz at *
     clear ej q1 q2 el
     generalize ns[j]=yj at *
     have hjI:(j:Int) < (ns.length:Int):=by omega
     go_wp2
     go_region
     all_goals
      go_wp2
      go_roundw
      case rel=>exact⟨j,by go_num,by omega,Or.inl (by omega),hbk2.below (Below.refl _ _).drew,hq3.below (Below.refl _ _).drew,hsv2.newer (zas.of (M:=[]) (Below.refl _ _).drew) (by simp)⟩
      case measure=>simp[intOf]
    ·have HEQ:Hid (ns.take k++x::ns.drop k=ns.take pc++x::ns.drop pc):=by
      rw[Hid]
      by_cases e:k=pc
      ·rw[e]
      ·obtain rfl:k=ns.length:=by omega
       rw[uam (uaa _),uc7 (uaa _),uam (by omega),uc7 (by omega)]
     go_wp2
     go_end0
     exact⟨rfl,_,by rw[HE.out,← HEQ.out];exact⟨hlo,hbk,hsk⟩,hsvk,hat5⟩
  ·have h1':ns.length<=pc:=by omega
   go_enter Tryz.func157,Tryz.ntmps157
   go_wp2_with (first|(go_at_call 168;refine HP.out.mono ?_;rintro r w' ⟨rfl,m,rfl⟩;have hB1:Below w.heap.size w (w.drewN m):=(zau (Below.refl _ _) m);have hbx2:=hbx.below hB1;obtain⟨hc,hf⟩:=hbx2.rules;have hlt:=hbx2.lt;have hs2:=hs.below hB1)|(at_builtin;refine zce (w.drewN m) _ [.string x] _ rfl (.tmp 31) (.tmp 33) 30 rfl lo 9 i0 _ 1 16 Tryz.underlying30 hi hz0 hzs hzb rfl (by decide) (.slice ao ns.length cap) ns.length (ns.map Value.string) rfl hs2 (Below.refl _ _) _ _ rfl (by simp) rfl (by simp[Value.oneCell']) (by omega) (by omega) (by omega) ?_;intro v' w3 ho3 hS3 hat3;obtain⟨ao4,cap4,rfl⟩:=zac ho3;have hbx3:=hbx2.save hS3 (zdu hs2 hbx2 (by decide));obtain⟨hc3,hf3⟩:=hbx3.rules;have hlt3:=hbx3.lt))
   obtain⟨g4,cap5,hv4,hg4lo,hg4,_⟩:=zal ho3 (by omega)
   simp only[Value.slice.injEq] at hv4
   obtain⟨rfl,_,hcap⟩:=hv4
   clear hcap
   have hne4:g4≠cb:=zbr ho3 hbx3 (by decide) rfl
   have hbx5:=hbx3.set 0 (.slice (some ⟨g4,0,none⟩) (ns.length+1) cap4)
   simp at hbx5
   have hs5:SIn lo (w3.setCell ⟨cb,0,none⟩ (.slice (some ⟨g4,0,none⟩) (ns.length+1) cap4)) (.slice (some ⟨g4,0,none⟩) (ns.length+1) cap4) (ns.take ns.length++x::ns.drop ns.length):=by
    have q:=zb9 ho3 ((But.refl cb w3).setCell 0 (.slice (some ⟨g4,0,none⟩) (ns.length+1) cap4)) hbx3 (by decide)
    unfold SIn
    simpa using q
   have hg4m:∀ y∈[g4],y∈cb::(Value.slice ao ns.length cap).ownBlock.toList∨w.heap.size<=y:=fun y hy=>by
    simp only[ua3] at hy
    subst hy
    rcases hat3 with q|⟨g,q,hg⟩
    ·left
     simp only[uag]
     right
     rw[← q]
     simp[Value.ownBlock]
    ·right
     simp only[Value.ownBlock,uab] at q
     have:=hB1.size
     omega
   have hsv5:zas (cb::(Value.slice ao ns.length cap).ownBlock.toList) w (w3.setCell ⟨cb,0,none⟩ (.slice (some ⟨g4,0,none⟩) (ns.length+1) cap4)):=((zas.of (M:=cb::(Value.slice ao ns.length cap).ownBlock.toList) hB1).newer hS3 (fun y hy=>Or.inl (uct _ hy))).newer (zas.set _ _ _ _) (fun y hy=>Or.inl (by simp at hy;simp[hy]))
   have hat5:(Value.slice (some ⟨g4,0,none⟩) (ns.length+1) cap4).ownBlock=(Value.slice ao ns.length cap).ownBlock∨∃ g,(Value.slice (some ⟨g4,0,none⟩) (ns.length+1) cap4).ownBlock=some g/\w.heap.size<=g:=hat3.imp id (fun⟨g,q1,q2⟩=>⟨g,q1,by have:=hB1.size;omega⟩)
   clear hc hf hlt hc3 hf3 hlt3 hS3 hat3 ho3
   generalize w3.setCell ⟨cb,0,none⟩ (.slice (some ⟨g4,0,none⟩) (ns.length+1) cap4)=w5 at *
   generalize decide (pc < ns.length)=bq
   go_loopw [5] (fun v5 wr=>∃ k:Nat,v5=.int .i64 k/\k<=ns.length/\(pc<=k∨k=ns.length)/\Box wr cb #[.slice (some ⟨g4,0,none⟩) (ns.length+1) cap4] 141/\SIn lo wr (.slice (some ⟨g4,0,none⟩) (ns.length+1) cap4) (ns.take k++x::ns.drop k)/\zas (cb::(Value.slice ao ns.length cap).ownBlock.toList) w wr) (fun i _=>(intOf i).toNat)
   case atStart=>exact⟨ns.length,by go_num,uaa _,Or.inr rfl,hbx5,hs5,hsv5⟩
   case round =>
    obtain⟨k,rfl,hk,hor,hbk,hsk,hsvk⟩:=hrel
    obtain⟨hc,hf⟩:=hbk.rules
    have hlt:=hbk.lt
    by_cases hkp:pc < k
    ·exact absurd hkp (by omega)
    ·have HEQ:Hid (ns.take k++x::ns.drop k=ns.take pc++x::ns.drop pc):=by
      rw[Hid]
      by_cases e:k=pc
      ·rw[e]
      ·obtain rfl:k=ns.length:=by omega
       rw[uam (uaa _),uc7 (uaa _),uam (by omega),uc7 (by omega)]
     go_wp2
     go_end0
     exact⟨rfl,_,by rw[HE.out,← HEQ.out];exact⟨hlo,hbk,hsk⟩,hsvk,hat5⟩
end Go.Proofs.YteampbddflhngaaGreat
namespace Go.Proofs.YteampbddflhngaaGreat
set_option maxRecDepth 100000
set_option maxHeartbeats 4000000
open Go.RowKit
variable {lo:Nat}
variable {cb:Nat}
def zhy(ns:List ByteArray)(t:ByteArray):List ByteArray:=if za8 t then ns else z2h ns t
def zjs(ns:List ByteArray)(l:zbu):List ByteArray:=l.args.foldl zhy ns
def zdd(ns:List ByteArray)(c:zab):List ByteArray:=c.body.foldl zjs (zjs ns c.head)
def zaw(cs:List zab):List ByteArray:=cs.foldl zdd []
theorem z4d(ns:List ByteArray)(t:ByteArray):(zhy ns t).length<=ns.length+1:=by
 unfold zhy
 split
 ·omega
 ·unfold z2h
  split
  ·omega
  ·simp only[uar,ua7,ua2,List.length_drop];omega
theorem zk5(ts:List ByteArray):∀ ns:List ByteArray,(ts.foldl zhy ns).length<=ns.length+ts.length:=by
 induction ts with
 |nil=>intro ns;simp
 |cons t ts ih=>intro ns;have:=ih (zhy ns t);have:=z4d ns t;simp only[uax,ua7];omega
def zka(l:zbu):Nat:=l.args.length
def zl0(ls:List zbu):Nat:=(ls.map zka).sum
def zpf(cs:List zab):Nat:=(cs.map fun c=>zka c.head+zl0 c.body).sum
theorem zsl(ls:List zbu):∀ ns:List ByteArray,(ls.foldl zjs ns).length<=ns.length+zl0 ls:=by
 induction ls with
 |nil=>intro ns;simp[zl0]
 |cons l ls ih=>intro ns;have:=ih (zjs ns l);have:=zk5 l.args ns;simp only[uax,zl0,ubu,List.sum_cons,zka] at *;unfold zjs at *;omega
theorem zkb(cs:List zab):∀ ns:List ByteArray,(cs.foldl zdd ns).length<=ns.length+zpf cs:=by
 induction cs with
 |nil=>intro ns;simp[zpf]
 |cons c cs ih=>intro ns;have:=ih (zdd ns c);have:=zsl c.body (zjs ns c.head);have:=zk5 c.head.args ns;simp only[uax,zpf,ubu,List.sum_cons] at *;unfold zdd zka at *;unfold zjs at *;omega
theorem zyt(ls:List zbu)(k:Nat)(hk:k < ls.length):zl0 (ls.take k)+zka ls[k]<=zl0 ls:=by
 have e:ls=ls.take k++ls[k]::ls.drop (k+1):=by rw[← uah hk,ube]
 conv=>rhs;rw[e]
 simp only[zl0,ua8,ubu,List.sum_append,List.sum_cons]
 omega
theorem zyu(cs:List zab)(k:Nat)(hk:k < cs.length):zpf (cs.take k)+(zka cs[k].head+zl0 cs[k].body)<=zpf cs:=by
 have e:cs=cs.take k++cs[k]::cs.drop (k+1):=by rw[← uah hk,ube]
 conv=>rhs;rw[e]
 simp only[zpf,ua8,ubu,List.sum_append,List.sum_cons]
 omega
def zfe(cb:Nat)(w w':World):Prop:=∀ b c t,b≠cb->9≠t->Box w b c t->Box w' b c t
theorem zfe.of{w w':World}(h:Below w.heap.size w w'):zfe cb w w':=fun _ _ _ _ _ q=>q.below h
theorem zfe.trans{a b c:World}(h:zfe cb a b)(k:zfe cb b c):zfe cb a c:=fun _ _ _ n m q=>k _ _ _ n m (h _ _ _ n m q)
theorem zre.next{B:Nat}{w0 w w':World}{v:Value}{ns ns':List ByteArray}{e:Ending}(h0:zfq B w cb v ns)(hb:Below B w0 w)(h:zre B w cb v ns' e w'):e=.returned (.tuple #[])/\∃ v',zfq B w' cb v' ns'/\Below B w0 w'/\zfe cb w w':=by
 obtain⟨rfl,v',h1,h2,h3⟩:=h
 refine⟨rfl,v',h1,hb.trans (h2.below (fun x hx=>?_) ?_),fun b c t hn ht q=>q.save h2 fun hm=>?_⟩
 ·simp only[uag] at hx
  rcases hx with rfl|hx
  ·exact h0.1
  ·exact zeg h0.2.2 (zcy hx)
 ·have:=h0.1;have:=h0.2.1.lt;omega
 ·simp only[uag] at hm
  rcases hm with rfl|hm
  ·exact hn rfl
  ·exact zbr h0.2.2 q ht (zcy hm) rfl
theorem z5f(w0 w:World)(cb:Nat)(v:Value)(ns:List ByteArray)(l:zbu)(va:Value)(hs:SIn lo w0 va l.args)(hW:Below w0.heap.size w0 w)(h:zfq w0.heap.size w cb v ns)(hl:ns.length+zka l<=900) :
  Calls Tryz.prog 113 #[.pointer (some ⟨cb,0,none⟩),.agg #[.bool l.neg,.string l.pred,va]] w fun e w'=>e=.returned (.tuple #[])/\∃ v',zfq w0.heap.size w' cb v' (zjs ns l)/\Below w0.heap.size w0 w'/\zfe cb w w':=by
 obtain⟨ao,cap,rfl⟩:=hs.shape
 have HI:Hid (∀(W:World) (v:Value) (ns:List ByteArray) (x:ByteArray),zfq w0.heap.size W cb v ns->ns.length<=900->Calls Tryz.prog 157 #[.pointer (some ⟨cb,0,none⟩),.string x] W fun e w'=>zre w0.heap.size W cb v (z2h ns x) e w'):=fun W v ns x a b=>zvs W cb v ns x a b
 have HE:Hid (zjs ns l=l.args.foldl zhy ns):=rfl
 have HT:Hid (zfq w0.heap.size w cb v ns):=h
 have hcl:=h.2.1.lt
 have hz:=hW.size
 have hla:l.args.length<=900:=by unfold zka at hl;omega
 have HLEN:Hid (∀ k,k < l.args.length->((l.args.take k).foldl zhy ns).length<=900):=fun k hk=>by
  have:=zk5 (l.args.take k) ns
  simp only[ua2] at this
  unfold zka at hl
  omega
 clear h hl
 generalize l.args=ts at *
 go_enter Tryz.func113,Tryz.ntmps113
 go_wp2
 go_loopw [9] (fun v9 wr=>∃(k:Nat) (v':Value),k<=ts.length/\v9=.int .i64 k/\Hid (zfq w0.heap.size wr cb v' ((ts.take k).foldl zhy ns))/\Below w0.heap.size w0 wr/\Hid (zfe cb w wr)) (fun i _=>ts.length - (intOf i).toNat)
 case atStart=>exact⟨0,v,uaj _,rfl,HT.out.below (by go_grown),hW.alloc hz _,zfe.of (by go_grown)⟩
 case round =>
  obtain⟨k,v',hk,rfl,HC,hbk,HK⟩:=hrel
  have hszk:=hbk.size
  by_cases hlt:k < ts.length
  ·obtain⟨g,rfl,hg,hcell⟩:=hs.cell k hlt
   have hx0:=(hbk.cell (p:=⟨g,k,none⟩) hg).trans hcell
   have hgr:g < wr.heap.size:=by omega
   have HS:Hid ((ts.take (k+1)).foldl zhy ns=zhy ((ts.take k).foldl zhy ns) ts[k]):=by rw[Hid,uae hlt,ubj];rfl
   have hlen:=HLEN.out k hlt
   have HST:Hid (∀ a x,zhy a x=if za8 x then a else z2h a x):=fun _ _=>rfl
   clear hcell
   generalize (ts.take k).foldl zhy ns=nk at *
   generalize ts[k]=x at *
   cases hv:za8 x with
   |true =>
    have HV:Hid (∀ W,Calls Tryz.prog 156 #[.string x] W fun e w'=>e=.returned (.bool true)/\w'=W):=fun W=>by rw[← hv];exact zbw x W
    have HQ:Hid (zhy nk x=nk):=by rw[Hid,HST.out,hv];rfl
    clear hv
    go_wp2_with (first|(go_at_call 156;refine(HV.out _).mono ?_;rintro e w' ⟨rfl,hww⟩;obtain rfl:=hww.symm))
    go_roundw
    case rel=>exact⟨k+1,v',by omega,by go_num,by rw[HS.out,HQ.out];exact HC.out,hbk,HK⟩
    case measure=>simp[intOf];omega
   |false =>
    have HV:Hid (∀ W,Calls Tryz.prog 156 #[.string x] W fun e w'=>e=.returned (.bool false)/\w'=W):=fun W=>by rw[← hv];exact zbw x W
    have HQ:Hid (zhy nk x=z2h nk x):=by rw[Hid,HST.out,hv];rfl
    clear hv
    go_wp2_with (first|(go_at_call 156;refine(HV.out _).mono ?_;rintro e w' ⟨rfl,hww⟩;obtain rfl:=hww.symm)|(go_at_call 157;refine(HI.out wr v' nk x HC.out hlen).mono ?_;intro e w2 hip;obtain⟨rfl,v2,hc2,hb2,hk2⟩:=hip.next HC.out hbk;have HK2:Hid (zfe cb w w2):=HK.out.trans hk2;clear hk2;have HC2:Hid (zfq w0.heap.size w2 cb v2 (z2h nk x)):=hc2;clear hip hc2))
    go_roundw
    case rel=>exact⟨k+1,v2,by omega,by go_num,by rw[HS.out,HQ.out];exact HC2.out,hb2,HK2⟩
    case measure=>simp[intOf];omega
  ·rw[uam (by omega)] at HC
   go_wp2
   go_end0
   exact⟨rfl,v',by rw[HE.out];exact HC.out,hbk,HK.out⟩
def z7k(cs:List zab):Prop:=zpf cs<=900/\cs.length<=1000/\∀ c∈cs,c.body.length<=1000
theorem zsx(w:World)(v:Value)(cs:List zab)(h:CIn lo 171 w v cs)(hf:z7k cs) :
  Calls Tryz.prog 72 #[v] w fun e w'=>∃ v',e=.returned (.agg #[v'])/\SIn w.heap.size w' v' (zaw cs)/\Below w.heap.size w w':=by
 obtain⟨ao,cap,rfl⟩:=h.shape
 obtain⟨hf1,hf2,hf3⟩:=hf
 have HA:Hid (∀(W:World) (v:Value) (ns:List ByteArray) (l:zbu) (va:Value),SIn lo w va l.args->Below w.heap.size w W->zfq w.heap.size W (w.heap.size+1) v ns->ns.length+zka l<=900->Calls Tryz.prog 113 #[.pointer (some ⟨w.heap.size+1,0,none⟩),.agg #[.bool l.neg,.string l.pred,va]] W fun e w'=>e=.returned (.tuple #[])/\∃ v',zfq w.heap.size w' (w.heap.size+1) v' (zjs ns l)/\Below w.heap.size w w'/\zfe (w.heap.size+1) W w'):=fun W v ns l va a b c d=>z5f w W _ v ns l va a b c d
 have HE:Hid (zaw cs=cs.foldl zdd []):=rfl
 have HH:Hid (CIn lo 171 w (.slice ao cs.length cap) cs):=h
 have HLEN:Hid (∀ k (hk:k < cs.length),((cs.take k).foldl zdd []).length+zka cs[k].head+zl0 cs[k].body<=900):=fun k hk=>by
  have:=zkb (cs.take k) []
  have:=zyu cs k hk
  simp only[uch] at *
  omega
 have hb2:=(Box.new w #[.slice none 0 0] 141).below ((Below.refl _ _).alloc (uaa _) (.cells #[.slice none 0 0] 141))
 have hb3:=Box.new (w.alloc (.cells #[.slice none 0 0] 141)) #[.slice none 0 0] 141
 have hBA:Below w.heap.size w ((w.alloc (.cells #[.slice none 0 0] 141)).alloc (.cells #[.slice none 0 0] 141)):=(by go_grown)
 simp only[World.size_alloc] at hb3
 go_enter Tryz.func72,Tryz.ntmps72
 go_wp2
 generalize ((w.alloc (.cells #[.slice none 0 0] 141)).alloc (.cells #[.slice none 0 0] 141))=wA at *
 go_loopw [10] (fun v10 wr=>∃(k:Nat) (v':Value),k<=cs.length/\v10=.int .i64 k/\Hid (zfq w.heap.size wr (w.heap.size+1) v' ((cs.take k).foldl zdd []))/\Box wr w.heap.size #[.slice none 0 0] 141/\Below w.heap.size w wr) (fun i _=>cs.length - (intOf i).toNat)
 case atStart=>exact⟨0,_,uaj _,rfl,⟨by omega,hb3,SIn.nil _⟩,hb2,hBA⟩
 case round =>
  obtain⟨k,v',hk,rfl,HC,hb2k,hbk⟩:=hrel
  have hszk:=hbk.size
  by_cases hlt:k < cs.length
  ·obtain⟨g,ao2,cap2,ao3,cap3,hao,hg,q0,q1,q2,q3,hsh,hlb⟩:=HH.out.cell k hlt
   subst hao
   have hx0:=(hbk.cell (p:=⟨g,k * 4,none⟩) hg).trans q0
   have hx1:=(hbk.cell (p:=⟨g,k * 4+1,none⟩) hg).trans q1
   have hx2:=(hbk.cell (p:=⟨g,k * 4+2,none⟩) hg).trans q2
   have hx3:=(hbk.cell (p:=⟨g,k * 4+3,none⟩) hg).trans q3
   have hgr:g < wr.heap.size:=by omega
   have HS:Hid ((cs.take (k+1)).foldl zdd []=zdd ((cs.take k).foldl zdd []) cs[k]):=by rw[Hid,uae hlt,ubj];rfl
   have hlen:=HLEN.out k hlt
   have hbl:cs[k].body.length<=1000:=hf3 _ (uad hlt)
   have HCL:Hid (∀ a c,zdd a c=c.body.foldl zjs (zjs a c.head)):=fun _ _=>rfl
   clear q0 q1 q2 q3
   generalize (cs.take k).foldl zdd []=nk at *
   generalize cs[k]=c at *
   have HA1:Hid (∀ W,zfq w.heap.size W (w.heap.size+1) v' nk->Below w.heap.size w W->Calls Tryz.prog 113 #[.pointer (some ⟨w.heap.size+1,0,none⟩),.agg #[.bool c.head.neg,.string c.head.pred,.slice ao2 c.head.args.length cap2]] W fun e w'=>e=.returned (.tuple #[])/\∃ v',zfq w.heap.size w' (w.heap.size+1) v' (zjs nk c.head)/\Below w.heap.size w w'/\zfe (w.heap.size+1) W w'):=fun W a b=>HA.out W v' nk c.head _ hsh b a (by omega)
   have hcb:=(Box.new wr #[.bool c.head.neg,.string c.head.pred,.slice ao2 c.head.args.length cap2,.slice ao3 c.body.length cap3] 171)
   go_upto_region 6 with (first|(go_at_call 113;refine(HA1.out _ (HC.out.below (by go_grown)) (zae hbk (by go_grown) (uaa _))).mono ?_;rintro e w2 ⟨rfl,v2,hc2,hB2,hk2⟩))
   have hcbl:=HC.out.2.1.lt
   have hcb2:=hk2 _ _ _ (by omega) (by decide) hcb
   have hb22:=hk2 _ _ _ (by omega) (by decide) (hb2k.below ((Below.refl _ _).alloc (uaa _) _))
   obtain⟨hcc,hcf⟩:=hcb2.rules
   have hcl:=hcb2.lt
   have hz2:=hB2.size
   have HC2:Hid (zfq w.heap.size w2 (w.heap.size+1) v2 (zjs nk c.head)):=hc2
   have HHL:Hid ((zjs nk c.head).length+zl0 c.body<=900):=by
    have:=zk5 c.head.args nk
    unfold zka at hlen
    unfold Hid zjs
    omega
   clear hk2 hcb hc2 hx0 hx1 hx2 hx3
   go_wp2
   clear hcc hcf hcl
   obtain⟨ls,hls⟩:∃ ls,ls=c.body:=⟨_,rfl⟩
   have HLS:Hid (ls=c.body):=hls
   rw[← hls] at hlb hbl HHL ⊢
   clear hls
   obtain⟨n0,hn0⟩:∃ n0,n0=zjs nk c.head:=⟨_,rfl⟩
   have HN0:Hid (n0=zjs nk c.head):=hn0
   rw[← hn0] at HC2 HHL
   clear hn0
   go_loopw [20] (fun v20 wr=>∃(j:Nat) (v':Value),j<=ls.length/\v20=.int .i64 j/\Hid (zfq w.heap.size wr (w.heap.size+1) v' ((ls.take j).foldl zjs n0))/\Box wr w.heap.size #[.slice none 0 0] 141/\Below w.heap.size w wr) (fun i _=>ls.length - (intOf i).toNat)
   case atStart=>exact⟨0,_,uaj _,rfl,HC2,hb22,hB2⟩
   case round =>
    obtain⟨j,v3,hj,rfl,HC3,hb23,hbj⟩:=hrel
    have hszj:=hbj.size
    by_cases hltj:j < ls.length
    ·obtain⟨gl,ao4,cap4,hao,hgl,p0,p1,p2,hsl⟩:=hlb.cell j hltj
     subst hao
     have hy0:=(hbj.cell (p:=⟨gl,j * 3,none⟩) hgl).trans p0
     have hy1:=(hbj.cell (p:=⟨gl,j * 3+1,none⟩) hgl).trans p1
     have hy2:=(hbj.cell (p:=⟨gl,j * 3+2,none⟩) hgl).trans p2
     have hglr:gl < wr.heap.size:=by omega
     have HS2:Hid ((ls.take (j+1)).foldl zjs n0=zjs ((ls.take j).foldl zjs n0) ls[j]):=by rw[Hid,uae hltj,ubj];rfl
     have hlen2:((ls.take j).foldl zjs n0).length+zka ls[j]<=900:=by
      have:=zsl (ls.take j) n0
      have:=zyt ls j hltj
      have:=HHL.out
      omega
     clear p0 p1 p2
     generalize (ls.take j).foldl zjs n0=nj at *
     generalize ls[j]=l at *
     have HA2:Hid (∀ W,zfq w.heap.size W (w.heap.size+1) v3 nj->Below w.heap.size w W->Calls Tryz.prog 113 #[.pointer (some ⟨w.heap.size+1,0,none⟩),.agg #[.bool l.neg,.string l.pred,.slice ao4 l.args.length cap4]] W fun e w'=>e=.returned (.tuple #[])/\∃ v',zfq w.heap.size w' (w.heap.size+1) v' (zjs nj l)/\Below w.heap.size w w'/\zfe (w.heap.size+1) W w'):=fun W a b=>HA.out W v3 nj l _ hsl b a hlen2
     go_wp2_with (first|(go_at_call 113;refine(HA2.out _ (HC3.out.below (by go_grown)) (zae hbj (by go_grown) (uaa _))).mono ?_;rintro e w4 ⟨rfl,v4,hc4,hB4,hk4⟩;have HC4:Hid (zfq w.heap.size w4 (w.heap.size+1) v4 (zjs nj l)):=hc4;have hb24:=hk4 _ _ _ (by omega) (by decide) (hb23.below ((Below.refl _ _).alloc (uaa _) _));clear hc4 hk4))
     go_roundw
     case rel=>exact⟨j+1,v4,by omega,by go_num,by rw[HS2.out];exact HC4.out,hb24,hB4⟩
     case measure=>simp[intOf];omega
    ·rw[uam (by omega),HLS.out] at HC3
     have HQ:Hid (zfq w.heap.size wr (w.heap.size+1) v3 ((cs.take (k+1)).foldl zdd [])):=by rw[Hid,HS.out,HCL.out,← HN0.out];exact HC3.out
     go_wp2
     go_roundw
     case rel=>exact⟨k+1,v3,by omega,by go_num,HQ,hb23,hbj⟩
     case measure=>simp[intOf];omega
  ·rw[uam (by omega)] at HC
   obtain⟨aov,capv,rfl⟩:=HC.out.2.2.shape
   obtain⟨hq1,hq2,hq3⟩:=HC.out
   obtain⟨h3c,h3f⟩:=hq2.rules
   have h3l:=hq2.lt
   obtain⟨h2c,h2f⟩:=hb2k.rules
   have h2l:=hb2k.lt
   go_wp2
   (try simp only[Exit.inBlock,Exit.then])
   exact bodyPost_ret (v:=.agg #[.slice aov (cs.foldl zdd []).length capv]) (by simp[results,Tryz.results72,go_sem,h2c]) rfl ⟨_,rfl,by rw[HE.out];exact(hq3.but ((But.refl w.heap.size wr).setCell 0 _) hb2k (by decide)),hbk.setCell (by simp) _⟩
end Go.Proofs.YteampbddflhngaaGreat
