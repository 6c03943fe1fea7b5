import Derived.Test.YteampbddflhngaaGreatB09
import Derived.Deep.LoopGhost

namespace Go.Proofs.YteampbddflhngaaGreat
set_option maxRecDepth 100000
set_option maxHeartbeats 2000000
open Go.RowKit
variable {lo:Nat}
def halves (ns:List ByteArray) (x:ByteArray):Nat->Nat->Nat->Nat
  | 0,l,_=>l
  | n+1,l,h=>if l < h then (if ltB (ns.getD (l+(h - l) / 2) ByteArray.empty) x then halves ns x n (l+(h - l) / 2+1) h else halves ns x n l (l+(h - l) / 2)) else l
def placeC (ns:List ByteArray) (x:ByteArray):Nat:=halves ns x (ns.length+1) 0 ns.length
def CTab (lo:Nat) (w:World) (cb:Nat) (ns:List ByteArray):Prop:=lo<=cb/\∃ v,Box w cb #[v] 141/\SIn lo w v ns
theorem CTab.below {w w':World} {cb:Nat} {ns:List ByteArray} (h:CTab lo w cb ns) (hb:Below w.heap.size w w'):CTab lo w' cb ns:=by
  obtain ⟨h1,v,h2,h3⟩:=h;exact ⟨h1,v,h2.below hb,h3.below hb⟩
theorem cplace_any (w:World) (cb:Nat) (ns:List ByteArray) (x:ByteArray) (h:CTab lo w cb ns) (hl:ns.length<=1000) :
    Calls Tryz.prog 168 #[.pointer (some ⟨cb,0,none⟩),.string x] w fun e w'=>e=.returned (.int .i64 (placeC ns x:Nat))/\∃ m,w'=w.drewN m:=by
  obtain ⟨_,v,hbx,hs⟩:=h
  obtain ⟨ao,cap,rfl⟩:=hs.shape
  obtain ⟨hc,hf⟩:=hbx.rules
  have hlt:=hbx.lt
  go_enter Tryz.func168,Tryz.ntmps168
  go_wp2
  go_quiet (fail)
  have hB:Below w.heap.size w (w.drewN nq):=bdrewN (Below.refl _ _) _
  have hbx2:=hbx.below hB
  have hs2:=hs.below hB
  have HEX:Hid (∃ m,w.drewN nq=w.drewN m):=⟨nq,rfl⟩
  clear hc hf hlt
  generalize w.drewN nq=w1 at *
  obtain ⟨hc,hf⟩:=hbx2.rules
  have hlt:=hbx2.lt
  go_wp2
  go_loopg [5,6] (ns.length+1) (fun k v5 v6 wr=>∃ l h:Nat,v5=.int .i64 l/\v6=.int .i64 h/\h<=ns.length/\l<=ns.length/\h - l < k/\Hid (placeC ns x=halves ns x k l h)/\wr=w1)
  case atStart=>exact ⟨0,ns.length,rfl,rfl,by omega,by omega,by omega,rfl,rfl⟩
  case round =>
    obtain ⟨l,h,rfl,rfl,hh,hll,hgk,HP,rfl⟩:=hrel
    cases gk with
    | zero=>omega
    | succ m =>
      by_cases hlh:l < h
      · obtain ⟨md,hmd⟩:∃ md,md=l+(h - l) / 2:=⟨_,rfl⟩
        have hm1:l<=md:=by omega
        have hm2:md < h:=by omega
        have hmI:(l:Int)+((h:Int) - (l:Int)).tdiv 2=(md:Int):=by
          rw [Int.tdiv_eq_ediv_of_nonneg (by omega)];omega
        have hmn:md < ns.length:=by omega
        have q:=HP.out
        unfold halves at q
        rw [if_pos hlh,← hmd,show ns.getD md ByteArray.empty=ns[md] from by simp [List.getD_eq_getElem?_getD,hmn]] at q
        obtain ⟨g,rfl,hg,hcell⟩:=hs2.cell md hmn
        clear hmd
        cases hL:ltB ns[md] x with
        | true =>
          rw [hL,if_pos rfl] at q
          have HQ:Hid (placeC ns x=halves ns x m (md+1) h):=q
          unfold ltB at hL
          clear q HP
          generalize ns[md]=y at *
          go_wp2
          go_roundg m
          case measure=>omega
          case rel=>exact ⟨md+1,h,by go_num,rfl,hh,by omega,by omega,HQ,rfl⟩
        | false =>
          rw [hL,if_neg (by simp)] at q
          have HQ:Hid (placeC ns x=halves ns x m l md):=q
          unfold ltB at hL
          clear q HP
          generalize ns[md]=y at *
          go_wp2
          go_roundg m
          case measure=>omega
          case rel=>exact ⟨l,md,rfl,rfl,by omega,hll,by omega,HQ,rfl⟩
      · have q:=HP.out
        unfold halves at q
        rw [if_neg hlh] at q
        have HQ:Hid (placeC ns x=l):=q
        clear q HP
        go_wp2
        go_ret
        exact ⟨by rw [HQ.out];rfl,HEX.out⟩
def valueC (ns:List ByteArray) (x:ByteArray):Option Nat:=if placeC ns x < ns.length/\ns.getD (placeC ns x) ByteArray.empty=x then some (placeC ns x) else none
theorem cvalue_any (w:World) (cb:Nat) (ns:List ByteArray) (x:ByteArray) (h:CTab lo w cb ns) (hl:ns.length<=1000) :
    Calls Tryz.prog 129 #[.pointer (some ⟨cb,0,none⟩),.string x] w fun e w'=>e=.returned (.tuple #[.int .i64 (((valueC ns x).getD 0:Nat):Int),.bool (valueC ns x).isSome])/\∃ m,w'=w.drewN m:=by
  have HP:Hid (Calls Tryz.prog 168 #[.pointer (some ⟨cb,0,none⟩),.string x] w fun e w'=>e=.returned (.int .i64 (placeC ns x:Nat))/\∃ m,w'=w.drewN m):=cplace_any w cb ns x h hl
  obtain ⟨_,v,hbx,hs⟩:=h
  obtain ⟨ao,cap,rfl⟩:=hs.shape
  have HE:Hid (valueC ns x=if placeC ns x < ns.length/\ns.getD (placeC ns x) ByteArray.empty=x then some (placeC ns x) else none):=rfl
  generalize placeC ns x=pc at *
  by_cases h1:pc < ns.length
  · have eg:ns.getD pc ByteArray.empty=ns[pc]:=by simp [List.getD_eq_getElem?_getD,h1]
    rw [eg] at HE
    by_cases h2:ns[pc]=x
    · rw [if_pos ⟨h1,h2⟩] at HE
      obtain ⟨g,rfl,hg,hcell⟩:=hs.cell pc h1
      have hse:=seq_true h2
      clear h2 eg
      generalize ns[pc]=y at *
      go_enter Tryz.func129,Tryz.ntmps129
      go_wp2_with (first | (go_at_call 168;refine HP.out.mono ?_;rintro r w' ⟨rfl,m,rfl⟩;have hbx2:=hbx.below (bdrewN (Below.refl _ _) m);obtain ⟨hc,hf⟩:=hbx2.rules;have hlt:=hbx2.lt;have hx:=((bdrewN (Below.refl w.heap.size w) m).cell (p:=⟨g,pc,none⟩) hg).trans hcell;have hg2:g < (w.drewN m).heap.size:=hg))
      go_ret2
      exact ⟨by rw [HE.out];rfl,m,rfl⟩
    · rw [if_neg (fun q=>h2 q.2)] at HE
      obtain ⟨g,rfl,hg,hcell⟩:=hs.cell pc h1
      have hse:=seq_false h2
      clear h2 eg
      generalize ns[pc]=y at *
      go_enter Tryz.func129,Tryz.ntmps129
      go_wp2_with (first | (go_at_call 168;refine HP.out.mono ?_;rintro r w' ⟨rfl,m,rfl⟩;have hbx2:=hbx.below (bdrewN (Below.refl _ _) m);obtain ⟨hc,hf⟩:=hbx2.rules;have hlt:=hbx2.lt;have hx:=((bdrewN (Below.refl w.heap.size w) m).cell (p:=⟨g,pc,none⟩) hg).trans hcell;have hg2:g < (w.drewN m).heap.size:=hg))
      go_ret2
      exact ⟨by rw [HE.out];rfl,m,rfl⟩
  · rw [if_neg (fun q=>h1 q.1)] at HE
    have h1':ns.length<=pc:=by omega
    go_enter Tryz.func129,Tryz.ntmps129
    go_wp2_with (first | (go_at_call 168;refine HP.out.mono ?_;rintro r w' ⟨rfl,m,rfl⟩;have hbx2:=hbx.below (bdrewN (Below.refl _ _) m);obtain ⟨hc,hf⟩:=hbx2.rules;have hlt:=hbx2.lt))
    go_ret2
    exact ⟨by rw [HE.out];rfl,m,rfl⟩
end Go.Proofs.YteampbddflhngaaGreat

namespace Go.Proofs.YteampbddflhngaaGreat
set_option maxRecDepth 100000
set_option maxHeartbeats 2000000
open Go.RowKit
variable {lo:Nat}
theorem ccount_any (w:World) (cb:Nat) (ns:List ByteArray) (h:CTab lo w cb ns) :
    Calls Tryz.prog 114 #[.pointer (some ⟨cb,0,none⟩)] w fun e w'=>e=.returned (.int .i64 (ns.length:Nat))/\w'=w:=by
  obtain ⟨_,v,hbx,hs⟩:=h
  obtain ⟨ao,cap,rfl⟩:=hs.shape
  obtain ⟨hc,hf⟩:=hbx.rules
  have hlt:=hbx.lt
  clear hs
  go_enter Tryz.func114,Tryz.ntmps114
  go_wp2
  go_ret
  exact ⟨rfl,rfl⟩
end Go.Proofs.YteampbddflhngaaGreat

namespace Go.Proofs.YteampbddflhngaaGreat
set_option maxRecDepth 100000
set_option maxHeartbeats 2000000
open Go.RowKit
variable {lo:Nat}
def CTabV (lo:Nat) (w:World) (cb:Nat) (v:Value) (ns:List ByteArray):Prop:=lo<=cb/\Box w cb #[v] 141/\SIn lo w v ns
theorem CTabV.tab {w:World} {cb:Nat} {v:Value} {ns:List ByteArray} (h:CTabV lo w cb v ns):CTab lo w cb ns:=⟨h.1,v,h.2.1,h.2.2⟩
theorem CTabV.below {w w':World} {cb:Nat} {v:Value} {ns:List ByteArray} (h:CTabV lo w cb v ns) (hb:Below w.heap.size w w'):CTabV lo w' cb v ns:=⟨h.1,h.2.1.below hb,h.2.2.below hb⟩
def insC (ns:List ByteArray) (x:ByteArray):List ByteArray:=if placeC ns x < ns.length/\ns.getD (placeC ns x) ByteArray.empty=x then ns else ns.take (placeC ns x)++x::ns.drop (placeC ns x)
def InsPost (lo:Nat) (w:World) (cb:Nat) (v:Value) (ns:List ByteArray) (e:Ending) (w':World):Prop:=e=.returned (.tuple #[])/\∃ v',CTabV lo w' cb v' ns/\Save (cb::v.ownBlock.toList) w w'/\(v'.ownBlock=v.ownBlock∨∃ g,v'.ownBlock=some g/\w.heap.size<=g)
theorem slide (ns:List ByteArray) (x:ByteArray) (k:Nat) (hk:k < ns.length):(((ns.take (k+1)++x::ns.drop (k+1)).set (k+1) ns[k]).set k x)=ns.take k++x::ns.drop k:=by
  have e1:(ns.take k).length=k:=by simp;omega
  rw [List.take_succ_eq_append_getElem hk,List.drop_eq_getElem_cons hk,List.append_assoc,List.set_append_right _ _ (by omega),e1,show k+1 - k=1 from by omega,List.set_append_right _ _ (by omega),e1,Nat.sub_self]
  rfl
theorem cinsert_any (w:World) (cb:Nat) (v:Value) (ns:List ByteArray) (x:ByteArray) (h:CTabV lo w cb v ns) (hl:ns.length<=900) :
    Calls Tryz.prog 157 #[.pointer (some ⟨cb,0,none⟩),.string x] w fun e w'=>InsPost lo w cb v (insC ns x) e w':=by
  have HP:Hid (Calls Tryz.prog 168 #[.pointer (some ⟨cb,0,none⟩),.string x] w fun e w'=>e=.returned (.int .i64 (placeC ns x:Nat))/\∃ m,w'=w.drewN m):=cplace_any w cb ns x h.tab (by omega)
  have HH:Hid (CTabV lo w cb v ns):=h
  obtain ⟨hlo,hbx,hs⟩:=h
  obtain ⟨ao,cap,rfl⟩:=hs.shape
  have HE:Hid (insC ns x=if placeC ns x < ns.length/\ns.getD (placeC ns x) ByteArray.empty=x then ns else ns.take (placeC ns x)++x::ns.drop (placeC ns x)):=rfl
  generalize placeC ns x=pc at *
  by_cases hin:pc < ns.length/\ns.getD pc ByteArray.empty=x
  · rw [if_pos hin] at HE
    obtain ⟨h1,h2⟩:=hin
    rw [show ns.getD pc ByteArray.empty=ns[pc] from by simp [List.getD_eq_getElem?_getD,h1]] at h2
    obtain ⟨g,rfl,hg,hcell⟩:=hs.cell pc h1
    have hse:=seq_true h2
    clear h2
    generalize ns[pc]=y at *
    go_enter Tryz.func157,Tryz.ntmps157
    go_wp2_with (first | (go_at_call 168;refine HP.out.mono ?_;rintro r w' ⟨rfl,m,rfl⟩;have hbx2:=hbx.below (bdrewN (Below.refl _ _) m);obtain ⟨hc,hf⟩:=hbx2.rules;have hlt:=hbx2.lt;have hx:=((bdrewN (Below.refl w.heap.size w) m).cell (p:=⟨g,pc,none⟩) hg).trans hcell;have hg2:g < (w.drewN m).heap.size:=hg))
    (try simp only [Exit.inBlock,Exit.then]);refine bodyPost_ret (results_none rfl _ _ _) rfl ?_
    exact ⟨rfl,_,by rw [HE.out];exact HH.out.below (bdrewN (Below.refl _ _) m),Save.of (bdrewN (Below.refl _ _) m),Or.inl rfl⟩
  · rw [if_neg hin] at HE
    obtain ⟨i0,hi,hz0,hzs,hzb⟩:=info_parts Tryz.infoString
    have HNI:Hid (∀ m,pc < ns.length->∃ (y:ByteArray) (g:Nat),ao=some ⟨g,0,none⟩/\g < (w.drewN m).heap.size/\(w.drewN m).cell? ⟨g,pc,none⟩=some (.string y)/\(y.toList == x.toList)=false):=fun m h1=>by
      obtain ⟨g,e,hg,hcell⟩:=hs.cell pc h1
      have hn:ns[pc]≠x:=fun q=>hin ⟨h1,by rw [← q];simp [List.getD_eq_getElem?_getD,h1]⟩
      exact ⟨ns[pc],g,e,hg,((bdrewN (Below.refl w.heap.size w) m).cell (p:=⟨g,pc,none⟩) hg).trans hcell,seq_false hn⟩
    have hlow:lo<=w.heap.size:=by have:=hbx.lt;omega
    by_cases h1:pc < ns.length
    · obtain ⟨yy,gg,e1,_⟩:=HNI.out 0 h1
      subst e1
      go_enter Tryz.func157,Tryz.ntmps157
      go_wp2_with (first | (go_at_call 168;refine HP.out.mono ?_;rintro r w' ⟨rfl,m,rfl⟩;have hB1:Below w.heap.size w (w.drewN m):=(bdrewN (Below.refl _ _) m);have hbx2:=hbx.below hB1;obtain ⟨hc,hf⟩:=hbx2.rules;have hlt:=hbx2.lt;have hs2:=hs.below hB1;obtain ⟨y,g,e1,hg,hx,hse⟩:=HNI.out m h1;simp only [Option.some.injEq,Addr.mk.injEq] at e1;obtain ⟨rfl,_⟩:=e1) | (at_builtin;refine wpList_push2 (w.drewN m) _ [.string x] _ rfl (.tmp 31) (.tmp 33) 30 rfl lo 9 i0 _ 1 16 Tryz.underlying30 hi hz0 hzs hzb rfl (by decide) (.slice (some ⟨gg,0,none⟩) ns.length cap) ns.length (ns.map Value.string) rfl hs2 (Below.refl _ _) _ _ rfl (by simp) rfl (by simp [Value.oneCell']) (by omega) (by omega) (by omega) ?_;intro v' w3 ho3 hS3 hat3;obtain ⟨ao4,cap4,rfl⟩:=own_view ho3;have hbx3:=hbx2.save hS3 (own_ne_list hs2 hbx2 (by decide));obtain ⟨hc3,hf3⟩:=hbx3.rules;have hlt3:=hbx3.lt))
      obtain ⟨g4,cap5,hv4,hg4lo,hg4,_⟩:=own_cells ho3 (by omega)
      simp only [Value.slice.injEq] at hv4
      obtain ⟨rfl,_,hcap⟩:=hv4
      clear hcap
      have hne4:g4≠cb:=own_ne_box ho3 hbx3 (by decide) rfl
      have hbx5:=hbx3.set 0 (.slice (some ⟨g4,0,none⟩) (ns.length+1) cap4)
      simp at hbx5
      have hs5:SIn lo (w3.setCell ⟨cb,0,none⟩ (.slice (some ⟨g4,0,none⟩) (ns.length+1) cap4)) (.slice (some ⟨g4,0,none⟩) (ns.length+1) cap4) (ns.take ns.length++x::ns.drop ns.length):=by
        have q:=own_but ho3 ((But.refl cb w3).setCell 0 (.slice (some ⟨g4,0,none⟩) (ns.length+1) cap4)) hbx3 (by decide)
        unfold SIn
        simpa using q
      have hg4m:∀ y∈[g4],y∈cb::(Value.slice (some ⟨gg,0,none⟩) ns.length cap).ownBlock.toList∨w.heap.size<=y:=fun y hy=>by
        simp only [List.mem_singleton] at hy
        subst hy
        rcases hat3 with q | ⟨g,q,hg⟩
        · left
          simp only [List.mem_cons]
          right
          rw [← q]
          simp [Value.ownBlock]
        · right
          simp only [Value.ownBlock,Option.some.injEq] at q
          have:=hB1.size
          omega
      have hsv5:Save (cb::(Value.slice (some ⟨gg,0,none⟩) ns.length cap).ownBlock.toList) w (w3.setCell ⟨cb,0,none⟩ (.slice (some ⟨g4,0,none⟩) (ns.length+1) cap4)):=((Save.of (M:=cb::(Value.slice (some ⟨gg,0,none⟩) ns.length cap).ownBlock.toList) hB1).newer hS3 (fun y hy=>Or.inl (List.mem_cons_of_mem _ hy))).newer (Save.set _ _ _ _) (fun y hy=>Or.inl (by simp at hy;simp [hy]))
      have hat5:(Value.slice (some ⟨g4,0,none⟩) (ns.length+1) cap4).ownBlock=(Value.slice (some ⟨gg,0,none⟩) ns.length cap).ownBlock∨∃ g,(Value.slice (some ⟨g4,0,none⟩) (ns.length+1) cap4).ownBlock=some g/\w.heap.size<=g:=hat3.imp id (fun ⟨g,q1,q2⟩=>⟨g,q1,by have:=hB1.size;omega⟩)
      clear hc hf hlt hc3 hf3 hlt3 hS3 hat3 ho3
      generalize w3.setCell ⟨cb,0,none⟩ (.slice (some ⟨g4,0,none⟩) (ns.length+1) cap4)=w5 at *
      generalize decide (pc < ns.length)=bq
      go_loopw [5] (fun v5 wr=>∃ k:Nat,v5=.int .i64 k/\k<=ns.length/\(pc<=k∨k=ns.length)/\Box wr cb #[.slice (some ⟨g4,0,none⟩) (ns.length+1) cap4] 141/\SIn lo wr (.slice (some ⟨g4,0,none⟩) (ns.length+1) cap4) (ns.take k++x::ns.drop k)/\Save (cb::(Value.slice (some ⟨gg,0,none⟩) ns.length cap).ownBlock.toList) w wr) (fun i _=>(intOf i).toNat)
      case atStart=>exact ⟨ns.length,by go_num,Nat.le_refl _,Or.inr rfl,hbx5,hs5,hsv5⟩
      case round =>
        obtain ⟨k,rfl,hk,hor,hbk,hsk,hsvk⟩:=hrel
        obtain ⟨hc,hf⟩:=hbk.rules
        have hlt:=hbk.lt
        by_cases hkp:pc < k
        · obtain ⟨j,rfl⟩:∃ j,k=j+1:=⟨k - 1,by omega⟩
          have hj:j < ns.length:=by omega
          have hlen:(ns.take (j+1)++x::ns.drop (j+1)).length=ns.length+1:=by simp;omega
          have hg4k:g4 < wr.heap.size:=own_lt hsk rfl
          have hff:=own_free hsk
          obtain ⟨_,e0,_,hx0⟩:=hsk.cell j (by omega)
          obtain ⟨_,e1,_,hx1⟩:=hsk.cell (j+1) (by omega)
          simp only [Option.some.injEq,Addr.mk.injEq] at e0 e1
          obtain ⟨rfl,_⟩:=e0
          obtain ⟨rfl,_⟩:=e1
          have ej:(ns.take (j+1)++x::ns.drop (j+1))[j]'(by omega)=ns[j]:=by
            rw [List.getElem_append_left (by simp;omega)]
            simp
          rw [ej] at hx0
          have q1:=own_set hsk (j+1) (by simp;omega) (.string ns[j])
          have q2:=own_set q1 j (by simp;omega) (.string x)
          have el:(((ns.take (j+1)++x::ns.drop (j+1)).map Value.string).set (j+1) (.string ns[j])).set j (.string x)=(ns.take j++x::ns.drop j).map Value.string:=by
            rw [← List.map_set,← List.map_set,slide ns x j hj]
          rw [el] at q2
          have hlen2:(ns.take j++x::ns.drop j).length=ns.length+1:=by simp;omega
          have hq3:SIn lo ((wr.setCell ⟨g4,j+1,none⟩ (.string ns[j])).setCell ⟨g4,j,none⟩ (.string x)) (.slice (some ⟨g4,0,none⟩) (ns.length+1) cap4) (ns.take j++x::ns.drop j):=by
            unfold SIn
            rw [hlen2]
            rw [hlen] at q2
            exact q2
          have hbk2:=(hbk.set_ne (Ne.symm hne4) (j+1) (.string ns[j])).set_ne (Ne.symm hne4) j (.string x)
          have hsv2:=(hsvk.newer (Save.set wr g4 (j+1) (.string ns[j])) hg4m).newer (Save.set _ g4 j (.string x)) hg4m
          generalize (ns.take (j+1)++x::ns.drop (j+1))[j+1]'(by omega)=zz at *
          clear ej q1 q2 el
          generalize ns[j]=yj at *
          have hjI:(j:Int) < (ns.length:Int):=by omega
          go_wp2
          go_region
          all_goals
            go_wp2
            go_roundw
            case rel=>exact ⟨j,by go_num,by omega,Or.inl (by omega),hbk2.below (Below.refl _ _).drew,hq3.below (Below.refl _ _).drew,hsv2.newer (Save.of (M:=[]) (Below.refl _ _).drew) (by simp)⟩
            case measure=>simp [intOf]
        · have HEQ:Hid (ns.take k++x::ns.drop k=ns.take pc++x::ns.drop pc):=by
            rw [Hid]
            by_cases e:k=pc
            · rw [e]
            · obtain rfl:k=ns.length:=by omega
              rw [List.take_of_length_le (Nat.le_refl _),List.drop_of_length_le (Nat.le_refl _),List.take_of_length_le (by omega),List.drop_of_length_le (by omega)]
          go_wp2
          go_end0
          exact ⟨rfl,_,by rw [HE.out,← HEQ.out];exact ⟨hlo,hbk,hsk⟩,hsvk,hat5⟩
    · have h1':ns.length<=pc:=by omega
      go_enter Tryz.func157,Tryz.ntmps157
      go_wp2_with (first | (go_at_call 168;refine HP.out.mono ?_;rintro r w' ⟨rfl,m,rfl⟩;have hB1:Below w.heap.size w (w.drewN m):=(bdrewN (Below.refl _ _) m);have hbx2:=hbx.below hB1;obtain ⟨hc,hf⟩:=hbx2.rules;have hlt:=hbx2.lt;have hs2:=hs.below hB1) | (at_builtin;refine wpList_push2 (w.drewN m) _ [.string x] _ rfl (.tmp 31) (.tmp 33) 30 rfl lo 9 i0 _ 1 16 Tryz.underlying30 hi hz0 hzs hzb rfl (by decide) (.slice ao ns.length cap) ns.length (ns.map Value.string) rfl hs2 (Below.refl _ _) _ _ rfl (by simp) rfl (by simp [Value.oneCell']) (by omega) (by omega) (by omega) ?_;intro v' w3 ho3 hS3 hat3;obtain ⟨ao4,cap4,rfl⟩:=own_view ho3;have hbx3:=hbx2.save hS3 (own_ne_list hs2 hbx2 (by decide));obtain ⟨hc3,hf3⟩:=hbx3.rules;have hlt3:=hbx3.lt))
      obtain ⟨g4,cap5,hv4,hg4lo,hg4,_⟩:=own_cells ho3 (by omega)
      simp only [Value.slice.injEq] at hv4
      obtain ⟨rfl,_,hcap⟩:=hv4
      clear hcap
      have hne4:g4≠cb:=own_ne_box ho3 hbx3 (by decide) rfl
      have hbx5:=hbx3.set 0 (.slice (some ⟨g4,0,none⟩) (ns.length+1) cap4)
      simp at hbx5
      have hs5:SIn lo (w3.setCell ⟨cb,0,none⟩ (.slice (some ⟨g4,0,none⟩) (ns.length+1) cap4)) (.slice (some ⟨g4,0,none⟩) (ns.length+1) cap4) (ns.take ns.length++x::ns.drop ns.length):=by
        have q:=own_but ho3 ((But.refl cb w3).setCell 0 (.slice (some ⟨g4,0,none⟩) (ns.length+1) cap4)) hbx3 (by decide)
        unfold SIn
        simpa using q
      have hg4m:∀ y∈[g4],y∈cb::(Value.slice ao ns.length cap).ownBlock.toList∨w.heap.size<=y:=fun y hy=>by
        simp only [List.mem_singleton] at hy
        subst hy
        rcases hat3 with q | ⟨g,q,hg⟩
        · left
          simp only [List.mem_cons]
          right
          rw [← q]
          simp [Value.ownBlock]
        · right
          simp only [Value.ownBlock,Option.some.injEq] at q
          have:=hB1.size
          omega
      have hsv5:Save (cb::(Value.slice ao ns.length cap).ownBlock.toList) w (w3.setCell ⟨cb,0,none⟩ (.slice (some ⟨g4,0,none⟩) (ns.length+1) cap4)):=((Save.of (M:=cb::(Value.slice ao ns.length cap).ownBlock.toList) hB1).newer hS3 (fun y hy=>Or.inl (List.mem_cons_of_mem _ hy))).newer (Save.set _ _ _ _) (fun y hy=>Or.inl (by simp at hy;simp [hy]))
      have hat5:(Value.slice (some ⟨g4,0,none⟩) (ns.length+1) cap4).ownBlock=(Value.slice ao ns.length cap).ownBlock∨∃ g,(Value.slice (some ⟨g4,0,none⟩) (ns.length+1) cap4).ownBlock=some g/\w.heap.size<=g:=hat3.imp id (fun ⟨g,q1,q2⟩=>⟨g,q1,by have:=hB1.size;omega⟩)
      clear hc hf hlt hc3 hf3 hlt3 hS3 hat3 ho3
      generalize w3.setCell ⟨cb,0,none⟩ (.slice (some ⟨g4,0,none⟩) (ns.length+1) cap4)=w5 at *
      generalize decide (pc < ns.length)=bq
      go_loopw [5] (fun v5 wr=>∃ k:Nat,v5=.int .i64 k/\k<=ns.length/\(pc<=k∨k=ns.length)/\Box wr cb #[.slice (some ⟨g4,0,none⟩) (ns.length+1) cap4] 141/\SIn lo wr (.slice (some ⟨g4,0,none⟩) (ns.length+1) cap4) (ns.take k++x::ns.drop k)/\Save (cb::(Value.slice ao ns.length cap).ownBlock.toList) w wr) (fun i _=>(intOf i).toNat)
      case atStart=>exact ⟨ns.length,by go_num,Nat.le_refl _,Or.inr rfl,hbx5,hs5,hsv5⟩
      case round =>
        obtain ⟨k,rfl,hk,hor,hbk,hsk,hsvk⟩:=hrel
        obtain ⟨hc,hf⟩:=hbk.rules
        have hlt:=hbk.lt
        by_cases hkp:pc < k
        · exact absurd hkp (by omega)
        · have HEQ:Hid (ns.take k++x::ns.drop k=ns.take pc++x::ns.drop pc):=by
            rw [Hid]
            by_cases e:k=pc
            · rw [e]
            · obtain rfl:k=ns.length:=by omega
              rw [List.take_of_length_le (Nat.le_refl _),List.drop_of_length_le (Nat.le_refl _),List.take_of_length_le (by omega),List.drop_of_length_le (by omega)]
          go_wp2
          go_end0
          exact ⟨rfl,_,by rw [HE.out,← HEQ.out];exact ⟨hlo,hbk,hsk⟩,hsvk,hat5⟩
end Go.Proofs.YteampbddflhngaaGreat
