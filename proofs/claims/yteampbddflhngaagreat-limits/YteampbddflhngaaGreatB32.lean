import Derived.Test.YteampbddflhngaaGreatB31
import Derived.Test.YteampbddflhngaaGreatB09
import Derived.Test.YteampbddflhngaaGreatB15

namespace Go.Proofs.YteampbddflhngaaGreat
set_option maxRecDepth 100000
set_option maxHeartbeats 4000000
open Go.RowKit
variable {lo:Nat}
def stepC (ns:List ByteArray) (t:ByteArray):List ByteArray:=if isVarB t then ns else insC ns t
def addC (ns:List ByteArray) (l:PLit):List ByteArray:=l.args.foldl stepC ns
def clauseC (ns:List ByteArray) (c:PClause):List ByteArray:=c.body.foldl addC (addC ns c.head)
def collectC (cs:List PClause):List ByteArray:=cs.foldl clauseC []
theorem stepC_len (ns:List ByteArray) (t:ByteArray):(stepC ns t).length<=ns.length+1:=by
  unfold stepC
  split
  · omega
  · unfold insC
    split
    · omega
    · simp only [List.length_append,List.length_cons,List.length_take,List.length_drop];omega
theorem foldC_len (ts:List ByteArray):∀ ns:List ByteArray,(ts.foldl stepC ns).length<=ns.length+ts.length:=by
  induction ts with
  | nil=>intro ns;simp
  | cons t ts ih=>intro ns;have:=ih (stepC ns t);have:=stepC_len ns t;simp only [List.foldl_cons,List.length_cons];omega
def argsN (l:PLit):Nat:=l.args.length
def argsB (ls:List PLit):Nat:=(ls.map argsN).sum
def argsC (cs:List PClause):Nat:=(cs.map fun c=>argsN c.head+argsB c.body).sum
theorem addsC_len (ls:List PLit):∀ ns:List ByteArray,(ls.foldl addC ns).length<=ns.length+argsB ls:=by
  induction ls with
  | nil=>intro ns;simp [argsB]
  | cons l ls ih=>intro ns;have:=ih (addC ns l);have:=foldC_len l.args ns;simp only [List.foldl_cons,argsB,List.map_cons,List.sum_cons,argsN] at *;unfold addC at *;omega
theorem clauseC_len (cs:List PClause):∀ ns:List ByteArray,(cs.foldl clauseC ns).length<=ns.length+argsC cs:=by
  induction cs with
  | nil=>intro ns;simp [argsC]
  | cons c cs ih=>intro ns;have:=ih (clauseC ns c);have:=addsC_len c.body (addC ns c.head);have:=foldC_len c.head.args ns;simp only [List.foldl_cons,argsC,List.map_cons,List.sum_cons] at *;unfold clauseC argsN at *;unfold addC at *;omega
theorem argsB_take (ls:List PLit) (k:Nat) (hk:k < ls.length):argsB (ls.take k)+argsN ls[k]<=argsB ls:=by
  have e:ls=ls.take k++ls[k]::ls.drop (k+1):=by rw [← List.drop_eq_getElem_cons hk,List.take_append_drop]
  conv=>rhs;rw [e]
  simp only [argsB,List.map_append,List.map_cons,List.sum_append,List.sum_cons]
  omega
theorem argsC_take (cs:List PClause) (k:Nat) (hk:k < cs.length):argsC (cs.take k)+(argsN cs[k].head+argsB cs[k].body)<=argsC cs:=by
  have e:cs=cs.take k++cs[k]::cs.drop (k+1):=by rw [← List.drop_eq_getElem_cons hk,List.take_append_drop]
  conv=>rhs;rw [e]
  simp only [argsC,List.map_append,List.map_cons,List.sum_append,List.sum_cons]
  omega
def KeepTab (cb:Nat) (w w':World):Prop:=∀ b c t,b≠cb->9≠t->Box w b c t->Box w' b c t
theorem KeepTab.of {cb:Nat} {w w':World} (h:Below w.heap.size w w'):KeepTab cb w w':=fun _ _ _ _ _ q=>q.below h
theorem KeepTab.trans {cb:Nat} {a b c:World} (h:KeepTab cb a b) (k:KeepTab cb b c):KeepTab cb a c:=fun _ _ _ n m q=>k _ _ _ n m (h _ _ _ n m q)
theorem InsPost.next {B:Nat} {w0 w w':World} {cb:Nat} {v:Value} {ns ns':List ByteArray} {e:Ending} (h0:CTabV B w cb v ns) (hb:Below B w0 w) (h:InsPost B w cb v ns' e w'):e=.returned (.tuple #[])/\∃ v',CTabV B w' cb v' ns'/\Below B w0 w'/\KeepTab cb w w':=by
  obtain ⟨rfl,v',h1,h2,h3⟩:=h
  refine ⟨rfl,v',h1,hb.trans (h2.below (fun x hx=>?_) ?_),fun b c t hn ht q=>q.save h2 fun hm=>?_⟩
  · simp only [List.mem_cons] at hx
    rcases hx with rfl | hx
    · exact h0.1
    · exact own_ge h0.2.2 (mem_own hx)
  · have:=h0.1;have:=h0.2.1.lt;omega
  · simp only [List.mem_cons] at hm
    rcases hm with rfl | hm
    · exact hn rfl
    · exact own_ne_box h0.2.2 q ht (mem_own hm) rfl
theorem cadd_any (w0 w:World) (cb:Nat) (v:Value) (ns:List ByteArray) (l:PLit) (va:Value) (hs:SIn lo w0 va l.args) (hW:Below w0.heap.size w0 w) (h:CTabV w0.heap.size w cb v ns) (hl:ns.length+argsN l<=900) :
    Calls Tryz.prog 113 #[.pointer (some ⟨cb,0,none⟩),.agg #[.bool l.neg,.string l.pred,va]] w fun e w'=>e=.returned (.tuple #[])/\∃ v',CTabV w0.heap.size w' cb v' (addC ns l)/\Below w0.heap.size w0 w'/\KeepTab cb w w':=by
  obtain ⟨ao,cap,rfl⟩:=hs.shape
  have HI:Hid (∀ (W:World) (v:Value) (ns:List ByteArray) (x:ByteArray),CTabV w0.heap.size W cb v ns->ns.length<=900->Calls Tryz.prog 157 #[.pointer (some ⟨cb,0,none⟩),.string x] W fun e w'=>InsPost w0.heap.size W cb v (insC ns x) e w'):=fun W v ns x a b=>cinsert_any W cb v ns x a b
  have HE:Hid (addC ns l=l.args.foldl stepC ns):=rfl
  have HT:Hid (CTabV w0.heap.size w cb v ns):=h
  have hcl:=h.2.1.lt
  have hz:=hW.size
  have hla:l.args.length<=900:=by unfold argsN at hl;omega
  have HLEN:Hid (∀ k,k < l.args.length->((l.args.take k).foldl stepC ns).length<=900):=fun k hk=>by
    have:=foldC_len (l.args.take k) ns
    simp only [List.length_take] at this
    unfold argsN at hl
    omega
  clear h hl
  generalize l.args=ts at *
  go_enter Tryz.func113,Tryz.ntmps113
  go_wp2
  go_loopw [9] (fun v9 wr=>∃ (k:Nat) (v':Value),k<=ts.length/\v9=.int .i64 k/\Hid (CTabV w0.heap.size wr cb v' ((ts.take k).foldl stepC ns))/\Below w0.heap.size w0 wr/\Hid (KeepTab cb w wr)) (fun i _=>ts.length - (intOf i).toNat)
  case atStart=>exact ⟨0,v,Nat.zero_le _,rfl,HT.out.below (by repeat' (first | with_reducible (first | exact Below.refl _ _ | assumption | refine bdrewN ?_ _ | refine Below.alloc ?_ ?_ _ | refine Below.drew ?_ | refine Below.setCell ?_ ?_ _) | go_size)),hW.alloc hz _,KeepTab.of (by repeat' (first | with_reducible (first | exact Below.refl _ _ | assumption | refine bdrewN ?_ _ | refine Below.alloc ?_ ?_ _ | refine Below.drew ?_ | refine Below.setCell ?_ ?_ _) | go_size))⟩
  case round =>
    obtain ⟨k,v',hk,rfl,HC,hbk,HK⟩:=hrel
    have hszk:=hbk.size
    by_cases hlt:k < ts.length
    · obtain ⟨g,rfl,hg,hcell⟩:=hs.cell k hlt
      have hx0:=(hbk.cell (p:=⟨g,k,none⟩) hg).trans hcell
      have hgr:g < wr.heap.size:=by omega
      have HS:Hid ((ts.take (k+1)).foldl stepC ns=stepC ((ts.take k).foldl stepC ns) ts[k]):=by rw [Hid,List.take_succ_eq_append_getElem hlt,List.foldl_append];rfl
      have hlen:=HLEN.out k hlt
      have HST:Hid (∀ a x,stepC a x=if isVarB x then a else insC a x):=fun _ _=>rfl
      clear hcell
      generalize (ts.take k).foldl stepC ns=nk at *
      generalize ts[k]=x at *
      cases hv:isVarB x with
      | true =>
        have HV:Hid (∀ W,Calls Tryz.prog 156 #[.string x] W fun e w'=>e=.returned (.bool true)/\w'=W):=fun W=>by rw [← hv];exact isVariable_any x W
        have HQ:Hid (stepC nk x=nk):=by rw [Hid,HST.out,hv];rfl
        clear hv
        go_wp2_with (first | (go_at_call 156;refine (HV.out _).mono ?_;rintro e w' ⟨rfl,hww⟩;obtain rfl:=hww.symm))
        go_roundw
        case rel=>exact ⟨k+1,v',by omega,by go_num,by rw [HS.out,HQ.out];exact HC.out,hbk,HK⟩
        case measure=>simp [intOf];omega
      | false =>
        have HV:Hid (∀ W,Calls Tryz.prog 156 #[.string x] W fun e w'=>e=.returned (.bool false)/\w'=W):=fun W=>by rw [← hv];exact isVariable_any x W
        have HQ:Hid (stepC nk x=insC nk x):=by rw [Hid,HST.out,hv];rfl
        clear hv
        go_wp2_with (first | (go_at_call 156;refine (HV.out _).mono ?_;rintro e w' ⟨rfl,hww⟩;obtain rfl:=hww.symm) | (go_at_call 157;refine (HI.out wr v' nk x HC.out hlen).mono ?_;intro e w2 hip;obtain ⟨rfl,v2,hc2,hb2,hk2⟩:=hip.next HC.out hbk;have HK2:Hid (KeepTab cb w w2):=HK.out.trans hk2;clear hk2;have HC2:Hid (CTabV w0.heap.size w2 cb v2 (insC nk x)):=hc2;clear hip hc2))
        go_roundw
        case rel=>exact ⟨k+1,v2,by omega,by go_num,by rw [HS.out,HQ.out];exact HC2.out,hb2,HK2⟩
        case measure=>simp [intOf];omega
    · rw [List.take_of_length_le (by omega)] at HC
      go_wp2
      go_end0
      exact ⟨rfl,v',by rw [HE.out];exact HC.out,hbk,HK.out⟩
def Few900 (cs:List PClause):Prop:=argsC cs<=900/\cs.length<=1000/\∀ c∈cs,c.body.length<=1000
theorem ccollect_any (w:World) (v:Value) (cs:List PClause) (h:CIn lo 171 w v cs) (hf:Few900 cs) :
    Calls Tryz.prog 72 #[v] w fun e w'=>∃ v',e=.returned (.agg #[v'])/\SIn w.heap.size w' v' (collectC cs)/\Below w.heap.size w w':=by
  obtain ⟨ao,cap,rfl⟩:=h.shape
  obtain ⟨hf1,hf2,hf3⟩:=hf
  have HA:Hid (∀ (W:World) (v:Value) (ns:List ByteArray) (l:PLit) (va:Value),SIn lo w va l.args->Below w.heap.size w W->CTabV w.heap.size W (w.heap.size+1) v ns->ns.length+argsN l<=900->Calls Tryz.prog 113 #[.pointer (some ⟨w.heap.size+1,0,none⟩),.agg #[.bool l.neg,.string l.pred,va]] W fun e w'=>e=.returned (.tuple #[])/\∃ v',CTabV w.heap.size w' (w.heap.size+1) v' (addC ns l)/\Below w.heap.size w w'/\KeepTab (w.heap.size+1) W w'):=fun W v ns l va a b c d=>cadd_any w W _ v ns l va a b c d
  have HE:Hid (collectC cs=cs.foldl clauseC []):=rfl
  have HH:Hid (CIn lo 171 w (.slice ao cs.length cap) cs):=h
  have HLEN:Hid (∀ k (hk:k < cs.length),((cs.take k).foldl clauseC []).length+argsN cs[k].head+argsB cs[k].body<=900):=fun k hk=>by
    have:=clauseC_len (cs.take k) []
    have:=argsC_take cs k hk
    simp only [List.length_nil] at *
    omega
  have hb2:=(Box.new w #[.slice none 0 0] 141).below ((Below.refl _ _).alloc (Nat.le_refl _) (.cells #[.slice none 0 0] 141))
  have hb3:=Box.new (w.alloc (.cells #[.slice none 0 0] 141)) #[.slice none 0 0] 141
  have hBA:Below w.heap.size w ((w.alloc (.cells #[.slice none 0 0] 141)).alloc (.cells #[.slice none 0 0] 141)):=(by repeat' (first | with_reducible (first | exact Below.refl _ _ | assumption | refine bdrewN ?_ _ | refine Below.alloc ?_ ?_ _ | refine Below.drew ?_ | refine Below.setCell ?_ ?_ _) | go_size))
  simp only [World.size_alloc] at hb3
  go_enter Tryz.func72,Tryz.ntmps72
  go_wp2
  generalize ((w.alloc (.cells #[.slice none 0 0] 141)).alloc (.cells #[.slice none 0 0] 141))=wA at *
  go_loopw [10] (fun v10 wr=>∃ (k:Nat) (v':Value),k<=cs.length/\v10=.int .i64 k/\Hid (CTabV w.heap.size wr (w.heap.size+1) v' ((cs.take k).foldl clauseC []))/\Box wr w.heap.size #[.slice none 0 0] 141/\Below w.heap.size w wr) (fun i _=>cs.length - (intOf i).toNat)
  case atStart=>exact ⟨0,_,Nat.zero_le _,rfl,⟨by omega,hb3,SIn.nil _⟩,hb2,hBA⟩
  case round =>
    obtain ⟨k,v',hk,rfl,HC,hb2k,hbk⟩:=hrel
    have hszk:=hbk.size
    by_cases hlt:k < cs.length
    · obtain ⟨g,ao2,cap2,ao3,cap3,hao,hg,q0,q1,q2,q3,hsh,hlb⟩:=HH.out.cell k hlt
      subst hao
      have hx0:=(hbk.cell (p:=⟨g,k * 4,none⟩) hg).trans q0
      have hx1:=(hbk.cell (p:=⟨g,k * 4+1,none⟩) hg).trans q1
      have hx2:=(hbk.cell (p:=⟨g,k * 4+2,none⟩) hg).trans q2
      have hx3:=(hbk.cell (p:=⟨g,k * 4+3,none⟩) hg).trans q3
      have hgr:g < wr.heap.size:=by omega
      have HS:Hid ((cs.take (k+1)).foldl clauseC []=clauseC ((cs.take k).foldl clauseC []) cs[k]):=by rw [Hid,List.take_succ_eq_append_getElem hlt,List.foldl_append];rfl
      have hlen:=HLEN.out k hlt
      have hbl:cs[k].body.length<=1000:=hf3 _ (List.getElem_mem hlt)
      have HCL:Hid (∀ a c,clauseC a c=c.body.foldl addC (addC a c.head)):=fun _ _=>rfl
      clear q0 q1 q2 q3
      generalize (cs.take k).foldl clauseC []=nk at *
      generalize cs[k]=c at *
      have HA1:Hid (∀ W,CTabV w.heap.size W (w.heap.size+1) v' nk->Below w.heap.size w W->Calls Tryz.prog 113 #[.pointer (some ⟨w.heap.size+1,0,none⟩),.agg #[.bool c.head.neg,.string c.head.pred,.slice ao2 c.head.args.length cap2]] W fun e w'=>e=.returned (.tuple #[])/\∃ v',CTabV w.heap.size w' (w.heap.size+1) v' (addC nk c.head)/\Below w.heap.size w w'/\KeepTab (w.heap.size+1) W w'):=fun W a b=>HA.out W v' nk c.head _ hsh b a (by omega)
      have hcb:=(Box.new wr #[.bool c.head.neg,.string c.head.pred,.slice ao2 c.head.args.length cap2,.slice ao3 c.body.length cap3] 171)
      go_upto_region 6 with (first | (go_at_call 113;refine (HA1.out _ (HC.out.below (by repeat' (first | with_reducible (first | exact Below.refl _ _ | assumption | refine bdrewN ?_ _ | refine Below.alloc ?_ ?_ _ | refine Below.drew ?_ | refine Below.setCell ?_ ?_ _) | go_size))) (bnext hbk (by repeat' (first | with_reducible (first | exact Below.refl _ _ | assumption | refine bdrewN ?_ _ | refine Below.alloc ?_ ?_ _ | refine Below.drew ?_ | refine Below.setCell ?_ ?_ _) | go_size)) (Nat.le_refl _))).mono ?_;rintro e w2 ⟨rfl,v2,hc2,hB2,hk2⟩))
      have hcbl:=HC.out.2.1.lt
      have hcb2:=hk2 _ _ _ (by omega) (by decide) hcb
      have hb22:=hk2 _ _ _ (by omega) (by decide) (hb2k.below ((Below.refl _ _).alloc (Nat.le_refl _) _))
      obtain ⟨hcc,hcf⟩:=hcb2.rules
      have hcl:=hcb2.lt
      have hz2:=hB2.size
      have HC2:Hid (CTabV w.heap.size w2 (w.heap.size+1) v2 (addC nk c.head)):=hc2
      have HHL:Hid ((addC nk c.head).length+argsB c.body<=900):=by
        have:=foldC_len c.head.args nk
        unfold argsN at hlen
        unfold Hid addC
        omega
      clear hk2 hcb hc2 hx0 hx1 hx2 hx3
      go_wp2
      clear hcc hcf hcl
      obtain ⟨ls,hls⟩:∃ ls,ls=c.body:=⟨_,rfl⟩
      have HLS:Hid (ls=c.body):=hls
      rw [← hls] at hlb hbl HHL ⊢
      clear hls
      obtain ⟨n0,hn0⟩:∃ n0,n0=addC nk c.head:=⟨_,rfl⟩
      have HN0:Hid (n0=addC nk c.head):=hn0
      rw [← hn0] at HC2 HHL
      clear hn0
      go_loopw [20] (fun v20 wr=>∃ (j:Nat) (v':Value),j<=ls.length/\v20=.int .i64 j/\Hid (CTabV w.heap.size wr (w.heap.size+1) v' ((ls.take j).foldl addC n0))/\Box wr w.heap.size #[.slice none 0 0] 141/\Below w.heap.size w wr) (fun i _=>ls.length - (intOf i).toNat)
      case atStart=>exact ⟨0,_,Nat.zero_le _,rfl,HC2,hb22,hB2⟩
      case round =>
        obtain ⟨j,v3,hj,rfl,HC3,hb23,hbj⟩:=hrel
        have hszj:=hbj.size
        by_cases hltj:j < ls.length
        · obtain ⟨gl,ao4,cap4,hao,hgl,p0,p1,p2,hsl⟩:=hlb.cell j hltj
          subst hao
          have hy0:=(hbj.cell (p:=⟨gl,j * 3,none⟩) hgl).trans p0
          have hy1:=(hbj.cell (p:=⟨gl,j * 3+1,none⟩) hgl).trans p1
          have hy2:=(hbj.cell (p:=⟨gl,j * 3+2,none⟩) hgl).trans p2
          have hglr:gl < wr.heap.size:=by omega
          have HS2:Hid ((ls.take (j+1)).foldl addC n0=addC ((ls.take j).foldl addC n0) ls[j]):=by rw [Hid,List.take_succ_eq_append_getElem hltj,List.foldl_append];rfl
          have hlen2:((ls.take j).foldl addC n0).length+argsN ls[j]<=900:=by
            have:=addsC_len (ls.take j) n0
            have:=argsB_take ls j hltj
            have:=HHL.out
            omega
          clear p0 p1 p2
          generalize (ls.take j).foldl addC n0=nj at *
          generalize ls[j]=l at *
          have HA2:Hid (∀ W,CTabV w.heap.size W (w.heap.size+1) v3 nj->Below w.heap.size w W->Calls Tryz.prog 113 #[.pointer (some ⟨w.heap.size+1,0,none⟩),.agg #[.bool l.neg,.string l.pred,.slice ao4 l.args.length cap4]] W fun e w'=>e=.returned (.tuple #[])/\∃ v',CTabV w.heap.size w' (w.heap.size+1) v' (addC nj l)/\Below w.heap.size w w'/\KeepTab (w.heap.size+1) W w'):=fun W a b=>HA.out W v3 nj l _ hsl b a hlen2
          go_wp2_with (first | (go_at_call 113;refine (HA2.out _ (HC3.out.below (by repeat' (first | with_reducible (first | exact Below.refl _ _ | assumption | refine bdrewN ?_ _ | refine Below.alloc ?_ ?_ _ | refine Below.drew ?_ | refine Below.setCell ?_ ?_ _) | go_size))) (bnext hbj (by repeat' (first | with_reducible (first | exact Below.refl _ _ | assumption | refine bdrewN ?_ _ | refine Below.alloc ?_ ?_ _ | refine Below.drew ?_ | refine Below.setCell ?_ ?_ _) | go_size)) (Nat.le_refl _))).mono ?_;rintro e w4 ⟨rfl,v4,hc4,hB4,hk4⟩;have HC4:Hid (CTabV w.heap.size w4 (w.heap.size+1) v4 (addC nj l)):=hc4;have hb24:=hk4 _ _ _ (by omega) (by decide) (hb23.below ((Below.refl _ _).alloc (Nat.le_refl _) _));clear hc4 hk4))
          go_roundw
          case rel=>exact ⟨j+1,v4,by omega,by go_num,by rw [HS2.out];exact HC4.out,hb24,hB4⟩
          case measure=>simp [intOf];omega
        · rw [List.take_of_length_le (by omega),HLS.out] at HC3
          have HQ:Hid (CTabV w.heap.size wr (w.heap.size+1) v3 ((cs.take (k+1)).foldl clauseC [])):=by rw [Hid,HS.out,HCL.out,← HN0.out];exact HC3.out
          go_wp2
          go_roundw
          case rel=>exact ⟨k+1,v3,by omega,by go_num,HQ,hb23,hbj⟩
          case measure=>simp [intOf];omega
    · rw [List.take_of_length_le (by omega)] at HC
      obtain ⟨aov,capv,rfl⟩:=HC.out.2.2.shape
      obtain ⟨hq1,hq2,hq3⟩:=HC.out
      obtain ⟨h3c,h3f⟩:=hq2.rules
      have h3l:=hq2.lt
      obtain ⟨h2c,h2f⟩:=hb2k.rules
      have h2l:=hb2k.lt
      go_wp2
      (try simp only [Exit.inBlock,Exit.then])
      exact bodyPost_ret (v:=.agg #[.slice aov (cs.foldl clauseC []).length capv]) (by simp [results,Tryz.results72,go_sem,h2c]) rfl ⟨_,rfl,by rw [HE.out];exact (hq3.but ((But.refl w.heap.size wr).setCell 0 _) hb2k (by decide)),hbk.setCell (by simp) _⟩
end Go.Proofs.YteampbddflhngaaGreat

namespace Go.Proofs.YteampbddflhngaaGreat
set_option maxRecDepth 100000
set_option maxHeartbeats 1000000
open Go.RowKit
variable {lo:Nat}
def TG (B:Nat) (w:World) (tb o:Nat) (t:List PEnt):Prop:=∃ pv,tb < w.heap.size/\w.cell? ⟨tb,o,none⟩=some pv/\w.ownsRow B 221 3 pv t.length (pcells t)
theorem TG.below {B:Nat} {w w':World} {tb o:Nat} {t:List PEnt} (h:TG B w tb o t) (hb:Below w.heap.size w w'):TG B w' tb o t:=by
  obtain ⟨pv,h0,h1,h2⟩:=h
  exact ⟨pv,by have:=hb.size;omega,(hb.cell (p:=⟨tb,o,none⟩) h0).trans h1,owns_below h2 hb⟩
theorem TG.view {B:Nat} {w:World} {tb o:Nat} {t:List PEnt} (h:TG B w tb o t):∃ ao cap,w.cell? ⟨tb,o,none⟩=some (.slice ao t.length cap)/\w.ownsRow B 221 3 (.slice ao t.length cap) t.length (pcells t):=by
  obtain ⟨pv,_,h1,h2⟩:=h
  obtain ⟨ao,cap,rfl⟩:=own_view h2
  exact ⟨ao,cap,h1,h2⟩
theorem gplace_any (B:Nat) (w:World) (tb o:Nat) (t:List PEnt) (n:ByteArray) (h:TG B w tb o t) (hl:t.length<=1000) :
    Calls Tryz.prog 126 #[.pointer (some ⟨tb,o,none⟩),.string n] w fun e w'=>e=.returned (.int .i64 (placeB t n))/\w'=w:=by
  obtain ⟨ao,cap,hc,hown⟩:=h.view
  clear h
  go_enter Tryz.func126,Tryz.ntmps126
  go_wp2
  go_loop [5] (fun i=>∃ k:Nat,k<=t.length/\i=.int .i64 k/\Hid (∀ j (hj:j < t.length),j < k->ltB t[j].name n=true)) (fun i=>t.length - (intOf i).toNat)
  case atStart=>exact ⟨0,Nat.zero_le _,rfl,fun j hj h=>by omega⟩
  case round =>
    obtain ⟨k,hk,rfl,H⟩:=hrel
    by_cases hlt:k < t.length
    · obtain ⟨g,rfl,hg,_,hd0,_,_⟩:=ent_cell hown k hlt
      cases hL:ltB t[k].name n with
      | true =>
        have H2:Hid (∀ j (hj:j < t.length),j < k+1->ltB t[j].name n=true):=fun j hj h=>by
          rcases Nat.lt_or_ge j k with h' | h'
          · exact H.out j hj h'
          · obtain rfl:j=k:=by omega
            exact hL
        unfold ltB at hL
        generalize t[k].name=x at *
        clear H
        go_wp2
        go_round
        case rel=>exact ⟨k+1,by omega,by go_num,H2⟩
        case measure=>simp [intOf];omega
      | false =>
        have H2:Hid (placeB t n=k):=placeB_stop t n k H.out hlt hL
        unfold ltB at hL
        generalize t[k].name=x at *
        clear H
        go_wp2
        go_ret
        exact ⟨by rw [H2.out];rfl,rfl⟩
    · have H2:Hid (placeB t n=k):=by
        have:=placeB_end t n (fun j hj=>H.out j hj (by omega));unfold Hid;omega
      clear H
      go_wp2
      go_ret
      exact ⟨by rw [H2.out];rfl,rfl⟩
theorem gfind_no (B:Nat) (w:World) (tb o:Nat) (t:List PEnt) (n:ByteArray) (h:TG B w tb o t) (hl:t.length<=1000) (hn:entAt t n=none) :
    Calls Tryz.prog 77 #[.pointer (some ⟨tb,o,none⟩),.string n] w fun e w'=>e=.returned (.tuple #[.int .i64 0,.bool false])/\w'=w:=by
  have hpl:=gplace_any B w tb o t n h hl
  obtain ⟨ao,cap,hc,hown⟩:=h.view
  have HPL:Hid (Calls Tryz.prog 126 #[.pointer (some ⟨tb,o,none⟩),.string n] w fun e w'=>e=.returned (.int .i64 (placeB t n))/\w'=w):=hpl
  have hle:=placeB_le t n
  clear h hpl
  rcases entAt_none hn with hk | ⟨hk,hne⟩
  · clear hn
    generalize placeB t n=k at *
    go_enter Tryz.func77,Tryz.ntmps77
    go_wp2_with (first | (go_at_call 126;refine HPL.out.mono ?_;rintro e w' ⟨rfl,rfl⟩;clear HPL))
    go_ret2
    exact ⟨rfl,rfl⟩
  · obtain ⟨g,rfl,hg,_,hd0,_,_⟩:=ent_cell hown _ hk
    have he:=seq_false hne
    clear hn hne
    generalize t[placeB t n].name=x at *
    generalize placeB t n=k at *
    go_enter Tryz.func77,Tryz.ntmps77
    go_wp2_with (first | (go_at_call 126;refine HPL.out.mono ?_;rintro e w' ⟨rfl,rfl⟩;clear HPL))
    go_ret2
    exact ⟨rfl,rfl⟩
theorem gfind_yes (B:Nat) (w:World) (tb o:Nat) (t:List PEnt) (n:ByteArray) (e0:PEnt) (h:TG B w tb o t) (hl:t.length<=1000) (hn:entAt t n=some e0) :
    Calls Tryz.prog 77 #[.pointer (some ⟨tb,o,none⟩),.string n] w fun e w'=>e=.returned (.tuple #[.int .i64 (placeB t n),.bool true])/\w'=w:=by
  have hpl:=gplace_any B w tb o t n h hl
  obtain ⟨ao,cap,hc,hown⟩:=h.view
  have HPL:Hid (Calls Tryz.prog 126 #[.pointer (some ⟨tb,o,none⟩),.string n] w fun e w'=>e=.returned (.int .i64 (placeB t n))/\w'=w):=hpl
  have hle:=placeB_le t n
  clear h hpl
  obtain ⟨hk,hee,hnn⟩:=entAt_some hn
  obtain ⟨g,rfl,hg,_,hd0,_,hd2⟩:=ent_cell hown _ hk
  rw [hee] at hd0 hd2
  have he:=seq_true hnn
  clear hn hnn hee
  generalize e0.name=x at *
  generalize placeB t n=k at *
  go_enter Tryz.func77,Tryz.ntmps77
  go_wp2_with (first | (go_at_call 126;refine HPL.out.mono ?_;rintro e w' ⟨rfl,rfl⟩;clear HPL))
  go_ret2
  exact ⟨rfl,rfl⟩
theorem gstratum_no (B:Nat) (w:World) (tb o:Nat) (t:List PEnt) (n:ByteArray) (h:TG B w tb o t) (hl:t.length<=1000) (hn:entAt t n=none) :
    Calls Tryz.prog 159 #[.pointer (some ⟨tb,o,none⟩),.string n] w fun e w'=>e=.returned (.tuple #[.int .i64 0,.bool false])/\w'=w:=by
  have HF:Hid (Calls Tryz.prog 77 #[.pointer (some ⟨tb,o,none⟩),.string n] w fun e w'=>e=.returned (.tuple #[.int .i64 0,.bool false])/\w'=w):=gfind_no B w tb o t n h hl hn
  clear h hn hl
  go_enter Tryz.func159,Tryz.ntmps159
  go_wp2_with (first | (go_at_call 77;refine HF.out.mono ?_;rintro e w' ⟨rfl,rfl⟩;clear HF))
  go_ret2
  exact ⟨rfl,rfl⟩
theorem gstratum_yes (B:Nat) (w:World) (tb o:Nat) (t:List PEnt) (n:ByteArray) (e0:PEnt) (h:TG B w tb o t) (hl:t.length<=1000) (hn:entAt t n=some e0) :
    Calls Tryz.prog 159 #[.pointer (some ⟨tb,o,none⟩),.string n] w fun e w'=>e=.returned (.tuple #[.int .i64 e0.stratum,.bool true])/\w'=w:=by
  have HF:Hid (Calls Tryz.prog 77 #[.pointer (some ⟨tb,o,none⟩),.string n] w fun e w'=>e=.returned (.tuple #[.int .i64 (placeB t n),.bool true])/\w'=w):=gfind_yes B w tb o t n e0 h hl hn
  obtain ⟨ao,cap,hc,hown⟩:=h.view
  obtain ⟨hk,hee,hnn⟩:=entAt_some hn
  obtain ⟨g,rfl,hg,_,hd0,_,hd2⟩:=ent_cell hown _ hk
  rw [hee] at hd2
  clear hn hnn hee h hd0
  generalize placeB t n=k at *
  go_enter Tryz.func159,Tryz.ntmps159
  go_wp2_with (first | (go_at_call 77;refine HF.out.mono ?_;rintro e w' ⟨rfl,rfl⟩;clear HF))
  go_ret2
  exact ⟨rfl,rfl⟩
def findN (t:List PEnt) (n:ByteArray):Nat:=if (entAt t n).isSome then placeB t n else 0
def stratumN (t:List PEnt) (n:ByteArray):Nat:=match entAt t n with | some e=>e.stratum | none=>0
theorem gfind_any (B:Nat) (w:World) (tb o:Nat) (t:List PEnt) (n:ByteArray) (h:TG B w tb o t) (hl:t.length<=1000) :
    Calls Tryz.prog 77 #[.pointer (some ⟨tb,o,none⟩),.string n] w fun e w'=>e=.returned (.tuple #[.int .i64 (findN t n:Nat),.bool (entAt t n).isSome])/\w'=w:=by
  unfold findN
  cases he:entAt t n with
  | none=>exact gfind_no B w tb o t n h hl he
  | some e0=>exact gfind_yes B w tb o t n e0 h hl he
theorem gstratum_any (B:Nat) (w:World) (tb o:Nat) (t:List PEnt) (n:ByteArray) (h:TG B w tb o t) (hl:t.length<=1000) :
    Calls Tryz.prog 159 #[.pointer (some ⟨tb,o,none⟩),.string n] w fun e w'=>e=.returned (.tuple #[.int .i64 (stratumN t n:Nat),.bool (entAt t n).isSome])/\w'=w:=by
  unfold stratumN
  cases he:entAt t n with
  | none=>exact gstratum_no B w tb o t n h hl he
  | some e0=>exact gstratum_yes B w tb o t n e0 h hl he
def arityN (t:List PEnt) (i:Nat):Nat:=(t.map (·.arity)).getD i 0
theorem gcount_any (B:Nat) (w:World) (tb o:Nat) (t:List PEnt) (h:TG B w tb o t) :
    Calls Tryz.prog 115 #[.pointer (some ⟨tb,o,none⟩)] w fun e w'=>e=.returned (.int .i64 (t.length:Nat))/\w'=w:=by
  obtain ⟨ao,cap,hc,hown⟩:=h.view
  clear h
  go_enter Tryz.func115,Tryz.ntmps115
  go_wp2
  go_ret
  exact ⟨rfl,rfl⟩
theorem garity_any (B:Nat) (w:World) (tb o:Nat) (t:List PEnt) (i:Nat) (h:TG B w tb o t) :
    Calls Tryz.prog 80 #[.pointer (some ⟨tb,o,none⟩),.int .i64 i] w fun e w'=>e=.returned (.int .i64 (arityN t i:Nat))/\w'=w:=by
  obtain ⟨ao,cap,hc,hown⟩:=h.view
  clear h
  by_cases hk:i < t.length
  · obtain ⟨g,rfl,hg,_,_,hd1,_⟩:=ent_cell hown i hk
    have HE:Hid (arityN t i=t[i].arity):=by simp [Hid,arityN,hk]
    generalize t[i].arity=ar at *
    go_enter Tryz.func80,Tryz.ntmps80
    go_wp2
    go_ret
    exact ⟨by rw [HE.out];rfl,rfl⟩
  · have HE:Hid (arityN t i=0):=by simp [Hid,arityN,List.getD_eq_getElem?_getD,List.getElem?_eq_none (Nat.not_lt.1 hk)]
    go_enter Tryz.func80,Tryz.ntmps80
    go_wp2
    go_ret
    exact ⟨by rw [HE.out];rfl,rfl⟩
theorem gvplace_any (w:World) (vb:Nat) (nv:Value) (vs:List ByteArray) (t:ByteArray) (hc:w.cell? ⟨vb,0,none⟩=some nv) (hs:SIn lo w nv vs) (hl:vs.length<=1000) :
    Calls Tryz.prog 200 #[.pointer (some ⟨vb,0,none⟩),.string t] w fun e w'=>e=.returned (.tuple #[.int .i64 ((placeR vs t).getD 0:Nat),.bool (placeR vs t).isSome])/\w'=w:=by
  obtain ⟨ao,cap,rfl⟩:=hs.shape
  go_enter Tryz.func200,Tryz.ntmps200
  go_wp2
  go_loop [13] (fun i=>∃ k:Nat,k<=vs.length/\i=.int .i64 k/\Hid (placeR vs t=(placeR (vs.drop k) t).map (·+k))) (fun i=>vs.length - (intOf i).toNat)
  case atStart=>exact ⟨0,Nat.zero_le _,rfl,by simp [Hid]⟩
  case round =>
    obtain ⟨k,hk,rfl,H⟩:=hrel
    by_cases hlt:k < vs.length
    · obtain ⟨g,rfl,hg,hck⟩:=hs.cell k hlt
      by_cases hx:vs[k]=t
      · have he:=seq_true hx
        have H2:Hid (placeR vs t=some k):=by rw [Hid,H.out,placeR_here hlt hx];simp
        clear hx H
        generalize vs[k]=x at *
        go_wp2
        go_ret2
        exact ⟨by rw [H2.out];rfl,rfl⟩
      · have he:=seq_false hx
        have H2:Hid (placeR vs t=(placeR (vs.drop (k+1)) t).map (·+(k+1))):=by
          rw [Hid,H.out,placeR_step hlt hx];cases placeR (vs.drop (k+1)) t <;> simp;omega
        clear hx H
        generalize vs[k]=x at *
        go_wp2
        go_round
        case rel=>exact ⟨k+1,by omega,by go_num,H2⟩
        case measure=>simp [intOf];omega
    · have H2:Hid (placeR vs t=none):=by rw [Hid,H.out,List.drop_eq_nil_of_le (by omega)];rfl
      clear H
      go_wp2
      go_ret2
      exact ⟨by rw [H2.out];rfl,rfl⟩
theorem gvcount_any (w:World) (vb:Nat) (nv:Value) (vs:List ByteArray) (hc:w.cell? ⟨vb,0,none⟩=some nv) (hs:SIn lo w nv vs) :
    Calls Tryz.prog 146 #[.pointer (some ⟨vb,0,none⟩)] w fun e w'=>e=.returned (.int .i64 vs.length)/\w'=w:=by
  obtain ⟨ao,cap,rfl⟩:=hs.shape
  go_enter Tryz.func146,Tryz.ntmps146
  go_wp2
  go_ret
  exact ⟨rfl,rfl⟩
end Go.Proofs.YteampbddflhngaaGreat

namespace Go.Proofs.YteampbddflhngaaGreat
set_option maxRecDepth 100000
set_option maxHeartbeats 2000000
open Go.RowKit
variable {lo:Nat}
def ScopeIn (lo:Nat) (w:World) (sb:Nat) (vs:List ByteArray) (pl:List Nat):Prop:=∃ nv p0 p1 p2 p3 p4,pl=[p0,p1,p2,p3,p4]/\Box w sb #[nv,.int .i64 (p0:Nat),.int .i64 (p1:Nat),.int .i64 (p2:Nat),.int .i64 (p3:Nat),.int .i64 (p4:Nat)] 257/\SIn lo w nv vs
theorem ScopeIn.below {w w':World} {sb:Nat} {vs:List ByteArray} {pl:List Nat} (h:ScopeIn lo w sb vs pl) (hb:Below w.heap.size w w'):ScopeIn lo w' sb vs pl:=by
  obtain ⟨nv,p0,p1,p2,p3,p4,h1,h2,h3⟩:=h
  exact ⟨nv,p0,p1,p2,p3,p4,h1,h2.below hb,h3.below hb⟩
def placeS (vs:List ByteArray) (pl:List Nat) (n:ByteArray):Nat:=match placeR vs n with
  | none=>0
  | some k=>if k ≥ 5 then 0 else pl.getD k 0
theorem splace_any (w:World) (sb:Nat) (vs:List ByteArray) (pl:List Nat) (n:ByteArray) (h:ScopeIn lo w sb vs pl) (hl:vs.length<=1000) :
    Calls Tryz.prog 201 #[.pointer (some ⟨sb,0,none⟩),.string n] w fun e w'=>e=.returned (.int .i64 (placeS vs pl n:Nat))/\w'=w:=by
  obtain ⟨nv,p0,p1,p2,p3,p4,rfl,hbx,hs⟩:=h
  obtain ⟨hc,hf⟩:=hbx.rules
  have hlt:=hbx.lt
  have HP:Hid (Calls Tryz.prog 200 #[.pointer (some ⟨sb,0,none⟩),.string n] w fun e w'=>e=.returned (.tuple #[.int .i64 ((placeR vs n).getD 0:Nat),.bool (placeR vs n).isSome])/\w'=w):=gvplace_any w sb nv vs n (by rw [hc];rfl) hs hl
  have HE:Hid (placeS vs [p0,p1,p2,p3,p4] n=match placeR vs n with | none=>0 | some k=>if k ≥ 5 then 0 else [p0,p1,p2,p3,p4].getD k 0):=rfl
  cases hq:placeR vs n with
  | none =>
    rw [hq] at HP HE
    simp only [Option.getD_none,Option.isSome_none] at HP
    clear hq
    go_enter Tryz.func201,Tryz.ntmps201
    go_wp2_with (first | (go_at_call 200;refine HP.out.mono ?_;rintro e w' ⟨rfl,hww⟩;obtain rfl:=hww.symm))
    go_ret
    exact ⟨by rw [HE.out];rfl,rfl⟩
  | some k =>
    have hkl:=placeR_lt hq
    rw [hq] at HP HE
    simp only [Option.getD_some,Option.isSome_some] at HP HE
    clear hq
    by_cases h5:k < 5
    · have hk5:(k:Int) < 5:=by omega
      have HE2:Hid (placeS vs [p0,p1,p2,p3,p4] n=[p0,p1,p2,p3,p4].getD k 0):=by rw [Hid,HE.out,if_neg (by omega)]
      have hck:w.cell? ⟨sb,1+k,none⟩=some (.int .i64 (([p0,p1,p2,p3,p4].getD k 0:Nat):Int)):=by
        rw [hc]
        obtain rfl | rfl | rfl | rfl | rfl:k=0∨k=1∨k=2∨k=3∨k=4:=by omega
        all_goals rfl
      generalize [p0,p1,p2,p3,p4].getD k 0=res at *
      clear hc HE
      go_enter Tryz.func201,Tryz.ntmps201
      go_wp2_with (first | (go_at_call 200;refine HP.out.mono ?_;rintro e w' ⟨rfl,hww⟩;obtain rfl:=hww.symm))
      go_ret
      exact ⟨by rw [HE2.out];rfl,rfl⟩
    · have hk5:¬ (k:Int) < 5:=by omega
      have HE2:Hid (placeS vs [p0,p1,p2,p3,p4] n=0):=by rw [Hid,HE.out,if_pos (by omega)]
      clear HE
      go_enter Tryz.func201,Tryz.ntmps201
      go_wp2_with (first | (go_at_call 200;refine HP.out.mono ?_;rintro e w' ⟨rfl,hww⟩;obtain rfl:=hww.symm))
      go_ret
      exact ⟨by rw [HE2.out];rfl,rfl⟩
def MakerIn (lo:Nat) (w:World) (mb tb o cb:Nat) (t:List PEnt) (ns:List ByteArray):Prop:=Box w mb #[.pointer (some ⟨tb,o,none⟩),.pointer (some ⟨cb,0,none⟩)] 200/\TG lo w tb o t/\CTab lo w cb ns/\t.length<=1000/\ns.length<=1000
theorem MakerIn.below {w w':World} {mb tb o cb:Nat} {t:List PEnt} {ns:List ByteArray} (h:MakerIn lo w mb tb o cb t ns) (hb:Below w.heap.size w w'):MakerIn lo w' mb tb o cb t ns:=⟨h.1.below hb,h.2.1.below hb,h.2.2.1.below hb,h.2.2.2⟩
def termM (ns vs:List ByteArray) (pl:List Nat) (t:ByteArray):PTerm:=if isVarB t then ⟨true,placeS vs pl t,0⟩ else ⟨false,(valueC ns t).getD 0,0⟩
theorem term_any {lo2:Nat} (w:World) (mb tb o cb sb:Nat) (t:List PEnt) (ns vs:List ByteArray) (pl:List Nat) (x:ByteArray) (h:MakerIn lo w mb tb o cb t ns) (hs:ScopeIn lo2 w sb vs pl) (hl:vs.length<=1000) :
    Calls Tryz.prog 186 #[.pointer (some ⟨mb,0,none⟩),.string x,.pointer (some ⟨sb,0,none⟩)] w fun e w'=>e=.returned (termV (termM ns vs pl x))/\Below w.heap.size w w':=by
  obtain ⟨hbx,_,hct,_,hnl⟩:=h
  obtain ⟨hc,hf⟩:=hbx.rules
  have hml:=hbx.lt
  have HS:Hid (∀ W,Below w.heap.size w W->Calls Tryz.prog 201 #[.pointer (some ⟨sb,0,none⟩),.string x] W fun e w'=>e=.returned (.int .i64 (placeS vs pl x:Nat))/\w'=W):=fun W hW=>splace_any W sb vs pl x (hs.below hW) hl
  have HC:Hid (∀ W,Below w.heap.size w W->Calls Tryz.prog 129 #[.pointer (some ⟨cb,0,none⟩),.string x] W fun e w'=>e=.returned (.tuple #[.int .i64 (((valueC ns x).getD 0:Nat):Int),.bool (valueC ns x).isSome])/\∃ m,w'=W.drewN m):=fun W hW=>cvalue_any W cb ns x (hct.below hW) hnl
  have hrb:=Box.new w #[.bool false,.int .i64 0,.int .i64 0] 284
  clear hs hct
  cases hv:isVarB x with
  | true =>
    have HV:Hid (∀ W,Calls Tryz.prog 156 #[.string x] W fun e w'=>e=.returned (.bool true)/\w'=W):=fun W=>by rw [← hv];exact isVariable_any x W
    have HE:Hid (termM ns vs pl x=⟨true,placeS vs pl x,0⟩):=by rw [Hid,termM,hv];rfl
    clear hv
    generalize placeS vs pl x=ps at *
    go_enter Tryz.func186,Tryz.ntmps186
    go_wp2_with (first | (go_at_call 156;refine (HV.out _).mono ?_;rintro e w' ⟨rfl,hww⟩;obtain rfl:=hww.symm) | (go_at_call 201;refine (HS.out _ (by exact (by repeat' (first | with_reducible (first | exact Below.refl _ _ | assumption | refine bdrewN ?_ _ | refine Below.alloc ?_ ?_ _ | refine Below.drew ?_ | refine Below.setCell ?_ ?_ _) | go_size)))).mono ?_;rintro e w' ⟨rfl,hww⟩;obtain rfl:=hww.symm))
    (try simp only [Exit.inBlock,Exit.then])
    exact bodyPost_ret (v:=.agg #[.bool true,.int .i64 (ps:Nat),.int .i64 0]) (by simp [results,Tryz.results186,go_sem]) rfl ⟨by rw [HE.out];rfl,(by repeat' (first | with_reducible (first | exact Below.refl _ _ | assumption | refine bdrewN ?_ _ | refine Below.alloc ?_ ?_ _ | refine Below.drew ?_ | refine Below.setCell ?_ ?_ _) | go_size))⟩
  | false =>
    have HV:Hid (∀ W,Calls Tryz.prog 156 #[.string x] W fun e w'=>e=.returned (.bool false)/\w'=W):=fun W=>by rw [← hv];exact isVariable_any x W
    have HE:Hid (termM ns vs pl x=⟨false,(valueC ns x).getD 0,0⟩):=by rw [Hid,termM,hv];rfl
    clear hv
    generalize (valueC ns x).getD 0=ps at *
    generalize (valueC ns x).isSome=pb at *
    go_enter Tryz.func186,Tryz.ntmps186
    go_wp2_with (first | (go_at_call 156;refine (HV.out _).mono ?_;rintro e w' ⟨rfl,hww⟩;obtain rfl:=hww.symm) | (go_at_call 129;refine (HC.out _ (by exact (by repeat' (first | with_reducible (first | exact Below.refl _ _ | assumption | refine bdrewN ?_ _ | refine Below.alloc ?_ ?_ _ | refine Below.drew ?_ | refine Below.setCell ?_ ?_ _) | go_size)))).mono ?_;rintro e w1 ⟨rfl,m,hw1⟩;have hb1:Below (w.alloc (.cells #[.bool false,.int .i64 0,.int .i64 0] 284)).heap.size (w.alloc (.cells #[.bool false,.int .i64 0,.int .i64 0] 284)) w1:=(by rw [hw1];exact bdrewN (Below.refl _ _) m);have hr1:=hrb.below hb1;obtain ⟨hrc,hrf⟩:=hr1.rules;have hrl:=hr1.lt;have hB1:Below w.heap.size w w1:=(bnext (by repeat' (first | with_reducible (first | exact Below.refl _ _ | assumption | refine bdrewN ?_ _ | refine Below.alloc ?_ ?_ _ | refine Below.drew ?_ | refine Below.setCell ?_ ?_ _) | go_size)) hb1 (Nat.le_refl _));clear hw1))
    (try simp only [Exit.inBlock,Exit.then])
    exact bodyPost_ret (v:=.agg #[.bool false,.int .i64 (ps:Nat),.int .i64 0]) (by simp [results,Tryz.results186,go_sem,hrc]) rfl ⟨by rw [HE.out];rfl,((hB1.setCell (by simp) _).setCell (by simp) _).setCell (by simp) _⟩
end Go.Proofs.YteampbddflhngaaGreat
