import Derived.Test.YteampbddflhngaaGreatSCPx5
import Derived.Test.YteampbddflhngaaGreatSCPy4

namespace Go.Proofs.YteampbddflhngaaGreat
set_option maxRecDepth 100000
set_option maxHeartbeats 4000000
open Go.RowKit
theorem ycr(s:ByteArray)(f k:Nat)(h:f<=k):bl (s.extract f k)=((bl s).drop f).take (k - f):=by
 have:=ya2 s f (k - f)
 rw[show f+(k - f)=k by omega] at this
 rw[this]
 simp[bl]
theorem ybx(s:ByteArray):(bl s).length=s.size:=by unfold bl;rw[Array.length_toList];rfl
theorem ydn{s:ByteArray}{k:Nat}(h:k < s.size):(bl s)[k]'(by rw[ybx];exact h)=s[k]:=by simp[bl,ByteArray.getElem_eq_getElem_data]
theorem ydc{s:ByteArray}{f k:Nat}(hf:f<=k)(hk:k < s.size)(acc:List ByteArray)(h:yah [] (bl s)=acc.map bl++yah (((bl s).drop f).take (k - f)) ((bl s).drop k)) :
  (s[k]=46->yah [] (bl s)=(acc++[s.extract f (k+1)]).map bl++yah (((bl s).drop (k+1)).take (k+1 - (k+1))) ((bl s).drop (k+1)))/\(s[k]≠46->yah [] (bl s)=acc.map bl++yah (((bl s).drop f).take (k+1 - f)) ((bl s).drop (k+1))):=by
 have hlen:=ybx s
 have e:(bl s).drop k=s[k]::(bl s).drop (k+1):=by rw[List.drop_eq_getElem_cons (by omega),ydn hk]
 have e2:((bl s).drop f).take (k - f)++[s[k]]=((bl s).drop f).take (k+1 - f):=by
  rw[show k+1 - f=(k - f)+1 by omega,List.take_succ_eq_append_getElem (by rw[List.length_drop];omega)]
  congr 1
  simp only[List.getElem_drop]
  rw[← ydn hk]
  congr 2
  omega
 rw[e] at h
 constructor
 ·intro h46
  rw[h46,yah,if_pos rfl,← h46,e2] at h
  rw[h,List.map_append,List.map_singleton,ycr s f (k+1) (by omega)]
  simp
 ·intro h46
  rw[yah,if_neg h46,e2] at h
  exact h
theorem yb3(w:World)(s:ByteArray)(hs:s.size<=500) :
  Calls Tryz.prog 54 #[.string s] w fun e w'=>∃(v:Value) (pcs:List ByteArray),e=.returned v/\pcs.length<=500/\SIn w.heap.size w' v pcs/\Hid (pcs.map bl=yah [] (bl s))/\Below w.heap.size w w':=by
 obtain⟨i0,hi,hz0,hzs,hzb⟩:=info_parts Tryz.infoString
 go_enter Tryz.func54,Tryz.ntmps54
 go_wp2
 go_loopw [3,4,5] (fun v3 v4 v5 wr=>∃(k f:Nat) (acc:List ByteArray),k<=s.size/\f<=k/\v5=.int .i64 k/\v4=.int .i64 f/\acc.length<=k/\Hid (yah [] (bl s)=acc.map bl++yah (((bl s).drop f).take (k - f)) ((bl s).drop k))/\wr.ownsRow w.heap.size 9 1 v3 acc.length (acc.map Value.string)/\Below w.heap.size w wr) (fun _ _ i _=>s.size - (intOf i).toNat)
 case atStart=>exact⟨0,0,[],Nat.zero_le _,Nat.le_refl _,rfl,rfl,by simp,(by simp[Hid]),World.ownsRow_nil _ _ _ _,Below.refl _ _⟩
 case round =>
  obtain⟨k,f,acc,hk,hfk,rfl,rfl,hal,H,hown,hbk⟩:=hrel
  obtain⟨ao,cap,rfl⟩:=zac hown
  have hszk:=hbk.size
  by_cases hlt:k < s.size
  ·obtain⟨H1,H2⟩:=ydc hfk hlt acc H.out
   have hki:(k:Int) < (s.size:Int):=by omega
   have hfk1:f<=k+1:=by omega
   have hk1:k+1<=s.size:=by omega
   by_cases h46:s[k]=46
   ·have H3:Hid (yah [] (bl s)=(acc++[s.extract f (k+1)]).map bl++yah (((bl s).drop (k+1)).take (k+1 - (k+1))) ((bl s).drop (k+1))):=H1 h46
    have hb:(s[k].toNat:Int)=46:=by rw[h46];rfl
    clear H H1 H2 h46
    have htx:(s.extract f (k+1)).size=k+1 - f:=by rw[ByteArray.size_extract];omega
    go_wp2_with (first|(at_builtin;refine zg5 wr _ _ _ rfl (.tmp 16) (.tmp 22) 30 rfl w.heap.size 9 i0 _ 1 16 Tryz.underlying30 hi hz0 hzs hzb rfl (by decide) _ _ _ rfl hown (Below.refl _ _) _ _ rfl (by simp) rfl (by simp[Value.oneCell']) (by omega) (by omega) hbk.size ?_;intro v' w2 ho2 hB2 hc2 hf2 hk2 hz2';clear hc2 hf2))
    go_roundw
    case rel=>exact⟨k+1,k+1,acc++[s.extract f (k+1)],by omega,Nat.le_refl _,by go_num,by go_num,by simp;omega,H3,by simpa using ho2,hbk.trans hB2⟩
    case measure=>simp[intOf];omega
   ·have H3:Hid (yah [] (bl s)=acc.map bl++yah (((bl s).drop f).take (k+1 - f)) ((bl s).drop (k+1))):=H2 h46
    have hb:¬ (s[k].toNat:Int)=46:=by
     intro q
     apply h46
     apply UInt8.toNat_inj.1
     show s[k].toNat=46
     omega
    clear H H1 H2 h46
    go_wp2
    go_roundw
    case rel=>exact⟨k+1,f,acc,by omega,by omega,by go_num,rfl,by omega,H3,hown,hbk⟩
    case measure=>simp[intOf];omega
  ·have hki:¬ (k:Int) < (s.size:Int):=by omega
   have H3:Hid (acc.map bl=yah [] (bl s)):=by
    have q:=H.out
    rw[List.drop_eq_nil_of_le (show(bl s).length<=k by rw[ybx];omega)] at q
    rw[Hid,q]
    simp[yah]
   clear H
   go_wp2
   go_ret
   exact⟨_,rfl,acc,by omega,hown,H3,hbk⟩
theorem ycd:∀(l acc:List UInt8),∀ p∈yah acc l,p.length<=acc.length+l.length
 |[],acc,p,h=>by simp[yah] at h
 |b::l,acc,p,h=>by
  rw[yah] at h
  split at h
  ·rcases List.mem_cons.1 h with rfl|h
   ·simp
   ·have:=ycd l [] p h;simp at this ⊢;omega
  ·have:=ycd l (acc++[b]) p h;simp at this ⊢;omega
theorem yc0{ps:List (List UInt8)}{o:List Nat}{k:Nat}(hk:k < o.length):((o.take (k+1)).flatMap fun i=>ps.getD i [])=((o.take k).flatMap fun i=>ps.getD i [])++ps.getD o[k] []:=by
 rw[List.take_succ_eq_append_getElem hk,List.flatMap_append]
 simp
theorem yb6{lp:Nat}(w:World)(db pb:Nat)(s:ByteArray)(a:Int){cs:List zab}{t0 t:List zaq}(hd:Box w db #[.pointer (some ⟨pb,0,none⟩),.string s] 98)(hP:zka lp w pb cs t)(h:Parts cs t0 t)(hlp:lp<=w.heap.size)(hc:zn1 s=.ok (cs,t))(ha:-9223372036854775808<=a/\a<=9223372036854775807) :
  Calls Tryz.prog 25 #[.pointer (some ⟨db,0,none⟩),.int .i64 a] w fun e w'=>e=.returned (.bool true)/\Below w.heap.size w w':=by
 obtain⟨a1,a2,hs5⟩:=ybi hc
 obtain⟨b1,_⟩:=ya4 (bl s) [] cs (by simp) (by simpa using a1) a2
 have HCL:Hid (Calls Tryz.prog 54 #[.string s] w fun e w'=>∃(v:Value) (pcs:List ByteArray),e=.returned v/\Hid (pcs.length<=500)/\Hid (SIn w.heap.size w' v pcs)/\Hid (pcs.map bl=yah [] (bl s))/\Hid (Below w.heap.size w w')):=(yb3 w s hs5).mono fun e w' ⟨v,pcs,q1,q2,q3,q4,q5⟩=>⟨v,pcs,q1,q2,q3,q4,q5⟩
 have HOR:Hid (∀ W (n:Nat),n<=500->Calls Tryz.prog 55 #[.int .i64 a,.int .i64 n] W fun e w'=>e=.returned (.slice (some ⟨W.heap.size,0,none⟩) n n)/\∃ l:List Nat,l.length=n/\Hid (l.Perm (List.range n))/\Hid (Box w' W.heap.size (yao l) 3)/\Hid (Below W.heap.size W w')):=fun W n hn=>(yct W a n (by omega) ha).mono fun e w' ⟨q1,l,q2,q3,q4,q5⟩=>⟨q1,l,q2,q3,q4,q5⟩
 have HOT:Hid (∀ W (x:ByteArray) (o:List Nat),Below w.heap.size w W->o.Perm (List.range cs.length)->bl x=yb5 (yah [] (bl s)) o->x.size<=9223372036854775807->Calls Tryz.prog 56 #[.pointer (some ⟨db,0,none⟩),.string x] W fun e w'=>e=.returned (.bool true)/\Hid (Below W.heap.size W w')):=fun W x o hb ho hx hsz=>yc5 W db pb s x (hd.below hb) (hP.below hb) h (Nat.le_trans hlp hb.size) hsz fun h5=>yc7 hc h ho hx h5
 obtain⟨c0,f0⟩:=hd.rules
 have c1:w.cell? ⟨db,1,none⟩=some (.string s):=by rw[c0];rfl
 have hl0:=hd.lt
 clear hd hP h hc a1 a2 f0 c0
 have HB1:Hid ((yah [] (bl s)).length=cs.length):=b1
 have HCU:Hid (∀ p∈yah [] (bl s),p.length<=500):=fun p hp=>by have:=ycd _ _ p hp;have:=ybx s;simp at *;omega
 clear b1
 go_enter Tryz.func25,Tryz.ntmps25
 go_wp2_with (first|(go_at_call 54;refine HCL.out.mono ?_;rintro e w1 ⟨v1,pcs,rfl,HL1,HS1,HE1,hb1⟩;obtain⟨ao1,cap1,rfl⟩:=HS1.out.shape)|(go_at_call 55;refine(HOR.out _ _ HL1.out).mono ?_;rintro e w2 ⟨rfl,o,hol,HO2,HX2,hb2⟩))
 have HB2:Hid (Below w.heap.size w w2):=zae hb1.out hb2.out (Nat.le_refl _)
 have HS2:Hid (SIn w.heap.size w2 (.slice ao1 pcs.length cap1) pcs):=HS1.out.below hb2.out
 have HLP:Hid (pcs.length=cs.length):=by rw[Hid,← HB1.out,← HE1.out,List.length_map]
 have HPS:Hid (∀ i (hi:i < pcs.length),pcs[i].size<=500/\bl pcs[i]=(yah [] (bl s)).getD i []):=fun i hi=>by
  have e:bl pcs[i]=(yah [] (bl s)).getD i []:=by rw[← HE1.out];simp[List.getD,hi]
  refine⟨?_,e⟩
  rw[← ybx]
  exact HCU.out _ (by rw[← HE1.out];exact List.mem_map.2 ⟨_,List.getElem_mem hi,rfl⟩)
 have HOL:Hid (∀ i (hi:i < o.length),o[i] < pcs.length):=fun i hi=>by
  have:=HO2.out.mem_iff.1 (List.getElem_mem hi)
  simpa using this
 have hn5:=HL1.out
 have hob:w1.heap.size < w2.heap.size:=HX2.out.lt
 clear c1 hl0
 go_loopw [7,8] (fun v7 v8 wr=>∃(k:Nat) (x:ByteArray),k<=pcs.length/\v8=.int .i64 k/\v7=.string x/\x.size<=500 * k/\Hid (bl x=(o.take k).flatMap fun i=>(yah [] (bl s)).getD i [])/\Hid (Below w2.heap.size w2 wr)) (fun _ i _=>pcs.length - (intOf i).toNat)
 case atStart=>exact⟨0,_,Nat.zero_le _,rfl,rfl,Nat.le_refl _,(by simp[Hid];rfl),Below.refl _ _⟩
 case round =>
  obtain⟨k,x,hk,rfl,rfl,hx,HX,HBk⟩:=hrel
  have hszk:=HBk.out.size
  by_cases hlt:k < pcs.length
  ·have hko:k < o.length:=by omega
   have hok:=HOL.out k hko
   obtain⟨g,rfl,hg,hcg⟩:=HS2.out.cell o[k] hok
   have hc1:wr.cell? ⟨w1.heap.size,k,none⟩=some (.int .i64 (o[k]:Nat)):=by
    rw[HBk.out.cell (by exact hob),HX2.out.rules.1,yak hko]
   have hc2:wr.cell? ⟨g,o[k],none⟩=some (.string pcs[o[k]]):=(HBk.out.cell hg).trans hcg
   have hgr:g < wr.heap.size:=by omega
   have hor:w1.heap.size < wr.heap.size:=by omega
   obtain⟨hp1,hp2⟩:=HPS.out o[k] hok
   have HX1:Hid (bl (x++pcs[o[k]])=(o.take (k+1)).flatMap fun i=>(yah [] (bl s)).getD i []):=by rw[Hid,ydm,HX.out,yc0 hko,hp2]
   have hki:(k:Int) < (pcs.length:Int):=by omega
   clear hp2 HX hcg
   generalize pcs[o[k]]=y at *
   generalize o[k]=j at *
   go_wp2
   go_roundw
   case rel=>exact⟨k+1,x++y,by omega,by go_num,rfl,by rw[ByteArray.size_append];omega,HX1,HBk⟩
   case measure=>simp[intOf];omega
  ·have hki:¬ (k:Int) < (pcs.length:Int):=by omega
   have hkn:k=pcs.length:=by omega
   have HX1:Hid (bl x=o.flatMap fun i=>(yah [] (bl s)).getD i []):=by rw[Hid,HX.out,List.take_of_length_le (by omega)]
   clear HX
   by_cases h0:0 < pcs.length
   ·have h0i:(0:Int) < (pcs.length:Int):=by omega
    have hko:0 < o.length:=by omega
    have hok:=HOL.out 0 hko
    obtain⟨g,rfl,hg,hcg⟩:=HS2.out.cell o[0] hok
    have hc1:wr.cell? ⟨w1.heap.size,0,none⟩=some (.int .i64 (o[0]:Nat)):=by
     rw[HBk.out.cell (by exact hob),HX2.out.rules.1,yak hko]
    have hc2:wr.cell? ⟨g,o[0],none⟩=some (.string pcs[o[0]]):=(HBk.out.cell hg).trans hcg
    have hgr:g < wr.heap.size:=by omega
    have hor:w1.heap.size < wr.heap.size:=by omega
    obtain⟨hp1,hp2⟩:=HPS.out o[0] hok
    have HX2:Hid (bl (x++pcs[o[0]])=yb5 (yah [] (bl s)) o):=by
     rw[Hid,ydm,HX1.out,hp2]
     unfold yb5
     cases o with
     |nil=>simp at hko
     |cons i o=>rfl
    have hsz:(x++pcs[o[0]]).size<=9223372036854775807:=by rw[ByteArray.size_append];omega
    have HOP:Hid (o.Perm (List.range cs.length)):=by rw[Hid,← HLP.out];exact HO2.out
    clear hp2 HX1 hcg
    generalize pcs[o[0]]=y at *
    generalize o[0]=j at *
    go_wp2_with (first|(go_at_call 56;refine(HOT.out _ _ o (zae HB2.out HBk.out (Nat.le_refl _)) HOP.out HX2.out hsz).mono ?_;rintro e w4 ⟨rfl,HB4⟩))
    go_ret
    exact⟨rfl,zae (zae HB2.out HBk.out (Nat.le_refl _)) HB4.out (Nat.le_refl _)⟩
   ·have h0i:¬ (0:Int) < (pcs.length:Int):=by omega
    have HX2:Hid (bl x=yb5 (yah [] (bl s)) o):=by
     rw[Hid,HX1.out]
     unfold yb5
     cases o with
     |nil=>rfl
     |cons i o=>simp at hol;omega
    have hsz:x.size<=9223372036854775807:=by omega
    have HOP:Hid (o.Perm (List.range cs.length)):=by rw[Hid,← HLP.out];exact HO2.out
    clear HX1
    go_wp2_with (first|(go_at_call 56;refine(HOT.out _ _ o (zae HB2.out HBk.out (Nat.le_refl _)) HOP.out HX2.out hsz).mono ?_;rintro e w4 ⟨rfl,HB4⟩))
    go_ret
    exact⟨rfl,zae (zae HB2.out HBk.out (Nat.le_refl _)) HB4.out (Nat.le_refl _)⟩
theorem ybv(w:World)(s:ByteArray)(a:Int)(hs:s.size<=9223372036854775807)(ha:-9223372036854775808<=a/\a<=9223372036854775807) :
  Calls Tryz.prog 12 #[.string s,.int .i64 a] w fun e w'=>e=.returned (.bool true)/\Below w.heap.size w w':=by
 have HRE:Hid (Calls Tryz.prog 23 #[.string s] w fun e w'=>zxj s w e w'):=z9o w s hs
 unfold zxj at HRE
 cases hc:zn1 s with
 |error n =>
  rw[hc] at HRE
  have HR2:Hid (Calls Tryz.prog 23 #[.string s] w fun e w'=>e=.returned (.tuple #[.pointer none,.bool true])/\Below w.heap.size w w'):=HRE
  clear HRE hc
  go_enter Tryz.func12,Tryz.ntmps12
  go_wp2_with (first|(go_at_call 23;refine HR2.out.mono ?_;rintro e w1 ⟨rfl,hb1⟩))
  go_ret
  exact⟨rfl,hb1⟩
 |ok x =>
  obtain⟨cs,t⟩:=x
  obtain⟨t0,hp⟩:=z9f hc
  rw[hc] at HRE
  have HR2:Hid (Calls Tryz.prog 23 #[.string s] w fun e w'=>∃ db,e=.returned (.tuple #[.pointer (some ⟨db,0,none⟩),.bool true])/\Hid (∃ pb,Box w' db #[.pointer (some ⟨pb,0,none⟩),.string s] 98/\zka w.heap.size w' pb cs t)/\Below w.heap.size w w'):=by
   refine HRE.out.mono ?_
   rintro e w' ⟨db,pb,q1,q2,q3,q4,q5⟩
   exact⟨db,q2,⟨pb,q3,q4⟩,q5⟩
  have HLI:Hid (∀ W db,w.heap.size<=W.heap.size->(∃ pb,Box W db #[.pointer (some ⟨pb,0,none⟩),.string s] 98/\zka w.heap.size W pb cs t)->Calls Tryz.prog 25 #[.pointer (some ⟨db,0,none⟩),.int .i64 a] W fun e w'=>e=.returned (.bool true)/\Below W.heap.size W w'):=fun W db hl ⟨pb,q1,q2⟩=>yb6 W db pb s a q1 q2 hp hl hc ha
  clear HRE hc hp
  go_enter Tryz.func12,Tryz.ntmps12
  go_wp2_with (first|(go_at_call 23;refine HR2.out.mono ?_;rintro e w1 ⟨db,rfl,HX1,hb1⟩)|(go_at_call 25;refine(HLI.out _ _ hb1.size HX1.out).mono ?_;rintro e w2 ⟨rfl,hb2⟩))
  go_ret
  exact⟨rfl,zae hb1 hb2 (Nat.le_refl _)⟩
end Go.Proofs.YteampbddflhngaaGreat
