import Derived.Test.YteampbddflhngabGreatYCKeepQ

namespace Go.Proofs.YteampbddflhngabGreat
set_option maxRecDepth 100000
set_option maxHeartbeats 4000000
open Go.RowKit
def yex(p:ByteArray)(ar:Nat)(n:Int)(ls:List zbp):Prop:=(n=-1/\∀ l∈ls,l.pred≠p)∨n=(ar:Int)
theorem ya0.szY{x:ByteArray}(h:ya0 (bl x)):0 < x.size/\x.size<=6:=by
 have h1:=h.ne
 have h2:=h.six
 have e:(bl x).length=x.size:=rfl
 cases hb:bl x with
 |nil=>exact absurd hb h1
 |cons a r=>rw[hb] at e h2;simp only[List.length_cons] at e h2;omega
theorem yar.fineY{c:zab}(h:yar c)(hm:zem c=false):yad c:=by
 obtain⟨m1,m2,m3,_⟩:=zfu hm
 have hl:∀ l:zbp,yav l->l.args.length<=3->z7u l:=fun l q ha=>⟨q.1.1.szY.2,q.1.1.szY.1,by omega,fun x hx=>(q.2 x hx).szY⟩
 refine⟨fun l q=>?_,by omega⟩
 rcases List.mem_cons.1 q with rfl|q
 ·exact hl _ h.2.1 m1
 ·exact hl _ (h.2.2 l q) (m3 l q)
def ybx(w:World)(g:Nat)(ls:List zbp):Prop:=∀ j (hj:j < ls.length),w.cell? ⟨g,j * 3+1,none⟩=some (.string ls[j].pred)/\∃ gj,w.cell? ⟨g,j * 3+2,none⟩=some (.slice (some ⟨gj,0,none⟩) ls[j].args.length ls[j].args.length)
theorem ybx.below{w w':World}{g:Nat}{ls:List zbp}(h:ybx w g ls)(hg:g < w.heap.size)(hb:Below w.heap.size w w'):ybx w' g ls:=fun j hj=>⟨(hb.cell (p:=⟨g,j * 3+1,none⟩) hg).trans (h j hj).1,by
 obtain⟨gj,q⟩:=(h j hj).2
 exact⟨gj,(hb.cell (p:=⟨g,j * 3+2,none⟩) hg).trans q⟩⟩
theorem ycn{lo:Nat}(w:World)(pb:Nat)(cs:List zab)(t:List zar)(k:Nat)(h:zks lo w pb cs t)(hl:cs.length<=1000)(hk:k < cs.length)(hf:yad cs[k]) :
  Calls Tryz.prog 23 #[.pointer (some ⟨pb,0,none⟩),.int .i64 k] w fun e w'=>∃ g,e=.returned (.tuple #[.slice (some ⟨g,0,none⟩) (1+cs[k].body.length) (1+cs[k].body.length),.int .i64 0])/\Hid (g < w'.heap.size)/\Hid (ybx w' g (za2 cs[k]))/\Hid (Below w.heap.size w w'):=by
 refine(ybp w pb cs t k h hl hk hf).mono ?_
 rintro e w' ⟨g,gs,h1,h2,h3,h4,h5⟩
 obtain⟨g',cap,hv,hg,hlt,hcl⟩:=zal h3 (by omega)
 simp only[Value.slice.injEq,Option.some.injEq,Addr.mk.injEq,and_true,true_and] at hv
 obtain⟨rfl,_⟩:=hv
 refine⟨g,h2,hlt,fun j hj=>?_,h5⟩
 have hgl:gs.length=(za2 cs[k]).length:=h4.1
 have hz:j < (List.zipWith z9w (za2 cs[k]) gs).length:=by rw[List.length_zipWith];omega
 obtain⟨_,q1,q2⟩:=zm9 _ j hz
 rw[List.getElem_zipWith] at q1 q2
 exact⟨hcl _ _ q1,gs[j],hcl _ _ q2⟩
def ydj:Nat->ByteArray
 |0=>⟨#[]⟩
 |1=>⟨#[40,65,41]⟩
 |2=>⟨#[40,65,44,32,66,41]⟩
 |_=>⟨#[40,65,44,32,66,44,32,67,41]⟩
theorem ydk{k:Nat}(hk:k<=3):(ydj k).size<=9:=by
 have h:k=0∨k=1∨k=2∨k=3:=by omega
 rcases h with rfl|rfl|rfl|rfl <;> decide
theorem yeb(s p:ByteArray){k:Nat}(hk:k<=3):s++p++ydj k++⟨#[32,58,45,32]⟩++p++ydj k++⟨#[46,122,122,122,122,122,122,32,58,45,32,121,121,121,121,121,121,46]⟩=s++clT (ybw p k)++clT ybn:=by
 have hl:yag (yct p k)=p++ydj k:=by
  have h:k=0∨k=1∨k=2∨k=3:=by omega
  have hp:∀ k,z9r (yct p k)=p:=fun k=>rfl
  rcases h with rfl|rfl|rfl|rfl
  ·unfold yag
   rw[if_pos (show(yct p 0).args.length=0 from rfl),hp]
   exact(ByteArray.append_empty).symm
  ·unfold yag
   rw[if_neg (show ¬ (yct p 1).args.length=0 from(by decide:¬ (1:Nat)=0)),hp,ByteArray.append_assoc,ByteArray.append_assoc]
   rfl
  ·unfold yag
   rw[if_neg (show ¬ (yct p 2).args.length=0 from(by decide:¬ (2:Nat)=0)),hp,ByteArray.append_assoc,ByteArray.append_assoc]
   congr 1
  ·unfold yag
   rw[if_neg (show ¬ (yct p 3).args.length=0 from(by decide:¬ (3:Nat)=0)),hp,ByteArray.append_assoc,ByteArray.append_assoc]
   congr 1
 have h1:clT (ybw p k)=(p++ydj k)++⟨#[32,58,45,32]⟩++(p++ydj k)++⟨#[46]⟩:=by
  have:clT (ybw p k)=yag (yct p k)++(z9h++yag (yct p k))++yai:=rfl
  rw[this,hl]
  simp only[ByteArray.append_assoc]
  rfl
 have h2:clT ybn=⟨#[122,122,122,122,122,122,32,58,45,32,121,121,121,121,121,121,46]⟩:=by decide
 rw[h1,h2]
 simp only[ByteArray.append_assoc]
 rfl
theorem ydg{lp:Nat}(w:World)(db pb:Nat)(s:ByteArray)(a:Int){cs:List zab}{t0 t:List zar}(hd:Box w db #[.pointer (some ⟨pb,0,none⟩),.string s] 37)(hP:zks lp w pb cs t)(h:Parts cs t0 t)(hlp:lp<=w.heap.size)(hc:znz s=.ok (cs,t))(ha:-9223372036854775808<=a/\a<=9223372036854775807) :
  Calls Tryz.prog 12 #[.pointer (some ⟨db,0,none⟩),.int .i64 a] w fun e w'=>e=.returned (.bool true)/\Below w.heap.size w w':=by
 have hwc:=(ya7 hc).2.1
 have hs5:=(ya7 hc).2.2
 have ht5:=h.low.2.1
 have hcl:=h.runok.1.len
 have HPR:Hid (Calls Tryz.prog 21 #[.pointer (some ⟨pb,0,none⟩)] w fun e w'=>∃ g,w.heap.size<=g/\e=.returned (.slice (some ⟨g,0,none⟩) t.length t.length)/\Hid (SIn w.heap.size w' (.slice (some ⟨g,0,none⟩) t.length t.length) (namesT t))/\Hid (Below w.heap.size w w')):=zz8 w pb cs t hP (by omega)
 have HCEL:Hid (∀ W,Below w.heap.size w W->W.cell? ⟨db,0,none⟩=some (.pointer (some ⟨pb,0,none⟩))/\W.cell? ⟨db,1,none⟩=some (.string s)/\db < W.heap.size):=fun W hb=>⟨by rw[(hd.below hb).rules.1];rfl,by rw[(hd.below hb).rules.1];rfl,(hd.below hb).lt⟩
 obtain⟨c0,c1,hl0⟩:=HCEL.out w (Below.refl _ _)
 by_cases ht0:t.length=0
 ·rw[ht0] at HPR
  clear hd hP h hc HCEL
  go_enter Tryz.func12,Tryz.ntmps12
  go_wp2_with (first|(go_at_call 21;refine HPR.out.mono ?_;rintro e w1 ⟨g0,hg0,rfl,HS1,HB1⟩))
  go_ret
  exact⟨rfl,HB1.out⟩
 ·have htp:0 < t.length:=by omega
  have hk:=yec a htp
  have HPK:Hid (∀ W,Calls Tryz.prog 14 #[.int .i64 a,.int .i64 t.length] W fun e w'=>e=.returned (.int .i64 (ybf a t.length:Nat))/\w'=W):=fun W=>ydp W a t.length htp (by omega) ha
  generalize ybf a t.length=k at *
  have htk:¬ (t.length:Int)=0:=by omega
  have HCLA:Hid (∀ W,Below w.heap.size w W->Calls Tryz.prog 22 #[.pointer (some ⟨pb,0,none⟩)] W fun e w'=>e=.returned (.int .i64 cs.length)/\w'=W):=fun W hb=>z7r W pb cs t (hP.below hb)
  have HCLS:Hid (∀ W (i:Nat) (hi:i < cs.length),Below w.heap.size w W->Calls Tryz.prog 23 #[.pointer (some ⟨pb,0,none⟩),.int .i64 i] W fun e w'=>∃ g,e=.returned (.tuple #[.slice (some ⟨g,0,none⟩) (1+cs[i].body.length) (1+cs[i].body.length),.int .i64 0])/\Hid (g < w'.heap.size)/\Hid (ybx w' g (za2 cs[i]))/\Hid (Below W.heap.size W w')):=fun W i hi hb=>ycn W pb cs t i (hP.below hb) hcl hi ((hwc _ (List.getElem_mem hi)).fineY (h.many _ (List.getElem_mem hi)))
  have HCL6:Hid (∀ i (hi:i < cs.length),cs[i].body.length<=6):=fun i hi=>(zfu (h.many _ (List.getElem_mem hi))).2.1
  have HNM:Hid ((namesT t)[k]'(by simpa [namesT] using hk)=t[k].name):=by simp[Hid,namesT]
  have HAR:Hid (∀ c∈cs,∀ l∈za2 c,l.pred=t[k].name->l.args.length=t[k].arity):=fun c hcc l hl q=>by
   obtain⟨e,e1,e2,e3,e4,e5⟩:=h.lit hcc hl
   have hq:zbd t l.pred=k:=by
    have hr:zca (namesT t):=by rw[h.nam.1];exact h.tab.rise
    rw[e5]
    obtain⟨kk,k1,k2⟩:=zch e1
    exact yev hr (by simpa [namesT] using kk) (by simpa [namesT] using hk) (by simp only[namesT,List.getElem_map];rw[k1,e2,q])
   rw[← e4,hq]
   simp[List.getD,hk]
  have HOC:Hid (∃ c∈cs,∃ l∈za2 c,l.pred=t[k].name):=by
   have hm:t[k].name∈namesT t0:=by rw[← h.nam.1];exact List.mem_map.2 ⟨_,List.getElem_mem hk,rfl⟩
   obtain⟨l,hl,q⟩:=(h.tab.names _).1 hm
   obtain⟨c,hcc,hlc⟩:=List.mem_flatMap.1 hl
   exact⟨c,hcc,l,hlc,q⟩
  have HPP:Hid (zks lp w pb cs t/\Parts cs t0 t/\znz s=.ok (cs,t)/\Box w db #[.pointer (some ⟨pb,0,none⟩),.string s] 37/\∀ c∈cs,yar c):=⟨hP,h,hc,hd,hwc⟩
  clear hP h hc hd hwc ha ht0
  go_enter Tryz.func12,Tryz.ntmps12
  go_wp2_with (first|(go_at_call 21;refine HPR.out.mono ?_;rintro e w1 ⟨g0,hg0,rfl,HS1,HB1⟩;obtain⟨d0,d1,hl1⟩:=HCEL.out _ HB1.out)|(go_at_call 14;refine(HPK.out _).mono ?_;rintro e w2 ⟨rfl,hww⟩;obtain rfl:=hww.symm)|(go_at_call 22;refine(HCLA.out _ HB1.out).mono ?_;rintro e w3 ⟨rfl,hww⟩;obtain rfl:=hww.symm))
  obtain⟨g9,hq9,hg9,hcn⟩:=HS1.out.cell k (by simpa [namesT] using hk)
  simp only[Option.some.injEq,Addr.mk.injEq,and_true] at hq9
  obtain rfl:=hq9.symm
  rw[HNM.out] at hcn
  clear c0 c1 hl0 d0 d1 hl1
  go_loopw [7,9] (fun v7 v9 wr=>∃(i:Nat) (n:Int),i<=cs.length/\v9=.int .i64 i/\v7=.int .i64 n/\Hid (yex t[k].name t[k].arity n ((cs.take i).flatMap za2))/\Hid (Below w1.heap.size w1 wr)) (fun _ v9 _=>cs.length - (intOf v9).toNat)
  case atStart=>exact⟨0,-1,Nat.zero_le _,rfl,rfl,Or.inl ⟨rfl,by simp⟩,Below.refl _ _⟩
  case round =>
   obtain⟨i,n,hi,rfl,rfl,HA,HBi⟩:=hrel
   have HBw:Hid (Below w.heap.size w wr):=zae HB1.out HBi.out (Nat.le_refl _)
   obtain⟨d0,d1,hl1⟩:=HCEL.out _ HBw.out
   by_cases hil:i < cs.length
   ·have hii:(i:Int) < (cs.length:Int):=by omega
    have hb6:=HCL6.out i hil
    have HL:Hid ((za2 cs[i]).length=1+cs[i].body.length):=by simp[Hid,za2];omega
    have HAI:Hid (∀ l∈za2 cs[i],l.pred=t[k].name->l.args.length=t[k].arity):=HAR.out _ (List.getElem_mem hil)
    have HTK:Hid ((cs.take (i+1)).flatMap za2=(cs.take i).flatMap za2++za2 cs[i]):=by
     rw[Hid,List.take_succ_eq_append_getElem hil,List.flatMap_append]
     simp
    have HCI:Hid (∀ W,Below w.heap.size w W->Calls Tryz.prog 23 #[.pointer (some ⟨pb,0,none⟩),.int .i64 i] W fun e w'=>∃ g,e=.returned (.tuple #[.slice (some ⟨g,0,none⟩) (1+cs[i].body.length) (1+cs[i].body.length),.int .i64 0])/\Hid (g < w'.heap.size)/\Hid (ybx w' g (za2 cs[i]))/\Hid (Below W.heap.size W w')):=fun W hb=>HCLS.out W i hil hb
    generalize za2 cs[i]=ls at *
    generalize cs[i].body.length=bl1 at *
    go_wp2_with (first|(go_at_call 23;refine(HCI.out _ HBw.out).mono ?_;rintro e w4 ⟨g4,rfl,HG4,HC4,HB4⟩))
    have HB14:Hid (Below w1.heap.size w1 w4):=zae HBi.out HB4.out (Nat.le_refl _)
    clear d0 d1 hl1
    go_loopw [7,12] (fun v7 v12 wx=>∃(j:Nat) (n:Int),j<=1+bl1/\v12=.int .i64 j/\v7=.int .i64 n/\Hid (yex t[k].name t[k].arity n ((cs.take i).flatMap za2++ls.take j))/\Hid (Below w4.heap.size w4 wx)) (fun _ v12 _=>1+bl1 - (intOf v12).toNat)
    case atStart=>exact⟨0,n,Nat.zero_le _,rfl,rfl,(by unfold Hid;simpa using HA.out),Below.refl _ _⟩
    case round =>
     obtain⟨j,n,hj,rfl,rfl,HA2,HBj⟩:=hrel
     by_cases hjl:j < 1+bl1
     ·have hji:(j:Int) < 1+(bl1:Int):=by omega
      have hjls:j < ls.length:=by rw[HL.out];exact hjl
      obtain⟨q1,gj,q2⟩:=HC4.out.below HG4.out HBj.out j hjls
      have hg4:g4 < wr.heap.size:=Nat.lt_of_lt_of_le HG4.out HBj.out.size
      have HB1x:Hid (Below w1.heap.size w1 wr):=zae HB14.out HBj.out (Nat.le_refl _)
      have hcx:=(HB1x.out.cell (p:=⟨g9,k,none⟩) hg9).trans hcn
      have hg0x:g9 < wr.heap.size:=Nat.lt_of_lt_of_le hg9 HB1x.out.size
      by_cases hx:ls[j].pred=t[k].name
      ·have hsq:=zfm hx
       have HA3:Hid (yex t[k].name t[k].arity (ls[j].args.length:Nat) ((cs.take i).flatMap za2++ls.take (j+1))):=Or.inr (by rw[HAI.out _ (List.getElem_mem hjls) hx])
       clear hx HA2
       generalize ls[j].args.length=al at *
       generalize ls[j].pred=x at *
       go_upto_region 14 with fail
       go_cut [73] from 64 to 73 (fun s73 wc=>s73=.bool true/\Hid (Below wr.heap.size wr wc))
       case first =>
        go_quiet (fail)
        go_wp2
        go_meet
        case rel=>exact⟨rfl,zau (Below.refl _ _) _⟩
       case rest =>
        obtain⟨rfl,HBc⟩:=hcut
        have q3:=(HBc.out.cell (p:=⟨g4,j * 3+2,none⟩) hg4).trans q2
        have hg5:g4 < wc.heap.size:=Nat.lt_of_lt_of_le hg4 HBc.out.size
        have HBx:Hid (Below w4.heap.size w4 wc):=zae HBj.out HBc.out (Nat.le_refl _)
        clear q1 q2 hcx
        go_wp2
        go_roundw
        case rel=>exact⟨j+1,al,by omega,by go_num,rfl,HA3,HBx⟩
        case measure=>simp[intOf];omega
      ·have hsq:=zei hx
       have HA3:Hid (yex t[k].name t[k].arity n ((cs.take i).flatMap za2++ls.take (j+1))):=by
        rcases HA2.out with ⟨e,q⟩|e
        ·refine Or.inl ⟨e,fun l hl=>?_⟩
         rw[List.take_succ_eq_append_getElem hjls,← List.append_assoc] at hl
         rcases List.mem_append.1 hl with hl|hl
         ·exact q l hl
         ·simp only[List.mem_singleton] at hl
          subst hl
          exact hx
        ·exact Or.inr e
       clear hx HA2
       generalize ls[j].pred=x at *
       go_upto_region 14 with fail
       go_cut [73] from 64 to 73 (fun s73 wc=>s73=.bool false/\Hid (Below wr.heap.size wr wc))
       case first =>
        go_quiet (fail)
        go_wp2
        go_meet
        case rel=>exact⟨rfl,zau (Below.refl _ _) _⟩
       case rest =>
        obtain⟨rfl,HBc⟩:=hcut
        have HBx:Hid (Below w4.heap.size w4 wc):=zae HBj.out HBc.out (Nat.le_refl _)
        clear q1 q2 hcx
        go_wp2
        go_roundw
        case rel=>exact⟨j+1,n,by omega,by go_num,rfl,HA3,HBx⟩
        case measure=>simp[intOf];omega
     ·have hji:¬ (j:Int) < 1+(bl1:Int):=by omega
      have HA3:Hid (yex t[k].name t[k].arity n ((cs.take (i+1)).flatMap za2)):=by
       have:=HA2.out
       rw[List.take_of_length_le (l:=ls) (by rw[HL.out];omega)] at this
       rw[HTK.out]
       exact this
      have HBx:Hid (Below w1.heap.size w1 wr):=zae HB14.out HBj.out (Nat.le_refl _)
      clear HA2
      go_wp2
      go_roundw
      case rel=>exact⟨i+1,n,by omega,by go_num,rfl,HA3,HBx⟩
      case measure=>simp[intOf];omega
   ·have hii:¬ (i:Int) < (cs.length:Int):=by omega
    have hn:n=(t[k].arity:Int):=by
     rcases HA.out with ⟨_,q⟩|e
     ·obtain⟨c,hcc,l,hl,e⟩:=HOC.out
      exact absurd e (q l (List.mem_flatMap.2 ⟨c,by rw[List.take_of_length_le (by omega)];exact hcc,hl⟩))
     ·exact e
    subst hn
    have h3:t[k].arity<=3:=by
     obtain⟨c,hcc,l,hl,e⟩:=HOC.out
     rw[← HAR.out c hcc l hl e]
     obtain⟨m1,m2,m3,_⟩:=zfu (HPP.out.2.1.many c hcc)
     rcases List.mem_cons.1 hl with rfl|q
     ·exact m1
     ·exact m3 l q
    have hp6:t[k].name.size<=6:=by
     obtain⟨c,hcc,l,hl,e⟩:=HOC.out
     rw[← e]
     have hw:=HPP.out.2.2.2.2 c hcc
     rcases List.mem_cons.1 hl with rfl|q
     ·exact hw.2.1.1.1.szY.2
     ·exact(hw.2.2 l q).1.1.szY.2
    have hcx:=(HBi.out.cell (p:=⟨g9,k,none⟩) hg9).trans hcn
    have hg9r:g9 < wr.heap.size:=Nat.lt_of_lt_of_le hg9 HBi.out.size
    have HTX:Hid (s++t[k].name++ydj t[k].arity++⟨#[32,58,45,32]⟩++t[k].name++ydj t[k].arity++⟨#[46,122,122,122,122,122,122,32,58,45,32,121,121,121,121,121,121,46]⟩=s++clT (ybw t[k].name t[k].arity)++clT ybn):=yeb s t[k].name h3
    have hz9:(ydj t[k].arity).size<=9:=ydk h3
    clear HA HAR HOC HCLA HCLS HCL6
    go_upto_region 16 with fail
    go_cut [13] from 80 to 83 (fun s13 wc=>s13=.string (ydj t[k].arity)/\Hid (Below wr.heap.size wr wc))
    case first =>
     have h4:t[k].arity=0∨t[k].arity=1∨t[k].arity=2∨t[k].arity=3:=by omega
     generalize t[k].arity=ar at *
     clear HTX hz9 h3
     rcases h4 with rfl|rfl|rfl|rfl
     all_goals
      go_wp2
      go_meet
      case rel=>exact⟨rfl,(Below.refl _ _).alloc (Nat.le_refl _) _⟩
    case rest =>
     obtain⟨rfl,HBc⟩:=hcut
     have HBwc:Hid (Below w.heap.size w wc):=zae HBw.out HBc.out (Nat.le_refl _)
     obtain⟨d0,d1,hl1⟩:=HCEL.out _ HBwc.out
     have hcy:=(HBc.out.cell (p:=⟨g9,k,none⟩) hg9r).trans hcx
     have hg9c:g9 < wc.heap.size:=Nat.lt_of_lt_of_le hg9r HBc.out.size
     have HB1c:Hid (Below w1.heap.size w1 wc):=zae HBi.out HBc.out (Nat.le_refl _)
     clear hcx d0 HBi HBc HBw
     have hszS:(s++clT (ybw t[k].name t[k].arity)++clT ybn).size<=1000:=by
      rw[← HTX.out]
      simp only[ByteArray.size_append]
      have e1:(⟨#[32,58,45,32]⟩:ByteArray).size=4:=rfl
      have e2:(⟨#[46,122,122,122,122,122,122,32,58,45,32,121,121,121,121,121,121,46]⟩:ByteArray).size=18:=rfl
      omega
     have HSE:Hid (∃ S,S=s++clT (ybw t[k].name t[k].arity)++clT ybn):=⟨_,rfl⟩
     obtain⟨S,hS⟩:=HSE.out
     rw[← hS] at HTX hszS
     have HS:Hid (S=s++clT (ybw t[k].name t[k].arity)++clT ybn):=hS
     clear hS HSE
     go_upto_region 17 with fail
     go_cut [14] from 84 to 103 (fun s14 wd=>s14=.string S/\Hid (Below wc.heap.size wc wd))
     case first =>
      generalize ydj t[k].arity=A at *
      go_quiet (fail)
      go_wp2
      go_meet
      case rel=>exact⟨by rw[← HTX.out],zau (Below.refl _ _) _⟩
     case rest =>
      obtain⟨rfl,HBd⟩:=hcut
      have HBwd:Hid (Below w.heap.size w wc):=zae HBwc.out HBd.out (Nat.le_refl _)
      have HB1d:Hid (Below w1.heap.size w1 wc):=zae HB1c.out HBd.out (Nat.le_refl _)
      clear d1 hl1 hcy hg9c HB1c HBd HBwc HTX hz9 hcn
      by_cases h5:S.size<=500
      ·have h5i:¬ (500:Int) < (S.size:Int):=by omega
       go_wp2
       go_loopw [15] (fun v15 wr=>∃ i:Nat,i<=t.length/\v15=.int .i64 i/\Hid (∀ j (hj:j < (namesT t).length),j < i->(namesT t)[j]≠bZz/\(namesT t)[j]≠bYy)/\wr=wc) (fun v15 _=>t.length - (intOf v15).toNat)
       case atStart=>exact⟨0,Nat.zero_le _,rfl,(fun j _ h=>by omega),rfl⟩
       case round =>
        obtain⟨i,hi,rfl,HN,hwr⟩:=hrel
        obtain rfl:=hwr.symm
        by_cases hil:i < t.length
        ·have hii:(i:Int) < (t.length:Int):=by omega
         have hin:i < (namesT t).length:=by simpa [namesT] using hil
         obtain⟨g8,hq8,hg8,hc8⟩:=HS1.out.cell i hin
         simp only[Option.some.injEq,Addr.mk.injEq,and_true] at hq8
         subst hq8
         have hc9:=(HB1d.out.cell (p:=⟨g9,i,none⟩) hg9).trans hc8
         have hg9d:g9 < wc.heap.size:=Nat.lt_of_lt_of_le hg9 HB1d.out.size
         have HNX:Hid ((namesT t)[i]≠bZz->(namesT t)[i]≠bYy->∀ j (hj:j < (namesT t).length),j < i+1->(namesT t)[j]≠bZz/\(namesT t)[j]≠bYy):=fun a1 a2 j hj hji=>by
          by_cases e:j=i
          ·subst e;exact⟨a1,a2⟩
          ·exact HN.out j hj (by omega)
         clear HN hc8
         generalize (namesT t)[i]=x at *
         have ez:bZz.toList=[122,122,122,122,122,122]:=by rw[zmo];rfl
         have ey:bYy.toList=[121,121,121,121,121,121]:=by rw[zmo];rfl
         by_cases hx:x=bZz
         ·have hs:=zfm hx
          rw[ez] at hs
          clear hx HNX ez ey
          go_wp2
          go_ret
          exact⟨rfl,HBwd.out⟩
         ·have hs:=zei hx
          rw[ez] at hs
          by_cases hy:x=bYy
          ·have hs2:=zfm hy
           rw[ey] at hs2
           clear hx hy HNX ez ey
           go_wp2
           go_ret
           exact⟨rfl,HBwd.out⟩
          ·have hs2:=zei hy
           rw[ey] at hs2
           have HN2:=HNX.out hx hy
           have HN3:Hid (∀ j (hj:j < (namesT t).length),j < i+1->(namesT t)[j]≠bZz/\(namesT t)[j]≠bYy):=HN2
           clear hx hy HNX ez ey HN2
           go_wp2
           go_roundw
           case rel=>exact⟨i+1,by omega,by go_num,HN3,trivial⟩
           case measure=>simp[intOf];omega
        ·have hii:¬ (i:Int) < (t.length:Int):=by omega
         have hzz:bZz∉namesT t:=fun q=>by
          obtain⟨j,hj,e⟩:=List.mem_iff_getElem.1 q
          exact(HN.out j hj (by have:(namesT t).length=t.length:=(by simp[namesT]);omega)).1 e
         have hyy:bYy∉namesT t:=fun q=>by
          obtain⟨j,hj,e⟩:=List.mem_iff_getElem.1 q
          exact(HN.out j hj (by have:(namesT t).length=t.length:=(by simp[namesT]);omega)).2 e
         obtain⟨hP,h,hc,hd,_⟩:=HPP.out
         obtain⟨t20,t2,hc2,h2,hT⟩:=yds hc h (List.getElem_mem hk) hzz hyy h5 HS.out
         have hns:zaw (yay cs t[k].name t[k].arity)=zaw cs:=yc1 cs _ _
         have hrel:=fun(E E2:DB) (k1 k2:Nat) (r1:zjw (zjv t (zaw cs) none cs) 4096 4096=some (E,k1)) (r2:zjw (zjv t2 (zaw cs) none (yay cs t[k].name t[k].arity)) 4096 4096=some (E2,k2))=>yen h (List.getElem_mem hk) h2 hT hyy (zaw cs) r1 r2
         have HCO:Hid (Calls Tryz.prog 19 #[.string S] wc fun e w'=>∃ qb,e=.returned (.tuple #[.pointer (some ⟨qb,0,none⟩),.int .i64 0])/\Hid (zks wc.heap.size w' qb (yay cs t[k].name t[k].arity) t2)/\Hid (Below wc.heap.size wc w')/\w'.cell? ⟨db,0,none⟩=some (.pointer (some ⟨pb,0,none⟩))/\db < w'.heap.size):=by
          refine(zkd S wc (by omega)).mono ?_
          rintro e w' ⟨hb,q2⟩
          rw[hc2] at q2
          obtain⟨qb,v,pv,h3,h4,h5,h6,h7⟩:=q2
          have hq:=HCEL.out w' (zae HBwd.out hb (Nat.le_refl _))
          exact⟨qb,h3,⟨h7,v,pv,h4,h5,h6⟩,hb,hq.1,hq.2.2⟩
         have HR1:Hid (∀ W,Below w.heap.size w W->Calls Tryz.prog 24 #[.pointer (some ⟨pb,0,none⟩),.slice none 0 0,.int .i64 4096,.int .i64 4096] W fun e w'=>z9c lp t (zaw cs) (zjw (zjv t (zaw cs) none cs) 4096 4096) W e w'):=fun W hb=>z9x W pb (hP.below hb) h (Nat.le_trans hlp hb.size) 4096 4096 (by omega) (by omega)
         have HR2:Hid (∀ W W2 qb,Below wc.heap.size wc W->zks wc.heap.size W qb (yay cs t[k].name t[k].arity) t2->Below W.heap.size W W2->Calls Tryz.prog 24 #[.pointer (some ⟨qb,0,none⟩),.slice none 0 0,.int .i64 4096,.int .i64 4096] W2 fun e w'=>z9c wc.heap.size t2 (zaw cs) (zjw (zjv t2 (zaw cs) none (yay cs t[k].name t[k].arity)) 4096 4096) W2 e w'):=fun W W2 qb hb hq hb2=>by
          have:=z9x W2 qb (hq.below hb2) h2 (Nat.le_trans hb.size hb2.size) 4096 4096 (by omega) (by omega)
          rwa [hns] at this
         have HTD:Hid (∀(R:zbg) (D:DB) (kk:Nat),zey (t2.map (·.arity)) (za4 (zaw cs).length) R->zc2 (t2.map (·.arity)) R=D->zjw (zjv t2 (zaw cs) none (yay cs t[k].name t[k].arity)) 4096 4096=some (D,kk)->R.count<=1048576->Told t2 (zaw cs) R):=fun R D kk a1 a2 a3 a4=>by
          rw[← hns] at a1 a3 ⊢
          exact h2.told a1 a2 a3 a4
         have HTO:=fun(R:zbg) (D:DB) (kk:Nat) (a1:zey (t.map (·.arity)) (za4 (zaw cs).length) R) (a2:zc2 (t.map (·.arity)) R=D) (a3:zjw (zjv t (zaw cs) none cs) 4096 4096=some (D,kk)) (a4:R.count<=1048576)=>h.told a1 a2 a3 a4
         have HPB:Hid (∀ W,Below w.heap.size w W->zks lp W pb cs t):=fun W hb=>hP.below hb
         clear hP h hc hd hc2 h2 hns HN HS HPP HNM hzz hyy h3 hp6 hg9 hg0 HS1 HB1 HB1d hg9r hq9 HPK HPR
         have HCD:Hid (∀ W,Below wc.heap.size wc W->Below w.heap.size w W/\W.cell? ⟨db,0,none⟩=some (.pointer (some ⟨pb,0,none⟩))/\db < W.heap.size):=fun W hb=>by
          have q:=zae HBwd.out hb (Nat.le_refl _)
          have q2:=HCEL.out W q
          exact⟨q,q2.1,q2.2.2⟩
         generalize yay cs t[k].name t[k].arity=cs2 at *
         cases hA:zjw (zjv t (zaw cs) none cs) 4096 4096 with
         |none =>
          have K1:Hid (∀ W,Below wc.heap.size wc W->Calls Tryz.prog 24 #[.pointer (some ⟨pb,0,none⟩),.slice none 0 0,.int .i64 4096,.int .i64 4096] W fun e w'=>e=.returned (.tuple #[.pointer none,.int .i64 10])/\Hid (Below W.heap.size W w')):=fun W hb=>by
           refine(HR1.out W (HCD.out W hb).1).mono ?_
           intro e w' q
           rw[hA] at q
           exact q
          have K2:Hid (∀ W W2 qb,Below wc.heap.size wc W->zks wc.heap.size W qb cs2 t2->Below W.heap.size W W2->Calls Tryz.prog 24 #[.pointer (some ⟨qb,0,none⟩),.slice none 0 0,.int .i64 4096,.int .i64 4096] W2 fun e w'=>∃(v:Value) (f:Int),e=.returned (.tuple #[v,.int .i64 f])/\Hid (Below wc.heap.size wc w')):=fun W W2 qb hb hq hb2=>by
           refine(HR2.out W W2 qb hb hq hb2).mono ?_
           intro e w' q
           have hb3:=zae hb hb2 (Nat.le_refl _)
           cases hB:zjw (zjv t2 (zaw cs) none cs2) 4096 4096 with
           |none =>
            rw[hB] at q
            exact⟨_,_,q.1,zae hb3 q.2 (Nat.le_refl _)⟩
           |some y =>
            rw[hB] at q
            obtain⟨R,rb,pv,nv,rv,tbs,q1,q2,q3,q4,q5,q6,q7,q8,q9⟩:=q
            exact⟨_,_,q2,zae hb3 q9 (Nat.le_refl _)⟩
          clear hA HR1 HR2 hrel HTD HTO HPB HCEL hT
          go_wp2_with (first|(go_at_call 19;refine HCO.out.mono ?_;rintro e w4 ⟨qb,rfl,HP4,HB4,c4,hl4⟩)|(go_at_call 24;refine(K2.out _ _ _ HB4.out HP4.out HB5.out).mono ?_;rintro e w6 ⟨v6,f6,rfl,HB6⟩)|(go_at_call 24;refine(K1.out _ HB4.out).mono ?_;rintro e w5 ⟨rfl,HB5⟩))
          go_ret
          exact⟨rfl,zae HBwd.out HB6.out (Nat.le_refl _)⟩
         |some x =>
          obtain⟨D,kk⟩:=x
          have K1:Hid (∀ W,Below wc.heap.size wc W->Calls Tryz.prog 24 #[.pointer (some ⟨pb,0,none⟩),.slice none 0 0,.int .i64 4096,.int .i64 4096] W fun e w'=>∃ rb,e=.returned (.tuple #[.pointer (some ⟨rb,0,none⟩),.int .i64 0])/\Hid (∃(R:zbg) (pv nv rv:Value) (tbs:List Nat) (lo:Nat),zvb lo lp w' rb t (zaw cs) R pv nv rv tbs/\Told t (zaw cs) R/\zc2 (t.map (·.arity)) R=D)/\Hid (Below W.heap.size W w')):=fun W hb=>by
           refine(HR1.out W (HCD.out W hb).1).mono ?_
           intro e w' q
           rw[hA] at q
           obtain⟨R,rb,pv,nv,rv,tbs,q1,q2,q3,q4,q5,q6,q7,q8,q9⟩:=q
           exact⟨rb,q2,⟨R,pv,nv,rv,tbs,_,q3,HTO R _ _ q4 q5 hA q8,q5⟩,q9⟩
          cases hB:zjw (zjv t2 (zaw cs) none cs2) 4096 4096 with
          |none =>
           have K2:Hid (∀ W W2 qb,Below wc.heap.size wc W->zks wc.heap.size W qb cs2 t2->Below W.heap.size W W2->Calls Tryz.prog 24 #[.pointer (some ⟨qb,0,none⟩),.slice none 0 0,.int .i64 4096,.int .i64 4096] W2 fun e w'=>e=.returned (.tuple #[.pointer none,.int .i64 10])/\Hid (Below wc.heap.size wc w')):=fun W W2 qb hb hq hb2=>by
            refine(HR2.out W W2 qb hb hq hb2).mono ?_
            intro e w' q
            rw[hB] at q
            exact⟨q.1,zae (zae hb hb2 (Nat.le_refl _)) q.2 (Nat.le_refl _)⟩
           clear hA hB HR1 HR2 hrel HTD HTO HPB HCEL hT
           go_wp2_with (first|(go_at_call 19;refine HCO.out.mono ?_;rintro e w4 ⟨qb,rfl,HP4,HB4,c4,hl4⟩)|(go_at_call 24;refine(K2.out _ _ _ HB4.out HP4.out HB5.out).mono ?_;rintro e w6 ⟨rfl,HB6⟩)|(go_at_call 24;refine(K1.out _ HB4.out).mono ?_;rintro e w5 ⟨rb,rfl,HX5,HB5⟩))
           go_ret
           exact⟨rfl,zae HBwd.out HB6.out (Nat.le_refl _)⟩
          |some y =>
           obtain⟨E,ll⟩:=y
           have hre:=hrel D E kk ll hA hB
           have K2:Hid (∀ W W2 qb,Below wc.heap.size wc W->zks wc.heap.size W qb cs2 t2->Below W.heap.size W W2->Calls Tryz.prog 24 #[.pointer (some ⟨qb,0,none⟩),.slice none 0 0,.int .i64 4096,.int .i64 4096] W2 fun e w'=>∃ rb,e=.returned (.tuple #[.pointer (some ⟨rb,0,none⟩),.int .i64 0])/\Hid (∃(R:zbg) (pv nv rv:Value) (tbs:List Nat) (lo:Nat),zvb lo wc.heap.size w' rb t2 (zaw cs) R pv nv rv tbs/\Told t2 (zaw cs) R/\zc2 (t2.map (·.arity)) R=E)/\Hid (Below W2.heap.size W2 w')/\w'.cell? ⟨db,0,none⟩=some (.pointer (some ⟨pb,0,none⟩))/\db < w'.heap.size):=fun W W2 qb hb hq hb2=>by
            refine(HR2.out W W2 qb hb hq hb2).mono ?_
            intro e w' q
            rw[hB] at q
            obtain⟨R,rb,pv,nv,rv,tbs,q1,q2,q3,q4,q5,q6,q7,q8,q9⟩:=q
            exact⟨rb,q2,⟨R,pv,nv,rv,tbs,_,q3,HTD.out R _ _ q4 q5 hB q8,q5⟩,q9,(HCD.out w' (zae (zae hb hb2 (Nat.le_refl _)) q9 (Nat.le_refl _))).2⟩
           have F1:Hid (∀ W1 W2 rb,(∃(R:zbg) (pv nv rv:Value) (tbs:List Nat) (lo:Nat),zvb lo lp W1 rb t (zaw cs) R pv nv rv tbs/\Told t (zaw cs) R/\zc2 (t.map (·.arity)) R=D)->Below W1.heap.size W1 W2->Below wc.heap.size wc W2->Calls Tryz.prog 25 #[.pointer (some ⟨pb,0,none⟩),.pointer (some ⟨rb,0,none⟩)] W2 fun e w'=>∃ ao cap fa,e=.returned (.tuple #[.slice ao fa.length cap,.bool true])/\Hid (znk w' (.slice ao fa.length cap) fa)/\Hid (∃ R,Told t (zaw cs) R/\zc2 (t.map (·.arity)) R=D/\fa=zcl t (zaw cs) R t.length)/\Hid (Below W2.heap.size W2 w')):=fun W1 W2 rb ⟨R,pv,nv,rv,tbs,lo,r1,r2,r3⟩ hb hb2=>by
            refine(z9b W2 pb rb cs t (zaw cs) R pv nv rv tbs (HPB.out W2 (HCD.out W2 hb2).1) (r1.below hb) r2 (z9a r2)).mono ?_
            rintro e w' ⟨v,gs,h1,h2,h3⟩
            have h4:=h2.facts
            obtain⟨ao,cap,rfl,_⟩:=id h4
            exact⟨ao,cap,_,h1,h4,⟨R,r2,r3,rfl⟩,h3⟩
           have F2:Hid (∀ W0 W1 W2 qb sb (fa:List zgl),zks wc.heap.size W0 qb cs2 t2->Below W0.heap.size W0 W2->(∃(R:zbg) (pv nv rv:Value) (tbs:List Nat) (lo:Nat),zvb lo wc.heap.size W1 sb t2 (zaw cs) R pv nv rv tbs/\Told t2 (zaw cs) R/\zc2 (t2.map (·.arity)) R=E)->Below W1.heap.size W1 W2->(∃ R,Told t (zaw cs) R/\zc2 (t.map (·.arity)) R=D/\fa=zcl t (zaw cs) R t.length)->Calls Tryz.prog 25 #[.pointer (some ⟨qb,0,none⟩),.pointer (some ⟨sb,0,none⟩)] W2 fun e w'=>∃ ao cap,e=.returned (.tuple #[.slice ao fa.length cap,.bool true])/\Hid (∃ fb,znk w' (.slice ao fa.length cap) fb/\yd3 fa fb/\fa.length<=10000000/\(∀ f∈fa,f.2.1.length<=3)/\∀ f∈fb,f.2.1.length<=3)/\Hid (Below W2.heap.size W2 w')):=fun W0 W1 W2 qb sb fa hq hb0 ⟨R2,pv,nv,rv,tbs,lo,r1,r2,r3⟩ hb ⟨R,a1,a2,a3⟩=>by
            refine(z9b W2 qb sb cs2 t2 (zaw cs) R2 pv nv rv tbs (hq.below hb0) (r1.below hb) r2 (z9a r2)).mono ?_
            rintro e w' ⟨v,gs,h1,h2,h3⟩
            have h4:=h2.facts
            obtain⟨ao,cap,rfl,_⟩:=id h4
            have hsf:yd3 fa (zcl t2 (zaw cs) R2 t2.length):=by
             rw[a3]
             exact ydh a1 r2 hT (by rw[a2,r3];exact hre)
            have hlen:=hsf.1
            rw[← hlen] at h1 h4
            exact⟨ao,cap,h1,⟨_,h4,hsf,by rw[a3];exact z9a a1,by rw[a3];exact z9k a1,z9k r2⟩,h3⟩
           clear hA hB HR1 HR2 hrel HTD HTO HPB HCEL hT hre
           go_wp2_with (first|(go_at_call 19;refine HCO.out.mono ?_;rintro e w4 ⟨qb,rfl,HP4,HB4,c4,hl4⟩)|(go_at_call 25;refine(F2.out _ _ _ _ _ _ HP4.out (zae HB5.out (zae HB6.out HB7.out (Nat.le_refl _)) (Nat.le_refl _)) HX6.out HB7.out HI7.out).mono ?_;rintro e w8 ⟨ao8,cap8,rfl,HX8,HB8⟩)|(go_at_call 25;refine(F1.out _ _ _ HX5.out HB6.out (zae HB4.out (zae HB5.out HB6.out (Nat.le_refl _)) (Nat.le_refl _))).mono ?_;rintro e w7 ⟨ao7,cap7,fa,rfl,HF7,HI7,HB7⟩)|(go_at_call 24;refine(K2.out _ _ _ HB4.out HP4.out HB5.out).mono ?_;rintro e w6 ⟨sb,rfl,HX6,HB6,c6,hl6⟩)|(go_at_call 24;refine(K1.out _ HB4.out).mono ?_;rintro e w5 ⟨rb,rfl,HX5,HB5⟩))
           have HB8w:Hid (Below wc.heap.size wc w8):=zae HB4.out (zae HB5.out (zae HB6.out (zae HB7.out HB8.out (Nat.le_refl _)) (Nat.le_refl _)) (Nat.le_refl _)) (Nat.le_refl _)
           have HBW8:Hid (Below w.heap.size w w8):=zae HBwd.out HB8w.out (Nat.le_refl _)
           have HA:Hid (znk w8 (.slice ao7 fa.length cap7) fa):=HF7.out.below HB8.out
           obtain⟨fb,hfb,hsf,hmany,hlq,hlr⟩:=HX8.out
           have HB:Hid (znk w8 (.slice ao8 fa.length cap8) fb):=hfb
           have HSF:Hid (yd3 fa fb):=hsf
           have HL1:Hid (∀ f∈fa,f.2.1.length<=3):=hlq
           have HL2:Hid (∀ f∈fb,f.2.1.length<=3):=hlr
           have HLE:Hid (fb.length=fa.length):=hsf.1.symm
           clear hfb hsf hlq hlr HX8 HF7 HI7 HX5 HX6 HP4 K1 K2 F1 F2 HCO HB4 HB5 HB6 HB7 HB8 HCD c4 hl4 c6 hl6
           go_loopw [25,26] (fun v25 _ wr=>∃ i:Nat,i<=fa.length/\v25=.int .i64 i/\Below w8.heap.size w8 wr) (fun v25 _ _=>fa.length - (intOf v25).toNat)
           case atStart=>exact⟨0,Nat.zero_le _,rfl,Below.refl _ _⟩
           case round =>
            obtain⟨i,hi,rfl,hbk⟩:=hrel
            by_cases hil:i < fa.length
            ·have hii:(i:Int) < (fa.length:Int):=by omega
             have HAr:Hid (znk wr (.slice ao7 fa.length cap7) fa):=HA.out.below hbk
             have HBr:Hid (znk wr (.slice ao8 fa.length cap8) fb):=HB.out.below hbk
             obtain⟨ao,cap,hv,hcells⟩:=id HAr.out
             simp only[Value.slice.injEq,true_and] at hv
             obtain⟨e1,e2⟩:=hv
             subst e1 e2
             obtain⟨g,gi,lo3,rfl,hg,c0,c1,c2,hS⟩:=hcells i hil
             obtain⟨k,hfk⟩:=HSF.out.2 i hil
             have hk0:¬ (k:Int) < 0:=by omega
             have hrl:=HL1.out _ (List.getElem_mem hil)
             have HFI:Hid (∀ W,Below wr.heap.size wr W->Calls Tryz.prog 26 #[.slice ao8 fa.length cap8,.string fa[i].1,.slice (some ⟨gi,0,none⟩) fa[i].2.1.length fa[i].2.1.length] W fun e w'=>e=.returned (.int .i64 k)/\Hid (Below wr.heap.size wr w')/\w'.cell? ⟨g,i * 3,none⟩=some (.string fa[i].1)/\w'.cell? ⟨g,i * 3+1,none⟩=some (.slice (some ⟨gi,0,none⟩) fa[i].2.1.length fa[i].2.1.length)):=fun W hb=>by
              refine(z9n W _ fb fa[i].1 _ fa[i].2.1 (HBr.out.below hb) (hS.below hb) (by rw[HLE.out];exact hmany) (by omega) (fun f hf=>by have:=HL2.out f hf;omega)).mono ?_
              rintro e w' ⟨h1,h2⟩
              have hb3:=zae hb h2 (Nat.le_refl _)
              refine⟨?_,hb3,(hb3.cell (p:=⟨g,i * 3,none⟩) hg).trans c0,(hb3.cell (p:=⟨g,i * 3+1,none⟩) hg).trans c1⟩
              rw[h1,z5r,hfk]
             clear hS hfk
             generalize fa[i].2.1.length=rl at *
             generalize fa[i].1=fp at *
             go_upto_region 39 with fail
             go_cut [26] from 191 to 202 (fun s26 wx=>s26=.int .i64 k/\Hid (Below wr.heap.size wr wx))
             case first =>
              go_region_held3 (fun w'=>w'.cell? ⟨g,i * 3,none⟩=some (.string fp)/\w'.cell? ⟨g,i * 3+1,none⟩=some (.slice (some ⟨gi,0,none⟩) rl rl)) (first|go_keep|(go_simp;done)) (first|(go_at_call 26;refine(HFI.out _ (by exact(by repeat'(first|with_reducible(first|exact zR _ _|assumption|refine zN ?_ _|refine zA ?_ ?_ _|refine zD ?_|refine zS ?_ ?_ _)|go_size)))).mono ?_;rintro e w5 ⟨rfl,HB5,z0,z1⟩))
              go_wp2
              go_meet
              case rel=>exact⟨rfl,HB5⟩
             case rest =>
              obtain⟨rfl,HB6⟩:=hcut
              have hb6:Below w8.heap.size w8 wc:=zae hbk HB6.out (Nat.le_refl _)
              clear c0 c1 c2 HFI HAr HBr hcells
              go_wp2
              go_roundw
              case rel=>exact⟨i+1,by omega,by go_num,hb6⟩
              case measure=>simp[intOf];omega
            ·have hii:¬ (i:Int) < (fa.length:Int):=by omega
             go_wp2
             go_ret
             exact⟨rfl,zae HBW8.out hbk (Nat.le_refl _)⟩
      ·have h5i:(500:Int) < (S.size:Int):=by omega
       go_wp2
       go_ret
       exact⟨rfl,HBwd.out⟩
theorem ydc(w:World)(s:ByteArray)(a:Int)(hs:s.size<=9223372036854775807)(ha:-9223372036854775808<=a/\a<=9223372036854775807) :
  Calls Tryz.prog 4 #[.string s,.int .i64 a] w fun e w'=>e=.returned (.bool true)/\Below w.heap.size w w':=by
 have HRE:Hid (Calls Tryz.prog 10 #[.string s] w fun e w'=>zxd s w e w'):=z9o w s hs
 unfold zxd at HRE
 cases hc:znz s with
 |error n =>
  rw[hc] at HRE
  have HR2:Hid (Calls Tryz.prog 10 #[.string s] w fun e w'=>e=.returned (.tuple #[.pointer none,.bool true])/\Below w.heap.size w w'):=HRE
  clear HRE hc
  go_enter Tryz.func4,Tryz.ntmps4
  go_wp2_with (first|(go_at_call 10;refine HR2.out.mono ?_;rintro e w1 ⟨rfl,hb1⟩))
  go_ret
  exact⟨rfl,hb1⟩
 |ok x =>
  obtain⟨cs,t⟩:=x
  obtain⟨t0,hp⟩:=z88 hc
  rw[hc] at HRE
  have HR2:Hid (Calls Tryz.prog 10 #[.string s] w fun e w'=>∃ db,e=.returned (.tuple #[.pointer (some ⟨db,0,none⟩),.bool true])/\Hid (∃ pb,Box w' db #[.pointer (some ⟨pb,0,none⟩),.string s] 37/\zks w.heap.size w' pb cs t)/\Below w.heap.size w w'):=by
   refine HRE.out.mono ?_
   rintro e w' ⟨db,pb,q1,q2,q3,q4,q5⟩
   exact⟨db,q2,⟨pb,q3,q4⟩,q5⟩
  have HLI:Hid (∀ W db,w.heap.size<=W.heap.size->(∃ pb,Box W db #[.pointer (some ⟨pb,0,none⟩),.string s] 37/\zks w.heap.size W pb cs t)->Calls Tryz.prog 12 #[.pointer (some ⟨db,0,none⟩),.int .i64 a] W fun e w'=>e=.returned (.bool true)/\Below W.heap.size W w'):=fun W db hl ⟨pb,q1,q2⟩=>ydg W db pb s a q1 q2 hp hl hc ha
  clear HRE hc hp
  go_enter Tryz.func4,Tryz.ntmps4
  go_wp2_with (first|(go_at_call 10;refine HR2.out.mono ?_;rintro e w1 ⟨db,rfl,HX1,hb1⟩)|(go_at_call 12;refine(HLI.out _ _ hb1.size HX1.out).mono ?_;rintro e w2 ⟨rfl,hb2⟩))
  go_ret
  exact⟨rfl,zae hb1 hb2 (Nat.le_refl _)⟩
end Go.Proofs.YteampbddflhngabGreat
