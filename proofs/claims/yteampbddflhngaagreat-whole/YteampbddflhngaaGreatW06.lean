import Derived.Test.YteampbddflhngaaGreatW05
import Derived.Deep.RegionLaw

namespace Go.Proofs.YteampbddflhngaaGreat
set_option maxRecDepth 100000
set_option maxHeartbeats 1000000
open Go.RowKit
variable {lo:Nat}
def zvb(t:List zar)(l:zbu):Nat:=match zbh t l.pred with
 |none=>0
 |some e=>if l.neg then e.qi+1 else e.qi
def zfc(t:List zar)(n:Nat)(l:zbu):Nat:=if n < zvb t l then zvb t l else n
def zfh(t:List zar)(c:zab):Nat:=c.body.foldl (zfc t) 0
theorem z2t{t:List zar}{M:Nat}(h:∀ e∈t,e.qi<=M)(l:zbu):zvb t l<=M+1:=by
 unfold zvb
 split
 ·omega
 ·rename_i e he
  obtain⟨hk,hee,_⟩:=zch he
  have:=h e (by rw[← hee];exact uad hk)
  split <;> omega
theorem ztz{t:List zar}{M:Nat}(h:∀ e∈t,e.qi<=M):∀(ls:List zbu) (n:Nat),n<=M+1->ls.foldl (zfc t) n<=M+1
 |[],n,hn=>hn
 |l::ls,n,hn=>by
  refine ztz h ls _ ?_
  unfold zfc;have:=z2t h l;split <;> omega
theorem zt0(B M:Nat)(w:World)(tb:Nat)(t:List zar)(c:zab)(va vb:Value)(h:TA B w tb t)(hl:t.length<=1000)(hM:∀ e∈t,e.qi<=M)(hM2:M<=2000000)(hs:SIn lo w va c.head.args)(hb:LIn lo w vb c.body)(hl2:c.body.length<=1000) :
  Calls Tryz.prog 150 #[.pointer (some ⟨tb,0,none⟩),.agg #[.bool c.head.neg,.string c.head.pred,va,vb]] w fun e w'=>e=.returned (.int .i64 (zfh t c))/\Below w.heap.size w w':=by
 obtain⟨ao,cap,rfl⟩:=hs.shape
 obtain⟨aob,capb,rfl⟩:=hb.shape
 have HM:Hid (∀ e∈t,e.qi<=M):=hM
 clear hM
 go_enter Tryz.func150,Tryz.ntmps150
 go_wp2
 go_loopw [5,13] (fun n i wr=>∃ k m:Nat,k<=c.body.length/\i=.int .i64 k/\n=.int .i64 m/\m<=M+1/\Below w.heap.size w wr/\Hid (m=(c.body.take k).foldl (zfc t) 0)) (fun _ i _=>c.body.length - (intOf i).toNat)
 case atStart=>exact⟨0,0,uaj _,rfl,rfl,uaj _,(by go_grown),rfl⟩
 case round =>
  obtain⟨k,m,hk,rfl,rfl,hm,hbk,H⟩:=hrel
  have hszk:=hbk.size
  by_cases hlt:k < c.body.length
  ·obtain⟨g,ao2,cap2,rfl,hg,hc0,hc1,hc2,hsk⟩:=hb.cell k hlt
   have hd0:=(hbk.cell (p:=⟨g,k * 3,none⟩) hg).trans hc0
   have hd1:=(hbk.cell (p:=⟨g,k * 3+1,none⟩) hg).trans hc1
   have hd2:=(hbk.cell (p:=⟨g,k * 3+2,none⟩) hg).trans hc2
   have hgr:g < wr.heap.size:=by omega
   have HS:Hid ((c.body.take (k+1)).foldl (zfc t) 0=zfc t m c.body[k]):=by rw[Hid,H.out,uae hlt,ubj];rfl
   have hta:=h.below hbk
   clear hc0 hc1 hc2 hsk H
   generalize c.body[k]=a at *
   have hls:=z2t HM.out a
   cases hE:zbh t a.pred with
   |none =>
    have HL:Hid (zvb t a=0):=by unfold Hid zvb;rw[hE]
    have HR:Hid ((c.body.take (k+1)).foldl (zfc t) 0=m):=by rw[Hid,HS.out,zfc,HL.out];simp
    have HE:Hid (zbh t a.pred=none):=hE
    clear HS HL hE hls
    go_wp2_with (first|(go_at_call 159;refine(zw6 B _ tb t a.pred (by exact hta.below (by go_grown)) hl HE).mono ?_;rintro e w1 ⟨rfl,rfl⟩))
    go_roundw
    case rel=>exact⟨k+1,m,by omega,by go_num,rfl,hm,(by go_grown),HR.out.symm⟩
    case measure=>simp[intOf];omega
   |some e0 =>
    have HE:Hid (zbh t a.pred=some e0):=hE
    cases hN:a.neg with
    |true =>
     have hL:zvb t a=e0.qi+1:=by unfold zvb;rw[hE,hN];rfl
     have HL:Hid (zfc t m a=if m < e0.qi+1 then e0.qi+1 else m):=by unfold Hid zfc;rw[hL]
     rw[hN] at hd0
     rw[hL] at hls
     clear hL hE hN
     by_cases hlt2:m < e0.qi+1
     all_goals
      go_wp2_with (first|(go_at_call 159;refine(zmy B _ tb t a.pred e0 (by exact hta.below (by go_grown)) hl HE).mono ?_;rintro e w1 ⟨rfl,rfl⟩))
      go_roundw
      case rel=>first|exact⟨k+1,e0.qi+1,by omega,by go_num,by go_num,by omega,(by go_grown),by rw[Hid,HS.out,HL.out,if_pos hlt2]⟩|exact⟨k+1,m,by omega,by go_num,rfl,hm,(by go_grown),by rw[Hid,HS.out,HL.out,if_neg hlt2]⟩
      case measure=>simp[intOf];omega
    |false =>
     have hL:zvb t a=e0.qi:=by unfold zvb;rw[hE,hN];rfl
     have HL:Hid (zfc t m a=if m < e0.qi then e0.qi else m):=by unfold Hid zfc;rw[hL]
     rw[hN] at hd0
     rw[hL] at hls
     clear hL hE hN
     by_cases hlt2:m < e0.qi
     all_goals
      go_wp2_with (first|(go_at_call 159;refine(zmy B _ tb t a.pred e0 (by exact hta.below (by go_grown)) hl HE).mono ?_;rintro e w1 ⟨rfl,rfl⟩))
      go_roundw
      case rel=>first|exact⟨k+1,e0.qi,by omega,by go_num,by go_num,by omega,(by go_grown),by rw[Hid,HS.out,HL.out,if_pos hlt2]⟩|exact⟨k+1,m,by omega,by go_num,rfl,hm,(by go_grown),by rw[Hid,HS.out,HL.out,if_neg hlt2]⟩
      case measure=>simp[intOf];omega
  ·have HR:Hid (m=zfh t c):=by rw[Hid,H.out,uam (by omega)];rfl
   clear H
   go_wp2
   go_ret
   exact⟨by rw[← HR.out];rfl,hbk⟩
def zes(x:List zar × Bool)(c:zab):List zar × Bool:=((zcc x.1 c.head.pred (zfh x.1 c)).1,x.2 || (zcc x.1 c.head.pred (zfh x.1 c)).2)
def zb5(t:List zar)(cs:List zab):List zar × Bool:=cs.foldl zes (t,false)
theorem z3s{t:List zar}{n:ByteArray}{s M:Nat}(h:∀ e∈t,e.qi<=M)(hs:s<=M):∀ e∈(zcc t n s).1,e.qi<=M:=by
 unfold zcc
 split
 ·exact h
 ·split
  ·exact h
  ·intro e he
   rcases uco he with he|he
   ·exact h e he
   ·subst he;exact hs
theorem zn7{α β:Type}(f:β->α->β)(b:β)(l:List α)(k:Nat)(hk:k < l.length):(l.take (k+1)).foldl f b=f ((l.take k).foldl f b) l[k]:=by rw[uae hk,ubj];rfl
theorem zpn(B M:Nat)(w:World)(tb:Nat)(t:List zar)(v:Value)(cs:List zab)(w0:World)(hw0:w0.heap.size=B)(hb0:Below B w0 w)(hcs:CIn lo 171 w0 v cs)(hok:∀ c∈cs,zpb c)(_:cs.length<=1000)
  (h:TA B w tb t) (hl:t.length<=1000) (hM:∀ e∈t,e.qi<=M) (hM2:M+cs.length<=1900000) :
  Calls Tryz.prog 104 #[.pointer (some ⟨tb,0,none⟩),v] w fun e w'=>e=.returned (.bool (zb5 t cs).2)/\TA B w' tb (zb5 t cs).1/\Below B w w'/\(zb5 t cs).1.length=t.length/\(∀ e∈(zb5 t cs).1,e.qi<=M+cs.length):=by
 obtain⟨ao,cap,rfl⟩:=hcs.shape
 have HOK:Hid (∀ c∈cs,zpb c):=hok
 have hsz0:=hb0.size
 clear hok
 go_enter Tryz.func104,Tryz.ntmps104
 go_wp2
 go_loopw [5,11] (fun r i wr=>∃ k:Nat,k<=cs.length/\i=.int .i64 k/\r=.bool ((cs.take k).foldl zes (t,false)).2/\Below B w wr/\TA B wr tb ((cs.take k).foldl zes (t,false)).1/\((cs.take k).foldl zes (t,false)).1.length=t.length/\Hid (∀ e∈((cs.take k).foldl zes (t,false)).1,e.qi<=M+k)) (fun _ i _=>cs.length - (intOf i).toNat)
 case atStart=>exact⟨0,uaj _,rfl,rfl,Below.refl _ _,h,rfl,hM⟩
 case round =>
  obtain⟨k,hk,rfl,rfl,hbk',htk,hlk,HM⟩:=hrel
  have hbk:Below w0.heap.size w0 wr:=by rw[hw0];exact hb0.trans hbk'
  have hszk:=hbk'.size
  by_cases hlt:k < cs.length
  ·have hsn:=zn7 zes (t,false) cs k hlt
   obtain⟨g,ao2,cap2,ao3,cap3,rfl,hg,hc0,hc1,hc2,hc3,hsk,hllk⟩:=hcs.cell k hlt
   have hd0:=(hbk.cell (p:=⟨g,k * 4,none⟩) (by omega)).trans hc0
   have hd1:=(hbk.cell (p:=⟨g,k * 4+1,none⟩) (by omega)).trans hc1
   have hd2:=(hbk.cell (p:=⟨g,k * 4+2,none⟩) (by omega)).trans hc2
   have hd3:=(hbk.cell (p:=⟨g,k * 4+3,none⟩) (by omega)).trans hc3
   have hgr:g < wr.heap.size:=by omega
   have hskr:=hsk.below hbk
   have hlkr:=hllk.below hbk
   obtain⟨hk1,hk2⟩:=HOK.out _ (uad hlt)
   clear hc0 hc1 hc2 hc3 hsk hllk
   generalize cs[k]=a at *
   generalize (cs.take k).foldl zes (t,false)=x at *
   obtain⟨tk,rk⟩:=x
   simp only at htk hlk HM ⊢
   have HS:Hid ((cs.take (k+1)).foldl zes (t,false)=zes (tk,rk) a):=hsn
   clear hsn
   have hll:zfh tk a<=M+k+1:=ztz HM.out a.body 0 (by omega)
   have hrl:=zz9 tk a.head.pred (zfh tk a)
   have HB:Hid (∀ e∈(zcc tk a.head.pred (zfh tk a)).1,e.qi<=M+(k+1)):=z3s (fun e he=>by have:=HM.out e he;omega) (by omega)
   cases hR:(zcc tk a.head.pred (zfh tk a)).2 with
   |true =>
    have H1:Hid (((cs.take (k+1)).foldl zes (t,false))=((zcc tk a.head.pred (zfh tk a)).1,true)):=by rw[Hid,HS.out,zes];simp[hR]
    clear HS
    go_wp2_with (first|(go_at_call 150;refine(zt0 B (M+k) _ tb tk a _ _ (by exact htk.below (by go_grown)) (by omega) HM.out (by omega) (by exact hskr.below (by go_grown)) (by exact hlkr.below (by go_grown)) hk2).mono ?_;rintro e w1 ⟨rfl,hb1⟩;have hB1:=zae ((Below.refl wr.heap.size wr).alloc (uaa _) _) hb1 (uaa _);have ht1:=htk.below hB1;have hz1:=hB1.size;have hbx1:=(Box.new wr _ _).below hb1;obtain⟨hxc,hxf⟩:=hbx1.rules)|(go_at_call 151;refine(raise_any B _ tb tk a.head.pred (zfh tk a) ht1 (by omega) (by omega)).mono ?_;rintro e w2 ⟨rfl,ht2,hb2⟩))
    go_roundw
    case rel=>exact⟨k+1,by omega,by go_num,by rw[H1.out],(hbk'.trans (hB1.mono (by omega))).trans hb2,by rw[H1.out];exact ht2,by rw[H1.out];simp only;omega,by rw[H1.out];exact HB⟩
    case measure=>simp[intOf];omega
   |false =>
    have H1:Hid (((cs.take (k+1)).foldl zes (t,false))=((zcc tk a.head.pred (zfh tk a)).1,rk)):=by rw[Hid,HS.out,zes];simp[hR]
    clear HS
    go_wp2_with (first|(go_at_call 150;refine(zt0 B (M+k) _ tb tk a _ _ (by exact htk.below (by go_grown)) (by omega) HM.out (by omega) (by exact hskr.below (by go_grown)) (by exact hlkr.below (by go_grown)) hk2).mono ?_;rintro e w1 ⟨rfl,hb1⟩;have hB1:=zae ((Below.refl wr.heap.size wr).alloc (uaa _) _) hb1 (uaa _);have ht1:=htk.below hB1;have hz1:=hB1.size;have hbx1:=(Box.new wr _ _).below hb1;obtain⟨hxc,hxf⟩:=hbx1.rules)|(go_at_call 151;refine(raise_any B _ tb tk a.head.pred (zfh tk a) ht1 (by omega) (by omega)).mono ?_;rintro e w2 ⟨rfl,ht2,hb2⟩))
    go_roundw
    case rel=>exact⟨k+1,by omega,by go_num,by rw[H1.out],(hbk'.trans (hB1.mono (by omega))).trans hb2,by rw[H1.out];exact ht2,by rw[H1.out];simp only;omega,by rw[H1.out];exact HB⟩
    case measure=>simp[intOf];omega
  ·have hE:cs.take k=cs:=uam (by omega)
   rw[hE] at htk hlk HM ⊢
   have hkl:k=cs.length:=by omega
   have HM2:Hid (∀ e∈(zb5 t cs).1,e.qi<=M+cs.length):=by rw[← hkl];exact HM
   clear hE HM
   go_wp2
   go_ret
   exact⟨rfl,htk,hbk',hlk,HM2⟩
def zc0:Nat->List zar->List zab->List zar × Bool
 |0,t,_=>(t,false)
 |m+1,t,cs=>if (zb5 t cs).2 then zc0 m (zb5 t cs).1 cs else((zb5 t cs).1,true)
theorem zmx(B:Nat)(w:World)(tb:Nat)(t:List zar)(v:Value)(cs:List zab)(w0:World)(hw0:w0.heap.size=B)(hb0:Below B w0 w)(hcs:CIn lo 171 w0 v cs)(hok:∀ c∈cs,zpb c)(hl0:cs.length<=1000)
  (h:TA B w tb t) (hl:t.length<=1000) (hM:∀ e∈t,e.qi<=0) :
  Calls Tryz.prog 64 #[.pointer (some ⟨tb,0,none⟩),v] w fun e w'=>e=.returned (.bool (zc0 (t.length+1) t cs).2)/\TA B w' tb (zc0 (t.length+1) t cs).1/\Below B w w':=by
 have HOK:Hid (∀ c∈cs,zpb c):=hok
 have HW:Hid (w0.heap.size=B):=hw0
 clear hok hw0
 go_enter Tryz.func64,Tryz.ntmps64
 go_wp2
 go_loopw [5] (fun i wr=>∃(p:Nat) (tk:List zar),p<=t.length+1/\i=.int .i64 p/\Below B w wr/\TA B wr tb tk/\tk.length=t.length/\Hid (∀ e∈tk,e.qi<=p * cs.length)/\Hid (zc0 (t.length+1) t cs=zc0 (t.length+1 - p) tk cs)) (fun i _=>t.length+1 - (intOf i).toNat)
 case atStart=>exact⟨0,t,uaj _,rfl,Below.refl _ _,h,rfl,(by simpa [Hid] using hM),rfl⟩
 case round =>
  obtain⟨p,tk,hp,rfl,hbk,htk,hlk,HM,H⟩:=hrel
  obtain⟨ao,cap,hbx,hown⟩:=htk.view
  obtain⟨hc,hf⟩:=hbx.rules
  rw[hlk] at hc hbx hown
  by_cases hlt:p<=t.length
  ·have hmul:p * cs.length<=1000 * 1000:=Nat.mul_le_mul (by omega) hl0
   have hra:=zpn B (p * cs.length) wr tb tk v cs w0 HW.out (hb0.trans hbk) hcs HOK.out hl0 htk (by omega) HM.out (by omega)
   have HRA:Hid (Calls Tryz.prog 104 #[.pointer (some ⟨tb,0,none⟩),v] wr fun e w'=>e=.returned (.bool (zb5 tk cs).2)/\TA B w' tb (zb5 tk cs).1/\Below B wr w'/\(zb5 tk cs).1.length=tk.length/\(∀ e∈(zb5 tk cs).1,e.qi<=p * cs.length+cs.length)):=hra
   have hs1:t.length+1 - p=(t.length - p)+1:=by omega
   have HE:Hid (zc0 (t.length+1) t cs=if (zb5 tk cs).2 then zc0 (t.length - p) (zb5 tk cs).1 cs else((zb5 tk cs).1,true)):=by rw[Hid,H.out,hs1];rfl
   clear hra hs1 H
   have hpp:p * cs.length+cs.length=(p+1) * cs.length:=by rw[Nat.add_mul];omega
   have HPP:Hid (p * cs.length+cs.length=(p+1) * cs.length):=hpp
   clear hpp hmul HM
   cases hR:(zb5 tk cs).2 with
   |true =>
    have H2:Hid (zc0 (t.length+1) t cs=zc0 (t.length+1 - (p+1)) (zb5 tk cs).1 cs):=by rw[Hid,HE.out,hR];simp
    clear HE
    rw[hR] at HRA
    clear hR
    generalize (zb5 tk cs).1=tn at *
    go_wp2_with (first|(go_at_call 104;refine HRA.out.mono ?_;rintro e w1 ⟨rfl,ht1,hb1,hl1,hm1⟩;clear HRA))
    go_roundw
    case rel=>exact⟨p+1,tn,by omega,by go_num,hbk.trans hb1,ht1,by omega,by rw[HPP.out] at hm1;exact hm1,H2⟩
    case measure=>simp[intOf];omega
   |false =>
    have H2:Hid (zc0 (t.length+1) t cs=((zb5 tk cs).1,true)):=by rw[Hid,HE.out,hR];simp
    clear HE
    rw[hR] at HRA
    clear hR
    generalize (zb5 tk cs).1=tn at *
    go_wp2_with (first|(go_at_call 104;refine HRA.out.mono ?_;rintro e w1 ⟨rfl,ht1,hb1,hl1,hm1⟩;clear HRA))
    go_ret
    exact⟨by rw[H2.out];rfl,by rw[H2.out];exact ht1,hbk.trans hb1⟩
  ·have H2:Hid (zc0 (t.length+1) t cs=(tk,false)):=by rw[Hid,H.out,show t.length+1 - p=0 by omega];rfl
   clear H
   go_wp2
   go_ret
   exact⟨by rw[H2.out];rfl,by rw[H2.out];exact htk,hbk⟩
end Go.Proofs.YteampbddflhngaaGreat
namespace Go.Proofs.YteampbddflhngaaGreat
set_option maxRecDepth 100000
set_option maxHeartbeats 1000000
open Go.RowKit
variable {w w':World}{base n b g cap m tb:Nat}{v:Value}{xs:List Value}{c:Array Value}
theorem Box.newAt(w:World)(b:Nat)(c:Array Value)(T:TypeId)(h:b=w.heap.size):Box (w.alloc (.cells c T)) b c T:=by subst h;exact Box.new w c T
theorem Box.drew{w:World}{b:Nat}{c:Array Value}{T:TypeId}(h:Box w b c T):Box w.drew b c T:=h
theorem zz1{e:TypeId}{size:Nat}(h:w.ownsRow base e size v n xs)(hb:w.heap.size<=b):some b≠v.ownBlock:=by
 intro he
 obtain⟨_,⟨hv0,_⟩|⟨g',cap',cur',hv',_,hh',_⟩⟩:=h
 ·subst hv0;cases he
 ·subst hv';simp only[Value.ownBlock,uab] at he;subst he
  have:=(uaz.1 hh').1;omega
theorem zfx{e T:TypeId}{size:Nat}(h:w.ownsRow base e size v n xs)(hb:Box w b c T)(hT:e≠T):some b≠v.ownBlock:=by
 intro he
 obtain⟨_,⟨hv0,_⟩|⟨g',cap',cur',hv',_,hh',_⟩⟩:=h
 ·subst hv0;cases he
 ·subst hv';simp only[Value.ownBlock,uab] at he;subst he
  unfold Box at hb;rw[hb] at hh';simp at hh';exact hT hh'.2.symm
theorem Box.keep{wA w2:World}{T:TypeId}(h:Box wA b c T)(hne:some b≠v.ownBlock)(hk:∀ k,k < wA.heap.size->some k≠v.ownBlock->w2.heap[k]?=wA.heap[k]?):Box w2 b c T:=by
 have hlt:=h.lt
 unfold Box at *;rw[hk b hlt hne];exact h
theorem zwf{e T:TypeId}{size:Nat}(h:w.ownsRow base e size (.slice (some ⟨g,0,none⟩) n cap) m xs)(hb:Box w b c T)(hlt:c.size < m * size):b≠g:=by
 intro hg
 subst hg
 obtain⟨_,⟨hv0,_⟩|⟨g',cap',cur',hv',_,hh',h1,h2,h3,_⟩⟩:=h
 ·cases hv0
 ·simp at hv';obtain⟨rfl,rfl,rfl⟩:=hv'
  unfold Box at hb;rw[hb] at hh';simp at hh';rw[← hh'.1] at h3
  have:=uc2 size h1;omega
section
variable {P:Program} {ops:Array Oper} {o:Oper} {a:Act} {K:Act->World->Prop} {Q:Exit->Act->World->Prop}
theorem z4e{E:Prop}(wO wA:World)(l:List Value)(te:TypeId)(hg:o.guard=none)(s x:Operand)(t:TypeId)
  (ho:o.op=.call { callee:=.builtin .append,args:=#[s,x],argTypes:=#[t,t] })
  (base:Nat) (e:TypeId) (i:TypeInfo) (z:Value) (size bytes:Nat) (ht:P.underlying t=some (.slice e)) (hi:P.info? e=some i) (hz:i.zero=some z)
  (hsize:i.size=size) (hby:i.bytes=bytes) (hzs:z.cells.size=size) (hsz:0 < size)
  (v:Value) (n:Nat) (xs:List Value) (hs:a.eval s=v) (hown:wO.ownsRow base e size v n xs) (hbO:Below wO.heap.size wO wA)
  (b c:Nat) (hx:a.eval x=.slice (some ⟨b,0,none⟩) 1 c) (hb:Box wA b l.toArray te) (hl:l.length=size) (h1:∀ u∈l,u.oneCell'=true)
  (hn:n<=1048576) (hbytes:bytes<=1000) (hbase:base<=wO.heap.size)
  (h:∀ v' w',w'.ownsRow base e size v' (n+1) (xs++l)->Below base wO w'->(∀ k,k < wA.heap.size->some k≠v.ownBlock->w'.heap[k]?=wA.heap[k]?)->wA.heap.size<=w'.heap.size->K (a.put o.dst v') w') :
  if Region.wanted o (yielded ops a.tmps)=true then Oper.wp P o a wA K Q else E:=by
 have hw:Region.wanted o (yielded ops a.tmps)=true:=by simp[Region.wanted,hg]
 rw[if_pos hw]
 have hown':=zaa hown hbO
 have hlt:∀ k,v.ownBlock=some k->base<=k/\k < wO.heap.size:=by
  intro k hk
  obtain⟨_,h2⟩:=hown
  rcases h2 with ⟨hv,_⟩|⟨g,cap,cur,hv,hg,hh,_⟩
  ·subst hv;cases hk
  ·subst hv;simp only[Value.ownBlock,uab] at hk;subst hk
   exact⟨hg,(uaz.1 hh).1⟩
 have hsz0:=hbO.size
 refine wp_append_own _ s x t ho base e i z size bytes ht hi hz hsize hby hzs hsz v n xs hs hown' ⟨b,0,none⟩ 1 c l hx (by omega) ?_ h1 ?_ ?_ ?_ ?_
 ·intro j u hj
  rw[Addr.add_lit,ubl,hb.rules.1]
  simpa using hj
 ·unfold maxLen;omega
 ·have:(n+1) * bytes<=1048577 * 1000:=Nat.mul_le_mul (by omega) hbytes
  omega
 ·omega
 ·intro v' w' h2 hgr _
  refine h v' w' h2 ⟨hgr.os.trans hbO.os,hgr.tape.trans hbO.tape,hgr.output.trans hbO.output,by have:=hgr.size;omega,fun k hk=>?_⟩ hgr.block hgr.size
  rw[hgr.block k (by omega) (fun e=>by have:=hlt k e.symm;omega)];exact hbO.block k (by omega)
end
def zgo(t:List zar)(x:zar)(k:Nat):List zar:=t.take k++x::t.drop k
theorem zed(t:List zar)(x:zar)(k:Nat):(zgo t x k).length=t.length+1:=by simp[zgo];omega
theorem z2g(t:List zar)(x:zar):zgo t x t.length=t++[x]:=by simp[zgo]
theorem zzl(t:List zar)(x:zar)(j:Nat)(hj:j < t.length):∃ h:j < (zgo t x (j+1)).length,(zgo t x (j+1))[j]=t[j]:=by
 refine⟨by rw[zed];omega,?_⟩
 unfold zgo
 rw[uan (by simp;omega)];simp
theorem zzk(t:List zar)(x:zar)(j:Nat)(hj:j<=t.length):∃ h:j < (zgo t x j).length,(zgo t x j)[j]=x:=by
 refine⟨by rw[zed];omega,?_⟩
 unfold zgo
 rw[ucp (by simp;omega)];simp[hj]
theorem zzm(t:List zar)(x:zar)(j:Nat)(hj:j < t.length):((zgo t x (j+1)).set (j+1) t[j]).set j x=zgo t x j:=by
 unfold zgo
 have h1:t.take (j+1)=t.take j++[t[j]]:=uae hj
 have h2:t.drop j=t[j]::t.drop (j+1):=uah hj
 have hl:(t.take j).length=j:=by simp;omega
 rw[h1,h2,uba,ubd _ _ (by omega),hl,ubd _ _ (by omega),hl]
 simp
theorem zqn:∀(t:List zar) (k:Nat) (e:zar),k < t.length->(((zcb t).set (k * 3) (.string e.name)).set (k * 3+1) (.int .i64 (e.je:Int))).set (k * 3+2) (.int .i64 (e.qi:Int))=zcb (t.set k e)
 |[],k,_,hk=>by simp at hk
 |a::r,0,e,_=>by simp[zcb]
 |a::r,k+1,e,hk=>by
  have:=zqn r k e (by simpa using hk)
  simp only[zcb,ua5,uc9] at this ⊢
  rw[show(k+1) * 3=k * 3+1+1+1 from by omega,show k * 3+1+1+1+2=k * 3+2+1+1+1 from by omega]
  simpa using this
theorem zwg{B:Nat}{t:List zar}(h:w.ownsRow B 221 3 (.slice (some ⟨g,0,none⟩) n cap) m (zcb t))(k:Nat)(hk:k < t.length)(e:zar) :
  (((w.setCell ⟨g,k * 3,none⟩ (.string e.name)).setCell ⟨g,k * 3+1,none⟩ (.int .i64 (e.je:Int))).setCell ⟨g,k * 3+2,none⟩ (.int .i64 (e.qi:Int))).ownsRow B 221 3 (.slice (some ⟨g,0,none⟩) n cap) m (zcb (t.set k e)):=by
 have hl:=zmf t
 rw[← zqn t k e hk]
 exact zb4 (zb4 (zb4 h _ (by omega) _) _ (by simp;omega) _) _ (by simp;omega) _
structure zhg (tb:Nat) (w w':World):Prop where
 size:w.heap.size<=w'.heap.size
 box:∀ b c T,b≠tb->T≠221->Box w b c T->Box w' b c T
theorem zhg.trans{a b c:World}(h:zhg tb a b)(k:zhg tb b c):zhg tb a c:=⟨uap h.size k.size,fun x y z h1 h2 h3=>k.box x y z h1 h2 (h.box x y z h1 h2 h3)⟩
theorem zhg.of(h:Below w.heap.size w w'):zhg tb w w':=⟨h.size,fun _ _ _ _ _ k=>k.below h⟩
theorem zhg.drew{tb:Nat}{w w':World}(h:zhg tb w w'):zhg tb w w'.drew:=⟨h.size,fun b c T h1 h2 h3=>(h.box b c T h1 h2 h3).drew⟩
theorem zhg.setRow(h:zhg tb w w'){B:Nat}(ho:w'.ownsRow B 221 3 (.slice (some ⟨g,0,none⟩) n cap) m xs)(o:Nat)(u:Value):zhg tb w (w'.setCell ⟨g,o,none⟩ u):=by
 refine⟨by simp[World.setCell];exact h.size,fun b c T h1 h2 h3=>?_⟩
 have hb:=h.box b c T h1 h2 h3
 have:=zfx ho hb (Ne.symm h2)
 simp only[Value.ownBlock,ne_eq,uab] at this
 exact hb.set_ne this _ _
theorem ztq(h:zhg tb w w'){B:Nat}{t:List zar}(ho:w'.ownsRow B 221 3 (.slice (some ⟨g,0,none⟩) n cap) m (zcb t))(k:Nat)(hk:k < t.length)(u1 u2 u3:Value) :
  zhg tb w (((w'.setCell ⟨g,k * 3,none⟩ u1).setCell ⟨g,k * 3+1,none⟩ u2).setCell ⟨g,k * 3+2,none⟩ u3):=by
 have hl:=zmf t
 exact((h.setRow ho _ _).setRow (zb4 ho _ (by omega) _) _ _).setRow (zb4 (zb4 ho _ (by omega) _) _ (by simp;omega) _) _ _
theorem Tryz.infoPred:(Tryz.prog.info? 221).map (fun i=>(i.zero,i.size,i.bytes))=some (some (.agg #[.string ByteArray.empty,.int .i64 0,.int .i64 0]),3,32):=by kernel_rfl
theorem zqa(B:Nat)(w:World)(tb:Nat)(t:List zar)(i:Nat)(x:zar)(h:TA B w tb t)(hl:t.length<=1000)(hi:i<=t.length)(hB:B<=w.heap.size)(hBt:B<=tb) :
  Calls Tryz.prog 147 #[.pointer (some ⟨tb,0,none⟩),.int .i64 i,.agg #[.string x.name,.int .i64 x.je,.int .i64 x.qi]] w fun e w'=>e=.returned (.tuple #[])/\TA B w' tb (t.take i++x::t.drop i)/\Below B w w'/\zhg tb w w':=by
 obtain⟨i0,hi0,hz0,hzs,hzb⟩:=info_parts Tryz.infoPred
 obtain⟨ao,cap,hbx,hown⟩:=h.view
 obtain⟨hc,hf⟩:=hbx.rules
 have hlt:=hbx.lt
 have hbAA:Below w.heap.size w (((w.alloc (.cells #[.string x.name,.int .i64 (x.je:Int),.int .i64 (x.qi:Int)] 221)).alloc (.cells #[.string x.name,.int .i64 (x.je:Int),.int .i64 (x.qi:Int)] 221)).drew):=(by go_grown)
 go_enter Tryz.func147,Tryz.ntmps147
 go_wp2
 go_region_law (first|(refine z4e w _ [.string x.name,.int .i64 (x.je:Int),.int .i64 (x.qi:Int)] 221 rfl (.tmp 11) (.tmp 13) 125 rfl B 221 i0 _ 3 32 Tryz.underlying125 hi0 hz0 hzs hzb rfl (by decide) _ _ _ (by simp[Act.eval]) hown (by exact(by go_grown)) (w.heap.size+1) 1 (by simp[Act.eval]) (by exact Box.drew (Box.newAt _ _ _ _ (by simp))) rfl (by simp[Value.oneCell']) (by omega) (by omega) hB ?_;intro v' w2 ho2 hB2 hk2 hz2';obtain⟨ao2,cap2,rfl⟩:=zac ho2;have hbx2:=(hbx.below hbAA).keep (zfx hown hbx (by decide)) hk2;obtain⟨hc2,hf2⟩:=hbx2.rules;have hxx2:=Box.keep (Box.drew ((Box.new w _ _).below ((Below.refl _ _).alloc (uaa _) _))) (zz1 hown (uaa _)) hk2))
 all_goals
  go_wp2
  go_loopw [6] (fun k wr=>∃ j:Nat,i<=j/\j<=t.length/\k=.int .i64 j/\Box wr tb #[.slice ao2 (t.length+1) cap2] 127/\wr.ownsRow B 221 3 (.slice ao2 (t.length+1) cap2) (t.length+1) (zcb (zgo t x j))/\Box wr w.heap.size #[.string x.name,.int .i64 (x.je:Int),.int .i64 (x.qi:Int)] 221/\Below B w wr/\zhg tb w wr) (fun k _=>(intOf k).toNat)
  case atStart =>
   refine⟨t.length,hi,uaa _,rfl,hbx2.set 0 _,?_,hxx2.set_ne (by omega) _ _,?_,?_⟩
   ·rw[z2g];have:=zb9 ho2 ((But.refl tb w2).setCell 0 (.slice ao2 (t.length+1) cap2)) hbx2 (by decide);simpa [zcb] using this
   ·exact hB2.setCell hBt _
   ·exact⟨by simp[World.setCell];exact hB2.size,fun b c T h1 h2 h3=>((h3.below hbAA).keep (zfx hown h3 (Ne.symm h2)) hk2).set_ne h1 _ _⟩
  case round =>
   obtain⟨j,hij,hjl,rfl,hbr,hor,hxr,hblr,hkpr⟩:=hrel
   obtain⟨hcr,hfr⟩:=hbr.rules
   obtain⟨hcx,hfx⟩:=hxr.rules
   by_cases hlt2:i < j
   ·obtain⟨j,rfl⟩:∃ j',j=j'+1:=⟨j - 1,by omega⟩
    obtain⟨hp1,hp2⟩:=zzl t x j (by omega)
    obtain⟨g,rfl,hg,hBg,hd0,hd1,hd2⟩:=zds (t:=zgo t x (j+1)) (by rw[zed];exact hor) j hp1
    rw[hp2] at hd0 hd1 hd2
    have hfg:=zbt hor
    have hne1:=zfx hor hbr (by decide)
    have hne2:=zwf hor hxr (by simp;omega)
    simp only[Value.ownBlock,ne_eq,uab] at hne1
    obtain⟨hq1,hq2⟩:=zzk t x (j+1) (by omega)
    obtain⟨g',hgg,_,_,he0,he1,he2⟩:=zds (t:=zgo t x (j+1)) (by rw[zed];exact hor) (j+1) hq1
    simp at hgg
    subst hgg
    rw[hq2] at he0 he1 he2
    clear hp2 hq2
    go_wp2
    go_region
    go_wp2
    go_region
    go_wp2
    have hop:=zwg (zwg hor (j+1) (by rw[zed];omega) t[j]) j (by rw[ucq,zed];omega) x
    have hkp:=ztq (ztq hkpr hor (j+1) (by rw[zed];omega) (.string t[j].name) (.int .i64 (t[j].je:Int)) (.int .i64 (t[j].qi:Int))) (zwg hor (j+1) (by rw[zed];omega) t[j]) j (by rw[ucq,zed];omega) (.string x.name) (.int .i64 (x.je:Int)) (.int .i64 (x.qi:Int))
    rw[zzm t x j (by omega)] at hop
    go_roundw
    case rel=>exact⟨j,by omega,by omega,rfl,(((((((hbr.set_ne hne1 _ _).set_ne hne1 _ _).set_ne hne1 _ _).set_ne hne1 _ _).set_ne hne1 _ _).set_ne hne1 _ _).drew).drew,hop.drew.drew,(((((((hxr.set_ne hne2 _ _).set_ne hne2 _ _).set_ne hne2 _ _).set_ne hne2 _ _).set_ne hne2 _ _).set_ne hne2 _ _).drew).drew,(by go_grown),hkp.drew.drew⟩
    case measure=>simp[intOf]
   ·have hji:j=i:=by omega
    subst hji
    go_wp2
    go_end0
    exact⟨rfl,⟨_,hbr,by rw[show(t.take j++x::t.drop j).length=t.length+1 from zed t x j];exact hor⟩,hblr,hkpr⟩
end Go.Proofs.YteampbddflhngaaGreat
namespace Go.Proofs.YteampbddflhngaaGreat
set_option maxRecDepth 100000
set_option maxHeartbeats 1000000
open Go.RowKit
theorem z8p(a b:Nat):((a:Int) == (b:Int))=decide (a=b):=by
 by_cases h:a=b
 ·subst h;simp
 ·rw[decide_eq_false h,beq_eq_false_iff_ne];omega
theorem z6r{a b:Bool}(h:a=b):Ending.returned (.bool a)=.returned (.bool b):=by rw[h]
def zps(t:List zar)(l:zbu):Option (List zar):=match zbh t l.pred with
 |some e=>if e.je=l.args.length then some t else none
 |none=>some (zgo t ⟨l.pred,l.args.length,0⟩ (zai t l.pred))
theorem zyf(B:Nat)(w:World)(tb:Nat)(t:List zar)(l:zbu)(aoa:Option Addr)(capa:Nat)(h:TA B w tb t)(hl:t.length<=1000)(e0:zar)(hn:zbh t l.pred=some e0) :
  Calls Tryz.prog 102 #[.pointer (some ⟨tb,0,none⟩),.agg #[.bool l.neg,.string l.pred,.slice aoa l.args.length capa]] w fun e w'=>e=.returned (.bool (decide (e0.je=l.args.length)))/\Below w.heap.size w w':=by
 obtain⟨ao,cap,hbx,hown⟩:=h.view
 have hlt:=hbx.lt
 have hle:=zfk t l.pred
 have hbA:=(Below.refl w.heap.size w).alloc (uaa _) (.cells #[.bool l.neg,.string l.pred,.slice aoa l.args.length capa] 90)
 have HPL:Hid (Calls Tryz.prog 126 #[.pointer (some ⟨tb,0,none⟩),.string l.pred] (w.alloc (.cells #[.bool l.neg,.string l.pred,.slice aoa l.args.length capa] 90)) fun e w'=>e=.returned (.int .i64 (zai t l.pred))/\w'=(w.alloc (.cells #[.bool l.neg,.string l.pred,.slice aoa l.args.length capa] 90))):=zlj B _ tb t l.pred (h.below hbA) hl
 obtain⟨hc,hf⟩:=hbx.rules
 obtain⟨hk,hee,hnn⟩:=zch hn
 obtain⟨g,rfl,hg,_,hd0,hd1,_⟩:=zds hown _ hk
 rw[hee] at hd0 hd1
 have he:=zfm hnn
 clear hn hnn hee
 generalize e0.name=x at *
 generalize zai t l.pred=k at *
 go_enter Tryz.func102,Tryz.ntmps102
 go_wp2_with (first|(go_at_call 126;refine HPL.out.mono ?_;rintro e w' ⟨rfl,rfl⟩;clear HPL))
 go_quiet (fail)
 go_wp2
 go_quiet (fail)
 go_wp2
 go_ret
 exact⟨z6r (z8p _ _),(by repeat'(first|with_reducible(first|exact zR _ _|assumption|refine zN ?_ _|refine zA ?_ ?_ _|refine zD ?_|refine zS ?_ ?_ _)|go_size))⟩
theorem z7c(B:Nat)(w:World)(tb:Nat)(t:List zar)(l:zbu)(aoa:Option Addr)(capa:Nat)(h:TA B w tb t)(hl:t.length<=1000)(hn:zbh t l.pred=none)(hB:B<=w.heap.size)(hBt:B<=tb) :
  Calls Tryz.prog 102 #[.pointer (some ⟨tb,0,none⟩),.agg #[.bool l.neg,.string l.pred,.slice aoa l.args.length capa]] w fun e w'=>e=.returned (.bool true)/\TA B w' tb (zgo t ⟨l.pred,l.args.length,0⟩ (zai t l.pred))/\Below B w w'/\zhg tb w w':=by
 obtain⟨ao,cap,hbx,hown⟩:=h.view
 have hlt:=hbx.lt
 have hle:=zfk t l.pred
 have hbA:=(Below.refl w.heap.size w).alloc (uaa _) (.cells #[.bool l.neg,.string l.pred,.slice aoa l.args.length capa] 90)
 have HPL:Hid (Calls Tryz.prog 126 #[.pointer (some ⟨tb,0,none⟩),.string l.pred] (w.alloc (.cells #[.bool l.neg,.string l.pred,.slice aoa l.args.length capa] 90)) fun e w'=>e=.returned (.int .i64 (zai t l.pred))/\w'=(w.alloc (.cells #[.bool l.neg,.string l.pred,.slice aoa l.args.length capa] 90))):=zlj B _ tb t l.pred (h.below hbA) hl
 obtain⟨hc,hf⟩:=hbx.rules
 have hta:=h
 have HTA:Hid (TA B w tb t):=hta
 have HINS:Hid (zgo t ⟨l.pred,l.args.length,0⟩ (zai t l.pred)=t.take (zai t l.pred)++⟨l.pred,l.args.length,0⟩::t.drop (zai t l.pred)):=rfl
 rw[HINS.out]
 clear h hta HINS
 rcases zjc hn with hk|⟨hk,hne⟩
 ·clear hn
  generalize zai t l.pred=k at *
  go_enter Tryz.func102,Tryz.ntmps102
  go_wp2_with (first|(go_at_call 126;refine HPL.out.mono ?_;rintro e w' ⟨rfl,rfl⟩;clear HPL))
  go_quiet (fail)
  go_wp2_with (first|(go_at_call 147;refine(zqa B _ tb t k ⟨l.pred,l.args.length,0⟩ (by exact HTA.out.below (by repeat'(first|with_reducible(first|exact zR _ _|assumption|refine zN ?_ _|refine zA ?_ ?_ _|refine zD ?_|refine zS ?_ ?_ _)|go_size))) hl hle (by exact uap hB (by simp)) hBt).mono ?_;rintro e w2 ⟨rfl,ht2,hb2,hkp2⟩))
  go_ret
  exact⟨rfl,ht2,((zau (hbA.mono hB) _)).trans hb2,(zhg.of (zau hbA _)).trans hkp2⟩
 ·obtain⟨g,rfl,hg,_,hd0,hd1,_⟩:=zds hown _ hk
  have he:=zei hne
  clear hn hne
  generalize t[zai t l.pred].name=x at *
  generalize zai t l.pred=k at *
  go_enter Tryz.func102,Tryz.ntmps102
  go_wp2_with (first|(go_at_call 126;refine HPL.out.mono ?_;rintro e w' ⟨rfl,rfl⟩;clear HPL))
  go_quiet (fail)
  go_wp2_with (first|(go_at_call 147;refine(zqa B _ tb t k ⟨l.pred,l.args.length,0⟩ (by exact HTA.out.below (by repeat'(first|with_reducible(first|exact zR _ _|assumption|refine zN ?_ _|refine zA ?_ ?_ _|refine zD ?_|refine zS ?_ ?_ _)|go_size))) hl hle (by exact uap hB (by simp)) hBt).mono ?_;rintro e w2 ⟨rfl,ht2,hb2,hkp2⟩))
  go_ret
  exact⟨rfl,ht2,((zau (hbA.mono hB) _)).trans hb2,(zhg.of (zau hbA _)).trans hkp2⟩
end Go.Proofs.YteampbddflhngaaGreat
