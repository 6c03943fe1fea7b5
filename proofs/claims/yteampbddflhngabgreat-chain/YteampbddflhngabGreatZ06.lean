import Derived.Test.YteampbddflhngabGreatZ05
import Derived.Deep.RegionLaw

namespace Go.Proofs.YteampbddflhngabGreat
set_option maxRecDepth 100000
set_option maxHeartbeats 1000000
open Go.RowKit
variable {lo:Nat}
def zuo(t:List zar)(l:zbz):Nat:=match zbb t l.pred with
 |none=>0
 |some e=>if l.neg then e.stratum+1 else e.stratum
def ze9(t:List zar)(n:Nat)(l:zbz):Nat:=if n < zuo t l then zuo t l else n
def zfd(t:List zar)(c:zab):Nat:=c.body.foldl (ze9 t) 0
theorem z1t{t:List zar}{M:Nat}(h:∀ e∈t,e.stratum<=M)(l:zbz):zuo t l<=M+1:=by
 unfold zuo
 split
 ·omega
 ·rename_i e he
  obtain⟨hk,hee,_⟩:=zby he
  have:=h e (by rw[← hee];exact List.getElem_mem hk)
  split <;> omega
theorem ztb{t:List zar}{M:Nat}(h:∀ e∈t,e.stratum<=M):∀(ls:List zbz) (n:Nat),n<=M+1->ls.foldl (ze9 t) n<=M+1
 |[],n,hn=>hn
 |l::ls,n,hn=>by
  refine ztb h ls _ ?_
  unfold ze9;have:=z1t h l;split <;> omega
theorem ztc(B M:Nat)(w:World)(tb:Nat)(t:List zar)(c:zab)(va vb:Value)(h:TA B w tb t)(hl:t.length<=1000)(hM:∀ e∈t,e.stratum<=M)(hM2:M<=2000000)(hs:SIn lo w va c.head.args)(hb:LIn lo w vb c.body)(hl2:c.body.length<=1000) :
  Calls Tryz.prog 95 #[.pointer (some ⟨tb,0,none⟩),.agg #[.bool c.head.neg,.string c.head.pred,va,vb]] w fun e w'=>e=.returned (.int .i64 (zfd t c))/\Below w.heap.size w w':=by
 obtain⟨ao,cap,rfl⟩:=hs.shape
 obtain⟨aob,capb,rfl⟩:=hb.shape
 have HM:Hid (∀ e∈t,e.stratum<=M):=hM
 clear hM
 go_enter Tryz.func95,Tryz.ntmps95
 go_wp2
 go_loopw [5,13] (fun n i wr=>∃ k m:Nat,k<=c.body.length/\i=.int .i64 k/\n=.int .i64 m/\m<=M+1/\Below w.heap.size w wr/\Hid (m=(c.body.take k).foldl (ze9 t) 0)) (fun _ i _=>c.body.length - (intOf i).toNat)
 case atStart=>exact⟨0,0,Nat.zero_le _,rfl,rfl,Nat.zero_le _,(by go_grown),rfl⟩
 case round =>
  obtain⟨k,m,hk,rfl,rfl,hm,hbk,H⟩:=hrel
  have hszk:=hbk.size
  by_cases hlt:k < c.body.length
  ·obtain⟨g,ao2,cap2,rfl,hg,hc0,hc1,hc2,hsk⟩:=hb.cell k hlt
   have hd0:=(hbk.cell (p:=⟨g,k * 3,none⟩) hg).trans hc0
   have hd1:=(hbk.cell (p:=⟨g,k * 3+1,none⟩) hg).trans hc1
   have hd2:=(hbk.cell (p:=⟨g,k * 3+2,none⟩) hg).trans hc2
   have hgr:g < wr.heap.size:=by omega
   have HS:Hid ((c.body.take (k+1)).foldl (ze9 t) 0=ze9 t m c.body[k]):=by rw[Hid,H.out,List.take_succ_eq_append_getElem hlt,List.foldl_append];rfl
   have hta:=h.below hbk
   clear hc0 hc1 hc2 hsk H
   generalize c.body[k]=a at *
   have hls:=z1t HM.out a
   cases hE:zbb t a.pred with
   |none =>
    have HL:Hid (zuo t a=0):=by unfold Hid zuo;rw[hE]
    have HR:Hid ((c.body.take (k+1)).foldl (ze9 t) 0=m):=by rw[Hid,HS.out,ze9,HL.out];simp
    have HE:Hid (zbb t a.pred=none):=hE
    clear HS HL hE hls
    go_wp2_with (first|(go_at_call 56;refine(zwh B _ tb t a.pred (by exact hta.below (by go_grown)) hl HE).mono ?_;rintro e w1 ⟨rfl,rfl⟩))
    go_roundw
    case rel=>exact⟨k+1,m,by omega,by go_num,rfl,hm,(by go_grown),HR.out.symm⟩
    case measure=>simp[intOf];omega
   |some e0 =>
    have HE:Hid (zbb t a.pred=some e0):=hE
    cases hN:a.neg with
    |true =>
     have hL:zuo t a=e0.stratum+1:=by unfold zuo;rw[hE,hN];rfl
     have HL:Hid (ze9 t m a=if m < e0.stratum+1 then e0.stratum+1 else m):=by unfold Hid ze9;rw[hL]
     rw[hN] at hd0
     rw[hL] at hls
     clear hL hE hN
     by_cases hlt2:m < e0.stratum+1
     all_goals
      go_wp2_with (first|(go_at_call 56;refine(zmj B _ tb t a.pred e0 (by exact hta.below (by go_grown)) hl HE).mono ?_;rintro e w1 ⟨rfl,rfl⟩))
      go_roundw
      case rel=>first|exact⟨k+1,e0.stratum+1,by omega,by go_num,by go_num,by omega,(by go_grown),by rw[Hid,HS.out,HL.out,if_pos hlt2]⟩|exact⟨k+1,m,by omega,by go_num,rfl,hm,(by go_grown),by rw[Hid,HS.out,HL.out,if_neg hlt2]⟩
      case measure=>simp[intOf];omega
    |false =>
     have hL:zuo t a=e0.stratum:=by unfold zuo;rw[hE,hN];rfl
     have HL:Hid (ze9 t m a=if m < e0.stratum then e0.stratum else m):=by unfold Hid ze9;rw[hL]
     rw[hN] at hd0
     rw[hL] at hls
     clear hL hE hN
     by_cases hlt2:m < e0.stratum
     all_goals
      go_wp2_with (first|(go_at_call 56;refine(zmj B _ tb t a.pred e0 (by exact hta.below (by go_grown)) hl HE).mono ?_;rintro e w1 ⟨rfl,rfl⟩))
      go_roundw
      case rel=>first|exact⟨k+1,e0.stratum,by omega,by go_num,by go_num,by omega,(by go_grown),by rw[Hid,HS.out,HL.out,if_pos hlt2]⟩|exact⟨k+1,m,by omega,by go_num,rfl,hm,(by go_grown),by rw[Hid,HS.out,HL.out,if_neg hlt2]⟩
      case measure=>simp[intOf];omega
  ·have HR:Hid (m=zfd t c):=by rw[Hid,H.out,List.take_of_length_le (by omega)];rfl
   clear H
   go_wp2
   go_ret
   exact⟨by rw[← HR.out];rfl,hbk⟩
def zeo(x:List zar × Bool)(c:zab):List zar × Bool:=((zcd x.1 c.head.pred (zfd x.1 c)).1,x.2 || (zcd x.1 c.head.pred (zfd x.1 c)).2)
def zb3(t:List zar)(cs:List zab):List zar × Bool:=cs.foldl zeo (t,false)
theorem z2q{t:List zar}{n:ByteArray}{s M:Nat}(h:∀ e∈t,e.stratum<=M)(hs:s<=M):∀ e∈(zcd t n s).1,e.stratum<=M:=by
 unfold zcd
 split
 ·exact h
 ·split
  ·exact h
  ·intro e he
   rcases List.mem_or_eq_of_mem_set he with he|he
   ·exact h e he
   ·subst he;exact hs
theorem zno{α β:Type}(f:β->α->β)(b:β)(l:List α)(k:Nat)(hk:k < l.length):(l.take (k+1)).foldl f b=f ((l.take k).foldl f b) l[k]:=by rw[List.take_succ_eq_append_getElem hk,List.foldl_append];rfl
theorem zo2(B M:Nat)(w:World)(tb:Nat)(t:List zar)(v:Value)(cs:List zab)(w0:World)(hw0:w0.heap.size=B)(hb0:Below B w0 w)(hcs:CIn lo 90 w0 v cs)(hok:∀ c∈cs,zoq c)(_:cs.length<=1000)
  (h:TA B w tb t) (hl:t.length<=1000) (hM:∀ e∈t,e.stratum<=M) (hM2:M+cs.length<=1900000) :
  Calls Tryz.prog 65 #[.pointer (some ⟨tb,0,none⟩),v] w fun e w'=>e=.returned (.bool (zb3 t cs).2)/\TA B w' tb (zb3 t cs).1/\Below B w w'/\(zb3 t cs).1.length=t.length/\(∀ e∈(zb3 t cs).1,e.stratum<=M+cs.length):=by
 obtain⟨ao,cap,rfl⟩:=hcs.shape
 have HOK:Hid (∀ c∈cs,zoq c):=hok
 have hsz0:=hb0.size
 clear hok
 go_enter Tryz.func65,Tryz.ntmps65
 go_wp2
 go_loopw [5,11] (fun r i wr=>∃ k:Nat,k<=cs.length/\i=.int .i64 k/\r=.bool ((cs.take k).foldl zeo (t,false)).2/\Below B w wr/\TA B wr tb ((cs.take k).foldl zeo (t,false)).1/\((cs.take k).foldl zeo (t,false)).1.length=t.length/\Hid (∀ e∈((cs.take k).foldl zeo (t,false)).1,e.stratum<=M+k)) (fun _ i _=>cs.length - (intOf i).toNat)
 case atStart=>exact⟨0,Nat.zero_le _,rfl,rfl,Below.refl _ _,h,rfl,hM⟩
 case round =>
  obtain⟨k,hk,rfl,rfl,hbk',htk,hlk,HM⟩:=hrel
  have hbk:Below w0.heap.size w0 wr:=by rw[hw0];exact hb0.trans hbk'
  have hszk:=hbk'.size
  by_cases hlt:k < cs.length
  ·have hsn:=zno zeo (t,false) cs k hlt
   obtain⟨g,ao2,cap2,ao3,cap3,rfl,hg,hc0,hc1,hc2,hc3,hsk,hllk⟩:=hcs.cell k hlt
   have hd0:=(hbk.cell (p:=⟨g,k * 4,none⟩) (by omega)).trans hc0
   have hd1:=(hbk.cell (p:=⟨g,k * 4+1,none⟩) (by omega)).trans hc1
   have hd2:=(hbk.cell (p:=⟨g,k * 4+2,none⟩) (by omega)).trans hc2
   have hd3:=(hbk.cell (p:=⟨g,k * 4+3,none⟩) (by omega)).trans hc3
   have hgr:g < wr.heap.size:=by omega
   have hskr:=hsk.below hbk
   have hlkr:=hllk.below hbk
   obtain⟨hk1,hk2⟩:=HOK.out _ (List.getElem_mem hlt)
   clear hc0 hc1 hc2 hc3 hsk hllk
   generalize cs[k]=a at *
   generalize (cs.take k).foldl zeo (t,false)=x at *
   obtain⟨tk,rk⟩:=x
   simp only at htk hlk HM ⊢
   have HS:Hid ((cs.take (k+1)).foldl zeo (t,false)=zeo (tk,rk) a):=hsn
   clear hsn
   have hll:zfd tk a<=M+k+1:=ztb HM.out a.body 0 (by omega)
   have hrl:=zzf tk a.head.pred (zfd tk a)
   have HB:Hid (∀ e∈(zcd tk a.head.pred (zfd tk a)).1,e.stratum<=M+(k+1)):=z2q (fun e he=>by have:=HM.out e he;omega) (by omega)
   cases hR:(zcd tk a.head.pred (zfd tk a)).2 with
   |true =>
    have H1:Hid (((cs.take (k+1)).foldl zeo (t,false))=((zcd tk a.head.pred (zfd tk a)).1,true)):=by rw[Hid,HS.out,zeo];simp[hR]
    clear HS
    go_wp2_with (first|(go_at_call 95;refine(ztc B (M+k) _ tb tk a _ _ (by exact htk.below (by go_grown)) (by omega) HM.out (by omega) (by exact hskr.below (by go_grown)) (by exact hlkr.below (by go_grown)) hk2).mono ?_;rintro e w1 ⟨rfl,hb1⟩;have hB1:=zae ((Below.refl wr.heap.size wr).alloc (Nat.le_refl _) _) hb1 (Nat.le_refl _);have ht1:=htk.below hB1;have hz1:=hB1.size;have hbx1:=(Box.new wr _ _).below hb1;obtain⟨hxc,hxf⟩:=hbx1.rules)|(go_at_call 96;refine(raise_any B _ tb tk a.head.pred (zfd tk a) ht1 (by omega) (by omega)).mono ?_;rintro e w2 ⟨rfl,ht2,hb2⟩))
    go_roundw
    case rel=>exact⟨k+1,by omega,by go_num,by rw[H1.out],(hbk'.trans (hB1.mono (by omega))).trans hb2,by rw[H1.out];exact ht2,by rw[H1.out];simp only;omega,by rw[H1.out];exact HB⟩
    case measure=>simp[intOf];omega
   |false =>
    have H1:Hid (((cs.take (k+1)).foldl zeo (t,false))=((zcd tk a.head.pred (zfd tk a)).1,rk)):=by rw[Hid,HS.out,zeo];simp[hR]
    clear HS
    go_wp2_with (first|(go_at_call 95;refine(ztc B (M+k) _ tb tk a _ _ (by exact htk.below (by go_grown)) (by omega) HM.out (by omega) (by exact hskr.below (by go_grown)) (by exact hlkr.below (by go_grown)) hk2).mono ?_;rintro e w1 ⟨rfl,hb1⟩;have hB1:=zae ((Below.refl wr.heap.size wr).alloc (Nat.le_refl _) _) hb1 (Nat.le_refl _);have ht1:=htk.below hB1;have hz1:=hB1.size;have hbx1:=(Box.new wr _ _).below hb1;obtain⟨hxc,hxf⟩:=hbx1.rules)|(go_at_call 96;refine(raise_any B _ tb tk a.head.pred (zfd tk a) ht1 (by omega) (by omega)).mono ?_;rintro e w2 ⟨rfl,ht2,hb2⟩))
    go_roundw
    case rel=>exact⟨k+1,by omega,by go_num,by rw[H1.out],(hbk'.trans (hB1.mono (by omega))).trans hb2,by rw[H1.out];exact ht2,by rw[H1.out];simp only;omega,by rw[H1.out];exact HB⟩
    case measure=>simp[intOf];omega
  ·have hE:cs.take k=cs:=List.take_of_length_le (by omega)
   rw[hE] at htk hlk HM ⊢
   have hkl:k=cs.length:=by omega
   have HM2:Hid (∀ e∈(zb3 t cs).1,e.stratum<=M+cs.length):=by rw[← hkl];exact HM
   clear hE HM
   go_wp2
   go_ret
   exact⟨rfl,htk,hbk',hlk,HM2⟩
def zcx:Nat->List zar->List zab->List zar × Bool
 |0,t,_=>(t,false)
 |m+1,t,cs=>if (zb3 t cs).2 then zcx m (zb3 t cs).1 cs else((zb3 t cs).1,true)
theorem zmi(B:Nat)(w:World)(tb:Nat)(t:List zar)(v:Value)(cs:List zab)(w0:World)(hw0:w0.heap.size=B)(hb0:Below B w0 w)(hcs:CIn lo 90 w0 v cs)(hok:∀ c∈cs,zoq c)(hl0:cs.length<=1000)
  (h:TA B w tb t) (hl:t.length<=1000) (hM:∀ e∈t,e.stratum<=0) :
  Calls Tryz.prog 42 #[.pointer (some ⟨tb,0,none⟩),v] w fun e w'=>e=.returned (.bool (zcx (t.length+1) t cs).2)/\TA B w' tb (zcx (t.length+1) t cs).1/\Below B w w':=by
 have HOK:Hid (∀ c∈cs,zoq c):=hok
 have HW:Hid (w0.heap.size=B):=hw0
 clear hok hw0
 go_enter Tryz.func42,Tryz.ntmps42
 go_wp2
 go_loopw [5] (fun i wr=>∃(p:Nat) (tk:List zar),p<=t.length+1/\i=.int .i64 p/\Below B w wr/\TA B wr tb tk/\tk.length=t.length/\Hid (∀ e∈tk,e.stratum<=p * cs.length)/\Hid (zcx (t.length+1) t cs=zcx (t.length+1 - p) tk cs)) (fun i _=>t.length+1 - (intOf i).toNat)
 case atStart=>exact⟨0,t,Nat.zero_le _,rfl,Below.refl _ _,h,rfl,(by simpa [Hid] using hM),rfl⟩
 case round =>
  obtain⟨p,tk,hp,rfl,hbk,htk,hlk,HM,H⟩:=hrel
  obtain⟨ao,cap,hbx,hown⟩:=htk.view
  obtain⟨hc,hf⟩:=hbx.rules
  rw[hlk] at hc hbx hown
  by_cases hlt:p<=t.length
  ·have hmul:p * cs.length<=1000 * 1000:=Nat.mul_le_mul (by omega) hl0
   have hra:=zo2 B (p * cs.length) wr tb tk v cs w0 HW.out (hb0.trans hbk) hcs HOK.out hl0 htk (by omega) HM.out (by omega)
   have HRA:Hid (Calls Tryz.prog 65 #[.pointer (some ⟨tb,0,none⟩),v] wr fun e w'=>e=.returned (.bool (zb3 tk cs).2)/\TA B w' tb (zb3 tk cs).1/\Below B wr w'/\(zb3 tk cs).1.length=tk.length/\(∀ e∈(zb3 tk cs).1,e.stratum<=p * cs.length+cs.length)):=hra
   have hs1:t.length+1 - p=(t.length - p)+1:=by omega
   have HE:Hid (zcx (t.length+1) t cs=if (zb3 tk cs).2 then zcx (t.length - p) (zb3 tk cs).1 cs else((zb3 tk cs).1,true)):=by rw[Hid,H.out,hs1];rfl
   clear hra hs1 H
   have hpp:p * cs.length+cs.length=(p+1) * cs.length:=by rw[Nat.add_mul];omega
   have HPP:Hid (p * cs.length+cs.length=(p+1) * cs.length):=hpp
   clear hpp hmul HM
   cases hR:(zb3 tk cs).2 with
   |true =>
    have H2:Hid (zcx (t.length+1) t cs=zcx (t.length+1 - (p+1)) (zb3 tk cs).1 cs):=by rw[Hid,HE.out,hR];simp
    clear HE
    rw[hR] at HRA
    clear hR
    generalize (zb3 tk cs).1=tn at *
    go_wp2_with (first|(go_at_call 65;refine HRA.out.mono ?_;rintro e w1 ⟨rfl,ht1,hb1,hl1,hm1⟩;clear HRA))
    go_roundw
    case rel=>exact⟨p+1,tn,by omega,by go_num,hbk.trans hb1,ht1,by omega,by rw[HPP.out] at hm1;exact hm1,H2⟩
    case measure=>simp[intOf];omega
   |false =>
    have H2:Hid (zcx (t.length+1) t cs=((zb3 tk cs).1,true)):=by rw[Hid,HE.out,hR];simp
    clear HE
    rw[hR] at HRA
    clear hR
    generalize (zb3 tk cs).1=tn at *
    go_wp2_with (first|(go_at_call 65;refine HRA.out.mono ?_;rintro e w1 ⟨rfl,ht1,hb1,hl1,hm1⟩;clear HRA))
    go_ret
    exact⟨by rw[H2.out];rfl,by rw[H2.out];exact ht1,hbk.trans hb1⟩
  ·have H2:Hid (zcx (t.length+1) t cs=(tk,false)):=by rw[Hid,H.out,show t.length+1 - p=0 by omega];rfl
   clear H
   go_wp2
   go_ret
   exact⟨by rw[H2.out];rfl,by rw[H2.out];exact htk,hbk⟩
end Go.Proofs.YteampbddflhngabGreat
namespace Go.Proofs.YteampbddflhngabGreat
set_option maxRecDepth 100000
set_option maxHeartbeats 1000000
open Go.RowKit
theorem Box.newAt(w:World)(b:Nat)(c:Array Value)(T:TypeId)(h:b=w.heap.size):Box (w.alloc (.cells c T)) b c T:=by subst h;exact Box.new w c T
theorem Box.drew{w:World}{b:Nat}{c:Array Value}{T:TypeId}(h:Box w b c T):Box w.drew b c T:=h
theorem zy8{w:World}{base:Nat}{e:TypeId}{size:Nat}{v:Value}{n:Nat}{xs:List Value}(h:w.ownsRow base e size v n xs){b:Nat}(hb:w.heap.size<=b):some b≠v.ownBlock:=by
 intro he
 obtain⟨_,⟨hv0,_⟩|⟨g',cap',cur',hv',_,hh',_⟩⟩:=h
 ·subst hv0;cases he
 ·subst hv';simp only[Value.ownBlock,Option.some.injEq] at he;subst he
  have:=(Array.getElem?_eq_some_iff.1 hh').1;omega
theorem zfs{w:World}{base:Nat}{e T:TypeId}{size:Nat}{v:Value}{n:Nat}{xs:List Value}(h:w.ownsRow base e size v n xs){b:Nat}{c:Array Value}(hb:Box w b c T)(hT:e≠T):some b≠v.ownBlock:=by
 intro he
 obtain⟨_,⟨hv0,_⟩|⟨g',cap',cur',hv',_,hh',_⟩⟩:=h
 ·subst hv0;cases he
 ·subst hv';simp only[Value.ownBlock,Option.some.injEq] at he;subst he
  unfold Box at hb;rw[hb] at hh';simp at hh';exact hT hh'.2.symm
theorem Box.keep{wA w2:World}{v:Value}{b:Nat}{c:Array Value}{T:TypeId}(h:Box wA b c T)(hne:some b≠v.ownBlock)(hk:∀ k,k < wA.heap.size->some k≠v.ownBlock->w2.heap[k]?=wA.heap[k]?):Box w2 b c T:=by
 have hlt:=h.lt
 unfold Box at *;rw[hk b hlt hne];exact h
theorem zvr{w:World}{base:Nat}{e T:TypeId}{size g n cap:Nat}{m:Nat}{xs:List Value}(h:w.ownsRow base e size (.slice (some ⟨g,0,none⟩) n cap) m xs){b:Nat}{c:Array Value}(hb:Box w b c T)(hlt:c.size < m * size):b≠g:=by
 intro hg
 subst hg
 obtain⟨_,⟨hv0,_⟩|⟨g',cap',cur',hv',_,hh',h1,h2,h3,_⟩⟩:=h
 ·cases hv0
 ·simp at hv';obtain⟨rfl,rfl,rfl⟩:=hv'
  unfold Box at hb;rw[hb] at hh';simp at hh';rw[← hh'.1] at h3
  have:=Nat.mul_le_mul_right size h1;omega
section
variable {P:Program} {ops:Array Oper} {o:Oper} {a:Act} {K:Act->World->Prop} {Q:Exit->Act->World->Prop}
theorem z3b{E:Prop}(wO wA:World)(l:List Value)(te:TypeId)(hg:o.guard=none)(s x:Operand)(t:TypeId)
  (ho:o.op=.call { callee:=.builtin .append,args:=#[s,x],argTypes:=#[t,t] })
  (base:Nat) (e:TypeId) (i:TypeInfo) (z:Value) (size bytes:Nat) (ht:P.underlying t=some (.slice e)) (hi:P.info? e=some i) (hz:i.zero=some z)
  (hsize:i.size=size) (hby:i.bytes=bytes) (hzs:z.cells.size=size) (hsz:0 < size)
  (v:Value) (n:Nat) (xs:List Value) (hs:a.eval s=v) (hown:wO.ownsRow base e size v n xs) (hbO:Below wO.heap.size wO wA)
  (b c:Nat) (hx:a.eval x=.slice (some ⟨b,0,none⟩) 1 c) (hb:Box wA b l.toArray te) (hl:l.length=size) (h1:∀ u∈l,u.oneCell'=true)
  (hn:n<=1048576) (hbytes:bytes<=1000) (hbase:base<=wO.heap.size)
  (h:∀ v' w',w'.ownsRow base e size v' (n+1) (xs++l)->Below base wO w'->(∀ k,k < wA.heap.size->some k≠v.ownBlock->w'.heap[k]?=wA.heap[k]?)->wA.heap.size<=w'.heap.size->K (a.put o.dst v') w') :
  if Region.wanted o (yielded ops a.tmps)=true then Oper.wp P o a wA K Q else E:=by
 have hw:Region.wanted o (yielded ops a.tmps)=true:=by simp[Region.wanted,hg]
 rw[if_pos hw]
 have hown':=zaa hown hbO
 have hlt:∀ k,v.ownBlock=some k->base<=k/\k < wO.heap.size:=by
  intro k hk
  obtain⟨_,h2⟩:=hown
  rcases h2 with ⟨hv,_⟩|⟨g,cap,cur,hv,hg,hh,_⟩
  ·subst hv;cases hk
  ·subst hv;simp only[Value.ownBlock,Option.some.injEq] at hk;subst hk
   exact⟨hg,(Array.getElem?_eq_some_iff.1 hh).1⟩
 have hsz0:=hbO.size
 refine wp_append_own _ s x t ho base e i z size bytes ht hi hz hsize hby hzs hsz v n xs hs hown' ⟨b,0,none⟩ 1 c l hx (by omega) ?_ h1 ?_ ?_ ?_ ?_
 ·intro j u hj
  rw[Addr.add_lit,Nat.zero_add,hb.rules.1]
  simpa using hj
 ·unfold maxLen;omega
 ·have:(n+1) * bytes<=1048577 * 1000:=Nat.mul_le_mul (by omega) hbytes
  omega
 ·omega
 ·intro v' w' h2 hgr _
  refine h v' w' h2 ⟨hgr.os.trans hbO.os,hgr.tape.trans hbO.tape,hgr.output.trans hbO.output,by have:=hgr.size;omega,fun k hk=>?_⟩ hgr.block hgr.size
  rw[hgr.block k (by omega) (fun e=>by have:=hlt k e.symm;omega)];exact hbO.block k (by omega)
end
def zgj(t:List zar)(x:zar)(k:Nat):List zar:=t.take k++x::t.drop k
theorem zea(t:List zar)(x:zar)(k:Nat):(zgj t x k).length=t.length+1:=by simp[zgj];omega
theorem z1h(t:List zar)(x:zar):zgj t x t.length=t++[x]:=by simp[zgj]
theorem zyt(t:List zar)(x:zar)(j:Nat)(hj:j < t.length):∃ h:j < (zgj t x (j+1)).length,(zgj t x (j+1))[j]=t[j]:=by
 refine⟨by rw[zea];omega,?_⟩
 unfold zgj
 rw[List.getElem_append_left (by simp;omega)];simp
theorem zys(t:List zar)(x:zar)(j:Nat)(hj:j<=t.length):∃ h:j < (zgj t x j).length,(zgj t x j)[j]=x:=by
 refine⟨by rw[zea];omega,?_⟩
 unfold zgj
 rw[List.getElem_append_right (by simp;omega)];simp[hj]
theorem zyu(t:List zar)(x:zar)(j:Nat)(hj:j < t.length):((zgj t x (j+1)).set (j+1) t[j]).set j x=zgj t x j:=by
 unfold zgj
 have h1:t.take (j+1)=t.take j++[t[j]]:=List.take_succ_eq_append_getElem hj
 have h2:t.drop j=t[j]::t.drop (j+1):=List.drop_eq_getElem_cons hj
 have hl:(t.take j).length=j:=by simp;omega
 rw[h1,h2,List.append_assoc,List.set_append_right _ _ (by omega),hl,List.set_append_right _ _ (by omega),hl]
 simp
theorem zp3:∀(t:List zar) (k:Nat) (e:zar),k < t.length->(((zcc t).set (k * 3) (.string e.name)).set (k * 3+1) (.int .i64 (e.arity:Int))).set (k * 3+2) (.int .i64 (e.stratum:Int))=zcc (t.set k e)
 |[],k,_,hk=>by simp at hk
 |a::r,0,e,_=>by simp[zcc]
 |a::r,k+1,e,hk=>by
  have:=zp3 r k e (by simpa using hk)
  simp only[zcc,List.flatMap_cons,List.set_cons_succ] at this ⊢
  rw[show(k+1) * 3=k * 3+1+1+1 from by omega,show k * 3+1+1+1+2=k * 3+2+1+1+1 from by omega]
  simpa using this
theorem zvs{w:World}{B g n cap m:Nat}{t:List zar}(h:w.ownsRow B 138 3 (.slice (some ⟨g,0,none⟩) n cap) m (zcc t))(k:Nat)(hk:k < t.length)(e:zar) :
  (((w.setCell ⟨g,k * 3,none⟩ (.string e.name)).setCell ⟨g,k * 3+1,none⟩ (.int .i64 (e.arity:Int))).setCell ⟨g,k * 3+2,none⟩ (.int .i64 (e.stratum:Int))).ownsRow B 138 3 (.slice (some ⟨g,0,none⟩) n cap) m (zcc (t.set k e)):=by
 have hl:=zlz t
 rw[← zp3 t k e hk]
 exact zcb (zcb (zcb h _ (by omega) _) _ (by simp;omega) _) _ (by simp;omega) _
structure zg9 (tb:Nat) (w w':World):Prop where
 size:w.heap.size<=w'.heap.size
 box:∀ b c T,b≠tb->T≠138->Box w b c T->Box w' b c T
theorem zg9.trans{tb:Nat}{a b c:World}(h:zg9 tb a b)(k:zg9 tb b c):zg9 tb a c:=⟨Nat.le_trans h.size k.size,fun x y z h1 h2 h3=>k.box x y z h1 h2 (h.box x y z h1 h2 h3)⟩
theorem zg9.of{tb:Nat}{w w':World}(h:Below w.heap.size w w'):zg9 tb w w':=⟨h.size,fun _ _ _ _ _ k=>k.below h⟩
theorem zg9.drew{tb:Nat}{w w':World}(h:zg9 tb w w'):zg9 tb w w'.drew:=⟨h.size,fun b c T h1 h2 h3=>(h.box b c T h1 h2 h3).drew⟩
theorem zg9.setRow{tb:Nat}{w w':World}(h:zg9 tb w w'){B g n cap m:Nat}{xs:List Value}(ho:w'.ownsRow B 138 3 (.slice (some ⟨g,0,none⟩) n cap) m xs)(o:Nat)(u:Value):zg9 tb w (w'.setCell ⟨g,o,none⟩ u):=by
 refine⟨by simp[World.setCell];exact h.size,fun b c T h1 h2 h3=>?_⟩
 have hb:=h.box b c T h1 h2 h3
 have:=zfs ho hb (Ne.symm h2)
 simp only[Value.ownBlock,ne_eq,Option.some.injEq] at this
 exact hb.set_ne this _ _
theorem zsz{tb:Nat}{w w':World}(h:zg9 tb w w'){B g n cap m:Nat}{t:List zar}(ho:w'.ownsRow B 138 3 (.slice (some ⟨g,0,none⟩) n cap) m (zcc t))(k:Nat)(hk:k < t.length)(u1 u2 u3:Value) :
  zg9 tb w (((w'.setCell ⟨g,k * 3,none⟩ u1).setCell ⟨g,k * 3+1,none⟩ u2).setCell ⟨g,k * 3+2,none⟩ u3):=by
 have hl:=zlz t
 exact((h.setRow ho _ _).setRow (zcb ho _ (by omega) _) _ _).setRow (zcb (zcb ho _ (by omega) _) _ (by simp;omega) _) _ _
theorem Tryz.infoPred:(Tryz.prog.info? 138).map (fun i=>(i.zero,i.size,i.bytes))=some (some (.agg #[.string ByteArray.empty,.int .i64 0,.int .i64 0]),3,32):=by kernel_rfl
theorem zpp(B:Nat)(w:World)(tb:Nat)(t:List zar)(i:Nat)(x:zar)(h:TA B w tb t)(hl:t.length<=1000)(hi:i<=t.length)(hB:B<=w.heap.size)(hBt:B<=tb) :
  Calls Tryz.prog 93 #[.pointer (some ⟨tb,0,none⟩),.int .i64 i,.agg #[.string x.name,.int .i64 x.arity,.int .i64 x.stratum]] w fun e w'=>e=.returned (.tuple #[])/\TA B w' tb (t.take i++x::t.drop i)/\Below B w w'/\zg9 tb w w':=by
 obtain⟨i0,hi0,hz0,hzs,hzb⟩:=info_parts Tryz.infoPred
 obtain⟨ao,cap,hbx,hown⟩:=h.view
 obtain⟨hc,hf⟩:=hbx.rules
 have hlt:=hbx.lt
 have hbAA:Below w.heap.size w (((w.alloc (.cells #[.string x.name,.int .i64 (x.arity:Int),.int .i64 (x.stratum:Int)] 138)).alloc (.cells #[.string x.name,.int .i64 (x.arity:Int),.int .i64 (x.stratum:Int)] 138)).drew):=(by go_grown)
 go_enter Tryz.func93,Tryz.ntmps93
 go_wp2
 go_region_law (first|(refine z3b w _ [.string x.name,.int .i64 (x.arity:Int),.int .i64 (x.stratum:Int)] 138 rfl (.tmp 11) (.tmp 13) 82 rfl B 138 i0 _ 3 32 Tryz.underlying82 hi0 hz0 hzs hzb rfl (by decide) _ _ _ (by simp[Act.eval]) hown (by exact(by go_grown)) (w.heap.size+1) 1 (by simp[Act.eval]) (by exact Box.drew (Box.newAt _ _ _ _ (by simp))) rfl (by simp[Value.oneCell']) (by omega) (by omega) hB ?_;intro v' w2 ho2 hB2 hk2 hz2';obtain⟨ao2,cap2,rfl⟩:=zac ho2;have hbx2:=(hbx.below hbAA).keep (zfs hown hbx (by decide)) hk2;obtain⟨hc2,hf2⟩:=hbx2.rules;have hxx2:=Box.keep (Box.drew ((Box.new w _ _).below ((Below.refl _ _).alloc (Nat.le_refl _) _))) (zy8 hown (Nat.le_refl _)) hk2))
 all_goals
  go_wp2
  go_loopw [6] (fun k wr=>∃ j:Nat,i<=j/\j<=t.length/\k=.int .i64 j/\Box wr tb #[.slice ao2 (t.length+1) cap2] 84/\wr.ownsRow B 138 3 (.slice ao2 (t.length+1) cap2) (t.length+1) (zcc (zgj t x j))/\Box wr w.heap.size #[.string x.name,.int .i64 (x.arity:Int),.int .i64 (x.stratum:Int)] 138/\Below B w wr/\zg9 tb w wr) (fun k _=>(intOf k).toNat)
  case atStart =>
   refine⟨t.length,hi,Nat.le_refl _,rfl,hbx2.set 0 _,?_,hxx2.set_ne (by omega) _ _,?_,?_⟩
   ·rw[z1h];have:=zb8 ho2 ((But.refl tb w2).setCell 0 (.slice ao2 (t.length+1) cap2)) hbx2 (by decide);simpa [zcc] using this
   ·exact hB2.setCell hBt _
   ·exact⟨by simp[World.setCell];exact hB2.size,fun b c T h1 h2 h3=>((h3.below hbAA).keep (zfs hown h3 (Ne.symm h2)) hk2).set_ne h1 _ _⟩
  case round =>
   obtain⟨j,hij,hjl,rfl,hbr,hor,hxr,hblr,hkpr⟩:=hrel
   obtain⟨hcr,hfr⟩:=hbr.rules
   obtain⟨hcx,hfx⟩:=hxr.rules
   by_cases hlt2:i < j
   ·obtain⟨j,rfl⟩:∃ j',j=j'+1:=⟨j - 1,by omega⟩
    obtain⟨hp1,hp2⟩:=zyt t x j (by omega)
    obtain⟨g,rfl,hg,hBg,hd0,hd1,hd2⟩:=zc7 (t:=zgj t x (j+1)) (by rw[zea];exact hor) j hp1
    rw[hp2] at hd0 hd1 hd2
    have hfg:=zb2 hor
    have hne1:=zfs hor hbr (by decide)
    have hne2:=zvr hor hxr (by simp;omega)
    simp only[Value.ownBlock,ne_eq,Option.some.injEq] at hne1
    obtain⟨hq1,hq2⟩:=zys t x (j+1) (by omega)
    obtain⟨g',hgg,_,_,he0,he1,he2⟩:=zc7 (t:=zgj t x (j+1)) (by rw[zea];exact hor) (j+1) hq1
    simp at hgg
    subst hgg
    rw[hq2] at he0 he1 he2
    clear hp2 hq2
    go_wp2
    go_region
    go_wp2
    go_region
    go_wp2
    have hop:=zvs (zvs hor (j+1) (by rw[zea];omega) t[j]) j (by rw[List.length_set,zea];omega) x
    have hkp:=zsz (zsz hkpr hor (j+1) (by rw[zea];omega) (.string t[j].name) (.int .i64 (t[j].arity:Int)) (.int .i64 (t[j].stratum:Int))) (zvs hor (j+1) (by rw[zea];omega) t[j]) j (by rw[List.length_set,zea];omega) (.string x.name) (.int .i64 (x.arity:Int)) (.int .i64 (x.stratum:Int))
    rw[zyu t x j (by omega)] at hop
    go_roundw
    case rel=>exact⟨j,by omega,by omega,rfl,(((((((hbr.set_ne hne1 _ _).set_ne hne1 _ _).set_ne hne1 _ _).set_ne hne1 _ _).set_ne hne1 _ _).set_ne hne1 _ _).drew).drew,hop.drew.drew,(((((((hxr.set_ne hne2 _ _).set_ne hne2 _ _).set_ne hne2 _ _).set_ne hne2 _ _).set_ne hne2 _ _).set_ne hne2 _ _).drew).drew,(by go_grown),hkp.drew.drew⟩
    case measure=>simp[intOf]
   ·have hji:j=i:=by omega
    subst hji
    go_wp2
    go_end0
    exact⟨rfl,⟨_,hbr,by rw[show(t.take j++x::t.drop j).length=t.length+1 from zea t x j];exact hor⟩,hblr,hkpr⟩
theorem z7j(a b:Nat):((a:Int) == (b:Int))=decide (a=b):=by
 by_cases h:a=b
 ·subst h;simp
 ·rw[decide_eq_false h,beq_eq_false_iff_ne];omega
theorem z5p{a b:Bool}(h:a=b):Ending.returned (.bool a)=.returned (.bool b):=by rw[h]
def zo7(t:List zar)(l:zbz):Option (List zar):=match zbb t l.pred with
 |some e=>if e.arity=l.args.length then some t else none
 |none=>some (zgj t ⟨l.pred,l.args.length,0⟩ (zai t l.pred))
theorem zxp(B:Nat)(w:World)(tb:Nat)(t:List zar)(l:zbz)(aoa:Option Addr)(capa:Nat)(h:TA B w tb t)(hl:t.length<=1000)(e0:zar)(hn:zbb t l.pred=some e0) :
  Calls Tryz.prog 63 #[.pointer (some ⟨tb,0,none⟩),.agg #[.bool l.neg,.string l.pred,.slice aoa l.args.length capa]] w fun e w'=>e=.returned (.bool (decide (e0.arity=l.args.length)))/\Below w.heap.size w w':=by
 obtain⟨ao,cap,hbx,hown⟩:=h.view
 have hlt:=hbx.lt
 have hle:=zey t l.pred
 have hbA:=(Below.refl w.heap.size w).alloc (Nat.le_refl _) (.cells #[.bool l.neg,.string l.pred,.slice aoa l.args.length capa] 45)
 have HPL:Hid (Calls Tryz.prog 78 #[.pointer (some ⟨tb,0,none⟩),.string l.pred] (w.alloc (.cells #[.bool l.neg,.string l.pred,.slice aoa l.args.length capa] 45)) fun e w'=>e=.returned (.int .i64 (zai t l.pred))/\w'=(w.alloc (.cells #[.bool l.neg,.string l.pred,.slice aoa l.args.length capa] 45))):=zk8 B _ tb t l.pred (h.below hbA) hl
 obtain⟨hc,hf⟩:=hbx.rules
 obtain⟨hk,hee,hnn⟩:=zby hn
 obtain⟨g,rfl,hg,_,hd0,hd1,_⟩:=zc7 hown _ hk
 rw[hee] at hd0 hd1
 have he:=zf0 hnn
 clear hn hnn hee
 generalize e0.name=x at *
 generalize zai t l.pred=k at *
 go_enter Tryz.func63,Tryz.ntmps63
 go_wp2_with (first|(go_at_call 78;refine HPL.out.mono ?_;rintro e w' ⟨rfl,rfl⟩;clear HPL))
 go_quiet (fail)
 go_wp2
 go_quiet (fail)
 go_wp2
 go_ret
 exact⟨z5p (z7j _ _),(by repeat'(first|with_reducible(first|exact zR _ _|assumption|refine zN ?_ _|refine zA ?_ ?_ _|refine zD ?_|refine zS ?_ ?_ _)|go_size))⟩
theorem z6b(B:Nat)(w:World)(tb:Nat)(t:List zar)(l:zbz)(aoa:Option Addr)(capa:Nat)(h:TA B w tb t)(hl:t.length<=1000)(hn:zbb t l.pred=none)(hB:B<=w.heap.size)(hBt:B<=tb) :
  Calls Tryz.prog 63 #[.pointer (some ⟨tb,0,none⟩),.agg #[.bool l.neg,.string l.pred,.slice aoa l.args.length capa]] w fun e w'=>e=.returned (.bool true)/\TA B w' tb (zgj t ⟨l.pred,l.args.length,0⟩ (zai t l.pred))/\Below B w w'/\zg9 tb w w':=by
 obtain⟨ao,cap,hbx,hown⟩:=h.view
 have hlt:=hbx.lt
 have hle:=zey t l.pred
 have hbA:=(Below.refl w.heap.size w).alloc (Nat.le_refl _) (.cells #[.bool l.neg,.string l.pred,.slice aoa l.args.length capa] 45)
 have HPL:Hid (Calls Tryz.prog 78 #[.pointer (some ⟨tb,0,none⟩),.string l.pred] (w.alloc (.cells #[.bool l.neg,.string l.pred,.slice aoa l.args.length capa] 45)) fun e w'=>e=.returned (.int .i64 (zai t l.pred))/\w'=(w.alloc (.cells #[.bool l.neg,.string l.pred,.slice aoa l.args.length capa] 45))):=zk8 B _ tb t l.pred (h.below hbA) hl
 obtain⟨hc,hf⟩:=hbx.rules
 have hta:=h
 have HTA:Hid (TA B w tb t):=hta
 have HINS:Hid (zgj t ⟨l.pred,l.args.length,0⟩ (zai t l.pred)=t.take (zai t l.pred)++⟨l.pred,l.args.length,0⟩::t.drop (zai t l.pred)):=rfl
 rw[HINS.out]
 clear h hta HINS
 rcases zi4 hn with hk|⟨hk,hne⟩
 ·clear hn
  generalize zai t l.pred=k at *
  go_enter Tryz.func63,Tryz.ntmps63
  go_wp2_with (first|(go_at_call 78;refine HPL.out.mono ?_;rintro e w' ⟨rfl,rfl⟩;clear HPL))
  go_quiet (fail)
  go_wp2_with (first|(go_at_call 93;refine(zpp B _ tb t k ⟨l.pred,l.args.length,0⟩ (by exact HTA.out.below (by repeat'(first|with_reducible(first|exact zR _ _|assumption|refine zN ?_ _|refine zA ?_ ?_ _|refine zD ?_|refine zS ?_ ?_ _)|go_size))) hl hle (by exact Nat.le_trans hB (by simp)) hBt).mono ?_;rintro e w2 ⟨rfl,ht2,hb2,hkp2⟩))
  go_ret
  exact⟨rfl,ht2,((zaw (hbA.mono hB) _)).trans hb2,(zg9.of (zaw hbA _)).trans hkp2⟩
 ·obtain⟨g,rfl,hg,_,hd0,hd1,_⟩:=zc7 hown _ hk
  have he:=zfh hne
  clear hn hne
  generalize t[zai t l.pred].name=x at *
  generalize zai t l.pred=k at *
  go_enter Tryz.func63,Tryz.ntmps63
  go_wp2_with (first|(go_at_call 78;refine HPL.out.mono ?_;rintro e w' ⟨rfl,rfl⟩;clear HPL))
  go_quiet (fail)
  go_wp2_with (first|(go_at_call 93;refine(zpp B _ tb t k ⟨l.pred,l.args.length,0⟩ (by exact HTA.out.below (by repeat'(first|with_reducible(first|exact zR _ _|assumption|refine zN ?_ _|refine zA ?_ ?_ _|refine zD ?_|refine zS ?_ ?_ _)|go_size))) hl hle (by exact Nat.le_trans hB (by simp)) hBt).mono ?_;rintro e w2 ⟨rfl,ht2,hb2,hkp2⟩))
  go_ret
  exact⟨rfl,ht2,((zaw (hbA.mono hB) _)).trans hb2,(zg9.of (zaw hbA _)).trans hkp2⟩
end Go.Proofs.YteampbddflhngabGreat
