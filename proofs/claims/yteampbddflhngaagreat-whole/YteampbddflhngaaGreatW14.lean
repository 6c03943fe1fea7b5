import Derived.Test.YteampbddflhngaaGreatW13

namespace Go.Proofs.YteampbddflhngaaGreat
set_option maxRecDepth 100000
set_option maxHeartbeats 4000000
open Go.RowKit
variable {lo:Nat}
def zd1(ps:List (Nat × Value)):List Value:=ps.flatMap fun x=>[.int .i64 (x.1:Nat),x.2]
theorem zmr:∀(ps:List (Nat × Value)) (k:Nat) (hk:k < ps.length),(zd1 ps)[k * 2]?=some (.int .i64 (ps[k].1:Nat))/\(zd1 ps)[k * 2+1]?=some ps[k].2
 |[],k,hk=>by simp at hk
 |p::r,0,_=>by simp[zd1]
 |p::r,k+1,hk=>by
  have:=zmr r k (by simpa using hk)
  simp only[zd1,ua5] at this ⊢
  rw[show(k+1) * 2=k * 2+1+1 from by omega,show k * 2+1+1+1=k * 2+1+1+1 from rfl]
  simpa using this
def zbo(lo:Nat)(w:World)(v:Value)(ls:List zak):Prop:=∃ ps:List (Nat × Value),w.ownsRow lo 204 2 v ls.length (zd1 ps)/\ps.length=ls.length/\ls.length<=1000/\∀ k (h1:k < ls.length) (h2:k < ps.length),ps[k].1=ls[k].pred/\zaq lo w ps[k].2 ls[k].qf/\ls[k].pred<=1000000
theorem zbo.below{w w':World}{v:Value}{ls:List zak}(h:zbo lo w v ls)(hb:Below w.heap.size w w'):zbo lo w' v ls:=by
 obtain⟨ps,h1,h2,h3,h4⟩:=h
 exact⟨ps,zaa h1 hb,h2,h3,fun k a b=>⟨(h4 k a b).1,(h4 k a b).2.1.below hb,(h4 k a b).2.2⟩⟩
theorem zbo.shape{w:World}{v:Value}{ls:List zak}(h:zbo lo w v ls):∃ ao cap,v=.slice ao ls.length cap:=by obtain⟨ps,h1,_⟩:=h;exact zac h1
theorem zbo.len{w:World}{v:Value}{ls:List zak}(h:zbo lo w v ls):ls.length<=1000:=by obtain⟨ps,_,_,h3,_⟩:=h;exact h3
theorem zbo.cell{w:World}{ao:Option Addr}{n cap:Nat}{ls:List zak}(h:zbo lo w (.slice ao n cap) ls)(k:Nat)(hk:k < ls.length):∃ g ao2 cap2,ao=some ⟨g,0,none⟩/\g < w.heap.size/\w.cell? ⟨g,k * 2,none⟩=some (.int .i64 (ls[k].pred:Nat))/\w.cell? ⟨g,k * 2+1,none⟩=some (.slice ao2 ls[k].qf.length cap2)/\zaq lo w (.slice ao2 ls[k].qf.length cap2) ls[k].qf:=by
 obtain⟨ps,h1,h2,h3,h4⟩:=h
 obtain⟨g,cap',hv,_,hg,hc⟩:=zal h1 (by omega)
 simp only[Value.slice.injEq] at hv
 obtain⟨rfl,_,_⟩:=hv
 obtain⟨c0,c1⟩:=zmr ps k (by omega)
 obtain⟨e1,e2,_⟩:=h4 k hk (by omega)
 obtain⟨ao2,cap2,e3⟩:=e2.shape
 have q0:=hc _ _ c0
 have q1:=hc _ _ c1
 rw[e1] at q0
 rw[e3] at q1 e2
 exact⟨g,ao2,cap2,rfl,hg,q0,q1,e2⟩
structure zdp (lo:Nat) (w:World) (tv pv nv:Value) (r:zah):Prop where
 head:zaq lo w tv r.head.qf
 qc:zbo lo w pv r.qc
 qm:zbo lo w nv r.qm
 small:r.qi<=1000000/\r.vars<=1000000/\r.head.pred<=1000000
theorem zdp.below{w w':World}{tv pv nv:Value}{r:zah}(h:zdp lo w tv pv nv r)(hb:Below w.heap.size w w'):zdp lo w' tv pv nv r:=⟨h.head.below hb,h.qc.below hb,h.qm.below hb,h.small⟩
def zlo(r:zah)(tv pv nv:Value):Value:=.agg #[.int .i64 (r.qi:Nat),.int .i64 (r.vars:Nat),.int .i64 (r.head.pred:Nat),tv,pv,nv]
theorem z1d(w:World)(tv pv nv:Value)(r:zah)(kn:Int)(h:zdp lo w tv pv nv r) :
  Calls Tryz.prog 220 #[zlo r tv pv nv,.int .i64 kn] w fun e w'=>e=.returned (.int .i64 (zd7 r kn))/\Below w.heap.size w w':=by
 obtain⟨aot,capt,rfl⟩:=h.head.shape
 obtain⟨aop,capp,rfl⟩:=h.qc.shape
 obtain⟨aon,capn,rfl⟩:=h.qm.shape
 have hpl:=h.qc.len
 have hnl:=h.qm.len
 have HLA:Hid (∀ W,Below w.heap.size w W->Calls Tryz.prog 225 #[.agg #[.int .i64 (r.head.pred:Nat),.slice aot r.head.qf.length capt],.int .i64 kn] W fun e w'=>e=.returned (.int .i64 (zij r.head kn))/\Below W.heap.size W w'):=fun W hW=>zxu W _ r.head.pred kn r.head.qf (h.head.below hW)
 have hP:=h.qc
 have hN:=h.qm
 have HE:Hid (zd7 r kn=r.qm.foldl (zbc kn) (r.qc.foldl (zbc kn) (zij r.head kn))):=rfl
 unfold zlo
 clear h
 have hbx:=Box.new w #[.int .i64 (r.qi:Nat),.int .i64 (r.vars:Nat),.int .i64 (r.head.pred:Nat),.slice aot r.head.qf.length capt,.slice aop r.qc.length capp,.slice aon r.qm.length capn] 207
 generalize zij r.head kn=la at *
 generalize r.qc=pls at *
 generalize r.qm=nts at *
 go_enter Tryz.func220,Tryz.ntmps220
 go_wp2_with (first|(go_at_call 225;refine(HLA.out _ (by exact(by go_grown))).mono ?_;rintro e w1 ⟨rfl,hb1⟩;have hB1:Below w.heap.size w w1:=zae (by go_grown) hb1 (uaa _);have hbx1:=hbx.below hb1;obtain⟨hc1,hf1⟩:=hbx1.rules;have hl1:=hbx1.lt))
 clear hc1 hf1 hl1 hbx hb1
 go_loopw [5,19] (fun v5 v19 wr=>∃ k:Nat,k<=pls.length/\v19=.int .i64 k/\v5=.int .i64 ((pls.take k).foldl (zbc kn) la)/\Below w1.heap.size w1 wr) (fun _ i _=>pls.length - (intOf i).toNat)
 case atStart=>exact⟨0,uaj _,rfl,rfl,Below.refl _ _⟩
 case round =>
  obtain⟨k,hk,rfl,rfl,hbk⟩:=hrel
  have hBk:=zae hB1 hbk (uaa _)
  have hszk:=hBk.size
  by_cases hlt:k < pls.length
  ·obtain⟨g,ao2,cap2,hao,hg,h0,h1,hT⟩:=hP.cell k hlt
   subst hao
   have hx0:=(hBk.cell (p:=⟨g,k * 2,none⟩) hg).trans h0
   have hx1:=(hBk.cell (p:=⟨g,k * 2+1,none⟩) hg).trans h1
   have hgr:g < wr.heap.size:=by omega
   have HS:Hid ((pls.take (k+1)).foldl (zbc kn) la=zbc kn ((pls.take k).foldl (zbc kn) la) pls[k]):=zdm pls (zbc kn) la k hlt
   have HTI:Hid (∀ W,Below w.heap.size w W->Calls Tryz.prog 226 #[.agg #[.int .i64 (pls[k].pred:Nat),.slice ao2 pls[k].qf.length cap2],.int .i64 kn] W fun e w'=>e=.returned (.int .i64 (zh0 pls[k] kn))/\Below W.heap.size W w'):=fun W hW=>zyj W _ pls[k].pred kn pls[k].qf (hT.below hW)
   clear h0 h1 hT
   generalize pls[k]=l at *
   generalize (pls.take k).foldl (zbc kn) la=bk at *
   have HST:Hid (zbc kn bk l=if zh0 l kn > bk then zh0 l kn else bk):=rfl
   generalize zh0 l kn=ti at *
   by_cases hgt:ti > bk
   ·rw[if_pos hgt] at HST
    go_wp2_with (first|(go_at_call 226;refine(HTI.out _ (by exact(by go_grown))).mono ?_;rintro e w2 ⟨rfl,hb2⟩;have hB2:Below wr.heap.size wr w2:=(zae (by go_grown) hb2 (uaa _))))
    go_roundw
    case rel=>exact⟨k+1,by omega,by go_num,by rw[HS.out,HST.out],zae hbk hB2 (uaa _)⟩
    case measure=>simp[intOf];omega
   ·rw[if_neg hgt] at HST
    go_wp2_with (first|(go_at_call 226;refine(HTI.out _ (by exact(by go_grown))).mono ?_;rintro e w2 ⟨rfl,hb2⟩;have hB2:Below wr.heap.size wr w2:=(zae (by go_grown) hb2 (uaa _))))
    go_roundw
    case rel=>exact⟨k+1,by omega,by go_num,by rw[HS.out,HST.out],zae hbk hB2 (uaa _)⟩
    case measure=>simp[intOf];omega
  ·obtain rfl:k=pls.length:=by omega
   rw[ubw]
   generalize pls.foldl (zbc kn) la=pb at *
   have hbx2:=hbx1.below hbk
   obtain⟨hc2,hf2⟩:=hbx2.rules
   have hl2:=hbx2.lt
   go_wp2
   clear hc2 hf2 hl2
   obtain⟨w2,hw2⟩:∃ w2,w2=wr:=⟨wr,rfl⟩
   subst hw2
   go_loopw [5,34] (fun v5 v34 wr=>∃ k:Nat,k<=nts.length/\v34=.int .i64 k/\v5=.int .i64 ((nts.take k).foldl (zbc kn) pb)/\Below w.heap.size w wr) (fun _ i _=>nts.length - (intOf i).toNat)
   case atStart=>exact⟨0,uaj _,rfl,rfl,hBk⟩
   case round =>
    obtain⟨k,hk,rfl,rfl,hbk2⟩:=hrel
    have hszk2:=hbk2.size
    by_cases hlt2:k < nts.length
    ·obtain⟨g,ao2,cap2,hao,hg,h0,h1,hT⟩:=hN.cell k hlt2
     subst hao
     have hx0:=(hbk2.cell (p:=⟨g,k * 2,none⟩) hg).trans h0
     have hx1:=(hbk2.cell (p:=⟨g,k * 2+1,none⟩) hg).trans h1
     have hgr:g < wr.heap.size:=by omega
     have HS:Hid ((nts.take (k+1)).foldl (zbc kn) pb=zbc kn ((nts.take k).foldl (zbc kn) pb) nts[k]):=zdm nts (zbc kn) pb k hlt2
     have HTI:Hid (∀ W,Below w.heap.size w W->Calls Tryz.prog 226 #[.agg #[.int .i64 (nts[k].pred:Nat),.slice ao2 nts[k].qf.length cap2],.int .i64 kn] W fun e w'=>e=.returned (.int .i64 (zh0 nts[k] kn))/\Below W.heap.size W w'):=fun W hW=>zyj W _ nts[k].pred kn nts[k].qf (hT.below hW)
     clear h0 h1 hT
     generalize nts[k]=l at *
     generalize (nts.take k).foldl (zbc kn) pb=bk at *
     have HST:Hid (zbc kn bk l=if zh0 l kn > bk then zh0 l kn else bk):=rfl
     generalize zh0 l kn=ti at *
     by_cases hgt:ti > bk
     ·rw[if_pos hgt] at HST
      go_wp2_with (first|(go_at_call 226;refine(HTI.out _ (by exact(by go_grown))).mono ?_;rintro e w3 ⟨rfl,hb3⟩;have hB3:Below wr.heap.size wr w3:=(zae (by go_grown) hb3 (uaa _))))
      go_roundw
      case rel=>exact⟨k+1,by omega,by go_num,by rw[HS.out,HST.out],zae hbk2 hB3 (uaa _)⟩
      case measure=>simp[intOf];omega
     ·rw[if_neg hgt] at HST
      go_wp2_with (first|(go_at_call 226;refine(HTI.out _ (by exact(by go_grown))).mono ?_;rintro e w3 ⟨rfl,hb3⟩;have hB3:Below wr.heap.size wr w3:=(zae (by go_grown) hb3 (uaa _))))
      go_roundw
      case rel=>exact⟨k+1,by omega,by go_num,by rw[HS.out,HST.out],zae hbk2 hB3 (uaa _)⟩
      case measure=>simp[intOf];omega
    ·obtain rfl:k=nts.length:=by omega
     rw[ubw]
     go_wp2
     go_ret
     exact⟨by rw[HE.out];rfl,hbk2⟩
end Go.Proofs.YteampbddflhngaaGreat
namespace Go.Proofs.YteampbddflhngaaGreat
set_option maxRecDepth 100000
set_option maxHeartbeats 2000000
open Go.RowKit
variable {lo:Nat}
variable {w:World}{jb:Nat}
theorem five{α:Type}{l:List α}(h:l.length=5):∃ a b c d e,l=[a,b,c,d,e]:=by
 match l,h with
 |[a,b,c,d,e],_=>exact⟨a,b,c,d,e,rfl⟩
abbrev V4:=Value × Value × Value × Value
def znw(t:V4):List Value:=[t.1,t.2.1,t.2.2.1,t.2.2.2]
def zcj(ys:List V4):List Value:=ys.flatMap znw
theorem zk4(ys:List V4):(zcj ys).length=ys.length * 4:=by
 induction ys with
 |nil=>rfl
 |cons a l ih=>simp[zcj,znw] at ih ⊢;omega
theorem zk3:∀(ys:List V4) (k:Nat) (hk:k < ys.length),(zcj ys)[k * 4]?=some ys[k].1/\(zcj ys)[k * 4+1]?=some ys[k].2.1/\(zcj ys)[k * 4+2]?=some ys[k].2.2.1/\(zcj ys)[k * 4+3]?=some ys[k].2.2.2
 |[],k,hk=>by simp at hk
 |y::r,0,_=>by simp[zcj,znw]
 |y::r,k+1,hk=>by
  have:=zk3 r k (by simpa using hk)
  simp only[zcj,ua5,znw] at this ⊢
  rw[show(k+1) * 4=k * 4+1+1+1+1 from by omega,show k * 4+1+1+1+1+2=k * 4+2+1+1+1+1 from by omega,show k * 4+1+1+1+1+3=k * 4+3+1+1+1+1 from by omega]
  simpa using this
def zm4(s:zej)(t:Nat × List Nat):V4:=(.pointer (some ⟨t.1,0,none⟩),.int .i64 (s.ql.getD 0 0:Nat),.int .i64 (s.ql.getD 1 0:Nat),.int .i64 (s.ql.getD 2 0:Nat))
def zyx(b:z9p)(t:Value × Nat × List Nat):V4:=(.int .i64 (b.lit.pred:Nat),t.1,.int .i64 (b.jd:Nat),.pointer (some ⟨t.2.1,0,none⟩))
def zcm(hs:List (Nat × Nat)):List Value:=hs.flatMap fun h=>[.int .i64 (h.1:Nat),.int .i64 (h.2:Nat)]
structure zbx where
 tv:Value
 sv:Value
 bv:Value
 hvs:List Value
 tbs:List (Nat × List Nat)
 bps:List (Value × Nat × List Nat)
def zca(J:zav)(P:zbx):List Value :=
 [.int .i64 (J.head.pred:Nat),P.tv,.int .i64 (J.vars:Nat),P.sv,P.bv]++P.hvs++J.jg.map (Value.int .i64)++[.int .i64 J.last]++J.qx.map ivN++J.from.map ivN++[.int .i64 J.qp,.int .i64 J.jf]
structure JIn (lo:Nat) (w:World) (jb:Nat) (J:zav) (P:zbx):Prop where
 low:lo<=jb
 box:Box w jb (zca J P).toArray 310
 head:zaq lo w P.tv J.head.qf
 qy:w.ownsRow lo 323 4 P.sv J.qy.length (zcj (List.zipWith zm4 J.qy P.tbs))
 slen:P.tbs.length=J.qy.length
 tries:∀ k (_:k < J.qy.length) (_:k < P.tbs.length),zat lo w P.tbs[k].1 J.qy[k].rows P.tbs[k].2
 ql:∀ s∈J.qy,s.ql.length=3
 bars:w.ownsRow lo 325 4 P.bv J.bars.length (zcj (List.zipWith zyx J.bars P.bps))
 blen:P.bps.length=J.bars.length
 jh:∀ k (_:k < J.bars.length) (_:k < P.bps.length),zaq lo w P.bps[k].1 J.bars[k].lit.qf/\zat lo w P.bps[k].2.1 J.bars[k].rows P.bps[k].2.2
 hlen:P.hvs.length=5/\J.ja.length=5
 ja:∀ p (_:p < J.ja.length) (_:p < P.hvs.length),w.ownsRow lo 327 2 P.hvs[p] J.ja[p].length (zcm J.ja[p])/\J.ja[p].length<=1000/\∀ h∈J.ja[p],h.1<=1000000/\h.2<=1000000
 ji:J.jg.length=5/\J.qx.length=5/\J.from.length=5
 few:J.qy.length<=1000/\J.bars.length<=1000/\J.vars<=1000000
theorem zat.notin{tb:Nat}{T:zad}{fp:List Nat}(h:zat lo w tb T fp){b:Nat}{c:Array Value}{t:TypeId}(hb:Box w b c t)(h1:t≠229)(h2:t≠273)(h3:t≠3):b∉fp:=by
 obtain⟨nv,ns,ht,rfl⟩:=h
 intro hm
 simp only[fpT,uag,uao] at hm
 rcases hm with hm|hm|hm
 ·subst hm
  have q:=ht.box
  unfold Box at q hb
  rw[hb] at q
  simp at q
  exact h1 q.2
 ·exact zbr ht.ql hb (Ne.symm h2) (zcy hm) rfl
 ·obtain⟨i,hi,e|e⟩:=zrx hm
  ·exact zbr (ht.leap i (by rw[← ht.len];exact hi) hi) hb (Ne.symm h3) (b:=b) (by rw[e];rfl) rfl
  ·exact zbr (ht.down i (by rw[← ht.len];exact hi) hi) hb (Ne.symm h3) (b:=b) (by rw[e];rfl) rfl
theorem zaq.save{w':World}{v:Value}{ts:List zbn}{N:List Nat}(h:zaq lo w v ts)(hs:zas N w w')(hn:∀ b,v.ownBlock=some b->b∉N):zaq lo w' v ts:=⟨zbl h.own hs hn,h.len,h.num⟩
theorem JIn.below{w w':World}{jb:Nat}{J:zav}{P:zbx}(h:JIn lo w jb J P)(hb:Below w.heap.size w w'):JIn lo w' jb J P :=
 ⟨h.low,h.box.below hb,h.head.below hb,zaa h.qy hb,h.slen,fun k a b=>(h.tries k a b).below hb,h.ql,zaa h.bars hb,h.blen,fun k a b=>⟨(h.jh k a b).1.below hb,(h.jh k a b).2.below hb⟩,h.hlen,fun p a b=>⟨zaa (h.ja p a b).1 hb,(h.ja p a b).2⟩,h.ji,h.few⟩
theorem JIn.rebox{w':World}{J J':zav}{P:zbx}(h:JIn lo w jb J P)(hs:zas [jb] w w')(hbx:Box w' jb (zca J' P).toArray 310)(e1:J'.head=J.head)(e2:J'.qy=J.qy)(e3:J'.bars=J.bars)(e4:J'.ja=J.ja)(e5:J'.vars=J.vars)(hf:J'.jg.length=5/\J'.qx.length=5/\J'.from.length=5):JIn lo w' jb J' P:=by
 have nt:∀ {b1:Nat} {e:TypeId} {s1:Nat} {v:Value} {n1:Nat} {xs:List Value},w.ownsRow b1 e s1 v n1 xs->e≠310->∀ b,v.ownBlock=some b->b∉[jb]:=fun ho hT b hvb hm=>zbr ho h.box hT hvb (by simpa using hm)
 have nn:∀ {tb:Nat} {T:zad} {fp:List Nat},zat lo w tb T fp->zat lo w' tb T fp:=fun ht=>ht.save hs (fun b hb hm=>by simp at hm;subst hm;exact ht.notin h.box (by decide) (by decide) (by decide) hb)
 refine⟨h.low,hbx,by rw[e1];exact h.head.save hs (nt h.head.own (by decide)),by rw[e2];exact zbl h.qy hs (nt h.qy (by decide)),by rw[e2];exact h.slen,fun k a b=>?_,by rw[e2];exact h.ql,by rw[e3];exact zbl h.bars hs (nt h.bars (by decide)),by rw[e3];exact h.blen,fun k a b=>?_,by rw[e4];exact h.hlen,fun p a b=>?_,hf,by rw[e2,e3,e5];exact h.few⟩
 ·have a':k < J.qy.length:=by rw[← e2];exact a
  simp only[e2]
  exact nn (h.tries k a' b)
 ·have a':k < J.bars.length:=by rw[← e3];exact a
  simp only[e3]
  exact⟨(h.jh k a' b).1.save hs (nt (h.jh k a' b).1.own (by decide)),nn (h.jh k a' b).2⟩
 ·have a':p < J.ja.length:=by rw[← e4];exact a
  simp only[e4]
  exact⟨zbl (h.ja p a' b).1 hs (nt (h.ja p a' b).1 (by decide)),(h.ja p a' b).2⟩
theorem JIn.at{J:zav}{P:zbx}(h:JIn lo w jb J P):jb < w.heap.size/\(∀ o,w.frozen? ⟨jb,o,none⟩=false)/\w.cell? ⟨jb,0,none⟩=some (.int .i64 (J.head.pred:Nat))/\w.cell? ⟨jb,1,none⟩=some P.tv/\w.cell? ⟨jb,2,none⟩=some (.int .i64 (J.vars:Nat))/\w.cell? ⟨jb,3,none⟩=some P.sv/\w.cell? ⟨jb,4,none⟩=some P.bv/\w.cell? ⟨jb,15,none⟩=some (.int .i64 J.last)/\w.cell? ⟨jb,26,none⟩=some (.int .i64 J.qp)/\w.cell? ⟨jb,27,none⟩=some (.int .i64 J.jf):=by
 obtain⟨hc,hf⟩:=h.box.rules
 obtain⟨f1,f2,f3⟩:=h.ji
 obtain⟨a1,a2,a3,a4,a5,e1⟩:=five h.hlen.1
 obtain⟨b1,b2,b3,b4,b5,e2⟩:=five f1
 obtain⟨c1,c2,c3,c4,c5,e3⟩:=five f2
 obtain⟨d1,d2,d3,d4,d5,e4⟩:=five f3
 refine⟨h.box.lt,hf,?_,?_,?_,?_,?_,?_,?_,?_⟩ <;> rw[hc] <;> simp[zca,e1,e2,e3,e4]
theorem JIn.setMoves{J:zav}{P:zbx}(h:JIn lo w jb J P)(m:Int):JIn lo (w.setCell ⟨jb,27,none⟩ (.int .i64 m)) jb { J with jf:=m } P:=by
 obtain⟨f1,f2,f3⟩:=h.ji
 refine h.rebox (zas.set _ _ _ _) ?_ rfl rfl rfl rfl rfl h.ji
 obtain⟨a1,a2,a3,a4,a5,e1⟩:=five h.hlen.1
 obtain⟨b1,b2,b3,b4,b5,e2⟩:=five f1
 obtain⟨c1,c2,c3,c4,c5,e3⟩:=five f2
 obtain⟨d1,d2,d3,d4,d5,e4⟩:=five f3
 have hq:=h.box.set 27 (.int .i64 m)
 simpa [zca,e1,e2,e3,e4] using hq
theorem zq3(w:World)(jb:Nat)(J:zav)(P:zbx)(s l:Nat)(h:JIn lo w jb J P) :
  Calls Tryz.prog 231 #[.pointer (some ⟨jb,0,none⟩),.agg #[.int .i64 s,.int .i64 l]] w fun e w'=>e=.returned (.bool (zcr J (s,l)))/\Below w.heap.size w w':=by
 obtain⟨hjl,hjf,_,_,_,hc3,_⟩:=h.at
 obtain⟨ao,cap,hsv⟩:=zac h.qy
 rw[hsv] at hc3
 have HE:Hid (zcr J (s,l)=(decide (s < J.qy.length) && decide (l < 3))):=rfl
 clear h hsv
 generalize J.qy.length=n at *
 by_cases h1:s < n
 ·by_cases h2:l < 3
  ·have hd1:(s:Int) < (n:Int):=by omega
   have hd2:(l:Int) < 3:=by omega
   go_enter Tryz.func231,Tryz.ntmps231
   go_wp2
   go_quiet (fail)
   go_wp2
   go_ret
   exact⟨by rw[HE.out];simp[h1,h2],zau (by go_grown) _⟩
  ·have hd1:(s:Int) < (n:Int):=by omega
   have hd2:decide ((l:Int) < 3)=false:=decide_eq_false (by omega)
   go_enter Tryz.func231,Tryz.ntmps231
   go_wp2
   go_quiet (fail)
   go_wp2
   go_ret
   exact⟨by rw[HE.out];simp[h1,h2],zau (by go_grown) _⟩
 ·have hd1:decide ((s:Int) < (n:Int))=false:=decide_eq_false (by omega)
  go_enter Tryz.func231,Tryz.ntmps231
  go_wp2
  go_quiet (fail)
  go_wp2
  go_ret
  exact⟨by rw[HE.out];simp[h1],zau (by go_grown) _⟩
end Go.Proofs.YteampbddflhngaaGreat
namespace Go.Proofs.YteampbddflhngaaGreat
set_option maxRecDepth 100000
set_option maxHeartbeats 4000000
open Go.RowKit
variable {lo:Nat}
theorem JIn.side{w:World}{jb:Nat}{J:zav}{P:zbx}(h:JIn lo w jb J P)(s l:Nat)(hs:s < J.qy.length)(hl:l < 3) :
  ∃ sb cap tb fp,P.sv=.slice (some ⟨sb,0,none⟩) J.qy.length cap/\sb < w.heap.size/\sb≠jb/\w.cell? ⟨sb,s * 4,none⟩=some (.pointer (some ⟨tb,0,none⟩))/\w.cell? ⟨sb,s * 4+1+l,none⟩=some (.int .i64 ((J.qy[s].ql.getD l 0:Nat):Int))/\zat lo w tb J.qy[s].rows fp/\(∀ o,w.frozen? ⟨sb,o,none⟩=false):=by
 obtain⟨sb,cap,hv,_,hsb,hc⟩:=zal h.qy (by omega)
 have hk2:s < P.tbs.length:=by rw[h.slen];exact hs
 obtain⟨c0,c1,c2,c3⟩:=zk3 (List.zipWith zm4 J.qy P.tbs) s (by simp;omega)
 simp only[uc1,zm4] at c0 c1 c2 c3
 have hso:=h.qy
 rw[hv] at hso
 refine⟨sb,cap,P.tbs[s].1,P.tbs[s].2,hv,hsb,zbr h.qy h.box (by decide) (by rw[hv];rfl),hc _ _ c0,?_,h.tries s hs hk2,zbt hso⟩
 obtain rfl|rfl|rfl:l=0∨l=1∨l=2:=by omega
 ·exact hc _ _ c1
 ·exact hc _ _ c2
 ·exact hc _ _ c3
theorem z2j(w:World)(jb:Nat)(J:zav)(P:zbx)(s l f:Nat)(h:JIn lo w jb J P) :
  Calls Tryz.prog 229 #[.pointer (some ⟨jb,0,none⟩),.agg #[.int .i64 s,.int .i64 l],.int .i64 f] w fun e w'=>e=.returned (zpc (zhj J (s,l) f).2)/\JIn lo w' jb (zhj J (s,l) f).1 P/\zas [jb] w w':=by
 have HST:Hid (∀ W,Below w.heap.size w W->Calls Tryz.prog 231 #[.pointer (some ⟨jb,0,none⟩),.agg #[.int .i64 s,.int .i64 l]] W fun e w'=>e=.returned (.bool (zcr J (s,l)))/\Below W.heap.size W w'):=fun W hW=>zq3 W jb J P s l (h.below hW)
 have HJ:Hid (JIn lo w jb J P):=h
 cases hst:zcr J (s,l) with
 |false =>
  have HE:Hid (zhj J (s,l) f=(J,none)):=by simp[Hid,zhj,hst]
  rw[hst] at HST
  clear hst h
  go_enter Tryz.func229,Tryz.ntmps229
  go_wp2_with (first|(go_at_call 231;refine(HST.out _ (by exact(by go_grown))).mono ?_;rintro e w1 ⟨rfl,hb1⟩;have hB1:Below w.heap.size w w1:=zae (by go_grown) hb1 (uaa _)))
  go_ret2
  exact⟨by rw[HE.out];rfl,by rw[HE.out];exact HJ.out.below hB1,zas.of hB1⟩
 |true =>
  have hsl:s < J.qy.length/\l < 3:=by simpa [zcr] using hst
  obtain⟨hs,hl⟩:=hsl
  have HE:Hid (zhj J (s,l) f=({ J with jf:=IntKind.i64.wrap (J.jf+1) },zcn J.qy[s].rows (J.qy[s].ql.getD l 0) f)):=by simp[Hid,zhj,hst,List.getD_eq_getElem?_getD,hs]
  rw[hst] at HST
  obtain⟨sb,cap,tb,fp,hsv,hsb,hne,_,_,_,_⟩:=h.side s l hs hl
  obtain⟨hjl,_⟩:=h.at
  have hsI:(s:Int) < (J.qy.length:Int):=by omega
  have hlI:(l:Int) < 3:=by omega
  clear hst h
  go_enter Tryz.func229,Tryz.ntmps229
  go_wp2_with (first|(go_at_call 231;refine(HST.out _ (by exact(by go_grown))).mono ?_;rintro e w1 ⟨rfl,hb1⟩;have hB1:Below w.heap.size w w1:=zae (by go_grown) hb1 (uaa _);have hj1:=HJ.out.below hB1;obtain⟨hjl1,hjf1,_,_,_,hc3,_,_,_,hc27⟩:=hj1.at;have hbx:=(Box.new w #[.int .i64 s,.int .i64 l] 327).below hb1;obtain⟨hhc,hhf⟩:=hbx.rules;have hhl:=hbx.lt;have HJ1:Hid (JIn lo w1 jb J P):=hj1;clear hj1))
  have hwr:IntKind.i64.wrap (J.jf+1)=wrap64 (J.jf+1):=by rw[IntKind.wrap_i64];unfold wrap64;rfl
  rw[hwr] at HE
  clear hwr
  have HJ2:Hid (JIn lo (w1.setCell ⟨jb,27,none⟩ (.int .i64 (wrap64 (J.jf+1)))) jb { J with jf:=wrap64 (J.jf+1) } P):=HJ1.out.setMoves _
  have hnb:w.heap.size≠jb:=by omega
  have hbx2:=hbx.set_ne hnb 27 (.int .i64 (wrap64 (J.jf+1)))
  have hS2:zas [jb] w (w1.setCell ⟨jb,27,none⟩ (.int .i64 (wrap64 (J.jf+1)))):=(zas.of hB1).trans (zas.set _ _ _ _)
  clear hhc hhf hhl hjl1 hjf1 hc3 hc27 hbx HJ1 HJ HST hb1 hB1 hsv hsb hne
  generalize w1.setCell ⟨jb,27,none⟩ (.int .i64 (wrap64 (J.jf+1)))=w2 at *
  have hj2:=HJ2.out
  obtain⟨hjl2,hjf2,_,_,_,hd3,_⟩:=hj2.at
  obtain⟨sb2,cap2,tb2,fp2,hsv2,hsb2,_,hp0,hp1,htr,_⟩:=hj2.side s l hs hl
  rw[hsv2] at hd3
  obtain⟨hhc,hhf⟩:=hbx2.rules
  have hhl:=hbx2.lt
  simp only at hd3 hp1 htr
  have HLP:Hid (∀ n,Calls Tryz.prog 167 #[.pointer (some ⟨tb2,0,none⟩),.int .i64 ((J.qy[s].ql.getD l 0:Nat):Int),.int .i64 f] (w2.drewN n) fun e w'=>e=.returned (.tuple #[.int .i64 (((zcn J.qy[s].rows (J.qy[s].ql.getD l 0) f).getD 0:Nat):Int),.bool (zcn J.qy[s].rows (J.qy[s].ql.getD l 0) f).isSome])/\w'=w2.drewN n):=fun n=>zlc _ tb2 _ fp2 _ f (htr.below (zau (Below.refl _ _) n))
  clear htr hj2
  generalize J.qy[s].ql.getD l 0=nd at *
  generalize J.qy[s].rows=TT at *
  generalize J.qy.length=sn at *
  go_quiet ((go_at_call 167;exact Calls.quiet_of_same (HLP.out _)))
  go_wp2
  go_ret2
  exact⟨by rw[HE.out];rfl,by rw[HE.out];exact HJ2.out.below (zau (Below.refl _ _) _),hS2.newer (zas.of (M:=[]) (zau (Below.refl _ _) _)) (by simp)⟩
theorem ziy:∀(hs:List (Nat × Nat)) (k:Nat) (hk:k < hs.length),(zcm hs)[k * 2]?=some (.int .i64 (hs[k].1:Nat))/\(zcm hs)[k * 2+1]?=some (.int .i64 (hs[k].2:Nat))
 |[],k,hk=>by simp at hk
 |p::r,0,_=>by simp[zcm]
 |p::r,k+1,hk=>by
  have:=ziy r k (by simpa using hk)
  simp only[zcm,ua5] at this ⊢
  rw[show(k+1) * 2=k * 2+1+1 from by omega,show k * 2+1+1+1=k * 2+1+1+1 from rfl]
  simpa using this
theorem JIn.hold{w:World}{jb:Nat}{J:zav}{P:zbx}(h:JIn lo w jb J P)(p:Nat)(hp:p < 5):∃ ao cap,w.cell? ⟨jb,5+p,none⟩=some (.slice ao (J.ja.getD p []).length cap)/\(J.ja.getD p []).length<=1000/\∀ k (hk:k < (J.ja.getD p []).length),∃ hb,ao=some ⟨hb,0,none⟩/\hb < w.heap.size/\hb≠jb/\w.cell? ⟨hb,k * 2,none⟩=some (.int .i64 ((J.ja.getD p [])[k].1:Nat))/\w.cell? ⟨hb,k * 2+1,none⟩=some (.int .i64 ((J.ja.getD p [])[k].2:Nat)):=by
 have h1:p < J.ja.length:=by rw[h.hlen.2];exact hp
 have h2:p < P.hvs.length:=by rw[h.hlen.1];exact hp
 have e:J.ja.getD p []=J.ja[p]:=by simp[List.getD_eq_getElem?_getD,h1]
 rw[e]
 obtain⟨ho,hl,_⟩:=h.ja p h1 h2
 obtain⟨ao,cap,hv⟩:=zac ho
 obtain⟨hc,_⟩:=h.box.rules
 obtain⟨f1,f2,f3⟩:=h.ji
 refine⟨ao,cap,?_,hl,fun k hk=>?_⟩
 ·rw[← hv,hc]
  obtain⟨a1,a2,a3,a4,a5,e1⟩:=five h.hlen.1
  simp only[e1] at h2 ⊢
  obtain rfl|rfl|rfl|rfl|rfl:p=0∨p=1∨p=2∨p=3∨p=4:=by omega
  all_goals simp[zca,e1]
 ·obtain⟨hb,cap',hv2,_,hbl,hcl⟩:=zal ho (by omega)
  have hv3:=hv.symm.trans hv2
  simp only[Value.slice.injEq] at hv3
  obtain⟨c0,c1⟩:=ziy J.ja[p] k hk
  exact⟨hb,hv3.1,hbl,zbr ho h.box (by decide) (by rw[hv2];rfl),hcl _ _ c0,hcl _ _ c1⟩
theorem zv6(J:zav)(h:Nat × Nat)(f:Nat):(zhj J h f).1.ja=J.ja:=by unfold zhj;split <;> rfl
theorem z05(w:World)(jb:Nat)(J:zav)(P:zbx)(p f n:Nat)(J':zav)(r:Option Nat)(h:JIn lo w jb J P)(hr:zml n J p f=some (J',r)) :
  Calls Tryz.prog 227 #[.pointer (some ⟨jb,0,none⟩),.int .i64 p,.int .i64 f] w fun e w'=>e=.returned (zpc r)/\JIn lo w' jb J' P/\zas [jb] w w':=by
 have HJ:Hid (JIn lo w jb J P):=h
 unfold zml at hr
 by_cases h5:p ≥ 5
 ·rw[if_pos (Or.inl h5)] at hr
  simp only[uab,uak] at hr
  obtain⟨rfl,rfl⟩:=hr
  clear h
  go_enter Tryz.func227,Tryz.ntmps227
  go_wp2
  go_ret2
  exact⟨rfl,HJ.out,zas.refl _ _⟩
 ·obtain⟨ao,cap,hcH,hlen,hcx⟩:=h.hold p (by omega)
  clear hcx
  obtain⟨hjl,hjf,_⟩:=h.at
  by_cases h0:(J.ja.getD p []).length=0
  ·rw[if_pos (Or.inr h0)] at hr
   simp only[uab,uak] at hr
   obtain⟨rfl,rfl⟩:=hr
   clear h
   generalize (J.ja.getD p []).length=hn at *
   subst h0
   go_enter Tryz.func227,Tryz.ntmps227
   go_wp2
   go_ret2
   exact⟨rfl,HJ.out,zas.refl _ _⟩
  ·rw[if_neg (by omega)] at hr
   have HR:Hid (zid n J (J.ja.getD p []) f 0 0=some (J',r)):=hr
   clear hr h
   have hpos:(J.ja.getD p []).length > 0:=by omega
   obtain⟨hs,hhs⟩:∃ hs,hs=J.ja.getD p []:=⟨_,rfl⟩
   rw[← hhs] at HR hcH hlen hpos
   have HHS:Hid (hs=J.ja.getD p []):=hhs
   clear hhs
   have hz0:((hs.length:Int) == 0)=false:=beq_eq_false_iff_ne.2 (by omega)
   go_enter Tryz.func227,Tryz.ntmps227
   go_wp2
   go_loopg [8,9,10] n (fun k v8 v9 v10 wr=>∃(Jk:zav) (at' same turn:Nat),v8=.int .i64 at'/\v9=.int .i64 same/\v10=.int .i64 turn/\Hid (zid k Jk hs at' same turn=some (J',r))/\Hid (JIn lo wr jb Jk P)/\Hid (Jk.ja=J.ja)/\zas [jb] w wr/\same<=hs.length/\turn < hs.length)
   case atStart=>exact⟨J,f,0,0,rfl,rfl,rfl,HR,HJ,rfl,zas.refl _ _,by omega,hpos⟩
   case round =>
    clear hcH
    obtain⟨Jk,at',same,turn,rfl,rfl,rfl,HQ,HJK,HHK,hsv,hsm,htn⟩:=hrel
    have hjk:=HJK.out
    obtain⟨hjl2,hjf2,_⟩:=hjk.at
    obtain⟨ao2,cap2,hcH,_,hcell⟩:=hjk.hold p (by omega)
    rw[HHK.out,← HHS.out] at hcH hcell
    obtain⟨hb,hao,hhb,hne,hx0,hx1⟩:=hcell turn htn
    subst hao
    clear hcell hjk
    cases gk with
    |zero=>have q:=HQ.out;simp[zid] at q
    |succ m =>
     have q:=HQ.out
     unfold zid at q
     by_cases hsl:same < hs.length
     ·rw[if_pos hsl] at q
      have eg:hs.getD turn (0,0)=hs[turn]:=by simp[List.getD_eq_getElem?_getD,htn]
      rw[eg] at q
      have HLP:Hid (Calls Tryz.prog 229 #[.pointer (some ⟨jb,0,none⟩),.agg #[.int .i64 (hs[turn].1:Nat),.int .i64 (hs[turn].2:Nat)],.int .i64 at'] wr fun e w'=>e=.returned (.tuple #[.int .i64 (((zhj Jk hs[turn] at').2.getD 0:Nat):Int),.bool (zhj Jk hs[turn] at').2.isSome])/\JIn lo w' jb (zhj Jk hs[turn] at').1 P/\zas [jb] wr w'):=z2j wr jb Jk P hs[turn].1 hs[turn].2 at' HJK.out
      have hkp:=zv6 Jk hs[turn] at'
      generalize hlj:zhj Jk hs[turn] at'=lj at *
      clear hlj
      obtain⟨J2,r2⟩:=lj
      generalize hs[turn]=hd at *
      simp only at q HLP hkp
      cases r2 with
      |none =>
       simp only[uab,uak] at q
       obtain⟨e1,e2⟩:=q
       simp only[ubh,ua9] at HLP
       have HE:Hid (J'=J2/\r=none):=⟨e1.symm,e2.symm⟩
       clear e1 e2
       go_wp2_with (first|(go_at_call 229;refine HLP.out.mono ?_;rintro e w2 ⟨rfl,hj2,hs2⟩;have HJ2:Hid (JIn lo w2 jb J2 P):=hj2;clear hj2))
       go_ret2
       exact⟨by rw[HE.out.2];rfl,by rw[HE.out.1];exact HJ2.out,hsv.trans hs2⟩
      |some v =>
       simp only[uas,ua4] at HLP
       have HQ2:Hid (zid m J2 hs (if v > at' then v else at') ((if v > at' then 0 else same)+1) (if turn+1 ≥ hs.length then 0 else turn+1)=some (J',r)):=q
       have HK2:Hid (J2.ja=J.ja):=hkp.trans HHK.out
       have HHC:Hid (∀ W,JIn lo W jb J2 P->∃ ao3 cap3,W.cell? ⟨jb,5+p,none⟩=some (.slice ao3 hs.length cap3)):=fun W hW=>by
        obtain⟨ao3,cap3,q1,_⟩:=hW.hold p (by omega)
        rw[HK2.out,← HHS.out] at q1
        exact⟨ao3,cap3,q1⟩
       clear q hkp
       by_cases hv:v > at'
       ·rw[if_pos hv,if_pos hv] at HQ2
        by_cases ht:turn+1 ≥ hs.length
        ·rw[if_pos ht] at HQ2
         go_wp2_with (first|(go_at_call 229;refine HLP.out.mono ?_;rintro e w2 ⟨rfl,hj2,hs2⟩;have HJ2:Hid (JIn lo w2 jb J2 P):=hj2;obtain⟨ao3,cap3,hc3⟩:=HHC.out w2 hj2;obtain⟨hjl3,hjf3,_⟩:=hj2.at;clear hj2))
         go_roundg m
         case measure=>omega
         case rel=>exact⟨J2,v,1,0,rfl,rfl,rfl,HQ2,HJ2,HK2,hsv.trans hs2,by omega,by omega⟩
        ·rw[if_neg ht] at HQ2
         go_wp2_with (first|(go_at_call 229;refine HLP.out.mono ?_;rintro e w2 ⟨rfl,hj2,hs2⟩;have HJ2:Hid (JIn lo w2 jb J2 P):=hj2;obtain⟨ao3,cap3,hc3⟩:=HHC.out w2 hj2;obtain⟨hjl3,hjf3,_⟩:=hj2.at;clear hj2))
         go_roundg m
         case measure=>omega
         case rel=>exact⟨J2,v,1,turn+1,rfl,rfl,by go_num,HQ2,HJ2,HK2,hsv.trans hs2,by omega,by omega⟩
       ·rw[if_neg hv,if_neg hv] at HQ2
        by_cases ht:turn+1 ≥ hs.length
        ·rw[if_pos ht] at HQ2
         go_wp2_with (first|(go_at_call 229;refine HLP.out.mono ?_;rintro e w2 ⟨rfl,hj2,hs2⟩;have HJ2:Hid (JIn lo w2 jb J2 P):=hj2;obtain⟨ao3,cap3,hc3⟩:=HHC.out w2 hj2;obtain⟨hjl3,hjf3,_⟩:=hj2.at;clear hj2))
         go_roundg m
         case measure=>omega
         case rel=>exact⟨J2,at',same+1,0,rfl,by go_num,rfl,HQ2,HJ2,HK2,hsv.trans hs2,by omega,by omega⟩
        ·rw[if_neg ht] at HQ2
         go_wp2_with (first|(go_at_call 229;refine HLP.out.mono ?_;rintro e w2 ⟨rfl,hj2,hs2⟩;have HJ2:Hid (JIn lo w2 jb J2 P):=hj2;obtain⟨ao3,cap3,hc3⟩:=HHC.out w2 hj2;obtain⟨hjl3,hjf3,_⟩:=hj2.at;clear hj2))
         go_roundg m
         case measure=>omega
         case rel=>exact⟨J2,at',same+1,turn+1,rfl,by go_num,by go_num,HQ2,HJ2,HK2,hsv.trans hs2,by omega,by omega⟩
     ·rw[if_neg hsl] at q
      simp only[uab,uak] at q
      obtain⟨e1,e2⟩:=q
      have HE:Hid (J'=Jk/\r=some at'):=⟨e1.symm,e2.symm⟩
      clear e1 e2
      go_wp2
      go_ret2
      exact⟨by rw[HE.out.2];rfl,by rw[HE.out.1];exact HJK.out,hsv⟩
end Go.Proofs.YteampbddflhngaaGreat
