import Derived.Test.YteampbddflhngaaGreatS13

namespace Go.Proofs.YteampbddflhngaaGreat
set_option maxRecDepth 100000
set_option maxHeartbeats 2000000
open Go.RowKit
variable {lo:Nat}
theorem five{α:Type}{l:List α}(h:l.length=5):∃ a b c d e,l=[a,b,c,d,e]:=by
 match l,h with
 |[a,b,c,d,e],_=>exact⟨a,b,c,d,e,rfl⟩
abbrev V4:=Value × Value × Value × Value
def zny(t:V4):List Value:=[t.1,t.2.1,t.2.2.1,t.2.2.2]
def zck(ys:List V4):List Value:=ys.flatMap zny
theorem zk9(ys:List V4):(zck ys).length=ys.length * 4:=by
 induction ys with
 |nil=>rfl
 |cons a l ih=>simp[zck,zny] at ih ⊢;omega
theorem zk8:∀(ys:List V4) (k:Nat) (hk:k < ys.length),(zck ys)[k * 4]?=some ys[k].1/\(zck ys)[k * 4+1]?=some ys[k].2.1/\(zck ys)[k * 4+2]?=some ys[k].2.2.1/\(zck ys)[k * 4+3]?=some ys[k].2.2.2
 |[],k,hk=>by simp at hk
 |y::r,0,_=>by simp[zck,zny]
 |y::r,k+1,hk=>by
  have:=zk8 r k (by simpa using hk)
  simp only[zck,List.flatMap_cons,zny] at this ⊢
  rw[show(k+1) * 4=k * 4+1+1+1+1 from by omega,show k * 4+1+1+1+1+2=k * 4+2+1+1+1+1 from by omega,show k * 4+1+1+1+1+3=k * 4+3+1+1+1+1 from by omega]
  simpa using this
def zm7(s:zek)(t:Nat × List Nat):V4:=(.pointer (some ⟨t.1,0,none⟩),.int .i64 (s.nodes.getD 0 0:Nat),.int .i64 (s.nodes.getD 1 0:Nat),.int .i64 (s.nodes.getD 2 0:Nat))
def zy4(b:z9t)(t:Value × Nat × List Nat):V4:=(.int .i64 (b.lit.pred:Nat),t.1,.int .i64 (b.known:Nat),.pointer (some ⟨t.2.1,0,none⟩))
def zcm(hs:List (Nat × Nat)):List Value:=hs.flatMap fun h=>[.int .i64 (h.1:Nat),.int .i64 (h.2:Nat)]
structure zbx where
 tv:Value
 sv:Value
 bv:Value
 hvs:List Value
 tbs:List (Nat × List Nat)
 bps:List (Value × Nat × List Nat)
def zcc(J:zav)(P:zbx):List Value :=
 [.int .i64 (J.head.pred:Nat),P.tv,.int .i64 (J.vars:Nat),P.sv,P.bv]++P.hvs++J.backs.map (Value.int .i64)++[.int .i64 J.last]++J.values.map ivN++J.from.map ivN++[.int .i64 J.depth,.int .i64 J.moves]
structure JIn (lo:Nat) (w:World) (jb:Nat) (J:zav) (P:zbx):Prop where
 low:lo<=jb
 box:Box w jb (zcc J P).toArray 310
 head:zar lo w P.tv J.head.terms
 sides:w.ownsRow lo 323 4 P.sv J.sides.length (zck (List.zipWith zm7 J.sides P.tbs))
 slen:P.tbs.length=J.sides.length
 tries:∀ k (_:k < J.sides.length) (_:k < P.tbs.length),zat lo w P.tbs[k].1 J.sides[k].rows P.tbs[k].2
 nodes:∀ s∈J.sides,s.nodes.length=3
 bars:w.ownsRow lo 325 4 P.bv J.bars.length (zck (List.zipWith zy4 J.bars P.bps))
 blen:P.bps.length=J.bars.length
 btries:∀ k (_:k < J.bars.length) (_:k < P.bps.length),zar lo w P.bps[k].1 J.bars[k].lit.terms/\zat lo w P.bps[k].2.1 J.bars[k].rows P.bps[k].2.2
 hlen:P.hvs.length=5/\J.holds.length=5
 holds:∀ p (_:p < J.holds.length) (_:p < P.hvs.length),w.ownsRow lo 327 2 P.hvs[p] J.holds[p].length (zcm J.holds[p])/\J.holds[p].length<=1000/\∀ h∈J.holds[p],h.1<=1000000/\h.2<=1000000
 fives:J.backs.length=5/\J.values.length=5/\J.from.length=5
 few:J.sides.length<=1000/\J.bars.length<=1000/\J.vars<=1000000
theorem zat.notin{w:World}{tb:Nat}{T:zad}{fp:List Nat}(h:zat lo w tb T fp){b:Nat}{c:Array Value}{t:TypeId}(hb:Box w b c t)(h1:t≠229)(h2:t≠273)(h3:t≠3):b∉fp:=by
 obtain⟨nv,ns,ht,rfl⟩:=h
 intro hm
 simp only[fpT,List.mem_cons,List.mem_append] at hm
 rcases hm with hm|hm|hm
 ·subst hm
  have q:=ht.box
  unfold Box at q hb
  rw[hb] at q
  simp at q
  exact h1 q.2
 ·exact zbs ht.nodes hb (Ne.symm h2) (zcx hm) rfl
 ·obtain⟨i,hi,e|e⟩:=zr1 hm
  ·exact zbs (ht.leap i (by rw[← ht.len];exact hi) hi) hb (Ne.symm h3) (b:=b) (by rw[e];rfl) rfl
  ·exact zbs (ht.down i (by rw[← ht.len];exact hi) hi) hb (Ne.symm h3) (b:=b) (by rw[e];rfl) rfl
theorem zar.save{w w':World}{v:Value}{ts:List zbo}{N:List Nat}(h:zar lo w v ts)(hs:zas N w w')(hn:∀ b,v.ownBlock=some b->b∉N):zar lo w' v ts:=⟨zbm h.own hs hn,h.len,h.num⟩
theorem JIn.below{w w':World}{jb:Nat}{J:zav}{P:zbx}(h:JIn lo w jb J P)(hb:Below w.heap.size w w'):JIn lo w' jb J P :=
 ⟨h.low,h.box.below hb,h.head.below hb,zaa h.sides hb,h.slen,fun k a b=>(h.tries k a b).below hb,h.nodes,zaa h.bars hb,h.blen,fun k a b=>⟨(h.btries k a b).1.below hb,(h.btries k a b).2.below hb⟩,h.hlen,fun p a b=>⟨zaa (h.holds p a b).1 hb,(h.holds p a b).2⟩,h.fives,h.few⟩
theorem JIn.rebox{w w':World}{jb:Nat}{J J':zav}{P:zbx}(h:JIn lo w jb J P)(hs:zas [jb] w w')(hbx:Box w' jb (zcc J' P).toArray 310)(e1:J'.head=J.head)(e2:J'.sides=J.sides)(e3:J'.bars=J.bars)(e4:J'.holds=J.holds)(e5:J'.vars=J.vars)(hf:J'.backs.length=5/\J'.values.length=5/\J'.from.length=5):JIn lo w' jb J' P:=by
 have nt:∀ {b1:Nat} {e:TypeId} {s1:Nat} {v:Value} {n1:Nat} {xs:List Value},w.ownsRow b1 e s1 v n1 xs->e≠310->∀ b,v.ownBlock=some b->b∉[jb]:=fun ho hT b hvb hm=>zbs ho h.box hT hvb (by simpa using hm)
 have nn:∀ {tb:Nat} {T:zad} {fp:List Nat},zat lo w tb T fp->zat lo w' tb T fp:=fun ht=>ht.save hs (fun b hb hm=>by simp at hm;subst hm;exact ht.notin h.box (by decide) (by decide) (by decide) hb)
 refine⟨h.low,hbx,by rw[e1];exact h.head.save hs (nt h.head.own (by decide)),by rw[e2];exact zbm h.sides hs (nt h.sides (by decide)),by rw[e2];exact h.slen,fun k a b=>?_,by rw[e2];exact h.nodes,by rw[e3];exact zbm h.bars hs (nt h.bars (by decide)),by rw[e3];exact h.blen,fun k a b=>?_,by rw[e4];exact h.hlen,fun p a b=>?_,hf,by rw[e2,e3,e5];exact h.few⟩
 ·have a':k < J.sides.length:=by rw[← e2];exact a
  simp only[e2]
  exact nn (h.tries k a' b)
 ·have a':k < J.bars.length:=by rw[← e3];exact a
  simp only[e3]
  exact⟨(h.btries k a' b).1.save hs (nt (h.btries k a' b).1.own (by decide)),nn (h.btries k a' b).2⟩
 ·have a':p < J.holds.length:=by rw[← e4];exact a
  simp only[e4]
  exact⟨zbm (h.holds p a' b).1 hs (nt (h.holds p a' b).1 (by decide)),(h.holds p a' b).2⟩
theorem JIn.at{w:World}{jb:Nat}{J:zav}{P:zbx}(h:JIn lo w jb J P):jb < w.heap.size/\(∀ o,w.frozen? ⟨jb,o,none⟩=false)/\w.cell? ⟨jb,0,none⟩=some (.int .i64 (J.head.pred:Nat))/\w.cell? ⟨jb,1,none⟩=some P.tv/\w.cell? ⟨jb,2,none⟩=some (.int .i64 (J.vars:Nat))/\w.cell? ⟨jb,3,none⟩=some P.sv/\w.cell? ⟨jb,4,none⟩=some P.bv/\w.cell? ⟨jb,15,none⟩=some (.int .i64 J.last)/\w.cell? ⟨jb,26,none⟩=some (.int .i64 J.depth)/\w.cell? ⟨jb,27,none⟩=some (.int .i64 J.moves):=by
 obtain⟨hc,hf⟩:=h.box.rules
 obtain⟨f1,f2,f3⟩:=h.fives
 obtain⟨a1,a2,a3,a4,a5,e1⟩:=five h.hlen.1
 obtain⟨b1,b2,b3,b4,b5,e2⟩:=five f1
 obtain⟨c1,c2,c3,c4,c5,e3⟩:=five f2
 obtain⟨d1,d2,d3,d4,d5,e4⟩:=five f3
 refine⟨h.box.lt,hf,?_,?_,?_,?_,?_,?_,?_,?_⟩ <;> rw[hc] <;> simp[zcc,e1,e2,e3,e4]
theorem JIn.setMoves{w:World}{jb:Nat}{J:zav}{P:zbx}(h:JIn lo w jb J P)(m:Int):JIn lo (w.setCell ⟨jb,27,none⟩ (.int .i64 m)) jb { J with moves:=m } P:=by
 obtain⟨f1,f2,f3⟩:=h.fives
 refine h.rebox (zas.set _ _ _ _) ?_ rfl rfl rfl rfl rfl h.fives
 obtain⟨a1,a2,a3,a4,a5,e1⟩:=five h.hlen.1
 obtain⟨b1,b2,b3,b4,b5,e2⟩:=five f1
 obtain⟨c1,c2,c3,c4,c5,e3⟩:=five f2
 obtain⟨d1,d2,d3,d4,d5,e4⟩:=five f3
 have hq:=h.box.set 27 (.int .i64 m)
 simpa [zcc,e1,e2,e3,e4] using hq
theorem zq7(w:World)(jb:Nat)(J:zav)(P:zbx)(s l:Nat)(h:JIn lo w jb J P) :
  Calls Tryz.prog 231 #[.pointer (some ⟨jb,0,none⟩),.agg #[.int .i64 s,.int .i64 l]] w fun e w'=>e=.returned (.bool (zcq J (s,l)))/\Below w.heap.size w w':=by
 obtain⟨hjl,hjf,_,_,_,hc3,_⟩:=h.at
 obtain⟨ao,cap,hsv⟩:=zac h.sides
 rw[hsv] at hc3
 have HE:Hid (zcq J (s,l)=(decide (s < J.sides.length) && decide (l < 3))):=rfl
 clear h hsv
 generalize J.sides.length=n at *
 by_cases h1:s < n
 ·by_cases h2:l < 3
  ·have hd1:(s:Int) < (n:Int):=by omega
   have hd2:(l:Int) < 3:=by omega
   go_enter Tryz.func231,Tryz.ntmps231
   go_wp2
   go_quiet (fail)
   go_wp2
   go_ret
   exact⟨by rw[HE.out];simp[h1,h2],zau (by go_grown) _⟩
  ·have hd1:(s:Int) < (n:Int):=by omega
   have hd2:decide ((l:Int) < 3)=false:=decide_eq_false (by omega)
   go_enter Tryz.func231,Tryz.ntmps231
   go_wp2
   go_quiet (fail)
   go_wp2
   go_ret
   exact⟨by rw[HE.out];simp[h1,h2],zau (by go_grown) _⟩
 ·have hd1:decide ((s:Int) < (n:Int))=false:=decide_eq_false (by omega)
  go_enter Tryz.func231,Tryz.ntmps231
  go_wp2
  go_quiet (fail)
  go_wp2
  go_ret
  exact⟨by rw[HE.out];simp[h1],zau (by go_grown) _⟩
set_option maxHeartbeats 4000000
theorem JIn.side{w:World}{jb:Nat}{J:zav}{P:zbx}(h:JIn lo w jb J P)(s l:Nat)(hs:s < J.sides.length)(hl:l < 3) :
  ∃ sb cap tb fp,P.sv=.slice (some ⟨sb,0,none⟩) J.sides.length cap/\sb < w.heap.size/\sb≠jb/\w.cell? ⟨sb,s * 4,none⟩=some (.pointer (some ⟨tb,0,none⟩))/\w.cell? ⟨sb,s * 4+1+l,none⟩=some (.int .i64 ((J.sides[s].nodes.getD l 0:Nat):Int))/\zat lo w tb J.sides[s].rows fp/\(∀ o,w.frozen? ⟨sb,o,none⟩=false):=by
 obtain⟨sb,cap,hv,_,hsb,hc⟩:=zal h.sides (by omega)
 have hk2:s < P.tbs.length:=by rw[h.slen];exact hs
 obtain⟨c0,c1,c2,c3⟩:=zk8 (List.zipWith zm7 J.sides P.tbs) s (by simp;omega)
 simp only[List.getElem_zipWith,zm7] at c0 c1 c2 c3
 have hso:=h.sides
 rw[hv] at hso
 refine⟨sb,cap,P.tbs[s].1,P.tbs[s].2,hv,hsb,zbs h.sides h.box (by decide) (by rw[hv];rfl),hc _ _ c0,?_,h.tries s hs hk2,zbu hso⟩
 obtain rfl|rfl|rfl:l=0∨l=1∨l=2:=by omega
 ·exact hc _ _ c1
 ·exact hc _ _ c2
 ·exact hc _ _ c3
theorem z2w(w:World)(jb:Nat)(J:zav)(P:zbx)(s l f:Nat)(h:JIn lo w jb J P) :
  Calls Tryz.prog 229 #[.pointer (some ⟨jb,0,none⟩),.agg #[.int .i64 s,.int .i64 l],.int .i64 f] w fun e w'=>e=.returned (zpd (zhk J (s,l) f).2)/\JIn lo w' jb (zhk J (s,l) f).1 P/\zas [jb] w w':=by
 have HST:Hid (∀ W,Below w.heap.size w W->Calls Tryz.prog 231 #[.pointer (some ⟨jb,0,none⟩),.agg #[.int .i64 s,.int .i64 l]] W fun e w'=>e=.returned (.bool (zcq J (s,l)))/\Below W.heap.size W w'):=fun W hW=>zq7 W jb J P s l (h.below hW)
 have HJ:Hid (JIn lo w jb J P):=h
 cases hst:zcq J (s,l) with
 |false =>
  have HE:Hid (zhk J (s,l) f=(J,none)):=by simp[Hid,zhk,hst]
  rw[hst] at HST
  clear hst h
  go_enter Tryz.func229,Tryz.ntmps229
  go_wp2_with (first|(go_at_call 231;refine(HST.out _ (by exact(by go_grown))).mono ?_;rintro e w1 ⟨rfl,hb1⟩;have hB1:Below w.heap.size w w1:=zae (by go_grown) hb1 (Nat.le_refl _)))
  go_ret2
  exact⟨by rw[HE.out];rfl,by rw[HE.out];exact HJ.out.below hB1,zas.of hB1⟩
 |true =>
  have hsl:s < J.sides.length/\l < 3:=by simpa [zcq] using hst
  obtain⟨hs,hl⟩:=hsl
  have HE:Hid (zhk J (s,l) f=({ J with moves:=IntKind.i64.wrap (J.moves+1) },zcn J.sides[s].rows (J.sides[s].nodes.getD l 0) f)):=by simp[Hid,zhk,hst,List.getD_eq_getElem?_getD,hs]
  rw[hst] at HST
  obtain⟨sb,cap,tb,fp,hsv,hsb,hne,_,_,_,_⟩:=h.side s l hs hl
  obtain⟨hjl,_⟩:=h.at
  have hsI:(s:Int) < (J.sides.length:Int):=by omega
  have hlI:(l:Int) < 3:=by omega
  clear hst h
  go_enter Tryz.func229,Tryz.ntmps229
  go_wp2_with (first|(go_at_call 231;refine(HST.out _ (by exact(by go_grown))).mono ?_;rintro e w1 ⟨rfl,hb1⟩;have hB1:Below w.heap.size w w1:=zae (by go_grown) hb1 (Nat.le_refl _);have hj1:=HJ.out.below hB1;obtain⟨hjl1,hjf1,_,_,_,hc3,_,_,_,hc27⟩:=hj1.at;have hbx:=(Box.new w #[.int .i64 s,.int .i64 l] 327).below hb1;obtain⟨hhc,hhf⟩:=hbx.rules;have hhl:=hbx.lt;have HJ1:Hid (JIn lo w1 jb J P):=hj1;clear hj1))
  have hwr:IntKind.i64.wrap (J.moves+1)=wrap64 (J.moves+1):=by rw[IntKind.wrap_i64];unfold wrap64;rfl
  rw[hwr] at HE
  clear hwr
  have HJ2:Hid (JIn lo (w1.setCell ⟨jb,27,none⟩ (.int .i64 (wrap64 (J.moves+1)))) jb { J with moves:=wrap64 (J.moves+1) } P):=HJ1.out.setMoves _
  have hnb:w.heap.size≠jb:=by omega
  have hbx2:=hbx.set_ne hnb 27 (.int .i64 (wrap64 (J.moves+1)))
  have hS2:zas [jb] w (w1.setCell ⟨jb,27,none⟩ (.int .i64 (wrap64 (J.moves+1)))):=(zas.of hB1).trans (zas.set _ _ _ _)
  clear hhc hhf hhl hjl1 hjf1 hc3 hc27 hbx HJ1 HJ HST hb1 hB1 hsv hsb hne
  generalize w1.setCell ⟨jb,27,none⟩ (.int .i64 (wrap64 (J.moves+1)))=w2 at *
  have hj2:=HJ2.out
  obtain⟨hjl2,hjf2,_,_,_,hd3,_⟩:=hj2.at
  obtain⟨sb2,cap2,tb2,fp2,hsv2,hsb2,_,hp0,hp1,htr,_⟩:=hj2.side s l hs hl
  rw[hsv2] at hd3
  obtain⟨hhc,hhf⟩:=hbx2.rules
  have hhl:=hbx2.lt
  simp only at hd3 hp1 htr
  have HLP:Hid (∀ n,Calls Tryz.prog 167 #[.pointer (some ⟨tb2,0,none⟩),.int .i64 ((J.sides[s].nodes.getD l 0:Nat):Int),.int .i64 f] (w2.drewN n) fun e w'=>e=.returned (.tuple #[.int .i64 (((zcn J.sides[s].rows (J.sides[s].nodes.getD l 0) f).getD 0:Nat):Int),.bool (zcn J.sides[s].rows (J.sides[s].nodes.getD l 0) f).isSome])/\w'=w2.drewN n):=fun n=>zlh _ tb2 _ fp2 _ f (htr.below (zau (Below.refl _ _) n))
  clear htr hj2
  generalize J.sides[s].nodes.getD l 0=nd at *
  generalize J.sides[s].rows=TT at *
  generalize J.sides.length=sn at *
  go_quiet ((go_at_call 167;exact Calls.quiet_of_same (HLP.out _)))
  go_wp2
  go_ret2
  exact⟨by rw[HE.out];rfl,by rw[HE.out];exact HJ2.out.below (zau (Below.refl _ _) _),hS2.newer (zas.of (M:=[]) (zau (Below.refl _ _) _)) (by simp)⟩
theorem zi0:∀(hs:List (Nat × Nat)) (k:Nat) (hk:k < hs.length),(zcm hs)[k * 2]?=some (.int .i64 (hs[k].1:Nat))/\(zcm hs)[k * 2+1]?=some (.int .i64 (hs[k].2:Nat))
 |[],k,hk=>by simp at hk
 |p::r,0,_=>by simp[zcm]
 |p::r,k+1,hk=>by
  have:=zi0 r k (by simpa using hk)
  simp only[zcm,List.flatMap_cons] at this ⊢
  rw[show(k+1) * 2=k * 2+1+1 from by omega,show k * 2+1+1+1=k * 2+1+1+1 from rfl]
  simpa using this
theorem JIn.hold{w:World}{jb:Nat}{J:zav}{P:zbx}(h:JIn lo w jb J P)(p:Nat)(hp:p < 5):∃ ao cap,w.cell? ⟨jb,5+p,none⟩=some (.slice ao (J.holds.getD p []).length cap)/\(J.holds.getD p []).length<=1000/\∀ k (hk:k < (J.holds.getD p []).length),∃ hb,ao=some ⟨hb,0,none⟩/\hb < w.heap.size/\hb≠jb/\w.cell? ⟨hb,k * 2,none⟩=some (.int .i64 ((J.holds.getD p [])[k].1:Nat))/\w.cell? ⟨hb,k * 2+1,none⟩=some (.int .i64 ((J.holds.getD p [])[k].2:Nat)):=by
 have h1:p < J.holds.length:=by rw[h.hlen.2];exact hp
 have h2:p < P.hvs.length:=by rw[h.hlen.1];exact hp
 have e:J.holds.getD p []=J.holds[p]:=by simp[List.getD_eq_getElem?_getD,h1]
 rw[e]
 obtain⟨ho,hl,_⟩:=h.holds p h1 h2
 obtain⟨ao,cap,hv⟩:=zac ho
 obtain⟨hc,_⟩:=h.box.rules
 obtain⟨f1,f2,f3⟩:=h.fives
 refine⟨ao,cap,?_,hl,fun k hk=>?_⟩
 ·rw[← hv,hc]
  obtain⟨a1,a2,a3,a4,a5,e1⟩:=five h.hlen.1
  simp only[e1] at h2 ⊢
  obtain rfl|rfl|rfl|rfl|rfl:p=0∨p=1∨p=2∨p=3∨p=4:=by omega
  all_goals simp[zcc,e1]
 ·obtain⟨hb,cap',hv2,_,hbl,hcl⟩:=zal ho (by omega)
  have hv3:=hv.symm.trans hv2
  simp only[Value.slice.injEq] at hv3
  obtain⟨c0,c1⟩:=zi0 J.holds[p] k hk
  exact⟨hb,hv3.1,hbl,zbs ho h.box (by decide) (by rw[hv2];rfl),hcl _ _ c0,hcl _ _ c1⟩
theorem zwc(J:zav)(h:Nat × Nat)(f:Nat):(zhk J h f).1.holds=J.holds:=by unfold zhk;split <;> rfl
theorem z1d(w:World)(jb:Nat)(J:zav)(P:zbx)(p f n:Nat)(J':zav)(r:Option Nat)(h:JIn lo w jb J P)(hr:zmo n J p f=some (J',r)) :
  Calls Tryz.prog 227 #[.pointer (some ⟨jb,0,none⟩),.int .i64 p,.int .i64 f] w fun e w'=>e=.returned (zpd r)/\JIn lo w' jb J' P/\zas [jb] w w':=by
 have HJ:Hid (JIn lo w jb J P):=h
 unfold zmo at hr
 by_cases h5:p ≥ 5
 ·rw[if_pos (Or.inl h5)] at hr
  simp only[Option.some.injEq,Prod.mk.injEq] at hr
  obtain⟨rfl,rfl⟩:=hr
  clear h
  go_enter Tryz.func227,Tryz.ntmps227
  go_wp2
  go_ret2
  exact⟨rfl,HJ.out,zas.refl _ _⟩
 ·obtain⟨ao,cap,hcH,hlen,hcx⟩:=h.hold p (by omega)
  clear hcx
  obtain⟨hjl,hjf,_⟩:=h.at
  by_cases h0:(J.holds.getD p []).length=0
  ·rw[if_pos (Or.inr h0)] at hr
   simp only[Option.some.injEq,Prod.mk.injEq] at hr
   obtain⟨rfl,rfl⟩:=hr
   clear h
   generalize (J.holds.getD p []).length=hn at *
   subst h0
   go_enter Tryz.func227,Tryz.ntmps227
   go_wp2
   go_ret2
   exact⟨rfl,HJ.out,zas.refl _ _⟩
  ·rw[if_neg (by omega)] at hr
   have HR:Hid (zif n J (J.holds.getD p []) f 0 0=some (J',r)):=hr
   clear hr h
   have hpos:(J.holds.getD p []).length > 0:=by omega
   obtain⟨hs,hhs⟩:∃ hs,hs=J.holds.getD p []:=⟨_,rfl⟩
   rw[← hhs] at HR hcH hlen hpos
   have HHS:Hid (hs=J.holds.getD p []):=hhs
   clear hhs
   have hz0:((hs.length:Int) == 0)=false:=beq_eq_false_iff_ne.2 (by omega)
   go_enter Tryz.func227,Tryz.ntmps227
   go_wp2
   go_loopg [8,9,10] n (fun k v8 v9 v10 wr=>∃(Jk:zav) (at' same turn:Nat),v8=.int .i64 at'/\v9=.int .i64 same/\v10=.int .i64 turn/\Hid (zif k Jk hs at' same turn=some (J',r))/\Hid (JIn lo wr jb Jk P)/\Hid (Jk.holds=J.holds)/\zas [jb] w wr/\same<=hs.length/\turn < hs.length)
   case atStart=>exact⟨J,f,0,0,rfl,rfl,rfl,HR,HJ,rfl,zas.refl _ _,by omega,hpos⟩
   case round =>
    clear hcH
    obtain⟨Jk,at',same,turn,rfl,rfl,rfl,HQ,HJK,HHK,hsv,hsm,htn⟩:=hrel
    have hjk:=HJK.out
    obtain⟨hjl2,hjf2,_⟩:=hjk.at
    obtain⟨ao2,cap2,hcH,_,hcell⟩:=hjk.hold p (by omega)
    rw[HHK.out,← HHS.out] at hcH hcell
    obtain⟨hb,hao,hhb,hne,hx0,hx1⟩:=hcell turn htn
    subst hao
    clear hcell hjk
    cases gk with
    |zero=>have q:=HQ.out;simp[zif] at q
    |succ m =>
     have q:=HQ.out
     unfold zif at q
     by_cases hsl:same < hs.length
     ·rw[if_pos hsl] at q
      have eg:hs.getD turn (0,0)=hs[turn]:=by simp[List.getD_eq_getElem?_getD,htn]
      rw[eg] at q
      have HLP:Hid (Calls Tryz.prog 229 #[.pointer (some ⟨jb,0,none⟩),.agg #[.int .i64 (hs[turn].1:Nat),.int .i64 (hs[turn].2:Nat)],.int .i64 at'] wr fun e w'=>e=.returned (.tuple #[.int .i64 (((zhk Jk hs[turn] at').2.getD 0:Nat):Int),.bool (zhk Jk hs[turn] at').2.isSome])/\JIn lo w' jb (zhk Jk hs[turn] at').1 P/\zas [jb] wr w'):=z2w wr jb Jk P hs[turn].1 hs[turn].2 at' HJK.out
      have hkp:=zwc Jk hs[turn] at'
      generalize hlj:zhk Jk hs[turn] at'=lj at *
      clear hlj
      obtain⟨J2,r2⟩:=lj
      generalize hs[turn]=hd at *
      simp only at q HLP hkp
      cases r2 with
      |none =>
       simp only[Option.some.injEq,Prod.mk.injEq] at q
       obtain⟨e1,e2⟩:=q
       simp only[Option.getD_none,Option.isSome_none] at HLP
       have HE:Hid (J'=J2/\r=none):=⟨e1.symm,e2.symm⟩
       clear e1 e2
       go_wp2_with (first|(go_at_call 229;refine HLP.out.mono ?_;rintro e w2 ⟨rfl,hj2,hs2⟩;have HJ2:Hid (JIn lo w2 jb J2 P):=hj2;clear hj2))
       go_ret2
       exact⟨by rw[HE.out.2];rfl,by rw[HE.out.1];exact HJ2.out,hsv.trans hs2⟩
      |some v =>
       simp only[Option.getD_some,Option.isSome_some] at HLP
       have HQ2:Hid (zif m J2 hs (if v > at' then v else at') ((if v > at' then 0 else same)+1) (if turn+1 ≥ hs.length then 0 else turn+1)=some (J',r)):=q
       have HK2:Hid (J2.holds=J.holds):=hkp.trans HHK.out
       have HHC:Hid (∀ W,JIn lo W jb J2 P->∃ ao3 cap3,W.cell? ⟨jb,5+p,none⟩=some (.slice ao3 hs.length cap3)):=fun W hW=>by
        obtain⟨ao3,cap3,q1,_⟩:=hW.hold p (by omega)
        rw[HK2.out,← HHS.out] at q1
        exact⟨ao3,cap3,q1⟩
       clear q hkp
       by_cases hv:v > at'
       ·rw[if_pos hv,if_pos hv] at HQ2
        by_cases ht:turn+1 ≥ hs.length
        ·rw[if_pos ht] at HQ2
         go_wp2_with (first|(go_at_call 229;refine HLP.out.mono ?_;rintro e w2 ⟨rfl,hj2,hs2⟩;have HJ2:Hid (JIn lo w2 jb J2 P):=hj2;obtain⟨ao3,cap3,hc3⟩:=HHC.out w2 hj2;obtain⟨hjl3,hjf3,_⟩:=hj2.at;clear hj2))
         go_roundg m
         case measure=>omega
         case rel=>exact⟨J2,v,1,0,rfl,rfl,rfl,HQ2,HJ2,HK2,hsv.trans hs2,by omega,by omega⟩
        ·rw[if_neg ht] at HQ2
         go_wp2_with (first|(go_at_call 229;refine HLP.out.mono ?_;rintro e w2 ⟨rfl,hj2,hs2⟩;have HJ2:Hid (JIn lo w2 jb J2 P):=hj2;obtain⟨ao3,cap3,hc3⟩:=HHC.out w2 hj2;obtain⟨hjl3,hjf3,_⟩:=hj2.at;clear hj2))
         go_roundg m
         case measure=>omega
         case rel=>exact⟨J2,v,1,turn+1,rfl,rfl,by go_num,HQ2,HJ2,HK2,hsv.trans hs2,by omega,by omega⟩
       ·rw[if_neg hv,if_neg hv] at HQ2
        by_cases ht:turn+1 ≥ hs.length
        ·rw[if_pos ht] at HQ2
         go_wp2_with (first|(go_at_call 229;refine HLP.out.mono ?_;rintro e w2 ⟨rfl,hj2,hs2⟩;have HJ2:Hid (JIn lo w2 jb J2 P):=hj2;obtain⟨ao3,cap3,hc3⟩:=HHC.out w2 hj2;obtain⟨hjl3,hjf3,_⟩:=hj2.at;clear hj2))
         go_roundg m
         case measure=>omega
         case rel=>exact⟨J2,at',same+1,0,rfl,by go_num,rfl,HQ2,HJ2,HK2,hsv.trans hs2,by omega,by omega⟩
        ·rw[if_neg ht] at HQ2
         go_wp2_with (first|(go_at_call 229;refine HLP.out.mono ?_;rintro e w2 ⟨rfl,hj2,hs2⟩;have HJ2:Hid (JIn lo w2 jb J2 P):=hj2;obtain⟨ao3,cap3,hc3⟩:=HHC.out w2 hj2;obtain⟨hjl3,hjf3,_⟩:=hj2.at;clear hj2))
         go_roundg m
         case measure=>omega
         case rel=>exact⟨J2,at',same+1,turn+1,rfl,by go_num,by go_num,HQ2,HJ2,HK2,hsv.trans hs2,by omega,by omega⟩
     ·rw[if_neg hsl] at q
      simp only[Option.some.injEq,Prod.mk.injEq] at q
      obtain⟨e1,e2⟩:=q
      have HE:Hid (J'=Jk/\r=some at'):=⟨e1.symm,e2.symm⟩
      clear e1 e2
      go_wp2
      go_ret2
      exact⟨by rw[HE.out.2];rfl,by rw[HE.out.1];exact HJK.out,hsv⟩
theorem zp9:∀(ys:List V4) (k:Nat) (_:k < ys.length) (u:Value),(zck ys).set (k * 4+2) u=zck (ys.modify k fun y=>(y.1,y.2.1,u,y.2.2.2))
 |[],k,hk,_=>by simp at hk
 |y::r,0,_,u=>by simp[zck,zny]
 |y::r,k+1,hk,u=>by
  have:=zp9 r k (by simpa using hk) u
  simp only[zck,List.flatMap_cons,zny,List.modify_succ_cons] at this ⊢
  rw[show(k+1) * 4+2=k * 4+2+1+1+1+1 from by omega]
  simpa using this
theorem zqa:∀(ys:List V4) (k:Nat) (_:k < ys.length) (u:Value),(zck ys).set (k * 4+3) u=zck (ys.modify k fun y=>(y.1,y.2.1,y.2.2.1,u))
 |[],k,hk,_=>by simp at hk
 |y::r,0,_,u=>by simp[zck,zny]
 |y::r,k+1,hk,u=>by
  have:=zqa r k (by simpa using hk) u
  simp only[zck,List.flatMap_cons,zny,List.modify_succ_cons] at this ⊢
  rw[show(k+1) * 4+3=k * 4+3+1+1+1+1 from by omega]
  simpa using this
theorem JIn.setNode{w:World}{jb:Nat}{J:zav}{P:zbx}(h:JIn lo w jb J P)(s i n:Nat)(hs:s < J.sides.length)(hi:i=1∨i=2){sb cap:Nat}(hv:P.sv=.slice (some ⟨sb,0,none⟩) J.sides.length cap) :
  JIn lo (w.setCell ⟨sb,s * 4+1+i,none⟩ (.int .i64 (n:Nat))) jb { J with sides:=J.sides.set s { J.sides[s] with nodes:=J.sides[s].nodes.set i n } } P:=by
 have hst:=zas.set w sb (s * 4+1+i) (.int .i64 (n:Nat))
 have hso:=h.sides
 rw[hv] at hso
 have hk2:s < P.tbs.length:=by rw[h.slen];exact hs
 have hn3:=h.nodes _ (List.getElem_mem hs)
 have nt:∀ {b1:Nat} {e:TypeId} {s1:Nat} {v:Value} {n1:Nat} {xs:List Value},w.ownsRow b1 e s1 v n1 xs->e≠323->∀ b,v.ownBlock=some b->b∉[sb]:=fun ho hT b hvb hm=>zjh ho hso hT hvb (by simp at hm;rw[hm];rfl)
 obtain⟨cur,hbs⟩:=zul hso
 have nn:∀ {tb:Nat} {T:zad} {fp:List Nat},zat lo w tb T fp->zat lo (w.setCell ⟨sb,s * 4+1+i,none⟩ (.int .i64 (n:Nat))) tb T fp:=fun ht=>ht.save hst (fun b hb hm=>by simp at hm;subst hm;exact ht.notin (show Box w _ cur 323 from hbs) (by decide) (by decide) (by decide) hb)
 refine⟨h.low,h.box.save hst (by have:=zbs hso h.box (by decide) rfl;simpa using Ne.symm this),h.head.save hst (nt h.head.own (by decide)),?_,by simpa using h.slen,fun k a b=>?_,fun x hx=>?_,zbm h.bars hst (nt h.bars (by decide)),h.blen,fun k a b=>⟨(h.btries k a b).1.save hst (nt (h.btries k a b).1.own (by decide)),nn (h.btries k a b).2⟩,h.hlen,fun p a b=>⟨zbm (h.holds p a b).1 hst (nt (h.holds p a b).1 (by decide)),(h.holds p a b).2⟩,h.fives,by simpa using h.few⟩
 ·have hlen:(zck (List.zipWith zm7 J.sides P.tbs)).length=J.sides.length * 4:=by rw[zk9];simp[h.slen]
  have q:=zb5 hso (s * 4+1+i) (by omega) (.int .i64 (n:Nat))
  rw[hv]
  have e:(zck (List.zipWith zm7 J.sides P.tbs)).set (s * 4+1+i) (.int .i64 (n:Nat))=zck (List.zipWith zm7 (J.sides.set s { J.sides[s] with nodes:=J.sides[s].nodes.set i n }) P.tbs):=by
   have hz:s < (List.zipWith zm7 J.sides P.tbs).length:=by simp;omega
   rcases hi with rfl|rfl
   ·rw[show s * 4+1+1=s * 4+2 from by omega,zp9 _ s hz]
    congr 1
    apply List.ext_getElem
    ·simp
    ·intro j h1 h2
     simp only[List.getElem_modify,List.getElem_zipWith,List.getElem_set]
     by_cases e:s=j
     ·subst e
      simp[zm7,List.getD_eq_getElem?_getD,hn3]
     ·simp[e]
   ·rw[show s * 4+1+2=s * 4+3 from by omega,zqa _ s hz]
    congr 1
    apply List.ext_getElem
    ·simp
    ·intro j h1 h2
     simp only[List.getElem_modify,List.getElem_zipWith,List.getElem_set]
     by_cases e:s=j
     ·subst e
      simp[zm7,List.getD_eq_getElem?_getD,hn3]
     ·simp[e]
  rw[e] at q
  simpa using q
 ·simp only[List.length_set] at a
  simp only[List.getElem_set]
  split
  ·rename_i e
   subst e
   exact nn (h.tries s hs b)
  ·exact nn (h.tries k a b)
 ·rcases List.mem_or_eq_of_mem_set hx with q|q
  ·exact h.nodes x q
  ·subst q;simp[hn3]
theorem zts(w:World)(jb:Nat)(J:zav)(P:zbx)(s l v:Nat)(h:JIn lo w jb J P)(hlb:l<=1000000) :
  Calls Tryz.prog 230 #[.pointer (some ⟨jb,0,none⟩),.agg #[.int .i64 s,.int .i64 l],.int .i64 v] w fun e w'=>e=.returned (.tuple #[])/\JIn lo w' jb (zel v J (s,l)) P/\zas P.sv.ownBlock.toList w w':=by
 have HST:Hid (∀ W,Below w.heap.size w W->Calls Tryz.prog 231 #[.pointer (some ⟨jb,0,none⟩),.agg #[.int .i64 s,.int .i64 l]] W fun e w'=>e=.returned (.bool (zcq J (s,l)))/\Below W.heap.size W w'):=fun W hW=>zq7 W jb J P s l (h.below hW)
 have HJ:Hid (JIn lo w jb J P):=h
 cases hst:zcq J (s,l) with
 |false =>
  have HE:Hid (zel v J (s,l)=J):=by simp[Hid,zel,hst]
  rw[hst] at HST
  clear hst h
  go_enter Tryz.func230,Tryz.ntmps230
  go_wp2_with (first|(go_at_call 231;refine(HST.out _ (by exact(by go_grown))).mono ?_;rintro e w1 ⟨rfl,hb1⟩;have hB1:Below w.heap.size w w1:=zae (by go_grown) hb1 (Nat.le_refl _)))
  (try simp only[Exit.inBlock,Exit.then]);refine bodyPost_ret (results_none rfl _ _ _) rfl ?_
  exact⟨rfl,by rw[HE.out];exact HJ.out.below hB1,zas.of hB1⟩
 |true =>
  have hsl:s < J.sides.length/\l < 3:=by simpa [zcq] using hst
  obtain⟨hs,hl⟩:=hsl
  by_cases hl2:l+1 ≥ 3
  ·have HE:Hid (zel v J (s,l)=J):=by simp[Hid,zel,hl2]
   rw[hst] at HST
   clear hst h
   go_enter Tryz.func230,Tryz.ntmps230
   go_wp2_with (first|(go_at_call 231;refine(HST.out _ (by exact(by go_grown))).mono ?_;rintro e w1 ⟨rfl,hb1⟩;have hB1:Below w.heap.size w w1:=zae (by go_grown) hb1 (Nat.le_refl _);have hbx:=(Box.new w #[.int .i64 s,.int .i64 l] 327).below hb1;obtain⟨hhc,hhf⟩:=hbx.rules;have hhl:=hbx.lt))
   (try simp only[Exit.inBlock,Exit.then]);refine bodyPost_ret (results_none rfl _ _ _) rfl ?_
   exact⟨rfl,by rw[HE.out];exact HJ.out.below hB1,zas.of hB1⟩
  ·have HE:Hid (zel v J (s,l)={ J with sides:=J.sides.set s { J.sides[s] with nodes:=J.sides[s].nodes.set (l+1) ((zax J.sides[s].rows (J.sides[s].nodes.getD l 0) v).getD 0) } }):=by simp[Hid,zel,hst,hl2,List.getD_eq_getElem?_getD,hs]
   rw[hst] at HST
   have hsI:(s:Int) < (J.sides.length:Int):=by omega
   have hlI:(l:Int) < 3:=by omega
   have hlI2:(l:Int)+1 < 3:=by omega
   obtain⟨hjl0,_⟩:=h.at
   clear hst h
   go_enter Tryz.func230,Tryz.ntmps230
   go_wp2_with (first|(go_at_call 231;refine(HST.out _ (by exact(by go_grown))).mono ?_;rintro e w1 ⟨rfl,hb1⟩;have hB1:Below w.heap.size w w1:=zae (by go_grown) hb1 (Nat.le_refl _);have hbx:=(Box.new w #[.int .i64 s,.int .i64 l] 327).below hb1;obtain⟨hhc,hhf⟩:=hbx.rules;have hhl:=hbx.lt))
   have HJ1:Hid (JIn lo w1 jb J P):=HJ.out.below hB1
   have hj1:=HJ1.out
   obtain⟨hjl2,hjf2,_,_,_,hd3,_⟩:=hj1.at
   obtain⟨sb,cap,tb,fp,hsv,hsb,hne,hp0,hp1,htr,hsf⟩:=hj1.side s l hs hl
   rw[hsv] at hd3
   have HLP:Hid (∀ n,Calls Tryz.prog 130 #[.pointer (some ⟨tb,0,none⟩),.int .i64 ((J.sides[s].nodes.getD l 0:Nat):Int),.int .i64 v] (w1.drewN n) fun e w'=>e=.returned (.tuple #[.int .i64 (((zax J.sides[s].rows (J.sides[s].nodes.getD l 0) v).getD 0:Nat):Int),.bool (zax J.sides[s].rows (J.sides[s].nodes.getD l 0) v).isSome])/\w'=w1.drewN n):=fun n=>zh4 _ tb _ fp _ v (htr.below (zau (Below.refl _ _) n))
   have HNX:Hid (∀ W n,Below w1.heap.size w1 W->JIn lo (W.setCell ⟨sb,s * 4+1+(l+1),none⟩ (.int .i64 ((n:Nat):Int))) jb { J with sides:=J.sides.set s { J.sides[s] with nodes:=J.sides[s].nodes.set (l+1) n } } P):=fun W n hW=>(HJ1.out.below hW).setNode s (l+1) n hs (by omega) hsv
   have HSB:Hid (P.sv.ownBlock.toList=[sb]):=by rw[Hid,hsv];rfl
   have hcell:∃ u,w1.cell? ⟨sb,s * 4+1+(l+1),none⟩=some u:=by
    obtain⟨sb',cap',tb',fp',hsv',_,_,_,q,_⟩:=HJ1.out.side s (l+1) hs (by omega)
    rw[hsv] at hsv'
    simp only[Value.slice.injEq,Option.some.injEq,Addr.mk.injEq] at hsv'
    obtain⟨⟨rfl,_⟩,_⟩:=hsv'
    exact⟨_,q⟩
   obtain⟨u,hcu⟩:=hcell
   clear htr hj1
   generalize (zax J.sides[s].rows (J.sides[s].nodes.getD l 0) v).getD 0=dn at *
   generalize (zax J.sides[s].rows (J.sides[s].nodes.getD l 0) v).isSome=ds at *
   generalize J.sides[s].nodes.getD l 0=nd at *
   go_quiet ((go_at_call 130;exact Calls.quiet_of_same (HLP.out _)))
   have hB2:Below w1.heap.size w1 (w1.drewN nq):=zau (Below.refl _ _) _
   clear hhc hhf hhl hjl2 hjf2 hsf HLP
   have hd3':=(hB2.cell (p:=⟨jb,3,none⟩) (HJ1.out.box.lt)).trans hd3
   have hcu':=(hB2.cell (p:=⟨sb,s * 4+1+(l+1),none⟩) hsb).trans hcu
   have hbx2:=hbx.below hB2
   have HN2:=HNX.out _ dn hB2
   have hsf2:∀ o,(w1.drewN nq).frozen? ⟨sb,o,none⟩=false:=by
    obtain⟨sb',cap',tb',fp',hsv',_,_,_,_,_,q⟩:=(HJ1.out.below hB2).side s l hs hl
    rw[hsv] at hsv'
    simp only[Value.slice.injEq,Option.some.injEq,Addr.mk.injEq] at hsv'
    obtain⟨⟨rfl,_⟩,_⟩:=hsv'
    exact q
   have hS2:zas [sb] w (w1.drewN nq):=zas.of (zae hB1 hB2 (Nat.le_refl _))
   have hsb2:sb < (w1.drewN nq).heap.size:=Nat.lt_of_lt_of_le hsb hB2.size
   have hjl2:jb < (w1.drewN nq).heap.size:=Nat.lt_of_lt_of_le HJ1.out.box.lt hB2.size
   have hnh:sb≠w.heap.size:=fun e=>by
    have hso:=HJ1.out.sides
    rw[hsv] at hso
    exact zbs hso hbx (by decide) rfl e
   generalize w1.drewN nq=w2 at *
   have HN3:Hid (JIn lo (w2.setCell ⟨sb,s * 4+1+(l+1),none⟩ (.int .i64 ((dn:Nat):Int))) jb { J with sides:=J.sides.set s { J.sides[s] with nodes:=J.sides[s].nodes.set (l+1) dn } } P):=HN2
   clear HN2 HNX hd3 hcu hp0 hp1 hbx HJ HST
   obtain⟨hhc,hhf⟩:=hbx2.rules
   have hhl:=hbx2.lt
   go_wp2
   go_region
   all_goals
    go_wp2
    go_end0
    exact⟨rfl,by rw[HE.out];exact HN3.out.below (Below.refl _ _).drew,by rw[HSB.out];exact(hS2.trans (zas.set _ _ _ _)).newer (zas.of (M:=[]) (Below.refl _ _).drew) (by simp)⟩
end Go.Proofs.YteampbddflhngaaGreat
