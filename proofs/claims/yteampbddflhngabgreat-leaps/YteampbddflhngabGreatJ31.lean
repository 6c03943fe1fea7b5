import Derived.Test.YteampbddflhngabGreatJ30
import Derived.Test.YteampbddflhngabGreatJ17
import Derived.Test.YteampbddflhngabGreatJ18

namespace Go.Proofs.YteampbddflhngabGreat
set_option maxRecDepth 100000
set_option maxHeartbeats 2000000
open Go.RowKit
variable {lo:Nat}
def zij(t:List zav)(ns:List ByteArray)(c:zac):zib:=⟨zcf t c.head.pred,zcp (zdh t ns [] [0,0,0,0,0] c.head) [0,0,0,0,0]⟩
def z6e(f:zib):Value:=.agg #[.int .i64 (f.pred:Nat),.int .i64 (f.row.getD 0 0:Nat),.int .i64 (f.row.getD 1 0:Nat),.int .i64 (f.row.getD 2 0:Nat)]
theorem z3s{lo2:Nat}(w:World)(mb tb o cb:Nat)(t:List zav)(ns:List ByteArray)(c:zac)(va vb:Value)(h:zia lo w mb tb o cb t ns)(hs:SIn lo2 w va c.head.args)(hb:LIn lo2 w vb c.body)(hal:c.head.args.length<=1000) :
  Calls Tryz.prog 73 #[.pointer (some ⟨mb,0,none⟩),.agg #[.bool c.head.neg,.string c.head.pred,va,vb]] w fun e w'=>e=.returned (z6e (zij t ns c))/\Below w.heap.size w w':=by
 obtain⟨ao,cap,rfl⟩:=hs.shape
 obtain⟨aob,capb,rfl⟩:=hb.shape
 have HL:Hid (∀ W sb,Below w.heap.size w W->zfm 0 W sb [] [0,0,0,0,0]->Calls Tryz.prog 101 #[.pointer (some ⟨mb,0,none⟩),.agg #[.bool c.head.neg,.string c.head.pred,.slice ao c.head.args.length cap],.pointer (some ⟨sb,0,none⟩)] W fun e w'=>∃ tv,e=.returned (.agg #[.int .i64 (zcf t c.head.pred:Nat),tv])/\zan W.heap.size w' tv (zdh t ns [] [0,0,0,0,0] c.head).terms/\Below W.heap.size W w'):=fun W sb hW hsc=>z08 W mb tb o cb sb t ns [] [0,0,0,0,0] c.head _ (h.below hW) hsc (by simp) (by simp) (hs.below hW) hal
 have HR:Hid (∀ W v (b0:Nat),zan b0 W v (zdh t ns [] [0,0,0,0,0] c.head).terms->Calls Tryz.prog 102 #[.agg #[.int .i64 (zcf t c.head.pred:Nat),v],z2j 0 0 0 0 0] W fun r w'=>r=.returned (.agg #[.int .i64 (((zij t ns c).row.getD 0 0:Nat):Int),.int .i64 (((zij t ns c).row.getD 1 0:Nat):Int),.int .i64 (((zij t ns c).row.getD 2 0:Nat):Int)])/\Below W.heap.size W w'):=fun W v b0 hT=>zvn W v (zcf t c.head.pred) _ 0 0 0 0 0 hT
 have HE:Hid (z6e (zij t ns c)=.agg #[.int .i64 (zcf t c.head.pred:Nat),.int .i64 ((zij t ns c).row.getD 0 0:Nat),.int .i64 ((zij t ns c).row.getD 1 0:Nat),.int .i64 ((zij t ns c).row.getD 2 0:Nat)]):=rfl
 clear h hs hb
 have hsc:=Box.new ((w.alloc (.cells #[.bool c.head.neg,.string c.head.pred,.slice ao c.head.args.length cap,.slice aob c.body.length capb] 90)).alloc (.cells #[.int .i64 0,.int .i64 0,.int .i64 0,.int .i64 0] 153)) #[.slice none 0 0,.int .i64 0,.int .i64 0,.int .i64 0,.int .i64 0,.int .i64 0] 187
 have hrf:=(Box.new (w.alloc (.cells #[.bool c.head.neg,.string c.head.pred,.slice ao c.head.args.length cap,.slice aob c.body.length capb] 90)) #[.int .i64 0,.int .i64 0,.int .i64 0,.int .i64 0] 153).below ((Below.refl _ _).alloc (Nat.le_refl _) (.cells #[.slice none 0 0,.int .i64 0,.int .i64 0,.int .i64 0,.int .i64 0,.int .i64 0] 187))
 simp only[World.size_alloc] at hsc hrf
 generalize (zij t ns c).row.getD 0 0=x at *
 generalize (zij t ns c).row.getD 1 0=y at *
 generalize (zij t ns c).row.getD 2 0=z at *
 generalize (zdh t ns [] [0,0,0,0,0] c.head).terms=ts at *
 generalize zcf t c.head.pred=fp at *
 go_enter Tryz.func73,Tryz.ntmps73
 go_upto_region 3 with (first|(go_at_call 101;refine(HL.out _ _ (by exact(by go_grown)) (by exact⟨_,0,0,0,0,0,rfl,hsc,SIn.nil _⟩)).mono ?_;rintro e w1 ⟨tv,rfl,hT,hb1⟩;obtain⟨ao4,cap4,rfl⟩:=hT.shape))
 have hB1:Below w.heap.size w w1:=zae (by go_grown) hb1 (Nat.le_refl _)
 have hr1:=hrf.below hb1
 clear hsc hrf HL
 have hne:w.heap.size+1 < w1.heap.size:=hr1.lt
 have hgr:Below w1.heap.size w1 (w1.alloc (.cells #[.int .i64 (fp:Nat),.slice ao4 ts.length cap4] 147)):=(by go_grown)
 have hl2:=Box.new w1 #[.int .i64 (fp:Nat),.slice ao4 ts.length cap4] 147
 have hr2:=hr1.below hgr
 have HT2:Hid (zan _ _ _ ts):=hT.below hgr
 have hB2:=zae hB1 hgr (Nat.le_refl _)
 clear hT hr1 hb1 hgr
 generalize w1.alloc (.cells #[.int .i64 (fp:Nat),.slice ao4 ts.length cap4] 147)=w2 at *
 generalize w1.heap.size=lb at *
 clear hB1 w1
 obtain⟨hl2c,hl2f⟩:=hl2.rules
 have hl2l:=hl2.lt
 have hz2:=hB2.size
 go_region_held3 (fun w'=>w'.cell? ⟨lb,0,none⟩=some (.int .i64 (fp:Nat))/\w'.cell? ⟨lb,1,none⟩=some (.slice ao4 ts.length cap4)) (first|go_keep|(go_simp;done)) (first|(go_at_call 102;refine(HR.out _ _ _ (by exact HT2.out.below (by go_grown))).mono ?_;rintro e w3 ⟨rfl,hb3⟩;have hB3:Below w2.heap.size w2 w3:=(zae (by go_grown) hb3 (Nat.le_refl _));have hl3:=hl2.below hB3;have hr3:=hr2.below hB3;obtain⟨hl3c,hl3f⟩:=hl3.rules;obtain⟨hr3c,hr3f⟩:=hr3.rules;have hr3l:=hr3.lt))
 all_goals
  go_wp2
  (try simp only[Exit.inBlock,Exit.then])
  exact bodyPost_ret (v:=.agg #[.int .i64 (fp:Nat),.int .i64 (x:Nat),.int .i64 (y:Nat),.int .i64 (z:Nat)]) (by simp[results,Tryz.results73,go_sem,hr3c]) rfl ⟨by rw[HE.out],((((zae hB2 hB3 (Nat.le_refl _)).setCell (by simp) _).setCell (by simp) _).setCell (by simp) _).setCell (by simp) _⟩
set_option maxHeartbeats 4000000
theorem Tryz.infoRLit:(Tryz.prog.info? 147).map (fun i=>(i.zero,i.size,i.bytes))=some (some (.agg #[.int .i64 0,.slice none 0 0]),2,32):=by kernel_rfl
def zn2(t:List zav)(ns:List ByteArray)(c:zac)(o:Option (List Int)):zaf :=
 { stratum:=zdx t c.head.pred,vars:=(zah c).length,head:=zdh t ns (zah c) (zb5 (o.getD [])) c.head,plain:=(c.body.filter fun l=>!l.neg).map (zdh t ns (zah c) (zb5 (o.getD []))),nots:=(c.body.filter fun l=>l.neg).map (zdh t ns (zah c) (zb5 (o.getD []))) }
theorem zom(ps:List (Nat × Value))(x:Nat × Value):zds (ps++[x])=zds ps++[.int .i64 (x.1:Nat),x.2]:=by simp[zds]
structure zgz (B:Nat) (w0 w:World) (rb rr sb st va hp:Nat) (htv plv nlv:Value) (ht:List zbh) (pls nls:List zai) (vs:List ByteArray) (pl:List Nat):Prop where
 box:Box w rb #[.int .i64 (st:Nat),.int .i64 (va:Nat),.int .i64 (hp:Nat),htv,plv,nlv] 150
 res:Box w rr #[.int .i64 0,.int .i64 0,.int .i64 0,.slice none 0 0,.slice none 0 0,.slice none 0 0] 150
 scope:zfm B w sb vs pl
 head:zan B w htv ht
 pln:zbi B w plv pls
 nln:zbi B w nlv nls
 apart:∀ b,plv.ownBlock=some b->nlv.ownBlock≠some b
 below:Below B w0 w
 low:B<=rb/\B<=rr/\rb≠rr
theorem zgz.next{B:Nat}{w0 w w':World}{rb rr sb st va hp:Nat}{htv plv nlv:Value}{ht:List zbh}{pls nls:List zai}{vs:List ByteArray}{pl:List Nat}(h:zgz B w0 w rb rr sb st va hp htv plv nlv ht pls nls vs pl)(hb:Below w.heap.size w w')(hB:B<=w0.heap.size):zgz B w0 w' rb rr sb st va hp htv plv nlv ht pls nls vs pl :=
 ⟨h.box.below hb,h.res.below hb,h.scope.below hb,h.head.below hb,h.pln.below hb,h.nln.below hb,h.apart,zae h.below hb hB,h.low⟩
theorem zfm.saveT{b0:Nat}{w w':World}{sb:Nat}{vs:List ByteArray}{pl:List Nat}{T:TypeId}{M:List Nat}(h:zfm b0 w sb vs pl)(hs:zao M w w')(hM:OfT w T M)(h1:187≠T)(h2:9≠T):zfm b0 w' sb vs pl:=by
 obtain⟨nv,p0,p1,p2,p3,p4,q1,q2,q3⟩:=h
 exact⟨nv,p0,p1,p2,p3,p4,q1,q2.saveT hs hM h1,zak q3 hs hM h2⟩
theorem zbi.push{b0:Nat}{w w':World}{v v':Value}{ls:List zai}{ps:List (Nat × Value)}{l:zai}{tv:Value}(h1:w.ownsRow b0 147 2 v ls.length (zds ps))(h2:ps.length=ls.length)(h4:∀ k (h1:k < ls.length) (h2:k < ps.length),ps[k].1=ls[k].pred/\zan b0 w ps[k].2 ls[k].terms/\ls[k].pred<=1000000)(hl:ls.length+1<=1000)(hT:zan b0 w tv l.terms)(hp:l.pred<=1000000)
  (ho:w'.ownsRow b0 147 2 v' (ls.length+1) (zds ps++[.int .i64 (l.pred:Nat),tv])) (hs:zao v.ownBlock.toList w w'):zbi b0 w' v' (ls++[l]):=by
 have hM:=OfT.own h1
 refine⟨ps++[(l.pred,tv)],by rw[zom,List.length_append];exact ho,by simp[h2],by simpa using hl,fun k a b=>?_⟩
 by_cases hk:k < ls.length
 ·have hk2:k < ps.length:=by omega
  rw[List.getElem_append_left hk,List.getElem_append_left hk2]
  exact⟨(h4 k hk hk2).1,(h4 k hk hk2).2.1.saveT hs hM (by decide),(h4 k hk hk2).2.2⟩
 ·obtain rfl:k=ls.length:=by simp at a;omega
  simp only[← h2,List.getElem_concat_length]
  exact⟨trivial,hT.saveT hs hM (by decide),hp⟩
theorem zgz.pushP{B:Nat}{w0 w w3:World}{rb rr sb st va hp:Nat}{htv plv nlv v':Value}{ht:List zbh}{pls nls pls':List zai}{vs:List ByteArray}{pl:List Nat}(h:zgz B w0 w rb rr sb st va hp htv plv nlv ht pls nls vs pl)(hs:zao plv.ownBlock.toList w w3)(hat:v'.ownBlock=plv.ownBlock∨∃ g,v'.ownBlock=some g/\w.heap.size<=g)(hn:zbi B w3 v' pls')(hB:B<=w.heap.size):zgz B w0 (w3.setCell ⟨rb,4,none⟩ v') rb rr sb st va hp htv v' nlv ht pls' nls vs pl:=by
 obtain⟨ps,h1,_⟩:=h.pln
 have hM:OfT w 147 plv.ownBlock.toList:=OfT.own h1
 have hb3:=h.box.saveT hs hM (by decide)
 have hM2:=OfT.box hb3
 have hs2:zao [rb] w3 (w3.setCell ⟨rb,4,none⟩ v'):=zao.set _ _ _ _
 have hq:=hb3.set 4 v'
 have hnl:=h.nln.saveT hs hM (by decide) fun b hb hm=>h.apart b (zc1 hm) hb
 refine⟨by simpa using hq,(h.res.saveT hs hM (by decide)).set_ne (Ne.symm h.low.2.2) _ _,(h.scope.saveT hs hM (by decide) (by decide)).saveT hs2 hM2 (by decide) (by decide),(h.head.saveT hs hM (by decide)).saveT hs2 hM2 (by decide),hn.saveTT hs2 hM2 (by decide) (by decide),hnl.saveTT hs2 hM2 (by decide) (by decide),fun b hb hb2=>?_,?_,h.low⟩
 ·obtain⟨ps2,h2,_⟩:=h.nln
  have hlt:=zdk h2 hb2
  rcases hat with e|⟨g,e,hg⟩
  ·rw[e] at hb;exact h.apart b hb hb2
  ·rw[e] at hb;simp only[Option.some.injEq] at hb;omega
 ·exact(h.below.trans (hs.below (fun x hx=>zej h1 (zc1 hx)) hB)).setCell h.low.1 _
theorem zgz.pushN{B:Nat}{w0 w w3:World}{rb rr sb st va hp:Nat}{htv plv nlv v':Value}{ht:List zbh}{pls nls nls':List zai}{vs:List ByteArray}{pl:List Nat}(h:zgz B w0 w rb rr sb st va hp htv plv nlv ht pls nls vs pl)(hs:zao nlv.ownBlock.toList w w3)(hat:v'.ownBlock=nlv.ownBlock∨∃ g,v'.ownBlock=some g/\w.heap.size<=g)(hn:zbi B w3 v' nls')(hB:B<=w.heap.size):zgz B w0 (w3.setCell ⟨rb,5,none⟩ v') rb rr sb st va hp htv plv v' ht pls nls' vs pl:=by
 obtain⟨ps,h1,_⟩:=h.nln
 have hM:OfT w 147 nlv.ownBlock.toList:=OfT.own h1
 have hb3:=h.box.saveT hs hM (by decide)
 have hM2:=OfT.box hb3
 have hs2:zao [rb] w3 (w3.setCell ⟨rb,5,none⟩ v'):=zao.set _ _ _ _
 have hq:=hb3.set 5 v'
 have hpl:=h.pln.saveT hs hM (by decide) fun b hb hm=>h.apart b hb (zc1 hm)
 refine⟨by simpa using hq,(h.res.saveT hs hM (by decide)).set_ne (Ne.symm h.low.2.2) _ _,(h.scope.saveT hs hM (by decide) (by decide)).saveT hs2 hM2 (by decide) (by decide),(h.head.saveT hs hM (by decide)).saveT hs2 hM2 (by decide),hpl.saveTT hs2 hM2 (by decide) (by decide),hn.saveTT hs2 hM2 (by decide) (by decide),fun b hb hb2=>?_,?_,h.low⟩
 ·obtain⟨ps2,h2,_⟩:=h.pln
  have hlt:=zdk h2 hb
  rcases hat with e|⟨g,e,hg⟩
  ·rw[e] at hb2;exact h.apart b hb hb2
  ·rw[e] at hb2;simp only[Option.some.injEq] at hb2;omega
 ·exact(h.below.trans (hs.below (fun x hx=>zej h1 (zc1 hx)) hB)).setCell h.low.1 _
theorem zf5{α:Type}(p:α->Bool)(l:List α)(k:Nat)(hk:k < l.length):(l.take (k+1)).filter p=(l.take k).filter p++(if p l[k] then [l[k]] else []):=by
 rw[List.take_succ_eq_append_getElem hk,List.filter_append]
 congr 1
 cases h:p l[k] <;> simp[h]
theorem zwh(t:List zav)(n:ByteArray):zcf t n<=t.length:=by
 unfold zcf;split
 ·exact zfd t n
 ·omega
theorem zyt(os:List Int)(h:os.length<=1000):∀ y∈zb5 os,y<=1000:=by
 have:∀(l:List (Int × Nat)) (pl:List Nat),(∀ x∈l,x.2<=1000)->(∀ y∈pl,y<=1000)->∀ y∈l.foldl zbd pl,y<=1000:=by
  intro l
  induction l with
  |nil=>intro pl _ h;exact h
  |cons x l ih =>
   intro pl h1 h2
   refine ih _ (fun y hy=>h1 y (List.mem_cons_of_mem _ hy)) fun y hy=>?_
   unfold zbd at hy
   split at hy
   ·rcases List.mem_or_eq_of_mem_set hy with q|q
    ·exact h2 y q
    ·subst q;exact h1 x (by simp)
   ·exact h2 y hy
 refine this _ _ (fun x hx=>?_) (by decide)
 have:=List.snd_lt_of_mem_zipIdx hx
 omega
def zwa(w:World)(r:zaf)(e:Ending)(w':World):Prop:=∃ tv pv nv,e=.returned (zk3 r tv pv nv)/\zdj w.heap.size w' tv pv nv r/\Below w.heap.size w w'
theorem z4v{lo2:Nat}(w:World)(mb tb o cb:Nat)(t:List zav)(ns:List ByteArray)(c:zac)(va vb ov:Value)(od:Option (List Int))(h:zia lo w mb tb o cb t ns)(hs:SIn lo2 w va c.head.args)(hb:LIn lo2 w vb c.body)(hl:c.head.args.length+zb9 c.body<=1000)(hl2:c.body.length<=900)(ho:zhh w ov od)(hol:(od.getD []).length<=1000)(hst:zdx t c.head.pred<=1000000) :
  Calls Tryz.prog 72 #[.pointer (some ⟨mb,0,none⟩),.agg #[.bool c.head.neg,.string c.head.pred,va,vb],ov] w fun e w'=>zwa w (zn2 t ns c od) e w':=by
 obtain⟨i0,hi,hz0,hzs,hzb⟩:=info_parts Tryz.infoRLit
 obtain⟨ao,cap,rfl⟩:=hs.shape
 obtain⟨aob,capb,rfl⟩:=hb.shape
 obtain⟨aoo,capo,rfl⟩:=ho.shape
 have HSC:Hid (∀ W,Below w.heap.size w W->Calls Tryz.prog 100 #[.agg #[.bool c.head.neg,.string c.head.pred,.slice ao c.head.args.length cap,.slice aob c.body.length capb],.slice aoo (od.getD []).length capo] W fun e w'=>zrk W (zah c) (zb5 (od.getD [])) e w'):=fun W hW=>zvp W c _ _ _ od (hs.below hW) (hb.below hW) hl (by omega) (ho.below hW) hol
 have hpl:=zi3 c.body []
 have hvl:(zah c).length<=1000:=by unfold zah;simp at hpl;omega
 clear hpl
 have HLT:Hid (∀ W sb (l:zbv) (va:Value) (b1 b2:Nat),Below w.heap.size w W->zfm b1 W sb (zah c) (zb5 (od.getD []))->SIn b2 W va l.args->l.args.length<=1000->Calls Tryz.prog 101 #[.pointer (some ⟨mb,0,none⟩),.agg #[.bool l.neg,.string l.pred,va],.pointer (some ⟨sb,0,none⟩)] W fun e w'=>∃ tv,e=.returned (.agg #[.int .i64 (zcf t l.pred:Nat),tv])/\zan W.heap.size w' tv (zdh t ns (zah c) (zb5 (od.getD [])) l).terms/\Below W.heap.size W w'):=fun W sb l va b1 b2 hW hsc hs' hal=>z08 W mb tb o cb sb t ns _ _ l _ (h.below hW) hsc hvl (zyt _ hol) hs' hal
 have HST:Hid (∀ W,Below w.heap.size w W->Calls Tryz.prog 56 #[.pointer (some ⟨tb,o,none⟩),.string c.head.pred] W fun e w'=>e=.returned (.tuple #[.int .i64 (zdx t c.head.pred:Nat),.bool (zbu t c.head.pred).isSome])/\w'=W):=fun W hW=>zsb lo W tb o t c.head.pred (h.2.1.below hW) h.2.2.2.1
 have HTL:Hid (t.length<=1000):=h.2.2.2.1
 have hmb:=h.1
 obtain⟨hmc,hmf⟩:=hmb.rules
 have hml:=hmb.lt
 have hm0:w.cell? ⟨mb,0,none⟩=some (.pointer (some ⟨tb,o,none⟩)):=by rw[hmc];rfl
 have HHS:Hid (SIn lo2 w (.slice ao c.head.args.length cap) c.head.args):=hs
 have HBD:Hid (LIn lo2 w (.slice aob c.body.length capb) c.body):=hb
 have HE:Hid (zn2 t ns c od={ stratum:=zdx t c.head.pred,vars:=(zah c).length,head:=zdh t ns (zah c) (zb5 (od.getD [])) c.head,plain:=(c.body.filter fun l=>!l.neg).map (zdh t ns (zah c) (zb5 (od.getD []))),nots:=(c.body.filter fun l=>l.neg).map (zdh t ns (zah c) (zb5 (od.getD []))) }):=rfl
 have H5:Hid ((zb5 (od.getD [])).length=5):=zj4 _
 clear h hs hb ho hmc
 generalize zah c=vs at *
 generalize zb5 (od.getD [])=pl at *
 generalize zdx t c.head.pred=st at *
 generalize (zbu t c.head.pred).isSome=stb at *
 obtain⟨p0,p1,p2,p3,p4,rfl⟩:=five H5.out
 have HSC2:Hid (∀ W,Below w.heap.size w W->Calls Tryz.prog 100 #[.agg #[.bool c.head.neg,.string c.head.pred,.slice ao c.head.args.length cap,.slice aob c.body.length capb],.slice aoo (od.getD []).length capo] W fun e w'=>∃ nv,e=.returned (.agg #[nv,.int .i64 (p0:Nat),.int .i64 (p1:Nat),.int .i64 (p2:Nat),.int .i64 (p3:Nat),.int .i64 (p4:Nat)])/\SIn W.heap.size w' nv vs/\Below W.heap.size W w'):=HSC
 clear HSC H5
 go_enter Tryz.func72,Tryz.ntmps72
 go_upto_region 2 with (first|(go_at_call 100;refine(HSC2.out _ (by exact(by go_grown))).mono ?_;rintro e w1 ⟨nv,rfl,hsn,hb1⟩;obtain⟨ao4,cap4,rfl⟩:=hsn.shape))
 have hB1:Below w.heap.size w w1:=zae (by go_grown) hb1 (Nat.le_refl _)
 have hcl1:=((Box.new w #[.bool c.head.neg,.string c.head.pred,.slice ao c.head.args.length cap,.slice aob c.body.length capb] 90).below ((Below.refl _ _).alloc (Nat.le_refl _) (.cells #[.int .i64 0,.int .i64 0,.int .i64 0,.slice none 0 0,.slice none 0 0,.slice none 0 0] 150))).below hb1
 have hrr1:=(Box.new (w.alloc (.cells #[.bool c.head.neg,.string c.head.pred,.slice ao c.head.args.length cap,.slice aob c.body.length capb] 90)) #[.int .i64 0,.int .i64 0,.int .i64 0,.slice none 0 0,.slice none 0 0,.slice none 0 0] 150).below hb1
 rw[World.size_alloc] at hrr1
 have hsn1:=hsn.low (show w.heap.size<=_ by simp;omega)
 have hgr:Below w1.heap.size w1 (w1.alloc (.cells #[.slice ao4 vs.length cap4,.int .i64 (p0:Nat),.int .i64 (p1:Nat),.int .i64 (p2:Nat),.int .i64 (p3:Nat),.int .i64 (p4:Nat)] 187)):=(by go_grown)
 have hsc2:=Box.new w1 #[.slice ao4 vs.length cap4,.int .i64 (p0:Nat),.int .i64 (p1:Nat),.int .i64 (p2:Nat),.int .i64 (p3:Nat),.int .i64 (p4:Nat)] 187
 have hcl2:=hcl1.below hgr
 have hrr2:=hrr1.below hgr
 have hsn2:=hsn1.below hgr
 have hB2:=zae hB1 hgr (Nat.le_refl _)
 have hlt1:=hrr1.lt
 clear hcl1 hrr1 hsn1 hsn hb1 hgr
 generalize w1.alloc (.cells #[.slice ao4 vs.length cap4,.int .i64 (p0:Nat),.int .i64 (p1:Nat),.int .i64 (p2:Nat),.int .i64 (p3:Nat),.int .i64 (p4:Nat)] 187)=w2 at *
 generalize w1.heap.size=sb at *
 clear hB1 w1
 obtain⟨hcc,hcf⟩:=hcl2.rules
 have hcll:=hcl2.lt
 have hmm:=(hB2.cell (p:=⟨mb,0,none⟩) hml).trans hm0
 have hz2:=hB2.size
 have hml2:mb < w2.heap.size:=by omega
 go_quiet ((go_at_call 56;exact Calls.quiet_of_same (HST.out _ (by exact(zax hB2 _)))))
 clear HSC2 HST hmm hcc hcf hcll hz2 hml2
 have hq:Below w2.heap.size w2 (w2.drewN nq):=zax (Below.refl _ _) nq
 have hcl3:=hcl2.below hq
 have hrr3:=hrr2.below hq
 have hsn3:=hsn2.below hq
 have hsc3:=hsc2.below hq
 have hB3:=zae hB2 hq (Nat.le_refl _)
 clear hq hcl2 hrr2 hsn2 hsc2 hB2
 generalize w2.drewN nq=w3 at *
 clear w2 nq
 have hz3:=hB3.size
 obtain⟨hscc,hscf⟩:=hsc3.rules
 have hscl:=hsc3.lt
 go_upto_region 4 with (first|(go_at_call 92;refine(zju _ _ _ vs (by rw[hscc];rfl) hsn3).mono ?_;rintro e w4 ⟨rfl,hww⟩;obtain rfl:=hww.symm))
 clear hscc hscf hscl
 have hgr:Below w3.heap.size w3 (w3.alloc (.cells #[.int .i64 (st:Nat),.int .i64 (vs.length:Nat),.int .i64 0,.slice none 0 0,.slice none 0 0,.slice none 0 0] 150)):=(by go_grown)
 have hrb4:=Box.new w3 #[.int .i64 (st:Nat),.int .i64 (vs.length:Nat),.int .i64 0,.slice none 0 0,.slice none 0 0,.slice none 0 0] 150
 have hcl4:=hcl3.below hgr
 have hrr4:=hrr3.below hgr
 have hsn4:=hsn3.below hgr
 have hsc4:=hsc3.below hgr
 have hB4:=zae hB3 hgr (Nat.le_refl _)
 have hlt3:=hsc3.lt
 clear hcl3 hrr3 hsn3 hsc3 hgr
 generalize w3.alloc (.cells #[.int .i64 (st:Nat),.int .i64 (vs.length:Nat),.int .i64 0,.slice none 0 0,.slice none 0 0,.slice none 0 0] 150)=w4 at *
 generalize w3.heap.size=rb at *
 clear hB3 w3
 have hz4:=hB4.size
 obtain⟨hcc,hcf⟩:=hcl4.rules
 have hcll:=hcl4.lt
 have HSC4:Hid (zfm w.heap.size w4 sb vs [p0,p1,p2,p3,p4]):=⟨_,p0,p1,p2,p3,p4,rfl,hsc4,hsn4⟩
 go_upto_region 5 with (first|(go_at_call 101;refine(HLT.out _ _ c.head _ _ _ (by exact hB4) (by exact HSC4.out) (by exact HHS.out.below hB4) (by omega)).mono ?_;rintro e w5 ⟨tv,rfl,hT5,hb5⟩;obtain⟨ao5,cap5,rfl⟩:=hT5.shape;have hrb5:=hrb4.below hb5;obtain⟨hrc5,hrf5⟩:=hrb5.rules;have hrl5:=hrb5.lt))
 have hT6:zan w.heap.size w5 _ _:=⟨zbb hT5.own hz4,hT5.len,hT5.num⟩
 have hne1:rb≠w.heap.size+1:=by omega
 have hM:zgz w.heap.size w ((w5.setCell ⟨rb,2,none⟩ (.int .i64 (zcf t c.head.pred:Nat))).setCell ⟨rb,3,none⟩ (.slice ao5 (zdh t ns vs [p0,p1,p2,p3,p4] c.head).terms.length cap5)) rb (w.heap.size+1) sb st vs.length (zcf t c.head.pred) (.slice ao5 (zdh t ns vs [p0,p1,p2,p3,p4] c.head).terms.length cap5) (.slice none 0 0) (.slice none 0 0) (zdh t ns vs [p0,p1,p2,p3,p4] c.head).terms [] [] vs [p0,p1,p2,p3,p4]:=by
  have hs1:zao [rb] w5 ((w5.setCell ⟨rb,2,none⟩ (.int .i64 (zcf t c.head.pred:Nat))).setCell ⟨rb,3,none⟩ (.slice ao5 (zdh t ns vs [p0,p1,p2,p3,p4] c.head).terms.length cap5)):=(zao.set _ _ _ _).trans (zao.set _ _ _ _)
  have hMb:=OfT.box hrb5
  have hq:=(hrb5.set 2 (.int .i64 (zcf t c.head.pred:Nat))).set 3 (.slice ao5 (zdh t ns vs [p0,p1,p2,p3,p4] c.head).terms.length cap5)
  refine⟨by simpa using hq,((hrr4.below hb5).set_ne (Ne.symm hne1) _ _).set_ne (Ne.symm hne1) _ _,(HSC4.out.below hb5).saveT hs1 hMb (by decide) (by decide),hT6.saveT hs1 hMb (by decide),⟨[],World.ownsRow_nil _ _ _ _,rfl,by simp,fun k a=>by simp at a⟩,⟨[],World.ownsRow_nil _ _ _ _,rfl,by simp,fun k a=>by simp at a⟩,fun b hb=>by simp[Value.ownBlock] at hb,((zae hB4 hb5 (Nat.le_refl _)).setCell (by simp;omega) _).setCell (by simp;omega) _,by omega,by omega,hne1⟩
 have hcl6:=((hcl4.below hb5).set_ne (show w.heap.size≠rb by omega) 2 (.int .i64 (zcf t c.head.pred:Nat))).set_ne (show w.heap.size≠rb by omega) 3 (.slice ao5 (zdh t ns vs [p0,p1,p2,p3,p4] c.head).terms.length cap5)
 generalize (w5.setCell ⟨rb,2,none⟩ (.int .i64 (zcf t c.head.pred:Nat))).setCell ⟨rb,3,none⟩ (.slice ao5 (zdh t ns vs [p0,p1,p2,p3,p4] c.head).terms.length cap5)=w6 at *
 clear hrb5 hrc5 hrf5 hrl5 hT5 hT6 hb5 w5 hcc hcf hcll HSC4 hz4 hB4 hcl4 hrr4 hsn4 hsc4 hrb4 w4
 generalize hhv:Value.slice ao5 (zdh t ns vs [p0,p1,p2,p3,p4] c.head).terms.length cap5=htv at *
 have HHV:Hid (Value.slice ao5 (zdh t ns vs [p0,p1,p2,p3,p4] c.head).terms.length cap5=htv):=hhv
 clear hhv
 obtain⟨hcc,hcf⟩:=hcl6.rules
 have hcll:=hcl6.lt
 go_wp2
 clear hcc hcf hcll hcl6
 have HM:Hid (zgz _ _ _ _ _ _ _ _ _ _ _ _ _ _ _ _ _):=hM
 clear hM
 go_loopw [40] (fun v40 wr=>∃(k:Nat) (plv nlv:Value),k<=c.body.length/\v40=.int .i64 k/\Hid (zgz w.heap.size w wr rb (w.heap.size+1) sb st vs.length (zcf t c.head.pred) htv plv nlv (zdh t ns vs [p0,p1,p2,p3,p4] c.head).terms (((c.body.take k).filter fun l=>!l.neg).map (zdh t ns vs [p0,p1,p2,p3,p4])) (((c.body.take k).filter fun l=>l.neg).map (zdh t ns vs [p0,p1,p2,p3,p4])) vs [p0,p1,p2,p3,p4])) (fun i _=>c.body.length - (intOf i).toNat)
 case atStart=>exact⟨0,_,_,Nat.zero_le _,rfl,HM⟩
 case round =>
  clear HM
  obtain⟨k,plv,nlv,hk,rfl,HM⟩:=hrel
  have hbk:=HM.out.below
  have hszk:=hbk.size
  by_cases hlt:k < c.body.length
  ·obtain⟨g,ao2,cap2,hao,hg,hd0,hd1,hd2,hsk⟩:=HBD.out.cell k hlt
   subst hao
   have hle:c.body[k].args.length<=1000:=by
    have:=zg5 c.body k hlt
    rw[List.getElem?_eq_getElem hlt] at this
    simp at this
    omega
   have hx0:=(hbk.cell (p:=⟨g,k * 3,none⟩) hg).trans hd0
   have hx1:=(hbk.cell (p:=⟨g,k * 3+1,none⟩) hg).trans hd1
   have hx2:=(hbk.cell (p:=⟨g,k * 3+2,none⟩) hg).trans hd2
   have hgr:g < wr.heap.size:=by omega
   have HP1:=zf5 (fun l:zbv=>!l.neg) c.body k hlt
   have HN1:=zf5 (fun l:zbv=>l.neg) c.body k hlt
   have HSK:Hid (SIn lo2 w _ _):=hsk
   have hfl:=zwh t c.body[k].pred
   have htl:=HTL.out
   clear hd0 hd1 hd2 hsk
   generalize c.body[k]=l at *
   have hpl1:(((c.body.take k).filter fun l=>!l.neg).map (zdh t ns vs [p0,p1,p2,p3,p4])).length<=k:=by
    have:=List.length_filter_le (fun l:zbv=>!l.neg) (c.body.take k)
    simp at this ⊢;omega
   have hnl1:(((c.body.take k).filter fun l=>l.neg).map (zdh t ns vs [p0,p1,p2,p3,p4])).length<=k:=by
    have:=List.length_filter_le (fun l:zbv=>l.neg) (c.body.take k)
    simp at this ⊢;omega
   cases hn:l.neg with
   |false =>
    rw[hn] at hx0
    simp only[hn,Bool.not_false,if_true,Bool.false_eq_true,if_false,List.append_nil] at HP1 HN1
    have HP2:Hid (((c.body.take (k+1)).filter fun l=>!l.neg).map (zdh t ns vs [p0,p1,p2,p3,p4])=((c.body.take k).filter fun l=>!l.neg).map (zdh t ns vs [p0,p1,p2,p3,p4])++[zdh t ns vs [p0,p1,p2,p3,p4] l]):=by rw[Hid,HP1,List.map_append];rfl
    have HN2:Hid (((c.body.take (k+1)).filter fun l=>l.neg).map (zdh t ns vs [p0,p1,p2,p3,p4])=((c.body.take k).filter fun l=>l.neg).map (zdh t ns vs [p0,p1,p2,p3,p4])):=by rw[Hid,HN1]
    clear HP1 HN1
    generalize ((c.body.take k).filter fun l=>!l.neg).map (zdh t ns vs [p0,p1,p2,p3,p4])=pls at *
    generalize ((c.body.take k).filter fun l=>l.neg).map (zdh t ns vs [p0,p1,p2,p3,p4])=nls at *
    have HLK:Hid (∀ W,Below wr.heap.size wr W->Calls Tryz.prog 101 #[.pointer (some ⟨mb,0,none⟩),.agg #[.bool false,.string l.pred,.slice ao2 l.args.length cap2],.pointer (some ⟨sb,0,none⟩)] W fun e w'=>∃ tv,e=.returned (.agg #[.int .i64 (zcf t l.pred:Nat),tv])/\zan W.heap.size w' tv (zdh t ns vs [p0,p1,p2,p3,p4] l).terms/\Below W.heap.size W w'):=fun W hW=>by
     have q:=HLT.out W sb l (.slice ao2 l.args.length cap2) w.heap.size lo2 (zae hbk hW (Nat.le_refl _)) (HM.out.scope.below hW) (HSK.out.below (zae hbk hW (Nat.le_refl _))) hle
     rw[hn] at q
     exact q
    generalize hts:(zdh t ns vs [p0,p1,p2,p3,p4] l).terms=ts at *
    have HTS:Hid ((zdh t ns vs [p0,p1,p2,p3,p4] l).terms=ts):=hts
    have HPR:Hid ((zdh t ns vs [p0,p1,p2,p3,p4] l).pred=zcf t l.pred):=rfl
    clear hts
    generalize zcf t l.pred=fn at *
    obtain⟨ps,hown,hpsl,_,hpsT⟩:=HM.out.pln
    obtain⟨aop,capp,hpv⟩:=zab hown
    subst hpv
    have HPT:Hid (∀ k (h1:k < pls.length) (h2:k < ps.length),ps[k].1=pls[k].pred/\zan w.heap.size wr ps[k].2 pls[k].terms/\pls[k].pred<=1000000):=hpsT
    clear hpsT
    have hpsz:pls.length<=900:=by omega
    have HPSL:Hid (ps.length=pls.length):=hpsl
    clear hpsl
    go_wp2_with (first|(go_at_call 101;refine(HLK.out _ (by exact(by go_grown))).mono ?_;rintro e w2 ⟨tv,rfl,hT2,hb2⟩;obtain⟨ao6,cap6,rfl⟩:=hT2.shape;have hB2:Below wr.heap.size wr w2:=(zae (by go_grown) hb2 (Nat.le_refl _));have hbb:=(Box.new wr #[.bool false,.string l.pred,.slice ao2 l.args.length cap2] 45).below hb2;obtain⟨hbbc,hbbf⟩:=hbb.rules;have hbbl:=hbb.lt;have hrb:=HM.out.box.below hB2;obtain⟨hrbc,hrbf⟩:=hrb.rules;have hrbl:=hrb.lt;have hz2:=hB2.size;have hown2:=zaa hown hB2)|(at_builtin;refine zca w2 _ [.int .i64 (fn:Nat),.slice ao6 ts.length cap6] _ rfl (.tmp 56) (.tmp 58) 148 rfl w.heap.size 147 i0 _ 2 32 Tryz.underlying148 hi hz0 hzs hzb rfl (by decide) (.slice aop pls.length capp) pls.length (zds ps) rfl hown2 (by exact(by go_grown)) _ _ rfl (by simp) rfl (by simp[Value.oneCell']) (by omega) (by omega) (by omega) ?_;intro v' w3 ho3 hS3 hat3;obtain⟨aov,capv,rfl⟩:=zab ho3;have hrb3:=hrb.saveT hS3 (OfT.own hown2) (by decide);obtain⟨hrb3c,hrb3f⟩:=hrb3.rules;have hrb3l:=hrb3.lt))
    have HMN:zgz _ _ _ _ _ _ _ _ _ _ _ _ _ _ _ _ _:=(HM.out.next hB2 (Nat.le_refl _)).pushP hS3 hat3 (zbi.push (l:=zdh t ns vs [p0,p1,p2,p3,p4] l) hown2 HPSL.out (fun k a b=>⟨(HPT.out k a b).1,(HPT.out k a b).2.1.below hB2,(HPT.out k a b).2.2⟩) (by omega) (by rw[HTS.out];exact⟨zbb hT2.own (by simp;omega),hT2.len,hT2.num⟩) (by rw[HPR.out];omega) (by rw[HPR.out];exact ho3) hS3) (by omega)
    go_roundw
    case rel=>exact⟨k+1,_,_,by omega,by go_num,by rw[HP2.out,HN2.out];exact HMN⟩
    case measure=>simp[intOf];omega
   |true =>
    rw[hn] at hx0
    simp only[hn,Bool.not_true,if_true,Bool.false_eq_true,if_false,List.append_nil] at HP1 HN1
    have HP2:Hid (((c.body.take (k+1)).filter fun l=>!l.neg).map (zdh t ns vs [p0,p1,p2,p3,p4])=((c.body.take k).filter fun l=>!l.neg).map (zdh t ns vs [p0,p1,p2,p3,p4]) ):=by rw[Hid,HP1]
    have HN2:Hid (((c.body.take (k+1)).filter fun l=>l.neg).map (zdh t ns vs [p0,p1,p2,p3,p4])=((c.body.take k).filter fun l=>l.neg).map (zdh t ns vs [p0,p1,p2,p3,p4])++[zdh t ns vs [p0,p1,p2,p3,p4] l]):=by rw[Hid,HN1,List.map_append];rfl
    clear HP1 HN1
    generalize ((c.body.take k).filter fun l=>!l.neg).map (zdh t ns vs [p0,p1,p2,p3,p4])=pls at *
    generalize ((c.body.take k).filter fun l=>l.neg).map (zdh t ns vs [p0,p1,p2,p3,p4])=nls at *
    have HLK:Hid (∀ W,Below wr.heap.size wr W->Calls Tryz.prog 101 #[.pointer (some ⟨mb,0,none⟩),.agg #[.bool true,.string l.pred,.slice ao2 l.args.length cap2],.pointer (some ⟨sb,0,none⟩)] W fun e w'=>∃ tv,e=.returned (.agg #[.int .i64 (zcf t l.pred:Nat),tv])/\zan W.heap.size w' tv (zdh t ns vs [p0,p1,p2,p3,p4] l).terms/\Below W.heap.size W w'):=fun W hW=>by
     have q:=HLT.out W sb l (.slice ao2 l.args.length cap2) w.heap.size lo2 (zae hbk hW (Nat.le_refl _)) (HM.out.scope.below hW) (HSK.out.below (zae hbk hW (Nat.le_refl _))) hle
     rw[hn] at q
     exact q
    generalize hts:(zdh t ns vs [p0,p1,p2,p3,p4] l).terms=ts at *
    have HTS:Hid ((zdh t ns vs [p0,p1,p2,p3,p4] l).terms=ts):=hts
    have HPR:Hid ((zdh t ns vs [p0,p1,p2,p3,p4] l).pred=zcf t l.pred):=rfl
    clear hts
    generalize zcf t l.pred=fn at *
    obtain⟨ps,hown,hpsl,_,hpsT⟩:=HM.out.nln
    obtain⟨aop,capp,hpv⟩:=zab hown
    subst hpv
    have HPT:Hid (∀ k (h1:k < nls.length) (h2:k < ps.length),ps[k].1=nls[k].pred/\zan w.heap.size wr ps[k].2 nls[k].terms/\nls[k].pred<=1000000):=hpsT
    clear hpsT
    have hpsz:nls.length<=900:=by omega
    have HPSL:Hid (ps.length=nls.length):=hpsl
    clear hpsl
    go_wp2_with (first|(go_at_call 101;refine(HLK.out _ (by exact(by go_grown))).mono ?_;rintro e w2 ⟨tv,rfl,hT2,hb2⟩;obtain⟨ao6,cap6,rfl⟩:=hT2.shape;have hB2:Below wr.heap.size wr w2:=(zae (by go_grown) hb2 (Nat.le_refl _));have hbb:=(Box.new wr #[.bool true,.string l.pred,.slice ao2 l.args.length cap2] 45).below hb2;obtain⟨hbbc,hbbf⟩:=hbb.rules;have hbbl:=hbb.lt;have hrb:=HM.out.box.below hB2;obtain⟨hrbc,hrbf⟩:=hrb.rules;have hrbl:=hrb.lt;have hz2:=hB2.size;have hown2:=zaa hown hB2)|(at_builtin;refine zca w2 _ [.int .i64 (fn:Nat),.slice ao6 ts.length cap6] _ rfl (.tmp 50) (.tmp 52) 148 rfl w.heap.size 147 i0 _ 2 32 Tryz.underlying148 hi hz0 hzs hzb rfl (by decide) (.slice aop nls.length capp) nls.length (zds ps) rfl hown2 (by exact(by go_grown)) _ _ rfl (by simp) rfl (by simp[Value.oneCell']) (by omega) (by omega) (by omega) ?_;intro v' w3 ho3 hS3 hat3;obtain⟨aov,capv,rfl⟩:=zab ho3;have hrb3:=hrb.saveT hS3 (OfT.own hown2) (by decide);obtain⟨hrb3c,hrb3f⟩:=hrb3.rules;have hrb3l:=hrb3.lt))
    have HMN:zgz _ _ _ _ _ _ _ _ _ _ _ _ _ _ _ _ _:=(HM.out.next hB2 (Nat.le_refl _)).pushN hS3 hat3 (zbi.push (l:=zdh t ns vs [p0,p1,p2,p3,p4] l) hown2 HPSL.out (fun k a b=>⟨(HPT.out k a b).1,(HPT.out k a b).2.1.below hB2,(HPT.out k a b).2.2⟩) (by omega) (by rw[HTS.out];exact⟨zbb hT2.own (by simp;omega),hT2.len,hT2.num⟩) (by rw[HPR.out];omega) (by rw[HPR.out];exact ho3) hS3) (by omega)
    go_roundw
    case rel=>exact⟨k+1,_,_,by omega,by go_num,by rw[HN2.out,HP2.out];exact HMN⟩
    case measure=>simp[intOf];omega
  ·have hke:k=c.body.length:=by omega
   have HP3:Hid (c.body.take k=c.body):=by rw[Hid,hke,List.take_length]
   rw[HP3.out] at HM
   have hrb:=HM.out.box
   have hrr:=HM.out.res
   obtain⟨hrbc,hrbf⟩:=hrb.rules
   have hrbl:=hrb.lt
   obtain⟨hrrc,hrrf⟩:=hrr.rules
   have hrrl:=hrr.lt
   have hhv:=HHV.out
   subst hhv
   obtain⟨aop,capp,hpv⟩:=zab HM.out.pln.choose_spec.1
   obtain⟨aon,capn,hnv⟩:=zab HM.out.nln.choose_spec.1
   subst hpv
   subst hnv
   clear hke
   generalize (c.body.filter fun l=>!l.neg).map (zdh t ns vs [p0,p1,p2,p3,p4])=pls at *
   generalize (c.body.filter fun l=>l.neg).map (zdh t ns vs [p0,p1,p2,p3,p4])=nls at *
   go_wp2
   (try simp only[Exit.inBlock,Exit.then])
   refine bodyPost_ret (v:=.agg #[.int .i64 (st:Nat),.int .i64 (vs.length:Nat),.int .i64 (zcf t c.head.pred:Nat),.slice ao5 (zdh t ns vs [p0,p1,p2,p3,p4] c.head).terms.length cap5,.slice aop pls.length capp,.slice aon nls.length capn]) (by simp[results,Tryz.results72,go_sem,hrrc]) rfl ⟨_,_,_,by rw[HE.out];rfl,?_,?_⟩
   ·have hs6:zao [w.heap.size+1] wr ((((((wr.setCell ⟨w.heap.size+1,0,none⟩ (.int .i64 (st:Nat))).setCell ⟨w.heap.size+1,1,none⟩ (.int .i64 (vs.length:Nat))).setCell ⟨w.heap.size+1,2,none⟩ (.int .i64 (zcf t c.head.pred:Nat))).setCell ⟨w.heap.size+1,3,none⟩ (.slice ao5 (zdh t ns vs [p0,p1,p2,p3,p4] c.head).terms.length cap5)).setCell ⟨w.heap.size+1,4,none⟩ (.slice aop pls.length capp)).setCell ⟨w.heap.size+1,5,none⟩ (.slice aon nls.length capn)):=(((((zao.set _ _ _ _).trans (zao.set _ _ _ _)).trans (zao.set _ _ _ _)).trans (zao.set _ _ _ _)).trans (zao.set _ _ _ _)).trans (zao.set _ _ _ _)
    have hMr:=OfT.box hrr
    have hfl:=zwh t c.head.pred
    have htl:=HTL.out
    rw[HE.out]
    exact⟨HM.out.head.saveT hs6 hMr (by decide),HM.out.pln.saveTT hs6 hMr (by decide) (by decide),HM.out.nln.saveTT hs6 hMr (by decide) (by decide),hst,by simp only;omega,by show zcf t c.head.pred<=1000000;omega⟩
   ·exact(((((hbk.setCell (by simp) _).setCell (by simp) _).setCell (by simp) _).setCell (by simp) _).setCell (by simp) _).setCell (by simp) _
end Go.Proofs.YteampbddflhngabGreat
