import Derived.Test.YteampbddflhngaaGreatW28
import Derived.Test.YteampbddflhngaaGreatW16

namespace Go.Proofs.YteampbddflhngaaGreat
set_option maxRecDepth 100000
set_option maxHeartbeats 4000000
open Go.RowKit
variable {lo:Nat}
variable {w0 w:World}{rb rr sb st va hp:Nat}{htv plv nlv v':Value}{ht:List zbn}{pls nls:List zak}{vs:List ByteArray}{pl:List Nat}
theorem Tryz.infoRLit:(Tryz.prog.info? 204).map (fun i=>(i.zero,i.size,i.bytes))=some (some (.agg #[.int .i64 0,.slice none 0 0]),2,32):=by kernel_rfl
def zln(t:List zar)(ns:List ByteArray)(c:zab)(o:Option (List Int)):zah :=
 { qi:=zdv t c.head.pred,vars:=(zaf c).length,head:=zdf t ns (zaf c) (za6 (o.getD [])) c.head,qc:=(c.body.filter fun l=>!l.neg).map (zdf t ns (zaf c) (za6 (o.getD []))),qm:=(c.body.filter fun l=>l.neg).map (zdf t ns (zaf c) (za6 (o.getD []))) }
theorem zpk(ps:List (Nat × Value))(x:Nat × Value):zd1 (ps++[x])=zd1 ps++[.int .i64 (x.1:Nat),x.2]:=by simp[zd1]
structure zg7 (B:Nat) (w0 w:World) (rb rr sb st va hp:Nat) (htv plv nlv:Value) (ht:List zbn) (pls nls:List zak) (vs:List ByteArray) (pl:List Nat):Prop where
 box:Box w rb #[.int .i64 (st:Nat),.int .i64 (va:Nat),.int .i64 (hp:Nat),htv,plv,nlv] 207
 res:Box w rr #[.int .i64 0,.int .i64 0,.int .i64 0,.slice none 0 0,.slice none 0 0,.slice none 0 0] 207
 scope:zfs B w sb vs pl
 head:zaq B w htv ht
 pln:zbo B w plv pls
 nln:zbo B w nlv nls
 apart:∀ b,plv.ownBlock=some b->nlv.ownBlock≠some b
 below:Below B w0 w
 low:B<=rb/\B<=rr/\rb≠rr
theorem zg7.next{B:Nat}{w':World}(h:zg7 B w0 w rb rr sb st va hp htv plv nlv ht pls nls vs pl)(hb:Below w.heap.size w w')(hB:B<=w0.heap.size):zg7 B w0 w' rb rr sb st va hp htv plv nlv ht pls nls vs pl :=
 ⟨h.box.below hb,h.res.below hb,h.scope.below hb,h.head.below hb,h.pln.below hb,h.nln.below hb,h.apart,zae h.below hb hB,h.low⟩
theorem zfs.saveT{b0:Nat}{w w':World}{sb:Nat}{vs:List ByteArray}{pl:List Nat}{T:TypeId}{M:List Nat}(h:zfs b0 w sb vs pl)(hs:zas M w w')(hM:OfT w T M)(h1:257≠T)(h2:9≠T):zfs b0 w' sb vs pl:=by
 obtain⟨nv,p0,p1,p2,p3,p4,q1,q2,q3⟩:=h
 exact⟨nv,p0,p1,p2,p3,p4,q1,q2.saveT hs hM h1,zaj q3 hs hM h2⟩
theorem zbo.push{b0:Nat}{w':World}{v:Value}{ls:List zak}{ps:List (Nat × Value)}{l:zak}{tv:Value}(h1:w.ownsRow b0 204 2 v ls.length (zd1 ps))(h2:ps.length=ls.length)(h4:∀ k (h1:k < ls.length) (h2:k < ps.length),ps[k].1=ls[k].pred/\zaq b0 w ps[k].2 ls[k].qf/\ls[k].pred<=1000000)(hl:ls.length+1<=1000)(hT:zaq b0 w tv l.qf)(hp:l.pred<=1000000)
  (ho:w'.ownsRow b0 204 2 v' (ls.length+1) (zd1 ps++[.int .i64 (l.pred:Nat),tv])) (hs:zas v.ownBlock.toList w w'):zbo b0 w' v' (ls++[l]):=by
 have hM:=OfT.own h1
 refine⟨ps++[(l.pred,tv)],by rw[zpk,uar];exact ho,by simp[h2],by simpa using hl,fun k a b=>?_⟩
 by_cases hk:k < ls.length
 ·have hk2:k < ps.length:=by omega
  rw[uan hk,uan hk2]
  exact⟨(h4 k hk hk2).1,(h4 k hk hk2).2.1.saveT hs hM (by decide),(h4 k hk hk2).2.2⟩
 ·obtain rfl:k=ls.length:=by simp at a;omega
  simp only[← h2,uck]
  exact⟨trivial,hT.saveT hs hM (by decide),hp⟩
theorem zg7.pushP{B:Nat}{w3:World}{pls':List zak}(h:zg7 B w0 w rb rr sb st va hp htv plv nlv ht pls nls vs pl)(hs:zas plv.ownBlock.toList w w3)(hat:v'.ownBlock=plv.ownBlock∨∃ g,v'.ownBlock=some g/\w.heap.size<=g)(hn:zbo B w3 v' pls')(hB:B<=w.heap.size):zg7 B w0 (w3.setCell ⟨rb,4,none⟩ v') rb rr sb st va hp htv v' nlv ht pls' nls vs pl:=by
 obtain⟨ps,h1,_⟩:=h.pln
 have hM:OfT w 204 plv.ownBlock.toList:=OfT.own h1
 have hb3:=h.box.saveT hs hM (by decide)
 have hM2:=OfT.box hb3
 have hs2:zas [rb] w3 (w3.setCell ⟨rb,4,none⟩ v'):=zas.set _ _ _ _
 have hq:=hb3.set 4 v'
 have hnl:=h.nln.saveT hs hM (by decide) fun b hb hm=>h.apart b (zcy hm) hb
 refine⟨by simpa using hq,(h.res.saveT hs hM (by decide)).set_ne (Ne.symm h.low.2.2) _ _,(h.scope.saveT hs hM (by decide) (by decide)).saveT hs2 hM2 (by decide) (by decide),(h.head.saveT hs hM (by decide)).saveT hs2 hM2 (by decide),hn.saveTT hs2 hM2 (by decide) (by decide),hnl.saveTT hs2 hM2 (by decide) (by decide),fun b hb hb2=>?_,?_,h.low⟩
 ·obtain⟨ps2,h2,_⟩:=h.nln
  have hlt:=zdq h2 hb2
  rcases hat with e|⟨g,e,hg⟩
  ·rw[e] at hb;exact h.apart b hb hb2
  ·rw[e] at hb;simp only[uab] at hb;omega
 ·exact(h.below.trans (hs.below (fun x hx=>zeg h1 (zcy hx)) hB)).setCell h.low.1 _
theorem zg7.pushN{B:Nat}{w3:World}{nls':List zak}(h:zg7 B w0 w rb rr sb st va hp htv plv nlv ht pls nls vs pl)(hs:zas nlv.ownBlock.toList w w3)(hat:v'.ownBlock=nlv.ownBlock∨∃ g,v'.ownBlock=some g/\w.heap.size<=g)(hn:zbo B w3 v' nls')(hB:B<=w.heap.size):zg7 B w0 (w3.setCell ⟨rb,5,none⟩ v') rb rr sb st va hp htv plv v' ht pls nls' vs pl:=by
 obtain⟨ps,h1,_⟩:=h.nln
 have hM:OfT w 204 nlv.ownBlock.toList:=OfT.own h1
 have hb3:=h.box.saveT hs hM (by decide)
 have hM2:=OfT.box hb3
 have hs2:zas [rb] w3 (w3.setCell ⟨rb,5,none⟩ v'):=zas.set _ _ _ _
 have hq:=hb3.set 5 v'
 have hpl:=h.pln.saveT hs hM (by decide) fun b hb hm=>h.apart b hb (zcy hm)
 refine⟨by simpa using hq,(h.res.saveT hs hM (by decide)).set_ne (Ne.symm h.low.2.2) _ _,(h.scope.saveT hs hM (by decide) (by decide)).saveT hs2 hM2 (by decide) (by decide),(h.head.saveT hs hM (by decide)).saveT hs2 hM2 (by decide),hpl.saveTT hs2 hM2 (by decide) (by decide),hn.saveTT hs2 hM2 (by decide) (by decide),fun b hb hb2=>?_,?_,h.low⟩
 ·obtain⟨ps2,h2,_⟩:=h.pln
  have hlt:=zdq h2 hb
  rcases hat with e|⟨g,e,hg⟩
  ·rw[e] at hb2;exact h.apart b hb hb2
  ·rw[e] at hb2;simp only[uab] at hb2;omega
 ·exact(h.below.trans (hs.below (fun x hx=>zeg h1 (zcy hx)) hB)).setCell h.low.1 _
theorem zgc{α:Type}(p:α->Bool)(l:List α)(k:Nat)(hk:k < l.length):(l.take (k+1)).filter p=(l.take k).filter p++(if p l[k] then [l[k]] else []):=by
 rw[uae hk,List.filter_append]
 congr 1
 cases h:p l[k] <;> simp[h]
theorem zxo(t:List zar)(n:ByteArray):zbd t n<=t.length:=by
 unfold zbd;split
 ·exact zfk t n
 ·omega
theorem zz5(os:List Int)(h:os.length<=1000):∀ y∈za6 os,y<=1000:=by
 have:∀(l:List (Int × Nat)) (pl:List Nat),(∀ x∈l,x.2<=1000)->(∀ y∈pl,y<=1000)->∀ y∈l.foldl zbj pl,y<=1000:=by
  intro l
  induction l with
  |nil=>intro pl _ h;exact h
  |cons x l ih =>
   intro pl h1 h2
   refine ih _ (fun y hy=>h1 y (uct _ hy)) fun y hy=>?_
   unfold zbj at hy
   split at hy
   ·rcases uco hy with q|q
    ·exact h2 y q
    ·subst q;exact h1 x (by simp)
   ·exact h2 y hy
 refine this _ _ (fun x hx=>?_) (by decide)
 have:=List.snd_lt_of_mem_zipIdx hx
 omega
def zxf(w:World)(r:zah)(e:Ending)(w':World):Prop:=∃ tv pv nv,e=.returned (zlo r tv pv nv)/\zdp w.heap.size w' tv pv nv r/\Below w.heap.size w w'
theorem z6w{lo2:Nat}(w:World)(mb tb o cb:Nat)(t:List zar)(ns:List ByteArray)(c:zab)(va vb ov:Value)(od:Option (List Int))(h:zil lo w mb tb o cb t ns)(hs:SIn lo2 w va c.head.args)(hb:LIn lo2 w vb c.body)(hl:c.head.args.length+zcd c.body<=1000)(hl2:c.body.length<=900)(ho:zhp w ov od)(hol:(od.getD []).length<=1000)(hst:zdv t c.head.pred<=1000000) :
  Calls Tryz.prog 117 #[.pointer (some ⟨mb,0,none⟩),.agg #[.bool c.head.neg,.string c.head.pred,va,vb],ov] w fun e w'=>zxf w (zln t ns c od) e w':=by
 obtain⟨i0,hi,hz0,hzs,hzb⟩:=info_parts Tryz.infoRLit
 obtain⟨ao,cap,rfl⟩:=hs.shape
 obtain⟨aob,capb,rfl⟩:=hb.shape
 obtain⟨aoo,capo,rfl⟩:=ho.shape
 have HSC:Hid (∀ W,Below w.heap.size w W->Calls Tryz.prog 158 #[.agg #[.bool c.head.neg,.string c.head.pred,.slice ao c.head.args.length cap,.slice aob c.body.length capb],.slice aoo (od.getD []).length capo] W fun e w'=>zsh W (zaf c) (za6 (od.getD [])) e w'):=fun W hW=>zwr W c _ _ _ od (hs.below hW) (hb.below hW) hl (by omega) (ho.below hW) hol
 have hpl:=zjh c.body []
 have hvl:(zaf c).length<=1000:=by unfold zaf;simp at hpl;omega
 clear hpl
 have HLT:Hid (∀ W sb (l:zbu) (va:Value) (b1 b2:Nat),Below w.heap.size w W->zfs b1 W sb (zaf c) (za6 (od.getD []))->SIn b2 W va l.args->l.args.length<=1000->Calls Tryz.prog 160 #[.pointer (some ⟨mb,0,none⟩),.agg #[.bool l.neg,.string l.pred,va],.pointer (some ⟨sb,0,none⟩)] W fun e w'=>∃ tv,e=.returned (.agg #[.int .i64 (zbd t l.pred:Nat),tv])/\zaq W.heap.size w' tv (zdf t ns (zaf c) (za6 (od.getD [])) l).qf/\Below W.heap.size W w'):=fun W sb l va b1 b2 hW hsc hs' hal=>z2v W mb tb o cb sb t ns _ _ l _ (h.below hW) hsc hvl (zz5 _ hol) hs' hal
 have HST:Hid (∀ W,Below w.heap.size w W->Calls Tryz.prog 159 #[.pointer (some ⟨tb,o,none⟩),.string c.head.pred] W fun e w'=>e=.returned (.tuple #[.int .i64 (zdv t c.head.pred:Nat),.bool (zbh t c.head.pred).isSome])/\w'=W):=fun W hW=>zte lo W tb o t c.head.pred (h.2.1.below hW) h.2.2.2.1
 have HTL:Hid (t.length<=1000):=h.2.2.2.1
 have hmb:=h.1
 obtain⟨hmc,hmf⟩:=hmb.rules
 have hml:=hmb.lt
 have hm0:w.cell? ⟨mb,0,none⟩=some (.pointer (some ⟨tb,o,none⟩)):=by rw[hmc];rfl
 have HHS:Hid (SIn lo2 w (.slice ao c.head.args.length cap) c.head.args):=hs
 have HBD:Hid (LIn lo2 w (.slice aob c.body.length capb) c.body):=hb
 have HE:Hid (zln t ns c od={ qi:=zdv t c.head.pred,vars:=(zaf c).length,head:=zdf t ns (zaf c) (za6 (od.getD [])) c.head,qc:=(c.body.filter fun l=>!l.neg).map (zdf t ns (zaf c) (za6 (od.getD []))),qm:=(c.body.filter fun l=>l.neg).map (zdf t ns (zaf c) (za6 (od.getD []))) }):=rfl
 have H5:Hid ((za6 (od.getD [])).length=5):=zkm _
 clear h hs hb ho hmc
 generalize zaf c=vs at *
 generalize za6 (od.getD [])=pl at *
 generalize zdv t c.head.pred=st at *
 generalize (zbh t c.head.pred).isSome=stb at *
 obtain⟨p0,p1,p2,p3,p4,rfl⟩:=five H5.out
 have HSC2:Hid (∀ W,Below w.heap.size w W->Calls Tryz.prog 158 #[.agg #[.bool c.head.neg,.string c.head.pred,.slice ao c.head.args.length cap,.slice aob c.body.length capb],.slice aoo (od.getD []).length capo] W fun e w'=>∃ nv,e=.returned (.agg #[nv,.int .i64 (p0:Nat),.int .i64 (p1:Nat),.int .i64 (p2:Nat),.int .i64 (p3:Nat),.int .i64 (p4:Nat)])/\SIn W.heap.size w' nv vs/\Below W.heap.size W w'):=HSC
 clear HSC H5
 go_enter Tryz.func117,Tryz.ntmps117
 go_upto_region 2 with (first|(go_at_call 158;refine(HSC2.out _ (by exact(by go_grown))).mono ?_;rintro e w1 ⟨nv,rfl,hsn,hb1⟩;obtain⟨ao4,cap4,rfl⟩:=hsn.shape))
 have hB1:Below w.heap.size w w1:=zae (by go_grown) hb1 (uaa _)
 have hcl1:=((Box.new w #[.bool c.head.neg,.string c.head.pred,.slice ao c.head.args.length cap,.slice aob c.body.length capb] 171).below ((Below.refl _ _).alloc (uaa _) (.cells #[.int .i64 0,.int .i64 0,.int .i64 0,.slice none 0 0,.slice none 0 0,.slice none 0 0] 207))).below hb1
 have hrr1:=(Box.new (w.alloc (.cells #[.bool c.head.neg,.string c.head.pred,.slice ao c.head.args.length cap,.slice aob c.body.length capb] 171)) #[.int .i64 0,.int .i64 0,.int .i64 0,.slice none 0 0,.slice none 0 0,.slice none 0 0] 207).below hb1
 rw[World.size_alloc] at hrr1
 have hsn1:=hsn.low (show w.heap.size<=_ by simp;omega)
 have hgr:Below w1.heap.size w1 (w1.alloc (.cells #[.slice ao4 vs.length cap4,.int .i64 (p0:Nat),.int .i64 (p1:Nat),.int .i64 (p2:Nat),.int .i64 (p3:Nat),.int .i64 (p4:Nat)] 257)):=(by go_grown)
 have hsc2:=Box.new w1 #[.slice ao4 vs.length cap4,.int .i64 (p0:Nat),.int .i64 (p1:Nat),.int .i64 (p2:Nat),.int .i64 (p3:Nat),.int .i64 (p4:Nat)] 257
 have hcl2:=hcl1.below hgr
 have hrr2:=hrr1.below hgr
 have hsn2:=hsn1.below hgr
 have hB2:=zae hB1 hgr (uaa _)
 have hlt1:=hrr1.lt
 clear hcl1 hrr1 hsn1 hsn hb1 hgr
 generalize w1.alloc (.cells #[.slice ao4 vs.length cap4,.int .i64 (p0:Nat),.int .i64 (p1:Nat),.int .i64 (p2:Nat),.int .i64 (p3:Nat),.int .i64 (p4:Nat)] 257)=w2 at *
 generalize w1.heap.size=sb at *
 clear hB1 w1
 obtain⟨hcc,hcf⟩:=hcl2.rules
 have hcll:=hcl2.lt
 have hmm:=(hB2.cell (p:=⟨mb,0,none⟩) hml).trans hm0
 have hz2:=hB2.size
 have hml2:mb < w2.heap.size:=by omega
 go_quiet ((go_at_call 159;exact Calls.quiet_of_same (HST.out _ (by exact(zau hB2 _)))))
 clear HSC2 HST hmm hcc hcf hcll hz2 hml2
 have hq:Below w2.heap.size w2 (w2.drewN nq):=zau (Below.refl _ _) nq
 have hcl3:=hcl2.below hq
 have hrr3:=hrr2.below hq
 have hsn3:=hsn2.below hq
 have hsc3:=hsc2.below hq
 have hB3:=zae hB2 hq (uaa _)
 clear hq hcl2 hrr2 hsn2 hsc2 hB2
 generalize w2.drewN nq=w3 at *
 clear w2 nq
 have hz3:=hB3.size
 obtain⟨hscc,hscf⟩:=hsc3.rules
 have hscl:=hsc3.lt
 go_upto_region 4 with (first|(go_at_call 146;refine(zke _ _ _ vs (by rw[hscc];rfl) hsn3).mono ?_;rintro e w4 ⟨rfl,hww⟩;obtain rfl:=hww.symm))
 clear hscc hscf hscl
 have hgr:Below w3.heap.size w3 (w3.alloc (.cells #[.int .i64 (st:Nat),.int .i64 (vs.length:Nat),.int .i64 0,.slice none 0 0,.slice none 0 0,.slice none 0 0] 207)):=(by go_grown)
 have hrb4:=Box.new w3 #[.int .i64 (st:Nat),.int .i64 (vs.length:Nat),.int .i64 0,.slice none 0 0,.slice none 0 0,.slice none 0 0] 207
 have hcl4:=hcl3.below hgr
 have hrr4:=hrr3.below hgr
 have hsn4:=hsn3.below hgr
 have hsc4:=hsc3.below hgr
 have hB4:=zae hB3 hgr (uaa _)
 have hlt3:=hsc3.lt
 clear hcl3 hrr3 hsn3 hsc3 hgr
 generalize w3.alloc (.cells #[.int .i64 (st:Nat),.int .i64 (vs.length:Nat),.int .i64 0,.slice none 0 0,.slice none 0 0,.slice none 0 0] 207)=w4 at *
 generalize w3.heap.size=rb at *
 clear hB3 w3
 have hz4:=hB4.size
 obtain⟨hcc,hcf⟩:=hcl4.rules
 have hcll:=hcl4.lt
 have HSC4:Hid (zfs w.heap.size w4 sb vs [p0,p1,p2,p3,p4]):=⟨_,p0,p1,p2,p3,p4,rfl,hsc4,hsn4⟩
 go_upto_region 5 with (first|(go_at_call 160;refine(HLT.out _ _ c.head _ _ _ (by exact hB4) (by exact HSC4.out) (by exact HHS.out.below hB4) (by omega)).mono ?_;rintro e w5 ⟨tv,rfl,hT5,hb5⟩;obtain⟨ao5,cap5,rfl⟩:=hT5.shape;have hrb5:=hrb4.below hb5;obtain⟨hrc5,hrf5⟩:=hrb5.rules;have hrl5:=hrb5.lt))
 have hT6:zaq w.heap.size w5 _ _:=⟨zbf hT5.own hz4,hT5.len,hT5.num⟩
 have hne1:rb≠w.heap.size+1:=by omega
 have hM:zg7 w.heap.size w ((w5.setCell ⟨rb,2,none⟩ (.int .i64 (zbd t c.head.pred:Nat))).setCell ⟨rb,3,none⟩ (.slice ao5 (zdf t ns vs [p0,p1,p2,p3,p4] c.head).qf.length cap5)) rb (w.heap.size+1) sb st vs.length (zbd t c.head.pred) (.slice ao5 (zdf t ns vs [p0,p1,p2,p3,p4] c.head).qf.length cap5) (.slice none 0 0) (.slice none 0 0) (zdf t ns vs [p0,p1,p2,p3,p4] c.head).qf [] [] vs [p0,p1,p2,p3,p4]:=by
  have hs1:zas [rb] w5 ((w5.setCell ⟨rb,2,none⟩ (.int .i64 (zbd t c.head.pred:Nat))).setCell ⟨rb,3,none⟩ (.slice ao5 (zdf t ns vs [p0,p1,p2,p3,p4] c.head).qf.length cap5)):=(zas.set _ _ _ _).trans (zas.set _ _ _ _)
  have hMb:=OfT.box hrb5
  have hq:=(hrb5.set 2 (.int .i64 (zbd t c.head.pred:Nat))).set 3 (.slice ao5 (zdf t ns vs [p0,p1,p2,p3,p4] c.head).qf.length cap5)
  refine⟨by simpa using hq,((hrr4.below hb5).set_ne (Ne.symm hne1) _ _).set_ne (Ne.symm hne1) _ _,(HSC4.out.below hb5).saveT hs1 hMb (by decide) (by decide),hT6.saveT hs1 hMb (by decide),⟨[],World.ownsRow_nil _ _ _ _,rfl,by simp,fun k a=>by simp at a⟩,⟨[],World.ownsRow_nil _ _ _ _,rfl,by simp,fun k a=>by simp at a⟩,fun b hb=>by simp[Value.ownBlock] at hb,((zae hB4 hb5 (uaa _)).setCell (by simp;omega) _).setCell (by simp;omega) _,by omega,by omega,hne1⟩
 have hcl6:=((hcl4.below hb5).set_ne (show w.heap.size≠rb by omega) 2 (.int .i64 (zbd t c.head.pred:Nat))).set_ne (show w.heap.size≠rb by omega) 3 (.slice ao5 (zdf t ns vs [p0,p1,p2,p3,p4] c.head).qf.length cap5)
 generalize (w5.setCell ⟨rb,2,none⟩ (.int .i64 (zbd t c.head.pred:Nat))).setCell ⟨rb,3,none⟩ (.slice ao5 (zdf t ns vs [p0,p1,p2,p3,p4] c.head).qf.length cap5)=w6 at *
 clear hrb5 hrc5 hrf5 hrl5 hT5 hT6 hb5 w5 hcc hcf hcll HSC4 hz4 hB4 hcl4 hrr4 hsn4 hsc4 hrb4 w4
 generalize hhv:Value.slice ao5 (zdf t ns vs [p0,p1,p2,p3,p4] c.head).qf.length cap5=htv at *
 have HHV:Hid (Value.slice ao5 (zdf t ns vs [p0,p1,p2,p3,p4] c.head).qf.length cap5=htv):=hhv
 clear hhv
 obtain⟨hcc,hcf⟩:=hcl6.rules
 have hcll:=hcl6.lt
 go_wp2
 clear hcc hcf hcll hcl6
 have HM:Hid (zg7 _ _ _ _ _ _ _ _ _ _ _ _ _ _ _ _ _):=hM
 clear hM
 go_loopw [40] (fun v40 wr=>∃(k:Nat) (plv nlv:Value),k<=c.body.length/\v40=.int .i64 k/\Hid (zg7 w.heap.size w wr rb (w.heap.size+1) sb st vs.length (zbd t c.head.pred) htv plv nlv (zdf t ns vs [p0,p1,p2,p3,p4] c.head).qf (((c.body.take k).filter fun l=>!l.neg).map (zdf t ns vs [p0,p1,p2,p3,p4])) (((c.body.take k).filter fun l=>l.neg).map (zdf t ns vs [p0,p1,p2,p3,p4])) vs [p0,p1,p2,p3,p4])) (fun i _=>c.body.length - (intOf i).toNat)
 case atStart=>exact⟨0,_,_,uaj _,rfl,HM⟩
 case round =>
  clear HM
  obtain⟨k,plv,nlv,hk,rfl,HM⟩:=hrel
  have hbk:=HM.out.below
  have hszk:=hbk.size
  by_cases hlt:k < c.body.length
  ·obtain⟨g,ao2,cap2,hao,hg,hd0,hd1,hd2,hsk⟩:=HBD.out.cell k hlt
   subst hao
   have hle:c.body[k].args.length<=1000:=by
    have:=zhd c.body k hlt
    rw[uac hlt] at this
    simp at this
    omega
   have hx0:=(hbk.cell (p:=⟨g,k * 3,none⟩) hg).trans hd0
   have hx1:=(hbk.cell (p:=⟨g,k * 3+1,none⟩) hg).trans hd1
   have hx2:=(hbk.cell (p:=⟨g,k * 3+2,none⟩) hg).trans hd2
   have hgr:g < wr.heap.size:=by omega
   have HP1:=zgc (fun l:zbu=>!l.neg) c.body k hlt
   have HN1:=zgc (fun l:zbu=>l.neg) c.body k hlt
   have HSK:Hid (SIn lo2 w _ _):=hsk
   have hfl:=zxo t c.body[k].pred
   have htl:=HTL.out
   clear hd0 hd1 hd2 hsk
   generalize c.body[k]=l at *
   have hpl1:(((c.body.take k).filter fun l=>!l.neg).map (zdf t ns vs [p0,p1,p2,p3,p4])).length<=k:=by
    have:=ucy (fun l:zbu=>!l.neg) (c.body.take k)
    simp at this ⊢;omega
   have hnl1:(((c.body.take k).filter fun l=>l.neg).map (zdf t ns vs [p0,p1,p2,p3,p4])).length<=k:=by
    have:=ucy (fun l:zbu=>l.neg) (c.body.take k)
    simp at this ⊢;omega
   cases hn:l.neg with
   |false =>
    rw[hn] at hx0
    simp only[hn,Bool.not_false,if_true,ubr,if_false,ub3] at HP1 HN1
    have HP2:Hid (((c.body.take (k+1)).filter fun l=>!l.neg).map (zdf t ns vs [p0,p1,p2,p3,p4])=((c.body.take k).filter fun l=>!l.neg).map (zdf t ns vs [p0,p1,p2,p3,p4])++[zdf t ns vs [p0,p1,p2,p3,p4] l]):=by rw[Hid,HP1,ua8];rfl
    have HN2:Hid (((c.body.take (k+1)).filter fun l=>l.neg).map (zdf t ns vs [p0,p1,p2,p3,p4])=((c.body.take k).filter fun l=>l.neg).map (zdf t ns vs [p0,p1,p2,p3,p4])):=by rw[Hid,HN1]
    clear HP1 HN1
    generalize ((c.body.take k).filter fun l=>!l.neg).map (zdf t ns vs [p0,p1,p2,p3,p4])=pls at *
    generalize ((c.body.take k).filter fun l=>l.neg).map (zdf t ns vs [p0,p1,p2,p3,p4])=nls at *
    have HLK:Hid (∀ W,Below wr.heap.size wr W->Calls Tryz.prog 160 #[.pointer (some ⟨mb,0,none⟩),.agg #[.bool false,.string l.pred,.slice ao2 l.args.length cap2],.pointer (some ⟨sb,0,none⟩)] W fun e w'=>∃ tv,e=.returned (.agg #[.int .i64 (zbd t l.pred:Nat),tv])/\zaq W.heap.size w' tv (zdf t ns vs [p0,p1,p2,p3,p4] l).qf/\Below W.heap.size W w'):=fun W hW=>by
     have q:=HLT.out W sb l (.slice ao2 l.args.length cap2) w.heap.size lo2 (zae hbk hW (uaa _)) (HM.out.scope.below hW) (HSK.out.below (zae hbk hW (uaa _))) hle
     rw[hn] at q
     exact q
    generalize hts:(zdf t ns vs [p0,p1,p2,p3,p4] l).qf=ts at *
    have HTS:Hid ((zdf t ns vs [p0,p1,p2,p3,p4] l).qf=ts):=hts
    have HPR:Hid ((zdf t ns vs [p0,p1,p2,p3,p4] l).pred=zbd t l.pred):=rfl
    clear hts
    generalize zbd t l.pred=fn at *
    obtain⟨ps,hown,hpsl,_,hpsT⟩:=HM.out.pln
    obtain⟨aop,capp,hpv⟩:=zac hown
    subst hpv
    have HPT:Hid (∀ k (h1:k < pls.length) (h2:k < ps.length),ps[k].1=pls[k].pred/\zaq w.heap.size wr ps[k].2 pls[k].qf/\pls[k].pred<=1000000):=hpsT
    clear hpsT
    have hpsz:pls.length<=900:=by omega
    have HPSL:Hid (ps.length=pls.length):=hpsl
    clear hpsl
    go_wp2_with (first|(go_at_call 160;refine(HLK.out _ (by exact(by go_grown))).mono ?_;rintro e w2 ⟨tv,rfl,hT2,hb2⟩;obtain⟨ao6,cap6,rfl⟩:=hT2.shape;have hB2:Below wr.heap.size wr w2:=(zae (by go_grown) hb2 (uaa _));have hbb:=(Box.new wr #[.bool false,.string l.pred,.slice ao2 l.args.length cap2] 90).below hb2;obtain⟨hbbc,hbbf⟩:=hbb.rules;have hbbl:=hbb.lt;have hrb:=HM.out.box.below hB2;obtain⟨hrbc,hrbf⟩:=hrb.rules;have hrbl:=hrb.lt;have hz2:=hB2.size;have hown2:=zaa hown hB2)|(at_builtin;refine zce w2 _ [.int .i64 (fn:Nat),.slice ao6 ts.length cap6] _ rfl (.tmp 56) (.tmp 58) 205 rfl w.heap.size 204 i0 _ 2 32 Tryz.underlying205 hi hz0 hzs hzb rfl (by decide) (.slice aop pls.length capp) pls.length (zd1 ps) rfl hown2 (by exact(by go_grown)) _ _ rfl (by simp) rfl (by simp[Value.oneCell']) (by omega) (by omega) (by omega) ?_;intro v' w3 ho3 hS3 hat3;obtain⟨aov,capv,rfl⟩:=zac ho3;have hrb3:=hrb.saveT hS3 (OfT.own hown2) (by decide);obtain⟨hrb3c,hrb3f⟩:=hrb3.rules;have hrb3l:=hrb3.lt))
    have HMN:zg7 _ _ _ _ _ _ _ _ _ _ _ _ _ _ _ _ _:=(HM.out.next hB2 (uaa _)).pushP hS3 hat3 (zbo.push (l:=zdf t ns vs [p0,p1,p2,p3,p4] l) hown2 HPSL.out (fun k a b=>⟨(HPT.out k a b).1,(HPT.out k a b).2.1.below hB2,(HPT.out k a b).2.2⟩) (by omega) (by rw[HTS.out];exact⟨zbf hT2.own (by simp;omega),hT2.len,hT2.num⟩) (by rw[HPR.out];omega) (by rw[HPR.out];exact ho3) hS3) (by omega)
    go_roundw
    case rel=>exact⟨k+1,_,_,by omega,by go_num,by rw[HP2.out,HN2.out];exact HMN⟩
    case measure=>simp[intOf];omega
   |true =>
    rw[hn] at hx0
    simp only[hn,Bool.not_true,if_true,ubr,if_false,ub3] at HP1 HN1
    have HP2:Hid (((c.body.take (k+1)).filter fun l=>!l.neg).map (zdf t ns vs [p0,p1,p2,p3,p4])=((c.body.take k).filter fun l=>!l.neg).map (zdf t ns vs [p0,p1,p2,p3,p4]) ):=by rw[Hid,HP1]
    have HN2:Hid (((c.body.take (k+1)).filter fun l=>l.neg).map (zdf t ns vs [p0,p1,p2,p3,p4])=((c.body.take k).filter fun l=>l.neg).map (zdf t ns vs [p0,p1,p2,p3,p4])++[zdf t ns vs [p0,p1,p2,p3,p4] l]):=by rw[Hid,HN1,ua8];rfl
    clear HP1 HN1
    generalize ((c.body.take k).filter fun l=>!l.neg).map (zdf t ns vs [p0,p1,p2,p3,p4])=pls at *
    generalize ((c.body.take k).filter fun l=>l.neg).map (zdf t ns vs [p0,p1,p2,p3,p4])=nls at *
    have HLK:Hid (∀ W,Below wr.heap.size wr W->Calls Tryz.prog 160 #[.pointer (some ⟨mb,0,none⟩),.agg #[.bool true,.string l.pred,.slice ao2 l.args.length cap2],.pointer (some ⟨sb,0,none⟩)] W fun e w'=>∃ tv,e=.returned (.agg #[.int .i64 (zbd t l.pred:Nat),tv])/\zaq W.heap.size w' tv (zdf t ns vs [p0,p1,p2,p3,p4] l).qf/\Below W.heap.size W w'):=fun W hW=>by
     have q:=HLT.out W sb l (.slice ao2 l.args.length cap2) w.heap.size lo2 (zae hbk hW (uaa _)) (HM.out.scope.below hW) (HSK.out.below (zae hbk hW (uaa _))) hle
     rw[hn] at q
     exact q
    generalize hts:(zdf t ns vs [p0,p1,p2,p3,p4] l).qf=ts at *
    have HTS:Hid ((zdf t ns vs [p0,p1,p2,p3,p4] l).qf=ts):=hts
    have HPR:Hid ((zdf t ns vs [p0,p1,p2,p3,p4] l).pred=zbd t l.pred):=rfl
    clear hts
    generalize zbd t l.pred=fn at *
    obtain⟨ps,hown,hpsl,_,hpsT⟩:=HM.out.nln
    obtain⟨aop,capp,hpv⟩:=zac hown
    subst hpv
    have HPT:Hid (∀ k (h1:k < nls.length) (h2:k < ps.length),ps[k].1=nls[k].pred/\zaq w.heap.size wr ps[k].2 nls[k].qf/\nls[k].pred<=1000000):=hpsT
    clear hpsT
    have hpsz:nls.length<=900:=by omega
    have HPSL:Hid (ps.length=nls.length):=hpsl
    clear hpsl
    go_wp2_with (first|(go_at_call 160;refine(HLK.out _ (by exact(by go_grown))).mono ?_;rintro e w2 ⟨tv,rfl,hT2,hb2⟩;obtain⟨ao6,cap6,rfl⟩:=hT2.shape;have hB2:Below wr.heap.size wr w2:=(zae (by go_grown) hb2 (uaa _));have hbb:=(Box.new wr #[.bool true,.string l.pred,.slice ao2 l.args.length cap2] 90).below hb2;obtain⟨hbbc,hbbf⟩:=hbb.rules;have hbbl:=hbb.lt;have hrb:=HM.out.box.below hB2;obtain⟨hrbc,hrbf⟩:=hrb.rules;have hrbl:=hrb.lt;have hz2:=hB2.size;have hown2:=zaa hown hB2)|(at_builtin;refine zce w2 _ [.int .i64 (fn:Nat),.slice ao6 ts.length cap6] _ rfl (.tmp 50) (.tmp 52) 205 rfl w.heap.size 204 i0 _ 2 32 Tryz.underlying205 hi hz0 hzs hzb rfl (by decide) (.slice aop nls.length capp) nls.length (zd1 ps) rfl hown2 (by exact(by go_grown)) _ _ rfl (by simp) rfl (by simp[Value.oneCell']) (by omega) (by omega) (by omega) ?_;intro v' w3 ho3 hS3 hat3;obtain⟨aov,capv,rfl⟩:=zac ho3;have hrb3:=hrb.saveT hS3 (OfT.own hown2) (by decide);obtain⟨hrb3c,hrb3f⟩:=hrb3.rules;have hrb3l:=hrb3.lt))
    have HMN:zg7 _ _ _ _ _ _ _ _ _ _ _ _ _ _ _ _ _:=(HM.out.next hB2 (uaa _)).pushN hS3 hat3 (zbo.push (l:=zdf t ns vs [p0,p1,p2,p3,p4] l) hown2 HPSL.out (fun k a b=>⟨(HPT.out k a b).1,(HPT.out k a b).2.1.below hB2,(HPT.out k a b).2.2⟩) (by omega) (by rw[HTS.out];exact⟨zbf hT2.own (by simp;omega),hT2.len,hT2.num⟩) (by rw[HPR.out];omega) (by rw[HPR.out];exact ho3) hS3) (by omega)
    go_roundw
    case rel=>exact⟨k+1,_,_,by omega,by go_num,by rw[HN2.out,HP2.out];exact HMN⟩
    case measure=>simp[intOf];omega
  ·have hke:k=c.body.length:=by omega
   have HP3:Hid (c.body.take k=c.body):=by rw[Hid,hke,ubw]
   rw[HP3.out] at HM
   have hrb:=HM.out.box
   have hrr:=HM.out.res
   obtain⟨hrbc,hrbf⟩:=hrb.rules
   have hrbl:=hrb.lt
   obtain⟨hrrc,hrrf⟩:=hrr.rules
   have hrrl:=hrr.lt
   have hhv:=HHV.out
   subst hhv
   obtain⟨aop,capp,hpv⟩:=zac HM.out.pln.choose_spec.1
   obtain⟨aon,capn,hnv⟩:=zac HM.out.nln.choose_spec.1
   subst hpv
   subst hnv
   clear hke
   generalize (c.body.filter fun l=>!l.neg).map (zdf t ns vs [p0,p1,p2,p3,p4])=pls at *
   generalize (c.body.filter fun l=>l.neg).map (zdf t ns vs [p0,p1,p2,p3,p4])=nls at *
   go_wp2
   (try simp only[Exit.inBlock,Exit.then])
   refine bodyPost_ret (v:=.agg #[.int .i64 (st:Nat),.int .i64 (vs.length:Nat),.int .i64 (zbd t c.head.pred:Nat),.slice ao5 (zdf t ns vs [p0,p1,p2,p3,p4] c.head).qf.length cap5,.slice aop pls.length capp,.slice aon nls.length capn]) (by simp[results,Tryz.results117,go_sem,hrrc]) rfl ⟨_,_,_,by rw[HE.out];rfl,?_,?_⟩
   ·have hs6:zas [w.heap.size+1] wr ((((((wr.setCell ⟨w.heap.size+1,0,none⟩ (.int .i64 (st:Nat))).setCell ⟨w.heap.size+1,1,none⟩ (.int .i64 (vs.length:Nat))).setCell ⟨w.heap.size+1,2,none⟩ (.int .i64 (zbd t c.head.pred:Nat))).setCell ⟨w.heap.size+1,3,none⟩ (.slice ao5 (zdf t ns vs [p0,p1,p2,p3,p4] c.head).qf.length cap5)).setCell ⟨w.heap.size+1,4,none⟩ (.slice aop pls.length capp)).setCell ⟨w.heap.size+1,5,none⟩ (.slice aon nls.length capn)):=(((((zas.set _ _ _ _).trans (zas.set _ _ _ _)).trans (zas.set _ _ _ _)).trans (zas.set _ _ _ _)).trans (zas.set _ _ _ _)).trans (zas.set _ _ _ _)
    have hMr:=OfT.box hrr
    have hfl:=zxo t c.head.pred
    have htl:=HTL.out
    rw[HE.out]
    exact⟨HM.out.head.saveT hs6 hMr (by decide),HM.out.pln.saveTT hs6 hMr (by decide) (by decide),HM.out.nln.saveTT hs6 hMr (by decide) (by decide),hst,by simp only;omega,by show zbd t c.head.pred<=1000000;omega⟩
   ·exact(((((hbk.setCell (by simp) _).setCell (by simp) _).setCell (by simp) _).setCell (by simp) _).setCell (by simp) _).setCell (by simp) _
end Go.Proofs.YteampbddflhngaaGreat
namespace Go.Proofs.YteampbddflhngaaGreat
open Go.RowKit
variable {lo:Nat}
variable {w w0:World}{v' mv1 mv2 av fv rv:Value}{rs:List zah}{ps:List (Value × Value × Value)}{sb sr mb wd:Nat}{xs:List Nat}{fs:List zim}
theorem Tryz.infoFact:(Tryz.prog.info? 210).map (fun i=>(i.zero,i.size,i.bytes))=some (some (.agg #[.int .i64 0,.int .i64 0,.int .i64 0,.int .i64 0]),4,32):=by kernel_rfl
theorem Tryz.infoRule:(Tryz.prog.info? 207).map (fun i=>(i.zero,i.size,i.bytes))=some (some (.agg #[.int .i64 0,.int .i64 0,.int .i64 0,.slice none 0 0,.slice none 0 0,.slice none 0 0]),6,96):=by kernel_rfl
def zk0(f:zim):List Value:=[.int .i64 (f.pred:Nat),.int .i64 (f.row.getD 0 0:Nat),.int .i64 (f.row.getD 1 0:Nat),.int .i64 (f.row.getD 2 0:Nat)]
def zcx(fs:List zim):List Value:=fs.flatMap zk0
def zjl(r:zah)(p:Value × Value × Value):List Value:=[.int .i64 (r.qi:Nat),.int .i64 (r.vars:Nat),.int .i64 (r.head.pred:Nat),p.1,p.2.1,p.2.2]
def zdb(rs:List zah)(ps:List (Value × Value × Value)):List Value:=(List.zipWith zjl rs ps).flatten
theorem zpi(fs:List zim)(f:zim):zcx (fs++[f])=zcx fs++zk0 f:=by simp[zcx]
theorem zpo(rs:List zah)(ps:List (Value × Value × Value))(r:zah)(p:Value × Value × Value)(h:ps.length=rs.length):zdb (rs++[r]) (ps++[p])=zdb rs ps++zjl r p:=by
 unfold zdb
 rw[ucv h.symm]
 simp
def znl(lo:Nat)(w:World)(v:Value)(fs:List zim):Prop:=w.ownsRow lo 210 4 v fs.length (zcx fs)
structure zcv (lo:Nat) (w:World) (v:Value) (rs:List zah) (ps:List (Value × Value × Value)):Prop where
 own:w.ownsRow lo 207 6 v rs.length (zdb rs ps)
 len:ps.length=rs.length
 rule:∀ k (_:k < rs.length) (_:k < ps.length),zdp lo w ps[k].1 ps[k].2.1 ps[k].2.2 rs[k]
 few:rs.length<=1000
theorem zcv.below{w w':World}{v:Value}{rs:List zah}{ps:List (Value × Value × Value)}(h:zcv lo w v rs ps)(hb:Below w.heap.size w w'):zcv lo w' v rs ps:=⟨zaa h.own hb,h.len,fun k a b=>(h.rule k a b).below hb,h.few⟩
theorem zcv.saveT{b0:Nat}{w w':World}{v:Value}{rs:List zah}{ps:List (Value × Value × Value)}{T:TypeId}{M:List Nat}(h:zcv b0 w v rs ps)(hs:zas M w w')(hM:OfT w T M)(hT:284≠T)(hT2:204≠T)(hT3:207≠T):zcv b0 w' v rs ps:=⟨zaj h.own hs hM hT3,h.len,fun k a b=>(h.rule k a b).saveT hs hM hT hT2,h.few⟩
theorem zcv.push{b0:Nat}{w':World}{v:Value}{r:zah}{p:Value × Value × Value}(h:zcv b0 w v rs ps)(hl:rs.length+1<=1000)(hr:zdp b0 w p.1 p.2.1 p.2.2 r)(ho:w'.ownsRow b0 207 6 v' (rs.length+1) (zdb rs ps++zjl r p))(hs:zas v.ownBlock.toList w w'):zcv b0 w' v' (rs++[r]) (ps++[p]):=by
 have hM:=OfT.own h.own
 refine⟨by rw[zpo _ _ _ _ h.len,uar];exact ho,by simp[h.len],fun k a b=>?_,by simpa using hl⟩
 by_cases hk:k < rs.length
 ·have hk2:k < ps.length:=by have:=h.len;omega
  rw[uan hk,uan hk2]
  exact(h.rule k hk hk2).saveT hs hM (by decide) (by decide)
 ·obtain rfl:k=rs.length:=by simp at a;omega
  have h2:=h.len
  simp only[← h2,uck]
  exact hr.saveT hs hM (by decide) (by decide)
theorem zcv.cell{w:World}{ao:Option Addr}{n cap:Nat}{rs:List zah}{ps:List (Value × Value × Value)}(h:zcv lo w (.slice ao n cap) rs ps)(k:Nat)(hk:k < rs.length)(hk2:k < ps.length):∃ g,ao=some ⟨g,0,none⟩/\g < w.heap.size/\w.cell? ⟨g,k * 6,none⟩=some (.int .i64 (rs[k].qi:Nat))/\w.cell? ⟨g,k * 6+1,none⟩=some (.int .i64 (rs[k].vars:Nat))/\w.cell? ⟨g,k * 6+2,none⟩=some (.int .i64 (rs[k].head.pred:Nat))/\w.cell? ⟨g,k * 6+3,none⟩=some ps[k].1/\w.cell? ⟨g,k * 6+4,none⟩=some ps[k].2.1/\w.cell? ⟨g,k * 6+5,none⟩=some ps[k].2.2:=by
 obtain⟨g,cap',hv,_,hg,hc⟩:=zal h.own (by omega)
 simp at hv
 have key:∀(rs:List zah) (ps:List (Value × Value × Value)) (k:Nat) (h1:k < rs.length) (h2:k < ps.length),(zdb rs ps)[k * 6]?=some (.int .i64 (rs[k].qi:Nat))/\(zdb rs ps)[k * 6+1]?=some (.int .i64 (rs[k].vars:Nat))/\(zdb rs ps)[k * 6+2]?=some (.int .i64 (rs[k].head.pred:Nat))/\(zdb rs ps)[k * 6+3]?=some ps[k].1/\(zdb rs ps)[k * 6+4]?=some ps[k].2.1/\(zdb rs ps)[k * 6+5]?=some ps[k].2.2:=by
  intro rs
  induction rs with
  |nil=>intro ps k h1;simp at h1
  |cons r l ih =>
   intro ps k h1 h2
   match ps,k,h1,h2 with
   |p::ps,0,_,_=>simp[zdb,zjl]
   |p::ps,k+1,h1,h2 =>
    have:=ih ps k (by simpa using h1) (by simpa using h2)
    simp only[zdb,ubz,ucu] at this ⊢
    rw[show(k+1) * 6=k * 6+6 from by omega]
    have e0:k * 6+6=(zjl r p).length+k * 6:=by simp[zjl];omega
    rw[e0]
    simp only[Nat.add_assoc,ua1 (Nat.le_add_right _ _),uc6]
    simpa using this
 obtain⟨q0,q1,q2,q3,q4,q5⟩:=key rs ps k hk hk2
 exact⟨g,hv.1,hg,hc _ _ q0,hc _ _ q1,hc _ _ q2,hc _ _ q3,hc _ _ q4,hc _ _ q5⟩
theorem zmp:∀(fs:List zim) (k:Nat) (h:k < fs.length),(zcx fs)[k * 4]?=some (.int .i64 (fs[k].pred:Nat))/\(zcx fs)[k * 4+1]?=some (.int .i64 (fs[k].row.getD 0 0:Nat))/\(zcx fs)[k * 4+2]?=some (.int .i64 (fs[k].row.getD 1 0:Nat))/\(zcx fs)[k * 4+3]?=some (.int .i64 (fs[k].row.getD 2 0:Nat))
 |[],k,h=>by simp at h
 |f::l,0,_=>by simp[zcx,zk0]
 |f::l,k+1,h=>by
  have:=zmp l k (by simpa using h)
  simp only[zcx,ua5] at this ⊢
  rw[show(k+1) * 4=k * 4+4 from by omega]
  have e0:k * 4+4=(zk0 f).length+k * 4:=by simp[zk0];omega
  rw[e0]
  simp only[Nat.add_assoc,ua1 (Nat.le_add_right _ _),uc6]
  simpa using this
def zet(t:List zar)(ns:List ByteArray)(os:Option (List (Option (List Int))))(cs:List zab):List zah:=cs.zipIdx.filterMap fun x=>if x.1.body.length > 0 then some (zln t ns x.1 (zd2 os x.2)) else none
def zeq(t:List zar)(ns:List ByteArray)(cs:List zab):List zim:=(cs.filter fun c=>!decide (c.body.length > 0)).map (ziw t ns)
def zjv(t:List zar)(ns:List ByteArray)(os:Option (List (Option (List Int))))(cs:List zab):zsb:={ qg:=ns.length,qh:=t.map (·.je),facts:=zeq t ns cs,rules:=zet t ns os cs }
theorem zwq(t:List zar)(ns:List ByteArray)(os:Option (List (Option (List Int))))(cs:List zab)(k:Nat)(hk:k < cs.length):zet t ns os (cs.take (k+1))=zet t ns os (cs.take k)++(if cs[k].body.length > 0 then [zln t ns cs[k] (zd2 os k)] else []):=by
 unfold zet
 rw[uae hk,List.zipIdx_append,ude]
 congr 1
 simp only[List.zipIdx_singleton,ua2,ubl,List.filterMap_cons,List.filterMap_nil]
 rw[ubv (by omega)]
 by_cases h:cs[k].body.length > 0
 ·rw[if_pos h,if_pos h]
 ·rw[if_neg h,if_neg h]
theorem zvz(t:List zar)(ns:List ByteArray)(cs:List zab)(k:Nat)(hk:k < cs.length):zeq t ns (cs.take (k+1))=zeq t ns (cs.take k)++(if cs[k].body.length > 0 then [] else [ziw t ns cs[k]]):=by
 unfold zeq
 rw[zgc _ _ _ hk,ua8]
 congr 1
 by_cases h:cs[k].body.length > 0
 ·simp[h]
 ·simp[h]
theorem z0h(t:List zar)(ns:List ByteArray)(os:Option (List (Option (List Int))))(cs:List zab):(zet t ns os cs).length<=cs.length:=by
 have:=ucr (fun x:zab × Nat=>if x.1.body.length > 0 then some (zln t ns x.1 (zd2 os x.2)) else none) cs.zipIdx
 simpa [zet] using this
theorem zy9(t:List zar)(ns:List ByteArray)(cs:List zab):(zeq t ns cs).length<=cs.length:=by
 unfold zeq
 rw[ua0]
 exact ucy _ _
structure zjr (B:Nat) (w0 w:World) (sb sr mb:Nat) (mv1 mv2 av fv rv:Value) (wd:Nat) (xs:List Nat) (fs:List zim) (rs:List zah) (ps:List (Value × Value × Value)):Prop where
 box:Box w sb #[.int .i64 (wd:Nat),av,fv,rv] 146
 res:Box w sr #[.int .i64 0,.slice none 0 0,.slice none 0 0,.slice none 0 0] 146
 mak:Box w mb #[mv1,mv2] 200
 ari:w.ownsRow B 3 1 av xs.length (xs.map ivN)
 fac:znl B w fv fs
 rul:zcv B w rv rs ps
 below:Below B w0 w
 low:B<=sb/\B<=sr/\sb≠sr
theorem zjr.next{B:Nat}{w':World}(h:zjr B w0 w sb sr mb mv1 mv2 av fv rv wd xs fs rs ps)(hb:Below w.heap.size w w')(hB:B<=w0.heap.size):zjr B w0 w' sb sr mb mv1 mv2 av fv rv wd xs fs rs ps :=
 ⟨h.box.below hb,h.res.below hb,h.mak.below hb,zaa h.ari hb,zaa h.fac hb,h.rul.below hb,zae h.below hb hB,h.low⟩
theorem zjr.pushF{B:Nat}{w3:World}{fs':List zim}(h:zjr B w0 w sb sr mb mv1 mv2 av fv rv wd xs fs rs ps)(hs:zas fv.ownBlock.toList w w3)(hn:znl B w3 v' fs')(hB:B<=w.heap.size):zjr B w0 (w3.setCell ⟨sb,2,none⟩ v') sb sr mb mv1 mv2 av v' rv wd xs fs' rs ps:=by
 have hM:OfT w 210 fv.ownBlock.toList:=OfT.own h.fac
 have hb3:=h.box.saveT hs hM (by decide)
 have hM2:=OfT.box hb3
 have hs2:zas [sb] w3 (w3.setCell ⟨sb,2,none⟩ v'):=zas.set _ _ _ _
 have hq:=hb3.set 2 v'
 exact⟨by simpa using hq,(h.res.saveT hs hM (by decide)).set_ne (Ne.symm h.low.2.2) _ _,(h.mak.saveT hs hM (by decide)).saveT hs2 hM2 (by decide),zaj (zaj h.ari hs hM (by decide)) hs2 hM2 (by decide),zaj hn hs2 hM2 (by decide),(h.rul.saveT hs hM (by decide) (by decide) (by decide)).saveT hs2 hM2 (by decide) (by decide) (by decide),(h.below.trans (hs.below (fun x hx=>zeg h.fac (zcy hx)) hB)).setCell h.low.1 _,h.low⟩
theorem zjr.pushR{B:Nat}{w3:World}{rs':List zah}{ps':List (Value × Value × Value)}(h:zjr B w0 w sb sr mb mv1 mv2 av fv rv wd xs fs rs ps)(hs:zas rv.ownBlock.toList w w3)(hn:zcv B w3 v' rs' ps')(hB:B<=w.heap.size):zjr B w0 (w3.setCell ⟨sb,3,none⟩ v') sb sr mb mv1 mv2 av fv v' wd xs fs rs' ps':=by
 have hM:OfT w 207 rv.ownBlock.toList:=OfT.own h.rul.own
 have hb3:=h.box.saveT hs hM (by decide)
 have hM2:=OfT.box hb3
 have hs2:zas [sb] w3 (w3.setCell ⟨sb,3,none⟩ v'):=zas.set _ _ _ _
 have hq:=hb3.set 3 v'
 exact⟨by simpa using hq,(h.res.saveT hs hM (by decide)).set_ne (Ne.symm h.low.2.2) _ _,(h.mak.saveT hs hM (by decide)).saveT hs2 hM2 (by decide),zaj (zaj h.ari hs hM (by decide)) hs2 hM2 (by decide),zaj (zaj h.fac hs hM (by decide)) hs2 hM2 (by decide),hn.saveT hs2 hM2 (by decide) (by decide) (by decide),(h.below.trans (hs.below (fun x hx=>zeg h.rul.own (zcy hx)) hB)).setCell h.low.1 _,h.low⟩
structure zkt (lo:Nat) (w:World) (av fv rv:Value) (S:zsb) (ps:List (Value × Value × Value)):Prop where
 ari:w.ownsRow lo 3 1 av S.qh.length (S.qh.map ivN)
 fac:znl lo w fv S.facts
 rul:zcv lo w rv S.rules ps
end Go.Proofs.YteampbddflhngaaGreat
