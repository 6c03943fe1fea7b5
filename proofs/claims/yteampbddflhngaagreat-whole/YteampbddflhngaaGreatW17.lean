import Derived.Test.YteampbddflhngaaGreatW16

namespace Go.Proofs.YteampbddflhngaaGreat
set_option maxRecDepth 100000
set_option maxHeartbeats 4000000
open Go.RowKit
variable {lo:Nat}
theorem zcw.saveT{w w':World}{own:Nat->zay}{ρ:zay}{tb:Nat}{T:zad}{t:TypeId}{M:List Nat}(h:zcw lo w own ρ tb T)(hs:zas M w w')(hM:OfT w t M)(ht:NoT t):zcw lo w' own ρ tb T:=by
 obtain⟨fp,h1,h2⟩:=h
 refine⟨fp,h1.save hs fun x hx hm=>?_,h2⟩
 obtain⟨c,hc⟩:=hM x hm
 obtain⟨c',t',q,hn⟩:=h1.typed x hx
 rw[q.type hc] at hn
 exact hn ht
theorem z7a(w:World)(own:Nat->zay)(ρ:zay)(tb:Nat)(T:zad)(x y z m:Nat)(h:zcw lo w own ρ tb T)(hok:okT T=true) :
  Calls Tryz.prog 163 #[.pointer (some ⟨tb,0,none⟩),.agg #[.int .i64 x,.int .i64 y,.int .i64 z],.int .i64 m] w fun e w'=>e=.returned (.bool (zfo T [x,y,z] m).2)/\zcw lo w' (ext own w.heap.size ρ) ρ tb (zfo T [x,y,z] m).1/\Mod lo (onT (·=ρ)) w own w' (ext own w.heap.size ρ):=by
 obtain⟨fp,h1,h2⟩:=h
 simp only[okT,ubb,decide_eq_true_eq] at hok
 refine(z7b w tb T fp x y z m h1 hok.1 hok.2).mono ?_
 rintro e w' ⟨rfl,fp',hw⟩
 exact⟨rfl,hw.mod h1 h2⟩
theorem z4i(w:World)(own:Nat->zay)(ρ:zay)(tb:Nat)(T:zad)(n:Nat)(rs:List zao)(h:zcw lo w own ρ tb T)(hr:rowsG n T=some rs) :
  Calls Tryz.prog 78 #[.pointer (some ⟨tb,0,none⟩)] w fun e w'=>∃ v,e=.returned v/\RowsIn w.heap.size w' v rs/\Below w.heap.size w w':=by
 obtain⟨fp,h1,_⟩:=h
 unfold rowsG at hr
 cases hf:zr3 n T with
 |none=>rw[hf] at hr;cases hr
 |some rs' =>
  rw[hf] at hr
  simp only at hr
  split at hr
  ·simp only[uab] at hr
   subst hr
   exact zyc w tb T fp h1 n rs' hf (by assumption)
  ·cases hr
theorem RowsIn.cell{b0:Nat}{w:World}{v:Value}{rs:List zao}(h:RowsIn b0 w v rs)(k:Nat)(hk:k < rs.length):∃ g cap x y z,v=.slice (some ⟨g,0,none⟩) rs.length cap/\g < w.heap.size/\rs[k]=[x,y,z]/\w.cell? ⟨g,k * 3,none⟩=some (.int .i64 (x:Nat))/\w.cell? ⟨g,k * 3+1,none⟩=some (.int .i64 (y:Nat))/\w.cell? ⟨g,k * 3+2,none⟩=some (.int .i64 (z:Nat)):=by
 obtain⟨h1,h2⟩:=h
 obtain⟨g,cap,hv,_,hg,hc⟩:=zal h1 (by omega)
 obtain⟨x,y,z,e⟩:∃ x y z,rs[k]=[x,y,z]:=by
  have:=h2 rs[k] (uad hk)
  match hq:rs[k],this with
  |[x,y,z],_=>exact⟨x,y,z,rfl⟩
 have key:∀(rs:List zao) (k:Nat) (hk:k < rs.length),(∀ r∈rs,r.length=3)->rs[k]=[x,y,z]->(zda rs)[k * 3]?=some (.int .i64 (x:Nat))/\(zda rs)[k * 3+1]?=some (.int .i64 (y:Nat))/\(zda rs)[k * 3+2]?=some (.int .i64 (z:Nat)):=by
  intro rs
  induction rs with
  |nil=>intro k hk;simp at hk
  |cons r l ih =>
   intro k hk ha he
   match k,hk,he with
   |0,_,he=>simp only[ucw] at he;subst he;simp[zda,ivN]
   |k+1,hk,he =>
    have h3:=ha r (by simp)
    match hr:r,h3 with
    |[a,b,c],_ =>
     have:=ih k (by simpa using hk) (fun q hq=>ha q (by simp[hq])) (by simpa using he)
     simp only[zda,ua5] at this ⊢
     rw[show(k+1) * 3=k * 3+1+1+1 from by omega,show k * 3+1+1+1+1=k * 3+1+1+1+1 from rfl,show k * 3+1+1+1+2=k * 3+2+1+1+1 from by omega]
     simpa using this
 obtain⟨q0,q1,q2⟩:=key rs k hk h2 e
 exact⟨g,cap,x,y,z,hv,hg,e,hc _ _ q0,hc _ _ q1,hc _ _ q2⟩
structure zf6 where
 tv:Value
 bb:Nat
 fb:Nat
 ab:Nat
def pt(b:Nat):Value:=.pointer (some ⟨b,0,none⟩)
def zc1(wd:Nat)(V:zcs)(P:zf6):List Value:=[.int .i64 (V.lit.pred:Nat),P.tv,.int .i64 (wd:Nat),pt P.bb,pt P.fb,pt P.ab]
structure zf7 (lo:Nat) (w:World) (own:Nat->zay) (k i:Nat) (V:zcs) (P:zf6):Prop where
 qf:zaq lo w P.tv V.lit.qf
 before:zcw lo w own (k+1,i,0) P.bb V.before
 qo:zcw lo w own (k+1,i,1) P.fb V.qo
 all:zcw lo w own (k+1,i,2) P.ab V.all
theorem zf7.mod{ok:TypeId->zay->Prop}{w w':World}{own own':Nat->zay}{k i:Nat}{V:zcs}{P:zf6}(h:zf7 lo w own k i V P)(p:Mod lo ok w own w' own')(hr:∀ j t,¬ NoT t->¬ ok t (k+1,i,j))(ht:∀ ρ,¬ ok 284 ρ):zf7 lo w' own' k i V P :=
 ⟨h.qf.mod p ht,h.before.mod p (hr 0),h.qo.mod p (hr 1),h.all.mod p (hr 2)⟩
theorem zf7.below{w w':World}{own:Nat->zay}{k i:Nat}{V:zcs}{P:zf6}(h:zf7 lo w own k i V P)(hb:Below w.heap.size w w'):zf7 lo w' own k i V P:=h.mod (Mod.of (ok:=fun _ _=>False) own hb) (fun _ _ _=>id) (fun _=>id)
theorem zf7.saveT{w w':World}{own:Nat->zay}{k i:Nat}{V:zcs}{P:zf6}{t:TypeId}{M:List Nat}(h:zf7 lo w own k i V P)(hs:zas M w w')(hM:OfT w t M)(ht:NoT t)(hT:284≠t):zf7 lo w' own k i V P:=⟨h.qf.saveT hs hM hT,h.before.saveT hs hM ht,h.qo.saveT hs hM ht,h.all.saveT hs hM ht⟩
def z7u(lo:Nat)(w:World)(own:Nat->zay)(k i wd:Nat)(tv:Value)(l:zak)(e:Ending)(w':World):Prop:=∃ P own',P.tv=tv/\e=.returned (.agg (zc1 wd (zex wd l) P).toArray)/\zf7 lo w' own' k i (zex wd l) P/\(∀ b,b < w.heap.size->own' b=own b)/\Below w.heap.size w w'
theorem zs5(l:zak):zbb l<=5:=by
 unfold zbb
 have:=ucx (p:=zde l) (l:=List.range 5)
 simpa using this
theorem zwc(w:World)(own:Nat->zay)(k i:Nat)(l:zak)(tv:Value)(wd:Nat)(h:zaq lo w tv l.qf)(hl:lo<=w.heap.size)(hwd:wd<=1000) :
  Calls Tryz.prog 204 #[.agg #[.int .i64 (l.pred:Nat),tv],.int .i64 wd] w fun e w'=>z7u lo w own k i wd tv l e w':=by
 obtain⟨ao,cap,rfl⟩:=h.shape
 have HD:Hid (∀ W,Below w.heap.size w W->Calls Tryz.prog 212 #[.agg #[.int .i64 (l.pred:Nat),.slice ao l.qf.length cap]] W fun e w'=>e=.returned (.int .i64 (zbb l:Nat))/\Below W.heap.size W w'):=fun W hW=>zs6 W _ l.pred l.qf (h.below hW)
 have HT:Hid (zaq lo w (.slice ao l.qf.length cap) l.qf):=h
 have HVN:Hid (zex wd l=⟨l,zfv wd (zbb l),zfv wd (zbb l),zfv wd (zbb l)⟩):=rfl
 have hdl:=zs5 l
 have HN:Hid (∀ W,Calls Tryz.prog 119 #[.int .i64 wd,.int .i64 (zbb l:Nat)] W fun e w'=>∃ tb fp,e=.returned (.pointer (some ⟨tb,0,none⟩))/\zat W.heap.size w' tb (zfv wd (zbb l)) fp/\Below W.heap.size W w'):=fun W=>zr7 W wd (zbb l) hwd (by omega)
 have HL:Hid (lo<=w.heap.size):=hl
 clear h hl hdl
 have hb5:=Box.new ((w.alloc (.cells #[.int .i64 (l.pred:Nat),.slice ao l.qf.length cap] 204)).alloc (.cells #[.int .i64 0,.slice none 0 0,.int .i64 0,.pointer none,.pointer none,.pointer none] 301)) #[.int .i64 (l.pred:Nat),.slice ao l.qf.length cap,.int .i64 (wd:Nat),.pointer none,.pointer none,.pointer none] 301
 have hb4:=(Box.new (w.alloc (.cells #[.int .i64 (l.pred:Nat),.slice ao l.qf.length cap] 204)) #[.int .i64 0,.slice none 0 0,.int .i64 0,.pointer none,.pointer none,.pointer none] 301).below ((Below.refl _ _).alloc (uaa _) (.cells #[.int .i64 (l.pred:Nat),.slice ao l.qf.length cap,.int .i64 (wd:Nat),.pointer none,.pointer none,.pointer none] 301))
 simp only[World.size_alloc] at hb5 hb4
 generalize zbb l=dl at *
 go_enter Tryz.func204,Tryz.ntmps204
 go_upto_region 3 with (first|(go_at_call 212;refine(HD.out _ (by exact(by go_grown))).mono ?_;rintro e w1 ⟨rfl,hb1⟩;have hB1:Below w.heap.size w w1:=(zae (by go_grown) hb1 (uaa _));have h51:=hb5.below hb1;have h41:=hb4.below hb1))
 clear hb5 hb4 hb1
 have hl1:lo<=w1.heap.size:=by have:=HL.out;have:=hB1.size;omega
 obtain⟨h5c,h5f⟩:=h51.rules
 have h5l:=h51.lt
 have hz1:=hB1.size
 have hT1:Hid (zaq lo w1 _ l.qf):=HT.out.below hB1
 go_upto_region 4 with (first|(go_at_call 119;refine(HN.out _).mono ?_;rintro e w2 ⟨t1,fp1,rfl,ht1,hb2⟩;have h52:=h51.below hb2;have h42:=h41.below hb2;obtain⟨h52c,h52f⟩:=h52.rules;have h52l:=h52.lt))
 have hA2:=(zat.new own (k+1,i,0) ht1 hl1).set h52 (by decide) 3 (pt t1)
 have hs2:zas [w.heap.size+1+1] w2 (w2.setCell ⟨w.heap.size+1+1,3,none⟩ (pt t1)):=zas.set _ _ _ _
 have hT2:Hid (zaq lo _ _ l.qf):=(hT1.out.below hb2).saveT hs2 (OfT.box h52) (by decide)
 have h53:Box (w2.setCell ⟨w.heap.size+1+1,3,none⟩ (pt t1)) (w.heap.size+1+1) #[.int .i64 (l.pred:Nat),.slice ao l.qf.length cap,.int .i64 (wd:Nat),.pointer (some ⟨t1,0,none⟩),.pointer none,.pointer none] 301:=by have q:=h52.set 3 (pt t1);simpa [pt] using q
 have h43:=h42.set_ne (show w.heap.size+1≠w.heap.size+1+1 by omega) 3 (pt t1)
 have hB3:Below w.heap.size w (w2.setCell ⟨w.heap.size+1+1,3,none⟩ (pt t1)):=(zae hB1 hb2 (uaa _)).setCell (by simp;omega) _
 have hz2:(w2.setCell ⟨w.heap.size+1+1,3,none⟩ (pt t1)).heap.size=w2.heap.size:=by simp[World.setCell]
 have hlow2:w1.heap.size<=w2.heap.size:=hb2.size
 generalize hown1:ext own w1.heap.size (k+1,i,0)=own1 at *
 have hold1:∀ b,b < w.heap.size->own1 b=own b:=fun b hb=>by rw[← hown1];exact zgb _ _ _ _ (by omega)
 have hpt:pt t1=.pointer (some ⟨t1,0,none⟩):=rfl
 rw[hpt] at hA2 hs2 hT2 h53 h43 hB3 hz2
 generalize w2.setCell ⟨w.heap.size+1+1,3,none⟩ (.pointer (some ⟨t1,0,none⟩))=w3 at *
 clear hown1 ht1 hb2 h52 h42 h52c h52f h52l h5c h5f h5l h51 h41 hT1 hs2 hpt
 have hl3:lo<=w3.heap.size:=by omega
 obtain⟨h5c,h5f⟩:=h53.rules
 have h5l:=h53.lt
 go_upto_region 5 with (first|(go_at_call 119;refine(HN.out _).mono ?_;rintro e w4 ⟨t2,fp2,rfl,ht2,hb4⟩;have h54:=h53.below hb4;have h44:=h43.below hb4;obtain⟨h54c,h54f⟩:=h54.rules;have h54l:=h54.lt))
 have hA4:=(hA2.mod (Mod.extNew (ok:=fun _ _=>False) own1 (k+1,i,1) hb4) (fun _ _=>id)).set h54 (by decide) 4 (.pointer (some ⟨t2,0,none⟩))
 have hF4:=(zat.new own1 (k+1,i,1) ht2 hl3).set h54 (by decide) 4 (.pointer (some ⟨t2,0,none⟩))
 have hs4:zas [w.heap.size+1+1] w4 (w4.setCell ⟨w.heap.size+1+1,4,none⟩ (.pointer (some ⟨t2,0,none⟩))):=zas.set _ _ _ _
 have hT4:Hid (zaq lo _ _ l.qf):=(hT2.out.below hb4).saveT hs4 (OfT.box h54) (by decide)
 have h55:Box (w4.setCell ⟨w.heap.size+1+1,4,none⟩ (.pointer (some ⟨t2,0,none⟩))) (w.heap.size+1+1) #[.int .i64 (l.pred:Nat),.slice ao l.qf.length cap,.int .i64 (wd:Nat),.pointer (some ⟨t1,0,none⟩),.pointer (some ⟨t2,0,none⟩),.pointer none] 301:=by have q:=h54.set 4 (.pointer (some ⟨t2,0,none⟩));simpa using q
 have h45:=h44.set_ne (show w.heap.size+1≠w.heap.size+1+1 by omega) 4 (.pointer (some ⟨t2,0,none⟩))
 have hB5:Below w.heap.size w (w4.setCell ⟨w.heap.size+1+1,4,none⟩ (.pointer (some ⟨t2,0,none⟩))):=(zae hB3 hb4 (uaa _)).setCell (by simp;omega) _
 have hz4:(w4.setCell ⟨w.heap.size+1+1,4,none⟩ (.pointer (some ⟨t2,0,none⟩))).heap.size=w4.heap.size:=by simp[World.setCell]
 have hlow4:w3.heap.size<=w4.heap.size:=hb4.size
 generalize hown2:ext own1 w3.heap.size (k+1,i,1)=own2 at *
 have hold2:∀ b,b < w.heap.size->own2 b=own b:=fun b hb=>by rw[← hown2,zgb _ _ _ _ (by omega)];exact hold1 b hb
 generalize w4.setCell ⟨w.heap.size+1+1,4,none⟩ (.pointer (some ⟨t2,0,none⟩))=w5 at *
 clear hown2 ht2 hb4 h54 h44 h54c h54f h54l h5c h5f h5l h53 h43 hA2 hT2 hs4 hB3
 have hl5:lo<=w5.heap.size:=by omega
 obtain⟨h5c,h5f⟩:=h55.rules
 have h5l:=h55.lt
 go_upto_region 6 with (first|(go_at_call 119;refine(HN.out _).mono ?_;rintro e w6 ⟨t3,fp3,rfl,ht3,hb6⟩;have h56:=h55.below hb6;have h46:=h45.below hb6;obtain⟨h56c,h56f⟩:=h56.rules;have h56l:=h56.lt))
 have hA6:=(hA4.mod (Mod.extNew (ok:=fun _ _=>False) own2 (k+1,i,2) hb6) (fun _ _=>id)).set h56 (by decide) 5 (.pointer (some ⟨t3,0,none⟩))
 have hF6:=(hF4.mod (Mod.extNew (ok:=fun _ _=>False) own2 (k+1,i,2) hb6) (fun _ _=>id)).set h56 (by decide) 5 (.pointer (some ⟨t3,0,none⟩))
 have hL6:=(zat.new own2 (k+1,i,2) ht3 hl5).set h56 (by decide) 5 (.pointer (some ⟨t3,0,none⟩))
 have hs6:zas [w.heap.size+1+1] w6 (w6.setCell ⟨w.heap.size+1+1,5,none⟩ (.pointer (some ⟨t3,0,none⟩))):=zas.set _ _ _ _
 have hT6:Hid (zaq lo _ _ l.qf):=(hT4.out.below hb6).saveT hs6 (OfT.box h56) (by decide)
 have h57:Box (w6.setCell ⟨w.heap.size+1+1,5,none⟩ (.pointer (some ⟨t3,0,none⟩))) (w.heap.size+1+1) #[.int .i64 (l.pred:Nat),.slice ao l.qf.length cap,.int .i64 (wd:Nat),.pointer (some ⟨t1,0,none⟩),.pointer (some ⟨t2,0,none⟩),.pointer (some ⟨t3,0,none⟩)] 301:=by have q:=h56.set 5 (.pointer (some ⟨t3,0,none⟩));simpa using q
 have h47:=h46.set_ne (show w.heap.size+1≠w.heap.size+1+1 by omega) 5 (.pointer (some ⟨t3,0,none⟩))
 have hB7:Below w.heap.size w (w6.setCell ⟨w.heap.size+1+1,5,none⟩ (.pointer (some ⟨t3,0,none⟩))):=(zae hB5 hb6 (uaa _)).setCell (by simp;omega) _
 generalize hown3:ext own2 w5.heap.size (k+1,i,2)=own3 at *
 have hold3:∀ b,b < w.heap.size->own3 b=own b:=fun b hb=>by rw[← hown3,zgb _ _ _ _ (by omega)];exact hold2 b hb
 generalize w6.setCell ⟨w.heap.size+1+1,5,none⟩ (.pointer (some ⟨t3,0,none⟩))=w7 at *
 clear hown3 ht3 hb6 h56 h46 h56c h56f h56l h5c h5f h5l h55 h45 hA4 hF4 hT4 hs6 hB5
 obtain⟨h5c,h5f⟩:=h57.rules
 have h5l:=h57.lt
 obtain⟨h4c,h4f⟩:=h47.rules
 have h4l:=h47.lt
 go_wp2
 (try simp only[Exit.inBlock,Exit.then])
 have hs8:zas [w.heap.size+1] w7 ((((((w7.setCell ⟨w.heap.size+1,0,none⟩ (.int .i64 (l.pred:Nat))).setCell ⟨w.heap.size+1,1,none⟩ (.slice ao l.qf.length cap)).setCell ⟨w.heap.size+1,2,none⟩ (.int .i64 (wd:Nat))).setCell ⟨w.heap.size+1,3,none⟩ (.pointer (some ⟨t1,0,none⟩))).setCell ⟨w.heap.size+1,4,none⟩ (.pointer (some ⟨t2,0,none⟩))).setCell ⟨w.heap.size+1,5,none⟩ (.pointer (some ⟨t3,0,none⟩))):=(((((zas.set _ _ _ _).trans (zas.set _ _ _ _)).trans (zas.set _ _ _ _)).trans (zas.set _ _ _ _)).trans (zas.set _ _ _ _)).trans (zas.set _ _ _ _)
 have hMr:=OfT.box h47
 refine bodyPost_ret (v:=.agg #[.int .i64 (l.pred:Nat),.slice ao l.qf.length cap,.int .i64 (wd:Nat),.pointer (some ⟨t1,0,none⟩),.pointer (some ⟨t2,0,none⟩),.pointer (some ⟨t3,0,none⟩)]) (by simp[results,Tryz.results204,go_sem,h4c]) rfl ⟨⟨.slice ao l.qf.length cap,t1,t2,t3⟩,own3,rfl,by rw[HVN.out];rfl,?_,hold3,?_⟩
 ·rw[HVN.out]
  exact⟨hT6.out.saveT hs8 hMr (by decide),hA6.saveT hs8 hMr (by decide),hF6.saveT hs8 hMr (by decide),hL6.saveT hs8 hMr (by decide)⟩
 ·exact(((((hB7.setCell (by simp) _).setCell (by simp) _).setCell (by simp) _).setCell (by simp) _).setCell (by simp) _).setCell (by simp) _
end Go.Proofs.YteampbddflhngaaGreat
