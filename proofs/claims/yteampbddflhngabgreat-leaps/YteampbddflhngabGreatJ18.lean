import Derived.Test.YteampbddflhngabGreatJ17

namespace Go.Proofs.YteampbddflhngabGreat
open Go.RowKit
variable {lo:Nat}
def OfT(w:World)(T:TypeId)(M:List Nat):Prop:=∀ b∈M,∃ c,Box w b c T
theorem OfT.own{w:World}{base:Nat}{e:TypeId}{size:Nat}{v:Value}{n:Nat}{xs:List Value}(h:w.ownsRow base e size v n xs):OfT w e v.ownBlock.toList:=fun _ hb=>zd8 h (zc1 hb)
theorem OfT.box{w:World}{b:Nat}{c:Array Value}{T:TypeId}(h:Box w b c T):OfT w T [b]:=fun x hx=>by simp at hx;subst hx;exact⟨c,h⟩
theorem zak{w w':World}{base:Nat}{e T:TypeId}{size:Nat}{v:Value}{n:Nat}{xs:List Value}{M:List Nat}(h:w.ownsRow base e size v n xs)(hs:zao M w w')(hM:OfT w T M)(hT:e≠T):w'.ownsRow base e size v n xs :=
 zbf h hs fun b hb hm=>by
  obtain⟨c,hc⟩:=hM b hm
  obtain⟨c',hc'⟩:=zd8 h hb
  exact hT (hc'.type hc)
theorem Box.saveT{w w':World}{b:Nat}{c:Array Value}{e T:TypeId}{M:List Nat}(h:Box w b c e)(hs:zao M w w')(hM:OfT w T M)(hT:e≠T):Box w' b c e :=
 h.save hs fun hm=>by
  obtain⟨c',hc'⟩:=hM b hm
  exact hT (h.type hc')
theorem zan.saveT{b0:Nat}{w w':World}{v:Value}{ts:List zbh}{T:TypeId}{M:List Nat}(h:zan b0 w v ts)(hs:zao M w w')(hM:OfT w T M)(hT:208≠T):zan b0 w' v ts:=⟨zak h.own hs hM hT,h.len,h.num⟩
theorem zbi.saveT{b0:Nat}{w w':World}{v:Value}{ls:List zai}{T:TypeId}{M:List Nat}(h:zbi b0 w v ls)(hs:zao M w w')(hM:OfT w T M)(hT:208≠T)(hn:∀ b,v.ownBlock=some b->b∉M):zbi b0 w' v ls:=by
 obtain⟨ps,h1,h2,h3,h4⟩:=h
 exact⟨ps,zbf h1 hs hn,h2,h3,fun k a b=>⟨(h4 k a b).1,(h4 k a b).2.1.saveT hs hM hT,(h4 k a b).2.2⟩⟩
theorem zbi.saveTT{b0:Nat}{w w':World}{v:Value}{ls:List zai}{T:TypeId}{M:List Nat}(h:zbi b0 w v ls)(hs:zao M w w')(hM:OfT w T M)(hT:208≠T)(hT2:147≠T):zbi b0 w' v ls:=by
 obtain⟨ps,h1,h2,h3,h4⟩:=h
 exact⟨ps,zak h1 hs hM hT2,h2,h3,fun k a b=>⟨(h4 k a b).1,(h4 k a b).2.1.saveT hs hM hT,(h4 k a b).2.2⟩⟩
theorem zdj.saveT{b0:Nat}{w w':World}{tv pv nv:Value}{r:zaf}{T:TypeId}{M:List Nat}(h:zdj b0 w tv pv nv r)(hs:zao M w w')(hM:OfT w T M)(hT:208≠T)(hT2:147≠T):zdj b0 w' tv pv nv r:=⟨h.head.saveT hs hM hT,h.plain.saveTT hs hM hT hT2,h.nots.saveTT hs hM hT hT2,h.small⟩
theorem zan.low{a b:Nat}{w:World}{v:Value}{ts:List zbh}(h:zan b w v ts)(hl:a<=b):zan a w v ts:=⟨zbb h.own hl,h.len,h.num⟩
theorem zbi.low{a b:Nat}{w:World}{v:Value}{ls:List zai}(h:zbi b w v ls)(hl:a<=b):zbi a w v ls:=by
 obtain⟨ps,h1,h2,h3,h4⟩:=h
 exact⟨ps,zbb h1 hl,h2,h3,fun k a b=>⟨(h4 k a b).1,(h4 k a b).2.1.low hl,(h4 k a b).2.2⟩⟩
theorem zdj.low{a b:Nat}{w:World}{tv pv nv:Value}{r:zaf}(h:zdj b w tv pv nv r)(hl:a<=b):zdj a w tv pv nv r:=⟨h.head.low hl,h.plain.low hl,h.nots.low hl,h.small⟩
theorem Box.up{w:World}{b:Nat}{c:Array Value}{T:TypeId}(h:Box w b c T)(o:Obj):Box (w.alloc o) b c T:=h.below ((Below.refl _ _).alloc (Nat.le_refl _) o)
theorem Box.at'{w:World}{b b':Nat}{c:Array Value}{T:TypeId}(h:Box w b c T)(e:b=b'):Box w b' c T:=e ▸ h
theorem Box.carry{W w1:World}{b:Nat}{c:Array Value}{T:TypeId}{G:Prop}(h:Box W b c T)(hb:Below W.heap.size W w1)(k:Box w1 b c T->G):G:=k (h.below hb)
set_option maxRecDepth 100000
set_option maxHeartbeats 4000000
theorem zcs.saveT{w w':World}{own:Nat->zay}{ρ:zay}{tb:Nat}{T:zad}{t:TypeId}{M:List Nat}(h:zcs lo w own ρ tb T)(hs:zao M w w')(hM:OfT w t M)(ht:NoT t):zcs lo w' own ρ tb T:=by
 obtain⟨fp,h1,h2⟩:=h
 refine⟨fp,h1.save hs fun x hx hm=>?_,h2⟩
 obtain⟨c,hc⟩:=hM x hm
 obtain⟨c',t',q,hn⟩:=h1.typed x hx
 rw[q.type hc] at hn
 exact hn ht
theorem z4z(w:World)(own:Nat->zay)(ρ:zay)(tb:Nat)(T:zad)(x y z m:Nat)(h:zcs lo w own ρ tb T)(hok:okT T=true) :
  Calls Tryz.prog 104 #[.pointer (some ⟨tb,0,none⟩),.agg #[.int .i64 x,.int .i64 y,.int .i64 z],.int .i64 m] w fun e w'=>e=.returned (.bool (zfh T [x,y,z] m).2)/\zcs lo w' (ext own w.heap.size ρ) ρ tb (zfh T [x,y,z] m).1/\Mod lo (onT (·=ρ)) w own w' (ext own w.heap.size ρ):=by
 obtain⟨fp,h1,h2⟩:=h
 simp only[okT,Bool.and_eq_true,decide_eq_true_eq] at hok
 refine(z5a w tb T fp x y z m h1 hok.1 hok.2).mono ?_
 rintro e w' ⟨rfl,fp',hw⟩
 exact⟨rfl,hw.mod h1 h2⟩
theorem z2i(w:World)(own:Nat->zay)(ρ:zay)(tb:Nat)(T:zad)(n:Nat)(rs:List zaq)(h:zcs lo w own ρ tb T)(hr:rowsG n T=some rs) :
  Calls Tryz.prog 51 #[.pointer (some ⟨tb,0,none⟩)] w fun e w'=>∃ v,e=.returned v/\RowsIn w.heap.size w' v rs/\Below w.heap.size w w':=by
 obtain⟨fp,h1,_⟩:=h
 unfold rowsG at hr
 cases hf:zq5 n T with
 |none=>rw[hf] at hr;cases hr
 |some rs' =>
  rw[hf] at hr
  simp only at hr
  split at hr
  ·simp only[Option.some.injEq] at hr
   subst hr
   exact zw4 w tb T fp h1 n rs' hf (by assumption)
  ·cases hr
theorem RowsIn.cell{b0:Nat}{w:World}{v:Value}{rs:List zaq}(h:RowsIn b0 w v rs)(k:Nat)(hk:k < rs.length):∃ g cap x y z,v=.slice (some ⟨g,0,none⟩) rs.length cap/\g < w.heap.size/\rs[k]=[x,y,z]/\w.cell? ⟨g,k * 3,none⟩=some (.int .i64 (x:Nat))/\w.cell? ⟨g,k * 3+1,none⟩=some (.int .i64 (y:Nat))/\w.cell? ⟨g,k * 3+2,none⟩=some (.int .i64 (z:Nat)):=by
 obtain⟨h1,h2⟩:=h
 obtain⟨g,cap,hv,_,hg,hc⟩:=zas h1 (by omega)
 obtain⟨x,y,z,e⟩:∃ x y z,rs[k]=[x,y,z]:=by
  have:=h2 rs[k] (List.getElem_mem hk)
  match hq:rs[k],this with
  |[x,y,z],_=>exact⟨x,y,z,rfl⟩
 have key:∀(rs:List zaq) (k:Nat) (hk:k < rs.length),(∀ r∈rs,r.length=3)->rs[k]=[x,y,z]->(zc4 rs)[k * 3]?=some (.int .i64 (x:Nat))/\(zc4 rs)[k * 3+1]?=some (.int .i64 (y:Nat))/\(zc4 rs)[k * 3+2]?=some (.int .i64 (z:Nat)):=by
  intro rs
  induction rs with
  |nil=>intro k hk;simp at hk
  |cons r l ih =>
   intro k hk ha he
   match k,hk,he with
   |0,_,he=>simp only[List.getElem_cons_zero] at he;subst he;simp[zc4,ivN]
   |k+1,hk,he =>
    have h3:=ha r (by simp)
    match hr:r,h3 with
    |[a,b,c],_ =>
     have:=ih k (by simpa using hk) (fun q hq=>ha q (by simp[hq])) (by simpa using he)
     simp only[zc4,List.flatMap_cons] at this ⊢
     rw[show(k+1) * 3=k * 3+1+1+1 from by omega,show k * 3+1+1+1+1=k * 3+1+1+1+1 from rfl,show k * 3+1+1+1+2=k * 3+2+1+1+1 from by omega]
     simpa using this
 obtain⟨q0,q1,q2⟩:=key rs k hk h2 e
 exact⟨g,cap,x,y,z,hv,hg,e,hc _ _ q0,hc _ _ q1,hc _ _ q2⟩
structure zfz where
 tv:Value
 bb:Nat
 fb:Nat
 ab:Nat
def pt(b:Nat):Value:=.pointer (some ⟨b,0,none⟩)
def zcw(wd:Nat)(V:zco)(P:zfz):List Value:=[.int .i64 (V.lit.pred:Nat),P.tv,.int .i64 (wd:Nat),pt P.bb,pt P.fb,pt P.ab]
structure zf0 (lo:Nat) (w:World) (own:Nat->zay) (k i:Nat) (V:zco) (P:zfz):Prop where
 terms:zan lo w P.tv V.lit.terms
 before:zcs lo w own (k+1,i,0) P.bb V.before
 fresh:zcs lo w own (k+1,i,1) P.fb V.fresh
 all:zcs lo w own (k+1,i,2) P.ab V.all
theorem zf0.mod{ok:TypeId->zay->Prop}{w w':World}{own own':Nat->zay}{k i:Nat}{V:zco}{P:zfz}(h:zf0 lo w own k i V P)(p:Mod lo ok w own w' own')(hr:∀ j t,¬ NoT t->¬ ok t (k+1,i,j))(ht:∀ ρ,¬ ok 208 ρ):zf0 lo w' own' k i V P :=
 ⟨h.terms.mod p ht,h.before.mod p (hr 0),h.fresh.mod p (hr 1),h.all.mod p (hr 2)⟩
theorem zf0.below{w w':World}{own:Nat->zay}{k i:Nat}{V:zco}{P:zfz}(h:zf0 lo w own k i V P)(hb:Below w.heap.size w w'):zf0 lo w' own k i V P:=h.mod (Mod.of (ok:=fun _ _=>False) own hb) (fun _ _ _=>id) (fun _=>id)
theorem zf0.saveT{w w':World}{own:Nat->zay}{k i:Nat}{V:zco}{P:zfz}{t:TypeId}{M:List Nat}(h:zf0 lo w own k i V P)(hs:zao M w w')(hM:OfT w t M)(ht:NoT t)(hT:208≠t):zf0 lo w' own k i V P:=⟨h.terms.saveT hs hM hT,h.before.saveT hs hM ht,h.fresh.saveT hs hM ht,h.all.saveT hs hM ht⟩
def z5q(lo:Nat)(w:World)(own:Nat->zay)(k i wd:Nat)(tv:Value)(l:zai)(e:Ending)(w':World):Prop:=∃ P own',P.tv=tv/\e=.returned (.agg (zcw wd (zep wd l) P).toArray)/\zf0 lo w' own' k i (zep wd l) P/\(∀ b,b < w.heap.size->own' b=own b)/\Below w.heap.size w w'
theorem zr3(l:zai):za7 l<=5:=by
 unfold za7
 have:=List.countP_le_length (p:=zc8 l) (l:=List.range 5)
 simpa using this
theorem zu9(w:World)(own:Nat->zay)(k i:Nat)(l:zai)(tv:Value)(wd:Nat)(h:zan lo w tv l.terms)(hl:lo<=w.heap.size)(hwd:wd<=1000) :
  Calls Tryz.prog 134 #[.agg #[.int .i64 (l.pred:Nat),tv],.int .i64 wd] w fun e w'=>z5q lo w own k i wd tv l e w':=by
 obtain⟨ao,cap,rfl⟩:=h.shape
 have HD:Hid (∀ W,Below w.heap.size w W->Calls Tryz.prog 141 #[.agg #[.int .i64 (l.pred:Nat),.slice ao l.terms.length cap]] W fun e w'=>e=.returned (.int .i64 (za7 l:Nat))/\Below W.heap.size W w'):=fun W hW=>zr4 W _ l.pred l.terms (h.below hW)
 have HT:Hid (zan lo w (.slice ao l.terms.length cap) l.terms):=h
 have HVN:Hid (zep wd l=⟨l,zfp wd (za7 l),zfp wd (za7 l),zfp wd (za7 l)⟩):=rfl
 have hdl:=zr3 l
 have HN:Hid (∀ W,Calls Tryz.prog 74 #[.int .i64 wd,.int .i64 (za7 l:Nat)] W fun e w'=>∃ tb fp,e=.returned (.pointer (some ⟨tb,0,none⟩))/\zar W.heap.size w' tb (zfp wd (za7 l)) fp/\Below W.heap.size W w'):=fun W=>zq9 W wd (za7 l) hwd (by omega)
 have HL:Hid (lo<=w.heap.size):=hl
 clear h hl hdl
 have hb5:=Box.new ((w.alloc (.cells #[.int .i64 (l.pred:Nat),.slice ao l.terms.length cap] 147)).alloc (.cells #[.int .i64 0,.slice none 0 0,.int .i64 0,.pointer none,.pointer none,.pointer none] 223)) #[.int .i64 (l.pred:Nat),.slice ao l.terms.length cap,.int .i64 (wd:Nat),.pointer none,.pointer none,.pointer none] 223
 have hb4:=(Box.new (w.alloc (.cells #[.int .i64 (l.pred:Nat),.slice ao l.terms.length cap] 147)) #[.int .i64 0,.slice none 0 0,.int .i64 0,.pointer none,.pointer none,.pointer none] 223).below ((Below.refl _ _).alloc (Nat.le_refl _) (.cells #[.int .i64 (l.pred:Nat),.slice ao l.terms.length cap,.int .i64 (wd:Nat),.pointer none,.pointer none,.pointer none] 223))
 simp only[World.size_alloc] at hb5 hb4
 generalize za7 l=dl at *
 go_enter Tryz.func134,Tryz.ntmps134
 go_upto_region 3 with (first|(go_at_call 141;refine(HD.out _ (by exact(by go_grown))).mono ?_;rintro e w1 ⟨rfl,hb1⟩;have hB1:Below w.heap.size w w1:=(zae (by go_grown) hb1 (Nat.le_refl _));have h51:=hb5.below hb1;have h41:=hb4.below hb1))
 clear hb5 hb4 hb1
 have hl1:lo<=w1.heap.size:=by have:=HL.out;have:=hB1.size;omega
 obtain⟨h5c,h5f⟩:=h51.rules
 have h5l:=h51.lt
 have hz1:=hB1.size
 have hT1:Hid (zan lo w1 _ l.terms):=HT.out.below hB1
 go_upto_region 4 with (first|(go_at_call 74;refine(HN.out _).mono ?_;rintro e w2 ⟨t1,fp1,rfl,ht1,hb2⟩;have h52:=h51.below hb2;have h42:=h41.below hb2;obtain⟨h52c,h52f⟩:=h52.rules;have h52l:=h52.lt))
 have hA2:=(zar.new own (k+1,i,0) ht1 hl1).set h52 (by decide) 3 (pt t1)
 have hs2:zao [w.heap.size+1+1] w2 (w2.setCell ⟨w.heap.size+1+1,3,none⟩ (pt t1)):=zao.set _ _ _ _
 have hT2:Hid (zan lo _ _ l.terms):=(hT1.out.below hb2).saveT hs2 (OfT.box h52) (by decide)
 have h53:Box (w2.setCell ⟨w.heap.size+1+1,3,none⟩ (pt t1)) (w.heap.size+1+1) #[.int .i64 (l.pred:Nat),.slice ao l.terms.length cap,.int .i64 (wd:Nat),.pointer (some ⟨t1,0,none⟩),.pointer none,.pointer none] 223:=by have q:=h52.set 3 (pt t1);simpa [pt] using q
 have h43:=h42.set_ne (show w.heap.size+1≠w.heap.size+1+1 by omega) 3 (pt t1)
 have hB3:Below w.heap.size w (w2.setCell ⟨w.heap.size+1+1,3,none⟩ (pt t1)):=(zae hB1 hb2 (Nat.le_refl _)).setCell (by simp;omega) _
 have hz2:(w2.setCell ⟨w.heap.size+1+1,3,none⟩ (pt t1)).heap.size=w2.heap.size:=by simp[World.setCell]
 have hlow2:w1.heap.size<=w2.heap.size:=hb2.size
 generalize hown1:ext own w1.heap.size (k+1,i,0)=own1 at *
 have hold1:∀ b,b < w.heap.size->own1 b=own b:=fun b hb=>by rw[← hown1];exact zf4 _ _ _ _ (by omega)
 have hpt:pt t1=.pointer (some ⟨t1,0,none⟩):=rfl
 rw[hpt] at hA2 hs2 hT2 h53 h43 hB3 hz2
 generalize w2.setCell ⟨w.heap.size+1+1,3,none⟩ (.pointer (some ⟨t1,0,none⟩))=w3 at *
 clear hown1 ht1 hb2 h52 h42 h52c h52f h52l h5c h5f h5l h51 h41 hT1 hs2 hpt
 have hl3:lo<=w3.heap.size:=by omega
 obtain⟨h5c,h5f⟩:=h53.rules
 have h5l:=h53.lt
 go_upto_region 5 with (first|(go_at_call 74;refine(HN.out _).mono ?_;rintro e w4 ⟨t2,fp2,rfl,ht2,hb4⟩;have h54:=h53.below hb4;have h44:=h43.below hb4;obtain⟨h54c,h54f⟩:=h54.rules;have h54l:=h54.lt))
 have hA4:=(hA2.mod (Mod.extNew (ok:=fun _ _=>False) own1 (k+1,i,1) hb4) (fun _ _=>id)).set h54 (by decide) 4 (.pointer (some ⟨t2,0,none⟩))
 have hF4:=(zar.new own1 (k+1,i,1) ht2 hl3).set h54 (by decide) 4 (.pointer (some ⟨t2,0,none⟩))
 have hs4:zao [w.heap.size+1+1] w4 (w4.setCell ⟨w.heap.size+1+1,4,none⟩ (.pointer (some ⟨t2,0,none⟩))):=zao.set _ _ _ _
 have hT4:Hid (zan lo _ _ l.terms):=(hT2.out.below hb4).saveT hs4 (OfT.box h54) (by decide)
 have h55:Box (w4.setCell ⟨w.heap.size+1+1,4,none⟩ (.pointer (some ⟨t2,0,none⟩))) (w.heap.size+1+1) #[.int .i64 (l.pred:Nat),.slice ao l.terms.length cap,.int .i64 (wd:Nat),.pointer (some ⟨t1,0,none⟩),.pointer (some ⟨t2,0,none⟩),.pointer none] 223:=by have q:=h54.set 4 (.pointer (some ⟨t2,0,none⟩));simpa using q
 have h45:=h44.set_ne (show w.heap.size+1≠w.heap.size+1+1 by omega) 4 (.pointer (some ⟨t2,0,none⟩))
 have hB5:Below w.heap.size w (w4.setCell ⟨w.heap.size+1+1,4,none⟩ (.pointer (some ⟨t2,0,none⟩))):=(zae hB3 hb4 (Nat.le_refl _)).setCell (by simp;omega) _
 have hz4:(w4.setCell ⟨w.heap.size+1+1,4,none⟩ (.pointer (some ⟨t2,0,none⟩))).heap.size=w4.heap.size:=by simp[World.setCell]
 have hlow4:w3.heap.size<=w4.heap.size:=hb4.size
 generalize hown2:ext own1 w3.heap.size (k+1,i,1)=own2 at *
 have hold2:∀ b,b < w.heap.size->own2 b=own b:=fun b hb=>by rw[← hown2,zf4 _ _ _ _ (by omega)];exact hold1 b hb
 generalize w4.setCell ⟨w.heap.size+1+1,4,none⟩ (.pointer (some ⟨t2,0,none⟩))=w5 at *
 clear hown2 ht2 hb4 h54 h44 h54c h54f h54l h5c h5f h5l h53 h43 hA2 hT2 hs4 hB3
 have hl5:lo<=w5.heap.size:=by omega
 obtain⟨h5c,h5f⟩:=h55.rules
 have h5l:=h55.lt
 go_upto_region 6 with (first|(go_at_call 74;refine(HN.out _).mono ?_;rintro e w6 ⟨t3,fp3,rfl,ht3,hb6⟩;have h56:=h55.below hb6;have h46:=h45.below hb6;obtain⟨h56c,h56f⟩:=h56.rules;have h56l:=h56.lt))
 have hA6:=(hA4.mod (Mod.extNew (ok:=fun _ _=>False) own2 (k+1,i,2) hb6) (fun _ _=>id)).set h56 (by decide) 5 (.pointer (some ⟨t3,0,none⟩))
 have hF6:=(hF4.mod (Mod.extNew (ok:=fun _ _=>False) own2 (k+1,i,2) hb6) (fun _ _=>id)).set h56 (by decide) 5 (.pointer (some ⟨t3,0,none⟩))
 have hL6:=(zar.new own2 (k+1,i,2) ht3 hl5).set h56 (by decide) 5 (.pointer (some ⟨t3,0,none⟩))
 have hs6:zao [w.heap.size+1+1] w6 (w6.setCell ⟨w.heap.size+1+1,5,none⟩ (.pointer (some ⟨t3,0,none⟩))):=zao.set _ _ _ _
 have hT6:Hid (zan lo _ _ l.terms):=(hT4.out.below hb6).saveT hs6 (OfT.box h56) (by decide)
 have h57:Box (w6.setCell ⟨w.heap.size+1+1,5,none⟩ (.pointer (some ⟨t3,0,none⟩))) (w.heap.size+1+1) #[.int .i64 (l.pred:Nat),.slice ao l.terms.length cap,.int .i64 (wd:Nat),.pointer (some ⟨t1,0,none⟩),.pointer (some ⟨t2,0,none⟩),.pointer (some ⟨t3,0,none⟩)] 223:=by have q:=h56.set 5 (.pointer (some ⟨t3,0,none⟩));simpa using q
 have h47:=h46.set_ne (show w.heap.size+1≠w.heap.size+1+1 by omega) 5 (.pointer (some ⟨t3,0,none⟩))
 have hB7:Below w.heap.size w (w6.setCell ⟨w.heap.size+1+1,5,none⟩ (.pointer (some ⟨t3,0,none⟩))):=(zae hB5 hb6 (Nat.le_refl _)).setCell (by simp;omega) _
 generalize hown3:ext own2 w5.heap.size (k+1,i,2)=own3 at *
 have hold3:∀ b,b < w.heap.size->own3 b=own b:=fun b hb=>by rw[← hown3,zf4 _ _ _ _ (by omega)];exact hold2 b hb
 generalize w6.setCell ⟨w.heap.size+1+1,5,none⟩ (.pointer (some ⟨t3,0,none⟩))=w7 at *
 clear hown3 ht3 hb6 h56 h46 h56c h56f h56l h5c h5f h5l h55 h45 hA4 hF4 hT4 hs6 hB5
 obtain⟨h5c,h5f⟩:=h57.rules
 have h5l:=h57.lt
 obtain⟨h4c,h4f⟩:=h47.rules
 have h4l:=h47.lt
 go_wp2
 (try simp only[Exit.inBlock,Exit.then])
 have hs8:zao [w.heap.size+1] w7 ((((((w7.setCell ⟨w.heap.size+1,0,none⟩ (.int .i64 (l.pred:Nat))).setCell ⟨w.heap.size+1,1,none⟩ (.slice ao l.terms.length cap)).setCell ⟨w.heap.size+1,2,none⟩ (.int .i64 (wd:Nat))).setCell ⟨w.heap.size+1,3,none⟩ (.pointer (some ⟨t1,0,none⟩))).setCell ⟨w.heap.size+1,4,none⟩ (.pointer (some ⟨t2,0,none⟩))).setCell ⟨w.heap.size+1,5,none⟩ (.pointer (some ⟨t3,0,none⟩))):=(((((zao.set _ _ _ _).trans (zao.set _ _ _ _)).trans (zao.set _ _ _ _)).trans (zao.set _ _ _ _)).trans (zao.set _ _ _ _)).trans (zao.set _ _ _ _)
 have hMr:=OfT.box h47
 refine bodyPost_ret (v:=.agg #[.int .i64 (l.pred:Nat),.slice ao l.terms.length cap,.int .i64 (wd:Nat),.pointer (some ⟨t1,0,none⟩),.pointer (some ⟨t2,0,none⟩),.pointer (some ⟨t3,0,none⟩)]) (by simp[results,Tryz.results134,go_sem,h4c]) rfl ⟨⟨.slice ao l.terms.length cap,t1,t2,t3⟩,own3,rfl,by rw[HVN.out];rfl,?_,hold3,?_⟩
 ·rw[HVN.out]
  exact⟨hT6.out.saveT hs8 hMr (by decide),hA6.saveT hs8 hMr (by decide),hF6.saveT hs8 hMr (by decide),hL6.saveT hs8 hMr (by decide)⟩
 ·exact(((((hB7.setCell (by simp) _).setCell (by simp) _).setCell (by simp) _).setCell (by simp) _).setCell (by simp) _).setCell (by simp) _
end Go.Proofs.YteampbddflhngabGreat
