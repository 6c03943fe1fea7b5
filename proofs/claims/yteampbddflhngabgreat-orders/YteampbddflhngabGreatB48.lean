import Derived.Test.YteampbddflhngabGreatB47
import Derived.Test.YteampbddflhngabGreatB45
import Derived.Test.YteampbddflhngabGreatB44
import Derived.Test.YteampbddflhngabGreatB09
import Derived.Test.YteampbddflhngabGreatB05
import Derived.Test.YteampbddflhngabGreatB10
import Derived.Deep.OwnRows

namespace Go.Proofs.YteampbddflhngabGreat
set_option maxRecDepth 100000
set_option maxHeartbeats 4000000
open Go.RowKit
theorem factCs_get:∀ (fs:List FactT)(gs:List Nat)(i c:Nat)(h:i < fs.length)(h2:i < gs.length),c < 3->(factCs fs gs)[i * 3+c]?=(factC fs[i] gs[i])[c]?
 |f::fs,g::gs,0,c,_,_,hc=>by
  have e:factCs(f::fs)(g::gs)=factC f g++factCs fs gs:=by simp [factCs]
  rw [e,List.getElem?_append_left(by simp [factC];omega)]
  simp
 |f::fs,g::gs,i+1,c,h,h2,hc=>by
  have e:factCs(f::fs)(g::gs)=factC f g++factCs fs gs:=by simp [factCs]
  have l:(factC f g).length=3:=by simp [factC]
  rw [e,List.getElem?_append_right(by rw [l];omega),l,show(i+1) * 3+c - 3=i * 3+c by omega]
  exact factCs_get fs gs i c(by simpa using h)(by simpa using h2) hc
theorem OutOK.facts{B:Nat}{w:World}{v:Value}{fs:List FactT}{gs:List Nat}(h:OutOK B w v fs gs):FactsAt w v fs:=by
 by_cases h0:0 < fs.length
 ·obtain⟨g,cap,hv,_,hg,hc⟩:=own_cells h.own h0
  refine⟨_,cap,hv,fun i hi=>?_⟩
  have hi2:i < gs.length:=by rw [h.len];exact hi
  refine⟨g,gs[i],B,rfl,hg,hc(i * 3) _ ?_,hc(i * 3+1) _ ?_,hc(i * 3+2) _ ?_,h.rows i hi hi2⟩
  ·rw [show i * 3=i * 3+0 from rfl,factCs_get _ _ _ _ hi hi2(by omega)];rfl
  ·rw [factCs_get _ _ _ _ hi hi2(by omega)];rfl
  ·rw [factCs_get _ _ _ _ hi hi2(by omega)];rfl
 ·obtain⟨ao,cap,hv⟩:=own_view h.own
  exact⟨ao,cap,hv,fun i hi=>absurd hi(by omega)⟩
theorem facts_len{t:List PEnt}{ns:List ByteArray}{R:PRun}(h:Told t ns R):∀ f∈factsK t ns R t.length,f.2.1.length<=3:=by
 intro f hf
 unfold factsK at hf
 obtain⟨p,hp,hq⟩:=List.mem_flatMap.1 hf
 obtain⟨r,_,rfl⟩:=List.mem_map.1 hq
 simp only [factP,termsK_len]
 exact(h.ar(List.mem_range.1 hp)).1
def AlikeF(fa fb:List FactT):Prop:=fa.length=fb.length/\∀ i(_:i < fa.length),∃ k,∃ _:k < fb.length,findF fa[i].1 fa[i].2.1 fb=some k/\fb[k].2.2=fa[i].2.2
theorem kalike_any{lo lp lq lo2 lp2 lq2:Nat}(w:World)(pb rb qb sb:Nat)(cs cs2:List PClause)(t t2:List PEnt)(ns ns2:List ByteArray)(R R2:PRun)(pv nv rv pv2 nv2 rv2:Value)(tbs tbs2:List Nat)(hP:PProg lq w pb cs t)(hR:ResO lo lp w rb t ns R pv nv rv tbs)(hT:Told t ns R)(hmany:(factsK t ns R t.length).length<=10000000)(hP2:PProg lq2 w qb cs2 t2)(hR2:ResO lo2 lp2 w sb t2 ns2 R2 pv2 nv2 rv2 tbs2)(hT2:Told t2 ns2 R2)(hmany2:(factsK t2 ns2 R2 t2.length).length<=10000000)(hal:AlikeF(factsK t ns R t.length)(factsK t2 ns2 R2 t2.length))(hct:R.count=R2.count)(hrd:R.rounds=R2.rounds) :
  Calls Tryz.prog 35 #[.pointer(some⟨pb,0,none⟩),.pointer(some⟨rb,0,none⟩),.pointer(some⟨qb,0,none⟩),.pointer(some⟨sb,0,none⟩)] w fun e w'=>e=.returned(.bool true)/\Below w.heap.size w w':=by
 have H1:Hid(Calls Tryz.prog 25 #[.pointer(some⟨pb,0,none⟩),.pointer(some⟨rb,0,none⟩)] w fun e w'=>∃ ao cap,e=.returned(.tuple #[.slice ao(factsK t ns R t.length).length cap,.bool true])/\Hid(FactsAt w'(.slice ao(factsK t ns R t.length).length cap)(factsK t ns R t.length))/\Hid(Below w.heap.size w w')):=by
  refine(kfacts_any w pb rb cs t ns R pv nv rv tbs hP hR hT hmany).mono ?_
  rintro e w'⟨v,gs,h1,h2,h3⟩
  have h4:=h2.facts
  obtain⟨ao,cap,rfl,_⟩:=id h4
  exact⟨ao,cap,h1,h4,h3⟩
 have H2:Hid(∀ W,Below w.heap.size w W->Calls Tryz.prog 25 #[.pointer(some⟨qb,0,none⟩),.pointer(some⟨sb,0,none⟩)] W fun e w'=>∃ ao cap,e=.returned(.tuple #[.slice ao(factsK t2 ns2 R2 t2.length).length cap,.bool true])/\Hid(FactsAt w'(.slice ao(factsK t2 ns2 R2 t2.length).length cap)(factsK t2 ns2 R2 t2.length))/\Hid(Below W.heap.size W w')):=fun W hb=>by
  refine(kfacts_any W qb sb cs2 t2 ns2 R2 pv2 nv2 rv2 tbs2(hP2.below hb)(hR2.below hb) hT2 hmany2).mono ?_
  rintro e w'⟨v,gs,h1,h2,h3⟩
  have h4:=h2.facts
  obtain⟨ao,cap,rfl,_⟩:=id h4
  exact⟨ao,cap,h1,h4,h3⟩
 have HC1:Hid(∀ W,Below w.heap.size w W->Calls Tryz.prog 36 #[.pointer(some⟨rb,0,none⟩)] W fun e w'=>e=.returned(.tuple #[.int .i64(R.count:Nat),.int .i64(R.rounds:Nat),.int .i64 R.moves])/\Hid(Below w.heap.size w w')):=fun W hb=>by
  refine(counts_any W rb pv nv rv R(hR.below hb).box).mono ?_
  rintro e w'⟨h1,m,rfl⟩
  exact⟨h1,bdrewN hb _⟩
 have HC2:Hid(∀ W,Below w.heap.size w W->Calls Tryz.prog 36 #[.pointer(some⟨sb,0,none⟩)] W fun e w'=>e=.returned(.tuple #[.int .i64(R.count:Nat),.int .i64(R.rounds:Nat),.int .i64 R2.moves])/\Hid(Below w.heap.size w w')):=fun W hb=>by
  rw [hct,hrd]
  refine(counts_any W sb pv2 nv2 rv2 R2(hR2.below hb).box).mono ?_
  rintro e w'⟨h1,m,rfl⟩
  exact⟨h1,bdrewN hb _⟩
 have HL1:Hid(∀ f∈factsK t ns R t.length,f.2.1.length<=3):=facts_len hT
 have HL2:Hid(∀ f∈factsK t2 ns2 R2 t2.length,f.2.1.length<=3):=facts_len hT2
 clear hP hR hT hP2 hR2 hT2 hct hrd
 generalize factsK t ns R t.length=fa at *
 generalize factsK t2 ns2 R2 t2.length=fb at *
 have HAL:Hid(AlikeF fa fb):=hal
 have hlen:fb.length=fa.length:=hal.1.symm
 rw [hlen] at H2
 rw [hlen] at hmany2
 have HLE:Hid(fb.length=fa.length):=hlen
 clear hal hlen
 generalize R.count=rc at *
 generalize R.rounds=rr at *
 generalize R.moves=rm at *
 generalize R2.moves=rm2 at *
 go_enter Tryz.func35,Tryz.ntmps35
 go_wp2_with(first|(go_at_call 25;refine(H2.out _ hB1.out).mono ?_;rintro e w2⟨ao2,cap2,rfl,HF2,hB2⟩)|(go_at_call 25;refine H1.out.mono ?_;rintro e w1⟨ao1,cap1,rfl,HF1,hB1⟩))
 have hbw:Below w.heap.size w w2:=bnext hB1.out hB2.out(Nat.le_refl _)
 have HA:Hid(FactsAt w2(.slice ao1 fa.length cap1) fa):=HF1.out.below hB2.out
 have HB:Hid(FactsAt w2(.slice ao2 fa.length cap2) fb):=HF2
 clear HF1 HF2 hB1 hB2 H1 H2
 go_loopw [13,14](fun v13 _ wr=>∃ i:Nat,i<=fa.length/\v13=.int .i64 i/\Below w2.heap.size w2 wr)(fun v13 _ _=>fa.length - (intOf v13).toNat)
 case atStart=>exact⟨0,Nat.zero_le _,rfl,Below.refl _ _⟩
 case round =>
  obtain⟨i,hi,rfl,hbk⟩:=hrel
  by_cases hil:i < fa.length
  ·have hii:(i:Int) < (fa.length:Int):=by omega
   have HAr:Hid(FactsAt wr(.slice ao1 fa.length cap1) fa):=HA.out.below hbk
   have HBr:Hid(FactsAt wr(.slice ao2 fa.length cap2) fb):=HB.out.below hbk
   obtain⟨ao,cap,hv,hcells⟩:=id HAr.out
   simp only [Value.slice.injEq,true_and] at hv
   obtain⟨e1,e2⟩:=hv
   subst e1 e2
   obtain⟨g,gi,lo3,rfl,hg,c0,c1,c2,hS⟩:=hcells i hil
   obtain⟨k,hk,hfk,hwk⟩:=HAL.out.2 i hil
   have hk2:k < fa.length:=by rw [← HLE.out];exact hk
   have hki:(k:Int) < (fa.length:Int):=by omega
   have hk0:¬ (k:Int) < 0:=by omega
   have hk1:(0:Int)<=(k:Int):=by omega
   have hrl:=HL1.out _(List.getElem_mem hil)
   have HFI:Hid(∀ W,Below wr.heap.size wr W->Calls Tryz.prog 26 #[.slice ao2 fa.length cap2,.string fa[i].1,.slice(some⟨gi,0,none⟩) fa[i].2.1.length fa[i].2.1.length] W fun e w'=>e=.returned(.int .i64 k)/\Hid(Below wr.heap.size wr w')/\w'.cell?⟨g,i * 3,none⟩=some(.string fa[i].1)/\w'.cell?⟨g,i * 3+1,none⟩=some(.slice(some⟨gi,0,none⟩) fa[i].2.1.length fa[i].2.1.length)):=fun W hb=>by
    refine(kfind_any W _ fb fa[i].1 _ fa[i].2.1(HBr.out.below hb)(hS.below hb)(by rw [HLE.out];exact hmany2)(by omega)(fun f hf=>by have:=HL2.out f hf;omega)).mono ?_
    rintro e w'⟨h1,h2⟩
    have hb3:=bnext hb h2(Nat.le_refl _)
    refine⟨?_,hb3,(hb3.cell(p:=⟨g,i * 3,none⟩) hg).trans c0,(hb3.cell(p:=⟨g,i * 3+1,none⟩) hg).trans c1⟩
    rw [h1,findI,hfk]
   have HWK:Hid(fb[k].2.2=fa[i].2.2):=hwk
   clear hS hfk hwk
   generalize fa[i].2.1.length=rl at *
   generalize fa[i].1=fp at *
   generalize fa[i].2.2=fw at *
   go_upto_region 8 with fail
   go_cut [14] from 46 to 78(fun s14 wx=>s14=.int .i64 k/\Hid(Below wr.heap.size wr wx))
   case first =>
    go_region_held3(fun w'=>w'.cell?⟨g,i * 3,none⟩=some(.string fp)/\w'.cell?⟨g,i * 3+1,none⟩=some(.slice(some⟨gi,0,none⟩) rl rl))(first|go_keep|(go_simp;done))(first|(go_at_call 26;refine(HFI.out _(by exact(by repeat'(first|with_reducible(first|exact zR _ _|assumption|refine zN ?_ _|refine zA ?_ ?_ _|refine zD ?_|refine zS ?_ ?_ _)|go_size)))).mono ?_;rintro e w5⟨rfl,HB5,z0,z1⟩))
    go_wp2
    go_meet
    case rel=>exact⟨rfl,HB5⟩
   case rest =>
    obtain⟨rfl,HB6⟩:=hcut
    have hb6:Below w2.heap.size w2 wc:=bnext hbk HB6.out(Nat.le_refl _)
    have y2:=(HB6.out.cell(p:=⟨g,i * 3+2,none⟩) hg).trans c2
    have hg6:g < wc.heap.size:=Nat.lt_of_lt_of_le hg HB6.out.size
    obtain⟨ao',cap',hv',hcells'⟩:=id(HBr.out.below HB6.out)
    simp only [Value.slice.injEq] at hv'
    obtain⟨e1,e0,e2⟩:=hv'
    clear e0
    subst e1 e2
    obtain⟨g2,gi2,lo4,rfl,hg2,_,_,x2,_⟩:=hcells' k hk
    rw [HWK.out] at x2
    clear c0 c1 c2 HFI HAr HBr hcells hcells' HWK
    go_wp2
    go_quiet(fail)
    go_wp2
    go_roundw
    case rel=>exact⟨i+1,by omega,by go_num,bdrewN hb6 _⟩
    case measure=>simp [intOf];omega
  ·have hii:¬ (i:Int) < (fa.length:Int):=by omega
   have HBW:Hid(Below w.heap.size w wr):=bnext hbw hbk(Nat.le_refl _)
   go_wp2_with(first|(go_at_call 36;refine(HC2.out _ HB7.out).mono ?_;rintro e w8⟨rfl,HB8⟩)|(go_at_call 36;refine(HC1.out _ HBW.out).mono ?_;rintro e w7⟨rfl,HB7⟩))
   go_ret
   exact⟨rfl,HB8.out⟩
end Go.Proofs.YteampbddflhngabGreat

namespace Go.Proofs.YteampbddflhngabGreat
open Go.RowKit
theorem Parts.told{cs:List PClause}{t0 t:List PEnt}(h:Parts cs t0 t){R:PRun}{D:DB}{k mr mx:Nat}(hi:RunInv(t.map(·.arity))(widthP(collectC cs).length) R)(ha:absR(t.map(·.arity)) R=D)(hr:absRun(makeM t(collectC cs) none cs) mr mx=some(D,k))(hc:R.count<=1048576):Told t(collectC cs) R:=by
 have hp:∀ i(hi:i < cs.length),PlaceOK(placesM((orderM none i).getD []))(plainVs cs[i]).length:=fun i hi=>place_none(plainVs_five(h.many _(List.getElem_mem hi)))
 have hset:=set_wf h(collectC cs) none hp
 have hAr:arT t=arT t0:=by have:=arT_strat(t0.length+1) t0 cs;rw [h.strat] at this;exact this
 have hN:namesT t=namesT t0:=by
  have:=congrArg(List.map Prod.fst) hAr
  simpa [arT,namesT,Function.comp_def] using this
 obtain⟨_,hl,_⟩:=h.low
 have hf:=h.few
 have hargs:=argsC_w cs
 have hvals:(collectC cs).length<=500:=by
  have:=clauseC_len cs []
  simp only [List.length_nil,Nat.zero_add] at this
  show(cs.foldl clauseC []).length<=500
  omega
 exact⟨by rw [hN];exact h.tab.rise,(collectC_spec cs).1,hi,hset.small,by rw [ha];exact inside_step h none hp hr,hc,by omega,by omega⟩
theorem facts_mem{t:List PEnt}{ns:List ByteArray}{R:PRun}(h:Told t ns R)(f:FactT):f∈factsK t ns R t.length↔∃ p,p < t.length/\∃ r m,absR(t.map(·.arity)) R p r=some m/\f=(nameP t p,termsK ns r(arityN t p) 3,m):=by
 unfold factsK
 rw [List.mem_flatMap]
 have hmk:∀ p,p < t.length->∀ r m,Canon(arityN t p) r->(absR(t.map(·.arity)) R p r=some m↔markP(R.rows.getD p PTrie.zero) r=some m):=by
  intro p hp r m hc
  unfold absR
  rw [if_pos⟨by simpa using hp,hc⟩]
 constructor
 ·rintro⟨p,hp,hf⟩
  have hp:=List.mem_range.1 hp
  obtain⟨r,hr,rfl⟩:=List.mem_map.1 hf
  obtain⟨q1,q2,_⟩:=h.row hp hr
  obtain⟨m,hm⟩:=Option.isSome_iff_exists.1 q1
  refine⟨p,hp,r,m,hm,?_⟩
  unfold factP
  rw [(hmk p hp r m q2).1 hm]
  rfl
 ·rintro⟨p,hp,r,m,hm,rfl⟩
  have hpr:p < R.rows.length:=by rw [h.len];exact hp
  have hin:InD(absR(t.map(·.arity)) R) p r:=by unfold InD;rw [hm];rfl
  refine⟨p,List.mem_range.2 hp,List.mem_map.2⟨r,?_,?_⟩⟩
  ·have:=(rows_mem h.inv h.small hpr r).2 hin
   unfold rowsP
   rw [getD_lt _ hpr]
   exact this
  ·unfold factP
   rw [(hmk p hp r m(absR_ok _ R p r hin).2).1 hm]
   rfl
theorem facts_one{t:List PEnt}{ns:List ByteArray}{R:PRun}(h:Told t ns R){f g:FactT}(hf:f∈factsK t ns R t.length)(hg:g∈factsK t ns R t.length)(e1:f.1=g.1)(e2:f.2.1=g.2.1):f=g:=by
 obtain⟨p,hp,r,m,hm,rfl⟩:=(facts_mem h f).1 hf
 obtain⟨q,hq,s,n,hn,rfl⟩:=(facts_mem h g).1 hg
 simp only at e1 e2
 have hpq:p=q:=by rw [← (h.name hp).2.1,← (h.name hq).2.1,e1]
 subst hpq
 have i1:InD(absR(t.map(·.arity)) R) p r:=by unfold InD;rw [hm];rfl
 have i2:InD(absR(t.map(·.arity)) R) p s:=by unfold InD;rw [hn];rfl
 have a1:=rowF_terms h.nrise(h.ar hp).1(absR_ok _ R p r i1).2(h.inside p r i1)
 have a2:=rowF_terms h.nrise(h.ar hp).1(absR_ok _ R p s i2).2(h.inside p s i2)
 have e:(t.map(·.arity)).getD p 0=arityN t p:=rfl
 rw [e2,a2] at a1
 obtain rfl:=Option.some.inj a1
 rw [hm] at hn
 obtain rfl:=Option.some.inj hn
 rfl
theorem ahead_irrefl:∀ a:List ByteArray,aheadB a a=false
 |[]=>rfl
 |x::a=>by unfold aheadB;rw [if_pos rfl];exact ahead_irrefl a
theorem facts_nodup{t:List PEnt}{ns:List ByteArray}{R:PRun}(h:Told t ns R):(factsK t ns R t.length).Nodup:=by
 unfold factsK List.Nodup
 rw [List.pairwise_flatMap]
 refine⟨fun p hp=>?_,?_⟩
 ·have hp:=List.mem_range.1 hp
  rw [List.pairwise_iff_getElem]
  intro i j hi hj hij e
  simp only [List.length_map] at hi hj
  simp only [List.getElem_map] at e
  have hs:=h.sorted hp hij hj
  have e':termsK ns(rowsP R p)[i](arityN t p) 3=termsK ns(rowsP R p)[j](arityN t p) 3:=congrArg(fun f:FactT=>f.2.1) e
  rw [e',ahead_irrefl] at hs
  cases hs
 ·rw [List.pairwise_iff_getElem]
  intro i j hi hj hij x hx y hy e
  subst e
  simp only [List.length_range] at hi hj
  simp only [List.getElem_range] at hx hy
  obtain⟨r,_,hr⟩:=List.mem_map.1 hx
  obtain⟨s,_,hs⟩:=List.mem_map.1 hy
  have:nameP t i=nameP t j:=by
   have:=congrArg(fun f:FactT=>f.1)(hr.trans hs.symm)
   exact this
  have:=congrArg(findN t) this
  rw [(h.name hi).2.1,(h.name hj).2.1] at this
  omega
theorem findF_mem{fs:List FactT}{f:FactT}(h:f∈fs):∃ k,∃ hk:k < fs.length,findF f.1 f.2.1 fs=some k/\fs[k].1=f.1/\fs[k].2.1=f.2.1:=by
 induction fs with
 |nil=>cases h
 |cons g fs ih =>
  unfold findF
  by_cases hq:g.1=f.1/\g.2.1=f.2.1
  ·rw [if_pos hq]
   exact⟨0,by simp,rfl,hq.1,hq.2⟩
  ·rw [if_neg hq]
   have hm:f∈fs:=by
    rcases List.mem_cons.1 h with rfl|hm
    ·exact absurd⟨rfl,rfl⟩ hq
    ·exact hm
   obtain⟨k,hk,h1,h2,h3⟩:=ih hm
   exact⟨k+1,by simp;omega,by rw [h1];rfl,h2,h3⟩
theorem alike_of{t t2:List PEnt}{ns ns2:List ByteArray}{R R2:PRun}(h:Told t ns R)(h2:Told t2 ns2 R2)(hm:∀ f,f∈factsK t ns R t.length↔f∈factsK t2 ns2 R2 t2.length):AlikeF(factsK t ns R t.length)(factsK t2 ns2 R2 t2.length):=by
 refine⟨Nat.le_antisymm(nodup_lenG(facts_nodup h) fun f hf=>(hm f).1 hf)(nodup_lenG(facts_nodup h2) fun f hf=>(hm f).2 hf),fun i hi=>?_⟩
 have hf:=(hm _).1(List.getElem_mem hi)
 obtain⟨k,hk,h3,h4,h5⟩:=findF_mem hf
 exact⟨k,hk,h3,by rw [facts_one h2(List.getElem_mem hk) hf h4 h5]⟩
theorem facts_many{t:List PEnt}{ns:List ByteArray}{R:PRun}(h:Told t ns R):(factsK t ns R t.length).length<=10000000:=by
 have:(factsK t ns R t.length).length=R.count:=by
  unfold factsK
  rw [List.length_flatMap,h.inv.cnt]
  congr 1
  refine List.ext_getElem(by simp [h.len]) fun i h1 h2=>?_
  have hi:i < R.rows.length:=by simpa using h2
  simp only [List.getElem_map,List.getElem_range,List.length_map,rowsP]
  rw [getD_lt _ hi,((h.inv.tries i hi).1).cnt]
 have:=h.few.1
 omega
theorem alike_same{t:List PEnt}{ns:List ByteArray}{R R2:PRun}(h:Told t ns R)(h2:Told t ns R2)(e:absR(t.map(·.arity)) R=absR(t.map(·.arity)) R2):AlikeF(factsK t ns R t.length)(factsK t ns R2 t.length):=alike_of h h2 fun f=>by rw [facts_mem h,facts_mem h2,e]
theorem Parts.runos{cs:List PClause}{t0 t:List PEnt}(h:Parts cs t0 t){os:Option(List(Option(List Int)))}(hb:ordersB cs os=true):RunOK cs t os/\SetWF(makeM t(collectC cs) os cs):=by
 have hset:SetWF(makeM t(collectC cs) os cs):=set_wf h _ os(orders_place hb fun c hc=>plainVs_five(h.many c hc))
 obtain⟨hk,_⟩:=h.runok
 have ho:(os.getD []).length<=cs.length/\∀ o∈os.getD [],(o.getD []).length<=5:=by
  cases os with
  |none=>simp
  |some l =>
   unfold ordersB at hb
   simp only [Bool.and_eq_true,beq_iff_eq,List.all_eq_true] at hb
   refine⟨by simp;omega,fun o ho=>?_⟩
   obtain⟨i,hi,rfl⟩:=List.mem_iff_getElem.1(show o∈l from ho)
   have:=hb.2(cs[i]'(by omega),l[i])(by
    rw [List.mem_iff_getElem]
    exact⟨i,by simp;omega,by simp⟩)
   cases hq:l[i] with
   |none=>simp
   |some o =>
    rw [hq] at this
    simp only [orderOfB,Bool.and_eq_true,beq_iff_eq] at this
    have h5:=plainVs_five(h.many cs[i](List.getElem_mem(by omega)))
    simp only [Option.getD_some]
    omega
 have hl:=hk.len
 refine⟨⟨hk.len,hk.names,hk.fine,hk.sums,hk.few,hk.vals,hk.strat,by omega,fun o h=>by have:=ho.2 o h;omega,fun _ o h=>by have:=ho.2 o h;omega,fun _=>?_⟩,hset⟩
 have hs:=hk.set rfl
 exact⟨fun r hr=>⟨fun l hl=>((hset.rules.rules r hr).plain l hl).1,fun l hl=>⟨((hset.rules.rules r hr).nots l hl).1,hset.rules.apart r hr r hr rfl l hl⟩⟩,hs.many,hs.small,hs.rows,hs.facts,hs.width⟩
theorem prun_os{lp:Nat}(w:World)(pb:Nat){cs:List PClause}{t0 t:List PEnt}(hP:PProg lp w pb cs t)(h:Parts cs t0 t)(hlp:lp<=w.heap.size)(ov:Value)(os:Option(List(Option(List Int))))(ho:OrdsIn w ov os)(hb:ordersB cs os=true)(mr mx:Nat)(h1:mr<=1048576)(h2:mx<=1048576) :
  Calls Tryz.prog 24 #[.pointer(some⟨pb,0,none⟩),ov,.int .i64 mr,.int .i64 mx] w fun e w'=>RunAbs lp t(collectC cs)(absRun(makeM t(collectC cs) none cs) mr mx) w e w':=by
 obtain⟨hk,hset⟩:=h.runos hb
 have h5:∀ c∈cs,(plainVs c).length<=5:=fun c hc=>plainVs_five(h.many c hc)
 rw [absRun_same h(collectC cs) none os(orders_place rfl h5)(orders_place hb h5)]
 obtain⟨N,hN⟩:=run_spec hset(mr:=mr)(mx:=mx) h1
 obtain⟨res,r1,r2,r3⟩:=hN N(Nat.le_refl _)
 refine(prun_any w pb cs t ov os mr mx N res hP ho hk hb h1 h2 hlp r1).mono ?_
 intro e w' hres
 cases res with
 |none=>rw [r2 rfl];exact hres
 |some R =>
  obtain⟨q1,q2,q3⟩:=r3 R rfl
  obtain⟨rb,pv,nv,rv,tbs,s1,s2,s3,s4⟩:=hres
  rw [q3]
  exact⟨R,rb,pv,nv,rv,tbs,s1,s2,s3,q1,rfl,rfl,q1.card hset.small,by omega,s4⟩
end Go.Proofs.YteampbddflhngabGreat

namespace Go.Proofs.YteampbddflhngabGreat
set_option maxRecDepth 100000
set_option maxHeartbeats 2000000
open Go.RowKit
def pickK(c:Int)(n:Nat):Nat:=if c < 0 then(-(c+1)).toNat % n else c.toNat % n
theorem pickK_lt(c:Int){n:Nat}(hn:0 < n):pickK c n < n:=by unfold pickK;split <;> exact Nat.mod_lt _ hn
theorem kpick_any(w:World)(c:Int)(n:Nat)(hn:0 < n)(hn2:n<=281474976710656)(hc:-9223372036854775808<=c/\c<=9223372036854775807) :
  Calls Tryz.prog 14 #[.int .i64 c,.int .i64 n] w fun e w'=>e=.returned(.int .i64(pickK c n:Nat))/\w'=w:=by
 obtain⟨hc1,hc2⟩:=hc
 by_cases h0:c < 0
 ·have e:-(c+1).tmod(n:Int)=((pickK c n:Nat):Int):=by
   unfold pickK
   rw [if_pos h0,← Int.neg_tmod,Int.tmod_eq_emod_of_nonneg(by omega),Int.natCast_emod,Int.toNat_of_nonneg(by omega)]
  have HE:Hid(-(c+1).tmod(n:Int)=((pickK c n:Nat):Int)):=e
  clear e
  generalize pickK c n=pk at *
  go_enter Tryz.func14,Tryz.ntmps14
  go_wp2
  exact bodyPost_ret(v:=.int .i64(-(c+1).tmod(n:Int)))(by simp [results,Tryz.results14,go_sem]) rfl⟨by rw [HE.out],rfl⟩
 ·have e:c % (n:Int)=((pickK c n:Nat):Int):=by unfold pickK;rw [if_neg h0,Int.natCast_emod,Int.toNat_of_nonneg(by omega)]
  have HE:Hid(c % (n:Int)=((pickK c n:Nat):Int)):=e
  clear e
  generalize pickK c n=pk at *
  go_enter Tryz.func14,Tryz.ntmps14
  go_wp2
  exact bodyPost_ret(v:=.int .i64(c % (n:Int)))(by simp [results,Tryz.results14,go_sem]) rfl⟨by rw [HE.out],rfl⟩
end Go.Proofs.YteampbddflhngabGreat

namespace Go.Proofs.YteampbddflhngabGreat
set_option maxRecDepth 100000
set_option maxHeartbeats 4000000
open Go.RowKit
def cellsN(l:List Nat):Array Value:=(l.map ivN).toArray
theorem cellsN_set(l:List Nat)(k v:Nat):(cellsN l).setIfInBounds k(.int .i64(v:Int))=cellsN(l.set k v):=by simp [cellsN,List.map_set,ivN]
theorem cellsN_made(n:Nat):madeCells #[.int .i64 0] n=cellsN(List.replicate n 0):=by
 unfold madeCells cellsN
 apply Array.ext
 ·simp
 ·intro i h1 h2
  simp [ivN,Nat.mod_one]
theorem cellsN_get{l:List Nat}{k:Nat}(h:k < l.length):(cellsN l)[k]?=some(.int .i64(l[k]:Nat)):=by simp [cellsN,h,ivN]
theorem getD_ltO{l:List Nat}{i:Nat}(h:i < l.length):l.getD i 0=l[i]:=by simp [List.getD,h]
def swapN(l:List Nat)(i j:Nat):List Nat:=(l.set i(l.getD j 0)).set j(l.getD i 0)
theorem swapN_len(l:List Nat)(i j:Nat):(swapN l i j).length=l.length:=by simp [swapN]
theorem swapN_perm{l:List Nat}{i j:Nat}(hi:i < l.length)(hj:j < l.length):(swapN l i j).Perm l:=by
 have h:=Array.swap_perm(xs:=l.toArray)(i:=i)(j:=j)(by simpa using hi)(by simpa using hj)
 have e:(l.toArray.swap i j(by simpa using hi)(by simpa using hj)).toList=swapN l i j:=by
  simp [swapN,Array.swap,hi,hj,List.getD]
 have:=h.toList
 rw [e] at this
 simpa using this
theorem tdiv_reach{c:Int}(n:Nat)(hc:-9223372036854775808<=c/\c<=9223372036854775807)(hn:2<=n):-9223372036854775808<=c.tdiv(n:Int)/\c.tdiv(n:Int)<=9223372036854775807:=by
 have h1:(c.tdiv(n:Int)).natAbs<=c.natAbs / 2:=by
  rw [Int.natAbs_tdiv,Int.natAbs_natCast]
  exact Nat.div_le_div_left hn(by omega)
 omega
theorem korder_any(w:World)(c:Int)(n:Nat)(hn:n<=1000)(hc:-9223372036854775808<=c/\c<=9223372036854775807) :
  Calls Tryz.prog 34 #[.int .i64 c,.int .i64 n] w fun e w'=>e=.returned(.slice(some⟨w.heap.size,0,none⟩) n n)/\∃ l:List Nat,l.length=n/\l.Perm(List.range n)/\Box w' w.heap.size(cellsN l) 3/\Below w.heap.size w w':=by
 have hmk:=fun W:World=>run_make_row'(P:=Tryz.prog)(w:=W) 70 3(.int .i64 0) 8 Tryz.underlying70 Tryz.infoInt rfl .i64 .i64 n(by omega)(by omega)
 have HPK:Hid(∀ W(c:Int)(m:Nat),-9223372036854775808<=c/\c<=9223372036854775807->0 < m->m<=2000->Calls Tryz.prog 14 #[.int .i64 c,.int .i64 m] W fun e w'=>∃ j,e=.returned(.int .i64(j:Nat))/\j < m/\w'=W):=fun W c m h1 h2 h3=>(kpick_any W c m h2(by omega) h1).mono fun e w'⟨q1,q2⟩=>⟨_,q1,pickK_lt c h2,q2⟩
 have HDV:Hid(∀ m:Nat,2<=m->-9223372036854775808<=c.tdiv(m:Int)/\c.tdiv(m:Int)<=9223372036854775807):=fun m hm=>tdiv_reach m hc hm
 go_enter Tryz.func34,Tryz.ntmps34
 go_wp2
 go_loopw [6](fun v6 wr=>∃ (k:Nat)(l:List Nat),k<=n/\v6=.int .i64 k/\l.length=n/\Hid(∀ j(h:j < l.length),j < k->l[j]=j)/\Box wr w.heap.size(cellsN l) 3/\Below w.heap.size w wr)(fun v6 _=>n - (intOf v6).toNat)
 case atStart =>
  refine⟨0,List.replicate n 0,Nat.zero_le _,rfl,by simp,fun j _ h=>by omega,?_,(by repeat'(first|with_reducible(first|exact zR _ _|assumption|refine zN ?_ _|refine zA ?_ ?_ _|refine zD ?_|refine zS ?_ ?_ _)|go_size))⟩
  rw [← cellsN_made]
  exact Box.new _ _ _
 case round =>
  obtain⟨k,l,hk,rfl,hll,HL,hbx,hbk⟩:=hrel
  obtain⟨hcl,hfr⟩:=hbx.rules
  have hbl:=hbx.lt
  by_cases hkl:k < n
  ·have hki:(k:Int) < (n:Int):=by omega
   have hck:=hcl k
   rw [cellsN_get(by omega)] at hck
   have hset:=hbx.set k(.int .i64(k:Nat))
   rw [cellsN_set] at hset
   clear hcl
   go_wp2
   go_roundw
   case rel=>exact⟨k+1,l.set k k,by omega,by go_num,by simpa using hll,fun j h1 h2=>(by
    rw [List.getElem_set]
    split
    ·assumption
    ·exact HL.out j(by simpa using h1)(by omega)),hset,hbk.setCell(by simp) _⟩
   case measure=>simp [intOf];omega
  ·have hki:¬ (k:Int) < (n:Int):=by omega
   have HP:Hid(l.Perm(List.range n)):=by
    have e:l=List.range n:=List.ext_getElem(by simp [hll]) fun i h1 h2=>by
     rw [HL.out i h1(by omega)];simp
    rw [e]
    exact List.Perm.refl _
   clear HL hcl hfr
   go_wp2
   go_loopw [7,8,9](fun v7 _ _ wr=>∃ (z:Int)(l:List Nat),-1<=z/\z < n/\v7=.int .i64 z/\l.length=n/\Hid(l.Perm(List.range n))/\Box wr w.heap.size(cellsN l) 3/\Below w.heap.size w wr)(fun v7 _ _ _=>(intOf v7).toNat)
   case atStart=>exact⟨(n:Int) - 1,l,by omega,by omega,by go_num,hll,HP,hbx,hbk⟩
   case round =>
    clear HP hbx hbk hll hbl
    obtain⟨z,l,hz1,hz2,rfl,hll,HP,hbx,hbk⟩:=hrel
    by_cases hz0:0 < z
    ·obtain⟨i,rfl⟩:=Int.eq_ofNat_of_zero_le(show 0<=z by omega)
     have hi:i < n:=by omega
     obtain⟨hcl,hfr⟩:=hbx.rules
     have hbl:=hbx.lt
     have hz0n:0 < i:=by omega
     have hdv:=HDV.out(i+1)(by omega)
     have hp1:=HPK.out wr _(i+1) hdv(by omega)(by omega)
     rw [show((i+1:Nat):Int)=(i:Int)+1 by omega] at hdv hp1
     obtain⟨hdv1,hdv2⟩:=hdv
     have HP1:Hid(Calls Tryz.prog 14 #[.int .i64(c.tdiv((i:Int)+1)),.int .i64((i:Int)+1)] wr fun e w'=>∃ j,e=.returned(.int .i64(j:Nat))/\j < i+1/\w'=wr):=hp1
     clear hp1
     have HCL:Hid(∀ j,j < n->∃ x:Nat,wr.cell?⟨w.heap.size,j,none⟩=some(.int .i64 x)/\Hid(x=l.getD j 0)/\∃ y:Nat,(wr.setCell⟨w.heap.size,i,none⟩(.int .i64 x)).cell?⟨w.heap.size,j,none⟩=some(.int .i64 y)):=fun j h=>by
      have hjl:j < l.length:=by omega
      refine⟨l[j],by rw [hcl j,cellsN_get hjl],by rw [Hid,getD_ltO hjl],(l.set i l[j])[j]'(by simpa using hjl),?_⟩
      have h1:=(hbx.set i(.int .i64(l[j]:Nat))).rules.1 j
      rw [cellsN_set,cellsN_get(by simpa using hjl)] at h1
      exact h1
     obtain⟨xi,hci,HXI,_⟩:=HCL.out i hi
     clear hcl
     go_wp2_with(first|(go_at_call 14;refine HP1.out.mono ?_;rintro e w5⟨j,rfl,hj,hww⟩;obtain rfl:=hww.symm;obtain⟨xj,hcj,HXJ,yj,hyj⟩:=HCL.out j(by omega)))
     go_roundw
     case rel =>
      have hjn:j < n:=by omega
      have h1:=(hbx.set i(.int .i64(xj:Nat))).set j(.int .i64(xi:Nat))
      rw [cellsN_set,cellsN_set] at h1
      have e:(l.set i xj).set j xi=swapN l i j:=by unfold swapN;rw [← HXI.out,← HXJ.out]
      rw [e] at h1
      exact⟨(i:Int) - 1,swapN l i j,by omega,by omega,by go_num,by rw [swapN_len];exact hll,(swapN_perm(by omega)(by omega)).trans HP.out,h1,(hbk.setCell(by simp) _).setCell(by simp) _⟩
     case measure=>simp [intOf];omega
    ·go_wp2
     go_ret
     exact⟨rfl,l,hll,HP.out,hbx,hbk⟩
end Go.Proofs.YteampbddflhngabGreat
