import Derived.Test.YteampbddflhngabGreatJCPw1
import Derived.Test.YteampbddflhngabGreatJ43
import Derived.Test.YteampbddflhngabGreatJCPz4

namespace Go.Proofs.YteampbddflhngabGreat
set_option maxRecDepth 100000
set_option maxHeartbeats 4000000
open Go.RowKit
theorem ycd{B:Nat}{w:World}{g:Nat}{gs:List Nat}{ns:List ByteArray}{r:zaq}(h1:w.ownsRow B 38 1 (.slice (some ⟨g,0,none⟩) 1 1) 1 (gs.map (z4w 1)))(h2:Copies B w ([r].map (ztn ns 1)) gs){x:ByteArray}(hx:zdi ns r 1 3=[x]):∃ gi,w.cell? ⟨g,0,none⟩=some (.slice (some ⟨gi,0,none⟩) 1 1)/\w.cell? ⟨gi,0,none⟩=some (.string x)/\g < w.heap.size/\gi < w.heap.size:=by
 have hl:gs.length=1:=by simpa using h2.1
 obtain⟨g',cap',hv,_,hg,hc⟩:=zas h1 (by omega)
 simp only[Value.slice.injEq,Option.some.injEq,Addr.mk.injEq,and_true] at hv
 have e:=hv.1
 subst e
 have hcell:=hc 0 (z4w 1 gs[0]) (by simp[hl])
 obtain⟨_,hS⟩:=h2.2.2 0 (by simp) (by omega)
 have hS2:SIn B w (z4w 1 gs[0]) (zdi ns r 1 3):=by
  have q:=hS
  simp only[List.map_cons,List.getElem_cons_zero,ztn,zls] at q
  exact q
 rw[hx] at hS2
 obtain⟨gj,hvj,hgj,hcj⟩:=hS2.cell 0 (by simp)
 simp only[Option.some.injEq,Addr.mk.injEq,and_true] at hvj
 subst hvj
 exact⟨gs[0],hcell,hcj,hg,hgj⟩
theorem yda:zbu z7z bPp=some ⟨bPp,1,0⟩:=by kernel_rfl
theorem ycw{n k:Nat}(hn:1<=n)(hn2:n<=70)(hk:k < n):∃ t0 fuel R,Parts (lpC n k) t0 z7z/\z6s fuel (zjx z7z (zau (lpC n k)) none (lpC n k)) 4096 4096=some (some R)/\Told z7z (zau (lpC n k)) R/\z4t R 2=[[k,0,0]]/\zdi (zau (lpC n k)) [k,0,0] 1 3=[z8j k]/\3<=R.moves/\R.moves<=5:=by
 obtain⟨_,t0,hp⟩:=yby hn hn2 hk
 have hns:=ybm hn hn2 hk
 obtain⟨E,e,hA,hE⟩:=ydb hn hn2 hk
 obtain⟨fa,fb,fc⟩:=ybb hn hn2 hk
 rw[← hns] at hA fa fb
 obtain⟨fuel,R,r1,r2,r3,r4,r5,r6⟩:=ybv (S:=zjx z7z (zau (lpC n k)) none (lpC n k)) hp.runok.2 (yb0 _ n k) rfl hk fa fb hA
 have hT:=hp.told r2 rfl r4 (by omega)
 refine⟨t0,fuel,R,hp,r1,hT,?_,?_,r5,r6⟩
 ·have hEq:E=zdb (z7z.map (·.arity)) R:=by
   rw[hA] at r4
   simp only[Option.some.injEq,Prod.mk.injEq] at r4
   exact r4.1
  refine z8u (fun a b=>ybd) (yao R 2) (List.pairwise_singleton _ _) fun x=>?_
  rw[yb5 hT (show 2 < z7z.length by decide),← hEq,hE]
  simp
 ·rw[hns,← ybr (show k<=n - 1 by omega)]
  rfl
theorem ybu(w:World)(n k:Nat)(hn:1<=n)(hn2:n<=70)(hk:k < n) :
  Calls Tryz.prog 18 #[.int .i64 n,.int .i64 k] w fun e w'=>e=.returned (.bool true)/\Below w.heap.size w w':=by
 have HDG:Hid (∀ W (k:Nat),k < 100->Calls Tryz.prog 29 #[.int .i64 k] W fun e w'=>e=.returned (.string (z8j k))/\Below W.heap.size W w'):=fun W k hk=>ybk W k hk
 have HC1:Hid (∀ W,Calls Tryz.prog 19 #[.string (lpT n k)] W fun e w'=>∃ pb,e=.returned (.tuple #[.pointer (some ⟨pb,0,none⟩),.int .i64 0])/\Hid (z5s W.heap.size w' pb (lpC n k) z7z)/\Hid (Below W.heap.size W w')):=fun W=>by
  obtain⟨c1,_⟩:=yby hn hn2 hk
  refine(z6d (lpT n k) W (by rw[yba];omega)).mono ?_
  rintro e w' ⟨hb,h2⟩
  rw[c1] at h2
  obtain⟨pb,v,pv,h3,h4,h5,h6,h7⟩:=h2
  exact⟨pb,h3,⟨h7,v,pv,h4,h5,h6⟩,hb⟩
 obtain⟨t0,fuel,R,hp,hrun,hT,hrow,htm,hm1,hm2⟩:=ycw hn hn2 hk
 have HRU:Hid (∀ W lp pb,z5s lp W pb (lpC n k) z7z->lp<=W.heap.size->Calls Tryz.prog 24 #[.pointer (some ⟨pb,0,none⟩),.slice none 0 0,.int .i64 4096,.int .i64 4096] W fun e w'=>∃ rb,e=.returned (.tuple #[.pointer (some ⟨rb,0,none⟩),.int .i64 0])/\Hid (∃ pv nv rv tbs,zzm W.heap.size lp w' rb z7z (zau (lpC n k)) R pv nv rv tbs)/\Hid (Below W.heap.size W w')):=fun W lp pb hp2 hl=>by
  refine(z7j W pb (lpC n k) z7z (.slice none 0 0) none 4096 4096 fuel (some R) hp2 rfl hp.runok.1 rfl (by omega) (by omega) hl hrun).mono ?_
  rintro e w' ⟨rb,pv,nv,rv,tbs,_,h1,h2,h3⟩
  exact⟨rb,h1,⟨pv,nv,rv,tbs,h2⟩,h3⟩
 have HRS:Hid (∀ W0 W lo lp rb,(∃ pv nv rv tbs,zzm lo lp W0 rb z7z (zau (lpC n k)) R pv nv rv tbs)->Below W0.heap.size W0 W->(Calls Tryz.prog 28 #[.pointer (some ⟨rb,0,none⟩),.string ⟨#[112]⟩] W fun e w'=>∃ g gi,e=.returned (.tuple #[.slice (some ⟨g,0,none⟩) 1 1,.int .i64 0])/\Hid (w'.cell? ⟨g,0,none⟩=some (.slice (some ⟨gi,0,none⟩) 1 1)/\w'.cell? ⟨gi,0,none⟩=some (.string (z8j k))/\g < w'.heap.size/\gi < w'.heap.size)/\Hid (Below W.heap.size W w'))):=fun W0 W lo lp rb ⟨pv,nv,rv,tbs,h1⟩ hb=>by
  have hf:zcf z7z bPp=2:=ybz.2.2.1
  have hpr:zcf z7z bPp < R.rows.length:=by rw[hT.len,hf];decide
  obtain⟨fu,f1,f2⟩:=hT.rows hpr
  have hrw:z4t R (zcf z7z bPp)=[[k,0,0]]:=by rw[hf];exact hrow
  rw[hrw] at f1
  have har:zd3 z7z (zcf z7z bPp)=1:=by rw[hf];rfl
  refine(z7e W rb z7z (zau (lpC n k)) R pv nv rv tbs bPp (h1.below hb) (by rw[yda];rfl) hpr fu _ f1 (by omega)).mono ?_
  rintro e w' ⟨g,gs,_,q1,q2,q3,q4⟩
  rw[har] at q2 q3
  obtain⟨gi,z⟩:=ycd q2 q3 htm
  exact⟨g,gi,q1,z,q4⟩
 have HCT:Hid (∀ W0 W lo lp rb,(∃ pv nv rv tbs,zzm lo lp W0 rb z7z (zau (lpC n k)) R pv nv rv tbs)->Below W0.heap.size W0 W->Calls Tryz.prog 36 #[.pointer (some ⟨rb,0,none⟩)] W fun e w'=>∃ c1 c2:Nat,e=.returned (.tuple #[.int .i64 c1,.int .i64 c2,.int .i64 R.moves])/\Hid (Below W.heap.size W w')):=fun W0 W lo lp rb ⟨pv,nv,rv,tbs,h1⟩ hb=>(z6v W rb pv nv rv R (h1.below hb).box).mono fun e w' ⟨q1,m,q2⟩=>⟨_,_,q1,by rw[q2];exact zax (Below.refl _ _) _⟩
 have hl1:¬ R.moves < 1:=by omega
 have hl2:1<=R.moves:=by omega
 have hl3:R.moves<=8:=by omega
 clear hp hrun hT hrow htm hm1 hm2
 generalize R.moves=mv at *
 go_enter Tryz.func18,Tryz.ntmps18
 go_wp2
 go_loopw [5,6] (fun v5 v6 wr=>∃(i:Nat),i<=n/\v6=.int .i64 i/\v5=.string (lfT i)/\Hid (Below w.heap.size w wr)) (fun _ v6 _=>n - (intOf v6).toNat)
 case atStart=>exact⟨0,Nat.zero_le _,rfl,rfl,Below.refl _ _⟩
 case round =>
  obtain⟨i,hi,rfl,rfl,HB⟩:=hrel
  have hsz:=z98 i
  by_cases hlt:i < n
  ·have hki:(i:Int) < (n:Int):=by omega
   have hd1:(z8j i).size=2:=rfl
   have HS:Hid (lfT i++⟨#[102,40]⟩++z8j i++⟨#[41,46]⟩=lfT (i+1)):=rfl
   have HD1:Hid (∀ W,Calls Tryz.prog 29 #[.int .i64 i] W fun e w'=>e=.returned (.string (z8j i))/\Below W.heap.size W w'):=fun W=>HDG.out W i (by omega)
   clear HCT HRS HRU HC1
   generalize z8j i=da at *
   generalize lfT i=x at *
   go_wp2_with (first|(go_at_call 29;refine(HD1.out _).mono ?_;rintro e w2 ⟨rfl,hb2⟩))
   go_roundw
   case rel=>exact⟨i+1,by omega,by go_num,by rw[← HS.out],zae HB.out hb2 (Nat.le_refl _)⟩
   case measure=>simp[intOf];omega
  ·have hki:¬ (i:Int) < (n:Int):=by omega
   obtain rfl:i=n:=by omega
   have hd1:(z8j k).size=2:=rfl
   have HDK:Hid (∀ W,Calls Tryz.prog 29 #[.int .i64 k] W fun e w'=>e=.returned (.string (z8j k))/\Hid (Below W.heap.size W w')):=fun W=>HDG.out W k (by omega)
   have HS:Hid (lfT i++⟨#[103,40]⟩++z8j k++⟨#[41,46,112,40,88,41,58,45,102,40,88,41,44,103,40,88,41,46]⟩=lpT i k):=rfl
   have hseq:((z8j k).toList == (z8j k).toList)=true:=zg4 rfl
   have HC2:Hid (∀ W,Calls Tryz.prog 19 #[.string (lfT i++⟨#[103,40]⟩++z8j k++⟨#[41,46,112,40,88,41,58,45,102,40,88,41,44,103,40,88,41,46]⟩)] W fun e w'=>∃ pb,e=.returned (.tuple #[.pointer (some ⟨pb,0,none⟩),.int .i64 0])/\Hid (z5s W.heap.size w' pb (lpC i k) z7z)/\Hid (Below W.heap.size W w')):=HC1
   clear HDG HC1
   generalize z8j k=da at *
   generalize lfT i=x at *
   go_upto_region 16 with (first|(go_at_call 29;refine(HDK.out _).mono ?_;rintro e w2 ⟨rfl,HB2⟩)|(go_at_call 19;refine(HC2.out _).mono ?_;rintro e w3 ⟨pb,rfl,HP3,HB3⟩)|(go_at_call 24;refine(HRU.out _ _ _ HP3.out HB3.out.size).mono ?_;rintro e w4 ⟨rb,rfl,HX4,HB4⟩)|(go_at_call 28;refine(HRS.out _ _ _ _ _ HX4.out (Below.refl _ _)).mono ?_;rintro e w5 ⟨g,gi,rfl,HZ5,HB5⟩)|(go_at_call 36;refine(HCT.out _ _ _ _ _ HX4.out HB5.out).mono ?_;rintro e w6 ⟨c1,c2,rfl,HB6⟩))
   obtain⟨z1,z2,z3,z4⟩:=HZ5.out
   have y1:=(HB6.out.cell (p:=⟨g,0,none⟩) z3).trans z1
   have y2:=(HB6.out.cell (p:=⟨gi,0,none⟩) z4).trans z2
   have y3:g < w6.heap.size:=Nat.lt_of_lt_of_le z3 HB6.out.size
   have y4:gi < w6.heap.size:=Nat.lt_of_lt_of_le z4 HB6.out.size
   have HBW:Hid (Below w.heap.size w w6):=zae HB.out (zae HB2.out (zae HB3.out (zae HB4.out (zae HB5.out HB6.out (Nat.le_refl _)) (Nat.le_refl _)) (Nat.le_refl _)) (Nat.le_refl _)) (Nat.le_refl _)
   clear z1 z2 z3 z4 HZ5 HX4 HP3 HC2 HRU HRS HCT HDK
   go_wp2
   go_ret
   exact⟨by simp,HBW.out⟩
theorem ybp(w:World)(a b:Int)(ha:-9223372036854775808<=a/\a<=9223372036854775807)(hb:-9223372036854775808<=b/\b<=9223372036854775807) :
  Calls Tryz.prog 9 #[.int .i64 a,.int .i64 b] w fun e w'=>e=.returned (.bool true)/\Below w.heap.size w w':=by
 have hlt:=ybe a (show 0 < 70 by omega)
 have HPK:Hid (∀ W,Calls Tryz.prog 14 #[.int .i64 a,.int .i64 70] W fun e w'=>e=.returned (.int .i64 (z8w a 70:Nat))/\w'=W):=fun W=>yak W a 70 (by omega) (by omega) ha
 generalize z8w a 70=k at *
 have hlt2:=ybe b (show 0 < 1+k by omega)
 have HPK2:Hid (∀ W,Calls Tryz.prog 14 #[.int .i64 b,.int .i64 (1+(k:Int))] W fun e w'=>e=.returned (.int .i64 (z8w b (1+k):Nat))/\w'=W):=fun W=>by
  have:=yak W b (1+k) (by omega) (by omega) hb
  rw[show((1+k:Nat):Int)=1+(k:Int) by omega] at this
  exact this
 generalize z8w b (1+k)=j at *
 have HCH:Hid (∀ W,Calls Tryz.prog 18 #[.int .i64 (1+(k:Int)),.int .i64 (j:Int)] W fun e w'=>e=.returned (.bool true)/\Below W.heap.size W w'):=fun W=>by
  have:=ybu W (1+k) j (by omega) (by omega) hlt2
  rw[show((1+k:Nat):Int)=1+(k:Int) by omega] at this
  exact this
 go_enter Tryz.func9,Tryz.ntmps9
 go_wp2_with (first|(go_at_call 18;refine(HCH.out _).mono ?_;rintro e w2 ⟨rfl,hb2⟩)|(go_at_call 14;have hq:=hpa;refine(HPK2.out _).mono ?_;rintro e w1 ⟨rfl,hww⟩;obtain rfl:=hww.symm)|(go_at_call 14;refine(HPK.out _).mono ?_;rintro e w1 ⟨rfl,hww⟩;obtain rfl:=hww.symm;have hpa:=hlt))
 go_ret
 exact⟨rfl,hb2⟩
end Go.Proofs.YteampbddflhngabGreat
