import Derived.Test.YteampbddflhngabGreatO25
import Derived.Test.YteampbddflhngabGreatO07
import Derived.Test.YteampbddflhngabGreatO12

namespace Go.Proofs.YteampbddflhngabGreat
set_option maxRecDepth 100000
set_option maxHeartbeats 1000000
open Go.RowKit
variable {lo:Nat}
def TG(B:Nat)(w:World)(tb o:Nat)(t:List zan):Prop:=∃ pv,tb < w.heap.size/\w.cell? ⟨tb,o,none⟩=some pv/\w.ownsRow B 138 3 pv t.length (zcc t)
theorem TG.below{B:Nat}{w w':World}{tb o:Nat}{t:List zan}(h:TG B w tb o t)(hb:Below w.heap.size w w'):TG B w' tb o t:=by
 obtain⟨pv,h0,h1,h2⟩:=h
 exact⟨pv,by have:=hb.size;omega,(hb.cell (p:=⟨tb,o,none⟩) h0).trans h1,zaa h2 hb⟩
theorem TG.view{B:Nat}{w:World}{tb o:Nat}{t:List zan}(h:TG B w tb o t):∃ ao cap,w.cell? ⟨tb,o,none⟩=some (.slice ao t.length cap)/\w.ownsRow B 138 3 (.slice ao t.length cap) t.length (zcc t):=by
 obtain⟨pv,_,h1,h2⟩:=h
 obtain⟨ao,cap,rfl⟩:=zac h2
 exact⟨ao,cap,h1,h2⟩
theorem zqo(B:Nat)(w:World)(tb o:Nat)(t:List zan)(n:ByteArray)(h:TG B w tb o t)(hl:t.length<=1000) :
  Calls Tryz.prog 78 #[.pointer (some ⟨tb,o,none⟩),.string n] w fun e w'=>e=.returned (.int .i64 (zai t n))/\w'=w:=by
 obtain⟨ao,cap,hc,hown⟩:=h.view
 clear h
 go_enter Tryz.func78,Tryz.ntmps78
 go_wp2
 go_loop [5] (fun i=>∃ k:Nat,k<=t.length/\i=.int .i64 k/\Hid (∀ j (hj:j < t.length),j < k->ltB t[j].name n=true)) (fun i=>t.length - (intOf i).toNat)
 case atStart=>exact⟨0,Nat.zero_le _,rfl,fun j hj h=>by omega⟩
 case round =>
  obtain⟨k,hk,rfl,H⟩:=hrel
  by_cases hlt:k < t.length
  ·obtain⟨g,rfl,hg,_,hd0,_,_⟩:=zdy hown k hlt
   cases hL:ltB t[k].name n with
   |true =>
    have H2:Hid (∀ j (hj:j < t.length),j < k+1->ltB t[j].name n=true):=fun j hj h=>by
     rcases Nat.lt_or_ge j k with h'|h'
     ·exact H.out j hj h'
     ·obtain rfl:j=k:=by omega
      exact hL
    unfold ltB at hL
    generalize t[k].name=x at *
    clear H
    go_wp2
    go_round
    case rel=>exact⟨k+1,by omega,by go_num,H2⟩
    case measure=>simp[intOf];omega
   |false =>
    have H2:Hid (zai t n=k):=zo8 t n k H.out hlt hL
    unfold ltB at hL
    generalize t[k].name=x at *
    clear H
    go_wp2
    go_ret
    exact⟨by rw[H2.out];rfl,rfl⟩
  ·have H2:Hid (zai t n=k):=by
    have:=zq6 t n (fun j hj=>H.out j hj (by omega));unfold Hid;omega
   clear H
   go_wp2
   go_ret
   exact⟨by rw[H2.out];rfl,rfl⟩
theorem zx7(B:Nat)(w:World)(tb o:Nat)(t:List zan)(n:ByteArray)(h:TG B w tb o t)(hl:t.length<=1000)(hn:zbj t n=none) :
  Calls Tryz.prog 50 #[.pointer (some ⟨tb,o,none⟩),.string n] w fun e w'=>e=.returned (.tuple #[.int .i64 0,.bool false])/\w'=w:=by
 have hpl:=zqo B w tb o t n h hl
 obtain⟨ao,cap,hc,hown⟩:=h.view
 have HPL:Hid (Calls Tryz.prog 78 #[.pointer (some ⟨tb,o,none⟩),.string n] w fun e w'=>e=.returned (.int .i64 (zai t n))/\w'=w):=hpl
 have hle:=zfm t n
 clear h hpl
 rcases zjr hn with hk|⟨hk,hne⟩
 ·clear hn
  generalize zai t n=k at *
  go_enter Tryz.func50,Tryz.ntmps50
  go_wp2_with (first|(go_at_call 78;refine HPL.out.mono ?_;rintro e w' ⟨rfl,rfl⟩;clear HPL))
  go_ret2
  exact⟨rfl,rfl⟩
 ·obtain⟨g,rfl,hg,_,hd0,_,_⟩:=zdy hown _ hk
  have he:=zen hne
  clear hn hne
  generalize t[zai t n].name=x at *
  generalize zai t n=k at *
  go_enter Tryz.func50,Tryz.ntmps50
  go_wp2_with (first|(go_at_call 78;refine HPL.out.mono ?_;rintro e w' ⟨rfl,rfl⟩;clear HPL))
  go_ret2
  exact⟨rfl,rfl⟩
theorem ztp(B:Nat)(w:World)(tb o:Nat)(t:List zan)(n:ByteArray)(e0:zan)(h:TG B w tb o t)(hl:t.length<=1000)(hn:zbj t n=some e0) :
  Calls Tryz.prog 50 #[.pointer (some ⟨tb,o,none⟩),.string n] w fun e w'=>e=.returned (.tuple #[.int .i64 (zai t n),.bool true])/\w'=w:=by
 have hpl:=zqo B w tb o t n h hl
 obtain⟨ao,cap,hc,hown⟩:=h.view
 have HPL:Hid (Calls Tryz.prog 78 #[.pointer (some ⟨tb,o,none⟩),.string n] w fun e w'=>e=.returned (.int .i64 (zai t n))/\w'=w):=hpl
 have hle:=zfm t n
 clear h hpl
 obtain⟨hk,hee,hnn⟩:=zci hn
 obtain⟨g,rfl,hg,_,hd0,_,hd2⟩:=zdy hown _ hk
 rw[hee] at hd0 hd2
 have he:=zfo hnn
 clear hn hnn hee
 generalize e0.name=x at *
 generalize zai t n=k at *
 go_enter Tryz.func50,Tryz.ntmps50
 go_wp2_with (first|(go_at_call 78;refine HPL.out.mono ?_;rintro e w' ⟨rfl,rfl⟩;clear HPL))
 go_ret2
 exact⟨rfl,rfl⟩
theorem zwf(B:Nat)(w:World)(tb o:Nat)(t:List zan)(n:ByteArray)(h:TG B w tb o t)(hl:t.length<=1000)(hn:zbj t n=none) :
  Calls Tryz.prog 56 #[.pointer (some ⟨tb,o,none⟩),.string n] w fun e w'=>e=.returned (.tuple #[.int .i64 0,.bool false])/\w'=w:=by
 have HF:Hid (Calls Tryz.prog 50 #[.pointer (some ⟨tb,o,none⟩),.string n] w fun e w'=>e=.returned (.tuple #[.int .i64 0,.bool false])/\w'=w):=zx7 B w tb o t n h hl hn
 clear h hn hl
 go_enter Tryz.func56,Tryz.ntmps56
 go_wp2_with (first|(go_at_call 50;refine HF.out.mono ?_;rintro e w' ⟨rfl,rfl⟩;clear HF))
 go_ret2
 exact⟨rfl,rfl⟩
theorem ztr(B:Nat)(w:World)(tb o:Nat)(t:List zan)(n:ByteArray)(e0:zan)(h:TG B w tb o t)(hl:t.length<=1000)(hn:zbj t n=some e0) :
  Calls Tryz.prog 56 #[.pointer (some ⟨tb,o,none⟩),.string n] w fun e w'=>e=.returned (.tuple #[.int .i64 e0.stratum,.bool true])/\w'=w:=by
 have HF:Hid (Calls Tryz.prog 50 #[.pointer (some ⟨tb,o,none⟩),.string n] w fun e w'=>e=.returned (.tuple #[.int .i64 (zai t n),.bool true])/\w'=w):=ztp B w tb o t n e0 h hl hn
 obtain⟨ao,cap,hc,hown⟩:=h.view
 obtain⟨hk,hee,hnn⟩:=zci hn
 obtain⟨g,rfl,hg,_,hd0,_,hd2⟩:=zdy hown _ hk
 rw[hee] at hd2
 clear hn hnn hee h hd0
 generalize zai t n=k at *
 go_enter Tryz.func56,Tryz.ntmps56
 go_wp2_with (first|(go_at_call 50;refine HF.out.mono ?_;rintro e w' ⟨rfl,rfl⟩;clear HF))
 go_ret2
 exact⟨rfl,rfl⟩
def zbf(t:List zan)(n:ByteArray):Nat:=if (zbj t n).isSome then zai t n else 0
def zdn(t:List zan)(n:ByteArray):Nat:=match zbj t n with|some e=>e.stratum|none=>0
theorem zop(B:Nat)(w:World)(tb o:Nat)(t:List zan)(n:ByteArray)(h:TG B w tb o t)(hl:t.length<=1000) :
  Calls Tryz.prog 50 #[.pointer (some ⟨tb,o,none⟩),.string n] w fun e w'=>e=.returned (.tuple #[.int .i64 (zbf t n:Nat),.bool (zbj t n).isSome])/\w'=w:=by
 unfold zbf
 cases he:zbj t n with
 |none=>exact zx7 B w tb o t n h hl he
 |some e0=>exact ztp B w tb o t n e0 h hl he
theorem ztq(B:Nat)(w:World)(tb o:Nat)(t:List zan)(n:ByteArray)(h:TG B w tb o t)(hl:t.length<=1000) :
  Calls Tryz.prog 56 #[.pointer (some ⟨tb,o,none⟩),.string n] w fun e w'=>e=.returned (.tuple #[.int .i64 (zdn t n:Nat),.bool (zbj t n).isSome])/\w'=w:=by
 unfold zdn
 cases he:zbj t n with
 |none=>exact zwf B w tb o t n h hl he
 |some e0=>exact ztr B w tb o t n e0 h hl he
def za1(t:List zan)(i:Nat):Nat:=(t.map (·.arity)).getD i 0
theorem zz1(B:Nat)(w:World)(tb o:Nat)(t:List zan)(h:TG B w tb o t) :
  Calls Tryz.prog 70 #[.pointer (some ⟨tb,o,none⟩)] w fun e w'=>e=.returned (.int .i64 (t.length:Nat))/\w'=w:=by
 obtain⟨ao,cap,hc,hown⟩:=h.view
 clear h
 go_enter Tryz.func70,Tryz.ntmps70
 go_wp2
 go_ret
 exact⟨rfl,rfl⟩
theorem zml(B:Nat)(w:World)(tb o:Nat)(t:List zan)(i:Nat)(h:TG B w tb o t) :
  Calls Tryz.prog 53 #[.pointer (some ⟨tb,o,none⟩),.int .i64 i] w fun e w'=>e=.returned (.int .i64 (za1 t i:Nat))/\w'=w:=by
 obtain⟨ao,cap,hc,hown⟩:=h.view
 clear h
 by_cases hk:i < t.length
 ·obtain⟨g,rfl,hg,_,_,hd1,_⟩:=zdy hown i hk
  have HE:Hid (za1 t i=t[i].arity):=by simp[Hid,za1,hk]
  generalize t[i].arity=ar at *
  go_enter Tryz.func53,Tryz.ntmps53
  go_wp2
  go_ret
  exact⟨by rw[HE.out];rfl,rfl⟩
 ·have HE:Hid (za1 t i=0):=by simp[Hid,za1,List.getD_eq_getElem?_getD,List.getElem?_eq_none (Nat.not_lt.1 hk)]
  go_enter Tryz.func53,Tryz.ntmps53
  go_wp2
  go_ret
  exact⟨by rw[HE.out];rfl,rfl⟩
theorem zwg(w:World)(vb:Nat)(nv:Value)(vs:List ByteArray)(t:ByteArray)(hc:w.cell? ⟨vb,0,none⟩=some nv)(hs:SIn lo w nv vs)(hl:vs.length<=1000) :
  Calls Tryz.prog 128 #[.pointer (some ⟨vb,0,none⟩),.string t] w fun e w'=>e=.returned (.tuple #[.int .i64 ((zbk vs t).getD 0:Nat),.bool (zbk vs t).isSome])/\w'=w:=by
 obtain⟨ao,cap,rfl⟩:=hs.shape
 go_enter Tryz.func128,Tryz.ntmps128
 go_wp2
 go_loop [13] (fun i=>∃ k:Nat,k<=vs.length/\i=.int .i64 k/\Hid (zbk vs t=(zbk (vs.drop k) t).map (·+k))) (fun i=>vs.length - (intOf i).toNat)
 case atStart=>exact⟨0,Nat.zero_le _,rfl,by simp[Hid]⟩
 case round =>
  obtain⟨k,hk,rfl,H⟩:=hrel
  by_cases hlt:k < vs.length
  ·obtain⟨g,rfl,hg,hck⟩:=hs.cell k hlt
   by_cases hx:vs[k]=t
   ·have he:=zfo hx
    have H2:Hid (zbk vs t=some k):=by rw[Hid,H.out,zpa hlt hx];simp
    clear hx H
    generalize vs[k]=x at *
    go_wp2
    go_ret2
    exact⟨by rw[H2.out];rfl,rfl⟩
   ·have he:=zen hx
    have H2:Hid (zbk vs t=(zbk (vs.drop (k+1)) t).map (·+(k+1))):=by
     rw[Hid,H.out,zpb hlt hx];cases zbk (vs.drop (k+1)) t <;> simp;omega
    clear hx H
    generalize vs[k]=x at *
    go_wp2
    go_round
    case rel=>exact⟨k+1,by omega,by go_num,H2⟩
    case measure=>simp[intOf];omega
  ·have H2:Hid (zbk vs t=none):=by rw[Hid,H.out,List.drop_eq_nil_of_le (by omega)];rfl
   clear H
   go_wp2
   go_ret2
   exact⟨by rw[H2.out];rfl,rfl⟩
theorem zks(w:World)(vb:Nat)(nv:Value)(vs:List ByteArray)(hc:w.cell? ⟨vb,0,none⟩=some nv)(hs:SIn lo w nv vs) :
  Calls Tryz.prog 92 #[.pointer (some ⟨vb,0,none⟩)] w fun e w'=>e=.returned (.int .i64 vs.length)/\w'=w:=by
 obtain⟨ao,cap,rfl⟩:=hs.shape
 go_enter Tryz.func92,Tryz.ntmps92
 go_wp2
 go_ret
 exact⟨rfl,rfl⟩
set_option maxHeartbeats 2000000
def zfw(lo:Nat)(w:World)(sb:Nat)(vs:List ByteArray)(pl:List Nat):Prop:=∃ nv p0 p1 p2 p3 p4,pl=[p0,p1,p2,p3,p4]/\Box w sb #[nv,.int .i64 (p0:Nat),.int .i64 (p1:Nat),.int .i64 (p2:Nat),.int .i64 (p3:Nat),.int .i64 (p4:Nat)] 187/\SIn lo w nv vs
theorem zfw.below{w w':World}{sb:Nat}{vs:List ByteArray}{pl:List Nat}(h:zfw lo w sb vs pl)(hb:Below w.heap.size w w'):zfw lo w' sb vs pl:=by
 obtain⟨nv,p0,p1,p2,p3,p4,h1,h2,h3⟩:=h
 exact⟨nv,p0,p1,p2,p3,p4,h1,h2.below hb,h3.below hb⟩
def zdj(vs:List ByteArray)(pl:List Nat)(n:ByteArray):Nat:=match zbk vs n with
 |none=>0
 |some k=>if k ≥ 5 then 0 else pl.getD k 0
theorem z08(w:World)(sb:Nat)(vs:List ByteArray)(pl:List Nat)(n:ByteArray)(h:zfw lo w sb vs pl)(hl:vs.length<=1000) :
  Calls Tryz.prog 131 #[.pointer (some ⟨sb,0,none⟩),.string n] w fun e w'=>e=.returned (.int .i64 (zdj vs pl n:Nat))/\w'=w:=by
 obtain⟨nv,p0,p1,p2,p3,p4,rfl,hbx,hs⟩:=h
 obtain⟨hc,hf⟩:=hbx.rules
 have hlt:=hbx.lt
 have HP:Hid (Calls Tryz.prog 128 #[.pointer (some ⟨sb,0,none⟩),.string n] w fun e w'=>e=.returned (.tuple #[.int .i64 ((zbk vs n).getD 0:Nat),.bool (zbk vs n).isSome])/\w'=w):=zwg w sb nv vs n (by rw[hc];rfl) hs hl
 have HE:Hid (zdj vs [p0,p1,p2,p3,p4] n=match zbk vs n with|none=>0|some k=>if k ≥ 5 then 0 else [p0,p1,p2,p3,p4].getD k 0):=rfl
 cases hq:zbk vs n with
 |none =>
  rw[hq] at HP HE
  simp only[Option.getD_none,Option.isSome_none] at HP
  clear hq
  go_enter Tryz.func131,Tryz.ntmps131
  go_wp2_with (first|(go_at_call 128;refine HP.out.mono ?_;rintro e w' ⟨rfl,hww⟩;obtain rfl:=hww.symm))
  go_ret
  exact⟨by rw[HE.out];rfl,rfl⟩
 |some k =>
  have hkl:=zjj hq
  rw[hq] at HP HE
  simp only[Option.getD_some,Option.isSome_some] at HP HE
  clear hq
  by_cases h5:k < 5
  ·have hk5:(k:Int) < 5:=by omega
   have HE2:Hid (zdj vs [p0,p1,p2,p3,p4] n=[p0,p1,p2,p3,p4].getD k 0):=by rw[Hid,HE.out,if_neg (by omega)]
   have hck:w.cell? ⟨sb,1+k,none⟩=some (.int .i64 (([p0,p1,p2,p3,p4].getD k 0:Nat):Int)):=by
    rw[hc]
    obtain rfl|rfl|rfl|rfl|rfl:k=0∨k=1∨k=2∨k=3∨k=4:=by omega
    all_goals rfl
   generalize [p0,p1,p2,p3,p4].getD k 0=res at *
   clear hc HE
   go_enter Tryz.func131,Tryz.ntmps131
   go_wp2_with (first|(go_at_call 128;refine HP.out.mono ?_;rintro e w' ⟨rfl,hww⟩;obtain rfl:=hww.symm))
   go_ret
   exact⟨by rw[HE2.out];rfl,rfl⟩
  ·have hk5:¬ (k:Int) < 5:=by omega
   have HE2:Hid (zdj vs [p0,p1,p2,p3,p4] n=0):=by rw[Hid,HE.out,if_pos (by omega)]
   clear HE
   go_enter Tryz.func131,Tryz.ntmps131
   go_wp2_with (first|(go_at_call 128;refine HP.out.mono ?_;rintro e w' ⟨rfl,hww⟩;obtain rfl:=hww.symm))
   go_ret
   exact⟨by rw[HE2.out];rfl,rfl⟩
def ziy(lo:Nat)(w:World)(mb tb o cb:Nat)(t:List zan)(ns:List ByteArray):Prop:=Box w mb #[.pointer (some ⟨tb,o,none⟩),.pointer (some ⟨cb,0,none⟩)] 143/\TG lo w tb o t/\z5x lo w cb ns/\t.length<=1000/\ns.length<=1000
theorem ziy.below{w w':World}{mb tb o cb:Nat}{t:List zan}{ns:List ByteArray}(h:ziy lo w mb tb o cb t ns)(hb:Below w.heap.size w w'):ziy lo w' mb tb o cb t ns:=⟨h.1.below hb,h.2.1.below hb,h.2.2.1.below hb,h.2.2.2⟩
def zfr(ns vs:List ByteArray)(pl:List Nat)(t:ByteArray):zbo:=if zba t then⟨true,zdj vs pl t,0⟩ else⟨false,(zc1 ns t).getD 0,0⟩
theorem z8j{lo2:Nat}(w:World)(mb tb o cb sb:Nat)(t:List zan)(ns vs:List ByteArray)(pl:List Nat)(x:ByteArray)(h:ziy lo w mb tb o cb t ns)(hs:zfw lo2 w sb vs pl)(hl:vs.length<=1000) :
  Calls Tryz.prog 119 #[.pointer (some ⟨mb,0,none⟩),.string x,.pointer (some ⟨sb,0,none⟩)] w fun e w'=>e=.returned (zsk (zfr ns vs pl x))/\Below w.heap.size w w':=by
 obtain⟨hbx,_,hct,_,hnl⟩:=h
 obtain⟨hc,hf⟩:=hbx.rules
 have hml:=hbx.lt
 have HS:Hid (∀ W,Below w.heap.size w W->Calls Tryz.prog 131 #[.pointer (some ⟨sb,0,none⟩),.string x] W fun e w'=>e=.returned (.int .i64 (zdj vs pl x:Nat))/\w'=W):=fun W hW=>z08 W sb vs pl x (hs.below hW) hl
 have HC:Hid (∀ W,Below w.heap.size w W->Calls Tryz.prog 81 #[.pointer (some ⟨cb,0,none⟩),.string x] W fun e w'=>e=.returned (.tuple #[.int .i64 (((zc1 ns x).getD 0:Nat):Int),.bool (zc1 ns x).isSome])/\∃ m,w'=W.drewN m):=fun W hW=>zzt W cb ns x (hct.below hW) hnl
 have hrb:=Box.new w #[.bool false,.int .i64 0,.int .i64 0] 208
 clear hs hct
 cases hv:zba x with
 |true =>
  have HV:Hid (∀ W,Calls Tryz.prog 98 #[.string x] W fun e w'=>e=.returned (.bool true)/\w'=W):=fun W=>by rw[← hv];exact zbw x W
  have HE:Hid (zfr ns vs pl x=⟨true,zdj vs pl x,0⟩):=by rw[Hid,zfr,hv];rfl
  clear hv
  generalize zdj vs pl x=ps at *
  go_enter Tryz.func119,Tryz.ntmps119
  go_wp2_with (first|(go_at_call 98;refine(HV.out _).mono ?_;rintro e w' ⟨rfl,hww⟩;obtain rfl:=hww.symm)|(go_at_call 131;refine(HS.out _ (by exact(by go_grown))).mono ?_;rintro e w' ⟨rfl,hww⟩;obtain rfl:=hww.symm))
  (try simp only[Exit.inBlock,Exit.then])
  exact bodyPost_ret (v:=.agg #[.bool true,.int .i64 (ps:Nat),.int .i64 0]) (by simp[results,Tryz.results119,go_sem]) rfl ⟨by rw[HE.out];rfl,(by go_grown)⟩
 |false =>
  have HV:Hid (∀ W,Calls Tryz.prog 98 #[.string x] W fun e w'=>e=.returned (.bool false)/\w'=W):=fun W=>by rw[← hv];exact zbw x W
  have HE:Hid (zfr ns vs pl x=⟨false,(zc1 ns x).getD 0,0⟩):=by rw[Hid,zfr,hv];rfl
  clear hv
  generalize (zc1 ns x).getD 0=ps at *
  generalize (zc1 ns x).isSome=pb at *
  go_enter Tryz.func119,Tryz.ntmps119
  go_wp2_with (first|(go_at_call 98;refine(HV.out _).mono ?_;rintro e w' ⟨rfl,hww⟩;obtain rfl:=hww.symm)|(go_at_call 81;refine(HC.out _ (by exact(by go_grown))).mono ?_;rintro e w1 ⟨rfl,m,hw1⟩;have hb1:Below (w.alloc (.cells #[.bool false,.int .i64 0,.int .i64 0] 208)).heap.size (w.alloc (.cells #[.bool false,.int .i64 0,.int .i64 0] 208)) w1:=(by rw[hw1];exact zav (Below.refl _ _) m);have hr1:=hrb.below hb1;obtain⟨hrc,hrf⟩:=hr1.rules;have hrl:=hr1.lt;have hB1:Below w.heap.size w w1:=(zae (by go_grown) hb1 (Nat.le_refl _));clear hw1))
  (try simp only[Exit.inBlock,Exit.then])
  exact bodyPost_ret (v:=.agg #[.bool false,.int .i64 (ps:Nat),.int .i64 0]) (by simp[results,Tryz.results119,go_sem,hrc]) rfl ⟨by rw[HE.out];rfl,((hB1.setCell (by simp) _).setCell (by simp) _).setCell (by simp) _⟩
set_option maxHeartbeats 4000000
theorem Tryz.infoTerm:(Tryz.prog.info? 208).map (fun i=>(i.zero,i.size,i.bytes))=some (some (.agg #[.bool false,.int .i64 0,.int .i64 0]),3,24):=by kernel_rfl
def zc3(p:Nat)(ts:List zbo)(t:zbo):zbo:=if t.var then{ t with level:=(zbr ⟨p,ts⟩ t.num).getD 0 } else t
def za8(ns vs:List ByteArray)(pl:List Nat)(l:zb2):List zbo:=l.args.map (zfr ns vs pl)
def zdi(t:List zan)(ns vs:List ByteArray)(pl:List Nat)(l:zb2):zak:=⟨zbf t l.pred,(za8 ns vs pl l).map (zc3 0 (za8 ns vs pl l))⟩
def z5l(t:zbo):Bool × Nat:=(t.var,t.num)
theorem z3g{ts ts':List zbo}(h:ts.map z5l=ts'.map z5l)(p p' q:Nat):zdh ⟨p,ts⟩ q=zdh ⟨p',ts'⟩ q:=by
 have e:∀ l:List zbo,(l.any fun t=>t.var && t.num == q)=(l.map z5l).any fun x=>x.1 && x.2 == q:=fun l=>by
  rw[List.any_map];rfl
 simp only[zdh]
 rw[e,e,h]
theorem zwm{ts ts':List zbo}(h:ts.map z5l=ts'.map z5l)(p p' q:Nat):zbr ⟨p,ts⟩ q=zbr ⟨p',ts'⟩ q:=by
 unfold zbr
 have:zdh ⟨p,ts⟩=zdh ⟨p',ts'⟩:=funext (z3g h p p')
 rw[this]
theorem zvf(p:Nat)(ts:List zbo)(t:zbo):z5l (zc3 p ts t)=z5l t:=by
 unfold zc3;split <;> rfl
def zgc(ts:List zbo)(k:Nat):List zbo:=(ts.take k).map (zc3 0 ts)++ts.drop k
theorem zqp(ts:List zbo)(k:Nat):(zgc ts k).map z5l=ts.map z5l:=by
 unfold zgc
 rw[List.map_append,List.map_map,List.map_drop,show(z5l ∘ zc3 0 ts)=z5l from funext (zvf 0 ts),List.map_take,List.take_append_drop]
theorem z3e(ts:List zbo)(k:Nat):(zgc ts k).length=ts.length:=by
 have:=congrArg List.length (zqp ts k)
 simpa using this
theorem z6x(ts:List zbo)(k:Nat)(hk:k < ts.length):(zgc ts k)[k]?=some ts[k]:=by
 unfold zgc
 rw[List.getElem?_append_right (by simp;omega),List.length_map,List.length_take,Nat.min_eq_left (by omega),Nat.sub_self,List.getElem?_drop]
 simp[hk]
theorem z3f(ts:List zbo)(k:Nat)(hk:k < ts.length):(zgc ts k).set k (zc3 0 ts ts[k])=zgc ts (k+1):=by
 unfold zgc
 rw[List.set_append_right _ _ (by simp;omega),List.length_map,List.length_take,Nat.min_eq_left (by omega),Nat.sub_self,List.drop_eq_getElem_cons hk,List.set_cons_zero,List.take_succ_eq_append_getElem hk,List.map_append,List.append_assoc]
 rfl
theorem zz3(ts:List zbo):zgc ts 0=ts:=by simp[zgc]
theorem zts(ts:List zbo):zgc ts ts.length=ts.map (zc3 0 ts):=by simp[zgc]
theorem zuh{l:zak}{q:Nat}(hq:q<=1000000):(zbr l q).getD 0<=1000000:=by
 unfold zbr
 split
 ·have:=List.countP_le_length (p:=zdh l) (l:=List.range q)
  simp at this ⊢
  omega
 ·simp
theorem z0o(ns:List ByteArray)(x:ByteArray):(zc1 ns x).getD 0<=ns.length:=by
 unfold zc1
 split
 ·simp;omega
 ·simp
theorem zuz(vs:List ByteArray)(pl:List Nat)(n:ByteArray)(h:∀ x∈pl,x<=1000):zdj vs pl n<=1000:=by
 unfold zdj
 split
 ·omega
 ·split
  ·omega
  ·rename_i k _ _
   by_cases hk:k < pl.length
   ·rw[List.getD_eq_getElem?_getD,List.getElem?_eq_getElem hk];exact h _ (List.getElem_mem hk)
   ·rw[List.getD_eq_getElem?_getD,List.getElem?_eq_none (by omega)];simp
theorem zxi(ns vs:List ByteArray)(pl:List Nat)(x:ByteArray)(h:∀ y∈pl,y<=1000)(hn:ns.length<=1000):(zfr ns vs pl x).num<=1000/\(zfr ns vs pl x).level=0:=by
 unfold zfr
 split
 ·exact⟨zuz vs pl x h,rfl⟩
 ·have:=z0o ns x
  exact⟨by simp only;omega,rfl⟩
theorem zsj{α:Type}{l:List α}{k:Nat}{x:α}(h:l[k]?=some x):l.set k x=l:=by
 obtain⟨hk,e⟩:=List.getElem?_eq_some_iff.1 h
 rw[← e];exact List.set_getElem_self hk
theorem z2z(ts:List zbo)(k:Nat)(t:zbo)(lv:Nat)(h:ts[k]?=some t):(flat3 (ts.map zdo)).set (k * 3+2) (.int .i64 (lv:Nat))=flat3 ((ts.set k { t with level:=lv }).map zdo):=by
 obtain⟨hk,e⟩:=List.getElem?_eq_some_iff.1 h
 have hk2:k < (ts.map zdo).length:=by simpa using hk
 have q:=zon (ts.map zdo) k hk2 (.bool t.var) (.int .i64 (t.num:Nat)) (.int .i64 (lv:Nat))
 obtain⟨a0,a1,_⟩:=znn (ts.map zdo) k hk2
 simp only[List.getElem_map,e,zdo] at a0 a1
 rw[zsj a0,zsj a1] at q
 rw[q,List.map_set]
 rfl
def zln(ts:List zbo)(k:Nat):List zbo:=ts.take k++List.replicate (ts.length - k) ⟨false,0,0⟩
theorem z3t(ts:List zbo)(k:Nat)(hk:k<=ts.length):(zln ts k).length=ts.length:=by simp[zln];omega
theorem z3u(ts:List zbo)(k:Nat)(hk:k < ts.length):(zln ts k).set k ts[k]=zln ts (k+1):=by
 unfold zln
 obtain⟨m,hm⟩:∃ m,ts.length - k=m+1:=⟨ts.length - k - 1,by omega⟩
 rw[List.set_append_right _ _ (by simp;omega),List.length_take,Nat.min_eq_left (by omega),Nat.sub_self,hm,List.replicate_succ,List.set_cons_zero,show ts.length - (k+1)=m from by omega,List.take_succ_eq_append_getElem hk,List.append_assoc]
 rfl
theorem z3s(ts:List zbo):zln ts ts.length=ts:=by simp[zln]
theorem zoq(ts:List zbo)(k:Nat)(h:∀ x∈ts,x.num<=1000/\x.level=0):∀ x∈zgc ts k,x.num<=1000000/\x.level<=1000000:=by
 intro x hx
 unfold zgc at hx
 rw[List.mem_append] at hx
 rcases hx with hx|hx
 ·rw[List.mem_map] at hx
  obtain⟨y,hy,rfl⟩:=hx
  have:=h y (List.mem_of_mem_take hy)
  unfold zc3
  split
  ·exact⟨by simp only;omega,zuh (by omega)⟩
  ·omega
 ·have:=h x (List.mem_of_mem_drop hx)
  omega
theorem zmp{w:World}{base:Nat}{e:TypeId}{g n cap m:Nat}{ys:List (Value × Value × Value)}(h:w.ownsRow base e 3 (.slice (some ⟨g,0,none⟩) n cap) m (flat3 ys))(k:Nat)(hk:k < ys.length) :
  ∃ a b c,g < w.heap.size/\w.cell? ⟨g,k * 3,none⟩=some a/\w.cell? ⟨g,k * 3+1,none⟩=some b/\w.cell? ⟨g,k * 3+2,none⟩=some c:=⟨_,_,_,zo5 h k hk⟩
theorem z3z{lo2 lo3:Nat}(w:World)(mb tb o cb sb:Nat)(t:List zan)(ns vs:List ByteArray)(pl:List Nat)(l:zb2)(va:Value)(h:ziy lo w mb tb o cb t ns)(hs:zfw lo2 w sb vs pl)(hl:vs.length<=1000)(hpl:∀ y∈pl,y<=1000)(ha:SIn lo3 w va l.args)(hal:l.args.length<=1000) :
  Calls Tryz.prog 101 #[.pointer (some ⟨mb,0,none⟩),.agg #[.bool l.neg,.string l.pred,va],.pointer (some ⟨sb,0,none⟩)] w fun e w'=>∃ tv,e=.returned (.agg #[.int .i64 (zbf t l.pred:Nat),tv])/\zar w.heap.size w' tv (zdi t ns vs pl l).terms/\Below w.heap.size w w':=by
 obtain⟨i0,hi,hz0,hzs,hzb⟩:=info_parts Tryz.infoTerm
 obtain⟨ao,cap,rfl⟩:=ha.shape
 have hmk:=fun W:World=>run_make (P:=Tryz.prog) (w:=W) 145 208 i0 _ Tryz.underlying145 hi hz0 .i64 .i64 (l.args.length:Int) (l.args.length:Int) (by omega) (Int.le_refl _) (by rw[hzb];omega) (by omega)
 rw[hzs] at hmk
 have HF:Hid (∀ W,Below w.heap.size w W->Calls Tryz.prog 50 #[.pointer (some ⟨tb,o,none⟩),.string l.pred] W fun e w'=>e=.returned (.tuple #[.int .i64 (zbf t l.pred:Nat),.bool (zbj t l.pred).isSome])/\w'=W):=fun W hW=>zop lo W tb o t l.pred (h.2.1.below hW) h.2.2.2.1
 have HT:Hid (∀ W x,Below w.heap.size w W->Calls Tryz.prog 119 #[.pointer (some ⟨mb,0,none⟩),.string x,.pointer (some ⟨sb,0,none⟩)] W fun e w'=>e=.returned (zsk (zfr ns vs pl x))/\Below W.heap.size W w'):=fun W x hW=>z8j W mb tb o cb sb t ns vs pl x (h.below hW) (hs.below hW) hl
 have HSM:Hid (∀ x∈za8 ns vs pl l,x.num<=1000/\x.level=0):=fun x hx=>by
  simp only[za8,List.mem_map] at hx
  obtain⟨y,_,rfl⟩:=hx
  exact zxi ns vs pl y hpl h.2.2.2.2
 have HE:Hid ((zdi t ns vs pl l).terms=(za8 ns vs pl l).map (zc3 0 (za8 ns vs pl l))):=rfl
 have hlen:(za8 ns vs pl l).length=l.args.length:=by simp[za8]
 have HAT:Hid (∀ k (hk:k < l.args.length) (hk2:k < (za8 ns vs pl l).length),zfr ns vs pl l.args[k]=(za8 ns vs pl l)[k]):=fun k hk hk2=>by simp[za8]
 obtain⟨hmc,hmf⟩:=h.1.rules
 have hml:=h.1.lt
 have hm0:w.cell? ⟨mb,0,none⟩=some (.pointer (some ⟨tb,o,none⟩)):=by rw[hmc];rfl
 clear h hs hmc
 generalize za8 ns vs pl l=ts at *
 generalize zbf t l.pred=fn at *
 generalize (zbj t l.pred).isSome=fb at *
 go_enter Tryz.func101,Tryz.ntmps101
 go_upto_region 1 with fail
 go_quiet ((go_at_call 50;exact Calls.quiet_of_same (HF.out _ (by exact(by repeat'(first|with_reducible(first|exact zR _ _|assumption|refine zN ?_ _|refine zA ?_ ?_ _|refine zD ?_|refine zS ?_ ?_ _)|go_size))))))
 go_upto_region 4 with fail
 have hrow:=zaa (z4o ((((w.alloc (.cells #[.bool l.neg,.string l.pred,.slice ao l.args.length cap] 45)).alloc (.cells #[.int .i64 0,.slice none 0 0] 147)).drewN nq)) l.args.length 208 (.bool false) (.int .i64 0) (.int .i64 0) (by unfold maxLen;omega)) ((Below.refl _ _).alloc (Nat.le_refl _) (.cells #[.int .i64 (fn:Nat),.slice (some ⟨w.heap.size+1+1,0,none⟩) l.args.length l.args.length] 147))
 have hb9:=Box.new ((((w.alloc (.cells #[.bool l.neg,.string l.pred,.slice ao l.args.length cap] 45)).alloc (.cells #[.int .i64 0,.slice none 0 0] 147)).drewN nq).alloc (.cells (madeCells #[.bool false,.int .i64 0,.int .i64 0] (l.args.length * 3)) 208)) #[.int .i64 (fn:Nat),.slice (some ⟨w.heap.size+1+1,0,none⟩) l.args.length l.args.length] 147
 have hb6:=(((Box.new (w.alloc (.cells #[.bool l.neg,.string l.pred,.slice ao l.args.length cap] 45)) #[.int .i64 0,.slice none 0 0] 147).below (zav (Below.refl _ _) nq)).below ((Below.refl _ _).alloc (Nat.le_refl _) (.cells (madeCells #[.bool false,.int .i64 0,.int .i64 0] (l.args.length * 3)) 208))).below ((Below.refl _ _).alloc (Nat.le_refl _) (.cells #[.int .i64 (fn:Nat),.slice (some ⟨w.heap.size+1+1,0,none⟩) l.args.length l.args.length] 147))
 have hB3:Below w.heap.size w (((((w.alloc (.cells #[.bool l.neg,.string l.pred,.slice ao l.args.length cap] 45)).alloc (.cells #[.int .i64 0,.slice none 0 0] 147)).drewN nq).alloc (.cells (madeCells #[.bool false,.int .i64 0,.int .i64 0] (l.args.length * 3)) 208)).alloc (.cells #[.int .i64 (fn:Nat),.slice (some ⟨w.heap.size+1+1,0,none⟩) l.args.length l.args.length] 147)):=(by repeat'(first|with_reducible(first|exact zR _ _|assumption|refine zN ?_ _|refine zA ?_ ?_ _|refine zD ?_|refine zS ?_ ?_ _)|go_size))
 have hsz2:(((w.alloc (.cells #[.bool l.neg,.string l.pred,.slice ao l.args.length cap] 45)).alloc (.cells #[.int .i64 0,.slice none 0 0] 147)).drewN nq).heap.size=w.heap.size+1+1:=by simp
 simp only[World.size_alloc,hsz2] at hrow hb9 hb6
 clear hsz2
 generalize ((((w.alloc (.cells #[.bool l.neg,.string l.pred,.slice ao l.args.length cap] 45)).alloc (.cells #[.int .i64 0,.slice none 0 0] 147)).drewN nq).alloc (.cells (madeCells #[.bool false,.int .i64 0,.int .i64 0] (l.args.length * 3)) 208)).alloc (.cells #[.int .i64 (fn:Nat),.slice (some ⟨w.heap.size+1+1,0,none⟩) l.args.length l.args.length] 147)=w3 at *
 have hz3:=hB3.size
 have H0:Hid (flat3 (List.replicate l.args.length (Value.bool false,Value.int .i64 0,Value.int .i64 0))=flat3 ((zln ts 0).map zdo)):=by
  rw[Hid,zln,List.take_zero,List.nil_append,Nat.sub_zero,hlen,List.map_replicate];rfl
 rw[H0.out] at hrow
 clear H0 hmk hm0 hmf HF
 have hrow:=zbi hrow (show w.heap.size<=w.heap.size+1+1 by omega)
 go_loopw [35] (fun v35 wr=>∃ k:Nat,k<=l.args.length/\v35=.int .i64 k/\Box wr (w.heap.size+1+1+1) #[.int .i64 (fn:Nat),.slice (some ⟨w.heap.size+1+1,0,none⟩) l.args.length l.args.length] 147/\Box wr (w.heap.size+1) #[.int .i64 0,.slice none 0 0] 147/\wr.ownsRow w.heap.size 208 3 (.slice (some ⟨w.heap.size+1+1,0,none⟩) l.args.length l.args.length) l.args.length (flat3 ((zln ts k).map zdo))/\Below w.heap.size w wr) (fun i _=>l.args.length - (intOf i).toNat)
 case atStart=>exact⟨0,Nat.zero_le _,rfl,hb9,hb6,hrow,hB3⟩
 case round =>
  clear hrow hb9 hb6
  obtain⟨k,hk,rfl,hb9,hb6,hrow,hbk⟩:=hrel
  have hszk:=hbk.size
  by_cases hlt:k < l.args.length
  ·obtain⟨g,rfl,hg,hcell⟩:=ha.cell k hlt
   have hx0:=(hbk.cell (p:=⟨g,k,none⟩) hg).trans hcell
   have hgr:g < wr.heap.size:=by omega
   have HSET:Hid ((zln ts k).set k ts[k]=zln ts (k+1)):=z3u ts k (by omega)
   have HTX:Hid (zfr ns vs pl l.args[k]=ts[k]):=HAT.out k hlt (by omega)
   have hll:=z3t ts k (by omega)
   obtain⟨e0,e1,e2,hg3,hq0,hq1,hq2⟩:=zmp hrow k (by simp;omega)
   have hfz:=zbu hrow
   obtain⟨h9c,h9f⟩:=hb9.rules
   have h9l:=hb9.lt
   have h9c1:wr.cell? ⟨w.heap.size+1+1+1,1,none⟩=some (.slice (some ⟨w.heap.size+1+1,0,none⟩) l.args.length l.args.length):=by rw[h9c];rfl
   clear hcell
   have HT1:Hid (∀ W,Below wr.heap.size wr W->Calls Tryz.prog 119 #[.pointer (some ⟨mb,0,none⟩),.string l.args[k],.pointer (some ⟨sb,0,none⟩)] W fun e w'=>e=.returned (.agg #[.bool ts[k].var,.int .i64 (ts[k].num:Nat),.int .i64 (ts[k].level:Nat)])/\Below W.heap.size W w'):=fun W hW=>by
    have q:=HT.out W l.args[k] (zae hbk hW (Nat.le_refl _))
    rw[HTX.out] at q
    exact q
   generalize ts[k]=tk at *
   generalize l.args[k]=x at *
   generalize (zln ts k)=lk at *
   go_wp2
   go_region_held3 (fun w'=>w'.cell? ⟨w.heap.size+1+1+1,1,none⟩=some (.slice (some ⟨w.heap.size+1+1,0,none⟩) l.args.length l.args.length)) (first|go_keep|(go_simp;done)) (first|(go_at_call 119;refine(HT1.out _ (by exact(by repeat'(first|with_reducible(first|exact zR _ _|assumption|refine zN ?_ _|refine zA ?_ ?_ _|refine zD ?_|refine zS ?_ ?_ _)|go_size)))).mono ?_;rintro e w4 ⟨rfl,hb4⟩;have hB4:Below wr.heap.size wr w4:=(zae (by repeat'(first|with_reducible(first|exact zR _ _|assumption|refine zN ?_ _|refine zA ?_ ?_ _|refine zD ?_|refine zS ?_ ?_ _)|go_size)) hb4 (Nat.le_refl _));have h94:=hb9.below hB4;have h64:=hb6.below hB4;have hr4:=zaa hrow hB4;obtain⟨h94c,h94f⟩:=h94.rules;have h94l:=h94.lt;obtain⟨f0,f1,f2,hg4,hp0,hp1,hp2⟩:=zmp hr4 k (by simp;omega);have hfz4:=zbu hr4;have hz4:=hB4.size))
   have hset3:=z7s hr4 k (by simp;omega) (.bool tk.var) (.int .i64 (tk.num:Nat)) (.int .i64 (tk.level:Nat))
   have HM:(lk.map zdo).set k (.bool tk.var,.int .i64 (tk.num:Nat),.int .i64 (tk.level:Nat))=(zln ts (k+1)).map zdo:=by rw[← HSET.out,List.map_set];rfl
   rw[HM] at hset3
   have h95:=((h94.set_ne (show w.heap.size+1+1+1≠w.heap.size+1+1 by omega) (k * 3) (.bool tk.var)).set_ne (show w.heap.size+1+1+1≠w.heap.size+1+1 by omega) (k * 3+1) (.int .i64 (tk.num:Nat))).set_ne (show w.heap.size+1+1+1≠w.heap.size+1+1 by omega) (k * 3+2) (.int .i64 (tk.level:Nat))
   have h65:=((h64.set_ne (show w.heap.size+1≠w.heap.size+1+1 by omega) (k * 3) (.bool tk.var)).set_ne (show w.heap.size+1≠w.heap.size+1+1 by omega) (k * 3+1) (.int .i64 (tk.num:Nat))).set_ne (show w.heap.size+1≠w.heap.size+1+1 by omega) (k * 3+2) (.int .i64 (tk.level:Nat))
   have hB5:Below w.heap.size w (((w4.setCell ⟨w.heap.size+1+1,k * 3,none⟩ (.bool tk.var)).setCell ⟨w.heap.size+1+1,k * 3+1,none⟩ (.int .i64 (tk.num:Nat))).setCell ⟨w.heap.size+1+1,k * 3+2,none⟩ (.int .i64 (tk.level:Nat))):=(((zae hbk hB4 (Nat.le_refl _)).setCell (by simp;omega) _).setCell (by simp;omega) _).setCell (by simp;omega) _
   generalize ((w4.setCell ⟨w.heap.size+1+1,k * 3,none⟩ (.bool tk.var)).setCell ⟨w.heap.size+1+1,k * 3+1,none⟩ (.int .i64 (tk.num:Nat))).setCell ⟨w.heap.size+1+1,k * 3+2,none⟩ (.int .i64 (tk.level:Nat))=w5 at *
   go_wp2
   go_roundw
   case rel=>exact⟨k+1,by omega,by go_num,h95,h65,hset3,hB5⟩
   case measure=>simp[intOf];omega
  ·obtain rfl:k=l.args.length:=by omega
   rw[← hlen,z3s] at hrow
   rw[← hlen] at hb9
   clear hlt hk
   obtain⟨h9c,h9f⟩:=hb9.rules
   have h9l:=hb9.lt
   go_wp2
   clear h9c h9f h9l
   rw[← hlen] at hal ⊢
   clear hB3 hz3 HT HAT hlen
   go_loopw [52] (fun v52 wr=>∃ k:Nat,k<=ts.length/\v52=.int .i64 k/\Box wr (w.heap.size+1+1+1) #[.int .i64 (fn:Nat),.slice (some ⟨w.heap.size+1+1,0,none⟩) ts.length ts.length] 147/\Box wr (w.heap.size+1) #[.int .i64 0,.slice none 0 0] 147/\wr.ownsRow w.heap.size 208 3 (.slice (some ⟨w.heap.size+1+1,0,none⟩) ts.length ts.length) ts.length (flat3 ((zgc ts k).map zdo))/\Below w.heap.size w wr) (fun i _=>ts.length - (intOf i).toNat)
   case atStart=>exact⟨0,Nat.zero_le _,rfl,hb9,hb6,by rw[zz3];exact hrow,hbk⟩
   case round =>
    clear hrow hb9 hb6 hbk hszk
    obtain⟨k,hk,rfl,hb9,hb6,hrow,hbk⟩:=hrel
    have hszk:=hbk.size
    by_cases hlt:k < ts.length
    ·have hhl:=z3e ts k
     have HAT2:Hid ((zgc ts k)[k]?=some ts[k]):=z6x ts k hlt
     have HSET:Hid ((zgc ts k).set k (zc3 0 ts ts[k])=zgc ts (k+1)):=z3f ts k hlt
     have HLV:Hid (zbr ⟨fn,zgc ts k⟩ ts[k].num=zbr ⟨0,ts⟩ ts[k].num):=zwm (zqp ts k) _ _ _
     have HLM:Hid (zc3 0 ts ts[k]=if ts[k].var then{ ts[k] with level:=(zbr ⟨0,ts⟩ ts[k].num).getD 0 } else ts[k]):=rfl
     have HSM2:=zoq ts k HSM.out
     have hnum:=(HSM.out ts[k] (List.getElem_mem hlt)).1
     obtain⟨hg3,hq0,hq1,hq2⟩:=zo5 hrow k (by simp;omega)
     have hkk:k < (zgc ts k).length:=by omega
     have hee:(zgc ts k)[k]=ts[k]:=by have q:=HAT2.out;rw[List.getElem?_eq_getElem hkk] at q;simpa using q
     simp only[List.getElem_map,hee,zdo] at hq0 hq1 hq2
     have hfz:=zbu hrow
     obtain⟨h9c,h9f⟩:=hb9.rules
     have h9l:=hb9.lt
     have HTI:Hid (zar w.heap.size wr (.slice (some ⟨w.heap.size+1+1,0,none⟩) ts.length ts.length) (zgc ts k)):=⟨by rw[hhl];exact hrow,by omega,HSM2⟩
     have HLL:Hid (∀ W,Below wr.heap.size wr W->Calls Tryz.prog 120 #[.agg #[.int .i64 (fn:Nat),.slice (some ⟨w.heap.size+1+1,0,none⟩) ts.length ts.length],.int .i64 (ts[k].num:Nat)] W fun e w'=>e=.returned (.tuple #[.int .i64 (((zbr ⟨0,ts⟩ ts[k].num).getD 0:Nat):Int),.bool (zbr ⟨0,ts⟩ ts[k].num).isSome])/\Below W.heap.size W w'):=fun W hW=>by
      have q:=zui W _ fn ts[k].num (zgc ts k) (HTI.out.below hW) (by omega)
      rw[HLV.out] at q
      exact q
     clear hkk hee HLV HSM2 HTI
     generalize ts[k]=tk at *
     generalize zgc ts k=hk0 at *
     generalize (zbr ⟨0,ts⟩ tk.num).getD 0=lv at *
     generalize (zbr ⟨0,ts⟩ tk.num).isSome=lb at *
     cases hv:tk.var with
     |false =>
      rw[hv] at hq0 HLM
      simp only[Bool.false_eq_true,if_false] at HLM
      go_wp2
      have HS1:Hid (hk0=zgc ts (k+1)):=by
       rw[Hid,← HSET.out,HLM.out]
       exact(zsj HAT2.out).symm
      go_roundw
      case rel=>exact⟨k+1,by omega,by go_num,hb9.below (by repeat'(first|with_reducible(first|exact zR _ _|assumption|refine zN ?_ _|refine zA ?_ ?_ _|refine zD ?_|refine zS ?_ ?_ _)|go_size)),hb6.below (by repeat'(first|with_reducible(first|exact zR _ _|assumption|refine zN ?_ _|refine zA ?_ ?_ _|refine zD ?_|refine zS ?_ ?_ _)|go_size)),by rw[← HS1.out];exact zaa hrow (by repeat'(first|with_reducible(first|exact zR _ _|assumption|refine zN ?_ _|refine zA ?_ ?_ _|refine zD ?_|refine zS ?_ ?_ _)|go_size)),zae hbk (by repeat'(first|with_reducible(first|exact zR _ _|assumption|refine zN ?_ _|refine zA ?_ ?_ _|refine zD ?_|refine zS ?_ ?_ _)|go_size)) (Nat.le_refl _)⟩
      case measure=>simp[intOf];omega
     |true =>
      rw[hv] at hq0 HLM
      simp only[if_true] at HLM
      have hnl:wr.heap.size≠w.heap.size+1+1:=by omega
      go_upto_region 13 with (first|(go_at_call 120;refine(HLL.out _ (by exact(by repeat'(first|with_reducible(first|exact zR _ _|assumption|refine zN ?_ _|refine zA ?_ ?_ _|refine zD ?_|refine zS ?_ ?_ _)|go_size)))).mono ?_;rintro e w4 ⟨rfl,hb4⟩;have hB4:Below wr.heap.size wr w4:=(zae (by repeat'(first|with_reducible(first|exact zR _ _|assumption|refine zN ?_ _|refine zA ?_ ?_ _|refine zD ?_|refine zS ?_ ?_ _)|go_size)) hb4 (Nat.le_refl _));have h94:=hb9.below hB4;have h64:=hb6.below hB4;have hr4:=zaa hrow hB4;obtain⟨h94c,h94f⟩:=h94.rules;have h94l:=h94.lt;obtain⟨f0,f1,f2,hg4,hp0,hp1,hp2⟩:=zmp hr4 k (by simp;omega);have hfz4:=zbu hr4;have hz4:=hB4.size))
      have hset3:=zb5 hr4 (k * 3+2) (by rw[zi8];simp;omega) (.int .i64 (lv:Nat))
      have h95:=h94.set_ne (show w.heap.size+1+1+1≠w.heap.size+1+1 by omega) (k * 3+2) (.int .i64 (lv:Nat))
      have h65:=h64.set_ne (show w.heap.size+1≠w.heap.size+1+1 by omega) (k * 3+2) (.int .i64 (lv:Nat))
      have hB5:Below w.heap.size w (w4.setCell ⟨w.heap.size+1+1,k * 3+2,none⟩ (.int .i64 (lv:Nat))):=((zae hbk hB4 (Nat.le_refl _)).setCell (by simp;omega) _)
      have HM:Hid ((flat3 (hk0.map zdo)).set (k * 3+2) (.int .i64 (lv:Nat))=flat3 ((zgc ts (k+1)).map zdo)):=by
       rw[Hid,← HSET.out,HLM.out]
       exact z2z hk0 k tk lv HAT2.out
      rw[HM.out] at hset3
      clear hq0 hq1 hq2
      go_wp2
      generalize w4.setCell ⟨w.heap.size+1+1,k * 3+2,none⟩ (.int .i64 (lv:Nat))=w5 at *
      go_roundw
      case rel=>exact⟨k+1,by omega,by go_num,h95,h65,hset3,hB5⟩
      case measure=>simp[intOf];omega
    ·obtain rfl:k=ts.length:=by omega
     rw[zts] at hrow
     obtain⟨h9c,h9f⟩:=hb9.rules
     have h9l:=hb9.lt
     obtain⟨h6c,h6f⟩:=hb6.rules
     have h6l:=hb6.lt
     have HSF:Hid (∀ x∈ts.map (zc3 0 ts),x.num<=1000000/\x.level<=1000000):=by rw[← zts];exact zoq ts _ HSM.out
     go_wp2
     (try simp only[Exit.inBlock,Exit.then])
     refine bodyPost_ret (v:=.agg #[.int .i64 (fn:Nat),.slice (some ⟨w.heap.size+1+1,0,none⟩) ts.length ts.length]) (by simp[results,Tryz.results101,go_sem,h6c]) rfl ⟨_,rfl,?_,(hbk.setCell (by simp) _).setCell (by simp) _⟩
     rw[HE.out]
     refine⟨?_,by simpa using hal,HSF.out⟩
     rw[List.length_map]
     exact zca hrow (((But.refl (w.heap.size+1) wr).setCell 0 _).setCell 1 _) hb6 (by decide)
end Go.Proofs.YteampbddflhngabGreat
