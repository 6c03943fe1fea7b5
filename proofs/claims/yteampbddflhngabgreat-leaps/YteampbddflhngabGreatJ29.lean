import Derived.Test.YteampbddflhngabGreatJ28
import Derived.Test.YteampbddflhngabGreatJ08
import Derived.Test.YteampbddflhngabGreatJ13

namespace Go.Proofs.YteampbddflhngabGreat
set_option maxRecDepth 100000
set_option maxHeartbeats 1000000
open Go.RowKit
variable {lo:Nat}
def TG(B:Nat)(w:World)(tb o:Nat)(t:List zav):Prop:=∃ pv,tb < w.heap.size/\w.cell? ⟨tb,o,none⟩=some pv/\w.ownsRow B 138 3 pv t.length (zck t)
theorem TG.below{B:Nat}{w w':World}{tb o:Nat}{t:List zav}(h:TG B w tb o t)(hb:Below w.heap.size w w'):TG B w' tb o t:=by
 obtain⟨pv,h0,h1,h2⟩:=h
 exact⟨pv,by have:=hb.size;omega,(hb.cell (p:=⟨tb,o,none⟩) h0).trans h1,zaa h2 hb⟩
theorem TG.view{B:Nat}{w:World}{tb o:Nat}{t:List zav}(h:TG B w tb o t):∃ ao cap,w.cell? ⟨tb,o,none⟩=some (.slice ao t.length cap)/\w.ownsRow B 138 3 (.slice ao t.length cap) t.length (zck t):=by
 obtain⟨pv,_,h1,h2⟩:=h
 obtain⟨ao,cap,rfl⟩:=zab h2
 exact⟨ao,cap,h1,h2⟩
theorem zpb(B:Nat)(w:World)(tb o:Nat)(t:List zav)(n:ByteArray)(h:TG B w tb o t)(hl:t.length<=1000) :
  Calls Tryz.prog 78 #[.pointer (some ⟨tb,o,none⟩),.string n] w fun e w'=>e=.returned (.int .i64 (zaj t n))/\w'=w:=by
 obtain⟨ao,cap,hc,hown⟩:=h.view
 clear h
 go_enter Tryz.func78,Tryz.ntmps78
 go_wp2
 go_loop [5] (fun i=>∃ k:Nat,k<=t.length/\i=.int .i64 k/\Hid (∀ j (hj:j < t.length),j < k->ltB t[j].name n=true)) (fun i=>t.length - (intOf i).toNat)
 case atStart=>exact⟨0,Nat.zero_le _,rfl,fun j hj h=>by omega⟩
 case round =>
  obtain⟨k,hk,rfl,H⟩:=hrel
  by_cases hlt:k < t.length
  ·obtain⟨g,rfl,hg,_,hd0,_,_⟩:=zdu hown k hlt
   cases hL:ltB t[k].name n with
   |true =>
    have H2:Hid (∀ j (hj:j < t.length),j < k+1->ltB t[j].name n=true):=fun j hj h=>by
     rcases Nat.lt_or_ge j k with h'|h'
     ·exact H.out j hj h'
     ·obtain rfl:j=k:=by omega
      exact hL
    unfold ltB at hL
    generalize t[k].name=x at *
    clear H
    go_wp2
    go_round
    case rel=>exact⟨k+1,by omega,by go_num,H2⟩
    case measure=>simp[intOf];omega
   |false =>
    have H2:Hid (zaj t n=k):=znt t n k H.out hlt hL
    unfold ltB at hL
    generalize t[k].name=x at *
    clear H
    go_wp2
    go_ret
    exact⟨by rw[H2.out];rfl,rfl⟩
  ·have H2:Hid (zaj t n=k):=by
    have:=zpt t n (fun j hj=>H.out j hj (by omega));unfold Hid;omega
   clear H
   go_wp2
   go_ret
   exact⟨by rw[H2.out];rfl,rfl⟩
theorem zwj(B:Nat)(w:World)(tb o:Nat)(t:List zav)(n:ByteArray)(h:TG B w tb o t)(hl:t.length<=1000)(hn:zbu t n=none) :
  Calls Tryz.prog 50 #[.pointer (some ⟨tb,o,none⟩),.string n] w fun e w'=>e=.returned (.tuple #[.int .i64 0,.bool false])/\w'=w:=by
 have hpl:=zpb B w tb o t n h hl
 obtain⟨ao,cap,hc,hown⟩:=h.view
 have HPL:Hid (Calls Tryz.prog 78 #[.pointer (some ⟨tb,o,none⟩),.string n] w fun e w'=>e=.returned (.int .i64 (zaj t n))/\w'=w):=hpl
 have hle:=zfd t n
 clear h hpl
 rcases ziz hn with hk|⟨hk,hne⟩
 ·clear hn
  generalize zaj t n=k at *
  go_enter Tryz.func50,Tryz.ntmps50
  go_wp2_with (first|(go_at_call 78;refine HPL.out.mono ?_;rintro e w' ⟨rfl,rfl⟩;clear HPL))
  go_ret2
  exact⟨rfl,rfl⟩
 ·obtain⟨g,rfl,hg,_,hd0,_,_⟩:=zdu hown _ hk
  have he:=zf3 hne
  clear hn hne
  generalize t[zaj t n].name=x at *
  generalize zaj t n=k at *
  go_enter Tryz.func50,Tryz.ntmps50
  go_wp2_with (first|(go_at_call 78;refine HPL.out.mono ?_;rintro e w' ⟨rfl,rfl⟩;clear HPL))
  go_ret2
  exact⟨rfl,rfl⟩
theorem zsa(B:Nat)(w:World)(tb o:Nat)(t:List zav)(n:ByteArray)(e0:zav)(h:TG B w tb o t)(hl:t.length<=1000)(hn:zbu t n=some e0) :
  Calls Tryz.prog 50 #[.pointer (some ⟨tb,o,none⟩),.string n] w fun e w'=>e=.returned (.tuple #[.int .i64 (zaj t n),.bool true])/\w'=w:=by
 have hpl:=zpb B w tb o t n h hl
 obtain⟨ao,cap,hc,hown⟩:=h.view
 have HPL:Hid (Calls Tryz.prog 78 #[.pointer (some ⟨tb,o,none⟩),.string n] w fun e w'=>e=.returned (.int .i64 (zaj t n))/\w'=w):=hpl
 have hle:=zfd t n
 clear h hpl
 obtain⟨hk,hee,hnn⟩:=zcd hn
 obtain⟨g,rfl,hg,_,hd0,_,hd2⟩:=zdu hown _ hk
 rw[hee] at hd0 hd2
 have he:=zg4 hnn
 clear hn hnn hee
 generalize e0.name=x at *
 generalize zaj t n=k at *
 go_enter Tryz.func50,Tryz.ntmps50
 go_wp2_with (first|(go_at_call 78;refine HPL.out.mono ?_;rintro e w' ⟨rfl,rfl⟩;clear HPL))
 go_ret2
 exact⟨rfl,rfl⟩
theorem zuw(B:Nat)(w:World)(tb o:Nat)(t:List zav)(n:ByteArray)(h:TG B w tb o t)(hl:t.length<=1000)(hn:zbu t n=none) :
  Calls Tryz.prog 56 #[.pointer (some ⟨tb,o,none⟩),.string n] w fun e w'=>e=.returned (.tuple #[.int .i64 0,.bool false])/\w'=w:=by
 have HF:Hid (Calls Tryz.prog 50 #[.pointer (some ⟨tb,o,none⟩),.string n] w fun e w'=>e=.returned (.tuple #[.int .i64 0,.bool false])/\w'=w):=zwj B w tb o t n h hl hn
 clear h hn hl
 go_enter Tryz.func56,Tryz.ntmps56
 go_wp2_with (first|(go_at_call 50;refine HF.out.mono ?_;rintro e w' ⟨rfl,rfl⟩;clear HF))
 go_ret2
 exact⟨rfl,rfl⟩
theorem zsc(B:Nat)(w:World)(tb o:Nat)(t:List zav)(n:ByteArray)(e0:zav)(h:TG B w tb o t)(hl:t.length<=1000)(hn:zbu t n=some e0) :
  Calls Tryz.prog 56 #[.pointer (some ⟨tb,o,none⟩),.string n] w fun e w'=>e=.returned (.tuple #[.int .i64 e0.stratum,.bool true])/\w'=w:=by
 have HF:Hid (Calls Tryz.prog 50 #[.pointer (some ⟨tb,o,none⟩),.string n] w fun e w'=>e=.returned (.tuple #[.int .i64 (zaj t n),.bool true])/\w'=w):=zsa B w tb o t n e0 h hl hn
 obtain⟨ao,cap,hc,hown⟩:=h.view
 obtain⟨hk,hee,hnn⟩:=zcd hn
 obtain⟨g,rfl,hg,_,hd0,_,hd2⟩:=zdu hown _ hk
 rw[hee] at hd2
 clear hn hnn hee h hd0
 generalize zaj t n=k at *
 go_enter Tryz.func56,Tryz.ntmps56
 go_wp2_with (first|(go_at_call 50;refine HF.out.mono ?_;rintro e w' ⟨rfl,rfl⟩;clear HF))
 go_ret2
 exact⟨rfl,rfl⟩
def zcf(t:List zav)(n:ByteArray):Nat:=if (zbu t n).isSome then zaj t n else 0
def zdx(t:List zav)(n:ByteArray):Nat:=match zbu t n with|some e=>e.stratum|none=>0
theorem zr9(B:Nat)(w:World)(tb o:Nat)(t:List zav)(n:ByteArray)(h:TG B w tb o t)(hl:t.length<=1000) :
  Calls Tryz.prog 50 #[.pointer (some ⟨tb,o,none⟩),.string n] w fun e w'=>e=.returned (.tuple #[.int .i64 (zcf t n:Nat),.bool (zbu t n).isSome])/\w'=w:=by
 unfold zcf
 cases he:zbu t n with
 |none=>exact zwj B w tb o t n h hl he
 |some e0=>exact zsa B w tb o t n e0 h hl he
theorem zsb(B:Nat)(w:World)(tb o:Nat)(t:List zav)(n:ByteArray)(h:TG B w tb o t)(hl:t.length<=1000) :
  Calls Tryz.prog 56 #[.pointer (some ⟨tb,o,none⟩),.string n] w fun e w'=>e=.returned (.tuple #[.int .i64 (zdx t n:Nat),.bool (zbu t n).isSome])/\w'=w:=by
 unfold zdx
 cases he:zbu t n with
 |none=>exact zuw B w tb o t n h hl he
 |some e0=>exact zsc B w tb o t n e0 h hl he
def zd3(t:List zav)(i:Nat):Nat:=(t.map (·.arity)).getD i 0
theorem zx5(B:Nat)(w:World)(tb o:Nat)(t:List zav)(h:TG B w tb o t) :
  Calls Tryz.prog 70 #[.pointer (some ⟨tb,o,none⟩)] w fun e w'=>e=.returned (.int .i64 (t.length:Nat))/\w'=w:=by
 obtain⟨ao,cap,hc,hown⟩:=h.view
 clear h
 go_enter Tryz.func70,Tryz.ntmps70
 go_wp2
 go_ret
 exact⟨rfl,rfl⟩
theorem zpa(B:Nat)(w:World)(tb o:Nat)(t:List zav)(i:Nat)(h:TG B w tb o t) :
  Calls Tryz.prog 53 #[.pointer (some ⟨tb,o,none⟩),.int .i64 i] w fun e w'=>e=.returned (.int .i64 (zd3 t i:Nat))/\w'=w:=by
 obtain⟨ao,cap,hc,hown⟩:=h.view
 clear h
 by_cases hk:i < t.length
 ·obtain⟨g,rfl,hg,_,_,hd1,_⟩:=zdu hown i hk
  have HE:Hid (zd3 t i=t[i].arity):=by simp[Hid,zd3,hk]
  generalize t[i].arity=ar at *
  go_enter Tryz.func53,Tryz.ntmps53
  go_wp2
  go_ret
  exact⟨by rw[HE.out];rfl,rfl⟩
 ·have HE:Hid (zd3 t i=0):=by simp[Hid,zd3,List.getD_eq_getElem?_getD,List.getElem?_eq_none (Nat.not_lt.1 hk)]
  go_enter Tryz.func53,Tryz.ntmps53
  go_wp2
  go_ret
  exact⟨by rw[HE.out];rfl,rfl⟩
theorem zux(w:World)(vb:Nat)(nv:Value)(vs:List ByteArray)(t:ByteArray)(hc:w.cell? ⟨vb,0,none⟩=some nv)(hs:SIn lo w nv vs)(hl:vs.length<=1000) :
  Calls Tryz.prog 128 #[.pointer (some ⟨vb,0,none⟩),.string t] w fun e w'=>e=.returned (.tuple #[.int .i64 ((zbc vs t).getD 0:Nat),.bool (zbc vs t).isSome])/\w'=w:=by
 obtain⟨ao,cap,rfl⟩:=hs.shape
 go_enter Tryz.func128,Tryz.ntmps128
 go_wp2
 go_loop [13] (fun i=>∃ k:Nat,k<=vs.length/\i=.int .i64 k/\Hid (zbc vs t=(zbc (vs.drop k) t).map (·+k))) (fun i=>vs.length - (intOf i).toNat)
 case atStart=>exact⟨0,Nat.zero_le _,rfl,by simp[Hid]⟩
 case round =>
  obtain⟨k,hk,rfl,H⟩:=hrel
  by_cases hlt:k < vs.length
  ·obtain⟨g,rfl,hg,hck⟩:=hs.cell k hlt
   by_cases hx:vs[k]=t
   ·have he:=zg4 hx
    have H2:Hid (zbc vs t=some k):=by rw[Hid,H.out,znv hlt hx];simp
    clear hx H
    generalize vs[k]=x at *
    go_wp2
    go_ret2
    exact⟨by rw[H2.out];rfl,rfl⟩
   ·have he:=zf3 hx
    have H2:Hid (zbc vs t=(zbc (vs.drop (k+1)) t).map (·+(k+1))):=by
     rw[Hid,H.out,znx hlt hx];cases zbc (vs.drop (k+1)) t <;> simp;omega
    clear hx H
    generalize vs[k]=x at *
    go_wp2
    go_round
    case rel=>exact⟨k+1,by omega,by go_num,H2⟩
    case measure=>simp[intOf];omega
  ·have H2:Hid (zbc vs t=none):=by rw[Hid,H.out,List.drop_eq_nil_of_le (by omega)];rfl
   clear H
   go_wp2
   go_ret2
   exact⟨by rw[H2.out];rfl,rfl⟩
theorem zju(w:World)(vb:Nat)(nv:Value)(vs:List ByteArray)(hc:w.cell? ⟨vb,0,none⟩=some nv)(hs:SIn lo w nv vs) :
  Calls Tryz.prog 92 #[.pointer (some ⟨vb,0,none⟩)] w fun e w'=>e=.returned (.int .i64 vs.length)/\w'=w:=by
 obtain⟨ao,cap,rfl⟩:=hs.shape
 go_enter Tryz.func92,Tryz.ntmps92
 go_wp2
 go_ret
 exact⟨rfl,rfl⟩
set_option maxHeartbeats 2000000
def zfm(lo:Nat)(w:World)(sb:Nat)(vs:List ByteArray)(pl:List Nat):Prop:=∃ nv p0 p1 p2 p3 p4,pl=[p0,p1,p2,p3,p4]/\Box w sb #[nv,.int .i64 (p0:Nat),.int .i64 (p1:Nat),.int .i64 (p2:Nat),.int .i64 (p3:Nat),.int .i64 (p4:Nat)] 187/\SIn lo w nv vs
theorem zfm.below{w w':World}{sb:Nat}{vs:List ByteArray}{pl:List Nat}(h:zfm lo w sb vs pl)(hb:Below w.heap.size w w'):zfm lo w' sb vs pl:=by
 obtain⟨nv,p0,p1,p2,p3,p4,h1,h2,h3⟩:=h
 exact⟨nv,p0,p1,p2,p3,p4,h1,h2.below hb,h3.below hb⟩
def zfj(vs:List ByteArray)(pl:List Nat)(n:ByteArray):Nat:=match zbc vs n with
 |none=>0
 |some k=>if k ≥ 5 then 0 else pl.getD k 0
theorem zy7(w:World)(sb:Nat)(vs:List ByteArray)(pl:List Nat)(n:ByteArray)(h:zfm lo w sb vs pl)(hl:vs.length<=1000) :
  Calls Tryz.prog 131 #[.pointer (some ⟨sb,0,none⟩),.string n] w fun e w'=>e=.returned (.int .i64 (zfj vs pl n:Nat))/\w'=w:=by
 obtain⟨nv,p0,p1,p2,p3,p4,rfl,hbx,hs⟩:=h
 obtain⟨hc,hf⟩:=hbx.rules
 have hlt:=hbx.lt
 have HP:Hid (Calls Tryz.prog 128 #[.pointer (some ⟨sb,0,none⟩),.string n] w fun e w'=>e=.returned (.tuple #[.int .i64 ((zbc vs n).getD 0:Nat),.bool (zbc vs n).isSome])/\w'=w):=zux w sb nv vs n (by rw[hc];rfl) hs hl
 have HE:Hid (zfj vs [p0,p1,p2,p3,p4] n=match zbc vs n with|none=>0|some k=>if k ≥ 5 then 0 else [p0,p1,p2,p3,p4].getD k 0):=rfl
 cases hq:zbc vs n with
 |none =>
  rw[hq] at HP HE
  simp only[Option.getD_none,Option.isSome_none] at HP
  clear hq
  go_enter Tryz.func131,Tryz.ntmps131
  go_wp2_with (first|(go_at_call 128;refine HP.out.mono ?_;rintro e w' ⟨rfl,hww⟩;obtain rfl:=hww.symm))
  go_ret
  exact⟨by rw[HE.out];rfl,rfl⟩
 |some k =>
  have hkl:=znw hq
  rw[hq] at HP HE
  simp only[Option.getD_some,Option.isSome_some] at HP HE
  clear hq
  by_cases h5:k < 5
  ·have hk5:(k:Int) < 5:=by omega
   have HE2:Hid (zfj vs [p0,p1,p2,p3,p4] n=[p0,p1,p2,p3,p4].getD k 0):=by rw[Hid,HE.out,if_neg (by omega)]
   have hck:w.cell? ⟨sb,1+k,none⟩=some (.int .i64 (([p0,p1,p2,p3,p4].getD k 0:Nat):Int)):=by
    rw[hc]
    obtain rfl|rfl|rfl|rfl|rfl:k=0∨k=1∨k=2∨k=3∨k=4:=by omega
    all_goals rfl
   generalize [p0,p1,p2,p3,p4].getD k 0=res at *
   clear hc HE
   go_enter Tryz.func131,Tryz.ntmps131
   go_wp2_with (first|(go_at_call 128;refine HP.out.mono ?_;rintro e w' ⟨rfl,hww⟩;obtain rfl:=hww.symm))
   go_ret
   exact⟨by rw[HE2.out];rfl,rfl⟩
  ·have hk5:¬ (k:Int) < 5:=by omega
   have HE2:Hid (zfj vs [p0,p1,p2,p3,p4] n=0):=by rw[Hid,HE.out,if_pos (by omega)]
   clear HE
   go_enter Tryz.func131,Tryz.ntmps131
   go_wp2_with (first|(go_at_call 128;refine HP.out.mono ?_;rintro e w' ⟨rfl,hww⟩;obtain rfl:=hww.symm))
   go_ret
   exact⟨by rw[HE2.out];rfl,rfl⟩
def zia(lo:Nat)(w:World)(mb tb o cb:Nat)(t:List zav)(ns:List ByteArray):Prop:=Box w mb #[.pointer (some ⟨tb,o,none⟩),.pointer (some ⟨cb,0,none⟩)] 143/\TG lo w tb o t/\z2v lo w cb ns/\t.length<=1000/\ns.length<=1000
theorem zia.below{w w':World}{mb tb o cb:Nat}{t:List zav}{ns:List ByteArray}(h:zia lo w mb tb o cb t ns)(hb:Below w.heap.size w w'):zia lo w' mb tb o cb t ns:=⟨h.1.below hb,h.2.1.below hb,h.2.2.1.below hb,h.2.2.2⟩
def zfi(ns vs:List ByteArray)(pl:List Nat)(t:ByteArray):zbh:=if zba t then⟨true,zfj vs pl t,0⟩ else⟨false,(ze6 ns t).getD 0,0⟩
theorem z5d{lo2:Nat}(w:World)(mb tb o cb sb:Nat)(t:List zav)(ns vs:List ByteArray)(pl:List Nat)(x:ByteArray)(h:zia lo w mb tb o cb t ns)(hs:zfm lo2 w sb vs pl)(hl:vs.length<=1000) :
  Calls Tryz.prog 119 #[.pointer (some ⟨mb,0,none⟩),.string x,.pointer (some ⟨sb,0,none⟩)] w fun e w'=>e=.returned (zq8 (zfi ns vs pl x))/\Below w.heap.size w w':=by
 obtain⟨hbx,_,hct,_,hnl⟩:=h
 obtain⟨hc,hf⟩:=hbx.rules
 have hml:=hbx.lt
 have HS:Hid (∀ W,Below w.heap.size w W->Calls Tryz.prog 131 #[.pointer (some ⟨sb,0,none⟩),.string x] W fun e w'=>e=.returned (.int .i64 (zfj vs pl x:Nat))/\w'=W):=fun W hW=>zy7 W sb vs pl x (hs.below hW) hl
 have HC:Hid (∀ W,Below w.heap.size w W->Calls Tryz.prog 81 #[.pointer (some ⟨cb,0,none⟩),.string x] W fun e w'=>e=.returned (.tuple #[.int .i64 (((ze6 ns x).getD 0:Nat):Int),.bool (ze6 ns x).isSome])/\∃ m,w'=W.drewN m):=fun W hW=>zxy W cb ns x (hct.below hW) hnl
 have hrb:=Box.new w #[.bool false,.int .i64 0,.int .i64 0] 208
 clear hs hct
 cases hv:zba x with
 |true =>
  have HV:Hid (∀ W,Calls Tryz.prog 98 #[.string x] W fun e w'=>e=.returned (.bool true)/\w'=W):=fun W=>by rw[← hv];exact zbn x W
  have HE:Hid (zfi ns vs pl x=⟨true,zfj vs pl x,0⟩):=by rw[Hid,zfi,hv];rfl
  clear hv
  generalize zfj vs pl x=ps at *
  go_enter Tryz.func119,Tryz.ntmps119
  go_wp2_with (first|(go_at_call 98;refine(HV.out _).mono ?_;rintro e w' ⟨rfl,hww⟩;obtain rfl:=hww.symm)|(go_at_call 131;refine(HS.out _ (by exact(by go_grown))).mono ?_;rintro e w' ⟨rfl,hww⟩;obtain rfl:=hww.symm))
  (try simp only[Exit.inBlock,Exit.then])
  exact bodyPost_ret (v:=.agg #[.bool true,.int .i64 (ps:Nat),.int .i64 0]) (by simp[results,Tryz.results119,go_sem]) rfl ⟨by rw[HE.out];rfl,(by go_grown)⟩
 |false =>
  have HV:Hid (∀ W,Calls Tryz.prog 98 #[.string x] W fun e w'=>e=.returned (.bool false)/\w'=W):=fun W=>by rw[← hv];exact zbn x W
  have HE:Hid (zfi ns vs pl x=⟨false,(ze6 ns x).getD 0,0⟩):=by rw[Hid,zfi,hv];rfl
  clear hv
  generalize (ze6 ns x).getD 0=ps at *
  generalize (ze6 ns x).isSome=pb at *
  go_enter Tryz.func119,Tryz.ntmps119
  go_wp2_with (first|(go_at_call 98;refine(HV.out _).mono ?_;rintro e w' ⟨rfl,hww⟩;obtain rfl:=hww.symm)|(go_at_call 81;refine(HC.out _ (by exact(by go_grown))).mono ?_;rintro e w1 ⟨rfl,m,hw1⟩;have hb1:Below (w.alloc (.cells #[.bool false,.int .i64 0,.int .i64 0] 208)).heap.size (w.alloc (.cells #[.bool false,.int .i64 0,.int .i64 0] 208)) w1:=(by rw[hw1];exact zax (Below.refl _ _) m);have hr1:=hrb.below hb1;obtain⟨hrc,hrf⟩:=hr1.rules;have hrl:=hr1.lt;have hB1:Below w.heap.size w w1:=(zae (by go_grown) hb1 (Nat.le_refl _));clear hw1))
  (try simp only[Exit.inBlock,Exit.then])
  exact bodyPost_ret (v:=.agg #[.bool false,.int .i64 (ps:Nat),.int .i64 0]) (by simp[results,Tryz.results119,go_sem,hrc]) rfl ⟨by rw[HE.out];rfl,((hB1.setCell (by simp) _).setCell (by simp) _).setCell (by simp) _⟩
end Go.Proofs.YteampbddflhngabGreat
