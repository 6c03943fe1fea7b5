import Derived.Test.YteampbddflhngaaGreatW26
import Derived.Test.YteampbddflhngaaGreatW07
import Derived.Test.YteampbddflhngaaGreatW12

namespace Go.Proofs.YteampbddflhngaaGreat
set_option maxRecDepth 100000
set_option maxHeartbeats 1000000
open Go.RowKit
variable {lo:Nat}
def TG(B:Nat)(w:World)(tb o:Nat)(t:List zar):Prop:=∃ pv,tb < w.heap.size/\w.cell? ⟨tb,o,none⟩=some pv/\w.ownsRow B 221 3 pv t.length (zcb t)
theorem TG.below{B:Nat}{w w':World}{tb o:Nat}{t:List zar}(h:TG B w tb o t)(hb:Below w.heap.size w w'):TG B w' tb o t:=by
 obtain⟨pv,h0,h1,h2⟩:=h
 exact⟨pv,by have:=hb.size;omega,(hb.cell (p:=⟨tb,o,none⟩) h0).trans h1,zaa h2 hb⟩
theorem TG.view{B:Nat}{w:World}{tb o:Nat}{t:List zar}(h:TG B w tb o t):∃ ao cap,w.cell? ⟨tb,o,none⟩=some (.slice ao t.length cap)/\w.ownsRow B 221 3 (.slice ao t.length cap) t.length (zcb t):=by
 obtain⟨pv,_,h1,h2⟩:=h
 obtain⟨ao,cap,rfl⟩:=zac h2
 exact⟨ao,cap,h1,h2⟩
theorem zp8(B:Nat)(w:World)(tb o:Nat)(t:List zar)(n:ByteArray)(h:TG B w tb o t)(hl:t.length<=1000) :
  Calls Tryz.prog 126 #[.pointer (some ⟨tb,o,none⟩),.string n] w fun e w'=>e=.returned (.int .i64 (zai t n))/\w'=w:=by
 obtain⟨ao,cap,hc,hown⟩:=h.view
 clear h
 go_enter Tryz.func126,Tryz.ntmps126
 go_wp2
 go_loop [5] (fun i=>∃ k:Nat,k<=t.length/\i=.int .i64 k/\Hid (∀ j (hj:j < t.length),j < k->ltB t[j].name n=true)) (fun i=>t.length - (intOf i).toNat)
 case atStart=>exact⟨0,uaj _,rfl,fun j hj h=>by omega⟩
 case round =>
  obtain⟨k,hk,rfl,H⟩:=hrel
  by_cases hlt:k < t.length
  ·obtain⟨g,rfl,hg,_,hd0,_,_⟩:=zds hown k hlt
   cases hL:ltB t[k].name n with
   |true =>
    have H2:Hid (∀ j (hj:j < t.length),j < k+1->ltB t[j].name n=true):=fun j hj h=>by
     rcases Nat.lt_or_ge j k with h'|h'
     ·exact H.out j hj h'
     ·obtain rfl:j=k:=by omega
      exact hL
    unfold ltB at hL
    generalize t[k].name=x at *
    clear H
    go_wp2
    go_round
    case rel=>exact⟨k+1,by omega,by go_num,H2⟩
    case measure=>simp[intOf];omega
   |false =>
    have H2:Hid (zai t n=k):=zor t n k H.out hlt hL
    unfold ltB at hL
    generalize t[k].name=x at *
    clear H
    go_wp2
    go_ret
    exact⟨by rw[H2.out];rfl,rfl⟩
  ·have H2:Hid (zai t n=k):=by
    have:=zqp t n (fun j hj=>H.out j hj (by omega));unfold Hid;omega
   clear H
   go_wp2
   go_ret
   exact⟨by rw[H2.out];rfl,rfl⟩
theorem zxq(B:Nat)(w:World)(tb o:Nat)(t:List zar)(n:ByteArray)(h:TG B w tb o t)(hl:t.length<=1000)(hn:zbh t n=none) :
  Calls Tryz.prog 77 #[.pointer (some ⟨tb,o,none⟩),.string n] w fun e w'=>e=.returned (.tuple #[.int .i64 0,.bool false])/\w'=w:=by
 have hpl:=zp8 B w tb o t n h hl
 obtain⟨ao,cap,hc,hown⟩:=h.view
 have HPL:Hid (Calls Tryz.prog 126 #[.pointer (some ⟨tb,o,none⟩),.string n] w fun e w'=>e=.returned (.int .i64 (zai t n))/\w'=w):=hpl
 have hle:=zfk t n
 clear h hpl
 rcases zjc hn with hk|⟨hk,hne⟩
 ·clear hn
  generalize zai t n=k at *
  go_enter Tryz.func77,Tryz.ntmps77
  go_wp2_with (first|(go_at_call 126;refine HPL.out.mono ?_;rintro e w' ⟨rfl,rfl⟩;clear HPL))
  go_ret2
  exact⟨rfl,rfl⟩
 ·obtain⟨g,rfl,hg,_,hd0,_,_⟩:=zds hown _ hk
  have he:=zei hne
  clear hn hne
  generalize t[zai t n].name=x at *
  generalize zai t n=k at *
  go_enter Tryz.func77,Tryz.ntmps77
  go_wp2_with (first|(go_at_call 126;refine HPL.out.mono ?_;rintro e w' ⟨rfl,rfl⟩;clear HPL))
  go_ret2
  exact⟨rfl,rfl⟩
theorem ztd(B:Nat)(w:World)(tb o:Nat)(t:List zar)(n:ByteArray)(e0:zar)(h:TG B w tb o t)(hl:t.length<=1000)(hn:zbh t n=some e0) :
  Calls Tryz.prog 77 #[.pointer (some ⟨tb,o,none⟩),.string n] w fun e w'=>e=.returned (.tuple #[.int .i64 (zai t n),.bool true])/\w'=w:=by
 have hpl:=zp8 B w tb o t n h hl
 obtain⟨ao,cap,hc,hown⟩:=h.view
 have HPL:Hid (Calls Tryz.prog 126 #[.pointer (some ⟨tb,o,none⟩),.string n] w fun e w'=>e=.returned (.int .i64 (zai t n))/\w'=w):=hpl
 have hle:=zfk t n
 clear h hpl
 obtain⟨hk,hee,hnn⟩:=zch hn
 obtain⟨g,rfl,hg,_,hd0,_,hd2⟩:=zds hown _ hk
 rw[hee] at hd0 hd2
 have he:=zfm hnn
 clear hn hnn hee
 generalize e0.name=x at *
 generalize zai t n=k at *
 go_enter Tryz.func77,Tryz.ntmps77
 go_wp2_with (first|(go_at_call 126;refine HPL.out.mono ?_;rintro e w' ⟨rfl,rfl⟩;clear HPL))
 go_ret2
 exact⟨rfl,rfl⟩
theorem zv0(B:Nat)(w:World)(tb o:Nat)(t:List zar)(n:ByteArray)(h:TG B w tb o t)(hl:t.length<=1000)(hn:zbh t n=none) :
  Calls Tryz.prog 159 #[.pointer (some ⟨tb,o,none⟩),.string n] w fun e w'=>e=.returned (.tuple #[.int .i64 0,.bool false])/\w'=w:=by
 have HF:Hid (Calls Tryz.prog 77 #[.pointer (some ⟨tb,o,none⟩),.string n] w fun e w'=>e=.returned (.tuple #[.int .i64 0,.bool false])/\w'=w):=zxq B w tb o t n h hl hn
 clear h hn hl
 go_enter Tryz.func159,Tryz.ntmps159
 go_wp2_with (first|(go_at_call 77;refine HF.out.mono ?_;rintro e w' ⟨rfl,rfl⟩;clear HF))
 go_ret2
 exact⟨rfl,rfl⟩
theorem ztf(B:Nat)(w:World)(tb o:Nat)(t:List zar)(n:ByteArray)(e0:zar)(h:TG B w tb o t)(hl:t.length<=1000)(hn:zbh t n=some e0) :
  Calls Tryz.prog 159 #[.pointer (some ⟨tb,o,none⟩),.string n] w fun e w'=>e=.returned (.tuple #[.int .i64 e0.qi,.bool true])/\w'=w:=by
 have HF:Hid (Calls Tryz.prog 77 #[.pointer (some ⟨tb,o,none⟩),.string n] w fun e w'=>e=.returned (.tuple #[.int .i64 (zai t n),.bool true])/\w'=w):=ztd B w tb o t n e0 h hl hn
 obtain⟨ao,cap,hc,hown⟩:=h.view
 obtain⟨hk,hee,hnn⟩:=zch hn
 obtain⟨g,rfl,hg,_,hd0,_,hd2⟩:=zds hown _ hk
 rw[hee] at hd2
 clear hn hnn hee h hd0
 generalize zai t n=k at *
 go_enter Tryz.func159,Tryz.ntmps159
 go_wp2_with (first|(go_at_call 77;refine HF.out.mono ?_;rintro e w' ⟨rfl,rfl⟩;clear HF))
 go_ret2
 exact⟨rfl,rfl⟩
def zbd(t:List zar)(n:ByteArray):Nat:=if (zbh t n).isSome then zai t n else 0
def zdv(t:List zar)(n:ByteArray):Nat:=match zbh t n with|some e=>e.qi|none=>0
theorem zn8(B:Nat)(w:World)(tb o:Nat)(t:List zar)(n:ByteArray)(h:TG B w tb o t)(hl:t.length<=1000) :
  Calls Tryz.prog 77 #[.pointer (some ⟨tb,o,none⟩),.string n] w fun e w'=>e=.returned (.tuple #[.int .i64 (zbd t n:Nat),.bool (zbh t n).isSome])/\w'=w:=by
 unfold zbd
 cases he:zbh t n with
 |none=>exact zxq B w tb o t n h hl he
 |some e0=>exact ztd B w tb o t n e0 h hl he
theorem zte(B:Nat)(w:World)(tb o:Nat)(t:List zar)(n:ByteArray)(h:TG B w tb o t)(hl:t.length<=1000) :
  Calls Tryz.prog 159 #[.pointer (some ⟨tb,o,none⟩),.string n] w fun e w'=>e=.returned (.tuple #[.int .i64 (zdv t n:Nat),.bool (zbh t n).isSome])/\w'=w:=by
 unfold zdv
 cases he:zbh t n with
 |none=>exact zv0 B w tb o t n h hl he
 |some e0=>exact ztf B w tb o t n e0 h hl he
def za0(t:List zar)(i:Nat):Nat:=(t.map (·.je)).getD i 0
theorem zzf(B:Nat)(w:World)(tb o:Nat)(t:List zar)(h:TG B w tb o t) :
  Calls Tryz.prog 115 #[.pointer (some ⟨tb,o,none⟩)] w fun e w'=>e=.returned (.int .i64 (t.length:Nat))/\w'=w:=by
 obtain⟨ao,cap,hc,hown⟩:=h.view
 clear h
 go_enter Tryz.func115,Tryz.ntmps115
 go_wp2
 go_ret
 exact⟨rfl,rfl⟩
theorem zl7(B:Nat)(w:World)(tb o:Nat)(t:List zar)(i:Nat)(h:TG B w tb o t) :
  Calls Tryz.prog 80 #[.pointer (some ⟨tb,o,none⟩),.int .i64 i] w fun e w'=>e=.returned (.int .i64 (za0 t i:Nat))/\w'=w:=by
 obtain⟨ao,cap,hc,hown⟩:=h.view
 clear h
 by_cases hk:i < t.length
 ·obtain⟨g,rfl,hg,_,_,hd1,_⟩:=zds hown i hk
  have HE:Hid (za0 t i=t[i].je):=by simp[Hid,za0,hk]
  generalize t[i].je=ar at *
  go_enter Tryz.func80,Tryz.ntmps80
  go_wp2
  go_ret
  exact⟨by rw[HE.out];rfl,rfl⟩
 ·have HE:Hid (za0 t i=0):=by simp[Hid,za0,List.getD_eq_getElem?_getD,List.getElem?_eq_none (Nat.not_lt.1 hk)]
  go_enter Tryz.func80,Tryz.ntmps80
  go_wp2
  go_ret
  exact⟨by rw[HE.out];rfl,rfl⟩
theorem zv1(w:World)(vb:Nat)(nv:Value)(vs:List ByteArray)(t:ByteArray)(hc:w.cell? ⟨vb,0,none⟩=some nv)(hs:SIn lo w nv vs)(hl:vs.length<=1000) :
  Calls Tryz.prog 200 #[.pointer (some ⟨vb,0,none⟩),.string t] w fun e w'=>e=.returned (.tuple #[.int .i64 ((zbi vs t).getD 0:Nat),.bool (zbi vs t).isSome])/\w'=w:=by
 obtain⟨ao,cap,rfl⟩:=hs.shape
 go_enter Tryz.func200,Tryz.ntmps200
 go_wp2
 go_loop [13] (fun i=>∃ k:Nat,k<=vs.length/\i=.int .i64 k/\Hid (zbi vs t=(zbi (vs.drop k) t).map (·+k))) (fun i=>vs.length - (intOf i).toNat)
 case atStart=>exact⟨0,uaj _,rfl,by simp[Hid]⟩
 case round =>
  obtain⟨k,hk,rfl,H⟩:=hrel
  by_cases hlt:k < vs.length
  ·obtain⟨g,rfl,hg,hck⟩:=hs.cell k hlt
   by_cases hx:vs[k]=t
   ·have he:=zfm hx
    have H2:Hid (zbi vs t=some k):=by rw[Hid,H.out,zot hlt hx];simp
    clear hx H
    generalize vs[k]=x at *
    go_wp2
    go_ret2
    exact⟨by rw[H2.out];rfl,rfl⟩
   ·have he:=zei hx
    have H2:Hid (zbi vs t=(zbi (vs.drop (k+1)) t).map (·+(k+1))):=by
     rw[Hid,H.out,zou hlt hx];cases zbi (vs.drop (k+1)) t <;> simp;omega
    clear hx H
    generalize vs[k]=x at *
    go_wp2
    go_round
    case rel=>exact⟨k+1,by omega,by go_num,H2⟩
    case measure=>simp[intOf];omega
  ·have H2:Hid (zbi vs t=none):=by rw[Hid,H.out,uaq (by omega)];rfl
   clear H
   go_wp2
   go_ret2
   exact⟨by rw[H2.out];rfl,rfl⟩
theorem zke(w:World)(vb:Nat)(nv:Value)(vs:List ByteArray)(hc:w.cell? ⟨vb,0,none⟩=some nv)(hs:SIn lo w nv vs) :
  Calls Tryz.prog 146 #[.pointer (some ⟨vb,0,none⟩)] w fun e w'=>e=.returned (.int .i64 vs.length)/\w'=w:=by
 obtain⟨ao,cap,rfl⟩:=hs.shape
 go_enter Tryz.func146,Tryz.ntmps146
 go_wp2
 go_ret
 exact⟨rfl,rfl⟩
set_option maxHeartbeats 2000000
def zfs(lo:Nat)(w:World)(sb:Nat)(vs:List ByteArray)(pl:List Nat):Prop:=∃ nv p0 p1 p2 p3 p4,pl=[p0,p1,p2,p3,p4]/\Box w sb #[nv,.int .i64 (p0:Nat),.int .i64 (p1:Nat),.int .i64 (p2:Nat),.int .i64 (p3:Nat),.int .i64 (p4:Nat)] 257/\SIn lo w nv vs
theorem zfs.below{w w':World}{sb:Nat}{vs:List ByteArray}{pl:List Nat}(h:zfs lo w sb vs pl)(hb:Below w.heap.size w w'):zfs lo w' sb vs pl:=by
 obtain⟨nv,p0,p1,p2,p3,p4,h1,h2,h3⟩:=h
 exact⟨nv,p0,p1,p2,p3,p4,h1,h2.below hb,h3.below hb⟩
def zdg(vs:List ByteArray)(pl:List Nat)(n:ByteArray):Nat:=match zbi vs n with
 |none=>0
 |some k=>if k ≥ 5 then 0 else pl.getD k 0
theorem z0m(w:World)(sb:Nat)(vs:List ByteArray)(pl:List Nat)(n:ByteArray)(h:zfs lo w sb vs pl)(hl:vs.length<=1000) :
  Calls Tryz.prog 201 #[.pointer (some ⟨sb,0,none⟩),.string n] w fun e w'=>e=.returned (.int .i64 (zdg vs pl n:Nat))/\w'=w:=by
 obtain⟨nv,p0,p1,p2,p3,p4,rfl,hbx,hs⟩:=h
 obtain⟨hc,hf⟩:=hbx.rules
 have hlt:=hbx.lt
 have HP:Hid (Calls Tryz.prog 200 #[.pointer (some ⟨sb,0,none⟩),.string n] w fun e w'=>e=.returned (.tuple #[.int .i64 ((zbi vs n).getD 0:Nat),.bool (zbi vs n).isSome])/\w'=w):=zv1 w sb nv vs n (by rw[hc];rfl) hs hl
 have HE:Hid (zdg vs [p0,p1,p2,p3,p4] n=match zbi vs n with|none=>0|some k=>if k ≥ 5 then 0 else [p0,p1,p2,p3,p4].getD k 0):=rfl
 cases hq:zbi vs n with
 |none =>
  rw[hq] at HP HE
  simp only[ubh,ua9] at HP
  clear hq
  go_enter Tryz.func201,Tryz.ntmps201
  go_wp2_with (first|(go_at_call 200;refine HP.out.mono ?_;rintro e w' ⟨rfl,hww⟩;obtain rfl:=hww.symm))
  go_ret
  exact⟨by rw[HE.out];rfl,rfl⟩
 |some k =>
  have hkl:=zi6 hq
  rw[hq] at HP HE
  simp only[uas,ua4] at HP HE
  clear hq
  by_cases h5:k < 5
  ·have hk5:(k:Int) < 5:=by omega
   have HE2:Hid (zdg vs [p0,p1,p2,p3,p4] n=[p0,p1,p2,p3,p4].getD k 0):=by rw[Hid,HE.out,if_neg (by omega)]
   have hck:w.cell? ⟨sb,1+k,none⟩=some (.int .i64 (([p0,p1,p2,p3,p4].getD k 0:Nat):Int)):=by
    rw[hc]
    obtain rfl|rfl|rfl|rfl|rfl:k=0∨k=1∨k=2∨k=3∨k=4:=by omega
    all_goals rfl
   generalize [p0,p1,p2,p3,p4].getD k 0=res at *
   clear hc HE
   go_enter Tryz.func201,Tryz.ntmps201
   go_wp2_with (first|(go_at_call 200;refine HP.out.mono ?_;rintro e w' ⟨rfl,hww⟩;obtain rfl:=hww.symm))
   go_ret
   exact⟨by rw[HE2.out];rfl,rfl⟩
  ·have hk5:¬ (k:Int) < 5:=by omega
   have HE2:Hid (zdg vs [p0,p1,p2,p3,p4] n=0):=by rw[Hid,HE.out,if_pos (by omega)]
   clear HE
   go_enter Tryz.func201,Tryz.ntmps201
   go_wp2_with (first|(go_at_call 200;refine HP.out.mono ?_;rintro e w' ⟨rfl,hww⟩;obtain rfl:=hww.symm))
   go_ret
   exact⟨by rw[HE2.out];rfl,rfl⟩
def zil(lo:Nat)(w:World)(mb tb o cb:Nat)(t:List zar)(ns:List ByteArray):Prop:=Box w mb #[.pointer (some ⟨tb,o,none⟩),.pointer (some ⟨cb,0,none⟩)] 200/\TG lo w tb o t/\z4t lo w cb ns/\t.length<=1000/\ns.length<=1000
theorem zil.below{w w':World}{mb tb o cb:Nat}{t:List zar}{ns:List ByteArray}(h:zil lo w mb tb o cb t ns)(hb:Below w.heap.size w w'):zil lo w' mb tb o cb t ns:=⟨h.1.below hb,h.2.1.below hb,h.2.2.1.below hb,h.2.2.2⟩
def zfp(ns vs:List ByteArray)(pl:List Nat)(t:ByteArray):zbn:=if za8 t then⟨true,zdg vs pl t,0⟩ else⟨false,(zco ns t).getD 0,0⟩
theorem z7e{lo2:Nat}(w:World)(mb tb o cb sb:Nat)(t:List zar)(ns vs:List ByteArray)(pl:List Nat)(x:ByteArray)(h:zil lo w mb tb o cb t ns)(hs:zfs lo2 w sb vs pl)(hl:vs.length<=1000) :
  Calls Tryz.prog 186 #[.pointer (some ⟨mb,0,none⟩),.string x,.pointer (some ⟨sb,0,none⟩)] w fun e w'=>e=.returned (zr6 (zfp ns vs pl x))/\Below w.heap.size w w':=by
 obtain⟨hbx,_,hct,_,hnl⟩:=h
 obtain⟨hc,hf⟩:=hbx.rules
 have hml:=hbx.lt
 have HS:Hid (∀ W,Below w.heap.size w W->Calls Tryz.prog 201 #[.pointer (some ⟨sb,0,none⟩),.string x] W fun e w'=>e=.returned (.int .i64 (zdg vs pl x:Nat))/\w'=W):=fun W hW=>z0m W sb vs pl x (hs.below hW) hl
 have HC:Hid (∀ W,Below w.heap.size w W->Calls Tryz.prog 129 #[.pointer (some ⟨cb,0,none⟩),.string x] W fun e w'=>e=.returned (.tuple #[.int .i64 (((zco ns x).getD 0:Nat):Int),.bool (zco ns x).isSome])/\∃ m,w'=W.drewN m):=fun W hW=>zy7 W cb ns x (hct.below hW) hnl
 have hrb:=Box.new w #[.bool false,.int .i64 0,.int .i64 0] 284
 clear hs hct
 cases hv:za8 x with
 |true =>
  have HV:Hid (∀ W,Calls Tryz.prog 156 #[.string x] W fun e w'=>e=.returned (.bool true)/\w'=W):=fun W=>by rw[← hv];exact zbw x W
  have HE:Hid (zfp ns vs pl x=⟨true,zdg vs pl x,0⟩):=by rw[Hid,zfp,hv];rfl
  clear hv
  generalize zdg vs pl x=ps at *
  go_enter Tryz.func186,Tryz.ntmps186
  go_wp2_with (first|(go_at_call 156;refine(HV.out _).mono ?_;rintro e w' ⟨rfl,hww⟩;obtain rfl:=hww.symm)|(go_at_call 201;refine(HS.out _ (by exact(by go_grown))).mono ?_;rintro e w' ⟨rfl,hww⟩;obtain rfl:=hww.symm))
  (try simp only[Exit.inBlock,Exit.then])
  exact bodyPost_ret (v:=.agg #[.bool true,.int .i64 (ps:Nat),.int .i64 0]) (by simp[results,Tryz.results186,go_sem]) rfl ⟨by rw[HE.out];rfl,(by go_grown)⟩
 |false =>
  have HV:Hid (∀ W,Calls Tryz.prog 156 #[.string x] W fun e w'=>e=.returned (.bool false)/\w'=W):=fun W=>by rw[← hv];exact zbw x W
  have HE:Hid (zfp ns vs pl x=⟨false,(zco ns x).getD 0,0⟩):=by rw[Hid,zfp,hv];rfl
  clear hv
  generalize (zco ns x).getD 0=ps at *
  generalize (zco ns x).isSome=pb at *
  go_enter Tryz.func186,Tryz.ntmps186
  go_wp2_with (first|(go_at_call 156;refine(HV.out _).mono ?_;rintro e w' ⟨rfl,hww⟩;obtain rfl:=hww.symm)|(go_at_call 129;refine(HC.out _ (by exact(by go_grown))).mono ?_;rintro e w1 ⟨rfl,m,hw1⟩;have hb1:Below (w.alloc (.cells #[.bool false,.int .i64 0,.int .i64 0] 284)).heap.size (w.alloc (.cells #[.bool false,.int .i64 0,.int .i64 0] 284)) w1:=(by rw[hw1];exact zau (Below.refl _ _) m);have hr1:=hrb.below hb1;obtain⟨hrc,hrf⟩:=hr1.rules;have hrl:=hr1.lt;have hB1:Below w.heap.size w w1:=(zae (by go_grown) hb1 (uaa _));clear hw1))
  (try simp only[Exit.inBlock,Exit.then])
  exact bodyPost_ret (v:=.agg #[.bool false,.int .i64 (ps:Nat),.int .i64 0]) (by simp[results,Tryz.results186,go_sem,hrc]) rfl ⟨by rw[HE.out];rfl,((hB1.setCell (by simp) _).setCell (by simp) _).setCell (by simp) _⟩
end Go.Proofs.YteampbddflhngaaGreat
namespace Go.Proofs.YteampbddflhngaaGreat
set_option maxRecDepth 100000
set_option maxHeartbeats 4000000
open Go.RowKit
variable {lo:Nat}
variable {ts':List zbn}
theorem Tryz.infoTerm:(Tryz.prog.info? 284).map (fun i=>(i.zero,i.size,i.bytes))=some (some (.agg #[.bool false,.int .i64 0,.int .i64 0]),3,24):=by kernel_rfl
def zc3(p:Nat)(ts:List zbn)(t:zbn):zbn:=if t.var then{ t with level:=(zbq ⟨p,ts⟩ t.num).getD 0 } else t
def za5(ns vs:List ByteArray)(pl:List Nat)(l:zbu):List zbn:=l.args.map (zfp ns vs pl)
def zdf(t:List zar)(ns vs:List ByteArray)(pl:List Nat)(l:zbu):zak:=⟨zbd t l.pred,(za5 ns vs pl l).map (zc3 0 (za5 ns vs pl l))⟩
def z4h(t:zbn):Bool × Nat:=(t.var,t.num)
theorem z2d{ts:List zbn}(h:ts.map z4h=ts'.map z4h)(p p' q:Nat):zde ⟨p,ts⟩ q=zde ⟨p',ts'⟩ q:=by
 have e:∀ l:List zbn,(l.any fun t=>t.var && t.num == q)=(l.map z4h).any fun x=>x.1 && x.2 == q:=fun l=>by
  rw[List.any_map];rfl
 simp only[zde]
 rw[e,e,h]
theorem zv7{ts:List zbn}(h:ts.map z4h=ts'.map z4h)(p p' q:Nat):zbq ⟨p,ts⟩ q=zbq ⟨p',ts'⟩ q:=by
 unfold zbq
 have:zde ⟨p,ts⟩=zde ⟨p',ts'⟩:=funext (z2d h p p')
 rw[this]
theorem zuz(p:Nat)(ts:List zbn)(t:zbn):z4h (zc3 p ts t)=z4h t:=by
 unfold zc3;split <;> rfl
def zf8(ts:List zbn)(k:Nat):List zbn:=(ts.take k).map (zc3 0 ts)++ts.drop k
theorem zp9(ts:List zbn)(k:Nat):(zf8 ts k).map z4h=ts.map z4h:=by
 unfold zf8
 rw[ua8,List.map_map,List.map_drop,show(z4h ∘ zc3 0 ts)=z4h from funext (zuz 0 ts),List.map_take,ube]
theorem z2a(ts:List zbn)(k:Nat):(zf8 ts k).length=ts.length:=by
 have:=congrArg List.length (zp9 ts k)
 simpa using this
theorem z5s(ts:List zbn)(k:Nat)(hk:k < ts.length):(zf8 ts k)[k]?=some ts[k]:=by
 unfold zf8
 rw[ua1 (by simp;omega),ua0,ua2,ubv (by omega),ubs,List.getElem?_drop]
 simp[hk]
theorem z2c(ts:List zbn)(k:Nat)(hk:k < ts.length):(zf8 ts k).set k (zc3 0 ts ts[k])=zf8 ts (k+1):=by
 unfold zf8
 rw[ubd _ _ (by simp;omega),ua0,ua2,ubv (by omega),ubs,uah hk,uda,uae hk,ua8,uba]
 rfl
theorem zzh(ts:List zbn):zf8 ts 0=ts:=by simp[zf8]
theorem ztg(ts:List zbn):zf8 ts ts.length=ts.map (zc3 0 ts):=by simp[zf8]
theorem zt2{l:zak}{q:Nat}(hq:q<=1000000):(zbq l q).getD 0<=1000000:=by
 unfold zbq
 split
 ·have:=ucx (p:=zde l) (l:=List.range q)
  simp at this ⊢
  omega
 ·simp
theorem zz3(ns:List ByteArray)(x:ByteArray):(zco ns x).getD 0<=ns.length:=by
 unfold zco
 split
 ·simp;omega
 ·simp
theorem zul(vs:List ByteArray)(pl:List Nat)(n:ByteArray)(h:∀ x∈pl,x<=1000):zdg vs pl n<=1000:=by
 unfold zdg
 split
 ·omega
 ·split
  ·omega
  ·rename_i k _ _
   by_cases hk:k < pl.length
   ·rw[uaf,uac hk];exact h _ (uad hk)
   ·rw[uaf,uav (by omega)];simp
theorem zw2(ns vs:List ByteArray)(pl:List Nat)(x:ByteArray)(h:∀ y∈pl,y<=1000)(hn:ns.length<=1000):(zfp ns vs pl x).num<=1000/\(zfp ns vs pl x).level=0:=by
 unfold zfp
 split
 ·exact⟨zul vs pl x h,rfl⟩
 ·have:=zz3 ns x
  exact⟨by simp only;omega,rfl⟩
theorem zr5{α:Type}{l:List α}{k:Nat}{x:α}(h:l[k]?=some x):l.set k x=l:=by
 obtain⟨hk,e⟩:=uat.1 h
 rw[← e];exact udc hk
theorem z14(ts:List zbn)(k:Nat)(t:zbn)(lv:Nat)(h:ts[k]?=some t):(flat3 (ts.map zdj)).set (k * 3+2) (.int .i64 (lv:Nat))=flat3 ((ts.set k { t with level:=lv }).map zdj):=by
 obtain⟨hk,e⟩:=uat.1 h
 have hk2:k < (ts.map zdj).length:=by simpa using hk
 have q:=zn6 (ts.map zdj) k hk2 (.bool t.var) (.int .i64 (t.num:Nat)) (.int .i64 (lv:Nat))
 obtain⟨a0,a1,_⟩:=zm9 (ts.map zdj) k hk2
 simp only[uaw,e,zdj] at a0 a1
 rw[zr5 a0,zr5 a1] at q
 rw[q,ucj]
 rfl
def zla(ts:List zbn)(k:Nat):List zbn:=ts.take k++List.replicate (ts.length - k) ⟨false,0,0⟩
theorem z2p(ts:List zbn)(k:Nat)(hk:k<=ts.length):(zla ts k).length=ts.length:=by simp[zla];omega
theorem z2q(ts:List zbn)(k:Nat)(hk:k < ts.length):(zla ts k).set k ts[k]=zla ts (k+1):=by
 unfold zla
 obtain⟨m,hm⟩:∃ m,ts.length - k=m+1:=⟨ts.length - k - 1,by omega⟩
 rw[ubd _ _ (by simp;omega),ua2,ubv (by omega),ubs,hm,ucc,uda,show ts.length - (k+1)=m from by omega,uae hk,uba]
 rfl
theorem z2o(ts:List zbn):zla ts ts.length=ts:=by simp[zla]
theorem zn9(ts:List zbn)(k:Nat)(h:∀ x∈ts,x.num<=1000/\x.level=0):∀ x∈zf8 ts k,x.num<=1000000/\x.level<=1000000:=by
 intro x hx
 unfold zf8 at hx
 rw[uao] at hx
 rcases hx with hx|hx
 ·rw[uai] at hx
  obtain⟨y,hy,rfl⟩:=hx
  have:=h y (List.mem_of_mem_take hy)
  unfold zc3
  split
  ·exact⟨by simp only;omega,zt2 (by omega)⟩
  ·omega
 ·have:=h x (ucz hx)
  omega
theorem zmc{w:World}{base:Nat}{e:TypeId}{g n cap m:Nat}{ys:List (Value × Value × Value)}(h:w.ownsRow base e 3 (.slice (some ⟨g,0,none⟩) n cap) m (flat3 ys))(k:Nat)(hk:k < ys.length) :
  ∃ a b c,g < w.heap.size/\w.cell? ⟨g,k * 3,none⟩=some a/\w.cell? ⟨g,k * 3+1,none⟩=some b/\w.cell? ⟨g,k * 3+2,none⟩=some c:=⟨_,_,_,zop h k hk⟩
theorem z2v{lo2 lo3:Nat}(w:World)(mb tb o cb sb:Nat)(t:List zar)(ns vs:List ByteArray)(pl:List Nat)(l:zbu)(va:Value)(h:zil lo w mb tb o cb t ns)(hs:zfs lo2 w sb vs pl)(hl:vs.length<=1000)(hpl:∀ y∈pl,y<=1000)(ha:SIn lo3 w va l.args)(hal:l.args.length<=1000) :
  Calls Tryz.prog 160 #[.pointer (some ⟨mb,0,none⟩),.agg #[.bool l.neg,.string l.pred,va],.pointer (some ⟨sb,0,none⟩)] w fun e w'=>∃ tv,e=.returned (.agg #[.int .i64 (zbd t l.pred:Nat),tv])/\zaq w.heap.size w' tv (zdf t ns vs pl l).qf/\Below w.heap.size w w':=by
 obtain⟨i0,hi,hz0,hzs,hzb⟩:=info_parts Tryz.infoTerm
 obtain⟨ao,cap,rfl⟩:=ha.shape
 have hmk:=fun W:World=>run_make (P:=Tryz.prog) (w:=W) 202 284 i0 _ Tryz.underlying202 hi hz0 .i64 .i64 (l.args.length:Int) (l.args.length:Int) (by omega) (Int.le_refl _) (by rw[hzb];omega) (by omega)
 rw[hzs] at hmk
 have HF:Hid (∀ W,Below w.heap.size w W->Calls Tryz.prog 77 #[.pointer (some ⟨tb,o,none⟩),.string l.pred] W fun e w'=>e=.returned (.tuple #[.int .i64 (zbd t l.pred:Nat),.bool (zbh t l.pred).isSome])/\w'=W):=fun W hW=>zn8 lo W tb o t l.pred (h.2.1.below hW) h.2.2.2.1
 have HT:Hid (∀ W x,Below w.heap.size w W->Calls Tryz.prog 186 #[.pointer (some ⟨mb,0,none⟩),.string x,.pointer (some ⟨sb,0,none⟩)] W fun e w'=>e=.returned (zr6 (zfp ns vs pl x))/\Below W.heap.size W w'):=fun W x hW=>z7e W mb tb o cb sb t ns vs pl x (h.below hW) (hs.below hW) hl
 have HSM:Hid (∀ x∈za5 ns vs pl l,x.num<=1000/\x.level=0):=fun x hx=>by
  simp only[za5,uai] at hx
  obtain⟨y,_,rfl⟩:=hx
  exact zw2 ns vs pl y hpl h.2.2.2.2
 have HE:Hid ((zdf t ns vs pl l).qf=(za5 ns vs pl l).map (zc3 0 (za5 ns vs pl l))):=rfl
 have hlen:(za5 ns vs pl l).length=l.args.length:=by simp[za5]
 have HAT:Hid (∀ k (hk:k < l.args.length) (hk2:k < (za5 ns vs pl l).length),zfp ns vs pl l.args[k]=(za5 ns vs pl l)[k]):=fun k hk hk2=>by simp[za5]
 obtain⟨hmc,hmf⟩:=h.1.rules
 have hml:=h.1.lt
 have hm0:w.cell? ⟨mb,0,none⟩=some (.pointer (some ⟨tb,o,none⟩)):=by rw[hmc];rfl
 clear h hs hmc
 generalize za5 ns vs pl l=ts at *
 generalize zbd t l.pred=fn at *
 generalize (zbh t l.pred).isSome=fb at *
 go_enter Tryz.func160,Tryz.ntmps160
 go_upto_region 1 with fail
 go_quiet ((go_at_call 77;exact Calls.quiet_of_same (HF.out _ (by exact(by repeat'(first|with_reducible(first|exact zR _ _|assumption|refine zN ?_ _|refine zA ?_ ?_ _|refine zD ?_|refine zS ?_ ?_ _)|go_size))))))
 go_upto_region 4 with fail
 have hrow:=zaa (z3k ((((w.alloc (.cells #[.bool l.neg,.string l.pred,.slice ao l.args.length cap] 90)).alloc (.cells #[.int .i64 0,.slice none 0 0] 204)).drewN nq)) l.args.length 284 (.bool false) (.int .i64 0) (.int .i64 0) (by unfold maxLen;omega)) ((Below.refl _ _).alloc (uaa _) (.cells #[.int .i64 (fn:Nat),.slice (some ⟨w.heap.size+1+1,0,none⟩) l.args.length l.args.length] 204))
 have hb9:=Box.new ((((w.alloc (.cells #[.bool l.neg,.string l.pred,.slice ao l.args.length cap] 90)).alloc (.cells #[.int .i64 0,.slice none 0 0] 204)).drewN nq).alloc (.cells (madeCells #[.bool false,.int .i64 0,.int .i64 0] (l.args.length * 3)) 284)) #[.int .i64 (fn:Nat),.slice (some ⟨w.heap.size+1+1,0,none⟩) l.args.length l.args.length] 204
 have hb6:=(((Box.new (w.alloc (.cells #[.bool l.neg,.string l.pred,.slice ao l.args.length cap] 90)) #[.int .i64 0,.slice none 0 0] 204).below (zau (Below.refl _ _) nq)).below ((Below.refl _ _).alloc (uaa _) (.cells (madeCells #[.bool false,.int .i64 0,.int .i64 0] (l.args.length * 3)) 284))).below ((Below.refl _ _).alloc (uaa _) (.cells #[.int .i64 (fn:Nat),.slice (some ⟨w.heap.size+1+1,0,none⟩) l.args.length l.args.length] 204))
 have hB3:Below w.heap.size w (((((w.alloc (.cells #[.bool l.neg,.string l.pred,.slice ao l.args.length cap] 90)).alloc (.cells #[.int .i64 0,.slice none 0 0] 204)).drewN nq).alloc (.cells (madeCells #[.bool false,.int .i64 0,.int .i64 0] (l.args.length * 3)) 284)).alloc (.cells #[.int .i64 (fn:Nat),.slice (some ⟨w.heap.size+1+1,0,none⟩) l.args.length l.args.length] 204)):=(by repeat'(first|with_reducible(first|exact zR _ _|assumption|refine zN ?_ _|refine zA ?_ ?_ _|refine zD ?_|refine zS ?_ ?_ _)|go_size))
 have hsz2:(((w.alloc (.cells #[.bool l.neg,.string l.pred,.slice ao l.args.length cap] 90)).alloc (.cells #[.int .i64 0,.slice none 0 0] 204)).drewN nq).heap.size=w.heap.size+1+1:=by simp
 simp only[World.size_alloc,hsz2] at hrow hb9 hb6
 clear hsz2
 generalize ((((w.alloc (.cells #[.bool l.neg,.string l.pred,.slice ao l.args.length cap] 90)).alloc (.cells #[.int .i64 0,.slice none 0 0] 204)).drewN nq).alloc (.cells (madeCells #[.bool false,.int .i64 0,.int .i64 0] (l.args.length * 3)) 284)).alloc (.cells #[.int .i64 (fn:Nat),.slice (some ⟨w.heap.size+1+1,0,none⟩) l.args.length l.args.length] 204)=w3 at *
 have hz3:=hB3.size
 have H0:Hid (flat3 (List.replicate l.args.length (Value.bool false,Value.int .i64 0,Value.int .i64 0))=flat3 ((zla ts 0).map zdj)):=by
  rw[Hid,zla,List.take_zero,List.nil_append,Nat.sub_zero,hlen,List.map_replicate];rfl
 rw[H0.out] at hrow
 clear H0 hmk hm0 hmf HF
 have hrow:=zbf hrow (show w.heap.size<=w.heap.size+1+1 by omega)
 go_loopw [35] (fun v35 wr=>∃ k:Nat,k<=l.args.length/\v35=.int .i64 k/\Box wr (w.heap.size+1+1+1) #[.int .i64 (fn:Nat),.slice (some ⟨w.heap.size+1+1,0,none⟩) l.args.length l.args.length] 204/\Box wr (w.heap.size+1) #[.int .i64 0,.slice none 0 0] 204/\wr.ownsRow w.heap.size 284 3 (.slice (some ⟨w.heap.size+1+1,0,none⟩) l.args.length l.args.length) l.args.length (flat3 ((zla ts k).map zdj))/\Below w.heap.size w wr) (fun i _=>l.args.length - (intOf i).toNat)
 case atStart=>exact⟨0,uaj _,rfl,hb9,hb6,hrow,hB3⟩
 case round =>
  clear hrow hb9 hb6
  obtain⟨k,hk,rfl,hb9,hb6,hrow,hbk⟩:=hrel
  have hszk:=hbk.size
  by_cases hlt:k < l.args.length
  ·obtain⟨g,rfl,hg,hcell⟩:=ha.cell k hlt
   have hx0:=(hbk.cell (p:=⟨g,k,none⟩) hg).trans hcell
   have hgr:g < wr.heap.size:=by omega
   have HSET:Hid ((zla ts k).set k ts[k]=zla ts (k+1)):=z2q ts k (by omega)
   have HTX:Hid (zfp ns vs pl l.args[k]=ts[k]):=HAT.out k hlt (by omega)
   have hll:=z2p ts k (by omega)
   obtain⟨e0,e1,e2,hg3,hq0,hq1,hq2⟩:=zmc hrow k (by simp;omega)
   have hfz:=zbt hrow
   obtain⟨h9c,h9f⟩:=hb9.rules
   have h9l:=hb9.lt
   have h9c1:wr.cell? ⟨w.heap.size+1+1+1,1,none⟩=some (.slice (some ⟨w.heap.size+1+1,0,none⟩) l.args.length l.args.length):=by rw[h9c];rfl
   clear hcell
   have HT1:Hid (∀ W,Below wr.heap.size wr W->Calls Tryz.prog 186 #[.pointer (some ⟨mb,0,none⟩),.string l.args[k],.pointer (some ⟨sb,0,none⟩)] W fun e w'=>e=.returned (.agg #[.bool ts[k].var,.int .i64 (ts[k].num:Nat),.int .i64 (ts[k].level:Nat)])/\Below W.heap.size W w'):=fun W hW=>by
    have q:=HT.out W l.args[k] (zae hbk hW (uaa _))
    rw[HTX.out] at q
    exact q
   generalize ts[k]=tk at *
   generalize l.args[k]=x at *
   generalize (zla ts k)=lk at *
   go_wp2
   go_region_held3 (fun w'=>w'.cell? ⟨w.heap.size+1+1+1,1,none⟩=some (.slice (some ⟨w.heap.size+1+1,0,none⟩) l.args.length l.args.length)) (first|go_keep|(go_simp;done)) (first|(go_at_call 186;refine(HT1.out _ (by exact(by repeat'(first|with_reducible(first|exact zR _ _|assumption|refine zN ?_ _|refine zA ?_ ?_ _|refine zD ?_|refine zS ?_ ?_ _)|go_size)))).mono ?_;rintro e w4 ⟨rfl,hb4⟩;have hB4:Below wr.heap.size wr w4:=(zae (by repeat'(first|with_reducible(first|exact zR _ _|assumption|refine zN ?_ _|refine zA ?_ ?_ _|refine zD ?_|refine zS ?_ ?_ _)|go_size)) hb4 (uaa _));have h94:=hb9.below hB4;have h64:=hb6.below hB4;have hr4:=zaa hrow hB4;obtain⟨h94c,h94f⟩:=h94.rules;have h94l:=h94.lt;obtain⟨f0,f1,f2,hg4,hp0,hp1,hp2⟩:=zmc hr4 k (by simp;omega);have hfz4:=zbt hr4;have hz4:=hB4.size))
   have hset3:=z6n hr4 k (by simp;omega) (.bool tk.var) (.int .i64 (tk.num:Nat)) (.int .i64 (tk.level:Nat))
   have HM:(lk.map zdj).set k (.bool tk.var,.int .i64 (tk.num:Nat),.int .i64 (tk.level:Nat))=(zla ts (k+1)).map zdj:=by rw[← HSET.out,ucj];rfl
   rw[HM] at hset3
   have h95:=((h94.set_ne (show w.heap.size+1+1+1≠w.heap.size+1+1 by omega) (k * 3) (.bool tk.var)).set_ne (show w.heap.size+1+1+1≠w.heap.size+1+1 by omega) (k * 3+1) (.int .i64 (tk.num:Nat))).set_ne (show w.heap.size+1+1+1≠w.heap.size+1+1 by omega) (k * 3+2) (.int .i64 (tk.level:Nat))
   have h65:=((h64.set_ne (show w.heap.size+1≠w.heap.size+1+1 by omega) (k * 3) (.bool tk.var)).set_ne (show w.heap.size+1≠w.heap.size+1+1 by omega) (k * 3+1) (.int .i64 (tk.num:Nat))).set_ne (show w.heap.size+1≠w.heap.size+1+1 by omega) (k * 3+2) (.int .i64 (tk.level:Nat))
   have hB5:Below w.heap.size w (((w4.setCell ⟨w.heap.size+1+1,k * 3,none⟩ (.bool tk.var)).setCell ⟨w.heap.size+1+1,k * 3+1,none⟩ (.int .i64 (tk.num:Nat))).setCell ⟨w.heap.size+1+1,k * 3+2,none⟩ (.int .i64 (tk.level:Nat))):=(((zae hbk hB4 (uaa _)).setCell (by simp;omega) _).setCell (by simp;omega) _).setCell (by simp;omega) _
   generalize ((w4.setCell ⟨w.heap.size+1+1,k * 3,none⟩ (.bool tk.var)).setCell ⟨w.heap.size+1+1,k * 3+1,none⟩ (.int .i64 (tk.num:Nat))).setCell ⟨w.heap.size+1+1,k * 3+2,none⟩ (.int .i64 (tk.level:Nat))=w5 at *
   go_wp2
   go_roundw
   case rel=>exact⟨k+1,by omega,by go_num,h95,h65,hset3,hB5⟩
   case measure=>simp[intOf];omega
  ·obtain rfl:k=l.args.length:=by omega
   rw[← hlen,z2o] at hrow
   rw[← hlen] at hb9
   clear hlt hk
   obtain⟨h9c,h9f⟩:=hb9.rules
   have h9l:=hb9.lt
   go_wp2
   clear h9c h9f h9l
   rw[← hlen] at hal ⊢
   clear hB3 hz3 HT HAT hlen
   go_loopw [52] (fun v52 wr=>∃ k:Nat,k<=ts.length/\v52=.int .i64 k/\Box wr (w.heap.size+1+1+1) #[.int .i64 (fn:Nat),.slice (some ⟨w.heap.size+1+1,0,none⟩) ts.length ts.length] 204/\Box wr (w.heap.size+1) #[.int .i64 0,.slice none 0 0] 204/\wr.ownsRow w.heap.size 284 3 (.slice (some ⟨w.heap.size+1+1,0,none⟩) ts.length ts.length) ts.length (flat3 ((zf8 ts k).map zdj))/\Below w.heap.size w wr) (fun i _=>ts.length - (intOf i).toNat)
   case atStart=>exact⟨0,uaj _,rfl,hb9,hb6,by rw[zzh];exact hrow,hbk⟩
   case round =>
    clear hrow hb9 hb6 hbk hszk
    obtain⟨k,hk,rfl,hb9,hb6,hrow,hbk⟩:=hrel
    have hszk:=hbk.size
    by_cases hlt:k < ts.length
    ·have hhl:=z2a ts k
     have HAT2:Hid ((zf8 ts k)[k]?=some ts[k]):=z5s ts k hlt
     have HSET:Hid ((zf8 ts k).set k (zc3 0 ts ts[k])=zf8 ts (k+1)):=z2c ts k hlt
     have HLV:Hid (zbq ⟨fn,zf8 ts k⟩ ts[k].num=zbq ⟨0,ts⟩ ts[k].num):=zv7 (zp9 ts k) _ _ _
     have HLM:Hid (zc3 0 ts ts[k]=if ts[k].var then{ ts[k] with level:=(zbq ⟨0,ts⟩ ts[k].num).getD 0 } else ts[k]):=rfl
     have HSM2:=zn9 ts k HSM.out
     have hnum:=(HSM.out ts[k] (uad hlt)).1
     obtain⟨hg3,hq0,hq1,hq2⟩:=zop hrow k (by simp;omega)
     have hkk:k < (zf8 ts k).length:=by omega
     have hee:(zf8 ts k)[k]=ts[k]:=by have q:=HAT2.out;rw[uac hkk] at q;simpa using q
     simp only[uaw,hee,zdj] at hq0 hq1 hq2
     have hfz:=zbt hrow
     obtain⟨h9c,h9f⟩:=hb9.rules
     have h9l:=hb9.lt
     have HTI:Hid (zaq w.heap.size wr (.slice (some ⟨w.heap.size+1+1,0,none⟩) ts.length ts.length) (zf8 ts k)):=⟨by rw[hhl];exact hrow,by omega,HSM2⟩
     have HLL:Hid (∀ W,Below wr.heap.size wr W->Calls Tryz.prog 187 #[.agg #[.int .i64 (fn:Nat),.slice (some ⟨w.heap.size+1+1,0,none⟩) ts.length ts.length],.int .i64 (ts[k].num:Nat)] W fun e w'=>e=.returned (.tuple #[.int .i64 (((zbq ⟨0,ts⟩ ts[k].num).getD 0:Nat):Int),.bool (zbq ⟨0,ts⟩ ts[k].num).isSome])/\Below W.heap.size W w'):=fun W hW=>by
      have q:=zt3 W _ fn ts[k].num (zf8 ts k) (HTI.out.below hW) (by omega)
      rw[HLV.out] at q
      exact q
     clear hkk hee HLV HSM2 HTI
     generalize ts[k]=tk at *
     generalize zf8 ts k=hk0 at *
     generalize (zbq ⟨0,ts⟩ tk.num).getD 0=lv at *
     generalize (zbq ⟨0,ts⟩ tk.num).isSome=lb at *
     cases hv:tk.var with
     |false =>
      rw[hv] at hq0 HLM
      simp only[ubr,if_false] at HLM
      go_wp2
      have HS1:Hid (hk0=zf8 ts (k+1)):=by
       rw[Hid,← HSET.out,HLM.out]
       exact(zr5 HAT2.out).symm
      go_roundw
      case rel=>exact⟨k+1,by omega,by go_num,hb9.below (by repeat'(first|with_reducible(first|exact zR _ _|assumption|refine zN ?_ _|refine zA ?_ ?_ _|refine zD ?_|refine zS ?_ ?_ _)|go_size)),hb6.below (by repeat'(first|with_reducible(first|exact zR _ _|assumption|refine zN ?_ _|refine zA ?_ ?_ _|refine zD ?_|refine zS ?_ ?_ _)|go_size)),by rw[← HS1.out];exact zaa hrow (by repeat'(first|with_reducible(first|exact zR _ _|assumption|refine zN ?_ _|refine zA ?_ ?_ _|refine zD ?_|refine zS ?_ ?_ _)|go_size)),zae hbk (by repeat'(first|with_reducible(first|exact zR _ _|assumption|refine zN ?_ _|refine zA ?_ ?_ _|refine zD ?_|refine zS ?_ ?_ _)|go_size)) (uaa _)⟩
      case measure=>simp[intOf];omega
     |true =>
      rw[hv] at hq0 HLM
      simp only[if_true] at HLM
      have hnl:wr.heap.size≠w.heap.size+1+1:=by omega
      go_upto_region 13 with (first|(go_at_call 187;refine(HLL.out _ (by exact(by repeat'(first|with_reducible(first|exact zR _ _|assumption|refine zN ?_ _|refine zA ?_ ?_ _|refine zD ?_|refine zS ?_ ?_ _)|go_size)))).mono ?_;rintro e w4 ⟨rfl,hb4⟩;have hB4:Below wr.heap.size wr w4:=(zae (by repeat'(first|with_reducible(first|exact zR _ _|assumption|refine zN ?_ _|refine zA ?_ ?_ _|refine zD ?_|refine zS ?_ ?_ _)|go_size)) hb4 (uaa _));have h94:=hb9.below hB4;have h64:=hb6.below hB4;have hr4:=zaa hrow hB4;obtain⟨h94c,h94f⟩:=h94.rules;have h94l:=h94.lt;obtain⟨f0,f1,f2,hg4,hp0,hp1,hp2⟩:=zmc hr4 k (by simp;omega);have hfz4:=zbt hr4;have hz4:=hB4.size))
      have hset3:=zb4 hr4 (k * 3+2) (by rw[zix];simp;omega) (.int .i64 (lv:Nat))
      have h95:=h94.set_ne (show w.heap.size+1+1+1≠w.heap.size+1+1 by omega) (k * 3+2) (.int .i64 (lv:Nat))
      have h65:=h64.set_ne (show w.heap.size+1≠w.heap.size+1+1 by omega) (k * 3+2) (.int .i64 (lv:Nat))
      have hB5:Below w.heap.size w (w4.setCell ⟨w.heap.size+1+1,k * 3+2,none⟩ (.int .i64 (lv:Nat))):=((zae hbk hB4 (uaa _)).setCell (by simp;omega) _)
      have HM:Hid ((flat3 (hk0.map zdj)).set (k * 3+2) (.int .i64 (lv:Nat))=flat3 ((zf8 ts (k+1)).map zdj)):=by
       rw[Hid,← HSET.out,HLM.out]
       exact z14 hk0 k tk lv HAT2.out
      rw[HM.out] at hset3
      clear hq0 hq1 hq2
      go_wp2
      generalize w4.setCell ⟨w.heap.size+1+1,k * 3+2,none⟩ (.int .i64 (lv:Nat))=w5 at *
      go_roundw
      case rel=>exact⟨k+1,by omega,by go_num,h95,h65,hset3,hB5⟩
      case measure=>simp[intOf];omega
    ·obtain rfl:k=ts.length:=by omega
     rw[ztg] at hrow
     obtain⟨h9c,h9f⟩:=hb9.rules
     have h9l:=hb9.lt
     obtain⟨h6c,h6f⟩:=hb6.rules
     have h6l:=hb6.lt
     have HSF:Hid (∀ x∈ts.map (zc3 0 ts),x.num<=1000000/\x.level<=1000000):=by rw[← ztg];exact zn9 ts _ HSM.out
     go_wp2
     (try simp only[Exit.inBlock,Exit.then])
     refine bodyPost_ret (v:=.agg #[.int .i64 (fn:Nat),.slice (some ⟨w.heap.size+1+1,0,none⟩) ts.length ts.length]) (by simp[results,Tryz.results160,go_sem,h6c]) rfl ⟨_,rfl,?_,(hbk.setCell (by simp) _).setCell (by simp) _⟩
     rw[HE.out]
     refine⟨?_,by simpa using hal,HSF.out⟩
     rw[ua0]
     exact zb9 hrow (((But.refl (w.heap.size+1) wr).setCell 0 _).setCell 1 _) hb6 (by decide)
end Go.Proofs.YteampbddflhngaaGreat
