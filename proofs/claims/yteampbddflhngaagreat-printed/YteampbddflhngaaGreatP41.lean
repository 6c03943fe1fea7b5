import Derived.Test.YteampbddflhngaaGreatP40
import Derived.Test.YteampbddflhngaaGreatP34
import Derived.Test.YteampbddflhngaaGreatP32
import Derived.Test.YteampbddflhngaaGreatP08
import Derived.Test.YteampbddflhngaaGreatP33

namespace Go.Proofs.YteampbddflhngaaGreat
open Classical
theorem Parts.low{cs:List zab}{t0 t:List zas}(h:Parts cs t0 t):t.length=t0.length/\t.length<=500/\∀ n,zd3 t n<=t.length:=by
 have hAr:arT t=arT t0:=by have:=zit (t0.length+1) t0 cs;rw[h.strat] at this;exact this
 have hlen:t.length=t0.length:=by have:=congrArg List.length hAr;simpa [arT] using this
 have h1:=zrp _ [] t0 h.coll
 have h2:=zyn cs
 have h3:=h.few
 simp only[List.length_nil,Nat.zero_add] at h1
 have hall:zmy t0 cs:=by
  intro c hc l hl
  have hmem:l∈cs.flatMap za2:=List.mem_flatMap.2 ⟨c,hc,hl⟩
  cases he:zbf t0 l.pred with
  |some e=>rfl
  |none =>
   obtain⟨e,hm,hn⟩:=List.mem_map.1 ((h.tab.names l.pred).2 ⟨l,hmem,rfl⟩)
   exact absurd hn (zk0 h.tab.rise he e hm)
 have hz:∀ n,val t0 n=0:=fun n=>by
  unfold val
  split
  ·rename_i e he
   have:=znq _ [] (fun e he=>by cases he) t0 h.coll e (zn3 he).1
   omega
  ·rfl
 have hL:=(z5c hall hz).2 (by rw[h.strat])
 rw[h.strat] at hL
 refine⟨hlen,by omega,fun n=>?_⟩
 rw[zi8]
 by_cases hn:n∈namesT t0
 ·have:=z6w hL (ps:=namesT t0) (fun c hc l hl=>(h.tab.names l.pred).2 ⟨l,List.mem_flatMap.2 ⟨c,hc,hl⟩,rfl⟩) hn
  simp[namesT] at this
  show val t n<=_
  omega
 ·have:val t n=0:=zxl (by rw[zs4 hAr];exact hn)
  omega
theorem z1t(cs:List zab):zpi cs<=prW cs:=by
 induction cs with
 |nil=>simp[zpi,prW]
 |cons c cs ih =>
  have h1:=zo6 c.body
  have h2:zly c.body=zce c.body:=by
   have:∀ ls:List zbv,zly ls=zce ls:=by
    intro ls
    induction ls with
    |nil=>rfl
    |cons a ls ih=>simp[zly,zce,zkb] at ih ⊢;omega
   exact this _
  simp[zpi,prW,clW,z1g,zkb] at ih ⊢
  omega
end Go.Proofs.YteampbddflhngaaGreat
namespace Go.Proofs.YteampbddflhngaaGreat
open Go.RowKit
theorem Parts.runok{cs:List zab}{t0 t:List zas}(h:Parts cs t0 t):z8p cs t none/\z5v (zjw t (zaw cs) none cs):=by
 have hset:z5v (zjw t (zaw cs) none cs):=z4w h _ none (fun i hi=>zqy (zi4 (h.many _ (List.getElem_mem hi))))
 obtain⟨_,hl,hst⟩:=h.low
 have hf:=h.few
 have hlen:=z4o cs
 have hargs:=z1t cs
 have hvals:(zaw cs).length<=500:=by
  have:=zkc cs []
  simp only[List.length_nil,Nat.zero_add] at this
  show(cs.foldl zdd []).length<=500
  omega
 have hok:=z8k (cs:=cs) (by omega)
 have hbody:∀ c∈cs,c.body.length<=6:=fun c hc=>(zft (h.many c hc)).2.1
 refine⟨⟨by omega,by omega,hok,fun c hc=>⟨(hok c hc).1,by have:=hbody c hc;omega⟩,⟨by omega,by omega,fun c hc=>(hok c hc).2⟩,by omega,fun n=>by have:=hst n;omega,by simp,by simp,fun _=>by simp,fun _=>⟨fun r hr=>⟨fun l hl=>((hset.rules.rules r hr).plain l hl).1,fun l hl=>⟨((hset.rules.rules r hr).nots l hl).1,hset.rules.apart r hr r hr rfl l hl⟩⟩,?_,fun a ha=>by have:=hset.small a ha;omega,fun f hf=>(hset.facts f hf).2.1.1,?_,by show(zaw cs).length<=1000;omega⟩⟩,hset⟩
 ·show(t.map (·.arity)).length<=1000
  simp;omega
 ·show(zep t (zaw cs) cs).length<=1000000
  have:(zep t (zaw cs) cs).length<=cs.length:=by
   unfold zep
   rw[List.length_map]
   exact List.length_filter_le _ _
  omega
def z9r(lp:Nat)(t:List zas)(ns:List ByteArray)(o:Option (DB × Nat))(w:World)(e:Ending)(w':World):Prop:=match o with
 |none=>e=.returned (.tuple #[.pointer none,.int .i64 10])/\Below w.heap.size w w'
 |some x=>∃(R:zbc) (rb:Nat) (pv nv rv:Value) (tbs:List Nat),w.heap.size<=rb/\e=.returned (.tuple #[.pointer (some ⟨rb,0,none⟩),.int .i64 0])/\zsn w.heap.size lp w' rb t ns R pv nv rv tbs/\zex (t.map (·.arity)) (za4 ns.length) R/\zcz (t.map (·.arity)) R=x.1/\R.rounds=x.2/\zj5 x.1 R.count/\R.count<=1048576/\Below w.heap.size w w'
theorem z99{lp:Nat}(w:World)(pb:Nat){cs:List zab}{t0 t:List zas}(hP:zjq lp w pb cs t)(h:Parts cs t0 t)(hlp:lp<=w.heap.size)(mr mx:Nat)(h1:mr<=1048576)(h2:mx<=1048576) :
  Calls Tryz.prog 35 #[.pointer (some ⟨pb,0,none⟩),.slice none 0 0,.int .i64 mr,.int .i64 mx] w fun e w'=>z9r lp t (zaw cs) (zjx (zjw t (zaw cs) none cs) mr mx) w e w':=by
 obtain⟨hk,hset⟩:=h.runok
 obtain⟨N,hN⟩:=z7s hset (mr:=mr) (mx:=mx) h1
 obtain⟨res,r1,r2,r3⟩:=hN N (Nat.le_refl _)
 refine(z7m w pb cs t (.slice none 0 0) none mr mx N res hP rfl hk rfl h1 h2 hlp r1).mono ?_
 intro e w' hres
 cases res with
 |none=>rw[r2 rfl];exact hres
 |some R =>
  obtain⟨q1,q2,q3⟩:=r3 R rfl
  obtain⟨rb,pv,nv,rv,tbs,s1,s2,s3,s4⟩:=hres
  rw[q3]
  exact⟨R,rb,pv,nv,rv,tbs,s1,s2,s3,q1,rfl,rfl,q1.card hset.small,by omega,s4⟩
end Go.Proofs.YteampbddflhngaaGreat
namespace Go.Proofs.YteampbddflhngaaGreat
set_option maxRecDepth 100000
set_option maxHeartbeats 4000000
open Go.RowKit
variable {lo lp:Nat}
theorem Tryz.infoSS:(Tryz.prog.info? 30).map (fun i=>(i.zero,i.size,i.bytes))=some (some (.slice none 0 0),1,24):=by kernel_rfl
theorem z94(w:World)(tb:Nat)(T:zad)(fp:List Nat)(n:Nat)(rs:List zaq)(h:zat lo w tb T fp)(hr:rowsG n T=some rs) :
  Calls Tryz.prog 78 #[.pointer (some ⟨tb,0,none⟩)] w fun e w'=>∃ v,e=.returned v/\RowsIn w.heap.size w' v rs/\Below w.heap.size w w':=by
 unfold rowsG at hr
 cases hf:zsd n T with
 |none=>rw[hf] at hr;cases hr
 |some rs' =>
  rw[hf] at hr
  simp only at hr
  split at hr
  ·simp only[Option.some.injEq] at hr
   subst hr
   exact zyr w tb T fp h n rs' hf (by assumption)
  ·cases hr
theorem z4r{n:Nat}{T:zad}{rs:List zaq}(hr:rowsG n T=some rs):rs.length<=1048576:=by
 unfold rowsG at hr
 cases hf:zsd n T with
 |none=>rw[hf] at hr;cases hr
 |some rs' =>
  rw[hf] at hr
  simp only at hr
  split at hr
  ·simp only[Option.some.injEq] at hr
   subst hr
   assumption
  ·cases hr
def zq5(ns:List ByteArray)(ar:Nat)(r:zaq):zbv:=⟨false,ByteArray.empty,za1 ns r ar 3⟩
def zls(ar g:Nat):Value:=.slice (some ⟨g,0,none⟩) ar ar
def zxt(ns:List ByteArray)(ar:Nat)(rs:List zaq)(w:World)(e:Ending)(w':World):Prop:=∃ g gs,w.heap.size<=g/\e=.returned (.tuple #[.slice (some ⟨g,0,none⟩) rs.length rs.length,.int .i64 0])/\w'.ownsRow w.heap.size 30 1 (.slice (some ⟨g,0,none⟩) rs.length rs.length) rs.length (gs.map (zls ar))/\Copies w.heap.size w' (rs.map (zq5 ns ar)) gs/\Below w.heap.size w w'
theorem z4s(w:World)(rb:Nat)(t:List zas)(ns:List ByteArray)(R:zbc)(pv nv rv:Value)(tbs:List Nat)(pred:ByteArray)(h:zsn lo lp w rb t ns R pv nv rv tbs)(hs':(zbf t pred).isSome=true)(hfi:zbg t pred < R.rows.length)(n:Nat)(rs:List zaq)(hr:rowsG n R.rows[zbg t pred]=some rs)(har:za0 t (zbg t pred)<=1000) :
  Calls Tryz.prog 38 #[.pointer (some ⟨rb,0,none⟩),.string pred] w fun e w'=>zxt ns (za0 t (zbg t pred)) rs w e w':=by
 have HFI:Hid (Calls Tryz.prog 77 #[.pointer (some ⟨rb,0,none⟩),.string pred] w fun e w'=>e=.returned (.tuple #[.int .i64 (zbg t pred:Nat),.bool (zbf t pred).isSome])/\w'=w):=zn9 lp w rb 0 t pred h.tg h.few.1
 rw[hs'] at HFI
 have HRE:Hid (zsn lo lp w rb t ns R pv nv rv tbs):=h
 obtain⟨hc,hf⟩:=h.box.rules
 have hlt:=h.box.lt
 obtain⟨aor,capr,hrv⟩:=zac h.rows
 subst hrv
 have d2:=hc 2
 have hfew:=h.few.2.2
 have hgi:¬ (R.rows.length:Int)<=(zbg t pred:Int):=by omega
 clear h hc hs'
 have HAR:Hid (∀ W,Below w.heap.size w W->Calls Tryz.prog 80 #[.pointer (some ⟨rb,0,none⟩),.int .i64 (zbg t pred:Nat)] W fun e w'=>e=.returned (.int .i64 (za0 t (zbg t pred):Nat))/\w'=W):=fun W hb=>zl4 lp W rb 0 t _ (HRE.out.below hb).tg
 generalize zbg t pred=fi at *
 have hft:fi < tbs.length:=by rw[HRE.out.tlen];exact hfi
 obtain⟨gr,capr',hvr,_,hgr,hcr⟩:=zal HRE.out.rows (by omega)
 simp only[Value.slice.injEq] at hvr
 have hgg:=hvr.1
 clear hvr
 subst hgg
 have hcp:=hcr fi (.pointer (some ⟨tbs[fi],0,none⟩)) (by simp[pts,hft,pt])
 have HRS:Hid (Calls Tryz.prog 78 #[.pointer (some ⟨tbs[fi],0,none⟩)] w fun e w'=>∃ v,e=.returned v/\RowsIn w.heap.size w' v rs/\Below w.heap.size w w'):=by
  obtain⟨fp,q⟩:=HRE.out.tries fi hfi hft
  exact z94 w _ _ fp n rs q hr
 have hrl:=z4r hr
 have hfii:(fi:Int) < (R.rows.length:Int):=by omega
 obtain⟨i0,hi,hz0,hzs,hzb⟩:=info_parts Tryz.infoSS
 have hmk:=fun W0:World=>run_make (P:=Tryz.prog) (w:=W0) 31 30 i0 _ Tryz.underlying31 hi hz0 .i64 .i64 (rs.length:Int) (rs.length:Int) (by omega) (Int.le_refl _) (by rw[hzb];omega) (by omega)
 rw[hzs] at hmk
 have HTE:Hid (∀ W (x y z:Nat),Below w.heap.size w W->Calls Tryz.prog 79 #[.pointer (some ⟨rb,0,none⟩),.agg #[.int .i64 (x:Nat),.int .i64 (y:Nat),.int .i64 (z:Nat)],.int .i64 (za0 t fi)] W fun e w'=>∃ g,W.heap.size<=g/\e=.returned (.slice (some ⟨g,0,none⟩) (za0 t fi) (za0 t fi))/\SIn W.heap.size w' (.slice (some ⟨g,0,none⟩) (za0 t fi) (za0 t fi)) (za1 ns [x,y,z] (za0 t fi) 3)/\Below W.heap.size W w'):=fun W x y z hb=>z0x W rb _ x y z ns (HRE.out.below hb).cat har
 generalize za0 t fi=ar at *
 generalize tbs[fi]=tb at *
 clear hcr hr
 go_enter Tryz.func38,Tryz.ntmps38
 go_wp2_with (first|(go_at_call 77;refine HFI.out.mono ?_;rintro e w1 ⟨rfl,hww⟩;obtain rfl:=hww.symm)|(go_at_call 78;refine HRS.out.mono ?_;rintro e w1 ⟨v1,rfl,HV1,hb1⟩;obtain⟨aov,capv,rfl⟩:=zac HV1.1))
 have hg1:Below w1.heap.size w1 (w1.alloc (.cells (madeCells #[.slice none 0 0] rs.length) 30)):=(by go_grown)
 have hB1:Below w.heap.size w (w1.alloc (.cells (madeCells #[.slice none 0 0] rs.length) 30)):=zae hb1 hg1 (Nat.le_refl _)
 have hrow:=zbd (zhx w1 rs.length 30 (.slice none 0 0) (by unfold maxLen;omega)) hb1.size
 have HR0:Hid (World.ownsRow (w1.alloc (.cells (madeCells #[.slice none 0 0] rs.length) 30)) w.heap.size 30 1 (.slice (some ⟨w1.heap.size,0,none⟩) rs.length rs.length) rs.length (([]:List Nat).map (zls ar)++List.replicate (rs.length - 0) (.slice none 0 0))):=hrow
 have HV2:Hid (RowsIn w.heap.size (w1.alloc (.cells (madeCells #[.slice none 0 0] rs.length) 30)) (.slice aov rs.length capv) rs):=⟨zaa HV1.1 hg1,HV1.2⟩
 have hgl:w.heap.size<=w1.heap.size:=hb1.size
 clear hrow hmk HRS HV1 hg1 HFI
 generalize w1.alloc (.cells (madeCells #[.slice none 0 0] rs.length) 30)=w2 at *
 generalize w1.heap.size=g at *
 clear hb1
 go_loopw [46] (fun v46 wr=>∃(m:Nat) (gs:List Nat),m<=rs.length/\v46=.int .i64 m/\Below w.heap.size w wr/\gs.length=m/\Hid (wr.ownsRow w.heap.size 30 1 (.slice (some ⟨g,0,none⟩) rs.length rs.length) rs.length (gs.map (zls ar)++List.replicate (rs.length - m) (.slice none 0 0)))/\Hid (Copies w.heap.size wr ((rs.take m).map (zq5 ns ar)) gs)/\Hid (RowsIn w.heap.size wr (.slice aov rs.length capv) rs)) (fun i _=>rs.length - (intOf i).toNat)
 case atStart=>exact⟨0,[],Nat.zero_le _,rfl,hB1,rfl,HR0,Copies.nil _,HV2⟩
 case round =>
  clear HR0 HV2 hB1
  obtain⟨m,gs,hm,rfl,hbk,hgs,HR,HC,HV⟩:=hrel
  have HGS:Hid (gs.length=m):=hgs
  clear hgs
  have hgwr:g < wr.heap.size:=zdo HR.out rfl
  have hfz:=zbt HR.out
  have hrl2:rb < wr.heap.size:=Nat.lt_of_lt_of_le hlt hbk.size
  by_cases hml:m < rs.length
  ·obtain⟨gv,cv,x,y,z,hv,hgv,hxyz,c0,c1,c2⟩:=HV.out.cell m hml
   simp only[Value.slice.injEq] at hv
   have hgg:=hv.1
   clear hv
   subst hgg
   have hmi:(m:Int) < (rs.length:Int):=by omega
   have HTK:Hid (rs.take (m+1)=rs.take m++[[x,y,z]]):=show rs.take (m+1)=rs.take m++[[x,y,z]] by rw[List.take_succ_eq_append_getElem hml,hxyz]
   clear hxyz
   have HTE2:Hid (∀ W,Below wr.heap.size wr W->Calls Tryz.prog 79 #[.pointer (some ⟨rb,0,none⟩),.agg #[.int .i64 (x:Nat),.int .i64 (y:Nat),.int .i64 (z:Nat)],.int .i64 ar] W fun e w'=>∃ g,W.heap.size<=g/\e=.returned (.slice (some ⟨g,0,none⟩) ar ar)/\Hid (SIn W.heap.size w' (.slice (some ⟨g,0,none⟩) ar ar) (za1 ns [x,y,z] ar 3))/\Below W.heap.size W w'):=fun W hb=>HTE.out W x y z (zae hbk hb (Nat.le_refl _))
   have HAR2:Hid (∀ W,Below wr.heap.size wr W->Calls Tryz.prog 80 #[.pointer (some ⟨rb,0,none⟩),.int .i64 (fi:Nat)] W fun e w'=>e=.returned (.int .i64 (ar:Nat))/\w'=W):=fun W hb=>HAR.out W (zae hbk hb (Nat.le_refl _))
   go_upto_region 9 with fail
   have hg4:Below wr.heap.size wr (wr.alloc (.cells #[.int .i64 (x:Nat),.int .i64 (y:Nat),.int .i64 (z:Nat)] 165)):=(by go_grown)
   have hb10:=Box.new wr #[.int .i64 (x:Nat),.int .i64 (y:Nat),.int .i64 (z:Nat)] 165
   generalize wr.alloc (.cells #[.int .i64 (x:Nat),.int .i64 (y:Nat),.int .i64 (z:Nat)] 165)=W4 at *
   have v0:W4.cell? ⟨wr.heap.size,0,none⟩=some (.int .i64 (x:Nat)):=by rw[hb10.rules.1];rfl
   have v1:W4.cell? ⟨wr.heap.size,1,none⟩=some (.int .i64 (y:Nat)):=by rw[hb10.rules.1];rfl
   have v2:W4.cell? ⟨wr.heap.size,2,none⟩=some (.int .i64 (z:Nat)):=by rw[hb10.rules.1];rfl
   have hl3:wr.heap.size < W4.heap.size:=hb10.lt
   have hR4:=zaa HR.out hg4
   have hgW:g < W4.heap.size:=zdo hR4 rfl
   obtain⟨sx,hsx⟩:∃ sx,W4.cell? ⟨g,m,none⟩=some sx:=by
    obtain⟨g',cap',hv',_,_,hcl'⟩:=zal hR4 (by omega)
    simp only[Value.slice.injEq,Option.some.injEq,Addr.mk.injEq,and_true] at hv'
    have e:=hv'.1
    subst e
    exact⟨_,hcl' m _ (List.getElem?_eq_getElem (by simp[HGS.out];omega))⟩
   have hfW:=zbt hR4
   have HR4:Hid (W4.ownsRow w.heap.size 30 1 (.slice (some ⟨g,0,none⟩) rs.length rs.length) rs.length (gs.map (zls ar)++List.replicate (rs.length - m) (.slice none 0 0))):=hR4
   have HC4:Hid (Copies w.heap.size W4 ((rs.take m).map (zq5 ns ar)) gs):=HC.out.mono (fun _ _ q=>q.below hg4)
   have HV4:Hid (RowsIn w.heap.size W4 (.slice (some ⟨gv,0,none⟩) rs.length capv) rs):=HV.out.below' hg4
   have hB4:Below w.heap.size w W4:=zae hbk hg4 (Nat.le_refl _)
   have HTE3:Hid (∀ W,Below W4.heap.size W4 W->Calls Tryz.prog 79 #[.pointer (some ⟨rb,0,none⟩),.agg #[.int .i64 (x:Nat),.int .i64 (y:Nat),.int .i64 (z:Nat)],.int .i64 ar] W fun e w'=>∃ gt,W4.heap.size<=gt/\e=.returned (.slice (some ⟨gt,0,none⟩) ar ar)/\Hid (SIn W4.heap.size w' (.slice (some ⟨gt,0,none⟩) ar ar) (za1 ns [x,y,z] ar 3))/\Hid (Below W4.heap.size W4 w')/\w'.cell? ⟨wr.heap.size,0,none⟩=some (.int .i64 (x:Nat))/\w'.cell? ⟨wr.heap.size,1,none⟩=some (.int .i64 (y:Nat))/\w'.cell? ⟨wr.heap.size,2,none⟩=some (.int .i64 (z:Nat))/\w'.cell? ⟨g,m,none⟩=some sx/\g < w'.heap.size/\∀ o,w'.frozen? ⟨g,o,none⟩=false):=fun W hb=>by
    refine(HTE2.out W (zae hg4 hb (Nat.le_refl _))).mono ?_
    rintro e w' ⟨gt,h1,h2,h3,h4⟩
    have hq:=zae hb h4 (Nat.le_refl _)
    have hs:=hb.size
    exact⟨gt,by omega,h2,h3.out.low hb.size,hq,(hq.cell hl3).trans v0,(hq.cell hl3).trans v1,(hq.cell hl3).trans v2,(hq.cell hgW).trans hsx,Nat.lt_of_lt_of_le hgW hq.size,zbt (zaa HR4.out hq)⟩
   have HAR3:Hid (∀ W,Below W4.heap.size W4 W->Calls Tryz.prog 80 #[.pointer (some ⟨rb,0,none⟩),.int .i64 (fi:Nat)] W fun e w'=>e=.returned (.int .i64 (ar:Nat))/\w'=W):=fun W hb=>HAR2.out W (zae hg4 hb (Nat.le_refl _))
   clear HTE2 HAR2 hR4 hb10 hg4 HR HC HV c0 c1 c2 hgv hfz
   go_region_held3 (fun w'=>w'.cell? ⟨wr.heap.size,0,none⟩=some (.int .i64 (x:Nat))/\w'.cell? ⟨wr.heap.size,1,none⟩=some (.int .i64 (y:Nat))/\w'.cell? ⟨wr.heap.size,2,none⟩=some (.int .i64 (z:Nat))) (first|go_keep|(go_simp;done)) (first|(go_at_call 79;refine(HTE3.out _ (by exact(by go_grown))).mono ?_;rintro e w5 ⟨gt,hgt,rfl,HS5,HB5,a0,a1,a2,ax,ag,af⟩)|(go_at_call 80;refine(HAR3.out _ (by exact(by go_grown))).mono ?_;rintro e w6 ⟨rfl,hww⟩;obtain rfl:=hww.symm))
   have hR5:=zaa HR4.out HB5.out
   have hML:Hid ((gs.map (zls ar)++List.replicate (rs.length - m) (Value.slice none 0 0)).set m (zls ar gt)=(gs++[gt]).map (zls ar)++List.replicate (rs.length - (m+1)) (Value.slice none 0 0)):=show _=_ by
    obtain⟨k,hk⟩:∃ k,rs.length - m=k+1:=⟨rs.length - m - 1,by omega⟩
    have hk2:rs.length - (m+1)=k:=by omega
    rw[List.set_append,if_neg (by simp[HGS.out]),hk,hk2,List.replicate_succ]
    simp[HGS.out]
   have hset:=zb4 hR5 m (by simp[HGS.out];omega) (zls ar gt)
   rw[hML.out] at hset
   have hsv:zar [g] w5 (w5.setCell ⟨g,m,none⟩ (.slice (some ⟨gt,0,none⟩) ar ar)):=zar.set _ _ _ _
   obtain⟨cg,hcg⟩:=zed hR5 (b:=g) rfl
   have hOf:=OfT.box hcg
   have HR6:Hid (World.ownsRow (w5.setCell ⟨g,m,none⟩ (.slice (some ⟨gt,0,none⟩) ar ar)) w.heap.size 30 1 (.slice (some ⟨g,0,none⟩) rs.length rs.length) rs.length ((gs++[gt]).map (zls ar)++List.replicate (rs.length - (m+1)) (.slice none 0 0))):=hset
   have HC6:Hid (Copies w.heap.size (w5.setCell ⟨g,m,none⟩ (.slice (some ⟨gt,0,none⟩) ar ar)) ((rs.take (m+1)).map (zq5 ns ar)) (gs++[gt])):=show Copies _ _ _ _ by
    rw[HTK.out,List.map_append]
    have hz:=hB4.size
    refine Copies.mono (w:=w5) ?_ (fun _ _ q=>zaj q hsv hOf (by decide))
    refine(HC4.out.mono (fun _ _ q=>q.below HB5.out)).snoc (l:=zq5 ns ar [x,y,z]) (fun a ha=>by have:=HC4.out.lt a ha;omega) (by omega) ?_
    show SIn w.heap.size w5 (.slice (some ⟨gt,0,none⟩) (za1 ns [x,y,z] ar 3).length (za1 ns [x,y,z] ar 3).length) (za1 ns [x,y,z] ar 3)
    rw[zdm]
    exact HS5.out.low (by omega)
   have HV6:Hid (RowsIn w.heap.size (w5.setCell ⟨g,m,none⟩ (.slice (some ⟨gt,0,none⟩) ar ar)) (.slice (some ⟨gv,0,none⟩) rs.length capv) rs):=⟨zaj (HV4.out.below' HB5.out).1 hsv hOf (by decide),HV4.out.2⟩
   have hB6:Below w.heap.size w (w5.setCell ⟨g,m,none⟩ (.slice (some ⟨gt,0,none⟩) ar ar)):=(zae hB4 HB5.out (Nat.le_refl _)).setCell (by simpa using hgl) _
   have HGS6:Hid ((gs++[gt]).length=m+1):=show(gs++[gt]).length=m+1 by simp[HGS.out]
   clear hset hR5 hsv hOf HR4 HC4 HV4 HS5 HB5 a0 a1 a2 ax ag af v0 v1 v2
   generalize w5.setCell ⟨g,m,none⟩ (.slice (some ⟨gt,0,none⟩) ar ar)=w7 at *
   go_wp2
   go_roundw
   case rel=>exact⟨m+1,gs++[gt],by omega,by go_num,hB6,HGS6.out,HR6,HC6,HV6⟩
   case measure=>simp[intOf];omega
  ·obtain rfl:m=rs.length:=by omega
   have q1:=HR.out
   have q2:=HC.out
   rw[Nat.sub_self,List.replicate_zero,List.append_nil] at q1
   rw[List.take_length] at q2
   have HQ:Hid (_/\_):=And.intro q1 q2
   clear q1 q2 HR HC HV HGS
   go_wp2
   go_ret2
   exact⟨g,gs,hgl,rfl,HQ.out.1,HQ.out.2,hbk⟩
end Go.Proofs.YteampbddflhngaaGreat
namespace Go.Proofs.YteampbddflhngaaGreat
theorem zll{ns:List ByteArray}(h:zch ns){i j:Nat}(hij:i < j)(hj:j < ns.length):ltB (ns.getD i ByteArray.empty) (ns.getD j ByteArray.empty)=true:=by
 have hi:i < ns.length:=by omega
 rw[getD_lt _ hi,getD_lt _ hj]
 exact List.pairwise_iff_getElem.1 h i j hi hj hij
theorem zwg{ns:List ByteArray}(h:zch ns)(x:ByteArray):∀(n l hh:Nat),l<=hh->hh<=ns.length->hh - l < n->(∀ i,i < l->ltB (ns.getD i ByteArray.empty) x=true)->(∀ i,hh<=i->i < ns.length->ltB (ns.getD i ByteArray.empty) x=false)->halves ns x n l hh<=ns.length/\(∀ i,i < halves ns x n l hh->ltB (ns.getD i ByteArray.empty) x=true)/\∀ i,halves ns x n l hh<=i->i < ns.length->ltB (ns.getD i ByteArray.empty) x=false:=by
 intro n
 induction n with
 |zero=>intro l hh _ _ q;omega
 |succ n ih =>
  intro l hh h1 h2 h3 h4 h5
  unfold halves
  by_cases hlt:l < hh
  ·rw[if_pos hlt]
   have hm:l+(hh - l) / 2 < hh:=by omega
   have hml:l<=l+(hh - l) / 2:=by omega
   generalize l+(hh - l) / 2=m at *
   by_cases hL:ltB (ns.getD m ByteArray.empty) x=true
   ·rw[if_pos hL]
    refine ih (m+1) hh (by omega) h2 (by omega) (fun i hi=>?_) h5
    by_cases him:i=m
    ·rw[him];exact hL
    ·exact lt_trans (zll h (show i < m by omega) (by omega)) hL
   ·rw[if_neg hL]
    have hL':ltB (ns.getD m ByteArray.empty) x=false:=by simpa using hL
    refine ih l m hml (by omega) (by omega) h4 (fun i hi hn=>?_)
    by_cases him:i=m
    ·rw[him];exact hL'
    ·cases hq:ltB (ns.getD i ByteArray.empty) x with
     |false=>rfl
     |true =>
      have:=lt_trans (zll h (show m < i by omega) hn) hq
      rw[this] at hL'
      cases hL'
  ·rw[if_neg hlt]
   exact⟨by omega,h4,fun i hi hn=>h5 i (by omega) hn⟩
theorem zou{ns:List ByteArray}(h:zch ns)(x:ByteArray):zbs ns x<=ns.length/\(∀ i,i < zbs ns x->ltB (ns.getD i ByteArray.empty) x=true)/\∀ i,zbs ns x<=i->i < ns.length->ltB (ns.getD i ByteArray.empty) x=false :=
 zwg h x _ 0 ns.length (Nat.zero_le _) (Nat.le_refl _) (by omega) (fun i hi=>by omega) (fun i hi hn=>by omega)
theorem zvg{ns:List ByteArray}(h:zch ns){v:Nat}(hv:v < ns.length):zc4 ns (ns.getD v ByteArray.empty)=some v:=by
 obtain⟨p1,p2,p3⟩:=zou h (ns.getD v ByteArray.empty)
 have hp:zbs ns (ns.getD v ByteArray.empty)=v:=by
  rcases Nat.lt_trichotomy (zbs ns (ns.getD v ByteArray.empty)) v with q|q|q
  ·have:=p3 _ (Nat.le_refl _) (by omega)
   rw[zll h q hv] at this
   cases this
  ·exact q
  ·have:=p2 v q
   rw[lt_irrefl] at this
   cases this
 unfold zc4
 rw[hp,if_pos ⟨hv,rfl⟩]
theorem z07{ns:List ByteArray}(h:zch ns){x:ByteArray}(hx:x∈ns):∃ v,zc4 ns x=some v/\v < ns.length:=by
 obtain⟨v,hv,rfl⟩:=List.getElem_of_mem hx
 have:=zvg h hv
 rw[getD_lt _ hv] at this
 exact⟨v,this,hv⟩
theorem z3f{ns:List ByteArray}(h:zch ns)(x:ByteArray):zch (z3e ns x)/\∀ y,y∈z3e ns x↔y=x∨y∈ns:=by
 unfold z3e
 obtain⟨p1,p2,p3⟩:=zou h x
 by_cases hc:zbs ns x < ns.length/\ns.getD (zbs ns x) ByteArray.empty=x
 ·rw[if_pos hc]
  refine⟨h,fun y=>⟨Or.inr,fun q=>q.elim (fun e=>?_) id⟩⟩
  rw[e,← hc.2,getD_lt _ hc.1]
  exact List.getElem_mem hc.1
 ·rw[if_neg hc]
  generalize zbs ns x=p at *
  refine⟨?_,fun y=>?_⟩
  ·unfold zch
   have hsp:ns.take p++ns.drop p=ns:=List.take_append_drop p ns
   have hall:=h
   unfold zch at hall
   rw[← hsp,List.pairwise_append] at hall
   rw[List.pairwise_append,List.pairwise_cons]
   have hlo:∀ a∈ns.take p,ltB a x=true:=fun a ha=>by
    obtain⟨i,hi,rfl⟩:=List.getElem_of_mem ha
    have hi':i < p:=by simp at hi;omega
    have hin:i < ns.length:=by omega
    have:=p2 i hi'
    rw[getD_lt _ hin] at this
    simpa using this
   have hhi:∀ b∈ns.drop p,ltB x b=true:=fun b hb=>by
    obtain⟨i,hi,rfl⟩:=List.getElem_of_mem hb
    have hin:p+i < ns.length:=by simp at hi;omega
    have h1:=p3 (p+i) (by omega) hin
    rw[getD_lt _ hin] at h1
    rw[List.getElem_drop]
    cases hq:ltB x ns[p+i] with
    |true=>rfl
    |false =>
     exfalso
     have e:=zyd h1 hq
     by_cases hi0:i=0
     ·subst hi0
      exact hc ⟨by omega,by rw[getD_lt _ (by omega)];simpa using e⟩
     ·have h2:=zll h (show p < p+i by omega) hin
      rw[getD_lt _ hin,e] at h2
      have h3:=p3 p (Nat.le_refl _) (by omega)
      rw[h3] at h2
      cases h2
   refine⟨hall.1,⟨hhi,hall.2.1⟩,fun a ha b hb=>?_⟩
   rcases List.mem_cons.1 hb with rfl|hb
   ·exact hlo a ha
   ·exact hall.2.2 a ha b hb
  ·have:y∈ns↔y∈ns.take p∨y∈ns.drop p:=by
    rw[← List.mem_append,List.take_append_drop]
   rw[this]
   simp only[List.mem_append,List.mem_cons]
   constructor
   ·rintro(q|q|q)
    ·exact Or.inr (Or.inl q)
    ·exact Or.inl q
    ·exact Or.inr (Or.inr q)
   ·rintro(q|q|q)
    ·exact Or.inr (Or.inl q)
    ·exact Or.inl q
    ·exact Or.inr (Or.inr q)
theorem z04{ns:List ByteArray}(h:zch ns)(x:ByteArray):zch (zh0 ns x)/\∀ y,y∈zh0 ns x↔(y=x/\zbh x=false)∨y∈ns:=by
 unfold zh0
 cases hv:zbh x with
 |true=>simp[h]
 |false=>simpa using z3f h x
theorem zkp:∀(xs:List ByteArray) {ns:List ByteArray},zch ns->zch (xs.foldl zh0 ns)/\∀ y,y∈xs.foldl zh0 ns↔(y∈xs/\zbh y=false)∨y∈ns
 |[],ns,h=>⟨h,fun y=>by simp⟩
 |x::xs,ns,h=>by
  obtain⟨s1,s2⟩:=z04 h x
  obtain⟨i1,i2⟩:=zkp xs s1
  refine⟨i1,fun y=>?_⟩
  rw[List.foldl_cons,i2,s2]
  simp only[List.mem_cons]
  constructor
  ·rintro(⟨q1,q2⟩|⟨rfl,q2⟩|q)
   ·exact Or.inl ⟨Or.inr q1,q2⟩
   ·exact Or.inl ⟨Or.inl rfl,q2⟩
   ·exact Or.inr q
  ·rintro(⟨rfl|q1,q2⟩|q)
   ·exact Or.inr (Or.inl ⟨rfl,q2⟩)
   ·exact Or.inl ⟨q1,q2⟩
   ·exact Or.inr (Or.inr q)
theorem zpw:∀(ls:List zbv) {ns:List ByteArray},zch ns->zch (ls.foldl zjs ns)/\∀ y,y∈ls.foldl zjs ns↔(∃ l∈ls,y∈l.args/\zbh y=false)∨y∈ns
 |[],ns,h=>⟨h,fun y=>by simp⟩
 |l::ls,ns,h=>by
  obtain⟨s1,s2⟩:=zkp l.args h
  obtain⟨i1,i2⟩:=zpw ls (ns:=zjs ns l) s1
  refine⟨i1,fun y=>?_⟩
  have s2':∀ y,y∈zjs ns l↔(y∈l.args/\zbh y=false)∨y∈ns:=s2
  rw[List.foldl_cons,i2,s2']
  simp only[List.mem_cons,exists_eq_or_imp]
  constructor
  ·rintro(q|q|q)
   ·exact Or.inl (Or.inr q)
   ·exact Or.inl (Or.inl q)
   ·exact Or.inr q
  ·rintro((q|q)|q)
   ·exact Or.inr (Or.inl q)
   ·exact Or.inl q
   ·exact Or.inr (Or.inr q)
theorem zkx:∀(cs:List zab) {ns:List ByteArray},zch ns->zch (cs.foldl zdd ns)/\∀ y,y∈cs.foldl zdd ns↔(∃ c∈cs,∃ l∈za2 c,y∈l.args/\zbh y=false)∨y∈ns
 |[],ns,h=>⟨h,fun y=>by simp⟩
 |c::cs,ns,h=>by
  obtain⟨s1,s2⟩:=zkp c.head.args h
  obtain⟨b1,b2⟩:=zpw c.body (ns:=zjs ns c.head) s1
  obtain⟨i1,i2⟩:=zkx cs (ns:=zdd ns c) b1
  refine⟨i1,fun y=>?_⟩
  have s2':∀ y,y∈zjs ns c.head↔(y∈c.head.args/\zbh y=false)∨y∈ns:=s2
  have b2':∀ y,y∈zdd ns c↔(∃ l∈c.body,y∈l.args/\zbh y=false)∨y∈zjs ns c.head:=b2
  rw[List.foldl_cons,i2,b2',s2']
  simp only[List.mem_cons,exists_eq_or_imp,za2]
  constructor
  ·rintro(q|q|q|q)
   ·exact Or.inl (Or.inr q)
   ·exact Or.inl (Or.inl (Or.inr q))
   ·exact Or.inl (Or.inl (Or.inl q))
   ·exact Or.inr q
  ·rintro(((q|q)|q)|q)
   ·exact Or.inr (Or.inr (Or.inl q))
   ·exact Or.inr (Or.inl q)
   ·exact Or.inl q
   ·exact Or.inr (Or.inr (Or.inr q))
theorem zky(cs:List zab):zch (zaw cs)/\∀ y,y∈zaw cs↔∃ c∈cs,∃ l∈za2 c,y∈l.args/\zbh y=false:=by
 obtain⟨h1,h2⟩:=zkx cs (ns:=[]) List.Pairwise.nil
 exact⟨h1,fun y=>by rw[show zaw cs=cs.foldl zdd [] from rfl,h2];simp⟩
end Go.Proofs.YteampbddflhngaaGreat
namespace Go.Proofs.YteampbddflhngaaGreat
open Classical
theorem zy2{S:zsm}(P:DB->Prop)(h0:P (zjy S.facts))(hs:∀ s k D,P D->P (zg3 (S.rules.filter fun r=>decide (r.stratum=s)) k D)){mr mx:Nat}{D:DB}{k:Nat}(h:zjx S mr mx=some (D,k)):P D:=by
 have hr:∀ s (left k:Nat) (D D':DB) (k':Nat),P D->zd7 (S.rules.filter fun r=>decide (r.stratum=s)) mr left k D=some (D',k')->P D':=by
  intro s left
  induction left with
  |zero=>intro k D D' k' _ h;cases h
  |succ left ih =>
   intro k D D' k' hD h
   unfold zd7 at h
   split at h
   ·split at h
    ·simp only[Option.some.injEq,Prod.mk.injEq] at h
     rw[← h.1];exact hs s _ D hD
    ·exact ih (k+1) _ D' k' (hs s _ D hD) h
   ·cases h
 have ht:∀(n s k:Nat) (D D':DB) (k':Nat),P D->zey S.rules mr mx n s k D=some (D',k')->P D':=by
  intro n
  induction n with
  |zero =>
   intro s k D D' k' hD h
   unfold zey at h
   simp only[Option.some.injEq,Prod.mk.injEq] at h
   rw[← h.1];exact hD
  |succ n ih =>
   intro s k D D' k' hD h
   unfold zey at h
   split at h
   ·exact ih (s+1) k D D' k' hD h
   ·split at h
    ·cases h
    ·rename_i D1 k1 hq
     exact ih (s+1) k1 D1 D' k' (hr s _ k D D1 k1 hD hq) h
 unfold zjx at h
 split at h
 ·exact ht _ 0 0 _ D k h0 h
 ·cases h
def zvq(ar:List Nat)(n:Nat)(D:DB):Prop:=∀ p x,InD D p x->∀ i,i < ar.getD p 0->x.getD i 0 < n
theorem zyc{cs:List zab}{c:zab}(hc:c∈cs){l:zbv}(hl:l∈za2 c)(t:List zas)(vs:List ByteArray)(pl:List Nat):∀ x∈(zdz t (zaw cs) vs pl l).terms,x.var=false->x.num < (zaw cs).length:=by
 intro x hx hv
 unfold zdz at hx
 simp only[List.mem_map] at hx
 obtain⟨z,hz,rfl⟩:=hx
 unfold zbe at hz
 obtain⟨y,hy,rfl⟩:=List.mem_map.1 hz
 obtain⟨e1,e2⟩:=zf9 0 (zbe (zaw cs) vs pl l) (zgh (zaw cs) vs pl y)
 rw[e1] at hv
 rw[e2]
 obtain⟨r1,r2⟩:=zky cs
 unfold zgh at hv ⊢
 by_cases hq:zbh y=true
 ·rw[if_pos hq] at hv;cases hv
 ·rw[if_neg hq]
  obtain⟨v,v1,v2⟩:=z07 r1 ((r2 y).2 ⟨c,hc,l,hl,hy,by simpa using hq⟩)
  rw[v1];exact v2
theorem zq6{l:zak}{a W n:Nat}(h:zhj l a W)(hcon:∀ x∈l.terms,x.var=false->x.num < n){y:List Nat}(hy:∀ p,zde l p=true->y.getD p 0 < n):∀ i,i < a->(zc0 l y).getD i 0 < n:=by
 intro i hi
 have hil:i < l.terms.length:=by rw[h.len];exact hi
 rw[zlm l y (by have:=h.le3;omega)]
 unfold rowCell
 rw[if_pos hil,show l.terms.getD i ⟨false,0,0⟩=l.terms[i] by simp[List.getD,hil]]
 have hm:=List.getElem_mem hil
 unfold atT
 cases hq:l.terms[i].var with
 |true =>
  rw[if_pos (by simp[(h.lev _ hm hq).1])]
  exact hy _ ((zff l _).2 ⟨_,hm,hq,rfl⟩)
 |false =>
  rw[if_neg (by simp)]
  exact hcon _ hm hq
theorem zwi{cs:List zab}{t0 t:List zas}(h:Parts cs t0 t)(os:Option (List (Option (List Int))))(hp:∀ i (hi:i < cs.length),znl (zca ((zeq os i).getD [])) (zah cs[i]).length){mr mx:Nat}{D:DB}{k:Nat}(hr:zjx (zjw t (zaw cs) os cs) mr mx=some (D,k)):zvq (t.map (·.arity)) (zaw cs).length D:=by
 have hset:=z4w h (zaw cs) os hp
 refine zy2 (S:=zjw t (zaw cs) os cs) (fun D=>zvq (t.map (·.arity)) (zaw cs).length D) ?_ ?_ hr
 ·intro p x hx i hi
  unfold InD zjy at hx
  split at hx
  ·rename_i hf
   obtain⟨f,f1,rfl,rfl⟩:=hf
   have f1':f∈zep t (zaw cs) cs:=f1
   unfold zep at f1'
   obtain⟨c,hc,rfl⟩:=List.mem_map.1 f1'
   have hcm:=(List.mem_filter.1 hc).1
   have hb:c.body=[]:=by
    have:=(List.mem_filter.1 hc).2
    simp at this
    exact this
   obtain⟨e,_,_,q3,q4,_⟩:=h.lit hcm (l:=c.head) (by simp[za2])
   have hi':i < c.head.args.length:=by
    have hi2:i < (t.map (·.arity)).getD (zbg t c.head.pred) 0:=hi
    rw[q4] at hi2
    exact hi2
   have hwf:zhj (zdz t (zaw cs) [] [0,0,0,0,0] c.head) c.head.args.length (za4 (zaw cs).length):=zr5 t _ [] _ c.head (fun k=>by
    by_cases hk:k < 5
    ·have:k=0∨k=1∨k=2∨k=3∨k=4:=by omega
     rcases this with rfl|rfl|rfl|rfl|rfl <;> decide
    ·simp[List.getD,List.getElem?_eq_none (show([0,0,0,0,0]:List Nat).length<=k by simp;omega)]) (zft (h.many c hcm)).1
   refine zq6 hwf (zyc hcm (by simp[za2]) t [] _) (fun p hpp=>?_) i hi'
   obtain⟨y,y1,y2,_⟩:=zog.1 hpp
   have hs:=h.safe c hcm
   simp only[zfc,Bool.and_eq_true] at hs
   have:=zn1.1 hs.1 y y1 y2
   have hnil:zah c=[]:=by unfold zah;rw[hb];rfl
   rw[hnil] at this
   cases this
  ·cases hx
 ·intro s k D hD p x hx i hi
  unfold InD zg3 at hx
  cases hq:D p x with
  |some m=>exact hD p x (by unfold InD;rw[hq];rfl) i hi
  |none =>
   rw[hq] at hx
   simp only at hx
   split at hx
   ·rename_i hst
    obtain⟨r,hr1,rfl,y,y1,y2,rfl⟩:=hst
    have hrm:r∈zfk t (zaw cs) os cs:=(List.mem_filter.1 hr1).1
    have hwf:=hset.rules.rules r hrm
    unfold zfk at hrm
    obtain⟨⟨c,j⟩,h1,h2⟩:=List.mem_filterMap.1 hrm
    have h3:=List.mem_zipIdx_iff_getElem?.1 h1
    simp only at h2 h3
    have hcm:=List.mem_of_getElem? h3
    split at h2
    ·simp only[Option.some.injEq] at h2
     subst h2
     refine zq6 hwf.head (zyc hcm (by simp[za2]) t _ _) (fun p hpp=>?_) i hi
     obtain⟨l,l1,l2⟩:=hwf.fine.safe p (hwf.fine.head p hpp)
     obtain⟨tm,t1,t2,t3⟩:=(zff l p).1 l2
     obtain⟨i2,hi2,rfl⟩:=List.getElem_of_mem t1
     obtain⟨w1,w2⟩:=hwf.plain l l1
     have:=hD l.pred (zc0 l y) (y1 l l1) i2 (by have:=w2.len;have hq:i2 < l.terms.length:=hi2;rw[this] at hq;exact hq)
     rw[zlm l y (by have:=w2.len;have:=w2.le3;omega)] at this
     unfold rowCell at this
     rw[if_pos hi2,show l.terms.getD i2 ⟨false,0,0⟩=l.terms[i2] by simp[List.getD,hi2]] at this
     unfold atT at this
     rw[if_pos (by simp[t2,(w2.lev _ t1 t2).1]),t3] at this
     exact this
    ·cases h2
   ·cases hx
theorem zmf{ns:List ByteArray}(hr:zch ns){ar:Nat}(h3:ar<=3){r:zaq}(hc:Canon ar r)(hi:∀ i,i < ar->r.getD i 0 < ns.length):zsc ns (za1 ns r ar 3) 0 [0,0,0]=some r:=by
 obtain⟨x,y,z,rfl⟩:∃ x y z,r=[x,y,z]:=by
  match r,hc.1 with
  |[x,y,z],_=>exact⟨x,y,z,rfl⟩
 have e0:∀ i,ar<=i->([x,y,z]:zaq).getD i 0=0:=hc.2
 have hv:∀ i,i < ar->zc4 ns (ns.getD (([x,y,z]:zaq).getD i 0) ByteArray.empty)=some (([x,y,z]:zaq).getD i 0):=fun i q=>zvg hr (hi i q)
 have h4:ar=0∨ar=1∨ar=2∨ar=3:=by omega
 rcases h4 with rfl|rfl|rfl|rfl
 ·have a:=e0 0 (by omega);have b:=e0 1 (by omega);have c:=e0 2 (by omega)
  simp at a b c
  subst a;subst b;subst c
  rfl
 ·have b:=e0 1 (by omega);have c:=e0 2 (by omega)
  simp at b c
  subst b;subst c
  have v0:zc4 ns (ns[x]?.getD ByteArray.empty)=some x:=by have:=hv 0 (by omega);simpa using this
  simp[za1,zsc,v0]
 ·have c:=e0 2 (by omega)
  simp at c
  subst c
  have v0:zc4 ns (ns[x]?.getD ByteArray.empty)=some x:=by have:=hv 0 (by omega);simpa using this
  have v1:zc4 ns (ns[y]?.getD ByteArray.empty)=some y:=by have:=hv 1 (by omega);simpa using this
  simp[za1,zsc,v0,v1,List.range_succ]
 ·have v0:zc4 ns (ns[x]?.getD ByteArray.empty)=some x:=by have:=hv 0 (by omega);simpa using this
  have v1:zc4 ns (ns[y]?.getD ByteArray.empty)=some y:=by have:=hv 1 (by omega);simpa using this
  have v2:zc4 ns (ns[z]?.getD ByteArray.empty)=some z:=by have:=hv 2 (by omega);simpa using this
  simp[za1,zsc,v0,v1,v2,List.range_succ]
end Go.Proofs.YteampbddflhngaaGreat
namespace Go.Proofs.YteampbddflhngaaGreat
set_option maxRecDepth 100000
set_option maxHeartbeats 4000000
open Go.RowKit
theorem z6l{s:ByteArray}{n:Int}(h:znz s=.error n):n≠0:=by
 unfold znz at h
 repeat'(split at h)
 all_goals (simp only[Except.error.injEq,reduceCtorEq] at h)
 all_goals (subst h;decide)
def bPa:ByteArray:=⟨#[112,40,97,41,46]⟩
theorem z8z:∃ x,znz bPa=.ok x:=by
 have h:(match znz bPa with|.ok _=>true|.error _=>false)=true:=by decide +kernel
 cases hq:znz bPa with
 |ok x=>exact⟨x,rfl⟩
 |error n=>rw[hq] at h;cases h
def zxr(s:ByteArray)(w:World)(e:Ending)(w':World):Prop:=match znz s with
 |.error _=>e=.returned (.tuple #[.pointer none,.bool true])/\Below w.heap.size w w'
 |.ok (cs,t)=>∃ db pb,w.heap.size<=db/\e=.returned (.tuple #[.pointer (some ⟨db,0,none⟩),.bool true])/\Box w' db #[.pointer (some ⟨pb,0,none⟩),.string s] 98/\zjq w.heap.size w' pb cs t/\Below w.heap.size w w'
theorem z9y(w:World)(s:ByteArray)(hs:s.size<=9223372036854775807) :
  Calls Tryz.prog 23 #[.string s] w fun e w'=>zxr s w e w':=by
 unfold zxr
 cases hc:znz s with
 |error n =>
  have hn:=z6l hc
  have HCO:Hid (Calls Tryz.prog 32 #[.string s] w fun e w'=>e=.returned (.tuple #[.pointer none,.int .i64 n])/\Below w.heap.size w w'):=by
   refine(zke s w hs).mono ?_
   rintro e w' ⟨hb,h2⟩
   rw[hc] at h2
   exact⟨h2,hb⟩
  have HPA:Hid (∀ W,Calls Tryz.prog 32 #[.string ⟨#[112,40,97,41,46]⟩] W fun e w'=>∃ pb,e=.returned (.tuple #[.pointer (some ⟨pb,0,none⟩),.int .i64 0])/\Below W.heap.size W w'):=fun W=>by
   obtain⟨⟨cs,t⟩,hx⟩:=z8z
   refine(zke bPa W (by decide)).mono ?_
   rintro e w' ⟨hb,h2⟩
   rw[hx] at h2
   obtain⟨pb,v,pv,h3,_⟩:=h2
   exact⟨pb,h3,hb⟩
  have hnb:(n == 0)=false:=by simp[hn]
  clear hc
  go_enter Tryz.func23,Tryz.ntmps23
  go_upto_region 2 with (first|(go_at_call 32;refine HCO.out.mono ?_;rintro e w1 ⟨rfl,hb1⟩))
  go_wp2_with (first|(go_at_call 32;refine(HPA.out _).mono ?_;rintro e w2 ⟨pb,rfl,hb2⟩))
  go_ret2
  exact⟨by simp[hn],zae hb1 hb2 (Nat.le_refl _)⟩
 |ok x =>
  obtain⟨cs,t⟩:=x
  have HCO:Hid (Calls Tryz.prog 32 #[.string s] w fun e w'=>∃ pb,e=.returned (.tuple #[.pointer (some ⟨pb,0,none⟩),.int .i64 0])/\Hid (zjq w.heap.size w' pb cs t)/\Below w.heap.size w w'):=by
   refine(zke s w hs).mono ?_
   rintro e w' ⟨hb,h2⟩
   rw[hc] at h2
   obtain⟨pb,v,pv,h3,h4,h5,h6,h7⟩:=h2
   exact⟨pb,h3,⟨h7,v,pv,h4,h5,h6⟩,hb⟩
  clear hc
  go_enter Tryz.func23,Tryz.ntmps23
  go_wp2_with (first|(go_at_call 32;refine HCO.out.mono ?_;rintro e w1 ⟨pb,rfl,HP1,hb1⟩))
  have hg:Below w1.heap.size w1 (w1.alloc (.cells #[.pointer (some ⟨pb,0,none⟩),.string s] 98)):=(by go_grown)
  go_ret2
  exact⟨w1.heap.size,pb,hb1.size,rfl,Box.new _ _ _,HP1.out.below hg,zae hb1 hg (Nat.le_refl _)⟩
end Go.Proofs.YteampbddflhngaaGreat
