import Derived.Test.YteampbddflhngabGreatO43
import Derived.Test.YteampbddflhngabGreatO42
import Derived.Test.YteampbddflhngabGreatO41
import Derived.Test.YteampbddflhngabGreatO08

namespace Go.Proofs.YteampbddflhngabGreat
set_option maxRecDepth 100000
set_option maxHeartbeats 4000000
open Go.RowKit
theorem Tryz.infoIntsK:(Tryz.prog.info? 70).map (fun i=>(i.zero,i.size,i.bytes))=some (some (.slice none 0 0),1,24):=by kernel_rfl
def yax(b:Nat)(w:World)(v:Value)(o:Option (List Int)):Prop:=match o with
 |none=>v=.slice none 0 0
 |some l=>∃ g cap,v=.slice (some ⟨g,0,none⟩) l.length cap/\g < w.heap.size/\g≠b/\∀ k (h:k < l.length),w.cell? ⟨g,k,none⟩=some (.int .i64 l[k])
theorem yax.ord{b:Nat}{w:World}{v:Value}{o:Option (List Int)}(h:yax b w v o):zhv w v o:=by
 cases o with
 |none=>exact h
 |some l =>
  obtain⟨g,cap,h1,h2,_,h3⟩:=h
  exact⟨g,0,cap,h1,h2,fun k hk=>by rw[Nat.zero_add];exact h3 k hk⟩
theorem yax.but{b:Nat}{w w':World}{v:Value}{o:Option (List Int)}(h:yax b w v o)(hb:But b w w'):yax b w' v o:=by
 cases o with
 |none=>exact h
 |some l =>
  obtain⟨g,cap,h1,h2,h3,h4⟩:=h
  refine⟨g,cap,h1,Nat.lt_of_lt_of_le h2 hb.size,h3,fun k hk=>?_⟩
  have:=h4 k hk
  unfold World.cell? at *
  rw[hb.block g h2 h3]
  exact this
structure yaw (b:Nat) (cs:List zab) (w:World) (vs:List Value) (os:List (Option (List Int))):Prop where
 box:Box w b vs.toArray 70
 lv:vs.length=cs.length
 lo:os.length=cs.length
 each:∀ j (h:j < vs.length) (h2:j < os.length),yax b w vs[j] os[j]
 fine:∀ j (h:j < cs.length) (h2:j < os.length),zdm cs[j] os[j]=true
theorem yaw.below{b:Nat}{cs:List zab}{w w':World}{vs:List Value}{os:List (Option (List Int))}(h:yaw b cs w vs os)(hb:Below w.heap.size w w'):yaw b cs w' vs os:=⟨h.box.below hb,h.lv,h.lo,fun j a c=>(h.each j a c).but (But.of hb),h.fine⟩
theorem yaw.new(w:World)(cs:List zab):yaw w.heap.size cs (w.alloc (.cells (madeCells #[.slice none 0 0] cs.length) 70)) (List.replicate cs.length (.slice none 0 0)) (List.replicate cs.length none):=by
 have e:madeCells #[.slice none 0 0] cs.length=(List.replicate cs.length (Value.slice none 0 0)).toArray:=by
  unfold madeCells
  apply Array.ext
  ·simp
  ·intro i h1 h2
   simp[Nat.mod_one]
 refine⟨by rw[e];exact Box.new _ _ _,by simp,by simp,fun j h1 h2=>by simp[yax],fun j h1 h2=>by simp[zdm]⟩
theorem yaw.put{b:Nat}{cs:List zab}{w:World}{vs:List Value}{os:List (Option (List Int))}(h:yaw b cs w vs os){k:Nat}(hk:k < cs.length){v:Value}{l:List Int}(hv:yax b w v (some l))(hf:zdm cs[k] (some l)=true):yaw b cs (w.setCell ⟨b,k,none⟩ v) (vs.set k v) (os.set k (some l)):=by
 have hB:But b w (w.setCell ⟨b,k,none⟩ v):=(But.refl b w).setCell k v
 refine⟨by have:=h.box.set k v;simpa using this,by simp[h.lv],by simp[h.lo],fun j h1 h2=>?_,fun j h1 h2=>?_⟩
 ·by_cases e:k=j
  ·subst e
   simp only[List.getElem_set_self]
   exact hv.but hB
  ·simp only[List.getElem_set_ne e]
   exact(h.each j (by simpa using h1) (by simpa using h2)).but hB
 ·by_cases e:k=j
  ·subst e
   simp only[List.getElem_set_self]
   exact hf
  ·simp only[List.getElem_set_ne e]
   exact h.fine j h1 (by simpa using h2)
theorem yaw.ords{b:Nat}{cs:List zab}{w:World}{vs:List Value}{os:List (Option (List Int))}(h:yaw b cs w vs os):zha w (.slice (some ⟨b,0,none⟩) cs.length cs.length) (some os)/\zei cs (some os)=true:=by
 refine⟨⟨b,0,cs.length,by rw[h.lo],h.box.lt,fun k hk=>?_⟩,?_⟩
 ·have hkv:k < vs.length:=by rw[h.lv,← h.lo];exact hk
  refine⟨vs[k],?_,(h.each k hkv hk).ord⟩
  rw[Nat.zero_add,h.box.rules.1 k]
  simp[hkv]
 ·unfold zei
  simp only[Bool.and_eq_true,beq_iff_eq,List.all_eq_true]
  refine⟨h.lo,fun x hx=>?_⟩
  obtain⟨i,hi,rfl⟩:=List.mem_iff_getElem.1 hx
  simp only[List.length_zip] at hi
  simp only[List.getElem_zip]
  exact h.fine i (by omega) (by omega)
theorem ya2{l:List Nat}{n:Nat}(hl:l.length=n)(h5:n<=5)(hp:l.Perm (List.range n)):zwt (l.map Int.ofNat)=true:=by
 have hlt:∀ x∈l,x < n:=fun x hx=>List.mem_range.1 (hp.mem_iff.1 hx)
 have hnd:l.Nodup:=hp.nodup_iff.2 List.nodup_range
 have:∀(l:List Nat) (seen:List Bool),seen.length=5->l.Nodup->(∀ x∈l,x < n/\seen.getD x false=false)->zje n (l.map Int.ofNat) seen=true:=by
  intro l
  induction l with
  |nil=>intro seen _ _ _;rfl
  |cons x l ih =>
   intro seen h5' hn hx
   obtain⟨hx1,hx2⟩:=hx x (by simp)
   simp only[List.map_cons,zje]
   rw[if_neg (by simp only[Int.ofNat_eq_natCast];omega),if_neg (by simpa using hx2)]
   refine ih _ (by simp[h5']) (List.nodup_cons.1 hn).2 fun y hy=>⟨(hx y (by simp[hy])).1,?_⟩
   rw[Int.ofNat_eq_natCast,Int.toNat_natCast,zhz,if_neg]
   ·exact(hx y (by simp[hy])).2
   ·rintro⟨rfl,_⟩
    exact(List.nodup_cons.1 hn).1 hy
 unfold zwt
 rw[List.length_map,hl]
 refine this l _ rfl hnd fun x hx=>⟨hlt x hx,?_⟩
 have:=hlt x hx
 have:x=0∨x=1∨x=2∨x=3∨x=4:=by omega
 rcases this with rfl|rfl|rfl|rfl|rfl <;> rfl
theorem ya0{c:Int}(n:Nat)(hc:-9223372036854775808<=c/\c<=9223372036854775807)(hn:1<=n):-9223372036854775808<=c.tdiv (n:Int)/\c.tdiv (n:Int)<=9223372036854775807:=by
 by_cases h:n=1
 ·subst h
  rw[show((1:Nat):Int)=1 from rfl,Int.tdiv_one]
  exact hc
 ·exact z1b n hc (by omega)
theorem ya3{b:Int}(hb:-9223372036854775808<=b/\b<=9223372036854775807)(n:Nat):-9223372036854775808<=b / 2 ^ n/\b / 2 ^ n<=9223372036854775807:=by
 have hp:(1:Int)<=2 ^ n:=by
  have h1:1<=2 ^ n:=Nat.one_le_two_pow
  have:((1:Nat):Int)<=((2 ^ n:Nat):Int):=Int.ofNat_le.2 h1
  simpa using this
 generalize (2:Int) ^ n=p at hp
 exact⟨Int.le_ediv_of_mul_le (by omega) (by omega),Int.ediv_le_of_le_mul (by omega) (by omega)⟩
theorem yaz{lp:Nat}(w:World)(db pb:Nat)(s:ByteArray)(a b:Int){cs:List zab}{t0 t:List zan}(hd:Box w db #[.pointer (some ⟨pb,0,none⟩),.string s] 37)(hP:ziu lp w pb cs t)(h:Parts cs t0 t)(hlp:lp<=w.heap.size)(ha:-9223372036854775808<=a/\a<=9223372036854775807)(hb:-9223372036854775808<=b/\b<=9223372036854775807) :
  Calls Tryz.prog 16 #[.pointer (some ⟨db,0,none⟩),.int .i64 a,.int .i64 b] w fun e w'=>e=.returned (.bool true)/\Below w.heap.size w w':=by
 have HCEL:Hid (∀ W,Below w.heap.size w W->W.cell? ⟨db,0,none⟩=some (.pointer (some ⟨pb,0,none⟩))/\db < W.heap.size):=fun W hb=>⟨by rw[(hd.below hb).rules.1];rfl,(hd.below hb).lt⟩
 have hlow:∀ W,Below w.heap.size w W->lp<=W.heap.size:=fun W hb=>Nat.le_trans hlp hb.size
 obtain⟨hk,_⟩:=h.runok
 have hcl:=hk.len
 have HCLA:Hid (Calls Tryz.prog 22 #[.pointer (some ⟨pb,0,none⟩)] w fun e w'=>e=.returned (.int .i64 cs.length)/\w'=w):=z8w w pb cs t hP
 have HVA:Hid (∀ W (k:Nat) (hk:k < cs.length),Below w.heap.size w W->Calls Tryz.prog 33 #[.pointer (some ⟨pb,0,none⟩),.int .i64 k] W fun e w'=>∃ g,e=.returned (.tuple #[.slice (some ⟨g,0,none⟩) (zaf cs[k]).length (zaf cs[k]).length,.int .i64 0])/\Hid (Below W.heap.size W w')):=fun W k hkl hb=>(z7w W pb cs t k (hP.below hb) hcl hkl (hk.fine _ (List.getElem_mem hkl))).mono fun e w' ⟨g,_,q2,_,q4⟩=>⟨g,q2,q4⟩
 have H5:Hid (∀ c∈cs,(zaf c).length<=5):=fun c hc=>zdw (h.many c hc)
 have hmk:=fun W:World=>run_make_row' (P:=Tryz.prog) (w:=W) 67 70 (.slice none 0 0) 24 Tryz.underlying67 Tryz.infoIntsK rfl .i64 .i64 cs.length (by omega) (by omega)
 obtain⟨c0,hl0⟩:=HCEL.out w (Below.refl _ _)
 go_enter Tryz.func16,Tryz.ntmps16
 go_wp2_with (first|(go_at_call 22;refine HCLA.out.mono ?_;rintro e w1 ⟨rfl,hww⟩;obtain rfl:=hww.symm))
 have hBn:Below w.heap.size w (w.alloc (.cells (madeCells #[.slice none 0 0] cs.length) 70)):=(by repeat'(first|with_reducible(first|exact zR _ _|assumption|refine zN ?_ _|refine zA ?_ ?_ _|refine zD ?_|refine zS ?_ ?_ _)|go_size))
 go_loopw [9,10,11] (fun v9 _ _ wr=>∃(k:Nat) (vs:List Value) (os:List (Option (List Int))),k<=cs.length/\v9=.int .i64 k/\Hid (yaw w.heap.size cs wr vs os)/\Below w.heap.size w wr) (fun v9 _ _ _=>cs.length - (intOf v9).toNat)
 case atStart=>exact⟨0,_,_,Nat.zero_le _,rfl,yaw.new w cs,hBn⟩
 case round =>
  clear hmk hBn c0 hl0 HCLA
  obtain⟨k,vs,os,hkl,rfl,HO,hbk⟩:=hrel
  obtain⟨c0,hl0⟩:=HCEL.out wr hbk
  by_cases hlt:k < cs.length
  ·have hki:(k:Int) < (cs.length:Int):=by omega
   have HV1:Hid (Calls Tryz.prog 33 #[.pointer (some ⟨pb,0,none⟩),.int .i64 k] wr fun e w'=>∃ g,e=.returned (.tuple #[.slice (some ⟨g,0,none⟩) (zaf cs[k]).length (zaf cs[k]).length,.int .i64 0])/\Hid (Below wr.heap.size wr w')):=HVA.out wr k hlt hbk
   have h5:=H5.out _ (List.getElem_mem hlt)
   have HOF:Hid (∀ l:List Int,l.length=(zaf cs[k]).length->zwt l=true->zdm cs[k] (some l)=true):=fun l h1 h2=>by simp[zdm,h1,h2]
   generalize (zaf cs[k]).length=nv at *
   go_upto_region 9 with (first|(go_at_call 33;refine HV1.out.mono ?_;rintro e w5 ⟨g,rfl,HB5⟩))
   have e30:(k:Int).tmod 30=((k % 30:Nat):Int):=by rw[Int.tmod_eq_emod_of_nonneg (by omega)];omega
   have hsh:k % 30 < 30:=Nat.mod_lt _ (by omega)
   generalize k % 30=sh at *
   have hBw5:Below w.heap.size w w5:=zae hbk HB5.out (Nat.le_refl _)
   have HO5:Hid (yaw w.heap.size cs w5 vs os):=HO.out.below HB5.out
   obtain⟨ha1,ha2⟩:=ya0 (k+1) ha (by omega)
   rw[show((k+1:Nat):Int)=(k:Int)+1 by omega] at ha1 ha2
   have HOR:Hid (Calls Tryz.prog 34 #[.int .i64 (a.tdiv ((k:Int)+1)),.int .i64 (nv:Nat)] w5 fun e w'=>e=.returned (.slice (some ⟨w5.heap.size,0,none⟩) nv nv)/\∃ l:List Nat,l.length=nv/\l.Perm (List.range nv)/\Box w' w5.heap.size (zkc l) 3/\Below w5.heap.size w5 w'):=z95 w5 _ nv (by omega) ⟨ha1,ha2⟩
   have HPK:Hid (∀ W (c:Int),-9223372036854775808<=c/\c<=9223372036854775807->Calls Tryz.prog 14 #[.int .i64 c,.int .i64 3] W fun e w'=>∃ j,e=.returned (.int .i64 (j:Nat))/\w'=W):=fun W c h1=>(z3q W c 3 (by omega) (by omega) h1).mono fun e w' ⟨q1,q2⟩=>⟨_,q1,q2⟩
   clear HO HB5 hbk HV1
   have HRE:Hid (∀ n,-9223372036854775808<=b / 2 ^ n/\b / 2 ^ n<=9223372036854775807):=fun n=>ya3 hb n
   have HPU:Hid (∀ w7 (l:List Nat),l.length=nv->l.Perm (List.range nv)->Box w7 w5.heap.size (zkc l) 3->Below w5.heap.size w5 w7->Hid (∃ vs os,yaw w.heap.size cs (w7.setCell ⟨w.heap.size,k,none⟩ (.slice (some ⟨w5.heap.size,0,none⟩) nv nv)) vs os)/\Hid (Below w.heap.size w (w7.setCell ⟨w.heap.size,k,none⟩ (.slice (some ⟨w5.heap.size,0,none⟩) nv nv)))/\w.heap.size < w7.heap.size/\(∀ o,w7.frozen? ⟨w.heap.size,o,none⟩=false)/\∃ u,w7.cell? ⟨w.heap.size,k,none⟩=some u):=fun w7 l h1 h2 h3 h4=>by
    have hO7:=HO5.out.below h4
    have hlt5:=HO5.out.box.lt
    have hne:w5.heap.size≠w.heap.size:=by omega
    have hkv:k < vs.length:=by rw[hO7.lv];exact hlt
    have hord:yax w.heap.size w7 (.slice (some ⟨w5.heap.size,0,none⟩) nv nv) (some (l.map Int.ofNat)):=by
     refine⟨w5.heap.size,nv,by simp[h1],h3.lt,hne,fun j hj=>?_⟩
     have hjl:j < l.length:=by simpa using hj
     rw[h3.rules.1 j,zmg hjl]
     simp
    refine⟨⟨_,_,hO7.put hlt hord (HOF.out _ (by simpa using h1) (ya2 h1 h5 h2))⟩,(zae hBw5 h4 (Nat.le_refl _)).setCell (by simp) _,hO7.box.lt,hO7.box.rules.2,vs[k],?_⟩
    rw[hO7.box.rules.1 k]
    simp[hkv]
   go_upto_if 44 with (first|(go_at_call 14;refine(HPK.out _ _ (HRE.out _)).mono ?_;rintro e w6 ⟨j,rfl,hww⟩;obtain rfl:=hww.symm))
   by_cases hj:0 < j
   ·have hji:(0:Int) < (j:Int):=by omega
    go_wp2_with (first|(go_at_call 34;refine HOR.out.mono ?_;rintro e w7 ⟨rfl,l,hl1,hl2,hl3,hl4⟩;obtain⟨HO7,HB7,hl7,hf7,u7,hc7⟩:=HPU.out w7 l hl1 hl2 hl3 hl4))
    go_roundw
    case rel =>
     obtain⟨vs',os',ho'⟩:=HO7.out
     exact⟨k+1,vs',os',by omega,by go_num,ho',HB7.out⟩
    case measure=>simp[intOf];omega
   ·have hji:¬ (0:Int) < (j:Int):=by omega
    go_wp2
    exact⟨⟨k+1,vs,os,by omega,by go_num,HO5,hBw5⟩,by simp[intOf];omega⟩
  ·have hki:¬ (k:Int) < (cs.length:Int):=by omega
   have HRN:Hid (∀ W,Below wr.heap.size wr W->Calls Tryz.prog 24 #[.pointer (some ⟨pb,0,none⟩),.slice none 0 0,.int .i64 4096,.int .i64 4096] W fun e w'=>z8q lp t (zas cs) (zhc (zhp t (zas cs) none cs) 4096 4096) W e w'):=fun W hb=>by
    have hbw:=zae hbk hb (Nat.le_refl _)
    exact yai W pb (hP.below hbw) h (hlow W hbw) 4096 4096 (by omega) (by omega)
   have HRO:Hid (∀ W,Below wr.heap.size wr W->Calls Tryz.prog 24 #[.pointer (some ⟨pb,0,none⟩),.slice (some ⟨w.heap.size,0,none⟩) cs.length cs.length,.int .i64 4096,.int .i64 4096] W fun e w'=>z8q lp t (zas cs) (zhc (zhp t (zas cs) none cs) 4096 4096) W e w'):=fun W hb=>by
    have hbw:=zae hbk hb (Nat.le_refl _)
    obtain⟨o1,o2⟩:=(HO.out.below hb).ords
    exact yar W pb (hP.below hbw) h (hlow W hbw) _ _ o1 o2 4096 4096 (by omega) (by omega)
   have HCR:Hid (∀ W,Below wr.heap.size wr W->W.cell? ⟨db,0,none⟩=some (.pointer (some ⟨pb,0,none⟩))/\db < W.heap.size):=fun W hb=>HCEL.out W (zae hbk hb (Nat.le_refl _))
   cases hA:zhc (zhp t (zas cs) none cs) 4096 4096 with
   |none =>
    have H1:Hid (Calls Tryz.prog 24 #[.pointer (some ⟨pb,0,none⟩),.slice none 0 0,.int .i64 4096,.int .i64 4096] wr fun e w'=>e=.returned (.tuple #[.pointer none,.int .i64 10])/\Hid (Below wr.heap.size wr w')/\w'.cell? ⟨db,0,none⟩=some (.pointer (some ⟨pb,0,none⟩))/\db < w'.heap.size):=by
     refine(HRN.out wr (Below.refl _ _)).mono ?_
     intro e w' q
     rw[hA] at q
     exact⟨q.1,q.2,HCR.out w' q.2⟩
    have H2:Hid (∀ W,Below wr.heap.size wr W->Calls Tryz.prog 24 #[.pointer (some ⟨pb,0,none⟩),.slice (some ⟨w.heap.size,0,none⟩) cs.length cs.length,.int .i64 4096,.int .i64 4096] W fun e w'=>e=.returned (.tuple #[.pointer none,.int .i64 10])/\Hid (Below w.heap.size w w')):=fun W hb=>by
     refine(HRO.out W hb).mono ?_
     intro e w' q
     rw[hA] at q
     exact⟨q.1,zae (zae hbk hb (Nat.le_refl _)) q.2 (Nat.le_refl _)⟩
    clear hA HRN HRO hd hP h
    go_wp2_with (first|(go_at_call 24;refine(H2.out _ HB1.out).mono ?_;rintro e w2 ⟨rfl,HB2⟩)|(go_at_call 24;refine H1.out.mono ?_;rintro e w1 ⟨rfl,HB1,c1,hl1⟩))
    go_ret
    exact⟨rfl,HB2.out⟩
   |some x =>
    obtain⟨D,kk⟩:=x
    have HTO:Hid (∀ R:zbh,ze1 (t.map (·.arity)) (za5 (zas cs).length) R->zct (t.map (·.arity)) R=D->R.count<=1048576->Told t (zas cs) R):=fun R r1 r2 r3=>h.told r1 r2 hA r3
    have H1:Hid (Calls Tryz.prog 24 #[.pointer (some ⟨pb,0,none⟩),.slice none 0 0,.int .i64 4096,.int .i64 4096] wr fun e w'=>∃ rb,e=.returned (.tuple #[.pointer (some ⟨rb,0,none⟩),.int .i64 0])/\Hid (∃(R:zbh) (pv nv rv:Value) (tbs:List Nat) (lo:Nat),zsp lo lp w' rb t (zas cs) R pv nv rv tbs/\Told t (zas cs) R/\zct (t.map (·.arity)) R=D/\R.rounds=kk/\zia D R.count)/\Hid (Below wr.heap.size wr w')/\w'.cell? ⟨db,0,none⟩=some (.pointer (some ⟨pb,0,none⟩))/\db < w'.heap.size):=by
     refine(HRN.out wr (Below.refl _ _)).mono ?_
     intro e w' q
     rw[hA] at q
     obtain⟨R,rb,pv,nv,rv,tbs,q1,q2,q3,q4,q5,q6,q7,q8,q9⟩:=q
     exact⟨rb,q2,⟨R,pv,nv,rv,tbs,_,q3,HTO.out R q4 q5 q8,q5,q6,q7⟩,q9,HCR.out w' q9⟩
    have H2:Hid (∀ W,Below wr.heap.size wr W->Calls Tryz.prog 24 #[.pointer (some ⟨pb,0,none⟩),.slice (some ⟨w.heap.size,0,none⟩) cs.length cs.length,.int .i64 4096,.int .i64 4096] W fun e w'=>∃ rb,e=.returned (.tuple #[.pointer (some ⟨rb,0,none⟩),.int .i64 0])/\Hid (∃(R:zbh) (pv nv rv:Value) (tbs:List Nat) (lo:Nat),zsp lo lp w' rb t (zas cs) R pv nv rv tbs/\Told t (zas cs) R/\zct (t.map (·.arity)) R=D/\R.rounds=kk/\zia D R.count)/\Hid (Below W.heap.size W w')/\w'.cell? ⟨db,0,none⟩=some (.pointer (some ⟨pb,0,none⟩))/\db < w'.heap.size):=fun W hb=>by
     refine(HRO.out W hb).mono ?_
     intro e w' q
     rw[hA] at q
     obtain⟨R,rb,pv,nv,rv,tbs,q1,q2,q3,q4,q5,q6,q7,q8,q9⟩:=q
     exact⟨rb,q2,⟨R,pv,nv,rv,tbs,_,q3,HTO.out R q4 q5 q8,q5,q6,q7⟩,q9,HCR.out w' (zae hb q9 (Nat.le_refl _))⟩
    have HAK:Hid (∀ W2 W rb sb,Below wr.heap.size wr W2->Below W2.heap.size W2 W->(∃(R:zbh) (pv nv rv:Value) (tbs:List Nat) (lo:Nat),zsp lo lp W2 rb t (zas cs) R pv nv rv tbs/\Told t (zas cs) R/\zct (t.map (·.arity)) R=D/\R.rounds=kk/\zia D R.count)->(∃(R:zbh) (pv nv rv:Value) (tbs:List Nat) (lo:Nat),zsp lo lp W2 sb t (zas cs) R pv nv rv tbs/\Told t (zas cs) R/\zct (t.map (·.arity)) R=D/\R.rounds=kk/\zia D R.count)->Calls Tryz.prog 35 #[.pointer (some ⟨pb,0,none⟩),.pointer (some ⟨rb,0,none⟩),.pointer (some ⟨pb,0,none⟩),.pointer (some ⟨sb,0,none⟩)] W fun e w'=>e=.returned (.bool true)/\Hid (Below w.heap.size w w')/\w'.cell? ⟨db,0,none⟩=some (.pointer (some ⟨pb,0,none⟩))):=fun W2 W rb sb hb1 hb2 ⟨R,pv,nv,rv,tbs,lo,r1,r2,r3,r4,r5⟩ ⟨R',pv',nv',rv',tbs',lo',s1,s2,s3,s4,s5⟩=>by
     have hbr:=zae hb1 hb2 (Nat.le_refl _)
     have hbw:=zae hbk hbr (Nat.le_refl _)
     refine(z94 W pb rb pb sb cs cs t t (zas cs) (zas cs) R R' pv nv rv pv' nv' rv' tbs tbs' (hP.below hbw) (r1.below hb2) r2 (z92 r2) (hP.below hbw) (s1.below hb2) s2 (z92 s2) (z9z r2 s2 (r3.trans s3.symm)) (yao r5 s5) (r4.trans s4.symm)).mono ?_
     rintro e w' ⟨q1,q2⟩
     exact⟨q1,zae hbw q2 (Nat.le_refl _),(HCR.out w' (zae hbr q2 (Nat.le_refl _))).1⟩
    clear hA HRN HRO hd hP h HTO HVA H5 HO
    go_upto_region 17 with (first|(go_at_call 24;refine(H2.out _ HB1.out).mono ?_;rintro e w2 ⟨sb,rfl,HR2,HB2,c2,hl2⟩)|(go_at_call 24;refine H1.out.mono ?_;rintro e w1 ⟨rb,rfl,HR1,HB1,c1,hl1⟩))
    have HB12:Hid (Below wr.heap.size wr w2):=zae HB1.out HB2.out (Nat.le_refl _)
    have HR12:Hid (∃(R:zbh) (pv nv rv:Value) (tbs:List Nat) (lo:Nat),zsp lo lp w2 rb t (zas cs) R pv nv rv tbs/\Told t (zas cs) R/\zct (t.map (·.arity)) R=D/\R.rounds=kk/\zia D R.count):=by
     obtain⟨R,pv,nv,rv,tbs,lo,r1,r2⟩:=HR1.out
     exact⟨R,pv,nv,rv,tbs,lo,r1.below HB2.out,r2⟩
    have HAW:Hid (∀ W,Below w2.heap.size w2 W->Calls Tryz.prog 35 #[.pointer (some ⟨pb,0,none⟩),.pointer (some ⟨rb,0,none⟩),.pointer (some ⟨pb,0,none⟩),.pointer (some ⟨sb,0,none⟩)] W fun e w'=>e=.returned (.bool true)/\Hid (Below w.heap.size w w')/\w'.cell? ⟨db,0,none⟩=some (.pointer (some ⟨pb,0,none⟩))):=fun W hb=>HAK.out w2 W rb sb HB12.out hb HR12.out HR2.out
    clear HAK HR1 HR2 HR12 HB12 HB1 HB2 H1 H2 c1 hl1 c0 hl0 hbk HCEL HCR hlow
    go_region_held3 (fun w'=>w'.cell? ⟨db,0,none⟩=some (.pointer (some ⟨pb,0,none⟩))) (first|go_keep|(go_simp;done)) (first|(go_at_call 35;refine(HAW.out _ (by exact(by repeat'(first|with_reducible(first|exact zR _ _|assumption|refine zN ?_ _|refine zA ?_ ?_ _|refine zD ?_|refine zS ?_ ?_ _)|go_size)))).mono ?_;rintro e w5 ⟨rfl,HB5,z0⟩))
    go_wp2
    go_ret
    exact⟨rfl,HB5.out⟩
theorem ya1(w:World)(s:ByteArray)(a b:Int)(hs:s.size<=9223372036854775807)(ha:-9223372036854775808<=a/\a<=9223372036854775807)(hb:-9223372036854775808<=b/\b<=9223372036854775807) :
  Calls Tryz.prog 7 #[.string s,.int .i64 a,.int .i64 b] w fun e w'=>e=.returned (.bool true)/\Below w.heap.size w w':=by
 have HRE:Hid (Calls Tryz.prog 10 #[.string s] w fun e w'=>zxt s w e w'):=yab w s hs
 unfold zxt at HRE
 cases hc:zof s with
 |error n =>
  rw[hc] at HRE
  have HR2:Hid (Calls Tryz.prog 10 #[.string s] w fun e w'=>e=.returned (.tuple #[.pointer none,.bool true])/\Below w.heap.size w w'):=HRE
  clear HRE hc
  go_enter Tryz.func7,Tryz.ntmps7
  go_wp2_with (first|(go_at_call 10;refine HR2.out.mono ?_;rintro e w1 ⟨rfl,hb1⟩))
  go_ret
  exact⟨rfl,hb1⟩
 |ok x =>
  obtain⟨cs,t⟩:=x
  obtain⟨t0,hp⟩:=z90 hc
  rw[hc] at HRE
  have HR2:Hid (Calls Tryz.prog 10 #[.string s] w fun e w'=>∃ db,e=.returned (.tuple #[.pointer (some ⟨db,0,none⟩),.bool true])/\Hid (∃ pb,Box w' db #[.pointer (some ⟨pb,0,none⟩),.string s] 37/\ziu w.heap.size w' pb cs t)/\Below w.heap.size w w'):=by
   refine HRE.out.mono ?_
   rintro e w' ⟨db,pb,q1,q2,q3,q4,q5⟩
   exact⟨db,q2,⟨pb,q3,q4⟩,q5⟩
  have HLI:Hid (∀ W db,w.heap.size<=W.heap.size->(∃ pb,Box W db #[.pointer (some ⟨pb,0,none⟩),.string s] 37/\ziu w.heap.size W pb cs t)->Calls Tryz.prog 16 #[.pointer (some ⟨db,0,none⟩),.int .i64 a,.int .i64 b] W fun e w'=>e=.returned (.bool true)/\Below W.heap.size W w'):=fun W db hl ⟨pb,q1,q2⟩=>yaz W db pb s a b q1 q2 hp hl ha hb
  clear HRE hc hp
  go_enter Tryz.func7,Tryz.ntmps7
  go_wp2_with (first|(go_at_call 10;refine HR2.out.mono ?_;rintro e w1 ⟨db,rfl,HX1,hb1⟩)|(go_at_call 16;refine(HLI.out _ _ hb1.size HX1.out).mono ?_;rintro e w2 ⟨rfl,hb2⟩))
  go_ret
  exact⟨rfl,zae hb1 hb2 (Nat.le_refl _)⟩
end Go.Proofs.YteampbddflhngabGreat
