import Derived.Test.YteampbddflhngabGreatB45
import Derived.Test.YteampbddflhngabGreatB44
import Derived.Test.YteampbddflhngabGreatB47
import Derived.Test.YteampbddflhngabGreatB09
import Derived.Test.YteampbddflhngabGreatB05
import Derived.Test.YteampbddflhngabGreatB10
import Derived.Deep.OwnRows

namespace Go.Proofs.YteampbddflhngabGreat
open Go.RowKit
theorem Parts.told{cs:List zab}{t0 t:List zao}(h:Parts cs t0 t){R:zbf}{D:DB}{k mr mx:Nat}(hi:zew (t.map (·.arity)) (za3 (zai cs).length) R)(ha:zcm (t.map (·.arity)) R=D)(hr:zgg (zgv t (zai cs) none cs) mr mx=some (D,k))(hc:R.count<=1048576):Told t (zai cs) R:=by
 have hp:∀ i (hi:i < cs.length),zf7 (zaz ((zc6 none i).getD [])) (zaf cs[i]).length:=fun i hi=>zic (zdc (h.many _ (List.getElem_mem hi)))
 have hset:=zy0 h (zai cs) none hp
 have hAr:arT t=arT t0:=by have:=zi3 (t0.length+1) t0 cs;rw[h.strat] at this;exact this
 have hN:namesT t=namesT t0:=by
  have:=congrArg (List.map Prod.fst) hAr
  simpa [arT,namesT,Function.comp_def] using this
 obtain⟨_,hl,_⟩:=h.low
 have hf:=h.few
 have hargs:=z4s cs
 have hvals:(zai cs).length<=500:=by
  have:=zk2 cs []
  simp only[List.length_nil,Nat.zero_add] at this
  show(cs.foldl zdi []).length<=500
  omega
 exact⟨by rw[hN];exact h.tab.rise,(zk4 cs).1,hi,hset.small,by rw[ha];exact zw1 h none hp hr,hc,by omega,by omega⟩
theorem zlk{t:List zao}{ns:List ByteArray}{R:zbf}(h:Told t ns R)(f:zgi):f∈za6 t ns R t.length↔∃ p,p < t.length/\∃ r m,zcm (t.map (·.arity)) R p r=some m/\f=(ziy t p,za2 ns r (za1 t p) 3,m):=by
 unfold za6
 rw[List.mem_flatMap]
 have hmk:∀ p,p < t.length->∀ r m,Canon (za1 t p) r->(zcm (t.map (·.arity)) R p r=some m↔zdy (R.rows.getD p zae.zero) r=some m):=by
  intro p hp r m hc
  unfold zcm
  rw[if_pos ⟨by simpa using hp,hc⟩]
 constructor
 ·rintro⟨p,hp,hf⟩
  have hp:=List.mem_range.1 hp
  obtain⟨r,hr,rfl⟩:=List.mem_map.1 hf
  obtain⟨q1,q2,_⟩:=h.row hp hr
  obtain⟨m,hm⟩:=Option.isSome_iff_exists.1 q1
  refine⟨p,hp,r,m,hm,?_⟩
  unfold zlo
  rw[(hmk p hp r m q2).1 hm]
  rfl
 ·rintro⟨p,hp,r,m,hm,rfl⟩
  have hpr:p < R.rows.length:=by rw[h.len];exact hp
  have hin:InD (zcm (t.map (·.arity)) R) p r:=by unfold InD;rw[hm];rfl
  refine⟨p,List.mem_range.2 hp,List.mem_map.2 ⟨r,?_,?_⟩⟩
  ·have:=(zjv h.inv h.small hpr r).2 hin
   unfold zc5
   rw[getD_lt _ hpr]
   exact this
  ·unfold zlo
   rw[(hmk p hp r m (zms _ R p r hin).2).1 hm]
   rfl
theorem z5k{t:List zao}{ns:List ByteArray}{R:zbf}(h:Told t ns R){f g:zgi}(hf:f∈za6 t ns R t.length)(hg:g∈za6 t ns R t.length)(e1:f.1=g.1)(e2:f.2.1=g.2.1):f=g:=by
 obtain⟨p,hp,r,m,hm,rfl⟩:=(zlk h f).1 hf
 obtain⟨q,hq,s,n,hn,rfl⟩:=(zlk h g).1 hg
 simp only at e1 e2
 have hpq:p=q:=by rw[← (h.name hp).2.1,← (h.name hq).2.1,e1]
 subst hpq
 have i1:InD (zcm (t.map (·.arity)) R) p r:=by unfold InD;rw[hm];rfl
 have i2:InD (zcm (t.map (·.arity)) R) p s:=by unfold InD;rw[hn];rfl
 have a1:=zme h.nrise (h.ar hp).1 (zms _ R p r i1).2 (h.inside p r i1)
 have a2:=zme h.nrise (h.ar hp).1 (zms _ R p s i2).2 (h.inside p s i2)
 have e:(t.map (·.arity)).getD p 0=za1 t p:=rfl
 rw[e2,a2] at a1
 obtain rfl:=Option.some.inj a1
 rw[hm] at hn
 obtain rfl:=Option.some.inj hn
 rfl
theorem zm3:∀ a:List ByteArray,zfk a a=false
 |[]=>rfl
 |x::a=>by unfold zfk;rw[if_pos rfl];exact zm3 a
theorem zok{t:List zao}{ns:List ByteArray}{R:zbf}(h:Told t ns R):(za6 t ns R t.length).Nodup:=by
 unfold za6 List.Nodup
 rw[List.pairwise_flatMap]
 refine⟨fun p hp=>?_,?_⟩
 ·have hp:=List.mem_range.1 hp
  rw[List.pairwise_iff_getElem]
  intro i j hi hj hij e
  simp only[List.length_map] at hi hj
  simp only[List.getElem_map] at e
  have hs:=h.sorted hp hij hj
  have e':za2 ns (zc5 R p)[i] (za1 t p) 3=za2 ns (zc5 R p)[j] (za1 t p) 3:=congrArg (fun f:zgi=>f.2.1) e
  rw[e',zm3] at hs
  cases hs
 ·rw[List.pairwise_iff_getElem]
  intro i j hi hj hij x hx y hy e
  subst e
  simp only[List.length_range] at hi hj
  simp only[List.getElem_range] at hx hy
  obtain⟨r,_,hr⟩:=List.mem_map.1 hx
  obtain⟨s,_,hs⟩:=List.mem_map.1 hy
  have:ziy t i=ziy t j:=by
   have:=congrArg (fun f:zgi=>f.1) (hr.trans hs.symm)
   exact this
  have:=congrArg (zbh t) this
  rw[(h.name hi).2.1,(h.name hj).2.1] at this
  omega
theorem z4b{fs:List zgi}{f:zgi}(h:f∈fs):∃ k,∃ hk:k < fs.length,zkc f.1 f.2.1 fs=some k/\fs[k].1=f.1/\fs[k].2.1=f.2.1:=by
 induction fs with
 |nil=>cases h
 |cons g fs ih =>
  unfold zkc
  by_cases hq:g.1=f.1/\g.2.1=f.2.1
  ·rw[if_pos hq]
   exact⟨0,by simp,rfl,hq.1,hq.2⟩
  ·rw[if_neg hq]
   have hm:f∈fs:=by
    rcases List.mem_cons.1 h with rfl|hm
    ·exact absurd ⟨rfl,rfl⟩ hq
    ·exact hm
   obtain⟨k,hk,h1,h2,h3⟩:=ih hm
   exact⟨k+1,by simp;omega,by rw[h1];rfl,h2,h3⟩
theorem z7y{t t2:List zao}{ns ns2:List ByteArray}{R R2:zbf}(h:Told t ns R)(h2:Told t2 ns2 R2)(hm:∀ f,f∈za6 t ns R t.length↔f∈za6 t2 ns2 R2 t2.length):zyv (za6 t ns R t.length) (za6 t2 ns2 R2 t2.length):=by
 refine⟨Nat.le_antisymm (zgx (zok h) fun f hf=>(hm f).1 hf) (zgx (zok h2) fun f hf=>(hm f).2 hf),fun i hi=>?_⟩
 have hf:=(hm _).1 (List.getElem_mem hi)
 obtain⟨k,hk,h3,h4,h5⟩:=z4b hf
 exact⟨k,hk,h3,by rw[z5k h2 (List.getElem_mem hk) hf h4 h5]⟩
theorem zqq{t:List zao}{ns:List ByteArray}{R:zbf}(h:Told t ns R):(za6 t ns R t.length).length<=10000000:=by
 have:(za6 t ns R t.length).length=R.count:=by
  unfold za6
  rw[List.length_flatMap,h.inv.cnt]
  congr 1
  refine List.ext_getElem (by simp[h.len]) fun i h1 h2=>?_
  have hi:i < R.rows.length:=by simpa using h2
  simp only[List.getElem_map,List.getElem_range,List.length_map,zc5]
  rw[getD_lt _ hi,((h.inv.tries i hi).1).cnt]
 have:=h.few.1
 omega
theorem z09{t:List zao}{ns:List ByteArray}{R R2:zbf}(h:Told t ns R)(h2:Told t ns R2)(e:zcm (t.map (·.arity)) R=zcm (t.map (·.arity)) R2):zyv (za6 t ns R t.length) (za6 t ns R2 t.length):=z7y h h2 fun f=>by rw[zlk h,zlk h2,e]
theorem Parts.runos{cs:List zab}{t0 t:List zao}(h:Parts cs t0 t){os:Option (List (Option (List Int)))}(hb:zd1 cs os=true):z8l cs t os/\zz9 (zgv t (zai cs) os cs):=by
 have hset:zz9 (zgv t (zai cs) os cs):=zy0 h _ os (zjk hb fun c hc=>zdc (h.many c hc))
 obtain⟨hk,_⟩:=h.runok
 have ho:(os.getD []).length<=cs.length/\∀ o∈os.getD [],(o.getD []).length<=5:=by
  cases os with
  |none=>simp
  |some l =>
   unfold zd1 at hb
   simp only[Bool.and_eq_true,beq_iff_eq,List.all_eq_true] at hb
   refine⟨by simp;omega,fun o ho=>?_⟩
   obtain⟨i,hi,rfl⟩:=List.mem_iff_getElem.1 (show o∈l from ho)
   have:=hb.2 (cs[i]'(by omega),l[i]) (by
    rw[List.mem_iff_getElem]
    exact⟨i,by simp;omega,by simp⟩)
   cases hq:l[i] with
   |none=>simp
   |some o =>
    rw[hq] at this
    simp only[zcb,Bool.and_eq_true,beq_iff_eq] at this
    have h5:=zdc (h.many cs[i] (List.getElem_mem (by omega)))
    simp only[Option.getD_some]
    omega
 have hl:=hk.len
 refine⟨⟨hk.len,hk.names,hk.fine,hk.sums,hk.few,hk.vals,hk.strat,by omega,fun o h=>by have:=ho.2 o h;omega,fun _ o h=>by have:=ho.2 o h;omega,fun _=>?_⟩,hset⟩
 have hs:=hk.set rfl
 exact⟨fun r hr=>⟨fun l hl=>((hset.rules.rules r hr).plain l hl).1,fun l hl=>⟨((hset.rules.rules r hr).nots l hl).1,hset.rules.apart r hr r hr rfl l hl⟩⟩,hs.many,hs.small,hs.rows,hs.facts,hs.width⟩
theorem z9v{lp:Nat}(w:World)(pb:Nat){cs:List zab}{t0 t:List zao}(hP:zhq lp w pb cs t)(h:Parts cs t0 t)(hlp:lp<=w.heap.size)(ov:Value)(os:Option (List (Option (List Int))))(ho:zg6 w ov os)(hb:zd1 cs os=true)(mr mx:Nat)(h1:mr<=1048576)(h2:mx<=1048576) :
  Calls Tryz.prog 24 #[.pointer (some ⟨pb,0,none⟩),ov,.int .i64 mr,.int .i64 mx] w fun e w'=>zy4 lp t (zai cs) (zgg (zgv t (zai cs) none cs) mr mx) w e w':=by
 obtain⟨hk,hset⟩:=h.runos hb
 have h5:∀ c∈cs,(zaf c).length<=5:=fun c hc=>zdc (h.many c hc)
 rw[zv6 h (zai cs) none os (zjk rfl h5) (zjk hb h5)]
 obtain⟨N,hN⟩:=zza hset (mr:=mr) (mx:=mx) h1
 obtain⟨res,r1,r2,r3⟩:=hN N (Nat.le_refl _)
 refine(zyf w pb cs t ov os mr mx N res hP ho hk hb h1 h2 hlp r1).mono ?_
 intro e w' hres
 cases res with
 |none=>rw[r2 rfl];exact hres
 |some R =>
  obtain⟨q1,q2,q3⟩:=r3 R rfl
  obtain⟨rb,pv,nv,rv,tbs,s1,s2,s3,s4⟩:=hres
  rw[q3]
  exact⟨R,rb,pv,nv,rv,tbs,s1,s2,s3,q1,rfl,rfl,q1.card hset.small,by omega,s4⟩
end Go.Proofs.YteampbddflhngabGreat

namespace Go.Proofs.YteampbddflhngabGreat
set_option maxRecDepth 100000
set_option maxHeartbeats 2000000
open Go.RowKit
def zoc(c:Int)(n:Nat):Nat:=if c < 0 then(-(c+1)).toNat % n else c.toNat % n
theorem z7k(c:Int){n:Nat}(hn:0 < n):zoc c n < n:=by unfold zoc;split <;> exact Nat.mod_lt _ hn
theorem zs7(w:World)(c:Int)(n:Nat)(hn:0 < n)(hn2:n<=281474976710656)(hc:-9223372036854775808<=c/\c<=9223372036854775807) :
  Calls Tryz.prog 14 #[.int .i64 c,.int .i64 n] w fun e w'=>e=.returned (.int .i64 (zoc c n:Nat))/\w'=w:=by
 obtain⟨hc1,hc2⟩:=hc
 by_cases h0:c < 0
 ·have e:-(c+1).tmod (n:Int)=((zoc c n:Nat):Int):=by
   unfold zoc
   rw[if_pos h0,← Int.neg_tmod,Int.tmod_eq_emod_of_nonneg (by omega),Int.natCast_emod,Int.toNat_of_nonneg (by omega)]
  have HE:Hid (-(c+1).tmod (n:Int)=((zoc c n:Nat):Int)):=e
  clear e
  generalize zoc c n=pk at *
  go_enter Tryz.func14,Tryz.ntmps14
  go_wp2
  exact bodyPost_ret (v:=.int .i64 (-(c+1).tmod (n:Int))) (by simp[results,Tryz.results14,go_sem]) rfl ⟨by rw[HE.out],rfl⟩
 ·have e:c % (n:Int)=((zoc c n:Nat):Int):=by unfold zoc;rw[if_neg h0,Int.natCast_emod,Int.toNat_of_nonneg (by omega)]
  have HE:Hid (c % (n:Int)=((zoc c n:Nat):Int)):=e
  clear e
  generalize zoc c n=pk at *
  go_enter Tryz.func14,Tryz.ntmps14
  go_wp2
  exact bodyPost_ret (v:=.int .i64 (c % (n:Int))) (by simp[results,Tryz.results14,go_sem]) rfl ⟨by rw[HE.out],rfl⟩
end Go.Proofs.YteampbddflhngabGreat

namespace Go.Proofs.YteampbddflhngabGreat
set_option maxRecDepth 100000
set_option maxHeartbeats 4000000
open Go.RowKit
def ziw(l:List Nat):Array Value:=(l.map ivN).toArray
theorem zj0(l:List Nat)(k v:Nat):(ziw l).setIfInBounds k (.int .i64 (v:Int))=ziw (l.set k v):=by simp[ziw,List.map_set,ivN]
theorem zv1(n:Nat):madeCells #[.int .i64 0] n=ziw (List.replicate n 0):=by
 unfold madeCells ziw
 apply Array.ext
 ·simp
 ·intro i h1 h2
  simp[ivN,Nat.mod_one]
theorem zj2{l:List Nat}{k:Nat}(h:k < l.length):(ziw l)[k]?=some (.int .i64 (l[k]:Nat)):=by simp[ziw,h,ivN]
theorem z8x{l:List Nat}{i:Nat}(h:i < l.length):l.getD i 0=l[i]:=by simp[List.getD,h]
def zum(l:List Nat)(i j:Nat):List Nat:=(l.set i (l.getD j 0)).set j (l.getD i 0)
theorem z4a(l:List Nat)(i j:Nat):(zum l i j).length=l.length:=by simp[zum]
theorem z0y{l:List Nat}{i j:Nat}(hi:i < l.length)(hj:j < l.length):(zum l i j).Perm l:=by
 have h:=Array.swap_perm (xs:=l.toArray) (i:=i) (j:=j) (by simpa using hi) (by simpa using hj)
 have e:(l.toArray.swap i j (by simpa using hi) (by simpa using hj)).toList=zum l i j:=by
  simp[zum,Array.swap,hi,hj,List.getD]
 have:=h.toList
 rw[e] at this
 simpa using this
theorem zq2{c:Int}(n:Nat)(hc:-9223372036854775808<=c/\c<=9223372036854775807)(hn:2<=n):-9223372036854775808<=c.tdiv (n:Int)/\c.tdiv (n:Int)<=9223372036854775807:=by
 have h1:(c.tdiv (n:Int)).natAbs<=c.natAbs / 2:=by
  rw[Int.natAbs_tdiv,Int.natAbs_natCast]
  exact Nat.div_le_div_left hn (by omega)
 omega
theorem z0x(w:World)(c:Int)(n:Nat)(hn:n<=1000)(hc:-9223372036854775808<=c/\c<=9223372036854775807) :
  Calls Tryz.prog 34 #[.int .i64 c,.int .i64 n] w fun e w'=>e=.returned (.slice (some ⟨w.heap.size,0,none⟩) n n)/\∃ l:List Nat,l.length=n/\l.Perm (List.range n)/\Box w' w.heap.size (ziw l) 3/\Below w.heap.size w w':=by
 have hmk:=fun W:World=>run_make_row' (P:=Tryz.prog) (w:=W) 70 3 (.int .i64 0) 8 Tryz.underlying70 Tryz.infoInt rfl .i64 .i64 n (by omega) (by omega)
 have HPK:Hid (∀ W (c:Int) (m:Nat),-9223372036854775808<=c/\c<=9223372036854775807->0 < m->m<=2000->Calls Tryz.prog 14 #[.int .i64 c,.int .i64 m] W fun e w'=>∃ j,e=.returned (.int .i64 (j:Nat))/\j < m/\w'=W):=fun W c m h1 h2 h3=>(zs7 W c m h2 (by omega) h1).mono fun e w' ⟨q1,q2⟩=>⟨_,q1,z7k c h2,q2⟩
 have HDV:Hid (∀ m:Nat,2<=m->-9223372036854775808<=c.tdiv (m:Int)/\c.tdiv (m:Int)<=9223372036854775807):=fun m hm=>zq2 m hc hm
 go_enter Tryz.func34,Tryz.ntmps34
 go_wp2
 go_loopw [6] (fun v6 wr=>∃(k:Nat) (l:List Nat),k<=n/\v6=.int .i64 k/\l.length=n/\Hid (∀ j (h:j < l.length),j < k->l[j]=j)/\Box wr w.heap.size (ziw l) 3/\Below w.heap.size w wr) (fun v6 _=>n - (intOf v6).toNat)
 case atStart =>
  refine⟨0,List.replicate n 0,Nat.zero_le _,rfl,by simp,fun j _ h=>by omega,?_,(by repeat'(first|with_reducible(first|exact zR _ _|assumption|refine zN ?_ _|refine zA ?_ ?_ _|refine zD ?_|refine zS ?_ ?_ _)|go_size))⟩
  rw[← zv1]
  exact Box.new _ _ _
 case round =>
  obtain⟨k,l,hk,rfl,hll,HL,hbx,hbk⟩:=hrel
  obtain⟨hcl,hfr⟩:=hbx.rules
  have hbl:=hbx.lt
  by_cases hkl:k < n
  ·have hki:(k:Int) < (n:Int):=by omega
   have hck:=hcl k
   rw[zj2 (by omega)] at hck
   have hset:=hbx.set k (.int .i64 (k:Nat))
   rw[zj0] at hset
   clear hcl
   go_wp2
   go_roundw
   case rel=>exact⟨k+1,l.set k k,by omega,by go_num,by simpa using hll,fun j h1 h2=>(by
    rw[List.getElem_set]
    split
    ·assumption
    ·exact HL.out j (by simpa using h1) (by omega)),hset,hbk.setCell (by simp) _⟩
   case measure=>simp[intOf];omega
  ·have hki:¬ (k:Int) < (n:Int):=by omega
   have HP:Hid (l.Perm (List.range n)):=by
    have e:l=List.range n:=List.ext_getElem (by simp[hll]) fun i h1 h2=>by
     rw[HL.out i h1 (by omega)];simp
    rw[e]
    exact List.Perm.refl _
   clear HL hcl hfr
   go_wp2
   go_loopw [7,8,9] (fun v7 _ _ wr=>∃(z:Int) (l:List Nat),-1<=z/\z < n/\v7=.int .i64 z/\l.length=n/\Hid (l.Perm (List.range n))/\Box wr w.heap.size (ziw l) 3/\Below w.heap.size w wr) (fun v7 _ _ _=>(intOf v7).toNat)
   case atStart=>exact⟨(n:Int) - 1,l,by omega,by omega,by go_num,hll,HP,hbx,hbk⟩
   case round =>
    clear HP hbx hbk hll hbl
    obtain⟨z,l,hz1,hz2,rfl,hll,HP,hbx,hbk⟩:=hrel
    by_cases hz0:0 < z
    ·obtain⟨i,rfl⟩:=Int.eq_ofNat_of_zero_le (show 0<=z by omega)
     have hi:i < n:=by omega
     obtain⟨hcl,hfr⟩:=hbx.rules
     have hbl:=hbx.lt
     have hz0n:0 < i:=by omega
     have hdv:=HDV.out (i+1) (by omega)
     have hp1:=HPK.out wr _ (i+1) hdv (by omega) (by omega)
     rw[show((i+1:Nat):Int)=(i:Int)+1 by omega] at hdv hp1
     obtain⟨hdv1,hdv2⟩:=hdv
     have HP1:Hid (Calls Tryz.prog 14 #[.int .i64 (c.tdiv ((i:Int)+1)),.int .i64 ((i:Int)+1)] wr fun e w'=>∃ j,e=.returned (.int .i64 (j:Nat))/\j < i+1/\w'=wr):=hp1
     clear hp1
     have HCL:Hid (∀ j,j < n->∃ x:Nat,wr.cell? ⟨w.heap.size,j,none⟩=some (.int .i64 x)/\Hid (x=l.getD j 0)/\∃ y:Nat,(wr.setCell ⟨w.heap.size,i,none⟩ (.int .i64 x)).cell? ⟨w.heap.size,j,none⟩=some (.int .i64 y)):=fun j h=>by
      have hjl:j < l.length:=by omega
      refine⟨l[j],by rw[hcl j,zj2 hjl],by rw[Hid,z8x hjl],(l.set i l[j])[j]'(by simpa using hjl),?_⟩
      have h1:=(hbx.set i (.int .i64 (l[j]:Nat))).rules.1 j
      rw[zj0,zj2 (by simpa using hjl)] at h1
      exact h1
     obtain⟨xi,hci,HXI,_⟩:=HCL.out i hi
     clear hcl
     go_wp2_with (first|(go_at_call 14;refine HP1.out.mono ?_;rintro e w5 ⟨j,rfl,hj,hww⟩;obtain rfl:=hww.symm;obtain⟨xj,hcj,HXJ,yj,hyj⟩:=HCL.out j (by omega)))
     go_roundw
     case rel =>
      have hjn:j < n:=by omega
      have h1:=(hbx.set i (.int .i64 (xj:Nat))).set j (.int .i64 (xi:Nat))
      rw[zj0,zj0] at h1
      have e:(l.set i xj).set j xi=zum l i j:=by unfold zum;rw[← HXI.out,← HXJ.out]
      rw[e] at h1
      exact⟨(i:Int) - 1,zum l i j,by omega,by omega,by go_num,by rw[z4a];exact hll,(z0y (by omega) (by omega)).trans HP.out,h1,(hbk.setCell (by simp) _).setCell (by simp) _⟩
     case measure=>simp[intOf];omega
    ·go_wp2
     go_ret
     exact⟨rfl,l,hll,HP.out,hbx,hbk⟩
end Go.Proofs.YteampbddflhngabGreat
