import Derived.Test.YteampbddflhngabGreatZ42
import Derived.Test.YteampbddflhngabGreatZ04
import Derived.Test.YteampbddflhngabGreatZ09
import Derived.Deep.RegionLaw
import Derived.Test.YteampbddflhngabGreatZ41

namespace Go.Proofs.YteampbddflhngabGreat
set_option maxRecDepth 100000
set_option maxHeartbeats 4000000
open Go.RowKit
theorem z8b{lo lo2:Nat}(w:World)(va vb:Value)(a b:List ByteArray)(ha:SIn lo w va a)(hb:SIn lo2 w vb b)(hl:a.length<=1000000)(hl2:b.length<=1000000) :
  Calls Tryz.prog 30 #[va,vb] w fun e w'=>e=.returned (.bool (decide (a=b)))/\Below w.heap.size w w':=by
 obtain⟨ao,cap,rfl⟩:=ha.shape
 obtain⟨ao2,cap2,rfl⟩:=hb.shape
 by_cases hne:a.length=b.length
 ·have HLE:Hid (a.length=b.length):=hne
  rw[← hne]
  clear hne
  have HD:Hid (∀ k,k < a.length->a.getD k ByteArray.empty≠b.getD k ByteArray.empty->decide (a=b)=false):=fun k _ q=>by
   simp only[decide_eq_false_iff_not]
   rintro rfl
   exact q rfl
  have HT:Hid ((∀ k,k < a.length->a.getD k ByteArray.empty=b.getD k ByteArray.empty)->decide (a=b)=true):=fun q=>by
   simp only[decide_eq_true_eq]
   refine List.ext_getElem HLE.out fun i h1 h2=>?_
   have:=q i h1
   rwa [getD_lt _ h1,getD_lt _ h2] at this
  generalize decide (a=b)=r at *
  have HA:Hid (SIn lo w (.slice ao a.length cap) a):=ha
  have HB:Hid (SIn lo2 w (.slice ao2 b.length cap2) b):=hb
  clear ha hb
  go_enter Tryz.func30,Tryz.ntmps30
  go_wp2
  go_loopw [5] (fun i wr=>∃ k:Nat,k<=a.length/\i=.int .i64 k/\Hid (∀ j,j < k->a.getD j ByteArray.empty=b.getD j ByteArray.empty)/\Below w.heap.size w wr) (fun i _=>a.length - (intOf i).toNat)
  case atStart=>exact⟨0,Nat.zero_le _,rfl,fun j hj=>by omega,Below.refl _ _⟩
  case round =>
   obtain⟨k,hk,rfl,HK,hbk⟩:=hrel
   have hszk:=hbk.size
   by_cases hlt:k < a.length
   ·have hlt2:k < b.length:=by rw[← HLE.out];exact hlt
    obtain⟨g,rfl,hg,hck⟩:=HA.out.cell k hlt
    obtain⟨g2,e2,hg2,hck2⟩:=HB.out.cell k hlt2
    subst e2
    have hxk:=(hbk.cell (p:=⟨g,k,none⟩) hg).trans hck
    have hxk2:=(hbk.cell (p:=⟨g2,k,none⟩) hg2).trans hck2
    have hgr:g < wr.heap.size:=by omega
    have hgr2:g2 < wr.heap.size:=by omega
    clear hck hck2
    have HGA:Hid (a.getD k ByteArray.empty=a[k]):=getD_lt _ hlt
    have HGB:Hid (b.getD k ByteArray.empty=b[k]):=getD_lt _ hlt2
    by_cases he:a[k]=b[k]
    ·have heq:=zf0 he
     have HEQ:Hid (a[k]=b[k]):=he
     clear he
     generalize a[k]=x at *
     generalize b[k]=y at *
     go_wp2
     go_quiet (fail)
     go_wp2
     go_roundw
     case rel=>exact⟨k+1,by omega,by go_num,fun j hj=>(by
      by_cases hjk:j=k
      ·rw[hjk,HGA.out,HGB.out,HEQ.out]
      ·exact HK.out j (by omega)),zaw hbk _⟩
     case measure=>simp[intOf];omega
    ·have heq:=zfh he
     have HF:Hid (r=false):=HD.out k hlt (by rw[HGA.out,HGB.out];exact he)
     clear he
     generalize a[k]=x at *
     generalize b[k]=y at *
     go_wp2
     go_quiet (fail)
     go_wp2
     go_ret
     exact⟨by rw[HF.out];rfl,zaw hbk _⟩
   ·have HF:Hid (r=true):=HT.out fun j hj=>HK.out j (by omega)
    go_wp2
    go_ret
    exact⟨by rw[HF.out];rfl,hbk⟩
 ·have hnei:¬ (a.length:Int)=(b.length:Int):=by omega
  have HF:Hid (decide (a=b)=false):=show decide (a=b)=false by
   simp only[decide_eq_false_iff_not]
   rintro rfl
   exact hne rfl
  generalize decide (a=b)=r at *
  clear ha hb hne
  go_enter Tryz.func30,Tryz.ntmps30
  go_wp2
  go_ret
  exact⟨by rw[HF.out];rfl,Below.refl _ _⟩
abbrev z3t:=ByteArray × List ByteArray × Nat
structure Told (t:List zar) (ns:List ByteArray) (R:zbk):Prop where
 rise:zb9 (namesT t)
 nrise:zb9 ns
 inv:zeu (t.map (·.arity)) (za2 ns.length) R
 small:∀ a∈t.map (·.arity),a<=3
 inside:zuq (t.map (·.arity)) ns.length (zc0 (t.map (·.arity)) R)
 few:R.count<=1048576/\t.length<=1000/\ns.length<=1000
def zrg(R:zbk)(p:Nat):List zao:=(keysT (R.rows.getD p zad.zero)).map fun k=>pad k (R.rows.getD p zad.zero).depth
def ztj(t:List zar)(p:Nat):ByteArray:=(namesT t).getD p ByteArray.empty
def z06(t:List zar)(ns:List ByteArray)(R:zbk)(p:Nat)(r:zao):z3t:=(ztj t p,zci ns r (zbn t p) 3,(zdq (R.rows.getD p zad.zero) r).getD 0)
def zwy(t:List zar)(ns:List ByteArray)(R:zbk)(n:Nat):List z3t:=(List.range n).flatMap fun p=>(zrg R p).map (z06 t ns R p)
theorem Told.len{t:List zar}{ns:List ByteArray}{R:zbk}(h:Told t ns R):R.rows.length=t.length:=by have:=h.inv.len;simpa using this
theorem Told.name{t:List zar}{ns:List ByteArray}{R:zbk}(h:Told t ns R){p:Nat}(hp:p < t.length):(zbb t (ztj t p)).isSome=true/\zbd t (ztj t p)=p/\ztj t p=t[p].name:=by
 have hn:ztj t p=t[p].name:=by unfold ztj namesT;simp[List.getD,hp]
 have hpl:zai t t[p].name=p:=by
  rcases Nat.lt_trichotomy (zai t t[p].name) p with q|q|q
  ·have h1:=zmz t t[p].name h.rise t[zai t t[p].name] (by
    rw[List.mem_iff_getElem]
    exact⟨0,by simp;omega,by simp⟩)
   have hr:=List.pairwise_iff_getElem.1 h.rise (zai t t[p].name) p (by simp[namesT];omega) (by simp[namesT];omega) q
   simp only[namesT,List.getElem_map] at hr
   rw[hr] at h1
   cases h1
  ·exact q
  ·have h1:=zm0 t t[p].name t[p] (by
    rw[List.mem_iff_getElem]
    exact⟨p,by simp;omega,by simp⟩)
   rw[lt_irrefl] at h1
   cases h1
 have he:zbb t t[p].name=some t[p]:=by
  unfold zbb
  rw[hpl,List.getElem?_eq_getElem hp]
  simp
 rw[hn]
 exact⟨by rw[he];rfl,by unfold zbd;rw[he,hpl];rfl,rfl⟩
theorem Told.ar{t:List zar}{ns:List ByteArray}{R:zbk}(h:Told t ns R){p:Nat}(hp:p < t.length):zbn t p<=3/\(t.map (·.arity)).getD p 0=zbn t p:=by
 refine⟨?_,rfl⟩
 unfold zbn
 rw[getD_lt _ (by simpa using hp)]
 exact h.small _ (List.getElem_mem _)
theorem Told.row{t:List zar}{ns:List ByteArray}{R:zbk}(h:Told t ns R){p:Nat}(hp:p < t.length){r:zao}(hr:r∈zrg R p):InD (zc0 (t.map (·.arity)) R) p r/\Canon (zbn t p) r/\∀ i,i < zbn t p->r.getD i 0 < ns.length:=by
 have hpr:p < R.rows.length:=by rw[h.len];exact hp
 have hin:InD (zc0 (t.map (·.arity)) R) p r:=by
  refine(zjb h.inv h.small hpr r).1 ?_
  unfold zrg at hr
  rw[getD_lt _ hpr] at hr
  exact hr
 exact⟨hin,(zlj _ R p r hin).2,h.inside p r hin⟩
theorem Told.rows{t:List zar}{ns:List ByteArray}{R:zbk}(h:Told t ns R){p:Nat}(hp:p < R.rows.length):∃ fuel,rowsG fuel R.rows[p]=some (zrg R p)/\(zrg R p).length<=1048576:=by
 obtain⟨t1,t2,t3,t4⟩:=h.inv.tries p hp
 have hge:=zxo R.rows p hp
 rw[← h.inv.cnt] at hge
 have:=h.few.1
 refine⟨3 * (R.rows[p].width+1),?_,?_⟩
 ·rw[t1.rowsG _ (Nat.le_refl _) (by omega)]
  unfold zrg
  rw[getD_lt _ hp]
 ·unfold zrg
  rw[getD_lt _ hp,List.length_map,t1.cnt]
  omega
theorem Told.when{t:List zar}{ns:List ByteArray}{R:zbk}(h:Told t ns R){p:Nat}(hp:p < t.length){r:zao}(hr:r∈zrg R p):zwk t ns R (ztj t p) (zci ns r (zbn t p) 3)=((z06 t ns R p r).2.2,0):=by
 obtain⟨n1,n2,_⟩:=h.name hp
 obtain⟨q1,q2,q3⟩:=h.row hp hr
 have hpr:p < R.rows.length:=by rw[h.len];exact hp
 unfold zwk
 rw[n2,if_neg (by rintro(z|z);rw[n1] at z;cases z;omega),if_neg (by rw[zjf];simp),zl2 h.nrise (h.ar hp).1 q2 q3]
 simp only
 unfold InD zc0 at q1
 rw[if_pos ⟨by simpa using hp,q2⟩] at q1
 cases hm:zdq (R.rows.getD p zad.zero) r with
 |none=>rw[hm] at q1;cases q1
 |some m=>simp only[z06,hm,Option.getD_some]
theorem Parts.told{cs:List zab}{t0 t:List zar}(h:Parts cs t0 t){R:zbk}{D:DB}{k mr mx:Nat}(hi:zeu (t.map (·.arity)) (za2 (zav cs).length) R)(ha:zc0 (t.map (·.arity)) R=D)(hr:zjm (zjl t (zav cs) none cs) mr mx=some (D,k))(hc:R.count<=1048576):Told t (zav cs) R:=by
 have hp:∀ i (hi:i < cs.length),zif (za4 ((zdz none i).getD [])) (zaf cs[i]).length:=fun i hi=>zp5 (zf5 (h.many _ (List.getElem_mem hi)))
 have hset:=z2w h (zav cs) none hp
 have hAr:arT t=arT t0:=by have:=zim (t0.length+1) t0 cs;rw[h.strat] at this;exact this
 have hN:namesT t=namesT t0:=by
  have:=congrArg (List.map Prod.fst) hAr
  simpa [arT,namesT,Function.comp_def] using this
 obtain⟨_,hl,_⟩:=h.low
 have hf:=h.few
 have hargs:=z0g cs
 have hvals:(zav cs).length<=500:=by
  have:=zj2 cs []
  simp only[List.length_nil,Nat.zero_add] at this
  show(cs.foldl zdc []).length<=500
  omega
 exact⟨by rw[hN];exact h.tab.rise,(zkn cs).1,hi,hset.small,by rw[ha];exact zvg h none hp hr,hc,by omega,by omega⟩
theorem zsk{t:List zar}{ns:List ByteArray}{R:zbk}(h:Told t ns R)(f:z3t):f∈zwy t ns R t.length↔∃ p,p < t.length/\∃ r m,zc0 (t.map (·.arity)) R p r=some m/\f=(ztj t p,zci ns r (zbn t p) 3,m):=by
 unfold zwy
 rw[List.mem_flatMap]
 have hmk:∀ p,p < t.length->∀ r m,Canon (zbn t p) r->(zc0 (t.map (·.arity)) R p r=some m↔zdq (R.rows.getD p zad.zero) r=some m):=by
  intro p hp r m hc
  unfold zc0
  rw[if_pos ⟨by simpa using hp,hc⟩]
 constructor
 ·rintro⟨p,hp,hf⟩
  have hp:=List.mem_range.1 hp
  obtain⟨r,hr,rfl⟩:=List.mem_map.1 hf
  obtain⟨q1,q2,_⟩:=h.row hp hr
  obtain⟨m,hm⟩:=Option.isSome_iff_exists.1 q1
  refine⟨p,hp,r,m,hm,?_⟩
  unfold z06
  rw[(hmk p hp r m q2).1 hm]
  rfl
 ·rintro⟨p,hp,r,m,hm,rfl⟩
  have hpr:p < R.rows.length:=by rw[h.len];exact hp
  have hin:InD (zc0 (t.map (·.arity)) R) p r:=by unfold InD;rw[hm];rfl
  refine⟨p,List.mem_range.2 hp,List.mem_map.2 ⟨r,?_,?_⟩⟩
  ·have:=(zjb h.inv h.small hpr r).2 hin
   unfold zrg
   rw[getD_lt _ hpr]
   exact this
  ·unfold z06
   rw[(hmk p hp r m (zlj _ R p r hin).2).1 hm]
   rfl
theorem z8a{t:List zar}{ns:List ByteArray}{R:zbk}(h:Told t ns R){f g:z3t}(hf:f∈zwy t ns R t.length)(hg:g∈zwy t ns R t.length)(e1:f.1=g.1)(e2:f.2.1=g.2.1):f=g:=by
 obtain⟨p,hp,r,m,hm,rfl⟩:=(zsk h f).1 hf
 obtain⟨q,hq,s,n,hn,rfl⟩:=(zsk h g).1 hg
 simp only at e1 e2
 have hpq:p=q:=by rw[← (h.name hp).2.1,← (h.name hq).2.1,e1]
 subst hpq
 have i1:InD (zc0 (t.map (·.arity)) R) p r:=by unfold InD;rw[hm];rfl
 have i2:InD (zc0 (t.map (·.arity)) R) p s:=by unfold InD;rw[hn];rfl
 have a1:=zl2 h.nrise (h.ar hp).1 (zlj _ R p r i1).2 (h.inside p r i1)
 have a2:=zl2 h.nrise (h.ar hp).1 (zlj _ R p s i2).2 (h.inside p s i2)
 have e:(t.map (·.arity)).getD p 0=zbn t p:=rfl
 rw[e2,a2] at a1
 obtain rfl:=Option.some.inj a1
 rw[hm] at hn
 obtain rfl:=Option.some.inj hn
 rfl
end Go.Proofs.YteampbddflhngabGreat
