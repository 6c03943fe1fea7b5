import Derived.Test.YteampbddflhngabGreatB45
import Derived.Test.YteampbddflhngabGreatB35
import Derived.Test.YteampbddflhngabGreatB44
import Derived.Test.YteampbddflhngabGreatB05

namespace Go.Proofs.YteampbddflhngabGreat
open Classical
theorem z0r{S:zsz}(P:DB->Prop)(h0:P (zis S.facts))(hs:∀ s k D,P D->P (zfu (S.rules.filter fun r=>decide (r.stratum=s)) k D)){mr mx:Nat}{D:DB}{k:Nat}(h:zgg S mr mx=some (D,k)):P D:=by
 have hr:∀ s (left k:Nat) (D D':DB) (k':Nat),P D->zdd (S.rules.filter fun r=>decide (r.stratum=s)) mr left k D=some (D',k')->P D':=by
  intro s left
  induction left with
  |zero=>intro k D D' k' _ h;cases h
  |succ left ih =>
   intro k D D' k' hD h
   unfold zdd at h
   split at h
   ·split at h
    ·simp only[Option.some.injEq,Prod.mk.injEq] at h
     rw[← h.1];exact hs s _ D hD
    ·exact ih (k+1) _ D' k' (hs s _ D hD) h
   ·cases h
 have ht:∀(n s k:Nat) (D D':DB) (k':Nat),P D->zcv S.rules mr mx n s k D=some (D',k')->P D':=by
  intro n
  induction n with
  |zero =>
   intro s k D D' k' hD h
   unfold zcv at h
   simp only[Option.some.injEq,Prod.mk.injEq] at h
   rw[← h.1];exact hD
  |succ n ih =>
   intro s k D D' k' hD h
   unfold zcv at h
   split at h
   ·exact ih (s+1) k D D' k' hD h
   ·split at h
    ·cases h
    ·rename_i D1 k1 hq
     exact ih (s+1) k1 D1 D' k' (hr s _ k D D1 k1 hD hq) h
 unfold zgg at h
 split at h
 ·exact ht _ 0 0 _ D k h0 h
 ·cases h
def zxd(ar:List Nat)(n:Nat)(D:DB):Prop:=∀ p x,InD D p x->∀ i,i < ar.getD p 0->x.getD i 0 < n
theorem zyu{cs:List zab}{c:zab}(hc:c∈cs){l:zb2}(hl:l∈za5 c)(t:List zao)(vs:List ByteArray)(pl:List Nat):∀ x∈(zdk t (zai cs) vs pl l).terms,x.var=false->x.num < (zai cs).length:=by
 intro x hx hv
 unfold zdk at hx
 simp only[List.mem_map] at hx
 obtain⟨z,hz,rfl⟩:=hx
 unfold za8 at hz
 obtain⟨y,hy,rfl⟩:=List.mem_map.1 hz
 obtain⟨e1,e2⟩:=zfe 0 (za8 (zai cs) vs pl l) (zfs (zai cs) vs pl y)
 rw[e1] at hv
 rw[e2]
 obtain⟨r1,r2⟩:=zk4 cs
 unfold zfs at hv ⊢
 by_cases hq:zbb y=true
 ·rw[if_pos hq] at hv;cases hv
 ·rw[if_neg hq]
  obtain⟨v,v1,v2⟩:=z00 r1 ((r2 y).2 ⟨c,hc,l,hl,hy,by simpa using hq⟩)
  rw[v1];exact v2
theorem zrq{l:zal}{a W n:Nat}(h:zhw l a W)(hcon:∀ x∈l.terms,x.var=false->x.num < n){y:List Nat}(hy:∀ p,zdj l p=true->y.getD p 0 < n):∀ i,i < a->(zcu l y).getD i 0 < n:=by
 intro i hi
 have hil:i < l.terms.length:=by rw[h.len];exact hi
 rw[zk5 l y (by have:=h.le3;omega)]
 unfold rowCell
 rw[if_pos hil,show l.terms.getD i ⟨false,0,0⟩=l.terms[i] by simp[List.getD,hil]]
 have hm:=List.getElem_mem hil
 unfold atT
 cases hq:l.terms[i].var with
 |true =>
  rw[if_pos (by simp[(h.lev _ hm hq).1])]
  exact hy _ ((zfn l _).2 ⟨_,hm,hq,rfl⟩)
 |false =>
  rw[if_neg (by simp)]
  exact hcon _ hm hq
theorem zw1{cs:List zab}{t0 t:List zao}(h:Parts cs t0 t)(os:Option (List (Option (List Int))))(hp:∀ i (hi:i < cs.length),zf7 (zaz ((zc6 os i).getD [])) (zaf cs[i]).length){mr mx:Nat}{D:DB}{k:Nat}(hr:zgg (zgv t (zai cs) os cs) mr mx=some (D,k)):zxd (t.map (·.arity)) (zai cs).length D:=by
 have hset:=zy0 h (zai cs) os hp
 refine z0r (S:=zgv t (zai cs) os cs) (fun D=>zxd (t.map (·.arity)) (zai cs).length D) ?_ ?_ hr
 ·intro p x hx i hi
  unfold InD zis at hx
  split at hx
  ·rename_i hf
   obtain⟨f,f1,rfl,rfl⟩:=hf
   have f1':f∈zea t (zai cs) cs:=f1
   unfold zea at f1'
   obtain⟨c,hc,rfl⟩:=List.mem_map.1 f1'
   have hcm:=(List.mem_filter.1 hc).1
   have hb:c.body=[]:=by
    have:=(List.mem_filter.1 hc).2
    simp at this
    exact this
   obtain⟨e,_,_,q3,q4,_⟩:=h.lit hcm (l:=c.head) (by simp[za5])
   have hi':i < c.head.args.length:=by
    have hi2:i < (t.map (·.arity)).getD (zbh t c.head.pred) 0:=hi
    rw[q4] at hi2
    exact hi2
   have hwf:zhw (zdk t (zai cs) [] [0,0,0,0,0] c.head) c.head.args.length (za3 (zai cs).length):=zsp t _ [] _ c.head (fun k=>by
    by_cases hk:k < 5
    ·have:k=0∨k=1∨k=2∨k=3∨k=4:=by omega
     rcases this with rfl|rfl|rfl|rfl|rfl <;> decide
    ·simp[List.getD,List.getElem?_eq_none (show([0,0,0,0,0]:List Nat).length<=k by simp;omega)]) (zfx (h.many c hcm)).1
   refine zrq hwf (zyu hcm (by simp[za5]) t [] _) (fun p hpp=>?_) i hi'
   obtain⟨y,y1,y2,_⟩:=zps.1 hpp
   have hs:=h.safe c hcm
   simp only[ze7,Bool.and_eq_true] at hs
   have:=zjc.1 hs.1 y y1 y2
   have hnil:zaf c=[]:=by unfold zaf;rw[hb];rfl
   rw[hnil] at this
   cases this
  ·cases hx
 ·intro s k D hD p x hx i hi
  unfold InD zfu at hx
  cases hq:D p x with
  |some m=>exact hD p x (by unfold InD;rw[hq];rfl) i hi
  |none =>
   rw[hq] at hx
   simp only at hx
   split at hx
   ·rename_i hst
    obtain⟨r,hr1,rfl,y,y1,y2,rfl⟩:=hst
    have hrm:r∈zd6 t (zai cs) os cs:=(List.mem_filter.1 hr1).1
    have hwf:=hset.rules.rules r hrm
    unfold zd6 at hrm
    obtain⟨⟨c,j⟩,h1,h2⟩:=List.mem_filterMap.1 hrm
    have h3:=List.mem_zipIdx_iff_getElem?.1 h1
    simp only at h2 h3
    have hcm:=List.mem_of_getElem? h3
    split at h2
    ·simp only[Option.some.injEq] at h2
     subst h2
     refine zrq hwf.head (zyu hcm (by simp[za5]) t _ _) (fun p hpp=>?_) i hi
     obtain⟨l,l1,l2⟩:=hwf.fine.safe p (hwf.fine.head p hpp)
     obtain⟨tm,t1,t2,t3⟩:=(zfn l p).1 l2
     obtain⟨i2,hi2,rfl⟩:=List.getElem_of_mem t1
     obtain⟨w1,w2⟩:=hwf.plain l l1
     have:=hD l.pred (zcu l y) (y1 l l1) i2 (by have:=w2.len;have hq:i2 < l.terms.length:=hi2;rw[this] at hq;exact hq)
     rw[zk5 l y (by have:=w2.len;have:=w2.le3;omega)] at this
     unfold rowCell at this
     rw[if_pos hi2,show l.terms.getD i2 ⟨false,0,0⟩=l.terms[i2] by simp[List.getD,hi2]] at this
     unfold atT at this
     rw[if_pos (by simp[t2,(w2.lev _ t1 t2).1]),t3] at this
     exact this
    ·cases h2
   ·cases hx
theorem zme{ns:List ByteArray}(hr:zcj ns){ar:Nat}(h3:ar<=3){r:zar}(hc:Canon ar r)(hi:∀ i,i < ar->r.getD i 0 < ns.length):zr9 ns (za2 ns r ar 3) 0 [0,0,0]=some r:=by
 obtain⟨x,y,z,rfl⟩:∃ x y z,r=[x,y,z]:=by
  match r,hc.1 with
  |[x,y,z],_=>exact⟨x,y,z,rfl⟩
 have e0:∀ i,ar<=i->([x,y,z]:zar).getD i 0=0:=hc.2
 have hv:∀ i,i < ar->zcz ns (ns.getD (([x,y,z]:zar).getD i 0) ByteArray.empty)=some (([x,y,z]:zar).getD i 0):=fun i q=>ztw hr (hi i q)
 have h4:ar=0∨ar=1∨ar=2∨ar=3:=by omega
 rcases h4 with rfl|rfl|rfl|rfl
 ·have a:=e0 0 (by omega);have b:=e0 1 (by omega);have c:=e0 2 (by omega)
  simp at a b c
  subst a;subst b;subst c
  rfl
 ·have b:=e0 1 (by omega);have c:=e0 2 (by omega)
  simp at b c
  subst b;subst c
  have v0:zcz ns (ns[x]?.getD ByteArray.empty)=some x:=by have:=hv 0 (by omega);simpa using this
  simp[za2,zr9,v0]
 ·have c:=e0 2 (by omega)
  simp at c
  subst c
  have v0:zcz ns (ns[x]?.getD ByteArray.empty)=some x:=by have:=hv 0 (by omega);simpa using this
  have v1:zcz ns (ns[y]?.getD ByteArray.empty)=some y:=by have:=hv 1 (by omega);simpa using this
  simp[za2,zr9,v0,v1,List.range_succ]
 ·have v0:zcz ns (ns[x]?.getD ByteArray.empty)=some x:=by have:=hv 0 (by omega);simpa using this
  have v1:zcz ns (ns[y]?.getD ByteArray.empty)=some y:=by have:=hv 1 (by omega);simpa using this
  have v2:zcz ns (ns[z]?.getD ByteArray.empty)=some z:=by have:=hv 2 (by omega);simpa using this
  simp[za2,zr9,v0,v1,v2,List.range_succ]
end Go.Proofs.YteampbddflhngabGreat

namespace Go.Proofs.YteampbddflhngabGreat
set_option maxRecDepth 100000
set_option maxHeartbeats 4000000
open Go.RowKit
theorem z7x{s:ByteArray}{n:Int}(h:znj s=.error n):n≠0:=by
 unfold znj at h
 repeat'(split at h)
 all_goals (simp only[Except.error.injEq,reduceCtorEq] at h)
 all_goals (subst h;decide)
def bPa:ByteArray:=⟨#[112,40,97,41,46]⟩
theorem z9r:∃ x,znj bPa=.ok x:=by
 have h:(match znj bPa with|.ok _=>true|.error _=>false)=true:=by decide +kernel
 cases hq:znj bPa with
 |ok x=>exact⟨x,rfl⟩
 |error n=>rw[hq] at h;cases h
def znw(s:ByteArray)(w:World)(e:Ending)(w':World):Prop:=match znj s with
 |.error _=>e=.returned (.tuple #[.pointer none,.bool true])/\Below w.heap.size w w'
 |.ok (cs,t)=>∃ db pb,w.heap.size<=db/\e=.returned (.tuple #[.pointer (some ⟨db,0,none⟩),.bool true])/\Box w' db #[.pointer (some ⟨pb,0,none⟩),.string s] 37/\zhq w.heap.size w' pb cs t/\Below w.heap.size w w'
theorem z2d(w:World)(s:ByteArray)(hs:s.size<=9223372036854775807) :
  Calls Tryz.prog 10 #[.string s] w fun e w'=>znw s w e w':=by
 unfold znw
 cases hc:znj s with
 |error n =>
  have hn:=z7x hc
  have HCO:Hid (Calls Tryz.prog 19 #[.string s] w fun e w'=>e=.returned (.tuple #[.pointer none,.int .i64 n])/\Below w.heap.size w w'):=by
   refine(zks s w hs).mono ?_
   rintro e w' ⟨hb,h2⟩
   rw[hc] at h2
   exact⟨h2,hb⟩
  have HPA:Hid (∀ W,Calls Tryz.prog 19 #[.string ⟨#[112,40,97,41,46]⟩] W fun e w'=>∃ pb,e=.returned (.tuple #[.pointer (some ⟨pb,0,none⟩),.int .i64 0])/\Below W.heap.size W w'):=fun W=>by
   obtain⟨⟨cs,t⟩,hx⟩:=z9r
   refine(zks bPa W (by decide)).mono ?_
   rintro e w' ⟨hb,h2⟩
   rw[hx] at h2
   obtain⟨pb,v,pv,h3,_⟩:=h2
   exact⟨pb,h3,hb⟩
  have hnb:(n == 0)=false:=by simp[hn]
  clear hc
  go_enter Tryz.func10,Tryz.ntmps10
  go_upto_region 2 with (first|(go_at_call 19;refine HCO.out.mono ?_;rintro e w1 ⟨rfl,hb1⟩))
  go_wp2_with (first|(go_at_call 19;refine(HPA.out _).mono ?_;rintro e w2 ⟨pb,rfl,hb2⟩))
  go_ret2
  exact⟨by simp[hn],zad hb1 hb2 (Nat.le_refl _)⟩
 |ok x =>
  obtain⟨cs,t⟩:=x
  have HCO:Hid (Calls Tryz.prog 19 #[.string s] w fun e w'=>∃ pb,e=.returned (.tuple #[.pointer (some ⟨pb,0,none⟩),.int .i64 0])/\Hid (zhq w.heap.size w' pb cs t)/\Below w.heap.size w w'):=by
   refine(zks s w hs).mono ?_
   rintro e w' ⟨hb,h2⟩
   rw[hc] at h2
   obtain⟨pb,v,pv,h3,h4,h5,h6,h7⟩:=h2
   exact⟨pb,h3,⟨h7,v,pv,h4,h5,h6⟩,hb⟩
  clear hc
  go_enter Tryz.func10,Tryz.ntmps10
  go_wp2_with (first|(go_at_call 19;refine HCO.out.mono ?_;rintro e w1 ⟨pb,rfl,HP1,hb1⟩))
  have hg:Below w1.heap.size w1 (w1.alloc (.cells #[.pointer (some ⟨pb,0,none⟩),.string s] 37)):=(by repeat'(first|with_reducible(first|exact zR _ _|assumption|refine zN ?_ _|refine zA ?_ ?_ _|refine zD ?_|refine zS ?_ ?_ _)|go_size))
  go_ret2
  exact⟨w1.heap.size,pb,hb1.size,rfl,Box.new _ _ _,HP1.out.below hg,zad hb1 hg (Nat.le_refl _)⟩
end Go.Proofs.YteampbddflhngabGreat

namespace Go.Proofs.YteampbddflhngabGreat
set_option maxRecDepth 100000
set_option maxHeartbeats 4000000
open Go.RowKit
theorem zv7(w:World)(m:Nat):Below w.heap.size w (w.drewN m):=zau (Below.refl _ _) m
theorem z3f{lo lo2:Nat}(w:World)(va vb:Value)(a b:List ByteArray)(ha:SIn lo w va a)(hb:SIn lo2 w vb b)(hl:a.length<=1000000)(hl2:b.length<=1000000) :
  Calls Tryz.prog 30 #[va,vb] w fun e w'=>e=.returned (.bool (decide (a=b)))/\Below w.heap.size w w':=by
 obtain⟨ao,cap,rfl⟩:=ha.shape
 obtain⟨ao2,cap2,rfl⟩:=hb.shape
 by_cases hne:a.length=b.length
 ·have HLE:Hid (a.length=b.length):=hne
  rw[← hne]
  clear hne
  have HD:Hid (∀ k,k < a.length->a.getD k ByteArray.empty≠b.getD k ByteArray.empty->decide (a=b)=false):=fun k _ q=>by
   simp only[decide_eq_false_iff_not]
   rintro rfl
   exact q rfl
  have HT:Hid ((∀ k,k < a.length->a.getD k ByteArray.empty=b.getD k ByteArray.empty)->decide (a=b)=true):=fun q=>by
   simp only[decide_eq_true_eq]
   refine List.ext_getElem HLE.out fun i h1 h2=>?_
   have:=q i h1
   rwa [getD_lt _ h1,getD_lt _ h2] at this
  generalize decide (a=b)=r at *
  have HA:Hid (SIn lo w (.slice ao a.length cap) a):=ha
  have HB:Hid (SIn lo2 w (.slice ao2 b.length cap2) b):=hb
  clear ha hb
  go_enter Tryz.func30,Tryz.ntmps30
  go_wp2
  go_loopw [5] (fun i wr=>∃ k:Nat,k<=a.length/\i=.int .i64 k/\Hid (∀ j,j < k->a.getD j ByteArray.empty=b.getD j ByteArray.empty)/\Below w.heap.size w wr) (fun i _=>a.length - (intOf i).toNat)
  case atStart=>exact⟨0,Nat.zero_le _,rfl,fun j hj=>by omega,Below.refl _ _⟩
  case round =>
   obtain⟨k,hk,rfl,HK,hbk⟩:=hrel
   have hszk:=hbk.size
   by_cases hlt:k < a.length
   ·have hlt2:k < b.length:=by rw[← HLE.out];exact hlt
    obtain⟨g,rfl,hg,hck⟩:=HA.out.cell k hlt
    obtain⟨g2,e2,hg2,hck2⟩:=HB.out.cell k hlt2
    subst e2
    have hxk:=(hbk.cell (p:=⟨g,k,none⟩) hg).trans hck
    have hxk2:=(hbk.cell (p:=⟨g2,k,none⟩) hg2).trans hck2
    have hgr:g < wr.heap.size:=by omega
    have hgr2:g2 < wr.heap.size:=by omega
    clear hck hck2
    have HGA:Hid (a.getD k ByteArray.empty=a[k]):=getD_lt _ hlt
    have HGB:Hid (b.getD k ByteArray.empty=b[k]):=getD_lt _ hlt2
    by_cases he:a[k]=b[k]
    ·have heq:=zfh he
     have HEQ:Hid (a[k]=b[k]):=he
     clear he
     generalize a[k]=x at *
     generalize b[k]=y at *
     go_wp2
     go_quiet (fail)
     go_wp2
     go_roundw
     case rel=>exact⟨k+1,by omega,by go_num,fun j hj=>(by
      by_cases hjk:j=k
      ·rw[hjk,HGA.out,HGB.out,HEQ.out]
      ·exact HK.out j (by omega)),zau hbk _⟩
     case measure=>simp[intOf];omega
    ·have heq:=zem he
     have HF:Hid (r=false):=HD.out k hlt (by rw[HGA.out,HGB.out];exact he)
     clear he
     generalize a[k]=x at *
     generalize b[k]=y at *
     go_wp2
     go_quiet (fail)
     go_wp2
     go_ret
     exact⟨by rw[HF.out];rfl,zau hbk _⟩
   ·have HF:Hid (r=true):=HT.out fun j hj=>HK.out j (by omega)
    go_wp2
    go_ret
    exact⟨by rw[HF.out];rfl,hbk⟩
 ·have hnei:¬ (a.length:Int)=(b.length:Int):=by omega
  have HF:Hid (decide (a=b)=false):=show decide (a=b)=false by
   simp only[decide_eq_false_iff_not]
   rintro rfl
   exact hne rfl
  generalize decide (a=b)=r at *
  clear ha hb hne
  go_enter Tryz.func30,Tryz.ntmps30
  go_wp2
  go_ret
  exact⟨by rw[HF.out];rfl,Below.refl _ _⟩
def zfk:List ByteArray->List ByteArray->Bool
 |a::x,b::y=>if a=b then zfk x y else ltB a b
 |_,_=>false
theorem z0c{a b:List ByteArray}{k:Nat}(h1:k < a.length)(h2:k < b.length):zfk (a.drop k) (b.drop k)=if a[k]=b[k] then zfk (a.drop (k+1)) (b.drop (k+1)) else ltB a[k] b[k]:=by
 rw[List.drop_eq_getElem_cons h1,List.drop_eq_getElem_cons h2]
 rfl
theorem zu1{a b:List ByteArray}{k:Nat}(h:¬ (k < a.length/\k < b.length)):zfk (a.drop k) (b.drop k)=false:=by
 by_cases h1:k < a.length
 ·rw[List.drop_eq_nil_of_le (show b.length<=k by omega)]
  cases a.drop k <;> rfl
 ·rw[List.drop_eq_nil_of_le (show a.length<=k by omega)]
  rfl
theorem z1z{lo lo2:Nat}(w:World)(va vb:Value)(a b:List ByteArray)(ha:SIn lo w va a)(hb:SIn lo2 w vb b)(hl:a.length<=1000000) :
  Calls Tryz.prog 49 #[va,vb] w fun e w'=>e=.returned (.bool (zfk a b))/\Below w.heap.size w w':=by
 obtain⟨ao,cap,rfl⟩:=ha.shape
 obtain⟨ao2,cap2,rfl⟩:=hb.shape
 have HA:Hid (SIn lo w (.slice ao a.length cap) a):=ha
 have HB:Hid (SIn lo2 w (.slice ao2 b.length cap2) b):=hb
 have H0:Hid (zfk a b=zfk (a.drop 0) (b.drop 0)):=show zfk a b=_ from rfl
 clear ha hb
 generalize zfk a b=r at *
 go_enter Tryz.func49,Tryz.ntmps49
 go_wp2
 go_loopw [5] (fun i wr=>∃ k:Nat,k<=a.length/\k<=b.length/\i=.int .i64 k/\Hid (r=zfk (a.drop k) (b.drop k))/\Below w.heap.size w wr) (fun i _=>a.length - (intOf i).toNat)
 case atStart=>exact⟨0,Nat.zero_le _,Nat.zero_le _,rfl,H0,Below.refl _ _⟩
 case round =>
  obtain⟨k,hk,hk2,rfl,HK,hbk⟩:=hrel
  have hszk:=hbk.size
  by_cases hlt:k < a.length
  ·have hlti:(k:Int) < (a.length:Int):=by omega
   by_cases hlt2:k < b.length
   ·have hlti2:(k:Int) < (b.length:Int):=by omega
    have q:=HK.out
    rw[z0c hlt hlt2] at q
    have HQ:Hid (r=if a[k]=b[k] then zfk (a.drop (k+1)) (b.drop (k+1)) else ltB a[k] b[k]):=q
    clear q HK
    obtain⟨g,rfl,hg,hck⟩:=HA.out.cell k hlt
    obtain⟨g2,rfl,hg2,hck2⟩:=HB.out.cell k hlt2
    have hxk:=(hbk.cell (p:=⟨g,k,none⟩) hg).trans hck
    have hxk2:=(hbk.cell (p:=⟨g2,k,none⟩) hg2).trans hck2
    have hgr:g < wr.heap.size:=by omega
    have hgr2:g2 < wr.heap.size:=by omega
    clear hck hck2
    by_cases he:a[k]=b[k]
    ·have heq:=zfh he
     have HF:Hid (r=zfk (a.drop (k+1)) (b.drop (k+1))):=show r=_ by rw[HQ.out,if_pos he]
     clear he HQ
     generalize a[k]=x at *
     generalize b[k]=y at *
     go_wp2
     go_quiet (fail)
     go_wp2
     go_roundw
     case rel=>exact⟨k+1,by omega,by omega,by go_num,HF,zau hbk _⟩
     case measure=>simp[intOf];omega
    ·have heq:=zem he
     have HF:Hid (r=ltB a[k] b[k]):=show r=_ by rw[HQ.out,if_neg he]
     clear he HQ
     unfold ltB at HF
     generalize a[k]=x at *
     generalize b[k]=y at *
     go_wp2
     go_quiet (fail)
     have hBq:=zv7 wr nq
     have hyk:=(hBq.cell (p:=⟨g,k,none⟩) hgr).trans hxk
     have hyk2:=(hBq.cell (p:=⟨g2,k,none⟩) hgr2).trans hxk2
     have hgq:g < (wr.drewN nq).heap.size:=Nat.lt_of_lt_of_le hgr hBq.size
     have hgq2:g2 < (wr.drewN nq).heap.size:=Nat.lt_of_lt_of_le hgr2 hBq.size
     have hBw:Below w.heap.size w (wr.drewN nq):=zau hbk _
     clear hxk hxk2
     generalize wr.drewN nq=wq at *
     go_wp2
     go_quiet (fail)
     go_wp2
     go_ret
     exact⟨by rw[HF.out];rfl,zau hBw _⟩
   ·have hlti2:¬ (k:Int) < (b.length:Int):=by omega
    have HF:Hid (r=false):=show r=false by rw[HK.out];exact zu1 (fun q=>hlt2 q.2)
    go_wp2
    go_ret
    exact⟨by rw[HF.out];rfl,hbk⟩
  ·have hlti:¬ (k:Int) < (a.length:Int):=by omega
   have HF:Hid (r=false):=show r=false by rw[HK.out];exact zu1 (fun q=>hlt q.1)
   go_wp2
   go_ret
   exact⟨by rw[HF.out];rfl,hbk⟩
abbrev zgi:=ByteArray × List ByteArray × Nat
def zg1(w:World)(v:Value)(fs:List zgi):Prop:=∃ ao cap,v=.slice ao fs.length cap/\∀ i (h:i < fs.length),∃ g gi lo,ao=some ⟨g,0,none⟩/\g < w.heap.size/\w.cell? ⟨g,i * 3,none⟩=some (.string fs[i].1)/\w.cell? ⟨g,i * 3+1,none⟩=some (.slice (some ⟨gi,0,none⟩) fs[i].2.1.length fs[i].2.1.length)/\w.cell? ⟨g,i * 3+2,none⟩=some (.int .i64 (fs[i].2.2:Nat))/\SIn lo w (.slice (some ⟨gi,0,none⟩) fs[i].2.1.length fs[i].2.1.length) fs[i].2.1
theorem zg1.below{w w':World}{v:Value}{fs:List zgi}(h:zg1 w v fs)(hb:Below w.heap.size w w'):zg1 w' v fs:=by
 obtain⟨ao,cap,h1,h2⟩:=h
 refine⟨ao,cap,h1,fun i hi=>?_⟩
 obtain⟨g,gi,lo,q1,q2,q3,q4,q5,q6⟩:=h2 i hi
 exact⟨g,gi,lo,q1,Nat.lt_of_lt_of_le q2 hb.size,(hb.cell (p:=⟨g,i * 3,none⟩) q2).trans q3,(hb.cell (p:=⟨g,i * 3+1,none⟩) q2).trans q4,(hb.cell (p:=⟨g,i * 3+2,none⟩) q2).trans q5,q6.below hb⟩
def zkc(pred:ByteArray)(row:List ByteArray):List zgi->Option Nat
 |[]=>none
 |f::fs=>if f.1=pred/\f.2.1=row then some 0 else(zkc pred row fs).map (·+1)
def z4c(pred:ByteArray)(row:List ByteArray)(fs:List zgi):Int:=match zkc pred row fs with
 |none=>-1
 |some k=>k
theorem zz8{pred:ByteArray}{row:List ByteArray}{fs:List zgi}{k:Nat}(hk:k < fs.length):zkc pred row (fs.drop k)=if fs[k].1=pred/\fs[k].2.1=row then some 0 else(zkc pred row (fs.drop (k+1))).map (·+1):=by
 rw[List.drop_eq_getElem_cons hk]
 rfl
theorem z5m{lo2:Nat}(w:World)(v:Value)(fs:List zgi)(pred:ByteArray)(vr:Value)(row:List ByteArray)(h:zg1 w v fs)(hr:SIn lo2 w vr row)(hl:fs.length<=10000000)(hl2:row.length<=1000000)(hl3:∀ f∈fs,f.2.1.length<=1000000) :
  Calls Tryz.prog 26 #[v,.string pred,vr] w fun e w'=>e=.returned (.int .i64 (z4c pred row fs))/\Below w.heap.size w w':=by
 have HSA:Hid (∀ W lo va (a:List ByteArray),Below w.heap.size w W->SIn lo W va a->a.length<=1000000->Calls Tryz.prog 30 #[va,vr] W fun e w'=>e=.returned (.bool (decide (a=row)))/\Below W.heap.size W w'):=fun W lo va a hb ha hq=>z3f W va vr a row ha (hr.below hb) hq hl2
 obtain⟨aor,capr,rfl⟩:=hr.shape
 obtain⟨ao,cap,rfl,hcells⟩:=h
 have HC:Hid (∀ i (h:i < fs.length),∃ g gi lo,ao=some ⟨g,0,none⟩/\g < w.heap.size/\w.cell? ⟨g,i * 3,none⟩=some (.string fs[i].1)/\w.cell? ⟨g,i * 3+1,none⟩=some (.slice (some ⟨gi,0,none⟩) fs[i].2.1.length fs[i].2.1.length)/\w.cell? ⟨g,i * 3+2,none⟩=some (.int .i64 (fs[i].2.2:Nat))/\SIn lo w (.slice (some ⟨gi,0,none⟩) fs[i].2.1.length fs[i].2.1.length) fs[i].2.1):=hcells
 have HL3:Hid (∀ f∈fs,f.2.1.length<=1000000):=hl3
 have H0:Hid (zkc pred row fs=(zkc pred row (fs.drop 0)).map (·+0)):=show zkc pred row fs=_ by simp
 have HI:Hid (z4c pred row fs=match zkc pred row fs with|none=>-1|some k=>(k:Int)):=show z4c pred row fs=_ from rfl
 clear hcells hr hl3
 generalize z4c pred row fs=ri at *
 generalize zkc pred row fs=rf at *
 go_enter Tryz.func26,Tryz.ntmps26
 go_wp2
 go_loopw [7,8] (fun i _ wr=>∃ k:Nat,k<=fs.length/\i=.int .i64 k/\Hid (rf=(zkc pred row (fs.drop k)).map (·+k))/\Below w.heap.size w wr) (fun i _ _=>fs.length - (intOf i).toNat)
 case atStart=>exact⟨0,Nat.zero_le _,rfl,H0,Below.refl _ _⟩
 case round =>
  obtain⟨k,hk,rfl,HK,hbk⟩:=hrel
  have hszk:=hbk.size
  by_cases hlt:k < fs.length
  ·have hlti:(k:Int) < (fs.length:Int):=by omega
   obtain⟨g,gi,lo3,rfl,hg,c0,c1,_,hS⟩:=HC.out k hlt
   have q:=HK.out
   rw[zz8 hlt] at q
   have HQ:Hid (rf=(if fs[k].1=pred/\fs[k].2.1=row then some 0 else(zkc pred row (fs.drop (k+1))).map (·+1)).map (·+k)):=q
   clear q HK
   have x0:=(hbk.cell (p:=⟨g,k * 3,none⟩) hg).trans c0
   have x1:=(hbk.cell (p:=⟨g,k * 3+1,none⟩) hg).trans c1
   have hgr:g < wr.heap.size:=by omega
   have HS:Hid (Calls Tryz.prog 30 #[.slice (some ⟨gi,0,none⟩) fs[k].2.1.length fs[k].2.1.length,.slice aor row.length capr] wr fun e w'=>e=.returned (.bool (decide (fs[k].2.1=row)))/\Below wr.heap.size wr w'):=HSA.out wr lo3 _ _ hbk (hS.below hbk) (HL3.out _ (List.getElem_mem hlt))
   clear c0 c1 hS
   generalize fs[k].2.1.length=fl at *
   generalize fs[k].2.1=fr at *
   generalize fs[k].1=fp at *
   by_cases he:fp=pred
   ·have heq:=zfh he
    by_cases he2:fr=row
    ·have HF:Hid (rf=some k):=show rf=some k by rw[HQ.out,if_pos ⟨he,he2⟩];simp
     have HFI:Hid (ri=(k:Int)):=show ri=(k:Int) by rw[HI.out,HF.out]
     rw[show decide (fr=row)=true by simp[he2]] at HS
     clear HQ he he2
     go_wp2_with (first|(go_at_call 30;refine HS.out.mono ?_;rintro e w1 ⟨rfl,hb1⟩))
     go_ret
     exact⟨by rw[HFI.out];rfl,zad hbk hb1 (Nat.le_refl _)⟩
    ·have HF:Hid (rf=(zkc pred row (fs.drop (k+1))).map (·+(k+1))):=show rf=_ by
      rw[HQ.out,if_neg (fun z=>he2 z.2),Option.map_map]
      congr 1
      funext z
      simp only[Function.comp];omega
     rw[show decide (fr=row)=false by simp[he2]] at HS
     clear HQ he he2
     go_wp2_with (first|(go_at_call 30;refine HS.out.mono ?_;rintro e w1 ⟨rfl,hb1⟩))
     exact⟨⟨k+1,by omega,by go_num,HF,zad hbk hb1 (Nat.le_refl _)⟩,by simp[intOf];omega⟩
   ·have heq:=zem he
    have HF:Hid (rf=(zkc pred row (fs.drop (k+1))).map (·+(k+1))):=show rf=_ by
     rw[HQ.out,if_neg (fun z=>he z.1),Option.map_map]
     congr 1
     funext z
     simp only[Function.comp];omega
    clear HQ he
    go_wp2
    exact⟨⟨k+1,by omega,by go_num,HF,hbk⟩,by simp[intOf];omega⟩
  ·have hlti:¬ (k:Int) < (fs.length:Int):=by omega
   have HFI:Hid (ri=-1):=show ri=-1 by
    rw[HI.out,HK.out,List.drop_eq_nil_of_le (by omega)]
    rfl
   go_wp2
   go_ret
   exact⟨by rw[HFI.out];rfl,hbk⟩
end Go.Proofs.YteampbddflhngabGreat

namespace Go.Proofs.YteampbddflhngabGreat
structure Told (t:List zao) (ns:List ByteArray) (R:zbf):Prop where
 rise:zcj (namesT t)
 nrise:zcj ns
 inv:zew (t.map (·.arity)) (za3 ns.length) R
 small:∀ a∈t.map (·.arity),a<=3
 inside:zxd (t.map (·.arity)) ns.length (zcm (t.map (·.arity)) R)
 few:R.count<=1048576/\t.length<=1000/\ns.length<=1000
def zc5(R:zbf)(p:Nat):List zar:=(keysT (R.rows.getD p zae.zero)).map fun k=>pad k (R.rows.getD p zae.zero).depth
def ziy(t:List zao)(p:Nat):ByteArray:=(namesT t).getD p ByteArray.empty
def zlo(t:List zao)(ns:List ByteArray)(R:zbf)(p:Nat)(r:zar):zgi:=(ziy t p,za2 ns r (za1 t p) 3,(zdy (R.rows.getD p zae.zero) r).getD 0)
def za6(t:List zao)(ns:List ByteArray)(R:zbf)(n:Nat):List zgi:=(List.range n).flatMap fun p=>(zc5 R p).map (zlo t ns R p)
theorem Told.len{t:List zao}{ns:List ByteArray}{R:zbf}(h:Told t ns R):R.rows.length=t.length:=by have:=h.inv.len;simpa using this
theorem Told.name{t:List zao}{ns:List ByteArray}{R:zbf}(h:Told t ns R){p:Nat}(hp:p < t.length):(zbj t (ziy t p)).isSome=true/\zbh t (ziy t p)=p/\ziy t p=t[p].name:=by
 have hn:ziy t p=t[p].name:=by unfold ziy namesT;simp[List.getD,hp]
 have hpl:zaj t t[p].name=p:=by
  rcases Nat.lt_trichotomy (zaj t t[p].name) p with q|q|q
  ·have h1:=znp t t[p].name h.rise t[zaj t t[p].name] (by
    rw[List.mem_iff_getElem]
    exact⟨0,by simp;omega,by simp⟩)
   have hr:=List.pairwise_iff_getElem.1 h.rise (zaj t t[p].name) p (by simp[namesT];omega) (by simp[namesT];omega) q
   simp only[namesT,List.getElem_map] at hr
   rw[hr] at h1
   cases h1
  ·exact q
  ·have h1:=zno t t[p].name t[p] (by
    rw[List.mem_iff_getElem]
    exact⟨p,by simp;omega,by simp⟩)
   rw[lt_irrefl] at h1
   cases h1
 have he:zbj t t[p].name=some t[p]:=by
  unfold zbj
  rw[hpl,List.getElem?_eq_getElem hp]
  simp
 rw[hn]
 exact⟨by rw[he];rfl,by unfold zbh;rw[he,hpl];rfl,rfl⟩
theorem Told.ar{t:List zao}{ns:List ByteArray}{R:zbf}(h:Told t ns R){p:Nat}(hp:p < t.length):za1 t p<=3/\(t.map (·.arity)).getD p 0=za1 t p:=by
 refine⟨?_,rfl⟩
 unfold za1
 rw[getD_lt _ (by simpa using hp)]
 exact h.small _ (List.getElem_mem _)
theorem Told.row{t:List zao}{ns:List ByteArray}{R:zbf}(h:Told t ns R){p:Nat}(hp:p < t.length){r:zar}(hr:r∈zc5 R p):InD (zcm (t.map (·.arity)) R) p r/\Canon (za1 t p) r/\∀ i,i < za1 t p->r.getD i 0 < ns.length:=by
 have hpr:p < R.rows.length:=by rw[h.len];exact hp
 have hin:InD (zcm (t.map (·.arity)) R) p r:=by
  refine(zjv h.inv h.small hpr r).1 ?_
  unfold zc5 at hr
  rw[getD_lt _ hpr] at hr
  exact hr
 exact⟨hin,(zms _ R p r hin).2,h.inside p r hin⟩
theorem Told.rows{t:List zao}{ns:List ByteArray}{R:zbf}(h:Told t ns R){p:Nat}(hp:p < R.rows.length):∃ fuel,rowsG fuel R.rows[p]=some (zc5 R p)/\(zc5 R p).length<=1048576:=by
 obtain⟨t1,t2,t3,t4⟩:=h.inv.tries p hp
 have hge:=zx7 R.rows p hp
 rw[← h.inv.cnt] at hge
 have:=h.few.1
 refine⟨3 * (R.rows[p].width+1),?_,?_⟩
 ·rw[t1.rowsG _ (Nat.le_refl _) (by omega)]
  unfold zc5
  rw[getD_lt _ hp]
 ·unfold zc5
  rw[getD_lt _ hp,List.length_map,t1.cnt]
  omega
theorem Told.when{t:List zao}{ns:List ByteArray}{R:zbf}(h:Told t ns R){p:Nat}(hp:p < t.length){r:zar}(hr:r∈zc5 R p):zux t ns R (ziy t p) (za2 ns r (za1 t p) 3)=((zlo t ns R p r).2.2,0):=by
 obtain⟨n1,n2,_⟩:=h.name hp
 obtain⟨q1,q2,q3⟩:=h.row hp hr
 have hpr:p < R.rows.length:=by rw[h.len];exact hp
 unfold zux
 rw[n2,if_neg (by rintro(z|z);rw[n1] at z;cases z;omega),if_neg (by rw[zdu];simp),zme h.nrise (h.ar hp).1 q2 q3]
 simp only
 unfold InD zcm at q1
 rw[if_pos ⟨by simpa using hp,q2⟩] at q1
 cases hm:zdy (R.rows.getD p zae.zero) r with
 |none=>rw[hm] at q1;cases q1
 |some m=>simp only[zlo,hm,Option.getD_some]
theorem ztk{ns:List ByteArray}(hn:zcj ns):∀(a b:zar),(∀ v∈a,v < ns.length)->(∀ v∈b,v < ns.length)->ltR a b->zfk (a.map fun v=>ns.getD v ByteArray.empty) (b.map fun v=>ns.getD v ByteArray.empty)=true
 |x::a,y::b,ha,hb,h=>by
  simp only[List.map_cons,zfk]
  rcases h with h|⟨rfl,h⟩
  ·have hl:=zld hn h (hb y (by simp))
   rw[if_neg]
   ·exact hl
   ·intro e
    rw[e,lt_irrefl] at hl
    cases hl
  ·rw[if_pos rfl]
   exact ztk hn a b (fun v hv=>ha v (by simp[hv])) (fun v hv=>hb v (by simp[hv])) h
 |[],_,_,_,h=>h.elim
 |_::_,[],_,_,h=>h.elim
theorem zq5{ns:List ByteArray}{k:zar}{ar:Nat}(hk:k.length=ar)(h3:ar<=3):za2 ns (pad k ar) ar 3=k.map fun v=>ns.getD v ByteArray.empty:=by
 refine List.ext_getElem (by simp[za2,hk]) fun i h1 h2=>?_
 have hi:i < ar:=by rw[zdu] at h1;exact h1
 simp only[za2,List.getElem_map,List.getElem_range]
 rw[if_pos (by omega)]
 congr 1
 unfold pad
 rw[List.getD_eq_getElem?_getD,List.getElem?_append_left (by omega),List.getElem?_eq_getElem (by omega)]
 rfl
theorem Told.sorted{t:List zao}{ns:List ByteArray}{R:zbf}(h:Told t ns R){p:Nat}(hp:p < t.length){i j:Nat}(hij:i < j)(hj:j < (zc5 R p).length):zfk (za2 ns ((zc5 R p)[i]'(by omega)) (za1 t p) 3) (za2 ns (zc5 R p)[j] (za1 t p) 3)=true:=by
 have hpr:p < R.rows.length:=by rw[h.len];exact hp
 obtain⟨t1,t2,t3,t4⟩:=h.inv.tries p hpr
 obtain⟨ha3,haa⟩:=h.ar hp
 have hg:R.rows.getD p zae.zero=R.rows[p]:=getD_lt _ hpr
 have hri:=(h.row hp (List.getElem_mem (show i < (zc5 R p).length by omega))).2
 have hrj:=(h.row hp (List.getElem_mem hj)).2
 simp only[zc5,hg,List.length_map] at hj
 simp only[zc5,hg,List.getElem_map] at hri hrj ⊢
 have hs:=List.pairwise_iff_getElem.1 (zjh R.rows[p] R.rows[p].depth 0 0) i j (show i < (keysT R.rows[p]).length by omega) hj hij
 have li:=((zbs R.rows[p] _).1 (List.getElem_mem (show i < (keysT R.rows[p]).length by omega))).1
 have lj:=((zbs R.rows[p] _).1 (List.getElem_mem hj)).1
 change ltR (keysT R.rows[p])[i] (keysT R.rows[p])[j] at hs
 generalize (keysT R.rows[p])[i]=ki at *
 generalize (keysT R.rows[p])[j]=kj at *
 rw[haa] at t3
 by_cases h0:za1 t p=0
 ·have hd1:R.rows[p].depth=1:=by rw[t3,h0];rfl
  rw[hd1] at li lj hri hrj
  have hz:∀ k:zar,k.length=1->Canon 0 (pad k 1)->k=[0]:=by
   intro k hk hc
   match k,hk with
   |[v],_ =>
    have:=hc.2 0 (Nat.le_refl _)
    simp[pad] at this
    rw[this]
  rw[h0] at hri hrj
  rw[hz ki li hri.1,hz kj lj hrj.1] at hs
  exact absurd hs (zmh _)
 ·have hd:R.rows[p].depth=za1 t p:=by rw[t3,zg5 h0 ha3]
  rw[hd] at li lj hri hrj ⊢
  rw[zq5 li ha3,zq5 lj ha3]
  have hsm:∀ k:zar,k.length=za1 t p->(∀ i,i < za1 t p->(pad k (za1 t p)).getD i 0 < ns.length)->∀ v∈k,v < ns.length:=by
   intro k hk hq v hv
   obtain⟨i,hi,rfl⟩:=List.getElem_of_mem hv
   have:=hq i (by omega)
   unfold pad at this
   rw[List.getD_eq_getElem?_getD,List.getElem?_append_left (by omega),List.getElem?_eq_getElem hi] at this
   exact this
  exact ztk h.nrise ki kj (hsm ki li hri.2) (hsm kj lj hrj.2) hs
end Go.Proofs.YteampbddflhngabGreat
