import Derived.Test.YteampbddflhngabGreatO40
import Derived.Test.YteampbddflhngabGreatO31
import Derived.Test.YteampbddflhngabGreatO39
import Derived.Test.YteampbddflhngabGreatO04

namespace Go.Proofs.YteampbddflhngabGreat
open Classical
theorem zy9{S:zso}(P:DB->Prop)(h0:P (ziq S.facts))(hs:∀ s k D,P D->P (zfs (S.rules.filter fun r=>decide (r.stratum=s)) k D)){mr mx:Nat}{D:DB}{k:Nat}(h:zhc S mr mx=some (D,k)):P D:=by
 have hr:∀ s (left k:Nat) (D D':DB) (k':Nat),P D->zda (S.rules.filter fun r=>decide (r.stratum=s)) mr left k D=some (D',k')->P D':=by
  intro s left
  induction left with
  |zero=>intro k D D' k' _ h;cases h
  |succ left ih =>
   intro k D D' k' hD h
   unfold zda at h
   split at h
   ·split at h
    ·simp only[Option.some.injEq,Prod.mk.injEq] at h
     rw[← h.1];exact hs s _ D hD
    ·exact ih (k+1) _ D' k' (hs s _ D hD) h
   ·cases h
 have ht:∀(n s k:Nat) (D D':DB) (k':Nat),P D->zcx S.rules mr mx n s k D=some (D',k')->P D':=by
  intro n
  induction n with
  |zero =>
   intro s k D D' k' hD h
   unfold zcx at h
   simp only[Option.some.injEq,Prod.mk.injEq] at h
   rw[← h.1];exact hD
  |succ n ih =>
   intro s k D D' k' hD h
   unfold zcx at h
   split at h
   ·exact ih (s+1) k D D' k' hD h
   ·split at h
    ·cases h
    ·rename_i D1 k1 hq
     exact ih (s+1) k1 D1 D' k' (hr s _ k D D1 k1 hD hq) h
 unfold zhc at h
 split at h
 ·exact ht _ 0 0 _ D k h0 h
 ·cases h
def zvr(ar:List Nat)(n:Nat)(D:DB):Prop:=∀ p x,InD D p x->∀ i,i < ar.getD p 0->x.getD i 0 < n
theorem zye{cs:List zab}{c:zab}(hc:c∈cs){l:zb2}(hl:l∈za4 c)(t:List zan)(vs:List ByteArray)(pl:List Nat):∀ x∈(zdi t (zas cs) vs pl l).terms,x.var=false->x.num < (zas cs).length:=by
 intro x hx hv
 unfold zdi at hx
 simp only[List.mem_map] at hx
 obtain⟨z,hz,rfl⟩:=hx
 unfold za8 at hz
 obtain⟨y,hy,rfl⟩:=List.mem_map.1 hz
 obtain⟨e1,e2⟩:=zff 0 (za8 (zas cs) vs pl l) (zfr (zas cs) vs pl y)
 rw[e1] at hv
 rw[e2]
 obtain⟨r1,r2⟩:=zk9 cs
 unfold zfr at hv ⊢
 by_cases hq:zba y=true
 ·rw[if_pos hq] at hv;cases hv
 ·rw[if_neg hq]
  obtain⟨v,v1,v2⟩:=z1d r1 ((r2 y).2 ⟨c,hc,l,hl,hy,by simpa using hq⟩)
  rw[v1];exact v2
theorem zrf{l:zak}{a W n:Nat}(h:zhm l a W)(hcon:∀ x∈l.terms,x.var=false->x.num < n){y:List Nat}(hy:∀ p,zdh l p=true->y.getD p 0 < n):∀ i,i < a->(zcs l y).getD i 0 < n:=by
 intro i hi
 have hil:i < l.terms.length:=by rw[h.len];exact hi
 rw[zlz l y (by have:=h.le3;omega)]
 unfold rowCell
 rw[if_pos hil,show l.terms.getD i ⟨false,0,0⟩=l.terms[i] by simp[List.getD,hil]]
 have hm:=List.getElem_mem hil
 unfold atT
 cases hq:l.terms[i].var with
 |true =>
  rw[if_pos (by simp[(h.lev _ hm hq).1])]
  exact hy _ ((zfi l _).2 ⟨_,hm,hq,rfl⟩)
 |false =>
  rw[if_neg (by simp)]
  exact hcon _ hm hq
theorem zwj{cs:List zab}{t0 t:List zan}(h:Parts cs t0 t)(os:Option (List (Option (List Int))))(hp:∀ i (hi:i < cs.length),zfv (zaz ((zc5 os i).getD [])) (zaf cs[i]).length){mr mx:Nat}{D:DB}{k:Nat}(hr:zhc (zhp t (zas cs) os cs) mr mx=some (D,k)):zvr (t.map (·.arity)) (zas cs).length D:=by
 have hset:=zyx h (zas cs) os hp
 refine zy9 (S:=zhp t (zas cs) os cs) (fun D=>zvr (t.map (·.arity)) (zas cs).length D) ?_ ?_ hr
 ·intro p x hx i hi
  unfold InD ziq at hx
  split at hx
  ·rename_i hf
   obtain⟨f,f1,rfl,rfl⟩:=hf
   have f1':f∈zd9 t (zas cs) cs:=f1
   unfold zd9 at f1'
   obtain⟨c,hc,rfl⟩:=List.mem_map.1 f1'
   have hcm:=(List.mem_filter.1 hc).1
   have hb:c.body=[]:=by
    have:=(List.mem_filter.1 hc).2
    simp at this
    exact this
   obtain⟨e,_,_,q3,q4,_⟩:=h.lit hcm (l:=c.head) (by simp[za4])
   have hi':i < c.head.args.length:=by
    have hi2:i < (t.map (·.arity)).getD (zbf t c.head.pred) 0:=hi
    rw[q4] at hi2
    exact hi2
   have hwf:zhm (zdi t (zas cs) [] [0,0,0,0,0] c.head) c.head.args.length (za5 (zas cs).length):=zsa t _ [] _ c.head (fun k=>by
    by_cases hk:k < 5
    ·have:k=0∨k=1∨k=2∨k=3∨k=4:=by omega
     rcases this with rfl|rfl|rfl|rfl|rfl <;> decide
    ·simp[List.getD,List.getElem?_eq_none (show([0,0,0,0,0]:List Nat).length<=k by simp;omega)]) (zfy (h.many c hcm)).1
   refine zrf hwf (zye hcm (by simp[za4]) t [] _) (fun p hpp=>?_) i hi'
   obtain⟨y,y1,y2,_⟩:=zow.1 hpp
   have hs:=h.safe c hcm
   simp only[ze9,Bool.and_eq_true] at hs
   have:=zi6.1 hs.1 y y1 y2
   have hnil:zaf c=[]:=by unfold zaf;rw[hb];rfl
   rw[hnil] at this
   cases this
  ·cases hx
 ·intro s k D hD p x hx i hi
  unfold InD zfs at hx
  cases hq:D p x with
  |some m=>exact hD p x (by unfold InD;rw[hq];rfl) i hi
  |none =>
   rw[hq] at hx
   simp only at hx
   split at hx
   ·rename_i hst
    obtain⟨r,hr1,rfl,y,y1,y2,rfl⟩:=hst
    have hrm:r∈zd7 t (zas cs) os cs:=(List.mem_filter.1 hr1).1
    have hwf:=hset.rules.rules r hrm
    unfold zd7 at hrm
    obtain⟨⟨c,j⟩,h1,h2⟩:=List.mem_filterMap.1 hrm
    have h3:=List.mem_zipIdx_iff_getElem?.1 h1
    simp only at h2 h3
    have hcm:=List.mem_of_getElem? h3
    split at h2
    ·simp only[Option.some.injEq] at h2
     subst h2
     refine zrf hwf.head (zye hcm (by simp[za4]) t _ _) (fun p hpp=>?_) i hi
     obtain⟨l,l1,l2⟩:=hwf.fine.safe p (hwf.fine.head p hpp)
     obtain⟨tm,t1,t2,t3⟩:=(zfi l p).1 l2
     obtain⟨i2,hi2,rfl⟩:=List.getElem_of_mem t1
     obtain⟨w1,w2⟩:=hwf.plain l l1
     have:=hD l.pred (zcs l y) (y1 l l1) i2 (by have:=w2.len;have hq:i2 < l.terms.length:=hi2;rw[this] at hq;exact hq)
     rw[zlz l y (by have:=w2.len;have:=w2.le3;omega)] at this
     unfold rowCell at this
     rw[if_pos hi2,show l.terms.getD i2 ⟨false,0,0⟩=l.terms[i2] by simp[List.getD,hi2]] at this
     unfold atT at this
     rw[if_pos (by simp[t2,(w2.lev _ t1 t2).1]),t3] at this
     exact this
    ·cases h2
   ·cases hx
theorem zmu{ns:List ByteArray}(hr:zch ns){ar:Nat}(h3:ar<=3){r:zaq}(hc:Canon ar r)(hi:∀ i,i < ar->r.getD i 0 < ns.length):zsg ns (za2 ns r ar 3) 0 [0,0,0]=some r:=by
 obtain⟨x,y,z,rfl⟩:∃ x y z,r=[x,y,z]:=by
  match r,hc.1 with
  |[x,y,z],_=>exact⟨x,y,z,rfl⟩
 have e0:∀ i,ar<=i->([x,y,z]:zaq).getD i 0=0:=hc.2
 have hv:∀ i,i < ar->zc1 ns (ns.getD (([x,y,z]:zaq).getD i 0) ByteArray.empty)=some (([x,y,z]:zaq).getD i 0):=fun i q=>zvh hr (hi i q)
 have h4:ar=0∨ar=1∨ar=2∨ar=3:=by omega
 rcases h4 with rfl|rfl|rfl|rfl
 ·have a:=e0 0 (by omega);have b:=e0 1 (by omega);have c:=e0 2 (by omega)
  simp at a b c
  subst a;subst b;subst c
  rfl
 ·have b:=e0 1 (by omega);have c:=e0 2 (by omega)
  simp at b c
  subst b;subst c
  have v0:zc1 ns (ns[x]?.getD ByteArray.empty)=some x:=by have:=hv 0 (by omega);simpa using this
  simp[za2,zsg,v0]
 ·have c:=e0 2 (by omega)
  simp at c
  subst c
  have v0:zc1 ns (ns[x]?.getD ByteArray.empty)=some x:=by have:=hv 0 (by omega);simpa using this
  have v1:zc1 ns (ns[y]?.getD ByteArray.empty)=some y:=by have:=hv 1 (by omega);simpa using this
  simp[za2,zsg,v0,v1,List.range_succ]
 ·have v0:zc1 ns (ns[x]?.getD ByteArray.empty)=some x:=by have:=hv 0 (by omega);simpa using this
  have v1:zc1 ns (ns[y]?.getD ByteArray.empty)=some y:=by have:=hv 1 (by omega);simpa using this
  have v2:zc1 ns (ns[z]?.getD ByteArray.empty)=some z:=by have:=hv 2 (by omega);simpa using this
  simp[za2,zsg,v0,v1,v2,List.range_succ]
end Go.Proofs.YteampbddflhngabGreat
namespace Go.Proofs.YteampbddflhngabGreat
set_option maxRecDepth 100000
set_option maxHeartbeats 4000000
open Go.RowKit
theorem z6s{s:ByteArray}{n:Int}(h:zof s=.error n):n≠0:=by
 unfold zof at h
 repeat'(split at h)
 all_goals (simp only[Except.error.injEq,reduceCtorEq] at h)
 all_goals (subst h;decide)
def bPa:ByteArray:=⟨#[112,40,97,41,46]⟩
theorem z9i:∃ x,zof bPa=.ok x:=by
 have h:(match zof bPa with|.ok _=>true|.error _=>false)=true:=by decide +kernel
 cases hq:zof bPa with
 |ok x=>exact⟨x,rfl⟩
 |error n=>rw[hq] at h;cases h
def zxt(s:ByteArray)(w:World)(e:Ending)(w':World):Prop:=match zof s with
 |.error _=>e=.returned (.tuple #[.pointer none,.bool true])/\Below w.heap.size w w'
 |.ok (cs,t)=>∃ db pb,w.heap.size<=db/\e=.returned (.tuple #[.pointer (some ⟨db,0,none⟩),.bool true])/\Box w' db #[.pointer (some ⟨pb,0,none⟩),.string s] 37/\ziu w.heap.size w' pb cs t/\Below w.heap.size w w'
theorem yab(w:World)(s:ByteArray)(hs:s.size<=9223372036854775807) :
  Calls Tryz.prog 10 #[.string s] w fun e w'=>zxt s w e w':=by
 unfold zxt
 cases hc:zof s with
 |error n =>
  have hn:=z6s hc
  have HCO:Hid (Calls Tryz.prog 19 #[.string s] w fun e w'=>e=.returned (.tuple #[.pointer none,.int .i64 n])/\Below w.heap.size w w'):=by
   refine(zkr s w hs).mono ?_
   rintro e w' ⟨hb,h2⟩
   rw[hc] at h2
   exact⟨h2,hb⟩
  have HPA:Hid (∀ W,Calls Tryz.prog 19 #[.string ⟨#[112,40,97,41,46]⟩] W fun e w'=>∃ pb,e=.returned (.tuple #[.pointer (some ⟨pb,0,none⟩),.int .i64 0])/\Below W.heap.size W w'):=fun W=>by
   obtain⟨⟨cs,t⟩,hx⟩:=z9i
   refine(zkr bPa W (by decide)).mono ?_
   rintro e w' ⟨hb,h2⟩
   rw[hx] at h2
   obtain⟨pb,v,pv,h3,_⟩:=h2
   exact⟨pb,h3,hb⟩
  have hnb:(n == 0)=false:=by simp[hn]
  clear hc
  go_enter Tryz.func10,Tryz.ntmps10
  go_upto_region 2 with (first|(go_at_call 19;refine HCO.out.mono ?_;rintro e w1 ⟨rfl,hb1⟩))
  go_wp2_with (first|(go_at_call 19;refine(HPA.out _).mono ?_;rintro e w2 ⟨pb,rfl,hb2⟩))
  go_ret2
  exact⟨by simp[hn],zae hb1 hb2 (Nat.le_refl _)⟩
 |ok x =>
  obtain⟨cs,t⟩:=x
  have HCO:Hid (Calls Tryz.prog 19 #[.string s] w fun e w'=>∃ pb,e=.returned (.tuple #[.pointer (some ⟨pb,0,none⟩),.int .i64 0])/\Hid (ziu w.heap.size w' pb cs t)/\Below w.heap.size w w'):=by
   refine(zkr s w hs).mono ?_
   rintro e w' ⟨hb,h2⟩
   rw[hc] at h2
   obtain⟨pb,v,pv,h3,h4,h5,h6,h7⟩:=h2
   exact⟨pb,h3,⟨h7,v,pv,h4,h5,h6⟩,hb⟩
  clear hc
  go_enter Tryz.func10,Tryz.ntmps10
  go_wp2_with (first|(go_at_call 19;refine HCO.out.mono ?_;rintro e w1 ⟨pb,rfl,HP1,hb1⟩))
  have hg:Below w1.heap.size w1 (w1.alloc (.cells #[.pointer (some ⟨pb,0,none⟩),.string s] 37)):=(by go_grown)
  go_ret2
  exact⟨w1.heap.size,pb,hb1.size,rfl,Box.new _ _ _,HP1.out.below hg,zae hb1 hg (Nat.le_refl _)⟩
theorem zwa(w:World)(m:Nat):Below w.heap.size w (w.drewN m):=zav (Below.refl _ _) m
theorem z3r{lo lo2:Nat}(w:World)(va vb:Value)(a b:List ByteArray)(ha:SIn lo w va a)(hb:SIn lo2 w vb b)(hl:a.length<=1000000)(hl2:b.length<=1000000) :
  Calls Tryz.prog 30 #[va,vb] w fun e w'=>e=.returned (.bool (decide (a=b)))/\Below w.heap.size w w':=by
 obtain⟨ao,cap,rfl⟩:=ha.shape
 obtain⟨ao2,cap2,rfl⟩:=hb.shape
 by_cases hne:a.length=b.length
 ·have HLE:Hid (a.length=b.length):=hne
  rw[← hne]
  clear hne
  have HD:Hid (∀ k,k < a.length->a.getD k ByteArray.empty≠b.getD k ByteArray.empty->decide (a=b)=false):=fun k _ q=>by
   simp only[decide_eq_false_iff_not]
   rintro rfl
   exact q rfl
  have HT:Hid ((∀ k,k < a.length->a.getD k ByteArray.empty=b.getD k ByteArray.empty)->decide (a=b)=true):=fun q=>by
   simp only[decide_eq_true_eq]
   refine List.ext_getElem HLE.out fun i h1 h2=>?_
   have:=q i h1
   rwa [getD_lt _ h1,getD_lt _ h2] at this
  generalize decide (a=b)=r at *
  have HA:Hid (SIn lo w (.slice ao a.length cap) a):=ha
  have HB:Hid (SIn lo2 w (.slice ao2 b.length cap2) b):=hb
  clear ha hb
  go_enter Tryz.func30,Tryz.ntmps30
  go_wp2
  go_loopw [5] (fun i wr=>∃ k:Nat,k<=a.length/\i=.int .i64 k/\Hid (∀ j,j < k->a.getD j ByteArray.empty=b.getD j ByteArray.empty)/\Below w.heap.size w wr) (fun i _=>a.length - (intOf i).toNat)
  case atStart=>exact⟨0,Nat.zero_le _,rfl,fun j hj=>by omega,Below.refl _ _⟩
  case round =>
   obtain⟨k,hk,rfl,HK,hbk⟩:=hrel
   have hszk:=hbk.size
   by_cases hlt:k < a.length
   ·have hlt2:k < b.length:=by rw[← HLE.out];exact hlt
    obtain⟨g,rfl,hg,hck⟩:=HA.out.cell k hlt
    obtain⟨g2,e2,hg2,hck2⟩:=HB.out.cell k hlt2
    subst e2
    have hxk:=(hbk.cell (p:=⟨g,k,none⟩) hg).trans hck
    have hxk2:=(hbk.cell (p:=⟨g2,k,none⟩) hg2).trans hck2
    have hgr:g < wr.heap.size:=by omega
    have hgr2:g2 < wr.heap.size:=by omega
    clear hck hck2
    have HGA:Hid (a.getD k ByteArray.empty=a[k]):=getD_lt _ hlt
    have HGB:Hid (b.getD k ByteArray.empty=b[k]):=getD_lt _ hlt2
    by_cases he:a[k]=b[k]
    ·have heq:=zfo he
     have HEQ:Hid (a[k]=b[k]):=he
     clear he
     generalize a[k]=x at *
     generalize b[k]=y at *
     go_wp2
     go_quiet (fail)
     go_wp2
     go_roundw
     case rel=>exact⟨k+1,by omega,by go_num,fun j hj=>(by
      by_cases hjk:j=k
      ·rw[hjk,HGA.out,HGB.out,HEQ.out]
      ·exact HK.out j (by omega)),zav hbk _⟩
     case measure=>simp[intOf];omega
    ·have heq:=zen he
     have HF:Hid (r=false):=HD.out k hlt (by rw[HGA.out,HGB.out];exact he)
     clear he
     generalize a[k]=x at *
     generalize b[k]=y at *
     go_wp2
     go_quiet (fail)
     go_wp2
     go_ret
     exact⟨by rw[HF.out];rfl,zav hbk _⟩
   ·have HF:Hid (r=true):=HT.out fun j hj=>HK.out j (by omega)
    go_wp2
    go_ret
    exact⟨by rw[HF.out];rfl,hbk⟩
 ·have hnei:¬ (a.length:Int)=(b.length:Int):=by omega
  have HF:Hid (decide (a=b)=false):=show decide (a=b)=false by
   simp only[decide_eq_false_iff_not]
   rintro rfl
   exact hne rfl
  generalize decide (a=b)=r at *
  clear ha hb hne
  go_enter Tryz.func30,Tryz.ntmps30
  go_wp2
  go_ret
  exact⟨by rw[HF.out];rfl,Below.refl _ _⟩
def zfh:List ByteArray->List ByteArray->Bool
 |a::x,b::y=>if a=b then zfh x y else ltB a b
 |_,_=>false
theorem zzd{a b:List ByteArray}{k:Nat}(h1:k < a.length)(h2:k < b.length):zfh (a.drop k) (b.drop k)=if a[k]=b[k] then zfh (a.drop (k+1)) (b.drop (k+1)) else ltB a[k] b[k]:=by
 rw[List.drop_eq_getElem_cons h1,List.drop_eq_getElem_cons h2]
 rfl
theorem zs3{a b:List ByteArray}{k:Nat}(h:¬ (k < a.length/\k < b.length)):zfh (a.drop k) (b.drop k)=false:=by
 by_cases h1:k < a.length
 ·rw[List.drop_eq_nil_of_le (show b.length<=k by omega)]
  cases a.drop k <;> rfl
 ·rw[List.drop_eq_nil_of_le (show a.length<=k by omega)]
  rfl
theorem z0b{lo lo2:Nat}(w:World)(va vb:Value)(a b:List ByteArray)(ha:SIn lo w va a)(hb:SIn lo2 w vb b)(hl:a.length<=1000000) :
  Calls Tryz.prog 49 #[va,vb] w fun e w'=>e=.returned (.bool (zfh a b))/\Below w.heap.size w w':=by
 obtain⟨ao,cap,rfl⟩:=ha.shape
 obtain⟨ao2,cap2,rfl⟩:=hb.shape
 have HA:Hid (SIn lo w (.slice ao a.length cap) a):=ha
 have HB:Hid (SIn lo2 w (.slice ao2 b.length cap2) b):=hb
 have H0:Hid (zfh a b=zfh (a.drop 0) (b.drop 0)):=show zfh a b=_ from rfl
 clear ha hb
 generalize zfh a b=r at *
 go_enter Tryz.func49,Tryz.ntmps49
 go_wp2
 go_loopw [5] (fun i wr=>∃ k:Nat,k<=a.length/\k<=b.length/\i=.int .i64 k/\Hid (r=zfh (a.drop k) (b.drop k))/\Below w.heap.size w wr) (fun i _=>a.length - (intOf i).toNat)
 case atStart=>exact⟨0,Nat.zero_le _,Nat.zero_le _,rfl,H0,Below.refl _ _⟩
 case round =>
  obtain⟨k,hk,hk2,rfl,HK,hbk⟩:=hrel
  have hszk:=hbk.size
  by_cases hlt:k < a.length
  ·have hlti:(k:Int) < (a.length:Int):=by omega
   by_cases hlt2:k < b.length
   ·have hlti2:(k:Int) < (b.length:Int):=by omega
    have q:=HK.out
    rw[zzd hlt hlt2] at q
    have HQ:Hid (r=if a[k]=b[k] then zfh (a.drop (k+1)) (b.drop (k+1)) else ltB a[k] b[k]):=q
    clear q HK
    obtain⟨g,rfl,hg,hck⟩:=HA.out.cell k hlt
    obtain⟨g2,rfl,hg2,hck2⟩:=HB.out.cell k hlt2
    have hxk:=(hbk.cell (p:=⟨g,k,none⟩) hg).trans hck
    have hxk2:=(hbk.cell (p:=⟨g2,k,none⟩) hg2).trans hck2
    have hgr:g < wr.heap.size:=by omega
    have hgr2:g2 < wr.heap.size:=by omega
    clear hck hck2
    by_cases he:a[k]=b[k]
    ·have heq:=zfo he
     have HF:Hid (r=zfh (a.drop (k+1)) (b.drop (k+1))):=show r=_ by rw[HQ.out,if_pos he]
     clear he HQ
     generalize a[k]=x at *
     generalize b[k]=y at *
     go_wp2
     go_quiet (fail)
     go_wp2
     go_roundw
     case rel=>exact⟨k+1,by omega,by omega,by go_num,HF,zav hbk _⟩
     case measure=>simp[intOf];omega
    ·have heq:=zen he
     have HF:Hid (r=ltB a[k] b[k]):=show r=_ by rw[HQ.out,if_neg he]
     clear he HQ
     unfold ltB at HF
     generalize a[k]=x at *
     generalize b[k]=y at *
     go_wp2
     go_quiet (fail)
     have hBq:=zwa wr nq
     have hyk:=(hBq.cell (p:=⟨g,k,none⟩) hgr).trans hxk
     have hyk2:=(hBq.cell (p:=⟨g2,k,none⟩) hgr2).trans hxk2
     have hgq:g < (wr.drewN nq).heap.size:=Nat.lt_of_lt_of_le hgr hBq.size
     have hgq2:g2 < (wr.drewN nq).heap.size:=Nat.lt_of_lt_of_le hgr2 hBq.size
     have hBw:Below w.heap.size w (wr.drewN nq):=zav hbk _
     clear hxk hxk2
     generalize wr.drewN nq=wq at *
     go_wp2
     go_quiet (fail)
     go_wp2
     go_ret
     exact⟨by rw[HF.out];rfl,zav hBw _⟩
   ·have hlti2:¬ (k:Int) < (b.length:Int):=by omega
    have HF:Hid (r=false):=show r=false by rw[HK.out];exact zs3 (fun q=>hlt2 q.2)
    go_wp2
    go_ret
    exact⟨by rw[HF.out];rfl,hbk⟩
  ·have hlti:¬ (k:Int) < (a.length:Int):=by omega
   have HF:Hid (r=false):=show r=false by rw[HK.out];exact zs3 (fun q=>hlt q.1)
   go_wp2
   go_ret
   exact⟨by rw[HF.out];rfl,hbk⟩
abbrev zge:=ByteArray × List ByteArray × Nat
def zgv(w:World)(v:Value)(fs:List zge):Prop:=∃ ao cap,v=.slice ao fs.length cap/\∀ i (h:i < fs.length),∃ g gi lo,ao=some ⟨g,0,none⟩/\g < w.heap.size/\w.cell? ⟨g,i * 3,none⟩=some (.string fs[i].1)/\w.cell? ⟨g,i * 3+1,none⟩=some (.slice (some ⟨gi,0,none⟩) fs[i].2.1.length fs[i].2.1.length)/\w.cell? ⟨g,i * 3+2,none⟩=some (.int .i64 (fs[i].2.2:Nat))/\SIn lo w (.slice (some ⟨gi,0,none⟩) fs[i].2.1.length fs[i].2.1.length) fs[i].2.1
theorem zgv.below{w w':World}{v:Value}{fs:List zge}(h:zgv w v fs)(hb:Below w.heap.size w w'):zgv w' v fs:=by
 obtain⟨ao,cap,h1,h2⟩:=h
 refine⟨ao,cap,h1,fun i hi=>?_⟩
 obtain⟨g,gi,lo,q1,q2,q3,q4,q5,q6⟩:=h2 i hi
 exact⟨g,gi,lo,q1,Nat.lt_of_lt_of_le q2 hb.size,(hb.cell (p:=⟨g,i * 3,none⟩) q2).trans q3,(hb.cell (p:=⟨g,i * 3+1,none⟩) q2).trans q4,(hb.cell (p:=⟨g,i * 3+2,none⟩) q2).trans q5,q6.below hb⟩
def zj8(pred:ByteArray)(row:List ByteArray):List zge->Option Nat
 |[]=>none
 |f::fs=>if f.1=pred/\f.2.1=row then some 0 else(zj8 pred row fs).map (·+1)
def z2y(pred:ByteArray)(row:List ByteArray)(fs:List zge):Int:=match zj8 pred row fs with
 |none=>-1
 |some k=>k
theorem zzx{pred:ByteArray}{row:List ByteArray}{fs:List zge}{k:Nat}(hk:k < fs.length):zj8 pred row (fs.drop k)=if fs[k].1=pred/\fs[k].2.1=row then some 0 else(zj8 pred row (fs.drop (k+1))).map (·+1):=by
 rw[List.drop_eq_getElem_cons hk]
 rfl
theorem z3o{lo2:Nat}(w:World)(v:Value)(fs:List zge)(pred:ByteArray)(vr:Value)(row:List ByteArray)(h:zgv w v fs)(hr:SIn lo2 w vr row)(hl:fs.length<=10000000)(hl2:row.length<=1000000)(hl3:∀ f∈fs,f.2.1.length<=1000000) :
  Calls Tryz.prog 26 #[v,.string pred,vr] w fun e w'=>e=.returned (.int .i64 (z2y pred row fs))/\Below w.heap.size w w':=by
 have HSA:Hid (∀ W lo va (a:List ByteArray),Below w.heap.size w W->SIn lo W va a->a.length<=1000000->Calls Tryz.prog 30 #[va,vr] W fun e w'=>e=.returned (.bool (decide (a=row)))/\Below W.heap.size W w'):=fun W lo va a hb ha hq=>z3r W va vr a row ha (hr.below hb) hq hl2
 obtain⟨aor,capr,rfl⟩:=hr.shape
 obtain⟨ao,cap,rfl,hcells⟩:=h
 have HC:Hid (∀ i (h:i < fs.length),∃ g gi lo,ao=some ⟨g,0,none⟩/\g < w.heap.size/\w.cell? ⟨g,i * 3,none⟩=some (.string fs[i].1)/\w.cell? ⟨g,i * 3+1,none⟩=some (.slice (some ⟨gi,0,none⟩) fs[i].2.1.length fs[i].2.1.length)/\w.cell? ⟨g,i * 3+2,none⟩=some (.int .i64 (fs[i].2.2:Nat))/\SIn lo w (.slice (some ⟨gi,0,none⟩) fs[i].2.1.length fs[i].2.1.length) fs[i].2.1):=hcells
 have HL3:Hid (∀ f∈fs,f.2.1.length<=1000000):=hl3
 have H0:Hid (zj8 pred row fs=(zj8 pred row (fs.drop 0)).map (·+0)):=show zj8 pred row fs=_ by simp
 have HI:Hid (z2y pred row fs=match zj8 pred row fs with|none=>-1|some k=>(k:Int)):=show z2y pred row fs=_ from rfl
 clear hcells hr hl3
 generalize z2y pred row fs=ri at *
 generalize zj8 pred row fs=rf at *
 go_enter Tryz.func26,Tryz.ntmps26
 go_wp2
 go_loopw [7,8] (fun i _ wr=>∃ k:Nat,k<=fs.length/\i=.int .i64 k/\Hid (rf=(zj8 pred row (fs.drop k)).map (·+k))/\Below w.heap.size w wr) (fun i _ _=>fs.length - (intOf i).toNat)
 case atStart=>exact⟨0,Nat.zero_le _,rfl,H0,Below.refl _ _⟩
 case round =>
  obtain⟨k,hk,rfl,HK,hbk⟩:=hrel
  have hszk:=hbk.size
  by_cases hlt:k < fs.length
  ·have hlti:(k:Int) < (fs.length:Int):=by omega
   obtain⟨g,gi,lo3,rfl,hg,c0,c1,_,hS⟩:=HC.out k hlt
   have q:=HK.out
   rw[zzx hlt] at q
   have HQ:Hid (rf=(if fs[k].1=pred/\fs[k].2.1=row then some 0 else(zj8 pred row (fs.drop (k+1))).map (·+1)).map (·+k)):=q
   clear q HK
   have x0:=(hbk.cell (p:=⟨g,k * 3,none⟩) hg).trans c0
   have x1:=(hbk.cell (p:=⟨g,k * 3+1,none⟩) hg).trans c1
   have hgr:g < wr.heap.size:=by omega
   have HS:Hid (Calls Tryz.prog 30 #[.slice (some ⟨gi,0,none⟩) fs[k].2.1.length fs[k].2.1.length,.slice aor row.length capr] wr fun e w'=>e=.returned (.bool (decide (fs[k].2.1=row)))/\Below wr.heap.size wr w'):=HSA.out wr lo3 _ _ hbk (hS.below hbk) (HL3.out _ (List.getElem_mem hlt))
   clear c0 c1 hS
   generalize fs[k].2.1.length=fl at *
   generalize fs[k].2.1=fr at *
   generalize fs[k].1=fp at *
   by_cases he:fp=pred
   ·have heq:=zfo he
    by_cases he2:fr=row
    ·have HF:Hid (rf=some k):=show rf=some k by rw[HQ.out,if_pos ⟨he,he2⟩];simp
     have HFI:Hid (ri=(k:Int)):=show ri=(k:Int) by rw[HI.out,HF.out]
     rw[show decide (fr=row)=true by simp[he2]] at HS
     clear HQ he he2
     go_wp2_with (first|(go_at_call 30;refine HS.out.mono ?_;rintro e w1 ⟨rfl,hb1⟩))
     go_ret
     exact⟨by rw[HFI.out];rfl,zae hbk hb1 (Nat.le_refl _)⟩
    ·have HF:Hid (rf=(zj8 pred row (fs.drop (k+1))).map (·+(k+1))):=show rf=_ by
      rw[HQ.out,if_neg (fun z=>he2 z.2),Option.map_map]
      congr 1
      funext z
      simp only[Function.comp];omega
     rw[show decide (fr=row)=false by simp[he2]] at HS
     clear HQ he he2
     go_wp2_with (first|(go_at_call 30;refine HS.out.mono ?_;rintro e w1 ⟨rfl,hb1⟩))
     exact⟨⟨k+1,by omega,by go_num,HF,zae hbk hb1 (Nat.le_refl _)⟩,by simp[intOf];omega⟩
   ·have heq:=zen he
    have HF:Hid (rf=(zj8 pred row (fs.drop (k+1))).map (·+(k+1))):=show rf=_ by
     rw[HQ.out,if_neg (fun z=>he z.1),Option.map_map]
     congr 1
     funext z
     simp only[Function.comp];omega
    clear HQ he
    go_wp2
    exact⟨⟨k+1,by omega,by go_num,HF,hbk⟩,by simp[intOf];omega⟩
  ·have hlti:¬ (k:Int) < (fs.length:Int):=by omega
   have HFI:Hid (ri=-1):=show ri=-1 by
    rw[HI.out,HK.out,List.drop_eq_nil_of_le (by omega)]
    rfl
   go_wp2
   go_ret
   exact⟨by rw[HFI.out];rfl,hbk⟩
structure Told (t:List zan) (ns:List ByteArray) (R:zbh):Prop where
 rise:zch (namesT t)
 nrise:zch ns
 inv:ze1 (t.map (·.arity)) (za5 ns.length) R
 small:∀ a∈t.map (·.arity),a<=3
 inside:zvr (t.map (·.arity)) ns.length (zct (t.map (·.arity)) R)
 few:R.count<=1048576/\t.length<=1000/\ns.length<=1000
def zc4(R:zbh)(p:Nat):List zaq:=(keysT (R.rows.getD p zad.zero)).map fun k=>pad k (R.rows.getD p zad.zero).depth
def zix(t:List zan)(p:Nat):ByteArray:=(namesT t).getD p ByteArray.empty
def zld(t:List zan)(ns:List ByteArray)(R:zbh)(p:Nat)(r:zaq):zge:=(zix t p,za2 ns r (za1 t p) 3,(zdz (R.rows.getD p zad.zero) r).getD 0)
def za6(t:List zan)(ns:List ByteArray)(R:zbh)(n:Nat):List zge:=(List.range n).flatMap fun p=>(zc4 R p).map (zld t ns R p)
theorem Told.len{t:List zan}{ns:List ByteArray}{R:zbh}(h:Told t ns R):R.rows.length=t.length:=by have:=h.inv.len;simpa using this
theorem Told.name{t:List zan}{ns:List ByteArray}{R:zbh}(h:Told t ns R){p:Nat}(hp:p < t.length):(zbj t (zix t p)).isSome=true/\zbf t (zix t p)=p/\zix t p=t[p].name:=by
 have hn:zix t p=t[p].name:=by unfold zix namesT;simp[List.getD,hp]
 have hpl:zai t t[p].name=p:=by
  rcases Nat.lt_trichotomy (zai t t[p].name) p with q|q|q
  ·have h1:=znu t t[p].name h.rise t[zai t t[p].name] (by
    rw[List.mem_iff_getElem]
    exact⟨0,by simp;omega,by simp⟩)
   have hr:=List.pairwise_iff_getElem.1 h.rise (zai t t[p].name) p (by simp[namesT];omega) (by simp[namesT];omega) q
   simp only[namesT,List.getElem_map] at hr
   rw[hr] at h1
   cases h1
  ·exact q
  ·have h1:=znv t t[p].name t[p] (by
    rw[List.mem_iff_getElem]
    exact⟨p,by simp;omega,by simp⟩)
   rw[lt_irrefl] at h1
   cases h1
 have he:zbj t t[p].name=some t[p]:=by
  unfold zbj
  rw[hpl,List.getElem?_eq_getElem hp]
  simp
 rw[hn]
 exact⟨by rw[he];rfl,by unfold zbf;rw[he,hpl];rfl,rfl⟩
theorem Told.ar{t:List zan}{ns:List ByteArray}{R:zbh}(h:Told t ns R){p:Nat}(hp:p < t.length):za1 t p<=3/\(t.map (·.arity)).getD p 0=za1 t p:=by
 refine⟨?_,rfl⟩
 unfold za1
 rw[getD_lt _ (by simpa using hp)]
 exact h.small _ (List.getElem_mem _)
theorem Told.row{t:List zan}{ns:List ByteArray}{R:zbh}(h:Told t ns R){p:Nat}(hp:p < t.length){r:zaq}(hr:r∈zc4 R p):InD (zct (t.map (·.arity)) R) p r/\Canon (za1 t p) r/\∀ i,i < za1 t p->r.getD i 0 < ns.length:=by
 have hpr:p < R.rows.length:=by rw[h.len];exact hp
 have hin:InD (zct (t.map (·.arity)) R) p r:=by
  refine(zjz h.inv h.small hpr r).1 ?_
  unfold zc4 at hr
  rw[getD_lt _ hpr] at hr
  exact hr
 exact⟨hin,(zma _ R p r hin).2,h.inside p r hin⟩
theorem Told.rows{t:List zan}{ns:List ByteArray}{R:zbh}(h:Told t ns R){p:Nat}(hp:p < R.rows.length):∃ fuel,rowsG fuel R.rows[p]=some (zc4 R p)/\(zc4 R p).length<=1048576:=by
 obtain⟨t1,t2,t3,t4⟩:=h.inv.tries p hp
 have hge:=zyz R.rows p hp
 rw[← h.inv.cnt] at hge
 have:=h.few.1
 refine⟨3 * (R.rows[p].width+1),?_,?_⟩
 ·rw[t1.rowsG _ (Nat.le_refl _) (by omega)]
  unfold zc4
  rw[getD_lt _ hp]
 ·unfold zc4
  rw[getD_lt _ hp,List.length_map,t1.cnt]
  omega
theorem Told.when{t:List zan}{ns:List ByteArray}{R:zbh}(h:Told t ns R){p:Nat}(hp:p < t.length){r:zaq}(hr:r∈zc4 R p):zvm t ns R (zix t p) (za2 ns r (za1 t p) 3)=((zld t ns R p r).2.2,0):=by
 obtain⟨n1,n2,_⟩:=h.name hp
 obtain⟨q1,q2,q3⟩:=h.row hp hr
 have hpr:p < R.rows.length:=by rw[h.len];exact hp
 unfold zvm
 rw[n2,if_neg (by rintro(z|z);rw[n1] at z;cases z;omega),if_neg (by rw[zdt];simp),zmu h.nrise (h.ar hp).1 q2 q3]
 simp only
 unfold InD zct at q1
 rw[if_pos ⟨by simpa using hp,q2⟩] at q1
 cases hm:zdz (R.rows.getD p zad.zero) r with
 |none=>rw[hm] at q1;cases q1
 |some m=>simp only[zld,hm,Option.getD_some]
theorem zs4{ns:List ByteArray}(hn:zch ns):∀(a b:zaq),(∀ v∈a,v < ns.length)->(∀ v∈b,v < ns.length)->ltR a b->zfh (a.map fun v=>ns.getD v ByteArray.empty) (b.map fun v=>ns.getD v ByteArray.empty)=true
 |x::a,y::b,ha,hb,h=>by
  simp only[List.map_cons,zfh]
  rcases h with h|⟨rfl,h⟩
  ·have hl:=zly hn h (hb y (by simp))
   rw[if_neg]
   ·exact hl
   ·intro e
    rw[e,lt_irrefl] at hl
    cases hl
  ·rw[if_pos rfl]
   exact zs4 hn a b (fun v hv=>ha v (by simp[hv])) (fun v hv=>hb v (by simp[hv])) h
 |[],_,_,_,h=>h.elim
 |_::_,[],_,_,h=>h.elim
theorem zrm{ns:List ByteArray}{k:zaq}{ar:Nat}(hk:k.length=ar)(h3:ar<=3):za2 ns (pad k ar) ar 3=k.map fun v=>ns.getD v ByteArray.empty:=by
 refine List.ext_getElem (by simp[za2,hk]) fun i h1 h2=>?_
 have hi:i < ar:=by rw[zdt] at h1;exact h1
 simp only[za2,List.getElem_map,List.getElem_range]
 rw[if_pos (by omega)]
 congr 1
 unfold pad
 rw[List.getD_eq_getElem?_getD,List.getElem?_append_left (by omega),List.getElem?_eq_getElem (by omega)]
 rfl
theorem Told.sorted{t:List zan}{ns:List ByteArray}{R:zbh}(h:Told t ns R){p:Nat}(hp:p < t.length){i j:Nat}(hij:i < j)(hj:j < (zc4 R p).length):zfh (za2 ns ((zc4 R p)[i]'(by omega)) (za1 t p) 3) (za2 ns (zc4 R p)[j] (za1 t p) 3)=true:=by
 have hpr:p < R.rows.length:=by rw[h.len];exact hp
 obtain⟨t1,t2,t3,t4⟩:=h.inv.tries p hpr
 obtain⟨ha3,haa⟩:=h.ar hp
 have hg:R.rows.getD p zad.zero=R.rows[p]:=getD_lt _ hpr
 have hri:=(h.row hp (List.getElem_mem (show i < (zc4 R p).length by omega))).2
 have hrj:=(h.row hp (List.getElem_mem hj)).2
 simp only[zc4,hg,List.length_map] at hj
 simp only[zc4,hg,List.getElem_map] at hri hrj ⊢
 have hs:=List.pairwise_iff_getElem.1 (zja R.rows[p] R.rows[p].depth 0 0) i j (show i < (keysT R.rows[p]).length by omega) hj hij
 have li:=((zbq R.rows[p] _).1 (List.getElem_mem (show i < (keysT R.rows[p]).length by omega))).1
 have lj:=((zbq R.rows[p] _).1 (List.getElem_mem hj)).1
 change ltR (keysT R.rows[p])[i] (keysT R.rows[p])[j] at hs
 generalize (keysT R.rows[p])[i]=ki at *
 generalize (keysT R.rows[p])[j]=kj at *
 rw[haa] at t3
 by_cases h0:za1 t p=0
 ·have hd1:R.rows[p].depth=1:=by rw[t3,h0];rfl
  rw[hd1] at li lj hri hrj
  have hz:∀ k:zaq,k.length=1->Canon 0 (pad k 1)->k=[0]:=by
   intro k hk hc
   match k,hk with
   |[v],_ =>
    have:=hc.2 0 (Nat.le_refl _)
    simp[pad] at this
    rw[this]
  rw[h0] at hri hrj
  rw[hz ki li hri.1,hz kj lj hrj.1] at hs
  exact absurd hs (zmn _)
 ·have hd:R.rows[p].depth=za1 t p:=by rw[t3,zg0 h0 ha3]
  rw[hd] at li lj hri hrj ⊢
  rw[zrm li ha3,zrm lj ha3]
  have hsm:∀ k:zaq,k.length=za1 t p->(∀ i,i < za1 t p->(pad k (za1 t p)).getD i 0 < ns.length)->∀ v∈k,v < ns.length:=by
   intro k hk hq v hv
   obtain⟨i,hi,rfl⟩:=List.getElem_of_mem hv
   have:=hq i (by omega)
   unfold pad at this
   rw[List.getD_eq_getElem?_getD,List.getElem?_append_left (by omega),List.getElem?_eq_getElem hi] at this
   exact this
  exact zs4 h.nrise ki kj (hsm ki li hri.2) (hsm kj lj hrj.2) hs
end Go.Proofs.YteampbddflhngabGreat
