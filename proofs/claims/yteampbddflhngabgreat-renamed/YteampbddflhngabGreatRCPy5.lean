import Derived.Test.YteampbddflhngabGreatRCPx6
import Derived.Test.YteampbddflhngabGreatR43
import Derived.Test.YteampbddflhngabGreatR41

namespace Go.Proofs.YteampbddflhngabGreat
structure ycq (x:Tok):Prop where
 word:isT x.1=true->x.1=zk9 x.2
 op:x.1=4->x.2=signs.op
 shut:x.1=5->x.2=signs.shut
 comma:x.1=6->x.2=signs.comma
 dot:x.1=7->x.2=signs.dot
 bang:x.1=8->x.2=signs.bang
 arrow:x.1=9->x.2=signs.arrow
theorem one_byte{a:UInt8}{n:Nat}(h:byt a=(n:Int))(hn:n < 256):a=UInt8.ofNat n:=by
 apply UInt8.toNat_inj.1
 unfold byt at h
 rw[UInt8.toNat_ofNat',Nat.mod_eq_of_lt (by simpa using hn)]
 omega
theorem zl1:∀(m:Nat) (l:List UInt8) (ts:List Tok),l.length<=m->zg2 l=some ts->∀ x∈ts,ycq x
 |_,[],ts,_,h,x,hx=>by simp[splitF_nil] at h;subst h;cases hx
 |0,_::_,_,h,_,_,_=>by simp at h
 |m+1,a::l,ts,h,hs,x,hx=>by
  simp only[List.length_cons] at h
  rw[zfj] at hs
  split at hs
  ·exact zl1 m l ts (by omega) hs x hx
  ·split at hs
   ·cases hs
   ·rename_i hk
    split at hs
    ·cases hs
    ·obtain⟨us,hu,rfl⟩:=Option.map_eq_some_iff.1 hs
     have hp:=zmp (l:=l) hk
     have hd:((a::l).drop (zgk (a::l) (zay (byt a) (hdB l)))).length<=m:=by rw[List.length_drop];simp;omega
     rcases List.mem_cons.1 hx with rfl|hx
     ·clear hs hu hd hx
      have hword:isT (zay (byt a) (hdB l))=true->∀ c,zay (byt a) c=zay (byt a) (hdB l):=by
       intro ht c
       unfold zay at ht ⊢
       split
       ·rfl
       ·split
        ·rfl
        ·split
         ·rfl
         ·rename_i q1 q2 q3
          rw[if_neg q1,if_neg q2,if_neg q3] at ht
          split at ht
          ·simp[isT] at ht
          ·unfold zi8 at ht
           (repeat' split at ht) <;> simp[isT] at ht
      have hsg:∀ k:Int,zay (byt a) (hdB l)=k->k≠0->k≠1->k≠2->k≠3->k≠9->(⟨((a::l).take (zgk (a::l) k)).toArray⟩:ByteArray)=⟨#[a]⟩/\zi8 (byt a)=k:=by
       intro k e h0 h1 h2 h3 h9
       refine⟨?_,?_⟩
       ·unfold zgk
        rw[if_neg h9,if_neg (by omega),if_neg h3]
        rfl
       ·unfold zay at e
        split at e
        ·omega
        ·split at e
         ·omega
         ·split at e
          ·omega
          ·split at e
           ·omega
           ·exact e
      refine⟨fun ht=>?_,fun e=>?_,fun e=>?_,fun e=>?_,fun e=>?_,fun e=>?_,fun e=>?_⟩
      ·simp only at ht ⊢
       unfold zk9
       have e0:bAt (⟨((a::l).take (zgk (a::l) (zay (byt a) (hdB l)))).toArray⟩:ByteArray) 0=byt a:=by
        rw[zkn]
        simp only[List.drop_zero]
        obtain⟨n,hn⟩:∃ n,zgk (a::l) (zay (byt a) (hdB l))=n+1:=⟨zgk (a::l) (zay (byt a) (hdB l)) - 1,by omega⟩
        rw[hn]
        rfl
       rw[e0]
       exact(hword ht _).symm
      all_goals
       simp only at e ⊢
       rw[e]
      ·obtain⟨h1,h2⟩:=hsg 4 e (by decide) (by decide) (by decide) (by decide) (by decide)
       rw[h1]
       have:byt a=((40:Nat):Int):=by unfold zi8 at h2;(repeat' split at h2) <;> omega
       rw[one_byte this (by decide)]
       rfl
      ·obtain⟨h1,h2⟩:=hsg 5 e (by decide) (by decide) (by decide) (by decide) (by decide)
       rw[h1]
       have:byt a=((41:Nat):Int):=by unfold zi8 at h2;(repeat' split at h2) <;> omega
       rw[one_byte this (by decide)]
       rfl
      ·obtain⟨h1,h2⟩:=hsg 6 e (by decide) (by decide) (by decide) (by decide) (by decide)
       rw[h1]
       have:byt a=((44:Nat):Int):=by unfold zi8 at h2;(repeat' split at h2) <;> omega
       rw[one_byte this (by decide)]
       rfl
      ·obtain⟨h1,h2⟩:=hsg 7 e (by decide) (by decide) (by decide) (by decide) (by decide)
       rw[h1]
       have:byt a=((46:Nat):Int):=by unfold zi8 at h2;(repeat' split at h2) <;> omega
       rw[one_byte this (by decide)]
       rfl
      ·obtain⟨h1,h2⟩:=hsg 8 e (by decide) (by decide) (by decide) (by decide) (by decide)
       rw[h1]
       have:byt a=((33:Nat):Int):=by unfold zi8 at h2;(repeat' split at h2) <;> omega
       rw[one_byte this (by decide)]
       rfl
      ·have:byt a=((58:Nat):Int)/\hdB l=((45:Nat):Int):=by
        unfold zay at e
        split at e
        ·omega
        ·split at e
         ·omega
         ·split at e
          ·omega
          ·split at e
           ·assumption
           ·unfold zi8 at e
            (repeat' split at e) <;> omega
       rw[show zgk (a::l) 9=2 from rfl]
       cases l with
       |nil=>exact absurd this.2 (by decide)
       |cons b l =>
        rw[one_byte this.1 (by decide),one_byte (show byt b=((45:Nat):Int) from this.2) (by decide)]
        rfl
     ·exact zl1 m _ us hd hu x hx
theorem zj6{r:List Tok}{k:Int}(h:hdK r=k)(h0:k≠0):∃ x r',r=(k,x)::r'/\r.tail=r'/\(k,x)∈r:=by
 cases r with
 |nil=>exact absurd h.symm h0
 |cons a r =>
  obtain⟨j,x⟩:=a
  have e:j=k:=h
  subst e
  exact⟨x,r,rfl,rfl,by simp⟩
theorem ztm:∀(r:List Tok) {ts:List ByteArray} {r2:List Tok},za5 r=some (ts,r2)->(∀ x∈r,ycq x)->r=zlp signs ts++r2/\ts≠[]
 |[],_,_,h,_=>by simp[za5] at h
 |[x],ts,r2,h,hc=>by
  simp only[za5] at h
  split at h
  ·rename_i hq
   simp only[Option.some.injEq,Prod.mk.injEq] at h
   obtain⟨rfl,rfl⟩:=h
   refine⟨?_,by simp⟩
   show [x]=[zzw x.2]++[]
   unfold zzw
   rw[← (hc x (by simp)).word hq]
   rfl
  ·cases h
 |x::y::r,ts,r2,h,hc=>by
  simp only[za5] at h
  split at h
  ·rename_i hq
   have hx:x=zzw x.2:=by
    unfold zzw
    rw[← (hc x (by simp)).word hq]
   split at h
   ·rename_i h6
    obtain⟨z,hz,he⟩:=Option.map_eq_some_iff.1 h
    simp only[Prod.mk.injEq] at he
    obtain⟨rfl,rfl⟩:=he
    obtain⟨i1,i2⟩:=ztm r (ts:=z.1) (r2:=z.2) hz (fun u hu=>hc u (by simp[hu]))
    refine⟨?_,by simp⟩
    have hy:y=(6,signs.comma):=by
     obtain⟨k,b⟩:=y
     simp only at h6
     subst h6
     have q:=(hc (6,b) (by simp)).comma rfl
     simp only at q
     rw[q]
    obtain⟨t,l⟩:=z
    simp only at i1 i2 ⊢
    cases t with
    |nil=>exact absurd rfl i2
    |cons u t =>
     show x::y::r=zzw x.2::(6,signs.comma)::(zlp signs (u::t)++l)
     rw[← i1,← hx,hy]
   ·simp only[Option.some.injEq,Prod.mk.injEq] at h
    obtain⟨rfl,rfl⟩:=h
    refine⟨?_,by simp⟩
    show x::y::r=[zzw x.2]++y::r
    rw[← hx]
    rfl
  ·cases h
theorem zpn{r:List Tok}{l:zbb}{r2:List Tok}(h:zdm r=some (l,r2))(hc:∀ x∈r,ycq x):r=zic signs l++r2:=by
 unfold zdm at h
 split at h
 ·rename_i h1
  obtain⟨p,r',rfl,e1,_⟩:=zj6 h1 (by decide)
  change (if hdK r'=4 then(match za5 r'.tail with|none=>none|some (ts,r2)=>if hdK r2=5 then some ((⟨false,p,ts⟩:zbb),r2.tail) else none) else some ((⟨false,p,[]⟩:zbb),r'))=some (l,r2) at h
  by_cases h4:hdK r'=4
  ·rw[if_pos h4] at h
   obtain⟨q,r'',rfl,e2,hm⟩:=zj6 h4 (by decide)
   have hq:q=signs.op:=(hc (4,q) (by simp)).op rfl
   cases hp:za5 r'' with
   |none=>rw[List.tail_cons,hp] at h;cases h
   |some z =>
    obtain⟨ts,r3⟩:=z
    rw[List.tail_cons,hp] at h
    simp only at h
    by_cases h5:hdK r3=5
    ·rw[if_pos h5] at h
     obtain⟨i1,i2⟩:=ztm _ hp (fun u hu=>hc u (by simp[hu]))
     obtain⟨z,r4,rfl,e3,hm2⟩:=zj6 h5 (by decide)
     have hz:z=signs.shut:=(hc (5,z) (by rw[i1];simp)).shut rfl
     simp only[Option.some.injEq,Prod.mk.injEq,List.tail_cons] at h
     obtain⟨rfl,rfl⟩:=h
     unfold zic
     simp only[if_neg i2]
     rw[i1,hq,hz]
     simp
    ·rw[if_neg h5] at h;cases h
  ·rw[if_neg h4] at h
   simp only[Option.some.injEq,Prod.mk.injEq] at h
   obtain⟨rfl,rfl⟩:=h
   simp[zic]
 ·cases h
theorem ya6{r:List Tok}{l:zbb}{r2:List Tok}(h:zo5 r=some (l,r2))(hc:∀ x∈r,ycq x):r=zxz signs l++r2:=by
 unfold zo5 at h
 split at h
 ·rename_i h8
  obtain⟨p,r',rfl,e1,_⟩:=zj6 h8 (by decide)
  obtain⟨z,hz,he⟩:=Option.map_eq_some_iff.1 h
  simp only[Prod.mk.injEq] at he
  obtain⟨rfl,rfl⟩:=he
  have hp:p=signs.bang:=(hc (8,p) (by simp)).bang rfl
  have:=zpn (l:=z.1) (r2:=z.2) hz (fun u hu=>hc u (by simp at hu;simp[hu]))
  simp only[List.tail_cons] at this
  rw[this,hp]
  simp[zxz,zic]
 ·have hn:l.neg=false:=by
   unfold zdm at h
   (repeat' split at h) <;> first|(cases h;done)|(simp only[Option.some.injEq,Prod.mk.injEq] at h;rw[← h.1])
  have:=zpn h hc
  rw[this]
  simp[zxz,hn]
theorem zvj:∀(n:Nat) {r:List Tok} {b:List zbb} {r2:List Tok},zef n r=some (b,r2)->(∀ x∈r,ycq x)->r=zi9 signs b++r2/\b≠[]
 |0,_,_,_,h,_=>by cases h
 |n+1,r,b,r2,h,hc=>by
  unfold zef at h
  split at h
  ·cases h
  ·rename_i a r3 hq
   have i1:=ya6 hq hc
   split at h
   ·rename_i h6
    obtain⟨p,r',rfl,e1,_⟩:=zj6 h6 (by decide)
    obtain⟨z,hz,he⟩:=Option.map_eq_some_iff.1 h
    simp only[Prod.mk.injEq] at he
    obtain⟨rfl,rfl⟩:=he
    have hp:p=signs.comma:=(hc (6,p) (by rw[i1];simp)).comma rfl
    obtain⟨j1,j2⟩:=zvj n (b:=z.1) (r2:=z.2) hz (fun u hu=>hc u (by rw[i1];simp at hu;simp[hu]))
    refine⟨?_,by simp⟩
    obtain⟨c,l⟩:=z
    simp only[List.tail_cons] at j1 j2 ⊢
    cases c with
    |nil=>exact absurd rfl j2
    |cons u c =>
     rw[i1,hp,j1]
     simp[zi9]
   ·simp only[Option.some.injEq,Prod.mk.injEq] at h
    obtain⟨rfl,rfl⟩:=h
    exact⟨i1,by simp⟩
theorem zyj{n:Nat}{r:List Tok}{c:zaa}{r2:List Tok}(h:zdn n r=some (c,r2))(hc:∀ x∈r,ycq x):r=clK signs c++r2:=by
 unfold zdn at h
 split at h
 ·cases h
 ·rename_i a r3 hq
  have i1:=zpn hq hc
  split at h
  ·rename_i h9
   obtain⟨p,r',rfl,e1,_⟩:=zj6 h9 (by decide)
   have hp:p=signs.arrow:=(hc (9,p) (by rw[i1];simp)).arrow rfl
   simp only[List.tail_cons] at h
   split at h
   ·cases h
   ·rename_i b r4 hb
    split at h
    ·rename_i h7
     obtain⟨z,r5,rfl,e2,_⟩:=zj6 h7 (by decide)
     obtain⟨j1,j2⟩:=zvj n hb (fun u hu=>hc u (by rw[i1];simp[hu]))
     have hz:z=signs.dot:=(hc (7,z) (by rw[i1,j1];simp)).dot rfl
     simp only[Option.some.injEq,Prod.mk.injEq,List.tail_cons] at h
     obtain⟨rfl,rfl⟩:=h
     rw[i1,j1,hp,hz]
     simp[clK,j2]
    ·cases h
  ·split at h
   ·rename_i h7
    obtain⟨z,r5,rfl,e2,_⟩:=zj6 h7 (by decide)
    have hz:z=signs.dot:=(hc (7,z) (by rw[i1];simp)).dot rfl
    simp only[Option.some.injEq,Prod.mk.injEq,List.tail_cons] at h
    obtain⟨rfl,rfl⟩:=h
    rw[i1,hz]
    simp[clK]
   ·cases h
theorem zw6{n:Nat}:∀(m:Nat) {r:List Tok} {cs:List zaa},zda n m r=some cs->(∀ x∈r,ycq x)->r=zeg signs cs
 |m,[],cs,h,_=>by cases m <;> (simp[zda] at h;subst h;simp[zeg])
 |0,_::_,cs,h,_=>by simp[zda] at h
 |m+1,x::r,cs,h,hc=>by
  unfold zda at h
  split at h
  ·cases h
  ·rename_i c r2 hq
   have i1:=zyj hq hc
   obtain⟨ds,hd,rfl⟩:=Option.map_eq_some_iff.1 h
   have:=zw6 m hd (fun u hu=>hc u (by rw[i1];simp[hu]))
   rw[i1,this]
   simp[zeg]
theorem zr7{s:ByteArray}{cs:List zaa}{t:List zam}(h:zg8 s=.ok (cs,t)):zg2 (bl s)=some (zeg signs cs)/\(∀ c∈cs,zlb c)/\s.size<=500:=by
 unfold zg8 at h
 split at h
 ·cases h
 ·rename_i h5
  split at h
  ·cases h
  ·rename_i l hl
   split at h
   ·cases h
   ·rename_i ds hd
    have hw:=zny _ hd (zzo hl)
    have hcs:ds=cs:=by
     repeat'(split at h)
     all_goals first|(cases h;done)|(simp only[Except.ok.injEq,Prod.mk.injEq] at h;exact h.1)
    subst hcs
    rw[zur] at hl
    refine⟨?_,hw,by omega⟩
    rw[hl,zw6 _ hd (zl1 _ _ _ (Nat.le_refl _) hl)]
theorem yc4{s:ByteArray}{cs:List zaa}{t0 t:List zam}(h5:s.size<=500)(hs:zg2 (bl s)=some (zeg signs cs))(hw:∀ c∈cs,zlb c)(h:∀ c∈cs,zdz c=false)(hc:zfc cs=some t0)(hsf:∀ c∈cs,zeh c=true)(hst:zch (t0.length+1) t0 cs=(t,true)):zg8 s=.ok (cs,t):=by
 have hp:zda (zeg signs cs).length (zeg signs cs).length (zeg signs cs)=some cs:=zm2 signs _ _ cs (fun c hc=>⟨(hw c hc).word,(zhs signs cs).2 c hc⟩) (zhs signs cs).1
 have hm:cs.any zdz=false:=by
  rw[List.any_eq_false]
  intro c hc
  rw[h c hc]
  simp
 have ha:cs.all zeh=true:=List.all_eq_true.2 hsf
 unfold zg8
 rw[if_neg (by omega),zur,hs]
 simp only[hp,hm,hc,ha,hst,if_true,Bool.false_eq_true,if_false]
set_option maxRecDepth 100000
set_option maxHeartbeats 4000000
open Go.RowKit
def z99(t:List zam)(ns:List ByteArray)(D:DB)(f:zgn):Prop:=∃ p,p < t.length/\∃ r m,D p r=some m/\f=(zjf t p,za4 ns r (za3 t p) 3,m)
def ycc(t:List zam)(ns:List ByteArray)(A:Option (DB × Nat))(t2:List zam)(ns2:List ByteArray)(B:Option (DB × Nat)):Prop:=match A,B with
 |none,none=>True
 |some (D,k),some (E,l)=>k=l/\∀ f,z99 t ns D f↔z99 t2 ns2 E f
 |_,_=>False
theorem zpv{t:List zam}{ns:List ByteArray}{R:zbh}(h:Told t ns R):(za6 t ns R t.length).length=R.count:=by
 unfold za6
 rw[List.length_flatMap,h.inv.cnt]
 congr 1
 refine List.ext_getElem (by simp[h.len]) fun i h1 h2=>?_
 have hi:i < R.rows.length:=by simpa using h2
 simp only[List.getElem_map,List.getElem_range,List.length_map,zc4]
 rw[getD_lt _ hi,((h.inv.tries i hi).1).cnt]
theorem z8o{lp:Nat}(w:World)(db pb:Nat)(s0 s:ByteArray){cs:List zaa}{t0 t:List zam}(hd:Box w db #[.pointer (some ⟨pb,0,none⟩),.string s0] 37)(hP:zg7 lp w pb cs t)(h:Parts cs t0 t)(hlp:lp<=w.heap.size)(hsz:s.size<=9223372036854775807)
  (hs:s.size<=500->∃ cs2 t2,zg8 s=.ok (cs2,t2)/\ycc t (zah cs) (zeq (zf2 t (zah cs) none cs) 4096 4096) t2 (zah cs2) (zeq (zf2 t2 (zah cs2) none cs2) 4096 4096)) :
  Calls Tryz.prog 20 #[.pointer (some ⟨db,0,none⟩),.string s] w fun e w'=>e=.returned (.bool true)/\Below w.heap.size w w':=by
 by_cases hlen:s.size<=500
 ·obtain⟨cs2,t2,hc,hal⟩:=hs hlen
  obtain⟨t20,h2⟩:=zr6 hc
  have HCEL:Hid (∀ W,Below w.heap.size w W->W.cell? ⟨db,0,none⟩=some (.pointer (some ⟨pb,0,none⟩))/\db < W.heap.size):=fun W hb=>⟨by rw[(hd.below hb).rules.1];rfl,(hd.below hb).lt⟩
  have hlni:¬ (500:Int) < (s.size:Int):=by omega
  have HCO:Hid (Calls Tryz.prog 19 #[.string s] w fun e w'=>∃ qb,e=.returned (.tuple #[.pointer (some ⟨qb,0,none⟩),.int .i64 0])/\Hid (zg7 w.heap.size w' qb cs2 t2)/\Hid (Below w.heap.size w w')/\w'.cell? ⟨db,0,none⟩=some (.pointer (some ⟨pb,0,none⟩))/\db < w'.heap.size):=by
   refine(zhk s w hsz).mono ?_
   rintro e w' ⟨hb,q2⟩
   rw[hc] at q2
   obtain⟨qb,v,pv,h3,h4,h5,h6,h7⟩:=q2
   exact⟨qb,h3,⟨h7,v,pv,h4,h5,h6⟩,hb,HCEL.out w' hb⟩
  have HR1:Hid (∀ W,Below w.heap.size w W->Calls Tryz.prog 24 #[.pointer (some ⟨pb,0,none⟩),.slice none 0 0,.int .i64 4096,.int .i64 4096] W fun e w'=>z5f lp t (zah cs) (zeq (zf2 t (zah cs) none cs) 4096 4096) W e w'):=fun W hb=>z07 W pb (hP.below hb) h (Nat.le_trans hlp hb.size) 4096 4096 (by omega) (by omega)
  have HR2:Hid (∀ W W2 qb,Below w.heap.size w W->zg7 w.heap.size W qb cs2 t2->Below W.heap.size W W2->Calls Tryz.prog 24 #[.pointer (some ⟨qb,0,none⟩),.slice none 0 0,.int .i64 4096,.int .i64 4096] W2 fun e w'=>z5f w.heap.size t2 (zah cs2) (zeq (zf2 t2 (zah cs2) none cs2) 4096 4096) W2 e w'):=fun W W2 qb hb hq hb2=>z07 W2 qb (hq.below hb2) h2 (Nat.le_trans hb.size hb2.size) 4096 4096 (by omega) (by omega)
  obtain⟨c0,hl0⟩:=HCEL.out w (Below.refl _ _)
  cases hA:zeq (zf2 t (zah cs) none cs) 4096 4096 with
  |none =>
   cases hB:zeq (zf2 t2 (zah cs2) none cs2) 4096 4096 with
   |some y=>rw[hA,hB] at hal;exact hal.elim
   |none =>
    have K1:Hid (∀ W,Below w.heap.size w W->Calls Tryz.prog 24 #[.pointer (some ⟨pb,0,none⟩),.slice none 0 0,.int .i64 4096,.int .i64 4096] W fun e w'=>e=.returned (.tuple #[.pointer none,.int .i64 10])/\Hid (Below W.heap.size W w')):=fun W hb=>by
     refine(HR1.out W hb).mono ?_
     intro e w' q
     rw[hA] at q
     exact q
    have K2:Hid (∀ W W2 qb,Below w.heap.size w W->zg7 w.heap.size W qb cs2 t2->Below W.heap.size W W2->Calls Tryz.prog 24 #[.pointer (some ⟨qb,0,none⟩),.slice none 0 0,.int .i64 4096,.int .i64 4096] W2 fun e w'=>e=.returned (.tuple #[.pointer none,.int .i64 10])/\Hid (Below w.heap.size w w')):=fun W W2 qb hb hq hb2=>by
     refine(HR2.out W W2 qb hb hq hb2).mono ?_
     intro e w' q
     rw[hB] at q
     exact⟨q.1,zae (zae hb hb2 (Nat.le_refl _)) q.2 (Nat.le_refl _)⟩
    clear hal hA hB HR1 HR2 hd hP h h2 hs hc
    go_enter Tryz.func20,Tryz.ntmps20
    go_wp2_with (first|(go_at_call 19;refine HCO.out.mono ?_;rintro e w1 ⟨qb,rfl,HP1,HB1,c1,hl1⟩)|(go_at_call 24;refine(K2.out _ _ _ HB1.out HP1.out HB2.out).mono ?_;rintro e w3 ⟨rfl,HB3⟩)|(go_at_call 24;refine(K1.out _ HB1.out).mono ?_;rintro e w2 ⟨rfl,HB2⟩))
    go_ret
    exact⟨rfl,HB3.out⟩
  |some x =>
   cases hB:zeq (zf2 t2 (zah cs2) none cs2) 4096 4096 with
   |none=>rw[hA,hB] at hal;exact hal.elim
   |some y =>
    obtain⟨D,kk⟩:=x
    obtain⟨E,ll⟩:=y
    rw[hA,hB] at hal
    have hkl:kk=ll:=hal.1
    have hfs:∀ f,z99 t (zah cs) D f↔z99 t2 (zah cs2) E f:=hal.2
    have K1:Hid (∀ W,Below w.heap.size w W->Calls Tryz.prog 24 #[.pointer (some ⟨pb,0,none⟩),.slice none 0 0,.int .i64 4096,.int .i64 4096] W fun e w'=>∃ rb,e=.returned (.tuple #[.pointer (some ⟨rb,0,none⟩),.int .i64 0])/\Hid (∃(R:zbh) (pv nv rv:Value) (tbs:List Nat) (lo:Nat),zrd lo lp w' rb t (zah cs) R pv nv rv tbs/\Told t (zah cs) R/\zct (t.map (·.arity)) R=D/\R.rounds=kk)/\Hid (Below W.heap.size W w')):=fun W hb=>by
     refine(HR1.out W hb).mono ?_
     intro e w' q
     rw[hA] at q
     obtain⟨R,rb,pv,nv,rv,tbs,q1,q2,q3,q4,q5,q6,q7,q8,q9⟩:=q
     exact⟨rb,q2,⟨R,pv,nv,rv,tbs,_,q3,h.told q4 q5 hA q8,q5,q6⟩,q9⟩
    have K2:Hid (∀ W W2 qb,Below w.heap.size w W->zg7 w.heap.size W qb cs2 t2->Below W.heap.size W W2->Calls Tryz.prog 24 #[.pointer (some ⟨qb,0,none⟩),.slice none 0 0,.int .i64 4096,.int .i64 4096] W2 fun e w'=>∃ rb,e=.returned (.tuple #[.pointer (some ⟨rb,0,none⟩),.int .i64 0])/\Hid (∃(R:zbh) (pv nv rv:Value) (tbs:List Nat) (lo:Nat),zrd lo w.heap.size w' rb t2 (zah cs2) R pv nv rv tbs/\Told t2 (zah cs2) R/\zct (t2.map (·.arity)) R=E/\R.rounds=ll)/\Hid (Below W2.heap.size W2 w')/\w'.cell? ⟨db,0,none⟩=some (.pointer (some ⟨pb,0,none⟩))/\db < w'.heap.size):=fun W W2 qb hb hq hb2=>by
     refine(HR2.out W W2 qb hb hq hb2).mono ?_
     intro e w' q
     rw[hB] at q
     obtain⟨R,rb,pv,nv,rv,tbs,q1,q2,q3,q4,q5,q6,q7,q8,q9⟩:=q
     exact⟨rb,q2,⟨R,pv,nv,rv,tbs,_,q3,h2.told q4 q5 hB q8,q5,q6⟩,q9,HCEL.out w' (zae (zae hb hb2 (Nat.le_refl _)) q9 (Nat.le_refl _))⟩
    have HAK:Hid (∀ W1 W2 W3 qb rb sb,Below w.heap.size w W1->zg7 w.heap.size W1 qb cs2 t2->Below W1.heap.size W1 W2->Below W2.heap.size W2 W3->(∃(R:zbh) (pv nv rv:Value) (tbs:List Nat) (lo:Nat),zrd lo lp W2 rb t (zah cs) R pv nv rv tbs/\Told t (zah cs) R/\zct (t.map (·.arity)) R=D/\R.rounds=kk)->(∃(R:zbh) (pv nv rv:Value) (tbs:List Nat) (lo:Nat),zrd lo w.heap.size W3 sb t2 (zah cs2) R pv nv rv tbs/\Told t2 (zah cs2) R/\zct (t2.map (·.arity)) R=E/\R.rounds=ll)->Calls Tryz.prog 35 #[.pointer (some ⟨pb,0,none⟩),.pointer (some ⟨rb,0,none⟩),.pointer (some ⟨qb,0,none⟩),.pointer (some ⟨sb,0,none⟩)] W3 fun e w'=>e=.returned (.bool true)/\Hid (Below w.heap.size w w')):=fun W1 W2 W3 qb rb sb hb1 hq hb2 hb3 ⟨R,pv,nv,rv,tbs,lo,r1,r2,r3,r4⟩ ⟨R',pv',nv',rv',tbs',lo',s1,s2,s3,s4⟩=>by
     have hb13:=zae hb2 hb3 (Nat.le_refl _)
     have hbw:=zae hb1 hb13 (Nat.le_refl _)
     have hmem:∀ f,f∈za6 t (zah cs) R t.length↔f∈za6 t2 (zah cs2) R' t2.length:=fun f=>by
      rw[zmi r2,zmi s2,r3,s3]
      exact hfs f
     have hal:=yai r2 s2 hmem
     have hcnt:R.count=R'.count:=by rw[← zpv r2,← zpv s2];exact hal.1
     refine(z3i W3 pb rb qb sb cs cs2 t t2 (zah cs) (zah cs2) R R' pv nv rv pv' nv' rv' tbs tbs' (hP.below hbw) (r1.below hb3) r2 (zse r2) (hq.below hb13) s1 s2 (zse s2) hal hcnt (by omega)).mono ?_
     rintro e w' ⟨q1,q2⟩
     exact⟨q1,zae hbw q2 (Nat.le_refl _)⟩
    clear hal hA hB HR1 HR2 hd hP h h2 hs hc hfs hkl
    go_enter Tryz.func20,Tryz.ntmps20
    go_wp2_with (first|(go_at_call 19;refine HCO.out.mono ?_;rintro e w1 ⟨qb,rfl,HP1,HB1,c1,hl1⟩)|(go_at_call 35;refine(HAK.out _ _ _ _ _ _ HB1.out HP1.out HB2.out HB3.out HX2.out HX3.out).mono ?_;rintro e w4 ⟨rfl,HB4⟩)|(go_at_call 24;refine(K2.out _ _ _ HB1.out HP1.out HB2.out).mono ?_;rintro e w3 ⟨sb,rfl,HX3,HB3,c3,hl3⟩)|(go_at_call 24;refine(K1.out _ HB1.out).mono ?_;rintro e w2 ⟨rb,rfl,HX2,HB2⟩))
    go_ret
    exact⟨rfl,HB4.out⟩
 ·have hlni:(500:Int) < (s.size:Int):=by omega
  clear hd hP h hs
  go_enter Tryz.func20,Tryz.ntmps20
  go_wp2
  go_ret
  exact⟨rfl,Below.refl _ _⟩
theorem ydw{s:ByteArray}{cs:List zaa}(h5:s.size<=500)(hs:zg2 (bl s)=some (zeg signs cs))(hw:∀ c∈cs,zlb c):prW cs<=500:=by
 have hp:zda (zeg signs cs).length (zeg signs cs).length (zeg signs cs)=some cs:=zm2 signs _ _ cs (fun c hc=>⟨(hw c hc).word,(zhs signs cs).2 c hc⟩) (zhs signs cs).1
 have h1:=zuh hp
 rw[← zur] at hs
 have h2:=zn2 hs
 omega
def zfo:Bool->List UInt8->List UInt8
 |_,[]=>[]
 |inw,b::l=>if zi5 (byt b) && !inw then b::113::zfo (bLD (byt b)) l else b::zfo (bLD (byt b)) l
def yd0:List UInt8->List UInt8
 |[]=>[]
 |b::l=>b::113::l
def zg1(x:ByteArray):ByteArray:=if za1 x=true then⟨(yd0 (bl x)).toArray⟩ else x
def zqr(x:Tok):Tok:=(x.1,if x.1=2 then⟨(yd0 (bl x.2)).toArray⟩ else x.2)
def unX:List UInt8->List UInt8
 |b::_::l=>b::l
 |l=>l
def unB(x:ByteArray):ByteArray:=⟨(unX (bl x)).toArray⟩
theorem zz9(x:ByteArray):bAt x 0=hdB (bl x):=by rw[zkn];rfl
theorem z5x(l:List UInt8):bl (⟨l.toArray⟩:ByteArray)=l:=by simp[bl]
theorem z0l(x:ByteArray):za1 x=zi5 (hdB (bl x)):=by unfold za1;rw[zz9]
theorem z7e{l:List UInt8}:hdB (yd0 l)=hdB l:=by cases l <;> rfl
theorem zfs(x:ByteArray):za1 (zg1 x)=za1 x:=by
 unfold zg1
 split
 ·rename_i h
  rw[z0l,z5x,z7e,← z0l]
 ·rfl
theorem z9s{x:ByteArray}(h:za1 x=true):unB (zg1 x)=x:=by
 unfold unB zg1
 rw[if_pos h,z5x]
 have:unX (yd0 (bl x))=bl x:=by cases bl x <;> rfl
 rw[this,yc1]
theorem zhu{x:ByteArray}(h:¬ za1 x=true):zg1 x=x:=by unfold zg1;rw[if_neg h]
def zez:List Tok->Prop
 |[]=>True
 |[_]=>True
 |x::y::r=>¬ (isT x.1=true/\isT y.1=true)/\zez (y::r)
theorem zez.tail{x:Tok}{r:List Tok}(h:zez (x::r)):zez r:=by
 cases r with
 |nil=>trivial
 |cons y r=>exact h.2
theorem zez.sign{x:Tok}{r:List Tok}(hx:isT x.1=false)(h:zez r):zez (x::r):=by
 cases r with
 |nil=>trivial
 |cons y r=>exact⟨(fun q=>by rw[hx] at q;exact absurd q.1 (by decide)),h⟩
theorem zez.word{x:Tok}{r:List Tok}(hr:isT (hdK r)=false)(h:zez r):zez (x::r):=by
 cases r with
 |nil=>trivial
 |cons y r=>exact⟨(fun q=>by rw[show isT y.1=false from hr] at q;exact absurd q.2 (by decide)),h⟩
theorem zz7:∀(xs:List ByteArray) (r:List Tok),isT (hdK r)=false->zez r->zez (zlp signs xs++r)
 |[],r,_,h=>h
 |[x],r,hr,h=>zez.word hr h
 |x::y::xs,r,hr,h=>by
  have ih:=zz7 (y::xs) r hr h
  exact zez.word (r:=(6,signs.comma)::(zlp signs (y::xs)++r)) rfl (zez.sign rfl ih)
theorem zov(l:zbb)(r:List Tok)(hr:isT (hdK r)=false)(h:zez r):zez (zic signs l++r):=by
 unfold zic
 split
 ·exact zez.word hr h
 ·have:=zz7 l.args ((5,signs.shut)::r) rfl (zez.sign rfl h)
  simp only[List.cons_append,List.append_assoc,List.nil_append]
  exact zez.word (r:=(4,signs.op)::(zlp signs l.args++(5,signs.shut)::r)) rfl (zez.sign rfl this)
theorem z7w(l:zbb)(r:List Tok)(hr:isT (hdK r)=false)(h:zez r):zez (zxz signs l++r):=by
 unfold zxz
 split
 ·exact zez.sign rfl (zov l r hr h)
 ·exact zov l r hr h
theorem z0c:∀(b:List zbb) (r:List Tok),isT (hdK r)=false->zez r->zez (zi9 signs b++r)
 |[],r,_,h=>h
 |[l],r,hr,h=>z7w l r hr h
 |l::m::b,r,hr,h=>by
  have ih:=z0c (m::b) r hr h
  have e:zi9 signs (l::m::b)++r=zxz signs l++((6,signs.comma)::(zi9 signs (m::b)++r)):=by simp[zi9]
  rw[e]
  exact z7w l _ rfl (zez.sign rfl ih)
theorem z2h(c:zaa)(r:List Tok)(h:zez r):zez (clK signs c++r):=by
 have hd:zez ((7,signs.dot)::r):=zez.sign rfl h
 unfold clK
 by_cases hb:c.body=[]
 ·rw[if_pos hb]
  simp only[List.nil_append,List.append_assoc]
  exact zov _ _ rfl hd
 ·rw[if_neg hb]
  simp only[List.append_assoc,List.cons_append]
  exact zov _ _ rfl (zez.sign rfl (z0c _ _ rfl hd))
theorem z06:∀ cs:List zaa,zez (zeg signs cs)
 |[]=>trivial
 |c::cs=>by
  have:zeg signs (c::cs)=clK signs c++zeg signs cs:=by simp[zeg]
  rw[this]
  exact z2h c _ (z06 cs)
theorem zxw{a:UInt8}{x R:List UInt8}{k:Int}(hk:∀ c,zay (byt a) c=k)(h:((k=1∨k=2)/\∀ b∈a::x,bLD (byt b)=true)∨(k=3/\∀ b∈a::x,zi6 (byt b)=true))(hR:bLD (hdB R)=false):zg2 ((a::x)++R)=if 6 < (a::x).length then none else(zg2 R).map ((k,⟨(a::x).toArray⟩)::·):=by
 have hLD:bLD (byt a)=true:=by
  rcases h with ⟨_,h⟩|⟨_,h⟩
  ·exact h a (by simp)
  ·simp[bLD,h a (by simp)]
 have hbl:zgz (byt a)=false:=by
  simp only[bLD,zei,zi5,zi6,Bool.or_eq_true,Bool.and_eq_true,decide_eq_true_eq] at hLD
  simp only[zgz,Bool.or_eq_false_iff,beq_eq_false_iff_ne]
  omega
 have hdig:zi6 (hdB R)=false:=by
  simp only[bLD,Bool.or_eq_false_iff] at hR
  exact hR.2
 have hlen:zgk (a::(x++R)) k=(a::x).length:=by
  unfold zgk
  rcases h with ⟨hk12,h⟩|⟨hk3,h⟩
  ·rw[if_neg (by omega),if_pos hk12,← List.cons_append,zij h (fun b l e=>by subst e;exact hR)]
  ·rw[if_neg (by omega),if_neg (by omega),if_pos hk3,← List.cons_append,zij h (fun b l e=>by subst e;exact hdig)]
 have hk0:k≠0:=by rcases h with ⟨h,_⟩|⟨h,_⟩ <;> omega
 have e1:(a::(x++R)).drop (a::x).length=R:=by rw[← List.cons_append];simp
 have e2:(a::(x++R)).take (a::x).length=a::x:=by rw[← List.cons_append];simp
 rw[List.cons_append,zfj,hk,hlen,e1,e2,if_neg (by rw[hbl];simp),if_neg hk0]
theorem z8z:∀(x R:List UInt8),(∀ b∈x,bLD (byt b)=true)->zfo true (x++R)=x++zfo true R
 |[],R,_=>rfl
 |b::x,R,h=>by
  rw[List.cons_append,zfo]
  simp only[Bool.not_true,Bool.and_false,Bool.false_eq_true,if_false]
  rw[h b (by simp),z8z x R (fun c hc=>h c (by simp[hc]))]
  rfl
theorem ybn{R:List UInt8}(h:bLD (hdB R)=false):zfo true R=zfo false R:=by
 cases R with
 |nil=>rfl
 |cons b l =>
  have hc:zi5 (byt b)=false:=by
   have:bLD (byt b)=false:=h
   simp only[bLD,Bool.or_eq_false_iff] at this
   exact this.1.2
  simp only[zfo,hc,Bool.false_and]
theorem z8y(i:Bool)(R:List UInt8):hdB (zfo i R)=hdB R:=by
 cases R with
 |nil=>rfl
 |cons b l=>unfold zfo;split <;> rfl
theorem zqz{c:Int}(h:zei c=true):zi5 c=false:=by
 simp only[zei,Bool.and_eq_true,decide_eq_true_eq] at h
 simp only[zi5,Bool.and_eq_false_iff,decide_eq_false_iff_not]
 omega
theorem yc6{c:Int}(h:zi6 c=true):zi5 c=false:=by
 simp only[zi6,Bool.and_eq_true,decide_eq_true_eq] at h
 simp only[zi5,Bool.and_eq_false_iff,decide_eq_false_iff_not]
 omega
theorem zsg{b:UInt8}{r:List UInt8}{ts:List Tok}(hb:bLD (byt b)=true)(h:zg2 (b::r)=some ts):isT (hdK ts)=true:=by
 have hbl:zgz (byt b)=false:=by
  simp only[bLD,zei,zi5,zi6,Bool.or_eq_true,Bool.and_eq_true,decide_eq_true_eq] at hb
  simp only[zgz,Bool.or_eq_false_iff,beq_eq_false_iff_ne]
  omega
 rw[zfj,if_neg (by rw[hbl];simp)] at h
 split at h
 ·cases h
 ·split at h
  ·cases h
  ·obtain⟨us,_,rfl⟩:=Option.map_eq_some_iff.1 h
   show isT (zay (byt b) (hdB r))=true
   unfold zay
   simp only[bLD,Bool.or_eq_true] at hb
   split
   ·rfl
   ·split
    ·rfl
    ·split
     ·rfl
     ·rename_i q1 q2 q3
      exact absurd hb (by simp[q1,q2,q3])
theorem zkk:∀(m:Nat) (l:List UInt8) (ts ts2:List Tok),l.length<=m->zg2 l=some ts->zez ts->zg2 (zfo false l)=some ts2->ts2=ts.map zqr
 |_,[],ts,ts2,_,h,_,h2=>by
  simp only[splitF_nil,Option.some.injEq] at h
  simp only[zfo,splitF_nil,Option.some.injEq] at h2
  subst h h2
  rfl
 |0,_::_,_,_,h,_,_,_=>by simp at h
 |m+1,a::l,ts,ts2,h,hs,hn,h2=>by
  simp only[List.length_cons] at h
  rw[zfj] at hs
  by_cases hbl:zgz (byt a)=true
  ·rw[if_pos hbl] at hs
   have e:zfo false (a::l)=a::zfo false l:=by
    have hLD:bLD (byt a)=false:=by
     simp only[zgz,Bool.or_eq_true,beq_iff_eq] at hbl
     simp only[bLD,zei,zi5,zi6,Bool.or_eq_false_iff,Bool.and_eq_false_iff,decide_eq_false_iff_not]
     omega
    have hc:zi5 (byt a)=false:=by
     simp only[bLD,Bool.or_eq_false_iff] at hLD
     exact hLD.1.2
    simp only[zfo,hc,hLD,Bool.false_and,Bool.false_eq_true,if_false]
   rw[e,zfj,if_pos hbl] at h2
   exact zkk m l ts ts2 (by omega) hs hn h2
  ·rw[if_neg hbl] at hs
   split at hs
   ·cases hs
   ·rename_i hk
    split at hs
    ·cases hs
    ·obtain⟨us,hu,rfl⟩:=Option.map_eq_some_iff.1 hs
     have hp:=zmp (l:=l) hk
     have hle:=ydx hk
     have hd:((a::l).drop (zgk (a::l) (zay (byt a) (hdB l)))).length<=m:=by rw[List.length_drop];simp;omega
     by_cases hw:isT (zay (byt a) (hdB l))=true
     ·have hstop:bLD (hdB ((a::l).drop (zgk (a::l) (zay (byt a) (hdB l)))))=false:=by
       cases hr:(a::l).drop (zgk (a::l) (zay (byt a) (hdB l))) with
       |nil=>rfl
       |cons b r =>
        rw[hr] at hu
        cases hb:bLD (hdB (b::r)) with
        |false=>rfl
        |true =>
         exfalso
         have:=zsg hb hu
         cases us with
         |nil=>cases this
         |cons u us=>exact hn.1 ⟨hw,this⟩
      have hsplit:(a::l)=(a::l).take (zgk (a::l) (zay (byt a) (hdB l)))++(a::l).drop (zgk (a::l) (zay (byt a) (hdB l))):=(List.take_append_drop _ _).symm
      have hkc:∀ c,zay (byt a) c=zay (byt a) (hdB l):=by
       intro c
       unfold zay at hw ⊢
       split
       ·rfl
       ·split
        ·rfl
        ·split
         ·rfl
         ·rename_i q1 q2 q3
          rw[if_neg q1,if_neg q2,if_neg q3] at hw
          split at hw
          ·simp[isT] at hw
          ·unfold zi8 at hw
           (repeat' split at hw) <;> simp[isT] at hw
      have hall:(((zay (byt a) (hdB l))=1∨(zay (byt a) (hdB l))=2)/\∀ b∈(a::l).take (zgk (a::l) (zay (byt a) (hdB l))),bLD (byt b)=true)∨((zay (byt a) (hdB l))=3/\∀ b∈(a::l).take (zgk (a::l) (zay (byt a) (hdB l))),zi6 (byt b)=true):=by
       have h123:zay (byt a) (hdB l)=1∨zay (byt a) (hdB l)=2∨zay (byt a) (hdB l)=3:=by
        simp only[isT,Bool.or_eq_true,beq_iff_eq] at hw
        omega
       rcases h123 with e|e|e
       ·left
        rw[e,show zgk (a::l) 1=((a::l).takeWhile fun b=>bLD (byt b)).length from rfl,zhd]
        exact⟨Or.inl rfl,fun b hb=>zhq (p:=fun b=>bLD (byt b)) hb⟩
       ·left
        rw[e,show zgk (a::l) 2=((a::l).takeWhile fun b=>bLD (byt b)).length from rfl,zhd]
        exact⟨Or.inr rfl,fun b hb=>zhq (p:=fun b=>bLD (byt b)) hb⟩
       ·right
        rw[e,show zgk (a::l) 3=((a::l).takeWhile fun b=>zi6 (byt b)).length from rfl,zhd]
        exact⟨rfl,fun b hb=>zhq (p:=fun b=>zi6 (byt b)) hb⟩
      have htk:∃ x,(a::l).take (zgk (a::l) (zay (byt a) (hdB l)))=a::x:=by
       obtain⟨n,hn⟩:∃ n,zgk (a::l) (zay (byt a) (hdB l))=n+1:=⟨zgk (a::l) (zay (byt a) (hdB l)) - 1,by omega⟩
       rw[hn]
       exact⟨l.take n,rfl⟩
      obtain⟨x,hx⟩:=htk
      rw[hx] at hsplit hall ⊢
      generalize (a::l).drop (zgk (a::l) (zay (byt a) (hdB l)))=R at hu hd hstop hsplit
      generalize zay (byt a) (hdB l)=k at *
      rw[hsplit] at h2
      have hLDx:∀ b∈a::x,bLD (byt b)=true:=by
       rcases hall with ⟨_,q⟩|⟨_,q⟩
       ·exact q
       ·intro b hb;simp[bLD,q b hb]
      have hR2:bLD (hdB (zfo false R))=false:=by rw[z8y];exact hstop
      have hrest:zfo true (x++R)=x++zfo false R:=by rw[z8z x R (fun b hb=>hLDx b (by simp[hb])),ybn hstop]
      by_cases hcap:zi5 (byt a)=true
      ·have hk2:k=2:=by
        rw[← hkc 0]
        unfold zay
        rw[if_neg,if_pos hcap]
        intro q
        rw[zqz q] at hcap
        cases hcap
       have e:zfo false (a::x++R)=(a::(113::x))++zfo false R:=by
        rw[List.cons_append,zfo]
        simp only[hcap,hLDx a (by simp),Bool.not_false,Bool.and_self,if_true]
        rw[hrest]
        rfl
       have hall2:((k=1∨k=2)/\∀ b∈a::113::x,bLD (byt b)=true)∨(k=3/\∀ b∈a::113::x,zi6 (byt b)=true):=by
        left
        refine⟨Or.inr hk2,fun b hb=>?_⟩
        rcases List.mem_cons.1 hb with rfl|hb
        ·exact hLDx _ (by simp)
        ·rcases List.mem_cons.1 hb with rfl|hb
         ·decide
         ·exact hLDx b (by simp[hb])
       rw[e,zxw hkc hall2 hR2] at h2
       split at h2
       ·cases h2
       ·obtain⟨vs,hv,rfl⟩:=Option.map_eq_some_iff.1 h2
        rw[zkk m R us vs hd hu hn.tail hv]
        show _=zqr _::us.map zqr
        congr 1
        unfold zqr
        simp only[hk2,if_true]
        rw[z5x]
        rfl
      ·have e:zfo false (a::x++R)=(a::x)++zfo false R:=by
        rw[List.cons_append,zfo]
        simp only[hcap,hLDx a (by simp),Bool.false_and,Bool.false_eq_true,if_false]
        rw[hrest]
        rfl
       have hk2:k≠2:=by
        rw[← hkc 0]
        unfold zay
        split
        ·decide
        ·split
         ·decide
         ·split
          ·decide
          ·unfold zi8;(repeat' split) <;> decide
       rw[e,zxw hkc hall hR2] at h2
       split at h2
       ·cases h2
       ·obtain⟨vs,hv,rfl⟩:=Option.map_eq_some_iff.1 h2
        rw[zkk m R us vs hd hu hn.tail hv]
        show _=zqr _::us.map zqr
        congr 1
        unfold zqr
        simp only[if_neg hk2]
     ·have hLD:bLD (byt a)=false:=by
       cases hq:bLD (byt a) with
       |false=>rfl
       |true =>
        exfalso
        apply hw
        have hs2:zg2 (a::l)=some ((zay (byt a) (hdB l),⟨((a::l).take (zgk (a::l) (zay (byt a) (hdB l)))).toArray⟩)::us):=by
         rw[zfj,if_neg hbl,if_neg hk]
         rename_i h6
         rw[if_neg h6,hu]
         rfl
        exact zsg hq hs2
      have hcap:zi5 (byt a)=false:=by
       simp only[bLD,Bool.or_eq_false_iff] at hLD
       exact hLD.1.2
      have e:zfo false (a::l)=a::zfo false l:=by
       simp only[zfo,hcap,hLD,Bool.false_and,Bool.false_eq_true,if_false]
      have hkk:zay (byt a) (hdB (zfo false l))=zay (byt a) (hdB l):=by rw[z8y]
      have hk2:¬ zay (byt a) (hdB l)=2:=by intro q;rw[q] at hw;exact hw rfl
      have hk9:zay (byt a) (hdB l)≠1/\zay (byt a) (hdB l)≠3:=⟨by intro q;rw[q] at hw;exact hw rfl,by intro q;rw[q] at hw;exact hw rfl⟩
      have hlen:zgk (a::zfo false l) (zay (byt a) (hdB l))=zgk (a::l) (zay (byt a) (hdB l)):=by
       unfold zgk
       split
       ·rfl
       ·rw[if_neg (by omega),if_neg hk9.2,if_neg (by omega),if_neg hk9.2]
      have hcut:(a::zfo false l).take (zgk (a::l) (zay (byt a) (hdB l)))=(a::l).take (zgk (a::l) (zay (byt a) (hdB l)))/\(a::zfo false l).drop (zgk (a::l) (zay (byt a) (hdB l)))=zfo false ((a::l).drop (zgk (a::l) (zay (byt a) (hdB l)))):=by
       by_cases h9:zay (byt a) (hdB l)=9
       ·rw[h9,show zgk (a::l) 9=2 from rfl]
        have hn45:hdB l=45:=by
         unfold zay at h9
         (repeat' split at h9) <;> first|(rename_i q;exact q.2)|omega|(unfold zi8 at h9;(repeat' split at h9) <;> omega)
        cases l with
        |nil=>cases hn45
        |cons b l =>
         have hb:byt b=45:=hn45
         have hbc:zi5 (byt b)=false/\bLD (byt b)=false:=by rw[hb];decide
         simp only[zfo,hbc.1,hbc.2,Bool.false_and,Bool.false_eq_true,if_false]
         exact⟨rfl,rfl⟩
       ·have h1:zgk (a::l) (zay (byt a) (hdB l))=1:=by
         unfold zgk
         rw[if_neg h9,if_neg (by omega),if_neg hk9.2]
        rw[h1]
        exact⟨rfl,rfl⟩
      rw[e,zfj,if_neg hbl,hkk,hlen,if_neg hk,hcut.1,hcut.2] at h2
      split at h2
      ·cases h2
      ·obtain⟨vs,hv,rfl⟩:=Option.map_eq_some_iff.1 h2
       rw[zkk m _ us vs hd hu hn.tail hv]
       show _=zqr _::us.map zqr
       congr 1
       unfold zqr
       simp only[if_neg hk2]
end Go.Proofs.YteampbddflhngabGreat
