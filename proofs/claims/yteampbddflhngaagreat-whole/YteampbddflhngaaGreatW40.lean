import Derived.Test.YteampbddflhngaaGreatW39
import Derived.Test.YteampbddflhngaaGreatW33
import Derived.Test.YteampbddflhngaaGreatW34
import Derived.Test.YteampbddflhngaaGreatW32
import Derived.Test.YteampbddflhngaaGreatW08

namespace Go.Proofs.YteampbddflhngaaGreat
variable {cs:List zab}{t t0:List zar}{c:zab}{vs:List ByteArray}
structure Parts (cs:List zab) (t0 t:List zar):Prop where
 few:prW cs<=500
 many:∀ c∈cs,zem c=false
 coll:zgm cs=some t0
 tab:Tab t0 (cs.flatMap za2)
 safe:∀ c∈cs,ze7 c=true
 jl:zc0 (t0.length+1) t0 cs=(t,true)
theorem z81{s:ByteArray}(h:znz s=.ok (cs,t)):∃ t0,Parts cs t0 t:=by
 unfold znz at h
 split at h
 ·cases h
 ·rename_i hs
  split at h
  ·cases h
  ·rename_i tl hS
   split at h
   ·cases h
   ·rename_i cs2 hP
    split at h
    ·cases h
    ·rename_i hm
     split at h
     ·cases h
     ·rename_i t0 hC
      split at h
      ·rename_i hsafe
       split at h
       ·rename_i hst
        simp only[Except.ok.injEq,uak] at h
        obtain⟨rfl,rfl⟩:=h
        refine⟨t0,?_,fun c hc=>?_,hC,zvt hC,fun c hc=>List.all_eq_true.1 hsafe c hc,?_⟩
        ·have h1:=zwj hP
         have h2:=zq2 hS
         omega
        ·cases hq:zem c with
         |false=>rfl
         |true=>exact absurd (ub4.2 ⟨c,hc,hq⟩) hm
        ·rw[← hst]
       ·cases h
      ·cases h
def arT(t:List zar):List (ByteArray × Nat):=t.map fun e=>(e.name,e.je)
theorem z08(t:List zar)(n:ByteArray)(s:Nat):arT (zcc t n s).1=arT t:=by
 unfold zcc
 split
 ·rfl
 ·rename_i e he
  split
  ·rfl
  ·obtain⟨hk,h1,h2⟩:=zch he
   unfold arT
   refine ubg (by simp) fun i h3 h4=>?_
   simp only[uaw,ucb]
   split
   ·rename_i e2
    subst e2
    rw[h1]
   ·rfl
theorem z07:∀(cs:List zab) (x:List zar × Bool),arT (cs.foldl zes x).1=arT x.1
 |[],_=>rfl
 |c::cs,x=>by
  rw[uax,z07 cs]
  exact z08 _ _ _
theorem ziu:∀(m:Nat) (t:List zar) (cs:List zab),arT (zc0 m t cs).1=arT t
 |0,_,_=>rfl
 |m+1,t,cs=>by
  have h1:arT (zb5 t cs).1=arT t:=z07 cs (t,false)
  unfold zc0
  split
  ·rw[ziu m,h1]
  ·exact h1
theorem zsq{t':List zar}(h:arT t=arT t'):namesT t=namesT t':=by
 have:=congrArg (List.map Prod.fst) h
 simpa [arT,namesT,Function.comp_def] using this
theorem Parts.lit(h:Parts cs t0 t)(hc:c∈cs){l:zbu}(hl:l∈za2 c):∃ e,zbh t l.pred=some e/\e.name=l.pred/\zbd t l.pred < t.length/\(t.map (·.je)).getD (zbd t l.pred) 0=l.args.length/\zbd t l.pred=zai t l.pred:=by
 have hAr:arT t=arT t0:=by have:=ziu (t0.length+1) t0 cs;rw[h.jl] at this;exact this
 have hmem:l∈cs.flatMap za2:=ubo.2 ⟨c,hc,hl⟩
 have hin0:(zbh t0 l.pred).isSome=true:=by
  cases he:zbh t0 l.pred with
  |some e=>rfl
  |none =>
   obtain⟨e,hm,hn⟩:=uai.1 ((h.tab.names l.pred).2 ⟨l,hmem,rfl⟩)
   exact absurd hn (zkz h.tab.rise he e hm)
 have hin:(zbh t l.pred).isSome=true:=(zmq (zsq hAr).symm _).1 hin0
 obtain⟨e,he⟩:=ubf.1 hin
 obtain⟨hk,h1,h2⟩:=zch he
 have hfn:zbd t l.pred=zai t l.pred:=by unfold zbd;rw[if_pos hin]
 refine⟨e,he,h2,by rw[hfn];exact hk,?_,hfn⟩
 rw[hfn]
 have e1:(t.map (·.je)).getD (zai t l.pred) 0=e.je:=by simp[List.getD,hk,h1]
 rw[e1]
 have hpair:(e.name,e.je)∈arT t0:=by
  rw[← hAr]
  exact uai.2 ⟨e,by rw[← h1];exact uad hk,rfl⟩
 obtain⟨e0,m1,m2⟩:=uai.1 hpair
 simp only[uak] at m2
 rw[← m2.2]
 exact(h.tab.je e0 m1 l hmem (by rw[m2.1,h2])).symm
theorem Parts.sol(h:Parts cs t0 t):Sol cs (val t):=by
 have hall:zlu t0 cs:=by
  intro c hc l hl
  have hmem:l∈cs.flatMap za2:=ubo.2 ⟨c,hc,hl⟩
  cases he:zbh t0 l.pred with
  |some e=>rfl
  |none =>
   obtain⟨e,hm,hn⟩:=uai.1 ((h.tab.names l.pred).2 ⟨l,hmem,rfl⟩)
   exact absurd hn (zkz h.tab.rise he e hm)
 have:=zlq (t0.length+1) t0 cs hall (by rw[h.jl])
 rw[h.jl] at this
 exact this
theorem zja(t:List zar)(n:ByteArray):zdv t n=val t n:=rfl
theorem z5r{a b:ByteArray}{ea eb:zar}(h1:zbh t a=some ea)(h2:zbh t b=some eb)(e:zai t a=zai t b):a=b:=by
 obtain⟨ka,a1,a2⟩:=zch h1
 obtain⟨kb,b1,b2⟩:=zch h2
 have:ea=eb:=by rw[← a1,← b1];simp[e]
 rw[← a2,← b2,this]
theorem zfd(p:Nat)(ts:List zbn)(x:zbn):(zc3 p ts x).var=x.var/\(zc3 p ts x).num=x.num:=by unfold zc3;split <;> exact⟨rfl,rfl⟩
theorem zru(t:List zar)(ns vs:List ByteArray)(pl:List Nat)(l:zbu)(p:Nat):zde (zdf t ns vs pl l) p=zde ⟨0,za5 ns vs pl l⟩ p:=by
 unfold zde zdf
 simp only[List.any_map]
 congr 1
 funext x
 simp only[Function.comp,(zfd 0 _ x).1,(zfd 0 _ x).2]
theorem zzv(t:List zar)(ns vs:List ByteArray)(pl:List Nat)(l:zbu)(p:Nat):zbq (zdf t ns vs pl l) p=zbq ⟨0,za5 ns vs pl l⟩ p:=by
 unfold zbq
 rw[zru,show zde (zdf t ns vs pl l)=zde ⟨0,za5 ns vs pl l⟩ from funext (zru t ns vs pl l)]
theorem z4k(ns:List ByteArray)(x:ByteArray):(zco ns x).getD 0 < za4 ns.length:=by
 unfold zco za4
 split
 ·rename_i h
  simp only[uas]
  split <;> omega
 ·simp only[ubh]
  split <;> omega
theorem zrv(t:List zar)(ns vs:List ByteArray)(pl:List Nat)(l:zbu)(hp:∀ k,pl.getD k 0 < 5)(h3:l.args.length<=3):zhh (zdf t ns vs pl l) l.args.length (za4 ns.length):=by
 have hterm:∀ x∈(zdf t ns vs pl l).qf,∃ y∈l.args,x=zc3 0 (za5 ns vs pl l) (zfp ns vs pl y)/\zfp ns vs pl y∈za5 ns vs pl l:=by
  intro x hx
  unfold zdf at hx
  simp only[uai] at hx
  obtain⟨z,hz,rfl⟩:=hx
  have hz':=hz
  unfold za5 at hz
  obtain⟨y,hy,rfl⟩:=uai.1 hz
  exact⟨y,hy,rfl,hz'⟩
 refine⟨by simp[zdf,za5],h3,fun x hx hv=>?_,fun x hx hv=>?_⟩
 ·obtain⟨y,hy,rfl,hm⟩:=hterm x hx
  obtain⟨e1,e2⟩:=zfd 0 (za5 ns vs pl l) (zfp ns vs pl y)
  rw[e1] at hv
  rw[e2,zzv]
  refine⟨?_,?_⟩
  ·unfold zfp at hv ⊢
   split
   ·unfold zdg
    split
    ·exact Nat.lt_of_sub_eq_succ rfl
    ·split
     ·exact Nat.lt_of_sub_eq_succ rfl
     ·exact hp _
   ·rename_i hn
    rw[if_neg hn] at hv
    cases hv
  ·have hh:zde ⟨0,za5 ns vs pl l⟩ (zfp ns vs pl y).num=true:=(zfg _ _).2 ⟨_,hm,hv,rfl⟩
   unfold zc3
   rw[if_pos hv]
   simp only
   unfold zbq
   rw[if_pos hh]
   rfl
 ·obtain⟨y,hy,rfl,hm⟩:=hterm x hx
  obtain⟨e1,e2⟩:=zfd 0 (za5 ns vs pl l) (zfp ns vs pl y)
  rw[e1] at hv
  rw[e2]
  unfold zfp at hv ⊢
  split
  ·rename_i hn
   rw[if_pos hn] at hv
   cases hv
  ·exact z4k ns y
theorem zof{ns:List ByteArray}{pl:List Nat}{l:zbu}{p:Nat}:zde (zdf t ns vs pl l) p=true↔∃ y∈l.args,za8 y=true/\zdg vs pl y=p:=by
 rw[zru,zfg]
 constructor
 ·rintro⟨x,hx,h1,h2⟩
  unfold za5 at hx
  obtain⟨y,hy,rfl⟩:=uai.1 hx
  unfold zfp at h1 h2
  by_cases hv:za8 y=true
  ·rw[if_pos hv] at h2
   exact⟨y,hy,hv,h2⟩
  ·rw[if_neg hv] at h1;cases h1
 ·rintro⟨y,hy,hv,e⟩
  refine⟨zfp ns vs pl y,uai.2 ⟨y,hy,rfl⟩,?_,?_⟩
  ·unfold zfp;rw[if_pos hv]
  ·unfold zfp;rw[if_pos hv];exact e
theorem zyp(h:vs.Nodup)(x:ByteArray):(zsd vs x).Nodup:=by
 unfold zsd
 split
 ·rename_i hc
  simp only[ubb,Bool.not_eq_true'] at hc
  rw[List.nodup_append]
  refine⟨h,by simp,fun a ha b hb=>?_⟩
  simp at hb
  subst hb
  rintro rfl
  rw[zf4.2 ha] at hc
  cases hc.2
 ·exact h
theorem znt:∀(args vs:List ByteArray),vs.Nodup->(ze0 vs args).Nodup
 |[],_,h=>h
 |x::r,vs,h=>znt r (zsd vs x) (zyp h x)
theorem zlk(c:zab):(zaf c).Nodup:=by
 have:∀(ls:List zbu) (vs:List ByteArray),vs.Nodup->(ls.foldl zer vs).Nodup:=by
  intro ls
  induction ls with
  |nil=>intro vs h;exact h
  |cons l ls ih =>
   intro vs h
   rw[uax]
   refine ih _ ?_
   unfold zer
   split
   ·exact h
   ·exact znt _ _ h
 exact this c.body [] List.nodup_nil
theorem zma{α:Type}[DecidableEq α]:∀ {l1 l2:List α},l1.Nodup->(∀ x∈l1,x∈l2)->l1.length<=l2.length
 |[],l2,_,_=>by simp
 |a::l1,l2,hn,hs=>by
  have ha:=hs a (by simp)
  have h1:=zma (l1:=l1) (l2:=l2.erase a) (ubk.1 hn).2 (fun x hx=>by
   have hne:x≠a:=by rintro rfl;exact(ubk.1 hn).1 hx
   exact(uci hne).2 (hs x (by simp[hx])))
  rw[ucd ha] at h1
  have:=ub9 ha
  simp;omega
theorem zmu:∀ {l:List ByteArray} (_:l.Nodup) {k:Nat} (hk:k < l.length),zbi l l[k]=some k
 |y::r,hn,0,_=>by simp[zbi]
 |y::r,hn,k+1,hk=>by
  have hk':k < r.length:=by simpa using hk
  have hne:y≠r[k]:=by
   rintro e
   exact(ubk.1 hn).1 (e ▸ uad hk')
  simp only[ub8,zbi,if_neg hne,zmu (ubk.1 hn).2 hk',ubp]
theorem zh9:∀ {ps:List ByteArray} {n:ByteArray},n∈ps->∃ k,k < ps.length/\zbi ps n=some k:=fun{ps n} h=>by
 have:(zbi ps n).isSome=true:=by rw[zkl];exact zf4.2 h
 obtain⟨k,hk⟩:=ubf.1 this
 obtain⟨h1,_⟩:=zi6 hk
 exact⟨k,h1,hk⟩
theorem zfu(h:zem c=false):c.head.args.length<=3/\c.body.length<=6/\(∀ l∈c.body,l.args.length<=3)/\(zj7 c).length<=5:=by
 simp only[zem,uc3,decide_eq_false_iff_not,List.any_eq_false,decide_eq_true_eq] at h
 obtain⟨⟨⟨h1,h2⟩,h3⟩,h4⟩:=h
 exact⟨by omega,by omega,fun l hl=>by have:=h3 l hl;omega,by omega⟩
theorem zga(h:zem c=false):(zaf c).length<=5:=by
 have h1:=(zfu h).2.2.2
 have:=zma (zlk c) (l2:=zj7 c) (fun x hx=>by
  obtain⟨a,l,b,_,d⟩:=zh6.1 hx
  exact z2z.2 ⟨a,Or.inr ⟨l,b,d⟩⟩)
 omega
structure zin (pl:List Nat) (k:Nat):Prop where
 five:∀ i,pl.getD i 0 < 5
 low:∀ i,i < k->pl.getD i 0 < k
 onto:∀ p,p < k->∃ i,i < k/\pl.getD i 0=p
theorem z6v(h:Parts cs t0 t)(hc:c∈cs)(ns:List ByteArray)(o:Option (List Int))(hp:zin (za6 (o.getD [])) (zaf c).length):znn (zln t ns c o) (t.map (·.je)) (za4 ns.length):=by
 have hm:=h.many c hc
 obtain⟨m1,m2,m3,m4⟩:=zfu hm
 have h5:=zga hm
 have hs:=h.safe c hc
 simp only[ze7,ubb,List.all_eq_true,Bool.or_eq_true,Bool.not_eq_true'] at hs
 have hplace:∀ {l:zbu} {p:Nat},(∀ y∈l.args,za8 y=true->y∈zaf c)->zde (zdf t ns (zaf c) (za6 (o.getD [])) l) p=true->p < (zaf c).length:=by
  intro l p hv hh
  obtain⟨y,y1,y2,y3⟩:=zof.1 hh
  obtain⟨k,k1,k2⟩:=zh9 (hv y y1 y2)
  unfold zdg at y3
  rw[k2] at y3
  simp only at y3
  rw[if_neg (by omega)] at y3
  rw[← y3]
  exact hp.low k k1
 have hvhead:∀ y∈c.head.args,za8 y=true->y∈zaf c:=ziv.1 hs.1
 have hvbody:∀ l∈c.body,∀ y∈l.args,za8 y=true->y∈zaf c:=by
  intro l hl y hy hv
  cases hn:l.neg with
  |false=>exact zh6.2 ⟨hv,l,hl,hn,hy⟩
  |true =>
   rcases hs.2 l hl with q|q
   ·rw[hn] at q;cases q
   ·exact ziv.1 q y hy hv
 have hlit:∀ l∈c.body,(zdf t ns (zaf c) (za6 (o.getD [])) l).pred < (t.map (·.je)).length/\zhh (zdf t ns (zaf c) (za6 (o.getD [])) l) ((t.map (·.je)).getD (zdf t ns (zaf c) (za6 (o.getD [])) l).pred 0) (za4 ns.length):=by
  intro l hl
  obtain⟨e,_,_,q3,q4,_⟩:=h.lit hc (l:=l) (by simp[za2,hl])
  refine⟨by simpa [zdf] using q3,?_⟩
  show zhh _ ((t.map (·.je)).getD (zbd t l.pred) 0) _
  rw[q4]
  exact zrv t ns _ _ l hp.five (m3 l hl)
 obtain⟨e,_,_,q3,q4,_⟩:=h.lit hc (l:=c.head) (by simp[za2])
 refine⟨⟨h5,fun l hl=>?_,fun l hl p hh=>?_,fun l hl p hh=>?_,fun p hh=>hplace hvhead hh,fun p hpp=>?_⟩,by simpa [zln,zdf] using q3,?_,fun l hl=>?_,fun l hl=>?_⟩
 ·obtain⟨x,hx,rfl⟩:=uai.1 hl
  have:=(hlit x (uay.1 hx).1).2
  have:=m3 x (uay.1 hx).1
  simp[zdf,za5];omega
 ·obtain⟨x,hx,rfl⟩:=uai.1 hl
  exact hplace (hvbody x (uay.1 hx).1) hh
 ·obtain⟨x,hx,rfl⟩:=uai.1 hl
  exact hplace (hvbody x (uay.1 hx).1) hh
 ·obtain⟨i,i1,i2⟩:=hp.onto p hpp
  have hmem:=uad i1
  obtain⟨v1,l,v2,v3,v4⟩:=zh6.1 hmem
  refine⟨_,uai.2 ⟨l,uay.2 ⟨v2,by simp[v3]⟩,rfl⟩,zof.2 ⟨_,v4,v1,?_⟩⟩
  unfold zdg
  rw[zmu (zlk c) i1]
  simp only
  rw[if_neg (by omega)]
  exact i2
 ·show zhh _ ((t.map (·.je)).getD (zbd t c.head.pred) 0) _
  rw[q4]
  exact zrv t ns _ _ c.head hp.five m1
 ·obtain⟨x,hx,rfl⟩:=uai.1 hl
  exact hlit x (uay.1 hx).1
 ·obtain⟨x,hx,rfl⟩:=uai.1 hl
  exact hlit x (uay.1 hx).1
theorem z3z(h:Parts cs t0 t)(ns:List ByteArray)(os:Option (List (Option (List Int))))(hp:∀ i (hi:i < cs.length),zin (za6 ((zd2 os i).getD [])) (zaf cs[i]).length):z4y (zjv t ns os cs):=by
 have harr:∀ a∈t.map (·.je),a<=3:=by
  intro a ha
  obtain⟨e,he,rfl⟩:=uai.1 ha
  have hAr:arT t=arT t0:=by have:=ziu (t0.length+1) t0 cs;rw[h.jl] at this;exact this
  have hpair:(e.name,e.je)∈arT t0:=by rw[← hAr];exact uai.2 ⟨e,he,rfl⟩
  obtain⟨e0,m1,m2⟩:=uai.1 hpair
  simp only[uak] at m2
  obtain⟨l,l1,l2⟩:=(h.tab.names e0.name).1 (uai.2 ⟨e0,m1,rfl⟩)
  have:=h.tab.je e0 m1 l l1 l2
  obtain⟨c,hc,hl⟩:=ubo.1 l1
  obtain⟨q1,_,q3,_⟩:=zfu (h.many c hc)
  rw[← m2.2,← this]
  rcases uag.1 hl with rfl|hl
  ·exact q1
  ·exact q3 l hl
 have hW:0 < za4 ns.length:=by unfold za4;split <;> omega
 have hrule:∀ r∈zet t ns os cs,∃ i,∃ hi:i < cs.length,0 < cs[i].body.length/\r=zln t ns cs[i] (zd2 os i):=by
  intro r hr
  unfold zet at hr
  obtain⟨⟨c,i⟩,h1,h2⟩:=ub7.1 hr
  have h3:=ub1.1 h1
  simp only at h2 h3
  obtain⟨hi,rfl⟩:=uat.1 h3
  split at h2
  ·rename_i hb
   simp only[uab] at h2
   exact⟨i,hi,hb,h2.symm⟩
  ·cases h2
 refine⟨harr,fun f hf=>?_,fun r hr=>?_,fun r hr r' hr' hst l hl=>?_⟩
 ·have hf':f∈zeq t ns cs:=hf
  unfold zeq at hf'
  obtain⟨c,hc,rfl⟩:=uai.1 hf'
  have hcm:=(uay.1 hc).1
  obtain⟨e,_,_,q3,q4,_⟩:=h.lit hcm (l:=c.head) (by simp[za2])
  have hwf:zhh (zdf t ns [] [0,0,0,0,0] c.head) c.head.args.length (za4 ns.length):=zrv t ns [] _ c.head (fun k=>by
   by_cases hk:k < 5
   ·have:k=0∨k=1∨k=2∨k=3∨k=4:=by omega
    rcases this with rfl|rfl|rfl|rfl|rfl <;> decide
   ·simp[List.getD,List.getElem?_eq_none (show([0,0,0,0,0]:List Nat).length<=k by simp;omega)]) (zfu (h.many c hcm)).1
  refine⟨by simpa [ziw,zjv] using q3,?_,?_⟩
  ·show Canon ((t.map (·.je)).getD (zbd t c.head.pred) 0) _
   rw[q4]
   exact zjj hwf _
  ·refine zqx hwf hW fun p _=>?_
   by_cases hk:p < 5
   ·have:p=0∨p=1∨p=2∨p=3∨p=4:=by omega
    rcases this with rfl|rfl|rfl|rfl|rfl <;> exact hW
   ·rw[show([0,0,0,0,0]:List Nat).getD p 0=0 by simp[List.getD,List.getElem?_eq_none (show([0,0,0,0,0]:List Nat).length<=p by simp;omega)]]
    exact hW
 ·obtain⟨i,hi,_,rfl⟩:=hrule r hr
  exact z6v h (uad hi) ns _ (hp i hi)
 ·obtain⟨i,hi,_,rfl⟩:=hrule r hr
  obtain⟨j,hj,_,rfl⟩:=hrule r' hr'
  obtain⟨x,hx,rfl⟩:=uai.1 hl
  have hxb:=(uay.1 hx).1
  have hxn:x.neg=true:=by simpa using(uay.1 hx).2
  have hsol:=h.sol cs[i] (uad hi) x hxb
  unfold up at hsol
  rw[if_pos hxn] at hsol
  obtain⟨e1,a1,_,_,_,a5⟩:=h.lit (uad hi) (l:=x) (by simp[za2,hxb])
  obtain⟨e2,b1,_,_,_,b5⟩:=h.lit (uad hj) (l:=cs[j].head) (by simp[za2])
  intro e
  have e':zbd t x.pred=zbd t cs[j].head.pred:=e
  rw[a5,b5] at e'
  have hname:=z5r a1 b1 e'
  have hst':zdv t cs[i].head.pred=zdv t cs[j].head.pred:=hst
  rw[zja,zja,← hname] at hst'
  omega
theorem zqq{k:Nat}(hk:k<=5):zin (za6 []) k:=by
 have e:za6 []=[0,1,2,3,4]:=rfl
 have hg:∀ i,i < 5->([0,1,2,3,4]:List Nat).getD i 0=i:=by
  intro i hi
  have:i=0∨i=1∨i=2∨i=3∨i=4:=by omega
  rcases this with rfl|rfl|rfl|rfl|rfl <;> rfl
 rw[e]
 refine⟨fun i=>?_,fun i hi=>by rw[hg i (by omega)];exact hi,fun p hp=>⟨p,hp,hg p (by omega)⟩⟩
 by_cases hi:i < 5
 ·rw[hg i hi];exact hi
 ·simp[List.getD,List.getElem?_eq_none (show([0,1,2,3,4]:List Nat).length<=i by simp;omega)]
end Go.Proofs.YteampbddflhngaaGreat
namespace Go.Proofs.YteampbddflhngaaGreat
open Classical
theorem Parts.low{cs:List zab}{t0 t:List zar}(h:Parts cs t0 t):t.length=t0.length/\t.length<=500/\∀ n,zdv t n<=t.length:=by
 have hAr:arT t=arT t0:=by have:=ziu (t0.length+1) t0 cs;rw[h.jl] at this;exact this
 have hlen:t.length=t0.length:=by have:=congrArg List.length hAr;simpa [arT] using this
 have h1:=zrh _ [] t0 h.coll
 have h2:=zx8 cs
 have h3:=h.few
 simp only[uch,ubl] at h1
 have hall:zlu t0 cs:=by
  intro c hc l hl
  have hmem:l∈cs.flatMap za2:=ubo.2 ⟨c,hc,hl⟩
  cases he:zbh t0 l.pred with
  |some e=>rfl
  |none =>
   obtain⟨e,hm,hn⟩:=uai.1 ((h.tab.names l.pred).2 ⟨l,hmem,rfl⟩)
   exact absurd hn (zkz h.tab.rise he e hm)
 have hz:∀ n,val t0 n=0:=fun n=>by
  unfold val
  split
  ·rename_i e he
   have:=znr _ [] (fun e he=>by cases he) t0 h.coll e (zn3 he).1
   omega
  ·rfl
 have hL:=(z4f hall hz).2 (by rw[h.jl])
 rw[h.jl] at hL
 refine⟨hlen,by omega,fun n=>?_⟩
 rw[zja]
 by_cases hn:n∈namesT t0
 ·have:=z5z hL (ps:=namesT t0) (fun c hc l hl=>(h.tab.names l.pred).2 ⟨l,ubo.2 ⟨c,hc,hl⟩,rfl⟩) hn
  simp[namesT] at this
  show val t n<=_
  omega
 ·have:val t n=0:=zw7 (by rw[zsq hAr];exact hn)
  omega
theorem z09(cs:List zab):zpf cs<=prW cs:=by
 induction cs with
 |nil=>simp[zpf,prW]
 |cons c cs ih =>
  have h1:=zo3 c.body
  have h2:zl0 c.body=zcd c.body:=by
   have:∀ ls:List zbu,zl0 ls=zcd ls:=by
    intro ls
    induction ls with
    |nil=>rfl
    |cons a ls ih=>simp[zl0,zcd,zka] at ih ⊢;omega
   exact this _
  simp[zpf,prW,clW,z0y,zka] at ih ⊢
  omega
end Go.Proofs.YteampbddflhngaaGreat
namespace Go.Proofs.YteampbddflhngaaGreat
open Go.RowKit
theorem Parts.runok{cs:List zab}{t0 t:List zar}(h:Parts cs t0 t):z7w cs t none/\z4y (zjv t (zaw cs) none cs):=by
 have hset:z4y (zjv t (zaw cs) none cs):=z3z h _ none (fun i hi=>zqq (zga (h.many _ (uad hi))))
 obtain⟨_,hl,hst⟩:=h.low
 have hf:=h.few
 have hlen:=z3r cs
 have hargs:=z09 cs
 have hvals:(zaw cs).length<=500:=by
  have:=zkb cs []
  simp only[uch,ubl] at this
  show(cs.foldl zdd []).length<=500
  omega
 have hok:=z7p (cs:=cs) (by omega)
 have hbody:∀ c∈cs,c.body.length<=6:=fun c hc=>(zfu (h.many c hc)).2.1
 refine⟨⟨by omega,by omega,hok,fun c hc=>⟨(hok c hc).1,by have:=hbody c hc;omega⟩,⟨by omega,by omega,fun c hc=>(hok c hc).2⟩,by omega,fun n=>by have:=hst n;omega,by simp,by simp,fun _=>by simp,fun _=>⟨fun r hr=>⟨fun l hl=>((hset.rules.rules r hr).qc l hl).1,fun l hl=>⟨((hset.rules.rules r hr).qm l hl).1,hset.rules.apart r hr r hr rfl l hl⟩⟩,?_,fun a ha=>by have:=hset.small a ha;omega,fun f hf=>(hset.facts f hf).2.1.1,?_,by show(zaw cs).length<=1000;omega⟩⟩,hset⟩
 ·show(t.map (·.je)).length<=1000
  simp;omega
 ·show(zeq t (zaw cs) cs).length<=1000000
  have:(zeq t (zaw cs) cs).length<=cs.length:=by
   unfold zeq
   rw[ua0]
   exact ucy _ _
  omega
def z9b(lp:Nat)(t:List zar)(ns:List ByteArray)(o:Option (DB × Nat))(w:World)(e:Ending)(w':World):Prop:=match o with
 |none=>e=.returned (.tuple #[.pointer none,.int .i64 10])/\Below w.heap.size w w'
 |some x=>∃(R:zbg) (rb:Nat) (pv nv rv:Value) (tbs:List Nat),w.heap.size<=rb/\e=.returned (.tuple #[.pointer (some ⟨rb,0,none⟩),.int .i64 0])/\zva w.heap.size lp w' rb t ns R pv nv rv tbs/\zey (t.map (·.je)) (za4 ns.length) R/\zc2 (t.map (·.je)) R=x.1/\R.qw=x.2/\zj4 x.1 R.count/\R.count<=1048576/\Below w.heap.size w w'
theorem z9s{lp:Nat}(w:World)(pb:Nat){cs:List zab}{t0 t:List zar}(hP:zkr lp w pb cs t)(h:Parts cs t0 t)(hlp:lp<=w.heap.size)(mr mx:Nat)(h1:mr<=1048576)(h2:mx<=1048576) :
  Calls Tryz.prog 35 #[.pointer (some ⟨pb,0,none⟩),.slice none 0 0,.int .i64 mr,.int .i64 mx] w fun e w'=>z9b lp t (zaw cs) (zjw (zjv t (zaw cs) none cs) mr mx) w e w':=by
 obtain⟨hk,hset⟩:=h.runok
 obtain⟨N,hN⟩:=z6x hset (mr:=mr) (mx:=mx) h1
 obtain⟨res,r1,r2,r3⟩:=hN N (uaa _)
 refine(z6q w pb cs t (.slice none 0 0) none mr mx N res hP rfl hk rfl h1 h2 hlp r1).mono ?_
 intro e w' hres
 cases res with
 |none=>rw[r2 rfl];exact hres
 |some R =>
  obtain⟨q1,q2,q3⟩:=r3 R rfl
  obtain⟨rb,pv,nv,rv,tbs,s1,s2,s3,s4⟩:=hres
  rw[q3]
  exact⟨R,rb,pv,nv,rv,tbs,s1,s2,s3,q1,rfl,rfl,q1.card hset.small,by omega,s4⟩
end Go.Proofs.YteampbddflhngaaGreat
namespace Go.Proofs.YteampbddflhngaaGreat
set_option maxRecDepth 100000
set_option maxHeartbeats 4000000
open Go.RowKit
variable {lo lp:Nat}
theorem Tryz.infoSS:(Tryz.prog.info? 30).map (fun i=>(i.zero,i.size,i.bytes))=some (some (.slice none 0 0),1,24):=by kernel_rfl
theorem z9n(w:World)(tb:Nat)(T:zad)(fp:List Nat)(n:Nat)(rs:List zao)(h:zat lo w tb T fp)(hr:rowsG n T=some rs) :
  Calls Tryz.prog 78 #[.pointer (some ⟨tb,0,none⟩)] w fun e w'=>∃ v,e=.returned v/\RowsIn w.heap.size w' v rs/\Below w.heap.size w w':=by
 unfold rowsG at hr
 cases hf:zr3 n T with
 |none=>rw[hf] at hr;cases hr
 |some rs' =>
  rw[hf] at hr
  simp only at hr
  split at hr
  ·simp only[uab] at hr
   subst hr
   exact zyc w tb T fp h n rs' hf (by assumption)
  ·cases hr
theorem z3u{n:Nat}{T:zad}{rs:List zao}(hr:rowsG n T=some rs):rs.length<=1048576:=by
 unfold rowsG at hr
 cases hf:zr3 n T with
 |none=>rw[hf] at hr;cases hr
 |some rs' =>
  rw[hf] at hr
  simp only at hr
  split at hr
  ·simp only[uab] at hr
   subst hr
   assumption
  ·cases hr
def zqy(ns:List ByteArray)(ar:Nat)(r:zao):zbu:=⟨false,ByteArray.empty,za1 ns r ar 3⟩
def zlt(ar g:Nat):Value:=.slice (some ⟨g,0,none⟩) ar ar
def zxe(ns:List ByteArray)(ar:Nat)(rs:List zao)(w:World)(e:Ending)(w':World):Prop:=∃ g gs,w.heap.size<=g/\e=.returned (.tuple #[.slice (some ⟨g,0,none⟩) rs.length rs.length,.int .i64 0])/\w'.ownsRow w.heap.size 30 1 (.slice (some ⟨g,0,none⟩) rs.length rs.length) rs.length (gs.map (zlt ar))/\Copies w.heap.size w' (rs.map (zqy ns ar)) gs/\Below w.heap.size w w'
theorem z3v(w:World)(rb:Nat)(t:List zar)(ns:List ByteArray)(R:zbg)(pv nv rv:Value)(tbs:List Nat)(pred:ByteArray)(h:zva lo lp w rb t ns R pv nv rv tbs)(hs':(zbh t pred).isSome=true)(hfi:zbd t pred < R.rows.length)(n:Nat)(rs:List zao)(hr:rowsG n R.rows[zbd t pred]=some rs)(har:za0 t (zbd t pred)<=1000) :
  Calls Tryz.prog 38 #[.pointer (some ⟨rb,0,none⟩),.string pred] w fun e w'=>zxe ns (za0 t (zbd t pred)) rs w e w':=by
 have HFI:Hid (Calls Tryz.prog 77 #[.pointer (some ⟨rb,0,none⟩),.string pred] w fun e w'=>e=.returned (.tuple #[.int .i64 (zbd t pred:Nat),.bool (zbh t pred).isSome])/\w'=w):=zn8 lp w rb 0 t pred h.tg h.few.1
 rw[hs'] at HFI
 have HRE:Hid (zva lo lp w rb t ns R pv nv rv tbs):=h
 obtain⟨hc,hf⟩:=h.box.rules
 have hlt:=h.box.lt
 obtain⟨aor,capr,hrv⟩:=zac h.rows
 subst hrv
 have d2:=hc 2
 have hfew:=h.few.2.2
 have hgi:¬ (R.rows.length:Int)<=(zbd t pred:Int):=by omega
 clear h hc hs'
 have HAR:Hid (∀ W,Below w.heap.size w W->Calls Tryz.prog 80 #[.pointer (some ⟨rb,0,none⟩),.int .i64 (zbd t pred:Nat)] W fun e w'=>e=.returned (.int .i64 (za0 t (zbd t pred):Nat))/\w'=W):=fun W hb=>zl7 lp W rb 0 t _ (HRE.out.below hb).tg
 generalize zbd t pred=fi at *
 have hft:fi < tbs.length:=by rw[HRE.out.tlen];exact hfi
 obtain⟨gr,capr',hvr,_,hgr,hcr⟩:=zal HRE.out.rows (by omega)
 simp only[Value.slice.injEq] at hvr
 have hgg:=hvr.1
 clear hvr
 subst hgg
 have hcp:=hcr fi (.pointer (some ⟨tbs[fi],0,none⟩)) (by simp[pts,hft,pt])
 have HRS:Hid (Calls Tryz.prog 78 #[.pointer (some ⟨tbs[fi],0,none⟩)] w fun e w'=>∃ v,e=.returned v/\RowsIn w.heap.size w' v rs/\Below w.heap.size w w'):=by
  obtain⟨fp,q⟩:=HRE.out.tries fi hfi hft
  exact z9n w _ _ fp n rs q hr
 have hrl:=z3u hr
 have hfii:(fi:Int) < (R.rows.length:Int):=by omega
 obtain⟨i0,hi,hz0,hzs,hzb⟩:=info_parts Tryz.infoSS
 have hmk:=fun W0:World=>run_make (P:=Tryz.prog) (w:=W0) 31 30 i0 _ Tryz.underlying31 hi hz0 .i64 .i64 (rs.length:Int) (rs.length:Int) (by omega) (Int.le_refl _) (by rw[hzb];omega) (by omega)
 rw[hzs] at hmk
 have HTE:Hid (∀ W (x y z:Nat),Below w.heap.size w W->Calls Tryz.prog 79 #[.pointer (some ⟨rb,0,none⟩),.agg #[.int .i64 (x:Nat),.int .i64 (y:Nat),.int .i64 (z:Nat)],.int .i64 (za0 t fi)] W fun e w'=>∃ g,W.heap.size<=g/\e=.returned (.slice (some ⟨g,0,none⟩) (za0 t fi) (za0 t fi))/\SIn W.heap.size w' (.slice (some ⟨g,0,none⟩) (za0 t fi) (za0 t fi)) (za1 ns [x,y,z] (za0 t fi) 3)/\Below W.heap.size W w'):=fun W x y z hb=>z0g W rb _ x y z ns (HRE.out.below hb).cat har
 generalize za0 t fi=ar at *
 generalize tbs[fi]=tb at *
 clear hcr hr
 go_enter Tryz.func38,Tryz.ntmps38
 go_wp2_with (first|(go_at_call 77;refine HFI.out.mono ?_;rintro e w1 ⟨rfl,hww⟩;obtain rfl:=hww.symm)|(go_at_call 78;refine HRS.out.mono ?_;rintro e w1 ⟨v1,rfl,HV1,hb1⟩;obtain⟨aov,capv,rfl⟩:=zac HV1.1))
 have hg1:Below w1.heap.size w1 (w1.alloc (.cells (madeCells #[.slice none 0 0] rs.length) 30)):=(by go_grown)
 have hB1:Below w.heap.size w (w1.alloc (.cells (madeCells #[.slice none 0 0] rs.length) 30)):=zae hb1 hg1 (uaa _)
 have hrow:=zbf (zhv w1 rs.length 30 (.slice none 0 0) (by unfold maxLen;omega)) hb1.size
 have HR0:Hid (World.ownsRow (w1.alloc (.cells (madeCells #[.slice none 0 0] rs.length) 30)) w.heap.size 30 1 (.slice (some ⟨w1.heap.size,0,none⟩) rs.length rs.length) rs.length (([]:List Nat).map (zlt ar)++List.replicate (rs.length - 0) (.slice none 0 0))):=hrow
 have HV2:Hid (RowsIn w.heap.size (w1.alloc (.cells (madeCells #[.slice none 0 0] rs.length) 30)) (.slice aov rs.length capv) rs):=⟨zaa HV1.1 hg1,HV1.2⟩
 have hgl:w.heap.size<=w1.heap.size:=hb1.size
 clear hrow hmk HRS HV1 hg1 HFI
 generalize w1.alloc (.cells (madeCells #[.slice none 0 0] rs.length) 30)=w2 at *
 generalize w1.heap.size=g at *
 clear hb1
 go_loopw [46] (fun v46 wr=>∃(m:Nat) (gs:List Nat),m<=rs.length/\v46=.int .i64 m/\Below w.heap.size w wr/\gs.length=m/\Hid (wr.ownsRow w.heap.size 30 1 (.slice (some ⟨g,0,none⟩) rs.length rs.length) rs.length (gs.map (zlt ar)++List.replicate (rs.length - m) (.slice none 0 0)))/\Hid (Copies w.heap.size wr ((rs.take m).map (zqy ns ar)) gs)/\Hid (RowsIn w.heap.size wr (.slice aov rs.length capv) rs)) (fun i _=>rs.length - (intOf i).toNat)
 case atStart=>exact⟨0,[],uaj _,rfl,hB1,rfl,HR0,Copies.nil _,HV2⟩
 case round =>
  clear HR0 HV2 hB1
  obtain⟨m,gs,hm,rfl,hbk,hgs,HR,HC,HV⟩:=hrel
  have HGS:Hid (gs.length=m):=hgs
  clear hgs
  have hgwr:g < wr.heap.size:=zdq HR.out rfl
  have hfz:=zbt HR.out
  have hrl2:rb < wr.heap.size:=ual hlt hbk.size
  by_cases hml:m < rs.length
  ·obtain⟨gv,cv,x,y,z,hv,hgv,hxyz,c0,c1,c2⟩:=HV.out.cell m hml
   simp only[Value.slice.injEq] at hv
   have hgg:=hv.1
   clear hv
   subst hgg
   have hmi:(m:Int) < (rs.length:Int):=by omega
   have HTK:Hid (rs.take (m+1)=rs.take m++[[x,y,z]]):=show rs.take (m+1)=rs.take m++[[x,y,z]] by rw[uae hml,hxyz]
   clear hxyz
   have HTE2:Hid (∀ W,Below wr.heap.size wr W->Calls Tryz.prog 79 #[.pointer (some ⟨rb,0,none⟩),.agg #[.int .i64 (x:Nat),.int .i64 (y:Nat),.int .i64 (z:Nat)],.int .i64 ar] W fun e w'=>∃ g,W.heap.size<=g/\e=.returned (.slice (some ⟨g,0,none⟩) ar ar)/\Hid (SIn W.heap.size w' (.slice (some ⟨g,0,none⟩) ar ar) (za1 ns [x,y,z] ar 3))/\Below W.heap.size W w'):=fun W hb=>HTE.out W x y z (zae hbk hb (uaa _))
   have HAR2:Hid (∀ W,Below wr.heap.size wr W->Calls Tryz.prog 80 #[.pointer (some ⟨rb,0,none⟩),.int .i64 (fi:Nat)] W fun e w'=>e=.returned (.int .i64 (ar:Nat))/\w'=W):=fun W hb=>HAR.out W (zae hbk hb (uaa _))
   go_upto_region 9 with fail
   have hg4:Below wr.heap.size wr (wr.alloc (.cells #[.int .i64 (x:Nat),.int .i64 (y:Nat),.int .i64 (z:Nat)] 165)):=(by go_grown)
   have hb10:=Box.new wr #[.int .i64 (x:Nat),.int .i64 (y:Nat),.int .i64 (z:Nat)] 165
   generalize wr.alloc (.cells #[.int .i64 (x:Nat),.int .i64 (y:Nat),.int .i64 (z:Nat)] 165)=W4 at *
   have v0:W4.cell? ⟨wr.heap.size,0,none⟩=some (.int .i64 (x:Nat)):=by rw[hb10.rules.1];rfl
   have v1:W4.cell? ⟨wr.heap.size,1,none⟩=some (.int .i64 (y:Nat)):=by rw[hb10.rules.1];rfl
   have v2:W4.cell? ⟨wr.heap.size,2,none⟩=some (.int .i64 (z:Nat)):=by rw[hb10.rules.1];rfl
   have hl3:wr.heap.size < W4.heap.size:=hb10.lt
   have hR4:=zaa HR.out hg4
   have hgW:g < W4.heap.size:=zdq hR4 rfl
   obtain⟨sx,hsx⟩:∃ sx,W4.cell? ⟨g,m,none⟩=some sx:=by
    obtain⟨g',cap',hv',_,_,hcl'⟩:=zal hR4 (by omega)
    simp only[Value.slice.injEq,uab,Addr.mk.injEq,and_true] at hv'
    have e:=hv'.1
    subst e
    exact⟨_,hcl' m _ (uac (by simp[HGS.out];omega))⟩
   have hfW:=zbt hR4
   have HR4:Hid (W4.ownsRow w.heap.size 30 1 (.slice (some ⟨g,0,none⟩) rs.length rs.length) rs.length (gs.map (zlt ar)++List.replicate (rs.length - m) (.slice none 0 0))):=hR4
   have HC4:Hid (Copies w.heap.size W4 ((rs.take m).map (zqy ns ar)) gs):=HC.out.mono (fun _ _ q=>q.below hg4)
   have HV4:Hid (RowsIn w.heap.size W4 (.slice (some ⟨gv,0,none⟩) rs.length capv) rs):=HV.out.below' hg4
   have hB4:Below w.heap.size w W4:=zae hbk hg4 (uaa _)
   have HTE3:Hid (∀ W,Below W4.heap.size W4 W->Calls Tryz.prog 79 #[.pointer (some ⟨rb,0,none⟩),.agg #[.int .i64 (x:Nat),.int .i64 (y:Nat),.int .i64 (z:Nat)],.int .i64 ar] W fun e w'=>∃ gt,W4.heap.size<=gt/\e=.returned (.slice (some ⟨gt,0,none⟩) ar ar)/\Hid (SIn W4.heap.size w' (.slice (some ⟨gt,0,none⟩) ar ar) (za1 ns [x,y,z] ar 3))/\Hid (Below W4.heap.size W4 w')/\w'.cell? ⟨wr.heap.size,0,none⟩=some (.int .i64 (x:Nat))/\w'.cell? ⟨wr.heap.size,1,none⟩=some (.int .i64 (y:Nat))/\w'.cell? ⟨wr.heap.size,2,none⟩=some (.int .i64 (z:Nat))/\w'.cell? ⟨g,m,none⟩=some sx/\g < w'.heap.size/\∀ o,w'.frozen? ⟨g,o,none⟩=false):=fun W hb=>by
    refine(HTE2.out W (zae hg4 hb (uaa _))).mono ?_
    rintro e w' ⟨gt,h1,h2,h3,h4⟩
    have hq:=zae hb h4 (uaa _)
    have hs:=hb.size
    exact⟨gt,by omega,h2,h3.out.low hb.size,hq,(hq.cell hl3).trans v0,(hq.cell hl3).trans v1,(hq.cell hl3).trans v2,(hq.cell hgW).trans hsx,ual hgW hq.size,zbt (zaa HR4.out hq)⟩
   have HAR3:Hid (∀ W,Below W4.heap.size W4 W->Calls Tryz.prog 80 #[.pointer (some ⟨rb,0,none⟩),.int .i64 (fi:Nat)] W fun e w'=>e=.returned (.int .i64 (ar:Nat))/\w'=W):=fun W hb=>HAR2.out W (zae hg4 hb (uaa _))
   clear HTE2 HAR2 hR4 hb10 hg4 HR HC HV c0 c1 c2 hgv hfz
   go_region_held3 (fun w'=>w'.cell? ⟨wr.heap.size,0,none⟩=some (.int .i64 (x:Nat))/\w'.cell? ⟨wr.heap.size,1,none⟩=some (.int .i64 (y:Nat))/\w'.cell? ⟨wr.heap.size,2,none⟩=some (.int .i64 (z:Nat))) (first|go_keep|(go_simp;done)) (first|(go_at_call 79;refine(HTE3.out _ (by exact(by go_grown))).mono ?_;rintro e w5 ⟨gt,hgt,rfl,HS5,HB5,a0,a1,a2,ax,ag,af⟩)|(go_at_call 80;refine(HAR3.out _ (by exact(by go_grown))).mono ?_;rintro e w6 ⟨rfl,hww⟩;obtain rfl:=hww.symm))
   have hR5:=zaa HR4.out HB5.out
   have hML:Hid ((gs.map (zlt ar)++List.replicate (rs.length - m) (Value.slice none 0 0)).set m (zlt ar gt)=(gs++[gt]).map (zlt ar)++List.replicate (rs.length - (m+1)) (Value.slice none 0 0)):=show _=_ by
    obtain⟨k,hk⟩:∃ k,rs.length - m=k+1:=⟨rs.length - m - 1,by omega⟩
    have hk2:rs.length - (m+1)=k:=by omega
    rw[List.set_append,if_neg (by simp[HGS.out]),hk,hk2,ucc]
    simp[HGS.out]
   have hset:=zb4 hR5 m (by simp[HGS.out];omega) (zlt ar gt)
   rw[hML.out] at hset
   have hsv:zas [g] w5 (w5.setCell ⟨g,m,none⟩ (.slice (some ⟨gt,0,none⟩) ar ar)):=zas.set _ _ _ _
   obtain⟨cg,hcg⟩:=zef hR5 (b:=g) rfl
   have hOf:=OfT.box hcg
   have HR6:Hid (World.ownsRow (w5.setCell ⟨g,m,none⟩ (.slice (some ⟨gt,0,none⟩) ar ar)) w.heap.size 30 1 (.slice (some ⟨g,0,none⟩) rs.length rs.length) rs.length ((gs++[gt]).map (zlt ar)++List.replicate (rs.length - (m+1)) (.slice none 0 0))):=hset
   have HC6:Hid (Copies w.heap.size (w5.setCell ⟨g,m,none⟩ (.slice (some ⟨gt,0,none⟩) ar ar)) ((rs.take (m+1)).map (zqy ns ar)) (gs++[gt])):=show Copies _ _ _ _ by
    rw[HTK.out,ua8]
    have hz:=hB4.size
    refine Copies.mono (w:=w5) ?_ (fun _ _ q=>zaj q hsv hOf (by decide))
    refine(HC4.out.mono (fun _ _ q=>q.below HB5.out)).snoc (l:=zqy ns ar [x,y,z]) (fun a ha=>by have:=HC4.out.lt a ha;omega) (by omega) ?_
    show SIn w.heap.size w5 (.slice (some ⟨gt,0,none⟩) (za1 ns [x,y,z] ar 3).length (za1 ns [x,y,z] ar 3).length) (za1 ns [x,y,z] ar 3)
    rw[zdo]
    exact HS5.out.low (by omega)
   have HV6:Hid (RowsIn w.heap.size (w5.setCell ⟨g,m,none⟩ (.slice (some ⟨gt,0,none⟩) ar ar)) (.slice (some ⟨gv,0,none⟩) rs.length capv) rs):=⟨zaj (HV4.out.below' HB5.out).1 hsv hOf (by decide),HV4.out.2⟩
   have hB6:Below w.heap.size w (w5.setCell ⟨g,m,none⟩ (.slice (some ⟨gt,0,none⟩) ar ar)):=(zae hB4 HB5.out (uaa _)).setCell (by simpa using hgl) _
   have HGS6:Hid ((gs++[gt]).length=m+1):=show(gs++[gt]).length=m+1 by simp[HGS.out]
   clear hset hR5 hsv hOf HR4 HC4 HV4 HS5 HB5 a0 a1 a2 ax ag af v0 v1 v2
   generalize w5.setCell ⟨g,m,none⟩ (.slice (some ⟨gt,0,none⟩) ar ar)=w7 at *
   go_wp2
   go_roundw
   case rel=>exact⟨m+1,gs++[gt],by omega,by go_num,hB6,HGS6.out,HR6,HC6,HV6⟩
   case measure=>simp[intOf];omega
  ·obtain rfl:m=rs.length:=by omega
   have q1:=HR.out
   have q2:=HC.out
   rw[ubs,List.replicate_zero,ub3] at q1
   rw[ubw] at q2
   have HQ:Hid (_/\_):=And.intro q1 q2
   clear q1 q2 HR HC HV HGS
   go_wp2
   go_ret2
   exact⟨g,gs,hgl,rfl,HQ.out.1,HQ.out.2,hbk⟩
end Go.Proofs.YteampbddflhngaaGreat
