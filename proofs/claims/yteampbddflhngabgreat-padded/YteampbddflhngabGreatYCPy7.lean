import Derived.Test.YteampbddflhngabGreatYCPy2
import Derived.Test.YteampbddflhngabGreatY43
import Derived.Test.YteampbddflhngabGreatY42

namespace Go.Proofs.YteampbddflhngabGreat
theorem yav.word{l:zbp}(h:yav l):yb8 l:=fun x hx=>yee (h.2 x hx)
theorem yar.word{c:zab}(h:yar c):yd4 c:=⟨h.1,h.2.1.word,fun l hl=>(h.2.2 l hl).word⟩
theorem yc9(S:yaz)(l:zbp):1<=(ycr S l).length:=by
 unfold ycr yau
 split <;> simp
theorem yck(S:yaz):∀ b:List zbp,b.length<=(ya1 S b).length
 |[]=>by simp
 |[l]=>by have:=yc9 S l;simp[ya1];exact this
 |l::m::r=>by
  have ih:=yck S (m::r)
  have:=yc9 S l
  simp only[ya1,List.length_append,List.length_cons] at ih ⊢
  omega
theorem yeh(S:yaz)(c:zab):c.body.length+1<=(clK S c).length:=by
 have:=yck S c.body
 unfold clK
 by_cases hb:c.body=[]
 ·simp[hb]
 ·simp only[if_neg hb,List.length_append,List.length_cons,List.length_nil]
  omega
theorem ya6(S:yaz):∀ cs:List zab,cs.length<=(yal S cs).length/\∀ c∈cs,c.body.length<=(yal S cs).length
 |[]=>⟨by simp,fun c h=>by cases h⟩
 |c::cs=>by
  obtain⟨i1,i2⟩:=ya6 S cs
  have hc:=yeh S c
  have e:(yal S (c::cs)).length=(clK S c).length+(yal S cs).length:=by simp[yal]
  refine⟨by rw[e];simp;omega,fun d hd=>?_⟩
  rw[e]
  rcases List.mem_cons.1 hd with rfl|hd
  ·omega
  ·have:=i2 d hd;omega
structure yeg (x:Tok):Prop where
 word:isT x.1=true->x.1=ybi x.2
 op:x.1=4->x.2=signs.op
 shut:x.1=5->x.2=signs.shut
 comma:x.1=6->x.2=signs.comma
 dot:x.1=7->x.2=signs.dot
 bang:x.1=8->x.2=signs.bang
 arrow:x.1=9->x.2=signs.arrow
theorem one_byte{a:UInt8}{n:Nat}(h:byt a=(n:Int))(hn:n < 256):a=UInt8.ofNat n:=by
 apply UInt8.toNat_inj.1
 unfold byt at h
 rw[UInt8.toNat_ofNat',Nat.mod_eq_of_lt (by simpa using hn)]
 omega
theorem ybb:∀(m:Nat) (l:List UInt8) (ts:List Tok),l.length<=m->yaj l=some ts->∀ x∈ts,yeg x
 |_,[],ts,_,h,x,hx=>by simp[ya9] at h;subst h;cases hx
 |0,_::_,_,h,_,_,_=>by simp at h
 |m+1,a::l,ts,h,hs,x,hx=>by
  simp only[List.length_cons] at h
  rw[yan] at hs
  split at hs
  ·exact ybb m l ts (by omega) hs x hx
  ·split at hs
   ·cases hs
   ·rename_i hk
    split at hs
    ·cases hs
    ·obtain⟨us,hu,rfl⟩:=Option.map_eq_some_iff.1 hs
     have hp:=ya4 (l:=l) hk
     have hd:((a::l).drop (yap (a::l) (zii (byt a) (hdB l)))).length<=m:=by rw[List.length_drop];simp;omega
     rcases List.mem_cons.1 hx with rfl|hx
     ·clear hs hu hd hx
      have hword:isT (zii (byt a) (hdB l))=true->∀ c,zii (byt a) c=zii (byt a) (hdB l):=by
       intro ht c
       unfold zii at ht ⊢
       split
       ·rfl
       ·split
        ·rfl
        ·split
         ·rfl
         ·rename_i q1 q2 q3
          rw[if_neg q1,if_neg q2,if_neg q3] at ht
          split at ht
          ·simp[isT] at ht
          ·unfold z5e at ht
           (repeat' split at ht) <;> simp[isT] at ht
      have hsg:∀ k:Int,zii (byt a) (hdB l)=k->k≠0->k≠1->k≠2->k≠3->k≠9->(⟨((a::l).take (yap (a::l) k)).toArray⟩:ByteArray)=⟨#[a]⟩/\z5e (byt a)=k:=by
       intro k e h0 h1 h2 h3 h9
       refine⟨?_,?_⟩
       ·unfold yap
        rw[if_neg h9,if_neg (by omega),if_neg h3]
        rfl
       ·unfold zii at e
        split at e
        ·omega
        ·split at e
         ·omega
         ·split at e
          ·omega
          ·split at e
           ·omega
           ·exact e
      refine⟨fun ht=>?_,fun e=>?_,fun e=>?_,fun e=>?_,fun e=>?_,fun e=>?_,fun e=>?_⟩
      ·simp only at ht ⊢
       unfold ybi
       have e0:bAt (⟨((a::l).take (yap (a::l) (zii (byt a) (hdB l)))).toArray⟩:ByteArray) 0=byt a:=by
        rw[yax]
        simp only[List.drop_zero]
        obtain⟨n,hn⟩:∃ n,yap (a::l) (zii (byt a) (hdB l))=n+1:=⟨yap (a::l) (zii (byt a) (hdB l)) - 1,by omega⟩
        rw[hn]
        rfl
       rw[e0]
       exact(hword ht _).symm
      all_goals
       simp only at e ⊢
       rw[e]
      ·obtain⟨h1,h2⟩:=hsg 4 e (by decide) (by decide) (by decide) (by decide) (by decide)
       rw[h1]
       have:byt a=((40:Nat):Int):=by unfold z5e at h2;(repeat' split at h2) <;> omega
       rw[one_byte this (by decide)]
       rfl
      ·obtain⟨h1,h2⟩:=hsg 5 e (by decide) (by decide) (by decide) (by decide) (by decide)
       rw[h1]
       have:byt a=((41:Nat):Int):=by unfold z5e at h2;(repeat' split at h2) <;> omega
       rw[one_byte this (by decide)]
       rfl
      ·obtain⟨h1,h2⟩:=hsg 6 e (by decide) (by decide) (by decide) (by decide) (by decide)
       rw[h1]
       have:byt a=((44:Nat):Int):=by unfold z5e at h2;(repeat' split at h2) <;> omega
       rw[one_byte this (by decide)]
       rfl
      ·obtain⟨h1,h2⟩:=hsg 7 e (by decide) (by decide) (by decide) (by decide) (by decide)
       rw[h1]
       have:byt a=((46:Nat):Int):=by unfold z5e at h2;(repeat' split at h2) <;> omega
       rw[one_byte this (by decide)]
       rfl
      ·obtain⟨h1,h2⟩:=hsg 8 e (by decide) (by decide) (by decide) (by decide) (by decide)
       rw[h1]
       have:byt a=((33:Nat):Int):=by unfold z5e at h2;(repeat' split at h2) <;> omega
       rw[one_byte this (by decide)]
       rfl
      ·have:byt a=((58:Nat):Int)/\hdB l=((45:Nat):Int):=by
        unfold zii at e
        split at e
        ·omega
        ·split at e
         ·omega
         ·split at e
          ·omega
          ·split at e
           ·assumption
           ·unfold z5e at e
            (repeat' split at e) <;> omega
       rw[show yap (a::l) 9=2 from rfl]
       cases l with
       |nil=>exact absurd this.2 (by decide)
       |cons b l =>
        rw[one_byte this.1 (by decide),one_byte (show byt b=((45:Nat):Int) from this.2) (by decide)]
        rfl
     ·exact ybb m _ us hd hu x hx
theorem ya3{r:List Tok}{k:Int}(h:hdK r=k)(h0:k≠0):∃ x r',r=(k,x)::r'/\r.tail=r'/\(k,x)∈r:=by
 cases r with
 |nil=>exact absurd h.symm h0
 |cons a r =>
  obtain⟨j,x⟩:=a
  have e:j=k:=h
  subst e
  exact⟨x,r,rfl,rfl,by simp⟩
theorem yb6:∀(r:List Tok) {ts:List ByteArray} {r2:List Tok},zbv r=some (ts,r2)->(∀ x∈r,yeg x)->r=ybd signs ts++r2/\ts≠[]
 |[],_,_,h,_=>by simp[zbv] at h
 |[x],ts,r2,h,hc=>by
  simp only[zbv] at h
  split at h
  ·rename_i hq
   simp only[Option.some.injEq,Prod.mk.injEq] at h
   obtain⟨rfl,rfl⟩:=h
   refine⟨?_,by simp⟩
   show [x]=[ydi x.2]++[]
   unfold ydi
   rw[← (hc x (by simp)).word hq]
   rfl
  ·cases h
 |x::y::r,ts,r2,h,hc=>by
  simp only[zbv] at h
  split at h
  ·rename_i hq
   have hx:x=ydi x.2:=by
    unfold ydi
    rw[← (hc x (by simp)).word hq]
   split at h
   ·rename_i h6
    obtain⟨z,hz,he⟩:=Option.map_eq_some_iff.1 h
    simp only[Prod.mk.injEq] at he
    obtain⟨rfl,rfl⟩:=he
    obtain⟨i1,i2⟩:=yb6 r (ts:=z.1) (r2:=z.2) hz (fun u hu=>hc u (by simp[hu]))
    refine⟨?_,by simp⟩
    have hy:y=(6,signs.comma):=by
     obtain⟨k,b⟩:=y
     simp only at h6
     subst h6
     have q:=(hc (6,b) (by simp)).comma rfl
     simp only at q
     rw[q]
    obtain⟨t,l⟩:=z
    simp only at i1 i2 ⊢
    cases t with
    |nil=>exact absurd rfl i2
    |cons u t =>
     show x::y::r=ydi x.2::(6,signs.comma)::(ybd signs (u::t)++l)
     rw[← i1,← hx,hy]
   ·simp only[Option.some.injEq,Prod.mk.injEq] at h
    obtain⟨rfl,rfl⟩:=h
    refine⟨?_,by simp⟩
    show x::y::r=[ydi x.2]++y::r
    rw[← hx]
    rfl
  ·cases h
theorem ybl{r:List Tok}{l:zbp}{r2:List Tok}(h:zeh r=some (l,r2))(hc:∀ x∈r,yeg x):r=yau signs l++r2:=by
 unfold zeh at h
 split at h
 ·rename_i h1
  obtain⟨p,r',rfl,e1,_⟩:=ya3 h1 (by decide)
  change (if hdK r'=4 then(match zbv r'.tail with|none=>none|some (ts,r2)=>if hdK r2=5 then some ((⟨false,p,ts⟩:zbp),r2.tail) else none) else some ((⟨false,p,[]⟩:zbp),r'))=some (l,r2) at h
  by_cases h4:hdK r'=4
  ·rw[if_pos h4] at h
   obtain⟨q,r'',rfl,e2,hm⟩:=ya3 h4 (by decide)
   have hq:q=signs.op:=(hc (4,q) (by simp)).op rfl
   cases hp:zbv r'' with
   |none=>rw[List.tail_cons,hp] at h;cases h
   |some z =>
    obtain⟨ts,r3⟩:=z
    rw[List.tail_cons,hp] at h
    simp only at h
    by_cases h5:hdK r3=5
    ·rw[if_pos h5] at h
     obtain⟨i1,i2⟩:=yb6 _ hp (fun u hu=>hc u (by simp[hu]))
     obtain⟨z,r4,rfl,e3,hm2⟩:=ya3 h5 (by decide)
     have hz:z=signs.shut:=(hc (5,z) (by rw[i1];simp)).shut rfl
     simp only[Option.some.injEq,Prod.mk.injEq,List.tail_cons] at h
     obtain⟨rfl,rfl⟩:=h
     unfold yau
     simp only[if_neg i2]
     rw[i1,hq,hz]
     simp
    ·rw[if_neg h5] at h;cases h
  ·rw[if_neg h4] at h
   simp only[Option.some.injEq,Prod.mk.injEq] at h
   obtain⟨rfl,rfl⟩:=h
   simp[yau]
 ·cases h
theorem yd8{r:List Tok}{l:zbp}{r2:List Tok}(h:zsg r=some (l,r2))(hc:∀ x∈r,yeg x):r=ycr signs l++r2:=by
 unfold zsg at h
 split at h
 ·rename_i h8
  obtain⟨p,r',rfl,e1,_⟩:=ya3 h8 (by decide)
  obtain⟨z,hz,he⟩:=Option.map_eq_some_iff.1 h
  simp only[Prod.mk.injEq] at he
  obtain⟨rfl,rfl⟩:=he
  have hp:p=signs.bang:=(hc (8,p) (by simp)).bang rfl
  have:=ybl (l:=z.1) (r2:=z.2) hz (fun u hu=>hc u (by simp at hu;simp[hu]))
  simp only[List.tail_cons] at this
  rw[this,hp]
  simp[ycr,yau]
 ·have hn:l.neg=false:=by
   unfold zeh at h
   (repeat' split at h) <;> first|(cases h;done)|(simp only[Option.some.injEq,Prod.mk.injEq] at h;rw[← h.1])
  have:=ybl h hc
  rw[this]
  simp[ycr,hn]
theorem ycl:∀(n:Nat) {r:List Tok} {b:List zbp} {r2:List Tok},ze4 n r=some (b,r2)->(∀ x∈r,yeg x)->r=ya1 signs b++r2/\b≠[]
 |0,_,_,_,h,_=>by cases h
 |n+1,r,b,r2,h,hc=>by
  unfold ze4 at h
  split at h
  ·cases h
  ·rename_i a r3 hq
   have i1:=yd8 hq hc
   split at h
   ·rename_i h6
    obtain⟨p,r',rfl,e1,_⟩:=ya3 h6 (by decide)
    obtain⟨z,hz,he⟩:=Option.map_eq_some_iff.1 h
    simp only[Prod.mk.injEq] at he
    obtain⟨rfl,rfl⟩:=he
    have hp:p=signs.comma:=(hc (6,p) (by rw[i1];simp)).comma rfl
    obtain⟨j1,j2⟩:=ycl n (b:=z.1) (r2:=z.2) hz (fun u hu=>hc u (by rw[i1];simp at hu;simp[hu]))
    refine⟨?_,by simp⟩
    obtain⟨c,l⟩:=z
    simp only[List.tail_cons] at j1 j2 ⊢
    cases c with
    |nil=>exact absurd rfl j2
    |cons u c =>
     rw[i1,hp,j1]
     simp[ya1]
   ·simp only[Option.some.injEq,Prod.mk.injEq] at h
    obtain⟨rfl,rfl⟩:=h
    exact⟨i1,by simp⟩
theorem ycz{n:Nat}{r:List Tok}{c:zab}{r2:List Tok}(h:ze5 n r=some (c,r2))(hc:∀ x∈r,yeg x):r=clK signs c++r2:=by
 unfold ze5 at h
 split at h
 ·cases h
 ·rename_i a r3 hq
  have i1:=ybl hq hc
  split at h
  ·rename_i h9
   obtain⟨p,r',rfl,e1,_⟩:=ya3 h9 (by decide)
   have hp:p=signs.arrow:=(hc (9,p) (by rw[i1];simp)).arrow rfl
   simp only[List.tail_cons] at h
   split at h
   ·cases h
   ·rename_i b r4 hb
    split at h
    ·rename_i h7
     obtain⟨z,r5,rfl,e2,_⟩:=ya3 h7 (by decide)
     obtain⟨j1,j2⟩:=ycl n hb (fun u hu=>hc u (by rw[i1];simp[hu]))
     have hz:z=signs.dot:=(hc (7,z) (by rw[i1,j1];simp)).dot rfl
     simp only[Option.some.injEq,Prod.mk.injEq,List.tail_cons] at h
     obtain⟨rfl,rfl⟩:=h
     rw[i1,j1,hp,hz]
     simp[clK,j2]
    ·cases h
  ·split at h
   ·rename_i h7
    obtain⟨z,r5,rfl,e2,_⟩:=ya3 h7 (by decide)
    have hz:z=signs.dot:=(hc (7,z) (by rw[i1];simp)).dot rfl
    simp only[Option.some.injEq,Prod.mk.injEq,List.tail_cons] at h
    obtain⟨rfl,rfl⟩:=h
    rw[i1,hz]
    simp[clK]
   ·cases h
theorem ycw{n:Nat}:∀(m:Nat) {r:List Tok} {cs:List zab},zew n m r=some cs->(∀ x∈r,yeg x)->r=yal signs cs
 |m,[],cs,h,_=>by cases m <;> (simp[zew] at h;subst h;simp[yal])
 |0,_::_,cs,h,_=>by simp[zew] at h
 |m+1,x::r,cs,h,hc=>by
  unfold zew at h
  split at h
  ·cases h
  ·rename_i c r2 hq
   have i1:=ycz hq hc
   obtain⟨ds,hd,rfl⟩:=Option.map_eq_some_iff.1 h
   have:=ycw m hd (fun u hu=>hc u (by rw[i1];simp[hu]))
   rw[i1,this]
   simp[yal]
theorem ya7{s:ByteArray}{cs:List zab}{t:List zar}(h:znz s=.ok (cs,t)):yaj (bl s)=some (yal signs cs)/\(∀ c∈cs,yar c)/\s.size<=500:=by
 unfold znz at h
 split at h
 ·cases h
 ·rename_i h5
  split at h
  ·cases h
  ·rename_i l hl
   split at h
   ·cases h
   ·rename_i ds hd
    have hw:=yb1 _ hd (yc4 hl)
    have hcs:ds=cs:=by
     repeat'(split at h)
     all_goals first|(cases h;done)|(simp only[Except.ok.injEq,Prod.mk.injEq] at h;exact h.1)
    subst hcs
    rw[yc3] at hl
    refine⟨?_,hw,by omega⟩
    rw[hl,ycw _ hd (ybb _ _ _ (Nat.le_refl _) hl)]
theorem yej{s:ByteArray}{cs:List zab}{t0 t:List zar}(h5:s.size<=500)(hs:yaj (bl s)=some (yal signs cs))(hw:∀ c∈cs,yar c)(h:∀ c∈cs,zem c=false)(hc:zgn cs=some t0)(hsf:∀ c∈cs,ze7 c=true)(hst:zcz (t0.length+1) t0 cs=(t,true)):znz s=.ok (cs,t):=by
 have hp:zew (yal signs cs).length (yal signs cs).length (yal signs cs)=some cs:=ybq signs _ _ cs (fun c hc=>⟨(hw c hc).word,(ya6 signs cs).2 c hc⟩) (ya6 signs cs).1
 have hm:cs.any zem=false:=by
  rw[List.any_eq_false]
  intro c hc
  rw[h c hc]
  simp
 have ha:cs.all ze7=true:=List.all_eq_true.2 hsf
 unfold znz
 rw[if_neg (by omega),yc3,hs]
 simp only[hp,hm,hc,ha,hst,if_true,Bool.false_eq_true,if_false]
def yew(c:zab):List Tok:=yau signs c.head++(if c.body=[] then [] else(9,signs.arrow)::ya1 signs c.body)
theorem yei(c:zab):clK signs c=yew c++[(7,signs.dot)]:=by simp[clK,yew]
theorem ybg(c:zab)(cs:List zab):yal signs (c::cs)=yew c++(7,signs.dot)::yal signs cs:=by simp[yal,yei]
theorem yc7:∀(xs:List ByteArray),(∀ x∈xs,isT (ybi x)=true)->∀ x∈ybd signs xs,x.1≠7
 |[],_,x,h=>by cases h
 |[y],hw,x,h=>by
  simp only[ybd,List.mem_singleton] at h
  subst h
  intro e
  have:=hw y (by simp)
  rw[show ybi y=7 from e] at this
  cases this
 |y::z::r,hw,x,h=>by
  simp only[ybd,List.mem_cons] at h
  rcases h with rfl|rfl|h
  ·intro e
   have:=hw y (by simp)
   rw[show ybi y=7 from e] at this
   cases this
  ·decide
  ·exact yc7 (z::r) (fun u hu=>hw u (by simp[List.mem_cons.1 hu])) x h
theorem yb9{l:zbp}(h:yb8 l):∀ x∈yau signs l,x.1≠7:=by
 intro x hx
 unfold yau at hx
 rcases List.mem_cons.1 hx with rfl|hx
 ·exact(by decide:(1:Int)≠7)
 ·split at hx
  ·cases hx
  ·rcases List.mem_cons.1 hx with rfl|hx
   ·decide
   ·rcases List.mem_append.1 hx with hx|hx
    ·exact yc7 _ h x hx
    ·simp at hx;subst hx;decide
theorem ydq{l:zbp}(h:yb8 l):∀ x∈ycr signs l,x.1≠7:=by
 intro x hx
 unfold ycr at hx
 split at hx
 ·rcases List.mem_cons.1 hx with rfl|hx
  ·decide
  ·exact yb9 h x hx
 ·exact yb9 h x hx
theorem yc8:∀(b:List zbp),(∀ l∈b,yb8 l)->∀ x∈ya1 signs b,x.1≠7
 |[],_,x,h=>by cases h
 |[l],hw,x,h=>ydq (hw l (by simp)) x h
 |l::m::r,hw,x,h=>by
  simp only[ya1,List.mem_append,List.mem_cons] at h
  rcases h with h|rfl|h
  ·exact ydq (hw l (by simp)) x h
  ·decide
  ·exact yc8 (m::r) (fun u hu=>hw u (by simp[List.mem_cons.1 hu])) x h
theorem yeo{c:zab}(h:yd4 c):∀ x∈yew c,x.1≠7:=by
 intro x hx
 unfold yew at hx
 rcases List.mem_append.1 hx with hx|hx
 ·exact yb9 h.2.1 x hx
 ·split at hx
  ·cases hx
  ·rcases List.mem_cons.1 hx with rfl|hx
   ·decide
   ·exact yc8 _ h.2.2 x hx
theorem ycg{l:List UInt8}{ts:List Tok}(h:RdF l ts):yaj l=some ts:=by
 have:=h []
 simpa [ya9] using this
theorem yey{s:ByteArray}{cs:List zab}(h5:s.size<=500)(hs:yaj (bl s)=some (yal signs cs))(hw:∀ c∈cs,yar c):prW cs<=500:=by
 have hp:zew (yal signs cs).length (yal signs cs).length (yal signs cs)=some cs:=ybq signs _ _ cs (fun c hc=>⟨(hw c hc).word,(ya6 signs cs).2 c hc⟩) (ya6 signs cs).1
 have h1:=zwk hp
 rw[← yc3] at hs
 have h2:=zq2 hs
 omega
theorem ycj:∀(l:List UInt8),yaj l=some []->RdF l []
 |[],_=>RdF.nil
 |a::l,h=>by
  rw[yan] at h
  split at h
  ·rename_i hb
   exact(ybk hb).rdf.app (l:=[a]) (ycj l h)
  ·split at h
   ·cases h
   ·split at h
    ·cases h
    ·obtain⟨us,_,e⟩:=Option.map_eq_some_iff.1 h
     cases e
theorem ycf:∀(l acc:List UInt8) (cs:List zab),(46:UInt8)∉acc->yaj (acc++l)=some (yal signs cs)->(∀ c∈cs,yar c)->RdF (acc++l) (yal signs cs)
 |[],acc,cs,ha,hs,_=>by
  rw[List.append_nil] at hs ⊢
  cases cs with
  |nil=>exact ycj acc hs
  |cons c cs =>
   exfalso
   apply ha
   rw[ycb _ _ _ (Nat.le_refl _) hs]
   exact⟨(7,signs.dot),by rw[ybg];simp,rfl⟩
 |b::l,acc,cs,ha,hs,hw=>by
  by_cases hb:b=46
  ·subst hb
   have h1:bLD (hdB (46::l))=false:=by simp[hdB,byt,bLD,zsu,z7m,zvq]
   have h2:hdB (46::l)≠45:=by simp[hdB,byt]
   rw[ya8 _ acc (46::l) (Nat.le_refl _) h1 h2,yb4] at hs
   cases hT:yaj acc with
   |none=>rw[hT] at hs;cases hs
   |some T =>
    rw[hT,Option.bind_some] at hs
    cases hR:yaj l with
    |none=>rw[hR] at hs;cases hs
    |some R =>
     rw[hR] at hs
     simp only[Option.map_some,Option.some.injEq] at hs
     cases cs with
     |nil=>simp[yal] at hs
     |cons c cs =>
      rw[ybg] at hs
      have hno:∀ x∈T,x.1≠7:=fun x hx e=>ha ((ycb _ _ _ (Nat.le_refl _) hT).2 ⟨x,hx,e⟩)
      obtain⟨e1,e2⟩:=yek hno (yeo (hw c (by simp)).word) rfl rfl hs
      subst e1 e2
      have ih:=ycf l [] cs (by simp) (by simpa using hR) (fun d hd=>hw d (by simp[hd]))
      have h3:=(RdF.dot hT).app ih
      have e3:acc++46::l=(acc++[46])++([]++l):=by simp
      have e4:yal signs (c::cs)=(yew c++[(7,signs.dot)])++yal signs cs:=by rw[ybg];simp
      rw[e3,e4]
      exact h3
  ·have e3:acc++b::l=(acc++[b])++l:=by simp
   rw[e3] at hs ⊢
   exact ycf l (acc++[b]) cs (by simp[ha,Ne.symm hb]) hs hw
theorem yb2{c:zab}(h:yar c):RdF (bl (clT c)) (clK signs c):=by
 have hl:=ydx h.2.1
 have e:ycr signs c.head=yau signs c.head:=by unfold ycr;rw[h.1];rfl
 rw[e] at hl
 have hd:RdA (bl yai) [(7,signs.dot)]:=ye0
 apply RdA.rdf
 unfold clT bodyT clK
 rw[yaw,yaw,List.append_assoc]
 by_cases hb:c.body=[]
 ·rw[if_pos (by simp[hb]),if_pos hb]
  exact hl.app (by simp[bl,yai]) rfl hd
 ·have hl0:¬ c.body.length=0:=fun q=>hb (List.length_eq_zero_iff.1 q)
  rw[if_neg hl0,if_neg hb,yaw,List.append_assoc]
  have h1:=(ydw c.body hb h.2.2).app (by simp[bl,yai]) rfl hd
  exact hl.app (by simp[bl,z9h]) rfl (yed.app h1)
def bZz:ByteArray:=⟨#[122,122,122,122,122,122]⟩
def bYy:ByteArray:=⟨#[121,121,121,121,121,121]⟩
def abc:List ByteArray:=[⟨#[65]⟩,⟨#[66]⟩,⟨#[67]⟩]
def yct(p:ByteArray)(k:Nat):zbp:=⟨false,p,abc.take k⟩
def ybw(p:ByteArray)(k:Nat):zab:=⟨yct p k,[yct p k]⟩
def ybn:zab:=⟨⟨false,bZz,[]⟩,[⟨false,bYy,[]⟩]⟩
def yay(cs:List zab)(p:ByteArray)(k:Nat):List zab:=cs++[ybw p k,ybn]
theorem yc6:∀ x∈abc,ya0 (bl x)/\za8 x=true:=by
 intro x hx
 simp only[abc,List.mem_cons,List.not_mem_nil,or_false] at hx
 rcases hx with rfl|rfl|rfl
 ·exact⟨⟨by decide,by decide,Or.inl ⟨Or.inr (by decide),by decide⟩⟩,by decide⟩
 ·exact⟨⟨by decide,by decide,Or.inl ⟨Or.inr (by decide),by decide⟩⟩,by decide⟩
 ·exact⟨⟨by decide,by decide,Or.inl ⟨Or.inr (by decide),by decide⟩⟩,by decide⟩
theorem yb0:yar ybn:=by
 have h1:ya0 (bl bZz)/\zsu (hdB (bl bZz))=true:=⟨⟨by decide,by decide,Or.inl ⟨Or.inl (by decide),by decide⟩⟩,by decide⟩
 have h2:ya0 (bl bYy)/\zsu (hdB (bl bYy))=true:=⟨⟨by decide,by decide,Or.inl ⟨Or.inl (by decide),by decide⟩⟩,by decide⟩
 exact⟨rfl,⟨h1,fun x hx=>by cases hx⟩,fun l hl=>by
  simp only[ybn,List.mem_singleton] at hl
  subst hl
  exact⟨h2,fun x hx=>by cases hx⟩⟩
theorem ybz{p:ByteArray}{k:Nat}(hp:ya0 (bl p)/\zsu (hdB (bl p))=true):yar (ybw p k):=by
 have hl:yav (yct p k):=⟨hp,fun x hx=>(yc6 x (List.mem_of_mem_take hx)).1⟩
 exact⟨rfl,hl,fun l hm=>by simp only[ybw,List.mem_singleton] at hm;subst hm;exact hl⟩
theorem yem{k:Nat}(hk:k<=3):(decide (3 < (abc.take k).length) || false || (decide (3 < (abc.take k).length) || false) || decide (5 < (ze0 (ze0 [] (abc.take k)) (abc.take k)).length))=false/\(zfb (ze0 [] (abc.take k)) (abc.take k) && ((!false || zfb (ze0 [] (abc.take k)) (abc.take k)) && true))=true:=by
 have h:k=0∨k=1∨k=2∨k=3:=by omega
 rcases h with rfl|rfl|rfl|rfl
 ·exact⟨by decide,by decide⟩
 ·exact⟨by decide,by decide⟩
 ·exact⟨by decide,by decide⟩
 ·exact⟨by decide,by decide⟩
theorem ycs(p:ByteArray){k:Nat}(hk:k<=3):zem (ybw p k)=false/\ze7 (ybw p k)=true:=yem hk
theorem ycu:zem ybn=false/\ze7 ybn=true:=⟨by decide,by decide⟩
theorem ydt{s s2:ByteArray}{cs:List zab}{t:List zar}(h:znz s=.ok (cs,t)){p:ByteArray}{k:Nat}(hp:ya0 (bl p)/\zsu (hdB (bl p))=true)(hs2:s2=s++clT (ybw p k)++clT ybn):yaj (bl s2)=some (yal signs (yay cs p k))/\∀ c∈yay cs p k,yar c:=by
 obtain⟨a1,a2,a3⟩:=ya7 h
 have h1:=ycf (bl s) [] cs (by simp) (by simpa using a1) a2
 rw[List.nil_append] at h1
 have h2:=(h1.app (yb2 (ybz (k:=k) hp))).app (yb2 yb0)
 refine⟨?_,fun c hc=>?_⟩
 ·rw[hs2,yaw,yaw]
  have:=ycg h2
  rw[this]
  simp[yal,yay]
 ·rcases List.mem_append.1 hc with hc|hc
  ·exact a2 c hc
  ·simp only[List.mem_cons,List.not_mem_nil,or_false] at hc
   rcases hc with rfl|rfl
   ·exact ybz hp
   ·exact yb0
theorem yd7{cs:List zab}{f g:ByteArray->Nat}(h:Least cs f)(k:Least cs g)(n:ByteArray):f n=g n:=Nat.le_antisymm (h.2 g k.1 n) (k.2 f h.1 n)
structure ye1 (t t2:List zar):Prop where
 names:∀ n,n∈namesT t2↔n∈namesT t∨n=bZz∨n=bYy
 strata:∀ n,zdv t2 n=zdv t n
 arity:∀ e∈t,∀ e2∈t2,e.name=e2.name->e.arity=e2.arity
theorem yds{s s2:ByteArray}{cs:List zab}{t0 t:List zar}(h:znz s=.ok (cs,t))(hp:Parts cs t0 t){e:zar}(he:e∈t)(hz:bZz∉namesT t)(hy:bYy∉namesT t)(h5:s2.size<=500)(hs2:s2=s++clT (ybw e.name e.arity)++clT ybn):∃ t20 t2,znz s2=.ok (yay cs e.name e.arity,t2)/\Parts (yay cs e.name e.arity) t20 t2/\ye1 t t2:=by
 obtain⟨hn0,ha0⟩:=hp.nam
 have hmem:e.name∈namesT t0:=by rw[← hn0];exact List.mem_map.2 ⟨e,he,rfl⟩
 obtain⟨l0,hl0,hle⟩:=(hp.tab.names e.name).1 hmem
 obtain⟨c0,hc0,hlc⟩:=List.mem_flatMap.1 hl0
 have hw:=(ya7 h).2.1 c0 hc0
 have hwl:yav l0:=by
  rcases List.mem_cons.1 hlc with rfl|q
  ·exact hw.2.1
  ·exact hw.2.2 l0 q
 have hpw:ya0 (bl e.name)/\zsu (hdB (bl e.name))=true:=by rw[← hle];exact hwl.1
 have har:l0.args.length=e.arity:=by
  have:(e.name,e.arity)∈arT t0:=by rw[← ha0];exact List.mem_map.2 ⟨e,he,rfl⟩
  obtain⟨e0,he0,q⟩:=List.mem_map.1 this
  simp only[Prod.mk.injEq] at q
  rw[← q.2]
  exact hp.tab.arity e0 he0 l0 hl0 (by rw[hle,q.1])
 have hk3:e.arity<=3:=by
  rw[← har]
  obtain⟨m1,m2,m3,_⟩:=zfu (hp.many c0 hc0)
  rcases List.mem_cons.1 hlc with rfl|q
  ·exact m1
  ·exact m3 l0 q
 obtain⟨hsp,hws⟩:=ydt (k:=e.arity) h hpw hs2
 have hlen:(yct e.name e.arity).args.length=e.arity:=by
  simp only[yct,List.length_take,abc,List.length_cons,List.length_nil]
  omega
 have hmany:∀ c∈yay cs e.name e.arity,zem c=false:=by
  intro c hc
  rcases List.mem_append.1 hc with hc|hc
  ·exact hp.many c hc
  ·simp only[List.mem_cons,List.not_mem_nil,or_false] at hc
   rcases hc with rfl|rfl
   ·exact(ycs _ hk3).1
   ·exact ycu.1
 have hsafe:∀ c∈yay cs e.name e.arity,ze7 c=true:=by
  intro c hc
  rcases List.mem_append.1 hc with hc|hc
  ·exact hp.safe c hc
  ·simp only[List.mem_cons,List.not_mem_nil,or_false] at hc
   rcases hc with rfl|rfl
   ·exact(ycs _ hk3).2
   ·exact ycu.2
 have hlits:∀ l,l∈(yay cs e.name e.arity).flatMap za2↔l∈cs.flatMap za2∨l=yct e.name e.arity∨l=⟨false,bZz,[]⟩∨l=⟨false,bYy,[]⟩:=by
  intro l
  unfold yay
  rw[List.flatMap_append,List.mem_append]
  simp[za2,ybw,ybn]
 have hno:∀ l∈cs.flatMap za2,l.pred∈namesT t:=fun l hl=>by rw[hn0];exact(hp.tab.names l.pred).2 ⟨l,hl,rfl⟩
 have hzy:bZz≠bYy:=by decide
 have hez:e.name≠bZz:=fun q=>hz (by rw[← q];exact List.mem_map.2 ⟨e,he,rfl⟩)
 have hey:e.name≠bYy:=fun q=>hy (by rw[← q];exact List.mem_map.2 ⟨e,he,rfl⟩)
 have hone:∀ x∈(yay cs e.name e.arity).flatMap za2,∀ y∈(yay cs e.name e.arity).flatMap za2,x.pred=y.pred->x.args.length=y.args.length:=by
  have hA:∀ x∈cs.flatMap za2,x.pred=e.name->x.args.length=e.arity:=fun x hx q=>by
   rw[← har]
   exact yci hp.tab hx hl0 (q.trans hle.symm)
  intro x hx y hy2 q
  rcases(hlits x).1 hx with hx|rfl|rfl|rfl
  ·rcases(hlits y).1 hy2 with hy2|rfl|rfl|rfl
   ·exact yci hp.tab hx hy2 q
   ·rw[hlen];exact hA x hx q
   ·exact absurd (by rw[← (show x.pred=bZz from q)];exact hno x hx) hz
   ·exact absurd (by rw[← (show x.pred=bYy from q)];exact hno x hx) hy
  ·rcases(hlits y).1 hy2 with hy2|rfl|rfl|rfl
   ·rw[hlen];exact(hA y hy2 q.symm).symm
   ·rfl
   ·exact absurd q hez
   ·exact absurd q hey
  ·rcases(hlits y).1 hy2 with hy2|rfl|rfl|rfl
   ·exact absurd (by rw[(show bZz=y.pred from q)];exact hno y hy2) hz
   ·exact absurd q.symm hez
   ·rfl
   ·exact absurd q hzy
  ·rcases(hlits y).1 hy2 with hy2|rfl|rfl|rfl
   ·exact absurd (by rw[(show bYy=y.pred from q)];exact hno y hy2) hy
   ·exact absurd q.symm hey
   ·exact absurd q.symm hzy
   ·rfl
 obtain⟨u,u1,u2,u3⟩:=yca ((yay cs e.name e.arity).flatMap za2) [] [] z81 (fun e he=>by cases he) (by simpa using hone)
 rw[List.nil_append] at u2
 have hcoll:zgn (yay cs e.name e.arity)=some u:=u1
 have hvz:∀ n,n∉namesT t->val t n=0:=fun n hn=>zw8 hn
 have hL:=hp.least
 have hsol:∀ f,Sol (yay cs e.name e.arity) f↔Sol cs f/\f bYy<=f bZz:=by
  intro f
  unfold Sol yay
  constructor
  ·intro q
   refine⟨fun c hc=>q c (List.mem_append.2 (Or.inl hc)),?_⟩
   have:=q ybn (by simp) ⟨false,bYy,[]⟩ (by simp[ybn])
   simpa [up,ybn] using this
  ·rintro⟨q1,q2⟩ c hc l hl
   rcases List.mem_append.1 hc with hc|hc
   ·exact q1 c hc l hl
   ·simp only[List.mem_cons,List.not_mem_nil,or_false] at hc
    rcases hc with rfl|rfl
    ·simp only[ybw,List.mem_singleton] at hl
     subst hl
     simp[yct,ybw,up]
    ·simp only[ybn,List.mem_singleton] at hl
     subst hl
     simpa [up,ybn] using q2
 have hLeast:Least (yay cs e.name e.arity) (val t):=⟨(hsol _).2 ⟨hL.1,by rw[hvz _ hy];exact Nat.zero_le _⟩,fun g hg n=>hL.2 g ((hsol g).1 hg).1 n⟩
 have hi:=z4g (ych u2) (ycy u3)
 have htr:(zcz (u.length+1) u (yay cs e.name e.arity)).2=true:=hi.1.2 ⟨_,hLeast.1⟩
 have hl2:=hi.2 htr
 have hnm:=zw0 (u.length+1) u (yay cs e.name e.arity) (ych u2)
 have harT:=ziu (u.length+1) u (yay cs e.name e.arity)
 cases hq:zcz (u.length+1) u (yay cs e.name e.arity) with
 |mk t2 b =>
  rw[hq] at htr hl2 hnm harT
  simp only at htr hl2 hnm harT
  subst htr
  refine⟨u,t2,yej h5 hsp hws hmany hcoll hsafe hq,⟨yey h5 hsp hws,hmany,hcoll,u2,hsafe,hq⟩,?_,fun n=>?_,?_⟩
  ·intro n
   rw[hnm,u2.names]
   constructor
   ·rintro⟨l,hl,rfl⟩
    rcases(hlits l).1 hl with hl|rfl|rfl|rfl
    ·exact Or.inl (hno l hl)
    ·exact Or.inl (List.mem_map.2 ⟨e,he,rfl⟩)
    ·exact Or.inr (Or.inl rfl)
    ·exact Or.inr (Or.inr rfl)
   ·rintro(q|rfl|rfl)
    ·rw[hn0] at q
     obtain⟨l,hl,rfl⟩:=(hp.tab.names n).1 q
     exact⟨l,(hlits l).2 (Or.inl hl),rfl⟩
    ·exact⟨_,(hlits _).2 (Or.inr (Or.inr (Or.inl rfl))),rfl⟩
    ·exact⟨_,(hlits _).2 (Or.inr (Or.inr (Or.inr rfl))),rfl⟩
  ·rw[zja,zja]
   exact yd7 hl2 hLeast n
  ·intro a ha a2 ha2 q
   have h1:(a.name,a.arity)∈arT t0:=by rw[← ha0];exact List.mem_map.2 ⟨a,ha,rfl⟩
   obtain⟨b1,hb1,q1⟩:=List.mem_map.1 h1
   have h2:(a2.name,a2.arity)∈arT u:=by rw[← harT];exact List.mem_map.2 ⟨a2,ha2,rfl⟩
   obtain⟨b2,hb2,q2⟩:=List.mem_map.1 h2
   simp only[Prod.mk.injEq] at q1 q2
   obtain⟨l,hl,hln⟩:=(hp.tab.names b1.name).1 (List.mem_map.2 ⟨b1,hb1,rfl⟩)
   rw[← q1.2,← q2.2,← hp.tab.arity b1 hb1 l hl hln]
   exact u2.arity b2 hb2 l ((hlits l).2 (Or.inl hl)) (by rw[hln,q1.1,q,q2.1])
end Go.Proofs.YteampbddflhngabGreat
