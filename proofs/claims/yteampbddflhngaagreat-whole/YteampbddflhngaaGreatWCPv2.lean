import Derived.Test.YteampbddflhngaaGreatW42
import Derived.Test.YteampbddflhngaaGreatW04
import Derived.Test.YteampbddflhngaaGreatW08
import Derived.Test.YteampbddflhngaaGreatW41

namespace Go.Proofs.YteampbddflhngaaGreat
open Classical
variable {t t0:List zar}{cs:List zab}
theorem yb3{t':List zar}{l:zbu}(h0:∀ e∈t,e.qi=0)(h:zps t l=some t'):∀ e∈t',e.qi=0:=by
 unfold zps at h
 split at h
 ·split at h
  ·simp only[uab] at h;subst h;exact h0
  ·cases h
 ·simp only[uab] at h
  subst h
  intro e he
  rcases zlf.1 he with rfl|he
  ·rfl
  ·exact h0 e he
theorem yb1:∀(ls done:List zbu) (t:List zar),Tab t done->(∀ e∈t,e.qi=0)->(∀ x∈done++ls,∀ y∈done++ls,x.pred=y.pred->x.args.length=y.args.length)->∃ t',ls.foldl zm7 (some t)=some t'/\Tab t' (done++ls)/\∀ e∈t',e.qi=0
 |[],done,t,h,h0,_=>⟨t,rfl,by simpa using h,h0⟩
 |l::ls,done,t,h,h0,ha=>by
  rw[uax]
  cases hq:zps t l with
  |none =>
   exfalso
   unfold zps at hq
   split at hq
   ·rename_i e he
    obtain⟨hm,hn⟩:=zn3 he
    split at hq
    ·cases hq
    ·rename_i har
     obtain⟨l0,hl0,hp0⟩:=(h.names e.name).1 (uai.2 ⟨e,hm,rfl⟩)
     apply har
     rw[← h.je e hm l0 hl0 hp0]
     exact ha l0 (by simp[hl0]) l (by simp) (hp0.trans hn)
   ·cases hq
  |some t2 =>
   rw[show zm7 (some t) l=some t2 from hq]
   obtain⟨t',i1,i2,i3⟩:=yb1 ls (done++[l]) t2 (h.step hq) (yb3 h0 hq) (by simpa [List.append_assoc] using ha)
   exact⟨t',i1,by simpa [List.append_assoc] using i2,i3⟩
theorem yc1{ls:List zbu}(h:Tab t ls){x y:zbu}(hx:x∈ls)(hy:y∈ls)(e:x.pred=y.pred):x.args.length=y.args.length:=by
 obtain⟨a,hm,hen⟩:=uai.1 ((h.names x.pred).2 ⟨x,hx,rfl⟩)
 rw[h.je a hm x hx hen.symm,h.je a hm y hy (e.symm.trans hen.symm)]
theorem ycq(h:Tab t (cs.flatMap za2)):zlu t cs:=by
 intro c hc l hl
 cases he:zbh t l.pred with
 |some e=>rfl
 |none =>
  obtain⟨e,hm,hn⟩:=uai.1 ((h.names l.pred).2 ⟨l,ubo.2 ⟨c,hc,hl⟩,rfl⟩)
  exact absurd hn (zkz h.rise he e hm)
theorem ycr(h:∀ e∈t,e.qi=0)(n:ByteArray):val t n=0:=by
 unfold val;split
 ·rename_i e he;exact h e (zn3 he).1
 ·rfl
theorem yb4(h:zgm cs=some t0):∀ e∈t0,e.qi=0:=by
 have hT:=zvt h
 obtain⟨u,u1,u2,u3⟩:=yb1 (cs.flatMap za2) [] [] z8y (fun e he=>by cases he) (fun x hx y hy e=>yc1 hT (by simpa using hx) (by simpa using hy) e)
 have hu:u=t0:=by unfold zgm at h;rw[u1] at h;simpa using h
 subst hu
 exact u3
theorem Parts.least(h:Parts cs t0 t):Least cs (val t):=by
 have:=(z4f (ycq h.tab) (ycr (yb4 h.coll))).2 (by rw[h.jl])
 rwa [h.jl] at this
theorem Parts.nam(h:Parts cs t0 t):namesT t=namesT t0/\arT t=arT t0:=by
 have h1:=zwz (t0.length+1) t0 cs (ycq h.tab)
 have h2:=ziu (t0.length+1) t0 cs
 rw[h.jl] at h1 h2
 exact⟨h1,h2⟩
end Go.Proofs.YteampbddflhngaaGreat
namespace Go.Proofs.YteampbddflhngaaGreat
def byt(b:UInt8):Int:=(b.toNat:Int)
def hdB:List UInt8->Int
 |[]=>0
 |b::_=>byt b
def yct(l:List UInt8)(k:Int):Nat:=if k=9 then 2 else if k=1∨k=2 then(l.takeWhile fun b=>bLD (byt b)).length else if k=3 then(l.takeWhile fun b=>zvp (byt b)).length else 1
def ya0:Nat->List UInt8->Option (List Tok)
 |0,_=>some []
 |_+1,[]=>some []
 |n+1,a::l =>
  if zmn (byt a) then ya0 n l
  else if zii (byt a) (hdB l)=0 then none
  else if 6 < yct (a::l) (zii (byt a) (hdB l)) then none
  else(ya0 n ((a::l).drop (yct (a::l) (zii (byt a) (hdB l))))).map ((zii (byt a) (hdB l),(⟨((a::l).take (yct (a::l) (zii (byt a) (hdB l)))).toArray⟩:ByteArray))::·)
theorem ybh(s:ByteArray)(i:Nat):bAt s i=hdB (s.data.toList.drop i):=by
 unfold bAt
 split
 ·rename_i h
  have h':i < s.data.toList.length:=by simpa using h
  rw[uah h']
  simp[hdB,byt,ByteArray.getElem_eq_getElem_data]
 ·rename_i h
  rw[uaq (by have:s.data.toList.length=s.size:=(by rw[uc5];rfl);omega)]
  rfl
theorem ya8(p:Int->Bool)(s:ByteArray):∀(n i:Nat),s.size - i<=n->zc5 p s i=i+((s.data.toList.drop i).takeWhile fun b=>p (byt b)).length:=by
 have hsz:s.data.toList.length=s.size:=by rw[uc5];rfl
 intro n
 induction n with
 |zero =>
  intro i h
  rw[zib (by omega),uaq (by omega)]
  simp
 |succ n ih =>
  intro i h
  by_cases hi:i < s.size
  ·have hb:=ybh s i
   rw[uah (by omega)] at hb ⊢
   simp only[hdB] at hb
   cases hp:p (bAt s i) with
   |false =>
    rw[zo0 hp,ucm,← hb,hp]
    simp
   |true =>
    rw[zjm hi hp,ih (i+1) (by omega),ucm,← hb,hp]
    simp
    omega
  ·rw[zib hi,uaq (by omega)]
   simp
theorem ycx{s:ByteArray}{i:Nat}{k:Int}(hk:k≠0):zn2 s i k=i+yct (s.data.toList.drop i) k:=by
 unfold zn2 yct
 rw[if_neg hk]
 split
 ·rfl
 ·split
  ·exact ya8 bLD s _ i (uaa _)
  ·split
   ·exact ya8 zvp s _ i (uaa _)
   ·rfl
theorem ybk(s:ByteArray)(i m:Nat):s.extract i (i+m)=⟨((s.data.toList.drop i).take m).toArray⟩:=by
 apply ByteArray.ext
 rw[ByteArray.data_extract]
 apply Array.ext'
 simp[List.take_drop]
theorem ycc(s:ByteArray):∀(n i:Nat),splitN n s i=ya0 n (s.data.toList.drop i):=by
 have hsz:s.data.toList.length=s.size:=by rw[uc5];rfl
 intro n
 induction n with
 |zero=>intro i;rfl
 |succ n ih =>
  intro i
  by_cases hi:i < s.size
  ·have hb:=ybh s i
   have hb1:=ybh s (i+1)
   have he:∀ k,k≠0->zn2 s i k=i+yct (s.data.toList.drop i) k:=fun k hk=>ycx hk
   have hx:∀ m,s.extract i (i+m)=⟨((s.data.toList.drop i).take m).toArray⟩:=ybk s i
   have hdr:∀ m,s.data.toList.drop (i+m)=(s.data.toList.drop i).drop m:=fun m=>by rw[List.drop_drop]
   have hc:=uah (l:=s.data.toList) (i:=i) (by omega)
   unfold splitN
   rw[if_pos hi]
   rw[hc] at hb he hx hdr ⊢
   unfold ya0
   simp only[hdB] at hb
   rw[hb,hb1,ih]
   split
   ·rfl
   ·split
    ·rfl
    ·rename_i hk
     generalize zii (byt s.data.toList[i]) (hdB (List.drop (i+1) s.data.toList))=k at *
     rw[he k hk]
     generalize yct (s.data.toList[i]::List.drop (i+1) s.data.toList) k=m at *
     rw[uc6,hx m,ih,hdr m]
  ·rw[zwx hi,uaq (by omega)]
   rfl
structure ybr (x:List UInt8):Prop where
 ne:x≠[]
 six:x.length<=6
 kind:(zst (hdB x)=true∨z7l (hdB x)=true)/\(∀ b∈x,bLD (byt b)=true)∨zvp (hdB x)=true/\∀ b∈x,zvp (byt b)=true
def bl(x:ByteArray):List UInt8:=x.data.toList
def yaz(l:zbu):Prop:=(ybr (bl l.pred)/\zst (hdB (bl l.pred))=true)/\∀ x∈l.args,ybr (bl x)
def ya3(c:zab):Prop:=c.head.neg=false/\yaz c.head/\∀ l∈c.body,yaz l
end Go.Proofs.YteampbddflhngaaGreat
namespace Go.Proofs.YteampbddflhngaaGreat
variable {r r2:List Tok}
def yc3(x:Tok):Prop:=isT x.1=true->ybr (bl x.2)/\(x.1=1->zst (hdB (bl x.2))=true)
theorem yay(p:UInt8->Bool)(l:List UInt8):l.take (l.takeWhile p).length=l.takeWhile p:=by
 induction l with
 |nil=>rfl
 |cons a l ih =>
  rw[ucm]
  split
  ·simp[ih]
  ·rfl
theorem yar{p:UInt8->Bool}:∀ {l:List UInt8} {b:UInt8},b∈l.takeWhile p->p b=true
 |[],_,h=>by simp at h
 |a::l,b,h=>by
  rw[ucm] at h
  split at h
  ·rename_i ha
   rcases uag.1 h with rfl|h
   ·exact ha
   ·exact yar h
  ·cases h
theorem yax:∀(n:Nat) (l:List UInt8) (ts:List Tok),ya0 n l=some ts->∀ x∈ts,yc3 x
 |0,_,ts,h,x,hx=>by simp[ya0] at h;subst h;cases hx
 |_+1,[],ts,h,x,hx=>by simp[ya0] at h;subst h;cases hx
 |n+1,a::l,ts,h,x,hx=>by
  unfold ya0 at h
  split at h
  ·exact yax n l ts h x hx
  ·split at h
   ·cases h
   ·rename_i hk
    split at h
    ·cases h
    ·rename_i h6
     obtain⟨us,hu,rfl⟩:=ua6.1 h
     rcases uag.1 hx with rfl|hx
     ·intro ht
      simp only at ht ⊢
      have hbl:∀ m,bl (⟨((a::l).take m).toArray⟩:ByteArray)=(a::l).take m:=fun m=>by simp[bl]
      rw[hbl]
      generalize hK:zii (byt a) (hdB l)=k at *
      unfold zii at hK
      by_cases hs:zst (byt a)=true
      ·rw[if_pos hs] at hK
       subst hK
       have e:yct (a::l) 1=((a::l).takeWhile fun b=>bLD (byt b)).length:=rfl
       rw[e] at h6 ⊢
       rw[yay]
       have hh:(a::l).takeWhile (fun b=>bLD (byt b))=a::l.takeWhile (fun b=>bLD (byt b)):=by rw[ucm,if_pos (by simp[bLD,hs])]
       refine⟨⟨by rw[hh];simp,by omega,Or.inl ⟨Or.inl (by rw[hh];exact hs),fun b hb=>yar (p:=fun b=>bLD (byt b)) hb⟩⟩,fun _=>by rw[hh];exact hs⟩
      ·rw[if_neg hs] at hK
       by_cases hc:z7l (byt a)=true
       ·rw[if_pos hc] at hK
        subst hK
        have e:yct (a::l) 2=((a::l).takeWhile fun b=>bLD (byt b)).length:=rfl
        rw[e] at h6 ⊢
        rw[yay]
        have hh:(a::l).takeWhile (fun b=>bLD (byt b))=a::l.takeWhile (fun b=>bLD (byt b)):=by rw[ucm,if_pos (by simp[bLD,hc])]
        exact⟨⟨by rw[hh];simp,by omega,Or.inl ⟨Or.inr (by rw[hh];exact hc),fun b hb=>yar (p:=fun b=>bLD (byt b)) hb⟩⟩,fun q=>by cases q⟩
       ·rw[if_neg hc] at hK
        by_cases hd:zvp (byt a)=true
        ·rw[if_pos hd] at hK
         subst hK
         have e:yct (a::l) 3=((a::l).takeWhile fun b=>zvp (byt b)).length:=rfl
         rw[e] at h6 ⊢
         rw[yay]
         have hh:(a::l).takeWhile (fun b=>zvp (byt b))=a::l.takeWhile (fun b=>zvp (byt b)):=by rw[ucm,if_pos (by simp[hd])]
         exact⟨⟨by rw[hh];simp,by omega,Or.inr ⟨by rw[hh];exact hd,fun b hb=>yar (p:=fun b=>zvp (byt b)) hb⟩⟩,fun q=>by cases q⟩
        ·exfalso
         rw[if_neg hd] at hK
         split at hK
         ·subst hK;simp[isT] at ht
         ·unfold z5d at hK
          (repeat' split at hK) <;> subst hK <;> simp[isT] at ht
     ·exact yax n _ us hu x hx
theorem yba:∀(r:List Tok) {ts:List ByteArray} {r2:List Tok},zbv r=some (ts,r2)->(∀ x∈r,yc3 x)->(∀ y∈ts,ybr (bl y))/\∀ x∈r2,x∈r
 |[],_,_,h,_=>by simp[zbv] at h
 |[x],ts,r2,h,ht=>by
  simp only[zbv] at h
  split at h
  ·rename_i hq
   simp only[uab,uak] at h
   obtain⟨rfl,rfl⟩:=h
   exact⟨fun y hy=>by simp at hy;subst hy;exact(ht x (by simp) hq).1,by simp⟩
  ·cases h
 |x::y::r,ts,r2,h,ht=>by
  simp only[zbv] at h
  split at h
  ·rename_i hq
   split at h
   ·obtain⟨z,hz,he⟩:=ua6.1 h
    simp only[uak] at he
    obtain⟨rfl,rfl⟩:=he
    obtain⟨i1,i2⟩:=yba r (ts:=z.1) (r2:=z.2) hz (fun u hu=>ht u (by simp[hu]))
    refine⟨fun u hu=>?_,fun u hu=>by simp[i2 u hu]⟩
    rcases uag.1 hu with rfl|hu
    ·exact(ht x (by simp) hq).1
    ·exact i1 u hu
   ·simp only[uab,uak] at h
    obtain⟨rfl,rfl⟩:=h
    exact⟨fun u hu=>by simp at hu;subst hu;exact(ht x (by simp) hq).1,fun u hu=>by simp[List.mem_cons.1 hu]⟩
  ·cases h
theorem yad{x:Tok}(h:x∈r.tail):x∈r:=by
 cases r with
 |nil=>exact h
 |cons a r=>simp at h;simp[h]
theorem yau{l:zbu}(h:zeh r=some (l,r2))(ht:∀ x∈r,yc3 x):l.neg=false/\yaz l/\∀ x∈r2,x∈r:=by
 unfold zeh at h
 split at h
 ·rename_i h1
  cases r with
  |nil=>simp[hdK] at h1
  |cons a r =>
   have ha:a.1=1:=h1
   have hw:=ht a (by simp) (by rw[ha];rfl)
   have hp:ybr (bl a.2)/\zst (hdB (bl a.2))=true:=⟨hw.1,hw.2 ha⟩
   change (if hdK r=4 then(match zbv r.tail with|none=>none|some (ts,r2)=>if hdK r2=5 then some ((⟨false,a.2,ts⟩:zbu),r2.tail) else none) else some ((⟨false,a.2,[]⟩:zbu),r))=some (l,r2) at h
   by_cases h4:hdK r=4
   ·rw[if_pos h4] at h
    cases hq:zbv r.tail with
    |none=>rw[hq] at h;cases h
    |some z =>
     obtain⟨ts,r3⟩:=z
     rw[hq] at h
     simp only at h
     by_cases h5:hdK r3=5
     ·rw[if_pos h5] at h
      simp only[uab,uak] at h
      obtain⟨rfl,rfl⟩:=h
      obtain⟨i1,i2⟩:=yba _ hq (fun u hu=>ht u (by simp[yad hu]))
      exact⟨rfl,⟨hp,i1⟩,fun u hu=>by simp[yad (i2 u (yad hu))]⟩
     ·rw[if_neg h5] at h;cases h
   ·rw[if_neg h4] at h
    simp only[uab,uak] at h
    obtain⟨rfl,rfl⟩:=h
    exact⟨rfl,⟨hp,fun y hy=>by cases hy⟩,fun u hu=>by simp[hu]⟩
 ·cases h
theorem ycl{l:zbu}(h:zsf r=some (l,r2))(ht:∀ x∈r,yc3 x):yaz l/\∀ x∈r2,x∈r:=by
 unfold zsf at h
 split at h
 ·obtain⟨z,hz,he⟩:=ua6.1 h
  simp only[uak] at he
  obtain⟨rfl,rfl⟩:=he
  obtain⟨_,i2,i3⟩:=yau (l:=z.1) (r2:=z.2) hz (fun u hu=>ht u (yad hu))
  exact⟨i2,fun u hu=>yad (i3 u hu)⟩
 ·exact(yau h ht).2
theorem ybc:∀(n:Nat) {r:List Tok} {b:List zbu} {r2:List Tok},ze4 n r=some (b,r2)->(∀ x∈r,yc3 x)->(∀ l∈b,yaz l)/\∀ x∈r2,x∈r
 |0,_,_,_,h,_=>by cases h
 |n+1,r,b,r2,h,ht=>by
  unfold ze4 at h
  split at h
  ·cases h
  ·rename_i a r3 hq
   obtain⟨i1,i2⟩:=ycl hq ht
   split at h
   ·obtain⟨z,hz,he⟩:=ua6.1 h
    simp only[uak] at he
    obtain⟨rfl,rfl⟩:=he
    obtain⟨j1,j2⟩:=ybc n (b:=z.1) (r2:=z.2) hz (fun u hu=>ht u (i2 u (yad hu)))
    refine⟨fun l hl=>?_,fun u hu=>i2 u (yad (j2 u hu))⟩
    rcases uag.1 hl with rfl|hl
    ·exact i1
    ·exact j1 l hl
   ·simp only[uab,uak] at h
    obtain⟨rfl,rfl⟩:=h
    exact⟨fun l hl=>by simp at hl;subst hl;exact i1,i2⟩
theorem ybj{n:Nat}{c:zab}(h:ze5 n r=some (c,r2))(ht:∀ x∈r,yc3 x):ya3 c/\∀ x∈r2,x∈r:=by
 unfold ze5 at h
 split at h
 ·cases h
 ·rename_i a r3 hq
  obtain⟨i0,i1,i2⟩:=yau hq ht
  split at h
  ·split at h
   ·cases h
   ·rename_i b r4 hb
    split at h
    ·simp only[uab,uak] at h
     obtain⟨rfl,rfl⟩:=h
     obtain⟨j1,j2⟩:=ybc n hb (fun u hu=>ht u (i2 u (yad hu)))
     exact⟨⟨i0,i1,j1⟩,fun u hu=>i2 u (yad (j2 u (yad hu)))⟩
    ·cases h
  ·split at h
   ·simp only[uab,uak] at h
    obtain⟨rfl,rfl⟩:=h
    exact⟨⟨i0,i1,fun l hl=>by cases hl⟩,fun u hu=>i2 u (yad hu)⟩
   ·cases h
theorem ybg{n:Nat}:∀(m:Nat) {r:List Tok} {cs:List zab},zew n m r=some cs->(∀ x∈r,yc3 x)->∀ c∈cs,ya3 c
 |m,[],cs,h,_=>by cases m <;> (simp[zew] at h;subst h;simp)
 |0,_::_,cs,h,_=>by simp[zew] at h
 |m+1,x::r,cs,h,ht=>by
  unfold zew at h
  split at h
  ·cases h
  ·rename_i c r2 hq
   obtain⟨i1,i2⟩:=ybj hq ht
   obtain⟨ds,hd,rfl⟩:=ua6.1 h
   intro z hz
   rcases uag.1 hz with rfl|hz
   ·exact i1
   ·exact ybg m hd (fun u hu=>ht u (i2 u hu)) z hz
theorem ybx{s:ByteArray}{l:List Tok}(h:splitB s=some l):∀ x∈l,yc3 x:=by
 unfold splitB at h
 rw[ycc] at h
 exact yax _ _ _ h
end Go.Proofs.YteampbddflhngaaGreat
namespace Go.Proofs.YteampbddflhngaaGreat
open Classical
variable {t:List zar}
theorem Parts.rising{cs:List zab}{t0:List zar}(h:Parts cs t0 t):zcg (namesT t):=by rw[h.nam.1];exact h.tab.rise
theorem yc4(hr:zcg (namesT t)){n:ByteArray}(hn:n∈namesT t):∃ e,zbh t n=some e/\zbd t n=zai t n/\zbd t n < t.length:=by
 cases he:zbh t n with
 |none =>
  obtain⟨e,hm,q⟩:=uai.1 hn
  exact absurd q (zkz hr he e hm)
 |some e =>
  obtain⟨k,_,_⟩:=zch he
  have:zbd t n=zai t n:=by unfold zbd;rw[he];rfl
  exact⟨e,rfl,this,by rw[this];exact k⟩
theorem yci(hr:zcg (namesT t)){n m:ByteArray}(hn:n∈namesT t)(hm:m∈namesT t)(e:zbd t n=zbd t m):n=m:=by
 obtain⟨a,a1,a2,_⟩:=yc4 hr hn
 obtain⟨b,b1,b2,_⟩:=yc4 hr hm
 exact z5r a1 b1 (by rw[← a2,← b2,e])
theorem ya5{cs:List zab}{t0:List zar}(h:Parts cs t0 t){c:zab}(hc:c∈cs){l:zbu}(hl:l∈za2 c):l.pred∈namesT t:=by
 rw[h.nam.1]
 exact(h.tab.names l.pred).2 ⟨l,ubo.2 ⟨c,hc,hl⟩,rfl⟩
theorem yb2(rs:List zah)(k:Nat)(D:DB)(p:Nat)(x:zao):InD (zg1 rs k D) p x↔InD D p x∨zsi rs D p x:=by
 unfold InD zg1
 cases D p x with
 |some m=>simp
 |none =>
  by_cases h:zsi rs D p x <;> simp[h]
theorem yco{ns:List ByteArray}(cs:List zab)(s:Nat):((zet t ns none cs).filter fun r=>decide (r.qi=s))=[]↔¬ ∃ c∈cs,0 < c.body.length/\zdv t c.head.pred=s:=by
 rw[List.filter_eq_nil_iff]
 constructor
 ·rintro q ⟨c,hc,hb,hs⟩
  obtain⟨i,hi,rfl⟩:=uby.1 hc
  have:=q _ (zqh.2 ⟨i,hi,hb,rfl⟩)
  exact this (decide_eq_true hs)
 ·intro q r hr
  obtain⟨i,hi,hb,rfl⟩:=zqh.1 hr
  exact fun e=>q ⟨_,uad hi,hb,of_decide_eq_true e⟩
end Go.Proofs.YteampbddflhngaaGreat
namespace Go.Proofs.YteampbddflhngaaGreat
open Classical
variable {cs:List zab}{t0 t:List zar}{ns:List ByteArray}{rs:List zah}
def yc7(t:List zar)(ns:List ByteArray)(c:zab)(D:DB)(x:zao)(m:Nat):Prop:=0 < m/\∃ σ,(∀ l∈c.body,l.neg=false->∃ m',m' < m/\D (zbd t l.pred) (z6s ns σ l)=some m')/\(∀ l∈c.body,l.neg=true->D (zbd t l.pred) (z6s ns σ l)=none)/\x=z6s ns σ c.head
structure Deep (t:List zar) (ns:List ByteArray) (cs:List zab) (s k:Nat) (D:DB):Prop where
 time:∀ p x m,D p x=some m->m<=k
 just:∀ p x m,D p x=some m->(m=0/\∃ c∈cs,c.body.length=0/\p=zbd t c.head.pred/\(ziw t ns c).row=x)∨∃ c∈cs,0 < c.body.length/\zdv t c.head.pred<=s/\p=zbd t c.head.pred/\yc7 t ns c D x m
 shut:∀ c∈cs,0 < c.body.length->zdv t c.head.pred < s->∀ x,z96 t ns c D x->InD D (zbd t c.head.pred) x
 base:∀ c∈cs,c.body.length=0->D (zbd t c.head.pred) (ziw t ns c).row=some 0
theorem ycp{f:ByteArray->Nat}(h:Sol cs f){c:zab}(hc:c∈cs){l:zbu}(hl:l∈c.body):f l.pred<=f c.head.pred/\(l.neg=true->f l.pred < f c.head.pred):=by
 have:=h c hc l hl
 unfold up at this
 cases hn:l.neg with
 |false=>rw[hn] at this;exact⟨by simpa using this,fun q=>by cases q⟩
 |true=>rw[hn] at this;simp at this;exact⟨by omega,fun _=>by omega⟩
theorem ya7(h:Parts cs t0 t){s k:Nat}{D:DB}(hst:∀ D p x,zsi rs D p x↔z9y t ns cs s D p x){n:ByteArray}(hn:n∈namesT t)(hs:zdv t n≠s)(x:zao):zg1 rs k D (zbd t n) x=D (zbd t n) x:=by
 unfold zg1
 cases hq:D (zbd t n) x with
 |some m=>rfl
 |none =>
  have:¬ zsi rs D (zbd t n) x:=by
   rw[hst]
   rintro⟨c,hc,hb,h1,h2,_⟩
   have:=yci h.rising hn (ya5 h hc (l:=c.head) (by simp[za2])) h2
   rw[this] at hs
   exact hs h1
  simp[this]
theorem yas{k:Nat}{D:DB}{p:Nat}{x:zao}{m:Nat}(h:D p x=some m):zg1 rs k D p x=some m:=by
 unfold zg1
 rw[h]
theorem Deep.round(hp:Parts cs t0 t){s k:Nat}{D:DB}(hst:∀ D p x,zsi rs D p x↔z9y t ns cs s D p x)(h:Deep t ns cs s k D):Deep t ns cs s (k+1) (zg1 rs (k+1) D):=by
 have hsol:Sol cs (zdv t):=hp.least.1
 have hneg:∀ c∈cs,zdv t c.head.pred<=s->∀ l∈c.body,l.neg=true->∀ x,zg1 rs (k+1) D (zbd t l.pred) x=D (zbd t l.pred) x:=by
  intro c hc hs l hl hn x
  have:=(ycp hsol hc hl).2 hn
  exact ya7 hp hst (ya5 hp hc (by simp[za2,hl])) (by omega) x
 refine⟨fun p x m hm=>?_,fun p x m hm=>?_,fun c hc hb hs x hd=>?_,fun c hc hb=>?_⟩
 ·unfold zg1 at hm
  cases hq:D p x with
  |some m'=>rw[hq] at hm;simp only[uab] at hm;have:=h.time p x m' hq;omega
  |none =>
   rw[hq] at hm
   simp only at hm
   split at hm
   ·simp only[uab] at hm;omega
   ·cases hm
 ·cases hq:D p x with
  |some m' =>
   have e:m'=m:=by rw[yas hq] at hm;simpa using hm
   subst e
   rcases h.just p x m' hq with z|⟨c,hc,hb,hs,hpp,j0,σ,j1,j2,j3⟩
   ·exact Or.inl z
   ·refine Or.inr ⟨c,hc,hb,hs,hpp,j0,σ,fun l hl hn=>?_,fun l hl hn=>?_,j3⟩
    ·obtain⟨u,u1,u2⟩:=j1 l hl hn
     exact⟨u,u1,yas u2⟩
    ·rw[hneg c hc hs l hl hn]
     exact j2 l hl hn
  |none =>
   have hstep:zsi rs D p x/\m=k+1:=by
    unfold zg1 at hm
    rw[hq] at hm
    simp only at hm
    split at hm
    ·rename_i z;simp only[uab] at hm;exact⟨z,hm.symm⟩
    ·cases hm
   obtain⟨hS,rfl⟩:=hstep
   obtain⟨c,hc,hb,hs,hpp,σ,d1,d2,d3⟩:=(hst D p x).1 hS
   refine Or.inr ⟨c,hc,hb,by omega,hpp,by omega,σ,fun l hl hn=>?_,fun l hl hn=>?_,d3⟩
   ·obtain⟨u,hu⟩:=ubf.1 (d1 l hl hn)
    have:=h.time _ _ _ hu
    exact⟨u,by omega,yas hu⟩
   ·rw[hneg c hc (by omega) l hl hn]
    exact d2 l hl hn
 ·obtain⟨σ,d1,d2,d3⟩:=hd
  have hsame:∀ l∈c.body,∀ x,zg1 rs (k+1) D (zbd t l.pred) x=D (zbd t l.pred) x:=fun l hl x=>by
   have:=(ycp hsol hc hl).1
   exact ya7 hp hst (ya5 hp hc (by simp[za2,hl])) (by omega) x
  have:=h.shut c hc hb hs x ⟨σ,fun l hl hn=>by have q:=d1 l hl hn;unfold InD at q ⊢;rw[hsame l hl] at q;exact q,fun l hl hn=>by rw[← hsame l hl];exact d2 l hl hn,d3⟩
  exact z0c rs (k+1) D _ _ this
 ·exact yas (h.base c hc hb)
theorem Deep.qw{cs:List zab}{t0 t:List zar}(hp:Parts cs t0 t){ns:List ByteArray}{rs:List zah}{s:Nat}(hst:∀ D p x,zsi rs D p x↔z9y t ns cs s D p x)(mr:Nat){E:DB}{e:Nat}:∀(left k:Nat) (D:DB),Deep t ns cs s k D->zd9 rs mr left k D=some (E,e)->Deep t ns cs (s+1) e E
 |0,_,_,_,h=>by cases h
 |left+1,k,D,hD,h=>by
  have hR:=hD.round hp hst
  unfold zd9 at h
  split at h
  ·split at h
   ·rename_i hstop
    simp only[uab,uak] at h
    obtain⟨rfl,rfl⟩:=h
    have e:zg1 rs (k+1) D=D:=by
     funext p x
     unfold zg1
     cases hq:D p x with
     |some m=>rfl
     |none =>
      have:¬ zsi rs D p x:=fun z=>by
       have:=hstop p x ((yb2 _ _ _ _ _).2 (Or.inr z))
       unfold InD at this
       rw[hq] at this
       cases this
      simp[this]
    refine⟨hR.time,fun p x m hm=>?_,fun c hc hb hs x hd=>?_,hR.base⟩
    ·rcases hR.just p x m hm with z|⟨c,hc,hb,hs,z⟩
     ·exact Or.inl z
     ·exact Or.inr ⟨c,hc,hb,by omega,z⟩
    ·by_cases hs2:zdv t c.head.pred < s
     ·exact hR.shut c hc hb hs2 x hd
     ·rw[e] at hd
      exact(yb2 _ _ _ _ _).2 (Or.inr ((hst D _ x).2 ⟨c,hc,hb,by omega,rfl,hd⟩))
   ·exact Deep.qw hp hst mr left (k+1) _ hR h
  ·cases h
theorem Deep.strata{cs:List zab}{t0 t:List zar}(hp:Parts cs t0 t){ns:List ByteArray}(mr mx:Nat){E:DB}{e:Nat}:∀(n s k:Nat) (D:DB),Deep t ns cs s k D->zez (zet t ns none cs) mr mx n s k D=some (E,e)->Deep t ns cs (s+n) e E
 |0,s,k,D,hD,h=>by
  simp only[zez,uab,uak] at h
  rw[← h.1,← h.2]
  exact hD
 |n+1,s,k,D,hD,h=>by
  have hpl:∀ i (hi:i < cs.length),zin (za6 ((zd2 none i).getD [])) (zaf cs[i]).length:=fun i hi=>zqq (zga (hp.many _ (uad hi)))
  unfold zez at h
  have e1:s+(n+1)=s+1+n:=by omega
  rw[e1]
  split at h
  ·rename_i hnil
   refine Deep.strata hp mr mx n (s+1) k D ⟨hD.time,fun p x m hm=>?_,fun c hc hb hs x hd=>?_,hD.base⟩ h
   ·rcases hD.just p x m hm with z|⟨c,hc,hb,hs,z⟩
    ·exact Or.inl z
    ·exact Or.inr ⟨c,hc,hb,by omega,z⟩
   ·by_cases hs2:zdv t c.head.pred < s
    ·exact hD.shut c hc hb hs2 x hd
    ·exact absurd ⟨c,hc,hb,by omega⟩ ((yco cs s).1 hnil)
  ·split at h
   ·cases h
   ·rename_i D1 k1 hq
    exact Deep.strata hp mr mx n (s+1) k1 D1 (hD.qw hp (fun D p x=>z9v hp ns none hpl s D p x) mr _ _ _ hq) h
theorem yc0(hp:Parts cs t0 t){mr mx:Nat}{E:DB}{e:Nat}(h:zjw (zjv t ns none cs) mr mx=some (E,e)):(∀ p x m,E p x=some m->(m=0/\∃ c∈cs,c.body.length=0/\p=zbd t c.head.pred/\(ziw t ns c).row=x)∨∃ c∈cs,0 < c.body.length/\p=zbd t c.head.pred/\yc7 t ns c E x m)/\(∀ c∈cs,0 < c.body.length->∀ x,z96 t ns c E x->InD E (zbd t c.head.pred) x)/\∀ c∈cs,c.body.length=0->E (zbd t c.head.pred) (ziw t ns c).row=some 0:=by
 have hf:∀ p x,zjx (zeq t ns cs) p x=if ∃ c∈cs,c.body.length=0/\p=zbd t c.head.pred/\(ziw t ns c).row=x then some 0 else none:=by
  intro p x
  unfold zjx
  congr 1
  apply propext
  unfold zeq
  simp only[uai,uay]
  constructor
  ·rintro⟨f,⟨c,⟨hc,hb⟩,rfl⟩,q1,q2⟩
   exact⟨c,hc,by simpa using hb,q1.symm,q2⟩
  ·rintro⟨c,hc,hb,q1,q2⟩
   exact⟨_,⟨c,⟨hc,by simp[hb]⟩,rfl⟩,q1.symm,q2⟩
 unfold zjw at h
 split at h
 ·have hD:Deep t ns cs 0 0 (zjx (zeq t ns cs)):=by
   refine⟨fun p x m hm=>?_,fun p x m hm=>?_,fun c hc hb hs=>(by omega),fun c hc hb=>?_⟩
   ·rw[hf] at hm
    split at hm
    ·simp only[uab] at hm;omega
    ·cases hm
   ·rw[hf] at hm
    split at hm
    ·rename_i z;simp only[uab] at hm;exact Or.inl ⟨hm.symm,z⟩
    ·cases hm
   ·rw[hf,if_pos ⟨c,hc,hb,rfl,rfl⟩]
  have hE:=Deep.strata hp mr mx _ 0 0 _ hD h
  have hlt:∀ c∈cs,zdv t c.head.pred < 0+(zjv t ns none cs).qh.length:=by
   intro c hc
   rw[zja]
   have:=z5z hp.least (ps:=namesT t) (fun c hc l hl=>ya5 hp hc hl) (ya5 hp hc (l:=c.head) (by simp[za2]))
   have e2:(zjv t ns none cs).qh.length=t.length:=by simp[zjv]
   rw[e2]
   simpa [namesT] using this
  refine⟨fun p x m hm=>?_,fun c hc hb x hd=>hE.shut c hc hb (hlt c hc) x hd,hE.base⟩
  rcases hE.just p x m hm with z|⟨c,hc,hb,_,z⟩
  ·exact Or.inl z
  ·exact Or.inr ⟨c,hc,hb,z⟩
 ·cases h
end Go.Proofs.YteampbddflhngaaGreat
namespace Go.Proofs.YteampbddflhngaaGreat
open Classical
variable {ns:List ByteArray}
def rowT(σ:ByteArray->ByteArray)(l:zbu):List ByteArray:=l.args.map fun a=>if za8 a=true then σ a else a
structure ya2 (cs:List zab) (fs:List zg4):Prop where
 je:∀ f∈fs,∀ c∈cs,∀ l∈za2 c,l.pred=f.1->f.2.1.length=l.args.length
 ne:∀ f∈fs,∀ x∈f.2.1,x≠ByteArray.empty
 one:∀ f∈fs,∀ g∈fs,f.1=g.1->f.2.1=g.2.1->f=g
 once:fs.Nodup
 shut:∀ c∈cs,0 < c.body.length->∀ σ,(∀ l∈c.body,l.neg=false->∃ m,(l.pred,rowT σ l,m)∈fs)->(∀ l∈c.body,l.neg=true->∀ m,(l.pred,rowT σ l,m)∉fs)->∃ m,(c.head.pred,rowT σ c.head,m)∈fs
 just:∀ f∈fs,(f.2.2=0/\∃ c∈cs,c.body.length=0/\c.head.pred=f.1/\c.head.args=f.2.1)∨∃ c∈cs,0 < c.body.length/\0 < f.2.2/\∃ σ,(∀ a,σ a≠ByteArray.empty)/\c.head.pred=f.1/\rowT σ c.head=f.2.1/\(∀ l∈c.body,l.neg=false->∃ m,m < f.2.2/\(l.pred,rowT σ l,m)∈fs)/\∀ l∈c.body,l.neg=true->∀ m,(l.pred,rowT σ l,m)∉fs
 base:∀ c∈cs,c.body.length=0->(c.head.pred,c.head.args,0)∈fs
theorem ybn{i:Nat}(h:i < ns.length):ns.getD i ByteArray.empty∈ns:=by
 rw[getD_lt _ h]
 exact uad h
theorem yaj{cs:List zab}{c:zab}(hc:c∈cs){l:zbu}(hl:l∈za2 c)(h3:l.args.length<=3)(σ:ByteArray->Nat):za1 (zaw cs) (z6s (zaw cs) σ l) l.args.length 3=rowT (fun v=>(zaw cs).getD (σ v) ByteArray.empty) l:=by
 have hns:=zkx cs
 have hcell:∀ i (hi:i < l.args.length),(zaw cs).getD ((z6s (zaw cs) σ l).getD i 0) ByteArray.empty=if za8 l.args[i]=true then(zaw cs).getD (σ l.args[i]) ByteArray.empty else l.args[i]:=by
  intro i hi
  have e:(z6s (zaw cs) σ l).getD i 0=zsy (zaw cs) σ l i:=by
   have:i=0∨i=1∨i=2:=by omega
   rcases this with rfl|rfl|rfl <;> rfl
  rw[e]
  unfold zsy
  rw[uac hi]
  simp only
  split
  ·rfl
  ·rename_i hv
   have hm:l.args[i]∈zaw cs:=(hns.2 _).2 ⟨c,hc,l,hl,uad hi,by simpa using hv⟩
   obtain⟨v,v1,v2⟩:=z0p hns.1 hm
   rw[v1]
   exact(z8z v1).2
 apply ubg
 ·simp[za1,rowT]
 ·intro i h1 h2
  have hi:i < l.args.length:=by simpa [za1] using h1
  simp only[za1,rowT,uaw,ub0]
  rw[if_pos (by omega),hcell i hi]
theorem ycn(hn:zcg ns){l:zbu}{r:zao}(hcan:Canon l.args.length r)(hin:∀ i,i < l.args.length->r.getD i 0 < ns.length){σ:ByteArray->ByteArray}(h:za1 ns r l.args.length 3=rowT σ l):r=z6s ns (fun v=>(zco ns (σ v)).getD 0) l:=by
 have hcell:∀ i,i < 3->r.getD i 0=zsy ns (fun v=>(zco ns (σ v)).getD 0) l i:=by
  intro i hi3
  unfold zsy
  by_cases hi:i < l.args.length
  ·have e:(za1 ns r l.args.length 3)[i]'(by rw[zdo];exact hi)=(rowT σ l)[i]'(by simp[rowT];exact hi):=by simp only[h]
   simp only[za1,rowT,uaw,ub0] at e
   rw[if_pos (by omega)] at e
   have hv:=zu1 hn (hin i hi)
   rw[uac hi]
   simp only
   split
   ·rename_i hvar
    rw[if_pos hvar] at e
    rw[← e,hv]
    rfl
   ·rename_i hvar
    rw[if_neg hvar] at e
    rw[← e,hv]
    rfl
  ·rw[uav (by omega)]
   exact hcan.2 i (by omega)
 match r,hcan.1 with
 |[a,b,c],_ =>
  have h0:=hcell 0 (by omega)
  have h1:=hcell 1 (by omega)
  have h2:=hcell 2 (by omega)
  unfold z6s
  rw[← h0,← h1,← h2]
  rfl
theorem ybz{cs:List zab}{t0 t:List zar}(hw:∀ c∈cs,ya3 c)(h:Parts cs t0 t){R:zbg}(hT:Told t (zaw cs) R){k:Nat}(hA:zjw (zjv t (zaw cs) none cs) 4096 4096=some (zc2 (t.map (·.je)) R,k)):ya2 cs (zcl t (zaw cs) R t.length):=by
 obtain⟨J,C,F⟩:=yc0 h hA
 have hns:=zkx cs
 have hok:=zlw (t.map (·.je)) R
 have hlit:∀ c∈cs,∀ l∈za2 c,zbd t l.pred < t.length/\za0 t (zbd t l.pred)=l.args.length/\zik t (zbd t l.pred)=l.pred/\l.args.length<=3:=by
  intro c hc l hl
  obtain⟨e,e1,e2,e3,e4,e5⟩:=h.lit hc hl
  have hn:=hT.name e3
  obtain⟨kk,k1,k2⟩:=zch e1
  refine⟨e3,e4,?_,?_⟩
  ·rw[hn.2.2]
   have:t[zbd t l.pred]=e:=by simp only[e5,k1]
   rw[this,e2]
  ·obtain⟨m1,m2,m3,_⟩:=zfu (h.many c hc)
   rcases uag.1 hl with rfl|q
   ·exact m1
   ·exact m3 l q
 have hmem:=zta hT
 have hfind:∀ p,p < t.length->∀ c∈cs,∀ l∈za2 c,l.pred=zik t p->zbd t l.pred=p:=by
  intro p hp c hc l hl e
  rw[e]
  exact(hT.name hp).2.1
 have hnsz:∀ y∈zaw cs,y≠ByteArray.empty:=by
  intro y hy e
  obtain⟨c,hc,l,hl,hyl,_⟩:=(hns.2 y).1 hy
  have hwl:yaz l:=by
   rcases uag.1 hl with rfl|q
   ·exact(hw c hc).2.1
   ·exact(hw c hc).2.2 l q
  have:=(hwl.2 y hyl).ne
  rw[e] at this
  exact this rfl
 have hin:∀ c∈cs,∀ l∈za2 c,∀(row:List ByteArray) m,(l.pred,row,m)∈zcl t (zaw cs) R t.length↔∃ r,zc2 (t.map (·.je)) R (zbd t l.pred) r=some m/\row=za1 (zaw cs) r l.args.length 3:=by
  intro c hc l hl row m
  obtain⟨l1,l2,l3,l4⟩:=hlit c hc l hl
  rw[hmem]
  constructor
  ·rintro⟨p,hp,r,m',hD,e⟩
   simp only[uak] at e
   obtain⟨e1,e2,rfl⟩:=e
   have:=hfind p hp c hc l hl e1
   subst this
   exact⟨r,hD,by rw[e2,l2]⟩
  ·rintro⟨r,hD,rfl⟩
   exact⟨zbd t l.pred,l1,r,m,hD,by rw[l2,l3]⟩
 have hcan:∀ c∈cs,∀ l∈za2 c,∀ r m,zc2 (t.map (·.je)) R (zbd t l.pred) r=some m->Canon l.args.length r/\∀ i,i < l.args.length->r.getD i 0 < (zaw cs).length:=by
  intro c hc l hl r m hD
  obtain⟨l1,l2,l3,l4⟩:=hlit c hc l hl
  have hI:InD (zc2 (t.map (·.je)) R) (zbd t l.pred) r:=by unfold InD;rw[hD];rfl
  have q1:=(hok _ _ hI).2
  have q2:=hT.inside _ _ hI
  have e:(t.map (·.je)).getD (zbd t l.pred) 0=l.args.length:=l2
  rw[e] at q1 q2
  exact⟨q1,q2⟩
 refine⟨?_,?_,fun f hf g hg e1 e2=>z9i hT hf hg e1 e2,z8j hT,?_,?_,?_⟩
 ·intro f hf c hc l hl e
  obtain⟨pr,row,m⟩:=f
  simp only at e ⊢
  subst e
  obtain⟨r,_,rfl⟩:=(hin c hc l hl row m).1 hf
  rw[zdo]
 ·intro f hf x hx
  obtain⟨p,hp,r,m,hD,rfl⟩:=(hmem f).1 hf
  have hI:InD (zc2 (t.map (·.je)) R) p r:=by unfold InD;rw[hD];rfl
  have q2:=hT.inside _ _ hI
  simp only[za1,uai,ucg] at hx
  obtain⟨i,hi,rfl⟩:=hx
  have ha3:=(hT.ar hp).1
  rw[if_pos (by omega)]
  exact hnsz _ (ybn (q2 i hi))
 ·intro c hc hb σ h1 h2
  have hp:∀ l∈c.body,l.neg=false->InD (zc2 (t.map (·.je)) R) (zbd t l.pred) (z6s (zaw cs) (fun v=>(zco (zaw cs) (σ v)).getD 0) l):=by
   intro l hl hn
   have hlm:l∈za2 c:=by simp[za2,hl]
   obtain⟨m,hm⟩:=h1 l hl hn
   obtain⟨r,hD,e⟩:=(hin c hc l hlm _ m).1 hm
   obtain⟨q1,q2⟩:=hcan c hc l hlm r m hD
   rw[← ycn hns.1 q1 q2 e.symm]
   unfold InD
   rw[hD]
   rfl
  have hval:∀ v∈zaf c,(zaw cs).getD ((zco (zaw cs) (σ v)).getD 0) ByteArray.empty=σ v:=by
   intro v hv
   obtain⟨hvar,l,hl,hn,hva⟩:=zh6.1 hv
   have hlm:l∈za2 c:=by simp[za2,hl]
   obtain⟨m,hm⟩:=h1 l hl hn
   obtain⟨r,hD,e⟩:=(hin c hc l hlm _ m).1 hm
   obtain⟨q1,q2⟩:=hcan c hc l hlm r m hD
   have h3:=(hlit c hc l hlm).2.2.2
   obtain⟨i,hi,rfl⟩:=uby.1 hva
   have e2:(za1 (zaw cs) r l.args.length 3)[i]'(by rw[zdo];exact hi)=(rowT σ l)[i]'(by simp[rowT];exact hi):=by simp only[← e]
   simp only[za1,rowT,uaw,ub0] at e2
   rw[if_pos (by omega),if_pos hvar] at e2
   have hv2:=zu1 hns.1 (q2 i hi)
   rw[← e2,hv2]
   rfl
  have hrt:∀ l∈za2 c,rowT (fun v=>(zaw cs).getD ((zco (zaw cs) (σ v)).getD 0) ByteArray.empty) l=rowT σ l:=by
   intro l hl
   unfold rowT
   refine ub2 fun a ha=>?_
   split
   ·rename_i hv
    exact hval a (h.covered hc l hl a ha hv)
   ·rfl
  have hn2:∀ l∈c.body,l.neg=true->zc2 (t.map (·.je)) R (zbd t l.pred) (z6s (zaw cs) (fun v=>(zco (zaw cs) (σ v)).getD 0) l)=none:=by
   intro l hl hn
   have hlm:l∈za2 c:=by simp[za2,hl]
   cases hD:zc2 (t.map (·.je)) R (zbd t l.pred) (z6s (zaw cs) (fun v=>(zco (zaw cs) (σ v)).getD 0) l) with
   |none=>rfl
   |some m =>
    exfalso
    refine h2 l hl hn m ((hin c hc l hlm _ m).2 ⟨_,hD,?_⟩)
    rw[yaj hc hlm (hlit c hc l hlm).2.2.2,hrt l hlm]
  have:=C c hc hb _ ⟨_,hp,hn2,rfl⟩
  obtain⟨m,hm⟩:=ubf.1 this
  have hhm:c.head∈za2 c:=by simp[za2]
  refine⟨m,(hin c hc c.head hhm _ m).2 ⟨_,hm,?_⟩⟩
  rw[yaj hc hhm (hlit c hc c.head hhm).2.2.2,hrt c.head hhm]
 ·intro f hf
  obtain⟨p,hp,r,m,hD,rfl⟩:=(hmem f).1 hf
  rcases J p r m hD with ⟨rfl,c,hc,hb,hpp,hr⟩|⟨c,hc,hb,hpp,j0,σ,j1,j2,j3⟩
  ·left
   have hhm:c.head∈za2 c:=by simp[za2]
   obtain⟨l1,l2,l3,l4⟩:=hlit c hc c.head hhm
   refine⟨rfl,c,hc,hb,?_,?_⟩
   ·show c.head.pred=zik t p
    rw[hpp,l3]
   ·show c.head.args=za1 (zaw cs) r (za0 t p) 3
    rw[hpp,l2,← hr]
    have h5:∀ k,([0,0,0,0,0]:List Nat).getD k 0 < 5:=by
     intro k
     rcases k with _|_|_|_|_|k <;> simp
    unfold ziw
    rw[znh t (zaw cs) [] h5,yaj hc hhm l4]
    unfold rowT
    have hb0:c.body=[]:=ubm.1 hb
    have hnv:∀ a∈c.head.args,za8 a=false:=by
     intro a ha
     cases hv:za8 a with
     |false=>rfl
     |true =>
      have:=h.covered hc c.head hhm a ha hv
      rw[zh6,hb0] at this
      obtain⟨_,l,hl,_⟩:=this
      cases hl
    conv=>lhs;rw[← List.map_id c.head.args]
    refine ub2 fun a ha=>?_
    rw[hnv a ha]
    rfl
  ·right
   have hhm:c.head∈za2 c:=by simp[za2]
   obtain⟨l1,l2,l3,l4⟩:=hlit c hc c.head hhm
   have hsz:∀ v∈zaf c,(zaw cs).getD (σ v) ByteArray.empty≠ByteArray.empty:=by
    intro v hv
    obtain⟨hvar,l,hl,hn,hva⟩:=zh6.1 hv
    have hlm:l∈za2 c:=by simp[za2,hl]
    obtain⟨m',_,hm'⟩:=j1 l hl hn
    obtain⟨q1,q2⟩:=hcan c hc l hlm _ m' hm'
    obtain⟨i,hi,rfl⟩:=uby.1 hva
    have h3:=(hlit c hc l hlm).2.2.2
    have:=q2 i hi
    have e:(z6s (zaw cs) σ l).getD i 0=zsy (zaw cs) σ l i:=by
     have:i=0∨i=1∨i=2:=by omega
     rcases this with rfl|rfl|rfl <;> rfl
    rw[e] at this
    unfold zsy at this
    rw[uac hi] at this
    simp only[if_pos hvar] at this
    exact hnsz _ (ybn this)
   refine⟨c,hc,hb,j0,fun v=>if v∈zaf c then(zaw cs).getD (σ v) ByteArray.empty else⟨#[0]⟩,fun a=>?_,?_,?_,?_,?_⟩
   ·simp only
    split
    ·rename_i q;exact hsz a q
    ·decide
   ·show c.head.pred=zik t p
    rw[hpp,l3]
   all_goals
    have hrt:∀ l∈za2 c,rowT (fun v=>if v∈zaf c then(zaw cs).getD (σ v) ByteArray.empty else⟨#[0]⟩) l=za1 (zaw cs) (z6s (zaw cs) σ l) l.args.length 3:=by
     intro l hl
     rw[yaj hc hl (hlit c hc l hl).2.2.2]
     unfold rowT
     refine ub2 fun a ha=>?_
     split
     ·rename_i hv
      exact if_pos (h.covered hc l hl a ha hv)
     ·rfl
   ·show _=za1 (zaw cs) r (za0 t p) 3
    rw[hrt c.head hhm,hpp,l2,j3]
   ·intro l hl hn
    have hlm:l∈za2 c:=by simp[za2,hl]
    obtain⟨m',q1,q2⟩:=j1 l hl hn
    exact⟨m',q1,(hin c hc l hlm _ m').2 ⟨_,q2,hrt l hlm⟩⟩
   ·intro l hl hn m' hm'
    have hlm:l∈za2 c:=by simp[za2,hl]
    obtain⟨r',q1,q2⟩:=(hin c hc l hlm _ m').1 hm'
    rw[hrt l hlm] at q2
    obtain⟨z1,z2⟩:=hcan c hc l hlm r' m' q1
    have h3:=(hlit c hc l hlm).2.2.2
    have e1:=zmh hns.1 h3 z1 z2
    rw[← q2] at e1
    have hD2:=j2 l hl hn
    have:r'=z6s (zaw cs) σ l:=by
     have hr2:za1 (zaw cs) r' l.args.length 3=rowT (fun v=>(zaw cs).getD (σ v) ByteArray.empty) l:=by rw[← q2,yaj hc hlm h3]
     have:=ycn hns.1 z1 z2 hr2
     rw[this]
     refine z0e fun y hy hv=>?_
     obtain⟨hvar,l',hl',hn',hva⟩:=zh6.1 (h.covered hc l hlm y hy hv)
     have hlm':l'∈za2 c:=by simp[za2,hl']
     obtain⟨u,_,hu⟩:=j1 l' hl' hn'
     obtain⟨_,y2⟩:=hcan c hc l' hlm' _ u hu
     obtain⟨i,hi,rfl⟩:=uby.1 hva
     have h3':=(hlit c hc l' hlm').2.2.2
     have hlt:=y2 i hi
     have e:(z6s (zaw cs) σ l').getD i 0=zsy (zaw cs) σ l' i:=by
      have:i=0∨i=1∨i=2:=by omega
      rcases this with rfl|rfl|rfl <;> rfl
     rw[e] at hlt
     unfold zsy at hlt
     rw[uac hi] at hlt
     simp only[if_pos hvar] at hlt
     rw[zu1 hns.1 hlt]
     rfl
    rw[this,hD2] at q1
    cases q1
 ·intro c hc hb
  have hhm:c.head∈za2 c:=by simp[za2]
  obtain⟨l1,l2,l3,l4⟩:=hlit c hc c.head hhm
  refine(hin c hc c.head hhm _ 0).2 ⟨_,F c hc hb,?_⟩
  have h5:∀ k,([0,0,0,0,0]:List Nat).getD k 0 < 5:=by
   intro k
   rcases k with _|_|_|_|_|k <;> simp
  unfold ziw
  rw[znh t (zaw cs) [] h5,yaj hc hhm l4]
  unfold rowT
  have hb0:c.body=[]:=ubm.1 hb
  have hnv:∀ a∈c.head.args,za8 a=false:=by
   intro a ha
   cases hv:za8 a with
   |false=>rfl
   |true =>
    have:=h.covered hc c.head hhm a ha hv
    rw[zh6,hb0] at this
    obtain⟨_,l,hl,_⟩:=this
    cases hl
  conv=>lhs;rw[← List.map_id c.head.args]
  refine ub2 fun a ha=>?_
  rw[hnv a ha]
  rfl
end Go.Proofs.YteampbddflhngaaGreat
