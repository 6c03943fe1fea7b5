import Derived.Test.YteampbddflhngaaGreatCPx4

namespace Go.Proofs.YteampbddflhngaaGreat
def yaw(x:Tok):Prop:=isT x.1=true->zok (bl x.2)/\(x.1=1->zfp (hdB (bl x.2))=true)
theorem zmq(p:UInt8->Bool)(l:List UInt8):l.take (l.takeWhile p).length=l.takeWhile p:=by
 induction l with
 |nil=>rfl
 |cons a l ih =>
  rw[List.takeWhile_cons]
  split
  ·simp[ih]
  ·rfl
theorem zlm{p:UInt8->Bool}:∀ {l:List UInt8} {b:UInt8},b∈l.takeWhile p->p b=true
 |[],_,h=>by simp at h
 |a::l,b,h=>by
  rw[List.takeWhile_cons] at h
  split at h
  ·rename_i ha
   rcases List.mem_cons.1 h with rfl|h
   ·exact ha
   ·exact zlm h
  ·cases h
theorem zm8:∀(n:Nat) (l:List UInt8) (ts:List Tok),zd8 n l=some ts->∀ x∈ts,yaw x
 |0,_,ts,h,x,hx=>by simp[zd8] at h;subst h;cases hx
 |_+1,[],ts,h,x,hx=>by simp[zd8] at h;subst h;cases hx
 |n+1,a::l,ts,h,x,hx=>by
  unfold zd8 at h
  split at h
  ·exact zm8 n l ts h x hx
  ·split at h
   ·cases h
   ·rename_i hk
    split at h
    ·cases h
    ·rename_i h6
     obtain⟨us,hu,rfl⟩:=Option.map_eq_some_iff.1 h
     rcases List.mem_cons.1 hx with rfl|hx
     ·intro ht
      simp only at ht ⊢
      have hbl:∀ m,bl (⟨((a::l).take m).toArray⟩:ByteArray)=(a::l).take m:=fun m=>by simp[bl]
      rw[hbl]
      generalize hK:zcl (byt a) (hdB l)=k at *
      unfold zcl at hK
      by_cases hs:zfp (byt a)=true
      ·rw[if_pos hs] at hK
       subst hK
       have e:zvp (a::l) 1=((a::l).takeWhile fun b=>bLD (byt b)).length:=rfl
       rw[e] at h6 ⊢
       rw[zmq]
       have hh:(a::l).takeWhile (fun b=>bLD (byt b))=a::l.takeWhile (fun b=>bLD (byt b)):=by rw[List.takeWhile_cons,if_pos (by simp[bLD,hs])]
       refine⟨⟨by rw[hh];simp,by omega,Or.inl ⟨Or.inl (by rw[hh];exact hs),fun b hb=>zlm (p:=fun b=>bLD (byt b)) hb⟩⟩,fun _=>by rw[hh];exact hs⟩
      ·rw[if_neg hs] at hK
       by_cases hc:zt4 (byt a)=true
       ·rw[if_pos hc] at hK
        subst hK
        have e:zvp (a::l) 2=((a::l).takeWhile fun b=>bLD (byt b)).length:=rfl
        rw[e] at h6 ⊢
        rw[zmq]
        have hh:(a::l).takeWhile (fun b=>bLD (byt b))=a::l.takeWhile (fun b=>bLD (byt b)):=by rw[List.takeWhile_cons,if_pos (by simp[bLD,hc])]
        exact⟨⟨by rw[hh];simp,by omega,Or.inl ⟨Or.inr (by rw[hh];exact hc),fun b hb=>zlm (p:=fun b=>bLD (byt b)) hb⟩⟩,fun q=>by cases q⟩
       ·rw[if_neg hc] at hK
        by_cases hd:zkj (byt a)=true
        ·rw[if_pos hd] at hK
         subst hK
         have e:zvp (a::l) 3=((a::l).takeWhile fun b=>zkj (byt b)).length:=rfl
         rw[e] at h6 ⊢
         rw[zmq]
         have hh:(a::l).takeWhile (fun b=>zkj (byt b))=a::l.takeWhile (fun b=>zkj (byt b)):=by rw[List.takeWhile_cons,if_pos (by simp[hd])]
         exact⟨⟨by rw[hh];simp,by omega,Or.inr ⟨by rw[hh];exact hd,fun b hb=>zlm (p:=fun b=>zkj (byt b)) hb⟩⟩,fun q=>by cases q⟩
        ·exfalso
         rw[if_neg hd] at hK
         split at hK
         ·subst hK;simp[isT] at ht
         ·unfold zqo at hK
          (repeat' split at hK) <;> subst hK <;> simp[isT] at ht
     ·exact zm8 n _ us hu x hx
theorem zoi:∀(r:List Tok) {ts:List ByteArray} {r2:List Tok},za6 r=some (ts,r2)->(∀ x∈r,yaw x)->(∀ y∈ts,zok (bl y))/\∀ x∈r2,x∈r
 |[],_,_,h,_=>by simp[za6] at h
 |[x],ts,r2,h,ht=>by
  simp only[za6] at h
  split at h
  ·rename_i hq
   simp only[Option.some.injEq,Prod.mk.injEq] at h
   obtain⟨rfl,rfl⟩:=h
   exact⟨fun y hy=>by simp at hy;subst hy;exact(ht x (by simp) hq).1,by simp⟩
  ·cases h
 |x::y::r,ts,r2,h,ht=>by
  simp only[za6] at h
  split at h
  ·rename_i hq
   split at h
   ·obtain⟨z,hz,he⟩:=Option.map_eq_some_iff.1 h
    simp only[Prod.mk.injEq] at he
    obtain⟨rfl,rfl⟩:=he
    obtain⟨i1,i2⟩:=zoi r (ts:=z.1) (r2:=z.2) hz (fun u hu=>ht u (by simp[hu]))
    refine⟨fun u hu=>?_,fun u hu=>by simp[i2 u hu]⟩
    rcases List.mem_cons.1 hu with rfl|hu
    ·exact(ht x (by simp) hq).1
    ·exact i1 u hu
   ·simp only[Option.some.injEq,Prod.mk.injEq] at h
    obtain⟨rfl,rfl⟩:=h
    exact⟨fun u hu=>by simp at hu;subst hu;exact(ht x (by simp) hq).1,fun u hu=>by simp[List.mem_cons.1 hu]⟩
  ·cases h
theorem zfq{x:Tok}{r:List Tok}(h:x∈r.tail):x∈r:=by
 cases r with
 |nil=>exact h
 |cons a r=>simp at h;simp[h]
theorem zms{r:List Tok}{l:zbc}{r2:List Tok}(h:zdq r=some (l,r2))(ht:∀ x∈r,yaw x):l.neg=false/\zij l/\∀ x∈r2,x∈r:=by
 unfold zdq at h
 split at h
 ·rename_i h1
  cases r with
  |nil=>simp[hdK] at h1
  |cons a r =>
   have ha:a.1=1:=h1
   have hw:=ht a (by simp) (by rw[ha];rfl)
   have hp:zok (bl a.2)/\zfp (hdB (bl a.2))=true:=⟨hw.1,hw.2 ha⟩
   change (if hdK r=4 then(match za6 r.tail with|none=>none|some (ts,r2)=>if hdK r2=5 then some ((⟨false,a.2,ts⟩:zbc),r2.tail) else none) else some ((⟨false,a.2,[]⟩:zbc),r))=some (l,r2) at h
   by_cases h4:hdK r=4
   ·rw[if_pos h4] at h
    cases hq:za6 r.tail with
    |none=>rw[hq] at h;cases h
    |some z =>
     obtain⟨ts,r3⟩:=z
     rw[hq] at h
     simp only at h
     by_cases h5:hdK r3=5
     ·rw[if_pos h5] at h
      simp only[Option.some.injEq,Prod.mk.injEq] at h
      obtain⟨rfl,rfl⟩:=h
      obtain⟨i1,i2⟩:=zoi _ hq (fun u hu=>ht u (by simp[zfq hu]))
      exact⟨rfl,⟨hp,i1⟩,fun u hu=>by simp[zfq (i2 u (zfq hu))]⟩
     ·rw[if_neg h5] at h;cases h
   ·rw[if_neg h4] at h
    simp only[Option.some.injEq,Prod.mk.injEq] at h
    obtain⟨rfl,rfl⟩:=h
    exact⟨rfl,⟨hp,fun y hy=>by cases hy⟩,fun u hu=>by simp[hu]⟩
 ·cases h
theorem z6e{r:List Tok}{l:zbc}{r2:List Tok}(h:zqj r=some (l,r2))(ht:∀ x∈r,yaw x):zij l/\∀ x∈r2,x∈r:=by
 unfold zqj at h
 split at h
 ·obtain⟨z,hz,he⟩:=Option.map_eq_some_iff.1 h
  simp only[Prod.mk.injEq] at he
  obtain⟨rfl,rfl⟩:=he
  obtain⟨_,i2,i3⟩:=zms (l:=z.1) (r2:=z.2) hz (fun u hu=>ht u (zfq hu))
  exact⟨i2,fun u hu=>zfq (i3 u hu)⟩
 ·exact(zms h ht).2
theorem zsv:∀(n:Nat) {r:List Tok} {b:List zbc} {r2:List Tok},zeo n r=some (b,r2)->(∀ x∈r,yaw x)->(∀ l∈b,zij l)/\∀ x∈r2,x∈r
 |0,_,_,_,h,_=>by cases h
 |n+1,r,b,r2,h,ht=>by
  unfold zeo at h
  split at h
  ·cases h
  ·rename_i a r3 hq
   obtain⟨i1,i2⟩:=z6e hq ht
   split at h
   ·obtain⟨z,hz,he⟩:=Option.map_eq_some_iff.1 h
    simp only[Prod.mk.injEq] at he
    obtain⟨rfl,rfl⟩:=he
    obtain⟨j1,j2⟩:=zsv n (b:=z.1) (r2:=z.2) hz (fun u hu=>ht u (i2 u (zfq hu)))
    refine⟨fun l hl=>?_,fun u hu=>i2 u (zfq (j2 u hu))⟩
    rcases List.mem_cons.1 hl with rfl|hl
    ·exact i1
    ·exact j1 l hl
   ·simp only[Option.some.injEq,Prod.mk.injEq] at h
    obtain⟨rfl,rfl⟩:=h
    exact⟨fun l hl=>by simp at hl;subst hl;exact i1,i2⟩
theorem zvn{n:Nat}{r:List Tok}{c:zaa}{r2:List Tok}(h:zdy n r=some (c,r2))(ht:∀ x∈r,yaw x):zkl c/\∀ x∈r2,x∈r:=by
 unfold zdy at h
 split at h
 ·cases h
 ·rename_i a r3 hq
  obtain⟨i0,i1,i2⟩:=zms hq ht
  split at h
  ·split at h
   ·cases h
   ·rename_i b r4 hb
    split at h
    ·simp only[Option.some.injEq,Prod.mk.injEq] at h
     obtain⟨rfl,rfl⟩:=h
     obtain⟨j1,j2⟩:=zsv n hb (fun u hu=>ht u (i2 u (zfq hu)))
     exact⟨⟨i0,i1,j1⟩,fun u hu=>i2 u (zfq (j2 u (zfq hu)))⟩
    ·cases h
  ·split at h
   ·simp only[Option.some.injEq,Prod.mk.injEq] at h
    obtain⟨rfl,rfl⟩:=h
    exact⟨⟨i0,i1,fun l hl=>by cases hl⟩,fun u hu=>i2 u (zfq hu)⟩
   ·cases h
theorem zmj{n:Nat}:∀(m:Nat) {r:List Tok} {cs:List zaa},zdp n m r=some cs->(∀ x∈r,yaw x)->∀ c∈cs,zkl c
 |m,[],cs,h,_=>by cases m <;> (simp[zdp] at h;subst h;simp)
 |0,_::_,cs,h,_=>by simp[zdp] at h
 |m+1,x::r,cs,h,ht=>by
  unfold zdp at h
  split at h
  ·cases h
  ·rename_i c r2 hq
   obtain⟨i1,i2⟩:=zvn hq ht
   obtain⟨ds,hd,rfl⟩:=Option.map_eq_some_iff.1 h
   intro z hz
   rcases List.mem_cons.1 hz with rfl|hz
   ·exact i1
   ·exact zmj m hd (fun u hu=>ht u (i2 u hu)) z hz
theorem zpf{s:ByteArray}{l:List Tok}(h:splitB s=some l):∀ x∈l,yaw x:=by
 unfold splitB at h
 rw[zse] at h
 exact zm8 _ _ _ h
end Go.Proofs.YteampbddflhngaaGreat
