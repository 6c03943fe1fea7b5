import Derived.Test.YteampbddflhngaaGreatSCPx5
import Derived.Test.YteampbddflhngaaGreatS43
import Derived.Test.YteampbddflhngaaGreatS41

namespace Go.Proofs.YteampbddflhngaaGreat
theorem yaq{a:UInt8}{c:Int}{l:List UInt8}(_h:zik (byt a) c≠0):1<=yaj (a::l) (zik (byt a) c):=by
 unfold yaj
 generalize hK:zik (byt a) c=k at *
 unfold zik at hK
 split
 ·omega
 ·split
  ·rename_i h12
   have:bLD (byt a)=true:=by
    split at hK
    ·rename_i q;simp[bLD,q]
    ·split at hK
     ·rename_i q;simp[bLD,q]
     ·split at hK
      ·omega
      ·split at hK
       ·omega
       ·unfold z5q at hK;split at hK <;> (try split at hK) <;> (try split at hK) <;> (try split at hK) <;> (try split at hK) <;> omega
   rw[List.takeWhile_cons,if_pos this]
   simp
  ·split
   ·rename_i h3
    have:zvv (byt a)=true:=by
     split at hK
     ·omega
     ·split at hK
      ·omega
      ·split at hK
       ·assumption
       ·split at hK
        ·omega
        ·unfold z5q at hK;split at hK <;> (try split at hK) <;> (try split at hK) <;> (try split at hK) <;> (try split at hK) <;> omega
    rw[List.takeWhile_cons,if_pos this]
    simp
   ·omega
def yab(l:List UInt8):Option (List Tok):=yai l.length l
theorem yam:∀(m:Nat) (l:List UInt8),l.length<=m->∀ n,l.length<=n->yai n l=yai l.length l
 |_,[],_,n,_=>by cases n <;> rfl
 |0,_::_,h,_,_=>by simp at h
 |m+1,a::l,h,n,hn=>by
  cases n with
  |zero=>simp at hn
  |succ n =>
   simp only[List.length_cons] at h hn ⊢
   unfold yai
   rw[yam m l (by omega) n (by omega)]
   split
   ·rfl
   ·split
    ·rfl
    ·rename_i hk
     split
     ·rfl
     ·have hp:=yaq (l:=l) hk
      have hd:((a::l).drop (yaj (a::l) (zik (byt a) (hdB l)))).length<=l.length:=by rw[List.length_drop];simp;omega
      rw[yam m _ (by omega) n (by omega),yam m ((a::l).drop (yaj (a::l) (zik (byt a) (hdB l)))) (by omega) l.length hd]
theorem yag(a:UInt8)(l:List UInt8):yab (a::l)=if zmq (byt a) then yab l else if zik (byt a) (hdB l)=0 then none else if 6 < yaj (a::l) (zik (byt a) (hdB l)) then none else(yab ((a::l).drop (yaj (a::l) (zik (byt a) (hdB l))))).map ((zik (byt a) (hdB l),(⟨((a::l).take (yaj (a::l) (zik (byt a) (hdB l)))).toArray⟩:ByteArray))::·):=by
 show yai (l.length+1) (a::l)=_
 unfold yai
 split
 ·rfl
 ·split
  ·rfl
  ·rename_i hk
   split
   ·rfl
   ·have hp:=yaq (l:=l) hk
    have hd:((a::l).drop (yaj (a::l) (zik (byt a) (hdB l)))).length<=l.length:=by rw[List.length_drop];simp;omega
    rw[yam _ _ (Nat.le_refl _) l.length hd]
    rfl
theorem yau:yab []=some []:=rfl
theorem ycf(s:ByteArray):splitB s=yab (bl s):=by
 have hsz:s.data.toList.length=s.size:=by rw[Array.length_toList];rfl
 unfold splitB yab bl
 rw[ybm,List.drop_zero,hsz]
theorem yc1{a:UInt8}{l r:List UInt8}(h45:hdB r≠45):zik (byt a) (hdB (l++r))=zik (byt a) (hdB l):=by
 cases l with
 |cons b l=>rfl
 |nil =>
  show zik (byt a) (hdB r)=zik (byt a) 0
  unfold zik
  rw[if_neg (show ¬ (byt a=58/\hdB r=45) from fun q=>h45 q.2),if_neg (show ¬ (byt a=58/\(0:Int)=45) from fun q=>by omega)]
theorem ybf{p:UInt8->Bool}:∀(l r:List UInt8),(∀ b q,r=b::q->p b=false)->((l++r).takeWhile p).length=(l.takeWhile p).length
 |[],[],_=>rfl
 |[],b::r,h=>by simp[h b r rfl]
 |a::l,r,h=>by
  rw[List.cons_append,List.takeWhile_cons,List.takeWhile_cons]
  split
  ·simp only[List.length_cons];rw[ybf l r h]
  ·rfl
theorem yds{a:UInt8}{l r:List UInt8}{k:Int}(hr:bLD (hdB r)=false):yaj (a::(l++r)) k=yaj (a::l) k:=by
 have hd:zvv (hdB r)=false:=by simp only[bLD,Bool.or_eq_false_iff] at hr;exact hr.2
 unfold yaj
 split
 ·rfl
 ·split
  ·rw[← List.cons_append];exact ybf _ r fun b q e=>by subst e;exact hr
  ·split
   ·rw[← List.cons_append];exact ybf _ r fun b q e=>by subst e;exact hd
   ·rfl
theorem ydy{a:UInt8}{l:List UInt8}:zik (byt a) (hdB l)≠0->yaj (a::l) (zik (byt a) (hdB l))<=(a::l).length:=by
 intro h
 have htw:∀(p:UInt8->Bool) (x:List UInt8),(x.takeWhile p).length<=x.length:=fun p x=>(List.takeWhile_sublist p).length_le
 unfold yaj
 split
 ·rename_i h9
  cases l with
  |nil =>
   exfalso
   unfold zik at h9
   split at h9
   ·omega
   ·split at h9
    ·omega
    ·split at h9
     ·omega
     ·rw[if_neg (by rintro⟨_,q⟩;cases q)] at h9
      unfold z5q at h9
      split at h9 <;> (try split at h9) <;> (try split at h9) <;> (try split at h9) <;> (try split at h9) <;> omega
  |cons b l=>simp
 ·split
  ·exact htw _ _
  ·split
   ·exact htw _ _
   ·simp
theorem yat:∀(m:Nat) (l r:List UInt8),l.length<=m->bLD (hdB r)=false->hdB r≠45->yab (l++r)=(yab l).bind fun T=>(yab r).map (T++·)
 |_,[],r,_,_,_=>by
  simp only[List.nil_append,yau,Option.bind_some]
  cases yab r <;> simp
 |0,_::_,_,h,_,_=>by simp at h
 |m+1,a::l,r,h,hr,h45=>by
  simp only[List.length_cons] at h
  rw[List.cons_append,yag,yag,yc1 h45,yds hr]
  split
  ·exact yat m l r (by omega) hr h45
  ·split
   ·rfl
   ·rename_i hk
    split
    ·rfl
    ·have hp:=yaq (l:=l) hk
     have hle:=ydy hk
     have hd:((a::l).drop (yaj (a::l) (zik (byt a) (hdB l)))).length<=m:=by rw[List.length_drop];simp;omega
     rw[← List.cons_append,List.drop_append_of_le_length hle,List.take_append_of_le_length hle,yat m _ r hd hr h45]
     cases yab ((a::l).drop (yaj (a::l) (zik (byt a) (hdB l)))) with
     |none=>rfl
     |some T =>
      simp only[Option.bind_some,Option.map_some]
      cases yab r <;> simp
def RdF(l:List UInt8)(ts:List Tok):Prop:=∀ r,yab (l++r)=(yab r).map (ts++·)
theorem RdF.app{l l':List UInt8}{ts ts':List Tok}(h:RdF l ts)(k:RdF l' ts'):RdF (l++l') (ts++ts'):=by
 intro r
 rw[List.append_assoc,h,k,ydt]
theorem RdF.nil:RdF [] []:=fun r=>by cases h:yab r <;> simp[h]
theorem ybl(r:List UInt8):yab (46::r)=(yab r).map ((7,signs.dot)::·):=by
 rw[yag,if_neg (by decide)]
 have hk:zik (byt 46) (hdB r)=7:=by unfold zik;simp[byt,zsy,z7x,zvv,z5q]
 rw[hk]
 have hl:yaj (46::r) 7=1:=rfl
 rw[hl]
 rfl
theorem RdF.dot{l:List UInt8}{ts:List Tok}(h:yab l=some ts):RdF (l++[46]) (ts++[(7,signs.dot)]):=by
 intro r
 have h1:bLD (hdB (46::r))=false:=by simp[hdB,byt,bLD,zsy,z7x,zvv]
 have h2:hdB (46::r)≠45:=by simp[hdB,byt]
 rw[List.append_assoc,List.cons_append,List.nil_append,yat _ l (46::r) (Nat.le_refl _) h1 h2,h,Option.bind_some,ybl]
 cases yab r <;> simp
theorem ybr:∀(m:Nat) (l:List UInt8) (ts:List Tok),l.length<=m->yab l=some ts->((46:UInt8)∈l↔∃ x∈ts,x.1=7)
 |_,[],ts,_,h=>by simp[yau] at h;subst h;simp
 |0,_::_,_,h,_=>by simp at h
 |m+1,a::l,ts,h,hs=>by
  simp only[List.length_cons] at h
  rw[yag] at hs
  split at hs
  ·rename_i hb
   rw[List.mem_cons,ybr m l ts (by omega) hs]
   refine⟨fun q=>q.resolve_left fun e=>?_,Or.inr⟩
   subst e
   simp[zmq,byt] at hb
  ·split at hs
   ·cases hs
   ·rename_i hk
    split at hs
    ·cases hs
    ·obtain⟨us,hu,rfl⟩:=Option.map_eq_some_iff.1 hs
     have hp:=yaq (l:=l) hk
     have hd:((a::l).drop (yaj (a::l) (zik (byt a) (hdB l)))).length<=m:=by rw[List.length_drop];simp;omega
     have ih:=ybr m _ us hd hu
     have hmem:(46:UInt8)∈a::l↔(46:UInt8)∈(a::l).take (yaj (a::l) (zik (byt a) (hdB l)))∨(46:UInt8)∈(a::l).drop (yaj (a::l) (zik (byt a) (hdB l))):=by
      rw[← List.mem_append,List.take_append_drop]
     rw[hmem,ih]
     have hone:(46:UInt8)∈(a::l).take (yaj (a::l) (zik (byt a) (hdB l)))↔zik (byt a) (hdB l)=7:=by
      generalize hK:zik (byt a) (hdB l)=k at *
      unfold zik at hK
      have hld:∀ b:UInt8,bLD (byt b)=true->b≠46:=by
       rintro b hb rfl
       revert hb
       decide
      have hdg:∀ b:UInt8,zvv (byt b)=true->b≠46:=by
       rintro b hb rfl
       revert hb
       decide
      split at hK
      ·subst hK
       rw[show yaj (a::l) 1=((a::l).takeWhile fun b=>bLD (byt b)).length from rfl,yae]
       exact⟨fun q=>absurd rfl (hld _ (yaf (p:=fun b=>bLD (byt b)) q)),fun q=>by cases q⟩
      ·split at hK
       ·subst hK
        rw[show yaj (a::l) 2=((a::l).takeWhile fun b=>bLD (byt b)).length from rfl,yae]
        exact⟨fun q=>absurd rfl (hld _ (yaf (p:=fun b=>bLD (byt b)) q)),fun q=>by cases q⟩
       ·split at hK
        ·subst hK
         rw[show yaj (a::l) 3=((a::l).takeWhile fun b=>zvv (byt b)).length from rfl,yae]
         exact⟨fun q=>absurd rfl (hdg _ (yaf (p:=fun b=>zvv (byt b)) q)),fun q=>by cases q⟩
        ·split at hK
         ·rename_i h58
          subst hK
          rw[show yaj (a::l) 9=2 from rfl]
          cases l with
          |nil=>exact absurd h58.2 (by decide)
          |cons b l =>
           have hb:byt b=45:=h58.2
           refine⟨fun q=>?_,fun q=>by cases q⟩
           simp only[List.take_succ_cons,List.take_zero,List.mem_cons,List.not_mem_nil,or_false] at q
           rcases q with rfl|rfl
           ·exact absurd h58.1 (by decide)
           ·exact absurd hb (by decide)
         ·have h1:yaj (a::l) k=1:=by
           unfold yaj
           have:k≠9/\k≠1/\k≠2/\k≠3:=by
            unfold z5q at hK
            split at hK <;> (try split at hK) <;> (try split at hK) <;> (try split at hK) <;> (try split at hK) <;> omega
           rw[if_neg this.1,if_neg (by omega),if_neg this.2.2.2]
          rw[h1]
          simp only[List.take_succ_cons,List.take_zero,List.mem_cons,List.not_mem_nil,or_false]
          constructor
          ·rintro rfl
           rw[← hK]
           decide
          ·intro e
           subst e
           unfold z5q at hK
           split at hK
           ·omega
           ·split at hK
            ·omega
            ·split at hK
             ·omega
             ·split at hK
              ·rename_i q
               unfold byt at q
               apply UInt8.toNat_inj.1
               show 46=a.toNat
               omega
              ·split at hK <;> omega
     rw[hone]
     simp
theorem ydr{T T' R R':List Tok}(h:∀ x∈T,x.1≠7)(h':∀ x∈T',x.1≠7){d d':Tok}(hd:d.1=7)(hd':d'.1=7)(e:T++d::R=T'++d'::R'):T=T'/\R=R':=by
 induction T generalizing T' with
 |nil =>
  cases T' with
  |nil=>simp at e;exact⟨rfl,e.2⟩
  |cons x T' =>
   simp only[List.nil_append,List.cons_append,List.cons.injEq] at e
   exact absurd (by rw[← e.1];exact hd) (h' x (by simp))
 |cons x T ih =>
  cases T' with
  |nil =>
   simp only[List.nil_append,List.cons_append,List.cons.injEq] at e
   exact absurd (by rw[e.1];exact hd') (h x (by simp))
  |cons y T' =>
   simp only[List.cons_append,List.cons.injEq] at e
   obtain⟨i1,i2⟩:=ih (fun z hz=>h z (by simp[hz])) (fun z hz=>h' z (by simp[hz])) e.2
   exact⟨by rw[e.1,i1],i2⟩
theorem ya5.word{l:zb2}(h:ya5 l):ybp l:=fun x hx=>ydj (h.2 x hx)
theorem yax.word{c:zab}(h:yax c):ydb c:=⟨h.1,h.2.1.word,fun l hl=>(h.2.2 l hl).word⟩
theorem yck(S:yan)(l:zb2):1<=(ycx S l).length:=by
 unfold ycx yal
 split <;> simp
theorem yby(S:yan):∀ b:List zb2,b.length<=(yav S b).length
 |[]=>by simp
 |[l]=>by have:=yck S l;simp[yav];exact this
 |l::m::r=>by
  have ih:=yby S (m::r)
  have:=yck S l
  simp only[yav,List.length_append,List.length_cons] at ih ⊢
  omega
theorem ydq(S:yan)(c:zab):c.body.length+1<=(clK S c).length:=by
 have:=yby S c.body
 unfold clK
 by_cases hb:c.body=[]
 ·simp[hb]
 ·simp only[if_neg hb,List.length_append,List.length_cons,List.length_nil]
  omega
theorem yar(S:yan):∀ cs:List zab,cs.length<=(yad S cs).length/\∀ c∈cs,c.body.length<=(yad S cs).length
 |[]=>⟨by simp,fun c h=>by cases h⟩
 |c::cs=>by
  obtain⟨i1,i2⟩:=yar S cs
  have hc:=ydq S c
  have e:(yad S (c::cs)).length=(clK S c).length+(yad S cs).length:=by simp[yad]
  refine⟨by rw[e];simp;omega,fun d hd=>?_⟩
  rw[e]
  rcases List.mem_cons.1 hd with rfl|hd
  ·omega
  ·have:=i2 d hd;omega
structure ydp (x:Tok):Prop where
 word:isT x.1=true->x.1=ya9 x.2
 op:x.1=4->x.2=signs.op
 shut:x.1=5->x.2=signs.shut
 comma:x.1=6->x.2=signs.comma
 dot:x.1=7->x.2=signs.dot
 bang:x.1=8->x.2=signs.bang
 arrow:x.1=9->x.2=signs.arrow
theorem one_byte{a:UInt8}{n:Nat}(h:byt a=(n:Int))(hn:n < 256):a=UInt8.ofNat n:=by
 apply UInt8.toNat_inj.1
 unfold byt at h
 rw[UInt8.toNat_ofNat',Nat.mod_eq_of_lt (by simpa using hn)]
 omega
theorem yaw:∀(m:Nat) (l:List UInt8) (ts:List Tok),l.length<=m->yab l=some ts->∀ x∈ts,ydp x
 |_,[],ts,_,h,x,hx=>by simp[yau] at h;subst h;cases hx
 |0,_::_,_,h,_,_,_=>by simp at h
 |m+1,a::l,ts,h,hs,x,hx=>by
  simp only[List.length_cons] at h
  rw[yag] at hs
  split at hs
  ·exact yaw m l ts (by omega) hs x hx
  ·split at hs
   ·cases hs
   ·rename_i hk
    split at hs
    ·cases hs
    ·obtain⟨us,hu,rfl⟩:=Option.map_eq_some_iff.1 hs
     have hp:=yaq (l:=l) hk
     have hd:((a::l).drop (yaj (a::l) (zik (byt a) (hdB l)))).length<=m:=by rw[List.length_drop];simp;omega
     rcases List.mem_cons.1 hx with rfl|hx
     ·clear hs hu hd hx
      have hword:isT (zik (byt a) (hdB l))=true->∀ c,zik (byt a) c=zik (byt a) (hdB l):=by
       intro ht c
       unfold zik at ht ⊢
       split
       ·rfl
       ·split
        ·rfl
        ·split
         ·rfl
         ·rename_i q1 q2 q3
          rw[if_neg q1,if_neg q2,if_neg q3] at ht
          split at ht
          ·simp[isT] at ht
          ·unfold z5q at ht
           (repeat' split at ht) <;> simp[isT] at ht
      have hsg:∀ k:Int,zik (byt a) (hdB l)=k->k≠0->k≠1->k≠2->k≠3->k≠9->(⟨((a::l).take (yaj (a::l) k)).toArray⟩:ByteArray)=⟨#[a]⟩/\z5q (byt a)=k:=by
       intro k e h0 h1 h2 h3 h9
       refine⟨?_,?_⟩
       ·unfold yaj
        rw[if_neg h9,if_neg (by omega),if_neg h3]
        rfl
       ·unfold zik at e
        split at e
        ·omega
        ·split at e
         ·omega
         ·split at e
          ·omega
          ·split at e
           ·omega
           ·exact e
      refine⟨fun ht=>?_,fun e=>?_,fun e=>?_,fun e=>?_,fun e=>?_,fun e=>?_,fun e=>?_⟩
      ·simp only at ht ⊢
       unfold ya9
       have e0:bAt (⟨((a::l).take (yaj (a::l) (zik (byt a) (hdB l)))).toArray⟩:ByteArray) 0=byt a:=by
        rw[yaz]
        simp only[List.drop_zero]
        obtain⟨n,hn⟩:∃ n,yaj (a::l) (zik (byt a) (hdB l))=n+1:=⟨yaj (a::l) (zik (byt a) (hdB l)) - 1,by omega⟩
        rw[hn]
        rfl
       rw[e0]
       exact(hword ht _).symm
      all_goals
       simp only at e ⊢
       rw[e]
      ·obtain⟨h1,h2⟩:=hsg 4 e (by decide) (by decide) (by decide) (by decide) (by decide)
       rw[h1]
       have:byt a=((40:Nat):Int):=by unfold z5q at h2;(repeat' split at h2) <;> omega
       rw[one_byte this (by decide)]
       rfl
      ·obtain⟨h1,h2⟩:=hsg 5 e (by decide) (by decide) (by decide) (by decide) (by decide)
       rw[h1]
       have:byt a=((41:Nat):Int):=by unfold z5q at h2;(repeat' split at h2) <;> omega
       rw[one_byte this (by decide)]
       rfl
      ·obtain⟨h1,h2⟩:=hsg 6 e (by decide) (by decide) (by decide) (by decide) (by decide)
       rw[h1]
       have:byt a=((44:Nat):Int):=by unfold z5q at h2;(repeat' split at h2) <;> omega
       rw[one_byte this (by decide)]
       rfl
      ·obtain⟨h1,h2⟩:=hsg 7 e (by decide) (by decide) (by decide) (by decide) (by decide)
       rw[h1]
       have:byt a=((46:Nat):Int):=by unfold z5q at h2;(repeat' split at h2) <;> omega
       rw[one_byte this (by decide)]
       rfl
      ·obtain⟨h1,h2⟩:=hsg 8 e (by decide) (by decide) (by decide) (by decide) (by decide)
       rw[h1]
       have:byt a=((33:Nat):Int):=by unfold z5q at h2;(repeat' split at h2) <;> omega
       rw[one_byte this (by decide)]
       rfl
      ·have:byt a=((58:Nat):Int)/\hdB l=((45:Nat):Int):=by
        unfold zik at e
        split at e
        ·omega
        ·split at e
         ·omega
         ·split at e
          ·omega
          ·split at e
           ·assumption
           ·unfold z5q at e
            (repeat' split at e) <;> omega
       rw[show yaj (a::l) 9=2 from rfl]
       cases l with
       |nil=>exact absurd this.2 (by decide)
       |cons b l =>
        rw[one_byte this.1 (by decide),one_byte (show byt b=((45:Nat):Int) from this.2) (by decide)]
        rfl
     ·exact yaw m _ us hd hu x hx
theorem yap{r:List Tok}{k:Int}(h:hdK r=k)(h0:k≠0):∃ x r',r=(k,x)::r'/\r.tail=r'/\(k,x)∈r:=by
 cases r with
 |nil=>exact absurd h.symm h0
 |cons a r =>
  obtain⟨j,x⟩:=a
  have e:j=k:=h
  subst e
  exact⟨x,r,rfl,rfl,by simp⟩
theorem ybn:∀(r:List Tok) {ts:List ByteArray} {r2:List Tok},zbv r=some (ts,r2)->(∀ x∈r,ydp x)->r=ya6 signs ts++r2/\ts≠[]
 |[],_,_,h,_=>by simp[zbv] at h
 |[x],ts,r2,h,hc=>by
  simp only[zbv] at h
  split at h
  ·rename_i hq
   simp only[Option.some.injEq,Prod.mk.injEq] at h
   obtain⟨rfl,rfl⟩:=h
   refine⟨?_,by simp⟩
   show [x]=[ydo x.2]++[]
   unfold ydo
   rw[← (hc x (by simp)).word hq]
   rfl
  ·cases h
 |x::y::r,ts,r2,h,hc=>by
  simp only[zbv] at h
  split at h
  ·rename_i hq
   have hx:x=ydo x.2:=by
    unfold ydo
    rw[← (hc x (by simp)).word hq]
   split at h
   ·rename_i h6
    obtain⟨z,hz,he⟩:=Option.map_eq_some_iff.1 h
    simp only[Prod.mk.injEq] at he
    obtain⟨rfl,rfl⟩:=he
    obtain⟨i1,i2⟩:=ybn r (ts:=z.1) (r2:=z.2) hz (fun u hu=>hc u (by simp[hu]))
    refine⟨?_,by simp⟩
    have hy:y=(6,signs.comma):=by
     obtain⟨k,b⟩:=y
     simp only at h6
     subst h6
     have q:=(hc (6,b) (by simp)).comma rfl
     simp only at q
     rw[q]
    obtain⟨t,l⟩:=z
    simp only at i1 i2 ⊢
    cases t with
    |nil=>exact absurd rfl i2
    |cons u t =>
     show x::y::r=ydo x.2::(6,signs.comma)::(ya6 signs (u::t)++l)
     rw[← i1,← hx,hy]
   ·simp only[Option.some.injEq,Prod.mk.injEq] at h
    obtain⟨rfl,rfl⟩:=h
    refine⟨?_,by simp⟩
    show x::y::r=[ydo x.2]++y::r
    rw[← hx]
    rfl
  ·cases h
theorem ya7{r:List Tok}{l:zb2}{r2:List Tok}(h:zei r=some (l,r2))(hc:∀ x∈r,ydp x):r=yal signs l++r2:=by
 unfold zei at h
 split at h
 ·rename_i h1
  obtain⟨p,r',rfl,e1,_⟩:=yap h1 (by decide)
  change (if hdK r'=4 then(match zbv r'.tail with|none=>none|some (ts,r2)=>if hdK r2=5 then some ((⟨false,p,ts⟩:zb2),r2.tail) else none) else some ((⟨false,p,[]⟩:zb2),r'))=some (l,r2) at h
  by_cases h4:hdK r'=4
  ·rw[if_pos h4] at h
   obtain⟨q,r'',rfl,e2,hm⟩:=yap h4 (by decide)
   have hq:q=signs.op:=(hc (4,q) (by simp)).op rfl
   cases hp:zbv r'' with
   |none=>rw[List.tail_cons,hp] at h;cases h
   |some z =>
    obtain⟨ts,r3⟩:=z
    rw[List.tail_cons,hp] at h
    simp only at h
    by_cases h5:hdK r3=5
    ·rw[if_pos h5] at h
     obtain⟨i1,i2⟩:=ybn _ hp (fun u hu=>hc u (by simp[hu]))
     obtain⟨z,r4,rfl,e3,hm2⟩:=yap h5 (by decide)
     have hz:z=signs.shut:=(hc (5,z) (by rw[i1];simp)).shut rfl
     simp only[Option.some.injEq,Prod.mk.injEq,List.tail_cons] at h
     obtain⟨rfl,rfl⟩:=h
     unfold yal
     simp only[if_neg i2]
     rw[i1,hq,hz]
     simp
    ·rw[if_neg h5] at h;cases h
  ·rw[if_neg h4] at h
   simp only[Option.some.injEq,Prod.mk.injEq] at h
   obtain⟨rfl,rfl⟩:=h
   simp[yal]
 ·cases h
theorem ydg{r:List Tok}{l:zb2}{r2:List Tok}(h:zsl r=some (l,r2))(hc:∀ x∈r,ydp x):r=ycx signs l++r2:=by
 unfold zsl at h
 split at h
 ·rename_i h8
  obtain⟨p,r',rfl,e1,_⟩:=yap h8 (by decide)
  obtain⟨z,hz,he⟩:=Option.map_eq_some_iff.1 h
  simp only[Prod.mk.injEq] at he
  obtain⟨rfl,rfl⟩:=he
  have hp:p=signs.bang:=(hc (8,p) (by simp)).bang rfl
  have:=ya7 (l:=z.1) (r2:=z.2) hz (fun u hu=>hc u (by simp at hu;simp[hu]))
  simp only[List.tail_cons] at this
  rw[this,hp]
  simp[ycx,yal]
 ·have hn:l.neg=false:=by
   unfold zei at h
   (repeat' split at h) <;> first|(cases h;done)|(simp only[Option.some.injEq,Prod.mk.injEq] at h;rw[← h.1])
  have:=ya7 h hc
  rw[this]
  simp[ycx,hn]
theorem ybz:∀(n:Nat) {r:List Tok} {b:List zb2} {r2:List Tok},ze4 n r=some (b,r2)->(∀ x∈r,ydp x)->r=yav signs b++r2/\b≠[]
 |0,_,_,_,h,_=>by cases h
 |n+1,r,b,r2,h,hc=>by
  unfold ze4 at h
  split at h
  ·cases h
  ·rename_i a r3 hq
   have i1:=ydg hq hc
   split at h
   ·rename_i h6
    obtain⟨p,r',rfl,e1,_⟩:=yap h6 (by decide)
    obtain⟨z,hz,he⟩:=Option.map_eq_some_iff.1 h
    simp only[Prod.mk.injEq] at he
    obtain⟨rfl,rfl⟩:=he
    have hp:p=signs.comma:=(hc (6,p) (by rw[i1];simp)).comma rfl
    obtain⟨j1,j2⟩:=ybz n (b:=z.1) (r2:=z.2) hz (fun u hu=>hc u (by rw[i1];simp at hu;simp[hu]))
    refine⟨?_,by simp⟩
    obtain⟨c,l⟩:=z
    simp only[List.tail_cons] at j1 j2 ⊢
    cases c with
    |nil=>exact absurd rfl j2
    |cons u c =>
     rw[i1,hp,j1]
     simp[yav]
   ·simp only[Option.some.injEq,Prod.mk.injEq] at h
    obtain⟨rfl,rfl⟩:=h
    exact⟨i1,by simp⟩
theorem ycb{n:Nat}{r:List Tok}{c:zab}{r2:List Tok}(h:ze5 n r=some (c,r2))(hc:∀ x∈r,ydp x):r=clK signs c++r2:=by
 unfold ze5 at h
 split at h
 ·cases h
 ·rename_i a r3 hq
  have i1:=ya7 hq hc
  split at h
  ·rename_i h9
   obtain⟨p,r',rfl,e1,_⟩:=yap h9 (by decide)
   have hp:p=signs.arrow:=(hc (9,p) (by rw[i1];simp)).arrow rfl
   simp only[List.tail_cons] at h
   split at h
   ·cases h
   ·rename_i b r4 hb
    split at h
    ·rename_i h7
     obtain⟨z,r5,rfl,e2,_⟩:=yap h7 (by decide)
     obtain⟨j1,j2⟩:=ybz n hb (fun u hu=>hc u (by rw[i1];simp[hu]))
     have hz:z=signs.dot:=(hc (7,z) (by rw[i1,j1];simp)).dot rfl
     simp only[Option.some.injEq,Prod.mk.injEq,List.tail_cons] at h
     obtain⟨rfl,rfl⟩:=h
     rw[i1,j1,hp,hz]
     simp[clK,j2]
    ·cases h
  ·split at h
   ·rename_i h7
    obtain⟨z,r5,rfl,e2,_⟩:=yap h7 (by decide)
    have hz:z=signs.dot:=(hc (7,z) (by rw[i1];simp)).dot rfl
    simp only[Option.some.injEq,Prod.mk.injEq,List.tail_cons] at h
    obtain⟨rfl,rfl⟩:=h
    rw[i1,hz]
    simp[clK]
   ·cases h
theorem yb4{n:Nat}:∀(m:Nat) {r:List Tok} {cs:List zab},zex n m r=some cs->(∀ x∈r,ydp x)->r=yad signs cs
 |m,[],cs,h,_=>by cases m <;> (simp[zex] at h;subst h;simp[yad])
 |0,_::_,cs,h,_=>by simp[zex] at h
 |m+1,x::r,cs,h,hc=>by
  unfold zex at h
  split at h
  ·cases h
  ·rename_i c r2 hq
   have i1:=ycb hq hc
   obtain⟨ds,hd,rfl⟩:=Option.map_eq_some_iff.1 h
   have:=yb4 m hd (fun u hu=>hc u (by rw[i1];simp[hu]))
   rw[i1,this]
   simp[yad]
theorem ybi{s:ByteArray}{cs:List zab}{t:List zaq}(h:zn1 s=.ok (cs,t)):yab (bl s)=some (yad signs cs)/\(∀ c∈cs,yax c)/\s.size<=500:=by
 unfold zn1 at h
 split at h
 ·cases h
 ·rename_i h5
  split at h
  ·cases h
  ·rename_i l hl
   split at h
   ·cases h
   ·rename_i ds hd
    have hw:=ybk _ hd (ycg hl)
    have hcs:ds=cs:=by
     repeat'(split at h)
     all_goals first|(cases h;done)|(simp only[Except.ok.injEq,Prod.mk.injEq] at h;exact h.1)
    subst hcs
    rw[ycf] at hl
    refine⟨?_,hw,by omega⟩
    rw[hl,yb4 _ hd (yaw _ _ _ (Nat.le_refl _) hl)]
theorem ycz{s:ByteArray}{cs:List zab}{t0 t:List zaq}(h5:s.size<=500)(hs:yab (bl s)=some (yad signs cs))(hw:∀ c∈cs,yax c)(h:∀ c∈cs,zen c=false)(hc:zgo cs=some t0)(hsf:∀ c∈cs,ze7 c=true)(hst:zcz (t0.length+1) t0 cs=(t,true)):zn1 s=.ok (cs,t):=by
 have hp:zex (yad signs cs).length (yad signs cs).length (yad signs cs)=some cs:=ybb signs _ _ cs (fun c hc=>⟨(hw c hc).word,(yar signs cs).2 c hc⟩) (yar signs cs).1
 have hm:cs.any zen=false:=by
  rw[List.any_eq_false]
  intro c hc
  rw[h c hc]
  simp
 have ha:cs.all ze7=true:=List.all_eq_true.2 hsf
 unfold zn1
 rw[if_neg (by omega),ycf,hs]
 simp only[hp,hm,hc,ha,hst,if_true,Bool.false_eq_true,if_false]
set_option maxRecDepth 100000
set_option maxHeartbeats 4000000
open Go.RowKit
def yda(t:List zaq)(ns:List ByteArray)(D:DB)(f:zgc):Prop:=∃ p,p < t.length/\∃ r m,D p r=some m/\f=(zim t p,za1 ns r (za0 t p) 3,m)
def ydk(t:List zaq)(ns:List ByteArray)(A:Option (DB × Nat))(t2:List zaq)(ns2:List ByteArray)(B:Option (DB × Nat)):Prop:=match A,B with
 |none,none=>True
 |some (D,k),some (E,l)=>k=l/\∀ f,yda t ns D f↔yda t2 ns2 E f
 |_,_=>False
theorem ya8{t:List zaq}{ns:List ByteArray}{R:zbg}(h:Told t ns R):(za7 t ns R t.length).length=R.count:=by
 unfold za7
 rw[List.length_flatMap,h.inv.cnt]
 congr 1
 refine List.ext_getElem (by simp[h.len]) fun i h1 h2=>?_
 have hi:i < R.rows.length:=by simpa using h2
 simp only[List.getElem_map,List.getElem_range,List.length_map,zc4]
 rw[getD_lt _ hi,((h.inv.tries i hi).1).cnt]
theorem yc5{lp:Nat}(w:World)(db pb:Nat)(s0 s:ByteArray){cs:List zab}{t0 t:List zaq}(hd:Box w db #[.pointer (some ⟨pb,0,none⟩),.string s0] 98)(hP:zka lp w pb cs t)(h:Parts cs t0 t)(hlp:lp<=w.heap.size)(hsz:s.size<=9223372036854775807)
  (hs:s.size<=500->∃ cs2 t2,zn1 s=.ok (cs2,t2)/\ydk t (zaw cs) (zj0 (zjy t (zaw cs) none cs) 4096 4096) t2 (zaw cs2) (zj0 (zjy t2 (zaw cs2) none cs2) 4096 4096)) :
  Calls Tryz.prog 56 #[.pointer (some ⟨db,0,none⟩),.string s] w fun e w'=>e=.returned (.bool true)/\Below w.heap.size w w':=by
 by_cases hlen:s.size<=500
 ·obtain⟨cs2,t2,hc,hal⟩:=hs hlen
  obtain⟨t20,h2⟩:=z9f hc
  have HCEL:Hid (∀ W,Below w.heap.size w W->W.cell? ⟨db,0,none⟩=some (.pointer (some ⟨pb,0,none⟩))/\db < W.heap.size):=fun W hb=>⟨by rw[(hd.below hb).rules.1];rfl,(hd.below hb).lt⟩
  have hlni:¬ (500:Int) < (s.size:Int):=by omega
  have HCO:Hid (Calls Tryz.prog 32 #[.string s] w fun e w'=>∃ qb,e=.returned (.tuple #[.pointer (some ⟨qb,0,none⟩),.int .i64 0])/\Hid (zka w.heap.size w' qb cs2 t2)/\Hid (Below w.heap.size w w')/\w'.cell? ⟨db,0,none⟩=some (.pointer (some ⟨pb,0,none⟩))/\db < w'.heap.size):=by
   refine(zki s w hsz).mono ?_
   rintro e w' ⟨hb,q2⟩
   rw[hc] at q2
   obtain⟨qb,v,pv,h3,h4,h5,h6,h7⟩:=q2
   exact⟨qb,h3,⟨h7,v,pv,h4,h5,h6⟩,hb,HCEL.out w' hb⟩
  have HR1:Hid (∀ W,Below w.heap.size w W->Calls Tryz.prog 35 #[.pointer (some ⟨pb,0,none⟩),.slice none 0 0,.int .i64 4096,.int .i64 4096] W fun e w'=>z9i lp t (zaw cs) (zj0 (zjy t (zaw cs) none cs) 4096 4096) W e w'):=fun W hb=>z9w W pb (hP.below hb) h (Nat.le_trans hlp hb.size) 4096 4096 (by omega) (by omega)
  have HR2:Hid (∀ W W2 qb,Below w.heap.size w W->zka w.heap.size W qb cs2 t2->Below W.heap.size W W2->Calls Tryz.prog 35 #[.pointer (some ⟨qb,0,none⟩),.slice none 0 0,.int .i64 4096,.int .i64 4096] W2 fun e w'=>z9i w.heap.size t2 (zaw cs2) (zj0 (zjy t2 (zaw cs2) none cs2) 4096 4096) W2 e w'):=fun W W2 qb hb hq hb2=>z9w W2 qb (hq.below hb2) h2 (Nat.le_trans hb.size hb2.size) 4096 4096 (by omega) (by omega)
  obtain⟨c0,hl0⟩:=HCEL.out w (Below.refl _ _)
  cases hA:zj0 (zjy t (zaw cs) none cs) 4096 4096 with
  |none =>
   cases hB:zj0 (zjy t2 (zaw cs2) none cs2) 4096 4096 with
   |some y=>rw[hA,hB] at hal;exact hal.elim
   |none =>
    have K1:Hid (∀ W,Below w.heap.size w W->Calls Tryz.prog 35 #[.pointer (some ⟨pb,0,none⟩),.slice none 0 0,.int .i64 4096,.int .i64 4096] W fun e w'=>e=.returned (.tuple #[.pointer none,.int .i64 10])/\Hid (Below W.heap.size W w')):=fun W hb=>by
     refine(HR1.out W hb).mono ?_
     intro e w' q
     rw[hA] at q
     exact q
    have K2:Hid (∀ W W2 qb,Below w.heap.size w W->zka w.heap.size W qb cs2 t2->Below W.heap.size W W2->Calls Tryz.prog 35 #[.pointer (some ⟨qb,0,none⟩),.slice none 0 0,.int .i64 4096,.int .i64 4096] W2 fun e w'=>e=.returned (.tuple #[.pointer none,.int .i64 10])/\Hid (Below w.heap.size w w')):=fun W W2 qb hb hq hb2=>by
     refine(HR2.out W W2 qb hb hq hb2).mono ?_
     intro e w' q
     rw[hB] at q
     exact⟨q.1,zae (zae hb hb2 (Nat.le_refl _)) q.2 (Nat.le_refl _)⟩
    clear hal hA hB HR1 HR2 hd hP h h2 hs hc
    go_enter Tryz.func56,Tryz.ntmps56
    go_wp2_with (first|(go_at_call 32;refine HCO.out.mono ?_;rintro e w1 ⟨qb,rfl,HP1,HB1,c1,hl1⟩)|(go_at_call 35;refine(K2.out _ _ _ HB1.out HP1.out HB2.out).mono ?_;rintro e w3 ⟨rfl,HB3⟩)|(go_at_call 35;refine(K1.out _ HB1.out).mono ?_;rintro e w2 ⟨rfl,HB2⟩))
    go_ret
    exact⟨rfl,HB3.out⟩
  |some x =>
   cases hB:zj0 (zjy t2 (zaw cs2) none cs2) 4096 4096 with
   |none=>rw[hA,hB] at hal;exact hal.elim
   |some y =>
    obtain⟨D,kk⟩:=x
    obtain⟨E,ll⟩:=y
    rw[hA,hB] at hal
    have hkl:kk=ll:=hal.1
    have hfs:∀ f,yda t (zaw cs) D f↔yda t2 (zaw cs2) E f:=hal.2
    have K1:Hid (∀ W,Below w.heap.size w W->Calls Tryz.prog 35 #[.pointer (some ⟨pb,0,none⟩),.slice none 0 0,.int .i64 4096,.int .i64 4096] W fun e w'=>∃ rb,e=.returned (.tuple #[.pointer (some ⟨rb,0,none⟩),.int .i64 0])/\Hid (∃(R:zbg) (pv nv rv:Value) (tbs:List Nat) (lo:Nat),zsh lo lp w' rb t (zaw cs) R pv nv rv tbs/\Told t (zaw cs) R/\zc2 (t.map (·.arity)) R=D/\R.rounds=kk)/\Hid (Below W.heap.size W w')):=fun W hb=>by
     refine(HR1.out W hb).mono ?_
     intro e w' q
     rw[hA] at q
     obtain⟨R,rb,pv,nv,rv,tbs,q1,q2,q3,q4,q5,q6,q7,q8,q9⟩:=q
     exact⟨rb,q2,⟨R,pv,nv,rv,tbs,_,q3,h.told q4 q5 hA q8,q5,q6⟩,q9⟩
    have K2:Hid (∀ W W2 qb,Below w.heap.size w W->zka w.heap.size W qb cs2 t2->Below W.heap.size W W2->Calls Tryz.prog 35 #[.pointer (some ⟨qb,0,none⟩),.slice none 0 0,.int .i64 4096,.int .i64 4096] W2 fun e w'=>∃ rb,e=.returned (.tuple #[.pointer (some ⟨rb,0,none⟩),.int .i64 0])/\Hid (∃(R:zbg) (pv nv rv:Value) (tbs:List Nat) (lo:Nat),zsh lo w.heap.size w' rb t2 (zaw cs2) R pv nv rv tbs/\Told t2 (zaw cs2) R/\zc2 (t2.map (·.arity)) R=E/\R.rounds=ll)/\Hid (Below W2.heap.size W2 w')/\w'.cell? ⟨db,0,none⟩=some (.pointer (some ⟨pb,0,none⟩))/\db < w'.heap.size):=fun W W2 qb hb hq hb2=>by
     refine(HR2.out W W2 qb hb hq hb2).mono ?_
     intro e w' q
     rw[hB] at q
     obtain⟨R,rb,pv,nv,rv,tbs,q1,q2,q3,q4,q5,q6,q7,q8,q9⟩:=q
     exact⟨rb,q2,⟨R,pv,nv,rv,tbs,_,q3,h2.told q4 q5 hB q8,q5,q6⟩,q9,HCEL.out w' (zae (zae hb hb2 (Nat.le_refl _)) q9 (Nat.le_refl _))⟩
    have HAK:Hid (∀ W1 W2 W3 qb rb sb,Below w.heap.size w W1->zka w.heap.size W1 qb cs2 t2->Below W1.heap.size W1 W2->Below W2.heap.size W2 W3->(∃(R:zbg) (pv nv rv:Value) (tbs:List Nat) (lo:Nat),zsh lo lp W2 rb t (zaw cs) R pv nv rv tbs/\Told t (zaw cs) R/\zc2 (t.map (·.arity)) R=D/\R.rounds=kk)->(∃(R:zbg) (pv nv rv:Value) (tbs:List Nat) (lo:Nat),zsh lo w.heap.size W3 sb t2 (zaw cs2) R pv nv rv tbs/\Told t2 (zaw cs2) R/\zc2 (t2.map (·.arity)) R=E/\R.rounds=ll)->Calls Tryz.prog 93 #[.pointer (some ⟨pb,0,none⟩),.pointer (some ⟨rb,0,none⟩),.pointer (some ⟨qb,0,none⟩),.pointer (some ⟨sb,0,none⟩)] W3 fun e w'=>e=.returned (.bool true)/\Hid (Below w.heap.size w w')):=fun W1 W2 W3 qb rb sb hb1 hq hb2 hb3 ⟨R,pv,nv,rv,tbs,lo,r1,r2,r3,r4⟩ ⟨R',pv',nv',rv',tbs',lo',s1,s2,s3,s4⟩=>by
     have hb13:=zae hb2 hb3 (Nat.le_refl _)
     have hbw:=zae hb1 hb13 (Nat.le_refl _)
     have hmem:∀ f,f∈za7 t (zaw cs) R t.length↔f∈za7 t2 (zaw cs2) R' t2.length:=fun f=>by
      rw[ztg r2,ztg s2,r3,s3]
      exact hfs f
     have hal:=z9v r2 s2 hmem
     have hcnt:R.count=R'.count:=by rw[← ya8 r2,← ya8 s2];exact hal.1
     refine(z9h W3 pb rb qb sb cs cs2 t t2 (zaw cs) (zaw cs2) R R' pv nv rv pv' nv' rv' tbs tbs' (hP.below hbw) (r1.below hb3) r2 (z9g r2) (hq.below hb13) s1 s2 (z9g s2) hal hcnt (by omega)).mono ?_
     rintro e w' ⟨q1,q2⟩
     exact⟨q1,zae hbw q2 (Nat.le_refl _)⟩
    clear hal hA hB HR1 HR2 hd hP h h2 hs hc hfs hkl
    go_enter Tryz.func56,Tryz.ntmps56
    go_wp2_with (first|(go_at_call 32;refine HCO.out.mono ?_;rintro e w1 ⟨qb,rfl,HP1,HB1,c1,hl1⟩)|(go_at_call 93;refine(HAK.out _ _ _ _ _ _ HB1.out HP1.out HB2.out HB3.out HX2.out HX3.out).mono ?_;rintro e w4 ⟨rfl,HB4⟩)|(go_at_call 35;refine(K2.out _ _ _ HB1.out HP1.out HB2.out).mono ?_;rintro e w3 ⟨sb,rfl,HX3,HB3,c3,hl3⟩)|(go_at_call 35;refine(K1.out _ HB1.out).mono ?_;rintro e w2 ⟨rb,rfl,HX2,HB2⟩))
    go_ret
    exact⟨rfl,HB4.out⟩
 ·have hlni:(500:Int) < (s.size:Int):=by omega
  clear hd hP h hs
  go_enter Tryz.func56,Tryz.ntmps56
  go_wp2
  go_ret
  exact⟨rfl,Below.refl _ _⟩
def yah:List UInt8->List UInt8->List (List UInt8)
 |_,[]=>[]
 |acc,b::l=>if b=46 then(acc++[b])::yah [] l else yah (acc++[b]) l
def ydz(c:zab):List Tok:=yal signs c.head++(if c.body=[] then [] else(9,signs.arrow)::yav signs c.body)
theorem ycy(c:zab):clK signs c=ydz c++[(7,signs.dot)]:=by simp[clK,ydz]
theorem ybj(c:zab)(cs:List zab):yad signs (c::cs)=ydz c++(7,signs.dot)::yad signs cs:=by simp[yad,ycy]
theorem yci:∀(xs:List ByteArray),(∀ x∈xs,isT (ya9 x)=true)->∀ x∈ya6 signs xs,x.1≠7
 |[],_,x,h=>by cases h
 |[y],hw,x,h=>by
  simp only[ya6,List.mem_singleton] at h
  subst h
  intro e
  have:=hw y (by simp)
  rw[show ya9 y=7 from e] at this
  cases this
 |y::z::r,hw,x,h=>by
  simp only[ya6,List.mem_cons] at h
  rcases h with rfl|rfl|h
  ·intro e
   have:=hw y (by simp)
   rw[show ya9 y=7 from e] at this
   cases this
  ·decide
  ·exact yci (z::r) (fun u hu=>hw u (by simp[List.mem_cons.1 hu])) x h
theorem ybq{l:zb2}(h:ybp l):∀ x∈yal signs l,x.1≠7:=by
 intro x hx
 unfold yal at hx
 rcases List.mem_cons.1 hx with rfl|hx
 ·exact(by decide:(1:Int)≠7)
 ·split at hx
  ·cases hx
  ·rcases List.mem_cons.1 hx with rfl|hx
   ·decide
   ·rcases List.mem_append.1 hx with hx|hx
    ·exact yci _ h x hx
    ·simp at hx;subst hx;decide
theorem yc3{l:zb2}(h:ybp l):∀ x∈ycx signs l,x.1≠7:=by
 intro x hx
 unfold ycx at hx
 split at hx
 ·rcases List.mem_cons.1 hx with rfl|hx
  ·decide
  ·exact ybq h x hx
 ·exact ybq h x hx
theorem ycj:∀(b:List zb2),(∀ l∈b,ybp l)->∀ x∈yav signs b,x.1≠7
 |[],_,x,h=>by cases h
 |[l],hw,x,h=>yc3 (hw l (by simp)) x h
 |l::m::r,hw,x,h=>by
  simp only[yav,List.mem_append,List.mem_cons] at h
  rcases h with h|rfl|h
  ·exact yc3 (hw l (by simp)) x h
  ·decide
  ·exact ycj (m::r) (fun u hu=>hw u (by simp[List.mem_cons.1 hu])) x h
theorem ydu{c:zab}(h:ydb c):∀ x∈ydz c,x.1≠7:=by
 intro x hx
 unfold ydz at hx
 rcases List.mem_append.1 hx with hx|hx
 ·exact ybq h.2.1 x hx
 ·split at hx
  ·cases hx
  ·rcases List.mem_cons.1 hx with rfl|hx
   ·decide
   ·exact ycj _ h.2.2 x hx
theorem ya4:∀(l acc:List UInt8) (cs:List zab),(46:UInt8)∉acc->yab (acc++l)=some (yad signs cs)->(∀ c∈cs,yax c)->(yah acc l).length=cs.length/\∀ i (h1:i < (yah acc l).length) (h2:i < cs.length),RdF (yah acc l)[i] (clK signs cs[i])
 |[],acc,cs,ha,hs,_=>by
  rw[List.append_nil] at hs
  cases cs with
  |nil=>exact⟨rfl,fun i h1=>by simp[yah] at h1⟩
  |cons c cs =>
   exfalso
   apply ha
   rw[ybr _ _ _ (Nat.le_refl _) hs]
   exact⟨(7,signs.dot),by rw[ybj];simp,rfl⟩
 |b::l,acc,cs,ha,hs,hw=>by
  by_cases hb:b=46
  ·subst hb
   have ec:yah acc (46::l)=(acc++[46])::yah [] l:=by rw[yah];simp
   rw[ec]
   have h1:bLD (hdB (46::l))=false:=by simp[hdB,byt,bLD,zsy,z7x,zvv]
   have h2:hdB (46::l)≠45:=by simp[hdB,byt]
   rw[yat _ acc (46::l) (Nat.le_refl _) h1 h2,ybl] at hs
   cases hT:yab acc with
   |none=>rw[hT] at hs;cases hs
   |some T =>
    rw[hT,Option.bind_some] at hs
    cases hR:yab l with
    |none=>rw[hR] at hs;cases hs
    |some R =>
     rw[hR] at hs
     simp only[Option.map_some,Option.some.injEq] at hs
     cases cs with
     |nil=>simp[yad] at hs
     |cons c cs =>
      rw[ybj] at hs
      have hno:∀ x∈T,x.1≠7:=fun x hx e=>ha ((ybr _ _ _ (Nat.le_refl _) hT).2 ⟨x,hx,e⟩)
      obtain⟨e1,e2⟩:=ydr hno (ydu (hw c (by simp)).word) rfl rfl hs
      subst e1 e2
      obtain⟨i1,i2⟩:=ya4 l [] cs (by simp) (by simpa using hR) (fun d hd=>hw d (by simp[hd]))
      refine⟨by simp[i1],fun i k1 k2=>?_⟩
      cases i with
      |zero =>
       simp only[List.getElem_cons_zero]
       rw[ycy]
       exact RdF.dot hT
      |succ i =>
       simp only[List.getElem_cons_succ]
       exact i2 i _ _
  ·have ec:yah acc (b::l)=yah (acc++[b]) l:=by rw[yah,if_neg hb]
   rw[ec]
   exact ya4 l (acc++[b]) cs (by simp[ha,Ne.symm hb]) (by simpa using hs) hw
theorem ycm{ps:List (List UInt8)}{cs:List zab}(hr:∀ i (h1:i < ps.length) (h2:i < cs.length),RdF ps[i] (clK signs cs[i]))(hl:ps.length=cs.length):∀(o:List Nat),(∀ i∈o,i < cs.length)->∀ d:zab,RdF (o.flatMap fun i=>ps.getD i []) (yad signs (o.map fun i=>cs.getD i d))
 |[],_,d=>RdF.nil
 |i::o,ho,d=>by
  have hi:=ho i (by simp)
  rw[List.flatMap_cons,List.map_cons]
  show RdF _ (clK signs (cs.getD i d)++yad signs (o.map fun i=>cs.getD i d))
  have e1:ps.getD i []=ps[i]'(by omega):=by simp[List.getD,hl,hi]
  have e2:cs.getD i d=cs[i]:=by simp[List.getD,hi]
  rw[e1,e2]
  exact(hr i (by omega) hi).app (ycm hr hl o (fun j hj=>ho j (by simp[hj])) d)
def yb5(ps:List (List UInt8))(o:List Nat):List UInt8:=(o.flatMap fun i=>ps.getD i [])++(match o with|[]=>[]|i::_=>ps.getD i [])
theorem yc6(ps:List (List UInt8))(o:List Nat):yb5 ps o=(o++o.take 1).flatMap fun i=>ps.getD i []:=by
 unfold yb5
 cases o with
 |nil=>rfl
 |cons i o=>simp
theorem ybt{l:List UInt8}{ts:List Tok}(h:RdF l ts):yab l=some ts:=by
 have:=h []
 simpa [yau] using this
theorem ydx{s:ByteArray}{cs:List zab}(h5:s.size<=500)(hs:yab (bl s)=some (yad signs cs))(hw:∀ c∈cs,yax c):prW cs<=500:=by
 have hp:zex (yad signs cs).length (yad signs cs).length (yad signs cs)=some cs:=ybb signs _ _ cs (fun c hc=>⟨(hw c hc).word,(yar signs cs).2 c hc⟩) (yar signs cs).1
 have h1:=zwp hp
 rw[← ycf] at hs
 have h2:=zq6 hs
 omega
theorem yc7{s s2:ByteArray}{cs:List zab}{t0 t:List zaq}(h:zn1 s=.ok (cs,t))(hp:Parts cs t0 t){o:List Nat}(ho:o.Perm (List.range cs.length))(hs2:bl s2=yb5 (yah [] (bl s)) o)(h5:s2.size<=500):∃ cs2 t2,zn1 s2=.ok (cs2,t2)/\ydk t (zaw cs) (zj0 (zjy t (zaw cs) none cs) 4096 4096) t2 (zaw cs2) (zj0 (zjy t2 (zaw cs2) none cs2) 4096 4096):=by
 obtain⟨a1,a2,a3⟩:=ybi h
 obtain⟨b1,b2⟩:=ya4 (bl s) [] cs (by simp) (by simpa using a1) a2
 have hlt:∀ i∈o,i < cs.length:=fun i hi=>by simpa using ho.mem_iff.1 hi
 have hlt2:∀ i∈o++o.take 1,i < cs.length:=fun i hi=>by
  rcases List.mem_append.1 hi with hi|hi
  ·exact hlt i hi
  ·exact hlt i (List.mem_of_mem_take hi)
 cases hcs:cs with
 |nil =>
  subst hcs
  have ho0:o=[]:=by have:=ho.length_eq;simpa using this
  subst ho0
  have e0:bl s2=[]:=by rw[hs2];rfl
  have hc2:zn1 s2=.ok ([],t):=ycz (t0:=t0) h5 (by rw[e0];rfl) a2 hp.many hp.coll hp.safe hp.strat
  exact⟨[],t,hc2,by
   cases zj0 (zjy t (zaw []) none []) 4096 4096 with
   |none=>trivial
   |some x=>exact⟨rfl,fun f=>Iff.rfl⟩⟩
 |cons d cs' =>
  rw[← hcs]
  have hr:=ybt (ycm b2 b1 (o++o.take 1) hlt2 d)
  rw[← yc6,← hs2] at hr
  generalize hq:(o++o.take 1).map (fun i=>cs.getD i d)=cs2 at hr
  have hm:∀ c,c∈cs2↔c∈cs:=by
   intro c
   rw[← hq,List.mem_map]
   constructor
   ·rintro⟨i,hi,rfl⟩
    have:=hlt2 i hi
    rw[show cs.getD i d=cs[i] by simp[List.getD,this]]
    exact List.getElem_mem _
   ·intro hc
    obtain⟨i,hi,rfl⟩:=List.mem_iff_getElem.1 hc
    exact⟨i,List.mem_append.2 (Or.inl (ho.mem_iff.2 (by simpa using hi))),by simp[List.getD,hi]⟩
  have hw2:∀ c∈cs2,yax c:=fun c hc=>a2 c ((hm c).1 hc)
  have few:=ydx h5 hr hw2
  have hp2:=hp.same hm few
  refine⟨cs2,t,ycz h5 hr hw2 hp2.many hp2.coll hp2.safe hp2.strat,?_⟩
  rw[yb2 hm,← ycp hp hm few]
  cases zj0 (zjy t (zaw cs) none cs) 4096 4096 with
  |none=>trivial
  |some x=>exact⟨rfl,fun f=>Iff.rfl⟩
end Go.Proofs.YteampbddflhngaaGreat
