import Derived.Test.YteampbddflhngabGreatJCPx5
import Derived.Test.YteampbddflhngabGreatJ43
import Derived.Test.YteampbddflhngabGreatJ08

namespace Go.Proofs.YteampbddflhngabGreat
theorem z8p{a:UInt8}{c:Int}{l:List UInt8}(_h:zh8 (byt a) c≠0):1<=z8f (a::l) (zh8 (byt a) c):=by
 unfold z8f
 generalize hK:zh8 (byt a) c=k at *
 unfold zh8 at hK
 split
 ·omega
 ·split
  ·rename_i h12
   have:bLD (byt a)=true:=by
    split at hK
    ·rename_i q;simp[bLD,q]
    ·split at hK
     ·rename_i q;simp[bLD,q]
     ·split at hK
      ·omega
      ·split at hK
       ·omega
       ·unfold z3g at hK;split at hK <;> (try split at hK) <;> (try split at hK) <;> (try split at hK) <;> (try split at hK) <;> omega
   rw[List.takeWhile_cons,if_pos this]
   simp
  ·split
   ·rename_i h3
    have:zun (byt a)=true:=by
     split at hK
     ·omega
     ·split at hK
      ·omega
      ·split at hK
       ·assumption
       ·split at hK
        ·omega
        ·unfold z3g at hK;split at hK <;> (try split at hK) <;> (try split at hK) <;> (try split at hK) <;> (try split at hK) <;> omega
    rw[List.takeWhile_cons,if_pos this]
    simp
   ·omega
def z7y(l:List UInt8):Option (List Tok):=z8a l.length l
theorem z8i:∀(m:Nat) (l:List UInt8),l.length<=m->∀ n,l.length<=n->z8a n l=z8a l.length l
 |_,[],_,n,_=>by cases n <;> rfl
 |0,_::_,h,_,_=>by simp at h
 |m+1,a::l,h,n,hn=>by
  cases n with
  |zero=>simp at hn
  |succ n =>
   simp only[List.length_cons] at h hn ⊢
   unfold z8a
   rw[z8i m l (by omega) n (by omega)]
   split
   ·rfl
   ·split
    ·rfl
    ·rename_i hk
     split
     ·rfl
     ·have hp:=z8p (l:=l) hk
      have hd:((a::l).drop (z8f (a::l) (zh8 (byt a) (hdB l)))).length<=l.length:=by rw[List.length_drop];simp;omega
      rw[z8i m _ (by omega) n (by omega),z8i m ((a::l).drop (z8f (a::l) (zh8 (byt a) (hdB l)))) (by omega) l.length hd]
theorem z8d(a:UInt8)(l:List UInt8):z7y (a::l)=if zlv (byt a) then z7y l else if zh8 (byt a) (hdB l)=0 then none else if 6 < z8f (a::l) (zh8 (byt a) (hdB l)) then none else(z7y ((a::l).drop (z8f (a::l) (zh8 (byt a) (hdB l))))).map ((zh8 (byt a) (hdB l),(⟨((a::l).take (z8f (a::l) (zh8 (byt a) (hdB l)))).toArray⟩:ByteArray))::·):=by
 show z8a (l.length+1) (a::l)=_
 unfold z8a
 split
 ·rfl
 ·split
  ·rfl
  ·rename_i hk
   split
   ·rfl
   ·have hp:=z8p (l:=l) hk
    have hd:((a::l).drop (z8f (a::l) (zh8 (byt a) (hdB l)))).length<=l.length:=by rw[List.length_drop];simp;omega
    rw[z8i _ _ (Nat.le_refl _) l.length hd]
    rfl
theorem z8t:z7y []=some []:=rfl
theorem ya2(s:ByteArray):splitB s=z7y (bl s):=by
 have hsz:s.data.toList.length=s.size:=by rw[Array.length_toList];rfl
 unfold splitB z7y bl
 rw[z9x,List.drop_zero,hsz]
theorem ybt{a:UInt8}{l r:List UInt8}(h45:hdB r≠45):zh8 (byt a) (hdB (l++r))=zh8 (byt a) (hdB l):=by
 cases l with
 |cons b l=>rfl
 |nil =>
  show zh8 (byt a) (hdB r)=zh8 (byt a) 0
  unfold zh8
  rw[if_neg (show ¬ (byt a=58/\hdB r=45) from fun q=>h45 q.2),if_neg (show ¬ (byt a=58/\(0:Int)=45) from fun q=>by omega)]
theorem z9p{p:UInt8->Bool}:∀(l r:List UInt8),(∀ b q,r=b::q->p b=false)->((l++r).takeWhile p).length=(l.takeWhile p).length
 |[],[],_=>rfl
 |[],b::r,h=>by simp[h b r rfl]
 |a::l,r,h=>by
  rw[List.cons_append,List.takeWhile_cons,List.takeWhile_cons]
  split
  ·simp only[List.length_cons];rw[z9p l r h]
  ·rfl
theorem ycu{a:UInt8}{l r:List UInt8}{k:Int}(hr:bLD (hdB r)=false):z8f (a::(l++r)) k=z8f (a::l) k:=by
 have hd:zun (hdB r)=false:=by simp only[bLD,Bool.or_eq_false_iff] at hr;exact hr.2
 unfold z8f
 split
 ·rfl
 ·split
  ·rw[← List.cons_append];exact z9p _ r fun b q e=>by subst e;exact hr
  ·split
   ·rw[← List.cons_append];exact z9p _ r fun b q e=>by subst e;exact hd
   ·rfl
theorem yc9{a:UInt8}{l:List UInt8}:zh8 (byt a) (hdB l)≠0->z8f (a::l) (zh8 (byt a) (hdB l))<=(a::l).length:=by
 intro h
 have htw:∀(p:UInt8->Bool) (x:List UInt8),(x.takeWhile p).length<=x.length:=fun p x=>(List.takeWhile_sublist p).length_le
 unfold z8f
 split
 ·rename_i h9
  cases l with
  |nil =>
   exfalso
   unfold zh8 at h9
   split at h9
   ·omega
   ·split at h9
    ·omega
    ·split at h9
     ·omega
     ·rw[if_neg (by rintro⟨_,q⟩;cases q)] at h9
      unfold z3g at h9
      split at h9 <;> (try split at h9) <;> (try split at h9) <;> (try split at h9) <;> (try split at h9) <;> omega
  |cons b l=>simp
 ·split
  ·exact htw _ _
  ·split
   ·exact htw _ _
   ·simp
theorem z8s:∀(m:Nat) (l r:List UInt8),l.length<=m->bLD (hdB r)=false->hdB r≠45->z7y (l++r)=(z7y l).bind fun T=>(z7y r).map (T++·)
 |_,[],r,_,_,_=>by
  simp only[List.nil_append,z8t,Option.bind_some]
  cases z7y r <;> simp
 |0,_::_,_,h,_,_=>by simp at h
 |m+1,a::l,r,h,hr,h45=>by
  simp only[List.length_cons] at h
  rw[List.cons_append,z8d,z8d,ybt h45,ycu hr]
  split
  ·exact z8s m l r (by omega) hr h45
  ·split
   ·rfl
   ·rename_i hk
    split
    ·rfl
    ·have hp:=z8p (l:=l) hk
     have hle:=yc9 hk
     have hd:((a::l).drop (z8f (a::l) (zh8 (byt a) (hdB l)))).length<=m:=by rw[List.length_drop];simp;omega
     rw[← List.cons_append,List.drop_append_of_le_length hle,List.take_append_of_le_length hle,z8s m _ r hd hr h45]
     cases z7y ((a::l).drop (z8f (a::l) (zh8 (byt a) (hdB l)))) with
     |none=>rfl
     |some T =>
      simp only[Option.bind_some,Option.map_some]
      cases z7y r <;> simp
def RdF(l:List UInt8)(ts:List Tok):Prop:=∀ r,z7y (l++r)=(z7y r).map (ts++·)
theorem RdF.app{l l':List UInt8}{ts ts':List Tok}(h:RdF l ts)(k:RdF l' ts'):RdF (l++l') (ts++ts'):=by
 intro r
 rw[List.append_assoc,h,k,yay]
theorem RdF.nil:RdF [] []:=fun r=>by cases h:z7y r <;> simp[h]
theorem z9w(r:List UInt8):z7y (46::r)=(z7y r).map ((7,signs.dot)::·):=by
 rw[z8d,if_neg (by decide)]
 have hk:zh8 (byt 46) (hdB r)=7:=by unfold zh8;simp[byt,zru,z5j,zun,z3g]
 rw[hk]
 have hl:z8f (46::r) 7=1:=rfl
 rw[hl]
 rfl
theorem RdF.dot{l:List UInt8}{ts:List Tok}(h:z7y l=some ts):RdF (l++[46]) (ts++[(7,signs.dot)]):=by
 intro r
 have h1:bLD (hdB (46::r))=false:=by simp[hdB,byt,bLD,zru,z5j,zun]
 have h2:hdB (46::r)≠45:=by simp[hdB,byt]
 rw[List.append_assoc,List.cons_append,List.nil_append,z8s _ l (46::r) (Nat.le_refl _) h1 h2,h,Option.bind_some,z9w]
 cases z7y r <;> simp
theorem RdA.rdf{l:List UInt8}{ts:List Tok}(h:RdA l ts):RdF l ts:=by
 obtain⟨m,h1,h2⟩:=h
 intro r
 have:=h2 ((l++r).length - m) r
 rw[show(l++r).length - m+m=(l++r).length by simp;omega] at this
 unfold z7y
 rw[this,z8i _ r (Nat.le_refl _) _ (by simp;omega)]
theorem z95:∀(m:Nat) (l:List UInt8) (ts:List Tok),l.length<=m->z7y l=some ts->((46:UInt8)∈l↔∃ x∈ts,x.1=7)
 |_,[],ts,_,h=>by simp[z8t] at h;subst h;simp
 |0,_::_,_,h,_=>by simp at h
 |m+1,a::l,ts,h,hs=>by
  simp only[List.length_cons] at h
  rw[z8d] at hs
  split at hs
  ·rename_i hb
   rw[List.mem_cons,z95 m l ts (by omega) hs]
   refine⟨fun q=>q.resolve_left fun e=>?_,Or.inr⟩
   subst e
   simp[zlv,byt] at hb
  ·split at hs
   ·cases hs
   ·rename_i hk
    split at hs
    ·cases hs
    ·obtain⟨us,hu,rfl⟩:=Option.map_eq_some_iff.1 hs
     have hp:=z8p (l:=l) hk
     have hd:((a::l).drop (z8f (a::l) (zh8 (byt a) (hdB l)))).length<=m:=by rw[List.length_drop];simp;omega
     have ih:=z95 m _ us hd hu
     have hmem:(46:UInt8)∈a::l↔(46:UInt8)∈(a::l).take (z8f (a::l) (zh8 (byt a) (hdB l)))∨(46:UInt8)∈(a::l).drop (z8f (a::l) (zh8 (byt a) (hdB l))):=by
      rw[← List.mem_append,List.take_append_drop]
     rw[hmem,ih]
     have hone:(46:UInt8)∈(a::l).take (z8f (a::l) (zh8 (byt a) (hdB l)))↔zh8 (byt a) (hdB l)=7:=by
      generalize hK:zh8 (byt a) (hdB l)=k at *
      unfold zh8 at hK
      have hld:∀ b:UInt8,bLD (byt b)=true->b≠46:=by
       rintro b hb rfl
       revert hb
       decide
      have hdg:∀ b:UInt8,zun (byt b)=true->b≠46:=by
       rintro b hb rfl
       revert hb
       decide
      split at hK
      ·subst hK
       rw[show z8f (a::l) 1=((a::l).takeWhile fun b=>bLD (byt b)).length from rfl,z8g]
       exact⟨fun q=>absurd rfl (hld _ (z8h (p:=fun b=>bLD (byt b)) q)),fun q=>by cases q⟩
      ·split at hK
       ·subst hK
        rw[show z8f (a::l) 2=((a::l).takeWhile fun b=>bLD (byt b)).length from rfl,z8g]
        exact⟨fun q=>absurd rfl (hld _ (z8h (p:=fun b=>bLD (byt b)) q)),fun q=>by cases q⟩
       ·split at hK
        ·subst hK
         rw[show z8f (a::l) 3=((a::l).takeWhile fun b=>zun (byt b)).length from rfl,z8g]
         exact⟨fun q=>absurd rfl (hdg _ (z8h (p:=fun b=>zun (byt b)) q)),fun q=>by cases q⟩
        ·split at hK
         ·rename_i h58
          subst hK
          rw[show z8f (a::l) 9=2 from rfl]
          cases l with
          |nil=>exact absurd h58.2 (by decide)
          |cons b l =>
           have hb:byt b=45:=h58.2
           refine⟨fun q=>?_,fun q=>by cases q⟩
           simp only[List.take_succ_cons,List.take_zero,List.mem_cons,List.not_mem_nil,or_false] at q
           rcases q with rfl|rfl
           ·exact absurd h58.1 (by decide)
           ·exact absurd hb (by decide)
         ·have h1:z8f (a::l) k=1:=by
           unfold z8f
           have:k≠9/\k≠1/\k≠2/\k≠3:=by
            unfold z3g at hK
            split at hK <;> (try split at hK) <;> (try split at hK) <;> (try split at hK) <;> (try split at hK) <;> omega
           rw[if_neg this.1,if_neg (by omega),if_neg this.2.2.2]
          rw[h1]
          simp only[List.take_succ_cons,List.take_zero,List.mem_cons,List.not_mem_nil,or_false]
          constructor
          ·rintro rfl
           rw[← hK]
           decide
          ·intro e
           subst e
           unfold z3g at hK
           split at hK
           ·omega
           ·split at hK
            ·omega
            ·split at hK
             ·omega
             ·split at hK
              ·rename_i q
               unfold byt at q
               apply UInt8.toNat_inj.1
               show 46=a.toNat
               omega
              ·split at hK <;> omega
     rw[hone]
     simp
theorem ycr{T T' R R':List Tok}(h:∀ x∈T,x.1≠7)(h':∀ x∈T',x.1≠7){d d':Tok}(hd:d.1=7)(hd':d'.1=7)(e:T++d::R=T'++d'::R'):T=T'/\R=R':=by
 induction T generalizing T' with
 |nil =>
  cases T' with
  |nil=>simp at e;exact⟨rfl,e.2⟩
  |cons x T' =>
   simp only[List.nil_append,List.cons_append,List.cons.injEq] at e
   exact absurd (by rw[← e.1];exact hd) (h' x (by simp))
 |cons x T ih =>
  cases T' with
  |nil =>
   simp only[List.nil_append,List.cons_append,List.cons.injEq] at e
   exact absurd (by rw[e.1];exact hd') (h x (by simp))
  |cons y T' =>
   simp only[List.cons_append,List.cons.injEq] at e
   obtain⟨i1,i2⟩:=ih (fun z hz=>h z (by simp[hz])) (fun z hz=>h' z (by simp[hz])) e.2
   exact⟨by rw[e.1,i1],i2⟩
theorem z9c.word{l:zbv}(h:z9c l):z90 l:=fun x hx=>ych (h.2 x hx)
theorem z8n.word{c:zac}(h:z8n c):yb8 c:=⟨h.1,h.2.1.word,fun l hl=>(h.2.2 l hl).word⟩
theorem ya8(S:z8m)(l:zbv):1<=(ybo S l).length:=by
 unfold ybo z8k
 split <;> simp
theorem yad(S:z8m):∀ b:List zbv,b.length<=(z8v S b).length
 |[]=>by simp
 |[l]=>by have:=ya8 S l;simp[z8v];exact this
 |l::m::r=>by
  have ih:=yad S (m::r)
  have:=ya8 S l
  simp only[z8v,List.length_append,List.length_cons] at ih ⊢
  omega
theorem ycn(S:z8m)(c:zac):c.body.length+1<=(clK S c).length:=by
 have:=yad S c.body
 unfold clK
 by_cases hb:c.body=[]
 ·simp[hb]
 ·simp only[if_neg hb,List.length_append,List.length_cons,List.length_nil]
  omega
theorem z8q(S:z8m):∀ cs:List zac,cs.length<=(z8b S cs).length/\∀ c∈cs,c.body.length<=(z8b S cs).length
 |[]=>⟨by simp,fun c h=>by cases h⟩
 |c::cs=>by
  obtain⟨i1,i2⟩:=z8q S cs
  have hc:=ycn S c
  have e:(z8b S (c::cs)).length=(clK S c).length+(z8b S cs).length:=by simp[z8b]
  refine⟨by rw[e];simp;omega,fun d hd=>?_⟩
  rw[e]
  rcases List.mem_cons.1 hd with rfl|hd
  ·omega
  ·have:=i2 d hd;omega
structure yck (x:Tok):Prop where
 word:isT x.1=true->x.1=z9e x.2
 op:x.1=4->x.2=signs.op
 shut:x.1=5->x.2=signs.shut
 comma:x.1=6->x.2=signs.comma
 dot:x.1=7->x.2=signs.dot
 bang:x.1=8->x.2=signs.bang
 arrow:x.1=9->x.2=signs.arrow
theorem one_byte{a:UInt8}{n:Nat}(h:byt a=(n:Int))(hn:n < 256):a=UInt8.ofNat n:=by
 apply UInt8.toNat_inj.1
 unfold byt at h
 rw[UInt8.toNat_ofNat',Nat.mod_eq_of_lt (by simpa using hn)]
 omega
theorem z8x:∀(m:Nat) (l:List UInt8) (ts:List Tok),l.length<=m->z7y l=some ts->∀ x∈ts,yck x
 |_,[],ts,_,h,x,hx=>by simp[z8t] at h;subst h;cases hx
 |0,_::_,_,h,_,_,_=>by simp at h
 |m+1,a::l,ts,h,hs,x,hx=>by
  simp only[List.length_cons] at h
  rw[z8d] at hs
  split at hs
  ·exact z8x m l ts (by omega) hs x hx
  ·split at hs
   ·cases hs
   ·rename_i hk
    split at hs
    ·cases hs
    ·obtain⟨us,hu,rfl⟩:=Option.map_eq_some_iff.1 hs
     have hp:=z8p (l:=l) hk
     have hd:((a::l).drop (z8f (a::l) (zh8 (byt a) (hdB l)))).length<=m:=by rw[List.length_drop];simp;omega
     rcases List.mem_cons.1 hx with rfl|hx
     ·clear hs hu hd hx
      have hword:isT (zh8 (byt a) (hdB l))=true->∀ c,zh8 (byt a) c=zh8 (byt a) (hdB l):=by
       intro ht c
       unfold zh8 at ht ⊢
       split
       ·rfl
       ·split
        ·rfl
        ·split
         ·rfl
         ·rename_i q1 q2 q3
          rw[if_neg q1,if_neg q2,if_neg q3] at ht
          split at ht
          ·simp[isT] at ht
          ·unfold z3g at ht
           (repeat' split at ht) <;> simp[isT] at ht
      have hsg:∀ k:Int,zh8 (byt a) (hdB l)=k->k≠0->k≠1->k≠2->k≠3->k≠9->(⟨((a::l).take (z8f (a::l) k)).toArray⟩:ByteArray)=⟨#[a]⟩/\z3g (byt a)=k:=by
       intro k e h0 h1 h2 h3 h9
       refine⟨?_,?_⟩
       ·unfold z8f
        rw[if_neg h9,if_neg (by omega),if_neg h3]
        rfl
       ·unfold zh8 at e
        split at e
        ·omega
        ·split at e
         ·omega
         ·split at e
          ·omega
          ·split at e
           ·omega
           ·exact e
      refine⟨fun ht=>?_,fun e=>?_,fun e=>?_,fun e=>?_,fun e=>?_,fun e=>?_,fun e=>?_⟩
      ·simp only at ht ⊢
       unfold z9e
       have e0:bAt (⟨((a::l).take (z8f (a::l) (zh8 (byt a) (hdB l)))).toArray⟩:ByteArray) 0=byt a:=by
        rw[z8l]
        simp only[List.drop_zero]
        obtain⟨n,hn⟩:∃ n,z8f (a::l) (zh8 (byt a) (hdB l))=n+1:=⟨z8f (a::l) (zh8 (byt a) (hdB l)) - 1,by omega⟩
        rw[hn]
        rfl
       rw[e0]
       exact(hword ht _).symm
      all_goals
       simp only at e ⊢
       rw[e]
      ·obtain⟨h1,h2⟩:=hsg 4 e (by decide) (by decide) (by decide) (by decide) (by decide)
       rw[h1]
       have:byt a=((40:Nat):Int):=by unfold z3g at h2;(repeat' split at h2) <;> omega
       rw[one_byte this (by decide)]
       rfl
      ·obtain⟨h1,h2⟩:=hsg 5 e (by decide) (by decide) (by decide) (by decide) (by decide)
       rw[h1]
       have:byt a=((41:Nat):Int):=by unfold z3g at h2;(repeat' split at h2) <;> omega
       rw[one_byte this (by decide)]
       rfl
      ·obtain⟨h1,h2⟩:=hsg 6 e (by decide) (by decide) (by decide) (by decide) (by decide)
       rw[h1]
       have:byt a=((44:Nat):Int):=by unfold z3g at h2;(repeat' split at h2) <;> omega
       rw[one_byte this (by decide)]
       rfl
      ·obtain⟨h1,h2⟩:=hsg 7 e (by decide) (by decide) (by decide) (by decide) (by decide)
       rw[h1]
       have:byt a=((46:Nat):Int):=by unfold z3g at h2;(repeat' split at h2) <;> omega
       rw[one_byte this (by decide)]
       rfl
      ·obtain⟨h1,h2⟩:=hsg 8 e (by decide) (by decide) (by decide) (by decide) (by decide)
       rw[h1]
       have:byt a=((33:Nat):Int):=by unfold z3g at h2;(repeat' split at h2) <;> omega
       rw[one_byte this (by decide)]
       rfl
      ·have:byt a=((58:Nat):Int)/\hdB l=((45:Nat):Int):=by
        unfold zh8 at e
        split at e
        ·omega
        ·split at e
         ·omega
         ·split at e
          ·omega
          ·split at e
           ·assumption
           ·unfold z3g at e
            (repeat' split at e) <;> omega
       rw[show z8f (a::l) 9=2 from rfl]
       cases l with
       |nil=>exact absurd this.2 (by decide)
       |cons b l =>
        rw[one_byte this.1 (by decide),one_byte (show byt b=((45:Nat):Int) from this.2) (by decide)]
        rfl
     ·exact z8x m _ us hd hu x hx
theorem z8o{r:List Tok}{k:Int}(h:hdK r=k)(h0:k≠0):∃ x r',r=(k,x)::r'/\r.tail=r'/\(k,x)∈r:=by
 cases r with
 |nil=>exact absurd h.symm h0
 |cons a r =>
  obtain⟨j,x⟩:=a
  have e:j=k:=h
  subst e
  exact⟨x,r,rfl,rfl,by simp⟩
theorem z9y:∀(r:List Tok) {ts:List ByteArray} {r2:List Tok},zbm r=some (ts,r2)->(∀ x∈r,yck x)->r=z9h signs ts++r2/\ts≠[]
 |[],_,_,h,_=>by simp[zbm] at h
 |[x],ts,r2,h,hc=>by
  simp only[zbm] at h
  split at h
  ·rename_i hq
   simp only[Option.some.injEq,Prod.mk.injEq] at h
   obtain⟨rfl,rfl⟩:=h
   refine⟨?_,by simp⟩
   show [x]=[yb7 x.2]++[]
   unfold yb7
   rw[← (hc x (by simp)).word hq]
   rfl
  ·cases h
 |x::y::r,ts,r2,h,hc=>by
  simp only[zbm] at h
  split at h
  ·rename_i hq
   have hx:x=yb7 x.2:=by
    unfold yb7
    rw[← (hc x (by simp)).word hq]
   split at h
   ·rename_i h6
    obtain⟨z,hz,he⟩:=Option.map_eq_some_iff.1 h
    simp only[Prod.mk.injEq] at he
    obtain⟨rfl,rfl⟩:=he
    obtain⟨i1,i2⟩:=z9y r (ts:=z.1) (r2:=z.2) hz (fun u hu=>hc u (by simp[hu]))
    refine⟨?_,by simp⟩
    have hy:y=(6,signs.comma):=by
     obtain⟨k,b⟩:=y
     simp only at h6
     subst h6
     have q:=(hc (6,b) (by simp)).comma rfl
     simp only at q
     rw[q]
    obtain⟨t,l⟩:=z
    simp only at i1 i2 ⊢
    cases t with
    |nil=>exact absurd rfl i2
    |cons u t =>
     show x::y::r=yb7 x.2::(6,signs.comma)::(z9h signs (u::t)++l)
     rw[← i1,← hx,hy]
   ·simp only[Option.some.injEq,Prod.mk.injEq] at h
    obtain⟨rfl,rfl⟩:=h
    refine⟨?_,by simp⟩
    show x::y::r=[yb7 x.2]++y::r
    rw[← hx]
    rfl
  ·cases h
theorem z9i{r:List Tok}{l:zbv}{r2:List Tok}(h:zd9 r=some (l,r2))(hc:∀ x∈r,yck x):r=z8k signs l++r2:=by
 unfold zd9 at h
 split at h
 ·rename_i h1
  obtain⟨p,r',rfl,e1,_⟩:=z8o h1 (by decide)
  change (if hdK r'=4 then(match zbm r'.tail with|none=>none|some (ts,r2)=>if hdK r2=5 then some ((⟨false,p,ts⟩:zbv),r2.tail) else none) else some ((⟨false,p,[]⟩:zbv),r'))=some (l,r2) at h
  by_cases h4:hdK r'=4
  ·rw[if_pos h4] at h
   obtain⟨q,r'',rfl,e2,hm⟩:=z8o h4 (by decide)
   have hq:q=signs.op:=(hc (4,q) (by simp)).op rfl
   cases hp:zbm r'' with
   |none=>rw[List.tail_cons,hp] at h;cases h
   |some z =>
    obtain⟨ts,r3⟩:=z
    rw[List.tail_cons,hp] at h
    simp only at h
    by_cases h5:hdK r3=5
    ·rw[if_pos h5] at h
     obtain⟨i1,i2⟩:=z9y _ hp (fun u hu=>hc u (by simp[hu]))
     obtain⟨z,r4,rfl,e3,hm2⟩:=z8o h5 (by decide)
     have hz:z=signs.shut:=(hc (5,z) (by rw[i1];simp)).shut rfl
     simp only[Option.some.injEq,Prod.mk.injEq,List.tail_cons] at h
     obtain⟨rfl,rfl⟩:=h
     unfold z8k
     simp only[if_neg i2]
     rw[i1,hq,hz]
     simp
    ·rw[if_neg h5] at h;cases h
  ·rw[if_neg h4] at h
   simp only[Option.some.injEq,Prod.mk.injEq] at h
   obtain⟨rfl,rfl⟩:=h
   simp[z8k]
 ·cases h
theorem ycc{r:List Tok}{l:zbv}{r2:List Tok}(h:zri r=some (l,r2))(hc:∀ x∈r,yck x):r=ybo signs l++r2:=by
 unfold zri at h
 split at h
 ·rename_i h8
  obtain⟨p,r',rfl,e1,_⟩:=z8o h8 (by decide)
  obtain⟨z,hz,he⟩:=Option.map_eq_some_iff.1 h
  simp only[Prod.mk.injEq] at he
  obtain⟨rfl,rfl⟩:=he
  have hp:p=signs.bang:=(hc (8,p) (by simp)).bang rfl
  have:=z9i (l:=z.1) (r2:=z.2) hz (fun u hu=>hc u (by simp at hu;simp[hu]))
  simp only[List.tail_cons] at this
  rw[this,hp]
  simp[ybo,z8k]
 ·have hn:l.neg=false:=by
   unfold zd9 at h
   (repeat' split at h) <;> first|(cases h;done)|(simp only[Option.some.injEq,Prod.mk.injEq] at h;rw[← h.1])
  have:=z9i h hc
  rw[this]
  simp[ybo,hn]
theorem yae:∀(n:Nat) {r:List Tok} {b:List zbv} {r2:List Tok},zew n r=some (b,r2)->(∀ x∈r,yck x)->r=z8v signs b++r2/\b≠[]
 |0,_,_,_,h,_=>by cases h
 |n+1,r,b,r2,h,hc=>by
  unfold zew at h
  split at h
  ·cases h
  ·rename_i a r3 hq
   have i1:=ycc hq hc
   split at h
   ·rename_i h6
    obtain⟨p,r',rfl,e1,_⟩:=z8o h6 (by decide)
    obtain⟨z,hz,he⟩:=Option.map_eq_some_iff.1 h
    simp only[Prod.mk.injEq] at he
    obtain⟨rfl,rfl⟩:=he
    have hp:p=signs.comma:=(hc (6,p) (by rw[i1];simp)).comma rfl
    obtain⟨j1,j2⟩:=yae n (b:=z.1) (r2:=z.2) hz (fun u hu=>hc u (by rw[i1];simp at hu;simp[hu]))
    refine⟨?_,by simp⟩
    obtain⟨c,l⟩:=z
    simp only[List.tail_cons] at j1 j2 ⊢
    cases c with
    |nil=>exact absurd rfl j2
    |cons u c =>
     rw[i1,hp,j1]
     simp[z8v]
   ·simp only[Option.some.injEq,Prod.mk.injEq] at h
    obtain⟨rfl,rfl⟩:=h
    exact⟨i1,by simp⟩
theorem yav{n:Nat}{r:List Tok}{c:zac}{r2:List Tok}(h:zex n r=some (c,r2))(hc:∀ x∈r,yck x):r=clK signs c++r2:=by
 unfold zex at h
 split at h
 ·cases h
 ·rename_i a r3 hq
  have i1:=z9i hq hc
  split at h
  ·rename_i h9
   obtain⟨p,r',rfl,e1,_⟩:=z8o h9 (by decide)
   have hp:p=signs.arrow:=(hc (9,p) (by rw[i1];simp)).arrow rfl
   simp only[List.tail_cons] at h
   split at h
   ·cases h
   ·rename_i b r4 hb
    split at h
    ·rename_i h7
     obtain⟨z,r5,rfl,e2,_⟩:=z8o h7 (by decide)
     obtain⟨j1,j2⟩:=yae n hb (fun u hu=>hc u (by rw[i1];simp[hu]))
     have hz:z=signs.dot:=(hc (7,z) (by rw[i1,j1];simp)).dot rfl
     simp only[Option.some.injEq,Prod.mk.injEq,List.tail_cons] at h
     obtain⟨rfl,rfl⟩:=h
     rw[i1,j1,hp,hz]
     simp[clK,j2]
    ·cases h
  ·split at h
   ·rename_i h7
    obtain⟨z,r5,rfl,e2,_⟩:=z8o h7 (by decide)
    have hz:z=signs.dot:=(hc (7,z) (by rw[i1];simp)).dot rfl
    simp only[Option.some.injEq,Prod.mk.injEq,List.tail_cons] at h
    obtain⟨rfl,rfl⟩:=h
    rw[i1,hz]
    simp[clK]
   ·cases h
theorem yam{n:Nat}:∀(m:Nat) {r:List Tok} {cs:List zac},zeo n m r=some cs->(∀ x∈r,yck x)->r=z8b signs cs
 |m,[],cs,h,_=>by cases m <;> (simp[zeo] at h;subst h;simp[z8b])
 |0,_::_,cs,h,_=>by simp[zeo] at h
 |m+1,x::r,cs,h,hc=>by
  unfold zeo at h
  split at h
  ·cases h
  ·rename_i c r2 hq
   have i1:=yav hq hc
   obtain⟨ds,hd,rfl⟩:=Option.map_eq_some_iff.1 h
   have:=yam m hd (fun u hu=>hc u (by rw[i1];simp[hu]))
   rw[i1,this]
   simp[z8b]
theorem ybj{s:ByteArray}{cs:List zac}{t:List zav}(h:z3q s=.ok (cs,t)):z7y (bl s)=some (z8b signs cs)/\(∀ c∈cs,z8n c)/\s.size<=500:=by
 unfold z3q at h
 split at h
 ·cases h
 ·rename_i h5
  split at h
  ·cases h
  ·rename_i l hl
   split at h
   ·cases h
   ·rename_i ds hd
    have hw:=z9v _ hd (ya3 hl)
    have hcs:ds=cs:=by
     repeat'(split at h)
     all_goals first|(cases h;done)|(simp only[Except.ok.injEq,Prod.mk.injEq] at h;exact h.1)
    subst hcs
    rw[ya2] at hl
    refine⟨?_,hw,by omega⟩
    rw[hl,yam _ hd (z8x _ _ _ (Nat.le_refl _) hl)]
theorem ycp{s:ByteArray}{cs:List zac}{t0 t:List zav}(h5:s.size<=500)(hs:z7y (bl s)=some (z8b signs cs))(hw:∀ c∈cs,z8n c)(h:∀ c∈cs,zed c=false)(hc:zgf cs=some t0)(hsf:∀ c∈cs,ze7 c=true)(hst:zcv (t0.length+1) t0 cs=(t,true)):z3q s=.ok (cs,t):=by
 have hp:zeo (z8b signs cs).length (z8b signs cs).length (z8b signs cs)=some cs:=z9k signs _ _ cs (fun c hc=>⟨(hw c hc).word,(z8q signs cs).2 c hc⟩) (z8q signs cs).1
 have hm:cs.any zed=false:=by
  rw[List.any_eq_false]
  intro c hc
  rw[h c hc]
  simp
 have ha:cs.all ze7=true:=List.all_eq_true.2 hsf
 unfold z3q
 rw[if_neg (by omega),ya2,hs]
 simp only[hp,hm,hc,ha,hst,if_true,Bool.false_eq_true,if_false]
def yc5(c:zac):List Tok:=z8k signs c.head++(if c.body=[] then [] else(9,signs.arrow)::z8v signs c.body)
theorem yco(c:zac):clK signs c=yc5 c++[(7,signs.dot)]:=by simp[clK,yc5]
theorem z9a(c:zac)(cs:List zac):z8b signs (c::cs)=yc5 c++(7,signs.dot)::z8b signs cs:=by simp[z8b,yco]
theorem ya6:∀(xs:List ByteArray),(∀ x∈xs,isT (z9e x)=true)->∀ x∈z9h signs xs,x.1≠7
 |[],_,x,h=>by cases h
 |[y],hw,x,h=>by
  simp only[z9h,List.mem_singleton] at h
  subst h
  intro e
  have:=hw y (by simp)
  rw[show z9e y=7 from e] at this
  cases this
 |y::z::r,hw,x,h=>by
  simp only[z9h,List.mem_cons] at h
  rcases h with rfl|rfl|h
  ·intro e
   have:=hw y (by simp)
   rw[show z9e y=7 from e] at this
   cases this
  ·decide
  ·exact ya6 (z::r) (fun u hu=>hw u (by simp[List.mem_cons.1 hu])) x h
theorem z94{l:zbv}(h:z90 l):∀ x∈z8k signs l,x.1≠7:=by
 intro x hx
 unfold z8k at hx
 rcases List.mem_cons.1 hx with rfl|hx
 ·exact(by decide:(1:Int)≠7)
 ·split at hx
  ·cases hx
  ·rcases List.mem_cons.1 hx with rfl|hx
   ·decide
   ·rcases List.mem_append.1 hx with hx|hx
    ·exact ya6 _ h x hx
    ·simp at hx;subst hx;decide
theorem ybw{l:zbv}(h:z90 l):∀ x∈ybo signs l,x.1≠7:=by
 intro x hx
 unfold ybo at hx
 split at hx
 ·rcases List.mem_cons.1 hx with rfl|hx
  ·decide
  ·exact z94 h x hx
 ·exact z94 h x hx
theorem ya7:∀(b:List zbv),(∀ l∈b,z90 l)->∀ x∈z8v signs b,x.1≠7
 |[],_,x,h=>by cases h
 |[l],hw,x,h=>ybw (hw l (by simp)) x h
 |l::m::r,hw,x,h=>by
  simp only[z8v,List.mem_append,List.mem_cons] at h
  rcases h with h|rfl|h
  ·exact ybw (hw l (by simp)) x h
  ·decide
  ·exact ya7 (m::r) (fun u hu=>hw u (by simp[List.mem_cons.1 hu])) x h
theorem ycy{c:zac}(h:yb8 c):∀ x∈yc5 c,x.1≠7:=by
 intro x hx
 unfold yc5 at hx
 rcases List.mem_append.1 hx with hx|hx
 ·exact z94 h.2.1 x hx
 ·split at hx
  ·cases hx
  ·rcases List.mem_cons.1 hx with rfl|hx
   ·decide
   ·exact ya7 _ h.2.2 x hx
theorem yaa{l:List UInt8}{ts:List Tok}(h:RdF l ts):z7y l=some ts:=by
 have:=h []
 simpa [z8t] using this
theorem yc6{s:ByteArray}{cs:List zac}(h5:s.size<=500)(hs:z7y (bl s)=some (z8b signs cs))(hw:∀ c∈cs,z8n c):prW cs<=500:=by
 have hp:zeo (z8b signs cs).length (z8b signs cs).length (z8b signs cs)=some cs:=z9k signs _ _ cs (fun c hc=>⟨(hw c hc).word,(z8q signs cs).2 c hc⟩) (z8q signs cs).1
 have h1:=zvg hp
 rw[← ya2] at hs
 have h2:=zp4 hs
 omega
theorem yac:∀(l:List UInt8),z7y l=some []->RdF l []
 |[],_=>RdF.nil
 |a::l,h=>by
  rw[z8d] at h
  split at h
  ·rename_i hb
   exact(ycf hb).rdf.app (l:=[a]) (yac l h)
  ·split at h
   ·cases h
   ·split at h
    ·cases h
    ·obtain⟨us,_,e⟩:=Option.map_eq_some_iff.1 h
     cases e
theorem z99:∀(l acc:List UInt8) (cs:List zac),(46:UInt8)∉acc->z7y (acc++l)=some (z8b signs cs)->(∀ c∈cs,z8n c)->RdF (acc++l) (z8b signs cs)
 |[],acc,cs,ha,hs,_=>by
  rw[List.append_nil] at hs ⊢
  cases cs with
  |nil=>exact yac acc hs
  |cons c cs =>
   exfalso
   apply ha
   rw[z95 _ _ _ (Nat.le_refl _) hs]
   exact⟨(7,signs.dot),by rw[z9a];simp,rfl⟩
 |b::l,acc,cs,ha,hs,hw=>by
  by_cases hb:b=46
  ·subst hb
   have h1:bLD (hdB (46::l))=false:=by simp[hdB,byt,bLD,zru,z5j,zun]
   have h2:hdB (46::l)≠45:=by simp[hdB,byt]
   rw[z8s _ acc (46::l) (Nat.le_refl _) h1 h2,z9w] at hs
   cases hT:z7y acc with
   |none=>rw[hT] at hs;cases hs
   |some T =>
    rw[hT,Option.bind_some] at hs
    cases hR:z7y l with
    |none=>rw[hR] at hs;cases hs
    |some R =>
     rw[hR] at hs
     simp only[Option.map_some,Option.some.injEq] at hs
     cases cs with
     |nil=>simp[z8b] at hs
     |cons c cs =>
      rw[z9a] at hs
      have hno:∀ x∈T,x.1≠7:=fun x hx e=>ha ((z95 _ _ _ (Nat.le_refl _) hT).2 ⟨x,hx,e⟩)
      obtain⟨e1,e2⟩:=ycr hno (ycy (hw c (by simp)).word) rfl rfl hs
      subst e1 e2
      have ih:=z99 l [] cs (by simp) (by simpa using hR) (fun d hd=>hw d (by simp[hd]))
      have h3:=(RdF.dot hT).app ih
      have e3:acc++46::l=(acc++[46])++([]++l):=by simp
      have e4:z8b signs (c::cs)=(yc5 c++[(7,signs.dot)])++z8b signs cs:=by rw[z9a];simp
      rw[e3,e4]
      exact h3
  ·have e3:acc++b::l=(acc++[b])++l:=by simp
   rw[e3] at hs ⊢
   exact z99 l (acc++[b]) cs (by simp[ha,Ne.symm hb]) hs hw
set_option maxRecDepth 100000
set_option maxHeartbeats 2000000
open Go.RowKit
def z8w(c:Int)(n:Nat):Nat:=if c < 0 then(-(c+1)).toNat % n else c.toNat % n
theorem ybe(c:Int){n:Nat}(hn:0 < n):z8w c n < n:=by unfold z8w;split <;> exact Nat.mod_lt _ hn
theorem yak(w:World)(c:Int)(n:Nat)(hn:0 < n)(hn2:n<=281474976710656)(hc:-9223372036854775808<=c/\c<=9223372036854775807) :
  Calls Tryz.prog 14 #[.int .i64 c,.int .i64 n] w fun e w'=>e=.returned (.int .i64 (z8w c n:Nat))/\w'=w:=by
 obtain⟨hc1,hc2⟩:=hc
 by_cases h0:c < 0
 ·have e:-(c+1).tmod (n:Int)=((z8w c n:Nat):Int):=by
   unfold z8w
   rw[if_pos h0,← Int.neg_tmod,Int.tmod_eq_emod_of_nonneg (by omega),Int.natCast_emod,Int.toNat_of_nonneg (by omega)]
  have HE:Hid (-(c+1).tmod (n:Int)=((z8w c n:Nat):Int)):=e
  clear e
  generalize z8w c n=pk at *
  go_enter Tryz.func14,Tryz.ntmps14
  go_wp2
  exact bodyPost_ret (v:=.int .i64 (-(c+1).tmod (n:Int))) (by simp[results,Tryz.results14,go_sem]) rfl ⟨by rw[HE.out],rfl⟩
 ·have e:c % (n:Int)=((z8w c n:Nat):Int):=by unfold z8w;rw[if_neg h0,Int.natCast_emod,Int.toNat_of_nonneg (by omega)]
  have HE:Hid (c % (n:Int)=((z8w c n:Nat):Int)):=e
  clear e
  generalize z8w c n=pk at *
  go_enter Tryz.func14,Tryz.ntmps14
  go_wp2
  exact bodyPost_ret (v:=.int .i64 (c % (n:Int))) (by simp[results,Tryz.results14,go_sem]) rfl ⟨by rw[HE.out],rfl⟩
def z8j(n:Nat):ByteArray:=⟨#[UInt8.ofNat (48+n / 10),UInt8.ofNat (48+n % 10)]⟩
theorem yah(n:Nat):(z8j n).size=2:=rfl
theorem ybk(w:World)(n:Nat)(hn:n < 100) :
  Calls Tryz.prog 29 #[.int .i64 n] w fun e w'=>e=.returned (.string (z8j n))/\Below w.heap.size w w':=by
 have e1:(n:Int).tdiv 10=((n / 10:Nat):Int):=by rw[Int.tdiv_eq_ediv_of_nonneg (by omega)];omega
 have e2:(n:Int).tmod 10=((n % 10:Nat):Int):=by rw[Int.tmod_eq_emod_of_nonneg (by omega)];omega
 have hx:n / 10<=9:=by omega
 have hy:n % 10<=9:=by omega
 have HD:Hid (z8j n=⟨#[UInt8.ofNat (48+n / 10),UInt8.ofNat (48+n % 10)]⟩):=show z8j n=_ from rfl
 generalize z8j n=s at *
 generalize n / 10=x at *
 generalize n % 10=y at *
 have HC:Hid (∀ j (hj:j < (⟨#[UInt8.ofNat (48+x),UInt8.ofNat (48+y)]⟩:ByteArray).data.size),(w.alloc (.cells #[.int .u8 (48+(x:Int)),.int .u8 (48+(y:Int))] 5)).cell? ⟨w.heap.size,j,none⟩=some (.int .u8 ((⟨#[UInt8.ofNat (48+x),UInt8.ofNat (48+y)]⟩:ByteArray).data[j].toNat:Int))):=by
  intro j hj
  have hq:=(Box.new w #[.int .u8 (48+(x:Int)),.int .u8 (48+(y:Int))] 5).rules.1 j
  rw[hq]
  have hj2:j=0∨j=1:=by simp at hj;omega
  rcases hj2 with rfl|rfl
  ·have:(48+x) % 256=48+x:=by omega
   simp[UInt8.toNat_ofNat',this]
  ·have:(48+y) % 256=48+y:=by omega
   simp[UInt8.toNat_ofNat',this]
 go_enter Tryz.func29,Tryz.ntmps29
 go_wp2_with (first|(refine zme _ rfl (.tmp 11) 119 9 5 rfl Tryz.underlying119 Tryz.underlying5 Tryz.underlying9 ⟨#[UInt8.ofNat (48+x),UInt8.ofNat (48+y)]⟩ _ _ rfl ?_ ?_;(first|exact HC.out|fail)))
 go_ret
 exact⟨by rw[HD.out];simp[UInt8.ofNat_add],(by repeat'(first|with_reducible(first|exact zR _ _|assumption|refine zN ?_ _|refine zA ?_ ?_ _|refine zD ?_|refine zS ?_ ?_ _)|go_size))⟩
def bPp:ByteArray:=⟨#[112]⟩
def vX:ByteArray:=⟨#[88]⟩
def z9g(n:Nat):List ByteArray:=(List.range (n+1)).map z8j
theorem ybr{n i:Nat}(h:i<=n):(z9g n).getD i ByteArray.empty=z8j i:=by
 unfold z9g
 simp[List.getD,show i < n+1 by omega]
end Go.Proofs.YteampbddflhngabGreat
namespace Go.Proofs.YteampbddflhngabGreat
open Classical
theorem z8r(rs:List zaf)(k:Nat)(D:DB)(p:Nat)(x:zaq):InD (zgu rs k D) p x↔InD D p x∨zue rs D p x:=by
 unfold InD zgu
 cases D p x with
 |some m=>simp
 |none =>
  by_cases h:zue rs D p x <;> simp[h]
theorem z9n(rules:List zaf)(mr mx:Nat):∀(n s k:Nat) (D:DB),(∀ s',s<=s'->(rules.filter fun r=>decide (r.stratum=s'))=[])->zeq rules mr mx n s k D=some (D,k)
 |0,_,_,_,_=>rfl
 |n+1,s,k,D,h=>by
  unfold zeq
  rw[if_pos (h s (Nat.le_refl _))]
  exact z9n rules mr mx n (s+1) k D fun s' hs=>h s' (by omega)
theorem z9m{D:DB}{U:List (Nat × zaq)}{mr:Nat}(h:∀ p x,InD D p x->(p,x)∈U)(hl:U.length<=mr):zqg D mr:=by
 have:∀ V:List (Nat × zaq),∃ l:List (Nat × zaq),l.Nodup/\(∀ u,u∈l↔u∈V/\InD D u.1 u.2)/\l.length<=V.length:=by
  intro V
  induction V with
  |nil=>exact⟨[],List.nodup_nil,by simp,Nat.le_refl _⟩
  |cons v V ih =>
   obtain⟨l,l1,l2,l3⟩:=ih
   by_cases q:InD D v.1 v.2/\v∉V
   ·refine⟨v::l,List.nodup_cons.2 ⟨fun m=>q.2 ((l2 v).1 m).1,l1⟩,fun u=>?_,by simp;omega⟩
    rw[List.mem_cons,List.mem_cons,l2]
    constructor
    ·rintro(rfl|⟨a,b⟩)
     ·exact⟨Or.inl rfl,q.1⟩
     ·exact⟨Or.inr a,b⟩
    ·rintro⟨rfl|a,b⟩
     ·exact Or.inl rfl
     ·exact Or.inr ⟨a,b⟩
   ·refine⟨l,l1,fun u=>?_,by simp;omega⟩
    rw[l2,List.mem_cons]
    constructor
    ·rintro⟨a,b⟩
     exact⟨Or.inr a,b⟩
    ·rintro⟨rfl|a,b⟩
     ·have:u∈V:=by
       false_or_by_contra
       rename_i hn
       exact q ⟨b,hn⟩
      exact⟨this,b⟩
     ·exact⟨a,b⟩
 obtain⟨l,l1,l2,l3⟩:=this U
 exact⟨l.length,by omega,l,l1,fun p x=>⟨fun m=>((l2 _).1 m).2,fun q=>(l2 _).2 ⟨h p x q,q⟩⟩,rfl⟩
theorem yc7{c:Prop}[Decidable c]{m:Nat}:(if c then some m else none:Option Nat).isSome=true↔c:=by by_cases h:c <;> simp[h]
theorem z9u{α:Type}{P Q:α->Prop}[DecidablePred P][DecidablePred Q](hs:∀ u,Q u->P u):∀ {U:List α} {u:α},u∈U->P u->¬ Q u->(U.filter fun v=>decide (Q v)).length < (U.filter fun v=>decide (P v)).length
 |[],_,h,_,_=>by cases h
 |a::U,u,h,hp,hq=>by
  have hle:∀ V:List α,(V.filter fun v=>decide (Q v)).length<=(V.filter fun v=>decide (P v)).length:=by
   intro V
   induction V with
   |nil=>simp
   |cons b V ih =>
    rw[List.filter_cons,List.filter_cons]
    by_cases q:Q b
    ·simp[q,hs b q];exact ih
    ·by_cases p:P b
     ·simp[q,p];omega
     ·simp[q,p];exact ih
  rw[List.filter_cons,List.filter_cons]
  rcases List.mem_cons.1 h with rfl|h
  ·have:=hle U
   simp[hp,hq];omega
  ·have ih:=z9u hs h hp hq
   by_cases q:Q a
   ·simp[q,hs a q];exact ih
   ·by_cases p:P a
    ·simp[q,p];omega
    ·simp[q,p];exact ih
theorem z9d{rs:List zaf}{U:List (Nat × zaq)}{mr:Nat}(hU:U.length<=mr)(hcl:∀ D:DB,(∀ p x,InD D p x->(p,x)∈U)->∀ p x,zue rs D p x->(p,x)∈U):∀(left k:Nat) (D:DB),(∀ p x,InD D p x->(p,x)∈U)->(U.filter fun u=>decide (¬ InD D u.1 u.2)).length < left->∃ E e,zd1 rs mr left k D=some (E,e)/\(∀ p x,InD D p x->InD E p x)/\(∀ p x,InD E p x->(p,x)∈U)/\∀ p x,zue rs E p x->InD E p x
 |0,_,_,_,h=>by omega
 |left+1,k,D,hD,h=>by
  have hR:∀ p x,InD (zgu rs (k+1) D) p x->(p,x)∈U:=fun p x q=>by
   rcases(z8r _ _ _ _ _).1 q with q|q
   ·exact hD p x q
   ·exact hcl D hD p x q
  unfold zd1
  rw[if_pos (z9m hR hU)]
  by_cases hs:∀ p x,InD (zgu rs (k+1) D) p x->InD D p x
  ·rw[if_pos hs]
   refine⟨_,_,rfl,fun p x q=>(z8r _ _ _ _ _).2 (Or.inl q),hR,fun p x q=>?_⟩
   have e:zgu rs (k+1) D=D:=by
    funext p x
    unfold zgu
    cases hq:D p x with
    |some m=>rfl
    |none =>
     have:¬ zue rs D p x:=fun z=>by
      have:=hs p x ((z8r _ _ _ _ _).2 (Or.inr z))
      unfold InD at this
      rw[hq] at this
      cases this
     simp[this]
   rw[e] at q
   exact(z8r _ _ _ _ _).2 (Or.inr q)
  ·rw[if_neg hs]
   have:∃ p x,InD (zgu rs (k+1) D) p x/\¬ InD D p x:=by
    false_or_by_contra
    rename_i hn
    exact hs fun p x q=>by
     false_or_by_contra
     rename_i hn2
     exact hn ⟨p,x,q,hn2⟩
   obtain⟨p,x,q1,q2⟩:=this
   have hlt:=z9u (P:=fun u:Nat × zaq=>¬ InD D u.1 u.2) (Q:=fun u=>¬ InD (zgu rs (k+1) D) u.1 u.2) (fun u hu q=>hu ((z8r _ _ _ _ _).2 (Or.inl q))) (hR p x q1) q2 (fun q=>q q1)
   obtain⟨E,e,e1,e2,e3,e4⟩:=z9d hU hcl left (k+1) (zgu rs (k+1) D) hR (by omega)
   exact⟨E,e,e1,fun p x q=>e2 p x ((z8r _ _ _ _ _).2 (Or.inl q)),e3,e4⟩
theorem ybd:∀ {a b:zaq},ltR a b->¬ ltR b a
 |[],_,h=>by cases h
 |_::_,[],h=>by cases h
 |x::a,y::b,h=>by
  intro k
  rcases h with h|⟨rfl,h⟩
  ·rcases k with k|⟨e,_⟩
   ·omega
   ·omega
  ·rcases k with k|⟨_,k⟩
   ·omega
   ·exact ybd h k
theorem z8u{α:Type}{lt:α->α->Prop}(asym:∀ a b,lt a b->¬ lt b a):∀ {l m:List α},l.Pairwise lt->m.Pairwise lt->(∀ x,x∈l↔x∈m)->l=m
 |[],[],_,_,_=>rfl
 |[],y::m,_,_,h=>by have:=(h y).2 (by simp);cases this
 |x::l,[],_,_,h=>by have:=(h x).1 (by simp);cases this
 |x::l,y::m,hl,hm,h=>by
  obtain⟨l1,l2⟩:=List.pairwise_cons.1 hl
  obtain⟨m1,m2⟩:=List.pairwise_cons.1 hm
  have e:x=y:=by
   rcases List.mem_cons.1 ((h x).1 (by simp)) with e|e
   ·exact e
   ·rcases List.mem_cons.1 ((h y).2 (by simp)) with k|k
    ·exact k.symm
    ·exact absurd (l1 y k) (asym _ _ (m1 x e))
  subst e
  have hne:∀ z∈l,z≠x:=fun z hz q=>by subst q;exact asym _ _ (l1 z hz) (l1 z hz)
  have hne2:∀ z∈m,z≠x:=fun z hz q=>by subst q;exact asym _ _ (m1 z hz) (m1 z hz)
  rw[z8u asym l2 m2 fun z=>?_]
  constructor
  ·intro hz
   exact(List.mem_cons.1 ((h z).1 (by simp[hz]))).resolve_left (hne z hz)
  ·intro hz
   exact(List.mem_cons.1 ((h z).2 (by simp[hz]))).resolve_left (hne2 z hz)
theorem yb1:∀ {a b:zaq} (x y:zaq),ltR a b->ltR (a++x) (b++y)
 |[],_,_,_,h=>by cases h
 |_::_,[],_,_,h=>by cases h
 |u::a,v::b,x,y,h=>by
  rcases h with h|⟨rfl,h⟩
  ·exact Or.inl h
  ·exact Or.inr ⟨rfl,yb1 x y h⟩
theorem yao(R:zbt)(p:Nat):(z4t R p).Pairwise ltR:=by
 unfold z4t
 rw[List.pairwise_map]
 refine(zlz (R.rows.getD p zad.zero) _ 0 0).imp ?_
 intro a b h
 unfold pad
 exact yb1 _ _ h
theorem yb5{t:List zav}{ns:List ByteArray}{R:zbt}(h:Told t ns R){p:Nat}(hp:p < t.length)(r:zaq):r∈z4t R p↔InD (zdb (t.map (·.arity)) R) p r:=by
 have hpr:p < R.rows.length:=by rw[h.len];exact hp
 have:=zmo h.inv h.small hpr r
 unfold z4t
 rw[getD_lt _ hpr]
 exact this
end Go.Proofs.YteampbddflhngabGreat
