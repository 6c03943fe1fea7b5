import Derived.Test.YteampbddflhngabGreatZCPx5
import Derived.Test.YteampbddflhngabGreatZ43
import Derived.Test.YteampbddflhngabGreatZ42
import Derived.Test.YteampbddflhngabGreatZ07

namespace Go.Proofs.YteampbddflhngabGreat
theorem z9u{a:UInt8}{c:Int}{l:List UInt8}(_h:zib (byt a) c≠0):1<=z9i (a::l) (zib (byt a) c):=by
 unfold z9i
 generalize hK:zib (byt a) c=k at *
 unfold zib at hK
 split
 ·omega
 ·split
  ·rename_i h12
   have:bLD (byt a)=true:=by
    split at hK
    ·rename_i q;simp[bLD,q]
    ·split at hK
     ·rename_i q;simp[bLD,q]
     ·split at hK
      ·omega
      ·split at hK
       ·omega
       ·unfold z4c at hK;split at hK <;> (try split at hK) <;> (try split at hK) <;> (try split at hK) <;> (try split at hK) <;> omega
   rw[List.takeWhile_cons,if_pos this]
   simp
  ·split
   ·rename_i h3
    have:zu3 (byt a)=true:=by
     split at hK
     ·omega
     ·split at hK
      ·omega
      ·split at hK
       ·assumption
       ·split at hK
        ·omega
        ·unfold z4c at hK;split at hK <;> (try split at hK) <;> (try split at hK) <;> (try split at hK) <;> (try split at hK) <;> omega
    rw[List.takeWhile_cons,if_pos this]
    simp
   ·omega
def z88(l:List UInt8):Option (List Tok):=z9c l.length l
theorem z9l:∀(m:Nat) (l:List UInt8),l.length<=m->∀ n,l.length<=n->z9c n l=z9c l.length l
 |_,[],_,n,_=>by cases n <;> rfl
 |0,_::_,h,_,_=>by simp at h
 |m+1,a::l,h,n,hn=>by
  cases n with
  |zero=>simp at hn
  |succ n =>
   simp only[List.length_cons] at h hn ⊢
   unfold z9c
   rw[z9l m l (by omega) n (by omega)]
   split
   ·rfl
   ·split
    ·rfl
    ·rename_i hk
     split
     ·rfl
     ·have hp:=z9u (l:=l) hk
      have hd:((a::l).drop (z9i (a::l) (zib (byt a) (hdB l)))).length<=l.length:=by rw[List.length_drop];simp;omega
      rw[z9l m _ (by omega) n (by omega),z9l m ((a::l).drop (z9i (a::l) (zib (byt a) (hdB l)))) (by omega) l.length hd]
theorem z9g(a:UInt8)(l:List UInt8):z88 (a::l)=if zl7 (byt a) then z88 l else if zib (byt a) (hdB l)=0 then none else if 6 < z9i (a::l) (zib (byt a) (hdB l)) then none else(z88 ((a::l).drop (z9i (a::l) (zib (byt a) (hdB l))))).map ((zib (byt a) (hdB l),(⟨((a::l).take (z9i (a::l) (zib (byt a) (hdB l)))).toArray⟩:ByteArray))::·):=by
 show z9c (l.length+1) (a::l)=_
 unfold z9c
 split
 ·rfl
 ·split
  ·rfl
  ·rename_i hk
   split
   ·rfl
   ·have hp:=z9u (l:=l) hk
    have hd:((a::l).drop (z9i (a::l) (zib (byt a) (hdB l)))).length<=l.length:=by rw[List.length_drop];simp;omega
    rw[z9l _ _ (Nat.le_refl _) l.length hd]
    rfl
theorem z94:z88 []=some []:=rfl
theorem ycf(s:ByteArray):splitB s=z88 (bl s):=by
 have hsz:s.data.toList.length=s.size:=by rw[Array.length_toList];rfl
 unfold splitB z88 bl
 rw[ybc,List.drop_zero,hsz]
theorem ydd{a:UInt8}{l r:List UInt8}(h45:hdB r≠45):zib (byt a) (hdB (l++r))=zib (byt a) (hdB l):=by
 cases l with
 |cons b l=>rfl
 |nil =>
  show zib (byt a) (hdB r)=zib (byt a) 0
  unfold zib
  rw[if_neg (show ¬ (byt a=58/\hdB r=45) from fun q=>h45 q.2),if_neg (show ¬ (byt a=58/\(0:Int)=45) from fun q=>by omega)]
theorem ya3{p:UInt8->Bool}:∀(l r:List UInt8),(∀ b q,r=b::q->p b=false)->((l++r).takeWhile p).length=(l.takeWhile p).length
 |[],[],_=>rfl
 |[],b::r,h=>by simp[h b r rfl]
 |a::l,r,h=>by
  rw[List.cons_append,List.takeWhile_cons,List.takeWhile_cons]
  split
  ·simp only[List.length_cons];rw[ya3 l r h]
  ·rfl
theorem yef{a:UInt8}{l r:List UInt8}{k:Int}(hr:bLD (hdB r)=false):z9i (a::(l++r)) k=z9i (a::l) k:=by
 have hd:zu3 (hdB r)=false:=by simp only[bLD,Bool.or_eq_false_iff] at hr;exact hr.2
 unfold z9i
 split
 ·rfl
 ·split
  ·rw[← List.cons_append];exact ya3 _ r fun b q e=>by subst e;exact hr
  ·split
   ·rw[← List.cons_append];exact ya3 _ r fun b q e=>by subst e;exact hd
   ·rfl
theorem yer{a:UInt8}{l:List UInt8}:zib (byt a) (hdB l)≠0->z9i (a::l) (zib (byt a) (hdB l))<=(a::l).length:=by
 intro h
 have htw:∀(p:UInt8->Bool) (x:List UInt8),(x.takeWhile p).length<=x.length:=fun p x=>(List.takeWhile_sublist p).length_le
 unfold z9i
 split
 ·rename_i h9
  cases l with
  |nil =>
   exfalso
   unfold zib at h9
   split at h9
   ·omega
   ·split at h9
    ·omega
    ·split at h9
     ·omega
     ·rw[if_neg (by rintro⟨_,q⟩;cases q)] at h9
      unfold z4c at h9
      split at h9 <;> (try split at h9) <;> (try split at h9) <;> (try split at h9) <;> (try split at h9) <;> omega
  |cons b l=>simp
 ·split
  ·exact htw _ _
  ·split
   ·exact htw _ _
   ·simp
theorem z92:∀(m:Nat) (l r:List UInt8),l.length<=m->bLD (hdB r)=false->hdB r≠45->z88 (l++r)=(z88 l).bind fun T=>(z88 r).map (T++·)
 |_,[],r,_,_,_=>by
  simp only[List.nil_append,z94,Option.bind_some]
  cases z88 r <;> simp
 |0,_::_,_,h,_,_=>by simp at h
 |m+1,a::l,r,h,hr,h45=>by
  simp only[List.length_cons] at h
  rw[List.cons_append,z9g,z9g,ydd h45,yef hr]
  split
  ·exact z92 m l r (by omega) hr h45
  ·split
   ·rfl
   ·rename_i hk
    split
    ·rfl
    ·have hp:=z9u (l:=l) hk
     have hle:=yer hk
     have hd:((a::l).drop (z9i (a::l) (zib (byt a) (hdB l)))).length<=m:=by rw[List.length_drop];simp;omega
     rw[← List.cons_append,List.drop_append_of_le_length hle,List.take_append_of_le_length hle,z92 m _ r hd hr h45]
     cases z88 ((a::l).drop (z9i (a::l) (zib (byt a) (hdB l)))) with
     |none=>rfl
     |some T =>
      simp only[Option.bind_some,Option.map_some]
      cases z88 r <;> simp
def RdF(l:List UInt8)(ts:List Tok):Prop:=∀ r,z88 (l++r)=(z88 r).map (ts++·)
theorem RdF.app{l l':List UInt8}{ts ts':List Tok}(h:RdF l ts)(k:RdF l' ts'):RdF (l++l') (ts++ts'):=by
 intro r
 rw[List.append_assoc,h,k,ycc]
theorem RdF.nil:RdF [] []:=fun r=>by cases h:z88 r <;> simp[h]
theorem ybb(r:List UInt8):z88 (46::r)=(z88 r).map ((7,signs.dot)::·):=by
 rw[z9g,if_neg (by decide)]
 have hk:zib (byt 46) (hdB r)=7:=by unfold zib;simp[byt,zr6,z6j,zu3,z4c]
 rw[hk]
 have hl:z9i (46::r) 7=1:=rfl
 rw[hl]
 rfl
theorem RdF.dot{l:List UInt8}{ts:List Tok}(h:z88 l=some ts):RdF (l++[46]) (ts++[(7,signs.dot)]):=by
 intro r
 have h1:bLD (hdB (46::r))=false:=by simp[hdB,byt,bLD,zr6,z6j,zu3]
 have h2:hdB (46::r)≠45:=by simp[hdB,byt]
 rw[List.append_assoc,List.cons_append,List.nil_append,z92 _ l (46::r) (Nat.le_refl _) h1 h2,h,Option.bind_some,ybb]
 cases z88 r <;> simp
theorem RdA.rdf{l:List UInt8}{ts:List Tok}(h:RdA l ts):RdF l ts:=by
 obtain⟨m,h1,h2⟩:=h
 intro r
 have:=h2 ((l++r).length - m) r
 rw[show(l++r).length - m+m=(l++r).length by simp;omega] at this
 unfold z88
 rw[this,z9l _ r (Nat.le_refl _) _ (by simp;omega)]
theorem ybi:∀(m:Nat) (l:List UInt8) (ts:List Tok),l.length<=m->z88 l=some ts->((46:UInt8)∈l↔∃ x∈ts,x.1=7)
 |_,[],ts,_,h=>by simp[z94] at h;subst h;simp
 |0,_::_,_,h,_=>by simp at h
 |m+1,a::l,ts,h,hs=>by
  simp only[List.length_cons] at h
  rw[z9g] at hs
  split at hs
  ·rename_i hb
   rw[List.mem_cons,ybi m l ts (by omega) hs]
   refine⟨fun q=>q.resolve_left fun e=>?_,Or.inr⟩
   subst e
   simp[zl7,byt] at hb
  ·split at hs
   ·cases hs
   ·rename_i hk
    split at hs
    ·cases hs
    ·obtain⟨us,hu,rfl⟩:=Option.map_eq_some_iff.1 hs
     have hp:=z9u (l:=l) hk
     have hd:((a::l).drop (z9i (a::l) (zib (byt a) (hdB l)))).length<=m:=by rw[List.length_drop];simp;omega
     have ih:=ybi m _ us hd hu
     have hmem:(46:UInt8)∈a::l↔(46:UInt8)∈(a::l).take (z9i (a::l) (zib (byt a) (hdB l)))∨(46:UInt8)∈(a::l).drop (z9i (a::l) (zib (byt a) (hdB l))):=by
      rw[← List.mem_append,List.take_append_drop]
     rw[hmem,ih]
     have hone:(46:UInt8)∈(a::l).take (z9i (a::l) (zib (byt a) (hdB l)))↔zib (byt a) (hdB l)=7:=by
      generalize hK:zib (byt a) (hdB l)=k at *
      unfold zib at hK
      have hld:∀ b:UInt8,bLD (byt b)=true->b≠46:=by
       rintro b hb rfl
       revert hb
       decide
      have hdg:∀ b:UInt8,zu3 (byt b)=true->b≠46:=by
       rintro b hb rfl
       revert hb
       decide
      split at hK
      ·subst hK
       rw[show z9i (a::l) 1=((a::l).takeWhile fun b=>bLD (byt b)).length from rfl,z9j]
       exact⟨fun q=>absurd rfl (hld _ (z9k (p:=fun b=>bLD (byt b)) q)),fun q=>by cases q⟩
      ·split at hK
       ·subst hK
        rw[show z9i (a::l) 2=((a::l).takeWhile fun b=>bLD (byt b)).length from rfl,z9j]
        exact⟨fun q=>absurd rfl (hld _ (z9k (p:=fun b=>bLD (byt b)) q)),fun q=>by cases q⟩
       ·split at hK
        ·subst hK
         rw[show z9i (a::l) 3=((a::l).takeWhile fun b=>zu3 (byt b)).length from rfl,z9j]
         exact⟨fun q=>absurd rfl (hdg _ (z9k (p:=fun b=>zu3 (byt b)) q)),fun q=>by cases q⟩
        ·split at hK
         ·rename_i h58
          subst hK
          rw[show z9i (a::l) 9=2 from rfl]
          cases l with
          |nil=>exact absurd h58.2 (by decide)
          |cons b l =>
           have hb:byt b=45:=h58.2
           refine⟨fun q=>?_,fun q=>by cases q⟩
           simp only[List.take_succ_cons,List.take_zero,List.mem_cons,List.not_mem_nil,or_false] at q
           rcases q with rfl|rfl
           ·exact absurd h58.1 (by decide)
           ·exact absurd hb (by decide)
         ·have h1:z9i (a::l) k=1:=by
           unfold z9i
           have:k≠9/\k≠1/\k≠2/\k≠3:=by
            unfold z4c at hK
            split at hK <;> (try split at hK) <;> (try split at hK) <;> (try split at hK) <;> (try split at hK) <;> omega
           rw[if_neg this.1,if_neg (by omega),if_neg this.2.2.2]
          rw[h1]
          simp only[List.take_succ_cons,List.take_zero,List.mem_cons,List.not_mem_nil,or_false]
          constructor
          ·rintro rfl
           rw[← hK]
           decide
          ·intro e
           subst e
           unfold z4c at hK
           split at hK
           ·omega
           ·split at hK
            ·omega
            ·split at hK
             ·omega
             ·split at hK
              ·rename_i q
               unfold byt at q
               apply UInt8.toNat_inj.1
               show 46=a.toNat
               omega
              ·split at hK <;> omega
     rw[hone]
     simp
theorem yed{T T' R R':List Tok}(h:∀ x∈T,x.1≠7)(h':∀ x∈T',x.1≠7){d d':Tok}(hd:d.1=7)(hd':d'.1=7)(e:T++d::R=T'++d'::R'):T=T'/\R=R':=by
 induction T generalizing T' with
 |nil =>
  cases T' with
  |nil=>simp at e;exact⟨rfl,e.2⟩
  |cons x T' =>
   simp only[List.nil_append,List.cons_append,List.cons.injEq] at e
   exact absurd (by rw[← e.1];exact hd) (h' x (by simp))
 |cons x T ih =>
  cases T' with
  |nil =>
   simp only[List.nil_append,List.cons_append,List.cons.injEq] at e
   exact absurd (by rw[e.1];exact hd') (h x (by simp))
  |cons y T' =>
   simp only[List.cons_append,List.cons.injEq] at e
   obtain⟨i1,i2⟩:=ih (fun z hz=>h z (by simp[hz])) (fun z hz=>h' z (by simp[hz])) e.2
   exact⟨by rw[e.1,i1],i2⟩
theorem yam.word{l:zbz}(h:yam l):ybf l:=fun x hx=>yd4 (h.2 x hx)
theorem z9s.word{c:zab}(h:z9s c):ydp c:=⟨h.1,h.2.1.word,fun l hl=>(h.2.2 l hl).word⟩
theorem ycp(S:z9r)(l:zbz):1<=(yc1 S l).length:=by
 unfold yc1 z9m
 split <;> simp
theorem ybs(S:z9r):∀ b:List zbz,b.length<=(z96 S b).length
 |[]=>by simp
 |[l]=>by have:=ycp S l;simp[z96];exact this
 |l::m::r=>by
  have ih:=ybs S (m::r)
  have:=ycp S l
  simp only[z96,List.length_append,List.length_cons] at ih ⊢
  omega
theorem yd9(S:z9r)(c:zab):c.body.length+1<=(clK S c).length:=by
 have:=ybs S c.body
 unfold clK
 by_cases hb:c.body=[]
 ·simp[hb]
 ·simp only[if_neg hb,List.length_append,List.length_cons,List.length_nil]
  omega
theorem z9v(S:z9r):∀ cs:List zab,cs.length<=(z9b S cs).length/\∀ c∈cs,c.body.length<=(z9b S cs).length
 |[]=>⟨by simp,fun c h=>by cases h⟩
 |c::cs=>by
  obtain⟨i1,i2⟩:=z9v S cs
  have hc:=yd9 S c
  have e:(z9b S (c::cs)).length=(clK S c).length+(z9b S cs).length:=by simp[z9b]
  refine⟨by rw[e];simp;omega,fun d hd=>?_⟩
  rw[e]
  rcases List.mem_cons.1 hd with rfl|hd
  ·omega
  ·have:=i2 d hd;omega
structure yd8 (x:Tok):Prop where
 word:isT x.1=true->x.1=yap x.2
 op:x.1=4->x.2=signs.op
 shut:x.1=5->x.2=signs.shut
 comma:x.1=6->x.2=signs.comma
 dot:x.1=7->x.2=signs.dot
 bang:x.1=8->x.2=signs.bang
 arrow:x.1=9->x.2=signs.arrow
theorem one_byte{a:UInt8}{n:Nat}(h:byt a=(n:Int))(hn:n < 256):a=UInt8.ofNat n:=by
 apply UInt8.toNat_inj.1
 unfold byt at h
 rw[UInt8.toNat_ofNat',Nat.mod_eq_of_lt (by simpa using hn)]
 omega
theorem z98:∀(m:Nat) (l:List UInt8) (ts:List Tok),l.length<=m->z88 l=some ts->∀ x∈ts,yd8 x
 |_,[],ts,_,h,x,hx=>by simp[z94] at h;subst h;cases hx
 |0,_::_,_,h,_,_,_=>by simp at h
 |m+1,a::l,ts,h,hs,x,hx=>by
  simp only[List.length_cons] at h
  rw[z9g] at hs
  split at hs
  ·exact z98 m l ts (by omega) hs x hx
  ·split at hs
   ·cases hs
   ·rename_i hk
    split at hs
    ·cases hs
    ·obtain⟨us,hu,rfl⟩:=Option.map_eq_some_iff.1 hs
     have hp:=z9u (l:=l) hk
     have hd:((a::l).drop (z9i (a::l) (zib (byt a) (hdB l)))).length<=m:=by rw[List.length_drop];simp;omega
     rcases List.mem_cons.1 hx with rfl|hx
     ·clear hs hu hd hx
      have hword:isT (zib (byt a) (hdB l))=true->∀ c,zib (byt a) c=zib (byt a) (hdB l):=by
       intro ht c
       unfold zib at ht ⊢
       split
       ·rfl
       ·split
        ·rfl
        ·split
         ·rfl
         ·rename_i q1 q2 q3
          rw[if_neg q1,if_neg q2,if_neg q3] at ht
          split at ht
          ·simp[isT] at ht
          ·unfold z4c at ht
           (repeat' split at ht) <;> simp[isT] at ht
      have hsg:∀ k:Int,zib (byt a) (hdB l)=k->k≠0->k≠1->k≠2->k≠3->k≠9->(⟨((a::l).take (z9i (a::l) k)).toArray⟩:ByteArray)=⟨#[a]⟩/\z4c (byt a)=k:=by
       intro k e h0 h1 h2 h3 h9
       refine⟨?_,?_⟩
       ·unfold z9i
        rw[if_neg h9,if_neg (by omega),if_neg h3]
        rfl
       ·unfold zib at e
        split at e
        ·omega
        ·split at e
         ·omega
         ·split at e
          ·omega
          ·split at e
           ·omega
           ·exact e
      refine⟨fun ht=>?_,fun e=>?_,fun e=>?_,fun e=>?_,fun e=>?_,fun e=>?_,fun e=>?_⟩
      ·simp only at ht ⊢
       unfold yap
       have e0:bAt (⟨((a::l).take (z9i (a::l) (zib (byt a) (hdB l)))).toArray⟩:ByteArray) 0=byt a:=by
        rw[z9n]
        simp only[List.drop_zero]
        obtain⟨n,hn⟩:∃ n,z9i (a::l) (zib (byt a) (hdB l))=n+1:=⟨z9i (a::l) (zib (byt a) (hdB l)) - 1,by omega⟩
        rw[hn]
        rfl
       rw[e0]
       exact(hword ht _).symm
      all_goals
       simp only at e ⊢
       rw[e]
      ·obtain⟨h1,h2⟩:=hsg 4 e (by decide) (by decide) (by decide) (by decide) (by decide)
       rw[h1]
       have:byt a=((40:Nat):Int):=by unfold z4c at h2;(repeat' split at h2) <;> omega
       rw[one_byte this (by decide)]
       rfl
      ·obtain⟨h1,h2⟩:=hsg 5 e (by decide) (by decide) (by decide) (by decide) (by decide)
       rw[h1]
       have:byt a=((41:Nat):Int):=by unfold z4c at h2;(repeat' split at h2) <;> omega
       rw[one_byte this (by decide)]
       rfl
      ·obtain⟨h1,h2⟩:=hsg 6 e (by decide) (by decide) (by decide) (by decide) (by decide)
       rw[h1]
       have:byt a=((44:Nat):Int):=by unfold z4c at h2;(repeat' split at h2) <;> omega
       rw[one_byte this (by decide)]
       rfl
      ·obtain⟨h1,h2⟩:=hsg 7 e (by decide) (by decide) (by decide) (by decide) (by decide)
       rw[h1]
       have:byt a=((46:Nat):Int):=by unfold z4c at h2;(repeat' split at h2) <;> omega
       rw[one_byte this (by decide)]
       rfl
      ·obtain⟨h1,h2⟩:=hsg 8 e (by decide) (by decide) (by decide) (by decide) (by decide)
       rw[h1]
       have:byt a=((33:Nat):Int):=by unfold z4c at h2;(repeat' split at h2) <;> omega
       rw[one_byte this (by decide)]
       rfl
      ·have:byt a=((58:Nat):Int)/\hdB l=((45:Nat):Int):=by
        unfold zib at e
        split at e
        ·omega
        ·split at e
         ·omega
         ·split at e
          ·omega
          ·split at e
           ·assumption
           ·unfold z4c at e
            (repeat' split at e) <;> omega
       rw[show z9i (a::l) 9=2 from rfl]
       cases l with
       |nil=>exact absurd this.2 (by decide)
       |cons b l =>
        rw[one_byte this.1 (by decide),one_byte (show byt b=((45:Nat):Int) from this.2) (by decide)]
        rfl
     ·exact z98 m _ us hd hu x hx
theorem z9t{r:List Tok}{k:Int}(h:hdK r=k)(h0:k≠0):∃ x r',r=(k,x)::r'/\r.tail=r'/\(k,x)∈r:=by
 cases r with
 |nil=>exact absurd h.symm h0
 |cons a r =>
  obtain⟨j,x⟩:=a
  have e:j=k:=h
  subst e
  exact⟨x,r,rfl,rfl,by simp⟩
theorem ybd:∀(r:List Tok) {ts:List ByteArray} {r2:List Tok},zbr r=some (ts,r2)->(∀ x∈r,yd8 x)->r=yau signs ts++r2/\ts≠[]
 |[],_,_,h,_=>by simp[zbr] at h
 |[x],ts,r2,h,hc=>by
  simp only[zbr] at h
  split at h
  ·rename_i hq
   simp only[Option.some.injEq,Prod.mk.injEq] at h
   obtain⟨rfl,rfl⟩:=h
   refine⟨?_,by simp⟩
   show [x]=[yc0 x.2]++[]
   unfold yc0
   rw[← (hc x (by simp)).word hq]
   rfl
  ·cases h
 |x::y::r,ts,r2,h,hc=>by
  simp only[zbr] at h
  split at h
  ·rename_i hq
   have hx:x=yc0 x.2:=by
    unfold yc0
    rw[← (hc x (by simp)).word hq]
   split at h
   ·rename_i h6
    obtain⟨z,hz,he⟩:=Option.map_eq_some_iff.1 h
    simp only[Prod.mk.injEq] at he
    obtain⟨rfl,rfl⟩:=he
    obtain⟨i1,i2⟩:=ybd r (ts:=z.1) (r2:=z.2) hz (fun u hu=>hc u (by simp[hu]))
    refine⟨?_,by simp⟩
    have hy:y=(6,signs.comma):=by
     obtain⟨k,b⟩:=y
     simp only at h6
     subst h6
     have q:=(hc (6,b) (by simp)).comma rfl
     simp only at q
     rw[q]
    obtain⟨t,l⟩:=z
    simp only at i1 i2 ⊢
    cases t with
    |nil=>exact absurd rfl i2
    |cons u t =>
     show x::y::r=yc0 x.2::(6,signs.comma)::(yau signs (u::t)++l)
     rw[← i1,← hx,hy]
   ·simp only[Option.some.injEq,Prod.mk.injEq] at h
    obtain⟨rfl,rfl⟩:=h
    refine⟨?_,by simp⟩
    show x::y::r=[yc0 x.2]++y::r
    rw[← hx]
    rfl
  ·cases h
theorem yav{r:List Tok}{l:zbz}{r2:List Tok}(h:zed r=some (l,r2))(hc:∀ x∈r,yd8 x):r=z9m signs l++r2:=by
 unfold zed at h
 split at h
 ·rename_i h1
  obtain⟨p,r',rfl,e1,_⟩:=z9t h1 (by decide)
  change (if hdK r'=4 then(match zbr r'.tail with|none=>none|some (ts,r2)=>if hdK r2=5 then some ((⟨false,p,ts⟩:zbz),r2.tail) else none) else some ((⟨false,p,[]⟩:zbz),r'))=some (l,r2) at h
  by_cases h4:hdK r'=4
  ·rw[if_pos h4] at h
   obtain⟨q,r'',rfl,e2,hm⟩:=z9t h4 (by decide)
   have hq:q=signs.op:=(hc (4,q) (by simp)).op rfl
   cases hp:zbr r'' with
   |none=>rw[List.tail_cons,hp] at h;cases h
   |some z =>
    obtain⟨ts,r3⟩:=z
    rw[List.tail_cons,hp] at h
    simp only at h
    by_cases h5:hdK r3=5
    ·rw[if_pos h5] at h
     obtain⟨i1,i2⟩:=ybd _ hp (fun u hu=>hc u (by simp[hu]))
     obtain⟨z,r4,rfl,e3,hm2⟩:=z9t h5 (by decide)
     have hz:z=signs.shut:=(hc (5,z) (by rw[i1];simp)).shut rfl
     simp only[Option.some.injEq,Prod.mk.injEq,List.tail_cons] at h
     obtain⟨rfl,rfl⟩:=h
     unfold z9m
     simp only[if_neg i2]
     rw[i1,hq,hz]
     simp
    ·rw[if_neg h5] at h;cases h
  ·rw[if_neg h4] at h
   simp only[Option.some.injEq,Prod.mk.injEq] at h
   obtain⟨rfl,rfl⟩:=h
   simp[z9m]
 ·cases h
theorem ydu{r:List Tok}{l:zbz}{r2:List Tok}(h:zrt r=some (l,r2))(hc:∀ x∈r,yd8 x):r=yc1 signs l++r2:=by
 unfold zrt at h
 split at h
 ·rename_i h8
  obtain⟨p,r',rfl,e1,_⟩:=z9t h8 (by decide)
  obtain⟨z,hz,he⟩:=Option.map_eq_some_iff.1 h
  simp only[Prod.mk.injEq] at he
  obtain⟨rfl,rfl⟩:=he
  have hp:p=signs.bang:=(hc (8,p) (by simp)).bang rfl
  have:=yav (l:=z.1) (r2:=z.2) hz (fun u hu=>hc u (by simp at hu;simp[hu]))
  simp only[List.tail_cons] at this
  rw[this,hp]
  simp[yc1,z9m]
 ·have hn:l.neg=false:=by
   unfold zed at h
   (repeat' split at h) <;> first|(cases h;done)|(simp only[Option.some.injEq,Prod.mk.injEq] at h;rw[← h.1])
  have:=yav h hc
  rw[this]
  simp[yc1,hn]
theorem ybt:∀(n:Nat) {r:List Tok} {b:List zbz} {r2:List Tok},ze1 n r=some (b,r2)->(∀ x∈r,yd8 x)->r=z96 signs b++r2/\b≠[]
 |0,_,_,_,h,_=>by cases h
 |n+1,r,b,r2,h,hc=>by
  unfold ze1 at h
  split at h
  ·cases h
  ·rename_i a r3 hq
   have i1:=ydu hq hc
   split at h
   ·rename_i h6
    obtain⟨p,r',rfl,e1,_⟩:=z9t h6 (by decide)
    obtain⟨z,hz,he⟩:=Option.map_eq_some_iff.1 h
    simp only[Prod.mk.injEq] at he
    obtain⟨rfl,rfl⟩:=he
    have hp:p=signs.comma:=(hc (6,p) (by rw[i1];simp)).comma rfl
    obtain⟨j1,j2⟩:=ybt n (b:=z.1) (r2:=z.2) hz (fun u hu=>hc u (by rw[i1];simp at hu;simp[hu]))
    refine⟨?_,by simp⟩
    obtain⟨c,l⟩:=z
    simp only[List.tail_cons] at j1 j2 ⊢
    cases c with
    |nil=>exact absurd rfl j2
    |cons u c =>
     rw[i1,hp,j1]
     simp[z96]
   ·simp only[Option.some.injEq,Prod.mk.injEq] at h
    obtain⟨rfl,rfl⟩:=h
    exact⟨i1,by simp⟩
theorem yb9{n:Nat}{r:List Tok}{c:zab}{r2:List Tok}(h:ze2 n r=some (c,r2))(hc:∀ x∈r,yd8 x):r=clK signs c++r2:=by
 unfold ze2 at h
 split at h
 ·cases h
 ·rename_i a r3 hq
  have i1:=yav hq hc
  split at h
  ·rename_i h9
   obtain⟨p,r',rfl,e1,_⟩:=z9t h9 (by decide)
   have hp:p=signs.arrow:=(hc (9,p) (by rw[i1];simp)).arrow rfl
   simp only[List.tail_cons] at h
   split at h
   ·cases h
   ·rename_i b r4 hb
    split at h
    ·rename_i h7
     obtain⟨z,r5,rfl,e2,_⟩:=z9t h7 (by decide)
     obtain⟨j1,j2⟩:=ybt n hb (fun u hu=>hc u (by rw[i1];simp[hu]))
     have hz:z=signs.dot:=(hc (7,z) (by rw[i1,j1];simp)).dot rfl
     simp only[Option.some.injEq,Prod.mk.injEq,List.tail_cons] at h
     obtain⟨rfl,rfl⟩:=h
     rw[i1,j1,hp,hz]
     simp[clK,j2]
    ·cases h
  ·split at h
   ·rename_i h7
    obtain⟨z,r5,rfl,e2,_⟩:=z9t h7 (by decide)
    have hz:z=signs.dot:=(hc (7,z) (by rw[i1];simp)).dot rfl
    simp only[Option.some.injEq,Prod.mk.injEq,List.tail_cons] at h
    obtain⟨rfl,rfl⟩:=h
    rw[i1,hz]
    simp[clK]
   ·cases h
theorem yb2{n:Nat}:∀(m:Nat) {r:List Tok} {cs:List zab},zes n m r=some cs->(∀ x∈r,yd8 x)->r=z9b signs cs
 |m,[],cs,h,_=>by cases m <;> (simp[zes] at h;subst h;simp[z9b])
 |0,_::_,cs,h,_=>by simp[zes] at h
 |m+1,x::r,cs,h,hc=>by
  unfold zes at h
  split at h
  ·cases h
  ·rename_i c r2 hq
   have i1:=yb9 hq hc
   obtain⟨ds,hd,rfl⟩:=Option.map_eq_some_iff.1 h
   have:=yb2 m hd (fun u hu=>hc u (by rw[i1];simp[hu]))
   rw[i1,this]
   simp[z9b]
theorem ycy{s:ByteArray}{cs:List zab}{t:List zar}(h:z4m s=.ok (cs,t)):z88 (bl s)=some (z9b signs cs)/\(∀ c∈cs,z9s c)/\s.size<=500:=by
 unfold z4m at h
 split at h
 ·cases h
 ·rename_i h5
  split at h
  ·cases h
  ·rename_i l hl
   split at h
   ·cases h
   ·rename_i ds hd
    have hw:=ya9 _ hd (ycg hl)
    have hcs:ds=cs:=by
     repeat'(split at h)
     all_goals first|(cases h;done)|(simp only[Except.ok.injEq,Prod.mk.injEq] at h;exact h.1)
    subst hcs
    rw[ycf] at hl
    refine⟨?_,hw,by omega⟩
    rw[hl,yb2 _ hd (z98 _ _ _ (Nat.le_refl _) hl)]
theorem yeb{s:ByteArray}{cs:List zab}{t0 t:List zar}(h5:s.size<=500)(hs:z88 (bl s)=some (z9b signs cs))(hw:∀ c∈cs,z9s c)(h:∀ c∈cs,zeh c=false)(hc:zgh cs=some t0)(hsf:∀ c∈cs,ze4 c=true)(hst:zcx (t0.length+1) t0 cs=(t,true)):z4m s=.ok (cs,t):=by
 have hp:zes (z9b signs cs).length (z9b signs cs).length (z9b signs cs)=some cs:=yay signs _ _ cs (fun c hc=>⟨(hw c hc).word,(z9v signs cs).2 c hc⟩) (z9v signs cs).1
 have hm:cs.any zeh=false:=by
  rw[List.any_eq_false]
  intro c hc
  rw[h c hc]
  simp
 have ha:cs.all ze4=true:=List.all_eq_true.2 hsf
 unfold z4m
 rw[if_neg (by omega),ycf,hs]
 simp only[hp,hm,hc,ha,hst,if_true,Bool.false_eq_true,if_false]
def yen(c:zab):List Tok:=z9m signs c.head++(if c.body=[] then [] else(9,signs.arrow)::z96 signs c.body)
theorem yea(c:zab):clK signs c=yen c++[(7,signs.dot)]:=by simp[clK,yen]
theorem yaj(c:zab)(cs:List zab):z9b signs (c::cs)=yen c++(7,signs.dot)::z9b signs cs:=by simp[z9b,yea]
theorem yck:∀(xs:List ByteArray),(∀ x∈xs,isT (yap x)=true)->∀ x∈yau signs xs,x.1≠7
 |[],_,x,h=>by cases h
 |[y],hw,x,h=>by
  simp only[yau,List.mem_singleton] at h
  subst h
  intro e
  have:=hw y (by simp)
  rw[show yap y=7 from e] at this
  cases this
 |y::z::r,hw,x,h=>by
  simp only[yau,List.mem_cons] at h
  rcases h with rfl|rfl|h
  ·intro e
   have:=hw y (by simp)
   rw[show yap y=7 from e] at this
   cases this
  ·decide
  ·exact yck (z::r) (fun u hu=>hw u (by simp[List.mem_cons.1 hu])) x h
theorem ybg{l:zbz}(h:ybf l):∀ x∈z9m signs l,x.1≠7:=by
 intro x hx
 unfold z9m at hx
 rcases List.mem_cons.1 hx with rfl|hx
 ·exact(by decide:(1:Int)≠7)
 ·split at hx
  ·cases hx
  ·rcases List.mem_cons.1 hx with rfl|hx
   ·decide
   ·rcases List.mem_append.1 hx with hx|hx
    ·exact yck _ h x hx
    ·simp at hx;subst hx;decide
theorem ydg{l:zbz}(h:ybf l):∀ x∈yc1 signs l,x.1≠7:=by
 intro x hx
 unfold yc1 at hx
 split at hx
 ·rcases List.mem_cons.1 hx with rfl|hx
  ·decide
  ·exact ybg h x hx
 ·exact ybg h x hx
theorem ycl:∀(b:List zbz),(∀ l∈b,ybf l)->∀ x∈z96 signs b,x.1≠7
 |[],_,x,h=>by cases h
 |[l],hw,x,h=>ydg (hw l (by simp)) x h
 |l::m::r,hw,x,h=>by
  simp only[z96,List.mem_append,List.mem_cons] at h
  rcases h with h|rfl|h
  ·exact ydg (hw l (by simp)) x h
  ·decide
  ·exact ycl (m::r) (fun u hu=>hw u (by simp[List.mem_cons.1 hu])) x h
theorem yeh{c:zab}(h:ydp c):∀ x∈yen c,x.1≠7:=by
 intro x hx
 unfold yen at hx
 rcases List.mem_append.1 hx with hx|hx
 ·exact ybg h.2.1 x hx
 ·split at hx
  ·cases hx
  ·rcases List.mem_cons.1 hx with rfl|hx
   ·decide
   ·exact ycl _ h.2.2 x hx
theorem ybo{l:List UInt8}{ts:List Tok}(h:RdF l ts):z88 l=some ts:=by
 have:=h []
 simpa [z94] using this
theorem yeq{s:ByteArray}{cs:List zab}(h5:s.size<=500)(hs:z88 (bl s)=some (z9b signs cs))(hw:∀ c∈cs,z9s c):prW cs<=500:=by
 have hp:zes (z9b signs cs).length (z9b signs cs).length (z9b signs cs)=some cs:=yay signs _ _ cs (fun c hc=>⟨(hw c hc).word,(z9v signs cs).2 c hc⟩) (z9v signs cs).1
 have h1:=zvv hp
 rw[← ycf] at hs
 have h2:=zqf hs
 omega
theorem ybr:∀(l:List UInt8),z88 l=some []->RdF l []
 |[],_=>RdF.nil
 |a::l,h=>by
  rw[z9g] at h
  split at h
  ·rename_i hb
   exact(ydx hb).rdf.app (l:=[a]) (ybr l h)
  ·split at h
   ·cases h
   ·split at h
    ·cases h
    ·obtain⟨us,_,e⟩:=Option.map_eq_some_iff.1 h
     cases e
theorem ybn:∀(l acc:List UInt8) (cs:List zab),(46:UInt8)∉acc->z88 (acc++l)=some (z9b signs cs)->(∀ c∈cs,z9s c)->RdF (acc++l) (z9b signs cs)
 |[],acc,cs,ha,hs,_=>by
  rw[List.append_nil] at hs ⊢
  cases cs with
  |nil=>exact ybr acc hs
  |cons c cs =>
   exfalso
   apply ha
   rw[ybi _ _ _ (Nat.le_refl _) hs]
   exact⟨(7,signs.dot),by rw[yaj];simp,rfl⟩
 |b::l,acc,cs,ha,hs,hw=>by
  by_cases hb:b=46
  ·subst hb
   have h1:bLD (hdB (46::l))=false:=by simp[hdB,byt,bLD,zr6,z6j,zu3]
   have h2:hdB (46::l)≠45:=by simp[hdB,byt]
   rw[z92 _ acc (46::l) (Nat.le_refl _) h1 h2,ybb] at hs
   cases hT:z88 acc with
   |none=>rw[hT] at hs;cases hs
   |some T =>
    rw[hT,Option.bind_some] at hs
    cases hR:z88 l with
    |none=>rw[hR] at hs;cases hs
    |some R =>
     rw[hR] at hs
     simp only[Option.map_some,Option.some.injEq] at hs
     cases cs with
     |nil=>simp[z9b] at hs
     |cons c cs =>
      rw[yaj] at hs
      have hno:∀ x∈T,x.1≠7:=fun x hx e=>ha ((ybi _ _ _ (Nat.le_refl _) hT).2 ⟨x,hx,e⟩)
      obtain⟨e1,e2⟩:=yed hno (yeh (hw c (by simp)).word) rfl rfl hs
      subst e1 e2
      have ih:=ybn l [] cs (by simp) (by simpa using hR) (fun d hd=>hw d (by simp[hd]))
      have h3:=(RdF.dot hT).app ih
      have e3:acc++46::l=(acc++[46])++([]++l):=by simp
      have e4:z9b signs (c::cs)=(yen c++[(7,signs.dot)])++z9b signs cs:=by rw[yaj];simp
      rw[e3,e4]
      exact h3
  ·have e3:acc++b::l=(acc++[b])++l:=by simp
   rw[e3] at hs ⊢
   exact ybn l (acc++[b]) cs (by simp[ha,Ne.symm hb]) hs hw
set_option maxRecDepth 100000
set_option maxHeartbeats 2000000
open Go.RowKit
def yai(c:Int)(n:Nat):Nat:=if c < 0 then(-(c+1)).toNat % n else c.toNat % n
theorem ydw(c:Int){n:Nat}(hn:0 < n):yai c n < n:=by unfold yai;split <;> exact Nat.mod_lt _ hn
theorem ydf(w:World)(c:Int)(n:Nat)(hn:0 < n)(hn2:n<=281474976710656)(hc:-9223372036854775808<=c/\c<=9223372036854775807) :
  Calls Tryz.prog 14 #[.int .i64 c,.int .i64 n] w fun e w'=>e=.returned (.int .i64 (yai c n:Nat))/\w'=w:=by
 obtain⟨hc1,hc2⟩:=hc
 by_cases h0:c < 0
 ·have e:-(c+1).tmod (n:Int)=((yai c n:Nat):Int):=by
   unfold yai
   rw[if_pos h0,← Int.neg_tmod,Int.tmod_eq_emod_of_nonneg (by omega),Int.natCast_emod,Int.toNat_of_nonneg (by omega)]
  have HE:Hid (-(c+1).tmod (n:Int)=((yai c n:Nat):Int)):=e
  clear e
  generalize yai c n=pk at *
  go_enter Tryz.func14,Tryz.ntmps14
  go_wp2
  exact bodyPost_ret (v:=.int .i64 (-(c+1).tmod (n:Int))) (by simp[results,Tryz.results14,go_sem]) rfl ⟨by rw[HE.out],rfl⟩
 ·have e:c % (n:Int)=((yai c n:Nat):Int):=by unfold yai;rw[if_neg h0,Int.natCast_emod,Int.toNat_of_nonneg (by omega)]
  have HE:Hid (c % (n:Int)=((yai c n:Nat):Int)):=e
  clear e
  generalize yai c n=pk at *
  go_enter Tryz.func14,Tryz.ntmps14
  go_wp2
  exact bodyPost_ret (v:=.int .i64 (c % (n:Int))) (by simp[results,Tryz.results14,go_sem]) rfl ⟨by rw[HE.out],rfl⟩
def z9e(n:Nat):ByteArray:=⟨#[UInt8.ofNat (48+n / 10),UInt8.ofNat (48+n % 10)]⟩
theorem yda(n:Nat):(z9e n).size=2:=rfl
theorem ycz(w:World)(n:Nat)(hn:n < 100) :
  Calls Tryz.prog 29 #[.int .i64 n] w fun e w'=>e=.returned (.string (z9e n))/\Below w.heap.size w w':=by
 have e1:(n:Int).tdiv 10=((n / 10:Nat):Int):=by rw[Int.tdiv_eq_ediv_of_nonneg (by omega)];omega
 have e2:(n:Int).tmod 10=((n % 10:Nat):Int):=by rw[Int.tmod_eq_emod_of_nonneg (by omega)];omega
 have hx:n / 10<=9:=by omega
 have hy:n % 10<=9:=by omega
 have HD:Hid (z9e n=⟨#[UInt8.ofNat (48+n / 10),UInt8.ofNat (48+n % 10)]⟩):=show z9e n=_ from rfl
 generalize z9e n=s at *
 generalize n / 10=x at *
 generalize n % 10=y at *
 have HC:Hid (∀ j (hj:j < (⟨#[UInt8.ofNat (48+x),UInt8.ofNat (48+y)]⟩:ByteArray).data.size),(w.alloc (.cells #[.int .u8 (48+(x:Int)),.int .u8 (48+(y:Int))] 5)).cell? ⟨w.heap.size,j,none⟩=some (.int .u8 ((⟨#[UInt8.ofNat (48+x),UInt8.ofNat (48+y)]⟩:ByteArray).data[j].toNat:Int))):=by
  intro j hj
  have hq:=(Box.new w #[.int .u8 (48+(x:Int)),.int .u8 (48+(y:Int))] 5).rules.1 j
  rw[hq]
  have hj2:j=0∨j=1:=by simp at hj;omega
  rcases hj2 with rfl|rfl
  ·have:(48+x) % 256=48+x:=by omega
   simp[UInt8.toNat_ofNat',this]
  ·have:(48+y) % 256=48+y:=by omega
   simp[UInt8.toNat_ofNat',this]
 go_enter Tryz.func29,Tryz.ntmps29
 go_wp2_with (first|(refine zmq _ rfl (.tmp 11) 119 9 5 rfl Tryz.underlying119 Tryz.underlying5 Tryz.underlying9 ⟨#[UInt8.ofNat (48+x),UInt8.ofNat (48+y)]⟩ _ _ rfl ?_ ?_;(first|exact HC.out|fail)))
 go_ret
 exact⟨by rw[HD.out];simp[UInt8.ofNat_add],(by repeat'(first|with_reducible(first|exact zR _ _|assumption|refine zN ?_ _|refine zA ?_ ?_ _|refine zD ?_|refine zS ?_ ?_ _)|go_size))⟩
end Go.Proofs.YteampbddflhngabGreat
