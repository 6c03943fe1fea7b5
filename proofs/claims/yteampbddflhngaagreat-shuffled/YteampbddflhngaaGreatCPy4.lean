import Derived.Test.YteampbddflhngaaGreatCPx5
import Derived.Test.YteampbddflhngaaGreatB43
import Derived.Test.YteampbddflhngaaGreatB41

namespace Go.Proofs.YteampbddflhngaaGreat
theorem zjx{a:UInt8}{c:Int}{l:List UInt8}(_h:zbg (byt a) c≠0):1<=zh4 (a::l) (zbg (byt a) c):=by
 unfold zh4
 generalize hK:zbg (byt a) c=k at *
 unfold zbg at hK
 split
 ·omega
 ·split
  ·rename_i h12
   have:bLD (byt a)=true:=by
    split at hK
    ·rename_i q;simp[bLD,q]
    ·split at hK
     ·rename_i q;simp[bLD,q]
     ·split at hK
      ·omega
      ·split at hK
       ·omega
       ·unfold ziv at hK;split at hK <;> (try split at hK) <;> (try split at hK) <;> (try split at hK) <;> (try split at hK) <;> omega
   rw[List.takeWhile_cons,if_pos this]
   simp
  ·split
   ·rename_i h3
    have:zk1 (byt a)=true:=by
     split at hK
     ·omega
     ·split at hK
      ·omega
      ·split at hK
       ·assumption
       ·split at hK
        ·omega
        ·unfold ziv at hK;split at hK <;> (try split at hK) <;> (try split at hK) <;> (try split at hK) <;> (try split at hK) <;> omega
    rw[List.takeWhile_cons,if_pos this]
    simp
   ·omega
def zdw(l:List UInt8):Option (List Tok):=zhv l.length l
theorem zi8:∀(m:Nat) (l:List UInt8),l.length<=m->∀ n,l.length<=n->zhv n l=zhv l.length l
 |_,[],_,n,_=>by cases n <;> rfl
 |0,_::_,h,_,_=>by simp at h
 |m+1,a::l,h,n,hn=>by
  cases n with
  |zero=>simp at hn
  |succ n =>
   simp only[List.length_cons] at h hn ⊢
   unfold zhv
   rw[zi8 m l (by omega) n (by omega)]
   split
   ·rfl
   ·split
    ·rfl
    ·rename_i hk
     split
     ·rfl
     ·have hp:=zjx (l:=l) hk
      have hd:((a::l).drop (zh4 (a::l) (zbg (byt a) (hdB l)))).length<=l.length:=by rw[List.length_drop];simp;omega
      rw[zi8 m _ (by omega) n (by omega),zi8 m ((a::l).drop (zh4 (a::l) (zbg (byt a) (hdB l)))) (by omega) l.length hd]
theorem zhl(a:UInt8)(l:List UInt8):zdw (a::l)=if zjn (byt a) then zdw l else if zbg (byt a) (hdB l)=0 then none else if 6 < zh4 (a::l) (zbg (byt a) (hdB l)) then none else(zdw ((a::l).drop (zh4 (a::l) (zbg (byt a) (hdB l))))).map ((zbg (byt a) (hdB l),(⟨((a::l).take (zh4 (a::l) (zbg (byt a) (hdB l)))).toArray⟩:ByteArray))::·):=by
 show zhv (l.length+1) (a::l)=_
 unfold zhv
 split
 ·rfl
 ·split
  ·rfl
  ·rename_i hk
   split
   ·rfl
   ·have hp:=zjx (l:=l) hk
    have hd:((a::l).drop (zh4 (a::l) (zbg (byt a) (hdB l)))).length<=l.length:=by rw[List.length_drop];simp;omega
    rw[zi8 _ _ (Nat.le_refl _) l.length hd]
    rfl
theorem zze(s:ByteArray):splitB s=zdw (bl s):=by
 have hsz:s.data.toList.length=s.size:=by rw[Array.length_toList];rfl
 unfold splitB zdw bl
 rw[zs5,List.drop_zero,hsz]
theorem z6z{a:UInt8}{l r:List UInt8}(h45:hdB r≠45):zbg (byt a) (hdB (l++r))=zbg (byt a) (hdB l):=by
 cases l with
 |cons b l=>rfl
 |nil =>
  show zbg (byt a) (hdB r)=zbg (byt a) 0
  unfold zbg
  rw[if_neg (show ¬ (byt a=58/\hdB r=45) from fun q=>h45 q.2),if_neg (show ¬ (byt a=58/\(0:Int)=45) from fun q=>by omega)]
theorem zqx{p:UInt8->Bool}:∀(l r:List UInt8),(∀ b q,r=b::q->p b=false)->((l++r).takeWhile p).length=(l.takeWhile p).length
 |[],[],_=>rfl
 |[],b::r,h=>by simp[h b r rfl]
 |a::l,r,h=>by
  rw[List.cons_append,List.takeWhile_cons,List.takeWhile_cons]
  split
  ·simp only[List.length_cons];rw[zqx l r h]
  ·rfl
theorem ycu{a:UInt8}{l r:List UInt8}{k:Int}(hr:bLD (hdB r)=false):zh4 (a::(l++r)) k=zh4 (a::l) k:=by
 have hd:zk1 (hdB r)=false:=by simp only[bLD,Bool.or_eq_false_iff] at hr;exact hr.2
 unfold zh4
 split
 ·rfl
 ·split
  ·rw[← List.cons_append];exact zqx _ r fun b q e=>by subst e;exact hr
  ·split
   ·rw[← List.cons_append];exact zqx _ r fun b q e=>by subst e;exact hd
   ·rfl
theorem ydf{a:UInt8}{l:List UInt8}:zbg (byt a) (hdB l)≠0->zh4 (a::l) (zbg (byt a) (hdB l))<=(a::l).length:=by
 intro h
 have htw:∀(p:UInt8->Bool) (x:List UInt8),(x.takeWhile p).length<=x.length:=fun p x=>(List.takeWhile_sublist p).length_le
 unfold zh4
 split
 ·rename_i h9
  cases l with
  |nil =>
   exfalso
   unfold zbg at h9
   split at h9
   ·omega
   ·split at h9
    ·omega
    ·split at h9
     ·omega
     ·rw[if_neg (by rintro⟨_,q⟩;cases q)] at h9
      unfold ziv at h9
      split at h9 <;> (try split at h9) <;> (try split at h9) <;> (try split at h9) <;> (try split at h9) <;> omega
  |cons b l=>simp
 ·split
  ·exact htw _ _
  ·split
   ·exact htw _ _
   ·simp
theorem zkr:∀(m:Nat) (l r:List UInt8),l.length<=m->bLD (hdB r)=false->hdB r≠45->zdw (l++r)=(zdw l).bind fun T=>(zdw r).map (T++·)
 |_,[],r,_,_,_=>by
  simp only[List.nil_append,splitF_nil,Option.bind_some]
  cases zdw r <;> simp
 |0,_::_,_,h,_,_=>by simp at h
 |m+1,a::l,r,h,hr,h45=>by
  simp only[List.length_cons] at h
  rw[List.cons_append,zhl,zhl,z6z h45,ycu hr]
  split
  ·exact zkr m l r (by omega) hr h45
  ·split
   ·rfl
   ·rename_i hk
    split
    ·rfl
    ·have hp:=zjx (l:=l) hk
     have hle:=ydf hk
     have hd:((a::l).drop (zh4 (a::l) (zbg (byt a) (hdB l)))).length<=m:=by rw[List.length_drop];simp;omega
     rw[← List.cons_append,List.drop_append_of_le_length hle,List.take_append_of_le_length hle,zkr m _ r hd hr h45]
     cases zdw ((a::l).drop (zh4 (a::l) (zbg (byt a) (hdB l)))) with
     |none=>rfl
     |some T =>
      simp only[Option.bind_some,Option.map_some]
      cases zdw r <;> simp
def RdF(l:List UInt8)(ts:List Tok):Prop:=∀ r,zdw (l++r)=(zdw r).map (ts++·)
theorem RdF.app{l l':List UInt8}{ts ts':List Tok}(h:RdF l ts)(k:RdF l' ts'):RdF (l++l') (ts++ts'):=by
 intro r
 rw[List.append_assoc,h,k,ycw]
theorem RdF.nil:RdF [] []:=fun r=>by cases h:zdw r <;> simp[h]
theorem zs4(r:List UInt8):zdw (46::r)=(zdw r).map ((7,signs.dot)::·):=by
 rw[zhl,if_neg (by decide)]
 have hk:zbg (byt 46) (hdB r)=7:=by unfold zbg;simp[byt,zha,zzz,zk1,ziv]
 rw[hk]
 have hl:zh4 (46::r) 7=1:=rfl
 rw[hl]
 rfl
theorem RdF.dot{l:List UInt8}{ts:List Tok}(h:zdw l=some ts):RdF (l++[46]) (ts++[(7,signs.dot)]):=by
 intro r
 have h1:bLD (hdB (46::r))=false:=by simp[hdB,byt,bLD,zha,zzz,zk1]
 have h2:hdB (46::r)≠45:=by simp[hdB,byt]
 rw[List.append_assoc,List.cons_append,List.nil_append,zkr _ l (46::r) (Nat.le_refl _) h1 h2,h,Option.bind_some,zs4]
 cases zdw r <;> simp
theorem ztt:∀(m:Nat) (l:List UInt8) (ts:List Tok),l.length<=m->zdw l=some ts->((46:UInt8)∈l↔∃ x∈ts,x.1=7)
 |_,[],ts,_,h=>by simp[splitF_nil] at h;subst h;simp
 |0,_::_,_,h,_=>by simp at h
 |m+1,a::l,ts,h,hs=>by
  simp only[List.length_cons] at h
  rw[zhl] at hs
  split at hs
  ·rename_i hb
   rw[List.mem_cons,ztt m l ts (by omega) hs]
   refine⟨fun q=>q.resolve_left fun e=>?_,Or.inr⟩
   subst e
   simp[zjn,byt] at hb
  ·split at hs
   ·cases hs
   ·rename_i hk
    split at hs
    ·cases hs
    ·obtain⟨us,hu,rfl⟩:=Option.map_eq_some_iff.1 hs
     have hp:=zjx (l:=l) hk
     have hd:((a::l).drop (zh4 (a::l) (zbg (byt a) (hdB l)))).length<=m:=by rw[List.length_drop];simp;omega
     have ih:=ztt m _ us hd hu
     have hmem:(46:UInt8)∈a::l↔(46:UInt8)∈(a::l).take (zh4 (a::l) (zbg (byt a) (hdB l)))∨(46:UInt8)∈(a::l).drop (zh4 (a::l) (zbg (byt a) (hdB l))):=by
      rw[← List.mem_append,List.take_append_drop]
     rw[hmem,ih]
     have hone:(46:UInt8)∈(a::l).take (zh4 (a::l) (zbg (byt a) (hdB l)))↔zbg (byt a) (hdB l)=7:=by
      generalize hK:zbg (byt a) (hdB l)=k at *
      unfold zbg at hK
      have hld:∀ b:UInt8,bLD (byt b)=true->b≠46:=by
       rintro b hb rfl
       revert hb
       decide
      have hdg:∀ b:UInt8,zk1 (byt b)=true->b≠46:=by
       rintro b hb rfl
       revert hb
       decide
      split at hK
      ·subst hK
       rw[show zh4 (a::l) 1=((a::l).takeWhile fun b=>bLD (byt b)).length from rfl,zg4]
       exact⟨fun q=>absurd rfl (hld _ (zhh (p:=fun b=>bLD (byt b)) q)),fun q=>by cases q⟩
      ·split at hK
       ·subst hK
        rw[show zh4 (a::l) 2=((a::l).takeWhile fun b=>bLD (byt b)).length from rfl,zg4]
        exact⟨fun q=>absurd rfl (hld _ (zhh (p:=fun b=>bLD (byt b)) q)),fun q=>by cases q⟩
       ·split at hK
        ·subst hK
         rw[show zh4 (a::l) 3=((a::l).takeWhile fun b=>zk1 (byt b)).length from rfl,zg4]
         exact⟨fun q=>absurd rfl (hdg _ (zhh (p:=fun b=>zk1 (byt b)) q)),fun q=>by cases q⟩
        ·split at hK
         ·rename_i h58
          subst hK
          rw[show zh4 (a::l) 9=2 from rfl]
          cases l with
          |nil=>exact absurd h58.2 (by decide)
          |cons b l =>
           have hb:byt b=45:=h58.2
           refine⟨fun q=>?_,fun q=>by cases q⟩
           simp only[List.take_succ_cons,List.take_zero,List.mem_cons,List.not_mem_nil,or_false] at q
           rcases q with rfl|rfl
           ·exact absurd h58.1 (by decide)
           ·exact absurd hb (by decide)
         ·have h1:zh4 (a::l) k=1:=by
           unfold zh4
           have:k≠9/\k≠1/\k≠2/\k≠3:=by
            unfold ziv at hK
            split at hK <;> (try split at hK) <;> (try split at hK) <;> (try split at hK) <;> (try split at hK) <;> omega
           rw[if_neg this.1,if_neg (by omega),if_neg this.2.2.2]
          rw[h1]
          simp only[List.take_succ_cons,List.take_zero,List.mem_cons,List.not_mem_nil,or_false]
          constructor
          ·rintro rfl
           rw[← hK]
           decide
          ·intro e
           subst e
           unfold ziv at hK
           split at hK
           ·omega
           ·split at hK
            ·omega
            ·split at hK
             ·omega
             ·split at hK
              ·rename_i q
               unfold byt at q
               apply UInt8.toNat_inj.1
               show 46=a.toNat
               omega
              ·split at hK <;> omega
     rw[hone]
     simp
theorem ycn{T T' R R':List Tok}(h:∀ x∈T,x.1≠7)(h':∀ x∈T',x.1≠7){d d':Tok}(hd:d.1=7)(hd':d'.1=7)(e:T++d::R=T'++d'::R'):T=T'/\R=R':=by
 induction T generalizing T' with
 |nil =>
  cases T' with
  |nil=>simp at e;exact⟨rfl,e.2⟩
  |cons x T' =>
   simp only[List.nil_append,List.cons_append,List.cons.injEq] at e
   exact absurd (by rw[← e.1];exact hd) (h' x (by simp))
 |cons x T ih =>
  cases T' with
  |nil =>
   simp only[List.nil_append,List.cons_append,List.cons.injEq] at e
   exact absurd (by rw[e.1];exact hd') (h x (by simp))
  |cons y T' =>
   simp only[List.cons_append,List.cons.injEq] at e
   obtain⟨i1,i2⟩:=ih (fun z hz=>h z (by simp[hz])) (fun z hz=>h' z (by simp[hz])) e.2
   exact⟨by rw[e.1,i1],i2⟩
theorem zo5.word{l:zbc}(h:zo5 l):ztk l:=fun x hx=>ybt (h.2 x hx)
theorem zl1.word{c:zaa}(h:zl1 c):z9v c:=⟨h.1,h.2.1.word,fun l hl=>(h.2.2 l hl).word⟩
theorem z0g(S:zjh)(l:zbc):1<=(z4o S l).length:=by
 unfold z4o ziu
 split <;> simp
theorem zu7(S:zjh):∀ b:List zbc,b.length<=(zlf S b).length
 |[]=>by simp
 |[l]=>by have:=z0g S l;simp[zlf];exact this
 |l::m::r=>by
  have ih:=zu7 S (m::r)
  have:=z0g S l
  simp only[zlf,List.length_append,List.length_cons] at ih ⊢
  omega
theorem ycl(S:zjh)(c:zaa):c.body.length+1<=(clK S c).length:=by
 have:=zu7 S c.body
 unfold clK
 by_cases hb:c.body=[]
 ·simp[hb]
 ·simp only[if_neg hb,List.length_append,List.length_cons,List.length_nil]
  omega
theorem zj6(S:zjh):∀ cs:List zaa,cs.length<=(zft S cs).length/\∀ c∈cs,c.body.length<=(zft S cs).length
 |[]=>⟨by simp,fun c h=>by cases h⟩
 |c::cs=>by
  obtain⟨i1,i2⟩:=zj6 S cs
  have hc:=ycl S c
  have e:(zft S (c::cs)).length=(clK S c).length+(zft S cs).length:=by simp[zft]
  refine⟨by rw[e];simp;omega,fun d hd=>?_⟩
  rw[e]
  rcases List.mem_cons.1 hd with rfl|hd
  ·omega
  ·have:=i2 d hd;omega
structure yca (x:Tok):Prop where
 word:isT x.1=true->x.1=zpt x.2
 op:x.1=4->x.2=signs.op
 shut:x.1=5->x.2=signs.shut
 comma:x.1=6->x.2=signs.comma
 dot:x.1=7->x.2=signs.dot
 bang:x.1=8->x.2=signs.bang
 arrow:x.1=9->x.2=signs.arrow
theorem one_byte{a:UInt8}{n:Nat}(h:byt a=(n:Int))(hn:n < 256):a=UInt8.ofNat n:=by
 apply UInt8.toNat_inj.1
 unfold byt at h
 rw[UInt8.toNat_ofNat',Nat.mod_eq_of_lt (by simpa using hn)]
 omega
theorem zlr:∀(m:Nat) (l:List UInt8) (ts:List Tok),l.length<=m->zdw l=some ts->∀ x∈ts,yca x
 |_,[],ts,_,h,x,hx=>by simp[splitF_nil] at h;subst h;cases hx
 |0,_::_,_,h,_,_,_=>by simp at h
 |m+1,a::l,ts,h,hs,x,hx=>by
  simp only[List.length_cons] at h
  rw[zhl] at hs
  split at hs
  ·exact zlr m l ts (by omega) hs x hx
  ·split at hs
   ·cases hs
   ·rename_i hk
    split at hs
    ·cases hs
    ·obtain⟨us,hu,rfl⟩:=Option.map_eq_some_iff.1 hs
     have hp:=zjx (l:=l) hk
     have hd:((a::l).drop (zh4 (a::l) (zbg (byt a) (hdB l)))).length<=m:=by rw[List.length_drop];simp;omega
     rcases List.mem_cons.1 hx with rfl|hx
     ·clear hs hu hd hx
      have hword:isT (zbg (byt a) (hdB l))=true->∀ c,zbg (byt a) c=zbg (byt a) (hdB l):=by
       intro ht c
       unfold zbg at ht ⊢
       split
       ·rfl
       ·split
        ·rfl
        ·split
         ·rfl
         ·rename_i q1 q2 q3
          rw[if_neg q1,if_neg q2,if_neg q3] at ht
          split at ht
          ·simp[isT] at ht
          ·unfold ziv at ht
           (repeat' split at ht) <;> simp[isT] at ht
      have hsg:∀ k:Int,zbg (byt a) (hdB l)=k->k≠0->k≠1->k≠2->k≠3->k≠9->(⟨((a::l).take (zh4 (a::l) k)).toArray⟩:ByteArray)=⟨#[a]⟩/\ziv (byt a)=k:=by
       intro k e h0 h1 h2 h3 h9
       refine⟨?_,?_⟩
       ·unfold zh4
        rw[if_neg h9,if_neg (by omega),if_neg h3]
        rfl
       ·unfold zbg at e
        split at e
        ·omega
        ·split at e
         ·omega
         ·split at e
          ·omega
          ·split at e
           ·omega
           ·exact e
      refine⟨fun ht=>?_,fun e=>?_,fun e=>?_,fun e=>?_,fun e=>?_,fun e=>?_,fun e=>?_⟩
      ·simp only at ht ⊢
       unfold zpt
       have e0:bAt (⟨((a::l).take (zh4 (a::l) (zbg (byt a) (hdB l)))).toArray⟩:ByteArray) 0=byt a:=by
        rw[zl4]
        simp only[List.drop_zero]
        obtain⟨n,hn⟩:∃ n,zh4 (a::l) (zbg (byt a) (hdB l))=n+1:=⟨zh4 (a::l) (zbg (byt a) (hdB l)) - 1,by omega⟩
        rw[hn]
        rfl
       rw[e0]
       exact(hword ht _).symm
      all_goals
       simp only at e ⊢
       rw[e]
      ·obtain⟨h1,h2⟩:=hsg 4 e (by decide) (by decide) (by decide) (by decide) (by decide)
       rw[h1]
       have:byt a=((40:Nat):Int):=by unfold ziv at h2;(repeat' split at h2) <;> omega
       rw[one_byte this (by decide)]
       rfl
      ·obtain⟨h1,h2⟩:=hsg 5 e (by decide) (by decide) (by decide) (by decide) (by decide)
       rw[h1]
       have:byt a=((41:Nat):Int):=by unfold ziv at h2;(repeat' split at h2) <;> omega
       rw[one_byte this (by decide)]
       rfl
      ·obtain⟨h1,h2⟩:=hsg 6 e (by decide) (by decide) (by decide) (by decide) (by decide)
       rw[h1]
       have:byt a=((44:Nat):Int):=by unfold ziv at h2;(repeat' split at h2) <;> omega
       rw[one_byte this (by decide)]
       rfl
      ·obtain⟨h1,h2⟩:=hsg 7 e (by decide) (by decide) (by decide) (by decide) (by decide)
       rw[h1]
       have:byt a=((46:Nat):Int):=by unfold ziv at h2;(repeat' split at h2) <;> omega
       rw[one_byte this (by decide)]
       rfl
      ·obtain⟨h1,h2⟩:=hsg 8 e (by decide) (by decide) (by decide) (by decide) (by decide)
       rw[h1]
       have:byt a=((33:Nat):Int):=by unfold ziv at h2;(repeat' split at h2) <;> omega
       rw[one_byte this (by decide)]
       rfl
      ·have:byt a=((58:Nat):Int)/\hdB l=((45:Nat):Int):=by
        unfold zbg at e
        split at e
        ·omega
        ·split at e
         ·omega
         ·split at e
          ·omega
          ·split at e
           ·assumption
           ·unfold ziv at e
            (repeat' split at e) <;> omega
       rw[show zh4 (a::l) 9=2 from rfl]
       cases l with
       |nil=>exact absurd this.2 (by decide)
       |cons b l =>
        rw[one_byte this.1 (by decide),one_byte (show byt b=((45:Nat):Int) from this.2) (by decide)]
        rfl
     ·exact zlr m _ us hd hu x hx
theorem zju{r:List Tok}{k:Int}(h:hdK r=k)(h0:k≠0):∃ x r',r=(k,x)::r'/\r.tail=r'/\(k,x)∈r:=by
 cases r with
 |nil=>exact absurd h.symm h0
 |cons a r =>
  obtain⟨j,x⟩:=a
  have e:j=k:=h
  subst e
  exact⟨x,r,rfl,rfl,by simp⟩
theorem zta:∀(r:List Tok) {ts:List ByteArray} {r2:List Tok},za3 r=some (ts,r2)->(∀ x∈r,yca x)->r=zpa signs ts++r2/\ts≠[]
 |[],_,_,h,_=>by simp[za3] at h
 |[x],ts,r2,h,hc=>by
  simp only[za3] at h
  split at h
  ·rename_i hq
   simp only[Option.some.injEq,Prod.mk.injEq] at h
   obtain⟨rfl,rfl⟩:=h
   refine⟨?_,by simp⟩
   show [x]=[yb5 x.2]++[]
   unfold yb5
   rw[← (hc x (by simp)).word hq]
   rfl
  ·cases h
 |x::y::r,ts,r2,h,hc=>by
  simp only[za3] at h
  split at h
  ·rename_i hq
   have hx:x=yb5 x.2:=by
    unfold yb5
    rw[← (hc x (by simp)).word hq]
   split at h
   ·rename_i h6
    obtain⟨z,hz,he⟩:=Option.map_eq_some_iff.1 h
    simp only[Prod.mk.injEq] at he
    obtain⟨rfl,rfl⟩:=he
    obtain⟨i1,i2⟩:=zta r (ts:=z.1) (r2:=z.2) hz (fun u hu=>hc u (by simp[hu]))
    refine⟨?_,by simp⟩
    have hy:y=(6,signs.comma):=by
     obtain⟨k,b⟩:=y
     simp only at h6
     subst h6
     have q:=(hc (6,b) (by simp)).comma rfl
     simp only at q
     rw[q]
    obtain⟨t,l⟩:=z
    simp only at i1 i2 ⊢
    cases t with
    |nil=>exact absurd rfl i2
    |cons u t =>
     show x::y::r=yb5 x.2::(6,signs.comma)::(zpa signs (u::t)++l)
     rw[← i1,← hx,hy]
   ·simp only[Option.some.injEq,Prod.mk.injEq] at h
    obtain⟨rfl,rfl⟩:=h
    refine⟨?_,by simp⟩
    show x::y::r=[yb5 x.2]++y::r
    rw[← hx]
    rfl
  ·cases h
theorem zpb{r:List Tok}{l:zbc}{r2:List Tok}(h:zdl r=some (l,r2))(hc:∀ x∈r,yca x):r=ziu signs l++r2:=by
 unfold zdl at h
 split at h
 ·rename_i h1
  obtain⟨p,r',rfl,e1,_⟩:=zju h1 (by decide)
  change (if hdK r'=4 then(match za3 r'.tail with|none=>none|some (ts,r2)=>if hdK r2=5 then some ((⟨false,p,ts⟩:zbc),r2.tail) else none) else some ((⟨false,p,[]⟩:zbc),r'))=some (l,r2) at h
  by_cases h4:hdK r'=4
  ·rw[if_pos h4] at h
   obtain⟨q,r'',rfl,e2,hm⟩:=zju h4 (by decide)
   have hq:q=signs.op:=(hc (4,q) (by simp)).op rfl
   cases hp:za3 r'' with
   |none=>rw[List.tail_cons,hp] at h;cases h
   |some z =>
    obtain⟨ts,r3⟩:=z
    rw[List.tail_cons,hp] at h
    simp only at h
    by_cases h5:hdK r3=5
    ·rw[if_pos h5] at h
     obtain⟨i1,i2⟩:=zta _ hp (fun u hu=>hc u (by simp[hu]))
     obtain⟨z,r4,rfl,e3,hm2⟩:=zju h5 (by decide)
     have hz:z=signs.shut:=(hc (5,z) (by rw[i1];simp)).shut rfl
     simp only[Option.some.injEq,Prod.mk.injEq,List.tail_cons] at h
     obtain⟨rfl,rfl⟩:=h
     unfold ziu
     simp only[if_neg i2]
     rw[i1,hq,hz]
     simp
    ·rw[if_neg h5] at h;cases h
  ·rw[if_neg h4] at h
   simp only[Option.some.injEq,Prod.mk.injEq] at h
   obtain⟨rfl,rfl⟩:=h
   simp[ziu]
 ·cases h
theorem yas{r:List Tok}{l:zbc}{r2:List Tok}(h:zot r=some (l,r2))(hc:∀ x∈r,yca x):r=z4o signs l++r2:=by
 unfold zot at h
 split at h
 ·rename_i h8
  obtain⟨p,r',rfl,e1,_⟩:=zju h8 (by decide)
  obtain⟨z,hz,he⟩:=Option.map_eq_some_iff.1 h
  simp only[Prod.mk.injEq] at he
  obtain⟨rfl,rfl⟩:=he
  have hp:p=signs.bang:=(hc (8,p) (by simp)).bang rfl
  have:=zpb (l:=z.1) (r2:=z.2) hz (fun u hu=>hc u (by simp at hu;simp[hu]))
  simp only[List.tail_cons] at this
  rw[this,hp]
  simp[z4o,ziu]
 ·have hn:l.neg=false:=by
   unfold zdl at h
   (repeat' split at h) <;> first|(cases h;done)|(simp only[Option.some.injEq,Prod.mk.injEq] at h;rw[← h.1])
  have:=zpb h hc
  rw[this]
  simp[z4o,hn]
theorem zu9:∀(n:Nat) {r:List Tok} {b:List zbc} {r2:List Tok},zef n r=some (b,r2)->(∀ x∈r,yca x)->r=zlf signs b++r2/\b≠[]
 |0,_,_,_,h,_=>by cases h
 |n+1,r,b,r2,h,hc=>by
  unfold zef at h
  split at h
  ·cases h
  ·rename_i a r3 hq
   have i1:=yas hq hc
   split at h
   ·rename_i h6
    obtain⟨p,r',rfl,e1,_⟩:=zju h6 (by decide)
    obtain⟨z,hz,he⟩:=Option.map_eq_some_iff.1 h
    simp only[Prod.mk.injEq] at he
    obtain⟨rfl,rfl⟩:=he
    have hp:p=signs.comma:=(hc (6,p) (by rw[i1];simp)).comma rfl
    obtain⟨j1,j2⟩:=zu9 n (b:=z.1) (r2:=z.2) hz (fun u hu=>hc u (by rw[i1];simp at hu;simp[hu]))
    refine⟨?_,by simp⟩
    obtain⟨c,l⟩:=z
    simp only[List.tail_cons] at j1 j2 ⊢
    cases c with
    |nil=>exact absurd rfl j2
    |cons u c =>
     rw[i1,hp,j1]
     simp[zlf]
   ·simp only[Option.some.injEq,Prod.mk.injEq] at h
    obtain⟨rfl,rfl⟩:=h
    exact⟨i1,by simp⟩
theorem zya{n:Nat}{r:List Tok}{c:zaa}{r2:List Tok}(h:zdm n r=some (c,r2))(hc:∀ x∈r,yca x):r=clK signs c++r2:=by
 unfold zdm at h
 split at h
 ·cases h
 ·rename_i a r3 hq
  have i1:=zpb hq hc
  split at h
  ·rename_i h9
   obtain⟨p,r',rfl,e1,_⟩:=zju h9 (by decide)
   have hp:p=signs.arrow:=(hc (9,p) (by rw[i1];simp)).arrow rfl
   simp only[List.tail_cons] at h
   split at h
   ·cases h
   ·rename_i b r4 hb
    split at h
    ·rename_i h7
     obtain⟨z,r5,rfl,e2,_⟩:=zju h7 (by decide)
     obtain⟨j1,j2⟩:=zu9 n hb (fun u hu=>hc u (by rw[i1];simp[hu]))
     have hz:z=signs.dot:=(hc (7,z) (by rw[i1,j1];simp)).dot rfl
     simp only[Option.some.injEq,Prod.mk.injEq,List.tail_cons] at h
     obtain⟨rfl,rfl⟩:=h
     rw[i1,j1,hp,hz]
     simp[clK,j2]
    ·cases h
  ·split at h
   ·rename_i h7
    obtain⟨z,r5,rfl,e2,_⟩:=zju h7 (by decide)
    have hz:z=signs.dot:=(hc (7,z) (by rw[i1];simp)).dot rfl
    simp only[Option.some.injEq,Prod.mk.injEq,List.tail_cons] at h
    obtain⟨rfl,rfl⟩:=h
    rw[i1,hz]
    simp[clK]
   ·cases h
theorem zwz{n:Nat}:∀(m:Nat) {r:List Tok} {cs:List zaa},zdc n m r=some cs->(∀ x∈r,yca x)->r=zft signs cs
 |m,[],cs,h,_=>by cases m <;> (simp[zdc] at h;subst h;simp[zft])
 |0,_::_,cs,h,_=>by simp[zdc] at h
 |m+1,x::r,cs,h,hc=>by
  unfold zdc at h
  split at h
  ·cases h
  ·rename_i c r2 hq
   have i1:=zya hq hc
   obtain⟨ds,hd,rfl⟩:=Option.map_eq_some_iff.1 h
   have:=zwz m hd (fun u hu=>hc u (by rw[i1];simp[hu]))
   rw[i1,this]
   simp[zft]
theorem zru{s:ByteArray}{cs:List zaa}{t:List zam}(h:zh2 s=.ok (cs,t)):zdw (bl s)=some (zft signs cs)/\(∀ c∈cs,zl1 c)/\s.size<=500:=by
 unfold zh2 at h
 split at h
 ·cases h
 ·rename_i h5
  split at h
  ·cases h
  ·rename_i l hl
   split at h
   ·cases h
   ·rename_i ds hd
    have hw:=zsq _ hd (zzf hl)
    have hcs:ds=cs:=by
     repeat'(split at h)
     all_goals first|(cases h;done)|(simp only[Except.ok.injEq,Prod.mk.injEq] at h;exact h.1)
    subst hcs
    rw[zze] at hl
    refine⟨?_,hw,by omega⟩
    rw[hl,zwz _ hd (zlr _ _ _ (Nat.le_refl _) hl)]
theorem z5p{s:ByteArray}{cs:List zaa}{t0 t:List zam}(h5:s.size<=500)(hs:zdw (bl s)=some (zft signs cs))(hw:∀ c∈cs,zl1 c)(h:∀ c∈cs,zed c=false)(hc:ze8 cs=some t0)(hsf:∀ c∈cs,zey c=true)(hst:zch (t0.length+1) t0 cs=(t,true)):zh2 s=.ok (cs,t):=by
 have hp:zdc (zft signs cs).length (zft signs cs).length (zft signs cs)=some cs:=zqg signs _ _ cs (fun c hc=>⟨(hw c hc).word,(zj6 signs cs).2 c hc⟩) (zj6 signs cs).1
 have hm:cs.any zed=false:=by
  rw[List.any_eq_false]
  intro c hc
  rw[h c hc]
  simp
 have ha:cs.all zey=true:=List.all_eq_true.2 hsf
 unfold zh2
 rw[if_neg (by omega),zze,hs]
 simp only[hp,hm,hc,ha,hst,if_true,Bool.false_eq_true,if_false]
set_option maxRecDepth 100000
set_option maxHeartbeats 4000000
open Go.RowKit
def z9q(t:List zam)(ns:List ByteArray)(D:DB)(f:zgi):Prop:=∃ p,p < t.length/\∃ r m,D p r=some m/\f=(zi2 t p,za2 ns r (za1 t p) 3,m)
def ybv(t:List zam)(ns:List ByteArray)(A:Option (DB × Nat))(t2:List zam)(ns2:List ByteArray)(B:Option (DB × Nat)):Prop:=match A,B with
 |none,none=>True
 |some (D,k),some (E,l)=>k=l/\∀ f,z9q t ns D f↔z9q t2 ns2 E f
 |_,_=>False
theorem zpi{t:List zam}{ns:List ByteArray}{R:zbh}(h:Told t ns R):(za4 t ns R t.length).length=R.count:=by
 unfold za4
 rw[List.length_flatMap,h.inv.cnt]
 congr 1
 refine List.ext_getElem (by simp[h.len]) fun i h1 h2=>?_
 have hi:i < R.rows.length:=by simpa using h2
 simp only[List.getElem_map,List.getElem_range,List.length_map,zc4]
 rw[getD_lt _ hi,((h.inv.tries i hi).1).cnt]
theorem z8c{lp:Nat}(w:World)(db pb:Nat)(s0 s:ByteArray){cs:List zaa}{t0 t:List zam}(hd:Box w db #[.pointer (some ⟨pb,0,none⟩),.string s0] 98)(hP:zgz lp w pb cs t)(h:Parts cs t0 t)(hlp:lp<=w.heap.size)(hsz:s.size<=9223372036854775807)
  (hs:s.size<=500->∃ cs2 t2,zh2 s=.ok (cs2,t2)/\ybv t (zaf cs) (zdz (zfb t (zaf cs) none cs) 4096 4096) t2 (zaf cs2) (zdz (zfb t2 (zaf cs2) none cs2) 4096 4096)) :
  Calls Tryz.prog 56 #[.pointer (some ⟨db,0,none⟩),.string s] w fun e w'=>e=.returned (.bool true)/\Below w.heap.size w w':=by
 by_cases hlen:s.size<=500
 ·obtain⟨cs2,t2,hc,hal⟩:=hs hlen
  obtain⟨t20,h2⟩:=zrt hc
  have HCEL:Hid (∀ W,Below w.heap.size w W->W.cell? ⟨db,0,none⟩=some (.pointer (some ⟨pb,0,none⟩))/\db < W.heap.size):=fun W hb=>⟨by rw[(hd.below hb).rules.1];rfl,(hd.below hb).lt⟩
  have hlni:¬ (500:Int) < (s.size:Int):=by omega
  have HCO:Hid (Calls Tryz.prog 32 #[.string s] w fun e w'=>∃ qb,e=.returned (.tuple #[.pointer (some ⟨qb,0,none⟩),.int .i64 0])/\Hid (zgz w.heap.size w' qb cs2 t2)/\Hid (Below w.heap.size w w')/\w'.cell? ⟨db,0,none⟩=some (.pointer (some ⟨pb,0,none⟩))/\db < w'.heap.size):=by
   refine(ziw s w hsz).mono ?_
   rintro e w' ⟨hb,q2⟩
   rw[hc] at q2
   obtain⟨qb,v,pv,h3,h4,h5,h6,h7⟩:=q2
   exact⟨qb,h3,⟨h7,v,pv,h4,h5,h6⟩,hb,HCEL.out w' hb⟩
  have HR1:Hid (∀ W,Below w.heap.size w W->Calls Tryz.prog 35 #[.pointer (some ⟨pb,0,none⟩),.slice none 0 0,.int .i64 4096,.int .i64 4096] W fun e w'=>z4t lp t (zaf cs) (zdz (zfb t (zaf cs) none cs) 4096 4096) W e w'):=fun W hb=>z0u W pb (hP.below hb) h (Nat.le_trans hlp hb.size) 4096 4096 (by omega) (by omega)
  have HR2:Hid (∀ W W2 qb,Below w.heap.size w W->zgz w.heap.size W qb cs2 t2->Below W.heap.size W W2->Calls Tryz.prog 35 #[.pointer (some ⟨qb,0,none⟩),.slice none 0 0,.int .i64 4096,.int .i64 4096] W2 fun e w'=>z4t w.heap.size t2 (zaf cs2) (zdz (zfb t2 (zaf cs2) none cs2) 4096 4096) W2 e w'):=fun W W2 qb hb hq hb2=>z0u W2 qb (hq.below hb2) h2 (Nat.le_trans hb.size hb2.size) 4096 4096 (by omega) (by omega)
  obtain⟨c0,hl0⟩:=HCEL.out w (Below.refl _ _)
  cases hA:zdz (zfb t (zaf cs) none cs) 4096 4096 with
  |none =>
   cases hB:zdz (zfb t2 (zaf cs2) none cs2) 4096 4096 with
   |some y=>rw[hA,hB] at hal;exact hal.elim
   |none =>
    have K1:Hid (∀ W,Below w.heap.size w W->Calls Tryz.prog 35 #[.pointer (some ⟨pb,0,none⟩),.slice none 0 0,.int .i64 4096,.int .i64 4096] W fun e w'=>e=.returned (.tuple #[.pointer none,.int .i64 10])/\Hid (Below W.heap.size W w')):=fun W hb=>by
     refine(HR1.out W hb).mono ?_
     intro e w' q
     rw[hA] at q
     exact q
    have K2:Hid (∀ W W2 qb,Below w.heap.size w W->zgz w.heap.size W qb cs2 t2->Below W.heap.size W W2->Calls Tryz.prog 35 #[.pointer (some ⟨qb,0,none⟩),.slice none 0 0,.int .i64 4096,.int .i64 4096] W2 fun e w'=>e=.returned (.tuple #[.pointer none,.int .i64 10])/\Hid (Below w.heap.size w w')):=fun W W2 qb hb hq hb2=>by
     refine(HR2.out W W2 qb hb hq hb2).mono ?_
     intro e w' q
     rw[hB] at q
     exact⟨q.1,zad (zad hb hb2 (Nat.le_refl _)) q.2 (Nat.le_refl _)⟩
    clear hal hA hB HR1 HR2 hd hP h h2 hs hc
    go_enter Tryz.func56,Tryz.ntmps56
    go_wp2_with (first|(go_at_call 32;refine HCO.out.mono ?_;rintro e w1 ⟨qb,rfl,HP1,HB1,c1,hl1⟩)|(go_at_call 35;refine(K2.out _ _ _ HB1.out HP1.out HB2.out).mono ?_;rintro e w3 ⟨rfl,HB3⟩)|(go_at_call 35;refine(K1.out _ HB1.out).mono ?_;rintro e w2 ⟨rfl,HB2⟩))
    go_ret
    exact⟨rfl,HB3.out⟩
  |some x =>
   cases hB:zdz (zfb t2 (zaf cs2) none cs2) 4096 4096 with
   |none=>rw[hA,hB] at hal;exact hal.elim
   |some y =>
    obtain⟨D,kk⟩:=x
    obtain⟨E,ll⟩:=y
    rw[hA,hB] at hal
    have hkl:kk=ll:=hal.1
    have hfs:∀ f,z9q t (zaf cs) D f↔z9q t2 (zaf cs2) E f:=hal.2
    have K1:Hid (∀ W,Below w.heap.size w W->Calls Tryz.prog 35 #[.pointer (some ⟨pb,0,none⟩),.slice none 0 0,.int .i64 4096,.int .i64 4096] W fun e w'=>∃ rb,e=.returned (.tuple #[.pointer (some ⟨rb,0,none⟩),.int .i64 0])/\Hid (∃(R:zbh) (pv nv rv:Value) (tbs:List Nat) (lo:Nat),zq2 lo lp w' rb t (zaf cs) R pv nv rv tbs/\Told t (zaf cs) R/\zct (t.map (·.arity)) R=D/\R.rounds=kk)/\Hid (Below W.heap.size W w')):=fun W hb=>by
     refine(HR1.out W hb).mono ?_
     intro e w' q
     rw[hA] at q
     obtain⟨R,rb,pv,nv,rv,tbs,q1,q2,q3,q4,q5,q6,q7,q8,q9⟩:=q
     exact⟨rb,q2,⟨R,pv,nv,rv,tbs,_,q3,h.told q4 q5 hA q8,q5,q6⟩,q9⟩
    have K2:Hid (∀ W W2 qb,Below w.heap.size w W->zgz w.heap.size W qb cs2 t2->Below W.heap.size W W2->Calls Tryz.prog 35 #[.pointer (some ⟨qb,0,none⟩),.slice none 0 0,.int .i64 4096,.int .i64 4096] W2 fun e w'=>∃ rb,e=.returned (.tuple #[.pointer (some ⟨rb,0,none⟩),.int .i64 0])/\Hid (∃(R:zbh) (pv nv rv:Value) (tbs:List Nat) (lo:Nat),zq2 lo w.heap.size w' rb t2 (zaf cs2) R pv nv rv tbs/\Told t2 (zaf cs2) R/\zct (t2.map (·.arity)) R=E/\R.rounds=ll)/\Hid (Below W2.heap.size W2 w')/\w'.cell? ⟨db,0,none⟩=some (.pointer (some ⟨pb,0,none⟩))/\db < w'.heap.size):=fun W W2 qb hb hq hb2=>by
     refine(HR2.out W W2 qb hb hq hb2).mono ?_
     intro e w' q
     rw[hB] at q
     obtain⟨R,rb,pv,nv,rv,tbs,q1,q2,q3,q4,q5,q6,q7,q8,q9⟩:=q
     exact⟨rb,q2,⟨R,pv,nv,rv,tbs,_,q3,h2.told q4 q5 hB q8,q5,q6⟩,q9,HCEL.out w' (zad (zad hb hb2 (Nat.le_refl _)) q9 (Nat.le_refl _))⟩
    have HAK:Hid (∀ W1 W2 W3 qb rb sb,Below w.heap.size w W1->zgz w.heap.size W1 qb cs2 t2->Below W1.heap.size W1 W2->Below W2.heap.size W2 W3->(∃(R:zbh) (pv nv rv:Value) (tbs:List Nat) (lo:Nat),zq2 lo lp W2 rb t (zaf cs) R pv nv rv tbs/\Told t (zaf cs) R/\zct (t.map (·.arity)) R=D/\R.rounds=kk)->(∃(R:zbh) (pv nv rv:Value) (tbs:List Nat) (lo:Nat),zq2 lo w.heap.size W3 sb t2 (zaf cs2) R pv nv rv tbs/\Told t2 (zaf cs2) R/\zct (t2.map (·.arity)) R=E/\R.rounds=ll)->Calls Tryz.prog 93 #[.pointer (some ⟨pb,0,none⟩),.pointer (some ⟨rb,0,none⟩),.pointer (some ⟨qb,0,none⟩),.pointer (some ⟨sb,0,none⟩)] W3 fun e w'=>e=.returned (.bool true)/\Hid (Below w.heap.size w w')):=fun W1 W2 W3 qb rb sb hb1 hq hb2 hb3 ⟨R,pv,nv,rv,tbs,lo,r1,r2,r3,r4⟩ ⟨R',pv',nv',rv',tbs',lo',s1,s2,s3,s4⟩=>by
     have hb13:=zad hb2 hb3 (Nat.le_refl _)
     have hbw:=zad hb1 hb13 (Nat.le_refl _)
     have hmem:∀ f,f∈za4 t (zaf cs) R t.length↔f∈za4 t2 (zaf cs2) R' t2.length:=fun f=>by
      rw[zma r2,zma s2,r3,s3]
      exact hfs f
     have hal:=z90 r2 s2 hmem
     have hcnt:R.count=R'.count:=by rw[← zpi r2,← zpi s2];exact hal.1
     refine(z2s W3 pb rb qb sb cs cs2 t t2 (zaf cs) (zaf cs2) R R' pv nv rv pv' nv' rv' tbs tbs' (hP.below hbw) (r1.below hb3) r2 (zr2 r2) (hq.below hb13) s1 s2 (zr2 s2) hal hcnt (by omega)).mono ?_
     rintro e w' ⟨q1,q2⟩
     exact⟨q1,zad hbw q2 (Nat.le_refl _)⟩
    clear hal hA hB HR1 HR2 hd hP h h2 hs hc hfs hkl
    go_enter Tryz.func56,Tryz.ntmps56
    go_wp2_with (first|(go_at_call 32;refine HCO.out.mono ?_;rintro e w1 ⟨qb,rfl,HP1,HB1,c1,hl1⟩)|(go_at_call 93;refine(HAK.out _ _ _ _ _ _ HB1.out HP1.out HB2.out HB3.out HX2.out HX3.out).mono ?_;rintro e w4 ⟨rfl,HB4⟩)|(go_at_call 35;refine(K2.out _ _ _ HB1.out HP1.out HB2.out).mono ?_;rintro e w3 ⟨sb,rfl,HX3,HB3,c3,hl3⟩)|(go_at_call 35;refine(K1.out _ HB1.out).mono ?_;rintro e w2 ⟨rb,rfl,HX2,HB2⟩))
    go_ret
    exact⟨rfl,HB4.out⟩
 ·have hlni:(500:Int) < (s.size:Int):=by omega
  clear hd hP h hs
  go_enter Tryz.func56,Tryz.ntmps56
  go_wp2
  go_ret
  exact⟨rfl,Below.refl _ _⟩
def zhp:List UInt8->List UInt8->List (List UInt8)
 |_,[]=>[]
 |acc,b::l=>if b=46 then(acc++[b])::zhp [] l else zhp (acc++[b]) l
def ydi(c:zaa):List Tok:=ziu signs c.head++(if c.body=[] then [] else(9,signs.arrow)::zlf signs c.body)
theorem z5m(c:zaa):clK signs c=ydi c++[(7,signs.dot)]:=by simp[clK,ydi]
theorem zsp(c:zaa)(cs:List zaa):zft signs (c::cs)=ydi c++(7,signs.dot)::zft signs cs:=by simp[zft,z5m]
theorem zzx:∀(xs:List ByteArray),(∀ x∈xs,isT (zpt x)=true)->∀ x∈zpa signs xs,x.1≠7
 |[],_,x,h=>by cases h
 |[y],hw,x,h=>by
  simp only[zpa,List.mem_singleton] at h
  subst h
  intro e
  have:=hw y (by simp)
  rw[show zpt y=7 from e] at this
  cases this
 |y::z::r,hw,x,h=>by
  simp only[zpa,List.mem_cons] at h
  rcases h with rfl|rfl|h
  ·intro e
   have:=hw y (by simp)
   rw[show zpt y=7 from e] at this
   cases this
  ·decide
  ·exact zzx (z::r) (fun u hu=>hw u (by simp[List.mem_cons.1 hu])) x h
theorem ztq{l:zbc}(h:ztk l):∀ x∈ziu signs l,x.1≠7:=by
 intro x hx
 unfold ziu at hx
 rcases List.mem_cons.1 hx with rfl|hx
 ·exact(by decide:(1:Int)≠7)
 ·split at hx
  ·cases hx
  ·rcases List.mem_cons.1 hx with rfl|hx
   ·decide
   ·rcases List.mem_append.1 hx with hx|hx
    ·exact zzx _ h x hx
    ·simp at hx;subst hx;decide
theorem z7m{l:zbc}(h:ztk l):∀ x∈z4o signs l,x.1≠7:=by
 intro x hx
 unfold z4o at hx
 split at hx
 ·rcases List.mem_cons.1 hx with rfl|hx
  ·decide
  ·exact ztq h x hx
 ·exact ztq h x hx
theorem zz3:∀(b:List zbc),(∀ l∈b,ztk l)->∀ x∈zlf signs b,x.1≠7
 |[],_,x,h=>by cases h
 |[l],hw,x,h=>z7m (hw l (by simp)) x h
 |l::m::r,hw,x,h=>by
  simp only[zlf,List.mem_append,List.mem_cons] at h
  rcases h with h|rfl|h
  ·exact z7m (hw l (by simp)) x h
  ·decide
  ·exact zz3 (m::r) (fun u hu=>hw u (by simp[List.mem_cons.1 hu])) x h
theorem yc2{c:zaa}(h:z9v c):∀ x∈ydi c,x.1≠7:=by
 intro x hx
 unfold ydi at hx
 rcases List.mem_append.1 hx with hx|hx
 ·exact ztq h.2.1 x hx
 ·split at hx
  ·cases hx
  ·rcases List.mem_cons.1 hx with rfl|hx
   ·decide
   ·exact zz3 _ h.2.2 x hx
theorem zol:∀(l acc:List UInt8) (cs:List zaa),(46:UInt8)∉acc->zdw (acc++l)=some (zft signs cs)->(∀ c∈cs,zl1 c)->(zhp acc l).length=cs.length/\∀ i (h1:i < (zhp acc l).length) (h2:i < cs.length),RdF (zhp acc l)[i] (clK signs cs[i])
 |[],acc,cs,ha,hs,_=>by
  rw[List.append_nil] at hs
  cases cs with
  |nil=>exact⟨rfl,fun i h1=>by simp[zhp] at h1⟩
  |cons c cs =>
   exfalso
   apply ha
   rw[ztt _ _ _ (Nat.le_refl _) hs]
   exact⟨(7,signs.dot),by rw[zsp];simp,rfl⟩
 |b::l,acc,cs,ha,hs,hw=>by
  by_cases hb:b=46
  ·subst hb
   have ec:zhp acc (46::l)=(acc++[46])::zhp [] l:=by rw[zhp];simp
   rw[ec]
   have h1:bLD (hdB (46::l))=false:=by simp[hdB,byt,bLD,zha,zzz,zk1]
   have h2:hdB (46::l)≠45:=by simp[hdB,byt]
   rw[zkr _ acc (46::l) (Nat.le_refl _) h1 h2,zs4] at hs
   cases hT:zdw acc with
   |none=>rw[hT] at hs;cases hs
   |some T =>
    rw[hT,Option.bind_some] at hs
    cases hR:zdw l with
    |none=>rw[hR] at hs;cases hs
    |some R =>
     rw[hR] at hs
     simp only[Option.map_some,Option.some.injEq] at hs
     cases cs with
     |nil=>simp[zft] at hs
     |cons c cs =>
      rw[zsp] at hs
      have hno:∀ x∈T,x.1≠7:=fun x hx e=>ha ((ztt _ _ _ (Nat.le_refl _) hT).2 ⟨x,hx,e⟩)
      obtain⟨e1,e2⟩:=ycn hno (yc2 (hw c (by simp)).word) rfl rfl hs
      subst e1 e2
      obtain⟨i1,i2⟩:=zol l [] cs (by simp) (by simpa using hR) (fun d hd=>hw d (by simp[hd]))
      refine⟨by simp[i1],fun i k1 k2=>?_⟩
      cases i with
      |zero =>
       simp only[List.getElem_cons_zero]
       rw[z5m]
       exact RdF.dot hT
      |succ i =>
       simp only[List.getElem_cons_succ]
       exact i2 i _ _
  ·have ec:zhp acc (b::l)=zhp (acc++[b]) l:=by rw[zhp,if_neg hb]
   rw[ec]
   exact zol l (acc++[b]) cs (by simp[ha,Ne.symm hb]) (by simpa using hs) hw
theorem z0x{ps:List (List UInt8)}{cs:List zaa}(hr:∀ i (h1:i < ps.length) (h2:i < cs.length),RdF ps[i] (clK signs cs[i]))(hl:ps.length=cs.length):∀(o:List Nat),(∀ i∈o,i < cs.length)->∀ d:zaa,RdF (o.flatMap fun i=>ps.getD i []) (zft signs (o.map fun i=>cs.getD i d))
 |[],_,d=>RdF.nil
 |i::o,ho,d=>by
  have hi:=ho i (by simp)
  rw[List.flatMap_cons,List.map_cons]
  show RdF _ (clK signs (cs.getD i d)++zft signs (o.map fun i=>cs.getD i d))
  have e1:ps.getD i []=ps[i]'(by omega):=by simp[List.getD,hl,hi]
  have e2:cs.getD i d=cs[i]:=by simp[List.getD,hi]
  rw[e1,e2]
  exact(hr i (by omega) hi).app (z0x hr hl o (fun j hj=>ho j (by simp[hj])) d)
def zw5(ps:List (List UInt8))(o:List Nat):List UInt8:=(o.flatMap fun i=>ps.getD i [])++(match o with|[]=>[]|i::_=>ps.getD i [])
theorem z8t(ps:List (List UInt8))(o:List Nat):zw5 ps o=(o++o.take 1).flatMap fun i=>ps.getD i []:=by
 unfold zw5
 cases o with
 |nil=>rfl
 |cons i o=>simp
theorem zue{l:List UInt8}{ts:List Tok}(h:RdF l ts):zdw l=some ts:=by
 have:=h []
 simpa [splitF_nil] using this
theorem ydd{s:ByteArray}{cs:List zaa}(h5:s.size<=500)(hs:zdw (bl s)=some (zft signs cs))(hw:∀ c∈cs,zl1 c):prW cs<=500:=by
 have hp:zdc (zft signs cs).length (zft signs cs).length (zft signs cs)=some cs:=zqg signs _ _ cs (fun c hc=>⟨(hw c hc).word,(zj6 signs cs).2 c hc⟩) (zj6 signs cs).1
 have h1:=zt4 hp
 rw[← zze] at hs
 have h2:=znq hs
 omega
theorem z8u{s s2:ByteArray}{cs:List zaa}{t0 t:List zam}(h:zh2 s=.ok (cs,t))(hp:Parts cs t0 t){o:List Nat}(ho:o.Perm (List.range cs.length))(hs2:bl s2=zw5 (zhp [] (bl s)) o)(h5:s2.size<=500):∃ cs2 t2,zh2 s2=.ok (cs2,t2)/\ybv t (zaf cs) (zdz (zfb t (zaf cs) none cs) 4096 4096) t2 (zaf cs2) (zdz (zfb t2 (zaf cs2) none cs2) 4096 4096):=by
 obtain⟨a1,a2,a3⟩:=zru h
 obtain⟨b1,b2⟩:=zol (bl s) [] cs (by simp) (by simpa using a1) a2
 have hlt:∀ i∈o,i < cs.length:=fun i hi=>by simpa using ho.mem_iff.1 hi
 have hlt2:∀ i∈o++o.take 1,i < cs.length:=fun i hi=>by
  rcases List.mem_append.1 hi with hi|hi
  ·exact hlt i hi
  ·exact hlt i (List.mem_of_mem_take hi)
 cases hcs:cs with
 |nil =>
  subst hcs
  have ho0:o=[]:=by have:=ho.length_eq;simpa using this
  subst ho0
  have e0:bl s2=[]:=by rw[hs2];rfl
  have hc2:zh2 s2=.ok ([],t):=z5p (t0:=t0) h5 (by rw[e0];rfl) a2 hp.many hp.coll hp.safe hp.strat
  exact⟨[],t,hc2,by
   cases zdz (zfb t (zaf []) none []) 4096 4096 with
   |none=>trivial
   |some x=>exact⟨rfl,fun f=>Iff.rfl⟩⟩
 |cons d cs' =>
  rw[← hcs]
  have hr:=zue (z0x b2 b1 (o++o.take 1) hlt2 d)
  rw[← z8t,← hs2] at hr
  generalize hq:(o++o.take 1).map (fun i=>cs.getD i d)=cs2 at hr
  have hm:∀ c,c∈cs2↔c∈cs:=by
   intro c
   rw[← hq,List.mem_map]
   constructor
   ·rintro⟨i,hi,rfl⟩
    have:=hlt2 i hi
    rw[show cs.getD i d=cs[i] by simp[List.getD,this]]
    exact List.getElem_mem _
   ·intro hc
    obtain⟨i,hi,rfl⟩:=List.mem_iff_getElem.1 hc
    exact⟨i,List.mem_append.2 (Or.inl (ho.mem_iff.2 (by simpa using hi))),by simp[List.getD,hi]⟩
  have hw2:∀ c∈cs2,zl1 c:=fun c hc=>a2 c ((hm c).1 hc)
  have few:=ydd h5 hr hw2
  have hp2:=hp.same hm few
  refine⟨cs2,t,z5p h5 hr hw2 hp2.many hp2.coll hp2.safe hp2.strat,?_⟩
  rw[zvg hm,← z1e hp hm few]
  cases zdz (zfb t (zaf cs) none cs) 4096 4096 with
  |none=>trivial
  |some x=>exact⟨rfl,fun f=>Iff.rfl⟩
end Go.Proofs.YteampbddflhngaaGreat
