import Derived.Test.YteampbddflhngaaGreatCPx2

namespace Go.Proofs.YteampbddflhngaaGreat
def RdA(l:List UInt8)(ts:List Tok):Prop:=∃ m,m<=l.length/\∀ n r,zd8 (n+m) (l++r)=(zd8 n r).map (ts++·)
def RdN(l:List UInt8)(ts:List Tok):Prop:=∃ m,m<=l.length/\∀ n r,bLD (hdB r)=false->zd8 (n+m) (l++r)=(zd8 n r).map (ts++·)
theorem ztg{a b:List Tok}(o:Option (List Tok)):(o.map (b++·)).map (a++·)=o.map ((a++b)++·):=by cases o <;> simp
theorem RdA.rdn{l:List UInt8}{ts:List Tok}(h:RdA l ts):RdN l ts:=by
 obtain⟨m,h1,h2⟩:=h
 exact⟨m,h1,fun n r _=>h2 n r⟩
theorem RdA.nil:RdA [] []:=⟨0,Nat.le_refl _,fun n r=>by cases h:zd8 n r <;> simp[h]⟩
theorem RdA.app{l l':List UInt8}{ts ts':List Tok}(h:RdA l ts)(k:RdA l' ts'):RdA (l++l') (ts++ts'):=by
 obtain⟨m,h1,h2⟩:=h
 obtain⟨m',k1,k2⟩:=k
 refine⟨m'+m,by simp;omega,fun n r=>?_⟩
 rw[← Nat.add_assoc,List.append_assoc,h2,k2,ztg]
theorem RdA.appN{l l':List UInt8}{ts ts':List Tok}(h:RdA l ts)(k:RdN l' ts'):RdN (l++l') (ts++ts'):=by
 obtain⟨m,h1,h2⟩:=h
 obtain⟨m',k1,k2⟩:=k
 refine⟨m'+m,by simp;omega,fun n r hr=>?_⟩
 rw[← Nat.add_assoc,List.append_assoc,h2,k2 _ _ hr,ztg]
theorem z3t{l r:List UInt8}(h:l≠[]):hdB (l++r)=hdB l:=by
 cases l with
 |nil=>exact absurd rfl h
 |cons a l=>rfl
theorem RdN.app{l l':List UInt8}{ts ts':List Tok}(h:RdN l ts)(hl:l'≠[])(hd:bLD (hdB l')=false)(k:RdA l' ts'):RdA (l++l') (ts++ts'):=by
 obtain⟨m,h1,h2⟩:=h
 obtain⟨m',k1,k2⟩:=k
 refine⟨m'+m,by simp;omega,fun n r=>?_⟩
 rw[← Nat.add_assoc,List.append_assoc,h2 _ _ (by rw[z3t hl];exact hd),k2,ztg]
theorem RdN.appN{l l':List UInt8}{ts ts':List Tok}(h:RdN l ts)(hl:l'≠[])(hd:bLD (hdB l')=false)(k:RdN l' ts'):RdN (l++l') (ts++ts'):=by
 obtain⟨m,h1,h2⟩:=h
 obtain⟨m',k1,k2⟩:=k
 refine⟨m'+m,by simp;omega,fun n r hr=>?_⟩
 rw[← Nat.add_assoc,List.append_assoc,h2 _ _ (by rw[z3t hl];exact hd),k2 _ _ hr,ztg]
theorem zn7{b:UInt8}(h:zho (byt b)=true):RdA [b] []:=⟨1,by simp,fun n r=>by
 show zd8 (n+1) (b::r)=_
 rw[zd8,if_pos h]
 cases zd8 n r <;> simp⟩
theorem zo3{b:UInt8}{k:Int}(hb:zho (byt b)=false)(hk:∀ c,zcl (byt b) c=k)(h0:k≠0/\k≠1/\k≠2/\k≠3/\k≠9):RdA [b] [(k,⟨#[b]⟩)]:=⟨1,by simp,fun n r=>by
 have hl:zvp (b::r) k=1:=by unfold zvp;rw[if_neg h0.2.2.2.2,if_neg (by omega),if_neg h0.2.2.2.1]
 show zd8 (n+1) (b::r)=_
 rw[zd8,hk,hb,hl]
 simp[h0.1]⟩
structure zok (x:List UInt8):Prop where
 ne:x≠[]
 six:x.length<=6
 kind:(zfp (hdB x)=true∨zt4 (hdB x)=true)/\(∀ b∈x,bLD (byt b)=true)∨zkj (hdB x)=true/\∀ b∈x,zkj (byt b)=true
theorem zf8{p:UInt8->Bool}:∀ {x r:List UInt8},(∀ b∈x,p b=true)->(∀ b l,r=b::l->p b=false)->(x++r).takeWhile p=x
 |[],[],_,_=>rfl
 |[],b::r,_,h=>by simp[h b r rfl]
 |a::x,r,hx,h=>by
  rw[List.cons_append,List.takeWhile_cons,if_pos (hx a (by simp)),zf8 (fun b hb=>hx b (by simp[hb])) h]
theorem z7g{x:List UInt8}(h:zok x):RdN x [(zcl (hdB x) (hdB x.tail),⟨x.toArray⟩)]:=⟨1,by have:=h.ne;cases x;exact absurd rfl this;simp,fun n r hr=>by
 obtain⟨hne,h6,hk⟩:=h
 cases x with
 |nil=>exact absurd rfl hne
 |cons a x =>
  have hd:hdB (a::x)=byt a:=rfl
  rw[hd] at hk ⊢
  have hdig:zkj (hdB r)=false:=by
   simp only[bLD,Bool.or_eq_false_iff] at hr
   exact hr.2
  have hstop:∀(p:Int->Bool),p (hdB r)=false->∀ b l,r=b::l->(fun b=>p (byt b)) b=false:=by
   intro p hp b l e
   subst e
   exact hp
  have hkind:∀ c d,zcl (byt a) c=zcl (byt a) d:=by
   intro c d
   unfold zcl
   rcases hk with ⟨hk|hk,_⟩|⟨hk,_⟩
   ·simp[hk]
   ·simp[hk]
   ·simp[hk]
  have hbl:zho (byt a)=false:=by
   have:bLD (byt a)=true:=by
    rcases hk with ⟨_,hk⟩|⟨hk,_⟩
    ·exact hk a (by simp)
    ·simp[bLD,hk]
   simp only[bLD,zfp,zt4,zkj,Bool.or_eq_true,Bool.and_eq_true,decide_eq_true_eq] at this
   simp only[zho,Bool.or_eq_false_iff,beq_eq_false_iff_ne]
   omega
  have hlen:∀ c,zvp (a::x++r) (zcl (byt a) c)=(a::x).length/\zcl (byt a) c≠0:=by
   intro c
   by_cases hs:zfp (byt a)=true
   ·have e:zcl (byt a) c=1:=by simp[zcl,hs]
    have hall:∀ b∈a::x,bLD (byt b)=true:=by
     rcases hk with ⟨_,hk⟩|⟨_,hk⟩
     ·exact hk
     ·intro b hb;simp[bLD,hk b hb]
    rw[e]
    refine⟨?_,by decide⟩
    unfold zvp
    rw[if_neg (by decide),if_pos (Or.inl rfl),zf8 hall (hstop bLD hr)]
   ·by_cases hc:zt4 (byt a)=true
    ·have e:zcl (byt a) c=2:=by simp[zcl,hs,hc]
     have hall:∀ b∈a::x,bLD (byt b)=true:=by
      rcases hk with ⟨_,hk⟩|⟨_,hk⟩
      ·exact hk
      ·intro b hb;simp[bLD,hk b hb]
     rw[e]
     refine⟨?_,by decide⟩
     unfold zvp
     rw[if_neg (by decide),if_pos (Or.inr rfl),zf8 hall (hstop bLD hr)]
    ·rcases hk with ⟨hk|hk,_⟩|⟨hk,hall⟩
     ·exact absurd hk hs
     ·exact absurd hk hc
     ·have e:zcl (byt a) c=3:=by simp[zcl,hs,hc,hk]
      rw[e]
      refine⟨?_,by decide⟩
      unfold zvp
      rw[if_neg (by decide),if_neg (by decide),if_pos rfl,zf8 hall (hstop zkj hdig)]
  show zd8 (n+1) (a::(x++r))=_
  rw[zd8,hbl,hkind (hdB (x++r)) (hdB x)]
  obtain⟨l1,l2⟩:=hlen (hdB x)
  rw[List.cons_append] at l1
  rw[l1]
  have e1:(a::(x++r)).drop (a::x).length=r:=by rw[← List.cons_append];simp
  have e2:(a::(x++r)).take (a::x).length=a::x:=by rw[← List.cons_append];simp
  rw[e1,e2,if_neg (by simp),if_neg l2,if_neg (by omega)]
  rfl⟩
end Go.Proofs.YteampbddflhngaaGreat
